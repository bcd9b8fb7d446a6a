/-
  What the reference of terrain answers: steps.
-/
import Derived.Test.YtoodnblhjopnlaaDoorTerRefA
namespace Go.Proofs.YtoodnblhjopnlaaDoor

section
open Go.RowKit Go.Lib

/-- A slice of bools that can be read. -/
def BitsAt (W : World) (s : Value) (bl : List Bool) : Prop :=
  ∃ p c, s = .slice p bl.length c ∧ bl.length ≤ maxLen ∧ (1 ≤ bl.length → ∃ g o, p = some ⟨g, o, none⟩ ∧ ∀ i, (h : i < bl.length) → W.cell? ⟨g, o + i, none⟩ = some (.bool (bl[i]'h)))
theorem BitsAt.below {W w' : World} {s : Value} {bl : List Bool} (h : BitsAt W s bl) (hb : Below W.heap.size W w') : BitsAt w' s bl := by
  obtain ⟨p, c, rfl, hm, hc⟩ := h
  refine ⟨p, c, rfl, hm, fun h1 => ?_⟩
  obtain ⟨g, o, rfl, hi⟩ := hc h1
  refine ⟨g, o, rfl, fun i hi' => ?_⟩
  have a := hi i hi'
  exact (hb.cell (p := ⟨g, o + i, none⟩) (World.block_lt_of_cell? W _ a)).trans a
theorem pass_inside {m : M3} {c x y : Int} (h : passv m c x y = true) : insidev m x y = true := by
  cases hi : insidev m x y with
  | true => rfl
  | false => unfold passv at h; rw [hi] at h; simp at h

set_option maxHeartbeats 2000000 in
theorem ropen_b (m : M3) (s : Value) (bl : List Bool) (l : Value) (c x y : Int) (b : Bool) (W : World) (hr : RowAt W s m.cs) (hl : BitsAt W l bl) (e : Hid (b = openv m bl c x y)) :
    Calls Tryd.prog 27 #[.agg #[.int .i64 m.w, .int .i64 m.h, s], l, .int .i64 c, .agg #[.int .i64 x, .int .i64 y]] W fun e w' => e = .returned (.bool b) ∧ Below W.heap.size W w' := by
  obtain ⟨i, hi⟩ : ∃ i, Hid (i = passv m c x y) := ⟨_, hid rfl⟩
  have hb : b = (i && (decide (c = 3) || !(bl.getD (indexv m.w x y).toNat false))) := by rw [e.out, hi.out]; rfl
  clear e
  have hT := Held2.start W [.int .i64 m.w, .int .i64 m.h, s] [.int .i64 x, .int .i64 y] 24 42
  have hr' := hr.below hT.old
  cases i with
  | false =>
    subst hb
    go_enter Tryd.func27, Tryd.ntmps27
    go_wp2_with fail
    ((with_reducible refine (rpass_b m s c x y false _ hr' hi).mono ?_); rintro e w1 ⟨rfl, hb1⟩)
    go_wp2_with fail
    go_ret
    exact ⟨rfl, hT.old.trans (hb1.mono hT.old.size)⟩
  | true =>
    obtain ⟨n, hlt, hix, -⟩ := get_at (pass_inside hi.out.symm)
    rw [← hix.out, Int.toNat_natCast, Bool.true_and] at hb
    have hm := hr.choose_spec.choose_spec.2.1
    have hl' := (hl.below hT.old)
    obtain ⟨p, k, rfl, hk, -⟩ := id hl
    go_enter Tryd.func27, Tryd.ntmps27
    go_wp2_with fail
    ((with_reducible refine (rpass_b m s c x y true _ hr' hi).mono ?_); rintro e w1 ⟨rfl, hb1⟩)
    have hT1 := hT.call hb1
    replace hl' := hl'.below hb1
    obtain ⟨_, _, _, _, _, _⟩ := hT1.l.three
    obtain ⟨_, _, _, _⟩ := hT1.r.two
    go_wp2_with fail
    ((with_reducible refine (rindex_b _ x y n _ hix).mono ?_); rintro e w2 ⟨rfl, hb2⟩)
    have hT2 := hT1.call hb2
    replace hl' := hl'.below hb2
    unfold maxLen at hm hk
    by_cases c3 : c = 3
    · subst c3
      go_wp2_with fail
      go_ret
      exact ⟨ret_bit (by rw [hb]; rfl), hT2.old⟩
    · have z3 : (c == 3) = false := beq_eq_false_iff_ne.2 c3
      rw [decide_eq_false c3, Bool.false_or] at hb
      by_cases hnl : n < bl.length
      · obtain ⟨p', k', e', -, hc⟩ := hl'
        obtain ⟨g, o, rfl, hat⟩ := hc (by omega)
        obtain ⟨rfl, -, rfl⟩ : p = some ⟨g, o, none⟩ ∧ True ∧ k = k' := by injection e' with e1 _ e2; exact ⟨e1, trivial, e2⟩
        have h1 := hat n hnl
        obtain ⟨v, hv⟩ : ∃ v, v = bl[n]'hnl := ⟨_, rfl⟩
        rw [← hv] at h1
        have hb' : b = !v := by rw [hb, hv, List.getD_eq_getElem?_getD, List.getElem?_eq_getElem hnl]; rfl
        have g1 : decide ((bl.length : Int) ≤ (n : Int)) = false := decide_eq_false (by omega)
        have n1 : (0 : Int) ≤ n := by omega
        have n2 : (n : Int) < bl.length := by omega
        clear hat hc hb
        go_wp2_with fail
        go_ret
        exact ⟨ret_bit (by rw [hb', hv, decide_eq_false (by omega), Bool.false_or]), hT2.old⟩
      · have hb' : b = true := by rw [hb, List.getD_eq_getElem?_getD, List.getElem?_eq_none (by omega)]; rfl
        have g1 : decide ((bl.length : Int) ≤ (n : Int)) = true := decide_eq_true (by omega)
        go_wp2_with fail
        go_ret
        exact ⟨ret_bit hb'.symm, hT2.old⟩

end

section
open Go.RowKit Go.Lib

/-- The heights of a map are numbers of 64 bits. -/
def HighAt (m : M3) : Prop := ∀ c ∈ m.cs, I64 c.h
theorem HighAt.get {m : M3} (h : HighAt m) (x y : Int) : I64 (getv m x y).h := by
  unfold getv
  split
  · next hi =>
    obtain ⟨n, hn, _, e⟩ := get_at hi
    unfold getv at e
    rw [if_pos hi] at e
    rw [e]
    exact h _ (List.getElem_mem hn)
  · exact ⟨by decide, by decide⟩

end

section
open Go.RowKit Go.Lib

theorem rstepq_b (x y d qx qy : Int) (W : World) (e : Hid (qx = stx x d)) (e' : Hid (qy = sty y d)) : Calls Tryd.prog 47 #[.agg #[.int .i64 x, .int .i64 y], .int .i64 d] W fun e w' => e = .returned (.agg #[.int .i64 qx, .int .i64 qy]) ∧ Below W.heap.size W w' := by
  rw [e.out, e'.out]; exact rstep_any x y d W

end

end Go.Proofs.YtoodnblhjopnlaaDoor
