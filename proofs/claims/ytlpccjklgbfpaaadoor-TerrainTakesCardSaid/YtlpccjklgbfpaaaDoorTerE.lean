/-
  What the reference of terrain answers: open positions, the rise between two cells.
-/
import Derived.Test.YtlpccjklgbfpaaaDoorTerD
namespace Go.Proofs.YtlpccjklgbfpaaaDoor
open Go.RowKit Go.Lib

/-- A slice of bools that can be read. -/
def BitsAt (W : World) (s : Value) (bl : List Bool) : Prop :=
  ∃ p c, s = .slice p bl.length c ∧ bl.length ≤ maxLen ∧ (1 ≤ bl.length → ∃ g o, p = some ⟨g, o, none⟩ ∧ ∀ i, (h : i < bl.length) → W.cell? ⟨g, o + i, none⟩ = some (.bool (bl[i]'h)))
theorem BitsAt.below {W w' : World} {s : Value} {bl : List Bool} (h : BitsAt W s bl) (hb : Below W.heap.size W w') : BitsAt w' s bl := by
  obtain ⟨p, c, rfl, hm, hc⟩ := h
  refine ⟨p, c, rfl, hm, fun h1 => ?_⟩
  obtain ⟨g, o, rfl, hi⟩ := hc h1
  refine ⟨g, o, rfl, fun i hi' => ?_⟩
  have a := hi i hi'
  exact (hb.cell (p := ⟨g, o + i, none⟩) (World.block_lt_of_cell? W _ a)).trans a
theorem pass_inside {m : M3} {c x y : Int} (h : passv m c x y = true) : insidev m x y = true := by
  cases hi : insidev m x y with
  | true => rfl
  | false => unfold passv at h; rw [hi] at h; simp at h

set_option maxHeartbeats 2000000 in
theorem ropen_b (m : M3) (s : Value) (bl : List Bool) (l : Value) (c x y : Int) (b : Bool) (W : World) (hr : RowAt W s m.cs) (hl : BitsAt W l bl) (e : Hid (b = openv m bl c x y)) :
    Calls Tryd.prog 65 #[.agg #[.int .i64 m.w, .int .i64 m.h, s], l, .int .i64 c, .agg #[.int .i64 x, .int .i64 y]] W fun e w' => e = .returned (.bool b) ∧ Below W.heap.size W w' := by
  obtain ⟨i, hi⟩ : ∃ i, Hid (i = passv m c x y) := ⟨_, hid rfl⟩
  have hb : b = (i && (decide (c = 3) || !(bl.getD (indexv m.w x y).toNat false))) := by rw [e.out, hi.out]; rfl
  clear e
  have hT := Held2.start W [.int .i64 m.w, .int .i64 m.h, s] [.int .i64 x, .int .i64 y] 24 26
  have hr' := hr.below hT.old
  cases i with
  | false =>
    subst hb
    go_enter Tryd.func65, Tryd.ntmps65
    go_wp2_with fail
    ((with_reducible refine (rpass_b m s c x y false _ hr' hi).mono ?_); rintro e w1 ⟨rfl, hb1⟩)
    go_wp2_with fail
    go_ret
    exact ⟨rfl, hT.old.trans (hb1.mono hT.old.size)⟩
  | true =>
    obtain ⟨n, hlt, hix, -⟩ := get_at (pass_inside hi.out.symm)
    rw [← hix.out, Int.toNat_natCast, Bool.true_and] at hb
    have hm := hr.choose_spec.choose_spec.2.1
    have hl' := (hl.below hT.old)
    obtain ⟨p, k, rfl, hk, -⟩ := id hl
    go_enter Tryd.func65, Tryd.ntmps65
    go_wp2_with fail
    ((with_reducible refine (rpass_b m s c x y true _ hr' hi).mono ?_); rintro e w1 ⟨rfl, hb1⟩)
    have hT1 := hT.call hb1
    replace hl' := hl'.below hb1
    obtain ⟨_, _, _, _, _, _⟩ := hT1.l.three
    obtain ⟨_, _, _, _⟩ := hT1.r.two
    go_wp2_with fail
    ((with_reducible refine (rindex_b _ x y n _ hix).mono ?_); rintro e w2 ⟨rfl, hb2⟩)
    have hT2 := hT1.call hb2
    replace hl' := hl'.below hb2
    unfold maxLen at hm hk
    by_cases c3 : c = 3
    · subst c3
      go_wp2_with fail
      go_ret
      exact ⟨ret_bit (by rw [hb]; rfl), hT2.old⟩
    · have z3 : (c == 3) = false := beq_eq_false_iff_ne.2 c3
      rw [decide_eq_false c3, Bool.false_or] at hb
      by_cases hnl : n < bl.length
      · obtain ⟨p', k', e', -, hc⟩ := hl'
        obtain ⟨g, o, rfl, hat⟩ := hc (by omega)
        obtain ⟨rfl, -, rfl⟩ : p = some ⟨g, o, none⟩ ∧ True ∧ k = k' := by injection e' with e1 _ e2; exact ⟨e1, trivial, e2⟩
        have h1 := hat n hnl
        obtain ⟨v, hv⟩ : ∃ v, v = bl[n]'hnl := ⟨_, rfl⟩
        rw [← hv] at h1
        have hb' : b = !v := by rw [hb, hv, List.getD_eq_getElem?_getD, List.getElem?_eq_getElem hnl]; rfl
        have g1 : decide ((bl.length : Int) ≤ (n : Int)) = false := decide_eq_false (by omega)
        have n1 : (0 : Int) ≤ n := by omega
        have n2 : (n : Int) < bl.length := by omega
        clear hat hc hb
        go_wp2_with fail
        go_ret
        exact ⟨ret_bit (by rw [hb', hv, decide_eq_false (by omega), Bool.false_or]), hT2.old⟩
      · have hb' : b = true := by rw [hb, List.getD_eq_getElem?_getD, List.getElem?_eq_none (by omega)]; rfl
        have g1 : decide ((bl.length : Int) ≤ (n : Int)) = true := decide_eq_true (by omega)
        go_wp2_with fail
        go_ret
        exact ⟨ret_bit hb'.symm, hT2.old⟩

set_option maxHeartbeats 1000000 in
theorem rrise_any (k h a k' h' a' n : Int) (W : World) (h0 : I64 h) (h1 : I64 h') (e : Hid (n = risev h h')) :
    Calls Tryd.prog 49 #[.agg #[.int .i64 k, .int .i64 h, .int .i64 a], .agg #[.int .i64 k', .int .i64 h', .int .i64 a']] W fun e w' => e = .returned (.int .i64 n) ∧ Below W.heap.size W w' := by
  have hT := Held2.start W [.int .i64 k, .int .i64 h, .int .i64 a] [.int .i64 k', .int .i64 h', .int .i64 a'] 28 28
  have e := e.out
  unfold risev at e
  obtain ⟨_, _, _, _, _, _⟩ := hT.l.three
  obtain ⟨_, _, _, _, _, _⟩ := hT.r.three
  go_enter Tryd.func49, Tryd.ntmps49
  go_wp2_with fail
  go_region
  have hL := hT.old.drew
  by_cases c0 : max h h' = min h h'
  · have z0 : (max h h' == min h h') = true := beq_iff_eq.2 c0
    rw [if_pos c0] at e
    go_wp2_with fail
    go_ret
    exact ⟨by rw [e]; rfl, hL⟩
  · have z0 : (max h h' == min h h') = false := beq_eq_false_iff_ne.2 c0
    rw [if_neg c0] at e
    unfold I64 at h0 h1
    have hw : IntKind.i64.wrap (max h h' - 1) = max h h' - 1 := IntWalk.i64_in _ (by omega)
    by_cases c1 : max h h' - 1 = min h h'
    · have z1 : (max h h' - 1 == min h h') = true := beq_iff_eq.2 c1
      rw [if_pos c1] at e
      go_wp2_with fail
      go_ret
      exact ⟨by rw [e]; rfl, hL⟩
    · have z1 : (max h h' - 1 == min h h') = false := beq_eq_false_iff_ne.2 c1
      rw [if_neg c1] at e
      go_wp2_with fail
      go_ret
      exact ⟨by rw [e]; rfl, hL⟩

end Go.Proofs.YtlpccjklgbfpaaaDoor
