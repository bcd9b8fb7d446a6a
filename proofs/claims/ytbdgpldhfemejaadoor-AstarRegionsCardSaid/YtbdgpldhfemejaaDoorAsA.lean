/-
  astar as landed at 35fbd81: grounds: valid ones, what is inside, a cell's number, what is free.
-/
import Derived.Test.YtbdgpldhfemejaaDoorAsMath
import Derived.Test.YtbdgpldhfemejaaDoorTerLandQ
import Derived.Test.YtbdgpldhfemejaaDoorAny
import Derived.Deep.Cut
namespace Go.Proofs.YtbdgpldhfemejaaDoor
open Go.RowKit Go.Lib

/-- A ground, as its cells. -/
abbrev grdL (m : M3) (s l : Value) (c : Int) : List Value := [.int .i64 m.w, .int .i64 m.h, s, l, .int .i64 c]
abbrev ptL (p : Pt) : List Value := [.int .i64 p.1, .int .i64 p.2]
def classv (c : Int) : Bool := decide (c = 1 ∨ c = 2 ∨ c = 3)
/-- What a ground's memory holds. -/
structure Gd (W : World) (m : M3) (s : Value) (bl : List Bool) (l : Value) : Prop where
  env : EnvT W
  high : HighAt m
  row : RowAt W s m.cs
  bits : BitsAt W l bl
theorem Gd.below {W w' : World} {m : M3} {s : Value} {bl : List Bool} {l : Value} (h : Gd W m s bl l) (hb : Below W.heap.size W w') : Gd w' m s bl l :=
  ⟨h.env.keep hb, h.high, h.row.below hb, h.bits.below hb⟩

set_option maxHeartbeats 2000000 in
theorem asvalid_b (m : M3) (s l : Value) (c : Int) (b : Bool) (W : World) (hr : RowAt W s m.cs) (e : Hid (b = (validm m && classv c))) :
    Calls Tryd.prog 23 #[.agg #[.int .i64 m.w, .int .i64 m.h, s, l, .int .i64 c]] W fun e w' => e = .returned (.bool b) ∧ Below W.heap.size W w' := by
  obtain ⟨g, hg⟩ : ∃ g, Hid (g = validm m) := ⟨_, hid rfl⟩
  have hb := e.out
  rw [← hg.out] at hb
  clear e
  have hK := Held1.start W [.int .i64 m.w, .int .i64 m.h, s, l, .int .i64 c] 46
  have hr' := hr.below hK.old
  cases g with
  | false =>
    rw [Bool.false_and] at hb
    subst hb
    go_enter Tryd.func23, Tryd.ntmps23
    go_wp2_with fail
    ((with_reducible refine (dvalidm_b m s false _ hr' hg).mono ?_); rintro e w1 ⟨rfl, hb1⟩)
    go_wp2_with fail
    go_ret
    exact ⟨rfl, below_call hK.old hb1⟩
  | true =>
    rw [Bool.true_and] at hb
    go_enter Tryd.func23, Tryd.ntmps23
    go_wp2_with fail
    ((with_reducible refine (dvalidm_b m s true _ hr' hg).mono ?_); rintro e w1 ⟨rfl, hb1⟩)
    have hK1 := hK.call hb1
    have u := hK1.l.cell 4
    clear hg hr' hb1
    by_cases c1 : c = 1
    · subst c1
      obtain rfl : b = true := hb
      go_wp2_with fail
      go_ret
      exact ⟨rfl, hK1.old⟩
    · have z1 : (c == 1) = false := beq_eq_false_iff_ne.2 c1
      by_cases c2 : c = 2
      · subst c2
        obtain rfl : b = true := hb
        go_wp2_with fail
        go_ret
        exact ⟨rfl, hK1.old⟩
      · have z2 : (c == 2) = false := beq_eq_false_iff_ne.2 c2
        have hb' : b = (c == 3) := by
          rw [hb]; unfold classv
          by_cases c3 : c = 3
          · subst c3; rfl
          · rw [beq_eq_false_iff_ne.2 c3]; exact decide_eq_false (by omega)
        subst hb'
        clear hb
        go_wp2_with fail
        go_ret
        exact ⟨rfl, hK1.old⟩

set_option maxHeartbeats 1000000 in
theorem asinside_b (m : M3) (s l : Value) (c x y : Int) (b : Bool) (W : World) (e : Hid (b = insp m (x, y))) :
    Calls Tryd.prog 24 #[.agg #[.int .i64 m.w, .int .i64 m.h, s, l, .int .i64 c], .agg #[.int .i64 x, .int .i64 y]] W fun e w' => e = .returned (.bool b) ∧ Below W.heap.size W w' := by
  have hT := Held2.start W [.int .i64 m.w, .int .i64 m.h, s, l, .int .i64 c] [.int .i64 x, .int .i64 y] 46 27
  have e2 : Hid (b = inv m.w m.h x y) := e
  clear e
  go_enter Tryd.func24, Tryd.ntmps24
  go_wp2_with fail
  ((with_reducible refine (din_b m.w m.h x y b _ e2).mono ?_); rintro e w1 ⟨rfl, hb1⟩)
  go_wp2_with fail
  go_ret
  exact ⟨rfl, below_call hT.old hb1⟩

set_option maxHeartbeats 1000000 in
theorem asindex_b (m : M3) (s l : Value) (c x y n : Int) (W : World) (e : Hid (n = indexv m.w x y)) :
    Calls Tryd.prog 27 #[.agg #[.int .i64 m.w, .int .i64 m.h, s, l, .int .i64 c], .agg #[.int .i64 x, .int .i64 y]] W fun e w' => e = .returned (.int .i64 n) ∧ Below W.heap.size W w' := by
  have hT := Held2.start W [.int .i64 m.w, .int .i64 m.h, s, l, .int .i64 c] [.int .i64 x, .int .i64 y] 46 27
  go_enter Tryd.func27, Tryd.ntmps27
  go_wp2_with fail
  ((with_reducible refine (dindex_b m.w x y n _ e).mono ?_); rintro e w1 ⟨rfl, hb1⟩)
  go_wp2_with fail
  go_ret
  exact ⟨rfl, below_call hT.old hb1⟩
/-- The number of a position inside. -/
theorem asidx_b (m : M3) (s l : Value) (c : Int) (p : Pt) (n : Nat) (W : World) (hf : formedv m = true) (hp : insp m p = true) (e : Hid (n = idx m p)) :
    Calls Tryd.prog 27 #[.agg #[.int .i64 m.w, .int .i64 m.h, s, l, .int .i64 c], .agg #[.int .i64 p.1, .int .i64 p.2]] W fun e w' => e = .returned (.int .i64 n) ∧ Below W.heap.size W w' :=
  asindex_b m s l c p.1 p.2 n W (hid (by rw [e.out, (posn_idx hf hp).2.2]))

set_option maxHeartbeats 2000000 in
theorem asfree_b (m : M3) (s : Value) (bl : List Bool) (l : Value) (c x y : Int) (b : Bool) (W : World) (hG : Gd W m s bl l) (e : Hid (b = openv m bl c x y)) :
    Calls Tryd.prog 25 #[.agg #[.int .i64 m.w, .int .i64 m.h, s, l, .int .i64 c], .agg #[.int .i64 x, .int .i64 y]] W fun e w' => e = .returned (.bool b) ∧ Below W.heap.size W w' := by
  obtain ⟨hE, -, hr, hl⟩ := hG
  obtain ⟨i, hi⟩ : ∃ i, Hid (i = passv m c x y) := ⟨_, hid rfl⟩
  have hb : b = (i && (decide (c = 3) || !(bl.getD (indexv m.w x y).toNat false))) := by rw [e.out, hi.out]; rfl
  clear e
  have hT := Held2.start W [.int .i64 m.w, .int .i64 m.h, s, l, .int .i64 c] [.int .i64 x, .int .i64 y] 46 27
  have hr' := hr.below hT.old
  cases i with
  | false =>
    subst hb
    go_enter Tryd.func25, Tryd.ntmps25
    go_wp2_with fail
    ((with_reducible refine (dpass_b m s c x y false _ (hE.p.keep hT.old) hr' hi).mono ?_); rintro e w1 ⟨rfl, hb1⟩)
    go_wp2_with fail
    go_ret
    exact ⟨rfl, hT.old.trans (hb1.mono hT.old.size)⟩
  | true =>
    obtain ⟨n, hlt, hix, -⟩ := get_at (pass_inside hi.out.symm)
    rw [← hix.out, Int.toNat_natCast, Bool.true_and] at hb
    have hm := hr.choose_spec.choose_spec.2.1
    have hl' := (hl.below hT.old)
    obtain ⟨p, k, rfl, hk, -⟩ := id hl
    go_enter Tryd.func25, Tryd.ntmps25
    go_wp2_with fail
    ((with_reducible refine (dpass_b m s c x y true _ (hE.p.keep hT.old) hr' hi).mono ?_); rintro e w1 ⟨rfl, hb1⟩)
    have hT1 := hT.call hb1
    replace hl' := hl'.below hb1
    have u0 := hT1.l.cell 0
    have u1 := hT1.l.cell 1
    have u2 := hT1.l.cell 2
    have u3 := hT1.l.cell 3
    have u4 := hT1.l.cell 4
    obtain ⟨_, _, _, _⟩ := hT1.r.two
    go_wp2_with fail
    ((with_reducible refine (asindex_b m s _ c x y n _ hix).mono ?_); rintro e w2 ⟨rfl, hb2⟩)
    have hT2 := hT1.call hb2
    replace hl' := hl'.below hb2
    clear u0 u1 u2 u3 u4
    have u3 := hT2.l.cell 3
    have u4 := hT2.l.cell 4
    unfold maxLen at hm hk
    by_cases c3 : c = 3
    · subst c3
      go_wp2_with fail
      go_ret
      exact ⟨ret_bit (by rw [hb]; rfl), hT2.old⟩
    · have z3 : (c == 3) = false := beq_eq_false_iff_ne.2 c3
      rw [decide_eq_false c3, Bool.false_or] at hb
      by_cases hnl : n < bl.length
      · obtain ⟨p', k', e', -, hc⟩ := hl'
        obtain ⟨g, o, rfl, hat⟩ := hc (by omega)
        obtain ⟨rfl, -, rfl⟩ : p = some ⟨g, o, none⟩ ∧ True ∧ k = k' := by injection e' with e1 _ e2; exact ⟨e1, trivial, e2⟩
        have h1 := hat n hnl
        obtain ⟨v, hv⟩ : ∃ v, v = bl[n]'hnl := ⟨_, rfl⟩
        rw [← hv] at h1
        have hb' : b = !v := by rw [hb, hv, List.getD_eq_getElem?_getD, List.getElem?_eq_getElem hnl]; rfl
        have g1 : decide ((bl.length : Int) ≤ (n : Int)) = false := decide_eq_false (by omega)
        have n1 : (0 : Int) ≤ n := by omega
        have n2 : (n : Int) < bl.length := by omega
        clear hat hc hb
        go_wp2_with fail
        go_ret
        exact ⟨ret_bit (by rw [hb', hv, decide_eq_false (by omega), Bool.false_or]), hT2.old⟩
      · have hb' : b = true := by rw [hb, List.getD_eq_getElem?_getD, List.getElem?_eq_none (by omega)]; rfl
        have g1 : decide ((bl.length : Int) ≤ (n : Int)) = true := decide_eq_true (by omega)
        go_wp2_with fail
        go_ret
        exact ⟨ret_bit hb'.symm, hT2.old⟩

set_option maxHeartbeats 1000000 in
/-- The iterator's value: a closure over the ground and the position. -/
theorem assteps_b (m : M3) (s l : Value) (c x y : Int) (W : World) :
    Calls Tryd.prog 60 #[.agg #[.int .i64 m.w, .int .i64 m.h, s, l, .int .i64 c], .agg #[.int .i64 x, .int .i64 y]] W fun e w' =>
      e = .returned (.func (.func 77) #[] #[.pointer (some ⟨W.heap.size, 0, none⟩), .pointer (some ⟨W.heap.size + 1, 0, none⟩)]) ∧
      w' = (W.alloc (.cells [.int .i64 m.w, .int .i64 m.h, s, l, .int .i64 c].toArray 46)).alloc (.cells [.int .i64 x, .int .i64 y].toArray 27) := by
  have hmf : ∀ (fn : Fn) (first cap : Array Value) (w : World), (Instr.makeFunc fn first cap).run Tryd.prog w = .ok (.func fn first cap) w := fun _ _ _ _ => rfl
  go_enter Tryd.func60, Tryd.ntmps60
  go_wp2_with fail
  go_ret
  exact ⟨rfl, rfl⟩

end Go.Proofs.YtbdgpldhfemejaaDoor
