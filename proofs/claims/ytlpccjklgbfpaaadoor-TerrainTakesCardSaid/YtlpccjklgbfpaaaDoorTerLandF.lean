/-
  What the functions of terrain answer, as landed at 6373918: open positions, joined ones.
-/
import Derived.Test.YtlpccjklgbfpaaaDoorTerLandE
import Derived.Test.YtlpccjklgbfpaaaDoorTerF
namespace Go.Proofs.YtlpccjklgbfpaaaDoor
open Go.RowKit Go.Lib

set_option maxHeartbeats 2000000 in
theorem dopen_b (m : M3) (s : Value) (bl : List Bool) (l : Value) (c x y : Int) (b : Bool) (W : World) (hE : EnvT W) (hr : RowAt W s m.cs) (hl : BitsAt W l bl) (e : Hid (b = openv m bl c x y)) :
    Calls Tryd.prog 63 #[.agg #[.int .i64 m.w, .int .i64 m.h, s], l, .int .i64 c, .agg #[.int .i64 x, .int .i64 y]] W fun e w' => e = .returned (.bool b) ∧ Below W.heap.size W w' := by
  obtain ⟨i, hi⟩ : ∃ i, Hid (i = passv m c x y) := ⟨_, hid rfl⟩
  have hb : b = (i && (decide (c = 3) || !(bl.getD (indexv m.w x y).toNat false))) := by rw [e.out, hi.out]; rfl
  clear e
  have hT := Held2.start W [.int .i64 m.w, .int .i64 m.h, s] [.int .i64 x, .int .i64 y] 24 26
  have hr' := hr.below hT.old
  cases i with
  | false =>
    subst hb
    go_enter Tryd.func63, Tryd.ntmps63
    go_wp2_with fail
    ((with_reducible refine (dpass_b m s c x y false _ (hE.keep hT.old) hr' hi).mono ?_); rintro e w1 ⟨rfl, hb1⟩)
    go_wp2_with fail
    go_ret
    exact ⟨rfl, hT.old.trans (hb1.mono hT.old.size)⟩
  | true =>
    obtain ⟨n, hlt, hix, -⟩ := get_at (pass_inside hi.out.symm)
    rw [← hix.out, Int.toNat_natCast, Bool.true_and] at hb
    have hm := hr.choose_spec.choose_spec.2.1
    have hl' := (hl.below hT.old)
    obtain ⟨p, k, rfl, hk, -⟩ := id hl
    go_enter Tryd.func63, Tryd.ntmps63
    go_wp2_with fail
    ((with_reducible refine (dpass_b m s c x y true _ (hE.keep hT.old) hr' hi).mono ?_); rintro e w1 ⟨rfl, hb1⟩)
    have hT1 := hT.call hb1
    replace hl' := hl'.below hb1
    obtain ⟨_, _, _, _, _, _⟩ := hT1.l.three
    obtain ⟨_, _, _, _⟩ := hT1.r.two
    go_wp2_with fail
    ((with_reducible refine (dindex_b _ x y n _ hix).mono ?_); rintro e w2 ⟨rfl, hb2⟩)
    have hT2 := hT1.call hb2
    replace hl' := hl'.below hb2
    unfold maxLen at hm hk
    by_cases c3 : c = 3
    · subst c3
      go_wp2_with fail
      go_ret
      exact ⟨ret_bit (by rw [hb]; rfl), hT2.old⟩
    · have z3 : (c == 3) = false := beq_eq_false_iff_ne.2 c3
      rw [decide_eq_false c3, Bool.false_or] at hb
      by_cases hnl : n < bl.length
      · obtain ⟨p', k', e', -, hc⟩ := hl'
        obtain ⟨g, o, rfl, hat⟩ := hc (by omega)
        obtain ⟨rfl, -, rfl⟩ : p = some ⟨g, o, none⟩ ∧ True ∧ k = k' := by injection e' with e1 _ e2; exact ⟨e1, trivial, e2⟩
        have h1 := hat n hnl
        obtain ⟨v, hv⟩ : ∃ v, v = bl[n]'hnl := ⟨_, rfl⟩
        rw [← hv] at h1
        have hb' : b = !v := by rw [hb, hv, List.getD_eq_getElem?_getD, List.getElem?_eq_getElem hnl]; rfl
        have g1 : decide ((bl.length : Int) ≤ (n : Int)) = false := decide_eq_false (by omega)
        have n1 : (0 : Int) ≤ n := by omega
        have n2 : (n : Int) < bl.length := by omega
        clear hat hc hb
        go_wp2_with fail
        go_ret
        exact ⟨ret_bit (by rw [hb', hv, decide_eq_false (by omega), Bool.false_or]), hT2.old⟩
      · have hb' : b = true := by rw [hb, List.getD_eq_getElem?_getD, List.getElem?_eq_none (by omega)]; rfl
        have g1 : decide ((bl.length : Int) ≤ (n : Int)) = true := decide_eq_true (by omega)
        go_wp2_with fail
        go_ret
        exact ⟨ret_bit hb'.symm, hT2.old⟩

theorem rise_low (a b : Int) : decide (max a b - min a b ≤ 1) = decide (risev a b < 2) := by
  refine decide_eq_decide.2 ?_
  unfold risev
  split
  · omega
  · split <;> omega
theorem rise_pos (a b : Int) : decide (0 < max a b - min a b) = decide (risev a b ≠ 0) := by
  refine decide_eq_decide.2 ?_
  unfold risev
  split
  · omega
  · split <;> omega

set_option maxHeartbeats 2000000 in
theorem djoin_b (m : M3) (s : Value) (bl : List Bool) (l : Value) (c x y u v : Int) (b : Bool) (W : World) (hE : EnvT W) (hh : HighAt m) (hr : RowAt W s m.cs) (hl : BitsAt W l bl) (e : Hid (b = nearv m bl c x y u v)) :
    Calls Tryd.prog 44 #[.agg #[.int .i64 m.w, .int .i64 m.h, s], l, .int .i64 c, .agg #[.int .i64 x, .int .i64 y], .agg #[.int .i64 u, .int .i64 v]] W fun e w' => e = .returned (.bool b) ∧ Below W.heap.size W w' := by
  obtain ⟨o1, h1⟩ : ∃ i, Hid (i = openv m bl c x y) := ⟨_, hid rfl⟩
  obtain ⟨o2, h2⟩ : ∃ i, Hid (i = openv m bl c u v) := ⟨_, hid rfl⟩
  obtain ⟨q1, hq1⟩ : ∃ q, Hid (q = getv m x y) := ⟨_, hid rfl⟩
  obtain ⟨q2, hq2⟩ : ∃ q, Hid (q = getv m u v) := ⟨_, hid rfl⟩
  have k1 : I64 q1.h := by rw [hq1.out]; exact hh.get x y
  have k2 : I64 q2.h := by rw [hq2.out]; exact hh.get u v
  have hb : b = (o1 && o2 && (decide (c = 3) || decide (max q1.h q2.h - min q1.h q2.h ≤ 1))) := by rw [e.out, rise_low, h1.out, h2.out, hq1.out, hq2.out]; rfl
  clear e
  have hK := (((Keep.nil W).alloc [.int .i64 m.w, .int .i64 m.h, s] 24).alloc [.int .i64 x, .int .i64 y] 26).alloc [.int .i64 u, .int .i64 v] 26
  have hr' := hr.below hK.old
  have hl' := hl.below hK.old
  simp only [World.size_alloc] at hK
  go_enter Tryd.func44, Tryd.ntmps44
  cases o1 with
  | false =>
    subst hb
    go_wp2_with fail
    ((with_reducible refine (dopen_b m s bl l c x y false _ (hE.keep hK.old) hr' hl' h1).mono ?_); rintro e w1 ⟨rfl, hb1⟩)
    replace hK := hK.call hb1
    go_wp2_with fail
    go_ret
    exact ⟨rfl, hK.old⟩
  | true =>
    go_wp2_with fail
    ((with_reducible refine (dopen_b m s bl l c x y true _ (hE.keep hK.old) hr' hl' h1).mono ?_); rintro e w1 ⟨rfl, hb1⟩)
    replace hK := hK.call hb1
    replace hr' := hr'.below hb1
    replace hl' := hl'.below hb1
    obtain ⟨hU, hP, hM⟩ := hK.three
    obtain ⟨_, _, _, _, _, _⟩ := hM.three
    obtain ⟨_, _, _, _⟩ := hP.two
    obtain ⟨_, _, _, _⟩ := hU.two
    cases o2 with
    | false =>
      subst hb
      go_wp2_with fail
      ((with_reducible refine (dopen_b m s bl l c u v false _ (hE.keep hK.old) hr' hl' h2).mono ?_); rintro e w2 ⟨rfl, hb2⟩)
      replace hK := hK.call hb2
      go_wp2_with fail
      go_ret
      exact ⟨rfl, hK.old⟩
    | true =>
      go_wp2_with fail
      ((with_reducible refine (dopen_b m s bl l c u v true _ (hE.keep hK.old) hr' hl' h2).mono ?_); rintro e w2 ⟨rfl, hb2⟩)
      replace hK := hK.call hb2
      replace hr' := hr'.below hb2
      clear hl' hl h1 h2
      obtain ⟨hU, hP, hM⟩ := hK.three
      obtain ⟨_, _, _, _, _, _⟩ := hM.three
      obtain ⟨_, _, _, _⟩ := hP.two
      obtain ⟨_, _, _, _⟩ := hU.two
      by_cases c3 : c = 3
      · have z3 : (c == 3) = true := by rw [c3]; rfl
        go_wp2_with fail
        go_ret
        exact ⟨ret_bit (by rw [hb, decide_eq_true c3]; rfl), hK.old⟩
      · have z3 : (c == 3) = false := beq_eq_false_iff_ne.2 c3
        go_wp2_with fail
        ((with_reducible refine (drise_b m s x y u v q1 q2 _ hr' k1 k2 hq1 hq2).mono ?_); rintro e w3 ⟨n, rfl, hn, hb3⟩)
        replace hK := hK.call hb3
        go_wp2_with fail
        go_ret
        exact ⟨ret_bit (by rw [hb, decide_eq_false c3, ← hn.out]; rfl), hK.old⟩

end Go.Proofs.YtlpccjklgbfpaaaDoor
