/-
  What the functions of terrain answer, as landed at 6373918: costs, steps.
-/
import Derived.Test.YtlpccjklgbfpaaaDoorTerLandG
namespace Go.Proofs.YtlpccjklgbfpaaaDoor
open Go.RowKit Go.Lib

/-- Both corners: the same two, whichever comes first. -/
theorem way_both {m : M3} {bl : List Bool} {c x y d : Int} (hi : insidev m x y = true) (hd : d % 2 = 1) (d0 : 0 ≤ d) (d7 : d ≤ 7) :
    (wayv m bl c x y d 0 && wayv m bl c x y d 1) = (nearv m bl c x y x (sty y d) && nearv m bl c x (sty y d) (stx x d) (sty y d) && nearv m bl c x y (stx x d) y && nearv m bl c (stx x d) y (stx x d) (sty y d)) := by
  obtain ⟨X, Y, a, b, _, _, hx, hy, ha, hb, hX, hY, _, _, _⟩ := inside_at hi
  have nx : nr x = x := nr_in (by omega) (by omega)
  have ny : nr y = y := nr_in (by omega) (by omega)
  have bool4 : ∀ p q r s : Bool, ((p && q) && (r && s)) = (r && s && p && q) := by decide
  have bool4' : ∀ p q r s : Bool, ((p && q) && (r && s)) = (p && q && r && s) := by decide
  rcases (show d = 1 ∨ d = 3 ∨ d = 5 ∨ d = 7 by omega) with rfl | rfl | rfl | rfl
  · have e1 : dirv 1 0 = 0 := rfl
    have e2 : dirv 1 1 = 2 := rfl
    have f1 : stx x 0 = x + 1 := by rw [← nx]; simp [stx, shx, nx]
    have f2 : sty y 0 = y := by simp [sty, shy, ny]
    have f3 : stx x 2 = x := by simp [stx, shx, nx]
    have f4 : sty y 2 = y + 1 := by simp [sty, shy, ny]
    have f5 : stx x 1 = x + 1 := by simp [stx, shx, nx]
    have f6 : sty y 1 = y + 1 := by simp [sty, shy, ny]
    unfold wayv
    rw [e1, e2, f1, f2, f3, f4, f5, f6]
    exact bool4 _ _ _ _
  · have e1 : dirv 3 0 = 2 := rfl
    have e2 : dirv 3 1 = 4 := rfl
    have f1 : stx x 2 = x := by simp [stx, shx, nx]
    have f2 : sty y 2 = y + 1 := by simp [sty, shy, ny]
    have f3 : stx x 4 = x + -1 := by simp [stx, shx, nx]
    have f4 : sty y 4 = y := by simp [sty, shy, ny]
    have f5 : stx x 3 = x + -1 := by simp [stx, shx, nx]
    have f6 : sty y 3 = y + 1 := by simp [sty, shy, ny]
    unfold wayv
    rw [e1, e2, f1, f2, f3, f4, f5, f6]
    exact bool4' _ _ _ _
  · have e1 : dirv 5 0 = 4 := rfl
    have e2 : dirv 5 1 = 6 := rfl
    have f1 : stx x 4 = x + -1 := by simp [stx, shx, nx]
    have f2 : sty y 4 = y := by simp [sty, shy, ny]
    have f3 : stx x 6 = x := by simp [stx, shx, nx]
    have f4 : sty y 6 = y + -1 := by simp [sty, shy, ny]
    have f5 : stx x 5 = x + -1 := by simp [stx, shx, nx]
    have f6 : sty y 5 = y + -1 := by simp [sty, shy, ny]
    unfold wayv
    rw [e1, e2, f1, f2, f3, f4, f5, f6]
    exact bool4 _ _ _ _
  · have e1 : dirv 7 0 = 6 := rfl
    have e2 : dirv 7 1 = 0 := rfl
    have f1 : stx x 6 = x := by simp [stx, shx, nx]
    have f2 : sty y 6 = y + -1 := by simp [sty, shy, ny]
    have f3 : stx x 0 = x + 1 := by simp [stx, shx, nx]
    have f4 : sty y 0 = y := by simp [sty, shy, ny]
    have f5 : stx x 7 = x + 1 := by simp [stx, shx, nx]
    have f6 : sty y 7 = y + -1 := by simp [sty, shy, ny]
    unfold wayv
    rw [e1, e2, f1, f2, f3, f4, f5, f6]
    exact bool4' _ _ _ _

set_option maxHeartbeats 2000000 in
theorem dprice_b (m : M3) (s : Value) (c x y u v d : Int) (q1 q2 : C3) (k : Int) (W : World) (hr : RowAt W s m.cs) (k1 : I64 q1.h) (k2 : I64 q2.h) (hq1 : Hid (q1 = getv m x y)) (hq2 : Hid (q2 = getv m u v)) (d0 : 0 ≤ d)
    (e : Hid (k = (if d % 2 = 1 then 14 else 10) + (if c ≠ 3 ∧ risev q1.h q2.h ≠ 0 then 5 else 0))) :
    Calls Tryd.prog 47 #[.agg #[.int .i64 m.w, .int .i64 m.h, s], .int .i64 c, .agg #[.int .i64 x, .int .i64 y], .agg #[.int .i64 u, .int .i64 v], .int .i64 d] W fun e w' => e = .returned (.int .i64 k) ∧ Below W.heap.size W w' := by
  obtain ⟨g, hg⟩ : ∃ g, Hid (g = decide (d % 2 = 1)) := ⟨_, hid rfl⟩
  have hD := fun W' => ddiag_b d g W' d0 hg
  have hK := (((Keep.nil W).alloc [.int .i64 m.w, .int .i64 m.h, s] 24).alloc [.int .i64 x, .int .i64 y] 26).alloc [.int .i64 u, .int .i64 v] 26
  have hr' := hr.below hK.old
  simp only [World.size_alloc] at hK
  have hk : k = (if g = true then 14 else 10) + (if c ≠ 3 ∧ risev q1.h q2.h ≠ 0 then 5 else 0) := by rw [e.out, hg.out]; simp only [decide_eq_true_eq]
  clear e hg
  go_enter Tryd.func47, Tryd.ntmps47
  cases g
  all_goals
    simp only [Bool.false_eq_true, if_true, if_false] at hk
    go_wp2_with fail
    ((with_reducible refine (hD _).mono ?_); rintro e w1 ⟨rfl, hw⟩)
    rw [← hw]
    clear hw
    by_cases c3 : c = 3
    · have z3 : (c == 3) = true := by rw [c3]; rfl
      rw [if_neg (fun h => h.1 c3)] at hk
      go_wp2_with fail
      go_ret
      exact ⟨by rw [hk]; rfl, hK.old⟩
    · have z3 : (c == 3) = false := beq_eq_false_iff_ne.2 c3
      go_wp2_with fail
      ((with_reducible refine (drise_b m s x y u v q1 q2 _ hr' k1 k2 hq1 hq2).mono ?_); rintro e w2 ⟨n, rfl, hn, hb2⟩)
      have hL := below_call hK.old hb2
      have hp := rise_pos q1.h q2.h
      rw [← hn.out] at hp
      by_cases hz : risev q1.h q2.h ≠ 0
      · rw [decide_eq_true hz] at hp
        rw [if_pos ⟨c3, hz⟩] at hk
        clear hz hn
        go_wp2_with fail
        go_ret
        exact ⟨by rw [hk]; rfl, hL⟩
      · rw [decide_eq_false hz] at hp
        rw [if_neg (fun h => hz h.2)] at hk
        clear hz hn
        go_wp2_with fail
        go_ret
        exact ⟨by rw [hk]; rfl, hL⟩

theorem rise_three (a b : Int) : risev a b = 0 ∨ risev a b = 1 ∨ risev a b = 2 := by
  unfold risev; split
  · exact .inl rfl
  · split
    · exact .inr (.inl rfl)
    · exact .inr (.inr rfl)
/-- What a possible step costs. -/
theorem cost_eq {m : M3} {bl : List Bool} {c x y d : Int} (h : mayv m bl c x y d = true) :
    costv m bl c x y d = (if d % 2 = 1 then 14 else 10) + (if c ≠ 3 ∧ risev (getv m x y).h (getv m (stx x d) (sty y d)).h ≠ 0 then 5 else 0) := by
  unfold costv
  rw [if_pos h]
  congr 1
  by_cases c3 : c = 3
  · rw [if_neg (fun g => g.1 c3), if_neg (fun g => g.1 c3)]
  · have hr : risev (getv m x y).h (getv m (stx x d) (sty y d)).h < 2 := by
      unfold mayv nearv at h
      rw [decide_eq_false c3] at h
      simp only [Bool.and_eq_true, Bool.false_or, decide_eq_true_eq] at h
      exact h.1.2.2
    rcases rise_three (getv m x y).h (getv m (stx x d) (sty y d)).h with r | r | r
    · rw [r]; simp
    · rw [r]; simp
    · omega
theorem near_inside {m : M3} {bl : List Bool} {c x y u v : Int} (h : nearv m bl c x y u v = true) : insidev m x y = true := by
  unfold nearv openv at h
  simp only [Bool.and_eq_true] at h
  exact pass_inside h.1.1.1

set_option maxRecDepth 100000 in
set_option maxHeartbeats 4000000 in
theorem dcost_b (m : M3) (s : Value) (bl : List Bool) (l : Value) (c x y d : Int) (b : Bool) (k : Int) (W : World) (hE : EnvT W) (hh : HighAt m) (hr : RowAt W s m.cs) (hl : BitsAt W l bl) (e : Hid (b = mayv m bl c x y d)) (ek : Hid (k = costv m bl c x y d)) :
    Calls Tryd.prog 23 #[.agg #[.int .i64 m.w, .int .i64 m.h, s], l, .int .i64 c, .agg #[.int .i64 x, .int .i64 y], .int .i64 d] W fun e w' => e = .returned (.tuple #[.int .i64 k, .bool b]) ∧ Below W.heap.size W w' := by
  obtain ⟨qx, hqx⟩ : ∃ q, Hid (q = stx x d) := ⟨_, hid rfl⟩
  obtain ⟨qy, hqy⟩ : ∃ q, Hid (q = sty y d) := ⟨_, hid rfl⟩
  obtain ⟨n0, h0⟩ : ∃ i, Hid (i = nearv m bl c x y qx qy) := ⟨_, hid rfl⟩
  obtain ⟨n1, h1⟩ : ∃ i, Hid (i = (wayv m bl c x y d 0 && wayv m bl c x y d 1)) := ⟨_, hid rfl⟩
  obtain ⟨q1, hq1⟩ : ∃ q, Hid (q = getv m x y) := ⟨_, hid rfl⟩
  obtain ⟨q2, hq2⟩ : ∃ q, Hid (q = getv m qx qy) := ⟨_, hid rfl⟩
  have k1 : I64 q1.h := by rw [hq1.out]; exact hh.get x y
  have k2 : I64 q2.h := by rw [hq2.out]; exact hh.get qx qy
  have hb : Hid (0 ≤ d → d ≤ 7 → b = (n0 && (!decide (d % 2 = 1) || decide (c = 3) || n1))) := hid fun d0 d7 => by
    rw [e.out, h0.out, hqx.out, hqy.out]
    unfold mayv
    rw [decide_eq_true (show 0 ≤ d ∧ d ≤ 7 from ⟨d0, d7⟩), Bool.true_and]
    cases hn : nearv m bl c x y (stx x d) (sty y d) with
    | false => rfl
    | true =>
      rw [Bool.true_and, Bool.true_and]
      by_cases hp : d % 2 = 1
      · rw [h1.out, way_both (near_inside hn) hp d0 d7, decide_eq_true hp, decide_eq_false (show ¬ d % 2 = 0 by omega)]; rfl
      · rw [decide_eq_false hp, decide_eq_true (show d % 2 = 0 by omega)]; rfl
  have hk : Hid (b = true → k = (if d % 2 = 1 then 14 else 10) + (if c ≠ 3 ∧ risev q1.h q2.h ≠ 0 then 5 else 0)) := hid fun h => by
    rw [ek.out, cost_eq (e.out.symm.trans h), hq1.out, hq2.out, hqx.out, hqy.out]
  have hz : Hid (b = false → k = 0) := hid fun h => by rw [ek.out]; unfold costv; rw [if_neg (by rw [← e.out, h]; exact Bool.false_ne_true)]
  have hout : Hid (d < 0 ∨ 8 ≤ d → b = false) := hid fun h => by rw [e.out]; unfold mayv; rw [decide_eq_false (show ¬ (0 ≤ d ∧ d ≤ 7) by omega)]; rfl
  clear e ek
  have hK := ((Keep.nil W).alloc [.int .i64 m.w, .int .i64 m.h, s] 24).alloc [.int .i64 x, .int .i64 y] 26
  have hr' := hr.below hK.old
  have hl' := hl.below hK.old
  simp only [World.size_alloc] at hK
  go_enter Tryd.func23, Tryd.ntmps23
  by_cases hd : d < 0 ∨ 8 ≤ d
  · obtain rfl := hout.out hd
    obtain rfl := hz.out rfl
    clear hk hb hz hout
    by_cases g1 : d < 0
    · go_wp2_with fail
      exact bodyPost_ret (v := .tuple #[.int .i64 0, .bool false]) (by simp [results, Tryd.results23, go_sem, *]) rfl ⟨rfl, hK.old⟩
    · have g2 : decide (8 ≤ d) = true := decide_eq_true (by omega)
      go_wp2_with fail
      exact bodyPost_ret (v := .tuple #[.int .i64 0, .bool false]) (by simp [results, Tryd.results23, go_sem, *]) rfl ⟨rfl, hK.old⟩
  · have d0 : 0 ≤ d := by omega
    have d7 : d ≤ 7 := by omega
    have hb := hb.out d0 d7
    have g1 : decide (d < 0) = false := decide_eq_false (by omega)
    have g2 : decide (8 ≤ d) = false := decide_eq_false (by omega)
    clear hout
    go_wp2_with fail
    ((with_reducible refine (dstepq_b x y d qx qy _ (hE.keep hK.old) hqx hqy).mono ?_); rintro e w1 ⟨rfl, hb1⟩)
    replace hr' := (hr'.below hb1).below ((Below.refl w1.heap.size w1).alloc (Nat.le_refl _) (.cells [Value.int .i64 qx, .int .i64 qy].toArray 26))
    replace hl' := (hl'.below hb1).below ((Below.refl w1.heap.size w1).alloc (Nat.le_refl _) (.cells [Value.int .i64 qx, .int .i64 qy].toArray 26))
    replace hK := (hK.call hb1).alloc [.int .i64 qx, .int .i64 qy] 26
    clear hb1
    obtain ⟨hQ, hP, hM⟩ := hK.three
    obtain ⟨_, _, _, _, _, _⟩ := hM.three
    obtain ⟨_, _, _, _⟩ := hP.two
    go_wp2_with fail
    generalize w1.heap.size = z at *
    ((with_reducible refine (djoin_b m s bl l c x y qx qy n0 _ (hE.keep hK.old) hh hr' hl' h0).mono ?_); rintro e w2 ⟨rfl, hb2⟩)
    replace hr' := hr'.below hb2
    replace hl' := hl'.below hb2
    replace hK := hK.call hb2
    clear hb2 hQ hP hM
    obtain ⟨hQ, hP, hM⟩ := hK.three
    obtain ⟨_, _, _, _, _, _⟩ := hM.three
    obtain ⟨_, _, _, _⟩ := hP.two
    obtain ⟨_, _, _, _⟩ := hQ.two
    cases n0 with
    | false =>
      rw [Bool.false_and] at hb
      subst hb
      obtain rfl := hz.out rfl
      clear hk hz
      go_wp2_with fail
      exact bodyPost_ret (v := .tuple #[.int .i64 0, .bool false]) (by simp [results, Tryd.results23, go_sem, *]) rfl ⟨rfl, hK.old⟩
    | true =>
      rw [Bool.true_and] at hb
      obtain ⟨g, hg⟩ : ∃ g, Hid (g = decide (d % 2 = 1)) := ⟨_, hid rfl⟩
      have hD := fun W' => ddiag_b d g W' d0 hg
      rw [← hg.out] at hb
      go_wp2_with fail
      ((with_reducible refine (hD _).mono ?_); rintro e w3 ⟨rfl, hw⟩)
      rw [← hw]
      clear hw hD
      have tail : ∀ V : World, Hid (b = true) → Keep W V [(z, [Value.int .i64 qx, .int .i64 qy], 26), (W.heap.size + 1, [Value.int .i64 x, .int .i64 y], 26), (W.heap.size, [Value.int .i64 m.w, .int .i64 m.h, s], 24)] → RowAt V s m.cs →
        Calls Tryd.prog 47 #[.agg #[.int .i64 m.w, .int .i64 m.h, s], .int .i64 c, .agg #[.int .i64 x, .int .i64 y], .agg #[.int .i64 qx, .int .i64 qy], .int .i64 d] V fun e w' => e = .returned (.int .i64 k) ∧ Below V.heap.size V w' :=
        fun V hbt _ hr => dprice_b m s c x y qx qy d q1 q2 k V hr k1 k2 hq1 hq2 d0 (hid (hk.out hbt.out))
      by_cases hgo : g = true ∧ c ≠ 3
      · obtain ⟨rfl, c3⟩ := hgo
        have z3 : (c == 3) = false := beq_eq_false_iff_ne.2 c3
        rw [decide_eq_false c3] at hb
        have hp : d % 2 = 1 := of_decide_eq_true hg.out.symm
        go_wp2_with fail
        ((with_reducible refine (dboth_b m s bl l c x y d n1 _ (hE.keep hK.old) hh hr' hl' (by omega) d7 h1).mono ?_); rintro e w4 ⟨rfl, hb4⟩)
        replace hr' := hr'.below hb4
        replace hK := hK.call hb4
        clear hb4 hQ hP hM
        obtain ⟨hQ, hP, hM⟩ := hK.three
        obtain ⟨_, _, _, _, _, _⟩ := hM.three
        obtain ⟨_, _, _, _⟩ := hP.two
        obtain ⟨_, _, _, _⟩ := hQ.two
        cases n1 with
        | false =>
          obtain rfl : b = false := by rw [hb]; rfl
          obtain rfl := hz.out rfl
          clear hk hz tail hb
          go_wp2_with fail
          exact bodyPost_ret (v := .tuple #[.int .i64 0, .bool false]) (by simp [results, Tryd.results23, go_sem, *]) rfl ⟨rfl, hK.old⟩
        | true =>
          obtain rfl : b = true := by rw [hb]; rfl
          clear hk hz hb
          go_wp2_with fail
          ((with_reducible refine (tail _ (hid (by trivial)) hK hr').mono ?_); rintro e w5 ⟨rfl, hb5⟩)
          go_wp2_with fail
          exact bodyPost_ret (v := .tuple #[.int .i64 k, .bool true]) (by simp [results, Tryd.results23, go_sem, *]) rfl ⟨rfl, below_call hK.old hb5⟩
      · obtain rfl : b = true := by
          rw [hb]
          by_cases c3 : c = 3
          · rw [decide_eq_true c3]; simp
          · have : g = false := by cases g; rfl; exact absurd ⟨rfl, c3⟩ hgo
            rw [this]; rfl
        clear hk hz hb
        cases g with
        | false =>
          clear hgo
          go_wp2_with fail
          ((with_reducible refine (tail _ (hid (by trivial)) hK hr').mono ?_); rintro e w5 ⟨rfl, hb5⟩)
          go_wp2_with fail
          exact bodyPost_ret (v := .tuple #[.int .i64 k, .bool true]) (by simp [results, Tryd.results23, go_sem, *]) rfl ⟨rfl, below_call hK.old hb5⟩
        | true =>
          obtain rfl : c = 3 := Classical.byContradiction fun h => hgo ⟨rfl, h⟩
          clear hgo
          go_wp2_with fail
          ((with_reducible refine (tail _ (hid (by trivial)) hK hr').mono ?_); rintro e w5 ⟨rfl, hb5⟩)
          go_wp2_with fail
          exact bodyPost_ret (v := .tuple #[.int .i64 k, .bool true]) (by simp [results, Tryd.results23, go_sem, *]) rfl ⟨rfl, below_call hK.old hb5⟩

end Go.Proofs.YtlpccjklgbfpaaaDoor
