/-
  What the functions of terrain answer, as landed at 6373918: formed maps, what is inside, valid cells.
-/
import Derived.Test.YtlpccjklgbfpaaaDoorGridLandA
import Derived.Test.YtlpccjklgbfpaaaDoorTerD
namespace Go.Proofs.YtlpccjklgbfpaaaDoor
open Go.RowKit Go.Lib

set_option maxHeartbeats 400000 in
theorem dkind_b (k : Int) (b : Bool) (W : World) (e : Hid (b = decide (1 ≤ k ∧ k ≤ 5))) :
    Calls Tryd.prog 57 #[.int .i64 k] W fun e w' => e = .returned (.bool b) ∧ W = w' := by
  have e := e.out
  by_cases h1 : 1 ≤ k
  · have z1 : decide (1 ≤ k) = true := decide_eq_true h1
    go_enter Tryd.func57, Tryd.ntmps57
    go_wp2_with fail
    go_ret
    exact ⟨ret_bit (by rw [e]; exact decide_eq_decide.2 (by omega)), rfl⟩
  · have z1 : decide (1 ≤ k) = false := decide_eq_false h1
    go_enter Tryd.func57, Tryd.ntmps57
    go_wp2_with fail
    go_ret
    exact ⟨ret_bit (by first | rfl | (rw [e]; exact (decide_eq_false (by omega)).symm)), rfl⟩
set_option maxHeartbeats 400000 in
theorem dres_b (k : Int) (b : Bool) (W : World) (e : Hid (b = decide (k = 4 ∨ k = 5))) :
    Calls Tryd.prog 58 #[.int .i64 k] W fun e w' => e = .returned (.bool b) ∧ W = w' := by
  have e := e.out
  by_cases h1 : k = 4
  · have z1 : (k == 4) = true := by rw [h1]; rfl
    go_enter Tryd.func58, Tryd.ntmps58
    go_wp2_with fail
    go_ret
    exact ⟨ret_bit (by rw [e]; exact (decide_eq_true (Or.inl h1)).symm), rfl⟩
  · have z1 : (k == 4) = false := beq_eq_false_iff_ne.2 h1
    go_enter Tryd.func58, Tryd.ntmps58
    go_wp2_with fail
    go_ret
    exact ⟨ret_bit (by rw [e]; simp [h1]; rfl), rfl⟩

set_option maxHeartbeats 2000000 in
theorem dinvalid_any (k h a : Int) (W : World) :
    Calls Tryd.prog 35 #[.agg #[.int .i64 k, .int .i64 h, .int .i64 a]] W fun e w' => e = .returned (.bool (!validc ⟨k, h, a⟩)) ∧ Below W.heap.size W w' := by
  have hL := (Below.refl W.heap.size W).alloc (Nat.le_refl _) (.cells #[.int .i64 k, .int .i64 h, .int .i64 a] 28)
  by_cases hk : 1 ≤ k ∧ k ≤ 5
  · have c1 := dkind_b k true
    have hk' := hid (decide_eq_true hk).symm
    by_cases hh : 0 ≤ h ∧ h ≤ 3
    · obtain ⟨h0, h1⟩ := hh
      have z3 : decide (h < 0) = false := decide_eq_false (by omega)
      have z4 : decide (3 < h) = false := decide_eq_false (by omega)
      by_cases ha : 0 ≤ a ∧ a ≤ 1000000
      · obtain ⟨a0, a1⟩ := ha
        have z5 : decide (a < 0) = false := decide_eq_false (by omega)
        have z6 : decide (1000000 < a) = false := decide_eq_false (by omega)
        obtain ⟨r, hr⟩ : ∃ r, Hid (r = decide (k = 4 ∨ k = 5)) := ⟨_, hid rfl⟩
        obtain ⟨p, hp⟩ : ∃ p, p = decide (0 < a) := ⟨_, rfl⟩
        have hv : (!validc ⟨k, h, a⟩) = (p != r) := by unfold validc; rw [decide_eq_true (show 1 ≤ k ∧ k ≤ 5 ∧ 0 ≤ h ∧ h ≤ 3 ∧ 0 ≤ a ∧ a ≤ 1000000 by omega), Bool.true_and, hr.out, hp]; rfl
        rw [hv]
        clear hv
        go_enter Tryd.func35, Tryd.ntmps35
        go_wp2_with fail
        ((with_reducible refine (c1 _ hk').mono ?_); rintro e w1 ⟨rfl, hw⟩)
        rw [← hw]
        clear hw
        go_wp2_with fail
        go_region_held3 (fun w' => w'.cell? ⟨W.heap.size, 0, none⟩ = some (.int .i64 k) ∧ w'.cell? ⟨W.heap.size, 2, none⟩ = some (.int .i64 a)) (go_keep)
          (first | (go_at_call 58; with_reducible refine (dres_b k r _ hr).mono ?_; rintro e w' ⟨rfl, rfl⟩))
        go_wp2_with fail
        go_ret
        exact ⟨ret_bit (by rw [hp]; rfl), hL.drew⟩
      · have hv : (!validc ⟨k, h, a⟩) = true := by unfold validc; rw [decide_eq_false (show ¬ (1 ≤ k ∧ k ≤ 5 ∧ 0 ≤ h ∧ h ≤ 3 ∧ 0 ≤ a ∧ a ≤ 1000000) by omega)]; rfl
        rw [hv]
        clear hv
        go_enter Tryd.func35, Tryd.ntmps35
        go_wp2_with fail
        ((with_reducible refine (c1 _ hk').mono ?_); rintro e w1 ⟨rfl, hw⟩)
        rw [← hw]
        clear hw
        go_wp2
        all_goals first
          | (exfalso; omega)
          | (go_ret; exact ⟨rfl, hL⟩)
    · have hv : (!validc ⟨k, h, a⟩) = true := by unfold validc; rw [decide_eq_false (show ¬ (1 ≤ k ∧ k ≤ 5 ∧ 0 ≤ h ∧ h ≤ 3 ∧ 0 ≤ a ∧ a ≤ 1000000) by omega)]; rfl
      rw [hv]
      clear hv
      go_enter Tryd.func35, Tryd.ntmps35
      go_wp2_with fail
      ((with_reducible refine (c1 _ hk').mono ?_); rintro e w1 ⟨rfl, hw⟩)
      rw [← hw]
      clear hw
      by_cases h0 : h < 0
      · go_wp2_with fail
        go_ret
        exact ⟨rfl, hL⟩
      · have z4 : decide (3 < h) = true := decide_eq_true (by omega)
        go_wp2_with fail
        go_ret
        exact ⟨rfl, hL⟩
  · have c1 := dkind_b k false
    have hk' := hid (decide_eq_false hk).symm
    have hv : (!validc ⟨k, h, a⟩) = true := by unfold validc; rw [decide_eq_false (show ¬ (1 ≤ k ∧ k ≤ 5 ∧ 0 ≤ h ∧ h ≤ 3 ∧ 0 ≤ a ∧ a ≤ 1000000) by omega)]; rfl
    rw [hv]
    clear hv
    go_enter Tryd.func35, Tryd.ntmps35
    go_wp2_with fail
    ((with_reducible refine (c1 _ hk').mono ?_); rintro e w1 ⟨rfl, hw⟩)
    rw [← hw]
    clear hw
    go_wp2_with fail
    go_ret
    exact ⟨rfl, hL⟩
theorem dinvalid_b (c : C3) (b : Bool) (W : World) (e : Hid (b = validc c)) : Calls Tryd.prog 35 #[.agg #[.int .i64 c.k, .int .i64 c.h, .int .i64 c.a]] W fun e w' => e = .returned (.bool (!b)) ∧ Below W.heap.size W w' := by
  rw [e.out]; exact dinvalid_any c.k c.h c.a W

set_option maxHeartbeats 1000000 in
theorem dformed_any (m : M3) (s : Value) (W : World) (hr : RowAt W s m.cs) :
    Calls Tryd.prog 39 #[mapV m s] W fun e w' => e = .returned (.bool (formedv m)) ∧ Below W.heap.size W w' := by
  obtain ⟨w, h, cs⟩ := m
  obtain ⟨p, c, rfl, hm, -⟩ := hr
  unfold maxLen at hm
  show Calls Tryd.prog 39 #[.agg #[.int .i64 w, .int .i64 h, .slice p cs.length c]] W _
  dsimp only at hm
  have hc := dvalid_any w h
  cases hv : validv w h with
  | true =>
    have hf : formedv ⟨w, h, cs⟩ = decide ((cs.length : Int) = w * h) := by unfold formedv; rw [hv, Bool.true_and]
    have hd := hv
    unfold validv at hd
    have hd := of_decide_eq_true hd
    obtain ⟨X, rfl⟩ := Int.eq_ofNat_of_zero_le (show 0 ≤ w by omega)
    obtain ⟨Y, rfl⟩ := Int.eq_ofNat_of_zero_le (show 0 ≤ h by omega)
    have hxy : X * Y ≤ 32 * 32 := Nat.mul_le_mul (by omega) (by omega)
    have e : (X : Int) * Y = ((X * Y : Nat) : Int) := by simp
    have ew : IntKind.i64.wrap ((X : Int) * Y) = (X : Int) * Y := IntWalk.i64_in _ (by rw [e]; omega)
    rw [hv] at hc
    rw [hf]
    clear e
    go_enter Tryd.func39, Tryd.ntmps39
    go_wp2_with fail
    ((with_reducible refine (hc _).mono ?_); rintro e w1 ⟨rfl, hw⟩)
    rw [← hw]
    clear hw
    go_wp2_with fail
    go_ret
    exact ⟨ret_bit (by rfl), (Below.refl _ _).alloc (Nat.le_refl _) _⟩
  | false =>
    have hf : formedv ⟨w, h, cs⟩ = false := by unfold formedv; rw [hv, Bool.false_and]
    rw [hv] at hc
    rw [hf]
    go_enter Tryd.func39, Tryd.ntmps39
    go_wp2_with fail
    ((with_reducible refine (hc _).mono ?_); rintro e w1 ⟨rfl, hw⟩)
    rw [← hw]
    clear hw
    go_wp2_with fail
    go_ret
    exact ⟨rfl, (Below.refl _ _).alloc (Nat.le_refl _) _⟩

theorem din_b (w h x y : Int) (b : Bool) (W : World) (e : Hid (b = inv w h x y)) : Calls Tryd.prog 26 #[.int .i64 w, .int .i64 h, .agg #[.int .i64 x, .int .i64 y]] W fun e w' => e = .returned (.bool b) ∧ Below W.heap.size W w' := by
  rw [e.out]; exact din_any w h x y W
set_option maxHeartbeats 1000000 in
theorem dinside_b (m : M3) (s : Value) (x y : Int) (b : Bool) (W : World) (hr : RowAt W s m.cs) (e : Hid (b = insidev m x y)) :
    Calls Tryd.prog 31 #[.agg #[.int .i64 m.w, .int .i64 m.h, s], .agg #[.int .i64 x, .int .i64 y]] W fun e w' => e = .returned (.bool b) ∧ Below W.heap.size W w' := by
  have hT := Held2.start W [.int .i64 m.w, .int .i64 m.h, s] [.int .i64 x, .int .i64 y] 24 26
  have hF := dformed_any m s _ (hr.below hT.old)
  have hI : b = (formedv m && inv m.w m.h x y) := e.out
  rw [hI]
  clear hI e
  unfold mapV at hF
  cases hf : formedv m with
  | true =>
    rw [hf] at hF
    rw [Bool.true_and]
    obtain ⟨b, hb⟩ : ∃ b, Hid (b = inv m.w m.h x y) := ⟨_, hid rfl⟩
    rw [← hb.out]
    go_enter Tryd.func31, Tryd.ntmps31
    go_wp2_with fail
    (refine hF.mono ?_; rintro e w1 ⟨rfl, hb1⟩)
    replace hT := hT.call hb1
    obtain ⟨_, _, _, _, _, _⟩ := hT.l.three
    obtain ⟨_, _, _, _⟩ := hT.r.two
    go_wp2_with fail
    ((with_reducible refine (din_b m.w m.h x y b _ hb).mono ?_); rintro e w2 ⟨rfl, hb2⟩)
    go_wp2_with fail
    go_ret
    exact ⟨rfl, below_call hT.old hb2⟩
  | false =>
    rw [hf] at hF
    rw [Bool.false_and]
    go_enter Tryd.func31, Tryd.ntmps31
    go_wp2_with fail
    (refine hF.mono ?_; rintro e w1 ⟨rfl, hb1⟩)
    go_wp2_with fail
    go_ret
    exact ⟨rfl, below_call hT.old hb1⟩

end Go.Proofs.YtlpccjklgbfpaaaDoor
