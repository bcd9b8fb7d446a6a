/-
  What the functions of grid answer.
-/
import Derived.Test.YtmpbgfobiceehaaGreatDoorGridRef
namespace Go.Proofs.YtmpbgfobiceehaaGreatDoor

section
open Go.RowKit Go.Lib

set_option maxHeartbeats 400000 in
theorem dclamp_any (n a b : Int) (w : World) :
    Calls Tryz.prog 119 #[.int .i64 n, .int .i64 a, .int .i64 b] w fun e w' => e = .returned (.int .i64 (max a (min n b))) ∧ w = w' := by
  go_enter Tryz.func119, Tryz.ntmps119
  go_wp2
  go_ret
  exact ⟨rfl, rfl⟩
set_option maxHeartbeats 400000 in
theorem dnr_any (n : Int) (w : World) :
    Calls Tryz.prog 108 #[.int .i64 n] w fun e w' => e = .returned (.int .i64 (nr n)) ∧ w = w' := by
  go_enter Tryz.func108, Tryz.ntmps108
  go_wp2_with fail
  ((with_reducible refine (dclamp_any _ _ _ _).mono ?_); rintro e w1 ⟨rfl, hw⟩)
  rw [← hw]
  clear hw
  go_wp2_with fail
  go_ret
  exact ⟨rfl, rfl⟩
set_option maxHeartbeats 400000 in
theorem dpos_any (x y : Int) (w : World) :
    Calls Tryz.prog 107 #[.agg #[.int .i64 x, .int .i64 y]] w fun e w' => e = .returned (.agg #[.int .i64 (nr x), .int .i64 (nr y)]) ∧ Below w.heap.size w w' := by
  go_enter Tryz.func107, Tryz.ntmps107
  go_wp2_with fail
  go_region_held3 (fun w' => w'.cell? ⟨w.heap.size, 0, none⟩ = some (.int .i64 x) ∧ w'.cell? ⟨w.heap.size, 1, none⟩ = some (.int .i64 y)) (go_keep)
    (first | (go_at_call 108; refine (dnr_any _ _).mono ?_; rintro e w' ⟨rfl, rfl⟩))
  go_wp2
  refine bodyPost_ret (v := .agg #[.int .i64 (nr x), .int .i64 (nr y)]) (by simp [results, Tryz.results107, go_sem]) rfl ⟨rfl, ?_⟩
  exact (((Below.refl _ _).alloc (Nat.le_refl _) _).alloc (by simp) _).drew
def sidev (n : Int) : Bool := decide (1 ≤ n ∧ n ≤ 32)
set_option maxHeartbeats 400000 in
theorem dside_any (n : Int) (W : World) :
    Calls Tryz.prog 105 #[.int .i64 n] W fun e w' => e = .returned (.bool (sidev n)) ∧ W = w' := by
  go_enter Tryz.func105, Tryz.ntmps105
  go_wp2
  all_goals (go_ret; exact ⟨ret_bit (by unfold sidev; first | exact (decide_eq_false (by omega)).symm | exact decide_eq_decide.2 (by omega)), rfl⟩)
set_option maxHeartbeats 400000 in
theorem dvalid_any (w h : Int) (W : World) :
    Calls Tryz.prog 90 #[.int .i64 w, .int .i64 h] W fun e w' => e = .returned (.bool (validv w h)) ∧ W = w' := by
  cases a : sidev w with
  | true =>
    have z2 : validv w h = sidev h := decide_eq_decide.2 (by have := of_decide_eq_true a; omega)
    rw [z2]
    go_enter Tryz.func90, Tryz.ntmps90
    go_wp2_with fail
    ((with_reducible refine (dside_any _ _).mono ?_); rintro e w1 ⟨rfl, hw⟩)
    rw [← hw]
    clear hw
    go_wp2_with fail
    ((with_reducible refine (dside_any _ _).mono ?_); rintro e w1 ⟨rfl, hw⟩)
    rw [← hw]
    clear hw
    go_wp2_with fail
    go_ret
    exact ⟨rfl, rfl⟩
  | false =>
    have z2 : validv w h = false := decide_eq_false (by have := of_decide_eq_false a; omega)
    rw [z2]
    go_enter Tryz.func90, Tryz.ntmps90
    go_wp2_with fail
    ((with_reducible refine (dside_any _ _).mono ?_); rintro e w1 ⟨rfl, hw⟩)
    rw [← hw]
    clear hw
    go_wp2_with fail
    go_ret
    exact ⟨rfl, rfl⟩
set_option maxHeartbeats 400000 in
theorem din_any (w h x y : Int) (W : World) :
    Calls Tryz.prog 106 #[.int .i64 w, .int .i64 h, .agg #[.int .i64 x, .int .i64 y]] W fun e w' => e = .returned (.bool (inv w h x y)) ∧ Below W.heap.size W w' := by
  go_enter Tryz.func106, Tryz.ntmps106
  go_wp2
  all_goals (go_ret; exact ⟨ret_bit (by unfold inv; first | exact (decide_eq_false (by omega)).symm | exact decide_eq_decide.2 (by omega)), (Below.refl _ _).alloc (Nat.le_refl _) _⟩)
set_option maxHeartbeats 1000000 in
theorem dindex_any (w x y : Int) (W : World) :
    Calls Tryz.prog 95 #[.int .i64 w, .agg #[.int .i64 x, .int .i64 y]] W fun e w' => e = .returned (.int .i64 (indexv w x y)) ∧ Below W.heap.size W w' := by
  have m := nr_mul y w
  have bx := nr_bd x
  have v1 : IntKind.i64.wrap (nr y * nr w) = nr y * nr w := IntWalk.i64_in _ (by omega)
  have v2 : IntKind.i64.wrap (nr y * nr w + nr x) = nr y * nr w + nr x := IntWalk.i64_in _ (by omega)
  go_enter Tryz.func95, Tryz.ntmps95
  go_wp2_with fail
  ((with_reducible refine (dpos_any x y _).mono ?_); rintro e w1 ⟨rfl, hb⟩)
  have hL := below_call ((Below.refl W.heap.size W).alloc (Nat.le_refl _) _) hb
  have B := (Blk.new W [.int .i64 x, .int .i64 y] 41).below hb
  clear hb
  obtain ⟨_, _, _, _⟩ := B.two
  go_upto_region 1 with fail
  have B2 := B.put2 (.int .i64 (nr x)) (.int .i64 (nr y))
  replace hL := (hL.setCell (p := ⟨W.heap.size, 0, none⟩) (by simp) (.int .i64 (nr x))).setCell (p := ⟨W.heap.size, 1, none⟩) (by simp) (.int .i64 (nr y))
  generalize (w1.setCell ⟨W.heap.size, 0, none⟩ (.int .i64 (nr x))).setCell ⟨W.heap.size, 1, none⟩ (.int .i64 (nr y)) = V at *
  obtain ⟨_, _, _, _⟩ := B2.two
  go_region_held3 (fun w' => w'.cell? ⟨W.heap.size, 0, none⟩ = some (.int .i64 (nr x)) ∧ w'.cell? ⟨W.heap.size, 1, none⟩ = some (.int .i64 (nr y))) (go_keep)
    (first | (go_at_call 108; refine (dnr_any _ _).mono ?_; rintro e w' ⟨rfl, rfl⟩))
  go_wp2
  go_ret
  exact ⟨rfl, hL.drew⟩
set_option maxHeartbeats 1000000 in
theorem dat_any (w i : Int) (W : World) (hi : i ≤ 9223372036854775807) :
    Calls Tryz.prog 29 #[.int .i64 w, .int .i64 i] W fun e w' => e = .returned (.agg #[.int .i64 (atx w i), .int .i64 (aty w i)]) ∧ Below W.heap.size W w' := by
  by_cases h : w < 1 ∨ i < 0
  · rw [show atx w i = 0 from if_pos h, show aty w i = 0 from if_pos h]
    by_cases h1 : w < 1
    · go_enter Tryz.func29, Tryz.ntmps29
      go_wp2
      refine bodyPost_ret (v := .agg #[.int .i64 0, .int .i64 0]) (by simp [results, Tryz.results29, go_sem]) rfl ⟨rfl, ?_⟩
      exact ((Below.refl _ _).alloc (Nat.le_refl _) _)
    · have h2 : i < 0 := by omega
      go_enter Tryz.func29, Tryz.ntmps29
      go_wp2
      refine bodyPost_ret (v := .agg #[.int .i64 0, .int .i64 0]) (by simp [results, Tryz.results29, go_sem]) rfl ⟨rfl, ?_⟩
      exact ((Below.refl _ _).alloc (Nat.le_refl _) _)
  · rw [show atx w i = i % w from if_neg h, show aty w i = i / w from if_neg h]
    have h1 : 1 ≤ w := by omega
    have h2 : 0 ≤ i := by omega
    have z1 : decide (w < 1) = false := decide_eq_false (by omega)
    have z2 : decide (i < 0) = false := decide_eq_false (by omega)
    have n : ¬ w = 0 := by omega
    have e1 : i.tmod w = i % w := Int.tmod_eq_emod_of_nonneg h2
    have e2 : i.tdiv w = i / w := Int.tdiv_eq_ediv_of_nonneg h2
    have e3 : wrap64 (i / w) = i / w := IntWalk.wrap64_in _ (by have := Int.ediv_nonneg h2 (show 0 ≤ w by omega); have := Int.ediv_le_self w h2; omega)
    go_enter Tryz.func29, Tryz.ntmps29
    go_wp2
    go_region
    all_goals
      go_wp2
      refine bodyPost_ret (v := .agg #[.int .i64 (i % w), .int .i64 (i / w)]) (by simp [results, Tryz.results29, go_sem]) rfl ⟨rfl, ?_⟩
      exact ((Below.refl _ _).alloc (Nat.le_refl _) _).drew

end

end Go.Proofs.YtmpbgfobiceehaaGreatDoor
