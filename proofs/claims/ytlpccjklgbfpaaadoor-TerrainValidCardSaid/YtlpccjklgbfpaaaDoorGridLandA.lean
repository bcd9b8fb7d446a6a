/-
  What the functions of grid answer, as landed at da8c777: numbers, cells, indexes.
-/
import Derived.Test.YtlpccjklgbfpaaaDoorGridLaws
namespace Go.Proofs.YtlpccjklgbfpaaaDoor
open Go.RowKit Go.Lib

set_option maxHeartbeats 400000 in
theorem dclamp_any (n a b : Int) (w : World) :
    Calls Tryd.prog 66 #[.int .i64 n, .int .i64 a, .int .i64 b] w fun e w' => e = .returned (.int .i64 (max a (min n b))) ∧ w = w' := by
  go_enter Tryd.func66, Tryd.ntmps66
  go_wp2
  go_ret
  exact ⟨rfl, rfl⟩
set_option maxHeartbeats 400000 in
theorem dnr_any (n : Int) (w : World) :
    Calls Tryd.prog 54 #[.int .i64 n] w fun e w' => e = .returned (.int .i64 (nr n)) ∧ w = w' := by
  go_enter Tryd.func54, Tryd.ntmps54
  go_wp2_with fail
  ((with_reducible refine (dclamp_any _ _ _ _).mono ?_); rintro e w1 ⟨rfl, hw⟩)
  rw [← hw]
  clear hw
  go_wp2_with fail
  go_ret
  exact ⟨rfl, rfl⟩
set_option maxHeartbeats 400000 in
theorem dpos_any (x y : Int) (w : World) :
    Calls Tryd.prog 53 #[.agg #[.int .i64 x, .int .i64 y]] w fun e w' => e = .returned (.agg #[.int .i64 (nr x), .int .i64 (nr y)]) ∧ Below w.heap.size w w' := by
  go_enter Tryd.func53, Tryd.ntmps53
  go_wp2_with fail
  go_region_held3 (fun w' => w'.cell? ⟨w.heap.size, 0, none⟩ = some (.int .i64 x) ∧ w'.cell? ⟨w.heap.size, 1, none⟩ = some (.int .i64 y)) (go_keep)
    (first | (go_at_call 54; refine (dnr_any _ _).mono ?_; rintro e w' ⟨rfl, rfl⟩))
  go_wp2
  refine bodyPost_ret (v := .agg #[.int .i64 (nr x), .int .i64 (nr y)]) (by simp [results, Tryd.results53, go_sem]) rfl ⟨rfl, ?_⟩
  exact (((Below.refl _ _).alloc (Nat.le_refl _) _).alloc (by simp) _).drew
def sidev (n : Int) : Bool := decide (1 ≤ n ∧ n ≤ 32)
set_option maxHeartbeats 400000 in
theorem dside_any (n : Int) (W : World) :
    Calls Tryd.prog 67 #[.int .i64 n] W fun e w' => e = .returned (.bool (sidev n)) ∧ W = w' := by
  go_enter Tryd.func67, Tryd.ntmps67
  go_wp2
  all_goals (go_ret; exact ⟨ret_bit (by unfold sidev; first | exact (decide_eq_false (by omega)).symm | exact decide_eq_decide.2 (by omega)), rfl⟩)
set_option maxHeartbeats 400000 in
theorem dvalid_any (w h : Int) (W : World) :
    Calls Tryd.prog 60 #[.int .i64 w, .int .i64 h] W fun e w' => e = .returned (.bool (validv w h)) ∧ W = w' := by
  cases a : sidev w with
  | true =>
    have z2 : validv w h = sidev h := decide_eq_decide.2 (by have := of_decide_eq_true a; omega)
    rw [z2]
    go_enter Tryd.func60, Tryd.ntmps60
    go_wp2_with fail
    ((with_reducible refine (dside_any _ _).mono ?_); rintro e w1 ⟨rfl, hw⟩)
    rw [← hw]
    clear hw
    go_wp2_with fail
    ((with_reducible refine (dside_any _ _).mono ?_); rintro e w1 ⟨rfl, hw⟩)
    rw [← hw]
    clear hw
    go_wp2_with fail
    go_ret
    exact ⟨rfl, rfl⟩
  | false =>
    have z2 : validv w h = false := decide_eq_false (by have := of_decide_eq_false a; omega)
    rw [z2]
    go_enter Tryd.func60, Tryd.ntmps60
    go_wp2_with fail
    ((with_reducible refine (dside_any _ _).mono ?_); rintro e w1 ⟨rfl, hw⟩)
    rw [← hw]
    clear hw
    go_wp2_with fail
    go_ret
    exact ⟨rfl, rfl⟩
set_option maxHeartbeats 400000 in
theorem din_any (w h x y : Int) (W : World) :
    Calls Tryd.prog 26 #[.int .i64 w, .int .i64 h, .agg #[.int .i64 x, .int .i64 y]] W fun e w' => e = .returned (.bool (inv w h x y)) ∧ Below W.heap.size W w' := by
  go_enter Tryd.func26, Tryd.ntmps26
  go_wp2
  all_goals (go_ret; exact ⟨ret_bit (by unfold inv; first | exact (decide_eq_false (by omega)).symm | exact decide_eq_decide.2 (by omega)), (Below.refl _ _).alloc (Nat.le_refl _) _⟩)
set_option maxHeartbeats 1000000 in
theorem dindex_any (w x y : Int) (W : World) :
    Calls Tryd.prog 32 #[.int .i64 w, .agg #[.int .i64 x, .int .i64 y]] W fun e w' => e = .returned (.int .i64 (indexv w x y)) ∧ Below W.heap.size W w' := by
  have m := nr_mul y w
  have bx := nr_bd x
  have v1 : IntKind.i64.wrap (nr y * nr w) = nr y * nr w := IntWalk.i64_in _ (by omega)
  have v2 : IntKind.i64.wrap (nr y * nr w + nr x) = nr y * nr w + nr x := IntWalk.i64_in _ (by omega)
  go_enter Tryd.func32, Tryd.ntmps32
  go_wp2_with fail
  ((with_reducible refine (dpos_any x y _).mono ?_); rintro e w1 ⟨rfl, hb⟩)
  have hL := below_call ((Below.refl W.heap.size W).alloc (Nat.le_refl _) _) hb
  have B := (Blk.new W [.int .i64 x, .int .i64 y] 26).below hb
  clear hb
  obtain ⟨_, _, _, _⟩ := B.two
  go_upto_region 1 with fail
  have B2 := B.put2 (.int .i64 (nr x)) (.int .i64 (nr y))
  replace hL := (hL.setCell (p := ⟨W.heap.size, 0, none⟩) (by simp) (.int .i64 (nr x))).setCell (p := ⟨W.heap.size, 1, none⟩) (by simp) (.int .i64 (nr y))
  generalize (w1.setCell ⟨W.heap.size, 0, none⟩ (.int .i64 (nr x))).setCell ⟨W.heap.size, 1, none⟩ (.int .i64 (nr y)) = V at *
  obtain ⟨_, _, _, _⟩ := B2.two
  go_region_held3 (fun w' => w'.cell? ⟨W.heap.size, 0, none⟩ = some (.int .i64 (nr x)) ∧ w'.cell? ⟨W.heap.size, 1, none⟩ = some (.int .i64 (nr y))) (go_keep)
    (first | (go_at_call 54; refine (dnr_any _ _).mono ?_; rintro e w' ⟨rfl, rfl⟩))
  go_wp2
  go_ret
  exact ⟨rfl, hL.drew⟩
end Go.Proofs.YtlpccjklgbfpaaaDoor
