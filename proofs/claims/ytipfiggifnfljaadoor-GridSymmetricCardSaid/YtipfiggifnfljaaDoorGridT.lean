/-
  What the reference of grid answers: absolute values, rectangles, cells by index.
-/
import Derived.Test.YtipfiggifnfljaaDoorGridS
namespace Go.Proofs.YtipfiggifnfljaaDoor
open Go.RowKit Go.Lib

set_option maxHeartbeats 400000 in
theorem rabs_any (n : Int) (w : World) (h : -4194304 ≤ n ∧ n ≤ 4194304) :
    Calls Tryd.prog 44 #[.int .i64 n] w fun e w' => e = .returned (.int .i64 (absv n)) ∧ w = w' := by
  obtain ⟨h1, h2⟩ := h
  go_enter Tryd.func44, Tryd.ntmps44
  go_wp2
  go_ret
  exact ⟨rfl, rfl⟩
set_option maxHeartbeats 1000000 in
theorem rrect_x (x y u v : Int) (w : World) :
    Calls Tryd.prog 46 #[.agg #[.int .i64 x, .int .i64 y, .int .i64 u, .int .i64 v]] w fun e w' => e = .returned (.agg #[.int .i64 (nr x), .int .i64 (nr y), .int .i64 (nr u), .int .i64 (nr v)]) ∧ Below w.heap.size w w' := by
  go_enter Tryd.func46, Tryd.ntmps46
  go_wp2_with fail
  go_region_held3 (fun w' => w'.cell? ⟨w.heap.size, 0, none⟩ = some (.int .i64 x) ∧ w'.cell? ⟨w.heap.size, 1, none⟩ = some (.int .i64 y) ∧ w'.cell? ⟨w.heap.size, 2, none⟩ = some (.int .i64 u) ∧ w'.cell? ⟨w.heap.size, 3, none⟩ = some (.int .i64 v)) (go_keep)
    (first | (go_at_call 41; refine (rnr_any _ _).mono ?_; rintro e w' ⟨rfl, rfl⟩))
  go_wp2
  refine bodyPost_ret (v := .agg #[.int .i64 (nr x), .int .i64 (nr y), .int .i64 (nr u), .int .i64 (nr v)]) (by simp [results, Tryd.results46, go_sem]) rfl ⟨rfl, ?_⟩
  exact (((Below.refl _ _).alloc (Nat.le_refl _) _).alloc (by simp) _).drew
theorem rrect_any (r : R4) (w : World) :
    Calls Tryd.prog 46 #[r.val] w fun e w' => e = .returned r.nrm.val ∧ Below w.heap.size w w' := rrect_x r.x r.y r.w r.h w
set_option maxHeartbeats 1000000 in
theorem rat_any (w i : Int) (W : World) (hi : i ≤ 9223372036854775807) :
    Calls Tryd.prog 18 #[.int .i64 w, .int .i64 i] W fun e w' => e = .returned (.agg #[.int .i64 (atx w i), .int .i64 (aty w i)]) ∧ Below W.heap.size W w' := by
  by_cases h : w < 1 ∨ i < 0
  · rw [show atx w i = 0 from if_pos h, show aty w i = 0 from if_pos h]
    by_cases h1 : w < 1
    · go_enter Tryd.func18, Tryd.ntmps18
      go_wp2
      refine bodyPost_ret (v := .agg #[.int .i64 0, .int .i64 0]) (by simp [results, Tryd.results18, go_sem]) rfl ⟨rfl, ?_⟩
      exact ((Below.refl _ _).alloc (Nat.le_refl _) _)
    · have h2 : i < 0 := by omega
      go_enter Tryd.func18, Tryd.ntmps18
      go_wp2
      refine bodyPost_ret (v := .agg #[.int .i64 0, .int .i64 0]) (by simp [results, Tryd.results18, go_sem]) rfl ⟨rfl, ?_⟩
      exact ((Below.refl _ _).alloc (Nat.le_refl _) _)
  · rw [show atx w i = i % w from if_neg h, show aty w i = i / w from if_neg h]
    have h1 : 1 ≤ w := by omega
    have h2 : 0 ≤ i := by omega
    have z1 : decide (w < 1) = false := decide_eq_false (by omega)
    have z2 : decide (i < 0) = false := decide_eq_false (by omega)
    have n : ¬ w = 0 := by omega
    have e1 : i.tmod w = i % w := Int.tmod_eq_emod_of_nonneg h2
    have e2 : i.tdiv w = i / w := Int.tdiv_eq_ediv_of_nonneg h2
    have e3 : wrap64 (i / w) = i / w := IntWalk.wrap64_in _ (by have := Int.ediv_nonneg h2 (show 0 ≤ w by omega); have := Int.ediv_le_self w h2; omega)
    go_enter Tryd.func18, Tryd.ntmps18
    go_wp2
    go_region
    all_goals
      go_wp2
      refine bodyPost_ret (v := .agg #[.int .i64 (i % w), .int .i64 (i / w)]) (by simp [results, Tryd.results18, go_sem]) rfl ⟨rfl, ?_⟩
      exact ((Below.refl _ _).alloc (Nat.le_refl _) _).drew

end Go.Proofs.YtipfiggifnfljaaDoor
