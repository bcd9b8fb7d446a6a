/-
  What the small functions of vec answer: the nearest value of a number and of a vector; the opposite.
-/
import Derived.Test.YtaamfbfafcocoaaProg
import Derived.WalkKit
import Derived.WalkSpells
import Derived.WalkLawsBesides
import Derived.Deep.QuietTactic
import Derived.BigQuiet
import Derived.Lib.Hide
import Derived.Lib.Walk
import Derived.LoopN
import Derived.StillTailTactics
import Derived.Deep.RegionHeld3
import Derived.Test.YtaamfbfafcocoaaBox
import Derived.Test.YtaamfbfafcocoaaRefVec
namespace Go.Proofs.Ytaamfbfafcocoaa
open Go.RowKit Go.Lib

theorem max_near (n : Int) : max (-1048576) (min n 1048576) = near n := by unfold near; omega
set_option maxHeartbeats 400000 in
theorem vclamp_any (n : Int) (w : World) :
    Calls Try.prog 42 #[.int .i64 n, .int .i64 (-1048576), .int .i64 1048576] w fun e w' => e = .returned (.int .i64 (near n)) ∧ w = w' := by
  go_enter Try.func42, Try.ntmps42
  go_wp2
  go_ret
  exact ⟨ret_num (by unfold near; omega), rfl⟩
set_option maxHeartbeats 400000 in
theorem vnear_any (n : Int) (w : World) :
    Calls Try.prog 38 #[.int .i64 n] w fun e w' => e = .returned (.int .i64 (near n)) ∧ w = w' := by
  go_enter Try.func38, Try.ntmps38
  go_wp2_with fail
  ((with_reducible refine (vclamp_any n _).mono ?_); rintro e w1 ⟨rfl, hw⟩)
  rw [← hw]
  clear hw
  go_wp2_with fail
  go_ret
  exact ⟨rfl, rfl⟩
theorem vnear_n (n m : Int) (w : World) (h : Hid (m = near n)) :
    Calls Try.prog 38 #[.int .i64 n] w fun e w' => e = .returned (.int .i64 m) ∧ w = w' := by rw [h.out]; exact vnear_any n w

set_option maxHeartbeats 400000 in
theorem vnearest_any (x y : Int) (w : World) :
    Calls Try.prog 35 #[.agg #[.int .i64 x, .int .i64 y]] w fun e w' => e = .returned (.agg #[.int .i64 (near x), .int .i64 (near y)]) ∧ Below w.heap.size w w' := by
  go_enter Try.func35, Try.ntmps35
  go_wp2_with fail
  go_region_held3 (fun w' => w'.cell? ⟨w.heap.size, 0, none⟩ = some (.int .i64 x) ∧ w'.cell? ⟨w.heap.size, 1, none⟩ = some (.int .i64 y)) (go_keep)
    (first | (go_at_call 38; with_reducible refine (vnear_any _ _).mono ?_; rintro e w' ⟨rfl, rfl⟩))
  go_wp2
  refine bodyPost_ret (v := .agg #[.int .i64 (near x), .int .i64 (near y)]) (by simp [results, Try.results35, go_sem]) rfl ⟨rfl, ?_⟩
  exact (((Below.refl _ _).alloc (Nat.le_refl _) _).alloc (by simp) _).drew
theorem vnearest_n (x y p q : Int) (w : World) (h : Hid (p = near x ∧ q = near y)) :
    Calls Try.prog 35 #[.agg #[.int .i64 x, .int .i64 y]] w fun e w' => e = .returned (.agg #[.int .i64 p, .int .i64 q]) ∧ Below w.heap.size w w' := by
  rw [h.out.1, h.out.2]; exact vnearest_any x y w

set_option maxHeartbeats 1000000 in
theorem vopposite_any (x y : Int) (w : World) :
    Calls Try.prog 34 #[.agg #[.int .i64 x, .int .i64 y]] w fun e w' => e = .returned (.agg #[.int .i64 (-near x), .int .i64 (-near y)]) ∧ Below w.heap.size w w' := by
  go_enter Try.func34, Try.ntmps34
  go_wp2_with fail
  ((with_reducible refine (vnearest_any x y _).mono ?_); rintro e w1 ⟨rfl, hb1⟩)
  have A1 := (Box.new w (.int .i64 x) (.int .i64 y) 23).alloc (.cells #[.int .i64 0, .int .i64 0] 23)
  have A2 := Box.new (w.alloc (.cells #[.int .i64 x, .int .i64 y] 23)) (.int .i64 0) (.int .i64 0) 23
  have B1 := A1.below hb1
  have B2 : Box w1 (w.heap.size + 1) (.int .i64 0) (.int .i64 0) 23 := by have := A2.below hb1; simpa using this
  clear A1 A2
  obtain ⟨c11, c12, f11, f12⟩ := B1.cells
  obtain ⟨c21, c22, f21, f22⟩ := B2.cells
  have bx := near_bd x; have by' := near_bd y
  go_wp2_with fail
  have D2 := (B2.other ⟨w.heap.size, 0, none⟩ (.int .i64 (near x)) (by simp)).other ⟨w.heap.size, 1, none⟩ (.int .i64 (near y)) (by simp)
  replace D2 := D2.set0 (.int .i64 (-near x))
  obtain ⟨c30, -, -, -⟩ := D2.cells
  replace D2 := D2.set1 (.int .i64 (-near y))
  obtain ⟨c31, c32, -, -⟩ := D2.cells
  refine bodyPost_ret (v := .agg #[.int .i64 (-near x), .int .i64 (-near y)]) (by simp [results, Try.results34, go_sem, c31, c32]) rfl ⟨rfl, ?_⟩
  have h0 := ((Below.refl w.heap.size w).alloc (Nat.le_refl _) (.cells #[.int .i64 x, .int .i64 y] 23)).alloc (by simp) (.cells #[.int .i64 0, .int .i64 0] 23)
  have h1 := ((below_call h0 hb1).setCell (p := ⟨w.heap.size, 0, none⟩) (Nat.le_refl _) (.int .i64 (near x))).setCell (p := ⟨w.heap.size, 1, none⟩) (Nat.le_refl _) (.int .i64 (near y))
  exact (h1.setCell (by simp) _).setCell (by simp) _
set_option maxHeartbeats 1000000 in
theorem vside_any (x y : Int) (w : World) :
    Calls Try.prog 13 #[.agg #[.int .i64 x, .int .i64 y]] w fun e w' => e = .returned (.agg #[.int .i64 (-near y), .int .i64 (near x)]) ∧ Below w.heap.size w w' := by
  go_enter Try.func13, Try.ntmps13
  go_wp2_with fail
  ((with_reducible refine (vnearest_any x y _).mono ?_); rintro e w1 ⟨rfl, hb1⟩)
  have A1 := (Box.new w (.int .i64 x) (.int .i64 y) 23).alloc (.cells #[.int .i64 0, .int .i64 0] 23)
  have A2 := Box.new (w.alloc (.cells #[.int .i64 x, .int .i64 y] 23)) (.int .i64 0) (.int .i64 0) 23
  have B1 := A1.below hb1
  have B2 : Box w1 (w.heap.size + 1) (.int .i64 0) (.int .i64 0) 23 := by have := A2.below hb1; simpa using this
  clear A1 A2
  obtain ⟨c11, c12, f11, f12⟩ := B1.cells
  obtain ⟨c21, c22, f21, f22⟩ := B2.cells
  have bx := near_bd x; have by' := near_bd y
  go_wp2_with fail
  have D2 := (B2.other ⟨w.heap.size, 0, none⟩ (.int .i64 (near x)) (by simp)).other ⟨w.heap.size, 1, none⟩ (.int .i64 (near y)) (by simp)
  replace D2 := D2.set0 (.int .i64 (-near y))
  obtain ⟨c30, -, -, -⟩ := D2.cells
  replace D2 := D2.set1 (.int .i64 (near x))
  obtain ⟨c31, c32, -, -⟩ := D2.cells
  refine bodyPost_ret (v := .agg #[.int .i64 (-near y), .int .i64 (near x)]) (by simp [results, Try.results13, go_sem, c31, c32]) rfl ⟨rfl, ?_⟩
  have h0 := ((Below.refl w.heap.size w).alloc (Nat.le_refl _) (.cells #[.int .i64 x, .int .i64 y] 23)).alloc (by simp) (.cells #[.int .i64 0, .int .i64 0] 23)
  have h1 := ((below_call h0 hb1).setCell (p := ⟨w.heap.size, 0, none⟩) (Nat.le_refl _) (.int .i64 (near x))).setCell (p := ⟨w.heap.size, 1, none⟩) (Nat.le_refl _) (.int .i64 (near y))
  exact (h1.setCell (by simp) _).setCell (by simp) _

end Go.Proofs.Ytaamfbfafcocoaa
