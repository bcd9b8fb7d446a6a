/-
  What the reference of vec answers. Practice.
-/
import Derived.Test.YtaamfbfafcocoaaProg
import Derived.WalkKit
import Derived.WalkSpells
import Derived.WalkLawsBesides
import Derived.Deep.QuietTactic
import Derived.BigQuiet
import Derived.Lib.Hide
import Derived.Lib.Walk
import Derived.StillTailTactics
import Derived.Deep.RegionHeld3
import Derived.Test.YtaamfbfafcocoaaBox
namespace Go.Proofs.Ytaamfbfafcocoaa
open Go.RowKit Go.Lib

theorem ret_num {k : IntKind} {a b : Int} (h : a = b) : Ending.returned (.int k a) = .returned (.int k b) := by rw [h]
def near (n : Int) : Int := min (max n (-1048576)) 1048576
theorem near_bd (n : Int) : -1048576 ≤ near n ∧ near n ≤ 1048576 := by unfold near; omega

set_option maxHeartbeats 400000 in
theorem rnear_any (n : Int) (w : World) :
    Calls Try.prog 31 #[.int .i64 n] w fun e w' => e = .returned (.int .i64 (near n)) ∧ w = w' := by
  go_enter Try.func31, Try.ntmps31
  go_wp2
  go_ret
  exact ⟨rfl, rfl⟩
theorem rnear_n (n m : Int) (w : World) (h : Hid (m = near n)) :
    Calls Try.prog 31 #[.int .i64 n] w fun e w' => e = .returned (.int .i64 m) ∧ w = w' := by rw [h.out]; exact rnear_any n w

set_option maxHeartbeats 400000 in
theorem rnearvec_any (x y : Int) (w : World) :
    Calls Try.prog 32 #[.agg #[.int .i64 x, .int .i64 y]] w fun e w' => e = .returned (.agg #[.int .i64 (near x), .int .i64 (near y)]) ∧ Below w.heap.size w w' := by
  go_enter Try.func32, Try.ntmps32
  go_wp2_with fail
  go_region_held3 (fun w' => w'.cell? ⟨w.heap.size, 0, none⟩ = some (.int .i64 x) ∧ w'.cell? ⟨w.heap.size, 1, none⟩ = some (.int .i64 y)) (go_keep)
    (first | (go_at_call 31; refine (rnear_any _ _).mono ?_; rintro e w' ⟨rfl, rfl⟩))
  go_wp2
  refine bodyPost_ret (v := .agg #[.int .i64 (near x), .int .i64 (near y)]) (by simp [results, Try.results32, go_sem]) rfl ⟨rfl, ?_⟩
  exact (((Below.refl _ _).alloc (Nat.le_refl _) _).alloc (by simp) _).drew


set_option maxHeartbeats 1000000 in
theorem radd_any (x y u v : Int) (w : World) :
    Calls Try.prog 10 #[.agg #[.int .i64 x, .int .i64 y], .agg #[.int .i64 u, .int .i64 v]] w fun e w' => e = .returned (.agg #[.int .i64 (near (near x + near u)), .int .i64 (near (near y + near v))]) ∧ Below w.heap.size w w' := by
  go_enter Try.func10, Try.ntmps10
  go_wp2_with fail
  ((with_reducible refine (rnearvec_any x y _).mono ?_); rintro e w1 ⟨rfl, hb1⟩)
  have hs1 : (((w.alloc (.cells #[.int .i64 x, .int .i64 y] 23)).alloc (.cells #[.int .i64 u, .int .i64 v] 23)).alloc (.cells #[.int .i64 0, .int .i64 0] 23)).heap.size = w.heap.size + 3 := by simp
  have A1 := ((Box.new w (.int .i64 x) (.int .i64 y) 23).alloc (.cells #[.int .i64 u, .int .i64 v] 23)).alloc (.cells #[.int .i64 0, .int .i64 0] 23)
  have A2 := (Box.new (w.alloc (.cells #[.int .i64 x, .int .i64 y] 23)) (.int .i64 u) (.int .i64 v) 23).alloc (.cells #[.int .i64 0, .int .i64 0] 23)
  have A3 := Box.new ((w.alloc (.cells #[.int .i64 x, .int .i64 y] 23)).alloc (.cells #[.int .i64 u, .int .i64 v] 23)) (.int .i64 0) (.int .i64 0) 23
  have B1 := A1.below hb1
  have B2 : Box w1 (w.heap.size + 1) (.int .i64 u) (.int .i64 v) 23 := by have := A2.below hb1; simpa using this
  have B3 : Box w1 (w.heap.size + 1 + 1) (.int .i64 0) (.int .i64 0) 23 := by have := A3.below hb1; simpa using this
  clear A1 A2 A3
  obtain ⟨c11, c12, f11, f12⟩ := B1.cells
  obtain ⟨c21, c22, f21, f22⟩ := B2.cells
  obtain ⟨c31, c32, f31, f32⟩ := B3.cells
  replace B1 := (B1.set0 (.int .i64 (near x))).set1 (.int .i64 (near y))
  replace B2 := (B2.other ⟨w.heap.size, 0, none⟩ (.int .i64 (near x)) (by simp)).other ⟨w.heap.size, 1, none⟩ (.int .i64 (near y)) (by simp)
  replace B3 := (B3.other ⟨w.heap.size, 0, none⟩ (.int .i64 (near x)) (by show w.heap.size + 1 + 1 ≠ w.heap.size; omega)).other ⟨w.heap.size, 1, none⟩ (.int .i64 (near y)) (by show w.heap.size + 1 + 1 ≠ w.heap.size; omega)
  go_wp2_with fail
  ((with_reducible refine (rnearvec_any u v _).mono ?_); rintro e w2 ⟨rfl, hb2⟩)
  replace B1 := B1.below hb2
  replace B2 := B2.below hb2
  replace B3 := B3.below hb2
  clear c11 c12 f11 f12 c21 c22 f21 f22 c31 c32 f31 f32
  obtain ⟨c11, c12, f11, f12⟩ := B1.cells
  obtain ⟨c21, c22, f21, f22⟩ := B2.cells
  obtain ⟨c31, c32, f31, f32⟩ := B3.cells
  replace B3 := (B3.other ⟨w.heap.size + 1, 0, none⟩ (.int .i64 (near u)) (by simp)).other ⟨w.heap.size + 1, 1, none⟩ (.int .i64 (near v)) (by simp)
  have bx := near_bd x; have by' := near_bd y; have bu := near_bd u; have bv := near_bd v
  go_wp2_with fail
  ((with_reducible refine (rnearvec_any (near x + near u) (near y + near v) _).mono ?_); rintro e w3 ⟨rfl, hb3⟩)
  replace B3 := B3.below hb3
  clear c11 c12 f11 f12 c21 c22 f21 f22 c31 c32 f31 f32
  obtain ⟨c31, c32, f31, f32⟩ := B3.cells
  go_wp2_with fail
  replace B3 := B3.set0 (.int .i64 (near (near x + near u)))
  clear c31 c32 f31 f32
  obtain ⟨c30, -, -, -⟩ := B3.cells
  replace B3 := B3.set1 (.int .i64 (near (near y + near v)))
  obtain ⟨c31, c32, -, -⟩ := B3.cells
  refine bodyPost_ret (v := .agg #[.int .i64 (near (near x + near u)), .int .i64 (near (near y + near v))]) (by simp [results, Try.results10, go_sem, c31, c32]) rfl ⟨rfl, ?_⟩
  have h0 := (((Below.refl w.heap.size w).alloc (Nat.le_refl _) (.cells #[.int .i64 x, .int .i64 y] 23)).alloc (by simp) (.cells #[.int .i64 u, .int .i64 v] 23)).alloc (by simp; omega) (.cells #[.int .i64 0, .int .i64 0] 23)
  have h1 := ((below_call h0 hb1).setCell (p := ⟨w.heap.size, 0, none⟩) (Nat.le_refl _) (.int .i64 (near x))).setCell (p := ⟨w.heap.size, 1, none⟩) (Nat.le_refl _) (.int .i64 (near y))
  have h2 := ((below_call h1 hb2).setCell (p := ⟨w.heap.size + 1, 0, none⟩) (by simp) (.int .i64 (near u))).setCell (p := ⟨w.heap.size + 1, 1, none⟩) (by simp) (.int .i64 (near v))
  exact ((below_call h2 hb3).setCell (by simp; omega) _).setCell (by simp; omega) _

set_option maxHeartbeats 1000000 in
theorem rsub_any (x y u v : Int) (w : World) :
    Calls Try.prog 12 #[.agg #[.int .i64 x, .int .i64 y], .agg #[.int .i64 u, .int .i64 v]] w fun e w' => e = .returned (.agg #[.int .i64 (near (near x - near u)), .int .i64 (near (near y - near v))]) ∧ Below w.heap.size w w' := by
  go_enter Try.func12, Try.ntmps12
  go_wp2_with fail
  ((with_reducible refine (rnearvec_any x y _).mono ?_); rintro e w1 ⟨rfl, hb1⟩)
  have hs1 : (((w.alloc (.cells #[.int .i64 x, .int .i64 y] 23)).alloc (.cells #[.int .i64 u, .int .i64 v] 23)).alloc (.cells #[.int .i64 0, .int .i64 0] 23)).heap.size = w.heap.size + 3 := by simp
  have A1 := ((Box.new w (.int .i64 x) (.int .i64 y) 23).alloc (.cells #[.int .i64 u, .int .i64 v] 23)).alloc (.cells #[.int .i64 0, .int .i64 0] 23)
  have A2 := (Box.new (w.alloc (.cells #[.int .i64 x, .int .i64 y] 23)) (.int .i64 u) (.int .i64 v) 23).alloc (.cells #[.int .i64 0, .int .i64 0] 23)
  have A3 := Box.new ((w.alloc (.cells #[.int .i64 x, .int .i64 y] 23)).alloc (.cells #[.int .i64 u, .int .i64 v] 23)) (.int .i64 0) (.int .i64 0) 23
  have B1 := A1.below hb1
  have B2 : Box w1 (w.heap.size + 1) (.int .i64 u) (.int .i64 v) 23 := by have := A2.below hb1; simpa using this
  have B3 : Box w1 (w.heap.size + 1 + 1) (.int .i64 0) (.int .i64 0) 23 := by have := A3.below hb1; simpa using this
  clear A1 A2 A3
  obtain ⟨c11, c12, f11, f12⟩ := B1.cells
  obtain ⟨c21, c22, f21, f22⟩ := B2.cells
  obtain ⟨c31, c32, f31, f32⟩ := B3.cells
  replace B1 := (B1.set0 (.int .i64 (near x))).set1 (.int .i64 (near y))
  replace B2 := (B2.other ⟨w.heap.size, 0, none⟩ (.int .i64 (near x)) (by simp)).other ⟨w.heap.size, 1, none⟩ (.int .i64 (near y)) (by simp)
  replace B3 := (B3.other ⟨w.heap.size, 0, none⟩ (.int .i64 (near x)) (by show w.heap.size + 1 + 1 ≠ w.heap.size; omega)).other ⟨w.heap.size, 1, none⟩ (.int .i64 (near y)) (by show w.heap.size + 1 + 1 ≠ w.heap.size; omega)
  go_wp2_with fail
  ((with_reducible refine (rnearvec_any u v _).mono ?_); rintro e w2 ⟨rfl, hb2⟩)
  replace B1 := B1.below hb2
  replace B2 := B2.below hb2
  replace B3 := B3.below hb2
  clear c11 c12 f11 f12 c21 c22 f21 f22 c31 c32 f31 f32
  obtain ⟨c11, c12, f11, f12⟩ := B1.cells
  obtain ⟨c21, c22, f21, f22⟩ := B2.cells
  obtain ⟨c31, c32, f31, f32⟩ := B3.cells
  replace B3 := (B3.other ⟨w.heap.size + 1, 0, none⟩ (.int .i64 (near u)) (by simp)).other ⟨w.heap.size + 1, 1, none⟩ (.int .i64 (near v)) (by simp)
  have bx := near_bd x; have by' := near_bd y; have bu := near_bd u; have bv := near_bd v
  go_wp2_with fail
  ((with_reducible refine (rnearvec_any (near x - near u) (near y - near v) _).mono ?_); rintro e w3 ⟨rfl, hb3⟩)
  replace B3 := B3.below hb3
  clear c11 c12 f11 f12 c21 c22 f21 f22 c31 c32 f31 f32
  obtain ⟨c31, c32, f31, f32⟩ := B3.cells
  go_wp2_with fail
  replace B3 := B3.set0 (.int .i64 (near (near x - near u)))
  clear c31 c32 f31 f32
  obtain ⟨c30, -, -, -⟩ := B3.cells
  replace B3 := B3.set1 (.int .i64 (near (near y - near v)))
  obtain ⟨c31, c32, -, -⟩ := B3.cells
  refine bodyPost_ret (v := .agg #[.int .i64 (near (near x - near u)), .int .i64 (near (near y - near v))]) (by simp [results, Try.results12, go_sem, c31, c32]) rfl ⟨rfl, ?_⟩
  have h0 := (((Below.refl w.heap.size w).alloc (Nat.le_refl _) (.cells #[.int .i64 x, .int .i64 y] 23)).alloc (by simp) (.cells #[.int .i64 u, .int .i64 v] 23)).alloc (by simp; omega) (.cells #[.int .i64 0, .int .i64 0] 23)
  have h1 := ((below_call h0 hb1).setCell (p := ⟨w.heap.size, 0, none⟩) (Nat.le_refl _) (.int .i64 (near x))).setCell (p := ⟨w.heap.size, 1, none⟩) (Nat.le_refl _) (.int .i64 (near y))
  have h2 := ((below_call h1 hb2).setCell (p := ⟨w.heap.size + 1, 0, none⟩) (by simp) (.int .i64 (near u))).setCell (p := ⟨w.heap.size + 1, 1, none⟩) (by simp) (.int .i64 (near v))
  exact ((below_call h2 hb3).setCell (by simp; omega) _).setCell (by simp; omega) _

end Go.Proofs.Ytaamfbfafcocoaa
