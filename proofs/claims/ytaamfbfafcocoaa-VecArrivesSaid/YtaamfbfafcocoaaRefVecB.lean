/-
  What the reference of vec answers. Practice.
-/
import Derived.Test.YtaamfbfafcocoaaProg
import Derived.WalkKit
import Derived.WalkSpells
import Derived.WalkLawsBesides
import Derived.Deep.QuietTactic
import Derived.BigQuiet
import Derived.Lib.Hide
import Derived.Lib.Walk
import Derived.StillTailTactics
import Derived.Deep.RegionHeld3
import Derived.Test.YtaamfbfafcocoaaBox
import Derived.Test.YtaamfbfafcocoaaRefVec
namespace Go.Proofs.Ytaamfbfafcocoaa
open Go.RowKit Go.Lib


/-- The product of two nearest values. -/
theorem near_mul (x u : Int) : -1099511627776 ≤ near x * near u ∧ near x * near u ≤ 1099511627776 := by
  have h1 := near_bd x
  have h2 := near_bd u
  generalize near x = a at *
  generalize near u = b at *
  have e : (a * b).natAbs = a.natAbs * b.natAbs := Int.natAbs_mul a b
  have h : a.natAbs * b.natAbs ≤ 1048576 * 1048576 := Nat.mul_le_mul (by omega) (by omega)
  rw [← e] at h
  generalize a * b = c at *
  omega
set_option maxHeartbeats 1000000 in
theorem rside_any (x y : Int) (w : World) :
    Calls Try.prog 14 #[.agg #[.int .i64 x, .int .i64 y]] w fun e w' => e = .returned (.agg #[.int .i64 (-near y), .int .i64 (near x)]) ∧ Below w.heap.size w w' := by
  go_enter Try.func14, Try.ntmps14
  go_wp2_with fail
  ((with_reducible refine (rnearvec_any x y _).mono ?_); rintro e w1 ⟨rfl, hb1⟩)
  have A1 := (Box.new w (.int .i64 x) (.int .i64 y) 23).alloc (.cells #[.int .i64 0, .int .i64 0] 23)
  have A2 := Box.new (w.alloc (.cells #[.int .i64 x, .int .i64 y] 23)) (.int .i64 0) (.int .i64 0) 23
  have B1 := A1.below hb1
  have B2 : Box w1 (w.heap.size + 1) (.int .i64 0) (.int .i64 0) 23 := by have := A2.below hb1; simpa using this
  clear A1 A2
  obtain ⟨c11, c12, f11, f12⟩ := B1.cells
  obtain ⟨c21, c22, f21, f22⟩ := B2.cells
  have bx := near_bd x; have by' := near_bd y
  go_wp2_with fail
  have D2 := (B2.other ⟨w.heap.size, 0, none⟩ (.int .i64 (near x)) (by simp)).other ⟨w.heap.size, 1, none⟩ (.int .i64 (near y)) (by simp)
  replace D2 := D2.set0 (.int .i64 (-near y))
  obtain ⟨c30, -, -, -⟩ := D2.cells
  replace D2 := D2.set1 (.int .i64 (near x))
  obtain ⟨c31, c32, -, -⟩ := D2.cells
  refine bodyPost_ret (v := .agg #[.int .i64 (-near y), .int .i64 (near x)]) (by simp [results, Try.results14, go_sem, c31, c32]) rfl ⟨rfl, ?_⟩
  have h0 := ((Below.refl w.heap.size w).alloc (Nat.le_refl _) (.cells #[.int .i64 x, .int .i64 y] 23)).alloc (by simp) (.cells #[.int .i64 0, .int .i64 0] 23)
  have h1 := ((below_call h0 hb1).setCell (p := ⟨w.heap.size, 0, none⟩) (Nat.le_refl _) (.int .i64 (near x))).setCell (p := ⟨w.heap.size, 1, none⟩) (Nat.le_refl _) (.int .i64 (near y))
  exact (h1.setCell (by simp) _).setCell (by simp) _
set_option maxHeartbeats 1000000 in
theorem rdot_any (x y u v : Int) (w : World) :
    Calls Try.prog 19 #[.agg #[.int .i64 x, .int .i64 y], .agg #[.int .i64 u, .int .i64 v]] w fun e w' => e = .returned (.int .i64 (near x * near u + near y * near v)) ∧ Below w.heap.size w w' := by
  go_enter Try.func19, Try.ntmps19
  go_wp2_with fail
  ((with_reducible refine (rnearvec_any x y _).mono ?_); rintro e w1 ⟨rfl, hb1⟩)
  have A1 := (Box.new w (.int .i64 x) (.int .i64 y) 23).alloc (.cells #[.int .i64 u, .int .i64 v] 23)
  have A2 := Box.new (w.alloc (.cells #[.int .i64 x, .int .i64 y] 23)) (.int .i64 u) (.int .i64 v) 23
  have B1 := A1.below hb1
  have B2 : Box w1 (w.heap.size + 1) (.int .i64 u) (.int .i64 v) 23 := by have := A2.below hb1; simpa using this
  clear A1 A2
  obtain ⟨c11, c12, f11, f12⟩ := B1.cells
  obtain ⟨c21, c22, f21, f22⟩ := B2.cells
  replace B1 := (B1.set0 (.int .i64 (near x))).set1 (.int .i64 (near y))
  replace B2 := (B2.other ⟨w.heap.size, 0, none⟩ (.int .i64 (near x)) (by simp)).other ⟨w.heap.size, 1, none⟩ (.int .i64 (near y)) (by simp)
  go_wp2_with fail
  ((with_reducible refine (rnearvec_any u v _).mono ?_); rintro e w2 ⟨rfl, hb2⟩)
  replace B1 := B1.below hb2
  replace B2 := B2.below hb2
  clear c11 c12 f11 f12 c21 c22 f21 f22
  obtain ⟨c11, c12, f11, f12⟩ := B1.cells
  obtain ⟨c21, c22, f21, f22⟩ := B2.cells
  have bx := near_bd x; have by' := near_bd y; have bu := near_bd u; have bv := near_bd v
  have m1 := near_mul x u; have m2 := near_mul y v
  go_wp2_with fail
  refine bodyPost_ret (v := .int .i64 (near x * near u + near y * near v)) (by simp [results, Try.results19, go_sem]) rfl ⟨rfl, ?_⟩
  have h0 := ((Below.refl w.heap.size w).alloc (Nat.le_refl _) (.cells #[.int .i64 x, .int .i64 y] 23)).alloc (by simp) (.cells #[.int .i64 u, .int .i64 v] 23)
  have h1 := ((below_call h0 hb1).setCell (p := ⟨w.heap.size, 0, none⟩) (Nat.le_refl _) (.int .i64 (near x))).setCell (p := ⟨w.heap.size, 1, none⟩) (Nat.le_refl _) (.int .i64 (near y))
  exact ((below_call h1 hb2).setCell (p := ⟨w.heap.size + 1, 0, none⟩) (by simp) (.int .i64 (near u))).setCell (p := ⟨w.heap.size + 1, 1, none⟩) (by simp) (.int .i64 (near v))
theorem rnearvec_n (x y p q : Int) (w : World) (h : Hid (p = near x ∧ q = near y)) :
    Calls Try.prog 32 #[.agg #[.int .i64 x, .int .i64 y]] w fun e w' => e = .returned (.agg #[.int .i64 p, .int .i64 q]) ∧ Below w.heap.size w w' := by
  rw [h.out.1, h.out.2]; exact rnearvec_any x y w
set_option maxHeartbeats 1000000 in
theorem rvalid_tt (x y : Int) (w : World) (h : Hid (x = near x ∧ y = near y)) :
    Calls Try.prog 16 #[.agg #[.int .i64 x, .int .i64 y]] w fun e w' => e = .returned (.bool true) ∧ Below w.heap.size w w' := by
  go_enter Try.func16, Try.ntmps16
  go_wp2_with fail
  have hS := hv_start (Box.new w (.int .i64 x) (.int .i64 y) 23) ((Below.refl w.heap.size w).alloc (Nat.le_refl _) _)
  go_region_held3 (fun w' => w'.cell? ⟨w.heap.size, 0, none⟩ = some (.int .i64 x) ∧ w'.cell? ⟨w.heap.size, 1, none⟩ = some (.int .i64 y) ∧ Box w' w.heap.size (.int .i64 x) (.int .i64 y) 23 ∧ Below w.heap.size w w') (first | exact hS | exact hv_call (by assumption) (by assumption) | assumption)
    (first | (go_at_call 32; refine (rnearvec_n _ _ _ _ _ h).mono ?_; rintro e w' ⟨rfl, hb⟩))
  rename_i hH
  obtain ⟨-, -, -, hH⟩ := hH
  go_wp2
  exact bodyPost_ret (v := .bool true) (by simp [results, Try.results16, go_sem]) rfl ⟨rfl, hH⟩
set_option maxHeartbeats 1000000 in
theorem rvalid_f (x y p q : Int) (w : World) (h : Hid (p = near x ∧ q = near y)) (n : ¬ x = p) :
    Calls Try.prog 16 #[.agg #[.int .i64 x, .int .i64 y]] w fun e w' => e = .returned (.bool false) ∧ Below w.heap.size w w' := by
  go_enter Try.func16, Try.ntmps16
  go_wp2_with fail
  have hS := hv_start (Box.new w (.int .i64 x) (.int .i64 y) 23) ((Below.refl w.heap.size w).alloc (Nat.le_refl _) _)
  have n' : decide (x = p) = false := by simp [n]
  have n2 : (x == p) = false := by simp [n]
  go_region_held3 (fun w' => w'.cell? ⟨w.heap.size, 0, none⟩ = some (.int .i64 x) ∧ w'.cell? ⟨w.heap.size, 1, none⟩ = some (.int .i64 y) ∧ Box w' w.heap.size (.int .i64 x) (.int .i64 y) 23 ∧ Below w.heap.size w w') (first | exact hS | exact hv_call (by assumption) (by assumption) | assumption)
    (first | (go_at_call 32; refine (rnearvec_n _ _ _ _ _ h).mono ?_; rintro e w' ⟨rfl, hb⟩))
  rename_i hH
  obtain ⟨-, -, -, hH⟩ := hH
  go_wp2
  exact bodyPost_ret (v := .bool false) (by simp [results, Try.results16, go_sem]) rfl ⟨rfl, hH⟩
set_option maxHeartbeats 1000000 in
theorem rvalid_tf (x y q : Int) (w : World) (h : Hid (x = near x ∧ q = near y)) (n : ¬ y = q) :
    Calls Try.prog 16 #[.agg #[.int .i64 x, .int .i64 y]] w fun e w' => e = .returned (.bool false) ∧ Below w.heap.size w w' := by
  go_enter Try.func16, Try.ntmps16
  go_wp2_with fail
  have hS := hv_start (Box.new w (.int .i64 x) (.int .i64 y) 23) ((Below.refl w.heap.size w).alloc (Nat.le_refl _) _)
  have n' : decide (y = q) = false := by simp [n]
  have n2 : (y == q) = false := by simp [n]
  go_region_held3 (fun w' => w'.cell? ⟨w.heap.size, 0, none⟩ = some (.int .i64 x) ∧ w'.cell? ⟨w.heap.size, 1, none⟩ = some (.int .i64 y) ∧ Box w' w.heap.size (.int .i64 x) (.int .i64 y) 23 ∧ Below w.heap.size w w') (first | exact hS | exact hv_call (by assumption) (by assumption) | assumption)
    (first | (go_at_call 32; refine (rnearvec_n _ _ _ _ _ h).mono ?_; rintro e w' ⟨rfl, hb⟩))
  rename_i hH
  obtain ⟨-, -, -, hH⟩ := hH
  go_wp2
  exact bodyPost_ret (v := .bool false) (by simp [results, Try.results16, go_sem]) rfl ⟨rfl, hH⟩
/-- Is each component its own nearest value? -/
def vld (x y : Int) : Bool := decide (x = near x) && decide (y = near y)
theorem rvalid_any (x y : Int) (w : World) :
    Calls Try.prog 16 #[.agg #[.int .i64 x, .int .i64 y]] w fun e w' => e = .returned (.bool (vld x y)) ∧ Below w.heap.size w w' := by
  by_cases hx : x = near x
  · by_cases hy : y = near y
    · have : vld x y = true := by unfold vld; rw [decide_eq_true hx, decide_eq_true hy]; rfl
      rw [this]; exact rvalid_tt x y w (hid ⟨hx, hy⟩)
    · have : vld x y = false := by unfold vld; rw [decide_eq_false hy, Bool.and_false]
      rw [this]; exact rvalid_tf x y _ w (hid ⟨hx, rfl⟩) hy
  · have : vld x y = false := by unfold vld; rw [decide_eq_false hx, Bool.false_and]
    rw [this]; exact rvalid_f x y _ _ w (hid ⟨rfl, rfl⟩) hx

end Go.Proofs.Ytaamfbfafcocoaa
