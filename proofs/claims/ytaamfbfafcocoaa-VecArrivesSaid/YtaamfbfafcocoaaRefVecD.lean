/-
  What the reference of vec answers. Practice.
-/
import Derived.Test.YtaamfbfafcocoaaProg
import Derived.WalkKit
import Derived.IntWalk
import Derived.WalkSpells
import Derived.WalkLawsBesides
import Derived.Deep.QuietTactic
import Derived.BigQuiet
import Derived.Lib.Hide
import Derived.Lib.Walk
import Derived.StillTailTactics
import Derived.Deep.RegionHeld3
import Derived.Test.YtaamfbfafcocoaaBox
import Derived.Test.YtaamfbfafcocoaaRefVec
import Derived.Test.YtaamfbfafcocoaaRefVecB
import Derived.Test.YtaamfbfafcocoaaRefVecC
import Derived.Test.YtaamfbfafcocoaaRefSqrt
namespace Go.Proofs.Ytaamfbfafcocoaa
open Go.RowKit Go.Lib




theorem len2_bd (x y : Int) : 0 ≤ near x * near x + near y * near y ∧ near x * near x + near y * near y ≤ 2199023255552 := by
  have h1 := sq_bd _ (near_bd x); have h2 := sq_bd _ (near_bd y)
  omega
set_option maxHeartbeats 1000000 in
theorem rlen_any (x y : Int) (w : World) :
    Calls Try.prog 23 #[.agg #[.int .i64 x, .int .i64 y]] w fun e w' => ∃ r, RRoot (near x * near x + near y * near y) r ∧ e = .returned (.int .i64 r) ∧ Below w.heap.size w w' := by
  have bl := len2_bd x y
  go_enter Try.func23, Try.ntmps23
  go_wp2_with fail
  ((with_reducible refine (rlen2_any x y _).mono ?_); rintro e w1 ⟨rfl, hb1⟩)
  go_wp2_with fail
  ((with_reducible refine (risqrt_any _ _ bl.1 (by omega)).mono ?_); rintro e w2 ⟨r, hr, rfl, rfl⟩)
  go_wp2_with fail
  exact bodyPost_ret (v := .int .i64 r) (by simp [results, Try.results23, go_sem]) rfl ⟨r, hr, rfl, below_call ((Below.refl w.heap.size w).alloc (Nat.le_refl _) _) hb1⟩

set_option maxHeartbeats 1000000 in
theorem rpart_zero (x y k l : Int) (w : World) (hz : Hid (0 = near l)) :
    Calls Try.prog 25 #[.agg #[.int .i64 x, .int .i64 y], .int .i64 k, .int .i64 l] w fun e w' => e = .returned (.agg #[.int .i64 0, .int .i64 0]) ∧ Below w.heap.size w w' := by
  go_enter Try.func25, Try.ntmps25
  go_wp2_with fail
  ((with_reducible refine (rnearvec_any x y _).mono ?_); rintro e w1 ⟨rfl, hb1⟩)
  have A1 := (Box.new w (.int .i64 x) (.int .i64 y) 23).alloc (.cells #[.int .i64 0, .int .i64 0] 23)
  have A2 := Box.new (w.alloc (.cells #[.int .i64 x, .int .i64 y] 23)) (.int .i64 0) (.int .i64 0) 23
  have B1 := A1.below hb1
  have B2 : Box w1 (w.heap.size + 1) (.int .i64 0) (.int .i64 0) 23 := by have := A2.below hb1; simpa using this
  clear A1 A2
  obtain ⟨c11, c12, f11, f12⟩ := B1.cells
  obtain ⟨c21, c22, f21, f22⟩ := B2.cells
  go_wp2_with fail
  ((with_reducible refine (rnear_any k _).mono ?_); rintro e w2 ⟨rfl, hw2⟩)
  rw [← hw2]
  clear hw2
  go_wp2_with fail
  ((with_reducible refine (rnear_n l 0 _ hz).mono ?_); rintro e w3 ⟨rfl, hw3⟩)
  rw [← hw3]
  clear hw3
  go_wp2_with fail
  have D2 := (B2.other ⟨w.heap.size, 0, none⟩ (.int .i64 (near x)) (by simp)).other ⟨w.heap.size, 1, none⟩ (.int .i64 (near y)) (by simp)
  replace D2 := D2.set0 (.int .i64 0)
  obtain ⟨c30, -, -, -⟩ := D2.cells
  replace D2 := D2.set1 (.int .i64 0)
  obtain ⟨c31, c32, -, -⟩ := D2.cells
  refine bodyPost_ret (v := .agg #[.int .i64 0, .int .i64 0]) (by simp [results, Try.results25, go_sem, c31, c32]) rfl ⟨rfl, ?_⟩
  have h0 := ((Below.refl w.heap.size w).alloc (Nat.le_refl _) (.cells #[.int .i64 x, .int .i64 y] 23)).alloc (by simp) (.cells #[.int .i64 0, .int .i64 0] 23)
  have h1 := ((below_call h0 hb1).setCell (p := ⟨w.heap.size, 0, none⟩) (Nat.le_refl _) (.int .i64 (near x))).setCell (p := ⟨w.heap.size, 1, none⟩) (Nat.le_refl _) (.int .i64 (near y))
  exact (h1.setCell (by simp) _).setCell (by simp) _

/-- A truncated quotient is not farther from zero. -/
theorem tdiv_bd (a d : Int) (h : -1099511627776 ≤ a ∧ a ≤ 1099511627776) : -1099511627776 ≤ a.tdiv d ∧ a.tdiv d ≤ 1099511627776 := by
  have := Int.natAbs_tdiv a d
  have h2 : a.natAbs / d.natAbs ≤ a.natAbs := Nat.div_le_self _ _
  have e : a.natAbs.div d.natAbs = a.natAbs / d.natAbs := rfl
  rw [← e, ← this] at h2
  generalize a.tdiv d = q at *
  omega
set_option maxHeartbeats 1000000 in
theorem rpart_some (x y k l d : Int) (w : World) (hd : Hid (d = near l)) (hz : ¬ d = 0) :
    Calls Try.prog 25 #[.agg #[.int .i64 x, .int .i64 y], .int .i64 k, .int .i64 l] w fun e w' => e = .returned (.agg #[.int .i64 (near ((near x * near k).tdiv d)), .int .i64 (near ((near y * near k).tdiv d))]) ∧ Below w.heap.size w w' := by
  have dd : -1048576 ≤ d ∧ d ≤ 1048576 := by rw [hd.out]; exact near_bd l
  go_enter Try.func25, Try.ntmps25
  go_wp2_with fail
  ((with_reducible refine (rnearvec_any x y _).mono ?_); rintro e w1 ⟨rfl, hb1⟩)
  have A1 := (Box.new w (.int .i64 x) (.int .i64 y) 23).alloc (.cells #[.int .i64 0, .int .i64 0] 23)
  have A2 := Box.new (w.alloc (.cells #[.int .i64 x, .int .i64 y] 23)) (.int .i64 0) (.int .i64 0) 23
  have B1 := A1.below hb1
  have B2 : Box w1 (w.heap.size + 1) (.int .i64 0) (.int .i64 0) 23 := by have := A2.below hb1; simpa using this
  clear A1 A2
  obtain ⟨c11, c12, f11, f12⟩ := B1.cells
  obtain ⟨c21, c22, f21, f22⟩ := B2.cells
  go_wp2_with fail
  ((with_reducible refine (rnear_any k _).mono ?_); rintro e w2 ⟨rfl, hw2⟩)
  rw [← hw2]
  clear hw2
  go_wp2_with fail
  ((with_reducible refine (rnear_n l d _ hd).mono ?_); rintro e w3 ⟨rfl, hw3⟩)
  rw [← hw3]
  clear hw3
  go_wp2_with fail
  have D1 := (B1.set0 (.int .i64 (near x))).set1 (.int .i64 (near y))
  have D2 := (B2.other ⟨w.heap.size, 0, none⟩ (.int .i64 (near x)) (by simp)).other ⟨w.heap.size, 1, none⟩ (.int .i64 (near y)) (by simp)
  have hd' : (d == 0) = false := by assumption
  have m1 := near_mul x k; have m2 := near_mul y k
  have t1 := tdiv_bd _ d m1; have t2 := tdiv_bd _ d m2
  have e1 : IntKind.i64.wrap (near x * near k) = near x * near k := IntWalk.i64_in _ (by omega)
  have e2 : IntKind.i64.wrap (near y * near k) = near y * near k := IntWalk.i64_in _ (by omega)
  have e3 : IntKind.i64.wrap ((near x * near k).tdiv d) = (near x * near k).tdiv d := IntWalk.i64_in _ (by omega)
  have e4 : IntKind.i64.wrap ((near y * near k).tdiv d) = (near y * near k).tdiv d := IntWalk.i64_in _ (by omega)
  have h0 := ((Below.refl w.heap.size w).alloc (Nat.le_refl _) (.cells #[.int .i64 x, .int .i64 y] 23)).alloc (by simp) (.cells #[.int .i64 0, .int .i64 0] 23)
  have h1 := ((below_call h0 hb1).setCell (p := ⟨w.heap.size, 0, none⟩) (Nat.le_refl _) (.int .i64 (near x))).setCell (p := ⟨w.heap.size, 1, none⟩) (Nat.le_refl _) (.int .i64 (near y))
  generalize (w1.setCell ⟨w.heap.size, 0, none⟩ (.int .i64 (near x))).setCell ⟨w.heap.size, 1, none⟩ (.int .i64 (near y)) = W at *
  clear c11 c12 f11 f12 c21 c22 f21 f22
  obtain ⟨c11, c12, f11, f12⟩ := D1.cells
  go_still_tail 13, (by kernel_rfl)
  change wpList _ _ _ _ _ W.drew
  replace D1 := D1.drew
  replace D2 := D2.drew
  replace h1 := h1.drew
  clear c11 c12 f11 f12 e1 e2 e3 e4
  generalize W.drew = W2 at *
  go_wp2_with fail
  ((with_reducible refine (rnearvec_any ((near x * near k).tdiv d) ((near y * near k).tdiv d) _).mono ?_); rintro e w4 ⟨rfl, hb4⟩)
  replace D2 := D2.below hb4
  replace h1 := below_call h1 hb4
  obtain ⟨c21, c22, f21, f22⟩ := D2.cells
  go_wp2_with fail
  clear c21 c22 f21 f22
  replace D2 := D2.set0 (.int .i64 (near ((near x * near k).tdiv d)))
  obtain ⟨c30, -, -, -⟩ := D2.cells
  replace D2 := D2.set1 (.int .i64 (near ((near y * near k).tdiv d)))
  obtain ⟨c31, c32, -, -⟩ := D2.cells
  refine bodyPost_ret (v := .agg #[.int .i64 (near ((near x * near k).tdiv d)), .int .i64 (near ((near y * near k).tdiv d))]) (by simp [results, Try.results25, go_sem, c31, c32]) rfl ⟨rfl, ?_⟩
  exact (h1.setCell (by simp) _).setCell (by simp) _

end Go.Proofs.Ytaamfbfafcocoaa
