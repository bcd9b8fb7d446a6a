/-
  What the reference of vec answers. Practice.
-/
import Derived.Test.YtaamfbfafcocoaaProg
import Derived.WalkKit
import Derived.IntWalk
import Derived.WalkSpells
import Derived.WalkLawsBesides
import Derived.Deep.QuietTactic
import Derived.BigQuiet
import Derived.Lib.Hide
import Derived.Lib.Walk
import Derived.StillTailTactics
import Derived.Deep.RegionHeld3
import Derived.Test.YtaamfbfafcocoaaBox
import Derived.Test.YtaamfbfafcocoaaRefVec
import Derived.Test.YtaamfbfafcocoaaRefVecB
import Derived.Test.YtaamfbfafcocoaaRefVecC
import Derived.Test.YtaamfbfafcocoaaRefVecD
import Derived.Test.YtaamfbfafcocoaaRefSqrt
namespace Go.Proofs.Ytaamfbfafcocoaa
open Go.RowKit Go.Lib




theorem near_near (n : Int) : near (near n) = near n := by unfold near; omega
theorem farv_near (x y u v : Int) : farv (near x) (near y) (near u) (near v) = farv x y u v := by unfold farv; rw [near_near, near_near, near_near, near_near]
set_option maxHeartbeats 2000000 in
theorem rtoward_stay (x y u v sp s : Int) (w : World) (hs : Hid (s = near sp)) (h0 : s ≤ 0) :
    Calls Try.prog 27 #[.agg #[.int .i64 x, .int .i64 y], .agg #[.int .i64 u, .int .i64 v], .int .i64 sp] w fun e w' => e = .returned (.agg #[.int .i64 (near x), .int .i64 (near y)]) ∧ Below w.heap.size w w' := by
  go_enter Try.func27, Try.ntmps27
  go_wp2_with fail
  ((with_reducible refine (rnearvec_any x y _).mono ?_); rintro e w1 ⟨rfl, hb1⟩)
  have A1 := ((Box.new w (.int .i64 x) (.int .i64 y) 23).alloc (.cells #[.int .i64 u, .int .i64 v] 23)).alloc (.cells #[.int .i64 0, .int .i64 0] 23)
  have A2 := (Box.new (w.alloc (.cells #[.int .i64 x, .int .i64 y] 23)) (.int .i64 u) (.int .i64 v) 23).alloc (.cells #[.int .i64 0, .int .i64 0] 23)
  have A3 := Box.new ((w.alloc (.cells #[.int .i64 x, .int .i64 y] 23)).alloc (.cells #[.int .i64 u, .int .i64 v] 23)) (.int .i64 0) (.int .i64 0) 23
  have B1 := A1.below hb1
  have B2 : Box w1 (w.heap.size + 1) (.int .i64 u) (.int .i64 v) 23 := by have := A2.below hb1; simpa using this
  have B3 : Box w1 (w.heap.size + 1 + 1) (.int .i64 0) (.int .i64 0) 23 := by have := A3.below hb1; simpa using this
  clear A1 A2 A3
  obtain ⟨c11, c12, f11, f12⟩ := B1.cells
  obtain ⟨c21, c22, f21, f22⟩ := B2.cells
  obtain ⟨c31, c32, f31, f32⟩ := B3.cells
  replace B1 := (B1.set0 (.int .i64 (near x))).set1 (.int .i64 (near y))
  replace B2 := (B2.other ⟨w.heap.size, 0, none⟩ (.int .i64 (near x)) (by simp)).other ⟨w.heap.size, 1, none⟩ (.int .i64 (near y)) (by simp)
  replace B3 := (B3.other ⟨w.heap.size, 0, none⟩ (.int .i64 (near x)) (by show w.heap.size + 1 + 1 ≠ w.heap.size; omega)).other ⟨w.heap.size, 1, none⟩ (.int .i64 (near y)) (by show w.heap.size + 1 + 1 ≠ w.heap.size; omega)
  have h0 := (((Below.refl w.heap.size w).alloc (Nat.le_refl _) (.cells #[.int .i64 x, .int .i64 y] 23)).alloc (by simp) (.cells #[.int .i64 u, .int .i64 v] 23)).alloc (by simp; omega) (.cells #[.int .i64 0, .int .i64 0] 23)
  have h1 := ((below_call h0 hb1).setCell (p := ⟨w.heap.size, 0, none⟩) (Nat.le_refl _) (.int .i64 (near x))).setCell (p := ⟨w.heap.size, 1, none⟩) (Nat.le_refl _) (.int .i64 (near y))
  go_wp2_with fail
  generalize (w1.setCell ⟨w.heap.size, 0, none⟩ (.int .i64 (near x))).setCell ⟨w.heap.size, 1, none⟩ (.int .i64 (near y)) = W1 at *
  clear c11 c12 f11 f12 c21 c22 f21 f22 c31 c32 f31 f32 h0 hb1
  ((with_reducible refine (rnearvec_any u v _).mono ?_); rintro e w2 ⟨rfl, hb2⟩)
  replace B1 := B1.below hb2
  replace B2 := B2.below hb2
  replace B3 := B3.below hb2
  obtain ⟨c21, c22, f21, f22⟩ := B2.cells
  replace B1 := (B1.other ⟨w.heap.size + 1, 0, none⟩ (.int .i64 (near u)) (by simp)).other ⟨w.heap.size + 1, 1, none⟩ (.int .i64 (near v)) (by simp)
  replace B2 := (B2.set0 (.int .i64 (near u))).set1 (.int .i64 (near v))
  replace B3 := (B3.other ⟨w.heap.size + 1, 0, none⟩ (.int .i64 (near u)) (by simp)).other ⟨w.heap.size + 1, 1, none⟩ (.int .i64 (near v)) (by simp)
  have h2 := ((below_call h1 hb2).setCell (p := ⟨w.heap.size + 1, 0, none⟩) (by simp) (.int .i64 (near u))).setCell (p := ⟨w.heap.size + 1, 1, none⟩) (by simp) (.int .i64 (near v))
  go_wp2_with fail
  generalize (w2.setCell ⟨w.heap.size + 1, 0, none⟩ (.int .i64 (near u))).setCell ⟨w.heap.size + 1, 1, none⟩ (.int .i64 (near v)) = W2 at *
  clear c21 c22 f21 f22 h1 hb2
  obtain ⟨c11, c12, f11, f12⟩ := B1.cells
  obtain ⟨c21, c22, f21, f22⟩ := B2.cells
  obtain ⟨c31, c32, f31, f32⟩ := B3.cells
  ((with_reducible refine (rnear_n sp s _ hs).mono ?_); rintro e w3 ⟨rfl, hw3⟩)
  rw [← hw3]
  clear hw3
  go_wp2_with fail
  clear c31 c32 f31 f32
  replace B3 := B3.set0 (.int .i64 (near x))
  obtain ⟨c30, -, -, -⟩ := B3.cells
  replace B3 := B3.set1 (.int .i64 (near y))
  obtain ⟨c31, c32, -, -⟩ := B3.cells
  refine bodyPost_ret (v := .agg #[.int .i64 (near x), .int .i64 (near y)]) (by simp [results, Try.results27, go_sem, c31, c32]) rfl ⟨rfl, ?_⟩
  exact (h2.setCell (by simp; omega) _).setCell (by simp; omega) _
set_option maxHeartbeats 2000000 in
theorem rtoward_goal (x y u v sp s : Int) (w : World) (hs : Hid (s = near sp)) (d : Int) (hd : Hid (d = farv (near x) (near y) (near u) (near v))) (h0 : ¬ s ≤ 0) (h1 : d ≤ s * s) :
    Calls Try.prog 27 #[.agg #[.int .i64 x, .int .i64 y], .agg #[.int .i64 u, .int .i64 v], .int .i64 sp] w fun e w' => e = .returned (.agg #[.int .i64 (near u), .int .i64 (near v)]) ∧ Below w.heap.size w w' := by
  have bs : -1048576 ≤ s ∧ s ≤ 1048576 := by rw [hs.out]; exact near_bd sp
  have bq := sq_bd s bs
  have bd : 0 ≤ d ∧ d ≤ 8796093022208 := by rw [hd.out]; exact farv_bd _ _ _ _
  go_enter Try.func27, Try.ntmps27
  go_wp2_with fail
  ((with_reducible refine (rnearvec_any x y _).mono ?_); rintro e w1 ⟨rfl, hb1⟩)
  have A1 := ((Box.new w (.int .i64 x) (.int .i64 y) 23).alloc (.cells #[.int .i64 u, .int .i64 v] 23)).alloc (.cells #[.int .i64 0, .int .i64 0] 23)
  have A2 := (Box.new (w.alloc (.cells #[.int .i64 x, .int .i64 y] 23)) (.int .i64 u) (.int .i64 v) 23).alloc (.cells #[.int .i64 0, .int .i64 0] 23)
  have A3 := Box.new ((w.alloc (.cells #[.int .i64 x, .int .i64 y] 23)).alloc (.cells #[.int .i64 u, .int .i64 v] 23)) (.int .i64 0) (.int .i64 0) 23
  have B1 := A1.below hb1
  have B2 : Box w1 (w.heap.size + 1) (.int .i64 u) (.int .i64 v) 23 := by have := A2.below hb1; simpa using this
  have B3 : Box w1 (w.heap.size + 1 + 1) (.int .i64 0) (.int .i64 0) 23 := by have := A3.below hb1; simpa using this
  clear A1 A2 A3
  obtain ⟨c11, c12, f11, f12⟩ := B1.cells
  obtain ⟨c21, c22, f21, f22⟩ := B2.cells
  obtain ⟨c31, c32, f31, f32⟩ := B3.cells
  replace B1 := (B1.set0 (.int .i64 (near x))).set1 (.int .i64 (near y))
  replace B2 := (B2.other ⟨w.heap.size, 0, none⟩ (.int .i64 (near x)) (by simp)).other ⟨w.heap.size, 1, none⟩ (.int .i64 (near y)) (by simp)
  replace B3 := (B3.other ⟨w.heap.size, 0, none⟩ (.int .i64 (near x)) (by show w.heap.size + 1 + 1 ≠ w.heap.size; omega)).other ⟨w.heap.size, 1, none⟩ (.int .i64 (near y)) (by show w.heap.size + 1 + 1 ≠ w.heap.size; omega)
  have h0 := (((Below.refl w.heap.size w).alloc (Nat.le_refl _) (.cells #[.int .i64 x, .int .i64 y] 23)).alloc (by simp) (.cells #[.int .i64 u, .int .i64 v] 23)).alloc (by simp; omega) (.cells #[.int .i64 0, .int .i64 0] 23)
  have h1 := ((below_call h0 hb1).setCell (p := ⟨w.heap.size, 0, none⟩) (Nat.le_refl _) (.int .i64 (near x))).setCell (p := ⟨w.heap.size, 1, none⟩) (Nat.le_refl _) (.int .i64 (near y))
  go_wp2_with fail
  generalize (w1.setCell ⟨w.heap.size, 0, none⟩ (.int .i64 (near x))).setCell ⟨w.heap.size, 1, none⟩ (.int .i64 (near y)) = W1 at *
  clear c11 c12 f11 f12 c21 c22 f21 f22 c31 c32 f31 f32 h0 hb1
  ((with_reducible refine (rnearvec_any u v _).mono ?_); rintro e w2 ⟨rfl, hb2⟩)
  replace B1 := B1.below hb2
  replace B2 := B2.below hb2
  replace B3 := B3.below hb2
  obtain ⟨c21, c22, f21, f22⟩ := B2.cells
  replace B1 := (B1.other ⟨w.heap.size + 1, 0, none⟩ (.int .i64 (near u)) (by simp)).other ⟨w.heap.size + 1, 1, none⟩ (.int .i64 (near v)) (by simp)
  replace B2 := (B2.set0 (.int .i64 (near u))).set1 (.int .i64 (near v))
  replace B3 := (B3.other ⟨w.heap.size + 1, 0, none⟩ (.int .i64 (near u)) (by simp)).other ⟨w.heap.size + 1, 1, none⟩ (.int .i64 (near v)) (by simp)
  have h2 := ((below_call h1 hb2).setCell (p := ⟨w.heap.size + 1, 0, none⟩) (by simp) (.int .i64 (near u))).setCell (p := ⟨w.heap.size + 1, 1, none⟩) (by simp) (.int .i64 (near v))
  go_wp2_with fail
  generalize (w2.setCell ⟨w.heap.size + 1, 0, none⟩ (.int .i64 (near u))).setCell ⟨w.heap.size + 1, 1, none⟩ (.int .i64 (near v)) = W2 at *
  clear c21 c22 f21 f22 h1 hb2
  obtain ⟨c11, c12, f11, f12⟩ := B1.cells
  obtain ⟨c21, c22, f21, f22⟩ := B2.cells
  obtain ⟨c31, c32, f31, f32⟩ := B3.cells
  ((with_reducible refine (rnear_n sp s _ hs).mono ?_); rintro e w3 ⟨rfl, hw3⟩)
  rw [← hw3]
  clear hw3
  go_wp2_with fail
  ((with_reducible refine (rfar_n (near x) (near y) (near u) (near v) d _ hd).mono ?_); rintro e w4 ⟨rfl, hb4⟩)
  replace B1 := B1.below hb4
  replace B2 := B2.below hb4
  replace B3 := B3.below hb4
  replace h2 := below_call h2 hb4
  clear c11 c12 f11 f12 c21 c22 f21 f22 c31 c32 f31 f32
  obtain ⟨c11, c12, f11, f12⟩ := B1.cells
  obtain ⟨c21, c22, f21, f22⟩ := B2.cells
  obtain ⟨c31, c32, f31, f32⟩ := B3.cells
  go_wp2_with fail
  clear c31 c32 f31 f32
  replace B3 := B3.set0 (.int .i64 (near u))
  obtain ⟨c30, -, -, -⟩ := B3.cells
  replace B3 := B3.set1 (.int .i64 (near v))
  obtain ⟨c31, c32, -, -⟩ := B3.cells
  refine bodyPost_ret (v := .agg #[.int .i64 (near u), .int .i64 (near v)]) (by simp [results, Try.results27, go_sem, c31, c32]) rfl ⟨rfl, ?_⟩
  exact (h2.setCell (by simp; omega) _).setCell (by simp; omega) _
/-- The root of d, rounded up. -/
def CRoot (d n : Int) : Prop := 1 ≤ n ∧ (n - 1) * (n - 1) < d ∧ d ≤ n * n
theorem CRoot.same {d n m : Int} (h : CRoot d n) (k : CRoot d m) : n = m := by
  obtain ⟨h0, h1, h2⟩ := h
  obtain ⟨k0, k1, k2⟩ := k
  rcases Int.lt_trichotomy n m with g | g | g
  · have := rsq_mono (show 0 ≤ n by omega) (show n ≤ m - 1 by omega); omega
  · exact g
  · have := rsq_mono (show 0 ≤ m by omega) (show m ≤ n - 1 by omega); omega
theorem RRoot.bd {d r : Int} (h : RRoot d r) (h0 : 1 ≤ d) (h1 : d ≤ 8796093022208) : 1 ≤ r ∧ r ≤ 4194304 ∧ 0 ≤ r * r ∧ r * r ≤ 8796093022208 := by
  obtain ⟨a, b, c⟩ := h
  have p : 1 ≤ r := by
    by_cases q : r = 0
    · subst q; omega
    · omega
  refine ⟨p, ?_, Int.mul_nonneg a a, by omega⟩
  by_cases q : r ≤ 4194304
  · exact q
  · have := rsq_mono (show (0 : Int) ≤ 4194305 by omega) (show 4194305 ≤ r by omega); omega
theorem RRoot.up {d r : Int} (h : RRoot d r) (h0 : 1 ≤ r) (k : r * r < d) : CRoot d (r + 1) := by
  obtain ⟨a, b, c⟩ := h
  exact ⟨by omega, by rw [show r + 1 - 1 = r by omega]; exact k, by omega⟩
theorem RRoot.exact {d r : Int} (h : RRoot d r) (h0 : 1 ≤ r) (k : ¬ r * r < d) : CRoot d r := by
  obtain ⟨a, b, c⟩ := h
  have := rsq_mono (show 0 ≤ r - 1 by omega) (show r - 1 ≤ r by omega)
  refine ⟨h0, ?_, by omega⟩
  have e : (r - 1) * (r - 1) = r * r - (2 * r - 1) := by rw [Int.mul_sub, Int.sub_mul]; omega
  omega
/-- A component of a step. -/
theorem step_bd (x u s : Int) (hs : -1048576 ≤ s ∧ s ≤ 1048576) : -2199023255552 ≤ (near u - near x) * s ∧ (near u - near x) * s ≤ 2199023255552 := by
  have h1 := near_bd x
  have h2 := near_bd u
  generalize near x = a at *
  generalize near u = b at *
  have hc : (b - a).natAbs ≤ 2097152 := by omega
  generalize b - a = c at *
  have e : (c * s).natAbs = c.natAbs * s.natAbs := Int.natAbs_mul c s
  have h : c.natAbs * s.natAbs ≤ 2097152 * 1048576 := Nat.mul_le_mul hc (by omega)
  rw [← e] at h
  generalize c * s = d at *
  omega
theorem tdiv_bd2 (a d : Int) (h : -2199023255552 ≤ a ∧ a ≤ 2199023255552) : -2199023255552 ≤ a.tdiv d ∧ a.tdiv d ≤ 2199023255552 := by
  have := Int.natAbs_tdiv a d
  have h2 : a.natAbs / d.natAbs ≤ a.natAbs := Nat.div_le_self _ _
  have e : a.natAbs.div d.natAbs = a.natAbs / d.natAbs := rfl
  rw [← e, ← this] at h2
  generalize a.tdiv d = q at *
  omega
set_option maxHeartbeats 2000000 in
theorem rtoward_step (x y u v sp s : Int) (w : World) (hs : Hid (s = near sp)) (d : Int) (hd : Hid (d = farv (near x) (near y) (near u) (near v))) (h0 : ¬ s ≤ 0) (h1 : ¬ d ≤ s * s) :
    Calls Try.prog 27 #[.agg #[.int .i64 x, .int .i64 y], .agg #[.int .i64 u, .int .i64 v], .int .i64 sp] w fun e w' => (∃ n, CRoot d n ∧ e = .returned (.agg #[.int .i64 (near x + ((near u - near x) * s).tdiv n), .int .i64 (near y + ((near v - near y) * s).tdiv n)])) ∧ Below w.heap.size w w' := by
  have bs : -1048576 ≤ s ∧ s ≤ 1048576 := by rw [hs.out]; exact near_bd sp
  have bq := sq_bd s bs
  have bd : 0 ≤ d ∧ d ≤ 8796093022208 := by rw [hd.out]; exact farv_bd _ _ _ _
  go_enter Try.func27, Try.ntmps27
  go_wp2_with fail
  ((with_reducible refine (rnearvec_any x y _).mono ?_); rintro e w1 ⟨rfl, hb1⟩)
  have A1 := ((Box.new w (.int .i64 x) (.int .i64 y) 23).alloc (.cells #[.int .i64 u, .int .i64 v] 23)).alloc (.cells #[.int .i64 0, .int .i64 0] 23)
  have A2 := (Box.new (w.alloc (.cells #[.int .i64 x, .int .i64 y] 23)) (.int .i64 u) (.int .i64 v) 23).alloc (.cells #[.int .i64 0, .int .i64 0] 23)
  have A3 := Box.new ((w.alloc (.cells #[.int .i64 x, .int .i64 y] 23)).alloc (.cells #[.int .i64 u, .int .i64 v] 23)) (.int .i64 0) (.int .i64 0) 23
  have B1 := A1.below hb1
  have B2 : Box w1 (w.heap.size + 1) (.int .i64 u) (.int .i64 v) 23 := by have := A2.below hb1; simpa using this
  have B3 : Box w1 (w.heap.size + 1 + 1) (.int .i64 0) (.int .i64 0) 23 := by have := A3.below hb1; simpa using this
  clear A1 A2 A3
  obtain ⟨c11, c12, f11, f12⟩ := B1.cells
  obtain ⟨c21, c22, f21, f22⟩ := B2.cells
  obtain ⟨c31, c32, f31, f32⟩ := B3.cells
  replace B1 := (B1.set0 (.int .i64 (near x))).set1 (.int .i64 (near y))
  replace B2 := (B2.other ⟨w.heap.size, 0, none⟩ (.int .i64 (near x)) (by simp)).other ⟨w.heap.size, 1, none⟩ (.int .i64 (near y)) (by simp)
  replace B3 := (B3.other ⟨w.heap.size, 0, none⟩ (.int .i64 (near x)) (by show w.heap.size + 1 + 1 ≠ w.heap.size; omega)).other ⟨w.heap.size, 1, none⟩ (.int .i64 (near y)) (by show w.heap.size + 1 + 1 ≠ w.heap.size; omega)
  have h0 := (((Below.refl w.heap.size w).alloc (Nat.le_refl _) (.cells #[.int .i64 x, .int .i64 y] 23)).alloc (by simp) (.cells #[.int .i64 u, .int .i64 v] 23)).alloc (by simp; omega) (.cells #[.int .i64 0, .int .i64 0] 23)
  have h1 := ((below_call h0 hb1).setCell (p := ⟨w.heap.size, 0, none⟩) (Nat.le_refl _) (.int .i64 (near x))).setCell (p := ⟨w.heap.size, 1, none⟩) (Nat.le_refl _) (.int .i64 (near y))
  go_wp2_with fail
  generalize (w1.setCell ⟨w.heap.size, 0, none⟩ (.int .i64 (near x))).setCell ⟨w.heap.size, 1, none⟩ (.int .i64 (near y)) = W1 at *
  clear c11 c12 f11 f12 c21 c22 f21 f22 c31 c32 f31 f32 h0 hb1
  ((with_reducible refine (rnearvec_any u v _).mono ?_); rintro e w2 ⟨rfl, hb2⟩)
  replace B1 := B1.below hb2
  replace B2 := B2.below hb2
  replace B3 := B3.below hb2
  obtain ⟨c21, c22, f21, f22⟩ := B2.cells
  replace B1 := (B1.other ⟨w.heap.size + 1, 0, none⟩ (.int .i64 (near u)) (by simp)).other ⟨w.heap.size + 1, 1, none⟩ (.int .i64 (near v)) (by simp)
  replace B2 := (B2.set0 (.int .i64 (near u))).set1 (.int .i64 (near v))
  replace B3 := (B3.other ⟨w.heap.size + 1, 0, none⟩ (.int .i64 (near u)) (by simp)).other ⟨w.heap.size + 1, 1, none⟩ (.int .i64 (near v)) (by simp)
  have h2 := ((below_call h1 hb2).setCell (p := ⟨w.heap.size + 1, 0, none⟩) (by simp) (.int .i64 (near u))).setCell (p := ⟨w.heap.size + 1, 1, none⟩) (by simp) (.int .i64 (near v))
  go_wp2_with fail
  generalize (w2.setCell ⟨w.heap.size + 1, 0, none⟩ (.int .i64 (near u))).setCell ⟨w.heap.size + 1, 1, none⟩ (.int .i64 (near v)) = W2 at *
  clear c21 c22 f21 f22 h1 hb2
  obtain ⟨c11, c12, f11, f12⟩ := B1.cells
  obtain ⟨c21, c22, f21, f22⟩ := B2.cells
  obtain ⟨c31, c32, f31, f32⟩ := B3.cells
  ((with_reducible refine (rnear_n sp s _ hs).mono ?_); rintro e w3 ⟨rfl, hw3⟩)
  rw [← hw3]
  clear hw3
  go_wp2_with fail
  ((with_reducible refine (rfar_n (near x) (near y) (near u) (near v) d _ hd).mono ?_); rintro e w4 ⟨rfl, hb4⟩)
  replace B1 := B1.below hb4
  replace B2 := B2.below hb4
  replace B3 := B3.below hb4
  replace h2 := below_call h2 hb4
  clear c11 c12 f11 f12 c21 c22 f21 f22 c31 c32 f31 f32
  obtain ⟨c11, c12, f11, f12⟩ := B1.cells
  obtain ⟨c21, c22, f21, f22⟩ := B2.cells
  obtain ⟨c31, c32, f31, f32⟩ := B3.cells
  go_wp2_with fail
  ((with_reducible refine (risqrt_any d _ bd.1 (by omega)).mono ?_); rintro e w5 ⟨r, hr, rfl, hw5⟩)
  rw [← hw5]
  clear hw5
  have hr' := hid hr
  have br := hr.bd (by omega) bd.2
  clear hr
  have g1 := step_bd x u s bs; have g2 := step_bd y v s bs
  have bx := near_bd x; have by' := near_bd y; have bu := near_bd u; have bv := near_bd v
  by_cases hq : r * r < d
  · have hc := hid (hr'.out.up br.1 hq)
    go_wp2_with fail
    have hn := hid (show 1 ≤ r + 1 ∧ r + 1 ≤ 4194305 by omega)
    generalize r + 1 = n at *
    have t1 := tdiv_bd2 _ n g1; have t2 := tdiv_bd2 _ n g2
    have hz : (n == 0) = false := by have := hn.out; simp; omega
    have hz' : ¬ n = 0 := by have := hn.out; omega
    have e1 : IntKind.i64.wrap (near u - near x) = near u - near x := IntWalk.i64_in _ (by omega)
    have e2 : IntKind.i64.wrap (near v - near y) = near v - near y := IntWalk.i64_in _ (by omega)
    have e3 : IntKind.i64.wrap ((near u - near x) * s) = (near u - near x) * s := IntWalk.i64_in _ (by omega)
    have e4 : IntKind.i64.wrap ((near v - near y) * s) = (near v - near y) * s := IntWalk.i64_in _ (by omega)
    have e5 : IntKind.i64.wrap (((near u - near x) * s).tdiv n) = ((near u - near x) * s).tdiv n := IntWalk.i64_in _ (by omega)
    have e6 : IntKind.i64.wrap (((near v - near y) * s).tdiv n) = ((near v - near y) * s).tdiv n := IntWalk.i64_in _ (by omega)
    have e7 : IntKind.i64.wrap (near x + ((near u - near x) * s).tdiv n) = near x + ((near u - near x) * s).tdiv n := IntWalk.i64_in _ (by omega)
    have e8 : IntKind.i64.wrap (near y + ((near v - near y) * s).tdiv n) = near y + ((near v - near y) * s).tdiv n := IntWalk.i64_in _ (by omega)
    go_still_tail 25, (by kernel_rfl)
    change wpList _ _ _ _ _ w4.drew
    replace B3 := B3.drew
    replace h2 := h2.drew
    clear c11 c12 f11 f12 c21 c22 f21 f22 c31 c32 f31 f32 e1 e2 e3 e4 e5 e6 e7 e8
    generalize w4.drew = W4 at *
    obtain ⟨c31, c32, f31, f32⟩ := B3.cells
    go_wp2_with fail
    clear c31 c32 f31 f32
    replace B3 := B3.set0 (.int .i64 (near x + ((near u - near x) * s).tdiv n))
    obtain ⟨c30, -, -, -⟩ := B3.cells
    replace B3 := B3.set1 (.int .i64 (near y + ((near v - near y) * s).tdiv n))
    obtain ⟨c31, c32, -, -⟩ := B3.cells
    refine bodyPost_ret (v := .agg #[.int .i64 (near x + ((near u - near x) * s).tdiv n), .int .i64 (near y + ((near v - near y) * s).tdiv n)]) (by simp [results, Try.results27, go_sem, c31, c32]) rfl ⟨⟨_, hc.out, rfl⟩, ?_⟩
    exact (h2.setCell (by simp; omega) _).setCell (by simp; omega) _
  · have hc := hid (hr'.out.exact br.1 hq)
    go_wp2_with fail
    have hn := hid (show 1 ≤ r ∧ r ≤ 4194305 by omega)
    have t1 := tdiv_bd2 _ r g1; have t2 := tdiv_bd2 _ r g2
    have hz : (r == 0) = false := by have := hn.out; simp; omega
    have hz' : ¬ r = 0 := by have := hn.out; omega
    have e1 : IntKind.i64.wrap (near u - near x) = near u - near x := IntWalk.i64_in _ (by omega)
    have e2 : IntKind.i64.wrap (near v - near y) = near v - near y := IntWalk.i64_in _ (by omega)
    have e3 : IntKind.i64.wrap ((near u - near x) * s) = (near u - near x) * s := IntWalk.i64_in _ (by omega)
    have e4 : IntKind.i64.wrap ((near v - near y) * s) = (near v - near y) * s := IntWalk.i64_in _ (by omega)
    have e5 : IntKind.i64.wrap (((near u - near x) * s).tdiv r) = ((near u - near x) * s).tdiv r := IntWalk.i64_in _ (by omega)
    have e6 : IntKind.i64.wrap (((near v - near y) * s).tdiv r) = ((near v - near y) * s).tdiv r := IntWalk.i64_in _ (by omega)
    have e7 : IntKind.i64.wrap (near x + ((near u - near x) * s).tdiv r) = near x + ((near u - near x) * s).tdiv r := IntWalk.i64_in _ (by omega)
    have e8 : IntKind.i64.wrap (near y + ((near v - near y) * s).tdiv r) = near y + ((near v - near y) * s).tdiv r := IntWalk.i64_in _ (by omega)
    go_still_tail 25, (by kernel_rfl)
    change wpList _ _ _ _ _ w4.drew
    replace B3 := B3.drew
    replace h2 := h2.drew
    clear c11 c12 f11 f12 c21 c22 f21 f22 c31 c32 f31 f32 e1 e2 e3 e4 e5 e6 e7 e8
    generalize w4.drew = W4 at *
    obtain ⟨c31, c32, f31, f32⟩ := B3.cells
    go_wp2_with fail
    clear c31 c32 f31 f32
    replace B3 := B3.set0 (.int .i64 (near x + ((near u - near x) * s).tdiv r))
    obtain ⟨c30, -, -, -⟩ := B3.cells
    replace B3 := B3.set1 (.int .i64 (near y + ((near v - near y) * s).tdiv r))
    obtain ⟨c31, c32, -, -⟩ := B3.cells
    refine bodyPost_ret (v := .agg #[.int .i64 (near x + ((near u - near x) * s).tdiv r), .int .i64 (near y + ((near v - near y) * s).tdiv r)]) (by simp [results, Try.results27, go_sem, c31, c32]) rfl ⟨⟨_, hc.out, rfl⟩, ?_⟩
    exact (h2.setCell (by simp; omega) _).setCell (by simp; omega) _

end Go.Proofs.Ytaamfbfafcocoaa
