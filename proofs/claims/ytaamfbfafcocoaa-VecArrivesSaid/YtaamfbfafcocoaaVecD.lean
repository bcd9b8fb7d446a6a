/-
  What Len, Part, Within of vec and its inner functions distance2 and rootUp answer.
-/
import Derived.Test.YtaamfbfafcocoaaProg
import Derived.WalkKit
import Derived.IntWalk
import Derived.WalkSpells
import Derived.WalkLawsBesides
import Derived.Deep.QuietTactic
import Derived.BigQuiet
import Derived.Lib.Hide
import Derived.Lib.Walk
import Derived.StillTailTactics
import Derived.Deep.RegionHeld3
import Derived.Deep.RegionWith
import Derived.Test.YtaamfbfafcocoaaVecC
namespace Go.Proofs.Ytaamfbfafcocoaa
open Go.RowKit Go.Lib

set_option maxHeartbeats 1000000 in
theorem vlen_any (x y : Int) (w : World) :
    Calls Try.prog 22 #[.agg #[.int .i64 x, .int .i64 y]] w fun e w' => ∃ r, RRoot (near x * near x + near y * near y) r ∧ e = .returned (.int .i64 r) ∧ Below w.heap.size w w' := by
  have bl := len2_bd x y
  go_enter Try.func22, Try.ntmps22
  go_wp2_with fail
  ((with_reducible refine (vlen2_any x y _).mono ?_); rintro e w1 ⟨rfl, hb1⟩)
  go_wp2_with fail
  have hL := below_call ((Below.refl w.heap.size w).alloc (Nat.le_refl _) (.cells #[.int .i64 x, .int .i64 y] 23)) hb1
  by_cases h0 : near x * near x + near y * near y ≤ 0
  · ((with_reducible refine (isqrt_low _ _ h0).mono ?_); rintro e w2 ⟨rfl, rfl⟩)
    go_wp2_with fail
    refine bodyPost_ret (v := .int .i64 0) (by simp [results, Try.results22, go_sem]) rfl ⟨0, ⟨by omega, by omega, by omega⟩, rfl, hL⟩
  · ((with_reducible refine (isqrt_any _ _ (by omega) (by omega)).mono ?_); rintro e w2 ⟨r, hr, rfl, rfl⟩)
    go_wp2_with fail
    refine bodyPost_ret (v := .int .i64 r) (by simp [results, Try.results22, go_sem]) rfl ⟨r, hr, rfl, hL⟩

set_option maxHeartbeats 1000000 in
theorem vroot_any (d : Int) (w : World) (h0 : 2 ≤ d) (h1 : d ≤ 8796093022208) :
    Calls Try.prog 40 #[.int .i64 d] w fun e w' => ∃ n, CRoot d n ∧ e = .returned (.int .i64 n) ∧ w = w' := by
  go_enter Try.func40, Try.ntmps40
  go_wp2_with fail
  ((with_reducible refine (isqrt_any _ _ (by omega) (by omega)).mono ?_); rintro e w2 ⟨r, hr, rfl, hw⟩)
  rw [← hw]
  clear hw
  have br : 0 ≤ r ∧ r ≤ 4194304 := by
    obtain ⟨a, b, _⟩ := hr
    refine ⟨a, ?_⟩
    by_cases q : r ≤ 4194304
    · exact q
    · have := rsq_mono (show (0 : Int) ≤ 4194305 by omega) (show 4194305 ≤ r by omega); omega
  have hc : CRoot d (r + 1) := by
    obtain ⟨a, b, c⟩ := hr
    exact ⟨by omega, by rw [show r + 1 - 1 = r by omega]; omega, by omega⟩
  clear hr
  go_wp2_with fail
  go_ret
  exact ⟨_, hc, rfl, rfl⟩

theorem below_drewN {B : Nat} {w W : World} (h : Below B w W) (n : Nat) : Below B w (W.drewN n) := by
  induction n with
  | zero => exact h
  | succ n ih => exact ih.drew
set_option maxHeartbeats 1000000 in
theorem vdist_any (x y u v : Int) (w : World) :
    Calls Try.prog 39 #[.agg #[.int .i64 (near x), .int .i64 (near y)], .agg #[.int .i64 (near u), .int .i64 (near v)]] w fun e w' => e = .returned (.int .i64 (farv x y u v)) ∧ Below w.heap.size w w' := by
  have m1 := near_dsq x u; have m2 := near_dsq y v
  have bx := near_bd x; have by' := near_bd y; have bu := near_bd u; have bv := near_bd v
  have e1 : IntKind.i64.wrap (near u - near x) = near u - near x := IntWalk.i64_in _ (by omega)
  have e2 : IntKind.i64.wrap (near v - near y) = near v - near y := IntWalk.i64_in _ (by omega)
  go_enter Try.func39, Try.ntmps39
  go_wp2_with fail
  go_quiet (fail)
  go_wp2_with fail
  refine bodyPost_ret (v := .int .i64 (farv x y u v)) (by simp [results, Try.results39, go_sem, farv]) rfl ⟨rfl, ?_⟩
  exact below_drewN (((Below.refl w.heap.size w).alloc (Nat.le_refl _) _).alloc (by simp) _) _
theorem vdist_n (x y u v d : Int) (w : World) (hd : Hid (d = farv x y u v)) :
    Calls Try.prog 39 #[.agg #[.int .i64 (near x), .int .i64 (near y)], .agg #[.int .i64 (near u), .int .i64 (near v)]] w fun e w' => e = .returned (.int .i64 d) ∧ Below w.heap.size w w' := by
  rw [hd.out]; exact vdist_any x y u v w

set_option maxHeartbeats 1000000 in
theorem vwithin_low (x y u v r n : Int) (w : World) (hn : Hid (n = near r)) (h0 : ¬ 0 ≤ n) :
    Calls Try.prog 28 #[.agg #[.int .i64 x, .int .i64 y], .agg #[.int .i64 u, .int .i64 v], .int .i64 r] w fun e w' => e = .returned (.bool false) ∧ Below w.heap.size w w' := by
  have g0 : decide (0 ≤ n) = false := decide_eq_false h0
  go_enter Try.func28, Try.ntmps28
  go_wp2_with fail
  ((with_reducible refine (vnear_n r n _ hn).mono ?_); rintro e w1 ⟨rfl, hw⟩)
  rw [← hw]
  clear hw
  go_wp2_with fail
  go_quiet (fail)
  go_wp2_with fail
  refine bodyPost_ret (v := .bool false) (by simp [results, Try.results28, go_sem]) rfl ⟨rfl, ?_⟩
  exact below_drewN (((Below.refl w.heap.size w).alloc (Nat.le_refl _) _).alloc (by simp) _) _
set_option maxHeartbeats 2000000 in
theorem vwithin_tt (x y u v r n d : Int) (w : World) (hn : Hid (n = near r)) (hd : Hid (d = farv x y u v)) (h0 : 0 ≤ n) (h1 : d ≤ n * n) :
    Calls Try.prog 28 #[.agg #[.int .i64 x, .int .i64 y], .agg #[.int .i64 u, .int .i64 v], .int .i64 r] w fun e w' => e = .returned (.bool true) ∧ Below w.heap.size w w' := by
  have bn : -1048576 ≤ n ∧ n ≤ 1048576 := by rw [hn.out]; exact near_bd r
  have bd : 0 ≤ d ∧ d ≤ 8796093022208 := by rw [hd.out]; exact farv_bd x y u v
  have bq := sq_bd n bn
  have hm : IntKind.i64.wrap (n * n) = n * n := IntWalk.i64_in _ (by omega)
  have g0 : decide (0 ≤ n) = true := decide_eq_true h0
  have g1 : decide (d ≤ n * n) = true := decide_eq_true h1
  go_enter Try.func28, Try.ntmps28
  go_wp2_with fail
  ((with_reducible refine (vnear_n r n _ hn).mono ?_); rintro e w1 ⟨rfl, hw⟩)
  rw [← hw]
  clear hw
  go_wp2_with fail
  have B1 := (Box.new w (.int .i64 x) (.int .i64 y) 23).alloc (.cells #[.int .i64 u, .int .i64 v] 23)
  have B2 := Box.new (w.alloc (.cells #[.int .i64 x, .int .i64 y] 23)) (.int .i64 u) (.int .i64 v) 23
  rw [World.size_alloc] at B2
  have hL := ((Below.refl w.heap.size w).alloc (Nat.le_refl _) (.cells #[.int .i64 x, .int .i64 y] 23)).alloc (by simp) (.cells #[.int .i64 u, .int .i64 v] 23)
  generalize (w.alloc (.cells #[.int .i64 x, .int .i64 y] 23)).alloc (.cells #[.int .i64 u, .int .i64 v] 23) = W at *
  have hS := hv2_start B1 B2 hL
  go_region_held3 (fun w' => w'.cell? ⟨w.heap.size, 0, none⟩ = some (.int .i64 x) ∧ w'.cell? ⟨w.heap.size, 1, none⟩ = some (.int .i64 y) ∧ w'.cell? ⟨w.heap.size + 1, 0, none⟩ = some (.int .i64 u) ∧ w'.cell? ⟨w.heap.size + 1, 1, none⟩ = some (.int .i64 v) ∧ Box w' w.heap.size (.int .i64 x) (.int .i64 y) 23 ∧ Box w' (w.heap.size + 1) (.int .i64 u) (.int .i64 v) 23 ∧ Below w.heap.size w w') (first | exact hS | exact hv2_call (by assumption) (by assumption) | assumption)
    (first
      | (go_at_call 35; with_reducible refine (vnearest_any _ _ _).mono ?_; rintro e w' ⟨rfl, hb⟩)
      | (go_at_call 39; with_reducible refine (vdist_n x y u v d _ hd).mono ?_; rintro e w' ⟨rfl, hb⟩))
  all_goals
    rename_i hH
    obtain ⟨-, -, -, -, -, -, hL⟩ := hH
    go_wp2_with fail
    exact bodyPost_ret (v := .bool true) (by simp [results, Try.results28, go_sem]) rfl ⟨rfl, hL⟩
set_option maxHeartbeats 2000000 in
theorem vwithin_tf (x y u v r n d : Int) (w : World) (hn : Hid (n = near r)) (hd : Hid (d = farv x y u v)) (h0 : 0 ≤ n) (h1 : ¬ d ≤ n * n) :
    Calls Try.prog 28 #[.agg #[.int .i64 x, .int .i64 y], .agg #[.int .i64 u, .int .i64 v], .int .i64 r] w fun e w' => e = .returned (.bool false) ∧ Below w.heap.size w w' := by
  have bn : -1048576 ≤ n ∧ n ≤ 1048576 := by rw [hn.out]; exact near_bd r
  have bd : 0 ≤ d ∧ d ≤ 8796093022208 := by rw [hd.out]; exact farv_bd x y u v
  have bq := sq_bd n bn
  have hm : IntKind.i64.wrap (n * n) = n * n := IntWalk.i64_in _ (by omega)
  have g0 : decide (0 ≤ n) = true := decide_eq_true h0
  have g1 : decide (d ≤ n * n) = false := decide_eq_false h1
  go_enter Try.func28, Try.ntmps28
  go_wp2_with fail
  ((with_reducible refine (vnear_n r n _ hn).mono ?_); rintro e w1 ⟨rfl, hw⟩)
  rw [← hw]
  clear hw
  go_wp2_with fail
  have B1 := (Box.new w (.int .i64 x) (.int .i64 y) 23).alloc (.cells #[.int .i64 u, .int .i64 v] 23)
  have B2 := Box.new (w.alloc (.cells #[.int .i64 x, .int .i64 y] 23)) (.int .i64 u) (.int .i64 v) 23
  rw [World.size_alloc] at B2
  have hL := ((Below.refl w.heap.size w).alloc (Nat.le_refl _) (.cells #[.int .i64 x, .int .i64 y] 23)).alloc (by simp) (.cells #[.int .i64 u, .int .i64 v] 23)
  generalize (w.alloc (.cells #[.int .i64 x, .int .i64 y] 23)).alloc (.cells #[.int .i64 u, .int .i64 v] 23) = W at *
  have hS := hv2_start B1 B2 hL
  go_region_held3 (fun w' => w'.cell? ⟨w.heap.size, 0, none⟩ = some (.int .i64 x) ∧ w'.cell? ⟨w.heap.size, 1, none⟩ = some (.int .i64 y) ∧ w'.cell? ⟨w.heap.size + 1, 0, none⟩ = some (.int .i64 u) ∧ w'.cell? ⟨w.heap.size + 1, 1, none⟩ = some (.int .i64 v) ∧ Box w' w.heap.size (.int .i64 x) (.int .i64 y) 23 ∧ Box w' (w.heap.size + 1) (.int .i64 u) (.int .i64 v) 23 ∧ Below w.heap.size w w') (first | exact hS | exact hv2_call (by assumption) (by assumption) | assumption)
    (first
      | (go_at_call 35; with_reducible refine (vnearest_any _ _ _).mono ?_; rintro e w' ⟨rfl, hb⟩)
      | (go_at_call 39; with_reducible refine (vdist_n x y u v d _ hd).mono ?_; rintro e w' ⟨rfl, hb⟩))
  all_goals
    rename_i hH
    obtain ⟨-, -, -, -, -, -, hL⟩ := hH
    go_wp2_with fail
    exact bodyPost_ret (v := .bool false) (by simp [results, Try.results28, go_sem]) rfl ⟨rfl, hL⟩
set_option maxHeartbeats 1000000 in
theorem vpart_zero (x y k l : Int) (w : World) (hz : Hid (0 = near l)) :
    Calls Try.prog 24 #[.agg #[.int .i64 x, .int .i64 y], .int .i64 k, .int .i64 l] w fun e w' => e = .returned (.agg #[.int .i64 0, .int .i64 0]) ∧ Below w.heap.size w w' := by
  go_enter Try.func24, Try.ntmps24
  go_wp2_with fail
  ((with_reducible refine (vnearest_any x y _).mono ?_); rintro e w1 ⟨rfl, hb1⟩)
  have A1 := (Box.new w (.int .i64 x) (.int .i64 y) 23).alloc (.cells #[.int .i64 0, .int .i64 0] 23)
  have A2 := Box.new (w.alloc (.cells #[.int .i64 x, .int .i64 y] 23)) (.int .i64 0) (.int .i64 0) 23
  have B1 := A1.below hb1
  have B2 : Box w1 (w.heap.size + 1) (.int .i64 0) (.int .i64 0) 23 := by have := A2.below hb1; simpa using this
  clear A1 A2
  obtain ⟨c11, c12, f11, f12⟩ := B1.cells
  obtain ⟨c21, c22, f21, f22⟩ := B2.cells
  go_wp2_with fail
  ((with_reducible refine (vnear_any k _).mono ?_); rintro e w2 ⟨rfl, hw2⟩)
  rw [← hw2]
  clear hw2
  go_wp2_with fail
  ((with_reducible refine (vnear_n l 0 _ hz).mono ?_); rintro e w3 ⟨rfl, hw3⟩)
  rw [← hw3]
  clear hw3
  go_wp2_with fail
  have D2 := (B2.other ⟨w.heap.size, 0, none⟩ (.int .i64 (near x)) (by simp)).other ⟨w.heap.size, 1, none⟩ (.int .i64 (near y)) (by simp)
  replace D2 := D2.set0 (.int .i64 0)
  obtain ⟨c30, -, -, -⟩ := D2.cells
  replace D2 := D2.set1 (.int .i64 0)
  obtain ⟨c31, c32, -, -⟩ := D2.cells
  refine bodyPost_ret (v := .agg #[.int .i64 0, .int .i64 0]) (by simp [results, Try.results24, go_sem, c31, c32]) rfl ⟨rfl, ?_⟩
  have h0 := ((Below.refl w.heap.size w).alloc (Nat.le_refl _) (.cells #[.int .i64 x, .int .i64 y] 23)).alloc (by simp) (.cells #[.int .i64 0, .int .i64 0] 23)
  have h1 := ((below_call h0 hb1).setCell (p := ⟨w.heap.size, 0, none⟩) (Nat.le_refl _) (.int .i64 (near x))).setCell (p := ⟨w.heap.size, 1, none⟩) (Nat.le_refl _) (.int .i64 (near y))
  exact (h1.setCell (by simp) _).setCell (by simp) _

set_option maxHeartbeats 1000000 in
theorem vpart_some (x y k l d : Int) (w : World) (hd : Hid (d = near l)) (hz : ¬ d = 0) :
    Calls Try.prog 24 #[.agg #[.int .i64 x, .int .i64 y], .int .i64 k, .int .i64 l] w fun e w' => e = .returned (.agg #[.int .i64 (near ((near x * near k).tdiv d)), .int .i64 (near ((near y * near k).tdiv d))]) ∧ Below w.heap.size w w' := by
  have dd : -1048576 ≤ d ∧ d ≤ 1048576 := by rw [hd.out]; exact near_bd l
  go_enter Try.func24, Try.ntmps24
  go_wp2_with fail
  ((with_reducible refine (vnearest_any x y _).mono ?_); rintro e w1 ⟨rfl, hb1⟩)
  have A1 := (Box.new w (.int .i64 x) (.int .i64 y) 23).alloc (.cells #[.int .i64 0, .int .i64 0] 23)
  have A2 := Box.new (w.alloc (.cells #[.int .i64 x, .int .i64 y] 23)) (.int .i64 0) (.int .i64 0) 23
  have B1 := A1.below hb1
  have B2 : Box w1 (w.heap.size + 1) (.int .i64 0) (.int .i64 0) 23 := by have := A2.below hb1; simpa using this
  clear A1 A2
  obtain ⟨c11, c12, f11, f12⟩ := B1.cells
  obtain ⟨c21, c22, f21, f22⟩ := B2.cells
  go_wp2_with fail
  ((with_reducible refine (vnear_any k _).mono ?_); rintro e w2 ⟨rfl, hw2⟩)
  rw [← hw2]
  clear hw2
  go_wp2_with fail
  ((with_reducible refine (vnear_n l d _ hd).mono ?_); rintro e w3 ⟨rfl, hw3⟩)
  rw [← hw3]
  clear hw3
  go_wp2_with fail
  have D1 := (B1.set0 (.int .i64 (near x))).set1 (.int .i64 (near y))
  have D2 := (B2.other ⟨w.heap.size, 0, none⟩ (.int .i64 (near x)) (by simp)).other ⟨w.heap.size, 1, none⟩ (.int .i64 (near y)) (by simp)
  have hd' : (d == 0) = false := by assumption
  have m1 := near_mul x k; have m2 := near_mul y k
  have t1 := tdiv_bd _ d m1; have t2 := tdiv_bd _ d m2
  have e1 : IntKind.i64.wrap (near x * near k) = near x * near k := IntWalk.i64_in _ (by omega)
  have e2 : IntKind.i64.wrap (near y * near k) = near y * near k := IntWalk.i64_in _ (by omega)
  have e3 : IntKind.i64.wrap ((near x * near k).tdiv d) = (near x * near k).tdiv d := IntWalk.i64_in _ (by omega)
  have e4 : IntKind.i64.wrap ((near y * near k).tdiv d) = (near y * near k).tdiv d := IntWalk.i64_in _ (by omega)
  have h0 := ((Below.refl w.heap.size w).alloc (Nat.le_refl _) (.cells #[.int .i64 x, .int .i64 y] 23)).alloc (by simp) (.cells #[.int .i64 0, .int .i64 0] 23)
  have h1 := ((below_call h0 hb1).setCell (p := ⟨w.heap.size, 0, none⟩) (Nat.le_refl _) (.int .i64 (near x))).setCell (p := ⟨w.heap.size, 1, none⟩) (Nat.le_refl _) (.int .i64 (near y))
  generalize (w1.setCell ⟨w.heap.size, 0, none⟩ (.int .i64 (near x))).setCell ⟨w.heap.size, 1, none⟩ (.int .i64 (near y)) = W at *
  clear c11 c12 f11 f12 c21 c22 f21 f22
  obtain ⟨c11, c12, f11, f12⟩ := D1.cells
  go_still_tail 13, (by kernel_rfl)
  change wpList _ _ _ _ _ W.drew
  replace D1 := D1.drew
  replace D2 := D2.drew
  replace h1 := h1.drew
  clear c11 c12 f11 f12 e1 e2 e3 e4
  generalize W.drew = W2 at *
  go_wp2_with fail
  ((with_reducible refine (vnearest_any ((near x * near k).tdiv d) ((near y * near k).tdiv d) _).mono ?_); rintro e w4 ⟨rfl, hb4⟩)
  replace D2 := D2.below hb4
  replace h1 := below_call h1 hb4
  obtain ⟨c21, c22, f21, f22⟩ := D2.cells
  go_wp2_with fail
  clear c21 c22 f21 f22
  replace D2 := D2.set0 (.int .i64 (near ((near x * near k).tdiv d)))
  obtain ⟨c30, -, -, -⟩ := D2.cells
  replace D2 := D2.set1 (.int .i64 (near ((near y * near k).tdiv d)))
  obtain ⟨c31, c32, -, -⟩ := D2.cells
  refine bodyPost_ret (v := .agg #[.int .i64 (near ((near x * near k).tdiv d)), .int .i64 (near ((near y * near k).tdiv d))]) (by simp [results, Try.results24, go_sem, c31, c32]) rfl ⟨rfl, ?_⟩
  exact (h1.setCell (by simp) _).setCell (by simp) _

theorem vwithin_any (x y u v r : Int) (w : World) :
    Calls Try.prog 28 #[.agg #[.int .i64 x, .int .i64 y], .agg #[.int .i64 u, .int .i64 v], .int .i64 r] w fun e w' => e = .returned (.bool (wthn x y u v r)) ∧ Below w.heap.size w w' := by
  by_cases h0 : 0 ≤ near r
  · by_cases h1 : farv x y u v ≤ near r * near r
    · have : wthn x y u v r = true := by unfold wthn; rw [decide_eq_true h0, decide_eq_true h1]; rfl
      rw [this]; exact vwithin_tt x y u v r _ _ w (hid rfl) (hid rfl) h0 h1
    · have : wthn x y u v r = false := by unfold wthn; rw [decide_eq_false h1, Bool.and_false]
      rw [this]; exact vwithin_tf x y u v r _ _ w (hid rfl) (hid rfl) h0 h1
  · have : wthn x y u v r = false := by unfold wthn; rw [decide_eq_false h0, Bool.false_and]
    rw [this]; exact vwithin_low x y u v r _ w (hid rfl) h0

end Go.Proofs.Ytaamfbfafcocoaa
