/-
  What the reference of vec answers. Practice.
-/
import Derived.Test.YtaamfbfafcocoaaProg
import Derived.WalkKit
import Derived.IntWalk
import Derived.WalkSpells
import Derived.WalkLawsBesides
import Derived.Deep.QuietTactic
import Derived.BigQuiet
import Derived.Lib.Hide
import Derived.Lib.Walk
import Derived.StillTailTactics
import Derived.Deep.RegionHeld3
import Derived.Test.YtaamfbfafcocoaaBox
import Derived.Test.YtaamfbfafcocoaaRefVec
import Derived.Test.YtaamfbfafcocoaaRefVecB
import Derived.Test.YtaamfbfafcocoaaRefVecC
import Derived.Test.YtaamfbfafcocoaaRefVecD
import Derived.Test.YtaamfbfafcocoaaRefVecE
import Derived.Test.YtaamfbfafcocoaaLawSums
import Derived.Test.YtaamfbfafcocoaaLawLengths
import Derived.Test.YtaamfbfafcocoaaLawParts
import Derived.Test.YtaamfbfafcocoaaLawToward
import Derived.Test.YtaamfbfafcocoaaTowMath
import Derived.Test.YtaamfbfafcocoaaRefSqrt
namespace Go.Proofs.Ytaamfbfafcocoaa
open Go.RowKit Go.Lib





/-- What a region that draws holds of three boxes. -/
theorem hv3_start {w W : World} {b c d : Nat} {u v x y p q : Value} {t s r : TypeId} (h : Box W b u v t) (k : Box W c x y s) (l : Box W d p q r) (hb : Below w.heap.size w W) :
    W.drew.cell? ⟨b, 0, none⟩ = some u ∧ W.drew.cell? ⟨b, 1, none⟩ = some v ∧ W.drew.cell? ⟨c, 0, none⟩ = some x ∧ W.drew.cell? ⟨c, 1, none⟩ = some y ∧ W.drew.cell? ⟨d, 0, none⟩ = some p ∧ W.drew.cell? ⟨d, 1, none⟩ = some q ∧ Box W.drew b u v t ∧ Box W.drew c x y s ∧ Box W.drew d p q r ∧ Below w.heap.size w W.drew :=
  ⟨h.cells.1, h.cells.2.1, k.cells.1, k.cells.2.1, l.cells.1, l.cells.2.1, h, k, l, hb.drew⟩
theorem hv3_call {w W w1 : World} {b c d : Nat} {u v x y p q : Value} {t s r : TypeId} (h : W.cell? ⟨b, 0, none⟩ = some u ∧ W.cell? ⟨b, 1, none⟩ = some v ∧ W.cell? ⟨c, 0, none⟩ = some x ∧ W.cell? ⟨c, 1, none⟩ = some y ∧ W.cell? ⟨d, 0, none⟩ = some p ∧ W.cell? ⟨d, 1, none⟩ = some q ∧ Box W b u v t ∧ Box W c x y s ∧ Box W d p q r ∧ Below w.heap.size w W) (hb : Below W.heap.size W w1) :
    w1.cell? ⟨b, 0, none⟩ = some u ∧ w1.cell? ⟨b, 1, none⟩ = some v ∧ w1.cell? ⟨c, 0, none⟩ = some x ∧ w1.cell? ⟨c, 1, none⟩ = some y ∧ w1.cell? ⟨d, 0, none⟩ = some p ∧ w1.cell? ⟨d, 1, none⟩ = some q ∧ Box w1 b u v t ∧ Box w1 c x y s ∧ Box w1 d p q r ∧ Below w.heap.size w w1 := by
  obtain ⟨-, -, -, -, -, -, h1, h2, h3, h4⟩ := h
  exact ⟨(h1.below hb).cells.1, (h1.below hb).cells.2.1, (h2.below hb).cells.1, (h2.below hb).cells.2.1, (h3.below hb).cells.1, (h3.below hb).cells.2.1, h1.below hb, h2.below hb, h3.below hb, below_call h4 hb⟩

set_option maxHeartbeats 2000000 in
theorem law_near_stay (H : VecTowardHave) (H2 : VecPartsHave) (x y u v sp s p q d1 d2 : Int) (w : World) (h : Hid (TowAt x y u v sp p q)) (hv : vld p q = true) (h1 : Hid (d1 = farv p q u v)) (h2 : Hid (d2 = farv x y u v)) (le : d1 ≤ d2)
    (hs : Hid (s = near sp)) (h0 : s ≤ 0) (hn : Hid (p = near x ∧ q = near y)) : Calls Try.prog 7 #[.agg #[.int .i64 x, .int .i64 y], .agg #[.int .i64 u, .int .i64 v], .int .i64 sp] w fun e w' => e = .returned (.bool true) ∧ Below w.heap.size w w' := by
  have le' : decide (d2 < d1) = false := by simp; omega
  have le2 : ¬ d2 < d1 := by omega
  go_enter Try.func7, Try.ntmps7
  go_wp2_with fail
  ((with_reducible refine (H.toward_n x y u v sp p q _ h).mono ?_); rintro e w1 ⟨rfl, hb1⟩)
  have A1 := (Box.new w (.int .i64 x) (.int .i64 y) 23).alloc (.cells #[.int .i64 u, .int .i64 v] 23)
  have A2 := Box.new (w.alloc (.cells #[.int .i64 x, .int .i64 y] 23)) (.int .i64 u) (.int .i64 v) 23
  rw [World.size_alloc] at A2
  have B1 := (A1.below hb1).alloc (.cells #[.int .i64 p, .int .i64 q] 23)
  have B2 := (A2.below hb1).alloc (.cells #[.int .i64 p, .int .i64 q] 23)
  have B5 := Box.new w1 (.int .i64 p) (.int .i64 q) 23
  have hL1 := below_call (((Below.refl w.heap.size w).alloc (Nat.le_refl _) _).alloc (by simp) _) hb1
  have hL := hL1.alloc hL1.size (.cells #[.int .i64 p, .int .i64 q] 23)
  clear hL1 A1 A2 hb1
  obtain ⟨c11, c12, -, -⟩ := B1.cells; obtain ⟨c21, c22, -, -⟩ := B2.cells; obtain ⟨c51, c52, -, -⟩ := B5.cells
  go_wp2_with fail
  have hS := hv3_start B1 B2 B5 hL
  clear c11 c12 c21 c22 c51 c52
  go_region_held3 (fun w' => w'.cell? ⟨w.heap.size, 0, none⟩ = some (.int .i64 x) ∧ w'.cell? ⟨w.heap.size, 1, none⟩ = some (.int .i64 y) ∧ w'.cell? ⟨w.heap.size + 1, 0, none⟩ = some (.int .i64 u) ∧ w'.cell? ⟨w.heap.size + 1, 1, none⟩ = some (.int .i64 v) ∧ w'.cell? ⟨w1.heap.size, 0, none⟩ = some (.int .i64 p) ∧ w'.cell? ⟨w1.heap.size, 1, none⟩ = some (.int .i64 q) ∧ Box w' w.heap.size (.int .i64 x) (.int .i64 y) 23 ∧ Box w' (w.heap.size + 1) (.int .i64 u) (.int .i64 v) 23 ∧ Box w' w1.heap.size (.int .i64 p) (.int .i64 q) 23 ∧ Below w.heap.size w w') (first | exact hS | exact hv3_call (by assumption) (by assumption) | assumption)
    (first
      | (go_at_call 15; with_reducible refine (H2.valid_t _ _ _ hv).mono ?_; rintro e w' ⟨rfl, hb⟩)
      | (go_at_call 30; with_reducible refine (rfar_n _ _ _ _ _ _ h1).mono ?_; rintro e w' ⟨rfl, hb⟩)
      | (go_at_call 30; with_reducible refine (rfar_n _ _ _ _ _ _ h2).mono ?_; rintro e w' ⟨rfl, hb⟩))
  rename_i hH
  clear hS
  obtain ⟨c11, c12, c21, c22, c51, c52, B1, B2, B5, hL⟩ := hH
  go_wp2_with fail
  ((with_reducible refine (rnear_n sp s _ hs).mono ?_); rintro e w2 ⟨rfl, hw2⟩)
  rw [← hw2]
  clear hw2
  go_wp2_with fail
  have hS := hv3_start B1 B2 B5 hL
  clear c11 c12 c21 c22 c51 c52
  go_region_held3 (fun w' => w'.cell? ⟨w.heap.size, 0, none⟩ = some (.int .i64 x) ∧ w'.cell? ⟨w.heap.size, 1, none⟩ = some (.int .i64 y) ∧ w'.cell? ⟨w.heap.size + 1, 0, none⟩ = some (.int .i64 u) ∧ w'.cell? ⟨w.heap.size + 1, 1, none⟩ = some (.int .i64 v) ∧ w'.cell? ⟨w1.heap.size, 0, none⟩ = some (.int .i64 p) ∧ w'.cell? ⟨w1.heap.size, 1, none⟩ = some (.int .i64 q) ∧ Box w' w.heap.size (.int .i64 x) (.int .i64 y) 23 ∧ Box w' (w.heap.size + 1) (.int .i64 u) (.int .i64 v) 23 ∧ Box w' w1.heap.size (.int .i64 p) (.int .i64 q) 23 ∧ Below w.heap.size w w') (first | exact hS | exact hv3_call (by assumption) (by assumption) | assumption)
    (first
      | (go_at_call 32; with_reducible refine (rnearvec_n _ _ _ _ _ hn).mono ?_; rintro e w' ⟨rfl, hb⟩)
      | (go_at_call 17; with_reducible refine (H.alive _).mono ?_; rintro e w' ⟨rfl, hb⟩))
  rename_i hH
  obtain ⟨-, -, -, -, -, -, -, -, -, hL⟩ := hH
  go_wp2_with fail
  exact bodyPost_ret (v := .bool true) (by simp [results, Try.results7, go_sem]) rfl ⟨rfl, hL⟩
set_option maxHeartbeats 2000000 in
theorem law_near_there (H : VecTowardHave) (H2 : VecPartsHave) (x y u v sp s p q d1 d2 d3 : Int) (w : World) (h : Hid (TowAt x y u v sp p q)) (hv : vld p q = true) (h1 : Hid (d1 = farv p q u v)) (h2 : Hid (d2 = farv x y u v)) (le : d1 ≤ d2)
    (hs : Hid (s = near sp)) (h0 : ¬ s ≤ 0) (h3 : Hid (d3 = farv x y p q)) (g3 : d3 ≤ s * s) (g2 : ¬ s * s < d2) (hn : Hid (p = near u ∧ q = near v)) : Calls Try.prog 7 #[.agg #[.int .i64 x, .int .i64 y], .agg #[.int .i64 u, .int .i64 v], .int .i64 sp] w fun e w' => e = .returned (.bool true) ∧ Below w.heap.size w w' := by
  have bs : -1048576 ≤ s ∧ s ≤ 1048576 := by rw [hs.out]; exact near_bd sp
  have bq := sq_bd s bs
  have em : IntKind.i64.wrap (s * s) = s * s := IntWalk.i64_in _ (by omega)
  have k3 : decide (d3 ≤ s * s) = true := decide_eq_true g3
  have k2 : decide (s * s < d2) = false := decide_eq_false g2
  have le' : decide (d2 < d1) = false := by simp; omega
  have le2 : ¬ d2 < d1 := by omega
  go_enter Try.func7, Try.ntmps7
  go_wp2_with fail
  ((with_reducible refine (H.toward_n x y u v sp p q _ h).mono ?_); rintro e w1 ⟨rfl, hb1⟩)
  have A1 := (Box.new w (.int .i64 x) (.int .i64 y) 23).alloc (.cells #[.int .i64 u, .int .i64 v] 23)
  have A2 := Box.new (w.alloc (.cells #[.int .i64 x, .int .i64 y] 23)) (.int .i64 u) (.int .i64 v) 23
  rw [World.size_alloc] at A2
  have B1 := (A1.below hb1).alloc (.cells #[.int .i64 p, .int .i64 q] 23)
  have B2 := (A2.below hb1).alloc (.cells #[.int .i64 p, .int .i64 q] 23)
  have B5 := Box.new w1 (.int .i64 p) (.int .i64 q) 23
  have hL1 := below_call (((Below.refl w.heap.size w).alloc (Nat.le_refl _) _).alloc (by simp) _) hb1
  have hL := hL1.alloc hL1.size (.cells #[.int .i64 p, .int .i64 q] 23)
  clear hL1 A1 A2 hb1
  obtain ⟨c11, c12, -, -⟩ := B1.cells; obtain ⟨c21, c22, -, -⟩ := B2.cells; obtain ⟨c51, c52, -, -⟩ := B5.cells
  go_wp2_with fail
  have hS := hv3_start B1 B2 B5 hL
  clear c11 c12 c21 c22 c51 c52
  go_region_held3 (fun w' => w'.cell? ⟨w.heap.size, 0, none⟩ = some (.int .i64 x) ∧ w'.cell? ⟨w.heap.size, 1, none⟩ = some (.int .i64 y) ∧ w'.cell? ⟨w.heap.size + 1, 0, none⟩ = some (.int .i64 u) ∧ w'.cell? ⟨w.heap.size + 1, 1, none⟩ = some (.int .i64 v) ∧ w'.cell? ⟨w1.heap.size, 0, none⟩ = some (.int .i64 p) ∧ w'.cell? ⟨w1.heap.size, 1, none⟩ = some (.int .i64 q) ∧ Box w' w.heap.size (.int .i64 x) (.int .i64 y) 23 ∧ Box w' (w.heap.size + 1) (.int .i64 u) (.int .i64 v) 23 ∧ Box w' w1.heap.size (.int .i64 p) (.int .i64 q) 23 ∧ Below w.heap.size w w') (first | exact hS | exact hv3_call (by assumption) (by assumption) | assumption)
    (first
      | (go_at_call 15; with_reducible refine (H2.valid_t _ _ _ hv).mono ?_; rintro e w' ⟨rfl, hb⟩)
      | (go_at_call 30; with_reducible refine (rfar_n _ _ _ _ _ _ h1).mono ?_; rintro e w' ⟨rfl, hb⟩)
      | (go_at_call 30; with_reducible refine (rfar_n _ _ _ _ _ _ h2).mono ?_; rintro e w' ⟨rfl, hb⟩))
  rename_i hH
  clear hS
  obtain ⟨c11, c12, c21, c22, c51, c52, B1, B2, B5, hL⟩ := hH
  go_wp2_with fail
  ((with_reducible refine (rnear_n sp s _ hs).mono ?_); rintro e w2 ⟨rfl, hw2⟩)
  rw [← hw2]
  clear hw2
  go_wp2_with fail
  have hS := hv3_start B1 B2 B5 hL
  clear c11 c12 c21 c22 c51 c52
  go_region_held3 (fun w' => w'.cell? ⟨w.heap.size, 0, none⟩ = some (.int .i64 x) ∧ w'.cell? ⟨w.heap.size, 1, none⟩ = some (.int .i64 y) ∧ w'.cell? ⟨w.heap.size + 1, 0, none⟩ = some (.int .i64 u) ∧ w'.cell? ⟨w.heap.size + 1, 1, none⟩ = some (.int .i64 v) ∧ w'.cell? ⟨w1.heap.size, 0, none⟩ = some (.int .i64 p) ∧ w'.cell? ⟨w1.heap.size, 1, none⟩ = some (.int .i64 q) ∧ Box w' w.heap.size (.int .i64 x) (.int .i64 y) 23 ∧ Box w' (w.heap.size + 1) (.int .i64 u) (.int .i64 v) 23 ∧ Box w' w1.heap.size (.int .i64 p) (.int .i64 q) 23 ∧ Below w.heap.size w w') (first | exact hS | exact hv3_call (by assumption) (by assumption) | assumption)
    (first
      | (go_at_call 30; with_reducible refine (rfar_n _ _ _ _ _ _ h3).mono ?_; rintro e w' ⟨rfl, hb⟩)
      | (go_at_call 30; with_reducible refine (rfar_n _ _ _ _ _ _ h2).mono ?_; rintro e w' ⟨rfl, hb⟩)
      | (go_at_call 32; with_reducible refine (rnearvec_n _ _ _ _ _ hn).mono ?_; rintro e w' ⟨rfl, hb⟩)
      | (go_at_call 17; with_reducible refine (H.alive _).mono ?_; rintro e w' ⟨rfl, hb⟩))
  rename_i hH
  obtain ⟨-, -, -, -, -, -, -, -, -, hL⟩ := hH
  go_wp2_with fail
  exact bodyPost_ret (v := .bool true) (by simp [results, Try.results7, go_sem]) rfl ⟨rfl, hL⟩

end Go.Proofs.Ytaamfbfafcocoaa
