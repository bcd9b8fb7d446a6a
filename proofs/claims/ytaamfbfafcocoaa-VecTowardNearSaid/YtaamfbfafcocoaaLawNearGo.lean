/-
  What the reference of vec answers. Practice.
-/
import Derived.Test.YtaamfbfafcocoaaProg
import Derived.WalkKit
import Derived.IntWalk
import Derived.WalkSpells
import Derived.WalkLawsBesides
import Derived.Deep.QuietTactic
import Derived.BigQuiet
import Derived.Lib.Hide
import Derived.Lib.Walk
import Derived.StillTailTactics
import Derived.Deep.RegionHeld3
import Derived.Test.YtaamfbfafcocoaaBox
import Derived.Test.YtaamfbfafcocoaaRefVec
import Derived.Test.YtaamfbfafcocoaaRefVecB
import Derived.Test.YtaamfbfafcocoaaRefVecC
import Derived.Test.YtaamfbfafcocoaaRefVecD
import Derived.Test.YtaamfbfafcocoaaRefVecE
import Derived.Test.YtaamfbfafcocoaaLawSums
import Derived.Test.YtaamfbfafcocoaaLawLengths
import Derived.Test.YtaamfbfafcocoaaLawParts
import Derived.Test.YtaamfbfafcocoaaLawToward
import Derived.Test.YtaamfbfafcocoaaTowMath
import Derived.Test.YtaamfbfafcocoaaLawNear
import Derived.Deep.RegionWith
import Derived.Test.YtaamfbfafcocoaaRefSqrt
namespace Go.Proofs.Ytaamfbfafcocoaa
open Go.RowKit Go.Lib





set_option maxHeartbeats 2000000 in
theorem law_near_go (H : VecTowardHave) (H2 : VecPartsHave) (x y u v sp s p q d1 d2 d3 : Int) (w : World) (h : Hid (TowAt x y u v sp p q)) (hv : vld p q = true) (h1 : Hid (d1 = farv p q u v)) (h2 : Hid (d2 = farv x y u v)) (le : d1 ≤ d2)
    (hs : Hid (s = near sp)) (h0 : ¬ s ≤ 0) (h3 : Hid (d3 = farv x y p q)) (g3 : d3 ≤ s * s) (g2 : s * s < d2) : Calls Try.prog 7 #[.agg #[.int .i64 x, .int .i64 y], .agg #[.int .i64 u, .int .i64 v], .int .i64 sp] w fun e w' => e = .returned (.bool true) ∧ Below w.heap.size w w' := by
  have bs : -1048576 ≤ s ∧ s ≤ 1048576 := by rw [hs.out]; exact near_bd sp
  have bq := sq_bd s bs
  have em : IntKind.i64.wrap (s * s) = s * s := IntWalk.i64_in _ (by omega)
  have k3 : decide (d3 ≤ s * s) = true := decide_eq_true g3
  have k2 : decide (s * s < d2) = true := decide_eq_true g2
  have le' : decide (d2 < d1) = false := by simp; omega
  have le2 : ¬ d2 < d1 := by omega
  go_enter Try.func7, Try.ntmps7
  go_wp2_with fail
  ((with_reducible refine (H.toward_n x y u v sp p q _ h).mono ?_); rintro e w1 ⟨rfl, hb1⟩)
  have A1 := (Box.new w (.int .i64 x) (.int .i64 y) 23).alloc (.cells #[.int .i64 u, .int .i64 v] 23)
  have A2 := Box.new (w.alloc (.cells #[.int .i64 x, .int .i64 y] 23)) (.int .i64 u) (.int .i64 v) 23
  rw [World.size_alloc] at A2
  have B1 := (A1.below hb1).alloc (.cells #[.int .i64 p, .int .i64 q] 23)
  have B2 := (A2.below hb1).alloc (.cells #[.int .i64 p, .int .i64 q] 23)
  have B5 := Box.new w1 (.int .i64 p) (.int .i64 q) 23
  have hL1 := below_call (((Below.refl w.heap.size w).alloc (Nat.le_refl _) _).alloc (by simp) _) hb1
  have hL := hL1.alloc hL1.size (.cells #[.int .i64 p, .int .i64 q] 23)
  clear hL1 A1 A2 hb1
  obtain ⟨c11, c12, -, -⟩ := B1.cells; obtain ⟨c21, c22, -, -⟩ := B2.cells; obtain ⟨c51, c52, -, -⟩ := B5.cells
  go_wp2_with fail
  have hS := hv3_start B1 B2 B5 hL
  clear c11 c12 c21 c22 c51 c52
  go_region_held3 (fun w' => w'.cell? ⟨w.heap.size, 0, none⟩ = some (.int .i64 x) ∧ w'.cell? ⟨w.heap.size, 1, none⟩ = some (.int .i64 y) ∧ w'.cell? ⟨w.heap.size + 1, 0, none⟩ = some (.int .i64 u) ∧ w'.cell? ⟨w.heap.size + 1, 1, none⟩ = some (.int .i64 v) ∧ w'.cell? ⟨w1.heap.size, 0, none⟩ = some (.int .i64 p) ∧ w'.cell? ⟨w1.heap.size, 1, none⟩ = some (.int .i64 q) ∧ Box w' w.heap.size (.int .i64 x) (.int .i64 y) 23 ∧ Box w' (w.heap.size + 1) (.int .i64 u) (.int .i64 v) 23 ∧ Box w' w1.heap.size (.int .i64 p) (.int .i64 q) 23 ∧ Below w.heap.size w w') (first | exact hS | exact hv3_call (by assumption) (by assumption) | assumption)
    (first
      | (go_at_call 15; with_reducible refine (H2.valid_t _ _ _ hv).mono ?_; rintro e w' ⟨rfl, hb⟩)
      | (go_at_call 30; with_reducible refine (rfar_n _ _ _ _ _ _ h1).mono ?_; rintro e w' ⟨rfl, hb⟩)
      | (go_at_call 30; with_reducible refine (rfar_n _ _ _ _ _ _ h2).mono ?_; rintro e w' ⟨rfl, hb⟩))
  rename_i hH
  clear hS
  obtain ⟨c11, c12, c21, c22, c51, c52, B1, B2, B5, hL⟩ := hH
  go_wp2_with fail
  ((with_reducible refine (rnear_n sp s _ hs).mono ?_); rintro e w2 ⟨rfl, hw2⟩)
  rw [← hw2]
  clear hw2
  go_wp2_with fail
  have hS := hv3_start B1 B2 B5 hL
  clear c11 c12 c21 c22 c51 c52
  obtain ⟨c11, c12, c21, c22, c51, c52, -, -, -, -⟩ := id hS
  go_region_with (first
    | (go_at_call 30; with_reducible refine (rfar_n _ _ _ _ _ _ h3).mono ?_; rintro e w' ⟨rfl, hb⟩; have hx := hv3_call (by assumption) hb; obtain ⟨_, _, _, _, _, _, -, -, -, _⟩ := id hx)
    | (go_at_call 30; with_reducible refine (rfar_n _ _ _ _ _ _ h2).mono ?_; rintro e w' ⟨rfl, hb⟩; have hx := hv3_call (by assumption) hb; obtain ⟨_, _, _, _, _, _, -, -, -, _⟩ := id hx)
    | (go_at_call 17; with_reducible refine (H.alive _).mono ?_; rintro e w' ⟨rfl, hb⟩; have hx := hv3_call (by assumption) hb; obtain ⟨_, _, _, _, _, _, -, -, -, _⟩ := id hx))
  all_goals
    go_wp2_with fail
    refine bodyPost_ret (v := .bool true) (by simp [results, Try.results7, go_sem]) rfl ⟨rfl, ?_⟩
    assumption

theorem law_near (H : VecTowardHave) (H2 : VecPartsHave) (x y u v sp : Int) (w : World) : Calls Try.prog 7 #[.agg #[.int .i64 x, .int .i64 y], .agg #[.int .i64 u, .int .i64 v], .int .i64 sp] w fun e w' => e = .returned (.bool true) ∧ Below w.heap.size w w' := by
  obtain ⟨p, q, h⟩ := tow_some x y u v sp
  obtain ⟨hv, -, -, hle, hs, hg⟩ := tow_says h
  by_cases h0 : near sp ≤ 0
  · exact law_near_stay H H2 x y u v sp _ p q _ _ w (hid h) hv (hid rfl) (hid rfl) hle (hid rfl) h0 (hid (hs h0))
  · obtain ⟨g3, gt⟩ := hg h0
    by_cases g2 : near sp * near sp < farv x y u v
    · exact law_near_go H H2 x y u v sp _ p q _ _ _ w (hid h) hv (hid rfl) (hid rfl) hle (hid rfl) h0 (hid rfl) g3 g2
    · exact law_near_there H H2 x y u v sp _ p q _ _ _ w (hid h) hv (hid rfl) (hid rfl) hle (hid rfl) h0 (hid rfl) g3 g2 (hid (gt g2))

end Go.Proofs.Ytaamfbfafcocoaa
