/-
  What the reference of vec answers. Practice.
-/
import Derived.Test.YtaamfbfafcocoaaProg
import Derived.WalkKit
import Derived.IntWalk
import Derived.WalkSpells
import Derived.WalkLawsBesides
import Derived.Deep.QuietTactic
import Derived.BigQuiet
import Derived.Lib.Hide
import Derived.Lib.Walk
import Derived.StillTailTactics
import Derived.Deep.RegionHeld3
import Derived.Test.YtaamfbfafcocoaaBox
import Derived.Test.YtaamfbfafcocoaaRefVec
import Derived.Test.YtaamfbfafcocoaaRefVecB
import Derived.Test.YtaamfbfafcocoaaRefVecC
import Derived.Test.YtaamfbfafcocoaaRefVecD
import Derived.Test.YtaamfbfafcocoaaRefVecE
import Derived.Test.YtaamfbfafcocoaaRefSqrt
namespace Go.Proofs.Ytaamfbfafcocoaa
open Go.RowKit Go.Lib





/-- What Add, Sub, Side, Valid of vec and the law's own examples are held to here. -/
structure VecSumsHave : Prop where
  add : ∀ (x y u v : Int) (w : World), Calls Try.prog 9 #[.agg #[.int .i64 x, .int .i64 y], .agg #[.int .i64 u, .int .i64 v]] w fun e w' => e = .returned (.agg #[.int .i64 (near (near x + near u)), .int .i64 (near (near y + near v))]) ∧ Below w.heap.size w w'
  sub : ∀ (x y u v : Int) (w : World), Calls Try.prog 11 #[.agg #[.int .i64 x, .int .i64 y], .agg #[.int .i64 u, .int .i64 v]] w fun e w' => e = .returned (.agg #[.int .i64 (near (near x - near u)), .int .i64 (near (near y - near v))]) ∧ Below w.heap.size w w'
  side : ∀ (x y : Int) (w : World), Calls Try.prog 13 #[.agg #[.int .i64 x, .int .i64 y]] w fun e w' => e = .returned (.agg #[.int .i64 (-near y), .int .i64 (near x)]) ∧ Below w.heap.size w w'
  valid : ∀ (x y : Int) (w : World), Calls Try.prog 15 #[.agg #[.int .i64 x, .int .i64 y]] w fun e w' => e = .returned (.bool (vld x y)) ∧ Below w.heap.size w w'
  alive : ∀ w : World, Calls Try.prog 17 #[] w fun e w' => e = .returned (.bool true) ∧ Below w.heap.size w w'

theorem vld_near (a b : Int) : vld (near a) (near b) = true := by
  unfold vld; rw [near_near, near_near]; simp
theorem vld_side (a b : Int) : vld (-near a) (near b) = true := by
  have h : near (-near a) = -near a := by unfold near; omega
  unfold vld; rw [near_near, h]; simp

theorem VecSumsHave.valid_t (H : VecSumsHave) (x y : Int) (w : World) (h : vld x y = true) :
    Calls Try.prog 15 #[.agg #[.int .i64 x, .int .i64 y]] w fun e w' => e = .returned (.bool true) ∧ Below w.heap.size w w' := by
  have := H.valid x y w
  rw [h] at this
  exact this
set_option maxHeartbeats 2000000 in
theorem law_sums (H : VecSumsHave) (x y u v : Int) (w : World) :
    Calls Try.prog 3 #[.agg #[.int .i64 x, .int .i64 y], .agg #[.int .i64 u, .int .i64 v]] w fun e w' => e = .returned (.bool true) ∧ Below w.heap.size w w' := by
  go_enter Try.func3, Try.ntmps3
  go_wp2_with fail
  have hS := hv2_start ((Box.new w (.int .i64 x) (.int .i64 y) 23).alloc (.cells #[.int .i64 u, .int .i64 v] 23)) (Box.new (w.alloc (.cells #[.int .i64 x, .int .i64 y] 23)) (.int .i64 u) (.int .i64 v) 23) (((Below.refl w.heap.size w).alloc (Nat.le_refl _) _).alloc (by simp) _)
  rw [World.size_alloc] at hS
  go_region_held3 (fun w' => w'.cell? ⟨w.heap.size, 0, none⟩ = some (.int .i64 x) ∧ w'.cell? ⟨w.heap.size, 1, none⟩ = some (.int .i64 y) ∧ w'.cell? ⟨w.heap.size + 1, 0, none⟩ = some (.int .i64 u) ∧ w'.cell? ⟨w.heap.size + 1, 1, none⟩ = some (.int .i64 v) ∧ Box w' w.heap.size (.int .i64 x) (.int .i64 y) 23 ∧ Box w' (w.heap.size + 1) (.int .i64 u) (.int .i64 v) 23 ∧ Below w.heap.size w w') (first | exact hS | exact hv2_call (by assumption) (by assumption) | assumption)
    (first
      | (go_at_call 9; refine (H.add _ _ _ _ _).mono ?_; rintro e w' ⟨rfl, hb⟩)
      | (go_at_call 11; refine (H.sub _ _ _ _ _).mono ?_; rintro e w' ⟨rfl, hb⟩)
      | (go_at_call 13; refine (H.side _ _ _).mono ?_; rintro e w' ⟨rfl, hb⟩)
      | (go_at_call 15; refine (H.valid _ _ _).mono ?_; rintro e w' ⟨rfl, hb⟩)
      | (go_at_call 10; refine (radd_any _ _ _ _ _).mono ?_; rintro e w' ⟨rfl, hb⟩)
      | (go_at_call 12; refine (rsub_any _ _ _ _ _).mono ?_; rintro e w' ⟨rfl, hb⟩)
      | (go_at_call 14; refine (rside_any _ _ _).mono ?_; rintro e w' ⟨rfl, hb⟩)
      | (go_at_call 16; refine (rvalid_any _ _ _).mono ?_; rintro e w' ⟨rfl, hb⟩))
  rename_i hH
  obtain ⟨c11, c12, c21, c22, B1, B2, hL⟩ := hH
  clear hS
  go_wp2_with fail
  ((with_reducible refine (H.add x y u v _).mono ?_); rintro e w1 ⟨rfl, hb1⟩)
  replace B1 := B1.below hb1; replace B2 := B2.below hb1; replace hL := below_call hL hb1
  clear c11 c12 c21 c22
  obtain ⟨c11, c12, -, -⟩ := B1.cells; obtain ⟨c21, c22, -, -⟩ := B2.cells
  go_wp2_with fail
  ((with_reducible refine (H.valid_t _ _ _ (vld_near _ _)).mono ?_); rintro e w2 ⟨rfl, hb2⟩)
  replace B1 := B1.below hb2; replace B2 := B2.below hb2; replace hL := below_call hL hb2
  clear c11 c12 c21 c22
  obtain ⟨c11, c12, -, -⟩ := B1.cells; obtain ⟨c21, c22, -, -⟩ := B2.cells
  go_wp2_with fail
  ((with_reducible refine (H.sub x y u v _).mono ?_); rintro e w3 ⟨rfl, hb3⟩)
  replace B1 := B1.below hb3; replace B2 := B2.below hb3; replace hL := below_call hL hb3
  clear c11 c12 c21 c22
  obtain ⟨c11, c12, -, -⟩ := B1.cells; obtain ⟨c21, c22, -, -⟩ := B2.cells
  go_wp2_with fail
  ((with_reducible refine (H.valid_t _ _ _ (vld_near _ _)).mono ?_); rintro e w4 ⟨rfl, hb4⟩)
  replace B1 := B1.below hb4; replace B2 := B2.below hb4; replace hL := below_call hL hb4
  clear c11 c12 c21 c22
  obtain ⟨c11, c12, -, -⟩ := B1.cells; obtain ⟨c21, c22, -, -⟩ := B2.cells
  go_wp2_with fail
  ((with_reducible refine (H.side x y _).mono ?_); rintro e w5 ⟨rfl, hb5⟩)
  replace hL := below_call hL hb5
  go_wp2_with fail
  ((with_reducible refine (H.valid_t _ _ _ (vld_side _ _)).mono ?_); rintro e w6 ⟨rfl, hb6⟩)
  replace hL := below_call hL hb6
  go_wp2_with fail
  ((with_reducible refine (H.alive _).mono ?_); rintro e w7 ⟨rfl, hb7⟩)
  replace hL := below_call hL hb7
  go_wp2_with fail
  exact bodyPost_ret (v := .bool true) (by simp [results, Try.results3, go_sem]) rfl ⟨rfl, hL⟩

end Go.Proofs.Ytaamfbfafcocoaa
