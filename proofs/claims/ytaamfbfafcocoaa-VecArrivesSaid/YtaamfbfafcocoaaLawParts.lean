/-
  What the reference of vec answers. Practice.
-/
import Derived.Test.YtaamfbfafcocoaaProg
import Derived.WalkKit
import Derived.IntWalk
import Derived.WalkSpells
import Derived.WalkLawsBesides
import Derived.Deep.QuietTactic
import Derived.BigQuiet
import Derived.Lib.Hide
import Derived.Lib.Walk
import Derived.StillTailTactics
import Derived.Deep.RegionHeld3
import Derived.Test.YtaamfbfafcocoaaBox
import Derived.Test.YtaamfbfafcocoaaRefVec
import Derived.Test.YtaamfbfafcocoaaRefVecB
import Derived.Test.YtaamfbfafcocoaaRefVecC
import Derived.Test.YtaamfbfafcocoaaRefVecD
import Derived.Test.YtaamfbfafcocoaaRefVecE
import Derived.Test.YtaamfbfafcocoaaLawSums
import Derived.Test.YtaamfbfafcocoaaLawLengths
import Derived.Test.YtaamfbfafcocoaaRefSqrt
namespace Go.Proofs.Ytaamfbfafcocoaa
open Go.RowKit Go.Lib





/-- A component of a part. -/
def partv (x k l : Int) : Int := if near l = 0 then 0 else near ((near x * near k).tdiv (near l))
theorem rpart_any (x y k l : Int) (w : World) : Calls Try.prog 25 #[.agg #[.int .i64 x, .int .i64 y], .int .i64 k, .int .i64 l] w fun e w' => e = .returned (.agg #[.int .i64 (partv x k l), .int .i64 (partv y k l)]) ∧ Below w.heap.size w w' := by
  by_cases h : near l = 0
  · rw [show partv x k l = 0 by unfold partv; rw [if_pos h], show partv y k l = 0 by unfold partv; rw [if_pos h]]
    exact rpart_zero x y k l w (hid h.symm)
  · rw [show partv x k l = near ((near x * near k).tdiv (near l)) by unfold partv; rw [if_neg h], show partv y k l = near ((near y * near k).tdiv (near l)) by unfold partv; rw [if_neg h]]
    exact rpart_some x y k l _ w (hid rfl) h
theorem vld_part (x y k l : Int) : vld (partv x k l) (partv y k l) = true := by
  unfold partv
  by_cases h : near l = 0
  · rw [if_pos h, if_pos h]; decide
  · rw [if_neg h, if_neg h]; exact vld_near _ _
/-- What Part and Valid of vec are held to. -/
structure VecPartsHave : Prop where
  part : ∀ (x y k l : Int) (w : World), Calls Try.prog 24 #[.agg #[.int .i64 x, .int .i64 y], .int .i64 k, .int .i64 l] w fun e w' => e = .returned (.agg #[.int .i64 (partv x k l), .int .i64 (partv y k l)]) ∧ Below w.heap.size w w'
  valid : ∀ (x y : Int) (w : World), Calls Try.prog 15 #[.agg #[.int .i64 x, .int .i64 y]] w fun e w' => e = .returned (.bool (vld x y)) ∧ Below w.heap.size w w'
  alive : ∀ w : World, Calls Try.prog 17 #[] w fun e w' => e = .returned (.bool true) ∧ Below w.heap.size w w'
theorem VecPartsHave.valid_t (H : VecPartsHave) (x y : Int) (w : World) (h : vld x y = true) : Calls Try.prog 15 #[.agg #[.int .i64 x, .int .i64 y]] w fun e w' => e = .returned (.bool true) ∧ Below w.heap.size w w' := by
  have := H.valid x y w
  rw [h] at this
  exact this
theorem VecPartsHave.part_n (H : VecPartsHave) (x y k l p q : Int) (w : World) (h : Hid (p = partv x k l ∧ q = partv y k l)) : Calls Try.prog 24 #[.agg #[.int .i64 x, .int .i64 y], .int .i64 k, .int .i64 l] w fun e w' => e = .returned (.agg #[.int .i64 p, .int .i64 q]) ∧ Below w.heap.size w w' := by
  rw [h.out.1, h.out.2]; exact H.part x y k l w
theorem rpart_n (x y k l p q : Int) (w : World) (h : Hid (p = partv x k l ∧ q = partv y k l)) : Calls Try.prog 25 #[.agg #[.int .i64 x, .int .i64 y], .int .i64 k, .int .i64 l] w fun e w' => e = .returned (.agg #[.int .i64 p, .int .i64 q]) ∧ Below w.heap.size w w' := by
  rw [h.out.1, h.out.2]; exact rpart_any x y k l w
set_option maxHeartbeats 2000000 in
theorem law_parts (H : VecPartsHave) (x y k l : Int) (w : World) : Calls Try.prog 5 #[.agg #[.int .i64 x, .int .i64 y], .int .i64 k, .int .i64 l] w fun e w' => e = .returned (.bool true) ∧ Below w.heap.size w w' := by
  obtain ⟨p, q, h⟩ : ∃ p q, Hid (p = partv x k l ∧ q = partv y k l) := ⟨_, _, hid ⟨rfl, rfl⟩⟩
  have hv : vld p q = true := by rw [h.out.1, h.out.2]; exact vld_part x y k l
  go_enter Try.func5, Try.ntmps5
  go_wp2_with fail
  ((with_reducible refine (H.part_n x y k l p q _ h).mono ?_); rintro e w1 ⟨rfl, hb1⟩)
  have B1 := (((Box.new w (.int .i64 x) (.int .i64 y) 23).below hb1).alloc (.cells #[.int .i64 p, .int .i64 q] 23))
  have B5 := Box.new w1 (.int .i64 p) (.int .i64 q) 23
  have hL1 := below_call ((Below.refl w.heap.size w).alloc (Nat.le_refl _) _) hb1
  have hL := hL1.alloc hL1.size (.cells #[.int .i64 p, .int .i64 q] 23)
  clear hL1
  obtain ⟨c11, c12, -, -⟩ := B1.cells; obtain ⟨c51, c52, -, -⟩ := B5.cells
  go_wp2_with fail
  have hS := hv2_start B1 B5 hL
  clear c11 c12 c51 c52
  go_region_held3 (fun w' => w'.cell? ⟨w.heap.size, 0, none⟩ = some (.int .i64 x) ∧ w'.cell? ⟨w.heap.size, 1, none⟩ = some (.int .i64 y) ∧ w'.cell? ⟨w1.heap.size, 0, none⟩ = some (.int .i64 p) ∧ w'.cell? ⟨w1.heap.size, 1, none⟩ = some (.int .i64 q) ∧ Box w' w.heap.size (.int .i64 x) (.int .i64 y) 23 ∧ Box w' w1.heap.size (.int .i64 p) (.int .i64 q) 23 ∧ Below w.heap.size w w') (first | exact hS | exact hv2_call (by assumption) (by assumption) | assumption)
    (first
      | (go_at_call 25; refine (rpart_n _ _ _ _ _ _ _ h).mono ?_; rintro e w' ⟨rfl, hb⟩)
      | (go_at_call 15; refine (H.valid_t _ _ _ hv).mono ?_; rintro e w' ⟨rfl, hb⟩)
      | (go_at_call 17; refine (H.alive _).mono ?_; rintro e w' ⟨rfl, hb⟩))
  rename_i hH
  obtain ⟨-, -, -, -, -, -, hL⟩ := hH
  go_wp2_with fail
  exact bodyPost_ret (v := .bool true) (by simp [results, Try.results5, go_sem]) rfl ⟨rfl, hL⟩

end Go.Proofs.Ytaamfbfafcocoaa
