/-
  The law's own examples, and what all functions of vec answer, gathered.
-/
import Derived.Test.YtaamfbfafcocoaaProg
import Derived.WalkKit
import Derived.IntWalk
import Derived.WalkSpells
import Derived.WalkLawsBesides
import Derived.Deep.QuietTactic
import Derived.BigQuiet
import Derived.Lib.Hide
import Derived.Lib.Walk
import Derived.Deep.RegionHeld3
import Derived.Test.YtaamfbfafcocoaaVecB
import Derived.Test.YtaamfbfafcocoaaVecE
import Derived.Test.YtaamfbfafcocoaaLawToward
namespace Go.Proofs.Ytaamfbfafcocoaa
open Go.RowKit Go.Lib

theorem vpart_any (x y k l : Int) (w : World) : Calls Try.prog 24 #[.agg #[.int .i64 x, .int .i64 y], .int .i64 k, .int .i64 l] w fun e w' => e = .returned (.agg #[.int .i64 (partv x k l), .int .i64 (partv y k l)]) ∧ Below w.heap.size w w' := by
  by_cases h : near l = 0
  · rw [show partv x k l = 0 by unfold partv; rw [if_pos h], show partv y k l = 0 by unfold partv; rw [if_pos h]]
    exact vpart_zero x y k l w (hid h.symm)
  · rw [show partv x k l = near ((near x * near k).tdiv (near l)) by unfold partv; rw [if_neg h], show partv y k l = near ((near y * near k).tdiv (near l)) by unfold partv; rw [if_neg h]]
    exact vpart_some x y k l _ w (hid rfl) h

/-! The five calls of the examples, with their answers. -/
theorem ex_toward (w : World) : Calls Try.prog 26 #[.agg #[.int .i64 0, .int .i64 0], .agg #[.int .i64 30, .int .i64 40], .int .i64 10] w fun e w' => e = .returned (.agg #[.int .i64 6, .int .i64 8]) ∧ Below w.heap.size w w' := by
  refine (vtoward_any 0 0 30 40 10 w).mono ?_
  rintro e w' ⟨p', q', ht, rfl, hb⟩
  obtain ⟨rfl, rfl⟩ := ht.same (show TowAt 0 0 30 40 10 6 8 from Or.inr (Or.inr ⟨by decide, by decide, 50, ⟨by decide, by decide, by decide⟩, by decide, by decide⟩))
  exact ⟨rfl, hb⟩
theorem ex_len (w : World) : Calls Try.prog 22 #[.agg #[.int .i64 3, .int .i64 4]] w fun e w' => e = .returned (.int .i64 5) ∧ Below w.heap.size w w' := by
  refine (vlen_any 3 4 w).mono ?_
  rintro e w' ⟨s, hs, rfl, hb⟩
  rw [hs.same (show RRoot _ 5 from ⟨by decide, by decide, by decide⟩)]
  exact ⟨rfl, hb⟩
theorem ex_part (w : World) : Calls Try.prog 24 #[.agg #[.int .i64 (-7), .int .i64 7], .int .i64 1, .int .i64 2] w fun e w' => e = .returned (.agg #[.int .i64 (-3), .int .i64 3]) ∧ Below w.heap.size w w' := by
  have h := vpart_any (-7) 7 1 2 w
  rw [show partv (-7) 1 2 = -3 by decide, show partv 7 1 2 = 3 by decide] at h
  exact h
theorem ex_add (w : World) : Calls Try.prog 9 #[.agg #[.int .i64 1048576, .int .i64 0], .agg #[.int .i64 1, .int .i64 0]] w fun e w' => e = .returned (.agg #[.int .i64 1048576, .int .i64 0]) ∧ Below w.heap.size w w' := by
  have h := vadd_any 1048576 0 1 0 w
  rw [show near (near 1048576 + near 1) = 1048576 by decide, show near (near 0 + near 0) = 0 by decide] at h
  exact h
theorem ex_in (w : World) : Calls Try.prog 28 #[.agg #[.int .i64 0, .int .i64 0], .agg #[.int .i64 6, .int .i64 8], .int .i64 10] w fun e w' => e = .returned (.bool true) ∧ Below w.heap.size w w' := by
  have h := vwithin_any 0 0 6 8 10 w
  rw [show wthn 0 0 6 8 10 = true by decide] at h
  exact h
theorem ex_out (w : World) : Calls Try.prog 28 #[.agg #[.int .i64 0, .int .i64 0], .agg #[.int .i64 6, .int .i64 8], .int .i64 9] w fun e w' => e = .returned (.bool false) ∧ Below w.heap.size w w' := by
  have h := vwithin_any 0 0 6 8 9 w
  rw [show wthn 0 0 6 8 9 = false by decide] at h
  exact h

set_option maxHeartbeats 2000000 in
theorem alive_any (w : World) : Calls Try.prog 17 #[] w fun e w' => e = .returned (.bool true) ∧ Below w.heap.size w w' := by
  have hfd : ∀ w : World, (Instr.field 23 (.agg #[.int .i64 1048576, .int .i64 0]) 0).run Try.prog w = .ok (.int .i64 1048576) w := fun _ => by kernel_rfl
  go_enter Try.func17, Try.ntmps17
  go_wp2_with fail
  ((with_reducible refine (ex_toward _).mono ?_); rintro e w1 ⟨rfl, hb1⟩)
  have B := Box.new w1 (.int .i64 6) (.int .i64 8) 23
  have hL := hb1.alloc hb1.size (.cells #[.int .i64 6, .int .i64 8] 23)
  clear hb1
  obtain ⟨c1, c2, -, -⟩ := B.cells
  go_wp2_with fail
  ((with_reducible refine (ex_len _).mono ?_); rintro e w2 ⟨rfl, hb2⟩)
  replace B := B.below hb2; replace hL := below_call hL hb2
  go_wp2_with fail
  ((with_reducible refine (ex_part _).mono ?_); rintro e w3 ⟨rfl, hb3⟩)
  replace B := B.below hb3; replace hL := below_call hL hb3
  go_wp2_with fail
  ((with_reducible refine (ex_add _).mono ?_); rintro e w4 ⟨rfl, hb4⟩)
  replace B := B.below hb4; replace hL := below_call hL hb4
  clear c1 c2
  obtain ⟨c1, c2, -, -⟩ := B.cells
  go_wp2_with fail
  ((with_reducible refine (ex_in _).mono ?_); rintro e w5 ⟨rfl, hb5⟩)
  replace B := B.below hb5; replace hL := below_call hL hb5
  clear c1 c2
  obtain ⟨c1, c2, -, -⟩ := B.cells
  go_wp2_with fail
  ((with_reducible refine (ex_out _).mono ?_); rintro e w6 ⟨rfl, hb6⟩)
  replace hL := below_call hL hb6
  go_wp2_with fail
  exact bodyPost_ret (v := .bool true) (by simp [results, Try.results17, go_sem]) rfl ⟨rfl, hL⟩

theorem have_sums : VecSumsHave := ⟨vadd_any, vsub_any, vside_any, vvalid_any, alive_any⟩
theorem have_lengths : VecLengthsHave := ⟨vdot_any, vlen2_any, vlen_any, vside_any, alive_any⟩
theorem have_parts : VecPartsHave := ⟨vpart_any, vvalid_any, alive_any⟩
theorem have_toward : VecTowardHave := ⟨vtoward_any, vwithin_any, alive_any⟩

end Go.Proofs.Ytaamfbfafcocoaa
