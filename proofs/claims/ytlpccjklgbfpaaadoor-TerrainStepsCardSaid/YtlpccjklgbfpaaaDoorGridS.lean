/-
  What the reference of grid answers: steps.
-/
import Derived.Test.YtlpccjklgbfpaaaDoorGridA
namespace Go.Proofs.YtlpccjklgbfpaaaDoor
open Go.RowKit Go.Lib

theorem rshift_any (d : Int) (W : World) (h : 0 ≤ d ∧ d ≤ 7) :
    Calls Tryd.prog 51 #[.int .i64 d] W fun e w' => e = .returned (.agg #[.int .i64 (shx d), .int .i64 (shy d)]) ∧ Below W.heap.size W w' := by
  obtain rfl | rfl | rfl | rfl | rfl | rfl | rfl | rfl : d = 0 ∨ d = 1 ∨ d = 2 ∨ d = 3 ∨ d = 4 ∨ d = 5 ∨ d = 6 ∨ d = 7 := by omega
  all_goals
    go_enter Tryd.func51, Tryd.ntmps51
    go_wp2
    refine bodyPost_ret (by simp [results, Tryd.results51, go_sem]; decide) rfl ⟨rfl, ?_⟩
    exact ((Below.refl _ _).alloc (Nat.le_refl _) _)

theorem sh_bd (d : Int) : -1 ≤ shx d ∧ shx d ≤ 1 ∧ -1 ≤ shy d ∧ shy d ≤ 1 := by
  unfold shx shy
  refine ⟨?_, ?_, ?_, ?_⟩ <;> (repeat' split) <;> omega
set_option maxHeartbeats 1000000 in
theorem rstep_out (x y d : Int) (W : World) (h : d < 0 ∨ 7 < d) :
    Calls Tryd.prog 25 #[.agg #[.int .i64 x, .int .i64 y], .int .i64 d] W fun e w' => e = .returned (.agg #[.int .i64 (stx x d), .int .i64 (sty y d)]) ∧ Below W.heap.size W w' := by
  rw [show stx x d = x from if_pos h, show sty y d = y from if_pos h]
  by_cases h1 : d < 0
  · go_enter Tryd.func25, Tryd.ntmps25
    go_wp2
    refine bodyPost_ret (v := .agg #[.int .i64 x, .int .i64 y]) (by simp [results, Tryd.results25, go_sem]) rfl ⟨rfl, ?_⟩
    exact ((Below.refl _ _).alloc (Nat.le_refl _) _).alloc (by simp) _
  · have h2 : 7 < d := by omega
    go_enter Tryd.func25, Tryd.ntmps25
    go_wp2
    refine bodyPost_ret (v := .agg #[.int .i64 x, .int .i64 y]) (by simp [results, Tryd.results25, go_sem]) rfl ⟨rfl, ?_⟩
    exact ((Below.refl _ _).alloc (Nat.le_refl _) _).alloc (by simp) _
set_option maxHeartbeats 1000000 in
theorem rstep_in (x y d : Int) (W : World) (h : 0 ≤ d ∧ d ≤ 7) :
    Calls Tryd.prog 25 #[.agg #[.int .i64 x, .int .i64 y], .int .i64 d] W fun e w' => e = .returned (.agg #[.int .i64 (stx x d), .int .i64 (sty y d)]) ∧ Below W.heap.size W w' := by
  have hn : ¬ (d < 0 ∨ 7 < d) := by omega
  rw [show stx x d = nr x + shx d from if_neg hn, show sty y d = nr y + shy d from if_neg hn]
  have z1 : decide (d < 0) = false := decide_eq_false (by omega)
  have z2 : decide (7 < d) = false := decide_eq_false (by omega)
  have bs := sh_bd d
  have bx := nr_bd x
  have by' := nr_bd y
  go_enter Tryd.func25, Tryd.ntmps25
  go_wp2_with fail
  ((with_reducible refine (rpos_any x y _).mono ?_); rintro e w1 ⟨rfl, hb⟩)
  have hL := below_call (((Below.refl W.heap.size W).alloc (Nat.le_refl _) (.cells #[.int .i64 x, .int .i64 y] 26)).alloc (by simp) (.cells #[.int .i64 0, .int .i64 0] 26)) hb
  have B := Blk.new (W.alloc (.cells #[.int .i64 x, .int .i64 y] 26)) [.int .i64 0, .int .i64 0] 26
  replace B := B.below hb
  clear hb
  go_wp2_with fail
  ((with_reducible refine (rshift_any d _ h).mono ?_); rintro e w2 ⟨rfl, hb⟩)
  replace hL := below_call hL hb
  replace B := B.below hb
  clear hb
  replace B := ((B.alloc (.cells #[.int .i64 (nr x), .int .i64 (nr y)] 26)).alloc (.cells #[.int .i64 (shx d), .int .i64 (shy d)] 26)).at (World.size_alloc _ _)
  replace hL := (hL.alloc hL.size (.cells #[.int .i64 (nr x), .int .i64 (nr y)] 26)).alloc (by have := hL.size; simp; omega) (.cells #[.int .i64 (shx d), .int .i64 (shy d)] 26)
  obtain ⟨c1, c2, f1, f2⟩ := B.two
  go_wp2_with fail
  clear c1 c2 f1 f2
  replace B := (B.set 0 (.int .i64 (nr x + shx d))).set 1 (.int .i64 (nr y + shy d))
  obtain ⟨c1, c2, -, -⟩ := B.two
  refine bodyPost_ret (v := .agg #[.int .i64 (nr x + shx d), .int .i64 (nr y + shy d)]) (by simp [results, Tryd.results25, go_sem, c1, c2]) rfl ⟨rfl, ?_⟩
  exact (hL.setCell (by simp) _).setCell (by simp) _

theorem rstep_any (x y d : Int) (W : World) :
    Calls Tryd.prog 25 #[.agg #[.int .i64 x, .int .i64 y], .int .i64 d] W fun e w' => e = .returned (.agg #[.int .i64 (stx x d), .int .i64 (sty y d)]) ∧ Below W.heap.size W w' := by
  by_cases h : d < 0 ∨ 7 < d
  · exact rstep_out x y d W h
  · exact rstep_in x y d W (by omega)


end Go.Proofs.YtlpccjklgbfpaaaDoor
