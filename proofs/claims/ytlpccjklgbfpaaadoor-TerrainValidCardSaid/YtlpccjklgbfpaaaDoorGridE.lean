/-
  What the reference of grid answers: the common cells of rectangles, Clip, Meet.
-/
import Derived.Test.YtlpccjklgbfpaaaDoorGridD
namespace Go.Proofs.YtlpccjklgbfpaaaDoor
open Go.RowKit Go.Lib

theorem common_none {a b : R4} (h : a.w < 1 ∨ a.h < 1 ∨ b.w < 1 ∨ b.h < 1) : common a b = R4.zero := if_pos h
def Near (n : Int) : Prop := -1048576 ≤ n ∧ n ≤ 1048576
end Go.Proofs.YtlpccjklgbfpaaaDoor
