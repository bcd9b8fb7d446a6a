/-
  What the reference of grid answers: the same lists; the cells of a rectangle.
-/
import Derived.Test.YtlpccjklgbfpaaaDoorGridF
namespace Go.Proofs.YtlpccjklgbfpaaaDoor
open Go.RowKit Go.Lib

theorem pcells_two (l : List (Int × Int)) : ∀ i, i < l.length → ∃ x y, (pcells l)[i * 2]? = some (.int .i64 x) ∧ (pcells l)[i * 2 + 1]? = some (.int .i64 y) := fun i h =>
  ⟨_, _, by rw [Nat.mul_comm]; exact (pcells_at l i h).1, by rw [Nat.mul_comm]; exact (pcells_at l i h).2⟩
end Go.Proofs.YtlpccjklgbfpaaaDoor
