/-
  What the reference of grid answers: distances.
-/
import Derived.Deep.Cut
import Derived.Test.YtlpccjklgbfpaaaDoorGridB
namespace Go.Proofs.YtlpccjklgbfpaaaDoor
open Go.RowKit Go.Lib

theorem dif_bd (a b : Int) : -4194304 ≤ nr a - nr b ∧ nr a - nr b ≤ 4194304 := by
  have := nr_bd a; have := nr_bd b; omega
theorem abs_bd {n : Int} (h : -4194304 ≤ n ∧ n ≤ 4194304) : 0 ≤ absv n ∧ absv n ≤ 4194304 := by unfold absv; omega
end Go.Proofs.YtlpccjklgbfpaaaDoor
