/-
  What the reference of grid answers: a rectangle and a cell.
-/
import Derived.Test.YtlpccjklgbfpaaaDoorGridC
namespace Go.Proofs.YtlpccjklgbfpaaaDoor
open Go.RowKit Go.Lib

end Go.Proofs.YtlpccjklgbfpaaaDoor
