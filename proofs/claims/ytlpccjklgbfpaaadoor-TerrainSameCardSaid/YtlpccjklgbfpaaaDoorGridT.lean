/-
  What the reference of grid answers: absolute values, rectangles, cells by index.
-/
import Derived.Test.YtlpccjklgbfpaaaDoorGridS
namespace Go.Proofs.YtlpccjklgbfpaaaDoor
open Go.RowKit Go.Lib

end Go.Proofs.YtlpccjklgbfpaaaDoor
