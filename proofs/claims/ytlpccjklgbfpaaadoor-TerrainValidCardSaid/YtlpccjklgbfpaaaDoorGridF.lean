/-
  What the reference of grid answers: Clip, Meet.
-/
import Derived.Test.YtlpccjklgbfpaaaDoorGridE
namespace Go.Proofs.YtlpccjklgbfpaaaDoor
open Go.RowKit Go.Lib

theorem nr_near (n : Int) : Near (nr n) := nr_bd n
theorem common_eta (a b : R4) : (common a b).val = .agg #[.int .i64 (common a b).x, .int .i64 (common a b).y, .int .i64 (common a b).w, .int .i64 (common a b).h] := rfl
end Go.Proofs.YtlpccjklgbfpaaaDoor
