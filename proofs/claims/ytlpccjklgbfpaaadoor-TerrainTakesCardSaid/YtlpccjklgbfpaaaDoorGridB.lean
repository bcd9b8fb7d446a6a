/-
  What the reference of grid answers: neighbors.
-/
import Derived.Test.YtlpccjklgbfpaaaDoorGridT
namespace Go.Proofs.YtlpccjklgbfpaaaDoor
open Go.RowKit Go.Lib

theorem infoPos : (Tryd.prog.info? 26).map (fun i => (i.zero, i.size, i.bytes)) = some (some (.agg #[.int .i64 0, .int .i64 0]), 2, 16) := by kernel_rfl
theorem ints_lone {x y : Int} : ∀ u ∈ ([.int .i64 x, .int .i64 y] : List Value), u.oneCell' = true := by
  intro u hu; simp at hu; rcases hu with rfl | rfl <;> rfl
theorem neiGo_len (w h x y : Int) (k d : Nat) : (neiGo w h x y k d).length ≤ k := by
  induction k generalizing d with
  | zero => simp [neiGo]
  | succ k ih =>
    unfold neiGo
    have := ih (d + 1)
    split
    · simp; omega
    · omega
end Go.Proofs.YtlpccjklgbfpaaaDoor
