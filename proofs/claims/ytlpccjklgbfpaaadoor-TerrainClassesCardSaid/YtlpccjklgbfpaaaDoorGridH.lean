/-
  What the reference of grid answers: the cells of a rectangle.
-/
import Derived.Test.YtlpccjklgbfpaaaDoorGridG
namespace Go.Proofs.YtlpccjklgbfpaaaDoor
open Go.RowKit Go.Lib

theorem rowGo_len (x y : Int) (k i : Nat) : (rowGo x y k i).length = k := by
  induction k generalizing i with
  | zero => rfl
  | succ k ih => simp [rowGo, ih]
theorem rowsGo_len (x y : Int) (w k j : Nat) : (rowsGo x y w k j).length = k * w := by
  induction k generalizing j with
  | zero => simp [rowsGo]
  | succ k ih => rw [rowsGo, List.length_append, rowGo_len, ih, Nat.succ_mul]; omega
theorem cellsv_some {x y u v : Int} (h : ¬ (nr u < 1 ∨ nr v < 1 ∨ 1024 < nr u * nr v)) : ∃ a b : Nat, nr u = a ∧ nr v = b ∧ 1 ≤ a ∧ 1 ≤ b ∧ a * b ≤ 1024 ∧ cellsv ⟨x, y, u, v⟩ = rowsGo (nr x) (nr y) a b 0 := by
  obtain ⟨a, ha⟩ := Int.eq_ofNat_of_zero_le (show 0 ≤ nr u by omega)
  obtain ⟨b, hb⟩ := Int.eq_ofNat_of_zero_le (show 0 ≤ nr v by omega)
  refine ⟨a, b, ha, hb, by omega, by omega, ?_, ?_⟩
  · have h2 : ¬ 1024 < nr u * nr v := by omega
    rw [ha, hb, ← Int.natCast_mul] at h2
    omega
  · unfold cellsv R4.nrm
    rw [if_neg h]
    simp only [ha, hb, Int.toNat_natCast]
theorem cellsv_len (r : R4) : (cellsv r).length ≤ 1024 := by
  obtain ⟨x, y, u, v⟩ := r
  by_cases h : nr u < 1 ∨ nr v < 1 ∨ 1024 < nr u * nr v
  · rw [show cellsv ⟨x, y, u, v⟩ = [] from if_pos h]; simp
  · obtain ⟨a, b, _, _, _, _, hab, e⟩ := cellsv_some (x := x) (y := y) h
    rw [e, rowsGo_len, Nat.mul_comm]; exact hab
end Go.Proofs.YtlpccjklgbfpaaaDoor
