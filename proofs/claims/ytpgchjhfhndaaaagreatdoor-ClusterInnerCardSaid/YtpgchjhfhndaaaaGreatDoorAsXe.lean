/-
  What the reference of astar answers: Reach.
-/
import Derived.Test.YtpgchjhfhndaaaaGreatDoorAsXd
namespace Go.Proofs.YtpgchjhfhndaaaaGreatDoor
open Go.RowKit Go.Lib

/-- What a call made is new. -/
def FreshV (W : World) (v : Value) : Prop := ∀ k, v.ownBlock = some k → W.heap.size ≤ k
theorem valid_formed14 {m : M3} (h : validm m = true) : formedv m = true := by
  unfold validm at h
  simp only [Bool.and_eq_true] at h
  exact h.1
theorem area14 {m : M3} (hf : formedv m = true) : IntKind.i64.wrap (m.w * m.h) = (m.cs.length : Int) := by
  obtain ⟨X, Y, e1, e2, x1, x2, y1, y2, hl, _⟩ := formed_num hf
  have h : X * Y ≤ 32 * 32 := Nat.mul_le_mul x2 y2
  rw [e1, e2, hl, ← Int.natCast_mul]
  exact IntWalk.i64_in _ (by omega)
/-- What Reach gives: least costs, -1 everywhere if the cell is not free, nothing without a map, a class, a cell. -/
structure ReachR (m : M3) (bl : List Bool) (c : Int) (p : Pt) (b : Bool) (E : List Int) : Prop where
  no : b = false → E = []
  yes : b = true → Dst m bl c (idx m p) E
  num : ∀ q, -1 ≤ ga E q ∧ ga E q ≤ 30000
theorem num_nil (q : Nat) : -1 ≤ ga [] q ∧ ga [] q ≤ 30000 := by unfold ga; simp
theorem num_none (n q : Nat) : -1 ≤ ga (List.replicate n (-1)) q ∧ ga (List.replicate n (-1)) q ≤ 30000 := by rw [ga_none]; omega

end Go.Proofs.YtpgchjhfhndaaaaGreatDoor
