/-
  What the reference of astar answers: classes, what is inside, what is free, what a step costs.
-/
import Derived.Test.YtpgchjhfhndaaaaGreatDoorAsLandR
import Derived.Test.YtpgchjhfhndaaaaGreatDoorTerRefB
import Derived.Test.YtpgchjhfhndaaaaGreatDoorTerRefH
namespace Go.Proofs.YtpgchjhfhndaaaaGreatDoor
open Go.RowKit Go.Lib

/-- The number of a cell that is passable, as the reference works it out. -/
theorem r14idx {m : M3} {x y : Int} (h : insidev m x y = true) : ∃ n : Nat, n < m.cs.length ∧ Hid ((n : Int) = indexv m.w x y) ∧ IntKind.i64.wrap (y * m.w) = y * m.w ∧ IntKind.i64.wrap (y * m.w + x) = (n : Int) := by
  obtain ⟨X, Y, a, b, e1, _, rfl, rfl, h1, h2, h3, h4, _, hi, hl⟩ := inside_at h
  have hm : b * X ≤ 32 * 32 := Nat.mul_le_mul (by omega) h3
  have ec : (b : Int) * m.w = ((b * X : Nat) : Int) := by rw [e1]; simp
  refine ⟨b * X + a, hl, hid hi.symm, ?_, ?_⟩
  · rw [ec]; exact IntWalk.i64_in _ (by omega)
  · rw [ec, IntWalk.i64_in _ (by omega)]; simp

/-- What the directions below d and the next one come to. -/
theorem nbGo_next (m : M3) (bl : List Bool) (c : Int) (p : Pt) (d : Nat) : nbGo m bl c p (d + 1) = nbGo m bl c p d ++ if mayv m bl c p.1 p.2 d = true then [((stx p.1 d, sty p.2 d), costv m bl c p.1 p.2 d)] else [] := nbGo_succ m bl c p d

end Go.Proofs.YtpgchjhfhndaaaaGreatDoor
