/-
  What the reference of astar answers: the cost of a step and of a way.
-/
import Derived.Test.YtpgchjhfhndaaaaGreatDoorAsX
namespace Go.Proofs.YtpgchjhfhndaaaaGreatDoor
open Go.RowKit Go.Lib

theorem bk_call {k : Nat} {w W w1 : World} (e : Hid (k = w.heap.size)) (h : Below k w W) (hb : Below W.heap.size W w1) : Below k w w1 := by
  have := e.out
  subst this
  exact below_call h hb
theorem bk_dn {k : Nat} {w W : World} (e : Hid (k = w.heap.size)) (h : Below k w W) : Below w.heap.size w W := by
  have := e.out
  subst this
  exact h
theorem eq_two {qx qy a b : Int} {bq : Bool} (h : Hid (bq = (qx == a && qy == b))) {w : World} : (if qx = a then (if qy = b then Result.ok (Next.value (Value.bool true)) w else Result.ok (Next.value (Value.bool false)) w) else Result.ok (Next.value (Value.bool false)) w) = Result.ok (Next.value (Value.bool bq)) w := by
  rw [h.out]
  by_cases h1 : qx = a
  · by_cases h2 : qy = b
    · rw [if_pos h1, if_pos h2, beq_iff_eq.2 h1, beq_iff_eq.2 h2]; rfl
    · rw [if_pos h1, if_neg h2, beq_iff_eq.2 h1, beq_eq_false_iff_ne.2 h2]; rfl
  · rw [if_neg h1, beq_eq_false_iff_ne.2 h1]; rfl
/-- What a way comes to, piece by piece. -/
def sumT : Option Int → Int × Int
  | none => (0, 9)
  | some s => (s, 0)
def costT (m : M3) (bl : List Bool) (c : Int) : List Pt → Int × Int
  | [] => (0, 1)
  | p :: t => if openv m bl c p.1 p.2 = false then (0, 9) else sumT (sumC m bl c p t)
theorem costA_eq (m : M3) (bl : List Bool) (c : Int) (ps : List Pt) : costA m bl c ps = if (validm m && classv c && !ps.isEmpty && ps.all (insp m)) = false then (0, 1) else costT m bl c ps := by
  unfold costA
  cases ps with
  | nil => rfl
  | cons p t => unfold costT; cases sumC m bl c p t <;> rfl
/-- The step of one direction more: to q, or not. -/
theorem miss_next {m : M3} {bl : List Bool} {c : Int} {p q : Pt} {d : Nat} (h : StpMiss q (nbGo m bl c p d)) (hn : mayv m bl c p.1 p.2 d = true → (stx p.1 d, sty p.2 d) ≠ q) : StpMiss q (nbGo m bl c p (d + 1)) := by
  rw [nbGo_next]
  by_cases hm : mayv m bl c p.1 p.2 d = true
  · rw [if_pos hm]; exact h.snoc (hn hm)
  · rw [if_neg hm, List.append_nil]; exact h
theorem miss_hit {m : M3} {bl : List Bool} {c : Int} {p q : Pt} {d : Nat} (h : StpMiss q (nbGo m bl c p d)) (hd : d < 8) (hm : mayv m bl c p.1 p.2 d = true) (hq : (stx p.1 d, sty p.2 d) = q) : stepC m bl c p q = some (costv m bl c p.1 p.2 d) := by
  have h1 : (nbGo m bl c p (d + 1)).find? (fun x => decide (x.1 = q)) = some ((stx p.1 d, sty p.2 d), costv m bl c p.1 p.2 d) := by
    rw [nbGo_next, if_pos hm]; exact h.hit hq
  unfold stepC nbp
  rw [find_pre (nbGo_pre m bl c p (show d + 1 ≤ 8 by omega)) h1]
  rfl

end Go.Proofs.YtpgchjhfhndaaaaGreatDoor
