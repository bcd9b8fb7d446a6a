/-
  Which numbers a list has shown so far, as a list of truth values. No program is named here.
-/
import Derived.Test.YtcflfkdamhkfdaaRngShufMath
namespace Go.Proofs.Ytcflfkdamhkfdaa
open Go.RowKit Go.Lib

def bools (bs : List Bool) : List Value := bs.map Value.bool
/-- Of each number below n: does it stand among the first k? -/
def seenL (L : List Int) (k n : Nat) : List Bool := (List.range n).map (fun (a : Nat) => decide ((a : Int) ∈ L.take k))
theorem seen_zero (L : List Int) (n : Nat) : bools (seenL L 0 n) = List.replicate n (.bool false) := by
  unfold bools seenL
  apply List.ext_getElem?
  intro i
  by_cases h : i < n
  · simp [h]
  · simp [h]
theorem seen_at (L : List Int) (k n x : Nat) (h : x < n) : (bools (seenL L k n))[x]? = some (.bool (decide ((x : Int) ∈ L.take k))) := by
  unfold bools seenL
  simp [h]
theorem seen_next (L : List Int) (k n x : Nat) (hk : k < L.length) (hx : L.getD k 0 = (x : Int)) : (bools (seenL L k n)).set x (.bool true) = bools (seenL L (k + 1) n) := by
  have e : L.take (k + 1) = L.take k ++ [(x : Int)] := by
    rw [List.take_succ_eq_append_getElem hk]
    rw [List.getD_eq_getElem?_getD, List.getElem?_eq_getElem hk] at hx
    simp at hx
    rw [hx]
  apply List.ext_getElem?
  intro i
  rw [List.getElem?_set]
  by_cases h : i < n
  · rw [seen_at L (k + 1) n i h, e]
    by_cases hi : x = i
    · subst hi
      rw [if_pos rfl, if_pos (by unfold bools seenL; simpa using h)]
      simp
    · rw [if_neg hi, seen_at L k n i h]
      have : ((i : Int) ∈ L.take k ++ [(x : Int)]) ↔ (i : Int) ∈ L.take k := by
        rw [List.mem_append]
        simp
        intro c
        omega
      simp only [this]
  · have l1 : (bools (seenL L k n)).length ≤ i := by unfold bools seenL; simpa using h
    have l2 : (bools (seenL L (k + 1) n)).length ≤ i := by unfold bools seenL; simpa using h
    rw [List.getElem?_eq_none l2, List.getElem?_eq_none l1]
    split
    · split
      · omega
      · rfl
    · rfl
theorem not_seen (L : List Int) (k : Nat) (x : Int) (hn : L.Nodup) (hk : k < L.length) (hx : L.getD k 0 = x) : ¬ x ∈ L.take k := by
  intro c
  have e : L.take (k + 1) = L.take k ++ [x] := by
    rw [List.take_succ_eq_append_getElem hk]
    rw [List.getD_eq_getElem?_getD, List.getElem?_eq_getElem hk] at hx
    simp at hx
    rw [hx]
  have h := List.Nodup.sublist (List.take_sublist (k + 1) L) hn
  rw [e, List.nodup_append] at h
  exact h.2.2 x c x (by simp) rfl
theorem at_mem (L : List Int) (k : Nat) (hk : k < L.length) : L.getD k 0 ∈ L := by
  rw [List.getD_eq_getElem?_getD, List.getElem?_eq_getElem hk]
  exact List.getElem_mem hk

end Go.Proofs.Ytcflfkdamhkfdaa
