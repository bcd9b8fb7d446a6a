/-
  What the reference of astar answers: Regions.
-/
import Derived.Test.YtpgchjhfhndaaaaGreatDoorAsXe
namespace Go.Proofs.YtpgchjhfhndaaaaGreatDoor
open Go.RowKit Go.Lib

/-- What Regions gives. -/
structure RegsR (m : M3) (bl : List Bool) (c : Int) (b : Bool) (R : List Int) : Prop where
  no : b = false → R = []
  yes : b = true → Regs (nb m bl c) m.cs.length (opn m bl c) m.cs.length R
/-- In the middle of naming what can be reached: the cells below k are looked at. -/
structure Flood (R E R' : List Int) (i n k : Nat) : Prop where
  len : R'.length = n
  lo : ∀ q, q < k → ga R' q = if 0 ≤ ga E q then (i : Int) else ga R q
  hi : ∀ q, k ≤ q → ga R' q = ga R q
theorem Flood.start {R E : List Int} {i n : Nat} (h : R.length = n) : Flood R E R i n 0 := ⟨h, fun q h => by omega, fun _ _ => rfl⟩
theorem Flood.hit {R E R' : List Int} {i n k : Nat} (h : Flood R E R' i n k) (hk : k < n) (h0 : 0 ≤ ga E k) : Flood R E (R'.set k i) i n (k + 1) := by
  refine ⟨by rw [List.length_set]; exact h.len, fun q hq => ?_, fun q hq => ?_⟩
  · rw [ga_set _ _ _ _ (by rw [h.len]; exact hk)]
    by_cases e : q = k
    · rw [if_pos e, e, if_pos h0]
    · rw [if_neg e]; exact h.lo q (by omega)
  · rw [ga_set _ _ _ _ (by rw [h.len]; exact hk), if_neg (by omega)]
    exact h.hi q (by omega)
theorem Flood.miss {R E R' : List Int} {i n k : Nat} (h : Flood R E R' i n k) (h0 : ¬ 0 ≤ ga E k) : Flood R E R' i n (k + 1) := by
  refine ⟨h.len, fun q hq => ?_, fun q hq => h.hi q (by omega)⟩
  by_cases e : q = k
  · rw [e, if_neg h0]; exact h.hi k (Nat.le_refl _)
  · exact h.lo q (by omega)
theorem regs_low {nb : Nb} {n i : Nat} {free : Nat → Prop} {R : List Int} (h : Regs nb n free i R) (q : Nat) : -1 ≤ ga R q := by
  by_cases hq : q < n
  · by_cases hf : free q
    · by_cases hj : ∃ j, j < i ∧ Conn nb j q
      · obtain ⟨j, h1, h2⟩ := hj
        obtain ⟨k, e, _⟩ := h.yes q hq hf j h1 h2
        omega
      · have := h.no q hq (.inr fun j h1 h2 => hj ⟨j, h1, h2⟩)
        omega
    · have := h.no q hq (.inl hf)
      omega
  · unfold ga
    rw [List.getD_eq_getElem?_getD, List.getElem?_eq_none (by rw [h.len]; omega)]
    simp
/-- All that can be reached from i has its name. -/
theorem flood_over {nb : Nb} {n i : Nat} {free : Nat → Prop} {R E R' : List Int} (ok : GOk nb n) (h0 : Regs nb n free i R) (hf : ∀ p q, Conn nb p q → p ≠ q → free p ∧ free q) (hi : i < n) (hfr : free i) (hr : ¬ 0 ≤ ga R i) (hE : IsDist nb n i E) (h : Flood R E R' i n n) : Regs nb n free (i + 1) R' := by
  refine h0.reach ok hf hi hfr (by have := regs_low h0 i; omega) h.len (fun q hq hc => ?_) (fun q hq hc => ?_)
  · obtain ⟨c, w⟩ := hc
    rw [h.lo q hq, if_pos (hE.least ok hi w).1]
  · rw [h.lo q hq, if_neg (fun h0 => hc ⟨_, hE.way h0⟩)]
theorem cell_heap {w w' : World} {g i : Nat} (h : w'.heap[g]? = w.heap[g]?) : w'.cell? ⟨g, i, none⟩ = w.cell? ⟨g, i, none⟩ := by
  simp [World.cell?, h]

end Go.Proofs.YtpgchjhfhndaaaaGreatDoor
