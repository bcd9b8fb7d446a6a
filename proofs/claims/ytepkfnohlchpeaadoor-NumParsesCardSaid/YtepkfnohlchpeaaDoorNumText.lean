/-
  Decimal texts of length units as lists of bytes: the digits before the point, the places behind it. No program is named here.
-/
import Derived.Test.YtepkfnohlchpeaaDoorKit
import Derived.Lib.ItoaNum
namespace Go.Proofs.YtepkfnohlchpeaaDoor
open Go.RowKit Go.Lib

/-- Eight places, filled up with '0' from the left. -/
def padL (l : List UInt8) : List UInt8 := List.replicate (8 - l.length) 48 ++ l
/-- Without the '0' at the end. -/
def stripL (l : List UInt8) : List UInt8 := (l.reverse.dropWhile (fun c => c == 48)).reverse
/-- The point and the places of r units. -/
def fracL (r : Nat) : List UInt8 := if r = 0 then [] else 46 :: stripL (padL (Lib.decDigits (r * 390625)))
/-- The decimal text of n. -/
def fmtL (n : Int) : List UInt8 := (if n < 0 then [45] else []) ++ (Lib.decDigits (n.natAbs / 256) ++ fracL (n.natAbs % 256))

def fracF : Nat → Nat → List UInt8
  | 0, _ => []
  | f + 1, r => if r = 0 then [] else UInt8.ofNat (48 + r * 10 / 256) :: fracF f (r * 10 % 256)
/-- The places of r units, one after the other. -/
def places (r : Nat) : List UInt8 := fracF 8 r

def eight (x : Nat) : List UInt8 := (List.range 8).map fun t => dg x (7 - t)

theorem dg_zero {x j k : Nat} (h : x < 10 ^ k) (hk : k ≤ j) : dg x j = 48 := by
  have h2 : 10 ^ k ≤ 10 ^ j := Nat.pow_le_pow_right (by omega) hk
  unfold dg
  rw [Nat.div_eq_of_lt (by omega)]
  rfl

theorem pad_eight {x : Nat} (h : x < 100000000) : padL (Lib.decDigits x) = eight x := by
  have hn : nDigits x ≤ 8 := by
    by_cases h1 : nDigits x ≤ 8
    · exact h1
    · exfalso
      have h2 : (Lib.decDigits x).length = nDigits x := decDigits_length x
      by_cases h0 : x < 1
      · rw [nDigits_small (by omega)] at h1; omega
      · have : ∀ k, k ≤ 7 → ¬ (10 ^ k ≤ x ∧ x < 10 ^ (k + 1)) := fun k hk hh => by
          have := nDigits_unique k x hh.1 hh.2
          omega
        have t0 := this 0 (by omega); have t1 := this 1 (by omega); have t2 := this 2 (by omega); have t3 := this 3 (by omega)
        have t4 := this 4 (by omega); have t5 := this 5 (by omega); have t6 := this 6 (by omega); have t7 := this 7 (by omega)
        simp at t0 t1 t2 t3 t4 t5 t6 t7
        omega
  have hp := nDigits_pos x
  have hl := lt_pow_nDigits x
  unfold padL eight
  rw [decDigits_length, decDigits_eq]
  apply List.ext_getElem
  · simp; omega
  · intro i h1 h2
    simp at h1 h2
    by_cases hi : i < 8 - nDigits x
    · rw [List.getElem_append_left (by simpa using hi)]
      simp
      exact (dg_zero hl (by omega)).symm
    · rw [List.getElem_append_right (by simpa using hi)]
      simp
      congr 1
      omega

theorem frac_fin : ∀ r : Fin 256, r.val = 0 ∨ stripL (eight (r.val * 390625)) = places r.val := by decide +kernel
theorem frac_places {r : Nat} (h : r < 256) (h0 : ¬ r = 0) : fracL r = 46 :: places r := by
  have := frac_fin ⟨r, h⟩
  unfold fracL
  rw [if_neg h0, pad_eight (by omega)]
  rcases this with h1 | h1
  · exact absurd h1 h0
  · rw [h1]
theorem places_fin : ∀ r : Fin 256, r.val = 0 ∨ places r.val = UInt8.ofNat (48 + r.val * 10 / 256) :: places (r.val * 10 % 256) := by decide +kernel
theorem places_step {r : Nat} (h : r < 256) (h0 : ¬ r = 0) : places r = UInt8.ofNat (48 + r * 10 / 256) :: places (r * 10 % 256) := by
  rcases places_fin ⟨r, h⟩ with h1 | h1
  · exact absurd h1 h0
  · exact h1
theorem places_zero : places 0 = [] := rfl
theorem places_ne {r : Nat} (h : r < 256) (h0 : ¬ r = 0) : places r ≠ [] := by rw [places_step h h0]; simp
theorem places_len : ∀ r : Fin 256, (places r.val).length ≤ 8 := by decide +kernel

theorem pad_step {l : List UInt8} (h : l.length < 8) : padL (48 :: l) = padL l := by
  unfold padL
  obtain ⟨k, hk⟩ : ∃ k, 8 - l.length = k + 1 := ⟨7 - l.length, by omega⟩
  rw [hk, List.length_cons, show 8 - (l.length + 1) = k by omega, List.replicate_succ']
  simp
theorem pad_done {l : List UInt8} (h : 8 ≤ l.length) : padL l = l := by
  unfold padL
  rw [show 8 - l.length = 0 by omega]; rfl
theorem strip_step (l : List UInt8) : stripL (l ++ [48]) = stripL l := by
  unfold stripL
  rw [List.reverse_append]
  rfl
theorem strip_done {l : List UInt8} {c : UInt8} (h : ¬ c = 48) : stripL (l ++ [c]) = l ++ [c] := by
  unfold stripL
  rw [List.reverse_append]
  simp [h]

end Go.Proofs.YtepkfnohlchpeaaDoor
