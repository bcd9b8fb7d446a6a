/-
  What Go's quotients and remainders of ints come to, as plain arithmetic (floors, signs, ranges). No program is named here.
-/
import Derived.WalkKit
namespace Go.Proofs.YtepkfnohlchpeaaDoor
open Go.RowKit

theorem tdiv_dvd {a b : Int} (h : a.tmod b = 0) : a.fdiv b = a.tdiv b := by
  have hd : b ∣ a := Int.dvd_of_tmod_eq_zero h
  rw [Int.fdiv_eq_tdiv, if_pos hd]; omega
theorem tdiv_up {a b : Int} (hb : ¬ b = 0) (h : ¬ a.tmod b = 0) (hs : ¬ (decide (a < 0) = decide (b < 0))) : a.fdiv b = a.tdiv b - 1 := by
  have hd : ¬ b ∣ a := fun hd => h (Int.tmod_eq_zero_of_dvd hd)
  rw [Int.fdiv_eq_tdiv, if_neg hd]
  by_cases h0 : 0 ≤ a
  · have : b < 0 := by
      by_cases hb0 : b < 0
      · exact hb0
      · exfalso; apply hs; rw [decide_eq_false (by omega), decide_eq_false hb0]
    rw [if_pos h0, if_neg (by omega)]
  · have : 0 < b := by
      by_cases hb0 : b < 0
      · exfalso; apply hs; rw [decide_eq_true (by omega), decide_eq_true hb0]
      · omega
    rw [if_neg h0, if_pos (by omega), Int.sign_eq_one_of_pos this]
theorem tdiv_eq {a b : Int} (h : ¬ a.tmod b = 0) (hs : decide (a < 0) = decide (b < 0)) : a.fdiv b = a.tdiv b := by
  have hd : ¬ b ∣ a := fun hd => h (Int.tmod_eq_zero_of_dvd hd)
  rw [Int.fdiv_eq_tdiv, if_neg hd]
  by_cases h0 : a < 0
  · rw [decide_eq_true h0] at hs
    have : b < 0 := of_decide_eq_true hs.symm
    rw [if_neg (by omega), if_neg (by omega), Int.sign_eq_neg_one_of_neg this]; omega
  · rw [decide_eq_false h0] at hs
    have : ¬ b < 0 := of_decide_eq_false hs.symm
    rw [if_pos (by omega), if_pos (by omega)]; omega
theorem tmod_sign {a b : Int} (h : ¬ a.tmod b = 0) : decide (a.tmod b < 0) = decide (a < 0) := by
  by_cases h0 : a < 0
  · have := Int.tmod_nonneg (a := -a) b (by omega)
    rw [Int.neg_tmod] at this
    rw [decide_eq_true h0, decide_eq_true (by omega)]
  · have := Int.tmod_nonneg (a := a) b (by omega)
    rw [decide_eq_false h0, decide_eq_false (by omega)]
theorem tdiv_range {a b : Int} (ha0 : -9223372036854775808 ≤ a) (ha1 : a ≤ 9223372036854775807) (hm : ¬ (a = -9223372036854775808 ∧ b = -1)) :
    -9223372036854775808 ≤ a.tdiv b ∧ a.tdiv b ≤ 9223372036854775807 := by
  by_cases h0 : b = 0
  · subst h0; rw [Int.tdiv_zero]; omega
  by_cases h1 : b = 1
  · subst h1; rw [Int.tdiv_one]; omega
  by_cases h2 : b = -1
  · subst h2; rw [Int.tdiv_neg, Int.tdiv_one]; omega
  have h : (a.tdiv b).natAbs = a.natAbs / b.natAbs := Int.natAbs_tdiv a b
  have hk : 2 ≤ b.natAbs := by omega
  have hd : a.natAbs / b.natAbs ≤ a.natAbs / 2 := Nat.div_le_div_left hk (by omega)
  omega
theorem fdiv_range {a b : Int} (ha0 : -9223372036854775808 ≤ a) (ha1 : a ≤ 9223372036854775807) (hm : ¬ (a = -9223372036854775808 ∧ b = -1)) :
    -9223372036854775808 ≤ a.fdiv b ∧ a.fdiv b ≤ 9223372036854775807 := by
  by_cases h0 : b = 0
  · subst h0; rw [Int.fdiv_zero]; omega
  by_cases h1 : b = 1
  · subst h1; rw [Int.fdiv_one]; omega
  by_cases h2 : b = -1
  · subst h2; rw [Int.fdiv_neg (by omega), Int.fdiv_one, if_pos (by exact Int.one_dvd _)]; omega
  have h : (a.tdiv b).natAbs = a.natAbs / b.natAbs := Int.natAbs_tdiv a b
  have hk : 2 ≤ b.natAbs := by omega
  have hd : a.natAbs / b.natAbs ≤ a.natAbs / 2 := Nat.div_le_div_left hk (by omega)
  rw [Int.fdiv_eq_tdiv]
  have hs := Int.sign_trichotomy b
  have hq : -4611686018427387904 ≤ a.tdiv b ∧ a.tdiv b ≤ 4611686018427387904 := by omega
  clear h hd
  split
  · omega
  · split
    · split <;> omega
    · split <;> omega

theorem tmod_zero_of {a b : Int} (h : ¬ (a.tmod b != 0) = true) : a.tmod b = 0 := by simpa using h

/-- The rest of the floor: between 0 and the divisor. -/
theorem rest_pos {a b : Int} (hb : 0 < b) : 0 ≤ a - a.fdiv b * b ∧ a - a.fdiv b * b < b := by
  have h := Int.fmod_def a b
  rw [Int.mul_comm] at h
  rw [← h]
  exact ⟨Int.fmod_nonneg_of_pos _ hb, Int.fmod_lt_of_pos _ hb⟩
theorem rest_neg {a b : Int} (hb : b < 0) : a - a.fdiv b * b ≤ 0 ∧ b < a - a.fdiv b * b := by
  have h := Int.fmod_def a b
  rw [Int.mul_comm] at h
  rw [← h, Int.fmod_eq_emod]
  have h1 := Int.emod_nonneg a (show b ≠ 0 by omega)
  have h2 := Int.emod_lt_of_neg a hb
  by_cases hd : b ∣ a
  · rw [if_pos (Or.inr hd), Int.emod_eq_zero_of_dvd hd]; omega
  · have : ¬ a % b = 0 := fun h0 => hd (Int.dvd_of_emod_eq_zero h0)
    rw [if_neg (by omega)]; omega

end Go.Proofs.YtepkfnohlchpeaaDoor
