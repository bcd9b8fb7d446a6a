/-
  The numbers of layer 4: the encoding of an unsigned number, its reading, the ints. No program is named here.
-/
import Derived.WalkKit
import Derived.IntWalk
import Derived.Lib.Hide
namespace Go.Proofs.Ytmpgeipknnoclaa
open Go.RowKit Go.Lib

/-- The encoding of a number. -/
def encU (n : Nat) : List UInt8 := if n < 128 then [UInt8.ofNat n] else UInt8.ofNat (128 + n % 128) :: encU (n / 128)
termination_by n
decreasing_by omega
theorem enc_low {n : Nat} (h : n < 128) : encU n = [UInt8.ofNat n] := by rw [encU, if_pos h]
theorem enc_high {n : Nat} (h : ¬ n < 128) : encU n = UInt8.ofNat (128 + n % 128) :: encU (n / 128) := by rw [encU, if_neg h]
theorem enc_pos (n : Nat) : 1 ≤ (encU n).length := by
  by_cases h : n < 128
  · rw [enc_low h]; exact Nat.le_refl 1
  · rw [enc_high h, List.length_cons]; omega
theorem byte_of {n : Nat} (h : n < 256) : (UInt8.ofNat n).toNat = n := by rw [UInt8.toNat_ofNat']; omega

/-- What is read from byte number k on (counted from 0), the number so far being a: the number, how many bytes it takes, the error. -/
def takeGo : Nat → Nat → List UInt8 → Nat × Nat × Int
  | _, _, [] => (0, 0, 4)
  | k, a, b :: l =>
    if k = 9 ∧ 1 < b.toNat then (0, 0, 5)
    else if 128 ≤ b.toNat then takeGo (k + 1) (a + b.toNat % 128 * 128 ^ k) l
    else if b.toNat = 0 ∧ 0 < k then (0, 0, 5)
    else (a + b.toNat * 128 ^ k, k + 1, 0)
def takeU (l : List UInt8) : Nat × Nat × Int := takeGo 0 0 l

/-- A number that may stand at byte k. -/
def Fits (k n : Nat) : Prop := n * 128 ^ k < 18446744073709551616
theorem fits_next {k n : Nat} (h : Fits k n) : Fits (k + 1) (n / 128) := by
  unfold Fits at *
  have e : n / 128 * 128 ^ (k + 1) = (n / 128 * 128) * 128 ^ k := by rw [Nat.pow_succ, Nat.mul_assoc, Nat.mul_comm (128 ^ k)]
  have := Nat.mul_le_mul_right (128 ^ k) (Nat.div_mul_le_self n 128)
  omega
theorem fits_nine {n : Nat} (h : Fits 9 n) : n ≤ 1 := by
  unfold Fits at h
  have e : (128 : Nat) ^ 9 = 9223372036854775808 := by decide
  rw [e] at h; omega
theorem split_at (n k : Nat) : n % 128 * 128 ^ k + n / 128 * 128 ^ (k + 1) = n * 128 ^ k := by
  rw [Nat.pow_succ, ← Nat.mul_assoc, Nat.mul_right_comm, ← Nat.add_mul, Nat.add_comm, Nat.mul_comm (n / 128), Nat.div_add_mod]
theorem go_enc : ∀ (n k a : Nat) (rest : List UInt8), Fits k n → (0 < k → 0 < n) → takeGo k a (encU n ++ rest) = (a + n * 128 ^ k, k + (encU n).length, 0) := by
  intro n
  induction n using Nat.strongRecOn with
  | _ n ih =>
    intro k a rest hf hk
    by_cases h : n < 128
    · rw [enc_low h]
      simp only [List.cons_append, List.nil_append, takeGo, byte_of (show n < 256 by omega)]
      rw [if_neg (fun ⟨c, d⟩ => by subst c; have := fits_nine hf; omega), if_neg (by omega), if_neg (fun ⟨c, d⟩ => by have := hk d; omega)]
      rfl
    · rw [enc_high h]
      simp only [List.cons_append, takeGo, byte_of (show 128 + n % 128 < 256 by omega)]
      rw [if_neg (fun ⟨c, d⟩ => by subst c; have := fits_nine hf; omega), if_pos (by omega), ih (n / 128) (by omega) (k + 1) _ rest (fits_next hf) (by omega)]
      have e := split_at n k
      rw [show (128 + n % 128) % 128 = n % 128 by omega, List.length_cons, show a + n % 128 * 128 ^ k + n / 128 * 128 ^ (k + 1) = a + n * 128 ^ k by omega, show k + 1 + (encU (n / 128)).length = k + ((encU (n / 128)).length + 1) by omega]
theorem take_enc (n : Nat) (rest : List UInt8) (h : n < 18446744073709551616) : takeU (encU n ++ rest) = (n, (encU n).length, 0) := by
  have := go_enc n 0 0 rest (by unfold Fits; simpa using h) (by omega)
  simpa [takeU] using this
theorem go_cut : ∀ (n k a j : Nat), Fits k n → j < (encU n).length → takeGo k a ((encU n).take j) = (0, 0, 4) := by
  intro n
  induction n using Nat.strongRecOn with
  | _ n ih =>
    intro k a j hf hj
    by_cases h : n < 128
    · rw [enc_low h] at hj ⊢
      have : j = 0 := by simpa using hj
      subst this; rfl
    · rw [enc_high h] at hj ⊢
      cases j with
      | zero => rfl
      | succ j =>
        rw [List.take_succ_cons]
        simp only [takeGo, byte_of (show 128 + n % 128 < 256 by omega)]
        rw [if_neg (fun ⟨c, d⟩ => by subst c; have := fits_nine hf; omega), if_pos (by omega)]
        exact ih (n / 128) (by omega) (k + 1) _ j (fits_next hf) (by simpa using hj)
theorem take_cut (n j : Nat) (h : n < 18446744073709551616) (hj : j < (encU n).length) : takeU ((encU n).take j) = (0, 0, 4) := go_cut n 0 0 j (by unfold Fits; simpa using h) hj

/-- What is read is the encoding of the result. -/
theorem go_says : ∀ (l : List UInt8) (k a : Nat), k ≤ 9 → (takeGo k a l).2.2 = 0 → ∃ m, takeGo k a l = (a + m * 128 ^ k, k + (encU m).length, 0) ∧ l.take (encU m).length = encU m ∧ (0 < k → 0 < m) ∧ m < 2 ^ (64 - 7 * k) := by
  intro l
  induction l with
  | nil => intro k a _ h; exact absurd h (by simp [takeGo])
  | cons b l ih =>
    intro k a hk h
    have hb := b.toNat_lt
    simp only [takeGo] at h ⊢
    by_cases c1 : k = 9 ∧ 1 < b.toNat
    · rw [if_pos c1] at h; exact absurd h (by decide)
    · rw [if_neg c1] at h ⊢
      by_cases c2 : 128 ≤ b.toNat
      · rw [if_pos c2] at h ⊢
        have hk9 : k + 1 ≤ 9 := by omega
        obtain ⟨m, e, ht, hp, hm⟩ := ih (k + 1) _ hk9 h
        have m0 := hp (by omega)
        have d1 : (b.toNat % 128 + 128 * m) % 128 = b.toNat % 128 := by omega
        have d2 : (b.toNat % 128 + 128 * m) / 128 = m := by omega
        have en : encU (b.toNat % 128 + 128 * m) = b :: encU m := by
          rw [enc_high (by omega), d1, d2, show 128 + b.toNat % 128 = b.toNat by omega]
          congr 1
          exact UInt8.ofNat_toNat
        refine ⟨b.toNat % 128 + 128 * m, ?_, ?_, by omega, ?_⟩
        · rw [e, en, List.length_cons]
          have s := split_at (b.toNat % 128 + 128 * m) k
          rw [d1, d2] at s
          rw [show a + b.toNat % 128 * 128 ^ k + m * 128 ^ (k + 1) = a + (b.toNat % 128 + 128 * m) * 128 ^ k by omega, show k + 1 + (encU m).length = k + ((encU m).length + 1) by omega]
        · rw [en, List.length_cons, List.take_succ_cons, ht]
        · have e2 : 2 ^ (64 - 7 * k) = 128 * 2 ^ (64 - 7 * (k + 1)) := by
            rw [show 64 - 7 * k = 7 + (64 - 7 * (k + 1)) by omega, Nat.pow_add]
          rw [e2]; omega
      · rw [if_neg c2] at h ⊢
        by_cases c3 : b.toNat = 0 ∧ 0 < k
        · rw [if_pos c3] at h; exact absurd h (by decide)
        · rw [if_neg c3]
          have en : encU b.toNat = [b] := by rw [enc_low (by omega)]; congr 1; exact UInt8.ofNat_toNat
          refine ⟨b.toNat, by rw [en]; rfl, by rw [en]; rfl, by omega, ?_⟩
          by_cases k9 : k = 9
          · subst k9; have : (2 : Nat) ^ (64 - 7 * 9) = 2 := by decide
            omega
          · have : 2 ^ 8 ≤ 2 ^ (64 - 7 * k) := Nat.pow_le_pow_right (by omega) (by omega)
            omega
theorem take_says (l : List UInt8) (h : (takeU l).2.2 = 0) : ∃ m, takeU l = (m, (encU m).length, 0) ∧ l.take (encU m).length = encU m ∧ m < 18446744073709551616 := by
  obtain ⟨m, e, ht, -, hm⟩ := go_says l 0 0 (by omega) h
  exact ⟨m, by simpa [takeU] using e, ht, by simpa using hm⟩
/-- An error leaves zeros. -/
theorem go_err : ∀ (l : List UInt8) (k a : Nat), (takeGo k a l).2.2 ≠ 0 → (takeGo k a l).1 = 0 ∧ (takeGo k a l).2.1 = 0 := by
  intro l
  induction l with
  | nil => intro k a _; exact ⟨rfl, rfl⟩
  | cons b l ih =>
    intro k a h
    simp only [takeGo] at h ⊢
    split
    · exact ⟨rfl, rfl⟩
    · rename_i c1
      rw [if_neg c1] at h
      split
      · rename_i c2
        rw [if_pos c2] at h
        exact ih _ _ h
      · rename_i c2
        rw [if_neg c2] at h
        split
        · exact ⟨rfl, rfl⟩
        · rename_i c3
          rw [if_neg c3] at h
          exact absurd rfl h
/-- A longer number has no shorter encoding. -/
theorem enc_mono : ∀ (m n : Nat), n ≤ m → (encU n).length ≤ (encU m).length := by
  intro m
  induction m using Nat.strongRecOn with
  | _ m ih =>
    intro n h
    by_cases hm : m < 128
    · rw [enc_low hm, enc_low (show n < 128 by omega)]; exact Nat.le_refl _
    · by_cases hn : n < 128
      · rw [enc_low hn]; exact enc_pos m
      · rw [enc_high hm, enc_high hn, List.length_cons, List.length_cons]
        have := ih (m / 128) (by omega) (n / 128) (by omega)
        omega
theorem enc_len : ∀ (f n : Nat), n < 128 ^ (f + 1) → (encU n).length ≤ f + 1 := by
  intro f
  induction f with
  | zero => intro n h; rw [enc_low (by simpa using h)]; exact Nat.le_refl 1
  | succ f ih =>
    intro n h
    by_cases hn : n < 128
    · rw [enc_low hn, List.length_singleton]; omega
    · rw [enc_high hn, List.length_cons]
      have := ih (n / 128) (by rw [Nat.pow_succ] at h; omega)
      omega
theorem enc_ten (n : Nat) (h : n < 18446744073709551616) : (encU n).length ≤ 10 := enc_len 9 n (Nat.lt_of_lt_of_le h (by decide))

/-- The ints, as unsigned numbers. -/
def zz (n : Int) : Nat := if n < 0 then (-2 * n - 1).toNat else (2 * n).toNat
def unzz (u : Nat) : Int := if u % 2 = 1 then -((u / 2 : Nat) : Int) - 1 else ((u / 2 : Nat) : Int)
theorem unzz_zz (n : Int) : unzz (zz n) = n := by unfold unzz zz; split <;> split <;> omega
theorem zz_unzz (u : Nat) : zz (unzz u) = u := by unfold unzz zz; split <;> split <;> omega
theorem zz_bd (n : Int) (h0 : -9223372036854775808 ≤ n) (h1 : n ≤ 9223372036854775807) : zz n < 18446744073709551616 := by unfold zz; split <;> omega
theorem unzz_bd (u : Nat) (h : u < 18446744073709551616) : -9223372036854775808 ≤ unzz u ∧ unzz u ≤ 9223372036854775807 := by unfold unzz; split <;> omega

/-! ### The functions of the layer, on lists of bytes -/
def takeAt (l : List UInt8) (i : Int) : Nat × Int × Int :=
  if i < 0 ∨ (l.length : Int) < i then (0, 0, 1)
  else if (takeU (l.drop i.toNat)).2.2 = 0 then ((takeU (l.drop i.toNat)).1, i + (takeU (l.drop i.toNat)).2.1, 0) else (0, 0, (takeU (l.drop i.toNat)).2.2)
def intAt (l : List UInt8) (i : Int) : Int × Int × Int :=
  if (takeAt l i).2.2 = 0 then (unzz (takeAt l i).1, (takeAt l i).2.1, 0) else (0, 0, (takeAt l i).2.2)
def countAt (l : List UInt8) (i m : Int) : Nat × Int × Int :=
  if (takeAt l i).2.2 = 0 then
    if m < 0 ∨ m < ((takeAt l i).1 : Int) then (0, 0, 2)
    else if (l.length : Int) - (takeAt l i).2.1 < (takeAt l i).1 then (0, 0, 4) else ((takeAt l i).1, (takeAt l i).2.1, 0)
  else (0, 0, (takeAt l i).2.2)
def textAt (l : List UInt8) (i m : Int) : List UInt8 × Int × Int :=
  if (countAt l i m).2.2 = 0 then ((l.drop (countAt l i m).2.1.toNat).take (countAt l i m).1, (countAt l i m).2.1 + (countAt l i m).1, 0) else ([], 0, (countAt l i m).2.2)
def boolAt (l : List UInt8) (i : Int) : Bool × Int × Int :=
  if i < 0 ∨ (l.length : Int) < i then (false, 0, 1)
  else match l.drop i.toNat with
    | [] => (false, 0, 4)
    | b :: _ => if 1 < b.toNat then (false, 0, 5) else (b.toNat == 1, i + 1, 0)
/-- A position and the list from there on. -/
theorem at_pos {l : List UInt8} {i : Int} (h0 : 0 ≤ i) (h1 : i ≤ l.length) : takeAt l i = (if (takeU (l.drop i.toNat)).2.2 = 0 then ((takeU (l.drop i.toNat)).1, i + (takeU (l.drop i.toNat)).2.1, 0) else (0, 0, (takeU (l.drop i.toNat)).2.2)) := by
  unfold takeAt
  rw [if_neg (by omega)]
/-- What is known of a read number. -/
theorem at_says {l : List UInt8} {i : Int} {n : Nat} {x e : Int} (h : takeAt l i = (n, x, e)) : (e = 0 ∧ 0 ≤ i ∧ i < x ∧ x ≤ l.length ∧ n < 18446744073709551616 ∧ x = i + (encU n).length ∧ (l.drop i.toNat).take (encU n).length = encU n) ∨ (e ≠ 0 ∧ n = 0 ∧ x = 0) := by
  unfold takeAt at h
  by_cases c : i < 0 ∨ (l.length : Int) < i
  · rw [if_pos c] at h
    injection h with h1 h2; injection h2 with h2 h3
    right; exact ⟨by omega, by omega, by omega⟩
  · rw [if_neg c] at h
    by_cases d : (takeU (l.drop i.toNat)).2.2 = 0
    · rw [if_pos d] at h
      obtain ⟨m, em, ht, hm⟩ := take_says _ d
      rw [em] at h
      injection h with h1 h2; injection h2 with h2 h3
      have h1' : n = m := h1.symm
      subst h1'
      left
      have hl := congrArg List.length ht
      rw [List.length_take, List.length_drop] at hl
      have := enc_pos n
      have hx : x = i + ((encU n).length : Int) := h2.symm
      exact ⟨h3.symm, by omega, by omega, by omega, hm, hx, ht⟩
    · rw [if_neg d] at h
      injection h with h1 h2; injection h2 with h2 h3
      right; exact ⟨by rw [← h3]; exact d, h1.symm, h2.symm⟩

end Go.Proofs.Ytmpgeipknnoclaa
