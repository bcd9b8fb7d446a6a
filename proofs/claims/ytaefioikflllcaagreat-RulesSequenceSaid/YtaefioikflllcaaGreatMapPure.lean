/-
  The numbers, names and texts of map files, as plain functions.
-/
import Derived.Lib.Hide
import Derived.Lib.ItoaNum
import Derived.Lib.AtoiAll
import Derived.Lib.CutLaws
import Derived.Test.YtaefioikflllcaaGreatNumsG
namespace Go.Proofs.YtaefioikflllcaaGreat

section
open Go.RowKit Go.Lib

def digB (c : UInt8) : Bool := decide (48 ≤ c.toNat ∧ c.toNat ≤ 57)
def valN (a : Nat) (l : List UInt8) : Nat := l.foldl (fun a c => a * 10 + (c.toNat - 48)) a
/-- Digits without leading zeros. -/
def canonB (l : List UInt8) : Bool := !l.isEmpty && l.all digB && (decide (l.length ≤ 1) || !(l.head? == some 48))
/-- The number from lo to hi that a text is the decimal form of. -/
def numR (l : List UInt8) (lo hi : Nat) : Option Nat := if canonB l = true ∧ lo ≤ valN 0 l ∧ valN 0 l ≤ hi then some (valN 0 l) else none

theorem digB_iff (c : UInt8) : digB c = true ↔ 48 ≤ c.toNat ∧ c.toNat ≤ 57 := by unfold digB; exact decide_eq_true_iff
theorem valN_cons (a : Nat) (c : UInt8) (l : List UInt8) : valN a (c :: l) = valN (a * 10 + (c.toNat - 48)) l := by simp only [valN, List.foldl_cons]
theorem valN_snoc (a : Nat) (l : List UInt8) (c : UInt8) : valN a (l ++ [c]) = valN a l * 10 + (c.toNat - 48) := by simp [valN]
theorem valN_ge : ∀ (l : List UInt8) (a : Nat), a ≤ valN a l := by
  intro l
  induction l with
  | nil => intro a; exact Nat.le_refl _
  | cons c l ih => intro a; rw [valN_cons]; exact Nat.le_trans (by omega) (ih _)
theorem dig_nat {k : Nat} (h : k < 10) : (UInt8.ofNat (48 + k)).toNat = 48 + k := by
  rw [UInt8.toNat_ofNat']; omega
theorem dig_byte {k : Nat} (h : k < 10) : digB (UInt8.ofNat (48 + k)) = true := by rw [digB_iff, dig_nat h]; omega

theorem canon_iff (l : List UInt8) : canonB l = true ↔ l ≠ [] ∧ l.all digB = true ∧ (l.length ≤ 1 ∨ l.head? ≠ some 48) := by
  unfold canonB
  rw [Bool.and_eq_true, Bool.and_eq_true, Bool.or_eq_true, decide_eq_true_iff, Bool.not_eq_true', Bool.not_eq_true', List.isEmpty_eq_false_iff, beq_eq_false_iff_ne]
  constructor
  · rintro ⟨⟨a, b⟩, c⟩; exact ⟨a, b, c⟩
  · rintro ⟨a, b, c⟩; exact ⟨⟨a, b⟩, c⟩

theorem dec_ne (n : Nat) : decDigits n ≠ [] := by
  rw [decDigits]
  split <;> simp
theorem dec_digits (n : Nat) : (decDigits n).all digB = true := by
  induction n using Nat.strongRecOn with
  | _ n ih =>
    rw [decDigits]
    split
    · rename_i h; rw [List.all_cons, dig_byte h]; rfl
    · rename_i h
      rw [List.all_append, ih (n / 10) (by omega), List.all_cons, dig_byte (show n % 10 < 10 by omega)]
      rfl
theorem dec_val (n : Nat) : valN 0 (decDigits n) = n := by
  induction n using Nat.strongRecOn with
  | _ n ih =>
    rw [decDigits]
    split
    · rename_i h; rw [valN_cons, dig_nat h]; show 0 * 10 + (48 + n - 48) = n; omega
    · rename_i h
      rw [valN_snoc, ih (n / 10) (by omega), dig_nat (show n % 10 < 10 by omega)]
      omega
theorem dec_head (n : Nat) (h1 : 1 ≤ n) : (decDigits n).head? ≠ some 48 := by
  induction n using Nat.strongRecOn with
  | _ n ih =>
    rw [decDigits]
    split
    · rename_i h
      intro e
      simp only [List.head?_cons, Option.some.injEq] at e
      have := congrArg UInt8.toNat e
      rw [dig_nat h] at this
      have h48 : (48 : UInt8).toNat = 48 := rfl
      omega
    · rename_i h
      have i1 := ih (n / 10) (by omega) (by omega)
      cases hd : decDigits (n / 10) with
      | nil => exact absurd hd (dec_ne _)
      | cons a b =>
        rw [hd] at i1
        rw [List.cons_append]
        exact i1
theorem canon_dec (n : Nat) : canonB (decDigits n) = true := by
  rw [canon_iff]
  refine ⟨dec_ne n, dec_digits n, ?_⟩
  by_cases h : n = 0
  · left; subst h; rw [decDigits_one (by omega)]; simp
  · right; exact dec_head n (by omega)

theorem canon_pos {l : List UInt8} (h : canonB l = true) (h2 : 2 ≤ l.length) : 1 ≤ valN 0 l := by
  obtain ⟨_, hd, hh⟩ := (canon_iff l).1 h
  cases l with
  | nil => simp at h2
  | cons c l =>
    rw [List.all_cons, Bool.and_eq_true] at hd
    have h4 := (digB_iff c).1 hd.1
    have h5 : c ≠ 48 := by
      rcases hh with hh | hh
      · omega
      · intro e; exact hh (by rw [e]; rfl)
    have h6 : c.toNat ≠ 48 := fun e => h5 (UInt8.toNat_inj.1 e)
    rw [valN_cons]
    exact Nat.le_trans (by omega) (valN_ge l _)
theorem dec_canon : ∀ (n : Nat) (l : List UInt8), l.length = n → canonB l = true → decDigits (valN 0 l) = l := by
  intro n
  induction n with
  | zero => intro l h0 h; exact absurd (List.eq_nil_of_length_eq_zero h0) ((canon_iff l).1 h).1
  | succ n ih =>
    intro l hl h
    rcases List.eq_nil_or_concat l with rfl | ⟨L, c, rfl⟩
    · simp at hl
    · rw [List.concat_eq_append] at *
      obtain ⟨_, hd, hh⟩ := (canon_iff _).1 h
      rw [List.all_append, Bool.and_eq_true] at hd
      have hc := (digB_iff c).1 (by simpa using hd.2)
      have hcn : UInt8.ofNat (48 + (c.toNat - 48)) = c := by
        apply UInt8.toNat_inj.1
        rw [dig_nat (by omega)]
        omega
      cases L with
      | nil =>
        rw [List.nil_append, valN_cons]
        show decDigits (0 * 10 + (c.toNat - 48)) = [c]
        rw [Nat.zero_mul, Nat.zero_add, decDigits_one (by omega), hcn]
      | cons b L =>
        have hL : canonB (b :: L) = true := by
          rw [canon_iff]
          refine ⟨by simp, hd.1, Or.inr ?_⟩
          rcases hh with hh | hh
          · simp at hh
          · simpa using hh
        have hlen : (b :: L).length = n := by rw [List.length_append] at hl; simpa using hl
        have e := ih _ hlen hL
        have hp : 1 ≤ valN 0 (b :: L) := by
          by_cases h2 : 2 ≤ (b :: L).length
          · exact canon_pos hL h2
          · rcases hh with hh | hh
            · simp at hh
            · have hb : b ≠ 48 := fun e => hh (by rw [e]; rfl)
              have hL0 : L = [] := by
                cases L with
                | nil => rfl
                | cons _ _ => simp at h2
              subst hL0
              have h4 := (digB_iff b).1 (by simpa using hd.1)
              have h6 : b.toNat ≠ 48 := fun e => hb (UInt8.toNat_inj.1 e)
              rw [valN_cons]
              show 1 ≤ 0 * 10 + (b.toNat - 48)
              omega
        rw [valN_snoc]
        have h1 : (valN 0 (b :: L) * 10 + (c.toNat - 48)) / 10 = valN 0 (b :: L) := by omega
        have h2 : (valN 0 (b :: L) * 10 + (c.toNat - 48)) % 10 = c.toNat - 48 := by omega
        rw [decDigits, dif_neg (by omega), h1, h2, e, hcn]
theorem dec_of_canon {l : List UInt8} (h : canonB l = true) : decDigits (valN 0 l) = l := dec_canon _ l rfl h
theorem dec_len : ∀ (k n : Nat), n < 10 ^ (k + 1) → (decDigits n).length ≤ k + 1 := by
  intro k
  induction k with
  | zero => intro n h; rw [decDigits_one (by simpa using h)]; simp
  | succ k ih =>
    intro n h
    rw [decDigits]
    split
    · simp
    · rw [List.length_append]
      have := ih (n / 10) (by rw [Nat.pow_succ] at h; omega)
      simp; omega
/-- A number of more than seven digits is more than 1000000. -/
theorem canon_long {l : List UInt8} (h : canonB l = true) (h8 : 8 ≤ l.length) : 1000000 < valN 0 l := by
  by_cases h1 : 1000000 < valN 0 l
  · exact h1
  · exfalso
    have := dec_len 6 (valN 0 l) (by have : (10 : Nat) ^ (6 + 1) = 10000000 := rfl
                                     omega)
    rw [dec_of_canon h] at this
    omega
theorem numR_dec {n lo hi : Nat} (h0 : lo ≤ n) (h1 : n ≤ hi) : numR (decDigits n) lo hi = some n := by
  unfold numR
  rw [dec_val, if_pos ⟨canon_dec n, h0, h1⟩]
theorem numR_some {l : List UInt8} {lo hi n : Nat} (h : numR l lo hi = some n) : l = decDigits n ∧ lo ≤ n ∧ n ≤ hi := by
  unfold numR at h
  split at h
  · rename_i hc
    injection h with h
    subst h
    exact ⟨(dec_of_canon hc.1).symm, hc.2⟩
  · cases h
/-- strconv.Atoi at a number: its value. -/
theorem parse_digits : ∀ (l : List UInt8) (a : Nat), l.all digB = true → valN a l < 1000000000000000000 → parseUint10 a l = .ok (valN a l) := by
  intro l
  induction l with
  | nil => intro a _ _; rfl
  | cons c l ih =>
    intro a hd hv
    rw [List.all_cons, Bool.and_eq_true] at hd
    have hc := (digB_iff c).1 hd.1
    rw [valN_cons] at hv ⊢
    have hg := valN_ge l (a * 10 + (c.toNat - 48))
    rw [parseUint10, if_pos hc, if_neg (by omega), if_neg (by omega)]
    exact ih _ hd.2 hv
theorem atoi_canon {l : List UInt8} (h : canonB l = true) (hv : valN 0 l < 1000000000000000000) : atoiAll l = .ok (valN 0 l : Int) := by
  obtain ⟨hne, hd, _⟩ := (canon_iff l).1 h
  cases l with
  | nil => exact absurd rfl hne
  | cons c r =>
    have hd' := hd
    rw [List.all_cons, Bool.and_eq_true] at hd'
    have hc := (digB_iff c).1 hd'.1
    unfold atoiAll
    simp only
    rw [if_neg (by omega)]
    unfold parseMag
    rw [if_neg hne, parse_digits _ _ hd hv]
    simp only
    rw [if_neg (by omega), if_neg (by omega), if_neg (by omega)]
theorem itoa_canon {l : List UInt8} {v : Int} (h0 : 0 ≤ v) (h : itoa v = l) : canonB l = true ∧ (valN 0 l : Int) = v := by
  unfold itoa at h
  rw [if_neg (by omega)] at h
  subst h
  exact ⟨canon_dec _, by rw [dec_val]; omega⟩

end

section
open Go.RowKit Go.Lib

/-- A text cut at the first c. -/
def cutC (c : UInt8) : List UInt8 → List UInt8 × List UInt8 × Bool
  | [] => ([], [], false)
  | b :: l => if b = c then ([], l, true) else (b :: (cutC c l).1, (cutC c l).2.1, (cutC c l).2.2)
/-- The pieces between all c. -/
def parts (c : UInt8) : List UInt8 → List (List UInt8)
  | [] => [[]]
  | b :: l => if b = c then [] :: parts c l else match parts c l with
    | [] => [[b]]
    | x :: xs => (b :: x) :: xs
/-- The lines that have a line feed, and what stands behind the last. -/
def linesB (s : List UInt8) : List (List UInt8) := (parts 10 s).dropLast
def tailB (s : List UInt8) : List UInt8 := (parts 10 s).getLastD []

theorem cutC_cons (d c : UInt8) (l : List UInt8) (h : ¬ c = d) : Lib.cut (c :: l) [d] = (c :: (Lib.cut l [d]).1, (Lib.cut l [d]).2.1, (Lib.cut l [d]).2.2) := by
  have hp : ([d] : List UInt8).isPrefixOf (c :: l) = false := by
    simp [List.isPrefixOf]
    exact fun e => h e.symm
  have hi : Lib.index (c :: l) [d] = if Lib.index l [d] == -1 then -1 else Lib.index l [d] + 1 := by
    rw [Lib.index, hp]; rfl
  have hg := Lib.index_ge l [d]
  unfold Lib.cut
  rw [hi]
  by_cases h1 : Lib.index l [d] = -1
  · rw [h1]; rfl
  · have h2 : (Lib.index l [d] == -1) = false := by simpa using h1
    rw [h2]
    have h3 : 0 ≤ Lib.index l [d] := by omega
    simp only [Bool.false_eq_true, if_false]
    rw [if_pos (by omega), if_pos h3]
    have e1 : (Lib.index l [d] + 1).toNat = (Lib.index l [d]).toNat + 1 := by omega
    rw [e1, List.take_succ_cons]
    have e2 : (Lib.index l [d]).toNat + 1 + [d].length = ((Lib.index l [d]).toNat + [d].length) + 1 := by omega
    rw [e2, List.drop_succ_cons]
theorem cut_byte (d : UInt8) : ∀ l : List UInt8, Lib.cut l [d] = cutC d l := by
  intro l
  induction l with
  | nil => rfl
  | cons c l ih =>
    by_cases h : c = d
    · subst h
      have hi : Lib.index (c :: l) [c] = 0 := by rw [Lib.index]; simp [List.isPrefixOf]
      unfold Lib.cut cutC
      rw [hi]
      simp
    · rw [cutC_cons d c l h, ih]
      unfold cutC
      rw [if_neg h]
      cases l <;> rfl

theorem cutC_no {c : UInt8} : ∀ l : List UInt8, (cutC c l).2.2 = false → c ∉ l ∧ (cutC c l).1 = l ∧ (cutC c l).2.1 = [] := by
  intro l
  induction l with
  | nil => intro _; exact ⟨by simp, rfl, rfl⟩
  | cons b l ih =>
    intro h
    rw [cutC] at h ⊢
    split
    · rename_i e; rw [if_pos e] at h; cases h
    · rename_i e
      rw [if_neg e] at h
      obtain ⟨i1, i2, i3⟩ := ih h
      exact ⟨by simp [i1]; exact fun q => e q.symm, by rw [i2], i3⟩
theorem cutC_yes {c : UInt8} : ∀ l : List UInt8, (cutC c l).2.2 = true → c ∉ (cutC c l).1 ∧ l = (cutC c l).1 ++ c :: (cutC c l).2.1 := by
  intro l
  induction l with
  | nil => intro h; simp [cutC] at h
  | cons b l ih =>
    intro h
    rw [cutC] at h ⊢
    split
    · rename_i e; subst e; exact ⟨by simp, rfl⟩
    · rename_i e
      rw [if_neg e] at h
      obtain ⟨i1, i2⟩ := ih h
      exact ⟨by simp [i1]; exact fun q => e q.symm, by rw [List.cons_append, ← i2]⟩
theorem cutC_of {c : UInt8} : ∀ (x y : List UInt8), c ∉ x → cutC c (x ++ c :: y) = (x, y, true) := by
  intro x
  induction x with
  | nil => intro y _; rw [List.nil_append, cutC, if_pos rfl]
  | cons b x ih =>
    intro y h
    rw [List.mem_cons, not_or] at h
    rw [List.cons_append, cutC, if_neg (fun e => h.1 e.symm), ih y h.2]
theorem cutC_none {c : UInt8} : ∀ (x : List UInt8), c ∉ x → cutC c x = (x, [], false) := by
  intro x
  induction x with
  | nil => intro _; rfl
  | cons b x ih =>
    intro h
    rw [List.mem_cons, not_or] at h
    rw [cutC, if_neg (fun e => h.1 e.symm), ih h.2]
theorem cutC_len {c : UInt8} (l : List UInt8) (h : (cutC c l).2.2 = true) : (cutC c l).1.length + (cutC c l).2.1.length + 1 = l.length := by
  have := congrArg List.length (cutC_yes l h).2
  rw [List.length_append, List.length_cons] at this
  omega
theorem cutC_le {c : UInt8} (l : List UInt8) : (cutC c l).1.length ≤ l.length ∧ (cutC c l).2.1.length ≤ l.length := by
  cases h : (cutC c l).2.2 with
  | true => have := cutC_len l h; omega
  | false => obtain ⟨_, a, b⟩ := cutC_no l h; rw [a, b]; simp

theorem parts_ne (c : UInt8) (l : List UInt8) : parts c l ≠ [] := by
  cases l with
  | nil => simp [parts]
  | cons b l =>
    rw [parts]
    split
    · simp
    · split <;> simp
theorem parts_cut (c : UInt8) : ∀ l : List UInt8, parts c l = if (cutC c l).2.2 = true then (cutC c l).1 :: parts c (cutC c l).2.1 else [l] := by
  intro l
  induction l with
  | nil => rfl
  | cons b l ih =>
    rw [parts, cutC]
    by_cases e : b = c
    · rw [if_pos e, if_pos e]; rfl
    · rw [if_neg e, if_neg e]
      show (match parts c l with
        | [] => [[b]]
        | x :: xs => (b :: x) :: xs) = if (cutC c l).2.2 = true then (b :: (cutC c l).1) :: parts c (cutC c l).2.1 else [b :: l]
      rw [ih]
      cases h : (cutC c l).2.2 <;> rfl
theorem parts_of {c : UInt8} (x y : List UInt8) (h : c ∉ x) : parts c (x ++ c :: y) = x :: parts c y := by
  rw [parts_cut, cutC_of x y h]; rfl
theorem parts_one {c : UInt8} (x : List UInt8) (h : c ∉ x) : parts c x = [x] := by
  rw [parts_cut, cutC_none x h]; rfl
theorem parts_free {c : UInt8} : ∀ (n : Nat) (l : List UInt8), l.length ≤ n → ∀ x ∈ parts c l, c ∉ x := by
  intro n
  induction n with
  | zero =>
    intro l h x hx
    obtain rfl := List.eq_nil_of_length_eq_zero (show l.length = 0 by omega)
    rw [List.mem_singleton.1 (show x ∈ [[]] from hx)]
    simp
  | succ n ih =>
    intro l h x hx
    rw [parts_cut] at hx
    cases hc : (cutC c l).2.2 with
    | true =>
      rw [if_pos hc, List.mem_cons] at hx
      rcases hx with rfl | hx
      · exact (cutC_yes l hc).1
      · exact ih _ (by have := cutC_len l hc; omega) x hx
    | false =>
      rw [if_neg (by rw [hc]; simp)] at hx
      rw [List.mem_singleton.1 hx]
      exact (cutC_no l hc).1

theorem linesB_yes {s : List UInt8} (h : (cutC 10 s).2.2 = true) : linesB s = (cutC 10 s).1 :: linesB (cutC 10 s).2.1 ∧ tailB s = tailB (cutC 10 s).2.1 := by
  unfold linesB tailB
  rw [parts_cut, if_pos h]
  cases hp : parts 10 (cutC 10 s).2.1 with
  | nil => exact absurd hp (parts_ne _ _)
  | cons a b => exact ⟨rfl, by rw [List.getLastD_cons, List.getLastD_cons]; cases b <;> rfl⟩
theorem linesB_no {s : List UInt8} (h : (cutC 10 s).2.2 = false) : linesB s = [] ∧ tailB s = s := by
  unfold linesB tailB
  rw [parts_cut, if_neg (by rw [h]; simp)]
  exact ⟨rfl, rfl⟩
theorem linesB_of (x y : List UInt8) (h : (10 : UInt8) ∉ x) : linesB (x ++ 10 :: y) = x :: linesB y ∧ tailB (x ++ 10 :: y) = tailB y := by
  have hc : (cutC 10 (x ++ 10 :: y)).2.2 = true := by rw [cutC_of x y h]
  have := linesB_yes hc
  rw [cutC_of x y h] at this
  exact this
theorem linesB_nil : linesB [] = [] ∧ tailB [] = [] := ⟨rfl, rfl⟩
/-- Lines and what stands behind them make the text. -/
theorem lines_join : ∀ (n : Nat) (s : List UInt8), s.length ≤ n → s = (linesB s).flatMap (fun l => l ++ [10]) ++ tailB s := by
  intro n
  induction n with
  | zero => intro s h; rw [List.eq_nil_of_length_eq_zero (show s.length = 0 by omega)]; rfl
  | succ n ih =>
    intro s h
    cases hc : (cutC 10 s).2.2 with
    | true =>
      obtain ⟨e1, e2⟩ := linesB_yes hc
      obtain ⟨_, e⟩ := cutC_yes s hc
      have := ih (cutC 10 s).2.1 (by have := cutC_len s hc; omega)
      rw [e1, e2, List.flatMap_cons, List.append_assoc, ← this, List.append_assoc]
      exact e
    | false =>
      obtain ⟨e1, e2⟩ := linesB_no hc
      rw [e1, e2]; rfl
theorem text_join (s : List UInt8) : s = (linesB s).flatMap (fun l => l ++ [10]) ++ tailB s := lines_join _ s (Nat.le_refl _)
theorem lines_of_join : ∀ (ls : List (List UInt8)), (∀ l ∈ ls, (10 : UInt8) ∉ l) → linesB (ls.flatMap (fun l => l ++ [10])) = ls ∧ tailB (ls.flatMap (fun l => l ++ [10])) = [] := by
  intro ls
  induction ls with
  | nil => intro _; exact ⟨rfl, rfl⟩
  | cons l ls ih =>
    intro h
    obtain ⟨i1, i2⟩ := ih (fun x hx => h x (List.mem_cons_of_mem _ hx))
    have := linesB_of l (ls.flatMap (fun l => l ++ [10])) (h l (by simp))
    rw [List.flatMap_cons, List.append_assoc, List.singleton_append, this.1, this.2, i1, i2]
    exact ⟨rfl, rfl⟩
theorem tail_free (s : List UInt8) : (10 : UInt8) ∉ tailB s := by
  have h := parts_free (c := 10) _ s (Nat.le_refl _)
  refine h _ ?_
  unfold tailB
  cases hp : parts 10 s with
  | nil => exact absurd hp (parts_ne _ _)
  | cons a b =>
    rw [List.getLastD_cons]
    cases b with
    | nil => exact List.mem_singleton.2 rfl
    | cons c d => rw [List.getLastD_eq_getLast?, List.getLast?_eq_some_getLast (by simp)]; exact List.mem_cons_of_mem _ (List.getLast_mem _)
theorem lines_free (s : List UInt8) : ∀ l ∈ linesB s, (10 : UInt8) ∉ l := fun l hl => parts_free (c := 10) _ s (Nat.le_refl _) l (List.dropLast_subset _ hl)
/-- Nothing is left: no line, and nothing behind. -/
theorem text_nil (s : List UInt8) : s = [] ↔ linesB s = [] ∧ tailB s = [] := by
  constructor
  · rintro rfl; exact ⟨rfl, rfl⟩
  · rintro ⟨h1, h2⟩; rw [text_join s, h1, h2]; rfl

end

section
open Go.RowKit Go.Lib

def letB (c : UInt8) : Bool := decide (97 ≤ c.toNat ∧ c.toNat ≤ 122)
def wordB (c : UInt8) : Bool := letB c || digB c || c == 95
def nameB (s : List UInt8) : Bool := decide (1 ≤ s.length ∧ s.length ≤ 12) && (match s with
  | [] => false
  | c :: l => letB c && l.all wordB)
/-- A map file. -/
structure F3 where
  name : List UInt8
  m : M3
  st : List (Int × Int)
def F3.zero : F3 := ⟨[], M3.zero, []⟩
def startsE (m : M3) : List (Int × Int) → List (Int × Int) → Int
  | _, [] => 0
  | seen, p :: ps => if passv m 1 p.1 p.2 = false then 9 else if p ∈ seen then 7 else startsE m (seen ++ [p]) ps
def validf (f : F3) : Int :=
  if nameB f.name = false then 6 else if validm f.m = false then 1 else if f.st.length < 2 ∨ 6 < f.st.length then 2 else startsE f.m [] f.st

/-- The characters of kinds and heights. -/
def kindC (c : C3) : UInt8 := if c.k = 1 then 46 else if c.k = 2 then 126 else if c.k = 3 then 35 else if c.k = 4 then 84 else 42
def highC (c : C3) : UInt8 := UInt8.ofNat (48 + c.h.toNat)
def resB (k : Int) : Bool := decide (k = 4 ∨ k = 5)
def rowsT (ch : C3 → UInt8) (w : Nat) : Nat → List C3 → List (List UInt8)
  | 0, _ => []
  | h + 1, cs => (cs.take w).map ch :: rowsT ch w h (cs.drop w)
def wordsV (b : List UInt8) (ns : List Nat) : List UInt8 := ns.foldl (fun a n => a ++ 32 :: decDigits n) b
def mapW : List UInt8 := [109, 97, 112]
def amountW : List UInt8 := [97, 109, 111, 117, 110, 116]
def startW : List UInt8 := [115, 116, 97, 114, 116]
def headL (f : F3) : List UInt8 := wordsV (mapW ++ 32 :: f.name) [f.m.w.toNat, f.m.h.toNat]
def amtL (w i : Nat) (c : C3) : List UInt8 := wordsV amountW [i % w, i / w, c.a.toNat]
def amtsL (w : Nat) : Nat → List C3 → List (List UInt8)
  | _, [] => []
  | i, c :: cs => if resB c.k = true then amtL w i c :: amtsL w (i + 1) cs else amtsL w (i + 1) cs
def startL (p : Int × Int) : List UInt8 := wordsV startW [p.1.toNat, p.2.toNat]
def linesF (f : F3) : List (List UInt8) :=
  headL f :: (rowsT kindC f.m.w.toNat f.m.h.toNat f.m.cs ++ rowsT highC f.m.w.toNat f.m.h.toNat f.m.cs ++ amtsL f.m.w.toNat 0 f.m.cs ++ f.st.map startL)
def joinT (ls : List (List UInt8)) : List UInt8 := ls.flatMap fun l => l ++ [10]
def printv (f : F3) : List UInt8 × Int := if validf f = 0 then (joinT (linesF f), 0) else ([], validf f)

/-- What reading lines gives: something and the lines that are left; a line without its form; no further line. -/
inductive Res (α : Type) where
  | ok (a : α) (rest : List (List UInt8))
  | bad (rest : List (List UInt8))
  | cut
def kindV (b : UInt8) : Option Int := if b = 46 then some 1 else if b = 126 then some 2 else if b = 35 then some 3 else if b = 84 then some 4 else if b = 42 then some 5 else none
def highV (b : UInt8) : Option Int := if 48 ≤ b.toNat ∧ b.toNat ≤ 51 then some (b.toNat - 48 : Int) else none
def setK (c : C3) (b : UInt8) : Option C3 := (kindV b).map fun k => ⟨k, c.h, c.a⟩
def setH (c : C3) (b : UInt8) : Option C3 := (highV b).map fun h => ⟨c.k, h, c.a⟩
def rowv (set : C3 → UInt8 → Option C3) : List C3 → List UInt8 → Option (List C3)
  | [], [] => some []
  | c :: cs, b :: bs => match set c b with
    | none => none
    | some d => (rowv set cs bs).map fun r => d :: r
  | _, _ => none
def rowsv (set : C3 → UInt8 → Option C3) (w : Nat) : Nat → List C3 → List C3 → List (List UInt8) → Res (List C3)
  | 0, done, todo, ls => .ok (done ++ todo) ls
  | _ + 1, _, _, [] => .cut
  | h + 1, done, todo, l :: ls => match rowv set (todo.take w) l with
    | none => .bad (l :: ls)
    | some r => rowsv set w h (done ++ r) (todo.drop w) ls
def stripB (p l : List UInt8) : Option (List UInt8) := if p.isPrefixOf l = true then some (l.drop p.length) else none
def pairv (t : List UInt8) (lo hi : Nat) : Option (Nat × Nat) := match numR (cutC 32 t).1 lo hi, numR (cutC 32 t).2.1 lo hi with
  | some a, some b => some (a, b)
  | _, _ => none
def headv (l : List UInt8) : Option (List UInt8 × Nat × Nat) := match stripB (mapW ++ [32]) l with
  | none => none
  | some b => if nameB (cutC 32 b).1 = true then (pairv (cutC 32 b).2.1 1 32).map fun p => ((cutC 32 b).1, p) else none
def amtP (x y : Nat) : List UInt8 := wordsV amountW [x, y] ++ [32]
def amtv (x y : Nat) (l : List UInt8) : Option Nat := match stripB (amtP x y) l with
  | none => none
  | some t => numR t 1 1000000
def startv (l : List UInt8) : Option (Int × Int) := match stripB (startW ++ [32]) l with
  | none => none
  | some b => (pairv b 0 31).map fun p => ((p.1 : Int), (p.2 : Int))
def amtsv (w : Nat) : List C3 → List C3 → List (List UInt8) → Res (List C3)
  | done, [], ls => .ok done ls
  | done, c :: cs, ls => if resB c.k = true then (match ls with
      | [] => .cut
      | l :: ls' => match amtv (done.length % w) (done.length / w) l with
        | none => .bad (l :: ls')
        | some n => amtsv w (done ++ [⟨c.k, c.h, n⟩]) cs ls')
    else amtsv w (done ++ [c]) cs ls
def startsv (tl : List UInt8) : List (Int × Int) → List (List UInt8) → Res (List (Int × Int))
  | acc, [] => if tl = [] then .ok acc [] else .cut
  | acc, l :: ls => match startv l with
    | none => .bad (l :: ls)
    | some p => startsv tl (acc ++ [p]) ls
def headsv : List (List UInt8) → Res (List UInt8 × Nat × Nat)
  | [] => .cut
  | l :: ls => match headv l with
    | none => .bad (l :: ls)
    | some a => .ok a ls
/-- What follows where something was read; the line and the error where not. -/
def andv {α : Type} (n : Nat) : Res α → (α → List (List UInt8) → F3 × Int × Int) → F3 × Int × Int
  | .ok a rest, k => k a rest
  | .bad rest, _ => (F3.zero, (n - rest.length + 1 : Nat), 5)
  | .cut, _ => (F3.zero, (n + 1 : Nat), 4)
def checkv (f : F3) : F3 × Int × Int := if validf f = 0 then (f, 0, 0) else (F3.zero, 0, validf f)
def restv (n : Nat) (tl : List UInt8) (nm : List UInt8) (w h : Nat) (ls : List (List UInt8)) : F3 × Int × Int :=
  andv n (rowsv setK w h [] (List.replicate (w * h) C3.zero) ls) fun c1 l1 =>
  andv n (rowsv setH w h [] c1 l1) fun c2 l2 =>
  andv n (amtsv w [] c2 l2) fun c3 l3 =>
  andv n (startsv tl [] l3) fun st _ => checkv ⟨nm, ⟨w, h, c3⟩, st⟩
def parsev (s : List UInt8) : F3 × Int × Int :=
  if 32768 < s.length then (F3.zero, 0, 2) else
  andv (linesB s).length (headsv (linesB s)) fun a ls => restv (linesB s).length (tailB s) a.1 a.2.1 a.2.2 ls
/-- Mirrored. -/
def turnv (m : M3) (p : Int × Int) : Int × Int := (IntKind.i64.wrap (IntKind.i64.wrap (m.w - 1) - p.1), IntKind.i64.wrap (IntKind.i64.wrap (m.h - 1) - p.2))
def mirrorv (f : F3) : F3 × Int :=
  if nameB f.name = true ∧ validm f.m = true then
    (if f.m.cs.reverse = f.m.cs then
      (if validf ⟨f.name, f.m, f.st ++ f.st.map (turnv f.m)⟩ = 0 then (⟨f.name, f.m, f.st ++ f.st.map (turnv f.m)⟩, 0) else (F3.zero, validf ⟨f.name, f.m, f.st ++ f.st.map (turnv f.m)⟩))
    else (F3.zero, 14))
  else (F3.zero, 1)
def samef (a b : F3) : Bool := decide (a.name = b.name) && samev a.m b.m && decide (a.st = b.st)

/-- The example of the chapter. -/
def duelT : List UInt8 := [109, 97, 112, 32, 100, 117, 101, 108, 32, 51, 32, 49, 10, 46, 42, 46, 10, 48, 48, 48, 10, 97, 109, 111, 117, 110, 116, 32, 49, 32, 48, 32, 57, 10, 115, 116, 97, 114, 116, 32, 48, 32, 48, 10, 115, 116, 97, 114, 116, 32, 50, 32, 48, 10]
def duelF : F3 := ⟨[100, 117, 101, 108], ⟨3, 1, [⟨1, 0, 0⟩, ⟨5, 0, 9⟩, ⟨1, 0, 0⟩]⟩, [(0, 0), (2, 0)]⟩

end

section
open Go.RowKit Go.Lib

theorem strip_iff (p l t : List UInt8) : stripB p l = some t ↔ l = p ++ t := by
  unfold stripB
  constructor
  · intro h
    split at h
    · rename_i hp
      injection h with h
      obtain ⟨u, rfl⟩ := List.isPrefixOf_iff_prefix.1 hp
      rw [List.drop_left] at h
      rw [h]
    · cases h
  · rintro rfl
    rw [if_pos (List.isPrefixOf_iff_prefix.2 ⟨t, rfl⟩), List.drop_left]
theorem strip_self (p t : List UInt8) : stripB p (p ++ t) = some t := (strip_iff p _ t).2 rfl
theorem strip_none {p l : List UInt8} (h : stripB p l = none) (t : List UInt8) : l ≠ p ++ t := by
  intro e
  rw [(strip_iff p l t).2 e] at h
  cases h
theorem strip_word (p q l : List UInt8) (hp : (32 : UInt8) ∉ p) : stripB (p ++ 32 :: q) l = if (cutC 32 l).2.2 = true ∧ (cutC 32 l).1 = p then stripB q (cutC 32 l).2.1 else none := by
  apply Option.ext
  intro t
  rw [strip_iff]
  constructor
  · intro h
    have e : cutC 32 l = (p, q ++ t, true) := by rw [h, List.append_assoc, List.cons_append]; exact cutC_of _ _ hp
    rw [e, if_pos ⟨rfl, rfl⟩]
    exact strip_self q t
  · intro h
    split at h
    · rename_i hc
      have e := (cutC_yes l hc.1).2
      rw [hc.2, (strip_iff _ _ _).1 h] at e
      rw [e]; simp
    · cases h

theorem dig_not {l : List UInt8} (h : l.all digB = true) (c : UInt8) (hc : digB c = false) : c ∉ l := by
  intro hm
  rw [List.all_eq_true] at h
  rw [h c hm] at hc
  cases hc
theorem dec_not (n : Nat) (c : UInt8) (hc : digB c = false) : c ∉ decDigits n := dig_not (dec_digits n) c hc
theorem numR_free {l : List UInt8} {lo hi n : Nat} (h : numR l lo hi = some n) : (32 : UInt8) ∉ l := by
  rw [(numR_some h).1]
  exact dec_not _ _ rfl
theorem numR_nil (lo hi : Nat) : numR [] lo hi = none := by unfold numR; rw [if_neg (by simp [canonB])]
theorem numR_space {l : List UInt8} (lo hi : Nat) (h : (32 : UInt8) ∈ l) : numR l lo hi = none := by
  cases e : numR l lo hi with
  | none => rfl
  | some n => exact absurd h (numR_free e)
theorem name_free {l : List UInt8} (h : nameB l = true) (c : UInt8) (hc : wordB c = false) (hc2 : letB c = false) : c ∉ l := by
  unfold nameB at h
  rw [Bool.and_eq_true] at h
  cases l with
  | nil => simp
  | cons a l =>
    have h2 := h.2
    simp only [Bool.and_eq_true] at h2
    rw [List.mem_cons, not_or]
    refine ⟨fun e => ?_, fun hm => ?_⟩
    · rw [e, h2.1] at hc2; cases hc2
    · rw [List.all_eq_true] at h2
      rw [h2.2 c hm] at hc; cases hc

def bothR (a b : List UInt8) (lo hi : Nat) : Option (Nat × Nat) := match numR a lo hi, numR b lo hi with
  | some x, some y => some (x, y)
  | _, _ => none
theorem bothR_right (a b : List UInt8) (lo hi : Nat) (h : numR b lo hi = none) : bothR a b lo hi = none := by
  unfold bothR
  rw [h]
  cases numR a lo hi <;> rfl
theorem pair_both (t : List UInt8) (lo hi : Nat) : pairv t lo hi = bothR (cutC 32 t).1 (cutC 32 t).2.1 lo hi := rfl
/-- Two numbers, by the pieces of the text. -/
theorem pair_parts (t : List UInt8) (lo hi : Nat) : pairv t lo hi = match parts 32 t with
    | [a, b] => bothR a b lo hi
    | _ => none := by
  rw [pair_both, parts_cut]
  cases h : (cutC 32 t).2.2 with
  | false =>
    rw [if_neg (by simp)]
    obtain ⟨_, _, e⟩ := cutC_no t h
    rw [e]
    exact bothR_right _ _ _ _ (numR_nil _ _)
  | true =>
    rw [if_pos rfl, parts_cut]
    cases h2 : (cutC 32 (cutC 32 t).2.1).2.2 with
    | false => rw [if_neg (by simp)]
    | true =>
      rw [if_pos rfl]
      have hm : (32 : UInt8) ∈ (cutC 32 t).2.1 := by rw [(cutC_yes _ h2).2]; simp
      rw [bothR_right _ _ _ _ (numR_space _ _ hm)]
      cases hp : parts 32 (cutC 32 (cutC 32 t).2.1).2.1 with
      | nil => exact absurd hp (parts_ne _ _)
      | cons a b => rfl
theorem map_free : (32 : UInt8) ∉ mapW := by decide
theorem amount_free : (32 : UInt8) ∉ amountW := by decide
theorem start_free : (32 : UInt8) ∉ startW := by decide
/-- The first line, by its pieces. -/
theorem head_parts (l : List UInt8) : headv l = match parts 32 l with
    | [a, b, c, d] => if a = mapW ∧ nameB b = true then (bothR c d 1 32).map fun p => (b, p) else none
    | _ => none := by
  unfold headv
  rw [strip_word mapW [] l map_free, parts_cut]
  cases h : (cutC 32 l).2.2 with
  | false => rw [if_neg (by simp), if_neg (by simp)]
  | true =>
    rw [if_pos rfl]
    generalize (cutC 32 l).1 = x
    generalize (cutC 32 l).2.1 = y
    by_cases hx : x = mapW
    · subst hx
      rw [if_pos ⟨rfl, rfl⟩, (strip_iff [] y y).2 rfl]
      simp only
      rw [pair_parts, parts_cut 32 y]
      cases h2 : (cutC 32 y).2.2 with
      | false =>
        obtain ⟨_, _, e⟩ := cutC_no y h2
        rw [e, if_neg (show ¬ (false = true) by simp)]
        simp only [parts]
        split <;> rfl
      | true =>
        rw [if_pos rfl]
        match parts 32 (cutC 32 y).2.1, parts_ne 32 (cutC 32 y).2.1 with
        | [], hn => exact absurd rfl hn
        | [c], _ => simp only; split <;> rfl
        | [c, d], _ =>
          simp only
          by_cases hn : nameB (cutC 32 y).1 = true
          · rw [if_pos hn, if_pos ⟨trivial, hn⟩]
          · rw [if_neg hn, if_neg (fun q => hn q.2)]
        | c :: d :: e :: r, _ => simp only; split <;> rfl
    · rw [if_neg (fun q => hx q.2)]
      simp only
      match parts 32 y with
      | [] => rfl
      | [b] => rfl
      | [b, c] => rfl
      | [b, c, d] => simp only; rw [if_neg (fun q => hx q.1)]
      | b :: c :: d :: e :: r => rfl
theorem start_parts (l : List UInt8) : startv l = match parts 32 l with
    | [a, b, c] => if a = startW then (bothR b c 0 31).map fun p => ((p.1 : Int), (p.2 : Int)) else none
    | _ => none := by
  unfold startv
  rw [strip_word startW [] l start_free, parts_cut]
  cases h : (cutC 32 l).2.2 with
  | false => rw [if_neg (by simp), if_neg (by simp)]
  | true =>
    rw [if_pos rfl]
    generalize (cutC 32 l).1 = x
    generalize (cutC 32 l).2.1 = y
    by_cases hx : x = startW
    · subst hx
      rw [if_pos ⟨rfl, rfl⟩, (strip_iff [] y y).2 rfl]
      simp only
      rw [pair_parts]
      match parts 32 y with
      | [] => rfl
      | [b] => rfl
      | [b, c] => simp only; rw [if_pos trivial]
      | b :: c :: d :: r => rfl
    · rw [if_neg (fun q => hx q.2)]
      simp only
      match parts 32 y with
      | [] => rfl
      | [b] => rfl
      | [b, c] => simp only; rw [if_neg hx]
      | b :: c :: d :: r => rfl
theorem amtP_eq (x y : Nat) : amtP x y = amountW ++ 32 :: (decDigits x ++ 32 :: (decDigits y ++ 32 :: [])) := by
  unfold amtP wordsV
  simp
theorem amt_parts (x y : Nat) (l : List UInt8) : amtv x y l = match parts 32 l with
    | [a, b, c, d] => if a = amountW ∧ b = decDigits x ∧ c = decDigits y then numR d 1 1000000 else none
    | _ => none := by
  unfold amtv
  rw [amtP_eq, strip_word amountW _ l amount_free, parts_cut]
  cases h : (cutC 32 l).2.2 with
  | false => rw [if_neg (by simp), if_neg (by simp)]
  | true =>
    rw [if_pos rfl]
    generalize (cutC 32 l).1 = a
    generalize (cutC 32 l).2.1 = l1
    by_cases ha : a = amountW
    · rw [if_pos ⟨rfl, ha⟩, strip_word (decDigits x) _ l1 (dec_not _ _ rfl), parts_cut]
      cases h1 : (cutC 32 l1).2.2 with
      | false => rw [if_neg (by simp), if_neg (by simp)]
      | true =>
        rw [if_pos rfl]
        generalize (cutC 32 l1).1 = b
        generalize (cutC 32 l1).2.1 = l2
        by_cases hb : b = decDigits x
        · rw [if_pos ⟨rfl, hb⟩, strip_word (decDigits y) _ l2 (dec_not _ _ rfl), parts_cut]
          cases h2 : (cutC 32 l2).2.2 with
          | false => rw [if_neg (by simp), if_neg (by simp)]
          | true =>
            rw [if_pos rfl]
            generalize (cutC 32 l2).1 = c
            generalize (cutC 32 l2).2.1 = l3
            by_cases hc : c = decDigits y
            · rw [if_pos ⟨rfl, hc⟩, (strip_iff [] l3 l3).2 rfl, parts_cut]
              simp only
              cases h3 : (cutC 32 l3).2.2 with
              | false => rw [if_neg (by simp)]; simp only; rw [if_pos ⟨ha, hb, hc⟩]
              | true =>
                rw [if_pos rfl]
                have hm : (32 : UInt8) ∈ l3 := by rw [(cutC_yes _ h3).2]; simp
                rw [numR_space _ _ hm]
                cases hp : parts 32 (cutC 32 l3).2.1 with
                | nil => exact absurd hp (parts_ne _ _)
                | cons u v => rfl
            · rw [if_neg (fun q => hc q.2)]
              simp only
              match parts 32 l3 with
              | [] => rfl
              | [d] => simp only; rw [if_neg (fun q => hc q.2.2)]
              | d :: e :: r => rfl
        · rw [if_neg (fun q => hb q.2)]
          simp only
          match parts 32 l2 with
          | [] => rfl
          | [c] => rfl
          | [c, d] => simp only; rw [if_neg (fun q => hb q.2.1)]
          | c :: d :: e :: r => rfl
    · rw [if_neg (fun q => ha q.2)]
      simp only
      match parts 32 l1 with
      | [] => rfl
      | [b] => rfl
      | [b, c] => rfl
      | [b, c, d] => simp only; rw [if_neg (fun q => ha q.1)]
      | b :: c :: d :: e :: r => rfl

/-- The lines that are printed are read again. -/
theorem headL_eq (f : F3) : headL f = (mapW ++ [32]) ++ (f.name ++ 32 :: (decDigits f.m.w.toNat ++ 32 :: decDigits f.m.h.toNat)) := by
  unfold headL wordsV
  simp
theorem head_back (f : F3) (hn : nameB f.name = true) (hw : 1 ≤ f.m.w ∧ f.m.w ≤ 32) (hh : 1 ≤ f.m.h ∧ f.m.h ≤ 32) : headv (headL f) = some (f.name, f.m.w.toNat, f.m.h.toNat) := by
  unfold headv
  rw [headL_eq, strip_self]
  simp only
  rw [cutC_of _ _ (name_free hn 32 rfl rfl)]
  simp only
  rw [if_pos hn, pair_both, cutC_of _ _ (dec_not _ _ rfl)]
  simp only
  unfold bothR
  rw [numR_dec (by omega) (by omega), numR_dec (by omega) (by omega)]
  rfl
theorem amtL_eq (w i : Nat) (c : C3) : amtL w i c = amtP (i % w) (i / w) ++ decDigits c.a.toNat := by
  unfold amtL amtP wordsV
  simp
theorem amt_back (w i : Nat) (c : C3) (h1 : 1 ≤ c.a) (h2 : c.a ≤ 1000000) : amtv (i % w) (i / w) (amtL w i c) = some c.a.toNat := by
  unfold amtv
  rw [amtL_eq, strip_self]
  exact numR_dec (by omega) (by omega)
theorem startL_eq (p : Int × Int) : startL p = (startW ++ [32]) ++ (decDigits p.1.toNat ++ 32 :: decDigits p.2.toNat) := by
  unfold startL wordsV
  simp
theorem start_back (p : Int × Int) (hx : 0 ≤ p.1 ∧ p.1 ≤ 31) (hy : 0 ≤ p.2 ∧ p.2 ≤ 31) : startv (startL p) = some p := by
  unfold startv
  rw [startL_eq, strip_self]
  simp only
  rw [pair_both, cutC_of _ _ (dec_not _ _ rfl)]
  simp only
  unfold bothR
  rw [numR_dec (by omega) (by omega), numR_dec (by omega) (by omega)]
  simp only [Option.map_some]
  obtain ⟨x, y⟩ := p
  simp only at hx hy ⊢
  rw [Int.toNat_of_nonneg hx.1, Int.toNat_of_nonneg hy.1]
/-- A line that is read is the one that is printed. -/
theorem pair_some {t : List UInt8} {lo hi : Nat} {p : Nat × Nat} (h : pairv t lo hi = some p) : t = decDigits p.1 ++ 32 :: decDigits p.2 ∧ lo ≤ p.1 ∧ p.1 ≤ hi ∧ lo ≤ p.2 ∧ p.2 ≤ hi := by
  rw [pair_both] at h
  cases hc : (cutC 32 t).2.2 with
  | false =>
    obtain ⟨_, _, e⟩ := cutC_no t hc
    rw [e, bothR_right _ _ _ _ (numR_nil _ _)] at h
    cases h
  | true =>
    have e := (cutC_yes t hc).2
    unfold bothR at h
    cases h1 : numR (cutC 32 t).1 lo hi with
    | none => rw [h1] at h; cases h
    | some a =>
      cases h2 : numR (cutC 32 t).2.1 lo hi with
      | none => rw [h1, h2] at h; cases h
      | some b =>
        rw [h1, h2] at h
        injection h with h
        subst h
        obtain ⟨e1, a1, a2⟩ := numR_some h1
        obtain ⟨e2, b1, b2⟩ := numR_some h2
        rw [e1, e2] at e
        exact ⟨e, a1, a2, b1, b2⟩
theorem head_some {l nm : List UInt8} {w h : Nat} (e : headv l = some (nm, w, h)) : nameB nm = true ∧ 1 ≤ w ∧ w ≤ 32 ∧ 1 ≤ h ∧ h ≤ 32 ∧ l = wordsV (mapW ++ 32 :: nm) [w, h] := by
  unfold headv at e
  cases hs : stripB (mapW ++ [32]) l with
  | none => rw [hs] at e; cases e
  | some b =>
    rw [hs] at e
    simp only at e
    split at e
    · rename_i hn
      cases hp : pairv (cutC 32 b).2.1 1 32 with
      | none => rw [hp] at e; cases e
      | some p =>
        rw [hp] at e
        simp only [Option.map_some, Option.some.injEq, Prod.mk.injEq] at e
        obtain ⟨rfl, rfl⟩ := e
        obtain ⟨e2, a1, a2, b1, b2⟩ := pair_some hp
        simp only at e2 a1 a2 b1 b2
        have hc : (cutC 32 b).2.2 = true := by
          cases hc : (cutC 32 b).2.2 with
          | true => rfl
          | false =>
            obtain ⟨_, _, e3⟩ := cutC_no b hc
            rw [e3] at e2
            have := congrArg List.length e2
            simp at this
        refine ⟨hn, a1, a2, b1, b2, ?_⟩
        rw [(strip_iff _ _ _).1 hs, (cutC_yes b hc).2, e2]
        unfold wordsV
        rw [(cutC_of _ _ (cutC_yes b hc).1)]
        simp
    · cases e
theorem amt_some {w i n : Nat} {l : List UInt8} (e : amtv (i % w) (i / w) l = some n) (c : C3) (hc : c.a = n) : 1 ≤ n ∧ n ≤ 1000000 ∧ l = amtL w i c := by
  unfold amtv at e
  cases hs : stripB (amtP (i % w) (i / w)) l with
  | none => rw [hs] at e; cases e
  | some t =>
    rw [hs] at e
    simp only at e
    obtain ⟨e1, a1, a2⟩ := numR_some e
    refine ⟨a1, a2, ?_⟩
    rw [(strip_iff _ _ _).1 hs, e1, amtL_eq, hc, Int.toNat_natCast]
theorem start_some {l : List UInt8} {p : Int × Int} (e : startv l = some p) : 0 ≤ p.1 ∧ p.1 ≤ 31 ∧ 0 ≤ p.2 ∧ p.2 ≤ 31 ∧ l = startL p := by
  unfold startv at e
  cases hs : stripB (startW ++ [32]) l with
  | none => rw [hs] at e; cases e
  | some t =>
    rw [hs] at e
    simp only at e
    cases hp : pairv t 0 31 with
    | none => rw [hp] at e; cases e
    | some q =>
      rw [hp] at e
      simp only [Option.map_some, Option.some.injEq] at e
      subst e
      obtain ⟨e2, _, a2, _, b2⟩ := pair_some hp
      refine ⟨by simp, by simp only; omega, by simp, by simp only; omega, ?_⟩
      rw [(strip_iff _ _ _).1 hs, e2, startL_eq]
      simp

end

section
open Go.RowKit Go.Lib

/-- Rows of characters, read again. -/
theorem row_back (set : C3 → UInt8 → Option C3) (g0 g1 : C3 → C3) (ch : C3 → UInt8) : ∀ cs : List C3, (∀ c ∈ cs, set (g0 c) (ch c) = some (g1 c)) → rowv set (cs.map g0) (cs.map ch) = some (cs.map g1) := by
  intro cs
  induction cs with
  | nil => intro _; rfl
  | cons c cs ih =>
    intro h
    rw [List.map_cons, List.map_cons, rowv, h c (by simp)]
    simp only
    rw [ih (fun d hd => h d (List.mem_cons_of_mem _ hd))]
    rfl
theorem rows_back (set : C3 → UInt8 → Option C3) (g0 g1 : C3 → C3) (ch : C3 → UInt8) (w : Nat) (rest : List (List UInt8)) : ∀ (h : Nat) (cs done : List C3), cs.length = h * w → (∀ c ∈ cs, set (g0 c) (ch c) = some (g1 c)) →
    rowsv set w h done (cs.map g0) (rowsT ch w h cs ++ rest) = .ok (done ++ cs.map g1) rest := by
  intro h
  induction h with
  | zero =>
    intro cs done hl _
    rw [Nat.zero_mul] at hl
    rw [List.eq_nil_of_length_eq_zero hl]
    rfl
  | succ h ih =>
    intro cs done hl hc
    rw [Nat.succ_mul] at hl
    rw [rowsT, List.cons_append, rowsv, ← List.map_take, row_back set g0 g1 ch _ (fun c hm => hc c (List.mem_of_mem_take hm))]
    simp only
    rw [← List.map_drop, ih (cs.drop w) _ (by rw [List.length_drop]; omega) (fun c hm => hc c (List.mem_of_mem_drop hm)), List.append_assoc, ← List.map_append, List.take_append_drop]
theorem valid_cell {c : C3} (h : validc c = true) : (1 ≤ c.k ∧ c.k ≤ 5 ∧ 0 ≤ c.h ∧ c.h ≤ 3 ∧ 0 ≤ c.a ∧ c.a ≤ 1000000) ∧ (0 < c.a ↔ c.k = 4 ∨ c.k = 5) := by
  unfold validc at h
  rw [Bool.and_eq_true, decide_eq_true_iff, beq_iff_eq, decide_eq_decide] at h
  exact h
theorem kind_back {c : C3} (h : 1 ≤ c.k ∧ c.k ≤ 5) : kindV (kindC c) = some c.k := by
  obtain ⟨k, a, b⟩ := c
  simp only at h
  unfold kindC
  obtain rfl | rfl | rfl | rfl | rfl : k = 1 ∨ k = 2 ∨ k = 3 ∨ k = 4 ∨ k = 5 := by omega
  all_goals rfl
theorem high_back {c : C3} (h : 0 ≤ c.h ∧ c.h ≤ 3) : highV (highC c) = some c.h := by
  obtain ⟨k, a, b⟩ := c
  simp only at h
  unfold highC
  obtain rfl | rfl | rfl | rfl : a = 0 ∨ a = 1 ∨ a = 2 ∨ a = 3 := by omega
  all_goals rfl
theorem amtsv_skip {w : Nat} {done cs : List C3} {c : C3} {ls : List (List UInt8)} (h : ¬ resB c.k = true) : amtsv w done (c :: cs) ls = amtsv w (done ++ [c]) cs ls := by
  rw [amtsv.eq_def]; simp only; rw [if_neg h]
theorem amtsv_nil {w : Nat} {done cs : List C3} {c : C3} (h : resB c.k = true) : amtsv w done (c :: cs) [] = .cut := by
  rw [amtsv.eq_def]; simp only; rw [if_pos h]
theorem amtsv_line {w n : Nat} {done cs : List C3} {c : C3} {l : List UInt8} {ls : List (List UInt8)} (h : resB c.k = true) (e : amtv (done.length % w) (done.length / w) l = some n) : amtsv w done (c :: cs) (l :: ls) = amtsv w (done ++ [⟨c.k, c.h, n⟩]) cs ls := by
  rw [amtsv.eq_def]; simp only; rw [if_pos h, e]
theorem amtsv_bad {w : Nat} {done cs : List C3} {c : C3} {l : List UInt8} {ls : List (List UInt8)} (h : resB c.k = true) (e : amtv (done.length % w) (done.length / w) l = none) : amtsv w done (c :: cs) (l :: ls) = .bad (l :: ls) := by
  rw [amtsv.eq_def]; simp only; rw [if_pos h, e]
theorem headsv_ok {l : List UInt8} {ls : List (List UInt8)} {a : List UInt8 × Nat × Nat} (h : headv l = some a) : headsv (l :: ls) = .ok a ls := by rw [headsv, h]
theorem headsv_bad {l : List UInt8} {ls : List (List UInt8)} (h : headv l = none) : headsv (l :: ls) = .bad (l :: ls) := by rw [headsv, h]
theorem amts_back (w : Nat) (rest : List (List UInt8)) : ∀ (cs done : List C3), (∀ c ∈ cs, validc c = true) →
    amtsv w done (cs.map fun c => ⟨c.k, c.h, 0⟩) (amtsL w done.length cs ++ rest) = .ok (done ++ cs) rest := by
  intro cs
  induction cs with
  | nil => intro done _; simp [amtsv, amtsL]
  | cons c cs ih =>
    intro done hc
    obtain ⟨⟨h1, h2, h3, h4, h5, h6⟩, h7⟩ := valid_cell (hc c (by simp))
    have hr := fun d (hd : d ∈ cs) => hc d (List.mem_cons_of_mem _ hd)
    rw [List.map_cons, amtsL]
    by_cases hk : resB c.k = true
    · have hk' : c.k = 4 ∨ c.k = 5 := by unfold resB at hk; exact of_decide_eq_true hk
      have ha := h7.2 hk'
      rw [if_pos hk, List.cons_append, amtsv_line (c := ⟨c.k, c.h, 0⟩) hk (amt_back w _ c (by omega) h6)]
      have e : (⟨c.k, c.h, (c.a.toNat : Int)⟩ : C3) = c := by rw [Int.toNat_of_nonneg h5]
      simp only [e]
      have := ih (done ++ [c]) hr
      rw [List.length_append, List.length_singleton, List.append_assoc] at this
      exact this
    · have hk' : ¬ (c.k = 4 ∨ c.k = 5) := by unfold resB at hk; simpa using hk
      have ha : c.a = 0 := by
        have := mt h7.1 hk'
        omega
      rw [if_neg hk, amtsv_skip (c := ⟨c.k, c.h, 0⟩) hk]
      have e : (⟨c.k, c.h, 0⟩ : C3) = c := by rw [← ha]
      rw [e]
      have := ih (done ++ [c]) hr
      rw [List.length_append, List.length_singleton, List.append_assoc] at this
      exact this
theorem starts_back : ∀ (st acc : List (Int × Int)), (∀ p ∈ st, 0 ≤ p.1 ∧ p.1 ≤ 31 ∧ 0 ≤ p.2 ∧ p.2 ≤ 31) → startsv [] acc (st.map startL) = .ok (acc ++ st) [] := by
  intro st
  induction st with
  | nil => intro acc _; simp [startsv]
  | cons p st ih =>
    intro acc h
    obtain ⟨a, b, c, d⟩ := h p (by simp)
    rw [List.map_cons, startsv, start_back p ⟨a, b⟩ ⟨c, d⟩]
    simp only
    rw [ih _ (fun q hq => h q (List.mem_cons_of_mem _ hq)), List.append_assoc]
    rfl
/-- What a valid map file's numbers are. -/
structure Good (f : F3) : Prop where
  name : nameB f.name = true
  m : validm f.m = true
  w : 1 ≤ f.m.w ∧ f.m.w ≤ 32
  h : 1 ≤ f.m.h ∧ f.m.h ≤ 32
  len : f.m.cs.length = f.m.w.toNat * f.m.h.toNat
  cells : ∀ c ∈ f.m.cs, validc c = true
  two : 2 ≤ f.st.length ∧ f.st.length ≤ 6
  starts : startsE f.m [] f.st = 0
theorem form_at {m : M3} (h : formedv m = true) : (1 ≤ m.w ∧ m.w ≤ 32) ∧ (1 ≤ m.h ∧ m.h ≤ 32) ∧ m.cs.length = m.w.toNat * m.h.toNat := by
  unfold formedv validv at h
  rw [Bool.and_eq_true, decide_eq_true_iff, decide_eq_true_iff] at h
  obtain ⟨⟨w1, w2, h1, h2⟩, hl⟩ := h
  refine ⟨⟨by omega, by omega⟩, ⟨by omega, by omega⟩, ?_⟩
  obtain ⟨X, hX⟩ := Int.eq_ofNat_of_zero_le (show 0 ≤ m.w by omega)
  obtain ⟨Y, hY⟩ := Int.eq_ofNat_of_zero_le (show 0 ≤ m.h by omega)
  rw [hX, hY, ← Int.natCast_mul] at hl
  rw [hX, hY, Int.toNat_natCast, Int.toNat_natCast]
  omega
theorem good_of {f : F3} (h : validf f = 0) : Good f := by
  unfold validf at h
  split at h
  · cases h
  · rename_i hn
    split at h
    · cases h
    · rename_i hm
      split at h
      · cases h
      · rename_i hl
        have hm' : validm f.m = true := by simpa using hm
        have hm2 := hm'
        unfold validm at hm2
        rw [Bool.and_eq_true, List.all_eq_true] at hm2
        obtain ⟨a, b, c⟩ := form_at hm2.1
        exact ⟨by simpa using hn, hm', a, b, c, hm2.2, by omega, h⟩
theorem starts_pass {m : M3} : ∀ (st seen : List (Int × Int)), startsE m seen st = 0 → ∀ p ∈ st, passv m 1 p.1 p.2 = true := by
  intro st
  induction st with
  | nil => intro _ _ p hp; cases hp
  | cons q st ih =>
    intro seen h p hp
    rw [startsE] at h
    split at h
    · cases h
    · rename_i hq
      split at h
      · cases h
      · rcases List.mem_cons.1 hp with rfl | hp
        · simpa using hq
        · exact ih _ h p hp
theorem pass_in {m : M3} {x y : Int} (h : passv m 1 x y = true) : 0 ≤ x ∧ x < m.w ∧ 0 ≤ y ∧ y < m.h := by
  unfold passv at h
  rw [if_pos rfl, Bool.and_eq_true] at h
  have h1 := h.1
  unfold insidev inv at h1
  rw [Bool.and_eq_true, decide_eq_true_iff] at h1
  exact h1.2
theorem Good.at {f : F3} (h : Good f) : ∀ p ∈ f.st, 0 ≤ p.1 ∧ p.1 ≤ 31 ∧ 0 ≤ p.2 ∧ p.2 ≤ 31 := fun p hp => by
  have h1 := pass_in (starts_pass _ _ h.starts p hp)
  have := h.w
  have := h.h
  omega
theorem valid_of {f : F3} (h : Good f) : validf f = 0 := by
  unfold validf
  rw [if_neg (by rw [h.name]; simp), if_neg (by rw [h.m]; simp), if_neg (by have := h.two; omega)]
  exact h.starts
theorem map_eta (m : M3) : (⟨m.w, m.h, m.cs⟩ : M3) = m := rfl

/-- No line holds a line feed. -/
theorem words_free (b : List UInt8) (ns : List Nat) (h : (10 : UInt8) ∉ b) : (10 : UInt8) ∉ wordsV b ns := by
  unfold wordsV
  induction ns generalizing b with
  | nil => exact h
  | cons n ns ih =>
    rw [List.foldl_cons]
    refine ih _ ?_
    rw [List.mem_append, List.mem_cons, not_or, not_or]
    exact ⟨h, by decide, dec_not _ _ rfl⟩
theorem rowsT_free (ch : C3 → UInt8) (w : Nat) : ∀ (h : Nat) (cs : List C3), (∀ c ∈ cs, ch c ≠ 10) → ∀ l ∈ rowsT ch w h cs, (10 : UInt8) ∉ l := by
  intro h
  induction h with
  | zero => intro cs _ l hl; cases hl
  | succ h ih =>
    intro cs hc l hl
    rw [rowsT] at hl
    rcases List.mem_cons.1 hl with rfl | hl
    · intro hm
      obtain ⟨c, h1, h2⟩ := List.mem_map.1 hm
      exact hc c (List.mem_of_mem_take h1) h2
    · exact ih _ (fun c hm => hc c (List.mem_of_mem_drop hm)) l hl
theorem amtsL_free (w : Nat) : ∀ (cs : List C3) (i : Nat), ∀ l ∈ amtsL w i cs, (10 : UInt8) ∉ l := by
  intro cs
  induction cs with
  | nil => intro _ l hl; cases hl
  | cons c cs ih =>
    intro i l hl
    rw [amtsL] at hl
    split at hl
    · rcases List.mem_cons.1 hl with rfl | hl
      · exact words_free _ _ (by decide)
      · exact ih _ l hl
    · exact ih _ l hl
theorem kindC_not (c : C3) : kindC c ≠ 10 := by unfold kindC; (repeat' split) <;> decide
theorem highC_not {c : C3} (h : 0 ≤ c.h ∧ c.h ≤ 3) : highC c ≠ 10 := by
  unfold highC
  intro e
  have := congrArg UInt8.toNat e
  rw [dig_nat (by omega)] at this
  have h10 : (10 : UInt8).toNat = 10 := rfl
  omega
theorem lines_clean {f : F3} (h : Good f) : ∀ l ∈ linesF f, (10 : UInt8) ∉ l := by
  intro l hl
  unfold linesF at hl
  rw [List.mem_cons, List.mem_append, List.mem_append, List.mem_append] at hl
  rcases hl with rfl | ((hl | hl) | hl) | hl
  · refine words_free _ _ ?_
    rw [List.mem_append, List.mem_cons, not_or, not_or]
    exact ⟨by decide, by decide, name_free h.name 10 rfl rfl⟩
  · exact rowsT_free _ _ _ _ (fun c _ => kindC_not c) l hl
  · exact rowsT_free _ _ _ _ (fun c hc => highC_not (by have := (valid_cell (h.cells c hc)).1; omega)) l hl
  · exact amtsL_free _ _ _ l hl
  · obtain ⟨p, _, rfl⟩ := List.mem_map.1 hl
    exact words_free _ _ (by decide)

/-- How long a text is. -/
theorem join_len (ls : List (List UInt8)) (k : Nat) (h : ∀ l ∈ ls, l.length ≤ k) : (joinT ls).length ≤ ls.length * (k + 1) := by
  unfold joinT
  induction ls with
  | nil => simp
  | cons l ls ih =>
    have h1 := h l (by simp)
    have h2 := ih (fun x hx => h x (List.mem_cons_of_mem _ hx))
    have e : (l :: ls).length * (k + 1) = ls.length * (k + 1) + (k + 1) := by rw [List.length_cons, Nat.succ_mul]
    rw [List.flatMap_cons, List.length_append, List.length_append, e]
    simp only [List.length_singleton]
    omega
theorem join_app (a b : List (List UInt8)) : joinT (a ++ b) = joinT a ++ joinT b := by unfold joinT; rw [List.flatMap_append]
theorem rowsT_len (ch : C3 → UInt8) (w : Nat) : ∀ (h : Nat) (cs : List C3), (rowsT ch w h cs).length = h ∧ ∀ l ∈ rowsT ch w h cs, l.length ≤ w := by
  intro h
  induction h with
  | zero => intro cs; exact ⟨rfl, fun l hl => by cases hl⟩
  | succ h ih =>
    intro cs
    rw [rowsT]
    refine ⟨by rw [List.length_cons, (ih _).1], fun l hl => ?_⟩
    rcases List.mem_cons.1 hl with rfl | hl
    · rw [List.length_map, List.length_take]; omega
    · exact (ih _).2 l hl
theorem dec2 {n : Nat} (h : n < 100) : (decDigits n).length ≤ 2 := dec_len 1 n (by rw [show (10 : Nat) ^ (1 + 1) = 100 from rfl]; exact h)
theorem dec7 {n : Nat} (h : n ≤ 1000000) : (decDigits n).length ≤ 7 := dec_len 6 n (by rw [show (10 : Nat) ^ (6 + 1) = 10000000 from rfl]; omega)
theorem amtL_len {w i : Nat} {c : C3} (h1 : i % w < 100) (h2 : i / w < 100) (h3 : c.a.toNat ≤ 1000000) : (amtL w i c).length ≤ 20 := by
  have := dec2 h1
  have := dec2 h2
  have := dec7 h3
  unfold amtL wordsV amountW
  simp only [List.foldl_cons, List.foldl_nil, List.length_append, List.length_cons, List.length_nil]
  omega
theorem amtsL_len (w n : Nat) (hw : 1 ≤ w) (hw2 : w ≤ 32) (hn : n ≤ w * 32) : ∀ (cs : List C3) (i : Nat), i + cs.length = n → (∀ c ∈ cs, c.a.toNat ≤ 1000000) → (amtsL w i cs).length ≤ cs.length ∧ ∀ l ∈ amtsL w i cs, l.length ≤ 20 := by
  intro cs
  induction cs with
  | nil => intro i _ _; exact ⟨Nat.le_refl _, fun l hl => by cases hl⟩
  | cons c cs ih =>
    intro i hi hc
    rw [List.length_cons] at hi
    obtain ⟨i1, i2⟩ := ih (i + 1) (by omega) (fun d hd => hc d (List.mem_cons_of_mem _ hd))
    have hm : i % w < 100 := Nat.lt_of_lt_of_le (Nat.mod_lt _ hw) (by omega)
    have hd : i / w < 100 := by
      have : i / w < 32 := Nat.div_lt_of_lt_mul (by omega)
      omega
    rw [amtsL]
    split
    · refine ⟨by rw [List.length_cons, List.length_cons]; omega, fun l hl => ?_⟩
      rcases List.mem_cons.1 hl with rfl | hl
      · exact amtL_len hm hd (hc c (by simp))
      · exact i2 l hl
    · exact ⟨by rw [List.length_cons]; omega, i2⟩
theorem name_len {l : List UInt8} (h : nameB l = true) : 1 ≤ l.length ∧ l.length ≤ 12 := by
  unfold nameB at h
  rw [Bool.and_eq_true, decide_eq_true_iff] at h
  exact h.1
theorem text_len {f : F3} (h : Good f) : (joinT (linesF f)).length ≤ 32768 := by
  obtain ⟨w1, w2⟩ := h.w
  obtain ⟨h1, h2⟩ := h.h
  obtain ⟨W, hW⟩ := Int.eq_ofNat_of_zero_le (show 0 ≤ f.m.w by omega)
  obtain ⟨H, hH⟩ := Int.eq_ofNat_of_zero_le (show 0 ≤ f.m.h by omega)
  have hl := h.len
  have hW2 : f.m.w.toNat = W := by omega
  have hH2 : f.m.h.toNat = H := by omega
  rw [hW2, hH2] at hl
  have hWH : W * H ≤ W * 32 := Nat.mul_le_mul_left _ (by omega)
  have e1 := rowsT_len kindC W H f.m.cs
  have e2 := rowsT_len highC W H f.m.cs
  have e3 := amtsL_len W f.m.cs.length (by omega) (by omega) (by omega) f.m.cs 0 (by omega) (fun c hc => by have := (valid_cell (h.cells c hc)).1; omega)
  have j1 := join_len _ _ e1.2
  have j2 := join_len _ _ e2.2
  have j3 := join_len _ _ e3.2
  have j4 := join_len (f.st.map startL) 11 (fun l hl => by
    obtain ⟨p, hp, rfl⟩ := List.mem_map.1 hl
    have := h.at p hp
    have a1 := dec2 (n := p.1.toNat) (by omega)
    have a2 := dec2 (n := p.2.toNat) (by omega)
    unfold startL wordsV startW
    simp only [List.foldl_cons, List.foldl_nil, List.length_append, List.length_cons, List.length_nil]
    omega)
  have j5 : (headL f).length ≤ 22 := by
    have := name_len h.name
    have a1 := dec2 (n := W) (by omega)
    have a2 := dec2 (n := H) (by omega)
    unfold headL wordsV mapW
    rw [hW2, hH2]
    simp only [List.foldl_cons, List.foldl_nil, List.length_append, List.length_cons, List.length_nil]
    omega
  have hsix := h.two.2
  unfold linesF
  rw [hW2, hH2]
  have hcons : ∀ (a : List UInt8) ls, joinT (a :: ls) = a ++ [10] ++ joinT ls := fun a ls => by unfold joinT; rw [List.flatMap_cons]
  rw [hcons, join_app, join_app, join_app]
  simp only [List.length_append, List.length_singleton]
  rw [e1.1] at j1
  rw [e2.1] at j2
  have k1 : H * (W + 1) ≤ 32 * 33 := Nat.mul_le_mul (by omega) (by omega)
  have k3 : (amtsL W 0 f.m.cs).length * (20 + 1) ≤ 1024 * 21 := Nat.mul_le_mul (by omega) (by omega)
  have k4 : (f.st.map startL).length * (11 + 1) ≤ 6 * 12 := by rw [List.length_map]; exact Nat.mul_le_mul hsix (by omega)
  omega

/-- The text of a valid map file is read as the map file. -/
theorem parse_print (f : F3) (hv : validf f = 0) : parsev (joinT (linesF f)) = (f, 0, 0) := by
  have h := good_of hv
  obtain ⟨e1, e2⟩ := lines_of_join _ (lines_clean h)
  have e1' : linesB (joinT (linesF f)) = linesF f := e1
  have e2' : tailB (joinT (linesF f)) = [] := e2
  unfold parsev
  rw [if_neg (by have := text_len h; omega), e1', e2']
  generalize (linesF f).length = n
  unfold linesF
  rw [headsv_ok (head_back f h.name h.w h.h)]
  simp only [andv]
  unfold restv
  have hl : f.m.cs.length = f.m.h.toNat * f.m.w.toNat := by rw [h.len, Nat.mul_comm]
  have hz : List.replicate (f.m.w.toNat * f.m.h.toNat) C3.zero = f.m.cs.map fun _ => C3.zero := by rw [← h.len, List.map_const']
  have r1 := rows_back setK (fun _ => C3.zero) (fun c => ⟨c.k, 0, 0⟩) kindC f.m.w.toNat (rowsT highC f.m.w.toNat f.m.h.toNat f.m.cs ++ amtsL f.m.w.toNat 0 f.m.cs ++ f.st.map startL) f.m.h.toNat f.m.cs [] hl
    (fun c hc => by unfold setK; rw [kind_back (by have := (valid_cell (h.cells c hc)).1; omega)]; rfl)
  have r2 := rows_back setH (fun c => ⟨c.k, 0, 0⟩) (fun c => ⟨c.k, c.h, 0⟩) highC f.m.w.toNat (amtsL f.m.w.toNat 0 f.m.cs ++ f.st.map startL) f.m.h.toNat f.m.cs [] hl
    (fun c hc => by unfold setH; rw [high_back (by have := (valid_cell (h.cells c hc)).1; omega)]; rfl)
  have r3 := amts_back f.m.w.toNat (f.st.map startL) f.m.cs [] h.cells
  have r4 := starts_back f.st [] h.at
  rw [List.nil_append] at r1 r2 r3 r4
  simp only [← List.append_assoc] at r1 r2 ⊢
  rw [hz, r1]
  simp only [andv]
  rw [r2]
  simp only
  rw [show ([] : List C3).length = 0 from rfl] at r3
  rw [r3]
  simp only
  rw [r4]
  simp only
  have ew : ((f.m.w.toNat : Nat) : Int) = f.m.w := Int.toNat_of_nonneg (by have := h.w; omega)
  have eh : ((f.m.h.toNat : Nat) : Int) = f.m.h := Int.toNat_of_nonneg (by have := h.h; omega)
  rw [ew, eh]
  unfold checkv
  rw [show (⟨f.name, ⟨f.m.w, f.m.h, f.m.cs⟩, f.st⟩ : F3) = f from rfl, if_pos hv]

/-- What the rows of a text that is read were. -/
theorem row_some {β : Type} (set : C3 → UInt8 → Option C3) (ch : C3 → UInt8) (key : C3 → β) (hs : ∀ c b d, set c b = some d → ch d = b ∧ key d = key c) : ∀ (cs : List C3) (l : List UInt8) (r : List C3), rowv set cs l = some r → r.map ch = l ∧ r.length = cs.length ∧ r.map key = cs.map key := by
  intro cs
  induction cs with
  | nil =>
    intro l r h
    cases l with
    | nil => rw [rowv] at h; injection h with h; subst h; exact ⟨rfl, rfl, rfl⟩
    | cons b l => simp [rowv] at h
  | cons c cs ih =>
    intro l r h
    cases l with
    | nil => simp [rowv] at h
    | cons b l =>
      rw [rowv] at h
      cases hd : set c b with
      | none => rw [hd] at h; cases h
      | some d =>
        rw [hd] at h
        simp only at h
        cases hr : rowv set cs l with
        | none => rw [hr] at h; cases h
        | some q =>
          rw [hr] at h
          simp only [Option.map_some, Option.some.injEq] at h
          subst h
          obtain ⟨a, b2, c2⟩ := ih l q hr
          obtain ⟨x, y⟩ := hs c b d hd
          exact ⟨by rw [List.map_cons, a, x], by rw [List.length_cons, List.length_cons, b2], by rw [List.map_cons, List.map_cons, c2, y]⟩
theorem rows_some {β : Type} (set : C3 → UInt8 → Option C3) (ch : C3 → UInt8) (key : C3 → β) (hs : ∀ c b d, set c b = some d → ch d = b ∧ key d = key c) (w : Nat) : ∀ (h : Nat) (done todo : List C3) (ls rest : List (List UInt8)) (r : List C3),
    todo.length = h * w → rowsv set w h done todo ls = .ok r rest → ∃ q, r = done ++ q ∧ ls = rowsT ch w h q ++ rest ∧ q.length = h * w ∧ q.map key = todo.map key := by
  intro h
  induction h with
  | zero =>
    intro done todo ls rest r hl e
    rw [Nat.zero_mul] at hl
    rw [rowsv] at e
    injection e with e1 e2
    subst e1 e2
    exact ⟨todo, rfl, rfl, by rw [hl, Nat.zero_mul], rfl⟩
  | succ h ih =>
    intro done todo ls rest r hl e
    rw [Nat.succ_mul] at hl
    cases ls with
    | nil => rw [rowsv] at e; cases e
    | cons l ls =>
      rw [rowsv] at e
      cases hr : rowv set (todo.take w) l with
      | none => rw [hr] at e; cases e
      | some q =>
        rw [hr] at e
        simp only at e
        obtain ⟨a, b, c⟩ := row_some set ch key hs _ _ _ hr
        obtain ⟨p, rfl, rfl, hp, hk⟩ := ih _ _ _ _ _ (by rw [List.length_drop]; omega) e
        have hqw : q.length = w := by rw [b, List.length_take]; omega
        refine ⟨q ++ p, by rw [List.append_assoc], ?_, by rw [List.length_append, hp, hqw, Nat.succ_mul]; omega, by rw [List.map_append, c, hk, ← List.map_append, List.take_append_drop]⟩
        rw [rowsT, List.take_left' hqw, List.drop_left' hqw, a]
        rfl
theorem kind_some {b : UInt8} {k : Int} (h : kindV b = some k) (x y : Int) : kindC ⟨k, x, y⟩ = b ∧ 1 ≤ k ∧ k ≤ 5 := by
  unfold kindV at h
  split at h
  · rename_i e; injection h with h; subst h e; exact ⟨rfl, by decide, by decide⟩
  · split at h
    · rename_i e; injection h with h; subst h e; exact ⟨rfl, by decide, by decide⟩
    · split at h
      · rename_i e; injection h with h; subst h e; exact ⟨rfl, by decide, by decide⟩
      · split at h
        · rename_i e; injection h with h; subst h e; exact ⟨rfl, by decide, by decide⟩
        · split at h
          · rename_i e; injection h with h; subst h e; exact ⟨rfl, by decide, by decide⟩
          · cases h
theorem high_some {b : UInt8} {k : Int} (h : highV b = some k) (x y : Int) : highC ⟨x, k, y⟩ = b ∧ 0 ≤ k ∧ k ≤ 3 := by
  unfold highV at h
  split at h
  · rename_i e
    injection h with h
    refine ⟨?_, by omega, by omega⟩
    unfold highC
    apply UInt8.toNat_inj.1
    rw [dig_nat (by simp only; omega)]
    simp only
    omega
  · cases h
theorem setK_some (c : C3) (b : UInt8) (d : C3) (h : setK c b = some d) : kindC d = b ∧ (d.h, d.a) = (c.h, c.a) := by
  unfold setK at h
  cases hk : kindV b with
  | none => rw [hk] at h; cases h
  | some k =>
    rw [hk] at h
    simp only [Option.map_some, Option.some.injEq] at h
    subst h
    exact ⟨(kind_some hk _ _).1, rfl⟩
theorem setH_some (c : C3) (b : UInt8) (d : C3) (h : setH c b = some d) : highC d = b ∧ (d.k, d.a) = (c.k, c.a) := by
  unfold setH at h
  cases hk : highV b with
  | none => rw [hk] at h; cases h
  | some k =>
    rw [hk] at h
    simp only [Option.map_some, Option.some.injEq] at h
    subst h
    exact ⟨(high_some hk _ _).1, rfl⟩
theorem amts_some (w : Nat) : ∀ (todo done : List C3) (ls rest : List (List UInt8)) (r : List C3), amtsv w done todo ls = .ok r rest →
    ∃ q, r = done ++ q ∧ ls = amtsL w done.length q ++ rest ∧ q.map (fun c => (c.k, c.h)) = todo.map (fun c => (c.k, c.h)) := by
  intro todo
  induction todo with
  | nil =>
    intro done ls rest r e
    rw [amtsv.eq_def] at e
    simp only at e
    injection e with e1 e2
    subst e1 e2
    exact ⟨[], by simp, rfl, rfl⟩
  | cons c todo ih =>
    intro done ls rest r e
    by_cases hk : resB c.k = true
    · cases ls with
      | nil => rw [amtsv_nil hk] at e; cases e
      | cons l ls =>
        cases ha : amtv (done.length % w) (done.length / w) l with
        | none => rw [amtsv_bad hk ha] at e; cases e
        | some n =>
          rw [amtsv_line hk ha] at e
          obtain ⟨q, rfl, rfl, hq⟩ := ih _ _ _ _ e
          refine ⟨⟨c.k, c.h, n⟩ :: q, by simp, ?_, by rw [List.map_cons, List.map_cons, hq]⟩
          rw [amtsL, if_pos hk, List.cons_append, (amt_some ha ⟨c.k, c.h, n⟩ rfl).2.2, List.length_append, List.length_singleton]
    · rw [amtsv_skip hk] at e
      obtain ⟨q, rfl, rfl, hq⟩ := ih _ _ _ _ e
      refine ⟨c :: q, by simp, ?_, by rw [List.map_cons, List.map_cons, hq]⟩
      rw [amtsL, if_neg hk, List.length_append, List.length_singleton]
theorem starts_some (tl : List UInt8) : ∀ (ls : List (List UInt8)) (acc : List (Int × Int)) (rest : List (List UInt8)) (r : List (Int × Int)), startsv tl acc ls = .ok r rest → ∃ q, r = acc ++ q ∧ ls = q.map startL ∧ tl = [] := by
  intro ls
  induction ls with
  | nil =>
    intro acc rest r e
    rw [startsv] at e
    split at e
    · rename_i ht
      injection e with e1 e2
      subst e1
      exact ⟨[], by simp, rfl, ht⟩
    · cases e
  | cons l ls ih =>
    intro acc rest r e
    rw [startsv] at e
    cases hs : startv l with
    | none => rw [hs] at e; cases e
    | some p =>
      rw [hs] at e
      simp only at e
      obtain ⟨q, rfl, rfl, ht⟩ := ih _ _ _ e
      exact ⟨p :: q, by simp, by rw [List.map_cons, ← (start_some hs).2.2.2.2], ht⟩
theorem rowsT_key {β : Type} (ch : C3 → UInt8) (key : C3 → β) (hc : ∀ c d, key c = key d → ch c = ch d) (w : Nat) : ∀ (h : Nat) (cs ds : List C3), cs.map key = ds.map key → rowsT ch w h cs = rowsT ch w h ds := by
  have hm : ∀ (cs ds : List C3), cs.map key = ds.map key → cs.map ch = ds.map ch := by
    intro cs
    induction cs with
    | nil => intro ds h; cases ds with
      | nil => rfl
      | cons _ _ => simp at h
    | cons c cs ih => intro ds h; cases ds with
      | nil => simp at h
      | cons d ds =>
        simp only [List.map_cons, List.cons.injEq] at h
        rw [List.map_cons, List.map_cons, hc c d h.1, ih ds h.2]
  intro h
  induction h with
  | zero => intro cs ds _; rfl
  | succ h ih =>
    intro cs ds e
    rw [rowsT, rowsT, hm (cs.take w) (ds.take w) (by rw [List.map_take, List.map_take, e]), ih (cs.drop w) (ds.drop w) (by rw [List.map_drop, List.map_drop, e])]
theorem andv_ok {α : Type} {n : Nat} {r : Res α} {k : α → List (List UInt8) → F3 × Int × Int} {f : F3} {i : Int} (h : andv n r k = (f, i, 0)) : ∃ a rest, r = .ok a rest ∧ k a rest = (f, i, 0) := by
  cases r with
  | ok a rest => exact ⟨a, rest, rfl, h⟩
  | bad rest => simp [andv] at h
  | cut => simp [andv] at h
theorem andv_err {α : Type} {n : Nat} {r : Res α} {k : α → List (List UInt8) → F3 × Int × Int} (hk : ∀ a rest, (k a rest).2.2 ≠ 0 → (k a rest).1 = F3.zero) (h : (andv n r k).2.2 ≠ 0) : (andv n r k).1 = F3.zero := by
  cases r with
  | ok a rest => exact hk a rest h
  | bad rest => rfl
  | cut => rfl
/-- A text that is read is the text of what was read; what is not read gives nothing. -/
theorem print_parse {s : List UInt8} {f : F3} {i : Int} (h : parsev s = (f, i, 0)) : validf f = 0 ∧ joinT (linesF f) = s ∧ i = 0 := by
  unfold parsev at h
  split at h
  · simp at h
  · obtain ⟨⟨nm, w, hh⟩, ls, e0, h⟩ := andv_ok h
    simp only at h
    unfold restv at h
    obtain ⟨c1, l1, e1, h⟩ := andv_ok h
    obtain ⟨c2, l2, e2, h⟩ := andv_ok h
    obtain ⟨c3, l3, e3, h⟩ := andv_ok h
    obtain ⟨st, l4, e4, h⟩ := andv_ok h
    unfold checkv at h
    split at h
    · rename_i hv
      simp only [Prod.mk.injEq] at h
      obtain ⟨rfl, rfl, _⟩ := h
      refine ⟨hv, ?_, rfl⟩
      obtain ⟨q1, r1, m1, n1, k1⟩ := rows_some setK kindC (fun c => (c.h, c.a)) setK_some w hh [] _ _ _ _ (by rw [List.length_replicate, Nat.mul_comm]) e1
      rw [List.nil_append] at r1
      subst r1
      obtain ⟨q2, r2, m2, n2, k2⟩ := rows_some setH highC (fun c => (c.k, c.a)) setH_some w hh [] _ _ _ _ n1 e2
      rw [List.nil_append] at r2
      subst r2
      obtain ⟨q3, r3, m3, k3⟩ := amts_some w _ _ _ _ _ e3
      rw [List.nil_append] at r3
      subst r3
      obtain ⟨q4, r4, m4, ht⟩ := starts_some _ _ _ _ _ e4
      rw [List.nil_append] at r4
      subst r4
      have hl : ∃ l, linesB s = l :: ls ∧ headv l = some (nm, w, hh) := by
        cases hb : linesB s with
        | nil => rw [hb, headsv] at e0; cases e0
        | cons l ls' =>
          rw [hb] at e0
          cases hd : headv l with
          | none => rw [headsv_bad hd] at e0; cases e0
          | some a =>
            rw [headsv_ok hd] at e0
            injection e0 with e5 e6
            subst e5 e6
            exact ⟨l, rfl, hd⟩
      obtain ⟨l, hl, hd⟩ := hl
      have hd' := (head_some hd).2.2.2.2.2
      have hj := text_join s
      rw [ht, List.append_nil, hl, m1, m2, m3, m4] at hj
      rw [hj]
      unfold joinT linesF headL
      simp only [Int.toNat_natCast]
      have t2 : rowsT kindC w hh c1 = rowsT kindC w hh c3 := by
        refine rowsT_key kindC (fun c => c.k) (fun c d e => by unfold kindC; rw [e]) w hh _ _ ?_
        have a1 := congrArg (List.map Prod.fst) k2
        have a2 := congrArg (List.map Prod.fst) k3
        rw [List.map_map, List.map_map] at a1 a2
        exact (a2.trans a1).symm
      have t3 : rowsT highC w hh c2 = rowsT highC w hh c3 := by
        refine rowsT_key highC (fun c => c.h) (fun c d e => by unfold highC; rw [e]) w hh _ _ ?_
        have a2 := congrArg (List.map Prod.snd) k3
        rw [List.map_map, List.map_map] at a2
        exact a2.symm
      rw [t2, t3, hd']
      simp only [List.append_assoc, List.length_nil]
    · rename_i hv
      simp only [Prod.mk.injEq] at h
      exact absurd h.2.2 hv
theorem parse_zero {s : List UInt8} (h : (parsev s).2.2 ≠ 0) : (parsev s).1 = F3.zero := by
  unfold parsev at h ⊢
  split
  · rfl
  · rename_i hs
    rw [if_neg hs] at h
    refine andv_err (fun a rest => ?_) h
    unfold restv
    refine andv_err (fun a rest => andv_err (fun a rest => andv_err (fun a rest => andv_err (fun a rest => ?_))))
    unfold checkv
    split
    · intro h; exact absurd rfl h
    · intro _; rfl

end

end Go.Proofs.YtaefioikflllcaaGreat
