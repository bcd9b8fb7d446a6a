/-
  What the reference of map files computes, as plain functions: its numbers, its lines of characters, its pieces. No program is named here.
-/
import Derived.Test.YtmpbgfobiceehaaGreatDoorMapPure
namespace Go.Proofs.YtmpbgfobiceehaaGreatDoor
open Go.RowKit Go.Lib

/-- The value of a number; -1 if it is none. -/
def refNum (l : List UInt8) : Int := if canonB l = true ∧ valN 0 l ≤ 1000000 then (valN 0 l : Int) else -1
theorem refNum_ge (l : List UInt8) : -1 ≤ refNum l ∧ refNum l ≤ 1000000 := by unfold refNum; split <;> omega
theorem numR_ref (l : List UInt8) (lo hi : Nat) (hh : hi ≤ 1000000) : numR l lo hi = if (lo : Int) ≤ refNum l ∧ refNum l ≤ (hi : Int) then some (refNum l).toNat else none := by
  unfold numR refNum
  by_cases h : canonB l = true ∧ valN 0 l ≤ 1000000
  · rw [if_pos h, Int.toNat_natCast]
    by_cases h2 : lo ≤ valN 0 l ∧ valN 0 l ≤ hi
    · rw [if_pos ⟨h.1, h2⟩, if_pos (by omega)]
    · rw [if_neg (fun q => h2 q.2), if_neg (by omega)]
  · rw [if_neg h, if_neg (fun q => h ⟨q.1, by omega⟩), if_neg (by omega)]
theorem refNum_pos {l : List UInt8} (h : canonB l = true) (h2 : valN 0 l ≤ 1000000) : refNum l = (valN 0 l : Int) := if_pos ⟨h, h2⟩
theorem refNum_no {l : List UInt8} (h : canonB l = false ∨ 1000000 < valN 0 l) : refNum l = -1 := if_neg (by
  rintro ⟨a, b⟩
  rcases h with h | h
  · rw [h] at a; cases a
  · omega)
theorem refNum_long {l : List UInt8} (h : 7 < l.length) : refNum l = -1 := by
  cases hc : canonB l with
  | false => exact refNum_no (.inl hc)
  | true => exact refNum_no (.inr (canon_long hc h))
theorem refNum_nil {l : List UInt8} (h : l.length < 1) : refNum l = -1 := by
  obtain rfl := List.eq_nil_of_length_eq_zero (show l.length = 0 by omega)
  exact refNum_no (.inl rfl)
theorem canon_zero {l : List UInt8} (h : 1 < l.length) (h0 : l.head? = some 48) : canonB l = false := by
  cases hc : canonB l with
  | false => rfl
  | true =>
    obtain ⟨_, _, h3⟩ := (canon_iff l).1 hc
    rcases h3 with h3 | h3
    · omega
    · exact absurd h0 h3
theorem canon_dig {l : List UInt8} (h : l.all digB = false) : canonB l = false := by
  cases hc : canonB l with
  | false => rfl
  | true =>
    obtain ⟨_, h2, _⟩ := (canon_iff l).1 hc
    rw [h2] at h; cases h
theorem valN_under : ∀ (l : List UInt8) (a : Nat), l.all digB = true → valN a l < (a + 1) * 10 ^ l.length := by
  intro l
  induction l with
  | nil => intro a _; simp [valN]
  | cons c l ih =>
    intro a h
    rw [List.all_cons, Bool.and_eq_true] at h
    have h2 := (digB_iff c).1 h.1
    have h1 := ih (a * 10 + (c.toNat - 48)) h.2
    rw [valN_cons, List.length_cons, Nat.pow_succ, Nat.mul_comm (10 ^ l.length) 10, ← Nat.mul_assoc]
    exact Nat.lt_of_lt_of_le h1 (Nat.mul_le_mul_right _ (by omega))
theorem valN_lt (l : List UInt8) (h : l.all digB = true) : valN 0 l < 10 ^ l.length := by
  have := valN_under l 0 h
  rwa [Nat.zero_add, Nat.one_mul] at this

/-- The characters of cells from the k-th on, with a line feed behind each row. -/
def lineT (ch : C3 → UInt8) (w : Nat) : Nat → List C3 → List UInt8
  | _, [] => []
  | k, c :: cs => ch c :: ((if k % w = w - 1 then [10] else []) ++ lineT ch w (k + 1) cs)
theorem lineT_app (ch : C3 → UInt8) (w : Nat) : ∀ (xs ys : List C3) (k : Nat), lineT ch w k (xs ++ ys) = lineT ch w k xs ++ lineT ch w (k + xs.length) ys := by
  intro xs
  induction xs with
  | nil => intro ys k; simp [lineT]
  | cons x xs ih =>
    intro ys k
    rw [List.cons_append, lineT, lineT, ih, List.length_cons, List.cons_append, List.append_assoc, show k + (xs.length + 1) = k + 1 + xs.length by omega]
theorem lineT_next (ch : C3 → UInt8) (w : Nat) (cs : List C3) {i : Nat} (hi : i < cs.length) : lineT ch w 0 (cs.take (i + 1)) = lineT ch w 0 (cs.take i) ++ (ch (cs[i]'hi) :: (if i % w = w - 1 then [10] else [])) := by
  rw [List.take_succ_eq_append_getElem hi, lineT_app, List.length_take, Nat.min_eq_left (by omega), Nat.zero_add]
  simp [lineT]
theorem lineT_len (ch : C3 → UInt8) (w : Nat) : ∀ (cs : List C3) (k : Nat), (lineT ch w k cs).length ≤ 2 * cs.length := by
  intro cs
  induction cs with
  | nil => intro k; simp [lineT]
  | cons c cs ih =>
    intro k
    have := ih (k + 1)
    rw [lineT, List.length_cons, List.length_append, List.length_cons]
    split <;> simp <;> omega
theorem lineT_row (ch : C3 → UInt8) (w q : Nat) : ∀ (xs : List C3) (j : Nat), 1 ≤ xs.length → j + xs.length = w → lineT ch w (q * w + j) xs = xs.map ch ++ [10] := by
  intro xs
  induction xs with
  | nil => intro j h; simp at h
  | cons x xs ih =>
    intro j _ hj
    rw [List.length_cons] at hj
    have hm : (q * w + j) % w = j := by rw [Nat.mul_comm, Nat.mul_add_mod]; exact Nat.mod_eq_of_lt (by omega)
    rw [lineT, hm]
    cases xs with
    | nil =>
      have : j = w - 1 := by simp at hj; omega
      rw [if_pos this]
      simp [lineT]
    | cons y ys =>
      rw [List.length_cons] at hj
      rw [if_neg (by omega), List.nil_append, Nat.add_assoc, ih (j + 1) (by simp) (by rw [List.length_cons]; omega)]
      rfl
theorem lineT_rows (ch : C3 → UInt8) (w : Nat) (hw : 1 ≤ w) : ∀ (h : Nat) (cs : List C3) (q : Nat), cs.length = h * w → lineT ch w (q * w) cs = joinT (rowsT ch w h cs) := by
  intro h
  induction h with
  | zero =>
    intro cs q hl
    have h0 : cs.length = 0 := by simpa using hl
    rw [List.eq_nil_of_length_eq_zero h0]
    rfl
  | succ h ih =>
    intro cs q hl
    rw [Nat.succ_mul] at hl
    have e1 : (cs.take w).length = w := by rw [List.length_take]; omega
    have h1 := lineT_row ch w q (cs.take w) 0 (by omega) (by omega)
    have h2 := ih (cs.drop w) (q + 1) (by rw [List.length_drop]; omega)
    have h3 := lineT_app ch w (cs.take w) (cs.drop w) (q * w)
    rw [List.take_append_drop, e1] at h3
    rw [Nat.add_zero] at h1
    rw [Nat.succ_mul] at h2
    rw [h3, h1, h2, rowsT]
    unfold joinT
    rw [List.flatMap_cons]

end Go.Proofs.YtmpbgfobiceehaaGreatDoor
