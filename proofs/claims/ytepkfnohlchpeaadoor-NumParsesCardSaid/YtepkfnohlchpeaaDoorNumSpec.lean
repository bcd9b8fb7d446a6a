/-
  The decimal texts of length units, read: which texts are accepted, and what they stand for. Plain functions on lists of bytes; no program is named here.
-/
import Derived.Test.YtepkfnohlchpeaaDoorNumText
namespace Go.Proofs.YtepkfnohlchpeaaDoor
open Go.RowKit Go.Lib

def isDig (c : UInt8) : Bool := decide (48 ≤ c.toNat ∧ c.toNat ≤ 57)
def valAt (a : Nat) (l : List UInt8) : Nat := l.foldl (fun a c => a * 10 + (c.toNat - 48)) a
/-- The number that digits spell. -/
def val (l : List UInt8) : Nat := valAt 0 l
def wholeOK (l : List UInt8) : Bool := !l.isEmpty && !(decide (1 < l.length) && l.head? == some 48)
def fracOK (p : List UInt8) : Bool := decide (1 ≤ p.length) && decide (p.length ≤ 8) && !(p.getLast? == some 48) && p.all isDig && decide (val p * 256 % 10 ^ p.length = 0)
def fracU (p : List UInt8) : Nat := val p * 256 / 10 ^ p.length
def fin (neg : Bool) (u : Nat) : Int × Int :=
  if neg then (if u = 0 then (0, 5) else if u ≤ 9223372036854775808 then (-(u : Int), 0) else (0, 3)) else (if u ≤ 9223372036854775807 then ((u : Int), 0) else (0, 3))
def parseB (neg : Bool) (b : List UInt8) : Int × Int :=
  match b.dropWhile isDig with
  | [] => if wholeOK (b.takeWhile isDig) then fin neg (val (b.takeWhile isDig) * 256) else (0, 5)
  | c :: p => if wholeOK (b.takeWhile isDig) && c == 46 && fracOK p then fin neg (val (b.takeWhile isDig) * 256 + fracU p) else (0, 5)
/-- What 'Parse' answers: the int and the error number. -/
def parseL (l : List UInt8) : Int × Int := if l.head? = some 45 then parseB true l.tail else parseB false l

theorem valAt_snoc (a : Nat) (l : List UInt8) (c : UInt8) : valAt a (l ++ [c]) = valAt a l * 10 + (c.toNat - 48) := by simp [valAt]
theorem val_snoc (l : List UInt8) (c : UInt8) : val (l ++ [c]) = val l * 10 + (c.toNat - 48) := valAt_snoc 0 l c
theorem valAt_cons (a : Nat) (c : UInt8) (l : List UInt8) : valAt a (c :: l) = valAt (a * 10 + (c.toNat - 48)) l := by simp only [valAt, List.foldl_cons]
theorem isDig_iff (c : UInt8) : isDig c = true ↔ 48 ≤ c.toNat ∧ c.toNat ≤ 57 := by unfold isDig; exact decide_eq_true_iff
theorem isDig_no {c : UInt8} (h : isDig c = false) : ¬ (48 ≤ c.toNat ∧ c.toNat ≤ 57) := by unfold isDig at h; exact of_decide_eq_false h
theorem all_cons {p : UInt8 → Bool} {c : UInt8} {l : List UInt8} (h : (c :: l).all p = true) : p c = true ∧ l.all p = true := by rw [List.all_cons, Bool.and_eq_true] at h; exact h
theorem valAt_lt : ∀ (l : List UInt8) (a : Nat), l.all isDig = true → valAt a l < (a + 1) * 10 ^ l.length := by
  intro l
  induction l with
  | nil => intro a _; show a < (a + 1) * 1; omega
  | cons c l ih =>
    intro a h
    obtain ⟨hc, hl⟩ := all_cons h
    have h1 := ih (a * 10 + (c.toNat - 48)) hl
    have h2 := (isDig_iff c).1 hc
    rw [valAt_cons, List.length_cons, Nat.pow_succ, Nat.mul_comm (10 ^ l.length) 10, ← Nat.mul_assoc]
    exact Nat.lt_of_lt_of_le h1 (Nat.mul_le_mul_right _ (by omega))
theorem val_lt {l : List UInt8} (h : l.all isDig = true) : val l < 10 ^ l.length := by
  have := valAt_lt l 0 h
  unfold val
  omega
theorem valAt_ge : ∀ (l : List UInt8) (a : Nat), a ≤ valAt a l := by
  intro l
  induction l with
  | nil => intro a; exact Nat.le_refl _
  | cons c l ih => intro a; rw [valAt_cons]; exact Nat.le_trans (by omega) (ih _)

end Go.Proofs.YtepkfnohlchpeaaDoor
