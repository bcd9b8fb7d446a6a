/-
  The numbers and lists of layer 5: the digest of bytes, the eight bytes of a number, hexadecimal digits. No program is named here.
-/
import Derived.WalkKit
import Derived.IntWalk
import Derived.WalkSpells
import Derived.Lib.Hide
import Derived.Laws.BitsAllLaws
import Derived.Test.YtkjibjamkjdeaaaDoorRngMath
namespace Go.Proofs.YtkjibjamkjdeaaaDoor
open Go.RowKit Go.Lib

/-- One byte taken into a digest. -/
def dstep (a : Int) (b : UInt8) : Int := IntKind.u64.wrap (bits .xor .u64 a (b.toNat : Int) * 1099511628211)
/-- A digest extended by bytes. -/
def ext (h : Int) (l : List UInt8) : Int := l.foldl dstep h
theorem ext_append (h : Int) (l m : List UInt8) : ext h (l ++ m) = ext (ext h l) m := List.foldl_append
theorem ext_snoc (h : Int) (l : List UInt8) (b : UInt8) : ext h (l ++ [b]) = dstep (ext h l) b := by rw [ext_append]; rfl
theorem dstep_u (a : Int) (b : UInt8) : U64 (dstep a b) := wrap_u _
theorem ext_u {h : Int} (hh : U64 h) (l : List UInt8) : U64 (ext h l) := by
  induction l generalizing h with
  | nil => exact hh
  | cons b l ih => exact ih (dstep_u h b)
theorem mul_inj_gen (p q P Q M m : Int) (h : P * Q = 1 + M * m) (e : (p * P) % M = (q * P) % M) : p % M = q % M := by
  have d : M ∣ p * P - q * P := Int.dvd_of_emod_eq_zero (Int.emod_eq_emod_iff_emod_sub_eq_zero.1 e)
  obtain ⟨c, hc⟩ := d
  apply Int.emod_eq_emod_iff_emod_sub_eq_zero.2
  apply Int.emod_eq_zero_of_dvd
  refine ⟨c * Q - (p - q) * m, ?_⟩
  have e1 : (p - q) * (P * Q) = M * (c * Q) := by
    rw [← Int.mul_assoc, Int.sub_mul, hc, Int.mul_assoc]
  rw [h, Int.mul_add, Int.mul_one] at e1
  rw [Int.mul_sub]
  have e3 : (p - q) * (M * m) = M * ((p - q) * m) := Int.mul_left_comm _ M m
  omega
theorem byte_u (b : UInt8) : U64 (b.toNat : Int) := by have := b.toNat_lt; unfold U64; omega
theorem xor_can_right {a b c : Nat} (h : a ^^^ c = b ^^^ c) : a = b := by
  have e : (a ^^^ c) ^^^ c = (b ^^^ c) ^^^ c := by rw [h]
  rwa [Nat.xor_assoc, Nat.xor_assoc, Nat.xor_self, Nat.xor_zero, Nat.xor_zero] at e
theorem xor_can_left {a b c : Nat} (h : a ^^^ b = a ^^^ c) : b = c := by
  rw [Nat.xor_comm a b, Nat.xor_comm a c] at h
  exact xor_can_right h
theorem dstep_x {a b : Int} {x y : UInt8} (ha : U64 a) (hb : U64 b) (e : dstep a x = dstep b y) : bits .xor .u64 a (x.toNat : Int) = bits .xor .u64 b (y.toNat : Int) := by
  have h1 := xor_u ha (byte_u x)
  have h2 := xor_u hb (byte_u y)
  unfold dstep at e
  rw [IntKind.wrap_u64, IntKind.wrap_u64] at e
  have e2 := mul_inj_gen _ _ 1099511628211 14886173955864302971 18446744073709551616 887285111055 (by decide) e
  rw [Int.emod_eq_of_lt h1.1 h1.2, Int.emod_eq_of_lt h2.1 h2.2] at e2
  exact e2
theorem dstep_inj {a b : Int} {x : UInt8} (ha : U64 a) (hb : U64 b) (e : dstep a x = dstep b x) : a = b := by
  have h := dstep_x ha hb e
  rw [u64_xor _ _ ha.1 ha.2 (byte_u x).1 (byte_u x).2, u64_xor _ _ hb.1 hb.2 (byte_u x).1 (byte_u x).2] at h
  have h2 : a.toNat ^^^ (x.toNat : Int).toNat = b.toNat ^^^ (x.toNat : Int).toNat := by omega
  have h3 := xor_can_right h2
  have := ha.1; have := hb.1
  omega
theorem dstep_byte {a : Int} {x y : UInt8} (ha : U64 a) (e : dstep a x = dstep a y) : x = y := by
  have h := dstep_x ha ha e
  rw [u64_xor _ _ ha.1 ha.2 (byte_u x).1 (byte_u x).2, u64_xor _ _ ha.1 ha.2 (byte_u y).1 (byte_u y).2] at h
  have h2 : a.toNat ^^^ (x.toNat : Int).toNat = a.toNat ^^^ (y.toNat : Int).toNat := by omega
  have h3 := xor_can_left h2
  apply UInt8.toNat_inj.1
  omega
theorem ext_inj {l : List UInt8} {a b : Int} (ha : U64 a) (hb : U64 b) (e : ext a l = ext b l) : a = b := by
  induction l generalizing a b with
  | nil => exact e
  | cons x l ih => exact dstep_inj ha hb (ih (dstep_u a x) (dstep_u b x) e)
theorem ext_byte {h : Int} {l m : List UInt8} {x y : UInt8} (hh : U64 h) (e : ext h (l ++ x :: m) = ext h (l ++ y :: m)) : x = y := by
  rw [ext_append, ext_append] at e
  exact dstep_byte (ext_u hh l) (ext_inj (dstep_u _ _) (dstep_u _ _) e)

/-- The k bytes of a number, from the least significant one on. -/
def bytesLE : Nat → Nat → List UInt8
  | 0, _ => []
  | k + 1, n => UInt8.ofNat (n % 256) :: bytesLE k (n / 256)
theorem bytesLE_len (k n : Nat) : (bytesLE k n).length = k := by
  induction k generalizing n with
  | zero => rfl
  | succ k ih => simp [bytesLE, ih]

/-- A hexadecimal digit. -/
def hexd (k : Nat) : UInt8 := if k < 10 then UInt8.ofNat (48 + k) else UInt8.ofNat (87 + k)
/-- The last k hexadecimal digits of a number. -/
def hexR : Nat → Nat → List UInt8
  | 0, _ => []
  | k + 1, n => hexR k (n / 16) ++ [hexd (n % 16)]
theorem hexR_len (k n : Nat) : (hexR k n).length = k := by
  induction k generalizing n with
  | zero => rfl
  | succ k ih => simp [hexR, ih]
/-- The value of a digit, looked for from i on; 16 if there is none. -/
def hvGo : Nat → Nat → UInt8 → Nat
  | 0, _, _ => 16
  | f + 1, i, c => if hexd i = c then i else hvGo f (i + 1) c
def hv (c : UInt8) : Nat := hvGo 16 0 c
theorem hvGo_le (f i : Nat) (c : UInt8) (h : i + f = 16) : hvGo f i c ≤ 16 := by
  induction f generalizing i with
  | zero => exact Nat.le_refl _
  | succ f ih =>
    unfold hvGo
    split
    · omega
    · exact ih (i + 1) (by omega)
theorem hv_le (c : UInt8) : hv c ≤ 16 := hvGo_le 16 0 c rfl
theorem hv_hexd : ∀ k < 16, hv (hexd k) = k := by decide
/-- Digits read, onto what was read. -/
def uh : List UInt8 → Nat → Nat × Int
  | [], a => (a, 0)
  | b :: l, a => if 15 < hv b then (0, 5) else uh l (a * 16 + hv b)
def unhexv (l : List UInt8) : Nat × Int := if l.length = 16 then uh l 0 else (0, 5)
theorem uh_hex (k n a : Nat) (l : List UInt8) : uh (hexR k n ++ l) a = uh l (a * 16 ^ k + n % 16 ^ k) := by
  induction k generalizing n a l with
  | zero => simp [hexR, Nat.mod_one]
  | succ k ih =>
    rw [hexR, List.append_assoc, ih]
    have h := hv_hexd (n % 16) (Nat.mod_lt _ (by omega))
    show uh (hexd (n % 16) :: l) _ = _
    rw [uh, h, if_neg (by omega)]
    congr 1
    have e : n % 16 ^ (k + 1) = n % 16 + 16 * (n / 16 % 16 ^ k) := by rw [Nat.pow_succ, Nat.mul_comm, Nat.mod_mul]
    rw [e, Nat.pow_succ, Nat.add_mul, Nat.mul_assoc]
    omega
theorem unhex_hex (n : Nat) (h : n < 18446744073709551616) : unhexv (hexR 16 n) = (n, 0) := by
  unfold unhexv
  rw [if_pos (hexR_len 16 n)]
  have e := uh_hex 16 n 0 []
  rw [List.append_nil] at e
  rw [e, show (16 : Nat) ^ 16 = 18446744073709551616 by decide, Nat.mod_eq_of_lt h]
  simp [uh]
theorem uh_bd (l : List UInt8) (a k : Nat) (ha : a < 16 ^ k) (hk : k + l.length ≤ 16) : (uh l a).1 < 18446744073709551616 := by
  induction l generalizing a k with
  | nil =>
    have : 16 ^ k ≤ 16 ^ 16 := Nat.pow_le_pow_right (by omega) (by simp at hk; omega)
    have e : (16 : Nat) ^ 16 = 18446744073709551616 := by decide
    show a < _
    omega
  | cons b l ih =>
    unfold uh
    split
    · exact show (0 : Nat) < _ by decide
    · refine ih _ (k + 1) ?_ (by simp at hk; omega)
      rw [Nat.pow_succ]; omega

end Go.Proofs.YtkjibjamkjdeaaaDoor
