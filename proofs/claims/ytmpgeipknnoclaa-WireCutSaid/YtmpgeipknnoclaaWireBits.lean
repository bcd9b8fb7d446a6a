/-
  The ints' encoding as it is often written with bits: (n << 1) ^ (n >> 63), and back. No program is named here.
-/
import Derived.WalkKit
import Derived.IntWalk
import Derived.Laws.BitsAllLaws
import Derived.Test.YtmpgeipknnoclaaWireMath
namespace Go.Proofs.Ytmpgeipknnoclaa
open Go.RowKit Go.Lib

theorem xor_ones (a : Nat) (ha : a < 18446744073709551616) : a ^^^ 18446744073709551615 = 18446744073709551615 - a := by
  have h := congrArg BitVec.toNat (BitVec.xor_allOnes (x := BitVec.ofNat 64 a))
  rw [BitVec.toNat_xor, BitVec.toNat_not, BitVec.toNat_ofNat, BitVec.toNat_allOnes, Nat.mod_eq_of_lt (by simpa using ha)] at h
  simpa using h
/-- Of a number that is not negative .. -/
theorem zz_pos (n : Int) (h0 : 0 ≤ n) (h1 : n ≤ 9223372036854775807) : bits .xor .u64 (IntKind.u64.wrap (2 * n)) 0 = (zz n : Nat) := by
  rw [IntWalk.u64_in _ (by omega), u64_xor _ _ (by omega) (by omega) (by omega) (by omega)]
  unfold zz
  rw [if_neg (by omega)]
  simp

/-- .. and of a negative one. -/
theorem zz_neg (n : Int) (h0 : -9223372036854775808 ≤ n) (h1 : n < 0) : bits .xor .u64 (IntKind.u64.wrap (2 * n)) 18446744073709551615 = (zz n : Nat) := by
  have e : IntKind.u64.wrap (2 * n) = 2 * n + 18446744073709551616 := by
    rw [IntKind.wrap_u64]; omega
  rw [e, u64_xor _ _ (by omega) (by omega) (by omega) (by omega), show (18446744073709551615 : Int).toNat = 18446744073709551615 by rfl, xor_ones _ (by omega)]
  unfold zz
  rw [if_pos h1]
  omega
/-- An int and -1. -/
theorem i64_xor_ones (a : Int) (h0 : 0 ≤ a) (h1 : a ≤ 9223372036854775807) : bits .xor .i64 a (-1) = -a - 1 := by
  show IntKind.i64.wrap ((BitVec.ofInt 64 a ^^^ BitVec.ofInt 64 (-1)).toNat : Int) = _
  rw [show BitVec.ofInt 64 (-1) = BitVec.allOnes 64 by decide, BitVec.xor_allOnes, BitVec.toNat_not, BitVec.toNat_ofInt, IntKind.wrap_i64]
  omega
theorem i64_xor_zero (a : Int) (h0 : 0 ≤ a) (h1 : a ≤ 9223372036854775807) : bits .xor .i64 a 0 = a := by
  show IntKind.i64.wrap ((BitVec.ofInt 64 a ^^^ BitVec.ofInt 64 0).toNat : Int) = _
  rw [show BitVec.ofInt 64 0 = 0#64 by decide, BitVec.xor_zero, BitVec.toNat_ofInt, IntKind.wrap_i64]
  omega

end Go.Proofs.Ytmpgeipknnoclaa
