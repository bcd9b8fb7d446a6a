/-
  The product of two ints, its halves of 64 bits, and its 256th part rounded down. No program is named here.
-/
import Derived.Test.YtepkfnohlchpeaaDoorKit
import Derived.Laws.BitsAllLaws
namespace Go.Proofs.YtepkfnohlchpeaaDoor
open Go.RowKit Go.Lib

theorem ofInt64_toNat (a : Int) : ((BitVec.ofInt 64 a).toNat : Int) = a % 18446744073709551616 := by
  rw [BitVec.toNat_ofInt]
  have := Int.emod_nonneg a (show (18446744073709551616 : Int) ≠ 0 by omega)
  show ((a % ((18446744073709551616 : Nat) : Int)).toNat : Int) = _
  omega
theorem or_join (h l : Int) (h0 : 0 ≤ l) (h1 : l < 72057594037927936) : bits .or .i64 (wrap64 (h * 72057594037927936)) l = wrap64 (h * 72057594037927936 + l) := by
  show IntKind.i64.wrap ((BitVec.ofInt 64 (wrap64 (h * 72057594037927936)) ||| BitVec.ofInt 64 l).toNat : Int) = _
  rw [BitVec.toNat_or]
  have ea := ofInt64_toNat (wrap64 (h * 72057594037927936))
  have eb := ofInt64_toNat l
  generalize (BitVec.ofInt 64 (wrap64 (h * 72057594037927936))).toNat = A at *
  generalize (BitVec.ofInt 64 l).toNat = B at *
  unfold wrap64 at *
  rw [nat_join 56 A B (by omega) (by omega), IntKind.wrap_i64]
  omega

/-- The quotient that 'Mul' answers, of the product X. -/
def mulq (X : Int) : Int := if -9223372036854775808 ≤ X / 256 ∧ X / 256 ≤ 9223372036854775807 then X / 256 else if X < 0 then -9223372036854775808 else 9223372036854775807
/-- The error number. -/
def mule (X : Int) : Int := if -9223372036854775808 ≤ X / 256 ∧ X / 256 ≤ 9223372036854775807 then 0 else 3

theorem mulq_in {X : Int} (h : -9223372036854775808 ≤ X / 256 ∧ X / 256 ≤ 9223372036854775807) : mulq X = X / 256 ∧ mule X = 0 := by unfold mulq mule; rw [if_pos h, if_pos h]; exact ⟨rfl, rfl⟩
theorem mulq_neg {X : Int} (h : ¬ (-9223372036854775808 ≤ X / 256 ∧ X / 256 ≤ 9223372036854775807)) (h0 : X < 0) : mulq X = -9223372036854775808 ∧ mule X = 3 := by unfold mulq mule; rw [if_neg h, if_neg h, if_pos h0]; exact ⟨rfl, rfl⟩
theorem mulq_pos {X : Int} (h : ¬ (-9223372036854775808 ≤ X / 256 ∧ X / 256 ≤ 9223372036854775807)) (h0 : ¬ X < 0) : mulq X = 9223372036854775807 ∧ mule X = 3 := by unfold mulq mule; rw [if_neg h, if_neg h, if_neg h0]; exact ⟨rfl, rfl⟩

/-- The ways of num.Mul, in the walk's own spelling. -/
theorem mul_ways (X : Int) :
    ((X / 18446744073709551616 / 256 == bits .or .i64 (wrap64 (X / 18446744073709551616 * 72057594037927936)) (X % 18446744073709551616 / 256) / 9223372036854775808) = true →
      bits .or .i64 (wrap64 (X / 18446744073709551616 * 72057594037927936)) (X % 18446744073709551616 / 256) = mulq X ∧ (0 : Int) = mule X) ∧
    ((X / 18446744073709551616 / 256 == bits .or .i64 (wrap64 (X / 18446744073709551616 * 72057594037927936)) (X % 18446744073709551616 / 256) / 9223372036854775808) = false →
      (X / 18446744073709551616 < 0 → (-9223372036854775808 : Int) = mulq X ∧ (3 : Int) = mule X) ∧ (0 ≤ X / 18446744073709551616 → (9223372036854775807 : Int) = mulq X ∧ (3 : Int) = mule X)) := by
  rw [or_join _ _ (by omega) (by omega)]
  have e : X / 18446744073709551616 * 72057594037927936 + X % 18446744073709551616 / 256 = X / 256 := by omega
  rw [e]
  refine ⟨fun h => ?_, fun h => ?_⟩
  · have h' : X / 18446744073709551616 / 256 = wrap64 (X / 256) / 9223372036854775808 := by simpa using h
    unfold wrap64 at *
    obtain ⟨h1, h2⟩ := mulq_in (X := X) (by omega)
    rw [h1, h2]
    exact ⟨by omega, rfl⟩
  · have h' : ¬ X / 18446744073709551616 / 256 = wrap64 (X / 256) / 9223372036854775808 := by simpa using h
    unfold wrap64 at *
    refine ⟨fun h0 => ?_, fun h0 => ?_⟩
    · obtain ⟨h1, h2⟩ := mulq_neg (X := X) (by omega) (by omega)
      exact ⟨h1.symm, h2.symm⟩
    · obtain ⟨h1, h2⟩ := mulq_pos (X := X) (by omega) (by omega)
      exact ⟨h1.symm, h2.symm⟩

/-- The unsigned product of the two ints' bit patterns. -/
theorem prod_nn {a b x y : Int} (hx : x = a) (hy : y = b) : x * y = a * b := by rw [hx, hy]
theorem prod_np {a b x y : Int} (hx : x = a + 18446744073709551616) (hy : y = b) : x * y = a * b + 18446744073709551616 * b := by rw [hx, hy, Int.add_mul]
theorem prod_pn {a b x y : Int} (hx : x = a) (hy : y = b + 18446744073709551616) : x * y = a * b + 18446744073709551616 * a := by rw [hx, hy, Int.mul_add, Int.mul_comm a 18446744073709551616]
theorem prod_ng {a b x y : Int} (hx : x = a + 18446744073709551616) (hy : y = b + 18446744073709551616) : x * y = a * b + 18446744073709551616 * a + (18446744073709551616 * b + 340282366920938463463374607431768211456) := by
  rw [hx, hy, Int.mul_add, Int.add_mul, Int.add_mul]; omega

theorem mul_bound (a b : Int) (ha0 : -9223372036854775808 ≤ a) (ha1 : a ≤ 9223372036854775807) (hb0 : -9223372036854775808 ≤ b) (hb1 : b ≤ 9223372036854775807) :
    -85070591730234615865843651857942052864 ≤ a * b ∧ a * b ≤ 85070591730234615865843651857942052864 := by
  have h1 : (a * b).natAbs = a.natAbs * b.natAbs := Int.natAbs_mul a b
  have h2 : a.natAbs * b.natAbs ≤ 9223372036854775808 * 9223372036854775808 := Nat.mul_le_mul (by omega) (by omega)
  omega

/-- The high half, in the walk's own spelling, by the signs. -/
theorem high_all (a b : Int) (ha0 : -9223372036854775808 ≤ a) (ha1 : a ≤ 9223372036854775807) (hb0 : -9223372036854775808 ≤ b) (hb1 : b ≤ 9223372036854775807) (x y : Int) (hx : IntKind.u64.wrap a = x) (hy : IntKind.u64.wrap b = y) :
    x * y % 18446744073709551616 = a * b % 18446744073709551616 ∧
    (a < 0 → b < 0 → wrap64 (IntKind.u64.wrap (IntKind.u64.wrap (x * y / 18446744073709551616 - y) - x)) = a * b / 18446744073709551616) ∧
    (a < 0 → ¬ b < 0 → wrap64 (IntKind.u64.wrap (x * y / 18446744073709551616 - y)) = a * b / 18446744073709551616) ∧
    (¬ a < 0 → b < 0 → wrap64 (IntKind.u64.wrap (x * y / 18446744073709551616 - x)) = a * b / 18446744073709551616) ∧
    (¬ a < 0 → ¬ b < 0 → wrap64 (x * y / 18446744073709551616) = a * b / 18446744073709551616) := by
  have hb := mul_bound a b ha0 ha1 hb0 hb1
  simp only [IntKind.wrap_u64] at *
  unfold wrap64
  by_cases h1 : a < 0 <;> by_cases h2 : b < 0
  · have e := prod_ng (a := a) (b := b) (x := x) (y := y) (by omega) (by omega)
    rw [e]
    generalize a * b = X at *
    omega
  · have e := prod_np (a := a) (b := b) (x := x) (y := y) (by omega) (by omega)
    rw [e]
    generalize a * b = X at *
    omega
  · have e := prod_pn (a := a) (b := b) (x := x) (y := y) (by omega) (by omega)
    rw [e]
    generalize a * b = X at *
    omega
  · have e := prod_nn (a := a) (b := b) (x := x) (y := y) (by omega) (by omega)
    rw [e]
    generalize a * b = X at *
    omega

/-- The reference's ways: N is the size of the product X. -/
theorem or_join_u {h l : Int} (l0 : 0 ≤ l) (l1 : l < 72057594037927936) :
    bits .or .u64 (IntKind.u64.wrap (h * 72057594037927936)) l = (h * 72057594037927936 + l) % 18446744073709551616 := by
  rw [IntKind.wrap_u64, u64_or _ _ (by omega) (by omega) (by omega) (by omega), nat_join 56 _ _ (by omega) (by omega)]
  omega

theorem or_join_v {N : Int} (h : N / 18446744073709551616 / 256 = 0) :
    bits .or .u64 (N / 18446744073709551616 * 72057594037927936) (N % 18446744073709551616 / 256) = N / 256 := by
  have e := or_join_u (h := N / 18446744073709551616) (l := N % 18446744073709551616 / 256) (by omega) (by omega)
  have e2 : IntKind.u64.wrap (N / 18446744073709551616 * 72057594037927936) = N / 18446744073709551616 * 72057594037927936 := by rw [IntKind.wrap_u64]; omega
  rw [e2] at e
  rw [e]; omega
/-- The reference's ways where the product is not negative. -/
theorem rmul_pos_ways (N : Int) (h0 : 0 ≤ N) :
    (N / 18446744073709551616 / 256 = 0 → 9223372036854775807 < bits .or .u64 (N / 18446744073709551616 * 72057594037927936) (N % 18446744073709551616 / 256) → (9223372036854775807 : Int) = mulq N ∧ (3 : Int) = mule N) ∧
    (N / 18446744073709551616 / 256 = 0 → bits .or .u64 (N / 18446744073709551616 * 72057594037927936) (N % 18446744073709551616 / 256) ≤ 9223372036854775807 → wrap64 (bits .or .u64 (N / 18446744073709551616 * 72057594037927936) (N % 18446744073709551616 / 256)) = mulq N ∧ (0 : Int) = mule N) ∧
    (¬ N / 18446744073709551616 / 256 = 0 → (9223372036854775807 : Int) = mulq N ∧ (3 : Int) = mule N) := by
  refine ⟨fun h1 h2 => ?_, fun h1 h2 => ?_, fun h1 => ?_⟩
  · rw [or_join_v h1] at h2
    obtain ⟨e1, e2⟩ := mulq_pos (X := N) (by omega) (by omega)
    exact ⟨e1.symm, e2.symm⟩
  · rw [or_join_v h1] at h2
    obtain ⟨e1, e2⟩ := mulq_in (X := N) (by omega)
    rw [or_join_v h1, e1, e2]
    unfold wrap64
    exact ⟨by omega, rfl⟩
  · obtain ⟨e1, e2⟩ := mulq_pos (X := N) (by omega) (by omega)
    exact ⟨e1.symm, e2.symm⟩

theorem or_u {A l : Int} (h0 : 0 ≤ A) (h1 : A < 18446744073709551616) (h2 : A % 72057594037927936 = 0) (l0 : 0 ≤ l) (l1 : l < 72057594037927936) : bits .or .u64 A l = A + l := by
  rw [u64_or _ _ h0 h1 l0 (by omega), nat_join 56 _ _ (by omega) (by omega)]
  omega

theorem rneg_in {N X q : Int} (hN : N = -X) (h0 : 0 < N) (hq : q = (N + 255) / 256) (hle : q ≤ 9223372036854775808) :
    wrap64 (wrap64 (-wrap64 (IntKind.u64.wrap (q - 1))) - 1) = mulq X ∧ (0 : Int) = mule X := by
  obtain ⟨e1, e2⟩ := mulq_in (X := X) (by omega)
  rw [e1, e2, IntKind.wrap_u64]
  unfold wrap64
  exact ⟨by omega, rfl⟩
theorem rneg_out {N X : Int} (hN : N = -X) (h : 9223372036854775808 < (N + 255) / 256) : (-9223372036854775808 : Int) = mulq X ∧ (3 : Int) = mule X := by
  obtain ⟨e1, e2⟩ := mulq_neg (X := X) (by omega) (by omega)
  exact ⟨e1.symm, e2.symm⟩
theorem rneg_zero {X : Int} (h : X = 0) : (0 : Int) = mulq X ∧ (0 : Int) = mule X := by subst h; exact ⟨rfl, rfl⟩

/-- The ceiling of N / 256, in the three ways in which the reference builds it. -/
theorem ceil_carry {N L : Int} (hL : L = N % 18446744073709551616) (hc : IntKind.u64.wrap (L + 255) < L) (hh : (N / 18446744073709551616 + 1) / 256 = 0) (h0 : 0 ≤ N) :
    bits .or .u64 ((N / 18446744073709551616 + 1) * 72057594037927936) (IntKind.u64.wrap (L + 255) / 256) = (N + 255) / 256 := by
  rw [IntKind.wrap_u64] at *
  rw [or_u (by omega) (by omega) (by omega) (by omega) (by omega)]
  omega
theorem ceil_plain {N L : Int} (hL : L = N % 18446744073709551616) (hc : L ≤ IntKind.u64.wrap (L + 255)) (hh : N / 18446744073709551616 / 256 = 0) (h0 : 0 ≤ N) :
    bits .or .u64 (N / 18446744073709551616 * 72057594037927936) (IntKind.u64.wrap (L + 255) / 256) = (N + 255) / 256 := by
  rw [IntKind.wrap_u64] at *
  rw [or_u (by omega) (by omega) (by omega) (by omega) (by omega)]
  omega
theorem ceil_carry0 {N L : Int} (hL : L = N % 18446744073709551616) (hc : IntKind.u64.wrap (L + 255) < L) (hh : N / 18446744073709551616 = 0) :
    bits .or .u64 72057594037927936 (IntKind.u64.wrap (L + 255) / 256) = (N + 255) / 256 := by
  rw [IntKind.wrap_u64] at *
  rw [or_u (by omega) (by omega) (by omega) (by omega) (by omega)]
  omega
theorem ceil_plain0 {N L : Int} (hL : L = N % 18446744073709551616) (hc : L ≤ IntKind.u64.wrap (L + 255)) (hh : N / 18446744073709551616 = 0) :
    bits .or .u64 0 (IntKind.u64.wrap (L + 255) / 256) = (N + 255) / 256 := by
  rw [IntKind.wrap_u64] at *
  rw [or_u (by omega) (by omega) (by omega) (by omega) (by omega)]
  omega

theorem rz_out {M : Int} (hM : M / 18446744073709551616 = 0) (hl : (M % 18446744073709551616 == 0) = true) (h : 9223372036854775807 < bits .or .u64 0 (M % 18446744073709551616 / 256)) : False := by
  have hl' : M % 18446744073709551616 = 0 := by simpa using hl
  rw [or_u (by omega) (by omega) (by omega) (by omega) (by omega)] at h
  omega
theorem rz_in {M X : Int} (hN : M = -X) (hM : M / 18446744073709551616 = 0) (hl : (M % 18446744073709551616 == 0) = true) : wrap64 (bits .or .u64 0 (M % 18446744073709551616 / 256)) = mulq X ∧ (0 : Int) = mule X := by
  have hl' : M % 18446744073709551616 = 0 := by simpa using hl
  obtain rfl : X = 0 := by omega
  rw [or_u (by omega) (by omega) (by omega) (by omega) (by omega)]
  obtain ⟨e1, e2⟩ := mulq_in (X := 0) (by omega)
  rw [e1, e2]
  unfold wrap64
  exact ⟨by omega, rfl⟩
theorem ne_of_beq {a : Int} (h : (a == 0) = false) : ¬ a = 0 := by simpa using h
theorem big_carry {N L : Int} (hL : L = N % 18446744073709551616) (hc : IntKind.u64.wrap (L + 255) < L) (hh : ¬ (N / 18446744073709551616 + 1) / 256 = 0) (h0 : 0 ≤ N) : 9223372036854775808 < (N + 255) / 256 := by
  rw [IntKind.wrap_u64] at *
  omega
theorem big_plain {N : Int} (hh : ¬ N / 18446744073709551616 / 256 = 0) (h0 : 0 ≤ N) : 9223372036854775808 < (N + 255) / 256 := by omega

end Go.Proofs.YtepkfnohlchpeaaDoor
