/-
  What num.Mul and its reference answer for all ints: the floor of the product's 256th part, or the nearest int and an error.
-/
import Derived.Test.YtepkfnohlchpeaaDoorProg
import Derived.Test.YtepkfnohlchpeaaDoorKit
import Derived.Test.YtepkfnohlchpeaaDoorMulMath
import Derived.Shelf.Bits.Mul64
namespace Go.Proofs.YtepkfnohlchpeaaDoor
open Go.RowKit Go.Lib

set_option maxHeartbeats 1000000 in
theorem mul64_any (x y : Nat) (hx : x < 18446744073709551616) (hy : y < 18446744073709551616) (w : World) :
    Calls Tryd.prog 39 #[.int .u64 x, .int .u64 y] w fun e w' => e = .returned (.tuple #[.int .u64 ((x * y / 18446744073709551616 : Nat) : Int), .int .u64 ((x * y % 18446744073709551616 : Nat) : Int)]) ∧ w = w' := by
  obtain ⟨bd, bt, bw, hhi⟩ := Lib.mul64_hi x y hx hy
  have ba := Lib.half_mul_le (a := x / 4294967296) (b := y / 4294967296) (by omega) (by omega)
  have bb := Lib.half_mul_le (a := x / 4294967296) (b := y % 4294967296) (by omega) (by omega)
  have bc := Lib.half_mul_le (a := x % 4294967296) (b := y / 4294967296) (by omega) (by omega)
  have ba' : x / 4294967296 * (y / 4294967296) < 18446744073709551616 := by omega
  have bb' : x / 4294967296 * (y % 4294967296) < 18446744073709551616 := by omega
  have bc' : x % 4294967296 * (y / 4294967296) < 18446744073709551616 := by omega
  have bh1 : x / 4294967296 * (y / 4294967296) + (x / 4294967296 * (y % 4294967296) + x % 4294967296 * (y % 4294967296) / 4294967296) / 4294967296 < 18446744073709551616 := by omega
  have bh : x / 4294967296 * (y / 4294967296) + (x / 4294967296 * (y % 4294967296) + x % 4294967296 * (y % 4294967296) / 4294967296) / 4294967296 + ((x / 4294967296 * (y % 4294967296) + x % 4294967296 * (y % 4294967296) / 4294967296) % 4294967296 + x % 4294967296 * (y / 4294967296)) / 4294967296 < 18446744073709551616 := by omega
  go_enter Tryd.func39, Tryd.ntmps39
  go_wp2
  simp only [Mul64.maskN x hx, Mul64.maskN y hy, Mul64.divN, Mul64.mulN, Mul64.addN, Mul64.wrapN _ bd, Mul64.wrapN _ bb', Mul64.wrapN _ bt, Mul64.maskN _ bt, Mul64.wrapN _ bc', Mul64.wrapN _ bw, Mul64.wrapN _ ba', Mul64.wrapN _ bh1, Mul64.wrapN _ bh, Mul64.wrapM (x * y)]
  rw [hhi]
  go_ret2
  exact ⟨rfl, rfl⟩

set_option maxHeartbeats 1000000 in
theorem rproduct_any (x y : Nat) (hx : x < 18446744073709551616) (hy : y < 18446744073709551616) (w : World) :
    Calls Tryd.prog 27 #[.int .u64 x, .int .u64 y] w fun e w' => e = .returned (.tuple #[.int .u64 ((x * y / 18446744073709551616 : Nat) : Int), .int .u64 ((x * y % 18446744073709551616 : Nat) : Int)]) ∧ w = w' := by
  obtain ⟨bd, bt, bw, hhi⟩ := Lib.mul64_hi x y hx hy
  have ba := Lib.half_mul_le (a := x / 4294967296) (b := y / 4294967296) (by omega) (by omega)
  have bb := Lib.half_mul_le (a := x / 4294967296) (b := y % 4294967296) (by omega) (by omega)
  have bc := Lib.half_mul_le (a := x % 4294967296) (b := y / 4294967296) (by omega) (by omega)
  have ba' : x / 4294967296 * (y / 4294967296) < 18446744073709551616 := by omega
  have bb' : x / 4294967296 * (y % 4294967296) < 18446744073709551616 := by omega
  have bc' : x % 4294967296 * (y / 4294967296) < 18446744073709551616 := by omega
  have bh1 : x / 4294967296 * (y / 4294967296) + (x / 4294967296 * (y % 4294967296) + x % 4294967296 * (y % 4294967296) / 4294967296) / 4294967296 < 18446744073709551616 := by omega
  have bh : x / 4294967296 * (y / 4294967296) + (x / 4294967296 * (y % 4294967296) + x % 4294967296 * (y % 4294967296) / 4294967296) / 4294967296 + ((x / 4294967296 * (y % 4294967296) + x % 4294967296 * (y % 4294967296) / 4294967296) % 4294967296 + x % 4294967296 * (y / 4294967296)) / 4294967296 < 18446744073709551616 := by omega
  go_enter Tryd.func27, Tryd.ntmps27
  go_wp2
  simp only [Mul64.maskN x hx, Mul64.maskN y hy, Mul64.divN, Mul64.mulN, Mul64.addN, Mul64.wrapN _ bd, Mul64.wrapN _ bb', Mul64.wrapN _ bt, Mul64.maskN _ bt, Mul64.wrapN _ bc', Mul64.wrapN _ bw, Mul64.wrapN _ ba', Mul64.wrapN _ bh1, Mul64.wrapN _ bh, Mul64.wrapM (x * y)]
  rw [hhi]
  go_ret2
  exact ⟨rfl, rfl⟩

theorem natAbs_neg_way {n : Int} (h : n < 0) (x : Nat) (hx : x = n.natAbs) : -(n + 1) + 1 = (x : Int) := by omega
theorem natAbs_pos_way {n : Int} (h : 0 ≤ n) (x : Nat) (hx : x = n.natAbs) : n = (x : Int) := by omega

set_option maxHeartbeats 400000 in
theorem rsize_any (n : Int) (w : World) (x : Nat) (hx : Hid (x = n.natAbs)) (ha0 : -9223372036854775808 ≤ n) (ha1 : n ≤ 9223372036854775807) :
    Calls Tryd.prog 28 #[.int .i64 n] w fun e w' => e = .returned (.int .u64 (x : Int)) ∧ w = w' := by
  go_enter Tryd.func28, Tryd.ntmps28
  go_wp2
  · go_ret; exact ⟨ret_int (natAbs_neg_way ‹_› x hx.out), rfl⟩
  · go_ret; exact ⟨ret_int (natAbs_pos_way ‹_› x hx.out), rfl⟩


set_option maxHeartbeats 400000 in
theorem product_nat (a b : Int) (w : World) (ha0 : -9223372036854775808 ≤ a) (ha1 : a ≤ 9223372036854775807) (hb0 : -9223372036854775808 ≤ b) (hb1 : b ≤ 9223372036854775807) (x y : Nat) (hx : IntKind.u64.wrap a = x) (hy : IntKind.u64.wrap b = y)
   (hx2 : x < 18446744073709551616) (hy2 : y < 18446744073709551616) :
    Calls Tryd.prog 26 #[.int .i64 a, .int .i64 b] w fun e w' => e = .returned (.tuple #[.int .i64 (a * b / 18446744073709551616), .int .u64 (a * b % 18446744073709551616)]) ∧ w = w' := by
  have H := Lib.hid (high_all a b ha0 ha1 hb0 hb1 x y hx hy)
  by_cases h1 : a < 0 <;> by_cases h2 : b < 0
  · go_enter Tryd.func26, Tryd.ntmps26
    go_wp2_with (go_at_call 39; refine (mul64_any x y hx2 hy2 _).mono ?_; rintro e w' ⟨rfl, rfl⟩)
    go_ret2
    exact ⟨ret_pair (H.out.2.1 h1 h2) H.out.1, rfl⟩
  · have h3 : 0 ≤ b := by omega
    go_enter Tryd.func26, Tryd.ntmps26
    go_wp2_with (go_at_call 39; refine (mul64_any x y hx2 hy2 _).mono ?_; rintro e w' ⟨rfl, rfl⟩)
    go_ret2
    exact ⟨ret_pair (H.out.2.2.1 h1 (by omega)) H.out.1, rfl⟩
  · have h3 : 0 ≤ a := by omega
    go_enter Tryd.func26, Tryd.ntmps26
    go_wp2_with (go_at_call 39; refine (mul64_any x y hx2 hy2 _).mono ?_; rintro e w' ⟨rfl, rfl⟩)
    go_ret2
    exact ⟨ret_pair (H.out.2.2.2.1 (by omega) h2) H.out.1, rfl⟩
  · have h3 : 0 ≤ a := by omega
    have h4 : 0 ≤ b := by omega
    go_enter Tryd.func26, Tryd.ntmps26
    go_wp2_with (go_at_call 39; refine (mul64_any x y hx2 hy2 _).mono ?_; rintro e w' ⟨rfl, rfl⟩)
    go_ret2
    exact ⟨ret_pair (H.out.2.2.2.2 (by omega) (by omega)) H.out.1, rfl⟩

theorem product_any (a b : Int) (w : World) (ha0 : -9223372036854775808 ≤ a) (ha1 : a ≤ 9223372036854775807) (hb0 : -9223372036854775808 ≤ b) (hb1 : b ≤ 9223372036854775807) :
    Calls Tryd.prog 26 #[.int .i64 a, .int .i64 b] w fun e w' => e = .returned (.tuple #[.int .i64 (a * b / 18446744073709551616), .int .u64 (a * b % 18446744073709551616)]) ∧ w = w' := by
  refine product_nat a b w ha0 ha1 hb0 hb1 (a % 18446744073709551616).toNat (b % 18446744073709551616).toNat ?_ ?_ ?_ ?_
  · rw [IntKind.wrap_u64]; omega
  · rw [IntKind.wrap_u64]; omega
  · omega
  · omega

set_option maxHeartbeats 400000 in
theorem mul_walk (a b X : Int) (w : World) (hp : Calls Tryd.prog 26 #[.int .i64 a, .int .i64 b] w fun e w' => e = .returned (.tuple #[.int .i64 (X / 18446744073709551616), .int .u64 (X % 18446744073709551616)]) ∧ w = w') :
    Calls Tryd.prog 13 #[.int .i64 a, .int .i64 b] w fun e w' => e = .returned (.tuple #[.int .i64 (mulq X), .int .i64 (mule X)]) ∧ w = w' := by
  have H := Lib.hid (mul_ways X)
  go_enter Tryd.func13, Tryd.ntmps13
  go_wp2_with (go_at_call 26; refine hp.mono ?_; rintro e w' ⟨rfl, rfl⟩)
  · go_ret2; exact ⟨ret_pair (H.out.1 ‹_›).1 (H.out.1 ‹_›).2, rfl⟩
  · go_ret2; exact ⟨ret_pair ((H.out.2 ‹_›).1 ‹_›).1 ((H.out.2 ‹_›).1 ‹_›).2, rfl⟩
  · go_ret2; exact ⟨ret_pair ((H.out.2 ‹_›).2 ‹_›).1 ((H.out.2 ‹_›).2 ‹_›).2, rfl⟩

/-- num.Mul: the floor of the product's 256th part, or the nearest int and the error. -/
theorem mul_any (a b : Int) (w : World) (ha0 : -9223372036854775808 ≤ a) (ha1 : a ≤ 9223372036854775807) (hb0 : -9223372036854775808 ≤ b) (hb1 : b ≤ 9223372036854775807) :
    Calls Tryd.prog 13 #[.int .i64 a, .int .i64 b] w fun e w' => e = .returned (.tuple #[.int .i64 (mulq (a * b)), .int .i64 (mule (a * b))]) ∧ w = w' :=
  mul_walk a b (a * b) w (product_any a b w ha0 ha1 hb0 hb1)

set_option maxHeartbeats 400000 in
theorem rmul_same (a b X : Int) (w : World) (ha0 : -9223372036854775808 ≤ a) (ha1 : a ≤ 9223372036854775807) (hb0 : -9223372036854775808 ≤ b) (hb1 : b ≤ 9223372036854775807) (x y : Nat) (hx : Hid (x = a.natAbs)) (hy : Hid (y = b.natAbs))
    (N : Nat) (hN : Hid ((N : Int) = X)) (hp : Calls Tryd.prog 27 #[.int .u64 (x : Int), .int .u64 (y : Int)] w fun e w' => e = .returned (.tuple #[.int .u64 ((N / 18446744073709551616 : Nat) : Int), .int .u64 ((N % 18446744073709551616 : Nat) : Int)]) ∧ w = w')
    (hs : (decide (a < 0) == decide (b < 0)) = true) :
    Calls Tryd.prog 14 #[.int .i64 a, .int .i64 b] w fun e w' => e = .returned (.tuple #[.int .i64 (mulq X), .int .i64 (mule X)]) ∧ w = w' := by
  obtain rfl := hN.out
  clear hN
  have H := Lib.hid (rmul_pos_ways (N : Int) (by omega))
  go_enter Tryd.func14, Tryd.ntmps14
  go_wp2_with fail
  ((with_reducible refine (rsize_any a _ x hx ha0 ha1).mono ?_); rintro e w' ⟨rfl, rfl⟩)
  go_wp2_with fail
  ((with_reducible refine (rsize_any b _ y hy hb0 hb1).mono ?_); rintro e w' ⟨rfl, rfl⟩)
  go_wp2_with fail
  ((with_reducible refine hp.mono ?_); rintro e w' ⟨rfl, rfl⟩)
  go_wp2_with fail
  · go_ret2; exact ⟨ret_pair (H.out.1 ‹_› ‹_›).1 (H.out.1 ‹_› ‹_›).2, rfl⟩
  · go_ret2; exact ⟨ret_pair (H.out.2.1 ‹_› ‹_›).1 (H.out.2.1 ‹_› ‹_›).2, rfl⟩
  · go_ret2; exact ⟨ret_pair (H.out.2.2 ‹_›).1 (H.out.2.2 ‹_›).2, rfl⟩

set_option maxHeartbeats 400000 in
theorem rmul_other (a b X : Int) (w : World) (ha0 : -9223372036854775808 ≤ a) (ha1 : a ≤ 9223372036854775807) (hb0 : -9223372036854775808 ≤ b) (hb1 : b ≤ 9223372036854775807) (x y : Nat) (hx : Hid (x = a.natAbs)) (hy : Hid (y = b.natAbs))
    (N : Nat) (hN : Hid ((N : Int) = -X)) (hN2 : N ≤ 85070591730234615865843651857942052864) (hp : Calls Tryd.prog 27 #[.int .u64 (x : Int), .int .u64 (y : Int)] w fun e w' => e = .returned (.tuple #[.int .u64 ((N / 18446744073709551616 : Nat) : Int), .int .u64 ((N % 18446744073709551616 : Nat) : Int)]) ∧ w = w')
    (hs : (decide (a < 0) == decide (b < 0)) = false) :
    Calls Tryd.prog 14 #[.int .i64 a, .int .i64 b] w fun e w' => e = .returned (.tuple #[.int .i64 (mulq X), .int .i64 (mule X)]) ∧ w = w' := by
  go_enter Tryd.func14, Tryd.ntmps14
  go_wp2_with fail
  ((with_reducible refine (rsize_any a _ x hx ha0 ha1).mono ?_); rintro e w' ⟨rfl, rfl⟩)
  go_wp2_with fail
  ((with_reducible refine (rsize_any b _ y hy hb0 hb1).mono ?_); rintro e w' ⟨rfl, rfl⟩)
  go_wp2_with fail
  ((with_reducible refine hp.mono ?_); rintro e w' ⟨rfl, rfl⟩)
  go_wp2_with fail
  all_goals (go_ret2; refine ⟨ret_both ?_, rfl⟩)
  all_goals have hN' := hN.out
  all_goals have hN0 : (0 : Int) ≤ (N : Int) := Int.natCast_nonneg N
  all_goals have hN3 : (N : Int) ≤ 85070591730234615865843651857942052864 := by omega
  all_goals clear hp hN hx hy hs hN2 ha0 ha1 hb0 hb1
  all_goals generalize (N : Int) = M at *
  · exact (rz_out ‹_› ‹_› ‹_›).elim
  · exact rz_in hN' ‹_› ‹_›
  · exact rneg_out hN' (by rw [← ceil_carry0 rfl ‹_› ‹_›]; assumption)
  · have hz := ne_of_beq ‹(M % 18446744073709551616 == 0) = false›
    exact rneg_in hN' (by omega) (ceil_carry0 rfl ‹_› ‹_›) ‹_›
  · exact rneg_out hN' (by rw [← ceil_plain0 rfl ‹_› ‹_›]; assumption)
  · have hz := ne_of_beq ‹(M % 18446744073709551616 == 0) = false›
    exact rneg_in hN' (by omega) (ceil_plain0 rfl ‹_› ‹_›) ‹_›
  · exact rneg_out hN' (by rw [← ceil_carry rfl ‹_› ‹_› hN0]; assumption)
  · exact rneg_in hN' (by omega) (ceil_carry rfl ‹_› ‹_› hN0) ‹_›
  · exact rneg_out hN' (big_carry rfl ‹_› ‹_› hN0)
  · exact rneg_out hN' (by rw [← ceil_plain rfl ‹_› ‹_› hN0]; assumption)
  · exact rneg_in hN' (by omega) (ceil_plain rfl ‹_› ‹_› hN0) ‹_›
  · exact rneg_out hN' (big_plain ‹_› hN0)

theorem same_prod (a b : Int) (hs : (decide (a < 0) == decide (b < 0)) = true) : ((a.natAbs * b.natAbs : Nat) : Int) = a * b := by
  have hs' : decide (a < 0) = decide (b < 0) := by simpa using hs
  rw [Int.natCast_mul]
  by_cases h : a < 0
  · rw [decide_eq_true h] at hs'
    have h2 : b < 0 := of_decide_eq_true hs'.symm
    rw [show (a.natAbs : Int) = -a by omega, show (b.natAbs : Int) = -b by omega, Int.neg_mul_neg]
  · rw [decide_eq_false h] at hs'
    have h2 : ¬ b < 0 := of_decide_eq_false hs'.symm
    rw [show (a.natAbs : Int) = a by omega, show (b.natAbs : Int) = b by omega]
theorem other_prod (a b : Int) (hs : (decide (a < 0) == decide (b < 0)) = false) : ((a.natAbs * b.natAbs : Nat) : Int) = -(a * b) := by
  have hs' : ¬ decide (a < 0) = decide (b < 0) := by simpa using hs
  rw [Int.natCast_mul]
  by_cases h : a < 0
  · have h2 : ¬ b < 0 := fun h2 => hs' (by rw [decide_eq_true h, decide_eq_true h2])
    rw [show (a.natAbs : Int) = -a by omega, show (b.natAbs : Int) = b by omega, Int.neg_mul]
  · have h2 : b < 0 := by
      by_cases h2 : b < 0
      · exact h2
      · exact absurd (by rw [decide_eq_false h, decide_eq_false h2]) hs'
    rw [show (a.natAbs : Int) = a by omega, show (b.natAbs : Int) = -b by omega, Int.mul_neg]

/-- The reference's Mul answers the same. -/
theorem rmul_any (a b : Int) (w : World) (ha0 : -9223372036854775808 ≤ a) (ha1 : a ≤ 9223372036854775807) (hb0 : -9223372036854775808 ≤ b) (hb1 : b ≤ 9223372036854775807) :
    Calls Tryd.prog 14 #[.int .i64 a, .int .i64 b] w fun e w' => e = .returned (.tuple #[.int .i64 (mulq (a * b)), .int .i64 (mule (a * b))]) ∧ w = w' := by
  have hb := mul_bound a b ha0 ha1 hb0 hb1
  by_cases hs : (decide (a < 0) == decide (b < 0)) = true
  · exact rmul_same a b (a * b) w ha0 ha1 hb0 hb1 _ _ (Lib.hid rfl) (Lib.hid rfl) (a.natAbs * b.natAbs) (Lib.hid (same_prod a b hs)) (rproduct_any _ _ (by omega) (by omega) w) hs
  · have hs' : (decide (a < 0) == decide (b < 0)) = false := by simpa using hs
    have e := other_prod a b hs'
    exact rmul_other a b (a * b) w ha0 ha1 hb0 hb1 _ _ (Lib.hid rfl) (Lib.hid rfl) (a.natAbs * b.natAbs) (Lib.hid e) (by omega) (rproduct_any _ _ (by omega) (by omega) w) hs'

end Go.Proofs.YtepkfnohlchpeaaDoor
