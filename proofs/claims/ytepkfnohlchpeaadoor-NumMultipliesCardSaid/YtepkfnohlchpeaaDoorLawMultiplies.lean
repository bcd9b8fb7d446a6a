/-
  NumMultiplies answers true for all ints.
-/
import Derived.Test.YtepkfnohlchpeaaDoorLawDivides
namespace Go.Proofs.YtepkfnohlchpeaaDoor
open Go.RowKit Go.Lib

theorem mul_n (a b P E : Int) (w : World) (ha0 : -9223372036854775808 ≤ a) (ha1 : a ≤ 9223372036854775807) (hb0 : -9223372036854775808 ≤ b) (hb1 : b ≤ 9223372036854775807) (h : Hid (P = mulq (a * b) ∧ E = mule (a * b))) :
    Calls Tryd.prog 13 #[.int .i64 a, .int .i64 b] w fun e w' => e = .returned (.tuple #[.int .i64 P, .int .i64 E]) ∧ w = w' := by
  rw [h.out.1, h.out.2]; exact mul_any a b w ha0 ha1 hb0 hb1
theorem mul_n2 (a b P E : Int) (w : World) (ha0 : -9223372036854775808 ≤ a) (ha1 : a ≤ 9223372036854775807) (hb0 : -9223372036854775808 ≤ b) (hb1 : b ≤ 9223372036854775807) (h : Hid (P = mulq (a * b) ∧ E = mule (a * b))) :
    Calls Tryd.prog 13 #[.int .i64 b, .int .i64 a] w fun e w' => e = .returned (.tuple #[.int .i64 P, .int .i64 E]) ∧ w = w' := by
  rw [h.out.1, h.out.2, Int.mul_comm]; exact mul_any b a w hb0 hb1 ha0 ha1
theorem rmul_n (a b P E : Int) (w : World) (ha0 : -9223372036854775808 ≤ a) (ha1 : a ≤ 9223372036854775807) (hb0 : -9223372036854775808 ≤ b) (hb1 : b ≤ 9223372036854775807) (h : Hid (P = mulq (a * b) ∧ E = mule (a * b))) :
    Calls Tryd.prog 14 #[.int .i64 a, .int .i64 b] w fun e w' => e = .returned (.tuple #[.int .i64 P, .int .i64 E]) ∧ w = w' := by
  rw [h.out.1, h.out.2]; exact rmul_any a b w ha0 ha1 hb0 hb1
theorem mul_scale (a : Int) (w : World) (ha0 : -9223372036854775808 ≤ a) (ha1 : a ≤ 9223372036854775807) :
    Calls Tryd.prog 13 #[.int .i64 a, .int .i64 256] w fun e w' => e = .returned (.tuple #[.int .i64 a, .int .i64 0]) ∧ w = w' := by
  have h := mul_any a 256 w ha0 ha1 (by omega) (by omega)
  obtain ⟨e1, e2⟩ := mulq_in (X := a * 256) (by omega)
  rw [e1, e2] at h
  have e3 : a * 256 / 256 = a := by omega
  rw [e3] at h
  exact h

set_option maxHeartbeats 2000000 in
theorem multiplies_walk (a b x y P E X S : Int) (w : World) (hE : Hid (Env w)) (ha0 : -9223372036854775808 ≤ a) (ha1 : a ≤ 9223372036854775807) (hb0 : -9223372036854775808 ≤ b) (hb1 : b ≤ 9223372036854775807) (h : Hid (P = mulq (a * b) ∧ E = mule (a * b)))
    (hx : a / 8589934592 = x) (hy : b / 8589934592 = y) (hx0 : -1073741824 ≤ x) (hx1 : x ≤ 1073741823) (hy0 : -1073741824 ≤ y) (hy1 : y ≤ 1073741823) (hX : wrap64 (x * y) = X)
    (hS : Hid (S = mulq (x * y) ∧ 0 = mule (x * y))) (hS0 : -4611686018427387904 ≤ S * 256) (hS1 : S * 256 ≤ 4611686018427387904) (hSX : S * 256 ≤ X) (hXS : X < S * 256 + 256) :
    Calls Tryd.prog 4 #[.int .i64 a, .int .i64 b] w fun e w' => e = .returned (.bool true) ∧ Below w.heap.size w w' := by
  go_enter Tryd.func4, Tryd.ntmps4
  go_wp2_with fail
  ((with_reducible refine (mul_n a b P E _ ha0 ha1 hb0 hb1 h).mono ?_); rintro e w' ⟨rfl, rfl⟩)
  go_wp2_with fail
  ((with_reducible refine (rmul_n a b P E _ ha0 ha1 hb0 hb1 h).mono ?_); rintro e w' ⟨rfl, rfl⟩)
  go_wp2_with fail
  ((with_reducible refine (mul_n2 a b P E _ ha0 ha1 hb0 hb1 h).mono ?_); rintro e w' ⟨rfl, rfl⟩)
  go_wp2_with fail
  ((with_reducible refine (mul_scale a _ ha0 ha1).mono ?_); rintro e w' ⟨rfl, rfl⟩)
  go_wp2_with fail
  ((with_reducible refine (mul_n x y S 0 _ (by omega) (by omega) (by omega) (by omega) hS).mono ?_); rintro e w' ⟨rfl, rfl⟩)
  go_wp2_with fail
  ((with_reducible refine (awake_any _ hE).mono ?_); rintro e w2 ⟨rfl, hb2⟩)
  have HB2 := Lib.hid hb2
  clear hb2
  go_wp2_with fail
  go_ret
  exact ⟨rfl, HB2.out⟩

theorem multiplies_any (a b : Int) (w : World) (hE : Env w) (ha0 : -9223372036854775808 ≤ a) (ha1 : a ≤ 9223372036854775807) (hb0 : -9223372036854775808 ≤ b) (hb1 : b ≤ 9223372036854775807) :
    Calls Tryd.prog 4 #[.int .i64 a, .int .i64 b] w fun e w' => e = .returned (.bool true) ∧ Below w.heap.size w w' := by
  have h1 : (a / 8589934592 * (b / 8589934592)).natAbs = (a / 8589934592).natAbs * (b / 8589934592).natAbs := Int.natAbs_mul _ _
  have h2 : (a / 8589934592).natAbs * (b / 8589934592).natAbs ≤ 1073741824 * 1073741824 := Nat.mul_le_mul (by omega) (by omega)
  obtain ⟨e1, e2⟩ := mulq_in (X := a / 8589934592 * (b / 8589934592)) (by omega)
  refine multiplies_walk a b _ _ _ _ _ (a / 8589934592 * (b / 8589934592) / 256) w (Lib.hid hE) ha0 ha1 hb0 hb1 (Lib.hid ⟨rfl, rfl⟩) rfl rfl (by omega) (by omega) (by omega) (by omega) (IntWalk.wrap64_in _ ⟨by omega, by omega⟩) (Lib.hid ⟨e1.symm, e2.symm⟩) (by omega) (by omega) (by omega) (by omega)

end Go.Proofs.YtepkfnohlchpeaaDoor
