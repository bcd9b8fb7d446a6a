/-
  NumDivides answers true for all ints.
-/
import Derived.Test.YtepkfnohlchpeaaDoorNumAwake
namespace Go.Proofs.YtepkfnohlchpeaaDoor
open Go.RowKit Go.Lib

theorem drewN_below {w : World} (n : Nat) : Below w.heap.size w (w.drewN n) := by
  induction n with
  | zero => exact Below.refl _ _
  | succ n ih => exact ih.drew
theorem div_n (a b q : Int) (w : World) (ha0 : -9223372036854775808 ≤ a) (ha1 : a ≤ 9223372036854775807) (hb : ¬ b = 0) (hm : Hid (¬ (a = -9223372036854775808 ∧ b = -1))) (hq : Hid (q = a.fdiv b)) :
    Calls Tryd.prog 10 #[.int .i64 a, .int .i64 b] w fun e w' => e = .returned (.tuple #[.int .i64 q, .int .i64 0]) ∧ w = w' := by
  rw [hq.out]; exact div_ok a b w ha0 ha1 hb hm.out
theorem rdiv_n (a b q : Int) (w : World) (ha0 : -9223372036854775808 ≤ a) (ha1 : a ≤ 9223372036854775807) (hb : ¬ b = 0) (hm : Hid (¬ (a = -9223372036854775808 ∧ b = -1))) (hq : Hid (q = a.fdiv b)) :
    Calls Tryd.prog 11 #[.int .i64 a, .int .i64 b] w fun e w' => e = .returned (.tuple #[.int .i64 q, .int .i64 0]) ∧ Below w.heap.size w w' := by
  rw [hq.out]; exact (rdiv_ok a b w ha0 ha1 hb hm.out).mono fun e w' ⟨he, n, hw⟩ => ⟨he, by rw [hw]; exact drewN_below n⟩
theorem rdivz_n (a : Int) (w : World) : Calls Tryd.prog 11 #[.int .i64 a, .int .i64 0] w fun e w' => e = .returned (.tuple #[.int .i64 0, .int .i64 1]) ∧ Below w.heap.size w w' :=
  (rdiv_zero a w).mono fun e w' ⟨he, n, hw⟩ => ⟨he, by rw [hw]; exact drewN_below n⟩
theorem rdivo_n (w : World) : Calls Tryd.prog 11 #[.int .i64 (-9223372036854775808), .int .i64 (-1)] w fun e w' => e = .returned (.tuple #[.int .i64 0, .int .i64 3]) ∧ Below w.heap.size w w' :=
  (rdiv_over w).mono fun e w' ⟨he, n, hw⟩ => ⟨he, by rw [hw]; exact drewN_below n⟩

set_option maxHeartbeats 1000000 in
theorem divides_zero (a : Int) (w : World) (hE : Hid (Env w)) :
    Calls Tryd.prog 3 #[.int .i64 a, .int .i64 0] w fun e w' => e = .returned (.bool true) ∧ Below w.heap.size w w' := by
  go_enter Tryd.func3, Tryd.ntmps3
  go_wp2_with fail
  ((with_reducible refine (div_zero a _).mono ?_); rintro e w' ⟨rfl, rfl⟩)
  go_wp2_with fail
  ((with_reducible refine (rdivz_n a _).mono ?_); rintro e w1 ⟨rfl, hb1⟩)
  have HB := Lib.hid hb1
  have HE := Lib.hid (hE.out.below hb1 hE.out.big)
  clear hb1
  go_wp2_with fail
  ((with_reducible refine (awake_any _ HE).mono ?_); rintro e w2 ⟨rfl, hb2⟩)
  have HB2 := Lib.hid (HB.out.trans (hb2.mono HB.out.size))
  clear hb2
  go_wp2_with fail
  go_ret
  exact ⟨rfl, HB2.out⟩

set_option maxHeartbeats 1000000 in
theorem divides_over (w : World) (hE : Hid (Env w)) :
    Calls Tryd.prog 3 #[.int .i64 (-9223372036854775808), .int .i64 (-1)] w fun e w' => e = .returned (.bool true) ∧ Below w.heap.size w w' := by
  go_enter Tryd.func3, Tryd.ntmps3
  go_wp2_with fail
  ((with_reducible refine (div_over _).mono ?_); rintro e w' ⟨rfl, rfl⟩)
  go_wp2_with fail
  ((with_reducible refine (rdivo_n _).mono ?_); rintro e w1 ⟨rfl, hb1⟩)
  have HB := Lib.hid hb1
  have HE := Lib.hid (hE.out.below hb1 hE.out.big)
  clear hb1
  go_wp2_with fail
  ((with_reducible refine (awake_any _ HE).mono ?_); rintro e w2 ⟨rfl, hb2⟩)
  have HB2 := Lib.hid (HB.out.trans (hb2.mono HB.out.size))
  clear hb2
  go_wp2_with fail
  go_ret
  exact ⟨rfl, HB2.out⟩

set_option maxHeartbeats 1000000 in
theorem divides_pos (a b q r : Int) (w : World) (hE : Hid (Env w)) (ha0 : -9223372036854775808 ≤ a) (ha1 : a ≤ 9223372036854775807) (hb : ¬ b = 0) (hm : Hid (¬ (a = -9223372036854775808 ∧ b = -1))) (hq : Hid (q = a.fdiv b))
    (hr : wrap64 (a - wrap64 (q * b)) = r) (hs : 0 < b) (hr0 : 0 ≤ r) (hr1 : r < b) :
    Calls Tryd.prog 3 #[.int .i64 a, .int .i64 b] w fun e w' => e = .returned (.bool true) ∧ Below w.heap.size w w' := by
  go_enter Tryd.func3, Tryd.ntmps3
  go_wp2_with fail
  ((with_reducible refine (div_n a b q _ ha0 ha1 hb hm hq).mono ?_); rintro e w' ⟨rfl, rfl⟩)
  go_wp2_with fail
  ((with_reducible refine (rdiv_n a b q _ ha0 ha1 hb hm hq).mono ?_); rintro e w1 ⟨rfl, hb1⟩)
  have HB := Lib.hid hb1
  have HE := Lib.hid (hE.out.below hb1 hE.out.big)
  clear hb1
  go_wp2_with fail
  ((with_reducible refine (awake_any _ HE).mono ?_); rintro e w2 ⟨rfl, hb2⟩)
  have HB2 := Lib.hid (HB.out.trans (hb2.mono HB.out.size))
  clear hb2
  go_wp2_with fail
  go_ret
  exact ⟨rfl, HB2.out⟩

set_option maxHeartbeats 1000000 in
theorem divides_neg (a b q r : Int) (w : World) (hE : Hid (Env w)) (ha0 : -9223372036854775808 ≤ a) (ha1 : a ≤ 9223372036854775807) (hb : ¬ b = 0) (hm : Hid (¬ (a = -9223372036854775808 ∧ b = -1))) (hq : Hid (q = a.fdiv b))
    (hr : wrap64 (a - wrap64 (q * b)) = r) (hs : b < 0) (hr0 : r ≤ 0) (hr1 : b < r) :
    Calls Tryd.prog 3 #[.int .i64 a, .int .i64 b] w fun e w' => e = .returned (.bool true) ∧ Below w.heap.size w w' := by
  go_enter Tryd.func3, Tryd.ntmps3
  go_wp2_with fail
  ((with_reducible refine (div_n a b q _ ha0 ha1 hb hm hq).mono ?_); rintro e w' ⟨rfl, rfl⟩)
  go_wp2_with fail
  ((with_reducible refine (rdiv_n a b q _ ha0 ha1 hb hm hq).mono ?_); rintro e w1 ⟨rfl, hb1⟩)
  have HB := Lib.hid hb1
  have HE := Lib.hid (hE.out.below hb1 hE.out.big)
  clear hb1
  go_wp2_with fail
  ((with_reducible refine (awake_any _ HE).mono ?_); rintro e w2 ⟨rfl, hb2⟩)
  have HB2 := Lib.hid (HB.out.trans (hb2.mono HB.out.size))
  clear hb2
  go_wp2_with fail
  go_ret
  exact ⟨rfl, HB2.out⟩

theorem rest_wrap {a x y : Int} (h : a - x = y) (h0 : -9223372036854775808 ≤ y) (h1 : y ≤ 9223372036854775807) : wrap64 (a - wrap64 x) = y := by
  unfold wrap64; omega

theorem divides_any (a b : Int) (w : World) (hE : Env w) (ha0 : -9223372036854775808 ≤ a) (ha1 : a ≤ 9223372036854775807) (hb0 : -9223372036854775808 ≤ b) (hb1 : b ≤ 9223372036854775807) :
    Calls Tryd.prog 3 #[.int .i64 a, .int .i64 b] w fun e w' => e = .returned (.bool true) ∧ Below w.heap.size w w' := by
  by_cases h0 : b = 0
  · subst h0; exact divides_zero a w (Lib.hid hE)
  by_cases hm : a = -9223372036854775808 ∧ b = -1
  · obtain ⟨rfl, rfl⟩ := hm; exact divides_over w (Lib.hid hE)
  by_cases hp : 0 < b
  · obtain ⟨h1, h2⟩ := rest_pos (a := a) hp
    exact divides_pos a b _ _ w (Lib.hid hE) ha0 ha1 h0 (Lib.hid hm) (Lib.hid rfl) (rest_wrap rfl (by omega) (by omega)) hp h1 h2
  · obtain ⟨h1, h2⟩ := rest_neg (a := a) (b := b) (by omega)
    exact divides_neg a b _ _ w (Lib.hid hE) ha0 ha1 h0 (Lib.hid hm) (Lib.hid rfl) (rest_wrap rfl (by omega) (by omega)) (by omega) h1 h2

end Go.Proofs.YtepkfnohlchpeaaDoor
