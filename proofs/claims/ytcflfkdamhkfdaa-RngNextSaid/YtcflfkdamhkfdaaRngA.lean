/-
  What the reference of rng answers: Next, Seed, Split, Accepted, Below.
-/
import Derived.Test.YtcflfkdamhkfdaaProg
import Derived.WalkKit
import Derived.IntWalk
import Derived.WalkSpells
import Derived.WalkLawsBesides
import Derived.Deep.QuietTactic
import Derived.BigQuiet
import Derived.Lib.Hide
import Derived.Lib.Walk
import Derived.Lib.Strings
import Derived.Test.YtcflfkdamhkfdaaRngMath
namespace Go.Proofs.Ytcflfkdamhkfdaa
open Go.RowKit Go.Lib

set_option maxHeartbeats 400000 in
theorem rnext_any (s : Int) (w : World) :
    Calls Try.prog 15 #[.int .u64 s] w fun e w' => e = .returned (.tuple #[.int .u64 (mixv (stepv s)), .int .u64 (stepv s)]) ∧ w = w' := by
  go_enter Try.func15, Try.ntmps15
  go_wp2
  go_ret2
  exact ⟨rfl, rfl⟩
theorem rnext_n (s v t : Int) (w : World) (h : Hid (v = mixv (stepv s) ∧ t = stepv s)) :
    Calls Try.prog 15 #[.int .u64 s] w fun e w' => e = .returned (.tuple #[.int .u64 v, .int .u64 t]) ∧ w = w' := by
  rw [h.out.1, h.out.2]; exact rnext_any s w

theorem rest_eq (n : Int) (h0 : 1 ≤ n) (h1 : n ≤ 9223372036854775807) : (IntKind.u64.wrap (18446744073709551615 % n + 1)).tmod n = 18446744073709551616 % n := by
  have a := Int.emod_nonneg 18446744073709551615 (show n ≠ 0 by omega)
  have b := Int.emod_lt_of_pos 18446744073709551615 (show 0 < n by omega)
  rw [IntWalk.u64_in _ (by omega), Int.tmod_eq_emod_of_nonneg (by omega), Int.emod_add_emod]
  rfl
set_option maxHeartbeats 400000 in
theorem rrest_any (n : Int) (w : World) (h0 : 1 ≤ n) (h1 : n ≤ 9223372036854775807) :
    Calls Try.prog 23 #[.int .u64 n] w fun e w' => e = .returned (.int .u64 (18446744073709551616 % n)) ∧ w = w' := by
  go_enter Try.func23, Try.ntmps23
  go_wp2
  go_ret
  exact ⟨by rw [rest_eq n h0 h1]; rfl, rfl⟩
set_option maxHeartbeats 400000 in
theorem raccepted_zero (v n : Int) (w : World) (h0 : 1 ≤ n) (h1 : n ≤ 9223372036854775807) (hz : Hid (18446744073709551616 % n = 0)) :
    Calls Try.prog 22 #[.int .u64 v, .int .i64 n] w fun e w' => e = .returned (.bool true) ∧ w = w' := by
  go_enter Try.func22, Try.ntmps22
  go_wp2_with fail
  ((with_reducible refine (rrest_any n _ h0 h1).mono ?_); rintro e w1 ⟨rfl, hw⟩)
  rw [← hw, hz.out]
  clear hw
  go_wp2_with fail
  go_ret
  exact ⟨rfl, rfl⟩
set_option maxHeartbeats 400000 in
theorem raccepted_some (v n r : Int) (b : Bool) (w : World) (h0 : 1 ≤ n) (h1 : n ≤ 9223372036854775807) (hr : Hid (18446744073709551616 % n = r)) (r0 : 0 < r) (r1 : r < n) (hb : decide (v < 18446744073709551616 - r) = b) :
    Calls Try.prog 22 #[.int .u64 v, .int .i64 n] w fun e w' => e = .returned (.bool b) ∧ w = w' := by
  have hz : (r == 0) = false := by simp; omega
  have hz' : decide (r = 0) = false := by simp; omega
  have e1 : IntKind.u64.wrap (-r) = 18446744073709551616 - r := by rw [IntKind.wrap_u64]; omega
  go_enter Try.func22, Try.ntmps22
  go_wp2_with fail
  ((with_reducible refine (rrest_any n _ h0 h1).mono ?_); rintro e w1 ⟨rfl, hw⟩)
  rw [← hw, hr.out]
  clear hw
  go_wp2_with fail
  go_ret
  exact ⟨by simp, rfl⟩
theorem raccepted_any (v n : Int) (w : World) (hv : U64 v) (h0 : 1 ≤ n) (h1 : n ≤ 9223372036854775807) :
    Calls Try.prog 22 #[.int .u64 v, .int .i64 n] w fun e w' => e = .returned (.bool (accv v n)) ∧ w = w' := by
  have a := Int.emod_nonneg 18446744073709551616 (show n ≠ 0 by omega)
  have b := Int.emod_lt_of_pos 18446744073709551616 (show 0 < n by omega)
  by_cases hz : 18446744073709551616 % n = 0
  · rw [show accv v n = true by unfold accv; rw [hz]; exact decide_eq_true (by have := hv.2; omega)]
    exact raccepted_zero v n w h0 h1 (hid hz)
  · exact raccepted_some v n _ _ w h0 h1 (hid rfl) (by omega) b rfl
theorem raccepted_n (v n : Int) (b : Bool) (w : World) (hv : U64 v) (h0 : 1 ≤ n) (h1 : n ≤ 9223372036854775807) (hb : Hid (accv v n = b)) :
    Calls Try.prog 22 #[.int .u64 v, .int .i64 n] w fun e w' => e = .returned (.bool b) ∧ w = w' := by
  rw [← hb.out]; exact raccepted_any v n w hv h0 h1

set_option maxHeartbeats 400000 in
theorem rbelow_low (s n : Int) (w : World) (h : n < 1) :
    Calls Try.prog 17 #[.int .u64 s, .int .i64 n] w fun e w' => e = .returned (.tuple #[.int .i64 0, .int .u64 0, .int .i64 1]) ∧ w = w' := by
  go_enter Try.func17, Try.ntmps17
  go_wp2
  go_ret3
  exact ⟨rfl, rfl⟩
set_option maxHeartbeats 1000000 in
theorem rbelow_n (s n a t : Int) (w : World) (h0 : 1 ≤ n) (h1 : n ≤ 9223372036854775807) (hr : Hid (belowv s n = (a, t))) :
    Calls Try.prog 17 #[.int .u64 s, .int .i64 n] w fun e w' => e = .returned (.tuple #[.int .i64 a, .int .u64 t, .int .i64 0]) ∧ w = w' := by
  obtain ⟨v1, t1, hs⟩ : ∃ v t, Hid (v = mixv (stepv s) ∧ t = stepv s) := ⟨_, _, hid ⟨rfl, rfl⟩⟩
  have hT : Hid (belowT t1 n = (a, t) ∧ v1 = mixv t1 ∧ U64 t1) := hid (by rw [hs.out.2, hs.out.1, ← below_T h0 h1]; exact ⟨hr.out, rfl, step_u s⟩)
  go_enter Try.func17, Try.ntmps17
  go_wp2_with fail
  ((with_reducible refine (rnext_n s v1 t1 _ hs).mono ?_); rintro e w1 ⟨rfl, hw⟩)
  rw [← hw]
  clear hw
  go_wp2_with fail
  go_loop [7, 8] (fun vv vs => ∃ v u : Int, vv = .int .u64 v ∧ vs = .int .u64 u ∧ Hid (belowT u n = (a, t) ∧ v = mixv u ∧ U64 u)) (fun _ vs => (dist (RowKit.intOf vs)).toNat)
  case atStart => exact ⟨_, _, rfl, rfl, hT⟩
  case round =>
    clear hT hs hr
    obtain ⟨v, u, rfl, rfl, hU⟩ := hrel
    have hv : U64 v := by rw [hU.out.2.1]; exact mix_u u
    cases hb : accv v n with
    | true =>
      have hf : Hid (v % n = a ∧ u = t) := hid (by
        have e := T_acc (t := u) (n := n) (by rw [← hU.out.2.1]; exact hb)
        rw [hU.out.1, ← hU.out.2.1] at e
        injection e with e1 e2
        exact ⟨e1.symm, e2.symm⟩)
      have hm := Int.emod_lt_of_pos v (show 0 < n by omega)
      have hm0 := Int.emod_nonneg v (show n ≠ 0 by omega)
      have hv0 := hv.1
      go_wp2_with fail
      ((with_reducible refine (raccepted_n v n true _ hv h0 h1 (hid hb)).mono ?_); rintro e w1 ⟨rfl, hw⟩)
      rw [← hw]
      clear hw
      go_wp2_with fail
      go_ret3
      refine ⟨?_, rfl⟩
      show Ending.returned (.tuple #[.int .i64 (v % n), .int .u64 u, .int .i64 0]) = _
      rw [hf.out.1, hf.out.2]
    | false =>
      have hx := T_rej (t := u) hU.out.2.2 h0 h1 (by rw [← hU.out.2.1]; exact hb)
      obtain ⟨v2, t2, hs2⟩ : ∃ v t, Hid (v = mixv (stepv u) ∧ t = stepv u) := ⟨_, _, hid ⟨rfl, rfl⟩⟩
      go_wp2_with fail
      ((with_reducible refine (raccepted_n v n false _ hv h0 h1 (hid hb)).mono ?_); rintro e w1 ⟨rfl, hw⟩)
      rw [← hw]
      clear hw
      go_wp2_with fail
      ((with_reducible refine (rnext_n u v2 t2 _ hs2).mono ?_); rintro e w1 ⟨rfl, hw⟩)
      rw [← hw]
      clear hw
      go_wp2_with fail
      go_round
      case rel => exact ⟨v2, t2, rfl, rfl, hid ⟨by rw [hs2.out.2, ← hx.2.2]; exact hU.out.1, by rw [hs2.out.2]; exact hs2.out.1, by rw [hs2.out.2]; exact step_u u⟩⟩
      case measure => simp only [RowKit.intOf]; rw [hs2.out.2]; have := dist_bd u; have := dist_bd (stepv u); omega

theorem hash_next {s : ByteArray} {k : Nat} (hk : k < s.size) {h : Int} (e : h = hashv (s.data.toList.take k)) :
    IntKind.u64.wrap (bits .xor .u64 h (IntKind.u64.wrap ((s[k]'hk).toNat : Int)) * 1099511628211) = hashv (s.data.toList.take (k + 1)) := by
  rw [IntWalk.u64_in ((s[k]'hk).toNat : Int) (by have := (s[k]'hk).toNat_lt; omega)]
  have hl : k < s.data.toList.length := by rw [← Lib.size_eq]; exact hk
  rw [List.take_succ_eq_append_getElem hl, hash_snoc, ← e]
  rfl
set_option maxHeartbeats 400000 in
theorem rseed_n (s : ByteArray) (h : Int) (w : World) (hs : s.size ≤ 5000) (hh : Hid (h = hashv s.data.toList)) :
    Calls Try.prog 11 #[.string s] w fun e w' => e = .returned (.int .u64 h) ∧ w = w' := by
  go_enter Try.func11, Try.ntmps11
  go_wp2
  go_loop [3, 4] (fun vh vi => ∃ (k : Nat) (a : Int), vi = .int .i64 k ∧ vh = .int .u64 a ∧ k ≤ s.size ∧ Hid (a = hashv (s.data.toList.take k))) (fun _ vi => s.size - (RowKit.intOf vi).toNat)
  case atStart => exact ⟨0, _, rfl, rfl, by omega, hid rfl⟩
  case round =>
    obtain ⟨k, a, rfl, rfl, hk, hF⟩ := hrel
    by_cases hlt : k < s.size
    · have HN := Lib.hid (hash_next hlt hF.out)
      clear hF hh
      go_wp2
      go_round
      case rel => exact ⟨k + 1, _, by go_num, rfl, by omega, HN⟩
      case measure => simp [RowKit.intOf]; omega
    · obtain rfl : k = s.size := by omega
      have HE : Hid (a = h) := hid (by rw [hF.out, hh.out, Lib.size_eq, List.take_length])
      clear hF
      go_wp2
      go_ret
      exact ⟨by rw [← HE.out]; rfl, rfl⟩
set_option maxHeartbeats 400000 in
theorem rsplit_n (s : Int) (z : ByteArray) (h v : Int) (w : World) (hz : z.size ≤ 5000) (hh : Hid (h = hashv z.data.toList)) (hv : Hid (v = mixv (stepv (bits .xor .u64 s h)))) :
    Calls Try.prog 13 #[.int .u64 s, .string z] w fun e w' => e = .returned (.int .u64 v) ∧ w = w' := by
  obtain ⟨t, ht⟩ : ∃ t, Hid (v = mixv (stepv (bits .xor .u64 s h)) ∧ t = stepv (bits .xor .u64 s h)) := ⟨_, hid ⟨hv.out, rfl⟩⟩
  clear hv
  go_enter Try.func13, Try.ntmps13
  go_wp2_with fail
  ((with_reducible refine (rseed_n z h _ hz hh).mono ?_); rintro e w1 ⟨rfl, hw⟩)
  rw [← hw]
  clear hw
  go_wp2_with fail
  ((with_reducible refine (rnext_n _ v t _ ht).mono ?_); rintro e w1 ⟨rfl, hw⟩)
  rw [← hw]
  clear hw
  go_wp2_with fail
  go_ret
  exact ⟨rfl, rfl⟩

end Go.Proofs.Ytcflfkdamhkfdaa
