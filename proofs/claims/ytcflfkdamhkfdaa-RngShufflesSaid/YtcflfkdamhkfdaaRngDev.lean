/-
  What rng's functions answer (the code landed at 9de9debe).
-/
import Derived.Test.YtcflfkdamhkfdaaProg
import Derived.WalkKit
import Derived.IntWalk
import Derived.WalkSpells
import Derived.WalkLawsBesides
import Derived.Deep.QuietTactic
import Derived.BigQuiet
import Derived.BigRegion
import Derived.Lib.Hide
import Derived.Lib.Walk
import Derived.Lib.Strings
import Derived.Laws.OwnMore
import Derived.LoopN
import Derived.Test.YtcflfkdamhkfdaaRngLaws
import Derived.Test.YtcflfkdamhkfdaaRngShuf
namespace Go.Proofs.Ytcflfkdamhkfdaa
open Go.RowKit Go.Lib

set_option maxHeartbeats 400000 in
theorem gnext_any (s : Int) (w : World) :
    Calls Try.prog 14 #[.int .u64 s] w fun e w' => e = .returned (.tuple #[.int .u64 (mixv (stepv s)), .int .u64 (stepv s)]) ∧ w = w' := by
  go_enter Try.func14, Try.ntmps14
  go_wp2
  go_ret2
  exact ⟨rfl, rfl⟩
theorem gnext_n (s v t : Int) (w : World) (h : Hid (v = mixv (stepv s) ∧ t = stepv s)) :
    Calls Try.prog 14 #[.int .u64 s] w fun e w' => e = .returned (.tuple #[.int .u64 v, .int .u64 t]) ∧ w = w' := by
  rw [h.out.1, h.out.2]; exact gnext_any s w

set_option maxHeartbeats 400000 in
theorem gseed_n (s : ByteArray) (h : Int) (w : World) (hs : s.size ≤ 5000) (hh : Hid (h = hashv s.data.toList)) :
    Calls Try.prog 10 #[.string s] w fun e w' => e = .returned (.int .u64 h) ∧ w = w' := by
  go_enter Try.func10, Try.ntmps10
  go_wp2
  go_loop [3, 7] (fun vh vi => ∃ (k : Nat) (a : Int), vi = .int .i64 k ∧ vh = .int .u64 a ∧ k ≤ s.size ∧ Hid (a = hashv (s.data.toList.take k))) (fun _ vi => s.size - (RowKit.intOf vi).toNat)
  case atStart => exact ⟨0, _, rfl, rfl, by omega, hid rfl⟩
  case round =>
    obtain ⟨k, a, rfl, rfl, hk, hF⟩ := hrel
    by_cases hlt : k < s.size
    · have HN := Lib.hid (hash_next hlt hF.out)
      clear hF hh
      go_wp2
      go_round
      case rel => exact ⟨k + 1, _, by go_num, rfl, by omega, HN⟩
      case measure => simp [RowKit.intOf]; omega
    · obtain rfl : k = s.size := by omega
      have HE : Hid (a = h) := hid (by rw [hF.out, hh.out, Lib.size_eq, List.take_length])
      clear hF
      go_wp2
      go_ret
      exact ⟨by rw [← HE.out]; rfl, rfl⟩
set_option maxHeartbeats 400000 in
theorem gsplit_n (s : Int) (z : ByteArray) (h v : Int) (w : World) (hz : z.size ≤ 5000) (hh : Hid (h = hashv z.data.toList)) (hv : Hid (v = mixv (stepv (bits .xor .u64 s h)))) :
    Calls Try.prog 12 #[.int .u64 s, .string z] w fun e w' => e = .returned (.int .u64 v) ∧ w = w' := by
  obtain ⟨t, ht⟩ : ∃ t, Hid (v = mixv (stepv (bits .xor .u64 s h)) ∧ t = stepv (bits .xor .u64 s h)) := ⟨_, hid ⟨hv.out, rfl⟩⟩
  clear hv
  go_enter Try.func12, Try.ntmps12
  go_wp2_with fail
  ((with_reducible refine (gseed_n z h _ hz hh).mono ?_); rintro e w1 ⟨rfl, hw⟩)
  rw [← hw]
  clear hw
  go_wp2_with fail
  ((with_reducible refine (gnext_n _ v t _ ht).mono ?_); rintro e w1 ⟨rfl, hw⟩)
  rw [← hw]
  clear hw
  go_wp2_with fail
  go_ret
  exact ⟨rfl, rfl⟩

set_option maxHeartbeats 400000 in
theorem gbelow_low (s n : Int) (w : World) (h : n < 1) :
    Calls Try.prog 16 #[.int .u64 s, .int .i64 n] w fun e w' => e = .returned (.tuple #[.int .i64 0, .int .u64 0, .int .i64 1]) ∧ w = w' := by
  go_enter Try.func16, Try.ntmps16
  go_wp2
  go_ret3
  exact ⟨rfl, rfl⟩
theorem grest_eq (n : Int) (h0 : 1 ≤ n) (h1 : n ≤ 9223372036854775807) : (IntKind.u64.wrap (-n)).tmod n = 18446744073709551616 % n := by
  have e : IntKind.u64.wrap (-n) = 18446744073709551616 - n := by rw [IntKind.wrap_u64]; omega
  rw [e, Int.tmod_eq_emod_of_nonneg (by omega), Int.sub_emod, Int.emod_self, Int.sub_zero, Int.emod_emod]
set_option maxHeartbeats 400000 in
theorem glast_n (n r : Int) (w : World) (h0 : 1 ≤ n) (h1 : n ≤ 9223372036854775807) (hr : Hid (r = 18446744073709551616 % n)) :
    Calls Try.prog 21 #[.int .u64 n] w fun e w' => e = .returned (.int .u64 (18446744073709551615 - r)) ∧ w = w' := by
  have r0 : 0 ≤ r := by rw [hr.out]; exact Int.emod_nonneg _ (by omega)
  have r1 : r < n := by rw [hr.out]; exact Int.emod_lt_of_pos _ (by omega)
  have hrest : (IntKind.u64.wrap (-n)).tmod n = r := (grest_eq n h0 h1).trans hr.out.symm
  clear hr
  have hn : ¬ n = 0 := by omega
  go_enter Try.func21, Try.ntmps21
  go_wp2_with fail
  go_ret
  exact ⟨rfl, rfl⟩
set_option maxHeartbeats 2000000 in
theorem gupto_n (s n r a t : Int) (w : World) (hs : U64 s) (h0 : 1 ≤ n) (h1 : n ≤ 9223372036854775807) (hz : Hid (r = 18446744073709551616 % n)) (hr : Hid (belowv s n = (a, t))) :
    Calls Try.prog 20 #[.int .u64 s, .int .u64 (18446744073709551615 - r)] w fun e w' => ∃ v, e = .returned (.tuple #[.int .u64 v, .int .u64 t]) ∧ w = w' ∧ U64 v ∧ v % n = a := by
  have r0 : 0 ≤ r := by rw [hz.out]; exact Int.emod_nonneg _ (by omega)
  have r1 : r < n := by rw [hz.out]; exact Int.emod_lt_of_pos _ (by omega)
  have hacc : Hid (∀ v, accv v n = decide (v < 18446744073709551616 - r)) := hid (fun v => by unfold accv; rw [hz.out])
  have hS := hid (show U64 s ∧ belowv s n = (a, t) from ⟨hs, hr.out⟩)
  clear hr hs
  obtain ⟨l, hl⟩ : ∃ l, 18446744073709551615 - r = l := ⟨_, rfl⟩
  rw [hl]
  go_enter Try.func20, Try.ntmps20
  go_wp2_with fail
  go_loop [0] (fun vs => ∃ u : Int, vs = .int .u64 u ∧ Hid (U64 u ∧ belowv u n = (a, t))) (fun vs => (dist (stepv (RowKit.intOf vs))).toNat)
  case atStart => exact ⟨_, rfl, hS⟩
  case round =>
    clear hS
    obtain ⟨u, rfl, hU⟩ := hrel
    obtain ⟨v, t2, hN⟩ : ∃ v t, Hid (v = mixv (stepv u) ∧ t = stepv u) := ⟨_, _, hid ⟨rfl, rfl⟩⟩
    have hv : U64 v := by rw [hN.out.1]; exact mix_u _
    have hac := hacc.out v
    cases hb : accv v n with
    | true =>
      have hf : Hid (v % n = a ∧ t2 = t) := hid (by
        have e := below_acc (s := u) (n := n) (by rw [← hN.out.1]; exact hb)
        rw [hU.out.2, ← hN.out.1, ← hN.out.2] at e
        injection e with e1 e2
        exact ⟨e1.symm, e2.symm⟩)
      have hlt : v ≤ l := by have := of_decide_eq_true (hac.symm.trans hb); omega
      clear hac hacc hU
      go_wp2_with fail
      ((with_reducible refine (gnext_n u v t2 _ hN).mono ?_); rintro e w1 ⟨rfl, hw⟩)
      rw [← hw]
      clear hw
      go_wp2_with fail
      go_ret2
      exact ⟨v, by rw [← hf.out.2]; rfl, rfl, hv, hf.out.1⟩
    | false =>
      have hx := below_rej (s := u) (n := n) h0 h1 (by rw [← hN.out.1]; exact hb)
      have hd := dist_step hx.1
      have hlt : ¬ v ≤ l := by have := of_decide_eq_false (hac.symm.trans hb); omega
      have hU2 : Hid (U64 t2 ∧ belowv t2 n = (a, t)) := hid (by rw [hN.out.2, ← hx.2]; exact ⟨step_u u, hU.out.2⟩)
      have hD : Hid ((dist (stepv t2)).toNat < (dist (stepv u)).toNat) := hid (by rw [hN.out.2]; have := dist_bd (stepv u); have := dist_bd (stepv (stepv u)); have := hx.1; omega)
      clear hac hacc hU hx hd
      go_wp2_with fail
      ((with_reducible refine (gnext_n u v t2 _ hN).mono ?_); rintro e w1 ⟨rfl, hw⟩)
      rw [← hw]
      clear hw
      go_wp2_with fail
      go_round
      case rel => exact ⟨t2, rfl, hU2⟩
      case measure => exact hD.out
set_option maxHeartbeats 2000000 in
theorem gbelow_n (s n a t : Int) (w : World) (hs : U64 s) (h0 : 1 ≤ n) (h1 : n ≤ 9223372036854775807) (hr : Hid (belowv s n = (a, t))) :
    Calls Try.prog 16 #[.int .u64 s, .int .i64 n] w fun e w' => e = .returned (.tuple #[.int .i64 a, .int .u64 t, .int .i64 0]) ∧ w = w' := by
  obtain ⟨r, hz⟩ : ∃ r, Hid (r = 18446744073709551616 % n) := ⟨_, hid rfl⟩
  go_enter Try.func16, Try.ntmps16
  go_wp2_with fail
  ((with_reducible refine (glast_n n r _ h0 h1 hz).mono ?_); rintro e w1 ⟨rfl, hw⟩)
  rw [← hw]
  clear hw
  go_wp2_with fail
  ((with_reducible refine (gupto_n s n r a t _ hs h0 h1 hz hr).mono ?_); rintro e w1 ⟨v, rfl, hw, hv, hf⟩)
  rw [← hw]
  clear hw hz hr
  have hv0 := hv.1
  have hv1 := hv.2
  have hm := Int.emod_lt_of_pos v (show 0 < n by omega)
  have hm0 := Int.emod_nonneg v (show n ≠ 0 by omega)
  have hn : ¬ n = 0 := by omega
  go_wp2_with fail
  go_ret3
  exact ⟨rfl, rfl⟩

end Go.Proofs.Ytcflfkdamhkfdaa
