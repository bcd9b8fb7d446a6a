/-
  The law of fairness, given what rng's functions answer.
-/
import Derived.Test.YtcflfkdamhkfdaaProg
import Derived.WalkKit
import Derived.IntWalk
import Derived.WalkSpells
import Derived.WalkLawsBesides
import Derived.Deep.QuietTactic
import Derived.BigQuiet
import Derived.Lib.Hide
import Derived.Lib.Walk
import Derived.Test.YtcflfkdamhkfdaaRngLaws
namespace Go.Proofs.Ytcflfkdamhkfdaa
open Go.RowKit Go.Lib

set_option maxHeartbeats 2000000 in
theorem law_fair_low (H : RngHave) (s n : Int) (w : World) (hs : U64 s) (h0 : n < 1) (h1 : -9223372036854775808 ≤ n) : Calls Try.prog 6 #[.int .u64 s, .int .i64 n] w fun e w' => e = .returned (.bool true) ∧ Below w.heap.size w w' := by
  go_enter Try.func6, Try.ntmps6
  go_wp2_with fail
  ((with_reducible refine (H.low s n _ hs h0 h1).mono ?_); rintro e w1 ⟨rfl, hL⟩)
  go_wp2_with fail
  ((with_reducible refine (awake_any H _).mono ?_); rintro e w5 ⟨rfl, hb⟩)
  replace hL := below_call hL hb
  go_wp2_with fail
  go_ret
  exact ⟨rfl, hL⟩

/-- The greatest accepted value. -/
theorem most_acc (n r m : Int) (h0 : 1 ≤ n) (_h1 : n ≤ 9223372036854775807) (hr : 18446744073709551615 % n = r) (hm : (r = n - 1 ∧ m = 18446744073709551615) ∨ (¬ r = n - 1 ∧ m = 18446744073709551615 - r - 1)) (v : Int) (hv : U64 v) :
    accv v n = decide (v ≤ m) := by
  have a := Int.emod_nonneg 18446744073709551615 (show n ≠ 0 by omega)
  have b := Int.emod_lt_of_pos 18446744073709551615 (show 0 < n by omega)
  have e : (18446744073709551616 : Int) % n = (r + 1) % n := by rw [← hr, Int.emod_add_emod]; rfl
  rw [hr] at a b
  unfold accv
  rw [e]
  obtain ⟨v0, v1⟩ := hv
  rcases hm with ⟨h, rfl⟩ | ⟨h, rfl⟩
  · have z : (r + 1) % n = 0 := by rw [h, show n - 1 + 1 = n by omega, Int.emod_self]
    rw [z, decide_eq_true (show v < 18446744073709551616 - 0 by omega), decide_eq_true (show v ≤ 18446744073709551615 by omega)]
  · have z : (r + 1) % n = r + 1 := Int.emod_eq_of_lt (by omega) (by omega)
    rw [z]
    by_cases g : v ≤ 18446744073709551615 - r - 1
    · rw [decide_eq_true g, decide_eq_true (show v < 18446744073709551616 - (r + 1) by omega)]
    · rw [decide_eq_false g, decide_eq_false (show ¬ v < 18446744073709551616 - (r + 1) by omega)]

set_option maxHeartbeats 4000000 in
theorem law_fair_walk (H : RngHave) (s n r m : Int) (w : World) (hs : U64 s) (h0 : 1 ≤ n) (h1 : n ≤ 9223372036854775807) (hr : 18446744073709551615 % n = r)
    (hm : (r = n - 1 ∧ m = 18446744073709551615) ∨ (¬ r = n - 1 ∧ m = 18446744073709551615 - r - 1)) : Calls Try.prog 6 #[.int .u64 s, .int .i64 n] w fun e w' => e = .returned (.bool true) ∧ Below w.heap.size w w' := by
  have hacc := hid (most_acc n r m h0 h1 hr hm)
  obtain ⟨a, t, h⟩ : ∃ a t, Hid (belowv s n = (a, t)) := ⟨_, _, hid rfl⟩
  obtain ⟨v1, u1, hN⟩ : ∃ v t, Hid (v = mixv (stepv s) ∧ t = stepv s) := ⟨_, _, hid ⟨rfl, rfl⟩⟩
  have bd := below_bd (s := s) (n := n) h0 h1
  rw [h.out] at bd
  have hT : Hid (v1 = mixv u1 ∧ U64 u1 ∧ belowT u1 n = (a, t)) := hid (by rw [hN.out.2, hN.out.1, ← below_T h0 h1]; exact ⟨rfl, step_u s, h.out⟩)
  obtain ⟨a0, a1, -⟩ := bd
  have r0 := Int.emod_nonneg 18446744073709551615 (show n ≠ 0 by omega)
  have r1 := Int.emod_lt_of_pos 18446744073709551615 (show 0 < n by omega)
  rw [hr] at r0 r1
  have e1 : IntKind.u64.wrap (18446744073709551615 - r) = 18446744073709551615 - r := IntWalk.u64_in _ (by omega)
  have e2 : IntKind.u64.wrap (18446744073709551615 - r - 1) = 18446744073709551615 - r - 1 := IntWalk.u64_in _ (by omega)
  have e3 : IntKind.u64.wrap (n - 1) = n - 1 := IntWalk.u64_in _ (by omega)
  rcases hm with ⟨hz, rfl⟩ | ⟨hz, rfl⟩
  · have z1 : (r == n - 1) = true := by simp [hz]
    go_enter Try.func6, Try.ntmps6
    go_wp2_with fail
    ((with_reducible refine (H.below s n a t _ hs h0 h1 h).mono ?_); rintro e w1 ⟨rfl, hL⟩)
    go_wp2_with fail
    ((with_reducible refine (H.next s v1 u1 _ hs hN).mono ?_); rintro e w2 ⟨rfl, hb⟩)
    replace hL := below_call hL hb
    clear hb h hN e1 e2 e3 z1
    go_wp2_with fail
    go_loopw [13, 14, 15] (fun vv vu vi wr => ∃ (k : Nat) (v u : Int), vv = .int .u64 v ∧ vu = .int .u64 u ∧ vi = .int .i64 k ∧ k ≤ 200 ∧ Hid (v = mixv u ∧ U64 u ∧ belowT u n = (a, t)) ∧ Below w.heap.size w wr) (fun _ _ vi _ => 200 - (RowKit.intOf vi).toNat)
    case atStart => exact ⟨0, _, _, rfl, rfl, rfl, by omega, hT, hL⟩
    case round =>
      clear hT hL
      obtain ⟨k, v, u, rfl, rfl, rfl, hk, hU, hL⟩ := hrel
      have hv : U64 v := by rw [hU.out.1]; exact mix_u u
      have hac := hacc.out v hv
      by_cases g : 18446744073709551615 < v
      · by_cases hk2 : k < 200
        · have hrej : accv v n = false := by rw [hac]; exact decide_eq_false (by omega)
          have hx := T_rej hU.out.2.1 h0 h1 (by rw [← hU.out.1]; exact hrej)
          obtain ⟨v2, u2, hs2⟩ : ∃ v t, Hid (v = mixv (stepv u) ∧ t = stepv u) := ⟨_, _, hid ⟨rfl, rfl⟩⟩
          have hU2 : Hid (v2 = mixv u2 ∧ U64 u2 ∧ belowT u2 n = (a, t)) := hid (by rw [hs2.out.2, hs2.out.1, ← hx.2.2]; exact ⟨rfl, step_u u, hU.out.2.2⟩)
          have hki : (k : Int) < 200 := by omega
          clear hac hrej hx hacc
          go_wp2_with fail
          ((with_reducible refine (H.next u v2 u2 _ hU.out.2.1 hs2).mono ?_); rintro e w3 ⟨rfl, hb⟩)
          replace hL := below_call hL hb
          clear hb
          go_wp2_with fail
          go_roundw
          case rel => exact ⟨k + 1, v2, u2, rfl, rfl, by go_num, by omega, hU2, hL⟩
          case measure => simp [RowKit.intOf]; omega
        · have hki : ¬ (k : Int) < 200 := by omega
          clear hac hacc
          go_wp2_with fail
          ((with_reducible refine (awake_any H _).mono ?_); rintro e w5 ⟨rfl, hb⟩)
          replace hL := below_call hL hb
          go_wp2_with fail
          go_ret
          exact ⟨rfl, hL⟩
      · have hf := T_acc (t := u) (n := n) (by rw [← hU.out.1, hac]; exact decide_eq_true (by omega))
        rw [hU.out.2.2, ← hU.out.1] at hf
        injection hf with f1 f2
        have e4 : IntKind.u64.wrap a = a := IntWalk.u64_in _ (by omega)
        have v0 := hv.1
        subst f1 f2
        clear hac hacc hU
        by_cases hk2 : k < 200
        · have hki : (k : Int) < 200 := by omega
          go_wp2_with fail
          ((with_reducible refine (awake_any H _).mono ?_); rintro e w5 ⟨rfl, hb⟩)
          replace hL := below_call hL hb
          go_wp2_with fail
          go_ret
          exact ⟨rfl, hL⟩
        · have hki : ¬ (k : Int) < 200 := by omega
          go_wp2_with fail
          ((with_reducible refine (awake_any H _).mono ?_); rintro e w5 ⟨rfl, hb⟩)
          replace hL := below_call hL hb
          go_wp2_with fail
          go_ret
          exact ⟨rfl, hL⟩
  · have z1 : (r == n - 1) = false := by simp [hz]
    go_enter Try.func6, Try.ntmps6
    go_wp2_with fail
    ((with_reducible refine (H.below s n a t _ hs h0 h1 h).mono ?_); rintro e w1 ⟨rfl, hL⟩)
    go_wp2_with fail
    ((with_reducible refine (H.next s v1 u1 _ hs hN).mono ?_); rintro e w2 ⟨rfl, hb⟩)
    replace hL := below_call hL hb
    clear hb h hN e1 e2 e3 z1
    generalize 18446744073709551615 - r - 1 = m at *
    go_wp2_with fail
    go_loopw [13, 14, 15] (fun vv vu vi wr => ∃ (k : Nat) (v u : Int), vv = .int .u64 v ∧ vu = .int .u64 u ∧ vi = .int .i64 k ∧ k ≤ 200 ∧ Hid (v = mixv u ∧ U64 u ∧ belowT u n = (a, t)) ∧ Below w.heap.size w wr) (fun _ _ vi _ => 200 - (RowKit.intOf vi).toNat)
    case atStart => exact ⟨0, _, _, rfl, rfl, rfl, by omega, hT, hL⟩
    case round =>
      clear hT hL
      obtain ⟨k, v, u, rfl, rfl, rfl, hk, hU, hL⟩ := hrel
      have hv : U64 v := by rw [hU.out.1]; exact mix_u u
      have hac := hacc.out v hv
      by_cases g : m < v
      · by_cases hk2 : k < 200
        · have hrej : accv v n = false := by rw [hac]; exact decide_eq_false (by omega)
          have hx := T_rej hU.out.2.1 h0 h1 (by rw [← hU.out.1]; exact hrej)
          obtain ⟨v2, u2, hs2⟩ : ∃ v t, Hid (v = mixv (stepv u) ∧ t = stepv u) := ⟨_, _, hid ⟨rfl, rfl⟩⟩
          have hU2 : Hid (v2 = mixv u2 ∧ U64 u2 ∧ belowT u2 n = (a, t)) := hid (by rw [hs2.out.2, hs2.out.1, ← hx.2.2]; exact ⟨rfl, step_u u, hU.out.2.2⟩)
          have hki : (k : Int) < 200 := by omega
          clear hac hrej hx hacc
          go_wp2_with fail
          ((with_reducible refine (H.next u v2 u2 _ hU.out.2.1 hs2).mono ?_); rintro e w3 ⟨rfl, hb⟩)
          replace hL := below_call hL hb
          clear hb
          go_wp2_with fail
          go_roundw
          case rel => exact ⟨k + 1, v2, u2, rfl, rfl, by go_num, by omega, hU2, hL⟩
          case measure => simp [RowKit.intOf]; omega
        · have hki : ¬ (k : Int) < 200 := by omega
          clear hac hacc
          go_wp2_with fail
          ((with_reducible refine (awake_any H _).mono ?_); rintro e w5 ⟨rfl, hb⟩)
          replace hL := below_call hL hb
          go_wp2_with fail
          go_ret
          exact ⟨rfl, hL⟩
      · have hf := T_acc (t := u) (n := n) (by rw [← hU.out.1, hac]; exact decide_eq_true (by omega))
        rw [hU.out.2.2, ← hU.out.1] at hf
        injection hf with f1 f2
        have e4 : IntKind.u64.wrap a = a := IntWalk.u64_in _ (by omega)
        have v0 := hv.1
        subst f1 f2
        clear hac hacc hU
        by_cases hk2 : k < 200
        · have hki : (k : Int) < 200 := by omega
          go_wp2_with fail
          ((with_reducible refine (awake_any H _).mono ?_); rintro e w5 ⟨rfl, hb⟩)
          replace hL := below_call hL hb
          go_wp2_with fail
          go_ret
          exact ⟨rfl, hL⟩
        · have hki : ¬ (k : Int) < 200 := by omega
          go_wp2_with fail
          ((with_reducible refine (awake_any H _).mono ?_); rintro e w5 ⟨rfl, hb⟩)
          replace hL := below_call hL hb
          go_wp2_with fail
          go_ret
          exact ⟨rfl, hL⟩
theorem law_fair (H : RngHave) (s n : Int) (w : World) (hs : U64 s) (h0 : -9223372036854775808 ≤ n) (h1 : n ≤ 9223372036854775807) : Calls Try.prog 6 #[.int .u64 s, .int .i64 n] w fun e w' => e = .returned (.bool true) ∧ Below w.heap.size w w' := by
  by_cases h : n < 1
  · exact law_fair_low H s n w hs h h0
  · by_cases hz : 18446744073709551615 % n = n - 1
    · exact law_fair_walk H s n _ _ w hs (by omega) h1 rfl (Or.inl ⟨hz, rfl⟩)
    · exact law_fair_walk H s n _ _ w hs (by omega) h1 rfl (Or.inr ⟨hz, rfl⟩)

end Go.Proofs.Ytcflfkdamhkfdaa
