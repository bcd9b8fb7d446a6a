/-
  The law of Shuffle against the reference, given what rng's functions answer.
-/
import Derived.Test.YtcflfkdamhkfdaaProg
import Derived.WalkKit
import Derived.IntWalk
import Derived.WalkSpells
import Derived.WalkLawsBesides
import Derived.Deep.QuietTactic
import Derived.BigQuiet
import Derived.Lib.Hide
import Derived.Lib.Walk
import Derived.LoopN
import Derived.Test.YtcflfkdamhkfdaaRngLaws
namespace Go.Proofs.Ytcflfkdamhkfdaa
open Go.RowKit Go.Lib

theorem owns_zero {w : World} {B : Nat} {e : TypeId} {v : Value} {xs : List Value} (h : w.ownsRow B e 1 v 0 xs) : ∃ p cap, v = .slice p 0 cap := by
  rcases h.2 with ⟨rfl, _⟩ | ⟨g, cap, cur, rfl, _⟩
  · exact ⟨_, _, rfl⟩
  · exact ⟨_, _, rfl⟩
theorem owns_drewN {w : World} {B n : Nat} {e : TypeId} {v : Value} {xs : List Value} (h : w.ownsRow B e 1 v n xs) (k : Nat) : (w.drewN k).ownsRow B e 1 v n xs := by
  induction k with
  | zero => exact h
  | succ k ih => exact ih.drew
theorem below_drewN {B : Nat} {w W : World} (h : Below B w W) (n : Nat) : Below B w (W.drewN n) := by
  induction n with
  | zero => exact h
  | succ n ih => exact ih.drew
theorem owns_below {w w' : World} {B n : Nat} {e : TypeId} {v : Value} {xs : List Value} (h : w.ownsRow B e 1 v n xs) (hb : Below w.heap.size w w') : w'.ownsRow B e 1 v n xs := by
  refine ⟨h.1, ?_⟩
  rcases h.2 with ⟨rfl, h0⟩ | ⟨g, cap, cur, rfl, hB, hg, r⟩
  · exact Or.inl ⟨rfl, h0⟩
  · exact Or.inr ⟨g, cap, cur, rfl, hB, by rw [hb.block g (Array.getElem?_eq_some_iff.1 hg).1]; exact hg, r⟩

set_option maxHeartbeats 2000000 in
theorem law_shuf_low (H : RngHave) (s n : Int) (w : World) (hs : U64 s) (h0 : n < 0) (h1 : -9223372036854775808 ≤ n) : Calls Try.prog 7 #[.int .u64 s, .int .i64 n] w fun e w' => e = .returned (.bool true) ∧ Below w.heap.size w w' := by
  go_enter Try.func7, Try.ntmps7
  go_wp2_with fail
  ((with_reducible refine (H.shufLow s n _ hs h0 h1).mono ?_); rintro e w1 ⟨v, rfl, hown, hL⟩)
  obtain ⟨p, cap, rfl⟩ := owns_zero hown
  clear hown
  go_wp2_with fail
  ((with_reducible refine (rshuffle_low s n _ h0).mono ?_); rintro e w2 ⟨rfl, hw⟩)
  rw [← hw]
  clear hw
  go_wp2_with fail
  refine wp_loop_rounds 1 ?_
  rw [rounds_succ]
  go_wp2_with fail
  ((with_reducible refine (awake_any H _).mono ?_); rintro e w5 ⟨rfl, hb⟩)
  replace hL := below_call hL hb
  go_wp2_with fail
  go_ret
  exact ⟨rfl, hL⟩
set_option maxHeartbeats 2000000 in
theorem law_shuf_high (H : RngHave) (s n : Int) (w : World) (hs : U64 s) (h0 : 1000 < n) (h1 : n ≤ 9223372036854775807) : Calls Try.prog 7 #[.int .u64 s, .int .i64 n] w fun e w' => e = .returned (.bool true) ∧ Below w.heap.size w w' := by
  go_enter Try.func7, Try.ntmps7
  go_wp2_with fail
  ((with_reducible refine (H.shufHigh s n _ hs h0 h1).mono ?_); rintro e w1 ⟨v, rfl, hown, hL⟩)
  obtain ⟨p, cap, rfl⟩ := owns_zero hown
  clear hown
  go_wp2_with fail
  ((with_reducible refine (rshuffle_high s n _ h0).mono ?_); rintro e w2 ⟨rfl, hw⟩)
  rw [← hw]
  clear hw
  go_wp2_with fail
  refine wp_loop_rounds 1 ?_
  rw [rounds_succ]
  go_wp2_with fail
  ((with_reducible refine (awake_any H _).mono ?_); rintro e w5 ⟨rfl, hb⟩)
  replace hL := below_call hL hb
  go_wp2_with fail
  go_ret
  exact ⟨rfl, hL⟩
set_option maxHeartbeats 2000000 in
theorem law_shuf_zero (H : RngHave) (s : Int) (w : World) (hs : U64 s) : Calls Try.prog 7 #[.int .u64 s, .int .i64 0] w fun e w' => e = .returned (.bool true) ∧ Below w.heap.size w w' := by
  have hr : Hid (shufv s 0 = ([], s)) := hid rfl
  have hc : ∀ w, Calls Try.prog 18 #[.int .u64 s, .int .i64 0] w fun e w' => ∃ v, e = .returned (.tuple #[v, .int .u64 s, .int .i64 0]) ∧ w'.ownsRow w.heap.size 3 1 v 0 (ints []) ∧ Below w.heap.size w w' := fun w => H.shuffle s 0 w [] s hs (by decide) hr
  go_enter Try.func7, Try.ntmps7
  go_wp2_with fail
  ((with_reducible refine (hc _).mono ?_); rintro e w1 ⟨v, rfl, hown, hL⟩)
  obtain ⟨p, cap, rfl⟩ := owns_zero hown
  clear hown hc
  go_wp2_with fail
  ((with_reducible refine (rshuffle_zero s _).mono ?_); rintro e w2 ⟨rfl, hw⟩)
  rw [← hw]
  clear hw
  go_wp2_with fail
  refine wp_loop_rounds 1 ?_
  rw [rounds_succ]
  go_wp2_with fail
  ((with_reducible refine (awake_any H _).mono ?_); rintro e w5 ⟨rfl, hb⟩)
  replace hL := below_call hL hb
  go_wp2_with fail
  go_ret
  exact ⟨rfl, hL⟩
set_option maxHeartbeats 4000000 in
theorem law_shuf_some (H : RngHave) (s : Int) (n : Nat) (w : World) (hs : U64 s) (h0 : 1 ≤ n) (h1 : n ≤ 1000) : Calls Try.prog 7 #[.int .u64 s, .int .i64 n] w fun e w' => e = .returned (.bool true) ∧ Below w.heap.size w w' := by
  obtain ⟨L, t, hr⟩ : ∃ L t, Hid (shufv s n = (L, t)) := ⟨_, _, hid rfl⟩
  have hl : L.length = n := by have := shuf_len s n; rw [hr.out] at this; exact this
  go_enter Try.func7, Try.ntmps7
  go_wp2_with fail
  ((with_reducible refine (H.shuffle s n _ L t hs h1 hr).mono ?_); rintro e w1 ⟨v, rfl, hown1, hL⟩)
  obtain ⟨g, cap, rfl⟩ := owns_some hown1 h0
  go_wp2_with fail
  ((with_reducible refine (rshuffle_n s n _ h1 L t hr).mono ?_); rintro e w2 ⟨v, rfl, hown2, hb⟩)
  obtain ⟨g2, cap2, rfl⟩ := owns_some hown2 h0
  replace hown1 := owns_below hown1 hb
  replace hL := below_call hL hb
  clear hb hr
  go_wp2_with fail
  go_loopw [11] (fun vi wr => ∃ k : Nat, vi = .int .i64 k ∧ k ≤ n ∧ wr.ownsRow w.heap.size 3 1 (.slice (some ⟨g, 0, none⟩) n cap) n (ints L) ∧ wr.ownsRow w1.heap.size 3 1 (.slice (some ⟨g2, 0, none⟩) n cap2) n (ints L) ∧ Below w.heap.size w wr) (fun vi _ => n - (RowKit.intOf vi).toNat)
  case atStart => exact ⟨0, rfl, by omega, hown1, hown2, hL⟩
  case round =>
    clear hown1 hown2 hL
    obtain ⟨k, rfl, hk, hown1, hown2, hL⟩ := hrel
    by_cases hlt : k < n
    · obtain ⟨x, hx⟩ : ∃ x, Hid (x = L.getD k 0) := ⟨_, hid rfl⟩
      have cA : wr.cell? ⟨g, k, none⟩ = some (.int .i64 x) := by rw [hown1.cellAt k (by omega), ints_at L _ (by omega), hx.out]
      have cB : wr.cell? ⟨g2, k, none⟩ = some (.int .i64 x) := by rw [hown2.cellAt k (by omega), ints_at L _ (by omega), hx.out]
      have b1 : (k : Int) < n := by omega
      go_wp2_with fail
      go_quiet (fail)
      go_wp2_with fail
      go_roundw
      case rel => exact ⟨k + 1, by go_num, by omega, owns_drewN hown1 _, owns_drewN hown2 _, below_drewN hL _⟩
      case measure => simp [RowKit.intOf]; omega
    · obtain rfl : k = n := by omega
      go_wp2_with fail
      ((with_reducible refine (awake_any H _).mono ?_); rintro e w5 ⟨rfl, hb⟩)
      replace hL := below_call hL hb
      go_wp2_with fail
      go_ret
      exact ⟨rfl, hL⟩

theorem law_shuffles (H : RngHave) (s n : Int) (w : World) (hs : U64 s) (h0 : -9223372036854775808 ≤ n) (h1 : n ≤ 9223372036854775807) : Calls Try.prog 7 #[.int .u64 s, .int .i64 n] w fun e w' => e = .returned (.bool true) ∧ Below w.heap.size w w' := by
  by_cases a : n < 0
  · exact law_shuf_low H s n w hs a h0
  · by_cases b : 1000 < n
    · exact law_shuf_high H s n w hs b h1
    · obtain ⟨m, rfl⟩ := Int.eq_ofNat_of_zero_le (show 0 ≤ n by omega)
      by_cases z : m = 0
      · subst z; exact law_shuf_zero H s w hs
      · exact law_shuf_some H s m w hs (by omega) (by omega)

end Go.Proofs.Ytcflfkdamhkfdaa
