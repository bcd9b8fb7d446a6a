/-
  NumSquares answers true for all ints.
-/
import Derived.Test.YtepkfnohlchpeaaDoorLawDivides
namespace Go.Proofs.YtepkfnohlchpeaaDoor
open Go.RowKit Go.Lib

theorem isqrt_n (n r : Int) (w : World) (h0 : 1 ≤ n) (h1 : n ≤ 9223372036854775807) (hr : Hid (RootOf n r)) :
    Calls Tryd.prog 15 #[.int .i64 n] w fun e w' => e = .returned (.int .i64 r) ∧ w = w' := by
  refine (isqrt_any n w h0 h1).mono ?_
  rintro e w' ⟨q, ⟨q0, q1, q2⟩, rfl, rfl⟩
  obtain ⟨r0, r1, r2⟩ := hr.out
  refine ⟨ret_int ?_, rfl⟩
  have h3 : q ≤ r := by
    by_cases h : q ≤ r
    · exact h
    · have := sq_mono (show (0 : Int) ≤ r + 1 by omega) (show r + 1 ≤ q by omega); omega
  have h4 : r ≤ q := by
    by_cases h : r ≤ q
    · exact h
    · have := sq_mono (show (0 : Int) ≤ q + 1 by omega) (show q + 1 ≤ r by omega); omega
  omega

set_option maxHeartbeats 1000000 in
theorem squares_neg (n : Int) (w : World) (hE : Hid (Env w)) (hn : n < 0) :
    Calls Tryd.prog 5 #[.int .i64 n] w fun e w' => e = .returned (.bool true) ∧ Below w.heap.size w w' := by
  go_enter Tryd.func5, Tryd.ntmps5
  go_wp2_with fail
  ((with_reducible refine (isqrt_low n _ (by omega)).mono ?_); rintro e w' ⟨rfl, rfl⟩)
  go_wp2_with fail
  ((with_reducible refine (awake_any _ hE).mono ?_); rintro e w2 ⟨rfl, hb2⟩)
  have HB2 := Lib.hid hb2
  clear hb2
  go_wp2_with fail
  go_ret
  exact ⟨rfl, HB2.out⟩

set_option maxHeartbeats 1000000 in
theorem squares_zero (w : World) (hE : Hid (Env w)) :
    Calls Tryd.prog 5 #[.int .i64 0] w fun e w' => e = .returned (.bool true) ∧ Below w.heap.size w w' := by
  go_enter Tryd.func5, Tryd.ntmps5
  go_wp2_with fail
  ((with_reducible refine (isqrt_low 0 _ (by omega)).mono ?_); rintro e w' ⟨rfl, rfl⟩)
  go_wp2_with fail
  ((with_reducible refine (awake_any _ hE).mono ?_); rintro e w2 ⟨rfl, hb2⟩)
  have HB2 := Lib.hid hb2
  clear hb2
  go_wp2_with fail
  go_ret
  exact ⟨rfl, HB2.out⟩

set_option maxHeartbeats 1000000 in
theorem squares_most (n : Int) (w : World) (hE : Hid (Env w)) (h0 : 1 ≤ n) (h1 : n ≤ 9223372036854775807) (hr : Hid (RootOf n 3037000499)) (hrr : 9223372030926249001 ≤ n) :
    Calls Tryd.prog 5 #[.int .i64 n] w fun e w' => e = .returned (.bool true) ∧ Below w.heap.size w w' := by
  go_enter Tryd.func5, Tryd.ntmps5
  go_wp2_with fail
  ((with_reducible refine (isqrt_n n 3037000499 _ h0 h1 hr).mono ?_); rintro e w' ⟨rfl, rfl⟩)
  go_wp2_with fail
  ((with_reducible refine (awake_any _ hE).mono ?_); rintro e w2 ⟨rfl, hb2⟩)
  have HB2 := Lib.hid hb2
  clear hb2
  go_wp2_with fail
  go_ret
  exact ⟨rfl, HB2.out⟩

set_option maxHeartbeats 1000000 in
theorem squares_mid (n r rr r1 : Int) (w : World) (hE : Hid (Env w)) (h0 : 1 ≤ n) (h1 : n ≤ 9223372036854775807) (hr : Hid (RootOf n r)) (hr0 : 0 ≤ r) (hr1 : r < 3037000499) (hrr : wrap64 (r * r) = rr) (hle : rr ≤ n) (hr2 : wrap64 ((r + 1) * (r + 1)) = r1) (hlt : n < r1) :
    Calls Tryd.prog 5 #[.int .i64 n] w fun e w' => e = .returned (.bool true) ∧ Below w.heap.size w w' := by
  have hne : (r == 3037000499) = false := by simp; omega
  go_enter Tryd.func5, Tryd.ntmps5
  go_wp2_with fail
  ((with_reducible refine (isqrt_n n r _ h0 h1 hr).mono ?_); rintro e w' ⟨rfl, rfl⟩)
  go_wp2_with fail
  ((with_reducible refine (awake_any _ hE).mono ?_); rintro e w2 ⟨rfl, hb2⟩)
  have HB2 := Lib.hid hb2
  clear hb2
  go_wp2_with fail
  go_ret
  exact ⟨rfl, HB2.out⟩

theorem root_exists (n : Int) (h0 : 1 ≤ n) (h1 : n ≤ 9223372036854775807) : ∃ r : Int, RootOf n r ∧ 0 ≤ r ∧ r ≤ 3037000499 := by
  have step : ∀ k : Nat, k ≤ 3037000499 → (∃ r : Int, RootOf n r ∧ r ≤ k) ∨ ((k : Int) + 1) * ((k : Int) + 1) ≤ n := by
    intro k
    induction k with
    | zero => intro _; exact Or.inr (by omega)
    | succ k ih =>
      intro hk
      rcases ih (by omega) with ⟨r, hr, hle⟩ | hge
      · exact Or.inl ⟨r, hr, by omega⟩
      · have ec : ((k + 1 : Nat) : Int) = (k : Int) + 1 := by omega
        rw [ec]
        by_cases hn : n < (k + 1 + 1) * ((k : Int) + 1 + 1)
        · exact Or.inl ⟨(k : Int) + 1, ⟨by omega, hge, hn⟩, by omega⟩
        · exact Or.inr (by omega)
  rcases step 3037000499 (Nat.le_refl _) with ⟨r, hr, hle⟩ | hge
  · exact ⟨r, hr, hr.1, hle⟩
  · exfalso; omega

theorem squares_any (n : Int) (w : World) (hE : Env w) (_hn0 : -9223372036854775808 ≤ n) (hn1 : n ≤ 9223372036854775807) :
    Calls Tryd.prog 5 #[.int .i64 n] w fun e w' => e = .returned (.bool true) ∧ Below w.heap.size w w' := by
  by_cases h0 : n < 0
  · exact squares_neg n w (Lib.hid hE) h0
  by_cases h1 : n = 0
  · subst h1; exact squares_zero w (Lib.hid hE)
  obtain ⟨r, hr, hr0, hr1⟩ := root_exists n (by omega) hn1
  by_cases hm : r = 3037000499
  · subst hm
    exact squares_most n w (Lib.hid hE) (by omega) hn1 (Lib.hid hr) hr.2.1
  · have ha := sq_mono hr0 (show r ≤ 3037000498 by omega)
    have hb := sq_mono (show (0 : Int) ≤ r + 1 by omega) (show r + 1 ≤ 3037000499 by omega)
    have hc := sq_mono (show (0 : Int) ≤ 0 by omega) (show (0 : Int) ≤ r by omega)
    have hd := sq_mono (show (0 : Int) ≤ 0 by omega) (show (0 : Int) ≤ r + 1 by omega)
    exact squares_mid n r _ _ w (Lib.hid hE) (by omega) hn1 (Lib.hid hr) hr0 (by omega) (IntWalk.wrap64_in _ ⟨by omega, by omega⟩) hr.2.1 (IntWalk.wrap64_in _ ⟨by omega, by omega⟩) hr.2.2

end Go.Proofs.YtepkfnohlchpeaaDoor
