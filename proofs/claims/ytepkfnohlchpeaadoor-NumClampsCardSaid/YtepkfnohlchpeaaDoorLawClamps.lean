/-
  NumClamps answers true for all ints.
-/
import Derived.Test.YtepkfnohlchpeaaDoorLawDivides
namespace Go.Proofs.YtepkfnohlchpeaaDoor
open Go.RowKit Go.Lib

theorem clamp_n (n lo hi c : Int) (w : World) (hc : Hid (c = clampv n lo hi)) :
    Calls Tryd.prog 16 #[.int .i64 n, .int .i64 lo, .int .i64 hi] w fun e w' => e = .returned (.int .i64 c) ∧ w = w' := by
  rw [hc.out]; exact clamp_any n lo hi w
theorem rclamp_n (n lo hi c : Int) (w : World) (hc : Hid (c = clampv n lo hi)) :
    Calls Tryd.prog 17 #[.int .i64 n, .int .i64 lo, .int .i64 hi] w fun e w' => e = .returned (.int .i64 c) ∧ w = w' := by
  rw [hc.out]; exact rclamp_any n lo hi w

set_option maxHeartbeats 1000000 in
theorem clamps_walk (n lo hi c : Int) (w : World) (hE : Hid (Env w)) (hc : Hid (c = clampv n lo hi)) (h : (hi < lo ∧ c = lo) ∨ (¬ hi < lo ∧ lo ≤ c ∧ c ≤ hi ∧ ((c = n) ∨ (¬ c = n ∧ n < lo) ∨ (¬ c = n ∧ ¬ n < lo ∧ hi < n)))) :
    Calls Tryd.prog 6 #[.int .i64 n, .int .i64 lo, .int .i64 hi] w fun e w' => e = .returned (.bool true) ∧ Below w.heap.size w w' := by
  rcases h with ⟨h1, h2⟩ | ⟨h1, h2, h3, h4 | ⟨h4, h5⟩ | ⟨h4, h5, h6⟩⟩
  all_goals
    go_enter Tryd.func6, Tryd.ntmps6
    go_wp2_with fail
    ((with_reducible refine (clamp_n n lo hi c _ hc).mono ?_); rintro e w' ⟨rfl, rfl⟩)
    go_wp2_with fail
    ((with_reducible refine (rclamp_n n lo hi c _ hc).mono ?_); rintro e w' ⟨rfl, rfl⟩)
    go_wp2_with fail
    ((with_reducible refine (awake_any _ hE).mono ?_); rintro e w2 ⟨rfl, hb2⟩)
    have HB2 := Lib.hid hb2
    clear hb2
    go_wp2_with fail
    go_ret
    exact ⟨rfl, HB2.out⟩

theorem clamps_any (n lo hi : Int) (w : World) (hE : Env w) (_hn0 : -9223372036854775808 ≤ n) (_hn1 : n ≤ 9223372036854775807) (_hl0 : -9223372036854775808 ≤ lo) (_hl1 : lo ≤ 9223372036854775807) (_hh0 : -9223372036854775808 ≤ hi) (_hh1 : hi ≤ 9223372036854775807) :
    Calls Tryd.prog 6 #[.int .i64 n, .int .i64 lo, .int .i64 hi] w fun e w' => e = .returned (.bool true) ∧ Below w.heap.size w w' := by
  refine clamps_walk n lo hi _ w (Lib.hid hE) (Lib.hid rfl) ?_
  unfold clampv
  omega

end Go.Proofs.YtepkfnohlchpeaaDoor
