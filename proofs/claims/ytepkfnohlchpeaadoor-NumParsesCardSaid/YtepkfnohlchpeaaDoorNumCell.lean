/-
  What num.Clamp, num.Cell, num.Center and their references answer for all ints.
-/
import Derived.Test.YtepkfnohlchpeaaDoorProg
import Derived.Test.YtepkfnohlchpeaaDoorKit
import Derived.Test.YtepkfnohlchpeaaDoorNumMath
import Derived.Test.YtepkfnohlchpeaaDoorNumDiv
namespace Go.Proofs.YtepkfnohlchpeaaDoor
open Go.RowKit Go.Lib

/-- The number that 'Clamp' answers. -/
def clampv (n lo hi : Int) : Int := max lo (min n hi)

/-- The coordinate that 'Center' answers. -/
def centerv (x : Int) : Int := if x < -36028797018963968 then -9223372036854775808 else if 36028797018963967 < x then 9223372036854775807 else x * 256 + 128
theorem centerv_lo {x : Int} (h : x < -36028797018963968) : -9223372036854775808 = centerv x := by unfold centerv; rw [if_pos h]
theorem centerv_hi {x : Int} (h : 36028797018963967 < x) : 9223372036854775807 = centerv x := by unfold centerv; rw [if_neg (by omega), if_pos h]
theorem centerv_in {x : Int} (h : -36028797018963968 ≤ x) (h2 : x ≤ 36028797018963967) : x * 256 + 128 = centerv x := by unfold centerv; rw [if_neg (by omega), if_neg (by omega)]

set_option maxHeartbeats 400000 in
theorem clamp_any (n lo hi : Int) (w : World) :
    Calls Tryd.prog 16 #[.int .i64 n, .int .i64 lo, .int .i64 hi] w fun e w' => e = .returned (.int .i64 (clampv n lo hi)) ∧ w = w' := by
  go_enter Tryd.func16, Tryd.ntmps16
  go_wp2
  go_ret
  exact ⟨rfl, rfl⟩

set_option maxHeartbeats 400000 in
theorem rclamp_any (n lo hi : Int) (w : World) :
    Calls Tryd.prog 17 #[.int .i64 n, .int .i64 lo, .int .i64 hi] w fun e w' => e = .returned (.int .i64 (clampv n lo hi)) ∧ w = w' := by
  go_enter Tryd.func17, Tryd.ntmps17
  go_wp2
  go_ret
  exact ⟨rfl, rfl⟩

set_option maxHeartbeats 400000 in
theorem cell_any (x : Int) (w : World) :
    Calls Tryd.prog 18 #[.int .i64 x] w fun e w' => e = .returned (.int .i64 (x / 256)) ∧ w = w' := by
  go_enter Tryd.func18, Tryd.ntmps18
  go_wp2
  go_ret
  exact ⟨rfl, rfl⟩

set_option maxHeartbeats 400000 in
theorem rcell_any (x : Int) (w : World) (ha0 : -9223372036854775808 ≤ x) (ha1 : x ≤ 9223372036854775807) :
    Calls Tryd.prog 19 #[.int .i64 x] w fun e w' => e = .returned (.int .i64 (x / 256)) ∧ ∃ n, w' = w.drewN n := by
  go_enter Tryd.func19, Tryd.ntmps19
  go_wp2_with (go_at_call 11; refine (rdiv_ok _ _ _ ha0 ha1 (by omega) (by omega)).mono ?_; rintro e w' ⟨rfl, n, rfl⟩)
  go_ret
  exact ⟨ret_int (Int.fdiv_eq_ediv_of_nonneg _ (by omega)), _, rfl⟩

set_option maxHeartbeats 400000 in
theorem center_any (x : Int) (w : World) (ha0 : -9223372036854775808 ≤ x) (ha1 : x ≤ 9223372036854775807) :
    Calls Tryd.prog 20 #[.int .i64 x] w fun e w' => e = .returned (.int .i64 (centerv x)) ∧ w = w' := by
  go_enter Tryd.func20, Tryd.ntmps20
  go_wp2
  · go_ret; exact ⟨ret_int (centerv_lo ‹_›), rfl⟩
  · go_ret; exact ⟨ret_int (centerv_hi ‹_›), rfl⟩
  · go_ret; exact ⟨ret_int (centerv_in ‹_› ‹_›), rfl⟩

set_option maxHeartbeats 400000 in
theorem rcenter_any (x : Int) (w : World) (ha0 : -9223372036854775808 ≤ x) (ha1 : x ≤ 9223372036854775807) :
    Calls Tryd.prog 21 #[.int .i64 x] w fun e w' => e = .returned (.int .i64 (centerv x)) ∧ w = w' := by
  go_enter Tryd.func21, Tryd.ntmps21
  go_wp2
  · go_ret; exact ⟨ret_int (centerv_hi ‹_›), rfl⟩
  · go_ret; exact ⟨ret_int (centerv_lo ‹_›), rfl⟩
  · go_ret; exact ⟨ret_int (centerv_in ‹_› ‹_›), rfl⟩
end Go.Proofs.YtepkfnohlchpeaaDoor
