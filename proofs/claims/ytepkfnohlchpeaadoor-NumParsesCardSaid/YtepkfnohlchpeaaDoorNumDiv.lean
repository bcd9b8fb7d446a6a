/-
  What num.Div and its reference answer for all ints: the floor of the quotient, or the error number.
-/
import Derived.Test.YtepkfnohlchpeaaDoorProg
import Derived.Test.YtepkfnohlchpeaaDoorNumMath
import Derived.Test.YtepkfnohlchpeaaDoorKit
namespace Go.Proofs.YtepkfnohlchpeaaDoor
open Go.RowKit Go.Lib

set_option maxHeartbeats 400000 in
theorem div_zero (a : Int) (w : World) :
    Calls Tryd.prog 10 #[.int .i64 a, .int .i64 0] w fun e w' => e = .returned (.tuple #[.int .i64 0, .int .i64 1]) ∧ w = w' := by
  go_enter Tryd.func10, Tryd.ntmps10
  go_wp2
  go_ret2
  exact ⟨rfl, rfl⟩

set_option maxHeartbeats 400000 in
theorem div_over (w : World) :
    Calls Tryd.prog 10 #[.int .i64 (-9223372036854775808), .int .i64 (-1)] w fun e w' => e = .returned (.tuple #[.int .i64 0, .int .i64 3]) ∧ w = w' := by
  go_enter Tryd.func10, Tryd.ntmps10
  go_wp2
  go_ret2
  exact ⟨rfl, rfl⟩

theorem div_close {a b : Int} (ha0 : -9223372036854775808 ≤ a) (ha1 : a ≤ 9223372036854775807) (hb : ¬ b = 0) (hm : ¬ (a = -9223372036854775808 ∧ b = -1)) :
    (a.tmod b = 0 → wrap64 (a.tdiv b) = a.fdiv b) ∧
    ((a.tmod b != 0) = true ∧ (!decide (a < 0) == decide (b < 0)) = true → wrap64 (wrap64 (a.tdiv b) - 1) = a.fdiv b) ∧
    (¬ a.tmod b = 0 → (a.tmod b != 0) = false ∨ (!decide (a < 0) == decide (b < 0)) = false → wrap64 (a.tdiv b) = a.fdiv b) := by
  have ht := tdiv_range ha0 ha1 hm
  have hf := fdiv_range ha0 ha1 hm
  rw [IntWalk.wrap64_in _ ht]
  refine ⟨fun h => (tdiv_dvd h).symm, fun ⟨h1, h2⟩ => ?_, fun h1 h2 => ?_⟩
  · have := tdiv_up (a := a) hb (by simpa using h1) (by simpa using h2)
    rw [← this, IntWalk.wrap64_in _ hf]
  · rcases h2 with h2 | h2
    · simp at h2; exact absurd h2 h1
    · exact (tdiv_eq (a := a) h1 (by simpa using h2)).symm

theorem rdiv_close {a b : Int} (ha0 : -9223372036854775808 ≤ a) (ha1 : a ≤ 9223372036854775807) (hb : ¬ b = 0) (hm : ¬ (a = -9223372036854775808 ∧ b = -1)) :
    (a.tmod b = 0 → wrap64 (a.tdiv b) = a.fdiv b) ∧
    ((a.tmod b != 0) = true ∧ (!decide (a.tmod b < 0) == decide (b < 0)) = true → wrap64 (wrap64 (a.tdiv b) - 1) = a.fdiv b) ∧
    (¬ a.tmod b = 0 → (a.tmod b != 0) = false ∨ (!decide (a.tmod b < 0) == decide (b < 0)) = false → wrap64 (a.tdiv b) = a.fdiv b) := by
  have h := div_close ha0 ha1 hb hm
  by_cases h0 : a.tmod b = 0
  · rw [h0]
    rw [h0] at h
    exact ⟨h.1, fun x => by simp at x, fun x => absurd rfl x⟩
  · rw [tmod_sign h0]
    exact h

set_option maxHeartbeats 400000 in
theorem div_ok (a b : Int) (w : World) (ha0 : -9223372036854775808 ≤ a) (ha1 : a ≤ 9223372036854775807) (hb : ¬ b = 0)
    (hm : ¬ (a = -9223372036854775808 ∧ b = -1)) :
    Calls Tryd.prog 10 #[.int .i64 a, .int .i64 b] w fun e w' => e = .returned (.tuple #[.int .i64 (a.fdiv b), .int .i64 0]) ∧ w = w' := by
  have H := Lib.hid (div_close ha0 ha1 hb hm)
  by_cases hx : a = -9223372036854775808
  · have hy : ¬ b = -1 := fun h => hm ⟨hx, h⟩
    clear hm
    have hx2 : (a == -9223372036854775808) = true := by simpa using hx
    have hy2 : (b == -1) = false := by simpa using hy
    clear hx
    go_enter Tryd.func10, Tryd.ntmps10
    go_wp2
    · go_ret2; exact ⟨ret_two (H.out.1 ‹_›), rfl⟩
    · go_ret2; exact ⟨ret_two (H.out.2.1 ‹_›), rfl⟩
    · go_ret2; exact ⟨ret_two (H.out.2.2 ‹_› ‹_›), rfl⟩
  · clear hm
    go_enter Tryd.func10, Tryd.ntmps10
    go_wp2
    · go_ret2; exact ⟨ret_two (H.out.1 ‹_›), rfl⟩
    · go_ret2; exact ⟨ret_two (H.out.2.1 ‹_›), rfl⟩
    · go_ret2; exact ⟨ret_two (H.out.2.2 ‹_› ‹_›), rfl⟩

set_option maxHeartbeats 400000 in
theorem rdiv_zero (a : Int) (w : World) :
    Calls Tryd.prog 11 #[.int .i64 a, .int .i64 0] w fun e w' => e = .returned (.tuple #[.int .i64 0, .int .i64 1]) ∧ ∃ n, w' = w.drewN n := by
  go_enter Tryd.func11, Tryd.ntmps11
  go_wp2
  go_ret2
  exact ⟨rfl, 0, rfl⟩

set_option maxHeartbeats 400000 in
theorem rdiv_over (w : World) :
    Calls Tryd.prog 11 #[.int .i64 (-9223372036854775808), .int .i64 (-1)] w fun e w' => e = .returned (.tuple #[.int .i64 0, .int .i64 3]) ∧ ∃ n, w' = w.drewN n := by
  go_enter Tryd.func11, Tryd.ntmps11
  go_wp2
  go_ret2
  exact ⟨rfl, 0, rfl⟩

set_option maxHeartbeats 400000 in
theorem rdiv_ok (a b : Int) (w : World) (ha0 : -9223372036854775808 ≤ a) (ha1 : a ≤ 9223372036854775807) (hb : ¬ b = 0)
    (hm : ¬ (a = -9223372036854775808 ∧ b = -1)) :
    Calls Tryd.prog 11 #[.int .i64 a, .int .i64 b] w fun e w' => e = .returned (.tuple #[.int .i64 (a.fdiv b), .int .i64 0]) ∧ ∃ n, w' = w.drewN n := by
  have H := Lib.hid (rdiv_close ha0 ha1 hb hm)
  have hbf : (b == 0) = false := by simpa using hb
  by_cases hx : a = -9223372036854775808
  · have hy : ¬ b = -1 := fun h => hm ⟨hx, h⟩
    clear hm
    have hx2 : (a == -9223372036854775808) = true := by simpa using hx
    have hy2 : (b == -1) = false := by simpa using hy
    clear hx
    go_enter Tryd.func11, Tryd.ntmps11
    go_wp2
    go_quiet (fail)
    go_wp2
    · go_ret2; exact ⟨ret_two (H.out.1 ‹_›), _, rfl⟩
    · go_ret2; exact ⟨ret_two (H.out.2.1 ‹_›), _, rfl⟩
    · go_ret2; exact ⟨ret_two (H.out.2.2 ‹_› ‹_›), _, rfl⟩
  · clear hm
    go_enter Tryd.func11, Tryd.ntmps11
    go_wp2
    go_quiet (fail)
    go_wp2
    · go_ret2; exact ⟨ret_two (H.out.1 ‹_›), _, rfl⟩
    · go_ret2; exact ⟨ret_two (H.out.2.1 ‹_›), _, rfl⟩
    · go_ret2; exact ⟨ret_two (H.out.2.2 ‹_› ‹_›), _, rfl⟩

end Go.Proofs.YtepkfnohlchpeaaDoor
