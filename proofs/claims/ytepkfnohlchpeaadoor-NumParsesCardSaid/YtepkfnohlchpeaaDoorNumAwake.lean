/-
  The chapter's examples, as awake asks them: it answers true.
-/
import Derived.Test.YtepkfnohlchpeaaDoorNumDiv
import Derived.Test.YtepkfnohlchpeaaDoorNumCell
import Derived.Test.YtepkfnohlchpeaaDoorNumMul
import Derived.Test.YtepkfnohlchpeaaDoorNumSqrt
import Derived.Test.YtepkfnohlchpeaaDoorNumFormat
import Derived.Test.YtepkfnohlchpeaaDoorNumParseF
namespace Go.Proofs.YtepkfnohlchpeaaDoor
open Go.RowKit Go.Lib

theorem div_ex (w : World) : Calls Tryd.prog 10 #[.int .i64 (-7), .int .i64 2] w fun e w' => e = .returned (.tuple #[.int .i64 (-4), .int .i64 0]) ∧ w = w' :=
  div_ok (-7) 2 w (by omega) (by omega) (by omega) (by omega)
theorem mul_ex1 (w : World) : Calls Tryd.prog 13 #[.int .i64 384, .int .i64 384] w fun e w' => e = .returned (.tuple #[.int .i64 576, .int .i64 0]) ∧ w = w' := by
  have h := mul_any 384 384 w (by omega) (by omega) (by omega) (by omega)
  obtain ⟨e1, e2⟩ := mulq_in (X := 384 * 384) (by omega)
  rw [e1, e2] at h
  exact h
theorem mul_ex2 (w : World) : Calls Tryd.prog 13 #[.int .i64 9223372036854775807, .int .i64 512] w fun e w' => e = .returned (.tuple #[.int .i64 9223372036854775807, .int .i64 3]) ∧ w = w' := by
  have h := mul_any 9223372036854775807 512 w (by omega) (by omega) (by omega) (by omega)
  obtain ⟨e1, e2⟩ := mulq_pos (X := 9223372036854775807 * 512) (by omega) (by omega)
  rw [e1, e2] at h
  exact h
theorem parse_ex1 (w : World) (hE : Hid (Env w)) : Calls Tryd.prog 23 #[.string ⟨#[45, 48, 46, 53]⟩] w fun e w' => e = .returned (.tuple #[.int .i64 (-128), .int .i64 0]) ∧ Below w.heap.size w w' := by
  have h := parse_any ⟨#[45, 48, 46, 53]⟩ w (by decide) hE.out
  have e : parseL [45, 48, 46, 53] = (-128, 0) := by decide +kernel
  have e2 : (ByteArray.mk #[45, 48, 46, 53]).data.toList = [45, 48, 46, 53] := rfl
  rw [e2, e] at h
  exact h
theorem parse_ex2 (w : World) (hE : Hid (Env w)) : Calls Tryd.prog 23 #[.string ⟨#[49, 46, 53, 48]⟩] w fun e w' => e = .returned (.tuple #[.int .i64 0, .int .i64 5]) ∧ Below w.heap.size w w' := by
  have h := parse_any ⟨#[49, 46, 53, 48]⟩ w (by decide) hE.out
  have e : parseL [49, 46, 53, 48] = (0, 5) := by decide +kernel
  have e2 : (ByteArray.mk #[49, 46, 53, 48]).data.toList = [49, 46, 53, 48] := rfl
  rw [e2, e] at h
  exact h
theorem isqrt_ex (w : World) : Calls Tryd.prog 15 #[.int .i64 10] w fun e w' => e = .returned (.int .i64 3) ∧ w = w' := by
  refine (isqrt_any 10 w (by omega) (by omega)).mono ?_
  rintro e w' ⟨r, ⟨r0, r1, r2⟩, rfl, rfl⟩
  refine ⟨ret_int ?_, rfl⟩
  have h3 : r ≤ 3 := by
    by_cases h : r ≤ 3
    · exact h
    · have := sq_mono (show (0 : Int) ≤ 4 by omega) (show (4 : Int) ≤ r by omega); omega
  have h4 : 3 ≤ r := by
    by_cases h : 3 ≤ r
    · exact h
    · have := sq_mono (show (0 : Int) ≤ r + 1 by omega) (show r + 1 ≤ 3 by omega); omega
  omega
theorem clamp_ex (w : World) : Calls Tryd.prog 16 #[.int .i64 5, .int .i64 1, .int .i64 3] w fun e w' => e = .returned (.int .i64 3) ∧ w = w' := clamp_any 5 1 3 w
theorem cell_ex (w : World) : Calls Tryd.prog 18 #[.int .i64 (-1)] w fun e w' => e = .returned (.int .i64 (-1)) ∧ w = w' := cell_any (-1) w
theorem center_ex (w : World) : Calls Tryd.prog 20 #[.int .i64 0] w fun e w' => e = .returned (.int .i64 128) ∧ w = w' := center_any 0 w (by omega) (by omega)
theorem fmt_ex : fmtL 1 = [48, 46, 48, 48, 51, 57, 48, 54, 50, 53] := by
  unfold fmtL
  rw [frac_places (by decide) (by decide), decDigits_one (by decide)]
  decide +kernel
theorem format_ex (w : World) (hE : Hid (Env w)) : Calls Tryd.prog 22 #[.int .i64 1] w fun e w' => e = .returned (.string ⟨#[48, 46, 48, 48, 51, 57, 48, 54, 50, 53]⟩) ∧ Below w.heap.size w w' := by
  have h := format_any 1 w (by omega) (by omega) hE.out
  rw [fmt_ex] at h
  exact h

set_option maxRecDepth 10000 in
set_option maxHeartbeats 2000000 in
theorem awake_any (w : World) (hE : Hid (Env w)) :
    Calls Tryd.prog 12 #[] w fun e w' => e = .returned (.bool true) ∧ Below w.heap.size w w' := by
  go_enter Tryd.func12, Tryd.ntmps12
  go_wp2_with fail
  ((with_reducible refine (div_ex _).mono ?_); rintro e w' ⟨rfl, rfl⟩)
  go_wp2_with fail
  ((with_reducible refine (div_zero 5 _).mono ?_); rintro e w' ⟨rfl, rfl⟩)
  go_wp2_with fail
  ((with_reducible refine (mul_ex1 _).mono ?_); rintro e w' ⟨rfl, rfl⟩)
  go_wp2_with fail
  ((with_reducible refine (mul_ex2 _).mono ?_); rintro e w' ⟨rfl, rfl⟩)
  go_wp2_with fail
  ((with_reducible refine (parse_ex1 _ hE).mono ?_); rintro e w1 ⟨rfl, hb1⟩)
  have HB1 := Lib.hid hb1
  have HE1 := Lib.hid (hE.out.below hb1 hE.out.big)
  clear hb1
  go_wp2_with fail
  ((with_reducible refine (parse_ex2 _ HE1).mono ?_); rintro e w2 ⟨rfl, hb2⟩)
  have HB2 := Lib.hid (HB1.out.trans (hb2.mono HB1.out.size))
  clear hb2
  have HE2 := Lib.hid (hE.out.below HB2.out hE.out.big)
  go_wp2_with fail
  ((with_reducible refine (isqrt_ex _).mono ?_); rintro e w' ⟨rfl, rfl⟩)
  go_wp2_with fail
  ((with_reducible refine (clamp_ex _).mono ?_); rintro e w' ⟨rfl, rfl⟩)
  go_wp2_with fail
  ((with_reducible refine (cell_ex _).mono ?_); rintro e w' ⟨rfl, rfl⟩)
  go_wp2_with fail
  ((with_reducible refine (center_ex _).mono ?_); rintro e w' ⟨rfl, rfl⟩)
  go_wp2_with fail
  ((with_reducible refine (format_ex _ HE2).mono ?_); rintro e w3 ⟨rfl, hb3⟩)
  have HB3 := Lib.hid (HB2.out.trans (hb3.mono HB2.out.size))
  clear hb3
  go_wp2_with fail
  go_ret
  exact ⟨rfl, HB3.out⟩

end Go.Proofs.YtepkfnohlchpeaaDoor
