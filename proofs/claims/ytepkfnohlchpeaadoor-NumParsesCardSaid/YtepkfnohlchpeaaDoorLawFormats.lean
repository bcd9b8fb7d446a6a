/-
  NumFormats answers true for all ints.
-/
import Derived.Test.YtepkfnohlchpeaaDoorLawDivides
import Derived.Test.YtepkfnohlchpeaaDoorNumRFormat
import Derived.Test.YtepkfnohlchpeaaDoorNumSpecC
namespace Go.Proofs.YtepkfnohlchpeaaDoor
open Go.RowKit Go.Lib

theorem format_n (n : Int) (s : ByteArray) (w : World) (h0 : -9223372036854775808 ≤ n) (h1 : n ≤ 9223372036854775807) (hE : Hid (Env w)) (hs : Hid (s = ⟨(fmtL n).toArray⟩)) :
    Calls Tryd.prog 22 #[.int .i64 n] w fun e w' => e = .returned (.string s) ∧ Below w.heap.size w w' := by
  rw [hs.out]; exact format_any n w h0 h1 hE.out
theorem rformat_n (n : Int) (s : ByteArray) (w : World) (h0 : -9223372036854775808 ≤ n) (h1 : n ≤ 9223372036854775807) (hs : Hid (s = ⟨(fmtL n).toArray⟩)) :
    Calls Tryd.prog 24 #[.int .i64 n] w fun e w' => e = .returned (.string s) ∧ Below w.heap.size w w' := by
  rw [hs.out]; exact rformat_any n w h0 h1
theorem parse_n (s : ByteArray) (v x : Int) (w : World) (hE : Hid (Env w)) (hs : s.size ≤ 200) (hv : Hid (parseL s.data.toList = (v, x))) :
    Calls Tryd.prog 23 #[.string s] w fun e w' => e = .returned (.tuple #[.int .i64 v, .int .i64 x]) ∧ Below w.heap.size w w' := by
  have h := parse_any s w hs hE.out
  rw [hv.out] at h
  exact h

set_option maxHeartbeats 1000000 in
theorem formats_walk (n : Int) (s : ByteArray) (w : World) (hE : Hid (Env w)) (h0 : -9223372036854775808 ≤ n) (h1 : n ≤ 9223372036854775807) (hs : Hid (s = ⟨(fmtL n).toArray⟩)) (hsz : s.size ≤ 200) (hv : Hid (parseL s.data.toList = (n, 0))) :
    Calls Tryd.prog 8 #[.int .i64 n] w fun e w' => e = .returned (.bool true) ∧ Below w.heap.size w w' := by
  go_enter Tryd.func8, Tryd.ntmps8
  go_wp2_with fail
  ((with_reducible refine (format_n n s _ h0 h1 hE hs).mono ?_); rintro e w1 ⟨rfl, hb1⟩)
  have HB := Lib.hid hb1
  have HE := Lib.hid (hE.out.below hb1 hE.out.big)
  clear hb1
  go_wp2_with fail
  ((with_reducible refine (parse_n s n 0 _ HE hsz hv).mono ?_); rintro e w2 ⟨rfl, hb2⟩)
  have HB2 := Lib.hid (HB.out.trans (hb2.mono HB.out.size))
  have HE2 := Lib.hid (hE.out.below HB2.out hE.out.big)
  clear hb2
  go_wp2_with fail
  ((with_reducible refine (rformat_n n s _ h0 h1 hs).mono ?_); rintro e w3 ⟨rfl, hb3⟩)
  have HB3 := Lib.hid (HB2.out.trans (hb3.mono HB2.out.size))
  have HE3 := Lib.hid (hE.out.below HB3.out hE.out.big)
  clear hb3
  go_wp2_with fail
  ((with_reducible refine (awake_any _ HE3).mono ?_); rintro e w4 ⟨rfl, hb4⟩)
  have HB4 := Lib.hid (HB3.out.trans (hb4.mono HB3.out.size))
  clear hb4
  go_wp2_with fail
  go_ret
  exact ⟨rfl, HB4.out⟩

theorem formats_any (n : Int) (w : World) (hE : Env w) (h0 : -9223372036854775808 ≤ n) (h1 : n ≤ 9223372036854775807) :
    Calls Tryd.prog 8 #[.int .i64 n] w fun e w' => e = .returned (.bool true) ∧ Below w.heap.size w w' := by
  refine formats_walk n _ w (Lib.hid hE) h0 h1 (Lib.hid rfl) ?_ (Lib.hid (parse_fmt h0 h1))
  have := fmtL_len h0 h1
  show (fmtL n).toArray.size ≤ 200
  rw [List.size_toArray]
  omega

end Go.Proofs.YtepkfnohlchpeaaDoor
