/-
  num.Parse, way by way.
-/
import Derived.Test.YtepkfnohlchpeaaDoorNumParseC
import Derived.Test.YtepkfnohlchpeaaDoorNumParseD
import Derived.Shelf.Strings.Cut
namespace Go.Proofs.YtepkfnohlchpeaaDoor
open Go.RowKit Go.Lib

/-- How a text falls apart: the sign, the part before the point, the part behind it. -/
structure Split (s d wh pl : ByteArray) (neg pt : Bool) : Prop where
  ed : d = ⟨(Lib.trimPrefix s.data.toList [45]).toArray⟩
  eneg : neg = Lib.hasPrefix s.data.toList [45]
  ew : wh = ⟨(Lib.cut d.data.toList [46]).1.toArray⟩
  ep : pl = ⟨(Lib.cut d.data.toList [46]).2.1.toArray⟩
  et : pt = (Lib.cut d.data.toList [46]).2.2
  sd : d.size ≤ 200
  sw : wh.size ≤ 200
  sp : pl.size ≤ 200

theorem cutPrefix_n (s d wh pl : ByteArray) (neg pt : Bool) (w : World) (hS : Hid (Split s d wh pl neg pt)) :
    Calls Tryd.prog 31 #[.string s, .string ⟨#[45]⟩] w fun e w' => e = .returned (.tuple #[.string d, .bool neg]) ∧ w = w' := by
  rw [hS.out.ed, hS.out.eneg]
  exact (Tryd.strings_CutPrefix s ⟨#[45]⟩ w).mono fun e w' ⟨he, hw⟩ => ⟨he, hw.symm⟩
theorem cut_n (s d wh pl : ByteArray) (neg pt : Bool) (w : World) (hS : Hid (Split s d wh pl neg pt)) (hE : Hid (Env w)) :
    Calls Tryd.prog 32 #[.string d, .string ⟨#[46]⟩] w fun e w' => e = .returned (.tuple #[.string wh, .string pl, .bool pt]) ∧ Below w.heap.size w w' := by
  obtain ⟨m, hm⟩ := hE.out.len
  have h := hS.out.sd
  rw [hS.out.ew, hS.out.ep, hS.out.et]
  refine (Tryd.strings_Cut d ⟨#[46]⟩ m w (by omega) hm).mono fun e w' ⟨he, n, hw⟩ => ⟨he, ?_⟩
  rw [hw]
  clear hw he
  induction n with
  | zero => exact Below.refl _ _
  | succ n ih => exact ih.drew
theorem wellFormed_n (s d wh pl : ByteArray) (neg pt : Bool) (w : World) (hS : Hid (Split s d wh pl neg pt)) (R : Bool) (hR : Hid (R = wfB wh.data.toList pl.data.toList pt)) :
    Calls Tryd.prog 33 #[.string wh, .string pl, .bool pt] w fun e w' => e = .returned (.bool R) ∧ Below w.heap.size w w' := by
  rw [hR.out]
  exact wellFormed_any wh pl pt w hS.out.sw hS.out.sp _ (Lib.hid rfl) _ (Lib.hid rfl)

set_option maxHeartbeats 1000000 in
theorem parse_bad (s d wh pl : ByteArray) (neg pt : Bool) (w : World) (hS : Hid (Split s d wh pl neg pt)) (hE : Hid (Env w)) (R : Bool) (hR : Hid (R = wfB wh.data.toList pl.data.toList pt)) (hbad : R = false ∨ (R = true ∧ (s.toList == [45, 48]) = true)) :
    Calls Tryd.prog 23 #[.string s] w fun e w' => e = .returned (.tuple #[.int .i64 0, .int .i64 5]) ∧ Below w.heap.size w w' := by
  go_enter Tryd.func23, Tryd.ntmps23
  go_wp2_with fail
  ((with_reducible refine (cutPrefix_n s d wh pl neg pt _ hS).mono ?_); rintro e w' ⟨rfl, rfl⟩)
  go_wp2_with fail
  ((with_reducible refine (cut_n s d wh pl neg pt _ hS hE).mono ?_); rintro e w1 ⟨rfl, hb1⟩)
  have HB1 := Lib.hid hb1
  clear hb1
  go_wp2_with fail
  ((with_reducible refine (wellFormed_n s d wh pl neg pt _ hS R hR).mono ?_); rintro e w2 ⟨rfl, hb2⟩)
  have HB2 := Lib.hid (HB1.out.trans (hb2.mono HB1.out.size))
  clear hb2
  rcases hbad with rfl | ⟨rfl, h2⟩
  · clear hR
    go_wp2_with fail
    go_ret2
    exact ⟨rfl, HB2.out⟩
  · clear hR
    go_wp2_with fail
    go_ret2
    exact ⟨rfl, HB2.out⟩

theorem fraction_n (s d wh pl : ByteArray) (neg pt : Bool) (w : World) (hS : Hid (Split s d wh pl neg pt)) (hd : Hid (pl.data.toList.all isDig = true)) (F : Bool) (x : Int) (hF : Hid (F = fracB pl.data.toList)) (hx : Hid (x = fracV pl.data.toList)) :
    Calls Tryd.prog 34 #[.string pl] w fun e w' => e = .returned (.tuple #[.int .u64 x, .bool F]) ∧ w = w' := by
  rw [hF.out, hx.out]
  exact fraction_any pl w hS.out.sp hd

set_option maxHeartbeats 1000000 in
theorem parse_nofrac (s d wh pl : ByteArray) (neg pt : Bool) (w : World) (hS : Hid (Split s d wh pl neg pt)) (hE : Hid (Env w)) (hR : Hid (true = wfB wh.data.toList pl.data.toList pt)) (hno : (s.toList == [45, 48]) = false) (hdp : Hid (pl.data.toList.all isDig = true)) (x : Int) (hF : Hid (false = fracB pl.data.toList)) (hX : Hid (x = fracV pl.data.toList)) :
    Calls Tryd.prog 23 #[.string s] w fun e w' => e = .returned (.tuple #[.int .i64 0, .int .i64 5]) ∧ Below w.heap.size w w' := by
  go_enter Tryd.func23, Tryd.ntmps23
  go_wp2_with fail
  ((with_reducible refine (cutPrefix_n s d wh pl neg pt _ hS).mono ?_); rintro e w' ⟨rfl, rfl⟩)
  go_wp2_with fail
  ((with_reducible refine (cut_n s d wh pl neg pt _ hS hE).mono ?_); rintro e w1 ⟨rfl, hb1⟩)
  have HB1 := Lib.hid hb1
  clear hb1
  go_wp2_with fail
  ((with_reducible refine (wellFormed_n s d wh pl neg pt _ hS true hR).mono ?_); rintro e w2 ⟨rfl, hb2⟩)
  have HB2 := Lib.hid (HB1.out.trans (hb2.mono HB1.out.size))
  clear hb2
  go_wp2_with fail
  ((with_reducible refine (fraction_n s d wh pl neg pt _ hS hdp false x hF hX).mono ?_); rintro e w3 ⟨rfl, rfl⟩)
  go_wp2_with fail
  go_ret2
  exact ⟨rfl, HB2.out⟩

set_option maxHeartbeats 1000000 in
theorem parse_over (s d wh pl : ByteArray) (neg pt : Bool) (w : World) (hS : Hid (Split s d wh pl neg pt)) (hE : Hid (Env w)) (hR : Hid (true = wfB wh.data.toList pl.data.toList pt)) (hno : (s.toList == [45, 48]) = false) (hdp : Hid (pl.data.toList.all isDig = true)) (x : Int) (hF : Hid (true = fracB pl.data.toList)) (hX : Hid (x = fracV pl.data.toList)) (hne : Hid (wh.size ≠ 0)) (hdw : Hid (wh.data.toList.all isDig = true)) (hfit : Hid (72057594037927935 < val wh.data.toList)) :
    Calls Tryd.prog 23 #[.string s] w fun e w' => e = .returned (.tuple #[.int .i64 0, .int .i64 3]) ∧ Below w.heap.size w w' := by
  go_enter Tryd.func23, Tryd.ntmps23
  go_wp2_with fail
  ((with_reducible refine (cutPrefix_n s d wh pl neg pt _ hS).mono ?_); rintro e w' ⟨rfl, rfl⟩)
  go_wp2_with fail
  ((with_reducible refine (cut_n s d wh pl neg pt _ hS hE).mono ?_); rintro e w1 ⟨rfl, hb1⟩)
  have HB1 := Lib.hid hb1
  clear hb1
  go_wp2_with fail
  ((with_reducible refine (wellFormed_n s d wh pl neg pt _ hS true hR).mono ?_); rintro e w2 ⟨rfl, hb2⟩)
  have HB2 := Lib.hid (HB1.out.trans (hb2.mono HB1.out.size))
  clear hb2
  go_wp2_with fail
  ((with_reducible refine (fraction_n s d wh pl neg pt _ hS hdp true x hF hX).mono ?_); rintro e w3 ⟨rfl, rfl⟩)
  go_wp2_with fail
  refine (parseUint_over wh hne.out hS.out.sw hdw _ (Lib.hid (hE.out.below HB2.out hE.out.big)) hfit).mono ?_
  rintro e w4 ⟨x, T, p, rfl, hb4⟩
  have HB4 := Lib.hid (HB2.out.trans (hb4.mono HB2.out.size))
  clear hb4
  go_wp2_with fail
  go_ret2
  exact ⟨rfl, HB4.out⟩

set_option maxHeartbeats 1000000 in
theorem parse_ok (s d wh pl : ByteArray) (neg pt : Bool) (w : World) (hS : Hid (Split s d wh pl neg pt)) (hE : Hid (Env w)) (hR : Hid (true = wfB wh.data.toList pl.data.toList pt)) (hno : (s.toList == [45, 48]) = false) (hdp : Hid (pl.data.toList.all isDig = true)) (x : Int) (hF : Hid (true = fracB pl.data.toList)) (hX : Hid (x = fracV pl.data.toList)) (hne : Hid (wh.size ≠ 0)) (hdw : Hid (wh.data.toList.all isDig = true)) (V : Int) (hV : Hid (V = (val wh.data.toList : Int))) (hfit : Hid (val wh.data.toList ≤ 72057594037927935)) (hV0 : 0 ≤ V) (hV1 : V ≤ 72057594037927935) (hx0 : 0 ≤ x) (hx1 : x ≤ 255) :
    Calls Tryd.prog 23 #[.string s] w fun e w' => e = .returned (.tuple #[.int .i64 (signV neg (V * 256 + x)).1, .int .i64 (signV neg (V * 256 + x)).2]) ∧ Below w.heap.size w w' := by
  go_enter Tryd.func23, Tryd.ntmps23
  go_wp2_with fail
  ((with_reducible refine (cutPrefix_n s d wh pl neg pt _ hS).mono ?_); rintro e w' ⟨rfl, rfl⟩)
  go_wp2_with fail
  ((with_reducible refine (cut_n s d wh pl neg pt _ hS hE).mono ?_); rintro e w1 ⟨rfl, hb1⟩)
  have HB1 := Lib.hid hb1
  clear hb1
  go_wp2_with fail
  ((with_reducible refine (wellFormed_n s d wh pl neg pt _ hS true hR).mono ?_); rintro e w2 ⟨rfl, hb2⟩)
  have HB2 := Lib.hid (HB1.out.trans (hb2.mono HB1.out.size))
  clear hb2
  go_wp2_with fail
  ((with_reducible refine (fraction_n s d wh pl neg pt _ hS hdp true x hF hX).mono ?_); rintro e w3 ⟨rfl, rfl⟩)
  go_wp2_with fail
  ((with_reducible refine (parseUint_fits wh hne.out hS.out.sw hdw _ V hV hfit).mono ?_); rintro e w4 ⟨rfl, hb4⟩)
  have HB4 := Lib.hid (HB2.out.trans (hb4.mono HB2.out.size))
  clear hb4
  go_wp2_with fail
  ((with_reducible refine (signed_any (V * 256 + x) neg _ (by omega) (by omega)).mono ?_); rintro e w5 ⟨rfl, rfl⟩)
  go_wp2_with fail
  go_ret2
  exact ⟨rfl, HB4.out⟩

end Go.Proofs.YtepkfnohlchpeaaDoor
