/-
  The laws of wire, given what wire's functions answer.
-/
import Derived.Test.YtmpgeipknnoclaaProg
import Derived.WalkKit
import Derived.IntWalk
import Derived.WalkSpells
import Derived.WalkLawsBesides
import Derived.Deep.QuietTactic
import Derived.BigQuiet
import Derived.Lib.Hide
import Derived.Lib.Walk
import Derived.StillTailTactics
import Derived.Deep.RegionHeld3
import Derived.Deep.RegionWith
import Derived.Test.YtmpgeipknnoclaaWireA
import Derived.Test.YtmpgeipknnoclaaWireB
import Derived.Test.YtmpgeipknnoclaaBox
namespace Go.Proofs.Ytmpgeipknnoclaa
open Go.RowKit Go.Lib

/-- A bool's text. -/
def boolE (b : Bool) : ByteArray := bs [if b then 1 else 0]
theorem rbool_e (b : Bool) (w : World) : Calls Try.prog 24 #[.bool b] w fun e w' => e = .returned (.string (boolE b)) ∧ w = w' := rbool_any b w

/-- What the functions of wire are held to. -/
structure WireHave : Prop where
  uint : ∀ (n : Nat) (w : World), n < 18446744073709551616 → Calls Try.prog 10 #[.int .u64 n] w fun e w' => e = .returned (.string (bs (encU n))) ∧ Below w.heap.size w w'
  int : ∀ (n : Int) (w : World), I64 n → Calls Try.prog 11 #[.int .i64 n] w fun e w' => e = .returned (.string (bs (encU (zz n)))) ∧ Below w.heap.size w w'
  bool : ∀ (b : Bool) (w : World), Calls Try.prog 12 #[.bool b] w fun e w' => e = .returned (.string (boolE b)) ∧ Below w.heap.size w w'
  text : ∀ (s : ByteArray) (w : World), s.size ≤ 2000 → Calls Try.prog 13 #[.string s] w fun e w' => e = .returned (.string (bs (encU s.size) ++ s)) ∧ Below w.heap.size w w'
  takeUint : ∀ (s : ByteArray) (i : Int) (w : World) (n : Nat) (x er : Int), s.size ≤ 6010 → I64 i → Hid (takeAt s.data.toList i = (n, x, er)) → Calls Try.prog 14 #[.string s, .int .i64 i] w fun e w' => e = .returned (.tuple #[.int .u64 n, .int .i64 x, .int .i64 er]) ∧ Below w.heap.size w w'
  takeInt : ∀ (s : ByteArray) (i : Int) (w : World) (n x er : Int), s.size ≤ 6010 → I64 i → Hid (intAt s.data.toList i = (n, x, er)) → Calls Try.prog 15 #[.string s, .int .i64 i] w fun e w' => e = .returned (.tuple #[.int .i64 n, .int .i64 x, .int .i64 er]) ∧ Below w.heap.size w w'
  takeBool : ∀ (s : ByteArray) (i : Int) (w : World) (b : Bool) (x er : Int), s.size ≤ 6010 → I64 i → Hid (boolAt s.data.toList i = (b, x, er)) → Calls Try.prog 16 #[.string s, .int .i64 i] w fun e w' => e = .returned (.tuple #[.bool b, .int .i64 x, .int .i64 er]) ∧ Below w.heap.size w w'
  takeText : ∀ (s : ByteArray) (i m : Int) (w : World) (t : List UInt8) (x er : Int), s.size ≤ 6010 → I64 i → I64 m → Hid (textAt s.data.toList i m = (t, x, er)) → Calls Try.prog 17 #[.string s, .int .i64 i, .int .i64 m] w fun e w' => e = .returned (.tuple #[.string (bs t), .int .i64 x, .int .i64 er]) ∧ Below w.heap.size w w'
  takeCount : ∀ (s : ByteArray) (i m : Int) (w : World) (n : Nat) (x er : Int), s.size ≤ 6010 → I64 i → I64 m → Hid (countAt s.data.toList i m = (n, x, er)) → Calls Try.prog 18 #[.string s, .int .i64 i, .int .i64 m] w fun e w' => e = .returned (.tuple #[.int .i64 n, .int .i64 x, .int .i64 er]) ∧ Below w.heap.size w w'

theorem wx_uint : bs (encU 300) = ByteArray.mk #[172, 2] := by rw [enc_high (by decide), enc_low (by decide)]; rfl
theorem wx_int : bs (encU (zz 1)) = ByteArray.mk #[2] := by rw [show zz 1 = 2 by decide, enc_low (by decide)]; rfl
theorem wx_bool : boolE true = ByteArray.mk #[1] := rfl
theorem wx_text : bs (encU (ByteArray.mk #[97, 98]).size) ++ ByteArray.mk #[97, 98] = ByteArray.mk #[2, 97, 98] := by rw [show (ByteArray.mk #[97, 98]).size = 2 from rfl, enc_low (by decide)]; rfl
theorem cast300 : ((300 : Nat) : Int) = 300 := rfl
theorem cast0 : ((0 : Nat) : Int) = 0 := rfl
theorem wx_ab : bs [97, 98] = ByteArray.mk #[97, 98] := rfl

set_option maxRecDepth 100000 in
set_option maxHeartbeats 2000000 in
theorem awake_any (H : WireHave) (w : World) : Calls Try.prog 9 #[] w fun e w' => e = .returned (.bool true) ∧ Below w.heap.size w w' := by
  have i1 : I64 1 := ⟨by decide, by decide⟩
  have i0 : I64 0 := ⟨by decide, by decide⟩
  have i2 : I64 2 := ⟨by decide, by decide⟩
  have i9 : I64 9 := ⟨by decide, by decide⟩
  have huint : ∀ w : World, Calls Try.prog 10 #[.int .u64 300] w fun e w' => e = .returned (.string (ByteArray.mk #[172, 2])) ∧ Below w.heap.size w w' := fun w => by
    have h := H.uint 300 w (by decide)
    rw [cast300, wx_uint] at h
    exact h
  go_enter Try.func9, Try.ntmps9
  go_wp2_with fail
  ((with_reducible refine (H.takeUint _ 1 _ 300 3 0 (by decide) i1 (hid (by decide))).mono ?_); rintro e w1 ⟨rfl, hL⟩)
  rw [cast300]
  go_wp2_with fail
  ((with_reducible refine (H.takeUint _ 0 _ 0 0 5 (by decide) i0 (hid (by decide))).mono ?_); rintro e w2 ⟨rfl, hb⟩)
  rw [cast0]
  replace hL := below_call hL hb
  clear hb
  go_wp2_with fail
  ((with_reducible refine (H.takeUint _ 0 _ 0 0 4 (by decide) i0 (hid (by decide))).mono ?_); rintro e w3 ⟨rfl, hb⟩)
  rw [cast0]
  replace hL := below_call hL hb
  clear hb
  go_wp2_with fail
  ((with_reducible refine (H.takeUint _ 2 _ 0 0 1 (by decide) i2 (hid (by decide))).mono ?_); rintro e w4 ⟨rfl, hb⟩)
  rw [cast0]
  replace hL := below_call hL hb
  clear hb
  go_wp2_with fail
  ((with_reducible refine (H.takeInt _ 0 _ (-1) 1 0 (by decide) i0 (hid (by decide))).mono ?_); rintro e w5 ⟨rfl, hb⟩)
  replace hL := below_call hL hb
  clear hb
  go_wp2_with fail
  ((with_reducible refine (H.takeText _ 0 2 _ [97, 98] 3 0 (by decide) i0 i2 (hid (by decide))).mono ?_); rintro e w6 ⟨rfl, hb⟩)
  replace hL := below_call hL hb
  clear hb
  rw [wx_ab]
  go_wp2_with fail
  ((with_reducible refine (H.takeText _ 0 1 _ [] 0 2 (by decide) i0 i1 (hid (by decide))).mono ?_); rintro e w7 ⟨rfl, hb⟩)
  replace hL := below_call hL hb
  clear hb
  go_wp2_with fail
  ((with_reducible refine (H.takeCount _ 0 9 _ 0 0 4 (by decide) i0 i9 (hid (by decide))).mono ?_); rintro e w8 ⟨rfl, hb⟩)
  rw [cast0]
  replace hL := below_call hL hb
  clear hb
  go_wp2_with fail
  ((with_reducible refine (huint _).mono ?_); rintro e w9 ⟨rfl, hb⟩)
  replace hL := below_call hL hb
  clear hb
  go_wp2_with fail
  ((with_reducible refine (H.int 1 _ i1).mono ?_); rintro e w10 ⟨rfl, hb⟩)
  replace hL := below_call hL hb
  clear hb
  rw [wx_int]
  go_wp2_with fail
  ((with_reducible refine (H.bool true _).mono ?_); rintro e w11 ⟨rfl, hb⟩)
  replace hL := below_call hL hb
  clear hb
  rw [wx_bool]
  go_wp2_with fail
  ((with_reducible refine (H.text _ _ (by decide)).mono ?_); rintro e w12 ⟨rfl, hb⟩)
  replace hL := below_call hL hb
  clear hb
  rw [wx_text]
  go_wp2_with fail
  go_ret
  exact ⟨rfl, hL⟩

set_option maxHeartbeats 2000000 in
theorem law_bools_long (H : WireHave) (x : Bool) (s : ByteArray) (i : Int) (w : World) (hs : 2000 < s.size) : Calls Try.prog 6 #[.bool x, .string s, .int .i64 i] w fun e w' => e = .returned (.bool true) ∧ Below w.heap.size w w' := by
  go_enter Try.func6, Try.ntmps6
  go_wp2_with fail
  ((with_reducible refine (awake_any H _).mono ?_); rintro e w1 ⟨rfl, hL⟩)
  go_wp2_with fail
  go_ret
  exact ⟨rfl, hL⟩
set_option maxHeartbeats 2000000 in
theorem law_bools_short (H : WireHave) (x : Bool) (s : ByteArray) (i : Int) (w : World) (hi : I64 i) (hs : s.size ≤ 2000) : Calls Try.prog 6 #[.bool x, .string s, .int .i64 i] w fun e w' => e = .returned (.bool true) ∧ Below w.heap.size w w' := by
  obtain ⟨b, y, er, h⟩ : ∃ b y er, Hid (boolAt s.data.toList i = (b, y, er)) := ⟨_, _, _, hid rfl⟩
  have h6 : s.size ≤ 6010 := by omega
  go_enter Try.func6, Try.ntmps6
  go_wp2_with fail
  ((with_reducible refine (H.takeBool s i _ b y er h6 hi h).mono ?_); rintro e w1 ⟨rfl, hL⟩)
  go_wp2_with fail
  ((with_reducible refine (rtakebool_n s i _ h6 b y er h).mono ?_); rintro e w2 ⟨rfl, hw⟩)
  rw [← hw]
  clear hw
  go_wp2_with fail
  ((with_reducible refine (H.bool x _).mono ?_); rintro e w3 ⟨rfl, hb⟩)
  replace hL := below_call hL hb
  clear hb
  go_wp2_with fail
  ((with_reducible refine (rbool_e x _).mono ?_); rintro e w4 ⟨rfl, hw⟩)
  rw [← hw]
  clear hw
  go_wp2_with fail
  ((with_reducible refine (awake_any H _).mono ?_); rintro e w5 ⟨rfl, hb⟩)
  replace hL := below_call hL hb
  go_wp2_with fail
  go_ret
  exact ⟨rfl, hL⟩
theorem law_bools (H : WireHave) (x : Bool) (s : ByteArray) (i : Int) (w : World) (hi : I64 i) : Calls Try.prog 6 #[.bool x, .string s, .int .i64 i] w fun e w' => e = .returned (.bool true) ∧ Below w.heap.size w w' := by
  by_cases hs : s.size ≤ 2000
  · exact law_bools_short H x s i w hi hs
  · exact law_bools_long H x s i w (by omega)

end Go.Proofs.Ytmpgeipknnoclaa
