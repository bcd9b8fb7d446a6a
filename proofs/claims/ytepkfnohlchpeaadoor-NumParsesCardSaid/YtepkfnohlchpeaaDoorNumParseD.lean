/-
  strconv.ParseUint of decimal digits at 56 bits.
-/
import Derived.Test.YtepkfnohlchpeaaDoorNumParseA
import Derived.Lib.ConvBytes
import Derived.Lib.AtoiErrMem
namespace Go.Proofs.YtepkfnohlchpeaaDoor
open Go.RowKit Go.Lib

/-- The state behind k digits: the number so far, not over the size. -/
def ValAt (l : List UInt8) (k : Nat) (a : Int) : Prop := a = (val (l.take k) : Int) ∧ val (l.take k) ≤ 72057594037927935
theorem val_split (l : List UInt8) (k : Nat) : val l = valAt (val (l.take k)) (l.drop k) := by
  unfold val valAt
  rw [← List.foldl_append, List.take_append_drop]
theorem valAt_next {s : ByteArray} {k : Nat} {a : Int} (hk : k < s.size) (h : ValAt s.data.toList k a) (hd : 48 ≤ (s[k]'hk).toNat) (hle : a * 10 + (((s[k]'hk).toNat : Int) - 48) ≤ 72057594037927935) : ValAt s.data.toList (k + 1) (a * 10 + (((s[k]'hk).toNat : Int) - 48)) := by
  obtain ⟨h1, h2⟩ := h
  unfold ValAt
  rw [take_snoc s k hk, val_snoc]
  omega
theorem valAt_over {s : ByteArray} {k : Nat} {a : Int} (hk : k < s.size) (h : ValAt s.data.toList k a) (hd : 48 ≤ (s[k]'hk).toNat) (hle : 72057594037927935 < a * 10 + (((s[k]'hk).toNat : Int) - 48)) : 72057594037927935 < val s.data.toList := by
  obtain ⟨h1, h2⟩ := h
  have h3 := valAt_ge (s.data.toList.drop (k + 1)) (val (s.data.toList.take (k + 1)))
  rw [← val_split, take_snoc s k hk, val_snoc] at h3
  omega
theorem valAt_end {s : ByteArray} {a : Int} (h : ValAt s.data.toList s.size a) : a = (val s.data.toList : Int) ∧ val s.data.toList ≤ 72057594037927935 := by
  unfold ValAt at h
  rw [List.take_of_length_le (by rw [← Lib.size_eq]; omega)] at h
  exact h

/-- What 'ParseUint' of digits answers: the number, or the greatest number of 56 bits and an error. -/
def UintEnd (T : TypeId) (l : List UInt8) (e : Ending) : Prop :=
  (val l ≤ 72057594037927935 ∧ e = .returned (.tuple #[.int .u64 (val l : Int), .nilIface])) ∨ (72057594037927935 < val l ∧ e = .returned (.tuple #[.int .u64 72057594037927935, .iface T (.int .i64 1)]))

set_option maxHeartbeats 4000000 in
set_option maxRecDepth 100000 in
theorem parseUintI_any (t : ByteArray) (hne : t.size ≠ 0) (hmax : t.size ≤ 200) (hd : Hid (t.data.toList.all isDig = true)) (w : World) :
    Calls Tryd.prog 45 #[.string t, .int .i64 10, .int .i64 56] w fun e w' => UintEnd 66 t.data.toList e ∧ Below w.heap.size w w' := by
  have hemp : t.toList.isEmpty = false := by
    rw [← decide_eq_emptyBytes]
    exact decide_eq_false (fun h => hne (by rw [h]; rfl))
  have hcv := Lib.run_convert_string_bytes (P := Tryd.prog) w 9 42 5 t (u := .string) Tryd.underlying9 Tryd.underlying42 Tryd.underlying5
  have hB : ∀ j, j < t.size → (Lib.bytesWorld w 5 t).cell? ⟨w.heap.size, j, none⟩ = some (.int .u8 (t.data.toList.getD j 0).toNat) := fun j hj => Lib.bytesWorld_cell w 5 t j hj
  have HW := Lib.hid (Lib.bytesWorld_below w 5 t)
  obtain ⟨W1, hW1⟩ : ∃ W1, W1 = Lib.bytesWorld w 5 t := ⟨_, rfl⟩
  rw [← hW1] at hcv hB HW
  clear hW1
  have hmv : IntKind.u64.wrap (IntKind.u64.wrap 72057594037927936 - 1) = 72057594037927935 := by
    rw [IntKind.wrap_u64, IntKind.wrap_u64]
    decide
  go_enter Tryd.func45, Tryd.ntmps45
  go_wp2
  go_loop [12, 13, 101] (fun vu vn vi => ∃ (k : Nat) (a : Int), vu = .bool false ∧ vn = .int .u64 a ∧ vi = .int .i64 k ∧ k ≤ t.size ∧ 0 ≤ a ∧ a ≤ 72057594037927935 ∧ Hid (ValAt t.data.toList k a))
    (fun _ _ vi => t.size - (RowKit.intOf vi).toNat)
  case atStart => exact ⟨0, 0, rfl, rfl, rfl, by omega, by omega, by omega, Lib.hid ⟨rfl, Nat.zero_le _⟩⟩
  case round =>
    obtain ⟨k, a, rfl, rfl, rfl, hk, a0, a1, hh⟩ := hrel
    by_cases hkn : k < t.size
    · have hc := hB k hkn
      have hget : t.data.toList.getD k 0 = t[k]'hkn := by rw [List.getD_eq_getElem?_getD, List.getElem?_eq_getElem (by rw [← Lib.size_eq]; exact hkn)]; rfl
      rw [hget] at hc
      obtain ⟨d0, d1⟩ := dig_at hd.out k hkn
      clear hB hget
      have HN := Lib.hid (valAt_next hkn hh.out d0)
      have HO := Lib.hid (valAt_over hkn hh.out d0)
      clear hh
      generalize t[k]'hkn = c at *
      by_cases hov : 72057594037927935 < a * 10 + ((c.toNat : Int) - 48)
      · have HO2 := Lib.hid (HO.out hov)
        clear HN HO
        go_wp2
        go_ret2
        exact ⟨Or.inr ⟨HO2.out, rfl⟩, HW.out⟩
      · have HN2 := Lib.hid (HN.out (by omega))
        have hov2 : a * 10 + ((c.toNat : Int) - 48) ≤ 72057594037927935 := by omega
        clear HN HO hov
        go_wp2
        go_round
        case rel => exact ⟨k + 1, _, rfl, rfl, by go_num, by omega, by omega, by omega, HN2⟩
        case measure => simp [RowKit.intOf]; omega
    · obtain rfl : k = t.size := by omega
      obtain ⟨e1, e2⟩ := valAt_end hh.out
      have HE := Lib.hid e1
      have HE2 := Lib.hid e2
      clear hh e1 e2
      go_wp2
      go_ret2
      exact ⟨Or.inl ⟨HE2.out, ret_two HE.out⟩, HW.out⟩

set_option maxHeartbeats 1000000 in
/-- strconv.ParseUint of decimal digits that make a number of at most 56 bits. -/
theorem parseUint_fits (t : ByteArray) (hne : t.size ≠ 0) (hmax : t.size ≤ 200) (hd : Hid (t.data.toList.all isDig = true)) (w : World) (V : Int) (hV : Hid (V = (val t.data.toList : Int))) (hfit : Hid (val t.data.toList ≤ 72057594037927935)) :
    Calls Tryd.prog 35 #[.string t, .int .i64 10, .int .i64 56] w fun e w' => e = .returned (.tuple #[.int .u64 V, .nilIface]) ∧ Below w.heap.size w w' := by
  have hc : Calls Tryd.prog 45 #[.string t, .int .i64 10, .int .i64 56] w fun e w' => e = .returned (.tuple #[.int .u64 V, .nilIface]) ∧ Below w.heap.size w w' :=
    (parseUintI_any t hne hmax hd w).mono fun e w' ⟨he, hb⟩ => by
      rcases he with ⟨_, he⟩ | ⟨h, _⟩
      · rw [hV.out]; exact ⟨he, hb⟩
      · have := hfit.out; omega
  go_enter Tryd.func35, Tryd.ntmps35
  go_wp2_with fail
  refine hc.mono ?_
  rintro e w1 ⟨rfl, hb⟩
  go_wp2_with fail
  go_ret2
  exact ⟨rfl, hb⟩

def IsErr (w : World) (e : Ending) (w' : World) : Prop := ∃ x T p, e = .returned (.tuple #[.int .u64 x, .iface T p]) ∧ Below w.heap.size w w'

set_option maxHeartbeats 1000000 in
/-- .. and of digits that make a greater one: an error. -/
theorem parseUint_over (t : ByteArray) (hne : t.size ≠ 0) (hmax : t.size ≤ 200) (hd : Hid (t.data.toList.all isDig = true)) (w : World) (hE : Hid (Env w)) (hfit : Hid (72057594037927935 < val t.data.toList)) :
    Calls Tryd.prog 35 #[.string t, .int .i64 10, .int .i64 56] w (IsErr w) := by
  have hc : Calls Tryd.prog 45 #[.string t, .int .i64 10, .int .i64 56] w fun e w' => e = .returned (.tuple #[.int .u64 72057594037927935, .iface 66 (.int .i64 1)]) ∧ Below w.heap.size w w' :=
    (parseUintI_any t hne hmax hd w).mono fun e w' ⟨he, hb⟩ => by
      rcases he with ⟨h, _⟩ | ⟨_, he⟩
      · have := hfit.out; omega
      · exact ⟨he, hb⟩
  go_enter Tryd.func35, Tryd.ntmps35
  go_wp2_with fail
  refine hc.mono ?_
  rintro e w1 ⟨rfl, hb⟩
  have HB := Lib.hid hb
  have HE1 := Lib.hid (hE.out.below hb hE.out.big)
  clear hb
  go_wp2_with fail
  obtain ⟨te, pe, hr⟩ := HE1.out.rng
  refine (Tryd.strconv_toError_range _ t 10 56 _ w1 (by omega) hr (Or.inr ⟨te, pe, rfl⟩)).mono ?_
  rintro e w2 ⟨N, rfl, _, _, hb2⟩
  have HB2 := Lib.hid (HB.out.trans (hb2.mono HB.out.size))
  clear hb2 hr
  go_wp2_with fail
  go_ret2
  exact ⟨_, _, _, rfl, HB2.out⟩

end Go.Proofs.YtepkfnohlchpeaaDoor
