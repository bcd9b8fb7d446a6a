/-
  NumParses answers true for all texts.
-/
import Derived.Test.YtepkfnohlchpeaaDoorLawFormats
import Derived.Test.YtepkfnohlchpeaaDoorNumRParseN
namespace Go.Proofs.YtepkfnohlchpeaaDoor
open Go.RowKit Go.Lib

set_option maxHeartbeats 1000000 in
theorem rparse_empty (w : World) :
    Calls Tryd.prog 25 #[.string ByteArray.empty] w fun e w' => e = .returned (.tuple #[.int .i64 0, .int .i64 5]) ∧ w = w' := by
  go_enter Tryd.func25, Tryd.ntmps25
  go_wp2
  go_loop [5, 6, 7] (fun vk va vl => vk = .int .i64 0 ∧ va = .int .u64 0 ∧ vl = .bool false) (fun _ _ _ => 0)
  case atStart => exact ⟨rfl, rfl, rfl⟩
  case round =>
    obtain ⟨rfl, rfl, rfl⟩ := hrel
    go_wp2
    go_ret2
    exact ⟨rfl, rfl⟩

theorem rparse_any (s : ByteArray) (w : World) (hs : s.size ≤ 200) (Q : Int × Int) (hQ : Hid (parseL s.data.toList = Q)) :
    Calls Tryd.prog 25 #[.string s] w fun e w' => e = .returned (.tuple #[.int .i64 Q.1, .int .i64 Q.2]) ∧ w = w' := by
  by_cases h0 : s.size = 0
  · have e : s = ByteArray.empty := by apply ByteArray.ext; apply Array.eq_empty_of_size_eq_zero; exact h0
    have hQ2 := hQ.out
    rw [e] at hQ2 ⊢
    have e2 : Q = (0, 5) := hQ2.symm
    rw [e2]
    exact rparse_empty w
  · have hp : 0 < s.size := by omega
    cases h45 : (((s[0]'hp).toNat : Int) == 45) with
    | false =>
      refine rparse_pos s w hs hp h45 Q (Lib.hid ?_)
      rw [← hQ.out]
      unfold parseL
      rw [if_neg]
      rw [head_at hp]
      intro e
      injection e with e
      rw [e] at h45
      simp at h45
    | true =>
      have hc : s[0]'hp = 45 := by
        have := beq_iff_eq.1 h45
        exact UInt8.toNat_inj.1 (by show (s[0]'hp).toNat = 45; omega)
      refine rparse_neg s (s.extract 1 s.size) w hs (ext_size s 1 hs) hp h45 rfl Q (Lib.hid ?_)
      rw [← hQ.out]
      unfold parseL
      rw [if_pos (by rw [head_at hp, hc])]
      congr 1
      rw [ByteArray.data_extract, Array.toList_extract, List.extract_eq_take_drop, ← List.drop_one]
      exact (List.take_of_length_le (by rw [List.length_drop, ← Lib.size_eq]; omega)).symm

theorem fin_range {neg : Bool} {u : Nat} {v x : Int} (h : fin neg u = (v, x)) : -9223372036854775808 ≤ v ∧ v ≤ 9223372036854775807 := by
  unfold fin at h
  cases neg with
  | true =>
    rw [if_pos rfl] at h
    by_cases h0 : u = 0
    · rw [if_pos h0] at h; injection h with h1 _; omega
    · rw [if_neg h0] at h
      by_cases h2 : u ≤ 9223372036854775808
      · rw [if_pos h2] at h; injection h with h1 _; omega
      · rw [if_neg h2] at h; injection h with h1 _; omega
  | false =>
    rw [if_neg (by decide)] at h
    by_cases h2 : u ≤ 9223372036854775807
    · rw [if_pos h2] at h; injection h with h1 _; omega
    · rw [if_neg h2] at h; injection h with h1 _; omega
theorem body_range {neg : Bool} {b : List UInt8} {v x : Int} (h : parseB neg b = (v, x)) : -9223372036854775808 ≤ v ∧ v ≤ 9223372036854775807 := by
  unfold parseB at h
  cases hr : b.dropWhile isDig with
  | nil =>
    rw [hr] at h
    dsimp only at h
    cases hw : wholeOK (b.takeWhile isDig) with
    | false => rw [hw] at h; injection h with h1 _; omega
    | true => rw [hw, if_pos rfl] at h; exact fin_range h
  | cons c p =>
    rw [hr] at h
    dsimp only at h
    cases hw : (wholeOK (b.takeWhile isDig) && c == 46 && fracOK p) with
    | false => rw [hw] at h; injection h with h1 _; omega
    | true => rw [hw, if_pos rfl] at h; exact fin_range h
theorem parse_range {l : List UInt8} {v x : Int} (h : parseL l = (v, x)) : -9223372036854775808 ≤ v ∧ v ≤ 9223372036854775807 := by
  unfold parseL at h
  split at h
  · exact body_range h
  · exact body_range h

theorem rparse_n (s : ByteArray) (v x : Int) (w : World) (hs : s.size ≤ 200) (hv : Hid (parseL s.data.toList = (v, x))) :
    Calls Tryd.prog 25 #[.string s] w fun e w' => e = .returned (.tuple #[.int .i64 v, .int .i64 x]) ∧ w = w' :=
  rparse_any s w hs (v, x) hv

set_option maxHeartbeats 1000000 in
theorem parses_long (s : ByteArray) (w : World) (hE : Hid (Env w)) (hs : 200 < s.size) (hm : s.size ≤ 9223372036854775807) :
    Calls Tryd.prog 9 #[.string s] w fun e w' => e = .returned (.bool true) ∧ Below w.heap.size w w' := by
  go_enter Tryd.func9, Tryd.ntmps9
  go_wp2_with fail
  ((with_reducible refine (awake_any _ hE).mono ?_); rintro e w1 ⟨rfl, hb1⟩)
  have HB := Lib.hid hb1
  clear hb1
  go_wp2_with fail
  go_ret
  exact ⟨rfl, HB.out⟩

set_option maxHeartbeats 1000000 in
theorem parses_err (s : ByteArray) (v x : Int) (w : World) (hE : Hid (Env w)) (hs : s.size ≤ 200) (hv : Hid (parseL s.data.toList = (v, x))) (hx : (x != 0) = true) :
    Calls Tryd.prog 9 #[.string s] w fun e w' => e = .returned (.bool true) ∧ Below w.heap.size w w' := by
  go_enter Tryd.func9, Tryd.ntmps9
  go_wp2_with fail
  ((with_reducible refine (parse_n s v x _ hE hs hv).mono ?_); rintro e w1 ⟨rfl, hb1⟩)
  have HB := Lib.hid hb1
  have HE := Lib.hid (hE.out.below hb1 hE.out.big)
  clear hb1
  go_wp2_with fail
  ((with_reducible refine (rparse_n s v x _ hs hv).mono ?_); rintro e w' ⟨rfl, rfl⟩)
  go_wp2_with fail
  ((with_reducible refine (awake_any _ HE).mono ?_); rintro e w2 ⟨rfl, hb2⟩)
  have HB2 := Lib.hid (HB.out.trans (hb2.mono HB.out.size))
  clear hb2
  go_wp2_with fail
  go_ret
  exact ⟨rfl, HB2.out⟩

set_option maxHeartbeats 1000000 in
theorem parses_fine (s : ByteArray) (v : Int) (w : World) (hE : Hid (Env w)) (hs : s.size ≤ 200) (hv : Hid (parseL s.data.toList = (v, 0))) (v0 : -9223372036854775808 ≤ v) (v1 : v ≤ 9223372036854775807) (hf : Hid (s = ⟨(fmtL v).toArray⟩)) :
    Calls Tryd.prog 9 #[.string s] w fun e w' => e = .returned (.bool true) ∧ Below w.heap.size w w' := by
  go_enter Tryd.func9, Tryd.ntmps9
  go_wp2_with fail
  ((with_reducible refine (parse_n s v 0 _ hE hs hv).mono ?_); rintro e w1 ⟨rfl, hb1⟩)
  have HB := Lib.hid hb1
  have HE := Lib.hid (hE.out.below hb1 hE.out.big)
  clear hb1
  go_wp2_with fail
  ((with_reducible refine (rparse_n s v 0 _ hs hv).mono ?_); rintro e w' ⟨rfl, rfl⟩)
  go_wp2_with fail
  ((with_reducible refine (format_n v s _ v0 v1 HE hf).mono ?_); rintro e w2 ⟨rfl, hb2⟩)
  have HB2 := Lib.hid (HB.out.trans (hb2.mono HB.out.size))
  have HE2 := Lib.hid (hE.out.below HB2.out hE.out.big)
  clear hb2
  go_wp2_with fail
  ((with_reducible refine (awake_any _ HE2).mono ?_); rintro e w3 ⟨rfl, hb3⟩)
  have HB3 := Lib.hid (HB2.out.trans (hb3.mono HB2.out.size))
  clear hb3
  go_wp2_with fail
  go_ret
  exact ⟨rfl, HB3.out⟩

theorem parses_any (s : ByteArray) (w : World) (hE : Env w) (hm : s.size ≤ maxLen) :
    Calls Tryd.prog 9 #[.string s] w fun e w' => e = .returned (.bool true) ∧ Below w.heap.size w w' := by
  unfold maxLen at hm
  by_cases h : 200 < s.size
  · exact parses_long s w (Lib.hid hE) h (by omega)
  · obtain ⟨v, x, hv⟩ : ∃ v x, parseL s.data.toList = (v, x) := ⟨_, _, rfl⟩
    by_cases hx : x = 0
    · subst hx
      obtain ⟨v0, v1⟩ := parse_range hv
      refine parses_fine s v w (Lib.hid hE) (by omega) (Lib.hid hv) v0 v1 (Lib.hid ?_)
      rw [fmt_parse hv]
    · exact parses_err s v x w (Lib.hid hE) (by omega) (Lib.hid hv) (by simpa using hx)

end Go.Proofs.YtepkfnohlchpeaaDoor
