/-
  What the reference's places answers: the units that decimal places stand for, and whether they are accepted.
-/
import Derived.Test.YtepkfnohlchpeaaDoorNumParseF
import Derived.Test.YtepkfnohlchpeaaDoorNumRFormat
namespace Go.Proofs.YtepkfnohlchpeaaDoor
open Go.RowKit Go.Lib

/-- The number behind k of eight places. -/
def eightAt (p : List UInt8) (k : Nat) : Nat := val (p.take k) * 10 ^ (k - p.length)
theorem eightAt_dig {s : ByteArray} {k : Nat} (hk : k < s.size) (hd : 48 ≤ (s[k]'hk).toNat) : (eightAt s.data.toList (k + 1) : Int) = (eightAt s.data.toList k : Int) * 10 + (((s[k]'hk).toNat : Int) - 48) := by
  unfold eightAt
  rw [← Lib.size_eq, show k + 1 - s.size = 0 by omega, show k - s.size = 0 by omega, take_snoc s k hk, val_snoc]
  omega
theorem eightAt_fill {s : ByteArray} {k : Nat} (hk : ¬ k < s.size) : (eightAt s.data.toList (k + 1) : Int) = (eightAt s.data.toList k : Int) * 10 := by
  unfold eightAt
  rw [← Lib.size_eq, show k + 1 - s.size = (k - s.size) + 1 by omega, Nat.pow_succ, List.take_of_length_le (by rw [← Lib.size_eq]; omega), List.take_of_length_le (by rw [← Lib.size_eq]; omega), ← Nat.mul_assoc]
  omega
theorem eightAt_lt {s : ByteArray} {k : Nat} (hk : k ≤ 8) (hd : (s.data.toList.take k).all isDig = true) : (eightAt s.data.toList k : Int) < 100000000 := by
  have h1 := val_lt hd
  rw [List.length_take] at h1
  have h2 : eightAt s.data.toList k < 10 ^ k := by
    unfold eightAt
    by_cases h : k ≤ s.data.toList.length
    · rw [show k - s.data.toList.length = 0 by omega, Nat.pow_zero, Nat.mul_one]
      rw [Nat.min_eq_left h] at h1; exact h1
    · rw [Nat.min_eq_right (by omega)] at h1
      have e : 10 ^ k = 10 ^ s.data.toList.length * 10 ^ (k - s.data.toList.length) := by rw [← Nat.pow_add]; congr 1; omega
      rw [e]
      exact Nat.mul_lt_mul_of_pos_right h1 (Nat.pow_pos (by omega))
  have h3 := pow_bound hk
  omega
theorem eightAt_end {s : ByteArray} (hs : s.size ≤ 8) : eightAt s.data.toList 8 = val s.data.toList * 10 ^ (8 - s.size) := by
  unfold eightAt
  rw [← Lib.size_eq, List.take_of_length_le (by rw [← Lib.size_eq]; exact hs)]
theorem units_same (v n : Nat) (h8 : n ≤ 8) : (v * 10 ^ (8 - n) % 390625 = 0 ↔ v * 256 % 10 ^ n = 0) ∧ (v * 256 % 10 ^ n = 0 → v * 10 ^ (8 - n) / 390625 = v * 256 / 10 ^ n) := by
  have hP : 0 < 10 ^ n := Nat.pow_pos (by omega)
  have hQ : 0 < 10 ^ (8 - n) := Nat.pow_pos (by omega)
  have hPQ : 10 ^ n * 10 ^ (8 - n) = 390625 * 256 := by rw [← Nat.pow_add, show n + (8 - n) = 8 by omega]
  generalize 10 ^ n = P at *
  generalize 10 ^ (8 - n) = Q at *
  have to : ∀ t, v * 256 = P * t → v * Q = 390625 * t := fun t h => by
    have e : v * Q * 256 = 390625 * t * 256 := by
      rw [Nat.mul_right_comm, h, Nat.mul_right_comm, hPQ, Nat.mul_right_comm]
    omega
  have back : ∀ t, v * Q = 390625 * t → v * 256 = P * t := fun t h => by
    have e : v * 256 * Q = P * t * Q := by
      rw [Nat.mul_right_comm, h, Nat.mul_right_comm P t Q, hPQ, Nat.mul_right_comm]
    exact Nat.eq_of_mul_eq_mul_right hQ e
  refine ⟨⟨fun h => ?_, fun h => ?_⟩, fun h => ?_⟩
  · obtain ⟨t, ht⟩ := Nat.dvd_of_mod_eq_zero h
    rw [back t ht, Nat.mul_mod_right]
  · obtain ⟨t, ht⟩ := Nat.dvd_of_mod_eq_zero h
    rw [to t ht, Nat.mul_mod_right]
  · obtain ⟨t, ht⟩ := Nat.dvd_of_mod_eq_zero h
    rw [to t ht, ht, Nat.mul_div_cancel_left _ (by omega), Nat.mul_div_cancel_left _ hP]

/-- Where places does not come to its loop. -/
theorem places_out {s : ByteArray} (h : s.size < 1 ∨ 8 < s.size ∨ (∃ h1 : 1 ≤ s.size, s[s.size - 1]'(by omega) = 48)) : fracOK s.data.toList = false := by
  unfold fracOK
  rw [← Lib.size_eq]
  rcases h with h | h | ⟨h1, h⟩
  · rw [decide_eq_false (show ¬ 1 ≤ s.size by omega)]; rfl
  · rw [decide_eq_false (show ¬ s.size ≤ 8 by omega), Bool.and_false]; rfl
  · have e : s.data.toList.getLast? = some 48 := by rw [last_split s h1, h]; simp
    rw [e]; simp
theorem places_nodig {s : ByteArray} {k : Nat} (hk : k < s.size) (h : isDig (s[k]'hk) = false) : fracOK s.data.toList = false := by
  unfold fracOK
  rw [not_all_of hk h]; simp
theorem places_end {s : ByteArray} (h1 : 1 ≤ s.size) (h8 : s.size ≤ 8) (hl : ¬ s[s.size - 1]'(by omega) = 48) (hd : s.data.toList.all isDig = true) :
    fracOK s.data.toList = ((eightAt s.data.toList 8 : Int) % 390625 == 0) ∧ (fracOK s.data.toList = true → (eightAt s.data.toList 8 : Int) / 390625 = (fracU s.data.toList : Int)) := by
  obtain ⟨u1, u2⟩ := units_same (val s.data.toList) s.size h8
  rw [eightAt_end h8]
  have e : (s.data.toList.getLast? == some 48) = false := by
    rw [last_split s h1]
    simpa using hl
  have e2 : fracOK s.data.toList = decide (val s.data.toList * 256 % 10 ^ s.size = 0) := by
    unfold fracOK
    rw [← Lib.size_eq, decide_eq_true h1, decide_eq_true h8, e, hd]
    rfl
  refine ⟨?_, fun h => ?_⟩
  · rw [e2, Bool.eq_iff_iff, decide_eq_true_iff, beq_iff_eq, ← u1]
    omega
  · rw [e2] at h
    have h := u2 (of_decide_eq_true h)
    unfold fracU
    rw [← Lib.size_eq, ← h]
    omega

/-- What 'places' answers. -/
def IsPlaces (p : List UInt8) (w : World) (e : Ending) (w' : World) : Prop := ∃ x : Int, e = .returned (.tuple #[.int .u64 x, .bool (fracOK p)]) ∧ (fracOK p = true → x = (fracU p : Int)) ∧ 0 ≤ x ∧ x < 18446744073709551616 ∧ w = w'
theorem is_out {p : List UInt8} {w : World} (h : fracOK p = false) : IsPlaces p w (.returned (.tuple #[.int .u64 0, .bool false])) w := ⟨0, by rw [h], fun h2 => by rw [h] at h2; simp at h2, by omega, by omega, rfl⟩
theorem is_end {p : List UInt8} {w : World} {x : Int} {b : Bool} (h : fracOK p = b) (hx : fracOK p = true → x = (fracU p : Int)) (h0 : 0 ≤ x) (h1 : x < 18446744073709551616) : IsPlaces p w (.returned (.tuple #[.int .u64 x, .bool b])) w := ⟨x, by rw [h], hx, h0, h1, rfl⟩

set_option maxHeartbeats 1000000 in
theorem rplaces_out (s : ByteArray) (w : World) (hs : s.size ≤ 200) (h : s.size < 1 ∨ 8 < s.size) :
    Calls Tryd.prog 38 #[.string s] w (IsPlaces s.data.toList w) := by
  have HO := Lib.hid (places_out (s := s) (by omega))
  rcases h with h | h
  · go_enter Tryd.func38, Tryd.ntmps38
    go_wp2
    go_ret2
    exact is_out HO.out
  · go_enter Tryd.func38, Tryd.ntmps38
    go_wp2
    go_ret2
    exact is_out HO.out

theorem places_why {s : ByteArray} (h1 : 1 ≤ s.size) (h : ((s.size : Int) < 1 ∨ 8 < (s.size : Int)) ∨ (((s[s.size - 1]'(by omega)).toNat : Int) == 48) = true) : s.size < 1 ∨ 8 < s.size ∨ (∃ _ : 1 ≤ s.size, s[s.size - 1]'(by omega) = 48) := by
  rcases h with (h | h) | h
  · omega
  · omega
  · rw [beq48] at h
    exact Or.inr (Or.inr ⟨h1, eq_of_beq h⟩)
theorem places_last {s : ByteArray} (h1 : 1 ≤ s.size) (h : (1 ≤ (s.size : Int) ∧ (s.size : Int) ≤ 8) ∧ (((s[s.size - 1]'(by omega)).toNat : Int) == 48) = false) : ¬ s[s.size - 1]'(by omega) = 48 := by
  have h2 := h.2
  rw [beq48] at h2
  simpa using h2
theorem eightAt_zero (p : List UInt8) : (0 : Int) = (eightAt p 0 : Int) := by unfold eightAt; simp [val, valAt]
theorem eight_next {s : ByteArray} {k : Nat} {a : Int} (hks : k < s.size) (hdg : isDig (s[k]'hks) = true) (h8 : k < 8) (h : Hid (a = (eightAt s.data.toList k : Int) ∧ (s.data.toList.take k).all isDig = true)) :
    a * 10 + (((s[k]'hks).toNat : Int) - 48) < 100000000 ∧ Hid (a * 10 + (((s[k]'hks).toNat : Int) - 48) = (eightAt s.data.toList (k + 1) : Int) ∧ (s.data.toList.take (k + 1)).all isDig = true) := by
  have h1 := take_all_next hks h.out.2 hdg
  have h2 := eightAt_dig hks ((isDig_iff _).1 hdg).1
  have h3 := eightAt_lt (s := s) (k := k + 1) (by omega) h1
  rw [← h.out.1] at h2
  exact ⟨by omega, h2.symm, h1⟩
theorem eight_fill {s : ByteArray} {k : Nat} {a : Int} (hks : ¬ k < s.size) (h8 : k < 8) (h : Hid (a = (eightAt s.data.toList k : Int) ∧ (s.data.toList.take k).all isDig = true)) :
    a * 10 < 100000000 ∧ Hid (a * 10 = (eightAt s.data.toList (k + 1) : Int) ∧ (s.data.toList.take (k + 1)).all isDig = true) := by
  have h1 : (s.data.toList.take (k + 1)).all isDig = true := by
    have := h.out.2
    rw [List.take_of_length_le (by rw [← Lib.size_eq]; omega)] at this ⊢
    exact this
  have h2 := eightAt_fill hks
  have h3 := eightAt_lt (s := s) (k := k + 1) (by omega) h1
  rw [← h.out.1] at h2
  exact ⟨by omega, h2.symm, h1⟩
theorem eight_end {s : ByteArray} {a : Int} (h1 : 1 ≤ s.size) (h8 : s.size ≤ 8) (hl : Hid (¬ s[s.size - 1]'(by omega) = 48)) (h : Hid (a = (eightAt s.data.toList 8 : Int) ∧ (s.data.toList.take 8).all isDig = true)) :
    Hid (fracOK s.data.toList = (a % 390625 == 0) ∧ (fracOK s.data.toList = true → a / 390625 = (fracU s.data.toList : Int))) := by
  have hd := h.out.2
  rw [List.take_of_length_le (by rw [← Lib.size_eq]; exact h8)] at hd
  rw [h.out.1]
  exact Lib.hid (places_end h1 h8 hl.out hd)

set_option maxHeartbeats 1000000 in
theorem rplaces_zero (s : ByteArray) (w : World) (h1 : 1 ≤ s.size) (h8 : s.size ≤ 8) (hl : (((s[s.size - 1]'(by omega)).toNat : Int) == 48) = true) :
    Calls Tryd.prog 38 #[.string s] w (IsPlaces s.data.toList w) := by
  have HO := Lib.hid (places_out (s := s) (places_why h1 (Or.inr hl)))
  have b1 : decide ((s.size : Int) < 1) = false := decide_eq_false (by omega)
  have b2 : decide (8 < (s.size : Int)) = false := decide_eq_false (by omega)
  go_enter Tryd.func38, Tryd.ntmps38
  go_wp2
  go_ret2
  exact is_out HO.out

set_option maxHeartbeats 2000000 in
theorem rplaces_in (s : ByteArray) (w : World) (h1 : 1 ≤ s.size) (h8 : s.size ≤ 8) (hl : (((s[s.size - 1]'(by omega)).toNat : Int) == 48) = false) :
    Calls Tryd.prog 38 #[.string s] w (IsPlaces s.data.toList w) := by
  have HL := Lib.hid (places_last h1 ⟨⟨by omega, by omega⟩, hl⟩)
  have b1 : decide ((s.size : Int) < 1) = false := decide_eq_false (by omega)
  have b2 : decide (8 < (s.size : Int)) = false := decide_eq_false (by omega)
  go_enter Tryd.func38, Tryd.ntmps38
  go_wp2
  go_loop [4, 5] (fun vf vi => ∃ (k : Nat) (a : Int), vi = .int .i64 k ∧ vf = .int .u64 a ∧ k ≤ 8 ∧ 0 ≤ a ∧ a < 100000000 ∧ Hid (a = (eightAt s.data.toList k : Int) ∧ (s.data.toList.take k).all isDig = true)) (fun _ vi => 8 - (RowKit.intOf vi).toNat)
  case atStart => exact ⟨0, 0, rfl, rfl, by omega, by omega, by omega, Lib.hid ⟨eightAt_zero _, rfl⟩⟩
  case round =>
    obtain ⟨k, a, rfl, rfl, hk, a0, a1, hh⟩ := hrel
    by_cases h8k : k < 8
    · by_cases hks : k < s.size
      · cases hdg : isDig (s[k]'hks) with
        | true =>
          obtain ⟨d0, d1⟩ := (isDig_iff _).1 hdg
          have HN := eight_next hks hdg h8k hh
          clear hh hdg
          go_wp2
          go_round
          case rel => exact ⟨k + 1, _, by go_num, rfl, by omega, by omega, HN.1, HN.2⟩
          case measure => simp [RowKit.intOf]; omega
        | false =>
          have HD := isDig_no hdg
          have HO := Lib.hid (places_nodig hks hdg)
          clear hh hdg
          rcases (show (s[k]'hks).toNat < 48 ∨ 57 < (s[k]'hks).toNat by omega) with hlo | hhi
          · clear HD
            go_wp2
            go_ret2
            exact is_out HO.out
          · have h48 : 48 ≤ (s[k]'hks).toNat := by omega
            clear HD
            go_wp2
            go_ret2
            exact is_out HO.out
      · have HN := eight_fill hks h8k hh
        clear hh
        go_wp2
        go_round
        case rel => exact ⟨k + 1, _, by go_num, rfl, by omega, by omega, HN.1, HN.2⟩
        case measure => simp [RowKit.intOf]; omega
    · obtain rfl : k = 8 := by omega
      have HE := eight_end h1 h8 HL hh
      clear hh
      go_wp2
      go_ret2
      exact is_end HE.out.1 HE.out.2 (by omega) (by omega)

/-- The reference's places, at every text of at most 200 bytes. -/
theorem rplaces_any (s : ByteArray) (w : World) (hs : s.size ≤ 200) :
    Calls Tryd.prog 38 #[.string s] w (IsPlaces s.data.toList w) := by
  by_cases h : s.size < 1 ∨ 8 < s.size
  · exact rplaces_out s w hs h
  · have h1 : 1 ≤ s.size := by omega
    cases hl : (((s[s.size - 1]'(by omega)).toNat : Int) == 48) with
    | true => exact rplaces_zero s w h1 (by omega) hl
    | false => exact rplaces_in s w h1 (by omega) hl

end Go.Proofs.YtepkfnohlchpeaaDoor
