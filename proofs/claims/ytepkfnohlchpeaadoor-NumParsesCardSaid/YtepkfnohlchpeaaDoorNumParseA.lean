/-
  The small parts of num.Parse: fraction, signed.
-/
import Derived.Test.YtepkfnohlchpeaaDoorNumEnv
import Derived.Test.YtepkfnohlchpeaaDoorNumSpec
namespace Go.Proofs.YtepkfnohlchpeaaDoor
open Go.RowKit Go.Lib

/-- Whether the places stand for whole units. -/
def fracB (p : List UInt8) : Bool := decide (p.length ≤ 8) && decide (val p * 256 % 10 ^ p.length = 0)
def fracV (p : List UInt8) : Int := if fracB p then (fracU p : Int) else 0

theorem take_snoc (s : ByteArray) (k : Nat) (h : k < s.size) : s.data.toList.take (k + 1) = s.data.toList.take k ++ [s[k]] := by
  rw [List.take_succ_eq_append_getElem (by simpa using h)]; rfl
theorem dig_at {s : ByteArray} (h : s.data.toList.all isDig = true) (k : Nat) (hk : k < s.size) : 48 ≤ (s[k]'hk).toNat ∧ (s[k]'hk).toNat ≤ 57 := by
  rw [List.all_eq_true] at h
  exact (isDig_iff _).1 (h _ (by show s.data[k] ∈ s.data.toList; exact Array.mem_toList_iff.2 (Array.getElem_mem _)))
theorem take_dig {s : ByteArray} (h : s.data.toList.all isDig = true) (k : Nat) : (s.data.toList.take k).all isDig = true := by
  rw [List.all_eq_true] at *
  exact fun x hx => h x (List.mem_of_mem_take hx)
theorem pow_bound {k : Nat} (h : k ≤ 8) : 1 ≤ 10 ^ k ∧ 10 ^ k ≤ 100000000 := by
  have h1 : 10 ^ k ≤ 10 ^ 8 := Nat.pow_le_pow_right (by omega) h
  have h2 : 0 < 10 ^ k := Nat.pow_pos (by omega)
  have h3 : 10 ^ 8 = 100000000 := by decide
  omega

/-- The state of fraction's loop behind k places. -/
def FracAt (l : List UInt8) (k : Nat) (a b : Int) : Prop := a = (val (l.take k) : Int) ∧ b = ((10 ^ k : Nat) : Int)
theorem frac_start (l : List UInt8) : FracAt l 0 0 1 := ⟨by simp [val, valAt], by simp⟩
theorem frac_next {s : ByteArray} {k : Nat} {a b : Int} (hk : k < s.size) (h : FracAt s.data.toList k a b) (hd : 48 ≤ (s[k]'hk).toNat) : FracAt s.data.toList (k + 1) (a * 10 + (((s[k]'hk).toNat : Int) - 48)) (b * 10) := by
  obtain ⟨h1, h2⟩ := h
  refine ⟨?_, ?_⟩
  · rw [take_snoc s k hk, val_snoc, h1]; omega
  · rw [Nat.pow_succ, h2]; omega
theorem frac_bound {s : ByteArray} {k : Nat} {a b : Int} (hk : k ≤ 8) (hks : k ≤ s.size) (h : FracAt s.data.toList k a b) (hd : s.data.toList.all isDig = true) : 0 ≤ a ∧ a < b ∧ 1 ≤ b ∧ b ≤ 100000000 := by
  obtain ⟨h1, h2⟩ := h
  have h3 := val_lt (take_dig hd k)
  rw [List.length_take, ← Lib.size_eq, Nat.min_eq_left hks] at h3
  have h4 := pow_bound hk
  omega
theorem frac_end {s : ByteArray} {a b : Int} (hs : s.size ≤ 8) (h : FracAt s.data.toList s.size a b) :
    (a * 256 % b = 0 → a * 256 / b = fracV s.data.toList ∧ true = fracB s.data.toList) ∧ (¬ a * 256 % b = 0 → (0 : Int) = fracV s.data.toList ∧ false = fracB s.data.toList) := by
  obtain ⟨h1, h2⟩ := h
  rw [List.take_of_length_le (by rw [← Lib.size_eq]; omega)] at h1
  have e1 : a * 256 % b = ((val s.data.toList * 256 % 10 ^ s.size : Nat) : Int) := by rw [h1, h2]; simp
  have e2 : a * 256 / b = ((val s.data.toList * 256 / 10 ^ s.size : Nat) : Int) := by rw [h1, h2]; simp
  rw [e1, e2]
  unfold fracV fracB fracU
  rw [← Lib.size_eq, decide_eq_true hs, Bool.true_and]
  refine ⟨fun h0 => ?_, fun h0 => ?_⟩
  · rw [decide_eq_true (by omega)]; exact ⟨rfl, rfl⟩
  · rw [decide_eq_false (by omega)]; exact ⟨rfl, rfl⟩
theorem frac_long {s : ByteArray} (h : 8 < s.size) : (0 : Int) = fracV s.data.toList ∧ false = fracB s.data.toList := by
  unfold fracV fracB
  rw [← Lib.size_eq, decide_eq_false (by omega), Bool.false_and]
  exact ⟨rfl, rfl⟩

theorem ret_ib {k : IntKind} {a b : Int} {c d : Bool} (h : a = b ∧ c = d) : Ending.returned (.tuple #[.int k a, .bool c]) = .returned (.tuple #[.int k b, .bool d]) := by rw [h.1, h.2]

set_option maxHeartbeats 400000 in
/-- num.fraction at decimal digits. -/
theorem fraction_any (s : ByteArray) (w : World) (hm : s.size ≤ 200) (hd : Hid (s.data.toList.all isDig = true)) :
    Calls Tryd.prog 34 #[.string s] w fun e w' => e = .returned (.tuple #[.int .u64 (fracV s.data.toList), .bool (fracB s.data.toList)]) ∧ w = w' := by
  by_cases h : 8 < s.size
  · have HL := Lib.hid (frac_long h)
    go_enter Tryd.func34, Tryd.ntmps34
    go_wp2
    go_ret2
    exact ⟨ret_ib HL.out, rfl⟩
  · go_enter Tryd.func34, Tryd.ntmps34
    go_wp2
    go_loop [4, 5, 12] (fun vn vs vi => ∃ (k : Nat) (a b : Int), vi = .int .i64 k ∧ vn = .int .u64 a ∧ vs = .int .u64 b ∧ k ≤ s.size ∧ Hid (FracAt s.data.toList k a b)) (fun _ _ vi => s.size - (RowKit.intOf vi).toNat)
    case atStart => exact ⟨0, 0, 1, rfl, rfl, rfl, by omega, Lib.hid (frac_start _)⟩
    case round =>
      obtain ⟨k, a, b, rfl, rfl, rfl, hk, hF⟩ := hrel
      obtain ⟨a0, a1, b0, b1⟩ := frac_bound (by omega) hk hF.out hd.out
      by_cases hlt : k < s.size
      · obtain ⟨d0, d1⟩ := dig_at hd.out k hlt
        have HN := Lib.hid (frac_next hlt hF.out d0)
        clear hF
        go_wp2
        go_round
        case rel => exact ⟨k + 1, _, _, by go_num, rfl, rfl, by omega, HN⟩
        case measure => simp [RowKit.intOf]; omega
      · obtain rfl : k = s.size := by omega
        have HE := Lib.hid (frac_end (by omega) hF.out)
        clear hF
        go_wp2
        · go_ret2; exact ⟨ret_ib (HE.out.2 (by simpa using ‹(a * 256 % b != 0) = true›)), rfl⟩
        · go_ret2; exact ⟨ret_ib (HE.out.1 (by simpa using ‹(a * 256 % b != 0) = false›)), rfl⟩

/-- What 'signed' answers. -/
def signV (neg : Bool) (u : Int) : Int × Int := if neg then (if u ≤ 9223372036854775808 then (-u, 0) else (0, 3)) else (if u ≤ 9223372036854775807 then (u, 0) else (0, 3))
theorem sign_pos {u : Int} : (u ≤ 9223372036854775807 → u = (signV false u).1 ∧ (0 : Int) = (signV false u).2) ∧ (9223372036854775807 < u → (0 : Int) = (signV false u).1 ∧ (3 : Int) = (signV false u).2) := by
  unfold signV
  refine ⟨fun h => ?_, fun h => ?_⟩
  · simp [h]
  · have h' : ¬ u ≤ 9223372036854775807 := by omega
    simp [h']
theorem sign_neg {u : Int} (h0 : 0 ≤ u) : (u ≤ 9223372036854775808 → wrap64 (IntKind.u64.wrap (-u)) = (signV true u).1 ∧ (0 : Int) = (signV true u).2) ∧ (9223372036854775808 < u → (0 : Int) = (signV true u).1 ∧ (3 : Int) = (signV true u).2) := by
  unfold signV
  refine ⟨fun h => ?_, fun h => ?_⟩
  · rw [IntKind.wrap_u64]; unfold wrap64; simp [h]; omega
  · have h' : ¬ u ≤ 9223372036854775808 := by omega
    simp [h']

set_option maxHeartbeats 400000 in
theorem signed_any (u : Int) (neg : Bool) (w : World) (h0 : 0 ≤ u) (h1 : u < 18446744073709551616) :
    Calls Tryd.prog 36 #[.int .u64 u, .bool neg] w fun e w' => e = .returned (.tuple #[.int .i64 (signV neg u).1, .int .i64 (signV neg u).2]) ∧ w = w' := by
  have HP := Lib.hid (sign_pos (u := u))
  have HN := Lib.hid (sign_neg h0)
  cases neg
  · go_enter Tryd.func36, Tryd.ntmps36
    go_wp2
    · go_ret2; exact ⟨ret_both (HP.out.1 ‹_›), rfl⟩
    · go_ret2; exact ⟨ret_both (HP.out.2 ‹_›), rfl⟩
  · go_enter Tryd.func36, Tryd.ntmps36
    go_wp2
    · go_ret2; exact ⟨ret_both (HN.out.1 ‹_›), rfl⟩
    · go_ret2; exact ⟨ret_both (HN.out.2 ‹_›), rfl⟩
end Go.Proofs.YtepkfnohlchpeaaDoor
