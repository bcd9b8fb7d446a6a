/-
  What the reference's Digits answers: the decimal digits.
-/
import Derived.Test.YtepkfnohlchpeaaDoorShelf
import Derived.Test.YtepkfnohlchpeaaDoorKit
import Derived.Lib.ItoaNum
namespace Go.Proofs.YtepkfnohlchpeaaDoor
open Go.RowKit Go.Lib

theorem decDigits_len20 {n : Nat} (h : n < 18446744073709551616) : (Lib.decDigits n).length ≤ 20 := by
  rw [decDigits_length]
  by_cases h1 : n < 1
  · rw [nDigits_small (by omega)]; omega
  · have h2 := numDigits_eq n (by omega) h
    split at h2 <;> omega
theorem dig_ofNat (k : Nat) : UInt8.ofNat (48 + k) = 48 + UInt8.ofNat k := by simp [UInt8.ofNat_add]
theorem digits_step {m n : Nat} {t : ByteArray} (h9 : 9 < m) (h : Lib.decDigits m ++ t.data.toList = Lib.decDigits n) :
    Lib.decDigits (m / 10) ++ (ByteArray.mk #[48 + UInt8.ofNat (m % 10)] ++ t).data.toList = Lib.decDigits n := by
  rw [decDigits, dif_neg (by omega)] at h
  rw [← h, ByteArray.data_append, dig_ofNat]
  simp
theorem digits_last {m n : Nat} {t : ByteArray} (h9 : ¬ 9 < m) (h : Lib.decDigits m ++ t.data.toList = Lib.decDigits n) :
    ByteArray.mk #[48 + UInt8.ofNat m] ++ t = ⟨(Lib.decDigits n).toArray⟩ := by
  rw [decDigits_one (by omega)] at h
  apply ByteArray.ext
  rw [ByteArray.data_append, ← h, dig_ofNat]
  simp
theorem digits_size {m n : Nat} {t : ByteArray} (hn : n < 18446744073709551616) (h : Lib.decDigits m ++ t.data.toList = Lib.decDigits n) : t.size ≤ 20 := by
  have h1 := decDigits_len20 hn
  rw [← h, List.length_append] at h1
  rw [Lib.size_eq]
  omega

set_option maxHeartbeats 400000 in
theorem digits_any (n : Nat) (w : World) (hn : n < 18446744073709551616) :
    Calls Tryd.prog 37 #[.int .u64 n] w fun e w' => e = .returned (.string ⟨(Lib.decDigits n).toArray⟩) ∧ Below w.heap.size w w' := by
  have kc := conv_one (P := Tryd.prog) Tryd.underlying42 Tryd.underlying5 Tryd.underlying9
  go_enter Tryd.func37, Tryd.ntmps37
  go_wp2
  go_loopw [0, 3] (fun v s wr => ∃ (m : Nat) (t : ByteArray), v = .int .u64 m ∧ s = .string t ∧ m ≤ n ∧ Hid (Lib.decDigits m ++ t.data.toList = Lib.decDigits n) ∧ Below w.heap.size w wr) (fun v _ _ => (RowKit.intOf v).toNat)
  case atStart => exact ⟨n, _, rfl, rfl, Nat.le_refl _, Lib.hid (by simp), Below.refl _ _⟩
  case round =>
    obtain ⟨m, t, rfl, rfl, hm, hd, hb⟩ := hrel
    have ht := digits_size hn hd.out
    by_cases h9 : 9 < m
    · have HS := Lib.hid (digits_step h9 hd.out)
      clear hd
      go_wp2
      go_roundw
      case rel => exact ⟨m / 10, _, by go_num, rfl, by omega, HS, hb.alloc hb.size _⟩
      case measure => simp [RowKit.intOf]; omega
    · have HS := Lib.hid (digits_last h9 hd.out)
      clear hd
      go_wp2
      go_ret
      exact ⟨ret_str HS.out, hb.alloc hb.size _⟩
end Go.Proofs.YtepkfnohlchpeaaDoor
