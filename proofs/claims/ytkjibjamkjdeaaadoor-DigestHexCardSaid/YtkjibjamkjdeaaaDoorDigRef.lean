/-
  What the reference of digest answers.
-/
import Derived.Test.YtkjibjamkjdeaaaDoorProg
import Derived.WalkKit
import Derived.IntWalk
import Derived.WalkSpells
import Derived.WalkLawsBesides
import Derived.Deep.QuietTactic
import Derived.BigQuiet
import Derived.Lib.Hide
import Derived.Lib.Walk
import Derived.Lib.Strings
import Derived.LoopN
import Derived.Laws.BitsAllLaws
import Derived.Test.YtkjibjamkjdeaaaDoorKit
import Derived.Test.YtkjibjamkjdeaaaDoorBox
import Derived.Test.YtkjibjamkjdeaaaDoorDigMath
namespace Go.Proofs.YtkjibjamkjdeaaaDoor
open Go.RowKit Go.Lib

/-- A text of bytes. -/
def bs (l : List UInt8) : ByteArray := ⟨l.toArray⟩
theorem bs_list (l : List UInt8) : (bs l).data.toList = l := by unfold bs; simp
theorem bs_size (l : List UInt8) : (bs l).size = l.length := by unfold bs; rw [Lib.size_eq]
theorem bs_app (l m : List UInt8) : bs l ++ bs m = bs (l ++ m) := by
  apply ByteArray.ext
  rw [ByteArray.data_append]
  unfold bs
  simp
theorem basis_u : U64 14695981039346656037 := ⟨by decide, by decide⟩

theorem ext_next {s : ByteArray} {k : Nat} (hk : k < s.size) {h a : Int} (e : a = ext h (s.data.toList.take k)) :
    IntKind.u64.wrap (bits .xor .u64 a (IntKind.u64.wrap ((s[k]'hk).toNat : Int)) * 1099511628211) = ext h (s.data.toList.take (k + 1)) := by
  rw [IntWalk.u64_in ((s[k]'hk).toNat : Int) (by have := (s[k]'hk).toNat_lt; omega)]
  have hl : k < s.data.toList.length := by rw [← Lib.size_eq]; exact hk
  rw [List.take_succ_eq_append_getElem hl, ext_snoc, ← e]
  rfl
set_option maxHeartbeats 400000 in
theorem rextend_n (h : Int) (s : ByteArray) (v : Int) (w : World) (hs : s.size ≤ 20000) (hv : Hid (v = ext h s.data.toList)) :
    Calls Tryd.prog 13 #[.int .u64 h, .string s] w fun e w' => e = .returned (.int .u64 v) ∧ w = w' := by
  go_enter Tryd.func13, Tryd.ntmps13
  go_wp2
  go_loop [0, 5] (fun vh vi => ∃ (k : Nat) (a : Int), vi = .int .i64 k ∧ vh = .int .u64 a ∧ k ≤ s.size ∧ Hid (a = ext h (s.data.toList.take k))) (fun _ vi => s.size - (RowKit.intOf vi).toNat)
  case atStart => exact ⟨0, _, rfl, rfl, by omega, hid rfl⟩
  case round =>
    obtain ⟨k, a, rfl, rfl, hk, hF⟩ := hrel
    by_cases hlt : k < s.size
    · have HN := Lib.hid (ext_next hlt hF.out)
      clear hF hv
      go_wp2
      go_round
      case rel => exact ⟨k + 1, _, by go_num, rfl, by omega, HN⟩
      case measure => simp [RowKit.intOf]; omega
    · obtain rfl : k = s.size := by omega
      have HE : Hid (a = v) := hid (by rw [hF.out, hv.out, Lib.size_eq, List.take_length])
      clear hF
      go_wp2
      go_ret
      exact ⟨by rw [← HE.out]; rfl, rfl⟩
set_option maxHeartbeats 400000 in
theorem rfnv_n (s : ByteArray) (v : Int) (w : World) (hs : s.size ≤ 20000) (hv : Hid (v = ext 14695981039346656037 s.data.toList)) :
    Calls Tryd.prog 11 #[.string s] w fun e w' => e = .returned (.int .u64 v) ∧ w = w' := by
  go_enter Tryd.func11, Tryd.ntmps11
  go_wp2_with fail
  ((with_reducible refine (rextend_n 14695981039346656037 s v _ hs hv).mono ?_); rintro e w1 ⟨rfl, hw⟩)
  rw [← hw]
  clear hw
  go_wp2_with fail
  go_ret
  exact ⟨rfl, rfl⟩

theorem le_step {k m : Nat} {t : ByteArray} {l : List UInt8} (e : t.data.toList ++ bytesLE (k + 1) m = l) : (t ++ ByteArray.mk #[UInt8.ofNat (m % 256)]).data.toList ++ bytesLE k (m / 256) = l := by
  rw [← e, ByteArray.data_append, bytesLE]; simp
theorem le_size {k m : Nat} {t : ByteArray} {l : List UInt8} (e : t.data.toList ++ bytesLE k m = l) : t.size + k = l.length := by
  rw [← e, List.length_append, bytesLE_len, Lib.size_eq]
theorem le_end {m : Nat} {t : ByteArray} {l : List UInt8} (e : t.data.toList ++ bytesLE 0 m = l) : t = bs l := by
  rw [bytesLE, List.append_nil] at e
  rw [← e]
  rfl
set_option maxRecDepth 100000 in
set_option maxHeartbeats 400000 in
theorem reight_any (n : Nat) (w : World) (hn : n < 18446744073709551616) :
    Calls Tryd.prog 22 #[.int .u64 n] w fun e w' => e = .returned (.string (bs (bytesLE 8 n))) ∧ Below w.heap.size w w' := by
  have kc := conv_one (P := Tryd.prog) Tryd.underlying37 Tryd.underlying5 Tryd.underlying9
  go_enter Tryd.func22, Tryd.ntmps22
  go_wp2
  go_loopw [0, 3, 4] (fun v s vi wr => ∃ (m i : Nat) (t : ByteArray), v = .int .u64 m ∧ s = .string t ∧ vi = .int .i64 i ∧ m ≤ n ∧ i ≤ 8 ∧ Hid (t.data.toList ++ bytesLE (8 - i) m = bytesLE 8 n) ∧ Below w.heap.size w wr) (fun _ _ vi _ => 8 - (RowKit.intOf vi).toNat)
  case atStart => exact ⟨n, 0, _, rfl, rfl, rfl, Nat.le_refl _, by omega, Lib.hid (by simp), Below.refl _ _⟩
  case round =>
    obtain ⟨m, i, t, rfl, rfl, rfl, hm, hi, hd, hb⟩ := hrel
    have ht := le_size hd.out
    rw [bytesLE_len] at ht
    by_cases h9 : i < 8
    · have b1 : (i : Int) < 8 := by omega
      have e8 : IntKind.u8.wrap ((m : Int) % 256) = (m : Int) % 256 := IntWalk.u8_in _ (by omega)
      have HS := Lib.hid (le_step (k := 8 - (i + 1)) (m := m) (t := t) (l := bytesLE 8 n) (by rw [show 8 - (i + 1) + 1 = 8 - i by omega]; exact hd.out))
      clear hd
      go_wp2
      go_roundw
      case rel => exact ⟨m / 256, i + 1, _, by go_num, rfl, by go_num, by omega, by omega, HS, hb.alloc hb.size _⟩
      case measure => simp [RowKit.intOf]; omega
    · obtain rfl : i = 8 := by omega
      have HS := Lib.hid (le_end (m := m) hd.out)
      clear hd
      go_wp2
      go_ret
      exact ⟨ret_str HS.out, hb⟩
set_option maxHeartbeats 400000 in
theorem rmix_n (a b : Nat) (v : Int) (w : World) (ha : a < 18446744073709551616) (hb : b < 18446744073709551616) (hv : Hid (v = ext (ext 14695981039346656037 (bytesLE 8 a)) (bytesLE 8 b))) :
    Calls Tryd.prog 15 #[.int .u64 a, .int .u64 b] w fun e w' => e = .returned (.int .u64 v) ∧ Below w.heap.size w w' := by
  obtain ⟨u, hu⟩ : ∃ u, Hid (u = ext 14695981039346656037 (bs (bytesLE 8 a)).data.toList) := ⟨_, hid rfl⟩
  have hv2 : Hid (v = ext u (bs (bytesLE 8 b)).data.toList) := hid (by rw [hv.out, hu.out, bs_list, bs_list])
  have s1 : (bs (bytesLE 8 a)).size ≤ 20000 := by rw [bs_size, bytesLE_len]; omega
  have s2 : (bs (bytesLE 8 b)).size ≤ 20000 := by rw [bs_size, bytesLE_len]; omega
  clear hv
  go_enter Tryd.func15, Tryd.ntmps15
  go_wp2_with fail
  ((with_reducible refine (reight_any a _ ha).mono ?_); rintro e w1 ⟨rfl, hL⟩)
  go_wp2_with fail
  ((with_reducible refine (rextend_n 14695981039346656037 _ u _ s1 hu).mono ?_); rintro e w2 ⟨rfl, hw⟩)
  rw [← hw]
  clear hw
  go_wp2_with fail
  ((with_reducible refine (reight_any b _ hb).mono ?_); rintro e w3 ⟨rfl, hb3⟩)
  replace hL := below_call hL hb3
  clear hb3
  go_wp2_with fail
  ((with_reducible refine (rextend_n u _ v _ s2 hv2).mono ?_); rintro e w4 ⟨rfl, hw⟩)
  rw [← hw]
  clear hw
  go_wp2_with fail
  go_ret
  exact ⟨rfl, hL⟩

theorem dig_cut : ∀ k < 16, (ByteArray.mk #[48, 49, 50, 51, 52, 53, 54, 55, 56, 57, 97, 98, 99, 100, 101, 102]).extract k (k + 1) = ByteArray.mk #[hexd k] := by decide
theorem hex_step {k m : Nat} {t : ByteArray} {l : List UInt8} (e : hexR (k + 1) m ++ t.data.toList = l) : hexR k (m / 16) ++ (ByteArray.mk #[hexd (m % 16)] ++ t).data.toList = l := by
  rw [← e, ByteArray.data_append, hexR]; simp
theorem hex_size {k m : Nat} {t : ByteArray} {l : List UInt8} (e : hexR k m ++ t.data.toList = l) : k + t.size = l.length := by
  rw [← e, List.length_append, hexR_len, Lib.size_eq]
theorem hex_end {m : Nat} {t : ByteArray} {l : List UInt8} (e : hexR 0 m ++ t.data.toList = l) : t = bs l := by
  rw [hexR, List.nil_append] at e
  rw [← e]
  rfl
set_option maxRecDepth 100000 in
set_option maxHeartbeats 400000 in
theorem rhex_any (n : Nat) (w : World) (hn : n < 18446744073709551616) :
    Calls Tryd.prog 18 #[.int .u64 n] w fun e w' => e = .returned (.string (bs (hexR 16 n))) ∧ w = w' := by
  go_enter Tryd.func18, Tryd.ntmps18
  go_wp2
  go_loop [0, 3, 4] (fun v s vi => ∃ (m i : Nat) (t : ByteArray), v = .int .u64 m ∧ s = .string t ∧ vi = .int .i64 i ∧ m ≤ n ∧ i ≤ 16 ∧ Hid (hexR (16 - i) m ++ t.data.toList = hexR 16 n)) (fun _ _ vi => 16 - (RowKit.intOf vi).toNat)
  case atStart => exact ⟨n, 0, _, rfl, rfl, rfl, Nat.le_refl _, by omega, Lib.hid (by simp)⟩
  case round =>
    obtain ⟨m, i, t, rfl, rfl, rfl, hm, hi, hd⟩ := hrel
    have ht := hex_size hd.out
    rw [hexR_len] at ht
    by_cases h9 : i < 16
    · have b1 : (i : Int) < 16 := by omega
      have HS := Lib.hid (hex_step (k := 16 - (i + 1)) (m := m) (t := t) (l := hexR 16 n) (by rw [show 16 - (i + 1) + 1 = 16 - i by omega]; exact hd.out))
      obtain ⟨k, hk⟩ : ∃ k, m % 16 = k := ⟨_, rfl⟩
      have hk2 : k < 16 := by omega
      have hk3 : (m : Int) % 16 = (k : Int) := by omega
      have hx := dig_cut k hk2
      rw [hk] at HS
      clear hd
      go_wp2
      go_round
      case rel => exact ⟨m / 16, i + 1, _, by go_num, rfl, by go_num, by omega, by omega, HS⟩
      case measure => simp [RowKit.intOf]; omega
    · obtain rfl : i = 16 := by omega
      have HS := Lib.hid (hex_end (m := m) hd.out)
      clear hd
      go_wp2
      go_ret
      exact ⟨ret_str HS.out, rfl⟩

end Go.Proofs.YtkjibjamkjdeaaaDoor
