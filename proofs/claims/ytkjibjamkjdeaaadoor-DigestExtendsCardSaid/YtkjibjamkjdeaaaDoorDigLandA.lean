/-
  digest as it landed at 946a7bb: combine, Extend, FNV.
-/
import Derived.Test.YtkjibjamkjdeaaaDoorDigRefB
import Derived.Test.YtkjibjamkjdeaaaDoorMem
import Derived.BigRegion
import Derived.StillTailTactics
import Derived.Deep.RegionHeld3
import Derived.Lib.OthersKept
import Derived.Laws.RangeAny
import Derived.Lib.UnsafeStr
namespace Go.Proofs.YtkjibjamkjdeaaaDoor
open Go.RowKit Go.Lib

set_option maxHeartbeats 400000 in
theorem combine_n (h : Int) (s : ByteArray) (v : Int) (w : World) (hs : s.size ≤ 20000) (hv : Hid (v = ext h s.data.toList)) :
    Calls Tryd.prog 20 #[.int .u64 h, .string s] w fun e w' => e = .returned (.int .u64 v) ∧ w = w' := by
  go_enter Tryd.func20, Tryd.ntmps20
  go_wp2
  go_loop [0, 8] (fun vh vi => ∃ (k : Nat) (a : Int), vi = .int .i64 k ∧ vh = .int .u64 a ∧ k ≤ s.size ∧ Hid (a = ext h (s.data.toList.take k))) (fun _ vi => s.size - (RowKit.intOf vi).toNat)
  case atStart => exact ⟨0, _, rfl, rfl, by omega, hid rfl⟩
  case round =>
    obtain ⟨k, a, rfl, rfl, hk, hF⟩ := hrel
    by_cases hlt : k < s.size
    · have HN := Lib.hid (ext_next hlt hF.out)
      clear hF hv
      go_wp2
      go_round
      case rel => exact ⟨k + 1, _, by go_num, rfl, by omega, HN⟩
      case measure => simp [RowKit.intOf]; omega
    · obtain rfl : k = s.size := by omega
      have HE : Hid (a = v) := hid (by rw [hF.out, hv.out, Lib.size_eq, List.take_length])
      clear hF
      go_wp2
      go_ret
      exact ⟨by rw [← HE.out]; rfl, rfl⟩

theorem width_pos (s : ByteArray) (pos : Nat) (h : pos < s.size) : 1 ≤ (Utf8.decode s pos).2 := by
  by_cases ha : (s[pos]'h).toNat < 128
  · rw [decode_ascii s pos h ha]
    exact Nat.le_refl _
  · exact (decode_high s pos h (by omega)).2
theorem piece_list (s : ByteArray) (i j : Nat) : (s.extract i j).data.toList = (s.data.toList.drop i).take (j - i) := by
  rw [ByteArray.data_extract, Array.toList_extract, List.extract_eq_take_drop]
theorem piece_on {s : ByteArray} {d p : Nat} {h a : Int} (hd : d ≤ p) (e : a = ext h (s.data.toList.take d)) : ext a (s.extract d p).data.toList = ext h (s.data.toList.take p) := by
  rw [e, ← ext_append, piece_list]
  congr 1
  rw [show p = d + (p - d) by omega, List.take_add, show d + (p - d) - d = p - d by omega]
theorem piece_size (s : ByteArray) (i j : Nat) (hs : s.size ≤ 20000) : (s.extract i j).size ≤ 20000 := by
  rw [ByteArray.size_extract]; omega

set_option maxRecDepth 1000000 in
set_option maxHeartbeats 1000000 in
theorem dextend_n (h : Int) (s : ByteArray) (v : Int) (w : World) (hs : s.size ≤ 20000) (hv : Hid (v = ext h s.data.toList)) :
    Calls Tryd.prog 12 #[.int .u64 h, .string s] w fun e w' => e = .returned (.int .u64 v) ∧ Below w.heap.size w w' := by
  go_enter Tryd.func12, Tryd.ntmps12
  go_wp2_with fail
  go_loopw [0, 5] (fun vh vd wr => ∃ (p d : Nat) (a : Int), wr = w.iter s p ∧ vd = .int .i64 d ∧ vh = .int .u64 a ∧ d ≤ p ∧ d ≤ s.size ∧ Hid (a = ext h (s.data.toList.take d))) (fun _ _ wr => s.size - wr.iterPos w.heap.size)
  case atStart => exact ⟨0, 0, _, rfl, rfl, rfl, by omega, by omega, hid rfl⟩
  case round =>
    obtain ⟨p, d, a, rfl, rfl, rfl, hdp, hd, hF⟩ := hrel
    by_cases hlt : p < s.size
    · have hnext := run_next_any (P := Tryd.prog) w s p 0 hlt
      have hw := width_pos s p hlt
      generalize Utf8.decode s p = dec at *
      obtain ⟨rn, wd⟩ := dec
      have hs2 : (s.extract d p).size ≤ 20000 := piece_size s d p hs
      have b1 : (0 : Int) ≤ d := by omega
      have b2 : (d : Int) ≤ p := by omega
      have b3 : (p : Int) ≤ s.size := by omega
      obtain ⟨u, hu⟩ : ∃ u, Hid (u = ext a (s.extract d p).data.toList) := ⟨_, hid rfl⟩
      have HN : Hid (u = ext h (s.data.toList.take p)) := hid (by rw [hu.out]; exact piece_on hdp hF.out)
      clear hF hv
      go_wp2_with fail
      ((with_reducible refine (combine_n a _ u _ hs2 hu).mono ?_); rintro e w1 ⟨rfl, hw1⟩)
      rw [← hw1]
      clear hw1
      go_wp2_with fail
      exact ⟨⟨p + wd, p, u, rfl, rfl, rfl, by omega, by omega, HN⟩, by simp; omega⟩
    · have hnext := run_next_end (P := Tryd.prog) w s p 0 hlt
      have hs2 : (s.extract d s.size).size ≤ 20000 := piece_size s d _ hs
      have b1 : (0 : Int) ≤ d := by omega
      have b2 : (d : Int) ≤ s.size := by omega
      have hu : Hid (v = ext a (s.extract d s.size).data.toList) := hid (by rw [piece_on hd hF.out, hv.out, Lib.size_eq, List.take_length])
      clear hF hv
      go_wp2_with fail
      ((with_reducible refine (combine_n a _ v _ hs2 hu).mono ?_); rintro e w1 ⟨rfl, hw1⟩)
      rw [← hw1]
      clear hw1
      go_wp2_with fail
      go_ret
      exact ⟨rfl, (Below.refl _ _).alloc (Nat.le_refl _) _⟩

set_option maxHeartbeats 400000 in
theorem dfnv_n (s : ByteArray) (v : Int) (w : World) (hs : s.size ≤ 20000) (hv : Hid (v = ext 14695981039346656037 s.data.toList)) :
    Calls Tryd.prog 10 #[.string s] w fun e w' => e = .returned (.int .u64 v) ∧ Below w.heap.size w w' := by
  go_enter Tryd.func10, Tryd.ntmps10
  go_wp2_with fail
  ((with_reducible refine (dextend_n 14695981039346656037 s v _ hs hv).mono ?_); rintro e w1 ⟨rfl, hb⟩)
  go_wp2_with fail
  go_ret
  exact ⟨rfl, hb⟩

/-- The eight cells behind k rounds. -/
def cl (n k : Nat) : List Value := (List.range 8).map fun i => if i < k then .int .u8 ((n / 256 ^ i % 256 : Nat) : Int) else .int .u8 0
theorem cl_zero (n : Nat) : cl n 0 = [.int .u8 0, .int .u8 0, .int .u8 0, .int .u8 0, .int .u8 0, .int .u8 0, .int .u8 0, .int .u8 0] := by rfl
theorem cl_set (n k : Nat) (_hk : k < 8) : (cl n k).set k (.int .u8 ((n / 256 ^ k % 256 : Nat) : Int)) = cl n (k + 1) := by
  apply List.ext_getElem
  · simp [cl]
  · intro i h1 h2
    simp only [cl, List.getElem_set, List.getElem_map, List.getElem_range]
    by_cases e : k = i
    · subst e
      rw [if_pos rfl, if_pos (by omega)]
    · rw [if_neg e]
      by_cases f : i < k
      · rw [if_pos f, if_pos (by omega)]
      · rw [if_neg f, if_neg (by omega)]
theorem cl_cell {n k b : Nat} {wr : World} {t : TypeId} (h : Blk wr b (cl n k) t) (hk : k < 8) : wr.cell? ⟨b, k, none⟩ = some (.int .u8 0) := by
  rw [h.cell]
  simp [cl, hk]
theorem cl_num (n k : Nat) : (n : Int) / 2 ^ (8 * k) % 256 = ((n / 256 ^ k % 256 : Nat) : Int) := by
  rw [Int.pow_mul]
  simp
theorem le_get : ∀ (k n i : Nat), i < k → (bytesLE k n)[i]? = some (UInt8.ofNat (n / 256 ^ i % 256))
  | 0, _, _, h => absurd h (by omega)
  | k + 1, n, 0, _ => by simp [bytesLE]
  | k + 1, n, i + 1, h => by
    rw [bytesLE, List.getElem?_cons_succ, le_get k (n / 256) i (by omega), Nat.div_div_eq_div_mul, Nat.pow_succ, Nat.mul_comm 256]
theorem cl_bytes {n b : Nat} {wr : World} {t : TypeId} (h : Blk wr b (cl n 8) t) : ∀ j, (hj : j < (bytesLE 8 n).length) → wr.cell? ((⟨b, 0, none⟩ : Addr).add j) = some (.int .u8 ((bytesLE 8 n)[j]'hj).toNat) := by
  intro j hj
  have h8 : j < 8 := by rw [bytesLE_len] at hj; exact hj
  have hadd : (⟨b, 0, none⟩ : Addr).add j = ⟨b, j, none⟩ := by unfold Addr.add; split <;> simp_all
  have hg := le_get 8 n j h8
  rw [List.getElem?_eq_getElem hj] at hg
  rw [hadd, h.cell, Option.some.inj hg]
  simp [cl, h8]

set_option maxRecDepth 100000 in
set_option maxHeartbeats 400000 in
theorem eight_any (n : Nat) (w : World) (_hn : n < 18446744073709551616) :
    Calls Tryd.prog 21 #[.int .u64 n] w fun e w' => e = .returned (.string (bs (bytesLE 8 n))) ∧ Below w.heap.size w w' := by
  go_enter Tryd.func21, Tryd.ntmps21
  go_wp2_with fail
  go_loopw [5] (fun vi wr => ∃ k : Nat, vi = .int .i64 k ∧ k ≤ 8 ∧ Blk wr w.heap.size (cl n k) 46 ∧ Below w.heap.size w wr) (fun vi _ => 8 - (RowKit.intOf vi).toNat)
  case atStart => exact ⟨0, rfl, by omega, by rw [cl_zero]; exact Blk.new _ _ _, (Below.refl _ _).alloc (Nat.le_refl _) _⟩
  case round =>
    obtain ⟨k, rfl, hk, hB, hL⟩ := hrel
    by_cases h8 : k < 8
    · have b1 : (k : Int) < 8 := by omega
      have hc := cl_cell hB h8
      have hf := hB.frozen k
      have e8 : wrap64 (8 * (k : Int)) = ((8 * k : Nat) : Int) := IntWalk.wrap64_in _ (by omega)
      go_wp2_with fail
      rw [cl_num n k]
      exact ⟨⟨k + 1, by go_num, by omega, by rw [← cl_set n k h8]; exact hB.set k _, hL.setCell (Nat.le_refl _) _⟩, by simp [RowKit.intOf]; omega⟩
    · obtain rfl : k = 8 := by omega
      have hcv := run_convert_bytes_back (P := Tryd.prog) wr 37 9 5 ⟨w.heap.size, 0, none⟩ 8 (bytesLE 8 n) Tryd.underlying37 Tryd.underlying5 Tryd.underlying9 (cl_bytes hB)
      rw [bytesLE_len] at hcv
      go_wp2_with fail
      go_ret
      exact ⟨rfl, hL⟩

set_option maxHeartbeats 400000 in
theorem dmix_n (a b : Nat) (v : Int) (w : World) (ha : a < 18446744073709551616) (hb : b < 18446744073709551616) (hv : Hid (v = ext (ext 14695981039346656037 (bytesLE 8 a)) (bytesLE 8 b))) :
    Calls Tryd.prog 14 #[.int .u64 a, .int .u64 b] w fun e w' => e = .returned (.int .u64 v) ∧ Below w.heap.size w w' := by
  obtain ⟨u, hu⟩ : ∃ u, Hid (u = ext 14695981039346656037 (bs (bytesLE 8 a)).data.toList) := ⟨_, hid rfl⟩
  have hv2 : Hid (v = ext u (bs (bytesLE 8 b)).data.toList) := hid (by rw [hv.out, hu.out, bs_list, bs_list])
  have s1 : (bs (bytesLE 8 a)).size ≤ 20000 := by rw [bs_size, bytesLE_len]; omega
  have s2 : (bs (bytesLE 8 b)).size ≤ 20000 := by rw [bs_size, bytesLE_len]; omega
  clear hv
  go_enter Tryd.func14, Tryd.ntmps14
  go_wp2_with fail
  ((with_reducible refine (eight_any a _ ha).mono ?_); rintro e w1 ⟨rfl, hL⟩)
  go_wp2_with fail
  ((with_reducible refine (dfnv_n _ u _ s1 hu).mono ?_); rintro e w2 ⟨rfl, hb2⟩)
  replace hL := below_call hL hb2
  clear hb2
  go_wp2_with fail
  ((with_reducible refine (eight_any b _ hb).mono ?_); rintro e w3 ⟨rfl, hb3⟩)
  replace hL := below_call hL hb3
  clear hb3
  go_wp2_with fail
  ((with_reducible refine (dextend_n u _ v _ s2 hv2).mono ?_); rintro e w4 ⟨rfl, hb4⟩)
  replace hL := below_call hL hb4
  clear hb4
  go_wp2_with fail
  go_ret
  exact ⟨rfl, hL⟩

end Go.Proofs.YtkjibjamkjdeaaaDoor
