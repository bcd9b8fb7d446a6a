/-
  The laws of digest: parts; single bytes.
-/
import Derived.Test.YtkjibjamkjdeaaaDoorDigLaws
namespace Go.Proofs.YtkjibjamkjdeaaaDoor
open Go.RowKit Go.Lib

set_option maxHeartbeats 2000000 in
theorem law_extends_short {E : World → Prop} (H : DigHave E) (h : Int) (s t : ByteArray) (w : World) (hE : E w) (hh : U64 h) (hs : s.size ≤ 10000) (ht : t.size ≤ 10000) : Calls Tryd.prog 7 #[.int .u64 h, .string s, .string t] w fun e w' => e = .returned (.bool true) ∧ Below w.heap.size w w' := by
  obtain ⟨u, hu⟩ : ∃ u, Hid (u = ext h s.data.toList) := ⟨_, hid rfl⟩
  obtain ⟨v, hv⟩ : ∃ v, Hid (v = ext u t.data.toList) := ⟨_, hid rfl⟩
  have hu2 : U64 u := by rw [hu.out]; exact ext_u hh _
  have hv2 : Hid (v = ext h (s ++ t).data.toList) := hid (by rw [hv.out, hu.out, ← ext_append, ByteArray.data_append, Array.toList_append])
  have s2 : (s ++ t).size ≤ 20000 := by rw [ByteArray.size_append]; omega
  have z1 : decide (10000 < (s.size : Int)) = false := decide_eq_false (by omega)
  have z2 : decide (10000 < (t.size : Int)) = false := decide_eq_false (by omega)
  have s1 : s.size ≤ 20000 := by omega
  have t1 : t.size ≤ 20000 := by omega
  go_enter Tryd.func7, Tryd.ntmps7
  go_wp2_with fail
  ((with_reducible refine (H.extend h s u _ hE hh s1 hu).mono ?_); rintro e w1 ⟨rfl, hL⟩)
  go_wp2_with fail
  ((with_reducible refine (H.extend u t v _ (H.keep hE hL) hu2 t1 hv).mono ?_); rintro e w2 ⟨rfl, hb⟩)
  replace hL := below_call hL hb
  clear hb
  go_wp2_with fail
  ((with_reducible refine (H.extend h _ v _ (H.keep hE hL) hh s2 hv2).mono ?_); rintro e w3 ⟨rfl, hb⟩)
  replace hL := below_call hL hb
  clear hb
  go_wp2_with fail
  ((with_reducible refine (alive_any H _ (H.keep hE hL)).mono ?_); rintro e w4 ⟨rfl, hb⟩)
  replace hL := below_call hL hb
  clear hb
  go_wp2_with fail
  go_ret
  exact ⟨rfl, hL⟩
set_option maxHeartbeats 2000000 in
theorem law_extends_long {E : World → Prop} (H : DigHave E) (h : Int) (s t : ByteArray) (w : World) (hE : E w) (hs : 10000 < s.size ∨ 10000 < t.size) : Calls Tryd.prog 7 #[.int .u64 h, .string s, .string t] w fun e w' => e = .returned (.bool true) ∧ Below w.heap.size w w' := by
  by_cases h1 : 10000 < s.size
  · have z1 : decide (10000 < (s.size : Int)) = true := decide_eq_true (by omega)
    go_enter Tryd.func7, Tryd.ntmps7
    go_wp2_with fail
    ((with_reducible refine (alive_any H _ hE).mono ?_); rintro e w1 ⟨rfl, hL⟩)
    go_wp2_with fail
    go_ret
    exact ⟨rfl, hL⟩
  · have z1 : decide (10000 < (s.size : Int)) = false := decide_eq_false (by omega)
    have z2 : decide (10000 < (t.size : Int)) = true := decide_eq_true (by omega)
    go_enter Tryd.func7, Tryd.ntmps7
    go_wp2_with fail
    ((with_reducible refine (alive_any H _ hE).mono ?_); rintro e w1 ⟨rfl, hL⟩)
    go_wp2_with fail
    go_ret
    exact ⟨rfl, hL⟩
theorem law_extends {E : World → Prop} (H : DigHave E) (h : Int) (s t : ByteArray) (w : World) (hE : E w) (hh : U64 h) : Calls Tryd.prog 7 #[.int .u64 h, .string s, .string t] w fun e w' => e = .returned (.bool true) ∧ Below w.heap.size w w' := by
  by_cases hs : s.size ≤ 10000 ∧ t.size ≤ 10000
  · exact law_extends_short H h s t w hE hh hs.1 hs.2
  · exact law_extends_long H h s t w hE (by omega)

theorem ext_list (s : ByteArray) (i j : Nat) : (s.extract i j).data.toList = (s.data.toList.drop i).take (j - i) := by
  rw [ByteArray.data_extract, Array.toList_extract, List.extract_eq_take_drop]
/-- A text in which the byte at k is replaced, and the text itself, as lists. -/
theorem byte_lists (s : ByteArray) (k : Nat) (hk : k < s.size) (c : UInt8) :
    (s.extract 0 k ++ ByteArray.mk #[c] ++ s.extract (k + 1) s.size).data.toList = s.data.toList.take k ++ c :: s.data.toList.drop (k + 1) ∧
    s.data.toList = s.data.toList.take k ++ (s[k]'hk) :: s.data.toList.drop (k + 1) := by
  constructor
  · rw [ByteArray.data_append, ByteArray.data_append, Array.toList_append, Array.toList_append, ext_list, ext_list, List.drop_zero, Nat.sub_zero]
    rw [List.take_of_length_le (l := s.data.toList.drop (k + 1)) (by rw [List.length_drop, ← Lib.size_eq]; omega)]
    simp
  · rw [← uh_drop hk, List.take_append_drop]
theorem byte_same (s : ByteArray) (k : Nat) (hk : k < s.size) : s.extract 0 k ++ ByteArray.mk #[s[k]'hk] ++ s.extract (k + 1) s.size = s := by
  have h := byte_lists s k hk (s[k]'hk)
  apply ByteArray.ext
  apply Array.toList_inj.1
  rw [h.1]
  exact h.2.symm
theorem toList_inj {a b : ByteArray} (h : a.toList = b.toList) : a = b := by
  apply ByteArray.ext
  apply Array.toList_inj.1
  rwa [Lib.toList_data, Lib.toList_data] at h
theorem byte_parts (s : ByteArray) (k : Nat) (hk : k < s.size) (c : UInt8) {t : ByteArray} (ht : s.extract 0 k ++ ByteArray.mk #[c] ++ s.extract (k + 1) s.size = t) : ∃ A B, t.data.toList = A ++ c :: B ∧ s.data.toList = A ++ (s[k]'hk) :: B :=
  ⟨_, _, by rw [← ht]; exact (byte_lists s k hk c).1, (byte_lists s k hk c).2⟩
theorem byte_diff (s : ByteArray) (k : Nat) (hk : k < s.size) (c : UInt8) (hc : (s[k]'hk) ≠ c) {t : ByteArray} (ht : s.extract 0 k ++ ByteArray.mk #[c] ++ s.extract (k + 1) s.size = t) {h : Int} (hh : U64 h) :
    ext h t.data.toList ≠ ext h s.data.toList ∧ t ≠ s := by
  obtain ⟨A, B, h1, h2⟩ := byte_parts s k hk c ht
  have n : ext h t.data.toList ≠ ext h s.data.toList := by
    intro e
    rw [h1, h2] at e
    exact hc (ext_byte hh e).symm
  exact ⟨n, fun e => n (by rw [e])⟩
theorem byte_size (s : ByteArray) (k : Nat) (hk : k < s.size) (c : UInt8) {t : ByteArray} (ht : s.extract 0 k ++ ByteArray.mk #[c] ++ s.extract (k + 1) s.size = t) : t.size = s.size := by
  obtain ⟨A, B, h1, h2⟩ := byte_parts s k hk c ht
  rw [Lib.size_eq, Lib.size_eq, h1, h2]
  simp
theorem law_bytes_out {E : World → Prop} (H : DigHave E) (s : ByteArray) (a c : Int) (w : World) (hE : E w) (hs : s.size = 0 ∨ 10000 < s.size) : Calls Tryd.prog 8 #[.string s, .int .u16 a, .int .u8 c] w fun e w' => e = .returned (.bool true) ∧ Below w.heap.size w w' := by
  by_cases h1 : s.size = 0
  · have z1 : ((s.size : Int) == 0) = true := beq_iff_eq.2 (by omega)
    go_enter Tryd.func8, Tryd.ntmps8
    go_wp2_with fail
    ((with_reducible refine (alive_any H _ hE).mono ?_); rintro e w1 ⟨rfl, hL⟩)
    go_wp2_with fail
    go_ret
    exact ⟨rfl, hL⟩
  · have z1 : ((s.size : Int) == 0) = false := beq_eq_false_iff_ne.2 (by omega)
    have z2 : decide (10000 < (s.size : Int)) = true := decide_eq_true (by omega)
    go_enter Tryd.func8, Tryd.ntmps8
    go_wp2_with fail
    ((with_reducible refine (alive_any H _ hE).mono ?_); rintro e w1 ⟨rfl, hL⟩)
    go_wp2_with fail
    go_ret
    exact ⟨rfl, hL⟩
set_option maxHeartbeats 2000000 in
theorem law_bytes_in {E : World → Prop} (H : DigHave E) (s : ByteArray) (a c : Int) (w : World) (hE : E w) (h0 : 1 ≤ s.size) (h1 : s.size ≤ 10000) (a0 : 0 ≤ a) (a1 : a < 65536) (_c0 : 0 ≤ c) (_c1 : c < 256) : Calls Tryd.prog 8 #[.string s, .int .u16 a, .int .u8 c] w fun e w' => e = .returned (.bool true) ∧ Below w.heap.size w w' := by
  have kc := conv_one (P := Tryd.prog) Tryd.underlying37 Tryd.underlying5 Tryd.underlying9
  have kd : ∀ (w : World) (x : Int) (t : TypeId), (convert 37 9 (.slice (some ⟨w.heap.size, 0, none⟩) 1 1)).run Tryd.prog (w.alloc (.cells #[.int .u8 x] t)).drew = .ok (.string ⟨#[UInt8.ofNat x.toNat]⟩) (w.alloc (.cells #[.int .u8 x] t)).drew := fun w x t => kc w.drew x t
  have z0 : ((s.size : Int) == 0) = false := beq_eq_false_iff_ne.2 (by omega)
  have z1 : decide (10000 < (s.size : Int)) = false := decide_eq_false (by omega)
  obtain ⟨k, hk⟩ := Int.eq_ofNat_of_zero_le (Int.emod_nonneg a (show (s.size : Int) ≠ 0 by omega))
  have hk2 := Int.emod_lt_of_pos a (show (0 : Int) < s.size by omega)
  rw [hk] at hk2
  have hk3 : a.tmod s.size = (k : Int) := by rw [Int.tmod_eq_emod_of_nonneg a0]; exact hk
  have hn : ¬ (s.size : Int) = 0 := by omega
  have b1 : (0 : Int) ≤ k := by omega
  have b2 : (k : Int) ≤ s.size := by omega
  have b3 : (k : Int) + 1 ≤ s.size := by omega
  have b4 : (0 : Int) ≤ (k : Int) + 1 := by omega
  go_enter Tryd.func8, Tryd.ntmps8
  go_wp2_with fail
  go_region
  have hL := ((Below.refl w.heap.size w).alloc (Nat.le_refl _) (.cells #[.int .u8 c] 5)).drew
  generalize (w.alloc (.cells #[.int .u8 c] 5)).drew = w2 at *
  obtain ⟨t, ht⟩ : ∃ t, s.extract 0 k ++ ByteArray.mk #[UInt8.ofNat c.toNat] ++ s.extract (k + 1) s.size = t := ⟨_, rfl⟩
  rw [ht]
  have hks : k < s.size := by omega
  have t1 : t.size ≤ 20000 := by rw [byte_size s k hks _ ht]; omega
  have s1 : s.size ≤ 20000 := by omega
  obtain ⟨u, hu⟩ : ∃ u, Hid (u = ext 14695981039346656037 s.data.toList) := ⟨_, hid rfl⟩
  obtain ⟨v, hv⟩ : ∃ v, Hid (v = ext 14695981039346656037 t.data.toList) := ⟨_, hid rfl⟩
  clear kc kd hk hk3
  have hcase : t = s ∨ ((v == u) = false ∧ (t.toList == s.toList) = false) := by
    by_cases hc : (s[k]'hks) = UInt8.ofNat c.toNat
    · left
      rw [← ht, ← hc]
      exact byte_same s k hks
    · right
      have hd := byte_diff s k hks _ hc ht basis_u
      rw [hv.out, hu.out]
      exact ⟨beq_eq_false_iff_ne.2 hd.1, beq_eq_false_iff_ne.2 (fun e => hd.2 (toList_inj e))⟩
  clear ht
  rcases hcase with rfl | ⟨q1, q2⟩
  · obtain rfl : v = u := by rw [hv.out, hu.out]
    go_wp2_with fail
    ((with_reducible refine (H.fnv t v _ (H.keep hE hL) t1 hv).mono ?_); rintro e w3 ⟨rfl, hb⟩)
    replace hL := below_call hL hb
    clear hb
    go_wp2_with fail
    ((with_reducible refine (H.fnv t v _ (H.keep hE hL) t1 hv).mono ?_); rintro e w4 ⟨rfl, hb⟩)
    replace hL := below_call hL hb
    clear hb
    go_wp2_with fail
    ((with_reducible refine (alive_any H _ (H.keep hE hL)).mono ?_); rintro e w5 ⟨rfl, hb⟩)
    replace hL := below_call hL hb
    clear hb
    go_wp2_with fail
    go_ret
    exact ⟨rfl, hL⟩
  · go_wp2_with fail
    ((with_reducible refine (H.fnv t v _ (H.keep hE hL) t1 hv).mono ?_); rintro e w3 ⟨rfl, hb⟩)
    replace hL := below_call hL hb
    clear hb
    go_wp2_with fail
    ((with_reducible refine (H.fnv s u _ (H.keep hE hL) s1 hu).mono ?_); rintro e w4 ⟨rfl, hb⟩)
    replace hL := below_call hL hb
    clear hb
    go_wp2_with fail
    ((with_reducible refine (alive_any H _ (H.keep hE hL)).mono ?_); rintro e w5 ⟨rfl, hb⟩)
    replace hL := below_call hL hb
    clear hb
    go_wp2_with fail
    go_ret
    exact ⟨rfl, hL⟩
theorem law_bytes {E : World → Prop} (H : DigHave E) (s : ByteArray) (a c : Int) (w : World) (hE : E w) (a0 : 0 ≤ a) (a1 : a < 65536) (c0 : 0 ≤ c) (c1 : c < 256) : Calls Tryd.prog 8 #[.string s, .int .u16 a, .int .u8 c] w fun e w' => e = .returned (.bool true) ∧ Below w.heap.size w w' := by
  by_cases h : s.size = 0 ∨ 10000 < s.size
  · exact law_bytes_out H s a c w hE h
  · exact law_bytes_in H s a c w hE (by omega) (by omega) a0 a1 c0 c1

end Go.Proofs.YtkjibjamkjdeaaaDoor
