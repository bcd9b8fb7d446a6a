/-
  The laws of digest, given what its functions answer.
-/
import Derived.Test.YtkjibjamkjdeaaaDoorDigRefB
import Derived.BigRegion
import Derived.StillTailTactics
import Derived.Deep.RegionHeld3
import Derived.Deep.RegionWith
namespace Go.Proofs.YtkjibjamkjdeaaaDoor
open Go.RowKit Go.Lib

/-- What the functions of digest are held to. -/
structure DigHave (E : World → Prop) : Prop where
  keep : ∀ {w w' : World}, E w → Below w.heap.size w w' → E w'
  fnv : ∀ (s : ByteArray) (v : Int) (w : World), E w → s.size ≤ 20000 → Hid (v = ext 14695981039346656037 s.data.toList) → Calls Tryd.prog 10 #[.string s] w fun e w' => e = .returned (.int .u64 v) ∧ Below w.heap.size w w'
  extend : ∀ (h : Int) (s : ByteArray) (v : Int) (w : World), E w → U64 h → s.size ≤ 20000 → Hid (v = ext h s.data.toList) → Calls Tryd.prog 12 #[.int .u64 h, .string s] w fun e w' => e = .returned (.int .u64 v) ∧ Below w.heap.size w w'
  mix : ∀ (a b : Nat) (v : Int) (w : World), E w → a < 18446744073709551616 → b < 18446744073709551616 → Hid (v = ext (ext 14695981039346656037 (bytesLE 8 a)) (bytesLE 8 b)) → Calls Tryd.prog 14 #[.int .u64 a, .int .u64 b] w fun e w' => e = .returned (.int .u64 v) ∧ Below w.heap.size w w'
  hex : ∀ (n : Nat) (w : World), E w → n < 18446744073709551616 → Calls Tryd.prog 16 #[.int .u64 n] w fun e w' => e = .returned (.string (bs (hexR 16 n))) ∧ Below w.heap.size w w'
/-- .. and what Unhex is held to. -/
abbrev UnhexHave (E : World → Prop) : Prop := ∀ (s : ByteArray) (n : Nat) (er : Int) (w : World), E w → s.size ≤ 1000 → Hid (unhexv s.data.toList = (n, er)) → Calls Tryd.prog 17 #[.string s] w fun e w' => e = .returned (.tuple #[.int .u64 n, .int .i64 er]) ∧ Below w.heap.size w w'

theorem ex_fnv0 : Hid ((14695981039346656037 : Int) = ext 14695981039346656037 (ByteArray.mk #[]).data.toList) := hid (by decide)
theorem ex_fnv1 : Hid ((9625390261332436968 : Int) = ext 14695981039346656037 (ByteArray.mk #[102, 111, 111, 98, 97, 114]).data.toList) := hid (by decide)
theorem ex_hex : bs (hexR 16 255) = ByteArray.mk #[48, 48, 48, 48, 48, 48, 48, 48, 48, 48, 48, 48, 48, 48, 102, 102] := by decide
theorem ex_hex_call {E : World → Prop} (H : DigHave E) (w : World) (hE : E w) : Calls Tryd.prog 16 #[.int .u64 255] w fun e w' => e = .returned (.string (ByteArray.mk #[48, 48, 48, 48, 48, 48, 48, 48, 48, 48, 48, 48, 48, 48, 102, 102])) ∧ Below w.heap.size w w' := by
  rw [← ex_hex]; exact H.hex 255 w hE (by decide)

set_option maxHeartbeats 2000000 in
theorem alive_any {E : World → Prop} (H : DigHave E) (w : World) (hE : E w) : Calls Tryd.prog 9 #[] w fun e w' => e = .returned (.bool true) ∧ Below w.heap.size w w' := by
  go_enter Tryd.func9, Tryd.ntmps9
  go_wp2_with fail
  ((with_reducible refine (H.fnv _ _ _ hE (by decide) ex_fnv0).mono ?_); rintro e w1 ⟨rfl, hL⟩)
  go_wp2_with fail
  ((with_reducible refine (H.fnv _ _ _ (H.keep hE hL) (by decide) ex_fnv1).mono ?_); rintro e w2 ⟨rfl, hb⟩)
  replace hL := below_call hL hb
  clear hb
  go_wp2_with fail
  ((with_reducible refine (ex_hex_call H _ (H.keep hE hL)).mono ?_); rintro e w3 ⟨rfl, hb⟩)
  replace hL := below_call hL hb
  clear hb
  go_wp2_with fail
  go_ret
  exact ⟨rfl, hL⟩

set_option maxHeartbeats 2000000 in
theorem law_texts_long {E : World → Prop} (H : DigHave E) (h : Int) (s : ByteArray) (w : World) (hE : E w) (hs : 20000 < s.size) : Calls Tryd.prog 3 #[.int .u64 h, .string s] w fun e w' => e = .returned (.bool true) ∧ Below w.heap.size w w' := by
  go_enter Tryd.func3, Tryd.ntmps3
  go_wp2_with fail
  ((with_reducible refine (alive_any H _ hE).mono ?_); rintro e w1 ⟨rfl, hL⟩)
  go_wp2_with fail
  go_ret
  exact ⟨rfl, hL⟩
set_option maxHeartbeats 2000000 in
theorem law_texts_short {E : World → Prop} (H : DigHave E) (h : Int) (s : ByteArray) (w : World) (hE : E w) (hh : U64 h) (hs : s.size ≤ 20000) : Calls Tryd.prog 3 #[.int .u64 h, .string s] w fun e w' => e = .returned (.bool true) ∧ Below w.heap.size w w' := by
  obtain ⟨u, hu⟩ : ∃ u, Hid (u = ext 14695981039346656037 s.data.toList) := ⟨_, hid rfl⟩
  obtain ⟨v, hv⟩ : ∃ v, Hid (v = ext h s.data.toList) := ⟨_, hid rfl⟩
  go_enter Tryd.func3, Tryd.ntmps3
  go_wp2_with fail
  ((with_reducible refine (H.fnv s u _ hE hs hu).mono ?_); rintro e w1 ⟨rfl, hL⟩)
  go_wp2_with fail
  ((with_reducible refine (rfnv_n s u _ hs hu).mono ?_); rintro e w2 ⟨rfl, hw⟩)
  rw [← hw]
  clear hw
  go_wp2_with fail
  ((with_reducible refine (H.extend h s v _ (H.keep hE hL) hh hs hv).mono ?_); rintro e w3 ⟨rfl, hb⟩)
  replace hL := below_call hL hb
  clear hb
  go_wp2_with fail
  ((with_reducible refine (rextend_n h s v _ hs hv).mono ?_); rintro e w4 ⟨rfl, hw⟩)
  rw [← hw]
  clear hw
  go_wp2_with fail
  ((with_reducible refine (alive_any H _ (H.keep hE hL)).mono ?_); rintro e w5 ⟨rfl, hb⟩)
  replace hL := below_call hL hb
  clear hb
  go_wp2_with fail
  go_ret
  exact ⟨rfl, hL⟩
theorem law_texts {E : World → Prop} (H : DigHave E) (h : Int) (s : ByteArray) (w : World) (hE : E w) (hh : U64 h) : Calls Tryd.prog 3 #[.int .u64 h, .string s] w fun e w' => e = .returned (.bool true) ∧ Below w.heap.size w w' := by
  by_cases hs : s.size ≤ 20000
  · exact law_texts_short H h s w hE hh hs
  · exact law_texts_long H h s w hE (by omega)

set_option maxHeartbeats 2000000 in
theorem law_mixes_nat {E : World → Prop} (H : DigHave E) (a b : Nat) (w : World) (hE : E w) (ha : a < 18446744073709551616) (hb : b < 18446744073709551616) : Calls Tryd.prog 4 #[.int .u64 a, .int .u64 b] w fun e w' => e = .returned (.bool true) ∧ Below w.heap.size w w' := by
  obtain ⟨v, hv⟩ : ∃ v, Hid (v = ext (ext 14695981039346656037 (bytesLE 8 a)) (bytesLE 8 b)) := ⟨_, hid rfl⟩
  go_enter Tryd.func4, Tryd.ntmps4
  go_wp2_with fail
  ((with_reducible refine (H.mix a b v _ hE ha hb hv).mono ?_); rintro e w1 ⟨rfl, hL⟩)
  go_wp2_with fail
  ((with_reducible refine (rmix_n a b v _ ha hb hv).mono ?_); rintro e w2 ⟨rfl, hb2⟩)
  replace hL := below_call hL hb2
  clear hb2
  go_wp2_with fail
  ((with_reducible refine (alive_any H _ (H.keep hE hL)).mono ?_); rintro e w3 ⟨rfl, hb3⟩)
  replace hL := below_call hL hb3
  clear hb3
  go_wp2_with fail
  go_ret
  exact ⟨rfl, hL⟩
theorem law_mixes {E : World → Prop} (H : DigHave E) (a b : Int) (w : World) (hE : E w) (ha : U64 a) (hb : U64 b) : Calls Tryd.prog 4 #[.int .u64 a, .int .u64 b] w fun e w' => e = .returned (.bool true) ∧ Below w.heap.size w w' := by
  obtain ⟨m, rfl⟩ := Int.eq_ofNat_of_zero_le ha.1
  obtain ⟨n, rfl⟩ := Int.eq_ofNat_of_zero_le hb.1
  exact law_mixes_nat H m n w hE (by have := ha.2; omega) (by have := hb.2; omega)

set_option maxHeartbeats 2000000 in
theorem law_hex_nat {E : World → Prop} (H : DigHave E) (HU : UnhexHave E) (n : Nat) (w : World) (hE : E w) (hn : n < 18446744073709551616) : Calls Tryd.prog 5 #[.int .u64 n] w fun e w' => e = .returned (.bool true) ∧ Below w.heap.size w w' := by
  have hs : (bs (hexR 16 n)).size ≤ 1000 := by rw [bs_size, hexR_len]; omega
  have hu : Hid (unhexv (bs (hexR 16 n)).data.toList = (n, 0)) := hid (by rw [bs_list]; exact unhex_hex n hn)
  go_enter Tryd.func5, Tryd.ntmps5
  go_wp2_with fail
  ((with_reducible refine (H.hex n _ hE hn).mono ?_); rintro e w1 ⟨rfl, hL⟩)
  go_wp2_with fail
  ((with_reducible refine (HU _ n 0 _ (H.keep hE hL) hs hu).mono ?_); rintro e w2 ⟨rfl, hb⟩)
  replace hL := below_call hL hb
  clear hb
  go_wp2_with fail
  ((with_reducible refine (rhex_any n _ hn).mono ?_); rintro e w3 ⟨rfl, hw⟩)
  rw [← hw]
  clear hw
  go_wp2_with fail
  ((with_reducible refine (alive_any H _ (H.keep hE hL)).mono ?_); rintro e w5 ⟨rfl, hb⟩)
  replace hL := below_call hL hb
  clear hb
  go_wp2_with fail
  go_ret
  exact ⟨rfl, hL⟩
theorem law_hex {E : World → Prop} (H : DigHave E) (HU : UnhexHave E) (n : Int) (w : World) (hE : E w) (hn : U64 n) : Calls Tryd.prog 5 #[.int .u64 n] w fun e w' => e = .returned (.bool true) ∧ Below w.heap.size w w' := by
  obtain ⟨m, rfl⟩ := Int.eq_ofNat_of_zero_le hn.1
  exact law_hex_nat H HU m w hE (by have := hn.2; omega)

set_option maxHeartbeats 2000000 in
theorem law_unhex {E : World → Prop} (H : DigHave E) (HU : UnhexHave E) (s : ByteArray) (w : World) (hE : E w) : Calls Tryd.prog 6 #[.string s] w fun e w' => e = .returned (.bool true) ∧ Below w.heap.size w w' := by
  by_cases hs : s.size ≤ 1000
  · obtain ⟨n, er, hu⟩ : ∃ n er, Hid (unhexv s.data.toList = (n, er)) := ⟨_, _, hid rfl⟩
    go_enter Tryd.func6, Tryd.ntmps6
    go_wp2_with fail
    ((with_reducible refine (HU s n er _ hE hs hu).mono ?_); rintro e w1 ⟨rfl, hL⟩)
    go_wp2_with fail
    ((with_reducible refine (runhex_n s n er _ hu).mono ?_); rintro e w2 ⟨rfl, hw⟩)
    rw [← hw]
    clear hw
    go_wp2_with fail
    ((with_reducible refine (alive_any H _ (H.keep hE hL)).mono ?_); rintro e w3 ⟨rfl, hb⟩)
    replace hL := below_call hL hb
    clear hb
    go_wp2_with fail
    go_ret
    exact ⟨rfl, hL⟩
  · have hs2 : 1000 < s.size := by omega
    go_enter Tryd.func6, Tryd.ntmps6
    go_wp2_with fail
    ((with_reducible refine (alive_any H _ hE).mono ?_); rintro e w1 ⟨rfl, hL⟩)
    go_wp2_with fail
    go_ret
    exact ⟨rfl, hL⟩

end Go.Proofs.YtkjibjamkjdeaaaDoor
