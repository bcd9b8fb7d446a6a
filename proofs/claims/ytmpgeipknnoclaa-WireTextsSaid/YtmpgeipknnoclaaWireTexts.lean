/-
  The law of wire on texts, given what wire's functions answer.
-/
import Derived.Test.YtmpgeipknnoclaaWireLaws
import Derived.Test.YtmpgeipknnoclaaHeld
namespace Go.Proofs.Ytmpgeipknnoclaa
open Go.RowKit Go.Lib

/-- What is known of a read text. -/
theorem text_says {l : List UInt8} {i m x e : Int} {t : List UInt8} (h : textAt l i m = (t, x, e)) : (e = 0 ∧ 0 ≤ i ∧ i < x ∧ x ≤ l.length ∧ t.length ≤ l.length ∧ x = i + (encU t.length ++ t).length ∧ (l.drop i.toNat).take (encU t.length ++ t).length = encU t.length ++ t) ∨ (e ≠ 0 ∧ t = [] ∧ x = 0) := by
  obtain ⟨n, y, e0, hu⟩ : ∃ u y e, countAt l i m = (u, y, e) := ⟨_, _, _, rfl⟩
  have hs := count_says hu
  unfold textAt at h
  rw [hu] at h
  by_cases c : e0 = 0
  · subst c
    rw [if_pos rfl] at h
    injection h with h1 h; injection h with h2 h3
    rcases hs with ⟨_, p, q, r, _, g⟩ | ⟨p, _⟩
    · left
      rcases at_says g with ⟨_, _, _, k1, _, k2, k3⟩ | ⟨k, _⟩
      · have hl : ((l.drop y.toNat).take n).length = n := by rw [List.length_take, List.length_drop]; omega
        have h1' : (l.drop y.toNat).take n = t := h1
        rw [h1'] at hl
        have h2' : y + (n : Int) = x := h2
        rw [hl, List.length_append, hl]
        refine ⟨h3.symm, p, by omega, by omega, by omega, by omega, ?_⟩
        rw [List.take_add, k3, List.drop_drop, show i.toNat + (encU n).length = y.toNat by omega, h1']
      · omega
    · omega
  · rw [if_neg c] at h
    injection h with h1 h; injection h with h2 h3
    subst h1 h2 h3
    right; exact ⟨c, rfl, rfl⟩
/-- The piece of the text that a read text stands for. -/
theorem piece_text {s : ByteArray} {j z : Nat} {t : List UInt8} (hz : (z : Int) = (j : Int) + (encU t.length ++ t).length) (h : (s.data.toList.drop j).take (encU t.length ++ t).length = encU t.length ++ t) : s.extract j z = bs (encU (bs t).size) ++ bs t := by
  apply ByteArray.ext
  apply Array.toList_inj.1
  rw [show z = j + (encU t.length ++ t).length by omega, text_list, h, bs_size, ByteArray.data_append, Array.toList_append, bs_list, bs_list]

set_option maxHeartbeats 2000000 in
theorem law_texts_long (H : WireHave) (s : ByteArray) (i m : Int) (w : World) (hs : 2000 < s.size) : Calls Try.prog 7 #[.string s, .int .i64 i, .int .i64 m] w fun e w' => e = .returned (.bool true) ∧ Below w.heap.size w w' := by
  go_enter Try.func7, Try.ntmps7
  go_wp2_with fail
  ((with_reducible refine (awake_any H _).mono ?_); rintro e w1 ⟨rfl, hL⟩)
  go_wp2_with fail
  go_ret
  exact ⟨rfl, hL⟩
set_option maxHeartbeats 2000000 in
theorem law_texts_ok (H : WireHave) (s : ByteArray) (j : Nat) (m : Int) (w : World) (hi : I64 j) (hm : I64 m) (hs : s.size ≤ 2000) (t : List UInt8) (z : Nat) (n : Nat) (y er : Int) (ht : t.length ≤ 2000) (hj : j ≤ z) (hz : z ≤ s.size)
    (h : Hid (textAt s.data.toList j m = (t, (z : Int), 0))) (hc : Hid (countAt s.data.toList j m = (n, y, er))) (hp : Hid (s.extract j z = bs (encU (bs t).size) ++ bs t)) : Calls Try.prog 7 #[.string s, .int .i64 j, .int .i64 m] w fun e w' => e = .returned (.bool true) ∧ Below w.heap.size w w' := by
  have h6 : s.size ≤ 6010 := by omega
  have m1 : m ≤ 9223372036854775807 := hm.2
  have b0 : (0 : Int) ≤ j := by omega
  have b1 : (j : Int) ≤ z := by omega
  have b2 : (z : Int) ≤ s.size := by omega
  have b3 : s.extract j z = bs (encU (bs t).size) ++ bs t := hp.out
  have hT : (bs t).size ≤ 2000 := by rw [bs_size]; exact ht
  go_enter Try.func7, Try.ntmps7
  go_wp2_with fail
  ((with_reducible refine (H.takeText s j m _ t _ 0 h6 hi hm h).mono ?_); rintro e w1 ⟨rfl, hL⟩)
  go_wp2_with fail
  ((with_reducible refine (rtaketext_n s j m _ h6 m1 t _ 0 h).mono ?_); rintro e w2 ⟨rfl, hw⟩)
  rw [← hw]
  clear hw
  go_wp2_with fail
  ((with_reducible refine (H.takeCount s j m _ n y er h6 hi hm hc).mono ?_); rintro e w3 ⟨rfl, hb⟩)
  replace hL := below_call hL hb
  clear hb
  go_wp2_with fail
  ((with_reducible refine (rcount_n s j m _ h6 m1 n y er hc).mono ?_); rintro e w4 ⟨rfl, hw⟩)
  rw [← hw]
  clear hw
  go_wp2_with fail
  ((with_reducible refine (H.text s _ hs).mono ?_); rintro e w5 ⟨rfl, hb⟩)
  replace hL := below_call hL hb
  clear hb
  go_wp2_with fail
  ((with_reducible refine (rtext_any s _ hs).mono ?_); rintro e w6 ⟨rfl, hb⟩)
  replace hL := below_call hL hb
  clear hb
  go_wp2_with fail
  replace hL := hL.drew
  go_region_held3 (fun w' => Below w.heap.size w w') (first | exact hL | exact below_call (by assumption) (by assumption) | assumption)
    (first
      | (go_at_call 13; with_reducible refine (H.text (bs t) _ hT).mono ?_; rintro e w' ⟨rfl, hb⟩)
      | (go_at_call 9; with_reducible refine (awake_any H _).mono ?_; rintro e w' ⟨rfl, hb⟩))
  rename_i hH
  go_wp2_with fail
  go_ret
  exact ⟨rfl, hH⟩

set_option maxHeartbeats 2000000 in
theorem law_texts_no (H : WireHave) (s : ByteArray) (i : Int) (m : Int) (w : World) (hi : I64 i) (hm : I64 m) (hs : s.size ≤ 2000) (er : Int) (he : er ≠ 0) (n : Nat) (y er2 : Int)
    (h : Hid (textAt s.data.toList i m = ([], 0, er))) (hc : Hid (countAt s.data.toList i m = (n, y, er2))) : Calls Try.prog 7 #[.string s, .int .i64 i, .int .i64 m] w fun e w' => e = .returned (.bool true) ∧ Below w.heap.size w w' := by
  have h6 : s.size ≤ 6010 := by omega
  have m1 : m ≤ 9223372036854775807 := hm.2
  have z1 : (er == 0) = false := by simp [he]
  have z2 : (er != 0) = true := by simp [he]
  go_enter Try.func7, Try.ntmps7
  go_wp2_with fail
  ((with_reducible refine (H.takeText s i m _ [] _ er h6 hi hm h).mono ?_); rintro e w1 ⟨rfl, hL⟩)
  go_wp2_with fail
  ((with_reducible refine (rtaketext_n s i m _ h6 m1 [] _ er h).mono ?_); rintro e w2 ⟨rfl, hw⟩)
  rw [← hw]
  clear hw
  go_wp2_with fail
  ((with_reducible refine (H.takeCount s i m _ n y er2 h6 hi hm hc).mono ?_); rintro e w3 ⟨rfl, hb⟩)
  replace hL := below_call hL hb
  clear hb
  go_wp2_with fail
  ((with_reducible refine (rcount_n s i m _ h6 m1 n y er2 hc).mono ?_); rintro e w4 ⟨rfl, hw⟩)
  rw [← hw]
  clear hw
  go_wp2_with fail
  ((with_reducible refine (H.text s _ hs).mono ?_); rintro e w5 ⟨rfl, hb⟩)
  replace hL := below_call hL hb
  clear hb
  go_wp2_with fail
  ((with_reducible refine (rtext_any s _ hs).mono ?_); rintro e w6 ⟨rfl, hb⟩)
  replace hL := below_call hL hb
  clear hb
  go_wp2_with fail
  replace hL := hL.drew
  refine wp_region_noPanic ?_
  refine wp_region_held_drew (S := (fun w' => Below w.heap.size w w')) (by kernel_rfl) hL (fun hHeld => ?_)
  refine reg_take (i := 0) (v := .int .i64 er) (some 90) rfl rfl (by kernel_rfl) (by kernel_rfl) (by kernel_rfl) (fun _ _ _ h => h) (by rfl) ?_ (by assumption) ?_
  · intro w hSw; (try dsimp only at hSw); go_simp
  try simp only [Act.put, List.setIfInBounds_toArray, List.set_cons_zero, List.set_cons_succ]
  refine reg_take (i := 1) (v := .bool true) (some 91) rfl rfl (by kernel_rfl) (by kernel_rfl) (by kernel_rfl) (fun _ _ _ h => h) (by rfl) ?_ (by assumption) ?_
  · intro w hSw; (try dsimp only at hSw); go_simp
  try simp only [Act.put, List.setIfInBounds_toArray, List.set_cons_zero, List.set_cons_succ]
  refine reg_take (i := 2) (v := .bool true) (some 92) rfl rfl (by kernel_rfl) (by kernel_rfl) (by kernel_rfl) (fun _ _ _ h => h) (by rfl) ?_ (by assumption) ?_
  · intro w hSw; (try dsimp only at hSw); go_simp
  try simp only [Act.put, List.setIfInBounds_toArray, List.set_cons_zero, List.set_cons_succ]
  refine reg_skip (i := 3) (some 93) rfl rfl (by kernel_rfl) (by kernel_rfl) (by kernel_rfl) (fun _ _ _ h => h) (by rfl) (by assumption) ?_
  try simp only [Act.put, List.setIfInBounds_toArray, List.set_cons_zero, List.set_cons_succ]
  refine reg_skip (i := 4) (some 94) rfl rfl (by kernel_rfl) (by kernel_rfl) (by kernel_rfl) (fun _ _ _ h => h) (by rfl) (by assumption) ?_
  try simp only [Act.put, List.setIfInBounds_toArray, List.set_cons_zero, List.set_cons_succ]
  refine reg_skip (i := 5) (some 95) rfl rfl (by kernel_rfl) (by kernel_rfl) (by kernel_rfl) (fun _ _ _ h => h) (by rfl) (by assumption) ?_
  try simp only [Act.put, List.setIfInBounds_toArray, List.set_cons_zero, List.set_cons_succ]
  refine reg_skip (i := 6) (some 96) rfl rfl (by kernel_rfl) (by kernel_rfl) (by kernel_rfl) (fun _ _ _ h => h) (by rfl) (by assumption) ?_
  try simp only [Act.put, List.setIfInBounds_toArray, List.set_cons_zero, List.set_cons_succ]
  refine reg_skip (i := 7) (some 97) rfl rfl (by kernel_rfl) (by kernel_rfl) (by kernel_rfl) (fun _ _ _ h => h) (by rfl) (by assumption) ?_
  try simp only [Act.put, List.setIfInBounds_toArray, List.set_cons_zero, List.set_cons_succ]
  refine reg_skip (i := 8) (some 98) rfl rfl (by kernel_rfl) (by kernel_rfl) (by kernel_rfl) (fun _ _ _ h => h) (by rfl) (by assumption) ?_
  try simp only [Act.put, List.setIfInBounds_toArray, List.set_cons_zero, List.set_cons_succ]
  refine reg_skip (i := 9) (some 99) rfl rfl (by kernel_rfl) (by kernel_rfl) (by kernel_rfl) (fun _ _ _ h => h) (by rfl) (by assumption) ?_
  try simp only [Act.put, List.setIfInBounds_toArray, List.set_cons_zero, List.set_cons_succ]
  refine reg_take (i := 10) (v := .bool true) (some 100) rfl rfl (by kernel_rfl) (by kernel_rfl) (by kernel_rfl) (fun _ _ _ h => h) (by rfl) ?_ (by assumption) ?_
  · intro w hSw; (try dsimp only at hSw); go_simp
  try simp only [Act.put, List.setIfInBounds_toArray, List.set_cons_zero, List.set_cons_succ]
  refine reg_take (i := 11) (v := .bool true) (some 101) rfl rfl (by kernel_rfl) (by kernel_rfl) (by kernel_rfl) (fun _ _ _ h => h) (by rfl) ?_ (by assumption) ?_
  · intro w hSw; (try dsimp only at hSw); go_simp
  try simp only [Act.put, List.setIfInBounds_toArray, List.set_cons_zero, List.set_cons_succ]
  refine wpAnyH_ready (rs := [12]) (by kernel_rfl) (by simp) ?_
  refine AllReadyH.cons rfl (fun K hK => ?_) AllReadyH.nil
  go_simp
  go_at_call 9
  with_reducible refine (awake_any H _).mono ?_
  rintro e w3 ⟨rfl, hb3⟩
  refine hK.out _ _ (below_call hHeld hb3) (fun hHeld3 => ?_)
  clear hK K
  try simp only [Act.put, List.setIfInBounds_toArray, List.set_cons_zero, List.set_cons_succ]
  refine reg_take (i := 13) (v := .bool true) (some 103) rfl rfl (by kernel_rfl) (by kernel_rfl) (by kernel_rfl) (fun _ _ _ h => h) (by rfl) ?_ (by assumption) ?_
  · intro w hSw; (try dsimp only at hSw); go_simp
  try simp only [Act.put, List.setIfInBounds_toArray, List.set_cons_zero, List.set_cons_succ]
  refine reg_take (i := 14) (v := .bool true) (some 6) rfl rfl (by kernel_rfl) (by kernel_rfl) (by kernel_rfl) (fun _ _ _ h => h) (by rfl) ?_ (by assumption) ?_
  · intro w hSw; (try dsimp only at hSw); go_simp
  try simp only [Act.put, List.setIfInBounds_toArray, List.set_cons_zero, List.set_cons_succ]
  refine wpAnyH_done (by kernel_rfl) ?_ _
  refine NoPanic.normal ?_
  clear hL hHeld
  go_wp2_with fail
  go_ret
  exact ⟨rfl, hHeld3⟩
theorem law_texts (H : WireHave) (s : ByteArray) (i m : Int) (w : World) (hi : I64 i) (hm : I64 m) : Calls Try.prog 7 #[.string s, .int .i64 i, .int .i64 m] w fun e w' => e = .returned (.bool true) ∧ Below w.heap.size w w' := by
  by_cases hs : s.size ≤ 2000
  · obtain ⟨t, x, er, h⟩ : ∃ a x e, textAt s.data.toList i m = (a, x, e) := ⟨_, _, _, rfl⟩
    obtain ⟨n, y, er2, hc⟩ : ∃ a x e, Hid (countAt s.data.toList i m = (a, x, e)) := ⟨_, _, _, hid rfl⟩
    rcases text_says h with ⟨rfl, i0, ix, xs, tl, hx, ht⟩ | ⟨he, rfl, rfl⟩
    · obtain ⟨j, rfl⟩ := Int.eq_ofNat_of_zero_le i0
      obtain ⟨z, rfl⟩ := Int.eq_ofNat_of_zero_le (show 0 ≤ x by omega)
      rw [len_size] at xs tl
      exact law_texts_ok H s j m w hi hm hs t z n y er2 (by omega) (by omega) (by omega) (hid h) hc (hid (piece_text hx ht))
    · exact law_texts_no H s i m w hi hm hs er he n y er2 (hid h) hc
  · exact law_texts_long H s i m w (by omega)

end Go.Proofs.Ytmpgeipknnoclaa
