/-
  The laws of wire on numbers, given what wire's functions answer.
-/
import Derived.Test.YtmpgeipknnoclaaWireLaws
import Derived.Test.YtmpgeipknnoclaaHeld
import Derived.Test.YtmpgeipknnoclaaRngMath
namespace Go.Proofs.Ytmpgeipknnoclaa
open Go.RowKit Go.Lib

set_option maxHeartbeats 2000000 in
theorem law_uints_long (H : WireHave) (n : Int) (s : ByteArray) (i : Int) (w : World) (hs : 2000 < s.size) : Calls Try.prog 4 #[.int .u64 n, .string s, .int .i64 i] w fun e w' => e = .returned (.bool true) ∧ Below w.heap.size w w' := by
  go_enter Try.func4, Try.ntmps4
  go_wp2_with fail
  ((with_reducible refine (awake_any H _).mono ?_); rintro e w1 ⟨rfl, hL⟩)
  go_wp2_with fail
  go_ret
  exact ⟨rfl, hL⟩
/-- What a read number stands for, as a piece of the text. -/
theorem piece {s : ByteArray} {j n z : Nat} (hz : (z : Int) = (j : Int) + (encU n).length) (h : (s.data.toList.drop j).take (encU n).length = encU n) : s.extract j z = bs (encU n) := by
  apply ByteArray.ext
  apply Array.toList_inj.1
  rw [show z = j + (encU n).length by omega, text_list, bs_list, h]

set_option maxHeartbeats 2000000 in
theorem law_uints_ok (H : WireHave) (n : Nat) (s : ByteArray) (j : Nat) (w : World) (hn : n < 18446744073709551616) (hi : I64 j) (hs : s.size ≤ 2000) (a z : Nat) (ha : a < 18446744073709551616) (hj : j ≤ z) (hz : z ≤ s.size)
    (h : Hid (takeAt s.data.toList j = (a, (z : Int), 0))) (hp : Hid (s.extract j z = bs (encU a))) : Calls Try.prog 4 #[.int .u64 n, .string s, .int .i64 j] w fun e w' => e = .returned (.bool true) ∧ Below w.heap.size w w' := by
  have h6 : s.size ≤ 6010 := by omega
  have b0 : (0 : Int) ≤ j := by omega
  have b1 : (j : Int) ≤ z := by omega
  have b2 : (z : Int) ≤ s.size := by omega
  have b3 : s.extract j z = bs (encU a) := hp.out
  go_enter Try.func4, Try.ntmps4
  go_wp2_with fail
  ((with_reducible refine (H.takeUint s j _ a _ 0 h6 hi h).mono ?_); rintro e w1 ⟨rfl, hL⟩)
  go_wp2_with fail
  ((with_reducible refine (rtake_n s j _ h6 a _ 0 h).mono ?_); rintro e w2 ⟨rfl, hw⟩)
  rw [← hw]
  clear hw
  go_wp2_with fail
  ((with_reducible refine (H.uint n _ hn).mono ?_); rintro e w3 ⟨rfl, hb⟩)
  replace hL := below_call hL hb
  clear hb
  go_wp2_with fail
  ((with_reducible refine (ruint_any n _ hn).mono ?_); rintro e w4 ⟨rfl, hb⟩)
  replace hL := below_call hL hb
  clear hb
  go_wp2_with fail
  replace hL := hL.drew
  go_region_held3 (fun w' => Below w.heap.size w w') (first | exact hL | exact below_call (by assumption) (by assumption) | assumption)
    (first
      | (go_at_call 10; with_reducible refine (H.uint a _ ha).mono ?_; rintro e w' ⟨rfl, hb⟩)
      | (go_at_call 9; with_reducible refine (awake_any H _).mono ?_; rintro e w' ⟨rfl, hb⟩))
  rename_i hH
  go_wp2_with fail
  go_ret
  exact ⟨rfl, hH⟩

set_option maxHeartbeats 2000000 in
theorem law_uints_no (H : WireHave) (n : Nat) (s : ByteArray) (i : Int) (w : World) (hn : n < 18446744073709551616) (hi : I64 i) (hs : s.size ≤ 2000) (er : Int) (he : er ≠ 0)
    (h : Hid (takeAt s.data.toList i = (0, 0, er))) : Calls Try.prog 4 #[.int .u64 n, .string s, .int .i64 i] w fun e w' => e = .returned (.bool true) ∧ Below w.heap.size w w' := by
  have h6 : s.size ≤ 6010 := by omega
  have z1 : (er == 0) = false := by simp [he]
  have z2 : (er != 0) = true := by simp [he]
  go_enter Try.func4, Try.ntmps4
  go_wp2_with fail
  ((with_reducible refine (H.takeUint s i _ 0 0 er h6 hi h).mono ?_); rintro e w1 ⟨rfl, hL⟩)
  go_wp2_with fail
  ((with_reducible refine (rtake_n s i _ h6 0 0 er h).mono ?_); rintro e w2 ⟨rfl, hw⟩)
  rw [← hw]
  clear hw
  go_wp2_with fail
  ((with_reducible refine (H.uint n _ hn).mono ?_); rintro e w3 ⟨rfl, hb⟩)
  replace hL := below_call hL hb
  clear hb
  go_wp2_with fail
  ((with_reducible refine (ruint_any n _ hn).mono ?_); rintro e w4 ⟨rfl, hb⟩)
  replace hL := below_call hL hb
  clear hb
  go_wp2_with fail
  replace hL := hL.drew
  refine wp_region_noPanic ?_
  refine wp_region_held_drew (S := (fun w' => Below w.heap.size w w')) (by kernel_rfl) hL (fun hHeld => ?_)
  refine reg_take (i := 0) (v := .int .i64 er) (some 51) rfl rfl (by kernel_rfl) (by kernel_rfl) (by kernel_rfl) (fun _ _ _ h => h) (by rfl) ?_ (by assumption) ?_
  · intro w hSw; (try dsimp only at hSw); go_simp
  try simp only [Act.put, List.setIfInBounds_toArray, List.set_cons_zero, List.set_cons_succ]
  refine reg_take (i := 1) (v := .bool true) (some 52) rfl rfl (by kernel_rfl) (by kernel_rfl) (by kernel_rfl) (fun _ _ _ h => h) (by rfl) ?_ (by assumption) ?_
  · intro w hSw; (try dsimp only at hSw); go_simp
  try simp only [Act.put, List.setIfInBounds_toArray, List.set_cons_zero, List.set_cons_succ]
  refine reg_take (i := 2) (v := .bool true) (some 53) rfl rfl (by kernel_rfl) (by kernel_rfl) (by kernel_rfl) (fun _ _ _ h => h) (by rfl) ?_ (by assumption) ?_
  · intro w hSw; (try dsimp only at hSw); go_simp
  try simp only [Act.put, List.setIfInBounds_toArray, List.set_cons_zero, List.set_cons_succ]
  refine reg_skip (i := 3) (some 54) rfl rfl (by kernel_rfl) (by kernel_rfl) (by kernel_rfl) (fun _ _ _ h => h) (by rfl) (by assumption) ?_
  try simp only [Act.put, List.setIfInBounds_toArray, List.set_cons_zero, List.set_cons_succ]
  refine reg_skip (i := 4) (some 55) rfl rfl (by kernel_rfl) (by kernel_rfl) (by kernel_rfl) (fun _ _ _ h => h) (by rfl) (by assumption) ?_
  try simp only [Act.put, List.setIfInBounds_toArray, List.set_cons_zero, List.set_cons_succ]
  refine reg_skip (i := 5) (some 56) rfl rfl (by kernel_rfl) (by kernel_rfl) (by kernel_rfl) (fun _ _ _ h => h) (by rfl) (by assumption) ?_
  try simp only [Act.put, List.setIfInBounds_toArray, List.set_cons_zero, List.set_cons_succ]
  refine reg_skip (i := 6) (some 57) rfl rfl (by kernel_rfl) (by kernel_rfl) (by kernel_rfl) (fun _ _ _ h => h) (by rfl) (by assumption) ?_
  try simp only [Act.put, List.setIfInBounds_toArray, List.set_cons_zero, List.set_cons_succ]
  refine reg_skip (i := 7) (some 58) rfl rfl (by kernel_rfl) (by kernel_rfl) (by kernel_rfl) (fun _ _ _ h => h) (by rfl) (by assumption) ?_
  try simp only [Act.put, List.setIfInBounds_toArray, List.set_cons_zero, List.set_cons_succ]
  refine reg_skip (i := 8) (some 59) rfl rfl (by kernel_rfl) (by kernel_rfl) (by kernel_rfl) (fun _ _ _ h => h) (by rfl) (by assumption) ?_
  try simp only [Act.put, List.setIfInBounds_toArray, List.set_cons_zero, List.set_cons_succ]
  refine reg_skip (i := 9) (some 60) rfl rfl (by kernel_rfl) (by kernel_rfl) (by kernel_rfl) (fun _ _ _ h => h) (by rfl) (by assumption) ?_
  try simp only [Act.put, List.setIfInBounds_toArray, List.set_cons_zero, List.set_cons_succ]
  refine reg_take (i := 10) (v := .bool true) (some 61) rfl rfl (by kernel_rfl) (by kernel_rfl) (by kernel_rfl) (fun _ _ _ h => h) (by rfl) ?_ (by assumption) ?_
  · intro w hSw; (try dsimp only at hSw); go_simp
  try simp only [Act.put, List.setIfInBounds_toArray, List.set_cons_zero, List.set_cons_succ]
  refine reg_take (i := 11) (v := .bool true) (some 62) rfl rfl (by kernel_rfl) (by kernel_rfl) (by kernel_rfl) (fun _ _ _ h => h) (by rfl) ?_ (by assumption) ?_
  · intro w hSw; (try dsimp only at hSw); go_simp
  try simp only [Act.put, List.setIfInBounds_toArray, List.set_cons_zero, List.set_cons_succ]
  refine wpAnyH_ready (rs := [12]) (by kernel_rfl) (by simp) ?_
  refine AllReadyH.cons rfl (fun K hK => ?_) AllReadyH.nil
  go_simp
  go_at_call 9
  with_reducible refine (awake_any H _).mono ?_
  rintro e w3 ⟨rfl, hb3⟩
  refine hK.out _ _ (below_call hHeld hb3) (fun hHeld3 => ?_)
  clear hK K
  try simp only [Act.put, List.setIfInBounds_toArray, List.set_cons_zero, List.set_cons_succ]
  refine reg_take (i := 13) (v := .bool true) (some 64) rfl rfl (by kernel_rfl) (by kernel_rfl) (by kernel_rfl) (fun _ _ _ h => h) (by rfl) ?_ (by assumption) ?_
  · intro w hSw; (try dsimp only at hSw); go_simp
  try simp only [Act.put, List.setIfInBounds_toArray, List.set_cons_zero, List.set_cons_succ]
  refine reg_take (i := 14) (v := .bool true) (some 6) rfl rfl (by kernel_rfl) (by kernel_rfl) (by kernel_rfl) (fun _ _ _ h => h) (by rfl) ?_ (by assumption) ?_
  · intro w hSw; (try dsimp only at hSw); go_simp
  try simp only [Act.put, List.setIfInBounds_toArray, List.set_cons_zero, List.set_cons_succ]
  refine wpAnyH_done (by kernel_rfl) ?_ _
  refine NoPanic.normal ?_
  clear hL hHeld
  go_wp2_with fail
  go_ret
  exact ⟨rfl, hHeld3⟩
theorem law_uints (H : WireHave) (n : Int) (s : ByteArray) (i : Int) (w : World) (hn : U64 n) (hi : I64 i) : Calls Try.prog 4 #[.int .u64 n, .string s, .int .i64 i] w fun e w' => e = .returned (.bool true) ∧ Below w.heap.size w w' := by
  by_cases hs : s.size ≤ 2000
  · obtain ⟨m, rfl⟩ := Int.eq_ofNat_of_zero_le hn.1
    have hm : m < 18446744073709551616 := by have := hn.2; omega
    obtain ⟨a, x, er, h⟩ : ∃ a x e, takeAt s.data.toList i = (a, x, e) := ⟨_, _, _, rfl⟩
    rcases at_says h with ⟨rfl, i0, ix, xs, ha, hx, ht⟩ | ⟨he, rfl, rfl⟩
    · obtain ⟨j, rfl⟩ := Int.eq_ofNat_of_zero_le i0
      obtain ⟨z, rfl⟩ := Int.eq_ofNat_of_zero_le (show 0 ≤ x by omega)
      rw [len_size] at xs
      exact law_uints_ok H m s j w hm hi hs a z ha (by omega) (by omega) (hid h) (hid (piece hx ht))
    · exact law_uints_no H m s i w hm hi hs er he (hid h)
  · exact law_uints_long H n s i w (by omega)

/-- What is known of a read int. -/
theorem int_says {l : List UInt8} {i n x e : Int} (h : intAt l i = (n, x, e)) : (e = 0 ∧ 0 ≤ i ∧ i < x ∧ x ≤ l.length ∧ I64 n ∧ x = i + (encU (zz n)).length ∧ (l.drop i.toNat).take (encU (zz n)).length = encU (zz n)) ∨ (e ≠ 0 ∧ n = 0 ∧ x = 0) := by
  obtain ⟨u, y, e0, hu⟩ : ∃ u y e, takeAt l i = (u, y, e) := ⟨_, _, _, rfl⟩
  have hs := at_says hu
  unfold intAt at h
  rw [hu] at h
  by_cases c : e0 = 0
  · subst c
    rw [if_pos rfl] at h
    injection h with h1 h; injection h with h2 h3
    have h1' : n = unzz u := h1.symm
    have h2' : x = y := h2.symm
    subst h1' h2' h3
    left
    rcases hs with ⟨_, p, q, r, b, f, g⟩ | ⟨p, _⟩
    · rw [zz_unzz]
      exact ⟨rfl, p, q, r, unzz_bd u b, f, g⟩
    · omega
  · rw [if_neg c] at h
    injection h with h1 h; injection h with h2 h3
    subst h1 h2 h3
    right; exact ⟨c, rfl, rfl⟩

set_option maxHeartbeats 2000000 in
theorem law_ints_long (H : WireHave) (n : Int) (s : ByteArray) (i : Int) (w : World) (hs : 2000 < s.size) : Calls Try.prog 5 #[.int .i64 n, .string s, .int .i64 i] w fun e w' => e = .returned (.bool true) ∧ Below w.heap.size w w' := by
  go_enter Try.func5, Try.ntmps5
  go_wp2_with fail
  ((with_reducible refine (awake_any H _).mono ?_); rintro e w1 ⟨rfl, hL⟩)
  go_wp2_with fail
  go_ret
  exact ⟨rfl, hL⟩
set_option maxHeartbeats 2000000 in
theorem law_ints_ok (H : WireHave) (n : Int) (s : ByteArray) (j : Nat) (w : World) (hn : I64 n) (hi : I64 j) (hs : s.size ≤ 2000) (a : Int) (z : Nat) (ha : I64 a) (hj : j ≤ z) (hz : z ≤ s.size)
    (h : Hid (intAt s.data.toList j = (a, (z : Int), 0))) (hp : Hid (s.extract j z = bs (encU (zz a)))) : Calls Try.prog 5 #[.int .i64 n, .string s, .int .i64 j] w fun e w' => e = .returned (.bool true) ∧ Below w.heap.size w w' := by
  have h6 : s.size ≤ 6010 := by omega
  have n0 : -9223372036854775808 ≤ n := hn.1
  have n1 : n ≤ 9223372036854775807 := hn.2
  have b0 : (0 : Int) ≤ j := by omega
  have b1 : (j : Int) ≤ z := by omega
  have b2 : (z : Int) ≤ s.size := by omega
  have b3 : s.extract j z = bs (encU (zz a)) := hp.out
  go_enter Try.func5, Try.ntmps5
  go_wp2_with fail
  ((with_reducible refine (H.takeInt s j _ a _ 0 h6 hi h).mono ?_); rintro e w1 ⟨rfl, hL⟩)
  go_wp2_with fail
  ((with_reducible refine (rtakeint_n s j _ h6 a _ 0 h).mono ?_); rintro e w2 ⟨rfl, hw⟩)
  rw [← hw]
  clear hw
  go_wp2_with fail
  ((with_reducible refine (H.int n _ hn).mono ?_); rintro e w3 ⟨rfl, hb⟩)
  replace hL := below_call hL hb
  clear hb
  go_wp2_with fail
  ((with_reducible refine (rint_any n _ n0 n1).mono ?_); rintro e w4 ⟨rfl, hb⟩)
  replace hL := below_call hL hb
  clear hb
  go_wp2_with fail
  replace hL := hL.drew
  go_region_held3 (fun w' => Below w.heap.size w w') (first | exact hL | exact below_call (by assumption) (by assumption) | assumption)
    (first
      | (go_at_call 11; with_reducible refine (H.int a _ ha).mono ?_; rintro e w' ⟨rfl, hb⟩)
      | (go_at_call 9; with_reducible refine (awake_any H _).mono ?_; rintro e w' ⟨rfl, hb⟩))
  rename_i hH
  go_wp2_with fail
  go_ret
  exact ⟨rfl, hH⟩

set_option maxHeartbeats 2000000 in
theorem law_ints_no (H : WireHave) (n : Int) (s : ByteArray) (i : Int) (w : World) (hn : I64 n) (hi : I64 i) (hs : s.size ≤ 2000) (er : Int) (he : er ≠ 0)
    (h : Hid (intAt s.data.toList i = (0, 0, er))) : Calls Try.prog 5 #[.int .i64 n, .string s, .int .i64 i] w fun e w' => e = .returned (.bool true) ∧ Below w.heap.size w w' := by
  have h6 : s.size ≤ 6010 := by omega
  have n0 : -9223372036854775808 ≤ n := hn.1
  have n1 : n ≤ 9223372036854775807 := hn.2
  have z1 : (er == 0) = false := by simp [he]
  have z2 : (er != 0) = true := by simp [he]
  go_enter Try.func5, Try.ntmps5
  go_wp2_with fail
  ((with_reducible refine (H.takeInt s i _ 0 0 er h6 hi h).mono ?_); rintro e w1 ⟨rfl, hL⟩)
  go_wp2_with fail
  ((with_reducible refine (rtakeint_n s i _ h6 0 0 er h).mono ?_); rintro e w2 ⟨rfl, hw⟩)
  rw [← hw]
  clear hw
  go_wp2_with fail
  ((with_reducible refine (H.int n _ hn).mono ?_); rintro e w3 ⟨rfl, hb⟩)
  replace hL := below_call hL hb
  clear hb
  go_wp2_with fail
  ((with_reducible refine (rint_any n _ n0 n1).mono ?_); rintro e w4 ⟨rfl, hb⟩)
  replace hL := below_call hL hb
  clear hb
  go_wp2_with fail
  replace hL := hL.drew
  refine wp_region_noPanic ?_
  refine wp_region_held_drew (S := (fun w' => Below w.heap.size w w')) (by kernel_rfl) hL (fun hHeld => ?_)
  refine reg_take (i := 0) (v := .int .i64 er) (some 51) rfl rfl (by kernel_rfl) (by kernel_rfl) (by kernel_rfl) (fun _ _ _ h => h) (by rfl) ?_ (by assumption) ?_
  · intro w hSw; (try dsimp only at hSw); go_simp
  try simp only [Act.put, List.setIfInBounds_toArray, List.set_cons_zero, List.set_cons_succ]
  refine reg_take (i := 1) (v := .bool true) (some 52) rfl rfl (by kernel_rfl) (by kernel_rfl) (by kernel_rfl) (fun _ _ _ h => h) (by rfl) ?_ (by assumption) ?_
  · intro w hSw; (try dsimp only at hSw); go_simp
  try simp only [Act.put, List.setIfInBounds_toArray, List.set_cons_zero, List.set_cons_succ]
  refine reg_take (i := 2) (v := .bool true) (some 53) rfl rfl (by kernel_rfl) (by kernel_rfl) (by kernel_rfl) (fun _ _ _ h => h) (by rfl) ?_ (by assumption) ?_
  · intro w hSw; (try dsimp only at hSw); go_simp
  try simp only [Act.put, List.setIfInBounds_toArray, List.set_cons_zero, List.set_cons_succ]
  refine reg_skip (i := 3) (some 54) rfl rfl (by kernel_rfl) (by kernel_rfl) (by kernel_rfl) (fun _ _ _ h => h) (by rfl) (by assumption) ?_
  try simp only [Act.put, List.setIfInBounds_toArray, List.set_cons_zero, List.set_cons_succ]
  refine reg_skip (i := 4) (some 55) rfl rfl (by kernel_rfl) (by kernel_rfl) (by kernel_rfl) (fun _ _ _ h => h) (by rfl) (by assumption) ?_
  try simp only [Act.put, List.setIfInBounds_toArray, List.set_cons_zero, List.set_cons_succ]
  refine reg_skip (i := 5) (some 56) rfl rfl (by kernel_rfl) (by kernel_rfl) (by kernel_rfl) (fun _ _ _ h => h) (by rfl) (by assumption) ?_
  try simp only [Act.put, List.setIfInBounds_toArray, List.set_cons_zero, List.set_cons_succ]
  refine reg_skip (i := 6) (some 57) rfl rfl (by kernel_rfl) (by kernel_rfl) (by kernel_rfl) (fun _ _ _ h => h) (by rfl) (by assumption) ?_
  try simp only [Act.put, List.setIfInBounds_toArray, List.set_cons_zero, List.set_cons_succ]
  refine reg_skip (i := 7) (some 58) rfl rfl (by kernel_rfl) (by kernel_rfl) (by kernel_rfl) (fun _ _ _ h => h) (by rfl) (by assumption) ?_
  try simp only [Act.put, List.setIfInBounds_toArray, List.set_cons_zero, List.set_cons_succ]
  refine reg_skip (i := 8) (some 59) rfl rfl (by kernel_rfl) (by kernel_rfl) (by kernel_rfl) (fun _ _ _ h => h) (by rfl) (by assumption) ?_
  try simp only [Act.put, List.setIfInBounds_toArray, List.set_cons_zero, List.set_cons_succ]
  refine reg_skip (i := 9) (some 60) rfl rfl (by kernel_rfl) (by kernel_rfl) (by kernel_rfl) (fun _ _ _ h => h) (by rfl) (by assumption) ?_
  try simp only [Act.put, List.setIfInBounds_toArray, List.set_cons_zero, List.set_cons_succ]
  refine reg_take (i := 10) (v := .bool true) (some 61) rfl rfl (by kernel_rfl) (by kernel_rfl) (by kernel_rfl) (fun _ _ _ h => h) (by rfl) ?_ (by assumption) ?_
  · intro w hSw; (try dsimp only at hSw); go_simp
  try simp only [Act.put, List.setIfInBounds_toArray, List.set_cons_zero, List.set_cons_succ]
  refine reg_take (i := 11) (v := .bool true) (some 62) rfl rfl (by kernel_rfl) (by kernel_rfl) (by kernel_rfl) (fun _ _ _ h => h) (by rfl) ?_ (by assumption) ?_
  · intro w hSw; (try dsimp only at hSw); go_simp
  try simp only [Act.put, List.setIfInBounds_toArray, List.set_cons_zero, List.set_cons_succ]
  refine wpAnyH_ready (rs := [12]) (by kernel_rfl) (by simp) ?_
  refine AllReadyH.cons rfl (fun K hK => ?_) AllReadyH.nil
  go_simp
  go_at_call 9
  with_reducible refine (awake_any H _).mono ?_
  rintro e w3 ⟨rfl, hb3⟩
  refine hK.out _ _ (below_call hHeld hb3) (fun hHeld3 => ?_)
  clear hK K
  try simp only [Act.put, List.setIfInBounds_toArray, List.set_cons_zero, List.set_cons_succ]
  refine reg_take (i := 13) (v := .bool true) (some 64) rfl rfl (by kernel_rfl) (by kernel_rfl) (by kernel_rfl) (fun _ _ _ h => h) (by rfl) ?_ (by assumption) ?_
  · intro w hSw; (try dsimp only at hSw); go_simp
  try simp only [Act.put, List.setIfInBounds_toArray, List.set_cons_zero, List.set_cons_succ]
  refine reg_take (i := 14) (v := .bool true) (some 6) rfl rfl (by kernel_rfl) (by kernel_rfl) (by kernel_rfl) (fun _ _ _ h => h) (by rfl) ?_ (by assumption) ?_
  · intro w hSw; (try dsimp only at hSw); go_simp
  try simp only [Act.put, List.setIfInBounds_toArray, List.set_cons_zero, List.set_cons_succ]
  refine wpAnyH_done (by kernel_rfl) ?_ _
  refine NoPanic.normal ?_
  clear hL hHeld
  go_wp2_with fail
  go_ret
  exact ⟨rfl, hHeld3⟩
theorem law_ints (H : WireHave) (n : Int) (s : ByteArray) (i : Int) (w : World) (hn : I64 n) (hi : I64 i) : Calls Try.prog 5 #[.int .i64 n, .string s, .int .i64 i] w fun e w' => e = .returned (.bool true) ∧ Below w.heap.size w w' := by
  by_cases hs : s.size ≤ 2000
  · obtain ⟨a, x, er, h⟩ : ∃ a x e, intAt s.data.toList i = (a, x, e) := ⟨_, _, _, rfl⟩
    rcases int_says h with ⟨rfl, i0, ix, xs, ha, hx, ht⟩ | ⟨he, rfl, rfl⟩
    · obtain ⟨j, rfl⟩ := Int.eq_ofNat_of_zero_le i0
      obtain ⟨z, rfl⟩ := Int.eq_ofNat_of_zero_le (show 0 ≤ x by omega)
      rw [len_size] at xs
      exact law_ints_ok H n s j w hn hi hs a z ha (by omega) (by omega) (hid h) (hid (piece hx ht))
    · exact law_ints_no H n s i w hn hi hs er he (hid h)
  · exact law_ints_long H n s i w (by omega)

end Go.Proofs.Ytmpgeipknnoclaa
