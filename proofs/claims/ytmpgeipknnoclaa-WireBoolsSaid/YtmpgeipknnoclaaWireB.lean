/-
  What the rest of the reference of wire answers.
-/
import Derived.Test.YtmpgeipknnoclaaWireA
import Derived.Test.YtmpgeipknnoclaaBox
namespace Go.Proofs.Ytmpgeipknnoclaa
open Go.RowKit Go.Lib

set_option maxHeartbeats 400000 in
theorem rtake_out (s : ByteArray) (i : Int) (w : World) (_hs : s.size ≤ 6010) (hi : i < 0 ∨ (s.size : Int) < i) :
    Calls Try.prog 19 #[.string s, .int .i64 i] w fun e w' => e = .returned (.tuple #[.int .u64 0, .int .i64 0, .int .i64 1]) ∧ w = w' := by
  by_cases h : i < 0
  · go_enter Try.func19, Try.ntmps19
    go_wp2
    go_ret3
    exact ⟨rfl, rfl⟩
  · have h2 : (s.size : Int) < i := by omega
    go_enter Try.func19, Try.ntmps19
    go_wp2
    go_ret3
    exact ⟨rfl, rfl⟩
/-- The list's length, as the walk has it. -/
theorem len_size (s : ByteArray) : s.data.toList.length = s.size := (Lib.size_eq s).symm
theorem rtake_n (s : ByteArray) (i : Int) (w : World) (hs : s.size ≤ 6010) (n : Nat) (x er : Int) (hr : Hid (takeAt s.data.toList i = (n, x, er))) :
    Calls Try.prog 19 #[.string s, .int .i64 i] w fun e w' => e = .returned (.tuple #[.int .u64 n, .int .i64 x, .int .i64 er]) ∧ w = w' := by
  by_cases h : i < 0 ∨ (s.size : Int) < i
  · have e := hr.out
    unfold takeAt at e
    rw [len_size, if_pos h] at e
    injection e with e1 e; injection e with e2 e3
    subst e1 e2 e3
    exact rtake_out s i w hs h
  · obtain ⟨j, rfl⟩ := Int.eq_ofNat_of_zero_le (show 0 ≤ i by omega)
    have e := hr.out
    rw [at_pos (by omega) (by rw [len_size]; omega), Int.toNat_natCast] at e
    obtain ⟨m, u, er', hu⟩ : ∃ m u e, takeU (s.data.toList.drop j) = (m, u, e) := ⟨_, _, _, rfl⟩
    refine (rtake_walk s j w hs (by omega) m u er' (hid hu)).mono ?_
    rintro e' w' ⟨rfl, rfl⟩
    rw [hu] at e
    refine ⟨?_, rfl⟩
    by_cases c : er' = 0
    · subst c
      rw [if_pos rfl] at e ⊢
      injection e with e1 e; injection e with e2 e3
      subst e1 e2 e3
      simp
    · rw [if_neg c] at e ⊢
      injection e with e1 e; injection e with e2 e3
      have hz := go_err (s.data.toList.drop j) 0 0 (by show (takeU _).2.2 ≠ 0; rw [hu]; exact c)
      have hz1 : m = 0 := by have := hz.1; rw [show takeGo 0 0 (s.data.toList.drop j) = (m, u, er') from hu] at this; exact this
      subst e1 e2 e3 hz1
      rfl

set_option maxHeartbeats 400000 in
theorem rint_any (n : Int) (w : World) (h0 : -9223372036854775808 ≤ n) (h1 : n ≤ 9223372036854775807) :
    Calls Try.prog 22 #[.int .i64 n] w fun e w' => e = .returned (.string (bs (encU (zz n)))) ∧ Below w.heap.size w w' := by
  have hz := zz_bd n h0 h1
  by_cases h : n < 0
  · have hc := ruint_any (zz n) w hz
    rw [show ((zz n : Nat) : Int) = 2 * -(n + 1) + 1 by unfold zz; rw [if_pos h]; omega] at hc
    have e1 : IntKind.i64.wrap (-(n + 1)) = -(n + 1) := IntWalk.i64_in _ (by omega)
    have e2 : IntKind.u64.wrap (-(n + 1)) = -(n + 1) := IntWalk.u64_in _ (by omega)
    have e3 : IntKind.u64.wrap (2 * -(n + 1)) = 2 * -(n + 1) := IntWalk.u64_in _ (by omega)
    have e4 : IntKind.u64.wrap (2 * -(n + 1) + 1) = 2 * -(n + 1) + 1 := IntWalk.u64_in _ (by omega)
    go_enter Try.func22, Try.ntmps22
    go_wp2_with fail
    refine hc.mono ?_
    rintro e w' ⟨rfl, hb⟩
    go_wp2_with fail
    go_ret
    exact ⟨rfl, hb⟩
  · have hc := ruint_any (zz n) w hz
    rw [show ((zz n : Nat) : Int) = 2 * n by unfold zz; rw [if_neg h]; omega] at hc
    have e2 : IntKind.u64.wrap n = n := IntWalk.u64_in _ (by omega)
    have e3 : IntKind.u64.wrap (2 * n) = 2 * n := IntWalk.u64_in _ (by omega)
    go_enter Try.func22, Try.ntmps22
    go_wp2_with fail
    refine hc.mono ?_
    rintro e w' ⟨rfl, hb⟩
    go_wp2_with fail
    go_ret
    exact ⟨rfl, hb⟩

set_option maxHeartbeats 400000 in
theorem rtext_any (s : ByteArray) (w : World) (hs : s.size ≤ 2000) :
    Calls Try.prog 27 #[.string s] w fun e w' => e = .returned (.string (bs (encU s.size) ++ s)) ∧ Below w.heap.size w w' := by
  have hl := enc_ten s.size (by omega)
  have hz : (bs (encU s.size)).size ≤ 10 := by rw [bs_size]; exact hl
  go_enter Try.func27, Try.ntmps27
  go_wp2_with fail
  ((with_reducible refine (ruint_any s.size _ (by omega)).mono ?_); rintro e w1 ⟨rfl, hb⟩)
  go_wp2_with fail
  go_ret
  exact ⟨rfl, hb⟩
set_option maxHeartbeats 400000 in
theorem rbool_any (b : Bool) (w : World) :
    Calls Try.prog 24 #[.bool b] w fun e w' => e = .returned (.string (bs [if b then 1 else 0])) ∧ w = w' := by
  cases b
  · go_enter Try.func24, Try.ntmps24
    go_wp2
    go_ret
    exact ⟨rfl, rfl⟩
  · go_enter Try.func24, Try.ntmps24
    go_wp2
    go_ret
    exact ⟨rfl, rfl⟩

theorem ret_first {k l m : IntKind} {a b c d : Int} (h : a = d) : Ending.returned (.tuple #[.int k a, .int l b, .int m c]) = .returned (.tuple #[.int k d, .int l b, .int m c]) := by rw [h]
set_option maxHeartbeats 400000 in
theorem rtakeint_n (s : ByteArray) (i : Int) (w : World) (hs : s.size ≤ 6010) (n x er : Int) (hr : Hid (intAt s.data.toList i = (n, x, er))) :
    Calls Try.prog 21 #[.string s, .int .i64 i] w fun e w' => e = .returned (.tuple #[.int .i64 n, .int .i64 x, .int .i64 er]) ∧ w = w' := by
  obtain ⟨u, y, e0, hu⟩ : ∃ u y e, Hid (takeAt s.data.toList i = (u, y, e)) := ⟨_, _, _, hid rfl⟩
  have hq := hr.out
  unfold intAt at hq
  rw [hu.out] at hq
  have hsay := at_says hu.out
  by_cases c : e0 = 0
  · subst c
    rw [if_pos rfl] at hq
    injection hq with q1 hq; injection hq with q2 q3
    subst q1 q2 q3
    have ub : u < 18446744073709551616 := by rcases hsay with ⟨_, _, _, _, h, _⟩ | ⟨h, _⟩ <;> omega
    clear hsay hr
    by_cases o : u % 2 = 1
    · have z1 : ((u : Int) % 2 == 1) = true := by simp; omega
      have ez : unzz u = -((u / 2 : Nat) : Int) - 1 := by unfold unzz; rw [if_pos o]
      go_enter Try.func21, Try.ntmps21
      go_wp2_with fail
      ((with_reducible refine (rtake_n s i _ hs u y 0 hu).mono ?_); rintro e w1 ⟨rfl, hw⟩)
      rw [← hw]
      clear hw
      go_wp2_with fail
      go_ret3
      exact ⟨ret_first (by rw [ez]; omega), rfl⟩
    · have z1 : ((u : Int) % 2 == 1) = false := by simp; omega
      have ez : unzz u = ((u / 2 : Nat) : Int) := by unfold unzz; rw [if_neg o]
      go_enter Try.func21, Try.ntmps21
      go_wp2_with fail
      ((with_reducible refine (rtake_n s i _ hs u y 0 hu).mono ?_); rintro e w1 ⟨rfl, hw⟩)
      rw [← hw]
      clear hw
      go_wp2_with fail
      go_ret3
      exact ⟨ret_first (by rw [ez]; omega), rfl⟩
  · rw [if_neg c] at hq
    injection hq with q1 hq; injection hq with q2 q3
    subst q1 q2 q3
    have z1 : (e0 == 0) = false := by simp [c]
    have z2 : (e0 != 0) = true := by simp [c]
    clear hsay hr
    go_enter Try.func21, Try.ntmps21
    go_wp2_with fail
    ((with_reducible refine (rtake_n s i _ hs u y e0 hu).mono ?_); rintro e w1 ⟨rfl, hw⟩)
    rw [← hw]
    clear hw
    go_wp2_with fail
    go_ret3
    exact ⟨rfl, rfl⟩

set_option maxHeartbeats 1000000 in
theorem rcount_n (s : ByteArray) (i m : Int) (w : World) (hs : s.size ≤ 6010) (hm : m ≤ 9223372036854775807) (n : Nat) (x er : Int) (hr : Hid (countAt s.data.toList i m = (n, x, er))) :
    Calls Try.prog 26 #[.string s, .int .i64 i, .int .i64 m] w fun e w' => e = .returned (.tuple #[.int .i64 n, .int .i64 x, .int .i64 er]) ∧ w = w' := by
  obtain ⟨u, y, e0, hu⟩ : ∃ u y e, Hid (takeAt s.data.toList i = (u, y, e)) := ⟨_, _, _, hid rfl⟩
  have hq := hr.out
  unfold countAt at hq
  rw [hu.out, len_size] at hq
  have hsay := at_says hu.out
  rw [len_size] at hsay
  clear hr
  by_cases c : e0 = 0
  · subst c
    rw [if_pos rfl] at hq
    have hsay2 : 0 ≤ i ∧ i < y ∧ y ≤ (s.size : Int) ∧ u < 18446744073709551616 := by rcases hsay with ⟨_, a, b, d, h, _⟩ | ⟨h, _⟩ <;> omega
    obtain ⟨i0, iy, ys, ub⟩ := hsay2
    clear hsay
    by_cases a1 : m < 0
    · rw [if_pos (Or.inl a1)] at hq
      injection hq with q1 hq; injection hq with q2 q3
      subst q1 q2 q3
      go_enter Try.func26, Try.ntmps26
      go_wp2_with fail
      ((with_reducible refine (rtake_n s i _ hs u y 0 hu).mono ?_); rintro e w1 ⟨rfl, hw⟩)
      rw [← hw]
      clear hw
      go_wp2_with fail
      go_ret3
      exact ⟨rfl, rfl⟩
    · have em : IntKind.u64.wrap m = m := IntWalk.u64_in _ (by omega)
      by_cases a2 : m < (u : Int)
      · rw [if_pos (Or.inr a2)] at hq
        injection hq with q1 hq; injection hq with q2 q3
        subst q1 q2 q3
        go_enter Try.func26, Try.ntmps26
        go_wp2_with fail
        ((with_reducible refine (rtake_n s i _ hs u y 0 hu).mono ?_); rintro e w1 ⟨rfl, hw⟩)
        rw [← hw]
        clear hw
        go_wp2_with fail
        go_ret3
        exact ⟨rfl, rfl⟩
      · rw [if_neg (by omega)] at hq
        have el : IntKind.u64.wrap ((s.size : Int) - y) = (s.size : Int) - y := IntWalk.u64_in _ (by omega)
        by_cases a3 : (s.size : Int) - y < (u : Int)
        · rw [if_pos a3] at hq
          injection hq with q1 hq; injection hq with q2 q3
          subst q1 q2 q3
          go_enter Try.func26, Try.ntmps26
          go_wp2_with fail
          ((with_reducible refine (rtake_n s i _ hs u y 0 hu).mono ?_); rintro e w1 ⟨rfl, hw⟩)
          rw [← hw]
          clear hw
          go_wp2_with fail
          go_ret3
          exact ⟨rfl, rfl⟩
        · rw [if_neg a3] at hq
          injection hq with q1 hq; injection hq with q2 q3
          subst q1 q2 q3
          go_enter Try.func26, Try.ntmps26
          go_wp2_with fail
          ((with_reducible refine (rtake_n s i _ hs u y 0 hu).mono ?_); rintro e w1 ⟨rfl, hw⟩)
          rw [← hw]
          clear hw
          go_wp2_with fail
          go_ret3
          exact ⟨rfl, rfl⟩
  · rw [if_neg c] at hq
    injection hq with q1 hq; injection hq with q2 q3
    subst q1 q2 q3
    have z1 : (e0 == 0) = false := by simp [c]
    have z2 : (e0 != 0) = true := by simp [c]
    clear hsay
    go_enter Try.func26, Try.ntmps26
    go_wp2_with fail
    ((with_reducible refine (rtake_n s i _ hs u y e0 hu).mono ?_); rintro e w1 ⟨rfl, hw⟩)
    rw [← hw]
    clear hw
    go_wp2_with fail
    go_ret3
    exact ⟨rfl, rfl⟩

/-- What is known of a count. -/
theorem count_says {l : List UInt8} {i m : Int} {n : Nat} {x e : Int} (h : countAt l i m = (n, x, e)) : (e = 0 ∧ 0 ≤ i ∧ i < x ∧ x + n ≤ l.length ∧ (n : Int) ≤ m ∧ takeAt l i = (n, x, 0)) ∨ (e ≠ 0 ∧ n = 0 ∧ x = 0) := by
  obtain ⟨u, y, e0, hu⟩ : ∃ u y e, takeAt l i = (u, y, e) := ⟨_, _, _, rfl⟩
  have hs := at_says hu
  unfold countAt at h
  rw [hu] at h
  by_cases c : e0 = 0
  · subst c
    rw [if_pos rfl] at h
    by_cases a : m < 0 ∨ m < (u : Int)
    · rw [if_pos a] at h
      injection h with h1 h; injection h with h2 h3
      right; exact ⟨by omega, h1.symm, h2.symm⟩
    · rw [if_neg a] at h
      by_cases b : (l.length : Int) - y < u
      · rw [if_pos b] at h
        injection h with h1 h; injection h with h2 h3
        right; exact ⟨by omega, h1.symm, h2.symm⟩
      · rw [if_neg b] at h
        injection h with h1 h; injection h with h2 h3
        have h1' : n = u := h1.symm
        have h2' : x = y := h2.symm
        subst h1' h2' h3
        left
        rcases hs with ⟨_, p, q, r, _⟩ | ⟨p, _⟩
        · exact ⟨rfl, p, q, by omega, by omega, hu⟩
        · omega
  · rw [if_neg c] at h
    injection h with h1 h; injection h with h2 h3
    subst h1 h2 h3
    right; exact ⟨c, rfl, rfl⟩

theorem text_list (s : ByteArray) (a b : Nat) : (s.extract a (a + b)).data.toList = (s.data.toList.drop a).take b := by
  rw [ByteArray.data_extract, Array.toList_extract, List.extract_eq_take_drop, show a + b - a = b by omega]
theorem ret_str3 {a b : ByteArray} {l m : IntKind} {c d e f : Int} (h : a = b) (h2 : c = d) (h3 : e = f) : Ending.returned (.tuple #[.string a, .int l c, .int m e]) = .returned (.tuple #[.string b, .int l d, .int m f]) := by rw [h, h2, h3]
set_option maxHeartbeats 1000000 in
theorem rtaketext_n (s : ByteArray) (i m : Int) (w : World) (hs : s.size ≤ 6010) (hm : m ≤ 9223372036854775807) (t : List UInt8) (x er : Int) (hr : Hid (textAt s.data.toList i m = (t, x, er))) :
    Calls Try.prog 25 #[.string s, .int .i64 i, .int .i64 m] w fun e w' => e = .returned (.tuple #[.string (bs t), .int .i64 x, .int .i64 er]) ∧ w = w' := by
  obtain ⟨n, y, e0, hu⟩ : ∃ u y e, Hid (countAt s.data.toList i m = (u, y, e)) := ⟨_, _, _, hid rfl⟩
  have hq := hr.out
  unfold textAt at hq
  rw [hu.out] at hq
  have hsay := count_says hu.out
  rw [len_size] at hsay
  clear hr
  by_cases c : e0 = 0
  · subst c
    rw [if_pos rfl] at hq
    have hsay2 : 0 ≤ i ∧ i < y ∧ y + n ≤ (s.size : Int) := by rcases hsay with ⟨_, a, b, d, _⟩ | ⟨h, _⟩ <;> omega
    obtain ⟨i0, iy, ys⟩ := hsay2
    clear hsay
    injection hq with q1 hq; injection hq with q2 q3
    obtain ⟨z, rfl⟩ := Int.eq_ofNat_of_zero_le (show 0 ≤ y by omega)
    have q1' : t = (s.data.toList.drop z).take n := q1.symm
    have q2' : x = (z : Int) + n := q2.symm
    have q3' : er = 0 := q3.symm
    subst q1' q2' q3'
    have b1 : (z : Int) + n ≤ s.size := ys
    go_enter Try.func25, Try.ntmps25
    go_wp2_with fail
    ((with_reducible refine (rcount_n s i m _ hs hm n z 0 hu).mono ?_); rintro e w1 ⟨rfl, hw⟩)
    rw [← hw]
    clear hw
    go_wp2_with fail
    go_ret3
    refine ⟨ret_str3 ?_ rfl rfl, rfl⟩
    apply ByteArray.ext
    apply Array.toList_inj.1
    rw [text_list, bs_list]
  · rw [if_neg c] at hq
    injection hq with q1 hq; injection hq with q2 q3
    subst q1 q2 q3
    have z1 : (e0 == 0) = false := by simp [c]
    have z2 : (e0 != 0) = true := by simp [c]
    clear hsay
    go_enter Try.func25, Try.ntmps25
    go_wp2_with fail
    ((with_reducible refine (rcount_n s i m _ hs hm n y e0 hu).mono ?_); rintro e w1 ⟨rfl, hw⟩)
    rw [← hw]
    clear hw
    go_wp2_with fail
    go_ret3
    exact ⟨rfl, rfl⟩

theorem ret_bool3 {a b : Bool} {l m : IntKind} {c e : Int} (h : a = b) : Ending.returned (.tuple #[.bool a, .int l c, .int m e]) = .returned (.tuple #[.bool b, .int l c, .int m e]) := by rw [h]
theorem one_int (n : Nat) : ((n : Int) == 1) = (n == 1) := by
  by_cases h : n = 1
  · subst h; rfl
  · have h1 : ((n : Int) == 1) = false := by rw [beq_eq_false_iff_ne]; omega
    have h2 : (n == 1) = false := by rw [beq_eq_false_iff_ne]; exact h
    rw [h1, h2]
theorem bool_out {l : List UInt8} {i : Int} (h : i < 0 ∨ (l.length : Int) < i) : boolAt l i = (false, 0, 1) := by unfold boolAt; rw [if_pos h]
set_option maxHeartbeats 1000000 in
theorem rtakebool_n (s : ByteArray) (i : Int) (w : World) (hs : s.size ≤ 6010) (b : Bool) (x er : Int) (hr : Hid (boolAt s.data.toList i = (b, x, er))) :
    Calls Try.prog 23 #[.string s, .int .i64 i] w fun e w' => e = .returned (.tuple #[.bool b, .int .i64 x, .int .i64 er]) ∧ w = w' := by
  have hq := hr.out
  unfold boolAt at hq
  rw [len_size] at hq
  clear hr
  by_cases h : i < 0 ∨ (s.size : Int) < i
  · rw [if_pos h] at hq
    injection hq with q1 hq; injection hq with q2 q3
    subst q1 q2 q3
    by_cases h1 : i < 0
    · go_enter Try.func23, Try.ntmps23
      go_wp2
      go_ret3
      exact ⟨rfl, rfl⟩
    · have h2 : (s.size : Int) < i := by omega
      go_enter Try.func23, Try.ntmps23
      go_wp2
      go_ret3
      exact ⟨rfl, rfl⟩
  · rw [if_neg h] at hq
    obtain ⟨j, rfl⟩ := Int.eq_ofNat_of_zero_le (show 0 ≤ i by omega)
    rw [Int.toNat_natCast] at hq
    by_cases hend : j = s.size
    · subst hend
      rw [List.drop_eq_nil_of_le (by rw [len_size]; exact Nat.le_refl _)] at hq
      injection hq with q1 hq; injection hq with q2 q3
      subst q1 q2 q3
      go_enter Try.func23, Try.ntmps23
      go_wp2
      go_ret3
      exact ⟨rfl, rfl⟩
    · have hlt : j < s.size := by omega
      rw [drop_at hlt] at hq
      have b1 : (j : Int) < s.size := by omega
      have b2 : ((j : Int) == (s.size : Int)) = false := by simp; omega
      have hbb := (s[j]'hlt).toNat_lt
      by_cases c : 1 < (s[j]'hlt).toNat
      · simp only [if_pos c] at hq
        injection hq with q1 hq; injection hq with q2 q3
        subst q1 q2 q3
        have b3 : (1 : Int) < ((s[j]'hlt).toNat : Int) := by omega
        go_enter Try.func23, Try.ntmps23
        go_wp2_with fail
        go_ret3
        exact ⟨rfl, rfl⟩
      · simp only [if_neg c] at hq
        injection hq with q1 hq; injection hq with q2 q3
        subst q1 q2 q3
        have b3 : ¬ (1 : Int) < ((s[j]'hlt).toNat : Int) := by omega
        go_enter Try.func23, Try.ntmps23
        go_wp2_with fail
        go_ret3
        exact ⟨ret_bool3 (one_int _), rfl⟩

end Go.Proofs.Ytmpgeipknnoclaa
