/-
  wire as it landed at 48062e2: the rest.
-/
import Derived.Test.YtmpgeipknnoclaaWireLandC
namespace Go.Proofs.Ytmpgeipknnoclaa
open Go.RowKit Go.Lib

set_option maxHeartbeats 400000 in
theorem dbool (b : Bool) (w : World) : Calls Try.prog 12 #[.bool b] w fun e w' => e = .returned (.string (boolE b)) ∧ Below w.heap.size w w' := by
  cases b
  · go_enter Try.func12, Try.ntmps12
    go_wp2
    go_ret
    exact ⟨rfl, Below.refl _ _⟩
  · go_enter Try.func12, Try.ntmps12
    go_wp2
    go_ret
    exact ⟨rfl, Below.refl _ _⟩

set_option maxHeartbeats 400000 in
theorem dint (hU : UintHave) (n : Int) (w : World) (hn : I64 n) : Calls Try.prog 11 #[.int .i64 n] w fun e w' => e = .returned (.string (bs (encU (zz n)))) ∧ Below w.heap.size w w' := by
  have hc := hU (zz n) w (zz_bd n hn.1 hn.2)
  have hn0 := hn.1
  have hn1 := hn.2
  by_cases h : n < 0
  · have e0 : ((zz n : Nat) : Int) = 2 * (-(n + 1)) + 1 := by unfold zz; rw [if_pos h]; omega
    rw [e0] at hc
    have e1 : wrap64 (n + 1) = n + 1 := IntWalk.wrap64_in _ (by omega)
    have e2 : wrap64 (-(n + 1)) = -(n + 1) := IntWalk.wrap64_in _ (by omega)
    have e3 : IntKind.u64.wrap (-(n + 1)) = -(n + 1) := IntWalk.u64_in _ (by omega)
    have e4 : IntKind.u64.wrap (2 * (-(n + 1))) = 2 * (-(n + 1)) := IntWalk.u64_in _ (by omega)
    have e5 : IntKind.u64.wrap (2 * (-(n + 1)) + 1) = 2 * (-(n + 1)) + 1 := IntWalk.u64_in _ (by omega)
    go_enter Try.func11, Try.ntmps11
    go_wp2_with fail
    refine hc.mono ?_
    rintro e w1 ⟨rfl, hb⟩
    go_wp2_with fail
    go_ret
    exact ⟨rfl, hb⟩
  · have e0 : ((zz n : Nat) : Int) = 2 * n := by unfold zz; rw [if_neg h]; omega
    rw [e0] at hc
    have e3 : IntKind.u64.wrap n = n := IntWalk.u64_in _ (by omega)
    have e4 : IntKind.u64.wrap (2 * n) = 2 * n := IntWalk.u64_in _ (by omega)
    go_enter Try.func11, Try.ntmps11
    go_wp2_with fail
    refine hc.mono ?_
    rintro e w1 ⟨rfl, hb⟩
    go_wp2_with fail
    go_ret
    exact ⟨rfl, hb⟩

set_option maxHeartbeats 1000000 in
theorem dcount (hT : TakeHave) (s : ByteArray) (i m : Int) (w : World) (hs : s.size ≤ 6010) (hi : I64 i) (hm : m ≤ 9223372036854775807) (n : Nat) (x er : Int) (hr : Hid (countAt s.data.toList i m = (n, x, er))) :
    Calls Try.prog 18 #[.string s, .int .i64 i, .int .i64 m] w fun e w' => e = .returned (.tuple #[.int .i64 n, .int .i64 x, .int .i64 er]) ∧ Below w.heap.size w w' := by
  obtain ⟨u, y, e0, hu⟩ : ∃ u y e, Hid (takeAt s.data.toList i = (u, y, e)) := ⟨_, _, _, hid rfl⟩
  have hq := hr.out
  unfold countAt at hq
  rw [hu.out, len_size] at hq
  have hsay := at_says hu.out
  rw [len_size] at hsay
  clear hr
  by_cases c : e0 = 0
  · subst c
    rw [if_pos rfl] at hq
    have hsay2 : 0 ≤ i ∧ i < y ∧ y ≤ (s.size : Int) ∧ u < 18446744073709551616 := by rcases hsay with ⟨_, a, b, d, h, _⟩ | ⟨h, _⟩ <;> omega
    obtain ⟨i0, iy, ys, ub⟩ := hsay2
    clear hsay
    by_cases a1 : m < 0
    · rw [if_pos (Or.inl a1)] at hq
      injection hq with q1 hq; injection hq with q2 q3
      subst q1 q2 q3
      go_enter Try.func18, Try.ntmps18
      go_wp2_with fail
      ((with_reducible refine (hT s i _ u y 0 hs hi hu).mono ?_); rintro e w1 ⟨rfl, hb⟩)
      go_wp2_with fail
      go_ret3
      exact ⟨rfl, hb⟩
    · have em : IntKind.u64.wrap m = m := IntWalk.u64_in _ (by omega)
      by_cases a2 : m < (u : Int)
      · rw [if_pos (Or.inr a2)] at hq
        injection hq with q1 hq; injection hq with q2 q3
        subst q1 q2 q3
        go_enter Try.func18, Try.ntmps18
        go_wp2_with fail
        ((with_reducible refine (hT s i _ u y 0 hs hi hu).mono ?_); rintro e w1 ⟨rfl, hb⟩)
        go_wp2_with fail
        go_ret3
        exact ⟨rfl, hb⟩
      · rw [if_neg (by omega)] at hq
        have el : IntKind.u64.wrap ((s.size : Int) - y) = (s.size : Int) - y := IntWalk.u64_in _ (by omega)
        by_cases a3 : (s.size : Int) - y < (u : Int)
        · rw [if_pos a3] at hq
          injection hq with q1 hq; injection hq with q2 q3
          subst q1 q2 q3
          go_enter Try.func18, Try.ntmps18
          go_wp2_with fail
          ((with_reducible refine (hT s i _ u y 0 hs hi hu).mono ?_); rintro e w1 ⟨rfl, hb⟩)
          go_wp2_with fail
          go_ret3
          exact ⟨rfl, hb⟩
        · rw [if_neg a3] at hq
          injection hq with q1 hq; injection hq with q2 q3
          subst q1 q2 q3
          go_enter Try.func18, Try.ntmps18
          go_wp2_with fail
          ((with_reducible refine (hT s i _ u y 0 hs hi hu).mono ?_); rintro e w1 ⟨rfl, hb⟩)
          go_wp2_with fail
          go_ret3
          exact ⟨rfl, hb⟩
  · rw [if_neg c] at hq
    injection hq with q1 hq; injection hq with q2 q3
    subst q1 q2 q3
    have z1 : (e0 == 0) = false := by simp [c]
    have z2 : (e0 != 0) = true := by simp [c]
    clear hsay
    go_enter Try.func18, Try.ntmps18
    go_wp2_with fail
    ((with_reducible refine (hT s i _ u y e0 hs hi hu).mono ?_); rintro e w1 ⟨rfl, hb⟩)
    go_wp2_with fail
    go_ret3
    exact ⟨rfl, hb⟩

theorem run_bytes_zero (w : World) (p : Option Addr) (c : Nat) : (convert 47 9 (.slice p 0 c)).run Try.prog w = .ok (.string ByteArray.empty) w := by
  rw [run_convert_bytes_string w 47 9 5 _ 0 c Try.underlying47 Try.underlying5 Try.underlying9]
  cases p <;> simp [Conv.bytesToString, loadCells]
  all_goals rfl
set_option maxHeartbeats 1000000 in
theorem dtaketext (hT : TakeHave) (s : ByteArray) (i m : Int) (w : World) (hs : s.size ≤ 6010) (hi : I64 i) (hm : m ≤ 9223372036854775807) (t : List UInt8) (x er : Int) (hr : Hid (textAt s.data.toList i m = (t, x, er))) :
    Calls Try.prog 17 #[.string s, .int .i64 i, .int .i64 m] w fun e w' => e = .returned (.tuple #[.string (bs t), .int .i64 x, .int .i64 er]) ∧ Below w.heap.size w w' := by
  obtain ⟨n, y, e0, hu⟩ : ∃ u y e, Hid (countAt s.data.toList i m = (u, y, e)) := ⟨_, _, _, hid rfl⟩
  have hq := hr.out
  unfold textAt at hq
  rw [hu.out] at hq
  have hsay := count_says hu.out
  rw [len_size] at hsay
  clear hr
  by_cases c : e0 = 0
  · subst c
    rw [if_pos rfl] at hq
    have hsay2 : 0 ≤ i ∧ i < y ∧ y + n ≤ (s.size : Int) := by rcases hsay with ⟨_, a, b, d, _⟩ | ⟨h, _⟩ <;> omega
    obtain ⟨i0, iy, ys⟩ := hsay2
    clear hsay
    injection hq with q1 hq; injection hq with q2 q3
    obtain ⟨z, rfl⟩ := Int.eq_ofNat_of_zero_le (show 0 ≤ y by omega)
    obtain ⟨j, rfl⟩ := Int.eq_ofNat_of_zero_le i0
    have q1' : t = (s.data.toList.drop z).take n := q1.symm
    have q2' : x = (z : Int) + n := q2.symm
    have q3' : er = 0 := q3.symm
    subst q1' q2' q3'
    have b1 : (z : Int) + n ≤ s.size := ys
    go_enter Try.func17, Try.ntmps17
    go_wp2_with fail
    ((with_reducible refine (dcount hT s j m _ hs hi hm n z 0 hu).mono ?_); rintro e w1 ⟨rfl, hb⟩)
    have e1 : wrap64 ((z : Int) + n) = (z : Int) + n := IntWalk.wrap64_in _ (by omega)
    have e2 : wrap64 ((z : Int) - j) = (z : Int) - j := IntWalk.wrap64_in _ (by omega)
    have e3 : wrap64 ((z : Int) + n - j) = (z : Int) + n - j := IntWalk.wrap64_in _ (by omega)
    obtain ⟨W, C, kc, hB, hbW, hC⟩ := conv_new (s.extract j (z + n)) w1
    have hZ : (s.extract j (z + n)).size = z + n - j := by rw [ByteArray.size_extract]; omega
    rw [hZ] at kc hC
    have hb2 := below_call hb hbW
    by_cases n0 : n = 0
    · subst n0
      have k3 := cut_none w1.heap.size 0 (z + 0 - j) C (z - j) W (by omega)
      rw [show ((z - j : Nat) : Int) = (z : Int) - j by omega] at k3
      have kz : ∀ p c, (convert 47 9 (.slice p 0 c)).run Try.prog W = .ok (.string ByteArray.empty) W := fun p c => run_bytes_zero W p c
      simp only [Nat.add_zero] at *
      go_wp2_with fail
      ((with_reducible refine k3.mono ?_); rintro e w2 ⟨⟨p, rfl⟩, hw⟩)
      rw [← hw]
      clear hw
      go_wp2_with fail
      go_ret3
      exact ⟨ret_str3 rfl rfl rfl, hb2⟩
    · have k3 := cut_any w1.heap.size 0 (z + n - j) C (z - j) (z + n - j) W (by omega) (by omega)
      rw [show ((z - j : Nat) : Int) = (z : Int) - j by omega, show ((z + n - j : Nat) : Int) = (z : Int) + n - j by omega, show z + n - j - (z - j) = n by omega, Nat.zero_add] at k3
      have kw := run_convert_window (P := Try.prog) W 47 5 9 Try.underlying47 Try.underlying5 Try.underlying9 w1.heap.size 0 _ hB (z - j) n n (by omega)
      rw [Nat.zero_add] at kw
      go_wp2_with fail
      ((with_reducible refine k3.mono ?_); rintro e w2 ⟨rfl, hw⟩)
      rw [← hw]
      clear hw
      go_wp2_with fail
      go_ret3
      refine ⟨ret_str3 ?_ rfl rfl, hb2⟩
      apply ByteArray.ext
      apply Array.toList_inj.1
      rw [text_list, show z + n = j + (z + n - j) by omega, text_list, bs_list, List.drop_take, List.drop_drop, List.take_take]
      congr 1
      · omega
      · rw [show j + (z - j) = z by omega]
  · rw [if_neg c] at hq
    injection hq with q1 hq; injection hq with q2 q3
    subst q1 q2 q3
    have z1 : (e0 == 0) = false := by simp [c]
    have z2 : (e0 != 0) = true := by simp [c]
    clear hsay
    go_enter Try.func17, Try.ntmps17
    go_wp2_with fail
    ((with_reducible refine (dcount hT s i m _ hs hi hm n y e0 hu).mono ?_); rintro e w1 ⟨rfl, hb⟩)
    go_wp2_with fail
    go_ret3
    exact ⟨rfl, hb⟩

set_option maxHeartbeats 1000000 in
theorem dtakebool  (s : ByteArray) (i : Int) (w : World) (hs : s.size ≤ 6010) (_ : I64 i) (b : Bool) (x er : Int) (hr : Hid (boolAt s.data.toList i = (b, x, er))) :
    Calls Try.prog 16 #[.string s, .int .i64 i] w fun e w' => e = .returned (.tuple #[.bool b, .int .i64 x, .int .i64 er]) ∧ Below w.heap.size w w' := by
  have hq := hr.out
  unfold boolAt at hq
  rw [len_size] at hq
  clear hr
  by_cases h : i < 0 ∨ (s.size : Int) < i
  · rw [if_pos h] at hq
    injection hq with q1 hq; injection hq with q2 q3
    subst q1 q2 q3
    go_enter Try.func16, Try.ntmps16
    go_wp2_with fail
    ((with_reducible refine (pos_no s i _ h).mono ?_); rintro e w1 ⟨rfl, hw⟩)
    rw [← hw]
    clear hw
    go_wp2_with fail
    go_ret3
    exact ⟨rfl, Below.refl _ _⟩
  · rw [if_neg h] at hq
    obtain ⟨j, rfl⟩ := Int.eq_ofNat_of_zero_le (show 0 ≤ i by omega)
    rw [Int.toNat_natCast] at hq
    have hj : j ≤ s.size := by omega
    by_cases hend : j = s.size
    · subst hend
      rw [List.drop_eq_nil_of_le (by rw [len_size]; exact Nat.le_refl _)] at hq
      injection hq with q1 hq; injection hq with q2 q3
      subst q1 q2 q3
      go_enter Try.func16, Try.ntmps16
      go_wp2_with fail
      ((with_reducible refine (pos_yes s s.size _ hj).mono ?_); rintro e w1 ⟨rfl, hw⟩)
      rw [← hw]
      clear hw
      go_wp2_with fail
      go_ret3
      exact ⟨rfl, Below.refl _ _⟩
    · have hlt : j < s.size := by omega
      rw [drop_at hlt] at hq
      have b1 : (j : Int) < s.size := by omega
      have b2 : ((j : Int) == (s.size : Int)) = false := by simp; omega
      have hbb := (s[j]'hlt).toNat_lt
      by_cases c : 1 < (s[j]'hlt).toNat
      · simp only [if_pos c] at hq
        injection hq with q1 hq; injection hq with q2 q3
        subst q1 q2 q3
        have b3 : (1 : Int) < ((s[j]'hlt).toNat : Int) := by omega
        go_enter Try.func16, Try.ntmps16
        go_wp2_with fail
        ((with_reducible refine (pos_yes s j _ hj).mono ?_); rintro e w1 ⟨rfl, hw⟩)
        rw [← hw]
        clear hw
        go_wp2_with fail
        go_ret3
        exact ⟨rfl, Below.refl _ _⟩
      · simp only [if_neg c] at hq
        injection hq with q1 hq; injection hq with q2 q3
        subst q1 q2 q3
        have b3 : ¬ (1 : Int) < ((s[j]'hlt).toNat : Int) := by omega
        go_enter Try.func16, Try.ntmps16
        go_wp2_with fail
        ((with_reducible refine (pos_yes s j _ hj).mono ?_); rintro e w1 ⟨rfl, hw⟩)
        rw [← hw]
        clear hw
        go_wp2_with fail
        go_ret3
        exact ⟨ret_bool3 (one_int _), Below.refl _ _⟩

set_option maxHeartbeats 400000 in
theorem dtakeint (hT : TakeHave) (s : ByteArray) (i : Int) (w : World) (hs : s.size ≤ 6010) (hi : I64 i) (n x er : Int) (hr : Hid (intAt s.data.toList i = (n, x, er))) :
    Calls Try.prog 15 #[.string s, .int .i64 i] w fun e w' => e = .returned (.tuple #[.int .i64 n, .int .i64 x, .int .i64 er]) ∧ Below w.heap.size w w' := by
  obtain ⟨u, y, e0, hu⟩ : ∃ u y e, Hid (takeAt s.data.toList i = (u, y, e)) := ⟨_, _, _, hid rfl⟩
  have hq := hr.out
  unfold intAt at hq
  rw [hu.out] at hq
  have hsay := at_says hu.out
  by_cases c : e0 = 0
  · subst c
    rw [if_pos rfl] at hq
    injection hq with q1 hq; injection hq with q2 q3
    subst q1 q2 q3
    have ub : u < 18446744073709551616 := by rcases hsay with ⟨_, _, _, _, h, _⟩ | ⟨h, _⟩ <;> omega
    clear hsay hr
    by_cases o : u % 2 = 1
    · have e1 : ((u : Int) % 2 == 1) = true := by simp; omega
      have e2 : unzz u = -((u : Int) / 2) - 1 := by unfold unzz; rw [if_pos o]; omega
      have e3 : wrap64 (-((u : Int) / 2)) = -((u : Int) / 2) := IntWalk.wrap64_in _ (by omega)
      have e4 : wrap64 (-((u : Int) / 2) - 1) = -((u : Int) / 2) - 1 := IntWalk.wrap64_in _ (by omega)
      rw [e2]
      go_enter Try.func15, Try.ntmps15
      go_wp2_with fail
      ((with_reducible refine (hT s i _ u y 0 hs hi hu).mono ?_); rintro e w1 ⟨rfl, hb⟩)
      go_wp2_with fail
      go_ret3
      exact ⟨rfl, hb⟩
    · have e1 : ((u : Int) % 2 == 1) = false := by simp; omega
      have e2 : unzz u = (u : Int) / 2 := by unfold unzz; rw [if_neg o]; omega
      rw [e2]
      go_enter Try.func15, Try.ntmps15
      go_wp2_with fail
      ((with_reducible refine (hT s i _ u y 0 hs hi hu).mono ?_); rintro e w1 ⟨rfl, hb⟩)
      go_wp2_with fail
      go_ret3
      exact ⟨rfl, hb⟩
  · rw [if_neg c] at hq
    injection hq with q1 hq; injection hq with q2 q3
    subst q1 q2 q3
    have z1 : (e0 == 0) = false := by simp [c]
    have z2 : (e0 != 0) = true := by simp [c]
    clear hsay hr
    go_enter Try.func15, Try.ntmps15
    go_wp2_with fail
    ((with_reducible refine (hT s i _ u y e0 hs hi hu).mono ?_); rintro e w1 ⟨rfl, hb⟩)
    go_wp2_with fail
    go_ret3
    exact ⟨rfl, hb⟩

end Go.Proofs.Ytmpgeipknnoclaa
