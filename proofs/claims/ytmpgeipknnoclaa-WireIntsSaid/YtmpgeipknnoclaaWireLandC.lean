/-
  wire as it landed at 48062e2: TakeUint.
-/
import Derived.Test.YtmpgeipknnoclaaWireLandB
import Derived.Lib.ConvBytes
namespace Go.Proofs.Ytmpgeipknnoclaa
open Go.RowKit Go.Lib

abbrev UintHave : Prop := ∀ (n : Nat) (w : World), n < 18446744073709551616 → Calls Try.prog 10 #[.int .u64 n] w fun e w' => e = .returned (.string (bs (encU n))) ∧ Below w.heap.size w w'
abbrev TakeHave : Prop := ∀ (s : ByteArray) (i : Int) (w : World) (n : Nat) (x er : Int), s.size ≤ 6010 → I64 i → Hid (takeAt s.data.toList i = (n, x, er)) → Calls Try.prog 14 #[.string s, .int .i64 i] w fun e w' => e = .returned (.tuple #[.int .u64 n, .int .i64 x, .int .i64 er]) ∧ Below w.heap.size w w'

set_option maxHeartbeats 400000 in
theorem dtake_out (s : ByteArray) (i : Int) (w : World) (hi : i < 0 ∨ (s.size : Int) < i) :
    Calls Try.prog 14 #[.string s, .int .i64 i] w fun e w' => e = .returned (.tuple #[.int .u64 0, .int .i64 0, .int .i64 1]) ∧ Below w.heap.size w w' := by
  go_enter Try.func14, Try.ntmps14
  go_wp2_with fail
  ((with_reducible refine (pos_no s i _ hi).mono ?_); rintro e w1 ⟨rfl, hw⟩)
  rw [← hw]
  clear hw
  go_wp2_with fail
  go_ret3
  exact ⟨rfl, Below.refl _ _⟩

/-- '[]byte(t)': a new row of its bytes. -/
theorem conv_new (t : ByteArray) (w : World) : ∃ W C, (convert 9 47 (.string t)).run Try.prog w = .ok (.slice (some ⟨w.heap.size, 0, none⟩) t.size C) W ∧ Bytes W w.heap.size 0 t ∧ Below w.heap.size w W ∧ t.size ≤ C := by
  refine ⟨_, _, Lib.run_convert_string_bytes w 9 47 5 t Try.underlying9 Try.underlying47 Try.underlying5, fun i hi => ?_, ⟨rfl, rfl, rfl, by rw [Lib.bytesWorld_size]; omega, fun k hk => Lib.bytesWorld_at_old w _ t k hk⟩, grownCap_ge _ _ _ _⟩
  rw [Nat.zero_add, Lib.bytesWorld_cell w _ t i hi]
  have h : i < t.data.toList.length := by rw [len_size]; exact hi
  rw [List.getD_eq_getElem?_getD, List.getElem?_eq_getElem h]
  rfl
theorem bytes_pre {W : World} {b : Nat} {t : ByteArray} (h : Bytes W b 0 t) {l r : List UInt8} (e : t.data.toList = l ++ r) : Bytes W b 0 (bs l) := by
  intro i hi
  rw [bs_size] at hi
  have hs : t.size = (l ++ r).length := by rw [← e, len_size]
  have h2 : i < t.size := by rw [hs, List.length_append]; omega
  rw [h i h2]
  have a : t[i]'h2 = t.data.toList[i]'(by rw [len_size]; exact h2) := rfl
  have b : (bs l)[i]'(by rw [bs_size]; exact hi) = (bs l).data.toList[i]'(by rw [bs_list]; exact hi) := rfl
  have c : t.data.toList[i]'(by rw [len_size]; exact h2) = l[i] := by simp only [e]; exact List.getElem_append_left hi
  have d : (bs l).data.toList[i]'(by rw [bs_list]; exact hi) = l[i] := by simp only [bs_list]
  rw [a, b, c, d]
theorem win_list (s : ByteArray) (i : Nat) (hi : i ≤ s.size) : (s.extract i (min (s.size : Int) (i + 10)).toNat).data.toList = (s.data.toList.drop i).take 10 := by
  rw [show (min (s.size : Int) (i + 10)).toNat = i + min (s.size - i) 10 by omega, text_list]
  by_cases h : s.size - i ≤ 10
  · rw [Nat.min_eq_left h, List.take_of_length_le (by rw [List.length_drop, len_size]; exact Nat.le_refl _), List.take_of_length_le (by rw [List.length_drop, len_size]; exact h)]
  · rw [Nat.min_eq_right (by omega)]

set_option maxRecDepth 100000 in
set_option maxHeartbeats 1000000 in
theorem dtake_walk (s : ByteArray) (i : Nat) (w : World) (hs : s.size ≤ 6010) (hi : i ≤ s.size) (n : Nat) (u : Nat) (er : Int) (hr : Hid (takeU (s.data.toList.drop i) = (n, u, er))) :
    Calls Try.prog 14 #[.string s, .int .i64 i] w fun e w' => e = .returned (.tuple #[.int .u64 n, .int .i64 (if er = 0 then ((i + u : Nat) : Int) else 0), .int .i64 er]) ∧ Below w.heap.size w w' := by
  have e10 : wrap64 ((i : Int) + 10) = (i : Int) + 10 := IntWalk.wrap64_in _ (by omega)
  have hTl := win_list s i hi
  obtain ⟨W, C, kc, hB, hbW, hC⟩ := conv_new (s.extract i (min (s.size : Int) (i + 10)).toNat) w
  have hm : Hid (takeU (s.extract i (min (s.size : Int) (i + 10)).toNat).data.toList = (n, u, er)) := hid (by rw [hTl, take_ten]; exact hr.out)
  have hT10 : (s.extract i (min (s.size : Int) (i + 10)).toNat).size ≤ 10 := by rw [← len_size, hTl, List.length_take]; omega
  have hsz : (s.extract i (min (s.size : Int) (i + 10)).toNat).size ≤ C := hC
  have k1 : ∀ w' : World, Calls Try.prog 29 #[.string s, .int .i64 i] w' fun e w'' => e = .returned (.bool true) ∧ w' = w'' := fun w' => pos_yes s i w' hi
  have k2 := meas_any _ w.heap.size 0 C W hB hT10 n u er hm
  obtain ⟨z, hz⟩ : ∃ z, (s.extract i (min (s.size : Int) (i + 10)).toNat).size = z := ⟨_, rfl⟩
  rw [hz] at kc hsz k2 hT10
  clear hC
  by_cases c : er = 0
  · subst c
    obtain ⟨m, em, ht, hmm⟩ := take_says (s.data.toList.drop i) (by rw [hr.out])
    rw [hr.out] at em
    injection em with e1 e2; injection e2 with e2 _
    subst e1 e2
    have hB2 : Bytes W w.heap.size 0 (bs (encU n)) := by
      refine bytes_pre hB (r := (((s.data.toList.drop i).take 10).drop (encU n).length)) ?_
      rw [hTl]
      conv => rhs; lhs; rw [← ht]
      have h10 := enc_ten n hmm
      have := List.take_append_drop (encU n).length ((s.data.toList.drop i).take 10)
      rw [List.take_take, Nat.min_eq_left h10] at this
      exact this.symm
    have hp := enc_pos n
    have hle : (encU n).length ≤ z := by
      rw [← hz, ← len_size, hTl, List.length_take]
      have h10 := enc_ten n hmm
      have := congrArg List.length ht
      rw [List.length_take] at this
      omega
    have k3 := cut_any w.heap.size 0 z C 0 (encU n).length W (by omega) (by omega)
    rw [Nat.zero_add, Nat.sub_zero, show ((0 : Nat) : Int) = 0 from rfl] at k3
    have k4 := value_any n w.heap.size 0 (encU n).length W hmm hB2
    have h10 := enc_ten n hmm
    have e11 : wrap64 ((i : Int) + (encU n).length) = (i : Int) + (encU n).length := IntWalk.wrap64_in _ (by omega)
    generalize (encU n).length = q at *
    clear hB hB2 hm hTl hT10 hz
    go_enter Try.func14, Try.ntmps14
    go_wp2_with fail
    ((with_reducible refine (k1 _).mono ?_); rintro e w1 ⟨rfl, hw⟩)
    rw [← hw]
    clear hw
    go_wp2_with fail
    ((with_reducible refine k2.mono ?_); rintro e w2 ⟨rfl, hw⟩)
    rw [← hw]
    clear hw
    go_wp2_with fail
    ((with_reducible refine k3.mono ?_); rintro e w3 ⟨rfl, hw⟩)
    rw [← hw]
    clear hw
    go_wp2_with fail
    ((with_reducible refine k4.mono ?_); rintro e w4 ⟨rfl, hw⟩)
    rw [← hw]
    clear hw
    go_wp2_with fail
    go_ret3
    exact ⟨rfl, hbW⟩
  · have z1 : (er == 0) = false := by simp [c]
    have z2 : (er != 0) = true := by simp [c]
    have hz0 := go_err (s.data.toList.drop i) 0 0 (by show (takeU _).2.2 ≠ 0; rw [hr.out]; exact c)
    have hn0 : n = 0 := by have := hz0.1; rw [show takeGo 0 0 (s.data.toList.drop i) = (n, u, er) from hr.out] at this; exact this
    subst hn0
    rw [if_neg c]
    clear hB hm hTl hT10 hz hz0
    go_enter Try.func14, Try.ntmps14
    go_wp2_with fail
    ((with_reducible refine (k1 _).mono ?_); rintro e w1 ⟨rfl, hw⟩)
    rw [← hw]
    clear hw
    go_wp2_with fail
    ((with_reducible refine k2.mono ?_); rintro e w2 ⟨rfl, hw⟩)
    rw [← hw]
    clear hw
    go_wp2_with fail
    go_ret3
    exact ⟨rfl, hbW⟩

theorem dtake_n (s : ByteArray) (i : Int) (w : World) (hs : s.size ≤ 6010) (n : Nat) (x er : Int) (hr : Hid (takeAt s.data.toList i = (n, x, er))) :
    Calls Try.prog 14 #[.string s, .int .i64 i] w fun e w' => e = .returned (.tuple #[.int .u64 n, .int .i64 x, .int .i64 er]) ∧ Below w.heap.size w w' := by
  by_cases h : i < 0 ∨ (s.size : Int) < i
  · have e := hr.out
    unfold takeAt at e
    rw [len_size, if_pos h] at e
    injection e with e1 e; injection e with e2 e3
    subst e1 e2 e3
    exact dtake_out s i w h
  · obtain ⟨j, rfl⟩ := Int.eq_ofNat_of_zero_le (show 0 ≤ i by omega)
    have e := hr.out
    rw [at_pos (by omega) (by rw [len_size]; omega), Int.toNat_natCast] at e
    obtain ⟨m, u, er', hu⟩ : ∃ m u e, takeU (s.data.toList.drop j) = (m, u, e) := ⟨_, _, _, rfl⟩
    refine (dtake_walk s j w hs (by omega) m u er' (hid hu)).mono ?_
    rintro e' w' ⟨rfl, hb⟩
    rw [hu] at e
    refine ⟨?_, hb⟩
    by_cases c : er' = 0
    · subst c
      rw [if_pos rfl] at e ⊢
      injection e with e1 e; injection e with e2 e3
      subst e1 e2 e3
      simp
    · rw [if_neg c] at e ⊢
      injection e with e1 e; injection e with e2 e3
      have hz := go_err (s.data.toList.drop j) 0 0 (by show (takeU _).2.2 ≠ 0; rw [hu]; exact c)
      have hz1 : m = 0 := by have := hz.1; rw [show takeGo 0 0 (s.data.toList.drop j) = (m, u, er') from hu] at this; exact this
      subst e1 e2 e3 hz1
      rfl

end Go.Proofs.Ytmpgeipknnoclaa
