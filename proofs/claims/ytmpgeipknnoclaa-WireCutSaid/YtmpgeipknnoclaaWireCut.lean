/-
  The law of wire's cuts, given what wire's functions answer.
-/
import Derived.Test.YtmpgeipknnoclaaWireRound
namespace Go.Proofs.Ytmpgeipknnoclaa
open Go.RowKit Go.Lib

theorem u64_bd (c : Int) : 0 ≤ IntKind.u64.wrap c ∧ IntKind.u64.wrap c < 18446744073709551616 := by
  simp [IntKind.wrap, IntKind.bits, IntKind.signed]
  omega
/-- A beginning of a text. -/
theorem first_list (u : ByteArray) (a : Nat) : (u.extract 0 a).data.toList = u.data.toList.take a := by
  have h := text_list u 0 a
  rw [Nat.zero_add, List.drop_zero] at h
  exact h
theorem first_size (u : ByteArray) (a : Nat) (h : u.size ≤ 6010) : (u.extract 0 a).size ≤ 6010 := by rw [ByteArray.size_extract]; omega
theorem at_zero (l : List UInt8) : takeAt l 0 = (if (takeU l).2.2 = 0 then ((takeU l).1, (0 : Int) + (takeU l).2.1, 0) else (0, 0, (takeU l).2.2)) := by
  rw [at_pos (by omega) (by omega), Int.toNat_zero, List.drop_zero]
theorem cut_uint {n a : Nat} (hn : n < 18446744073709551616) (ha : a < (encU n).length) : takeAt ((encU n).take a) 0 = (0, 0, 4) := by
  rw [at_zero, take_cut n a hn ha]
  rfl
theorem cut_text {t : ByteArray} {a : Nat} (ht : t.size < 18446744073709551616) (h2 : (t.size : Int) ≤ 2000) (ha : a < (encU t.size).length + t.size) : textAt ((encU t.size ++ t.data.toList).take a) 0 2000 = ([], 0, 4) := by
  have hc : countAt ((encU t.size ++ t.data.toList).take a) 0 2000 = (0, 0, 4) := by
    unfold countAt
    by_cases h : a < (encU t.size).length
    · rw [List.take_append_of_le_length (by omega), cut_uint ht h]
      rfl
    · rw [List.take_append, List.take_of_length_le (by omega), at_zero, take_enc t.size _ ht]
      simp only [if_true]
      rw [if_neg (by omega), if_pos (by rw [List.length_append, List.length_take, len_size]; omega)]
  unfold textAt
  rw [hc]
  rfl

set_option maxRecDepth 100000 in
set_option maxHeartbeats 2000000 in
theorem law_cut_long (H : WireHave) (n i : Int) (b : Bool) (t : ByteArray) (m c : Int) (w : World) (hs : (2000 : Int) < t.size) : Calls Try.prog 8 #[.agg #[.int .u64 n, .int .i64 i, .bool b, .string t], .int .u64 m, .int .i64 c] w fun e w' => e = .returned (.bool true) ∧ Below w.heap.size w w' := by
  have hL := (Below.refl w.heap.size w).alloc (Nat.le_refl _) (.cells #[.int .u64 n, .int .i64 i, .bool b, .string t] 24)
  go_enter Try.func8, Try.ntmps8
  go_wp2_with fail
  ((with_reducible refine (awake_any H _).mono ?_); rintro e w1 ⟨rfl, hb⟩)
  replace hL := below_call hL hb
  go_wp2_with fail
  go_ret
  exact ⟨rfl, hL⟩

set_option maxRecDepth 100000 in
set_option maxHeartbeats 2000000 in
theorem law_cut_no (H : WireHave) (n : Nat) (i : Int) (b : Bool) (t : ByteArray) (m : Nat) (c : Int) (w : World) (hn : n < 18446744073709551616) (hi : I64 i) (ht : (t.size : Int) ≤ 2000) (hnm : ¬ (n : Int) ≤ m) : Calls Try.prog 8 #[.agg #[.int .u64 n, .int .i64 i, .bool b, .string t], .int .u64 m, .int .i64 c] w fun e w' => e = .returned (.bool true) ∧ Below w.heap.size w w' := by
  have t2 : t.size ≤ 2000 := by omega
  have hL := (Below.refl w.heap.size w).alloc (Nat.le_refl _) (.cells #[.int .u64 n, .int .i64 i, .bool b, .string t] 24)
  have hS := hv4_start (Four.new w (.int .u64 n) (.int .i64 i) (.bool b) (.string t) 24) hL
  obtain ⟨U, hU⟩ : ∃ U, Hid (U = bs (encU n)) := ⟨_, hid rfl⟩
  obtain ⟨I, hI⟩ : ∃ U, Hid (U = bs (encU (zz i))) := ⟨_, hid rfl⟩
  obtain ⟨T, hT⟩ : ∃ U, Hid (U = bs (encU t.size) ++ t) := ⟨_, hid rfl⟩
  have lU : U.size ≤ 10 := by rw [hU.out, bs_size]; exact enc_ten n hn
  have lI : I.size ≤ 10 := by rw [hI.out, bs_size]; exact enc_ten _ (zz_bd i hi.1 hi.2)
  have pU : 1 ≤ U.size := by rw [hU.out, bs_size]; exact enc_pos n
  have pI : 1 ≤ I.size := by rw [hI.out, bs_size]; exact enc_pos _
  have lT : T.size ≤ 2010 := by
    have h1 := enc_ten t.size (by omega)
    have h2 := bs_size (encU t.size)
    rw [hT.out, ByteArray.size_append]; omega
  have pT : 1 ≤ T.size := by
    have h1 := enc_pos t.size
    have h2 := bs_size (encU t.size)
    rw [hT.out, ByteArray.size_append]; omega
  obtain ⟨K, hK⟩ : ∃ K : Nat, wrap64 (IntKind.u64.wrap c / 2) = (K : Int) := by
    have h := u64_bd c
    have e : wrap64 (IntKind.u64.wrap c / 2) = IntKind.u64.wrap c / 2 := IntWalk.wrap64_in _ (by omega)
    exact ⟨(IntKind.u64.wrap c / 2).toNat, by rw [e]; omega⟩
  obtain ⟨a1, h1, k1⟩ : ∃ a : Nat, a < U.size ∧ (K : Int).tmod U.size = (a : Int) := ⟨K % U.size, Nat.mod_lt _ (by omega), rfl⟩
  obtain ⟨a2, h2, k2⟩ : ∃ a : Nat, a < I.size ∧ (K : Int).tmod I.size = (a : Int) := ⟨K % I.size, Nat.mod_lt _ (by omega), rfl⟩
  obtain ⟨a3, h3, k3⟩ : ∃ a : Nat, a < T.size ∧ (K : Int).tmod T.size = (a : Int) := ⟨K % T.size, Nat.mod_lt _ (by omega), rfl⟩
  have r1 : Hid (takeAt (U.extract 0 a1).data.toList 0 = (0, 0, 4)) := hid (by rw [hU.out, bs_size] at h1; rw [first_list, hU.out, bs_list]; exact cut_uint hn h1)
  have r2 : Hid (intAt (I.extract 0 a2).data.toList 0 = (0, 0, 4)) := hid (by rw [hI.out, bs_size] at h2; unfold intAt; rw [first_list, hI.out, bs_list, cut_uint (zz_bd i hi.1 hi.2) h2]; rfl)
  have r3 : Hid (textAt (T.extract 0 a3).data.toList 0 2000 = ([], 0, 4)) := hid (by
    rw [hT.out, ByteArray.size_append, bs_size] at h3
    rw [first_list, hT.out, ByteArray.data_append, Array.toList_append, bs_list]
    exact cut_text (by omega) ht h3)
  have g1 := first_size U a1 (by omega)
  have g2 := first_size I a2 (by omega)
  have g3 := first_size T a3 (by omega)
  have i0 : I64 0 := ⟨by decide, by decide⟩
  have i2 : I64 2000 := ⟨by decide, by decide⟩
  have cU : ∀ w : World, Calls Try.prog 10 #[.int .u64 n] w fun e w' => e = .returned (.string U) ∧ Below w.heap.size w w' := fun w => by rw [hU.out]; exact H.uint n w hn
  have cI : ∀ w : World, Calls Try.prog 11 #[.int .i64 i] w fun e w' => e = .returned (.string I) ∧ Below w.heap.size w w' := fun w => by rw [hI.out]; exact H.int i w hi
  have cT : ∀ w : World, Calls Try.prog 13 #[.string t] w fun e w' => e = .returned (.string T) ∧ Below w.heap.size w w' := fun w => by rw [hT.out]; exact H.text t w t2
  go_enter Try.func8, Try.ntmps8
  go_wp2_with fail
  go_region_held3 (fun w' => w'.cell? ⟨w.heap.size, 0, none⟩ = some (.int .u64 n) ∧ w'.cell? ⟨w.heap.size, 1, none⟩ = some (.int .i64 i) ∧ w'.cell? ⟨w.heap.size, 2, none⟩ = some (.bool b) ∧ w'.cell? ⟨w.heap.size, 3, none⟩ = some (.string t) ∧ Four w' w.heap.size (.int .u64 n) (.int .i64 i) (.bool b) (.string t) 24 ∧ Below w.heap.size w w') (first | exact hS | exact hv4_call (by assumption) (by assumption) | assumption)
    (first
      | (go_at_call 10; with_reducible refine (cU _).mono ?_; rintro e w' ⟨rfl, hb⟩)
      | (go_at_call 11; with_reducible refine (cI _).mono ?_; rintro e w' ⟨rfl, hb⟩)
      | (go_at_call 13; with_reducible refine (cT _).mono ?_; rintro e w' ⟨rfl, hb⟩))
  rename_i hH
  clear hS hL
  obtain ⟨-, -, -, -, hF, hL⟩ := hH
  have c0 := hF.cells.1
  go_wp2_with fail
  ((with_reducible refine (H.takeUint (U.extract 0 a1) 0 _ 0 0 4 g1 i0 r1).mono ?_); rintro e w1 ⟨rfl, hb1⟩)
  replace hL := below_call hL hb1
  clear hb1
  rw [cast0]
  go_wp2_with fail
  ((with_reducible refine (H.takeInt (I.extract 0 a2) 0 _ 0 0 4 g2 i0 r2).mono ?_); rintro e w2 ⟨rfl, hb1⟩)
  replace hL := below_call hL hb1
  clear hb1
  go_wp2_with fail
  ((with_reducible refine (H.takeText (T.extract 0 a3) 0 2000 _ [] 0 4 g3 i0 i2 r3).mono ?_); rintro e w3 ⟨rfl, hb1⟩)
  replace hL := below_call hL hb1
  clear hb1
  go_wp2_with fail
  ((with_reducible refine (H.takeBool (ByteArray.mk #[]) 0 _ false 0 4 (by decide) i0 (hid (by decide))).mono ?_); rintro e w4 ⟨rfl, hb1⟩)
  replace hL := below_call hL hb1
  clear hb1
  go_wp2_with fail
  ((with_reducible refine (awake_any H _).mono ?_); rintro e w5 ⟨rfl, hb1⟩)
  replace hL := below_call hL hb1
  clear hb1
  go_wp2_with fail
  go_ret
  exact ⟨rfl, hL⟩
set_option maxRecDepth 100000 in
set_option maxHeartbeats 2000000 in
theorem law_cut_yes (H : WireHave) (n : Nat) (i : Int) (b : Bool) (t : ByteArray) (m : Nat) (c : Int) (w : World) (hn : n < 18446744073709551616) (hi : I64 i) (ht : (t.size : Int) ≤ 2000) (hm : m < 18446744073709551616) (hnm : (n : Int) ≤ m) : Calls Try.prog 8 #[.agg #[.int .u64 n, .int .i64 i, .bool b, .string t], .int .u64 m, .int .i64 c] w fun e w' => e = .returned (.bool true) ∧ Below w.heap.size w w' := by
  have t2 : t.size ≤ 2000 := by omega
  have hL := (Below.refl w.heap.size w).alloc (Nat.le_refl _) (.cells #[.int .u64 n, .int .i64 i, .bool b, .string t] 24)
  have hS := hv4_start (Four.new w (.int .u64 n) (.int .i64 i) (.bool b) (.string t) 24) hL
  obtain ⟨U, hU⟩ : ∃ U, Hid (U = bs (encU n)) := ⟨_, hid rfl⟩
  obtain ⟨I, hI⟩ : ∃ U, Hid (U = bs (encU (zz i))) := ⟨_, hid rfl⟩
  obtain ⟨T, hT⟩ : ∃ U, Hid (U = bs (encU t.size) ++ t) := ⟨_, hid rfl⟩
  obtain ⟨M, hM⟩ : ∃ U, Hid (U = bs (encU m)) := ⟨_, hid rfl⟩
  have lU : U.size ≤ 10 := by rw [hU.out, bs_size]; exact enc_ten n hn
  have lI : I.size ≤ 10 := by rw [hI.out, bs_size]; exact enc_ten _ (zz_bd i hi.1 hi.2)
  have pU : 1 ≤ U.size := by rw [hU.out, bs_size]; exact enc_pos n
  have pI : 1 ≤ I.size := by rw [hI.out, bs_size]; exact enc_pos _
  have lT : T.size ≤ 2010 := by
    have h1 := enc_ten t.size (by omega)
    have h2 := bs_size (encU t.size)
    rw [hT.out, ByteArray.size_append]; omega
  have pT : 1 ≤ T.size := by
    have h1 := enc_pos t.size
    have h2 := bs_size (encU t.size)
    rw [hT.out, ByteArray.size_append]; omega
  have mono : n ≤ m → U.size ≤ M.size := fun h => by rw [hU.out, hM.out, bs_size, bs_size]; exact enc_mono m n h
  obtain ⟨K, hK⟩ : ∃ K : Nat, wrap64 (IntKind.u64.wrap c / 2) = (K : Int) := by
    have h := u64_bd c
    have e : wrap64 (IntKind.u64.wrap c / 2) = IntKind.u64.wrap c / 2 := IntWalk.wrap64_in _ (by omega)
    exact ⟨(IntKind.u64.wrap c / 2).toNat, by rw [e]; omega⟩
  obtain ⟨a1, h1, k1⟩ : ∃ a : Nat, a < U.size ∧ (K : Int).tmod U.size = (a : Int) := ⟨K % U.size, Nat.mod_lt _ (by omega), rfl⟩
  obtain ⟨a2, h2, k2⟩ : ∃ a : Nat, a < I.size ∧ (K : Int).tmod I.size = (a : Int) := ⟨K % I.size, Nat.mod_lt _ (by omega), rfl⟩
  obtain ⟨a3, h3, k3⟩ : ∃ a : Nat, a < T.size ∧ (K : Int).tmod T.size = (a : Int) := ⟨K % T.size, Nat.mod_lt _ (by omega), rfl⟩
  have r1 : Hid (takeAt (U.extract 0 a1).data.toList 0 = (0, 0, 4)) := hid (by rw [hU.out, bs_size] at h1; rw [first_list, hU.out, bs_list]; exact cut_uint hn h1)
  have r2 : Hid (intAt (I.extract 0 a2).data.toList 0 = (0, 0, 4)) := hid (by rw [hI.out, bs_size] at h2; unfold intAt; rw [first_list, hI.out, bs_list, cut_uint (zz_bd i hi.1 hi.2) h2]; rfl)
  have r3 : Hid (textAt (T.extract 0 a3).data.toList 0 2000 = ([], 0, 4)) := hid (by
    rw [hT.out, ByteArray.size_append, bs_size] at h3
    rw [first_list, hT.out, ByteArray.data_append, Array.toList_append, bs_list]
    exact cut_text (by omega) ht h3)
  have g1 := first_size U a1 (by omega)
  have g2 := first_size I a2 (by omega)
  have g3 := first_size T a3 (by omega)
  have i0 : I64 0 := ⟨by decide, by decide⟩
  have i2 : I64 2000 := ⟨by decide, by decide⟩
  have mono2 : (U.size : Int) ≤ M.size := by have := mono (by omega); omega
  have cU : ∀ w : World, Calls Try.prog 10 #[.int .u64 n] w fun e w' => e = .returned (.string U) ∧ Below w.heap.size w w' := fun w => by rw [hU.out]; exact H.uint n w hn
  have cM : ∀ w : World, Calls Try.prog 10 #[.int .u64 m] w fun e w' => e = .returned (.string M) ∧ Below w.heap.size w w' := fun w => by rw [hM.out]; exact H.uint m w hm
  have cI : ∀ w : World, Calls Try.prog 11 #[.int .i64 i] w fun e w' => e = .returned (.string I) ∧ Below w.heap.size w w' := fun w => by rw [hI.out]; exact H.int i w hi
  have cT : ∀ w : World, Calls Try.prog 13 #[.string t] w fun e w' => e = .returned (.string T) ∧ Below w.heap.size w w' := fun w => by rw [hT.out]; exact H.text t w t2
  go_enter Try.func8, Try.ntmps8
  go_wp2_with fail
  go_region_held3 (fun w' => w'.cell? ⟨w.heap.size, 0, none⟩ = some (.int .u64 n) ∧ w'.cell? ⟨w.heap.size, 1, none⟩ = some (.int .i64 i) ∧ w'.cell? ⟨w.heap.size, 2, none⟩ = some (.bool b) ∧ w'.cell? ⟨w.heap.size, 3, none⟩ = some (.string t) ∧ Four w' w.heap.size (.int .u64 n) (.int .i64 i) (.bool b) (.string t) 24 ∧ Below w.heap.size w w') (first | exact hS | exact hv4_call (by assumption) (by assumption) | assumption)
    (first
      | (go_at_call 10; with_reducible refine (cU _).mono ?_; rintro e w' ⟨rfl, hb⟩)
      | (go_at_call 11; with_reducible refine (cI _).mono ?_; rintro e w' ⟨rfl, hb⟩)
      | (go_at_call 13; with_reducible refine (cT _).mono ?_; rintro e w' ⟨rfl, hb⟩))
  rename_i hH
  clear hS hL
  obtain ⟨-, -, -, -, hF, hL⟩ := hH
  have c0 := hF.cells.1
  go_wp2_with fail
  ((with_reducible refine (cM _).mono ?_); rintro e w0 ⟨rfl, hb1⟩)
  replace hL := below_call hL hb1
  clear hb1 hF c0
  go_wp2_with fail
  ((with_reducible refine (H.takeUint (U.extract 0 a1) 0 _ 0 0 4 g1 i0 r1).mono ?_); rintro e w1 ⟨rfl, hb1⟩)
  replace hL := below_call hL hb1
  clear hb1
  rw [cast0]
  go_wp2_with fail
  ((with_reducible refine (H.takeInt (I.extract 0 a2) 0 _ 0 0 4 g2 i0 r2).mono ?_); rintro e w2 ⟨rfl, hb1⟩)
  replace hL := below_call hL hb1
  clear hb1
  go_wp2_with fail
  ((with_reducible refine (H.takeText (T.extract 0 a3) 0 2000 _ [] 0 4 g3 i0 i2 r3).mono ?_); rintro e w3 ⟨rfl, hb1⟩)
  replace hL := below_call hL hb1
  clear hb1
  go_wp2_with fail
  ((with_reducible refine (H.takeBool (ByteArray.mk #[]) 0 _ false 0 4 (by decide) i0 (hid (by decide))).mono ?_); rintro e w4 ⟨rfl, hb1⟩)
  replace hL := below_call hL hb1
  clear hb1
  go_wp2_with fail
  ((with_reducible refine (awake_any H _).mono ?_); rintro e w5 ⟨rfl, hb1⟩)
  replace hL := below_call hL hb1
  clear hb1
  go_wp2_with fail
  go_ret
  exact ⟨rfl, hL⟩
theorem law_cut (H : WireHave) (n i : Int) (b : Bool) (t : ByteArray) (m c : Int) (w : World) (hn : 0 ≤ n ∧ n < 18446744073709551616) (hi : I64 i) (hm : 0 ≤ m ∧ m < 18446744073709551616) (_ : I64 c) : Calls Try.prog 8 #[.agg #[.int .u64 n, .int .i64 i, .bool b, .string t], .int .u64 m, .int .i64 c] w fun e w' => e = .returned (.bool true) ∧ Below w.heap.size w w' := by
  by_cases h1 : (2000 : Int) < t.size
  · exact law_cut_long H n i b t m c w h1
  · obtain ⟨k, rfl⟩ := Int.eq_ofNat_of_zero_le hn.1
    obtain ⟨l, rfl⟩ := Int.eq_ofNat_of_zero_le hm.1
    by_cases h2 : (k : Int) ≤ l
    · exact law_cut_yes H k i b t l c w (by have := hn.2; omega) hi (by omega) (by have := hm.2; omega) h2
    · exact law_cut_no H k i b t l c w (by have := hn.2; omega) hi (by omega) h2

end Go.Proofs.Ytmpgeipknnoclaa
