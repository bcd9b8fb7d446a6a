/-
  The law of wire's round trips, given what wire's functions answer.
-/
import Derived.Test.YtmpgeipknnoclaaWireLaws
import Derived.Test.YtmpgeipknnoclaaHeld
namespace Go.Proofs.Ytmpgeipknnoclaa
open Go.RowKit Go.Lib

/-- Block b holds the four cells of a Data. -/
def Four (w : World) (b : Nat) (p q u v : Value) (t : TypeId) : Prop := w.heap[b]? = some (.cells #[p, q, u, v] t (0, 0))
theorem Four.cells {w : World} {b : Nat} {p q u v : Value} {t : TypeId} (h : Four w b p q u v t) :
    w.cell? ⟨b, 0, none⟩ = some p ∧ w.cell? ⟨b, 1, none⟩ = some q ∧ w.cell? ⟨b, 2, none⟩ = some u ∧ w.cell? ⟨b, 3, none⟩ = some v := by
  unfold Four at h
  refine ⟨?_, ?_, ?_, ?_⟩ <;> simp [World.cell?, h]
theorem Four.lt {w : World} {b : Nat} {p q u v : Value} {t : TypeId} (h : Four w b p q u v t) : b < w.heap.size := by
  unfold Four at h
  exact (Array.getElem?_eq_some_iff.1 h).1
theorem Four.below {w w' : World} {b : Nat} {p q u v : Value} {t : TypeId} (h : Four w b p q u v t) (hb : Below w.heap.size w w') : Four w' b p q u v t := by
  unfold Four
  rw [hb.block b h.lt]
  exact h
theorem Four.new (w : World) (p q u v : Value) (t : TypeId) : Four (w.alloc (.cells #[p, q, u, v] t)) w.heap.size p q u v t := by
  show (w.heap.push _)[w.heap.size]? = _
  simp
/-- What a region that draws holds of it, at its beginning .. -/
theorem hv4_start {w W : World} {b : Nat} {p q u v : Value} {t : TypeId} (h : Four W b p q u v t) (hb : Below w.heap.size w W) :
    W.drew.cell? ⟨b, 0, none⟩ = some p ∧ W.drew.cell? ⟨b, 1, none⟩ = some q ∧ W.drew.cell? ⟨b, 2, none⟩ = some u ∧ W.drew.cell? ⟨b, 3, none⟩ = some v ∧ Four W.drew b p q u v t ∧ Below w.heap.size w W.drew :=
  ⟨h.cells.1, h.cells.2.1, h.cells.2.2.1, h.cells.2.2.2, h, hb.drew⟩
/-- .. and behind a call that only makes memory. -/
theorem hv4_call {w W w1 : World} {b : Nat} {p q u v : Value} {t : TypeId} (h : W.cell? ⟨b, 0, none⟩ = some p ∧ W.cell? ⟨b, 1, none⟩ = some q ∧ W.cell? ⟨b, 2, none⟩ = some u ∧ W.cell? ⟨b, 3, none⟩ = some v ∧ Four W b p q u v t ∧ Below w.heap.size w W) (hb : Below W.heap.size W w1) :
    w1.cell? ⟨b, 0, none⟩ = some p ∧ w1.cell? ⟨b, 1, none⟩ = some q ∧ w1.cell? ⟨b, 2, none⟩ = some u ∧ w1.cell? ⟨b, 3, none⟩ = some v ∧ Four w1 b p q u v t ∧ Below w.heap.size w w1 := by
  obtain ⟨-, -, -, -, k, l⟩ := h
  exact ⟨(k.below hb).cells.1, (k.below hb).cells.2.1, (k.below hb).cells.2.2.1, (k.below hb).cells.2.2.2, k.below hb, below_call l hb⟩

set_option maxRecDepth 100000 in
set_option maxHeartbeats 2000000 in
theorem law_round_long1 (H : WireHave) (n i : Int) (b : Bool) (t s z : ByteArray) (w : World) (hs : (2000 : Int) < t.size) : Calls Try.prog 3 #[.agg #[.int .u64 n, .int .i64 i, .bool b, .string t], .string s, .string z] w fun e w' => e = .returned (.bool true) ∧ Below w.heap.size w w' := by
  have hL := (Below.refl w.heap.size w).alloc (Nat.le_refl _) (.cells #[.int .u64 n, .int .i64 i, .bool b, .string t] 24)
  go_enter Try.func3, Try.ntmps3
  go_wp2_with fail
  ((with_reducible refine (awake_any H _).mono ?_); rintro e w1 ⟨rfl, hb⟩)
  replace hL := below_call hL hb
  go_wp2_with fail
  go_ret
  exact ⟨rfl, hL⟩
set_option maxRecDepth 100000 in
set_option maxHeartbeats 2000000 in
theorem law_round_long2 (H : WireHave) (n i : Int) (b : Bool) (t s z : ByteArray) (w : World) (ht : (t.size : Int) ≤ 2000) (hs : (2000 : Int) < s.size) : Calls Try.prog 3 #[.agg #[.int .u64 n, .int .i64 i, .bool b, .string t], .string s, .string z] w fun e w' => e = .returned (.bool true) ∧ Below w.heap.size w w' := by
  have hL := (Below.refl w.heap.size w).alloc (Nat.le_refl _) (.cells #[.int .u64 n, .int .i64 i, .bool b, .string t] 24)
  go_enter Try.func3, Try.ntmps3
  go_wp2_with fail
  ((with_reducible refine (awake_any H _).mono ?_); rintro e w1 ⟨rfl, hb⟩)
  replace hL := below_call hL hb
  go_wp2_with fail
  go_ret
  exact ⟨rfl, hL⟩
set_option maxRecDepth 100000 in
set_option maxHeartbeats 2000000 in
theorem law_round_long3 (H : WireHave) (n i : Int) (b : Bool) (t s z : ByteArray) (w : World) (ht : (t.size : Int) ≤ 2000) (hs : (s.size : Int) ≤ 2000) (hz : (2000 : Int) < z.size) : Calls Try.prog 3 #[.agg #[.int .u64 n, .int .i64 i, .bool b, .string t], .string s, .string z] w fun e w' => e = .returned (.bool true) ∧ Below w.heap.size w w' := by
  have hL := (Below.refl w.heap.size w).alloc (Nat.le_refl _) (.cells #[.int .u64 n, .int .i64 i, .bool b, .string t] 24)
  go_enter Try.func3, Try.ntmps3
  go_wp2_with fail
  ((with_reducible refine (awake_any H _).mono ?_); rintro e w1 ⟨rfl, hb⟩)
  replace hL := below_call hL hb
  go_wp2_with fail
  go_ret
  exact ⟨rfl, hL⟩

theorem cat_list (s u z : ByteArray) : (s ++ u ++ z).data.toList = s.data.toList ++ (u.data.toList ++ z.data.toList) := by
  rw [ByteArray.data_append, Array.toList_append, ByteArray.data_append, Array.toList_append, List.append_assoc]
theorem cat_drop (s u z : ByteArray) : (s ++ u ++ z).data.toList.drop s.size = u.data.toList ++ z.data.toList := by
  rw [cat_list, ← len_size s, List.drop_left]
theorem cat_len (s u z : ByteArray) : (s ++ u ++ z).data.toList.length = s.size + (u.size + z.size) := by
  rw [cat_list, List.length_append, List.length_append, len_size, len_size, len_size]
theorem dec_uint (s z r : ByteArray) {n : Nat} (hn : n < 18446744073709551616) (u : ByteArray) (hu : u.data.toList = encU n ++ r.data.toList) : takeAt (s ++ u ++ z).data.toList s.size = (n, (s.size : Int) + (encU n).length, 0) := by
  have hl := cat_len s u z
  rw [at_pos (by omega) (by omega), Int.toNat_natCast, cat_drop, hu, List.append_assoc, take_enc n _ hn]
  rfl
theorem dec_bool (s z : ByteArray) (b : Bool) : boolAt (s ++ boolE b ++ z).data.toList s.size = (b, (s.size : Int) + (boolE b).size, 0) := by
  have hl := cat_len s (boolE b) z
  unfold boolAt
  rw [if_neg (by omega), Int.toNat_natCast, cat_drop]
  cases b <;> rfl
theorem dec_count (s z t : ByteArray) {m : Int} (ht : t.size < 18446744073709551616) (hm : (t.size : Int) ≤ m) : countAt (s ++ (bs (encU t.size) ++ t) ++ z).data.toList s.size m = (t.size, (s.size : Int) + (bs (encU t.size) ++ t).size - t.size, 0) := by
  have hu : (bs (encU t.size) ++ t).data.toList = encU t.size ++ t.data.toList := by rw [ByteArray.data_append, Array.toList_append, bs_list]
  have hl := cat_len s (bs (encU t.size) ++ t) z
  have hT : (bs (encU t.size) ++ t).size = (encU t.size).length + t.size := by rw [← len_size, hu, List.length_append, len_size]
  unfold countAt
  rw [dec_uint s z t ht _ hu]
  simp only []
  rw [if_pos trivial, if_neg (by omega), if_neg (by omega), hT]
  congr 2
  omega
theorem dec_text (s z t : ByteArray) (ht : t.size < 18446744073709551616) : textAt (s ++ (bs (encU t.size) ++ t) ++ z).data.toList s.size t.size = (t.data.toList, (s.size : Int) + (bs (encU t.size) ++ t).size, 0) := by
  have hu : (bs (encU t.size) ++ t).data.toList = encU t.size ++ t.data.toList := by rw [ByteArray.data_append, Array.toList_append, bs_list]
  have hT : (bs (encU t.size) ++ t).size = (encU t.size).length + t.size := by rw [← len_size, hu, List.length_append, len_size]
  unfold textAt
  rw [dec_count s z t ht (Int.le_refl _)]
  simp only []
  rw [if_pos trivial, cat_list, hu, hT, show ((s.size : Int) + ((encU t.size).length + t.size : Nat) - t.size).toNat = s.data.toList.length + (encU t.size).length by rw [len_size]; omega, List.append_assoc, ← List.drop_drop, List.drop_left, List.drop_left]
  rw [← len_size t, List.take_left]
  congr 2
  omega

set_option maxRecDepth 100000 in
set_option maxHeartbeats 2000000 in
theorem law_round_short (H : WireHave) (n : Nat) (i : Int) (b : Bool) (t s z : ByteArray) (w : World) (hn : n < 18446744073709551616) (hi : I64 i) (ht : (t.size : Int) ≤ 2000) (hs : (s.size : Int) ≤ 2000) (hz : (z.size : Int) ≤ 2000) : Calls Try.prog 3 #[.agg #[.int .u64 n, .int .i64 i, .bool b, .string t], .string s, .string z] w fun e w' => e = .returned (.bool true) ∧ Below w.heap.size w w' := by
  have t2 : t.size ≤ 2000 := by omega
  have hL := (Below.refl w.heap.size w).alloc (Nat.le_refl _) (.cells #[.int .u64 n, .int .i64 i, .bool b, .string t] 24)
  have hS := hv4_start (Four.new w (.int .u64 n) (.int .i64 i) (.bool b) (.string t) 24) hL
  obtain ⟨U, hU⟩ : ∃ U, Hid (U = bs (encU n)) := ⟨_, hid rfl⟩
  obtain ⟨I, hI⟩ : ∃ U, Hid (U = bs (encU (zz i))) := ⟨_, hid rfl⟩
  obtain ⟨B, hB⟩ : ∃ U, Hid (U = boolE b) := ⟨_, hid rfl⟩
  obtain ⟨T, hT⟩ : ∃ U, Hid (U = bs (encU t.size) ++ t) := ⟨_, hid rfl⟩
  have s2 : s.size ≤ 2000 := by omega
  have z2 : z.size ≤ 2000 := by omega
  have lU : U.size ≤ 10 := by rw [hU.out, bs_size]; exact enc_ten n hn
  have lI : I.size ≤ 10 := by rw [hI.out, bs_size]; exact enc_ten _ (zz_bd i hi.1 hi.2)
  have lB : B.size ≤ 1 := by rw [hB.out]; exact Nat.le_refl 1
  have lT : T.size ≤ 2010 := by
    have h1 := enc_ten t.size (by omega)
    have h2 := bs_size (encU t.size)
    rw [hT.out, ByteArray.size_append]; omega
  have q6 : ∀ X : ByteArray, X.size ≤ 2010 → (s ++ X ++ z).size ≤ 6010 := fun X hX => by rw [ByteArray.size_append, ByteArray.size_append]; omega
  have is : I64 (s.size : Int) := ⟨by omega, by omega⟩
  have it : I64 (t.size : Int) := ⟨by omega, by omega⟩
  have i2 : I64 2000 := ⟨by decide, by decide⟩
  have rU : Hid (takeAt (s ++ U ++ z).data.toList s.size = (n, (s.size : Int) + U.size, 0)) := hid (by rw [hU.out, bs_size]; exact dec_uint s z (ByteArray.mk #[]) hn _ (by rw [bs_list]; simp))
  have rI : Hid (intAt (s ++ I ++ z).data.toList s.size = (i, (s.size : Int) + I.size, 0)) := hid (by
    unfold intAt
    rw [hI.out, bs_size, dec_uint s z (ByteArray.mk #[]) (zz_bd i hi.1 hi.2) _ (by rw [bs_list]; simp)]
    simp only []
    rw [if_pos trivial, unzz_zz])
  have rB : Hid (boolAt (s ++ B ++ z).data.toList s.size = (b, (s.size : Int) + B.size, 0)) := hid (by rw [hB.out]; exact dec_bool s z b)
  have rT : Hid (textAt (s ++ T ++ z).data.toList s.size t.size = (t.data.toList, (s.size : Int) + T.size, 0)) := hid (by rw [hT.out]; exact dec_text s z t (by omega))
  have rC : Hid (countAt (s ++ T ++ z).data.toList s.size 2000 = (t.size, (s.size : Int) + T.size - t.size, 0)) := hid (by rw [hT.out]; exact dec_count s z t (by omega) ht)
  have eT : bs t.data.toList = t := by unfold bs; simp
  have cU : ∀ w : World, Calls Try.prog 10 #[.int .u64 n] w fun e w' => e = .returned (.string U) ∧ Below w.heap.size w w' := fun w => by rw [hU.out]; exact H.uint n w hn
  have cI : ∀ w : World, Calls Try.prog 11 #[.int .i64 i] w fun e w' => e = .returned (.string I) ∧ Below w.heap.size w w' := fun w => by rw [hI.out]; exact H.int i w hi
  have cB : ∀ w : World, Calls Try.prog 12 #[.bool b] w fun e w' => e = .returned (.string B) ∧ Below w.heap.size w w' := fun w => by rw [hB.out]; exact H.bool b w
  have cT : ∀ w : World, Calls Try.prog 13 #[.string t] w fun e w' => e = .returned (.string T) ∧ Below w.heap.size w w' := fun w => by rw [hT.out]; exact H.text t w t2
  go_enter Try.func3, Try.ntmps3
  go_wp2_with fail
  go_region_held3 (fun w' => w'.cell? ⟨w.heap.size, 0, none⟩ = some (.int .u64 n) ∧ w'.cell? ⟨w.heap.size, 1, none⟩ = some (.int .i64 i) ∧ w'.cell? ⟨w.heap.size, 2, none⟩ = some (.bool b) ∧ w'.cell? ⟨w.heap.size, 3, none⟩ = some (.string t) ∧ Four w' w.heap.size (.int .u64 n) (.int .i64 i) (.bool b) (.string t) 24 ∧ Below w.heap.size w w') (first | exact hS | exact hv4_call (by assumption) (by assumption) | assumption)
    (first
      | (go_at_call 10; with_reducible refine (cU _).mono ?_; rintro e w' ⟨rfl, hb⟩)
      | (go_at_call 11; with_reducible refine (cI _).mono ?_; rintro e w' ⟨rfl, hb⟩)
      | (go_at_call 12; with_reducible refine (cB _).mono ?_; rintro e w' ⟨rfl, hb⟩)
      | (go_at_call 13; with_reducible refine (cT _).mono ?_; rintro e w' ⟨rfl, hb⟩))
  rename_i hH
  clear hS hL
  obtain ⟨-, -, -, -, hF, hL⟩ := hH
  go_wp2_with fail
  ((with_reducible refine (H.takeUint (s ++ U ++ z) _ _ n _ 0 (q6 U (by omega)) is rU).mono ?_); rintro e w1 ⟨rfl, hb1⟩)
  replace hF := hF.below hb1
  replace hL := below_call hL hb1
  clear hb1
  go_wp2_with fail
  ((with_reducible refine (H.takeInt (s ++ I ++ z) _ _ i _ 0 (q6 I (by omega)) is rI).mono ?_); rintro e w2 ⟨rfl, hb1⟩)
  replace hF := hF.below hb1
  replace hL := below_call hL hb1
  clear hb1
  go_wp2_with fail
  ((with_reducible refine (H.takeBool (s ++ B ++ z) _ _ b _ 0 (q6 B (by omega)) is rB).mono ?_); rintro e w3 ⟨rfl, hb1⟩)
  replace hF := hF.below hb1
  replace hL := below_call hL hb1
  clear hb1
  have c3 := hF.cells.2.2.2
  go_wp2_with fail
  ((with_reducible refine (H.takeText (s ++ T ++ z) _ _ _ t.data.toList _ 0 (q6 T lT) is it rT).mono ?_); rintro e w4 ⟨rfl, hb1⟩)
  replace hF := hF.below hb1
  replace hL := below_call hL hb1
  clear hb1 c3
  rw [eT]
  go_wp2_with fail
  ((with_reducible refine (H.takeCount (s ++ T ++ z) _ _ _ t.size _ 0 (q6 T lT) is i2 rC).mono ?_); rintro e w5 ⟨rfl, hb1⟩)
  replace hF := hF.below hb1
  replace hL := below_call hL hb1
  clear hb1
  obtain ⟨c0, c1, c2, c3⟩ := hF.cells
  have e1 : IntKind.i64.wrap ((s.size : Int) + U.size) = (s.size : Int) + U.size := IntWalk.i64_in _ (by omega)
  have e2 : IntKind.i64.wrap ((s.size : Int) + I.size) = (s.size : Int) + I.size := IntWalk.i64_in _ (by omega)
  have e3 : IntKind.i64.wrap ((s.size : Int) + B.size) = (s.size : Int) + B.size := IntWalk.i64_in _ (by omega)
  have e4 : IntKind.i64.wrap ((s.size : Int) + T.size) = (s.size : Int) + T.size := IntWalk.i64_in _ (by omega)
  have e5 : IntKind.i64.wrap ((s.size : Int) + T.size - t.size) = (s.size : Int) + T.size - t.size := IntWalk.i64_in _ (by omega)
  clear rU rI rB rT rC cU cI cB cT hU hI hB hT q6 eT
  go_wp2_with fail
  ((with_reducible refine (awake_any H _).mono ?_); rintro e w6 ⟨rfl, hb1⟩)
  replace hL := below_call hL hb1
  clear hb1 c0 c1 c2 c3 hF
  go_wp2_with fail
  go_ret
  exact ⟨rfl, hL⟩
theorem law_round (H : WireHave) (n i : Int) (b : Bool) (t s z : ByteArray) (w : World) (hn : 0 ≤ n ∧ n < 18446744073709551616) (hi : I64 i) : Calls Try.prog 3 #[.agg #[.int .u64 n, .int .i64 i, .bool b, .string t], .string s, .string z] w fun e w' => e = .returned (.bool true) ∧ Below w.heap.size w w' := by
  by_cases h1 : (2000 : Int) < t.size
  · exact law_round_long1 H n i b t s z w h1
  · by_cases h2 : (2000 : Int) < s.size
    · exact law_round_long2 H n i b t s z w (by omega) h2
    · by_cases h3 : (2000 : Int) < z.size
      · exact law_round_long3 H n i b t s z w (by omega) (by omega) h3
      · obtain ⟨m, rfl⟩ := Int.eq_ofNat_of_zero_le hn.1
        exact law_round_short H m i b t s z w (by have := hn.2; omega) hi (by omega) (by omega) (by omega)

end Go.Proofs.Ytmpgeipknnoclaa
