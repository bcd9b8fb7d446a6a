/-
  What num.Format answers for all ints: the decimal text.
-/
import Derived.Test.YtepkfnohlchpeaaDoorNumEnv
import Derived.Test.YtepkfnohlchpeaaDoorNumText
import Derived.Test.YtepkfnohlchpeaaDoorNumDigits
namespace Go.Proofs.YtepkfnohlchpeaaDoor
open Go.RowKit Go.Lib

theorem cell_lone {w : World} {u : Value} {t : TypeId} : ∀ j x, ([u] : List Value)[j]? = some x → (w.alloc (.cells #[u] t)).cell? ((⟨w.heap.size, 0, none⟩ : Addr).add j) = some x := by
  intro j x hj
  match j, hj with
  | 0, hj => simp at hj; subst hj; simp [Addr.add]
theorem one_lone {k : IntKind} {x : Int} : ∀ u ∈ ([.int k x] : List Value), u.oneCell' = true := by
  intro u hu; simp at hu; subst hu; rfl

/-- Behind one append of a single byte. -/
theorem below_append {w0 wr w1 : World} {B n : Nat} {v : Value} {xs : List Value} {t : TypeId} {o : Obj} (hB : B ≤ wr.heap.size) (hb : Below B w0 wr) (hown : wr.ownsRow B t 1 v n xs) (hg : (wr.alloc o).grownBy w1 v.ownBlock) : Below B w0 w1 :=
  (hb.alloc hB o).grown hg (by have := hB; simp; omega) (fun k hk => (hown.lt k hk).1)

theorem own_cast {w : World} {B : Nat} {e : TypeId} {v : Value} {n m : Nat} {xs ys : List Value} (h : w.ownsRow B e 1 v n xs) (hn : n = m) (hx : xs = ys) : w.ownsRow B e 1 v m ys := by subst hn; subst hx; exact h

theorem start_dot {u : Nat} {n : Int} {L T : List UInt8} (hz : 0 < (u : Int) % 256) (hT : Hid (T = fmtL n)) (h : Hid (fmtL n = L ++ fracL (u % 256))) : Hid ((L ++ [46]) ++ places (u % 256) = T) := by
  refine Lib.hid ?_
  rw [hT.out, h.out, frac_places (r := u % 256) (by omega) (by omega)]
  simp
theorem start_none {u : Nat} {n : Int} {L T : List UInt8} (hz : ¬ 0 < (u : Int) % 256) (hT : Hid (T = fmtL n)) (h : Hid (fmtL n = L ++ fracL (u % 256))) : Hid (L ++ places (u % 256) = T) := by
  refine Lib.hid ?_
  have e : u % 256 = 0 := by omega
  rw [hT.out, h.out, e]
  rfl
theorem round_len {k : Nat} {l T : List UInt8} (h : Hid (l ++ places k = T)) (hT : T.length ≤ 64) : l.length ≤ 64 := by
  rw [← h.out, List.length_append] at hT
  omega
theorem round_next {k : Nat} {l T : List UInt8} (hk : k < 256) (h0 : 0 < k) (h : Hid (l ++ places k = T)) : Hid ((l ++ [UInt8.ofNat (48 + k * 10 / 256)]) ++ places (k * 10 % 256) = T) := by
  refine Lib.hid ?_
  rw [← h.out, places_step hk (by omega)]
  simp
theorem round_cells {k : Nat} {l : List UInt8} (hk : k < 256) : Lib.byteCells l ++ [.int .u8 (48 + (k : Int) * 10 / 256)] = Lib.byteCells (l ++ [UInt8.ofNat (48 + k * 10 / 256)]) := by
  rw [byteCells_snoc (by omega) (by omega)]
  have e : (48 + (k : Int) * 10 / 256).toNat = 48 + k * 10 / 256 := by omega
  rw [e]
theorem round_less {k : Nat} (hk : k < 256) (h0 : 0 < k) : (places (RowKit.intOf (.int .u64 ((k : Int) * 10 % 256))).toNat).length < (places (RowKit.intOf (.int .u64 (k : Int))).toNat).length := by
  show (places ((k : Int) * 10 % 256).toNat).length < (places (k : Int).toNat).length
  have e : ((k : Int) * 10 % 256).toNat = k * 10 % 256 := by omega
  rw [e, Int.toNat_natCast, places_step hk (by omega)]
  simp
theorem round_last {n : Int} {l T : List UInt8} (h : Hid (l ++ places 0 = T)) (hT : Hid (T = fmtL n)) : Hid (ByteArray.mk l.toArray = ⟨(fmtL n).toArray⟩) := by
  refine Lib.hid ?_
  rw [← hT.out, ← h.out, places_zero, List.append_nil]

set_option maxHeartbeats 2000000 in
theorem format_neg (n : Int) (w : World) (u : Nat) (hE : Hid (Env w)) (hneg : n < 0) (hu2 : IntKind.u64.wrap (-IntKind.u64.wrap n) = u) (hu3 : u ≤ 9223372036854775808)
    (L T : List UInt8) (hL : Hid (L = [45] ++ Lib.decDigits ((u : Int) / 256).toNat)) (hLl : L.length ≤ 64) (hTl : T.length ≤ 64) (hT : Hid (T = fmtL n)) (hL2 : Hid (fmtL n = L ++ fracL (u % 256))) :
    Calls Tryd.prog 22 #[.int .i64 n] w fun e w' => e = .returned (.string ⟨(fmtL n).toArray⟩) ∧ Below w.heap.size w w' := by
  obtain ⟨i0, hi, hz0, hz1, hz2⟩ := info_parts info5
  go_enter Tryd.func22, Tryd.ntmps22
  go_wp2_with (at_builtin; refine wpList_append_own _ rfl _ _ 42 rfl w.heap.size 5 i0 (.int .u8 0) 1 1 Tryd.underlying42 hi hz0 hz1 hz2 rfl (by decide) _ _ _ rfl (World.ownsRow_nil _ _ _ _) ⟨w.heap.size, 0, none⟩ 1 1 [.int .u8 45] rfl rfl cell_lone one_lone (by decide) (by decide) (by simp) ?_)
  intro v1 w1 hown1 hg1 _
  have hb1 := below_append (t := 5) (Nat.le_refl _) (Below.refl _ _) (World.ownsRow_nil _ _ _ _) hg1
  clear hg1
  go_wp2_with fail
  ((with_reducible refine (appendUint_any w.heap.size _ _ (by omega) (by omega) _ _ _ hown1 hb1.size (by simp) (hE.out.below hb1 hE.out.big)).mono ?_); rintro e w2 ⟨v2, rfl, hown2, hb2⟩)
  have hown2 := own_cast hown2 (m := L.length) (ys := Lib.byteCells L) (by rw [hL.out]; simp; try omega) (by rw [hL.out]; simp [Lib.byteCells])
  have hb := hb1.trans hb2
  clear hb2
  by_cases hz : 0 < (u : Int) % 256
  · go_wp2_with (at_builtin; refine wpList_append_own _ rfl _ _ 42 rfl w.heap.size 5 i0 (.int .u8 0) 1 1 Tryd.underlying42 hi hz0 hz1 hz2 rfl (by decide) _ _ _ rfl (hown2.alloc _) ⟨w2.heap.size, 0, none⟩ 1 1 [.int .u8 46] rfl rfl cell_lone one_lone (by unfold maxLen; omega) (by omega) (by have := hb.size; simp; omega) ?_)
    intro v3 w3 hown3 hg3 _
    have hb3 := below_append (t := 5) hb.size hb hown2 hg3
    have hown3 := own_cast hown3 (m := (L ++ [46]).length) (ys := Lib.byteCells (L ++ [46])) (by simp) (by simp [Lib.byteCells])
    have hS := start_dot hz hT hL2
    clear hg3 hown2 hb
    go_wp2_with fail
    go_loopw [3, 5] (fun v r wr => ∃ (k : Nat) (l : List UInt8), r = .int .u64 k ∧ k < 256 ∧ wr.ownsRow w.heap.size 5 1 v l.length (Lib.byteCells l) ∧ Below w.heap.size w wr ∧ Hid (l ++ places k = T)) (fun _ r _ => (places (RowKit.intOf r).toNat).length)
    case atStart => exact ⟨u % 256, _, by go_num, by omega, hown3, hb3, hS⟩
    case round =>
      clear hown3 hb3 hS
      obtain ⟨k, l, rfl, hk, hown, hbr, hR⟩ := hrel
      have hlen := round_len hR hTl
      by_cases hk0 : 0 < k
      · have HN := round_next hk hk0 hR
        clear hR
        go_wp2_with (at_builtin; refine wpList_append_own _ rfl _ _ 42 rfl w.heap.size 5 i0 (.int .u8 0) 1 1 Tryd.underlying42 hi hz0 hz1 hz2 rfl (by decide) _ _ _ rfl (hown.alloc _) ⟨wr.heap.size, 0, none⟩ 1 1 [.int .u8 (48 + ↑k * 10 / 256)] rfl rfl cell_lone one_lone (by unfold maxLen; omega) (by omega) (by have := hbr.size; simp; omega) ?_)
        intro v' w' hown' hg' _
        have hb' := below_append (t := 5) hbr.size hbr hown hg'
        have hown' := own_cast hown' (m := (l ++ [UInt8.ofNat (48 + k * 10 / 256)]).length) (ys := Lib.byteCells (l ++ [UInt8.ofNat (48 + k * 10 / 256)])) (by simp) (round_cells hk)
        clear hg' hown hbr
        go_wp2_with fail
        go_roundw
        case rel => exact ⟨k * 10 % 256, _, by go_num, by omega, hown', hb', HN⟩
        case measure => exact round_less hk hk0
      · obtain rfl : k = 0 := by omega
        have kc := conv_owned (P := Tryd.prog) Tryd.underlying42 Tryd.underlying5 Tryd.underlying9 hown
        have HT := round_last hR hT
        clear hR
        go_wp2_with fail
        go_ret
        exact ⟨ret_str HT.out, hbr⟩
  · have hS := start_none hz hT hL2
    go_wp2_with fail
    go_loopw [3, 5] (fun v r wr => ∃ (k : Nat) (l : List UInt8), r = .int .u64 k ∧ k < 256 ∧ wr.ownsRow w.heap.size 5 1 v l.length (Lib.byteCells l) ∧ Below w.heap.size w wr ∧ Hid (l ++ places k = T)) (fun _ r _ => (places (RowKit.intOf r).toNat).length)
    case atStart => exact ⟨u % 256, _, by go_num, by omega, hown2, hb, hS⟩
    case round =>
      clear hown2 hb hS
      obtain ⟨k, l, rfl, hk, hown, hbr, hR⟩ := hrel
      have hlen := round_len hR hTl
      by_cases hk0 : 0 < k
      · have HN := round_next hk hk0 hR
        clear hR
        go_wp2_with (at_builtin; refine wpList_append_own _ rfl _ _ 42 rfl w.heap.size 5 i0 (.int .u8 0) 1 1 Tryd.underlying42 hi hz0 hz1 hz2 rfl (by decide) _ _ _ rfl (hown.alloc _) ⟨wr.heap.size, 0, none⟩ 1 1 [.int .u8 (48 + ↑k * 10 / 256)] rfl rfl cell_lone one_lone (by unfold maxLen; omega) (by omega) (by have := hbr.size; simp; omega) ?_)
        intro v' w' hown' hg' _
        have hb' := below_append (t := 5) hbr.size hbr hown hg'
        have hown' := own_cast hown' (m := (l ++ [UInt8.ofNat (48 + k * 10 / 256)]).length) (ys := Lib.byteCells (l ++ [UInt8.ofNat (48 + k * 10 / 256)])) (by simp) (round_cells hk)
        clear hg' hown hbr
        go_wp2_with fail
        go_roundw
        case rel => exact ⟨k * 10 % 256, _, by go_num, by omega, hown', hb', HN⟩
        case measure => exact round_less hk hk0
      · obtain rfl : k = 0 := by omega
        have kc := conv_owned (P := Tryd.prog) Tryd.underlying42 Tryd.underlying5 Tryd.underlying9 hown
        have HT := round_last hR hT
        clear hR
        go_wp2_with fail
        go_ret
        exact ⟨ret_str HT.out, hbr⟩


set_option maxHeartbeats 2000000 in
theorem format_pos (n : Int) (w : World) (u : Nat) (h0 : -9223372036854775808 ≤ n) (h1 : n ≤ 9223372036854775807) (hE : Hid (Env w)) (hpos : 0 ≤ n) (hu2 : n = u) (hu3 : u ≤ 9223372036854775808)
    (L T : List UInt8) (hL : Hid (L = [] ++ Lib.decDigits ((u : Int) / 256).toNat)) (hLl : L.length ≤ 64) (hTl : T.length ≤ 64) (hT : Hid (T = fmtL n)) (hL2 : Hid (fmtL n = L ++ fracL (u % 256))) :
    Calls Tryd.prog 22 #[.int .i64 n] w fun e w' => e = .returned (.string ⟨(fmtL n).toArray⟩) ∧ Below w.heap.size w w' := by
  obtain ⟨i0, hi, hz0, hz1, hz2⟩ := info_parts info5
  go_enter Tryd.func22, Tryd.ntmps22
  subst hu2
  go_wp2_with fail
  ((with_reducible refine (appendUint_any w.heap.size _ _ (by omega) (by omega) _ _ _ (World.ownsRow_nil _ _ _ _) (Nat.le_refl _) (by simp) hE.out).mono ?_); rintro e w2 ⟨v2, rfl, hown2, hb2⟩)
  have hown2 := own_cast hown2 (m := L.length) (ys := Lib.byteCells L) (by rw [hL.out]; simp; try omega) (by rw [hL.out]; simp [Lib.byteCells])
  have hb := hb2
  clear hb2
  by_cases hz : 0 < (u : Int) % 256
  · go_wp2_with (at_builtin; refine wpList_append_own _ rfl _ _ 42 rfl w.heap.size 5 i0 (.int .u8 0) 1 1 Tryd.underlying42 hi hz0 hz1 hz2 rfl (by decide) _ _ _ rfl (hown2.alloc _) ⟨w2.heap.size, 0, none⟩ 1 1 [.int .u8 46] rfl rfl cell_lone one_lone (by unfold maxLen; omega) (by omega) (by have := hb.size; simp; omega) ?_)
    intro v3 w3 hown3 hg3 _
    have hb3 := below_append (t := 5) hb.size hb hown2 hg3
    have hown3 := own_cast hown3 (m := (L ++ [46]).length) (ys := Lib.byteCells (L ++ [46])) (by simp) (by simp [Lib.byteCells])
    have hS := start_dot hz hT hL2
    clear hg3 hown2 hb
    go_wp2_with fail
    go_loopw [3, 5] (fun v r wr => ∃ (k : Nat) (l : List UInt8), r = .int .u64 k ∧ k < 256 ∧ wr.ownsRow w.heap.size 5 1 v l.length (Lib.byteCells l) ∧ Below w.heap.size w wr ∧ Hid (l ++ places k = T)) (fun _ r _ => (places (RowKit.intOf r).toNat).length)
    case atStart => exact ⟨u % 256, _, by go_num, by omega, hown3, hb3, hS⟩
    case round =>
      clear hown3 hb3 hS
      obtain ⟨k, l, rfl, hk, hown, hbr, hR⟩ := hrel
      have hlen := round_len hR hTl
      by_cases hk0 : 0 < k
      · have HN := round_next hk hk0 hR
        clear hR
        go_wp2_with (at_builtin; refine wpList_append_own _ rfl _ _ 42 rfl w.heap.size 5 i0 (.int .u8 0) 1 1 Tryd.underlying42 hi hz0 hz1 hz2 rfl (by decide) _ _ _ rfl (hown.alloc _) ⟨wr.heap.size, 0, none⟩ 1 1 [.int .u8 (48 + ↑k * 10 / 256)] rfl rfl cell_lone one_lone (by unfold maxLen; omega) (by omega) (by have := hbr.size; simp; omega) ?_)
        intro v' w' hown' hg' _
        have hb' := below_append (t := 5) hbr.size hbr hown hg'
        have hown' := own_cast hown' (m := (l ++ [UInt8.ofNat (48 + k * 10 / 256)]).length) (ys := Lib.byteCells (l ++ [UInt8.ofNat (48 + k * 10 / 256)])) (by simp) (round_cells hk)
        clear hg' hown hbr
        go_wp2_with fail
        go_roundw
        case rel => exact ⟨k * 10 % 256, _, by go_num, by omega, hown', hb', HN⟩
        case measure => exact round_less hk hk0
      · obtain rfl : k = 0 := by omega
        have kc := conv_owned (P := Tryd.prog) Tryd.underlying42 Tryd.underlying5 Tryd.underlying9 hown
        have HT := round_last hR hT
        clear hR
        go_wp2_with fail
        go_ret
        exact ⟨ret_str HT.out, hbr⟩
  · have hS := start_none hz hT hL2
    go_wp2_with fail
    go_loopw [3, 5] (fun v r wr => ∃ (k : Nat) (l : List UInt8), r = .int .u64 k ∧ k < 256 ∧ wr.ownsRow w.heap.size 5 1 v l.length (Lib.byteCells l) ∧ Below w.heap.size w wr ∧ Hid (l ++ places k = T)) (fun _ r _ => (places (RowKit.intOf r).toNat).length)
    case atStart => exact ⟨u % 256, _, by go_num, by omega, hown2, hb, hS⟩
    case round =>
      clear hown2 hb hS
      obtain ⟨k, l, rfl, hk, hown, hbr, hR⟩ := hrel
      have hlen := round_len hR hTl
      by_cases hk0 : 0 < k
      · have HN := round_next hk hk0 hR
        clear hR
        go_wp2_with (at_builtin; refine wpList_append_own _ rfl _ _ 42 rfl w.heap.size 5 i0 (.int .u8 0) 1 1 Tryd.underlying42 hi hz0 hz1 hz2 rfl (by decide) _ _ _ rfl (hown.alloc _) ⟨wr.heap.size, 0, none⟩ 1 1 [.int .u8 (48 + ↑k * 10 / 256)] rfl rfl cell_lone one_lone (by unfold maxLen; omega) (by omega) (by have := hbr.size; simp; omega) ?_)
        intro v' w' hown' hg' _
        have hb' := below_append (t := 5) hbr.size hbr hown hg'
        have hown' := own_cast hown' (m := (l ++ [UInt8.ofNat (48 + k * 10 / 256)]).length) (ys := Lib.byteCells (l ++ [UInt8.ofNat (48 + k * 10 / 256)])) (by simp) (round_cells hk)
        clear hg' hown hbr
        go_wp2_with fail
        go_roundw
        case rel => exact ⟨k * 10 % 256, _, by go_num, by omega, hown', hb', HN⟩
        case measure => exact round_less hk hk0
      · obtain rfl : k = 0 := by omega
        have kc := conv_owned (P := Tryd.prog) Tryd.underlying42 Tryd.underlying5 Tryd.underlying9 hown
        have HT := round_last hR hT
        clear hR
        go_wp2_with fail
        go_ret
        exact ⟨ret_str HT.out, hbr⟩


theorem fmtL_len {n : Int} (h0 : -9223372036854775808 ≤ n) (h1 : n ≤ 9223372036854775807) : (fmtL n).length ≤ 64 := by
  have h2 := decDigits_len20 (n := n.natAbs / 256) (by omega)
  have h3 : (fracL (n.natAbs % 256)).length ≤ 9 := by
    by_cases hz : n.natAbs % 256 = 0
    · rw [hz]; decide
    · rw [frac_places (by omega) hz, List.length_cons]
      have := places_len ⟨n.natAbs % 256, by omega⟩
      simp only at this
      omega
  unfold fmtL
  rw [List.length_append, List.length_append]
  split <;> simp <;> omega

/-- num.Format: the decimal text of every int. -/
theorem format_any (n : Int) (w : World) (h0 : -9223372036854775808 ≤ n) (h1 : n ≤ 9223372036854775807) (hE : Env w) :
    Calls Tryd.prog 22 #[.int .i64 n] w fun e w' => e = .returned (.string ⟨(fmtL n).toArray⟩) ∧ Below w.heap.size w w' := by
  have hd : ((n.natAbs : Int) / 256).toNat = n.natAbs / 256 := by omega
  have h2 := decDigits_len20 (n := n.natAbs / 256) (by omega)
  by_cases hn : n < 0
  · refine format_neg n w n.natAbs (Lib.hid hE) hn ?_ (by omega) _ _ (Lib.hid rfl) ?_ (fmtL_len h0 h1) (Lib.hid rfl) (Lib.hid ?_)
    · rw [IntKind.wrap_u64, IntKind.wrap_u64]; omega
    · rw [hd, List.length_append]; simp; omega
    · rw [hd]; unfold fmtL; rw [if_pos hn]; simp
  · refine format_pos n w n.natAbs h0 h1 (Lib.hid hE) (by omega) (by omega) (by omega) _ _ (Lib.hid rfl) ?_ (fmtL_len h0 h1) (Lib.hid rfl) (Lib.hid ?_)
    · rw [hd, List.length_append]; simp; omega
    · rw [hd]; unfold fmtL; rw [if_neg hn]; simp

end Go.Proofs.YtepkfnohlchpeaaDoor
