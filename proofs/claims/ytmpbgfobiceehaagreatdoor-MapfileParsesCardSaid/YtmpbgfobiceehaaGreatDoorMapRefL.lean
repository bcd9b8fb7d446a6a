/-
  What the reference of mapfile answers: the lines of kinds and heights, read.
-/
import Derived.Test.YtmpbgfobiceehaaGreatDoorMapRefK
import Derived.BigQuiet
namespace Go.Proofs.YtmpbgfobiceehaaGreatDoor
open Go.RowKit Go.Lib

set_option maxHeartbeats 4000000 in
set_option maxRecDepth 100000 in
theorem rrowK_b (G w h n : Nat) (cs : List C3) (hw : 1 ≤ w) (hw2 : w ≤ 32) (hh : h ≤ 32) (hl : cs.length = h * w) (hn : n = cs.length) (k : Upto h) (s : ByteArray) (_hs : s.size ≤ 100000) (W : World) (hC : CB W G cs) :
    Calls Tryz.prog 48 #[.agg #[.int .i64 w, .int .i64 h, .slice (some ⟨G, 0, none⟩) n n], .int .i64 (k.1 : Nat), .string s] W fun e w' => ∃ cs', e = .returned (.bool (rowv setK (rowAt w cs k.1) s.data.toList).isSome) ∧ CB w' G cs' ∧ Two G G W w' ∧ cs'.length = cs.length ∧ (∀ r, rowv setK (rowAt w cs k.1) s.data.toList = some r → cs' = repl cs k.1 w r ∧ r.length = w) := by
  obtain ⟨o, ho⟩ : ∃ o, rowv setK (rowAt w cs k.1) s.data.toList = o := ⟨_, rfl⟩
  rw [ho]
  have hrl := row_len hl k
  have hsl : s.data.toList.length = s.size := (Lib.size_eq s).symm
  have hGW := hC.lt
  have hB := Blk.new W [.int .i64 w, .int .i64 h, .slice (some ⟨G, 0, none⟩) n n] 24
  have hC0 := Blk.alloc hC (.cells #[.int .i64 w, .int .i64 h, .slice (some ⟨G, 0, none⟩) n n] 24)
  have hT0 : Two G G W (W.alloc (.cells #[.int .i64 w, .int .i64 h, .slice (some ⟨G, 0, none⟩) n n] 24)) := Two.of_below ((Below.refl _ W).alloc (Nat.le_refl _) _)
  obtain ⟨m0, m1, m2, -, -, -⟩ := hB.three
  have zk : decide ((k.1 : Int) < (h : Int)) = true := decide_eq_true (by have := k.2; omega)
  have hkh := k.2
  have hko : k.1 * w + w ≤ n := by
    have := Nat.mul_le_mul_right w k.2
    rw [Nat.succ_mul] at this
    omega
  have hn1024 : n ≤ 1024 := by rw [hn, hl]; exact Nat.mul_le_mul hh hw2
  have hGB : G ≠ W.heap.size := by omega
  have HN := Lib.hid hn
  clear hn
  by_cases hnw : s.size = w
  · have z : ((s.size : Int) != (w : Int)) = false := by rw [hnw]; simp
    have HO := Lib.hid ho
    clear ho
    obtain ⟨q, hq⟩ : ∃ q, q = k.1 * w := ⟨_, rfl⟩
    rw [← hq] at hko
    have eq1 : (k.1 : Int) * (w : Int) = (q : Int) := by rw [hq]; simp
    replace hq := hid hq
    clear hC
    go_enter Tryz.func48, Tryz.ntmps48
    go_wp2_with fail
    clear z
    generalize W.alloc (.cells #[.int .i64 w, .int .i64 h, .slice (some ⟨G, 0, none⟩) n n] 24) = V at *
    go_loopw [7] (fun vi wr => ∃ i : Nat, vi = .int .i64 i ∧ i ≤ w ∧ CB wr G (rowUp 0 (fun b => optK (kindV b)) cs q s.data.toList i) ∧ Blk wr W.heap.size [.int .i64 w, .int .i64 h, .slice (some ⟨G, 0, none⟩) n n] 24 ∧ Two G G W wr ∧ Hid (∀ j, (hj : j < s.data.toList.length) → j < i → (fun b => (kindV b).isSome) (s.data.toList[j]'hj) = true)) (fun vi _ => w - (RowKit.intOf vi).toNat)
    case atStart => exact ⟨0, rfl, by omega, hC0, hB, hT0, hid (fun j _ h => by omega)⟩
    case round =>
      clear hC0 hB hT0 m0 m1 m2
      obtain ⟨i, rfl, hi, hC, hB, hT, hG⟩ := hrel
      obtain ⟨m0, m1, m2, -, -, -⟩ := hB.three
      by_cases hlt : i < w
      · have d1 : (i : Int) < w := by omega
        have i0 : (0 : Int) ≤ i := by omega
        have hsi : i < s.size := by omega
        have d2 : (i : Int) < s.size := by omega
        have hll := rowUp_len (f := 0) (val := (fun b => optK (kindV b))) cs q s.data.toList i
        obtain ⟨J, hJ⟩ : ∃ J, J = q + i := ⟨_, rfl⟩
        have eJ : (q : Int) + (i : Int) = (J : Int) := by omega
        have hJn : J < n := by omega
        have dJ : (J : Int) < n := by omega
        have dJ0 : (0 : Int) ≤ J := by omega
        have hJl : J < (rowUp 0 (fun b => optK (kindV b)) cs q s.data.toList i).length := by rw [hll, ← HN.out]; exact hJn
        obtain ⟨v, hv⟩ : ∃ v, Hid (v = findI [46, 126, 35, 84, 42] (s[i]'hsi) 0) := ⟨_, hid rfl⟩
        have hvb : -1 ≤ v ∧ v ≤ 5 := by
          have := find_le [46, 126, 35, 84, 42] (s[i]'hsi) 0
          rw [hv.out]
          simp at this
          omega
        have hok : (kindV (s[i]'hsi)).isSome = !decide (v < 0) := by rw [find_kind, ← hv.out]; by_cases h : v < 0 <;> simp [h]
        have hval : 0 ≤ v → optK (kindV (s[i]'hsi)) = v + 1 := fun h => by rw [find_kind, ← hv.out, if_neg (by omega)]; rfl
        have hbad : v < 0 → Hid (o = none) := fun h => hid (by
          rw [← HO.out]
          refine rowv_no setK_is (i := i) (by omega) ?_
          show (fun b => (kindV b).isSome) (s[i]'hsi) = false
          simp only
          rw [hok, decide_eq_true h]; rfl)
        have hgood : 0 ≤ v → Hid (∀ j, (hj : j < s.data.toList.length) → j < i + 1 → (fun b => (kindV b).isSome) (s.data.toList[j]'hj) = true) := fun h => hid (fun j hj hji => by
          rcases Nat.lt_or_ge j i with h2 | h2
          · exact hG.out j hj h2
          · obtain rfl : j = i := by omega
            show (fun b => (kindV b).isSome) (s[j]'hsi) = true
            simp only
            rw [hok, decide_eq_false (by omega)]; rfl)
        have hsg : s.data.toList.getD i 0 = s[i]'hsi := by rw [List.getD_eq_getElem?_getD, List.getElem?_eq_getElem (by rw [hsl]; exact hsi)]; rfl
        have hup : 0 ≤ v → (rowUp 0 (fun b => optK (kindV b)) cs q s.data.toList i).set J (updC 0 (v + 1) ((rowUp 0 (fun b => optK (kindV b)) cs q s.data.toList i)[J]'hJl)) = rowUp 0 (fun b => optK (kindV b)) cs q s.data.toList (i + 1) := fun h => by
          rw [rowUp, hsg, ← hJ, List.getD_eq_getElem?_getD, List.getElem?_eq_getElem hJl]
          simp only [hval h]
          rfl
        have hset := fun (u : World) (h : CB u G (rowUp 0 (fun b => optK (kindV b)) cs q s.data.toList i)) => CB.set h (i := J) (f := 0) hJl (by decide) (v + 1)
        have HSET := Lib.hid (show ∀ u : World, CB u G (rowUp 0 (fun b => optK (kindV b)) cs q s.data.toList i) → 0 ≤ v → CB (u.setCell ⟨G, J * 3 + 0, none⟩ (.int .i64 (v + 1))) G (rowUp 0 (fun b => optK (kindV b)) cs q s.data.toList (i + 1)) from fun u h hp => by rw [← hup hp]; exact hset u h)
        clear hset hup hsg hok hval hG hJ hll
        go_wp2_with fail
        ((with_reducible refine (rfind_b (ByteArray.mk #[46, 126, 35, 84, 42]) _ v _ (by decide) hv).mono ?_); rintro e w' ⟨rfl, rfl⟩)
        by_cases hneg : v < 0
        · have zn : decide (v < 0) = true := decide_eq_true hneg
          have hno := (hbad hneg).out
          subst hno
          clear hbad hgood HO HSET hneg
          go_wp2_with fail
          go_ret
          exact ⟨_, rfl, hC, hT, rowUp_len _ _ _ _, fun r hr => by cases hr⟩
        · have zn : decide (v < 0) = false := decide_eq_false hneg
          have HG2 := hgood (by omega)
          obtain ⟨c0, c1, c2⟩ := CB.cells hC hJl
          have f0 := Blk.frozen hC (J * 3)
          have f1 := Blk.frozen hC (J * 3 + 1)
          have hC2 := HSET.out wr hC (by omega)
          have hT2 := hT.trans (Two.set wr ⟨G, J * 3 + 0, none⟩ (.int .i64 (v + 1)) (.inl rfl))
          have hB2 := hB.far (c := G) (i := J * 3 + 0) (.int .i64 (v + 1)) (fun e => hGB e.symm)
          clear hbad hgood HSET hC hT hB
          go_wp2_with fail
          go_roundw
          case rel => exact ⟨i + 1, by go_num, by omega, hC2, hB2, hT2, HG2⟩
          case measure => simp [RowKit.intOf]; omega
      · obtain rfl : w = i := by omega
        obtain ⟨r, hr⟩ := rowv_yes setK_is (row := rowAt w cs k.1) (l := s.data.toList) (by rw [hrl, hsl]; omega) (by
          rw [List.all_eq_true]
          intro b hb
          obtain ⟨j, hj, rfl⟩ := List.mem_iff_getElem.1 hb
          exact hG.out j hj (by omega))
        have hup := rowUp_repl setK_is hl k s.data.toList hr
        rw [← hq.out] at hup
        rw [HO.out] at hr
        subst hr
        have HU := hid hup
        clear HO hup hG
        go_wp2_with fail
        go_ret
        exact ⟨_, rfl, hC, hT, rowUp_len _ _ _ _, fun r' hr' => by cases hr'; exact HU.out⟩
  · have z : ((s.size : Int) != (w : Int)) = true := by simp; omega
    have hno : o = none := by rw [← ho]; exact rowv_len setK_is (by rw [hrl, hsl]; omega)
    subst hno
    clear ho
    go_enter Tryz.func48, Tryz.ntmps48
    go_wp2_with fail
    go_ret
    exact ⟨cs, rfl, hC0, hT0, rfl, fun r hr => by cases hr⟩

set_option maxHeartbeats 4000000 in
set_option maxRecDepth 100000 in
theorem rrowH_b (G w h n : Nat) (cs : List C3) (hw : 1 ≤ w) (hw2 : w ≤ 32) (hh : h ≤ 32) (hl : cs.length = h * w) (hn : n = cs.length) (k : Upto h) (kk : Nat) (hkk : kk = h + k.1) (s : ByteArray) (_hs : s.size ≤ 100000) (W : World) (hC : CB W G cs) :
    Calls Tryz.prog 48 #[.agg #[.int .i64 w, .int .i64 h, .slice (some ⟨G, 0, none⟩) n n], .int .i64 kk, .string s] W fun e w' => ∃ cs', e = .returned (.bool (rowv setH (rowAt w cs k.1) s.data.toList).isSome) ∧ CB w' G cs' ∧ Two G G W w' ∧ cs'.length = cs.length ∧ (∀ r, rowv setH (rowAt w cs k.1) s.data.toList = some r → cs' = repl cs k.1 w r ∧ r.length = w) := by
  obtain ⟨o, ho⟩ : ∃ o, rowv setH (rowAt w cs k.1) s.data.toList = o := ⟨_, rfl⟩
  rw [ho]
  have hrl := row_len hl k
  have hsl : s.data.toList.length = s.size := (Lib.size_eq s).symm
  have hGW := hC.lt
  have hB := Blk.new W [.int .i64 w, .int .i64 h, .slice (some ⟨G, 0, none⟩) n n] 24
  have hC0 := Blk.alloc hC (.cells #[.int .i64 w, .int .i64 h, .slice (some ⟨G, 0, none⟩) n n] 24)
  have hT0 : Two G G W (W.alloc (.cells #[.int .i64 w, .int .i64 h, .slice (some ⟨G, 0, none⟩) n n] 24)) := Two.of_below ((Below.refl _ W).alloc (Nat.le_refl _) _)
  obtain ⟨m0, m1, m2, -, -, -⟩ := hB.three
  have zk : decide ((kk : Int) < (h : Int)) = false := decide_eq_false (by omega)
  have ek : (kk : Int) - (h : Int) = (k.1 : Int) := by omega
  clear hkk
  have hkh := k.2
  have hko : k.1 * w + w ≤ n := by
    have := Nat.mul_le_mul_right w k.2
    rw [Nat.succ_mul] at this
    omega
  have hn1024 : n ≤ 1024 := by rw [hn, hl]; exact Nat.mul_le_mul hh hw2
  have hGB : G ≠ W.heap.size := by omega
  have HN := Lib.hid hn
  clear hn
  by_cases hnw : s.size = w
  · have z : ((s.size : Int) != (w : Int)) = false := by rw [hnw]; simp
    have HO := Lib.hid ho
    clear ho
    obtain ⟨q, hq⟩ : ∃ q, q = k.1 * w := ⟨_, rfl⟩
    rw [← hq] at hko
    have eq1 : (k.1 : Int) * (w : Int) = (q : Int) := by rw [hq]; simp
    replace hq := hid hq
    clear hC
    go_enter Tryz.func48, Tryz.ntmps48
    go_wp2_with fail
    clear z
    generalize W.alloc (.cells #[.int .i64 w, .int .i64 h, .slice (some ⟨G, 0, none⟩) n n] 24) = V at *
    go_loopw [7] (fun vi wr => ∃ i : Nat, vi = .int .i64 i ∧ i ≤ w ∧ CB wr G (rowUp 1 (fun b => (b.toNat : Int) - 48) cs q s.data.toList i) ∧ Blk wr W.heap.size [.int .i64 w, .int .i64 h, .slice (some ⟨G, 0, none⟩) n n] 24 ∧ Two G G W wr ∧ Hid (∀ j, (hj : j < s.data.toList.length) → j < i → (fun b => decide (48 ≤ b.toNat ∧ b.toNat ≤ 51)) (s.data.toList[j]'hj) = true)) (fun vi _ => w - (RowKit.intOf vi).toNat)
    case atStart => exact ⟨0, rfl, by omega, hC0, hB, hT0, hid (fun j _ h => by omega)⟩
    case round =>
      clear hC0 hB hT0 m0 m1 m2
      obtain ⟨i, rfl, hi, hC, hB, hT, hG⟩ := hrel
      obtain ⟨m0, m1, m2, -, -, -⟩ := hB.three
      by_cases hlt : i < w
      · have d1 : (i : Int) < w := by omega
        have i0 : (0 : Int) ≤ i := by omega
        have hsi : i < s.size := by omega
        have d2 : (i : Int) < s.size := by omega
        have hll := rowUp_len (f := 1) (val := (fun b => (b.toNat : Int) - 48)) cs q s.data.toList i
        obtain ⟨J, hJ⟩ : ∃ J, J = q + i := ⟨_, rfl⟩
        have eJ : (q : Int) + (i : Int) = (J : Int) := by omega
        have hJn : J < n := by omega
        have dJ : (J : Int) < n := by omega
        have dJ0 : (0 : Int) ≤ J := by omega
        have hJl : J < (rowUp 1 (fun b => (b.toNat : Int) - 48) cs q s.data.toList i).length := by rw [hll, ← HN.out]; exact hJn
        obtain ⟨v, hv⟩ : ∃ v, Hid (v = findI [48, 49, 50, 51] (s[i]'hsi) 0) := ⟨_, hid rfl⟩
        have hvb : -1 ≤ v ∧ v ≤ 5 := by
          have := find_le [48, 49, 50, 51] (s[i]'hsi) 0
          rw [hv.out]
          simp at this
          omega
        have hok : decide (48 ≤ (s[i]'hsi).toNat ∧ (s[i]'hsi).toNat ≤ 51) = !decide (v < 0) := by
          have e : (highV (s[i]'hsi)).isSome = decide (48 ≤ (s[i]'hsi).toNat ∧ (s[i]'hsi).toNat ≤ 51) := by unfold highV; split <;> simp_all
          rw [← e, find_high, ← hv.out]; by_cases h : v < 0 <;> simp [h]
        have hval : 0 ≤ v → ((s[i]'hsi).toNat : Int) - 48 = v := fun h => by
          have e := find_high (s[i]'hsi)
          rw [← hv.out, if_neg (by omega)] at e
          unfold highV at e
          split at e
          · injection e
          · cases e
        have hbad : v < 0 → Hid (o = none) := fun h => hid (by
          rw [← HO.out]
          refine rowv_no setH_is (i := i) (by omega) ?_
          show (fun b => decide (48 ≤ b.toNat ∧ b.toNat ≤ 51)) (s[i]'hsi) = false
          simp only
          rw [hok, decide_eq_true h]; rfl)
        have hgood : 0 ≤ v → Hid (∀ j, (hj : j < s.data.toList.length) → j < i + 1 → (fun b => decide (48 ≤ b.toNat ∧ b.toNat ≤ 51)) (s.data.toList[j]'hj) = true) := fun h => hid (fun j hj hji => by
          rcases Nat.lt_or_ge j i with h2 | h2
          · exact hG.out j hj h2
          · obtain rfl : j = i := by omega
            show (fun b => decide (48 ≤ b.toNat ∧ b.toNat ≤ 51)) (s[j]'hsi) = true
            simp only
            rw [hok, decide_eq_false (by omega)]; rfl)
        have hsg : s.data.toList.getD i 0 = s[i]'hsi := by rw [List.getD_eq_getElem?_getD, List.getElem?_eq_getElem (by rw [hsl]; exact hsi)]; rfl
        have hup : 0 ≤ v → (rowUp 1 (fun b => (b.toNat : Int) - 48) cs q s.data.toList i).set J (updC 1 (v) ((rowUp 1 (fun b => (b.toNat : Int) - 48) cs q s.data.toList i)[J]'hJl)) = rowUp 1 (fun b => (b.toNat : Int) - 48) cs q s.data.toList (i + 1) := fun h => by
          rw [rowUp, hsg, ← hJ, List.getD_eq_getElem?_getD, List.getElem?_eq_getElem hJl]
          simp only [hval h]
          rfl
        have hset := fun (u : World) (h : CB u G (rowUp 1 (fun b => (b.toNat : Int) - 48) cs q s.data.toList i)) => CB.set h (i := J) (f := 1) hJl (by decide) (v)
        have HSET := Lib.hid (show ∀ u : World, CB u G (rowUp 1 (fun b => (b.toNat : Int) - 48) cs q s.data.toList i) → 0 ≤ v → CB (u.setCell ⟨G, J * 3 + 1, none⟩ (.int .i64 (v))) G (rowUp 1 (fun b => (b.toNat : Int) - 48) cs q s.data.toList (i + 1)) from fun u h hp => by rw [← hup hp]; exact hset u h)
        clear hset hup hsg hok hval hG hJ hll
        have q1 := fun V => (rfind_b (ByteArray.mk #[48, 49, 50, 51]) _ v V (by decide) hv).mono fun e w' hh => And.intro hh.1 hh.2.symm
        have hx4 : (ByteArray.mk #[48, 49, 50, 51, 52, 53, 54, 55, 56, 57]).extract 0 4 = (ByteArray.mk #[48, 49, 50, 51]) := by decide
        go_wp2_with fail
        go_quiet ((go_at_call 83; with_reducible exact Calls.quiet_of_same (q1 _)))
        have hCd := Blk.drewN hC nq
        have hTd := hT.trans (Two.of_below (below_many (Below.refl _ wr) nq))
        have hBd := Blk.drewN hB nq
        generalize wr.drewN nq = wr' at *
        clear hC hT hB q1 m0 m1 m2
        have hC := hCd
        have hT := hTd
        have hB := hBd
        clear hCd hTd hBd
        obtain ⟨m0, m1, m2, -, -, -⟩ := hB.three
        by_cases hneg : v < 0
        · have zn : decide (v < 0) = true := decide_eq_true hneg
          have hno := (hbad hneg).out
          subst hno
          clear hbad hgood HO HSET hneg
          go_wp2_with fail
          go_ret
          exact ⟨_, rfl, hC, hT, rowUp_len _ _ _ _, fun r hr => by cases hr⟩
        · have zn : decide (v < 0) = false := decide_eq_false hneg
          have HG2 := hgood (by omega)
          obtain ⟨c0, c1, c2⟩ := CB.cells hC hJl
          have f0 := Blk.frozen hC (J * 3)
          have f1 := Blk.frozen hC (J * 3 + 1)
          have hC2 := HSET.out wr' hC (by omega)
          have hT2 := hT.trans (Two.set wr' ⟨G, J * 3 + 1, none⟩ (.int .i64 (v)) (.inl rfl))
          have hB2 := hB.far (c := G) (i := J * 3 + 1) (.int .i64 (v)) (fun e => hGB e.symm)
          clear hbad hgood HSET hC hT hB
          go_wp2_with fail
          go_roundw
          case rel => exact ⟨i + 1, by go_num, by omega, hC2, hB2, hT2, HG2⟩
          case measure => simp [RowKit.intOf]; omega
      · obtain rfl : w = i := by omega
        obtain ⟨r, hr⟩ := rowv_yes setH_is (row := rowAt w cs k.1) (l := s.data.toList) (by rw [hrl, hsl]; omega) (by
          rw [List.all_eq_true]
          intro b hb
          obtain ⟨j, hj, rfl⟩ := List.mem_iff_getElem.1 hb
          exact hG.out j hj (by omega))
        have hup := rowUp_repl setH_is hl k s.data.toList hr
        rw [← hq.out] at hup
        rw [HO.out] at hr
        subst hr
        have HU := hid hup
        clear HO hup hG
        go_wp2_with fail
        go_ret
        exact ⟨_, rfl, hC, hT, rowUp_len _ _ _ _, fun r' hr' => by cases hr'; exact HU.out⟩
  · have z : ((s.size : Int) != (w : Int)) = true := by simp; omega
    have hno : o = none := by rw [← ho]; exact rowv_len setH_is (by rw [hrl, hsl]; omega)
    subst hno
    clear ho
    go_enter Tryz.func48, Tryz.ntmps48
    go_wp2_with fail
    go_ret
    exact ⟨cs, rfl, hC0, hT0, rfl, fun r hr => by cases hr⟩

end Go.Proofs.YtmpbgfobiceehaaGreatDoor
