/-
  What the reference of occupy answers: Free, Fits.
-/
import Derived.Test.YtoodnblhjopnlaaDoorOcRa
namespace Go.Proofs.YtoodnblhjopnlaaDoor
open Go.RowKit Go.Lib

set_option maxHeartbeats 8000000 in
set_option maxRecDepth 100000 in
theorem rfree_b (m : M3) (s : Value) (bl : List Bool) (sb : Value) (r : R4) (b : Bool) (W : World) (hr : RowAt W s m.cs) (hl : BitsAt W sb bl) (e : Hid (b = freev m bl r)) :
    Calls Tryd.prog 15 #[.agg #[.int .i64 m.w, .int .i64 m.h, s], sb, .agg #[.int .i64 r.x, .int .i64 r.y, .int .i64 r.w, .int .i64 r.h]] W fun e w' => e = .returned (.bool b) ∧ Below W.heap.size W w' := by
  obtain ⟨z, hz⟩ : ∃ z, Hid (z = withinv m r) := ⟨_, hid rfl⟩
  have cw := fun (w : World) (hb : Below W.heap.size W w) => rwithin_b m s r z w (hr.below hb) hz
  have hT := Held2.start W [.int .i64 m.w, .int .i64 m.h, s] [.int .i64 r.x, .int .i64 r.y, .int .i64 r.w, .int .i64 r.h] 24 33
  have hb0 := e.out
  unfold freev at hb0
  rw [← hz.out] at hb0
  clear e
  obtain ⟨_, _, _, _, _, _⟩ := hT.l.three; obtain ⟨_, _, _, _, _, _, _, _⟩ := hT.r.four
  cases z with
  | false =>
    subst hb0
    go_enter Tryd.func15, Tryd.ntmps15
    go_wp2_with (go_at_call 18; with_reducible refine (cw _ hT.old).mono ?_; rintro e w1 ⟨rfl, hb⟩)
    go_ret
    exact ⟨rfl, below_call hT.old hb⟩
  | true =>
    rw [Bool.true_and] at hb0
    have hw := hz.out.symm
    have hf := (within_num hw).1
    have hnum := within_num hw
    obtain ⟨rw', hrw⟩ := Int.eq_ofNat_of_zero_le (show 0 ≤ r.w by omega)
    obtain ⟨rh, hrh⟩ := Int.eq_ofNat_of_zero_le (show 0 ≤ r.h by omega)
    have hin : Hid (∀ (j i : Nat), j < rh → i < rw' → insidev m (r.x + i) (r.y + j) = true) := hid (fun j i hj hi => by
      unfold insidev inv
      rw [hf, Bool.true_and]
      exact decide_eq_true (by omega))
    have hC : cellsv r = rowsGo r.x r.y rw' rh 0 := by
      have hab : rw' * rh ≤ 32 * 32 := Nat.mul_le_mul (by omega) (by omega)
      unfold cellsv R4.nrm
      dsimp only
      rw [hrw, hrh, nr_nat (show rw' ≤ 1000000 by omega), nr_nat (show rh ≤ 1000000 by omega), nr_in (n := r.x) (by omega) (by omega), nr_in (n := r.y) (by omega) (by omega), if_neg (by rw [← Int.natCast_mul]; omega), Int.toNat_natCast, Int.toNat_natCast]
    rw [hC] at hb0
    have hbd : 0 ≤ r.x ∧ r.x + rw' ≤ 32 ∧ 0 ≤ r.y ∧ r.y + rh ≤ 32 := by omega
    obtain ⟨k1, k2, k3, k4⟩ := hbd
    have wx : IntKind.i64.wrap (r.x + r.w) = r.x + (rw' : Int) := by rw [hrw]; exact IntWalk.i64_in _ (by omega)
    have wy : IntKind.i64.wrap (r.y + r.h) = r.y + (rh : Int) := by rw [hrh]; exact IntWalk.i64_in _ (by omega)
    obtain ⟨q0, hq0⟩ : ∃ q, Hid (q = getv m r.x r.y) := ⟨_, hid rfl⟩
    obtain ⟨t0, ht0⟩ : ∃ t, Hid (t = insidev m r.x r.y) := ⟨_, hid rfl⟩
    have cg0 := fun (w : World) (hb : Below W.heap.size W w) => rget_b m s r.x r.y q0 t0 w (hr.below hb) ht0 hq0
    have cg := fun (x y : Int) (q : C3) (t : Bool) (w : World) (hb : Below W.heap.size W w) (e : Hid (t = insidev m x y)) (hq : Hid (q = getv m x y)) => rget_b m s x y q t w (hr.below hb) e hq
    have cx := fun (x y n : Int) (w : World) (e : Hid (n = indexv m.w x y)) => rindex_b m.w x y n w e
    rw [← hq0.out] at hb0
    obtain ⟨k0, h0, a0⟩ := q0
    dsimp only at hb0 cg0
    have hb1 := hid hb0.symm
    obtain ⟨ps, ks, rfl, hkm, -⟩ := id hl
    unfold maxLen at hkm
    clear hq0 ht0 hw hf hC hz hb0 hrw hrh hnum
    go_enter Tryd.func15, Tryd.ntmps15
    go_upto_region 4 with (first
      | (go_at_call 18; with_reducible refine (cw _ hT.old).mono ?_; rintro e w1 ⟨rfl, hb⟩; replace hT := hT.call hb; clear hb; obtain ⟨_, _, _, _, _, _⟩ := hT.l.three; obtain ⟨_, _, _, _, _, _, _, _⟩ := hT.r.four)
      | (go_at_call 40; with_reducible refine (cg0 _ hT.old).mono ?_; rintro e w2 ⟨rfl, hb⟩; replace hT := hT.call hb; clear hb))
    have hQ := Blk.new w2 [.int .i64 k0, .int .i64 h0, .int .i64 a0] 57
    have hal := (Below.refl w2.heap.size w2).alloc (Nat.le_refl _) (.cells [Value.int .i64 k0, .int .i64 h0, .int .i64 a0].toArray 57)
    replace hT := hT.call hal
    clear hal cg0 cw
    generalize w2.alloc (.cells [Value.int .i64 k0, .int .i64 h0, .int .i64 a0].toArray 57) = V at *
    generalize w2.heap.size = bq at *
    obtain ⟨_, _, _, _, _, _⟩ := hT.l.three; obtain ⟨_, _, _, _, _, _, _, _⟩ := hT.r.four
    go_wp2_with fail
    go_loopw [9] (fun vj wr => ∃ j : Nat, vj = .int .i64 (r.y + (j : Int)) ∧ j ≤ rh ∧ Below V.heap.size V wr ∧ Hid ((rowsGo r.x r.y rw' (rh - j) j).all (okv m bl h0) = b)) (fun vj _ => (r.y + rh - RowKit.intOf vj).toNat)
    case atStart => exact ⟨0, by simp, by omega, Below.refl _ _, hb1⟩
    case round =>
      clear hb1
      obtain ⟨j, rfl, hj, hV, hI⟩ := hrel
      have hT1 := hT.call hV
      obtain ⟨_, _, _, _, _, _⟩ := hT1.l.three
      obtain ⟨_, _, _, _, _, _, _, _⟩ := hT1.r.four
      by_cases hlt : j < rh
      · have d1 : r.y + (j : Int) < r.y + (rh : Int) := by omega
        have d1' : (j : Int) < (rh : Int) := by omega
        have wj : IntKind.i64.wrap (r.y + (j : Int) + 1) = r.y + ((j + 1 : Nat) : Int) := by rw [IntKind.wrap_i64]; omega
        have hI2 : Hid ((rowGo r.x (r.y + j) (rw' - 0) 0 ++ rowsGo r.x r.y rw' (rh - (j + 1)) (j + 1)).all (okv m bl h0) = b) := hid (by
          have e := hI.out
          rw [show rh - j = (rh - (j + 1)) + 1 by omega, rowsGo] at e
          exact e)
        clear hI
        go_wp2_with fail
        go_loopw [10] (fun vi wr => ∃ i : Nat, vi = .int .i64 (r.x + (i : Int)) ∧ i ≤ rw' ∧ Below V.heap.size V wr ∧ Hid ((rowGo r.x (r.y + j) (rw' - i) i ++ rowsGo r.x r.y rw' (rh - (j + 1)) (j + 1)).all (okv m bl h0) = b)) (fun vi _ => (r.x + rw' - RowKit.intOf vi).toNat)
        case atStart => exact ⟨0, by simp, by omega, hV, hI2⟩
        case round =>
          clear hV hI2 hT1
          obtain ⟨i, rfl, hi, hV, hI⟩ := hrel
          replace hT := hT.call hV
          replace hQ := hQ.below hV
          obtain ⟨_, _, _, _, _, _⟩ := hT.l.three; obtain ⟨_, _, _, _, _, _, _, _⟩ := hT.r.four
          by_cases hlt2 : i < rw'
          · have d2 : r.x + (i : Int) < r.x + (rw' : Int) := by omega
            have d2' : (i : Int) < (rw' : Int) := by omega
            have wi : IntKind.i64.wrap (r.x + (i : Int) + 1) = r.x + ((i + 1 : Nat) : Int) := by rw [IntKind.wrap_i64]; omega
            have hinj := hin.out j i hlt hlt2
            have hN : (okv m bl h0 (r.x + (i : Int), r.y + (j : Int)) && (rowGo r.x (r.y + j) (rw' - (i + 1)) (i + 1) ++ rowsGo r.x r.y rw' (rh - (j + 1)) (j + 1)).all (okv m bl h0)) = b := by
              have e := hI.out
              rw [show rw' - i = (rw' - (i + 1)) + 1 by omega, rowGo, List.cons_append, List.all_cons] at e
              exact e
            obtain ⟨x, hx⟩ : ∃ x, r.x + (i : Int) = x := ⟨_, rfl⟩
            obtain ⟨y, hy⟩ : ∃ y, r.y + (j : Int) = y := ⟨_, rfl⟩
            rw [hx, hy] at hinj
            obtain ⟨q, hq⟩ : ∃ q, Hid (q = getv m x y) := ⟨_, hid rfl⟩
            obtain ⟨k, hk⟩ : ∃ k, Hid (k = blkat m bl x y) := ⟨_, hid rfl⟩
            have hok : okv m bl h0 (x, y) = (decide (q.k = 1) && decide (q.h = h0) && !k) := by unfold okv; rw [hq.out, hk.out]
            have c1 := fun (w : World) (hb : Below W.heap.size W w) => cg x y q true w hb (hid hinj.symm) hq
            obtain ⟨n, hix, hn1024⟩ := index_in hinj
            have c2 := fun (w : World) => cx x y n w hix
            have hk2 := hk.out
            unfold blkat at hk2
            rw [← hix.out, Int.toNat_natCast] at hk2
            replace hk2 := hid hk2
            obtain ⟨kk, hh, aa⟩ := q
            dsimp only at hok c1
            rw [show ((r.x + (i : Int), r.y + (j : Int)) : Int × Int) = (x, y) by rw [hx, hy], hok] at hN
            rw [← hx, ← hy] at c1 c2
            replace hN := hid hN
            clear cg cx hinj hq hk hI hok hx hy hix
            have hX := Blk.new wr [.int .i64 (r.x + (i : Int)), .int .i64 (r.y + (j : Int))] 42
            have hal := (Below.refl wr.heap.size wr).alloc (Nat.le_refl _) (.cells [Value.int .i64 (r.x + (i : Int)), .int .i64 (r.y + (j : Int))].toArray 42)
            replace hT := hT.call hal
            replace hQ := hQ.below hal
            replace hV := below_call hV hal
            clear hal
            go_upto_region 11 with fail
            generalize wr.alloc (.cells [Value.int .i64 (r.x + (i : Int)), .int .i64 (r.y + (j : Int))].toArray 42) = Y at *
            generalize wr.heap.size = bx at *
            obtain ⟨_, _, _, _, _, _⟩ := hT.l.three; obtain ⟨_, _, _, _, _, _, _, _⟩ := hT.r.four
            obtain ⟨_, _, _, _⟩ := hX.two
            go_upto_region 12 with (go_at_call 40; with_reducible refine (c1 _ hT.old).mono ?_; rintro e w5 ⟨rfl, hb⟩; replace hT := hT.call hb; replace hQ := hQ.below hb; replace hX := hX.below hb; replace hV := below_call hV hb; clear hb)
            have hZ := Blk.new w5 [.int .i64 kk, .int .i64 hh, .int .i64 aa] 57
            have hal := (Below.refl w5.heap.size w5).alloc (Nat.le_refl _) (.cells [Value.int .i64 kk, .int .i64 hh, .int .i64 aa].toArray 57)
            replace hT := hT.call hal
            replace hQ := hQ.below hal
            replace hX := hX.below hal
            replace hV := below_call hV hal
            clear hal c1
            generalize w5.alloc (.cells [Value.int .i64 kk, .int .i64 hh, .int .i64 aa].toArray 57) = Z at *
            generalize w5.heap.size = bz at *
            obtain ⟨_, _, _, _, _, _⟩ := hT.l.three; obtain ⟨_, _, _, _, _, _, _, _⟩ := hT.r.four
            obtain ⟨_, _, _, _⟩ := hX.two
            go_upto_region 13 with (go_at_call 41; with_reducible refine (c2 _).mono ?_; rintro e w6 ⟨rfl, hb⟩; replace hT := hT.call hb; replace hQ := hQ.below hb; replace hZ := hZ.below hb; replace hV := below_call hV hb; clear hb)
            obtain ⟨_, _, _, _, _, _⟩ := hQ.three
            obtain ⟨_, _, _, _, _, _⟩ := hZ.three
            have hl6 := hl.below hT.old
            clear c2 hX
            by_cases e1 : kk = 1
            · subst e1
              by_cases e2 : hh = h0
              · subst e2
                have z2 : (hh == hh) = true := by simp
                by_cases hnl : n < bl.length
                · obtain ⟨p', k', e', -, hc⟩ := hl6
                  obtain ⟨g, o, rfl, hat⟩ := hc (by omega)
                  obtain ⟨rfl, -, rfl⟩ : ps = some ⟨g, o, none⟩ ∧ True ∧ ks = k' := by injection e' with e1 _ e2; exact ⟨e1, trivial, e2⟩
                  have h1 := hat n hnl
                  have hkv : bl[n]'hnl = k := by rw [hk2.out, List.getD_eq_getElem?_getD, List.getElem?_eq_getElem hnl]; rfl
                  rw [hkv] at h1
                  have g1 : decide ((n : Int) < (bl.length : Int)) = true := decide_eq_true (by omega)
                  have n1 : (0 : Int) ≤ n := by omega
                  have n2 : (n : Int) < bl.length := by omega
                  clear hat hc hkv hk2
                  cases k with
                  | true =>
                    have hb9 : b = false := by rw [← hN.out]; simp
                    subst hb9
                    go_wp2_with fail
                    go_ret
                    exact ⟨rfl, hT.old⟩
                  | false =>
                    have hN9 : Hid ((rowGo r.x (r.y + j) (rw' - (i + 1)) (i + 1) ++ rowsGo r.x r.y rw' (rh - (j + 1)) (j + 1)).all (okv m bl hh) = b) := hid (by have h9 := hN.out; simp only [decide_true, Bool.true_and, Bool.not_false] at h9; exact h9)
                    clear hN
                    go_wp2_with fail
                    go_roundw
                    case rel => exact ⟨i + 1, by go_num, by omega, hV, hN9⟩
                    case measure => simp [RowKit.intOf]; omega
                · have hkf : k = false := by rw [hk2.out, List.getD_eq_getElem?_getD, List.getElem?_eq_none (by omega)]; rfl
                  subst hkf
                  have g1 : decide ((n : Int) < (bl.length : Int)) = false := decide_eq_false (by omega)
                  have hN9 : Hid ((rowGo r.x (r.y + j) (rw' - (i + 1)) (i + 1) ++ rowsGo r.x r.y rw' (rh - (j + 1)) (j + 1)).all (okv m bl hh) = b) := hid (by have h9 := hN.out; simp only [decide_true, Bool.true_and, Bool.not_false] at h9; exact h9)
                  clear hN hk2 hl6
                  go_wp2_with fail
                  go_roundw
                  case rel => exact ⟨i + 1, by go_num, by omega, hV, hN9⟩
                  case measure => simp [RowKit.intOf]; omega
              · have z2 : (hh == h0) = false := beq_eq_false_iff_ne.2 e2
                have hb9 : b = false := by rw [← hN.out, decide_eq_false e2]; simp
                subst hb9
                clear hN hk2
                go_wp2_with fail
                go_ret
                exact ⟨rfl, hT.old⟩
            · have z1 : (kk == 1) = false := beq_eq_false_iff_ne.2 e1
              have hb9 : b = false := by rw [← hN.out, decide_eq_false e1]; simp
              subst hb9
              clear hN hk2
              go_wp2_with fail
              go_ret
              exact ⟨rfl, hT.old⟩
          · obtain rfl : i = rw' := by omega
            have d2 : ¬ r.x + (i : Int) < r.x + (i : Int) := by omega
            have hI9 : Hid ((rowsGo r.x r.y i (rh - (j + 1)) (j + 1)).all (okv m bl h0) = b) := hid (by
              have e := hI.out
              rw [Nat.sub_self, rowGo, List.nil_append] at e
              exact e)
            clear hI
            go_wp2_with fail
            go_roundw
            case rel => exact ⟨j + 1, by go_num, by omega, hV, hI9⟩
            case measure => simp [RowKit.intOf]; omega
      · obtain rfl : j = rh := by omega
        have d1 : ¬ r.y + (j : Int) < r.y + (j : Int) := by omega
        have hb9 : b = true := by have e := hI.out; rw [Nat.sub_self, rowsGo] at e; exact e.symm
        subst hb9
        clear hI
        go_wp2_with fail
        go_ret
        exact ⟨rfl, hT1.old⟩
set_option maxHeartbeats 4000000 in
set_option maxRecDepth 100000 in
theorem rfits_b (m : M3) (s : Value) (l : List R4) (sl : Value) (r : R4) (b : Bool) (W : World) (hr : RowAt W s m.cs) (hl : RecsAt W sl l) (e : Hid (b = fitsv m l r)) :
    Calls Tryd.prog 17 #[.agg #[.int .i64 m.w, .int .i64 m.h, s], sl, .agg #[.int .i64 r.x, .int .i64 r.y, .int .i64 r.w, .int .i64 r.h]] W fun e w' => e = .returned (.bool b) ∧ Below W.heap.size W w' := by
  have c1 := fun (w : World) (hb : Below W.heap.size W w) => rblocked_b m s l sl _ w (hr.below hb) (hl.below hb) (hid rfl)
  have c2 := fun (v : Value) (w : World) (hb : Below W.heap.size W w) (hv : BitsAt w v (blockedv m l)) => rfree_b m s (blockedv m l) v r b w (hr.below hb) hv e
  have hT := Held2.start W [.int .i64 m.w, .int .i64 m.h, s] [.int .i64 r.x, .int .i64 r.y, .int .i64 r.w, .int .i64 r.h] 24 33
  clear e hr hl
  go_enter Tryd.func17, Tryd.ntmps17
  go_upto_region 1 with fail
  generalize (W.alloc (.cells [Value.int .i64 m.w, .int .i64 m.h, s].toArray 24)).alloc (.cells [Value.int .i64 r.x, .int .i64 r.y, .int .i64 r.w, .int .i64 r.h].toArray 33) = V at *
  have hk := fun (w' : World) (hb : Below V.heap.size V w') => And.intro ((hT.l.below hb).cell 0) (And.intro ((hT.l.below hb).cell 1) (And.intro ((hT.l.below hb).cell 2) (And.intro ((hT.r.below hb).cell 0) (And.intro ((hT.r.below hb).cell 1) (And.intro ((hT.r.below hb).cell 2) ((hT.r.below hb).cell 3))))))
  have hq := (Below.refl V.heap.size V).drew
  have hW := hT.old
  obtain ⟨_, _, _, _, _, _, _⟩ := hk _ hq
  go_region_held3 (fun w' => w'.cell? ⟨W.heap.size, 0, none⟩ = some (.int .i64 m.w) ∧ w'.cell? ⟨W.heap.size, 1, none⟩ = some (.int .i64 m.h) ∧ w'.cell? ⟨W.heap.size, 2, none⟩ = some s ∧ w'.cell? ⟨W.heap.size + 1, 0, none⟩ = some (.int .i64 r.x) ∧ w'.cell? ⟨W.heap.size + 1, 1, none⟩ = some (.int .i64 r.y) ∧ w'.cell? ⟨W.heap.size + 1, 2, none⟩ = some (.int .i64 r.w) ∧ w'.cell? ⟨W.heap.size + 1, 3, none⟩ = some (.int .i64 r.h))
    (exact hk _ hq)
    (first
      | (go_at_call 13; with_reducible refine (c1 _ (below_call hW hq)).mono ?_; rintro e w' ⟨v, rfl, hv, hb⟩; replace hq := below_call hq hb; clear hb)
      | (go_at_call 15; with_reducible refine (c2 _ _ (below_call hW hq) hv).mono ?_; rintro e w' ⟨rfl, hb⟩; replace hq := below_call hq hb; clear hb))
  go_wp2
  go_ret
  exact ⟨rfl, below_call hW hq⟩

end Go.Proofs.YtoodnblhjopnlaaDoor
