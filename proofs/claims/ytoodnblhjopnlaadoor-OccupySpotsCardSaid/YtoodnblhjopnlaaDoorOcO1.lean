/-
  The laws of occupy: what the law itself asks of what fits is free, flat ground.
-/
import Derived.Test.YtoodnblhjopnlaaDoorOcN
namespace Go.Proofs.YtoodnblhjopnlaaDoor
open Go.RowKit Go.Lib

/-- The law's own question of a cell. -/
def loosev (m : M3) (l : List R4) (h : Int) (p : Int × Int) : Bool := insidev m p.1 p.2 && decide ((getv m p.1 p.2).k = 1) && decide ((getv m p.1 p.2).h = h) && !(l.any fun r => insv r p.1 p.2)
theorem loose_ok {m : M3} {l : List R4} {h : Int} {p : Int × Int} (hf : formedv m = true) (hi : inv m.w m.h p.1 p.2 = true) : loosev m l h p = okv m (blockedv m l) h p := by
  unfold loosev okv
  rw [blocked_at hf l hi]
  have : insidev m p.1 p.2 = true := by unfold insidev; rw [hf, hi]; rfl
  rw [this, Bool.true_and]
theorem fits_loose {m : M3} {l : List R4} {r : R4} (hw : withinv m r = true) : fitsv m l r = (cellsv r).all (loosev m l (getv m r.x r.y).h) := by
  unfold fitsv freev
  rw [hw, Bool.true_and, Bool.eq_iff_iff, List.all_eq_true, List.all_eq_true]
  refine forall_congr' fun p => forall_congr' fun hp => ?_
  rw [loose_ok (within_num hw).1 (within_in hw hp)]
set_option maxRecDepth 100000 in
set_option maxHeartbeats 8000000 in
theorem ocloose_b (m : M3) (s : Value) (l : List R4) (sl : Value) (r : R4) (b : Bool) (W : World) (hr : RowAt W s m.cs) (hl : RecsAt W sl l) (hw : withinv m r = true) (e : Hid (b = fitsv m l r)) :
    Calls Tryd.prog 19 #[.agg #[.int .i64 m.w, .int .i64 m.h, s], sl, .agg #[.int .i64 r.x, .int .i64 r.y, .int .i64 r.w, .int .i64 r.h]] W fun e w' => e = .returned (.bool b) ∧ Below W.heap.size W w' := by
  have hT := Held2.start W [.int .i64 m.w, .int .i64 m.h, s] [.int .i64 r.x, .int .i64 r.y, .int .i64 r.w, .int .i64 r.h] 24 33
  have hb0 := e.out
  rw [fits_loose hw] at hb0
  clear e
  obtain ⟨_, _, _, _, _, _⟩ := hT.l.three; obtain ⟨_, _, _, _, _, _, _, _⟩ := hT.r.four
  have hnum := within_num hw
  obtain ⟨rw', hrw⟩ := Int.eq_ofNat_of_zero_le (show 0 ≤ r.w by omega)
  obtain ⟨rh, hrh⟩ := Int.eq_ofNat_of_zero_le (show 0 ≤ r.h by omega)
  have hC : cellsv r = rowsGo r.x r.y rw' rh 0 := by
    have hab : rw' * rh ≤ 32 * 32 := Nat.mul_le_mul (by omega) (by omega)
    unfold cellsv R4.nrm
    dsimp only
    rw [hrw, hrh, nr_nat (show rw' ≤ 1000000 by omega), nr_nat (show rh ≤ 1000000 by omega), nr_in (n := r.x) (by omega) (by omega), nr_in (n := r.y) (by omega) (by omega), if_neg (by rw [← Int.natCast_mul]; omega), Int.toNat_natCast, Int.toNat_natCast]
  rw [hC] at hb0
  have hbd : 0 ≤ r.x ∧ r.x + rw' ≤ 32 ∧ 0 ≤ r.y ∧ r.y + rh ≤ 32 := by omega
  obtain ⟨k1, k2, k3, k4⟩ := hbd
  have wx : IntKind.i64.wrap (r.x + r.w) = r.x + (rw' : Int) := by rw [hrw]; exact IntWalk.i64_in _ (by omega)
  have wy : IntKind.i64.wrap (r.y + r.h) = r.y + (rh : Int) := by rw [hrh]; exact IntWalk.i64_in _ (by omega)
  obtain ⟨q0, hq0⟩ : ∃ q, Hid (q = getv m r.x r.y) := ⟨_, hid rfl⟩
  obtain ⟨t0, ht0⟩ : ∃ t, Hid (t = insidev m r.x r.y) := ⟨_, hid rfl⟩
  have cg0 := fun (w : World) (hb : Below W.heap.size W w) => dget_b m s r.x r.y q0 t0 w (hr.below hb) ht0 hq0
  have cg := fun (x y : Int) (q : C3) (t : Bool) (w : World) (hb : Below W.heap.size W w) (e : Hid (t = insidev m x y)) (hq : Hid (q = getv m x y)) => dget_b m s x y q t w (hr.below hb) e hq
  have ci := fun (r : R4) (x y : Int) (z : Bool) (w : World) (e : Hid (z = insv r x y)) => doins_b r.x r.y r.w r.h x y z w e
  rw [← hq0.out] at hb0
  obtain ⟨k0, h0, a0⟩ := q0
  dsimp only at hb0 cg0
  have hb1 := hid hb0.symm
  obtain ⟨pl, kl, rfl⟩ := hl.len
  have hlm : l.length ≤ maxLen := hl.choose_spec.choose_spec.2.1
  unfold maxLen at hlm
  clear hq0 ht0 hw hC hb0 hrw hrh hnum
  go_enter Tryd.func19, Tryd.ntmps19
  go_upto_region 2 with (go_at_call 38; with_reducible refine (cg0 _ hT.old).mono ?_; rintro e w2 ⟨rfl, hb⟩; replace hT := hT.call hb; clear hb)
  have hQ := Blk.new w2 [.int .i64 k0, .int .i64 h0, .int .i64 a0] 57
  have hal := (Below.refl w2.heap.size w2).alloc (Nat.le_refl _) (.cells [Value.int .i64 k0, .int .i64 h0, .int .i64 a0].toArray 57)
  replace hT := hT.call hal
  clear hal cg0
  generalize w2.alloc (.cells [Value.int .i64 k0, .int .i64 h0, .int .i64 a0].toArray 57) = V at *
  generalize w2.heap.size = bq at *
  obtain ⟨_, _, _, _, _, _⟩ := hT.l.three; obtain ⟨_, _, _, _, _, _, _, _⟩ := hT.r.four
  go_wp2_with fail
  go_loopw [9] (fun vj wr => ∃ j : Nat, vj = .int .i64 (r.y + (j : Int)) ∧ j ≤ rh ∧ Below V.heap.size V wr ∧ Hid ((rowsGo r.x r.y rw' (rh - j) j).all (loosev m l h0) = b)) (fun vj _ => (r.y + rh - RowKit.intOf vj).toNat)
  case atStart => exact ⟨0, by simp, by omega, Below.refl _ _, hb1⟩
  case round =>
    clear hb1
    obtain ⟨j, rfl, hj, hV, hI⟩ := hrel
    have hT1 := hT.call hV
    obtain ⟨_, _, _, _, _, _⟩ := hT1.l.three
    obtain ⟨_, _, _, _, _, _, _, _⟩ := hT1.r.four
    by_cases hlt : j < rh
    · have d1 : r.y + (j : Int) < r.y + (rh : Int) := by omega
      have d1' : (j : Int) < (rh : Int) := by omega
      have wj : IntKind.i64.wrap (r.y + (j : Int) + 1) = r.y + ((j + 1 : Nat) : Int) := by rw [IntKind.wrap_i64]; omega
      have hI2 : Hid ((rowGo r.x (r.y + j) (rw' - 0) 0 ++ rowsGo r.x r.y rw' (rh - (j + 1)) (j + 1)).all (loosev m l h0) = b) := hid (by
        have e := hI.out
        rw [show rh - j = (rh - (j + 1)) + 1 by omega, rowsGo] at e
        exact e)
      clear hI
      go_wp2_with fail
      go_loopw [10] (fun vi wr => ∃ i : Nat, vi = .int .i64 (r.x + (i : Int)) ∧ i ≤ rw' ∧ Below V.heap.size V wr ∧ Hid ((rowGo r.x (r.y + j) (rw' - i) i ++ rowsGo r.x r.y rw' (rh - (j + 1)) (j + 1)).all (loosev m l h0) = b)) (fun vi _ => (r.x + rw' - RowKit.intOf vi).toNat)
      case atStart => exact ⟨0, by simp, by omega, hV, hI2⟩
      case round =>
        clear hV hI2 hT1
        obtain ⟨i, rfl, hi, hV, hI⟩ := hrel
        replace hT := hT.call hV
        replace hQ := hQ.below hV
        obtain ⟨_, _, _, _, _, _⟩ := hT.l.three; obtain ⟨_, _, _, _, _, _, _, _⟩ := hT.r.four
        by_cases hlt2 : i < rw'
        · have d2 : r.x + (i : Int) < r.x + (rw' : Int) := by omega
          have d2' : (i : Int) < (rw' : Int) := by omega
          have wi : IntKind.i64.wrap (r.x + (i : Int) + 1) = r.x + ((i + 1 : Nat) : Int) := by rw [IntKind.wrap_i64]; omega
          have hN : (loosev m l h0 (r.x + (i : Int), r.y + (j : Int)) && (rowGo r.x (r.y + j) (rw' - (i + 1)) (i + 1) ++ rowsGo r.x r.y rw' (rh - (j + 1)) (j + 1)).all (loosev m l h0)) = b := by
            have e := hI.out
            rw [show rw' - i = (rw' - (i + 1)) + 1 by omega, rowGo, List.cons_append, List.all_cons] at e
            exact e
          obtain ⟨x, hx⟩ : ∃ x, r.x + (i : Int) = x := ⟨_, rfl⟩
          obtain ⟨y, hy⟩ : ∃ y, r.y + (j : Int) = y := ⟨_, rfl⟩
          obtain ⟨q, hq⟩ : ∃ q, Hid (q = getv m x y) := ⟨_, hid rfl⟩
          obtain ⟨t, ht⟩ : ∃ t, Hid (t = insidev m x y) := ⟨_, hid rfl⟩
          have hok : loosev m l h0 (x, y) = (t && decide (q.k = 1) && decide (q.h = h0) && !(l.any fun r => insv r x y)) := by unfold loosev; rw [hq.out, ht.out]
          have c1 := fun (w : World) (hb : Below W.heap.size W w) => cg x y q t w hb ht hq
          have c2 := fun (r : R4) (z : Bool) (w : World) (e : Hid (z = insv r x y)) => ci r x y z w e
          obtain ⟨kk, hh, aa⟩ := q
          dsimp only at hok c1
          rw [show ((r.x + (i : Int), r.y + (j : Int)) : Int × Int) = (x, y) by rw [hx, hy], hok] at hN
          rw [← hx, ← hy] at c1 c2
          replace hN := hid hN
          have hXY := hid (And.intro hx hy)
          clear cg ci hq ht hI hok hx hy
          have hX := Blk.new wr [.int .i64 (r.x + (i : Int)), .int .i64 (r.y + (j : Int))] 42
          have hal := (Below.refl wr.heap.size wr).alloc (Nat.le_refl _) (.cells [Value.int .i64 (r.x + (i : Int)), .int .i64 (r.y + (j : Int))].toArray 42)
          replace hT := hT.call hal
          replace hQ := hQ.below hal
          replace hV := below_call hV hal
          clear hal
          go_upto_region 9 with fail
          generalize wr.alloc (.cells [Value.int .i64 (r.x + (i : Int)), .int .i64 (r.y + (j : Int))].toArray 42) = Y at *
          generalize wr.heap.size = bx at *
          obtain ⟨_, _, _, _, _, _⟩ := hT.l.three; obtain ⟨_, _, _, _, _, _, _, _⟩ := hT.r.four
          obtain ⟨_, _, _, _⟩ := hX.two
          go_upto_region 10 with (go_at_call 38; with_reducible refine (c1 _ hT.old).mono ?_; rintro e w5 ⟨rfl, hb⟩; replace hT := hT.call hb; replace hQ := hQ.below hb; replace hX := hX.below hb; replace hV := below_call hV hb; clear hb)
          have hZ := Blk.new w5 [.int .i64 kk, .int .i64 hh, .int .i64 aa] 57
          have hal := (Below.refl w5.heap.size w5).alloc (Nat.le_refl _) (.cells [Value.int .i64 kk, .int .i64 hh, .int .i64 aa].toArray 57)
          replace hT := hT.call hal
          replace hQ := hQ.below hal
          replace hX := hX.below hal
          replace hV := below_call hV hal
          clear hal c1
          generalize w5.alloc (.cells [Value.int .i64 kk, .int .i64 hh, .int .i64 aa].toArray 57) = Z at *
          generalize w5.heap.size = bz at *
          obtain ⟨_, _, _, _, _, _⟩ := hQ.three
          obtain ⟨_, _, _, _, _, _⟩ := hZ.three
          cases t with
          | false =>
            have hb9 : b = false := by rw [← hN.out]; simp
            subst hb9
            clear hN
            go_wp2_with fail
            go_ret
            exact ⟨rfl, hT.old⟩
          | true =>
            by_cases e1 : kk = 1
            · subst e1
              by_cases e2 : hh = h0
              · subst e2
                have z2 : (hh == hh) = true := by simp
                have hN9 : Hid ((!(l.any fun r => insv r x y) && (rowGo r.x (r.y + j) (rw' - (i + 1)) (i + 1) ++ rowsGo r.x r.y rw' (rh - (j + 1)) (j + 1)).all (loosev m l hh)) = b) := hid (by have h9 := hN.out; simp only [decide_true, Bool.true_and] at h9; exact h9)
                clear hN hQ hZ
                go_wp2_with fail
                go_loopw [14] (fun vk wr => ∃ k : Nat, vk = .int .i64 k ∧ k ≤ l.length ∧ Below Z.heap.size Z wr ∧ Hid (((l.take k).any fun r => insv r x y) = false)) (fun vk _ => l.length - (RowKit.intOf vk).toNat)
                case atStart => exact ⟨0, rfl, by omega, Below.refl _ _, hid rfl⟩
                case round =>
                  obtain ⟨k, rfl, hk, hZ, hJ⟩ := hrel
                  replace hT := hT.call hZ
                  replace hX := hX.below hZ
                  replace hV := below_call hV hZ
                  by_cases hlt3 : k < l.length
                  · have d3 : (k : Int) < l.length := by omega
                    have d4 : (0 : Int) ≤ k := by omega
                    obtain ⟨g, o, rfl, hg, q0, q1, q2, q3⟩ := (hl.below hT.old).at hlt3
                    obtain ⟨z, hz9⟩ : ∃ z, Hid (z = insv (l[k]'hlt3) x y) := ⟨_, hid rfl⟩
                    have hnx : Hid (((l.take (k + 1)).any fun r => insv r x y) = z) := hid (by rw [List.take_succ_eq_append_getElem hlt3, List.any_append, hJ.out, Bool.false_or, List.any_cons, List.any_nil, Bool.or_false, hz9.out])
                    have hyes : Hid (z = true → (l.any fun r => insv r x y) = true) := hid (fun h => List.any_eq_true.2 ⟨l[k]'hlt3, List.getElem_mem hlt3, by rw [← hz9.out, h]⟩)
                    have c3 := fun (w : World) => c2 (l[k]'hlt3) z w (hid (by rw [hXY.out.1, hXY.out.2]; exact hz9.out))
                    generalize l[k]'hlt3 = rr at *
                    have hkp := fun (w' : World) (hb : Below wr.heap.size wr w') => And.intro ((hX.below hb).cell 0) (And.intro ((hX.below hb).cell 1) (And.intro ((hb.cell (p := ⟨g, o + k * 4, none⟩) hg).trans q0) (And.intro ((hb.cell (p := ⟨g, o + k * 4 + 1, none⟩) hg).trans q1) (And.intro ((hb.cell (p := ⟨g, o + k * 4 + 2, none⟩) hg).trans q2) ((hb.cell (p := ⟨g, o + k * 4 + 3, none⟩) hg).trans q3)))))
                    have hq := (Below.refl wr.heap.size wr).drew
                    obtain ⟨_, _, _, _, _, _⟩ := hkp _ hq
                    clear q0 q1 q2 q3 hz9 hJ c2
                    go_upto_region 15 with fail
                    go_region_held3 (fun w' => w'.cell? ⟨bx, 0, none⟩ = some (.int .i64 (r.x + (i : Int))) ∧ w'.cell? ⟨bx, 1, none⟩ = some (.int .i64 (r.y + (j : Int))) ∧ w'.cell? ⟨g, o + k * 4, none⟩ = some (.int .i64 rr.x) ∧ w'.cell? ⟨g, o + k * 4 + 1, none⟩ = some (.int .i64 rr.y) ∧ w'.cell? ⟨g, o + k * 4 + 2, none⟩ = some (.int .i64 rr.w) ∧ w'.cell? ⟨g, o + k * 4 + 3, none⟩ = some (.int .i64 rr.h))
                      (exact hkp _ hq)
                      (first | (go_at_call 42; with_reducible refine (c3 _).mono ?_; rintro e w' ⟨rfl, hb⟩; replace hq := below_call hq hb; clear hb))
                    have hT9 := hT.call hq
                    have hZ9 := below_call hZ hq
                    clear hkp hq c3
                    cases z with
                    | true =>
                      have hb9 : b = false := by rw [← hN9.out, hyes.out rfl]; rfl
                      subst hb9
                      clear hN9 hyes hnx
                      go_wp2_with fail
                      go_ret
                      exact ⟨rfl, hT9.old⟩
                    | false =>
                      clear hyes hT hX hV
                      go_wp2_with fail
                      go_roundw
                      case rel => exact ⟨k + 1, by go_num, by omega, hZ9, hnx⟩
                      case measure => simp [RowKit.intOf]; omega
                  · obtain rfl : k = l.length := by omega
                    have hN8 : Hid ((rowGo r.x (r.y + j) (rw' - (i + 1)) (i + 1) ++ rowsGo r.x r.y rw' (rh - (j + 1)) (j + 1)).all (loosev m l hh) = b) := hid (by
                      have h9 := hN9.out
                      have h8 := hJ.out
                      rw [List.take_length] at h8
                      rw [h8] at h9
                      simpa only [Bool.not_false, Bool.true_and] using h9)
                    clear hN9 hJ c2
                    go_wp2_with fail
                    go_roundw
                    case rel => exact ⟨i + 1, by go_num, by omega, hV, hN8⟩
                    case measure => simp [RowKit.intOf]; omega
              · have z2 : (hh == h0) = false := beq_eq_false_iff_ne.2 e2
                have hb9 : b = false := by rw [← hN.out, decide_eq_false e2]; simp
                subst hb9
                clear hN
                go_wp2_with fail
                go_ret
                exact ⟨rfl, hT.old⟩
            · have z1 : (kk == 1) = false := beq_eq_false_iff_ne.2 e1
              have hb9 : b = false := by rw [← hN.out, decide_eq_false e1]; simp
              subst hb9
              clear hN
              go_wp2_with fail
              go_ret
              exact ⟨rfl, hT.old⟩
        · obtain rfl : i = rw' := by omega
          have d2 : ¬ r.x + (i : Int) < r.x + (i : Int) := by omega
          have hI9 : Hid ((rowsGo r.x r.y i (rh - (j + 1)) (j + 1)).all (loosev m l h0) = b) := hid (by
            have e := hI.out
            rw [Nat.sub_self, rowGo, List.nil_append] at e
            exact e)
          clear hI
          go_wp2_with fail
          go_roundw
          case rel => exact ⟨j + 1, by go_num, by omega, hV, hI9⟩
          case measure => simp [RowKit.intOf]; omega
    · obtain rfl : j = rh := by omega
      have d1 : ¬ r.y + (j : Int) < r.y + (j : Int) := by omega
      have hb9 : b = true := by have e := hI.out; rw [Nat.sub_self, rowsGo] at e; exact e.symm
      subst hb9
      clear hI
      go_wp2_with fail
      go_ret
      exact ⟨rfl, hT1.old⟩

end Go.Proofs.YtoodnblhjopnlaaDoor
