/-
  The reference of layer 15: the least costs within a cluster.
-/
import Derived.Test.YtpgchjhfhndaaaaGreatDoorClAa
namespace Go.Proofs.YtpgchjhfhndaaaaGreatDoor
open Go.RowKit Go.Lib

theorem ints_repl (n : Nat) (v : Int) : ints (List.replicate n v) = List.replicate n (.int .i64 v) := by unfold ints; rw [List.map_replicate]
/-- The list that the search starts with. -/
theorem start_list {D : List Int} {n ia : Nat} (hl : D.length = n) (h : ∀ q, q < n → ga D q = if q = ia then 0 else -1) : D = (List.replicate n (-1)).set ia 0 := by
  refine List.ext_getElem (by rw [List.length_set, List.length_replicate, hl]) fun q h1 h2 => ?_
  have e := h q (by omega)
  rw [ga_at h1] at e
  rw [e, List.getElem_set, List.getElem_replicate]
  by_cases hq : q = ia
  · rw [if_pos hq, if_pos hq.symm]
  · rw [if_neg hq, if_neg (fun e => hq e.symm)]
theorem blk_type {w : World} {b b' : Nat} {us vs : List Value} {t u : TypeId} (h : Blk w b us t) (k : Blk w b' vs u) (ht : t ≠ u) (e : b = b') : False := by
  subst e
  unfold Blk at h k
  rw [h] at k
  injection k with k
  injection k with _ k
  exact ht k
theorem cost_le19 (m : M3) (bl : List Bool) (c x y d : Int) : costv m bl c x y d ≤ 19 := by
  unfold costv
  split
  · have h1 : (if d % 2 = 1 then (14 : Int) else 10) ≤ 14 := by split <;> omega
    split <;> omega
  · omega
theorem costs_nil {m : M3} {bl : List Bool} {c k : Int} {a : Pt} (h : (exv m k && classv c && insv (arv m k) a.1 a.2 && openv m bl c a.1 a.2) = false) : CostsR m bl c k a [] := by
  unfold CostsR
  rw [if_neg (by rw [h]; exact Bool.false_ne_true)]

set_option maxRecDepth 100000 in
set_option maxHeartbeats 16000000 in
theorem rcosts15_b (m : M3) (sp : Option Addr) (sn sk : Nat) (bl : List Bool) (lp : Option Addr) (ln lk : Nat) (c k : Int) (a : Pt) (W : World) (hh : HighAt m) (hrow : RowAt W (.slice sp sn sk) m.cs) (hbit : BitsAt W (.slice lp ln lk) bl) :
    Calls Tryz.prog 45 #[.agg #[.int .i64 m.w, .int .i64 m.h, .slice sp sn sk], .slice lp ln lk, .int .i64 c, .int .i64 k, .agg #[.int .i64 a.1, .int .i64 a.2]] W fun e w' => ∃ v D, e = .returned v ∧ IntsAt w' v D ∧ CostsR m bl c k a D ∧ Below W.heap.size W w' := by
  have hmx : Tryz.prog.follows .mixedOrders = true := by kernel_rfl
  obtain ⟨ti, hi0, hz0, hz1, hz2⟩ := info_cut asinfoInt
  obtain ⟨tb, hj0, hy0, hy1, hy2⟩ := info_cut asinfoBool
  obtain ⟨x1, hx⟩ : ∃ x, Hid (x = exv m k) := ⟨_, hid rfl⟩
  obtain ⟨r, hra⟩ : ∃ r, Hid (r = areav m k) := ⟨_, hid rfl⟩
  obtain ⟨xc, hxc⟩ : ∃ x, Hid (x = classv c) := ⟨_, hid rfl⟩
  obtain ⟨bi, hbi⟩ : ∃ b', Hid (b' = insv r a.1 a.2) := ⟨_, hid rfl⟩
  obtain ⟨bo, hbo⟩ : ∃ b', Hid (b' = openv m bl c a.1 a.2) := ⟨_, hid rfl⟩
  have hT := Held2.start W [.int .i64 m.w, .int .i64 m.h, .slice sp sn sk] [.int .i64 a.1, .int .i64 a.2] 24 29
  obtain ⟨k0, ek⟩ : ∃ k0, Hid (k0 = W.heap.size) := ⟨_, hid rfl⟩
  obtain ⟨k1, ek1⟩ : ∃ k1, Hid (k1 = W.heap.size + 1) := ⟨_, hid rfl⟩
  go_enter Tryz.func45, Tryz.ntmps45
  go_upto_region 1 with fail
  obtain ⟨X, hX⟩ : ∃ X, X = (W.alloc (.cells [Value.int .i64 m.w, .int .i64 m.h, .slice sp sn sk].toArray 24)).alloc (.cells [Value.int .i64 a.1, .int .i64 a.2].toArray 29) := ⟨_, rfl⟩
  rw [← hX] at hT ⊢
  clear hX
  have zm := hT.l.at ek.out.symm
  have za := hT.r.at ek1.out.symm
  have hW := hT.old
  rw [← ek1.out]
  rw [← ek.out]
  clear hT
  have m0 := zm.cell 0
  have m1 := zm.cell 1
  have m2 := zm.cell 2
  simp only [List.getElem?_cons_zero, List.getElem?_cons_succ] at m0 m1 m2
  go_wp2_with fail
  ((with_reducible refine (rarea_b m sp sn sk k r x1 X (hrow.below hW) hx hra).mono ?_); rintro e w1 ⟨rfl, hb1⟩)
  have hb2 := hb1.alloc hb1.size (.cells ([.int .i64 r.x, .int .i64 r.y, .int .i64 r.w, .int .i64 r.h] : List Value).toArray 72)
  have zr := Blk.new w1 [.int .i64 r.x, .int .i64 r.y, .int .i64 r.w, .int .i64 r.h] 72
  go_upto_region 2 with fail
  obtain ⟨Y, hX⟩ : ∃ Y, Y = w1.alloc (.cells #[Value.int .i64 r.x, .int .i64 r.y, .int .i64 r.w, .int .i64 r.h] 72) := ⟨_, rfl⟩
  rw [← hX]
  rw [show w1.alloc (.cells ([.int .i64 r.x, .int .i64 r.y, .int .i64 r.w, .int .i64 r.h] : List Value).toArray 72) = Y from hX.symm] at hb2 zr
  replace hW := below_call hW hb2
  replace za := za.below hb2
  replace zm := zm.below hb2
  obtain ⟨k2, ek2⟩ : ∃ q, Hid (q = w1.heap.size) := ⟨_, hid rfl⟩
  rw [← ek2.out] at zr ⊢
  clear hX hb1 hb2 m0 m1 m2
  cases x1 with
  | false =>
    have hC : CostsR m bl c k a [] := costs_nil (by rw [← hx.out]; rfl)
    go_wp2_with fail
    go_ret
    exact ⟨_, [], rfl, IntsAt.nil _, hC, hW⟩
  | true =>
  have ccl := rcls15_b c xc Y hxc
  go_wp2_with fail
  ((with_reducible refine ccl.mono ?_); rintro e w2 ⟨rfl, hb2⟩)
  replace zm := zm.below hb2
  replace za := za.below hb2
  replace zr := zr.below hb2
  replace hW := below_call hW hb2
  clear hb2 ccl
  cases xc with
  | false =>
    have hC : CostsR m bl c k a [] := costs_nil (by rw [show classv c = false from hxc.out.symm, Bool.and_false]; rfl)
    go_wp2_with fail
    go_ret
    exact ⟨_, [], rfl, IntsAt.nil _, hC, hW⟩
  | true =>
  have hex := hx.out.symm
  have er : Hid (r = arv m k) := hid (by rw [hra.out, ar_val hex])
  have hf := valid_formed (ex_valid hex).1
  have okr := ar_ok hex
  rw [← er.out] at okr
  have r0 := zr.cell 0
  have r1 := zr.cell 1
  have r2 := zr.cell 2
  have r3 := zr.cell 3
  have p0 := za.cell 0
  have p1 := za.cell 1
  simp only [List.getElem?_cons_zero, List.getElem?_cons_succ] at r0 r1 r2 r3 p0 p1
  have cin : Calls Tryz.prog 98 #[.agg #[.int .i64 r.x, .int .i64 r.y, .int .i64 r.w, .int .i64 r.h], .agg #[.int .i64 a.1, .int .i64 a.2]] w2 fun e w' => e = .returned (.bool bi) ∧ Below w2.heap.size w2 w' := by
    rw [hbi.out]; exact rins_x r.x r.y r.w r.h a.1 a.2 w2
  replace okr := hid okr
  go_wp2_with fail
  ((with_reducible refine cin.mono ?_); rintro e w3 ⟨rfl, hb3⟩)
  replace zm := zm.below hb3
  replace za := za.below hb3
  replace zr := zr.below hb3
  replace hW := below_call hW hb3
  clear hb3 r0 r1 r2 r3 p0 p1 cin
  cases bi with
  | false =>
    have hC : CostsR m bl c k a [] := costs_nil (by rw [show insv (arv m k) a.1 a.2 = false by rw [← er.out]; exact hbi.out.symm, Bool.and_false]; rfl)
    go_wp2_with fail
    go_ret
    exact ⟨_, [], rfl, IntsAt.nil _, hC, hW⟩
  | true =>
  have m0 := zm.cell 0
  have m1 := zm.cell 1
  have m2 := zm.cell 2
  have p0 := za.cell 0
  have p1 := za.cell 1
  simp only [List.getElem?_cons_zero, List.getElem?_cons_succ] at m0 m1 m2 p0 p1
  have cop := ropen15_b m (.slice sp sn sk) bl (.slice lp ln lk) c a bo w3 (hrow.below hW) (hbit.below hW) hbo
  go_wp2_with fail
  ((with_reducible refine cop.mono ?_); rintro e w4 ⟨rfl, hb4⟩)
  replace zm := zm.below hb4
  replace za := za.below hb4
  replace zr := zr.below hb4
  replace hW := below_call hW hb4
  clear hb4 m0 m1 m2 p0 p1 cop
  cases bo with
  | false =>
    have hC : CostsR m bl c k a [] := costs_nil (by rw [show openv m bl c a.1 a.2 = false from hbo.out.symm, Bool.and_false])
    go_wp2_with fail
    go_ret
    exact ⟨_, [], rfl, IntsAt.nil _, hC, hW⟩
  | true =>
  have hcond : (exv m k && classv c && insv (arv m k) a.1 a.2 && openv m bl c a.1 a.2) = true := by
    rw [hex, show classv c = true from hxc.out.symm, show insv (arv m k) a.1 a.2 = true by rw [← er.out]; exact hbi.out.symm, show openv m bl c a.1 a.2 = true from hbo.out.symm]; rfl
  obtain ⟨ia, hia, hca, hixa, _⟩ := part_idx okr.out hf hbi.out.symm
  obtain ⟨n, hn⟩ : ∃ n, Hid ((cellsv r).length = n) := ⟨_, hid rfl⟩
  have hn64 : n ≤ 64 := by
    obtain ⟨w', h', _, _, _, b1, _, b2, e⟩ := cells_ar okr.out hf
    rw [← hn.out, e, List.length_map, List.length_range]
    exact Nat.mul_le_mul b2 b1
  rw [hn.out] at hia
  have hixa2 : Hid (cix m k a = ia) := hid (by unfold cix; rw [← er.out]; exact hixa)
  have okG : Hid (GOk (nbc m bl c k) n) := hid (by
    have h := cls_nb hex bl c
    rw [show (partm m (arv m k)).cs.length = n by unfold partm; dsimp only; rw [List.length_map, ← er.out, hn.out]] at h
    exact h)
  replace hca := hid hca
  have hfin : Hid (∀ D, IsDist (nbc m bl c k) n ia D → CostsR m bl c k a D) := hid (fun D h => by
    unfold CostsR
    rw [if_pos hcond, ← er.out, hn.out, hixa2.out]
    exact h)
  have r0 := zr.cell 0
  have r1 := zr.cell 1
  have r2 := zr.cell 2
  have r3 := zr.cell 3
  simp only [List.getElem?_cons_zero, List.getElem?_cons_succ] at r0 r1 r2 r3
  have cce := rcells_x r.x r.y r.w r.h w4 (cellsv r) (hid rfl)
  rw [hn.out] at cce
  clear hx hra hxc hbi hbo hcond hixa
  go_wp2_with fail
  ((with_reducible refine cce.mono ?_); rintro e V ⟨uc, rfl, hoc, hb5⟩)
  replace zm := zm.below hb5
  replace za := za.below hb5
  replace zr := zr.below hb5
  replace hW := below_call hW hb5
  clear hb5 cce r0 r1 r2 r3
  obtain ⟨gc, cc, rfl⟩ := own_some hoc (by omega)
  have hgc := (hoc.lt gc rfl).2
  have hcell : Hid (∀ (j : Nat) (p : Pt), (cellsv r)[j]? = some p → ∀ w', Below V.heap.size V w' → w'.cell? ⟨gc, j * 2, none⟩ = some (.int .i64 p.1) ∧ w'.cell? ⟨gc, j * 2 + 1, none⟩ = some (.int .i64 p.2)) := hid (fun j p hj w' h => by
    have hjl := (List.getElem?_eq_some_iff.1 hj).1
    have hpc := pcells_at (cellsv r) j hjl
    have hpe : (cellsv r)[j] = p := (List.getElem?_eq_some_iff.1 hj).2
    rw [Nat.mul_comm 2 j, hpe] at hpc
    rw [hn.out] at hjl
    exact ⟨(h.cell (p := ⟨gc, j * 2, none⟩) hgc).trans ((hoc.cellAt (j * 2) (by omega)).trans hpc.1), (h.cell (p := ⟨gc, j * 2 + 1, none⟩) hgc).trans ((hoc.cellAt (j * 2 + 1) (by omega)).trans hpc.2)⟩)
  -- the list of costs
  obtain ⟨W1, hmk, hown1, hg1⟩ := run_make_full V V.heap.size 79 3 ti (.int .i64 0) 1 Tryz.underlying79 hi0 hz0 hz1 .i64 .i64 n (by rw [hz2]; omega) (by unfold maxLen; omega) (Nat.le_refl _)
  have zc : Blk W1 V.heap.size (ints (List.replicate n 0)) 3 := by
    have := made_blk rfl hown1
    rw [ints_repl]
    exact this
  have hbV := (Below.refl V.heap.size V).grown hg1 (Nat.le_refl _) (fun k h => by cases h)
  obtain ⟨gb, hgb⟩ : ∃ gb, Hid (gb = V.heap.size) := ⟨_, hid rfl⟩
  have hVg : V.heap.size ≤ gb := by rw [hgb.out]; exact Nat.le_refl _
  replace hmk : (Instr.makeSlice 79 (.int .i64 n) (.int .i64 n)).run Tryz.prog V = .ok (.slice (some ⟨gb, 0, none⟩) n n) W1 := by rw [hgb.out]; exact hmk
  rw [← hgb.out] at zc
  have hUW : ∀ {w : World}, Below V.heap.size V w → Below W.heap.size W w := fun h => below_call hW h
  clear hown1 hg1
  go_wp2_with fail
  go_loopw [15] (fun vi wr => ∃ (i : Nat) (D : List Int), vi = .int .i64 i ∧ i ≤ n ∧ Hid (D.length = n) ∧ Hid (∀ q, q < i → ga D q = if q = ia then 0 else -1) ∧ Blk wr gb (ints D) 3 ∧ Below V.heap.size V wr) (fun vi _ => n - (RowKit.intOf vi).toNat)
  case atStart => exact ⟨0, _, rfl, by omega, hid (List.length_replicate ..), hid (fun q h => by omega), zc, hbV⟩
  case round =>
    clear zc hbV hmk
    obtain ⟨i, D, rfl, hi, hDl, hD, zc, hbV⟩ := hrel
    by_cases hlt : i < n
    · have z1 : decide ((i : Int) < (n : Int)) = true := decide_eq_true (by omega)
      have i0 : (0 : Int) ≤ (i : Int) := by omega
      have i1 : (i : Int) < (n : Int) := by omega
      have nadd : IntKind.i64.wrap ((i : Int) + 1) = ((i + 1 : Nat) : Int) := by rw [IntWalk.i64_in _ (by omega)]; simp
      have hmeas : n - (RowKit.intOf (Value.int .i64 ((i : Int) + 1))).toNat < n - (RowKit.intOf (Value.int .i64 (i : Int))).toNat := by simp [RowKit.intOf]; omega
      have hil : i < (cellsv r).length := by rw [hn.out]; exact hlt
      obtain ⟨p, hp⟩ : ∃ p, Hid ((cellsv r)[i]? = some p) := ⟨_, hid (List.getElem?_eq_getElem hil)⟩
      have c1 := zc.cell i
      rw [ints_at (by rw [hDl.out]; exact hlt)] at c1
      have f1 := zc.frozen i
      go_upto_region 10 with fail
      have zc1 := zc.set i (.int .i64 (-1))
      rw [ints_set] at zc1
      replace hbV := hbV.setCell (p := ⟨gb, i, none⟩) hVg (.int .i64 (-1))
      obtain ⟨Z, hZ⟩ : ∃ Z, Z = wr.setCell ⟨gb, i, none⟩ (.int .i64 (-1)) := ⟨_, rfl⟩
      rw [← hZ] at zc1 hbV ⊢
      clear hZ c1 f1 zc
      obtain ⟨e1, e2⟩ := hcell.out i p hp.out Z hbV
      have a0 := (za.below hbV).cell 0
      have a1 := (za.below hbV).cell 1
      simp only [List.getElem?_cons_zero, List.getElem?_cons_succ] at a0 a1
      have hl2 : Hid ((D.set i (-1)).length = n) := hid (by rw [List.length_set]; exact hDl.out)
      have c1 := zc1.cell i
      rw [ints_at (by rw [hl2.out]; exact hlt)] at c1
      have f1 := zc1.frozen i
      by_cases hpa : p = a
      · have hii : i = ia := cells_uniq okr.out hf (by rw [← hpa]; exact hp.out) hca.out
        rw [hpa] at e1 e2
        have hN := hid (show ∀ q, q < i + 1 → ga ((D.set i (-1)).set i 0) q = if q = ia then 0 else -1 from fun q hq => by
          rw [ga_set _ _ _ _ (by rw [hl2.out]; exact hlt)]
          by_cases hqi : q = i
          · rw [if_pos hqi, if_pos (by omega)]
          · rw [if_neg hqi, ga_set _ _ _ _ (by rw [hDl.out]; exact hlt), if_neg hqi]
            exact hD.out q (by omega))
        have hl3 : Hid (((D.set i (-1)).set i 0).length = n) := hid (by rw [List.length_set]; exact hl2.out)
        clear hD hDl hp hpa hii
        go_quiet (fail)
        go_wp2_with fail
        have hadd : Value.int .i64 ((i : Int) + 1) = Value.int .i64 ((i + 1 : Nat) : Int) := by push_cast; rfl
        exact ⟨⟨i + 1, _, hadd, by omega, hl3, hN, by rw [← ints_set]; exact (zc1.drewN nq).set i _, (below_many hbV nq).setCell (p := ⟨gb, i, none⟩) hVg _⟩, hmeas⟩
      · have hni : i ≠ ia := fun e => hpa (by have h1 := hp.out; rw [e, hca.out] at h1; injection h1 with h1; exact h1.symm)
        have hN := hid (show ∀ q, q < i + 1 → ga (D.set i (-1)) q = if q = ia then 0 else -1 from fun q hq => by
          rw [ga_set _ _ _ _ (by rw [hDl.out]; exact hlt)]
          by_cases hqi : q = i
          · rw [if_pos hqi, if_neg (by omega)]
          · rw [if_neg hqi]
            exact hD.out q (by omega))
        by_cases hp1 : p.1 = a.1
        · have hp2 : ¬ p.2 = a.2 := fun e => hpa (Prod.ext hp1 e)
          rw [hp1] at e1
          clear hD hDl hp hpa hni hp1
          go_quiet (fail)
          go_wp2_with fail
          have hadd : Value.int .i64 ((i : Int) + 1) = Value.int .i64 ((i + 1 : Nat) : Int) := by push_cast; rfl
          exact ⟨⟨i + 1, _, hadd, by omega, hl2, hN, zc1.drewN nq, below_many hbV nq⟩, hmeas⟩
        · clear hD hDl hp hpa hni
          go_quiet (fail)
          go_wp2_with fail
          have hadd : Value.int .i64 ((i : Int) + 1) = Value.int .i64 ((i + 1 : Nat) : Int) := by push_cast; rfl
          exact ⟨⟨i + 1, _, hadd, by omega, hl2, hN, zc1.drewN nq, below_many hbV nq⟩, hmeas⟩
    · obtain rfl : n = i := by omega
      have z1 : decide ((n : Int) < (n : Int)) = false := decide_eq_false (by omega)
      have hDs := start_list hDl.out hD.out
      have hS0 := hid (Sett.start (nb := nbc m bl c k) (n := n) (a := ia) hia)
      rw [hDs] at zc
      clear hD hDl hDs
      obtain ⟨W2, hmk2, hown2, hg2⟩ := run_make_full wr wr.heap.size 25 4 tb (.bool false) 1 Tryz.underlying25 hj0 hy0 hy1 .i64 .i64 n (by rw [hy2]; omega) (by unfold maxLen; omega) (Nat.le_refl _)
      have zs : Blk W2 wr.heap.size (bools (List.replicate n false)) 4 := by
        have := made_blk rfl hown2
        unfold bools
        rw [List.map_replicate]
        exact this
      obtain ⟨sb, hsb⟩ : ∃ sb, Hid (sb = wr.heap.size) := ⟨_, hid rfl⟩
      have hgs : gb < sb := by rw [hsb.out]; exact zc.lt
      have hVs : V.heap.size ≤ sb := by rw [hsb.out]; exact hbV.size
      replace zc := zc.grown hg2 (fun k h => by cases h)
      have hbV2 := hbV.grown hg2 hbV.size (fun k h => by cases h)
      replace hmk2 : (Instr.makeSlice 25 (.int .i64 n) (.int .i64 n)).run Tryz.prog wr = .ok (.slice (some ⟨sb, 0, none⟩) n n) W2 := by rw [hsb.out]; exact hmk2
      rw [← hsb.out] at zs
      clear hown2 hg2 hbV
      go_wp2_with fail
      go_loopw [] (fun wr => ∃ (D : List Int) (s : List Bool) (cst : Int), Hid (Sett (nbc m bl c k) n ia D s cst) ∧ Blk wr gb (ints D) 3 ∧ Blk wr sb (bools s) 4 ∧ Below V.heap.size V wr) (fun wr => leftMu sb wr)
      case atStart => exact ⟨_, _, 0, hS0, zc, zs, hbV2⟩
      case round =>
        clear hS0 zc zs hbV2 hmk2 z1
        rename_i wq
        obtain ⟨D, s, cst, hS, zc, zs, hbV⟩ := hrel
        have hmu0 := left_mu zs
        have hDl := hS.out.base.len
        have hsl := hS.out.len
        go_wp2_with fail
        go_loopw [17, 18] (fun vk vi wr => ∃ (i : Nat) (kk : Int), vk = .int .i64 kk ∧ vi = .int .i64 i ∧ i ≤ n ∧ Hid (NearU D s i kk) ∧ Blk wr gb (ints D) 3 ∧ Blk wr sb (bools s) 4 ∧ Below V.heap.size V wr) (fun _ vi _ => n - (RowKit.intOf vi).toNat)
        case atStart => exact ⟨0, -1, rfl, rfl, by omega, hid (.inl ⟨rfl, fun q h => by omega⟩), zc, zs, hbV⟩
        case round =>
          clear zc zs hbV
          obtain ⟨i, kk, rfl, rfl, hi, hN, zc, zs, hbV⟩ := hrel
          by_cases hlt : i < n
          · have z1 : decide ((i : Int) < (n : Int)) = true := decide_eq_true (by omega)
            have hci := zc.cell i
            have hsi := zs.cell i
            rw [ints_at (by omega)] at hci
            rw [bools_at (by omega)] at hsi
            have b0 : (0 : Int) ≤ (i : Int) := by omega
            have b1 : (i : Int) < (n : Int) := by omega
            have nadd : IntKind.i64.wrap ((i : Int) + 1) = ((i + 1 : Nat) : Int) := by rw [IntWalk.i64_in _ (by omega)]; simp
            have hst := hN.out.step
            cases hsv : Go.Proofs.YtpgchjhfhndaaaaGreatDoor.gb s i with
            | true =>
              rw [hsv] at hsi
              rw [if_neg (by rw [hsv]; simp)] at hst
              have hN2 := hid hst
              clear hst hN hci hsv
              go_wp2_with fail
              go_quiet (fail)
              go_wp2_with fail
              go_roundw
              case rel => exact ⟨i + 1, kk, rfl, by go_num, by omega, hN2, zc.drewN nq, zs.drewN nq, below_many hbV nq⟩
              case measure => simp [RowKit.intOf]; omega
            | false =>
              rw [hsv] at hsi
              obtain ⟨x, hx⟩ : ∃ x, x = ga D i := ⟨_, rfl⟩
              rw [← hx] at hci hst
              by_cases h0 : 0 ≤ x
              · have y1 : decide (0 ≤ x) = true := decide_eq_true h0
                by_cases hk : kk < 0
                · have y2 : decide (kk < 0) = true := decide_eq_true hk
                  rw [if_pos ⟨hsv, h0, .inl hk⟩] at hst
                  have hN2 := hid hst
                  clear hst hN hsv hx h0 hk
                  go_wp2_with fail
                  go_quiet (fail)
                  go_wp2_with fail
                  go_roundw
                  case rel => exact ⟨i + 1, i, rfl, by go_num, by omega, hN2, zc.drewN nq, zs.drewN nq, below_many hbV nq⟩
                  case measure => simp [RowKit.intOf]; omega
                · have y2 : decide (kk < 0) = false := decide_eq_false hk
                  obtain ⟨j, rfl, hj⟩ : ∃ j : Nat, kk = j ∧ j < i := by
                    rcases hN.out with ⟨e, _⟩ | ⟨j, e, hj, _⟩
                    · omega
                    · exact ⟨j, e, hj⟩
                  have hcj := zc.cell j
                  rw [ints_at (by omega)] at hcj
                  obtain ⟨y, hy⟩ : ∃ y, y = ga D j := ⟨_, rfl⟩
                  rw [Int.toNat_natCast, ← hy] at hst
                  rw [← hy] at hcj
                  have b2 : (0 : Int) ≤ (j : Int) := by omega
                  have b3 : (j : Int) < (n : Int) := by omega
                  by_cases hxy : x < y
                  · have y3 : decide (x < y) = true := decide_eq_true hxy
                    rw [if_pos ⟨hsv, h0, .inr hxy⟩] at hst
                    have hN2 := hid hst
                    clear hst hN hsv hx h0 hk hy hxy
                    go_wp2_with fail
                    go_quiet (fail)
                    go_wp2_with fail
                    go_roundw
                    case rel => exact ⟨i + 1, i, rfl, by go_num, by omega, hN2, zc.drewN nq, zs.drewN nq, below_many hbV nq⟩
                    case measure => simp [RowKit.intOf]; omega
                  · have y3 : decide (x < y) = false := decide_eq_false hxy
                    rw [if_neg (fun h => by rcases h.2.2 with h | h; exact hk h; exact hxy h)] at hst
                    have hN2 := hid hst
                    clear hst hN hsv hx h0 hk hy hxy
                    go_wp2_with fail
                    go_quiet (fail)
                    go_wp2_with fail
                    go_roundw
                    case rel => exact ⟨i + 1, j, rfl, by go_num, by omega, hN2, zc.drewN nq, zs.drewN nq, below_many hbV nq⟩
                    case measure => simp [RowKit.intOf]; omega
              · have y1 : decide (0 ≤ x) = false := decide_eq_false h0
                rw [if_neg (fun h => h0 h.2.1)] at hst
                have hN2 := hid hst
                clear hst hN hsv hx h0
                go_wp2_with fail
                go_quiet (fail)
                go_wp2_with fail
                go_roundw
                case rel => exact ⟨i + 1, kk, rfl, by go_num, by omega, hN2, zc.drewN nq, zs.drewN nq, below_many hbV nq⟩
                case measure => simp [RowKit.intOf]; omega
          · obtain rfl : n = i := by omega
            have z1 : decide ((n : Int) < (n : Int)) = false := decide_eq_false (by omega)
            have hk := hN
            have hmu1 := left_mu zs
            clear hN
            by_cases hk0 : kk < 0
            · have y2 : decide (kk < 0) = true := decide_eq_true hk0
              obtain rfl : kk = -1 := by
                rcases hk.out with ⟨e, _⟩ | ⟨j, e, _⟩
                · exact e
                · omega
              have hD := hfin.out D (hS.out.over hk.out)
              have hW9 := hUW hbV
              clear hk hk0
              go_wp2_with fail
              go_ret
              exact ⟨_, D, rfl, IntsAt.blk zc hDl (by omega), hD, hW9⟩
            · have y2 : decide (kk < 0) = false := decide_eq_false hk0
              obtain ⟨j, rfl⟩ := Int.eq_ofNat_of_zero_le (show 0 ≤ kk by omega)
              obtain ⟨hM, _, hj, hsj⟩ := hS.out.begin hk.out
              have c1 := zs.cell j
              have f1 := zs.frozen j
              rw [bools_at (by omega), hsj] at c1
              have b0 : (0 : Int) ≤ (j : Int) := by omega
              have b1 : (j : Int) < (n : Int) := by omega
              have hdec := left_set (s := s) (by omega) hsj
              have hjl : j < (cellsv r).length := by rw [hn.out]; exact hj
              obtain ⟨p, hp⟩ : ∃ p, Hid ((cellsv r)[j]? = some p) := ⟨_, hid (List.getElem?_eq_getElem hjl)⟩
              obtain ⟨hpn, hpin, hpx, _⟩ := cells_at okr.out hf hp.out
              replace hpin := hid hpin
              clear hk0 hsj hjl hpn
              replace hM := hid hM
              go_upto_region 22 with fail
              have zs2 := zs.set j (.bool true)
              rw [bools_set] at zs2
              have zc2 := zc.far (c := sb) (i := j) (.bool true) (by omega)
              have hbV2 := hbV.setCell (p := ⟨sb, j, none⟩) hVs (.bool true)
              obtain ⟨Z, hZ⟩ : ∃ Z, Z = wr.setCell ⟨sb, j, none⟩ (.bool true) := ⟨_, rfl⟩
              rw [← hZ] at zs2 zc2 hbV2 ⊢
              clear hZ zs zc hbV c1 f1
              have hs2 : (s.set j true).length = n := by rw [List.length_set]; exact hsl
              have hM0 : Hid (SetMid (nbc m bl c k) n ia D (s.set j true) (ga D j) j (preC m r bl c p 0)) := hid hM.out
              obtain ⟨cj, hcj⟩ : ∃ cj, Hid (cj = ga D j) := ⟨_, hid rfl⟩
              rw [← hcj.out] at hM0
              obtain ⟨s2, hss⟩ : ∃ s2, Hid (s2 = s.set j true) := ⟨_, hid rfl⟩
              rw [← hss.out] at hM0 hs2 zs2 hdec
              clear hM hS hk hcj hss hDl hsl
              go_wp2_with fail
              go_loopw [19] (fun vd wr => ∃ (d : Nat) (D : List Int), vd = .int .i64 d ∧ d ≤ 8 ∧ Hid (SetMid (nbc m bl c k) n ia D s2 cj j (preC m r bl c p d)) ∧ Blk wr gb (ints D) 3 ∧ Blk wr sb (bools s2) 4 ∧ Below V.heap.size V wr) (fun vd _ => 8 - (RowKit.intOf vd).toNat)
              case atStart => exact ⟨0, D, rfl, by omega, hM0, zc2, zs2, hbV2⟩
              case round =>
                clear hM0 zc2 zs2 hbV2
                obtain ⟨d, D, rfl, hd8, hM, zc, zs, hbV⟩ := hrel
                by_cases hd : d < 8
                · have z9 : decide ((d : Int) < 8) = true := decide_eq_true (by omega)
                  have nadd : IntKind.i64.wrap ((d : Int) + 1) = ((d + 1 : Nat) : Int) := by rw [IntWalk.i64_in _ (by omega)]; simp
                  have hmeas : 8 - (RowKit.intOf (Value.int .i64 ((d : Int) + 1))).toNat < 8 - (RowKit.intOf (Value.int .i64 (d : Int))).toNat := by simp [RowKit.intOf]; omega
                  obtain ⟨kw, hkw⟩ : ∃ kw, Hid (kw = costv m bl c p.1 p.2 d) := ⟨_, hid rfl⟩
                  obtain ⟨bm, hbm⟩ : ∃ bm, Hid (bm = mayv m bl c p.1 p.2 d) := ⟨_, hid rfl⟩
                  obtain ⟨qx, hqx⟩ : ∃ qx, Hid (qx = stx p.1 d) := ⟨_, hid rfl⟩
                  obtain ⟨qy, hqy⟩ : ∃ qy, Hid (qy = sty p.2 d) := ⟨_, hid rfl⟩
                  obtain ⟨bq, hbq⟩ : ∃ bq, Hid (bq = insv r qx qy) := ⟨_, hid rfl⟩
                  obtain ⟨e1, e2⟩ := hcell.out j p hp.out wr hbV
                  have cst := rstepq_b p.1 p.2 d qx qy wr hqx hqy
                  go_wp2_with fail
                  ((with_reducible refine cst.mono ?_); rintro e w2 ⟨rfl, hb2⟩)
                  have hb3 := hb2.alloc hb2.size (.cells (ptL (qx, qy)).toArray 29)
                  have zq := Blk.new w2 (ptL (qx, qy)) 29
                  go_upto_region 26 with fail
                  obtain ⟨Y, hX⟩ : ∃ Y, Y = w2.alloc (.cells #[Value.int .i64 qx, .int .i64 qy] 29) := ⟨_, rfl⟩
                  rw [← hX]
                  rw [show w2.alloc (.cells (ptL (qx, qy)).toArray 29) = Y from hX.symm] at hb3 zq
                  replace zc := zc.below hb3
                  replace zs := zs.below hb3
                  replace hbV := below_call hbV hb3
                  obtain ⟨k3, ek3⟩ : ∃ q, Hid (q = w2.heap.size) := ⟨_, hid rfl⟩
                  rw [← ek3.out] at zq ⊢
                  clear hX hb2 hb3 cst e1 e2 ek3
                  have hgk : gb ≠ k3 ∧ sb ≠ k3 := ⟨fun e => blk_type zc zq (by decide) e, fun e => blk_type zs zq (by decide) e⟩
                  have hp1 : ∀ w', Below Y.heap.size Y w' → w'.cell? ⟨gc, j * 2, none⟩ = some (.int .i64 p.1) := fun w' h => (hcell.out j p hp.out w' (below_call hbV h)).1
                  have hp2 : ∀ w', Below Y.heap.size Y w' → w'.cell? ⟨gc, j * 2 + 1, none⟩ = some (.int .i64 p.2) := fun w' h => (hcell.out j p hp.out w' (below_call hbV h)).2
                  have hWY := hUW hbV
                  have zm := zm.below hbV
                  have zr := zr.below hbV
                  have hmx : Tryz.prog.follows .mixedOrders = true := by kernel_rfl
                  go_upto_region 26 with fail
                  refine wp_onlyN (wp_region_held (S := fun w' => Below Y.heap.size Y w') hmx ?_)
                  show wpAnyH _ _ _ _ _ _ _ _ Y.drew
                  have hS0 := (Below.refl Y.heap.size Y).drew
                  refine reg_tk (i := 0) (v := .agg #[.int .i64 m.w, .int .i64 m.h, .slice sp sn sk]) (some 128) rfl (fun w' hS => by (have c0 := (zm.below hS).cell 0; have c1 := (zm.below hS).cell 1; have c2 := (zm.below hS).cell 2; simp only [List.getElem?_cons_zero, List.getElem?_cons_succ] at c0 c1 c2); go_simp) hS0 ?_
                  try simp only [Act.put, List.setIfInBounds_toArray, List.set_cons_zero, List.set_cons_succ]
                  refine reg_tk (i := 1) (v := .slice lp ln lk) (some 129) rfl (fun w' hS => by (skip); go_simp) hS0 ?_
                  try simp only [Act.put, List.setIfInBounds_toArray, List.set_cons_zero, List.set_cons_succ]
                  refine reg_tk (i := 2) (v := .int .i64 c) (some 130) rfl (fun w' hS => by (skip); go_simp) hS0 ?_
                  try simp only [Act.put, List.setIfInBounds_toArray, List.set_cons_zero, List.set_cons_succ]
                  refine reg_tk (i := 3) (v := .slice (some ⟨gc, 0, none⟩) n cc) (some 131) rfl (fun w' hS => by (skip); go_simp) hS0 ?_
                  try simp only [Act.put, List.setIfInBounds_toArray, List.set_cons_zero, List.set_cons_succ]
                  refine reg_tk (i := 4) (v := .int .i64 j) (some 132) rfl (fun w' hS => by (skip); go_simp) hS0 ?_
                  try simp only [Act.put, List.setIfInBounds_toArray, List.set_cons_zero, List.set_cons_succ]
                  refine reg_tk (i := 5) (v := .pointer (some ⟨gc, j * 2, none⟩)) (some 133) rfl (fun w' hS => by (skip); go_simp) hS0 ?_
                  try simp only [Act.put, List.setIfInBounds_toArray, List.set_cons_zero, List.set_cons_succ]
                  refine reg_tk (i := 6) (v := .agg #[.int .i64 p.1, .int .i64 p.2]) (some 134) rfl (fun w' hS => by (have c1 := hp1 _ hS; have c2 := hp2 _ hS); go_simp) hS0 ?_
                  try simp only [Act.put, List.setIfInBounds_toArray, List.set_cons_zero, List.set_cons_succ]
                  refine reg_tk (i := 7) (v := .int .i64 d) (some 135) rfl (fun w' hS => by (skip); go_simp) hS0 ?_
                  try simp only [Act.put, List.setIfInBounds_toArray, List.set_cons_zero, List.set_cons_succ]
                  refine held_one (i := 8) (by kernel_rfl) rfl (fun K hQ => ?_)
                  go_simp
                  ((with_reducible refine (rcost_b m (.slice sp sn sk) bl (.slice lp ln lk) c p.1 p.2 d bm kw _ hh (hrow.below (below_call hWY hS0)) (hbit.below (below_call hWY hS0)) hbm hkw).mono ?_); rintro e w4 ⟨rfl, hb1⟩)
                  have hS1 := below_call hS0 hb1
                  clear hb1
                  refine hQ.out _ _ hS1 ?_
                  clear hQ
                  try simp only [Act.put, List.setIfInBounds_toArray, List.set_cons_zero, List.set_cons_succ]
                  refine reg_tk (i := 9) (v := .tuple #[.int .i64 kw, .bool bm]) (some 127) rfl (fun w' hS => by (skip); go_simp) hS1 ?_
                  try simp only [Act.put, List.setIfInBounds_toArray, List.set_cons_zero, List.set_cons_succ]
                  refine reg_tk (i := 10) (v := .int .i64 kw) (some 137) rfl (fun w' hS => by (skip); go_simp) hS1 ?_
                  try simp only [Act.put, List.setIfInBounds_toArray, List.set_cons_zero, List.set_cons_succ]
                  refine reg_tk (i := 11) (v := .bool bm) (some 138) rfl (fun w' hS => by (skip); go_simp) hS1 ?_
                  try simp only [Act.put, List.setIfInBounds_toArray, List.set_cons_zero, List.set_cons_succ]
                  refine reg_tk (i := 12) (v := .int .i64 kw) (some 21) rfl (fun w' hS => by (skip); go_simp) hS1 ?_
                  try simp only [Act.put, List.setIfInBounds_toArray, List.set_cons_zero, List.set_cons_succ]
                  refine reg_tk (i := 13) (v := .bool bm) (some 22) rfl (fun w' hS => by (skip); go_simp) hS1 ?_
                  try simp only [Act.put, List.setIfInBounds_toArray, List.set_cons_zero, List.set_cons_succ]
                  refine wpAnyH_done (by kernel_rfl) ?_ _
                  try simp only [onlyN]

                  replace zc := zc.below hS1
                  replace zs := zs.below hS1
                  replace zq := zq.below hS1
                  replace zr := zr.below hS1
                  replace hbV := below_call hbV hS1
                  clear hS1 hp1 hp2 hWY zm
                  cases bm with
                  | false =>
                    have hN := hid (show SetMid (nbc m bl c k) n ia D s2 cj j (preC m r bl c p (d + 1)) by rw [preC_succ okr.out hf bl c hpin.out hd, if_neg (by rw [← hbm.out, Bool.false_and]; decide), List.append_nil]; exact hM.out)
                    clear hM
                    go_wp2_with fail
                    have hadd : Value.int .i64 ((d : Int) + 1) = Value.int .i64 ((d + 1 : Nat) : Int) := by push_cast; rfl
                    exact ⟨⟨d + 1, D, hadd, by omega, hN, zc, zs, hbV⟩, hmeas⟩

                  | true =>
                    have r0 := zr.cell 0
                    have r1 := zr.cell 1
                    have r2 := zr.cell 2
                    have r3 := zr.cell 3
                    have p0 := zq.cell 0
                    have p1 := zq.cell 1
                    simp only [List.getElem?_cons_zero, List.getElem?_cons_succ] at r0 r1 r2 r3 p0 p1
                    have cin : Calls Tryz.prog 98 #[.agg #[.int .i64 r.x, .int .i64 r.y, .int .i64 r.w, .int .i64 r.h], .agg #[.int .i64 qx, .int .i64 qy]] w4 fun e w' => e = .returned (.bool bq) ∧ Below w4.heap.size w4 w' := by
                      rw [hbq.out]; exact rins_x r.x r.y r.w r.h qx qy w4
                    go_wp2_with fail
                    ((with_reducible refine cin.mono ?_); rintro e w5 ⟨rfl, hb5⟩)
                    replace zc := zc.below hb5
                    replace zs := zs.below hb5
                    replace zq := zq.below hb5
                    replace zr := zr.below hb5
                    replace hbV := below_call hbV hb5
                    clear hb5 r0 r1 r2 r3 p0 p1 cin
                    cases bq with
                    | false =>
                      have hN := hid (show SetMid (nbc m bl c k) n ia D s2 cj j (preC m r bl c p (d + 1)) by rw [preC_succ okr.out hf bl c hpin.out hd, if_neg (by rw [← hqx.out, ← hqy.out, ← hbq.out, Bool.and_false]; decide), List.append_nil]; exact hM.out)
                      clear hM
                      go_wp2_with fail
                      have hadd : Value.int .i64 ((d : Int) + 1) = Value.int .i64 ((d + 1 : Nat) : Int) := by push_cast; rfl
                      exact ⟨⟨d + 1, D, hadd, by omega, hN, zc, zs, hbV⟩, hmeas⟩

                    | true =>
                      have hqr : insv r (qx, qy).1 (qx, qy).2 = true := hbq.out.symm
                      obtain ⟨i, hi, hci, hix, g1, g2, g3, g4⟩ := r15idx okr.out hf hqr
                      dsimp only at g1 g2 g3 g4
                      rw [hn.out] at hi
                      have hmay := hbm.out.symm
                      have hpre : preC m r bl c p (d + 1) = preC m r bl c p d ++ [(i, kw)] := by
                        rw [preC_succ okr.out hf bl c hpin.out hd, if_pos (by rw [hmay, ← hqx.out, ← hqy.out, hqr]; rfl), ← hqx.out, ← hqy.out, hix, ← hkw.out]
                      have hstep : (i, kw) ∈ nbc m bl c k j := by
                        have h := part_step okr.out hf bl c hpin.out hd hmay (by rw [← hqx.out, ← hqy.out]; exact hqr)
                        rw [← hqx.out, ← hqy.out, hix, ← hkw.out, hpx] at h
                        unfold nbc
                        rw [← er.out]
                        exact h
                      have hnew := hM.out.step okG.out hstep
                      rw [← hpre] at hnew
                      have hlen := hM.out.mid.base.len
                      have hbd := hM.out.mid.base.bound okG.out hia
                      have hcj := hM.out.mid.at_
                      have hw := okG.out.pos _ _ _ hstep
                      have hw2 : kw ≤ 19 := by rw [hkw.out]; exact cost_le19 m bl c p.1 p.2 d
                      have hcb : 0 ≤ cj ∧ cj ≤ 20000 := ⟨hM.out.mid.pos, by have := hbd j; omega⟩
                      have nsum : IntKind.i64.wrap (cj + kw) = cj + kw := IntWalk.i64_in _ (by omega)
                      obtain ⟨x, hx⟩ : ∃ x, Hid (x = ga D i) := ⟨_, hid rfl⟩
                      have r0 := zr.cell 0
                      have r1 := zr.cell 1
                      have r2 := zr.cell 2
                      have p0 := zq.cell 0
                      have p1 := zq.cell 1
                      simp only [List.getElem?_cons_zero, List.getElem?_cons_succ] at r0 r1 r2 p0 p1
                      have cI := zc.cell i
                      have cJ := zc.cell j
                      rw [ints_at (by omega)] at cI cJ
                      rw [← hx.out] at cI
                      rw [hcj] at cJ
                      have fI := zc.frozen i
                      have i0 : (0 : Int) ≤ (i : Int) := by omega
                      have i1 : (i : Int) < (n : Int) := by omega
                      unfold relax1 at hnew
                      dsimp only at hnew
                      rw [hcj, ← hx.out] at hnew
                      clear hcj hqx hqy hkw hx hM hstep hpre hmay hbm hix hci hqr hbq hbd
                      by_cases h1 : x < 0
                      · have v1 : decide (x < 0) = true := decide_eq_true h1
                        rw [if_pos (.inl h1)] at hnew
                        replace hnew := hid hnew
                        clear h1
                        go_wp2_with fail
                        go_quiet (fail)
                        go_wp2_with fail
                        have hadd : Value.int .i64 ((d : Int) + 1) = Value.int .i64 ((d + 1 : Nat) : Int) := by push_cast; rfl
                        exact ⟨⟨d + 1, D.set i (cj + kw), hadd, by omega, hnew, by rw [← ints_set]; exact (zc.drewN nq).set i _, (zs.drewN nq).far _ (by omega), (below_many hbV nq).setCell (p := ⟨gb, i, none⟩) hVg _⟩, hmeas⟩
                      · have v1 : decide (x < 0) = false := decide_eq_false h1
                        by_cases h2 : cj + kw < x
                        · have v2 : decide (cj + kw < x) = true := decide_eq_true h2
                          rw [if_pos (.inr h2)] at hnew
                          replace hnew := hid hnew
                          clear h1 h2
                          go_wp2_with fail
                          go_quiet (fail)
                          go_wp2_with fail
                          have hadd : Value.int .i64 ((d : Int) + 1) = Value.int .i64 ((d + 1 : Nat) : Int) := by push_cast; rfl
                          exact ⟨⟨d + 1, D.set i (cj + kw), hadd, by omega, hnew, by rw [← ints_set]; exact (zc.drewN nq).set i _, (zs.drewN nq).far _ (by omega), (below_many hbV nq).setCell (p := ⟨gb, i, none⟩) hVg _⟩, hmeas⟩
                        · have v2 : decide (cj + kw < x) = false := decide_eq_false h2
                          rw [if_neg (fun h => by rcases h with h | h; exact h1 h; exact h2 h)] at hnew
                          replace hnew := hid hnew
                          clear h1 h2
                          go_wp2_with fail
                          go_quiet (fail)
                          go_wp2_with fail
                          have hadd : Value.int .i64 ((d : Int) + 1) = Value.int .i64 ((d + 1 : Nat) : Int) := by push_cast; rfl
                          exact ⟨⟨d + 1, D, hadd, by omega, hnew, zc.drewN nq, zs.drewN nq, below_many hbV nq⟩, hmeas⟩
                · obtain rfl : d = 8 := by omega
                  have z9 : decide (((8 : Nat) : Int) < 8) = false := by decide
                  have hcl := hM.out
                  rw [preC_all okr.out hf bl c hp.out, er.out] at hcl
                  have hS2 := hid hcl.close
                  clear hcl hM
                  have hmu4 := left_mu zs
                  go_wp2_with fail
                  exact ⟨⟨D, s2, cj, hS2, zc, zs, hbV⟩, by rw [hmu4, hmu0]; exact hdec⟩

end Go.Proofs.YtpgchjhfhndaaaaGreatDoor
