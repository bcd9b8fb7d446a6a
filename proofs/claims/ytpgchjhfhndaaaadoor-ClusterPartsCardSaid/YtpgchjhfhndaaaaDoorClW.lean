/-
  The reference of layer 15: the entrances of two clusters.
-/
import Derived.Test.YtpgchjhfhndaaaaDoorClLandS
import Derived.Test.YtpgchjhfhndaaaaDoorClRefQ
import Derived.Laws.AppendOwnNone
namespace Go.Proofs.YtpgchjhfhndaaaaDoor
open Go.RowKit Go.Lib

theorem own_two {w : World} {B : Nat} {e : TypeId} {v : Value} {L : List PP} (h : w.ownsRow B e 4 v L.length (qcells L)) : (v = .slice none 0 0 ∧ L = []) ∨ ∃ g cap, v = .slice (some ⟨g, 0, none⟩) L.length cap := by
  rcases h.2 with ⟨rfl, h0⟩ | ⟨g, cap, cur, rfl, _⟩
  · exact .inl ⟨rfl, List.eq_nil_of_length_eq_zero h0⟩
  · exact .inr ⟨_, _, rfl⟩
theorem own_no_cell {w w' : World} {B k n b : Nat} {e t : TypeId} {v : Value} {xs vs : List Value} (h : w.ownsRow B e k v n xs) (z : Blk w' b vs t) (hb : Below w.heap.size w w') (ht : t ≠ e) (hv : v.ownBlock = some b) : False := by
  obtain ⟨c, f, hc⟩ := own_typ (own_below h hb) hv
  unfold Blk at z
  rw [z] at hc
  injection hc with hc
  injection hc with _ hc
  exact ht hc
theorem entr_cls {m : M3} {bl : List Bool} {c a b : Int} (h : classv c = false) : entrv m bl c a b = [] := by
  unfold entrv
  split
  · rw [line_ref, if_neg (by rw [h]; exact Bool.false_ne_true)]
  · rfl

set_option maxRecDepth 100000 in
set_option maxHeartbeats 16000000 in
theorem rentrances_b (m : M3) (sp : Option Addr) (sn sk : Nat) (bl : List Bool) (lp : Option Addr) (ln lk : Nat) (c a b : Int) (W : World) (hh : HighAt m) (hr : RowAt W (.slice sp sn sk) m.cs) (hl : BitsAt W (.slice lp ln lk) bl) :
    Calls Tryd.prog 18 #[.agg #[.int .i64 m.w, .int .i64 m.h, .slice sp sn sk], .slice lp ln lk, .int .i64 c, .int .i64 a, .int .i64 b] W fun e w' => ∃ u, e = .returned u ∧ w'.ownsRow W.heap.size 49 4 u (entrv m bl c a b).length (qcells (entrv m bl c a b)) ∧ Below W.heap.size W w' := by
  obtain ⟨t4, hi4, hy0, hy1, hy2⟩ := info_cut infoPair
  have hbs : ∀ (a b c d : Value) (w : World), (Instr.buildSlice 40 1 #[(0, .agg #[a, b, c, d])]).run Tryd.prog w = .ok (.slice (some ⟨w.heap.size, 0, none⟩) 1 1) (w.alloc (.cells #[a, b, c, d] 49)) := fun a b c d w => by kernel_rfl
  obtain ⟨xr, hxr⟩ : ∃ x, Hid (x = exv m a) := ⟨_, hid rfl⟩
  obtain ⟨xs, hxs⟩ : ∃ x, Hid (x = exv m b) := ⟨_, hid rfl⟩
  obtain ⟨r, hr'⟩ : ∃ r, Hid (r = areav m a) := ⟨_, hid rfl⟩
  obtain ⟨s, hs'⟩ : ∃ s, Hid (s = areav m b) := ⟨_, hid rfl⟩
  obtain ⟨xc, hxc⟩ : ∃ x, Hid (x = classv c) := ⟨_, hid rfl⟩
  have hnil : ∀ w' : World, entrv m bl c a b = [] → w'.ownsRow W.heap.size 49 4 (.slice none 0 0) (entrv m bl c a b).length (qcells (entrv m bl c a b)) := fun w' e => by rw [e]; exact World.ownsRow_nil _ _ _ _
  have hT := Held1.start W [.int .i64 m.w, .int .i64 m.h, .slice sp sn sk] 24
  obtain ⟨k0, ek⟩ : ∃ k0, Hid (k0 = W.heap.size) := ⟨_, hid rfl⟩
  go_enter Tryd.func18, Tryd.ntmps18
  go_upto_region 1 with fail
  obtain ⟨X, hX⟩ : ∃ X, X = W.alloc (.cells [Value.int .i64 m.w, .int .i64 m.h, .slice sp sn sk].toArray 24) := ⟨_, rfl⟩
  rw [← hX] at hT ⊢
  clear hX
  have zm := hT.l.at ek.out.symm
  have hW := hT.old
  rw [← ek.out]
  clear hT
  have m0 := zm.cell 0
  have m1 := zm.cell 1
  have m2 := zm.cell 2
  simp only [List.getElem?_cons_zero, List.getElem?_cons_succ] at m0 m1 m2
  go_wp2_with fail
  ((with_reducible refine (rarea_b m sp sn sk a r xr X (hr.below hW) hxr hr').mono ?_); rintro e w1 ⟨rfl, hb1⟩)
  have hb2 := hb1.alloc hb1.size (.cells [.int .i64 r.x, .int .i64 r.y, .int .i64 r.w, .int .i64 r.h].toArray 29)
  have zr := Blk.new w1 [.int .i64 r.x, .int .i64 r.y, .int .i64 r.w, .int .i64 r.h] 29
  go_upto_region 2 with fail
  obtain ⟨w1', hY⟩ : ∃ Y, Y = w1.alloc (.cells #[Value.int .i64 r.x, .int .i64 r.y, .int .i64 r.w, .int .i64 r.h] 29) := ⟨_, rfl⟩
  rw [← hY]
  rw [show w1.alloc (.cells [.int .i64 r.x, .int .i64 r.y, .int .i64 r.w, .int .i64 r.h].toArray 29) = w1' from hY.symm] at hb2 zr
  replace zm := zm.below hb2
  replace hW := below_call hW hb2
  obtain ⟨k1, ek1⟩ : ∃ q, Hid (q = w1.heap.size) := ⟨_, hid rfl⟩
  rw [← ek1.out] at zr ⊢
  clear hb1 hb2 hY m0 m1 m2
  have m0 := zm.cell 0
  have m1 := zm.cell 1
  have m2 := zm.cell 2
  simp only [List.getElem?_cons_zero, List.getElem?_cons_succ] at m0 m1 m2
  go_wp2_with fail
  ((with_reducible refine (rarea_b m sp sn sk b s xs w1' (hr.below hW) hxs hs').mono ?_); rintro e w2 ⟨rfl, hb1⟩)
  have hb2 := hb1.alloc hb1.size (.cells [.int .i64 s.x, .int .i64 s.y, .int .i64 s.w, .int .i64 s.h].toArray 29)
  have zs := Blk.new w2 [.int .i64 s.x, .int .i64 s.y, .int .i64 s.w, .int .i64 s.h] 29
  go_upto_region 3 with fail
  obtain ⟨w2', hY⟩ : ∃ Y, Y = w2.alloc (.cells #[Value.int .i64 s.x, .int .i64 s.y, .int .i64 s.w, .int .i64 s.h] 29) := ⟨_, rfl⟩
  rw [← hY]
  rw [show w2.alloc (.cells [.int .i64 s.x, .int .i64 s.y, .int .i64 s.w, .int .i64 s.h].toArray 29) = w2' from hY.symm] at hb2 zs
  replace zm := zm.below hb2
  replace hW := below_call hW hb2
  obtain ⟨k2, ek2⟩ : ∃ q, Hid (q = w2.heap.size) := ⟨_, hid rfl⟩
  rw [← ek2.out] at zs ⊢
  replace zr := zr.below hb2
  clear hb1 hb2 hY m0 m1 m2
  cases xr with
  | false =>
    have hn := fun w' => hnil w' (entr_none (by rw [← hxr.out]; rfl))
    go_wp2_with fail
    go_ret
    exact ⟨_, rfl, hn _, hW⟩
  | true =>
    cases xs with
    | false =>
      have hn := fun w' => hnil w' (entr_none (by rw [← hxs.out, Bool.and_false]; rfl))
      go_wp2_with fail
      go_ret
      exact ⟨_, rfl, hn _, hW⟩
    | true =>
      have ccl := rcls15_b c xc w2' hxc
      go_wp2_with fail
      ((with_reducible refine ccl.mono ?_); rintro e w3 ⟨rfl, hb3⟩)
      replace zm := zm.below hb3
      replace zr := zr.below hb3
      replace zs := zs.below hb3
      replace hW := below_call hW hb3
      clear hb3 ccl
      cases xc with
      | false =>
        have hn := fun w' => hnil w' (entr_cls hxc.out.symm)
        go_wp2_with fail
        go_ret
        exact ⟨_, rfl, hn _, hW⟩
      | true =>
        have ha := hxr.out.symm
        have hb := hxs.out.symm
        have hcv := hxc.out.symm
        have er : Hid (r = arv m a) := hid (by rw [hr'.out, ar_val ha])
        have es : Hid (s = arv m b) := hid (by rw [hs'.out, ar_val hb])
        have okr := ar_ok ha
        have oks := ar_ok hb
        have hmw : m.w ≤ 32 ∧ m.h ≤ 32 := by obtain ⟨_, _, s1, s2, s3, s4⟩ := col_num (valid_formed (ex_valid ha).1); omega
        rw [← er.out] at okr
        rw [← es.out] at oks
        obtain ⟨rx, ry, rw1, rh1, rw8, rh8, rxw, ryh⟩ := okr
        obtain ⟨sx, sy, sw1, sh1, sw8, sh8, sxw, syh⟩ := oks
        have a1 : IntKind.i64.wrap (r.x + r.w) = r.x + r.w := IntWalk.i64_in _ (by omega)
        have a2 : IntKind.i64.wrap (r.y + r.h) = r.y + r.h := IntWalk.i64_in _ (by omega)
        have a3 : IntKind.i64.wrap (r.x + r.w - 1) = r.x + r.w - 1 := IntWalk.i64_in _ (by omega)
        have a4 : IntKind.i64.wrap (r.y + r.h - 1) = r.y + r.h - 1 := IntWalk.i64_in _ (by omega)
        have r0 := zr.cell 0
        have r1 := zr.cell 1
        have r2 := zr.cell 2
        have r3 := zr.cell 3
        have s0 := zs.cell 0
        have s1 := zs.cell 1
        simp only [List.getElem?_cons_zero, List.getElem?_cons_succ] at r0 r1 r2 r3 s0 s1
        clear hxr hxs hxc hr' hs'
        go_wp2_with fail
        go_quiet (fail)
        have hbq := below_many (Below.refl w3.heap.size w3) nq
        obtain ⟨Z, hZ⟩ : ∃ Z, Z = w3.drewN nq := ⟨_, rfl⟩
        rw [← hZ] at hbq ⊢
        clear hZ
        replace zr := zr.below hbq
        replace zs := zs.below hbq
        replace zm := zm.below hbq
        replace hW := below_call hW hbq
        clear hbq r0 r1 r2 r3 s0 s1
        have r0 := zr.cell 0
        have r1 := zr.cell 1
        have r2 := zr.cell 2
        simp only [List.getElem?_cons_zero, List.getElem?_cons_succ] at r0 r1 r2
        go_upto_region 7 with fail
        have hb6 := (Below.refl Z.heap.size Z).alloc (Nat.le_refl _) (.cells (ptL (r.x + r.w - 1, r.y)).toArray 26)
        have zp := Blk.new Z (ptL (r.x + r.w - 1, r.y)) 26
        obtain ⟨Y, hY⟩ : ∃ Y, Y = Z.alloc (.cells #[Value.int .i64 (r.x + r.w - 1), .int .i64 r.y] 26) := ⟨_, rfl⟩
        rw [← hY]
        rw [show Z.alloc (.cells (ptL (r.x + r.w - 1, r.y)).toArray 26) = Y from hY.symm] at hb6 zp
        obtain ⟨k3, ek3⟩ : ∃ q, Hid (q = Z.heap.size) := ⟨_, hid rfl⟩
        rw [← ek3.out] at zp ⊢
        have hk3 : W.heap.size ≤ k3 := by rw [ek3.out]; exact hW.size
        have hk03 : k0 ≠ k3 := by have := zm.lt; rw [ek3.out]; omega
        have hk3Y : k3 < Y.heap.size := zp.lt
        replace zr := zr.below hb6
        replace zs := zs.below hb6
        replace zm := zm.below hb6
        replace hW := below_call hW hb6
        clear hb6 hY r0 r1 r2 ek3
        obtain ⟨_, _, _, _⟩ := zp.two
        have r0 := zr.cell 0
        have r1 := zr.cell 1
        have r2 := zr.cell 2
        have r3 := zr.cell 3
        have s0 := zs.cell 0
        have s1 := zs.cell 1
        simp only [List.getElem?_cons_zero, List.getElem?_cons_succ] at r0 r1 r2 r3 s0 s1
        by_cases c1 : s.x = r.x
        · have z1 : (s.x == r.x) = true := beq_iff_eq.2 c1
          by_cases c2 : s.y = r.y + r.h
          · have z2 : (s.y == r.y + r.h) = true := beq_iff_eq.2 c2
            have c1h := hid c1
            have c2h := hid c2
            clear c1 c2
            go_wp2_with fail
            go_quiet (fail)
            have hbq := below_many (Below.refl Y.heap.size Y) nq
            obtain ⟨Z2, hZ⟩ : ∃ Z2, Z2 = Y.drewN nq := ⟨_, rfl⟩
            rw [← hZ] at hbq ⊢
            clear hZ
            replace zr := zr.below hbq
            replace zm := zm.below hbq
            replace zp := zp.below hbq
            replace hW := below_call hW hbq
            clear hbq r0 r1 r2 r3 s0 s1
            have r0 := zr.cell 0
            have r1 := zr.cell 1
            have r3 := zr.cell 3
            simp only [List.getElem?_cons_zero, List.getElem?_cons_succ] at r0 r1 r3
            obtain ⟨_, _, _, _⟩ := zp.two
            go_upto_region 12 with fail
            replace zm := (zm.far (c := k3) (i := 0) (.int .i64 r.x) hk03).far (c := k3) (i := 1) (.int .i64 (r.y + r.h - 1)) hk03
            replace zp : Blk ((Z2.setCell ⟨k3, 0, none⟩ (.int .i64 r.x)).setCell ⟨k3, 1, none⟩ (.int .i64 (r.y + r.h - 1))) k3 (ptL (r.x, r.y + r.h - 1)) 26 := zp.put2 (.int .i64 r.x) (.int .i64 (r.y + r.h - 1))
            replace hW := (hW.setCell (p := ⟨k3, 0, none⟩) hk3 (.int .i64 r.x)).setCell (p := ⟨k3, 1, none⟩) hk3 (.int .i64 (r.y + r.h - 1))
            obtain ⟨U, hU⟩ : ∃ U, U = (Z2.setCell ⟨k3, 0, none⟩ (.int .i64 r.x)).setCell ⟨k3, 1, none⟩ (.int .i64 (r.y + r.h - 1)) := ⟨_, rfl⟩
            rw [← hU] at zm zp hW ⊢
            clear hU r0 r1 r3
            obtain ⟨o, ho⟩ : ∃ o : B5, o = ⟨(r.x, r.y + r.h - 1), r.w, 2, 0⟩ := ⟨_, rfl⟩
            have oac : Hid (o.ac = 2) := hid (by rw [ho])
            have oal : Hid (o.al = 0) := hid (by rw [ho])
            have hbv : bordv (arv m a) (arv m b) = (o, true) := by unfold bordv; rw [← er.out, ← es.out, if_neg (fun h => by have := c1h.out; omega), if_pos ⟨c1h.out, c2h.out⟩, c1h.out, c2h.out, ho]
            obtain ⟨nn, hnn⟩ : ∃ nn : Nat, Hid (r.w = nn) := ⟨(r.w).toNat, hid (by omega)⟩
            have hnn8 : nn ≤ 8 := by have := hnn.out; omega
            have hev : Hid (entrv m bl c a b = (refG (crossA m bl c o) (crossG m bl c o) (bcells o nn)).1 ++ pickv (refG (crossA m bl c o) (crossG m bl c o) (bcells o nn)).2) := hid (by
              unfold entrv
              rw [hbv, ha, hb, if_pos (show (true && true && (o, true).2) = true from rfl)]
              dsimp only
              rw [line_ref, if_pos hcv, show o.n.toNat = nn by rw [ho]; have := hnn.out; dsimp only; omega])
            have zp0 : Blk U k3 (ptL (bpos o 0)) 26 := by
              show Blk _ k3 (ptL o.p) _
              rw [show o.p = (r.x, r.y + r.h - 1) by rw [ho]]
              exact zp
            obtain ⟨B0, hB0⟩ : ∃ q, Hid (q = U.heap.size) := ⟨_, hid rfl⟩
            have hB0s : B0 ≤ U.heap.size := by rw [hB0.out]; exact Nat.le_refl _
            have hWB0 : W.heap.size ≤ B0 := by rw [hB0.out]; exact hW.size
            have hk3B : k3 < B0 := by rw [hB0.out]; exact zp.lt
            have hk0B : k0 < B0 := by rw [hB0.out]; exact zm.lt
            clear hbv ho zr zs zp er es hnil hcv ha hb
            go_wp2_with fail
            go_loopw [19, 20, 21] (fun uo ur vi wr => ∃ (i : Nat) (D R : List PP) (Bk : Nat), vi = .int .i64 i ∧ i ≤ nn ∧ Hid ((D, R) = refG (crossA m bl c o) (crossG m bl c o) (bcells o i)) ∧ wr.ownsRow B0 49 4 uo D.length (qcells D) ∧ wr.ownsRow Bk 49 4 ur R.length (qcells R) ∧ Bk ≤ wr.heap.size ∧ (∀ j, uo.ownBlock = some j → j < Bk) ∧ B0 ≤ Bk ∧ D.length ≤ 2 * i ∧ R.length ≤ i ∧ Blk wr k3 (ptL (bpos o i)) 26 ∧ Blk wr k0 [.int .i64 m.w, .int .i64 m.h, .slice sp sn sk] 24 ∧ Below W.heap.size W wr) (fun _ _ vi _ => nn - (RowKit.intOf vi).toNat)
            case atStart => exact ⟨0, [], [], B0, rfl, by omega, hid rfl, World.ownsRow_nil _ B0 _ _, World.ownsRow_nil _ B0 _ _, hB0s, fun j hj => (by cases hj), Nat.le_refl _, by simp, by simp, zp0, zm, hW⟩
            case round =>
              clear zm hW zp0 hB0s
              obtain ⟨i, D, R, Bk, rfl, hi, hst, hou, hru, hbk, hlt, hB0k, hDl, hRl, zp, zm, hW⟩ := hrel
              obtain ⟨puo, cuo, rfl⟩ := own_slice hou
              obtain ⟨pur, cur', rfl⟩ := own_slice hru
              by_cases hin : i < nn
              · have z9 : decide ((i : Int) < r.w) = true := decide_eq_true (by have := hnn.out; omega)
                have nadd : IntKind.i64.wrap ((i : Int) + 1) = ((i + 1 : Nat) : Int) := by rw [IntWalk.i64_in _ (by omega)]; simp
                have hadd : Value.int .i64 ((i : Int) + 1) = Value.int .i64 ((i + 1 : Nat) : Int) := by push_cast; rfl
                have hmeas : nn - (RowKit.intOf (Value.int .i64 ((i : Int) + 1))).toNat < nn - (RowKit.intOf (Value.int .i64 (i : Int))).toNat := by simp [RowKit.intOf]; omega
                have hmeas2 : nn - (RowKit.intOf (Value.int .i64 ((i + 1 : Nat) : Int))).toNat < nn - (RowKit.intOf (Value.int .i64 (i : Int))).toNat := by simp [RowKit.intOf]; omega
                obtain ⟨p, hp⟩ : ∃ p, Hid (p = bpos o i) := ⟨_, hid rfl⟩
                rw [← hp.out] at zp
                obtain ⟨nx, hnx⟩ : ∃ q, Hid (q = stx p.1 0) := ⟨_, hid rfl⟩
                obtain ⟨ny, hny⟩ : ∃ q, Hid (q = sty p.2 0) := ⟨_, hid rfl⟩
                obtain ⟨qx, hqx⟩ : ∃ q, Hid (q = stx p.1 2) := ⟨_, hid rfl⟩
                obtain ⟨qy, hqy⟩ : ∃ q, Hid (q = sty p.2 2) := ⟨_, hid rfl⟩
                have hnp : Hid (bpos o (i + 1) = (nx, ny)) := hid (by rw [hnx.out, hny.out, hp.out]; show (stx (bpos o i).1 o.al, sty (bpos o i).2 o.al) = _; rw [oal.out])
                obtain ⟨x, hx⟩ : ∃ x : PP, Hid (x = (p, (qx, qy))) := ⟨_, hid rfl⟩
                have hbx : bcell o i = x := by rw [hx.out, hqx.out, hqy.out, hp.out]; show (bpos o i, (stx (bpos o i).1 o.ac, sty (bpos o i).2 o.ac)) = _; rw [oac.out]
                have hstep : refG (crossA m bl c o) (crossG m bl c o) (bcells o (i + 1)) = refStep (crossA m bl c o) (crossG m bl c o) (D, R) x := by rw [bcells_succ, refG_snoc, hbx, ← hst.out]
                obtain ⟨b1, h1⟩ : ∃ b1, Hid (b1 = mayv m bl c p.1 p.2 2) := ⟨_, hid rfl⟩
                obtain ⟨b2, h2⟩ : ∃ b2, Hid (b2 = mayv m bl c p.1 p.2 0) := ⟨_, hid rfl⟩
                obtain ⟨b3, h3⟩ : ∃ b3, Hid (b3 = mayv m bl c qx qy 0) := ⟨_, hid rfl⟩
                have hcA : crossA m bl c o x = b1 := by rw [hx.out, h1.out]; show mayv m bl c p.1 p.2 o.ac = _; rw [oac.out]
                have hcG : crossG m bl c o x = (b2 && b3) := by rw [hx.out, h2.out, h3.out]; show (mayv m bl c p.1 p.2 o.al && mayv m bl c qx qy o.al) = _; rw [oal.out]
                replace hstep := hid hstep
                replace hcA := hid hcA
                replace hcG := hid hcG
                clear hbx hp
                have p0 := zp.cell 0
                have p1 := zp.cell 1
                simp only [List.getElem?_cons_zero, List.getElem?_cons_succ] at p0 p1
                have cst := rstepq_b p.1 p.2 2 qx qy wr hqx hqy
                go_wp2_with fail
                ((with_reducible refine cst.mono ?_); rintro e w1 ⟨rfl, hb1⟩)
                have hb2 := hb1.alloc hb1.size (.cells (ptL (qx, qy)).toArray 26)
                have zq := Blk.new w1 (ptL (qx, qy)) 26
                go_upto_region 17 with fail
                obtain ⟨w2, hY⟩ : ∃ Y, Y = w1.alloc (.cells #[Value.int .i64 qx, .int .i64 qy] 26) := ⟨_, rfl⟩
                rw [← hY]
                rw [show w1.alloc (.cells (ptL (qx, qy)).toArray 26) = w2 from hY.symm] at hb2 zq
                replace zp := zp.below hb2
                replace zm := zm.below hb2
                replace hou := own_below hou hb2
                replace hru := own_below hru hb2
                replace hbk : Bk ≤ w2.heap.size := Nat.le_trans hbk hb2.size
                replace hW := below_call hW hb2
                obtain ⟨kq, ekq⟩ : ∃ q, Hid (q = w1.heap.size) := ⟨_, hid rfl⟩
                rw [← ekq.out] at zq ⊢
                clear hY hb2 hb1 cst p0 p1
                have m0 := zm.cell 0
                have m1 := zm.cell 1
                have m2 := zm.cell 2
                have p0 := zp.cell 0
                have p1 := zp.cell 1
                simp only [List.getElem?_cons_zero, List.getElem?_cons_succ] at m0 m1 m2 p0 p1
                have cps := rpos15_b m (.slice sp sn sk) bl (.slice lp ln lk) c p 2 b1 w2 hh (hr.below hW) (hl.below hW) h1
                go_wp2_with fail
                ((with_reducible refine cps.mono ?_); rintro e w3 ⟨rfl, hbp⟩)
                replace zp := zp.below hbp
                replace zm := zm.below hbp
                replace zq := zq.below hbp
                replace hou := own_below hou hbp
                replace hru := own_below hru hbp
                replace hbk : Bk ≤ w3.heap.size := Nat.le_trans hbk hbp.size
                replace hW := below_call hW hbp
                clear hbp cps m0 m1 m2 p0 p1
                cases b1 with
                | false =>
                  clear h2 h3 hcG
                  have m0 := zm.cell 0
                  have m1 := zm.cell 1
                  have m2 := zm.cell 2
                  have p0 := zp.cell 0
                  have p1 := zp.cell 1
                  simp only [List.getElem?_cons_zero, List.getElem?_cons_succ] at m0 m1 m2 p0 p1
                  have cps := rpos15_b m (.slice sp sn sk) bl (.slice lp ln lk) c p 2 false w3 hh (hr.below hW) (hl.below hW) h1
                  go_wp2_with fail
                  ((with_reducible refine cps.mono ?_); rintro e w4 ⟨rfl, hbp⟩)
                  replace zp := zp.below hbp
                  replace zm := zm.below hbp
                  replace zq := zq.below hbp
                  replace hou := own_below hou hbp
                  replace hru := own_below hru hbp
                  replace hbk : Bk ≤ w4.heap.size := Nat.le_trans hbk hbp.size
                  replace hW := below_call hW hbp
                  clear hbp cps m0 m1 m2 p0 p1
                  have hrl : (R).length ≤ 8 := by omega
                  have cpk := rpick_b (R) _ _ Bk w4 rfl hrl hru
                  go_wp2_with fail
                  ((with_reducible refine cpk.mono ?_); rintro e w6 ⟨z, rfl, hoz, hb6⟩)
                  replace zp := zp.below hb6
                  replace zm := zm.below hb6
                  replace hou := own_below hou hb6
                  replace hW := below_call hW hb6
                  have hbs6 : B0 ≤ w6.heap.size := Nat.le_trans hB0k (Nat.le_trans hbk hb6.size)
                  obtain ⟨pk, hpk⟩ : ∃ pk, Hid (pk = pickv (R)) := ⟨_, hid rfl⟩
                  have hpk2 : pk.length ≤ 2 := by rw [hpk.out]; exact pickv_len _
                  rw [← hpk.out] at hoz
                  have hN := hid (show (D ++ pk, ([] : List PP)) = refG (crossA m bl c o) (crossG m bl c o) (bcells o (i + 1)) by rw [hstep.out]; unfold refStep; rw [hcA.out, if_neg Bool.false_ne_true, ← hpk.out])
                  clear hpk cpk hru hst
                  rcases own_two hoz with ⟨rfl, hp0⟩ | ⟨gz, cz, rfl⟩
                  · subst hp0
                    rw [List.append_nil] at hN
                    clear hoz
                    have p0 := zp.cell 0
                    have p1 := zp.cell 1
                    simp only [List.getElem?_cons_zero, List.getElem?_cons_succ] at p0 p1
                    go_wp2_with (at_builtin; refine wpList_append_own_none rfl _ _ 40 rfl B0 49 t4 4 Tryd.underlying40 hi4 _ _ _ rfl hou rfl ?_)
                    obtain ⟨Bk, hBk⟩ : ∃ q, q = w6.heap.size := ⟨_, rfl⟩
                    have hbk : Bk ≤ w6.heap.size := by omega
                    have hlt : ∀ j, (Value.slice puo D.length cuo).ownBlock = some j → j < Bk := fun j hj => by have := (hou.lt j hj).2; omega
                    have hru := World.ownsRow_nil w6 Bk 49 4
                    have hB0k : B0 ≤ Bk := by omega
                    have p0 := zp.cell 0
                    have p1 := zp.cell 1
                    simp only [List.getElem?_cons_zero, List.getElem?_cons_succ] at p0 p1
                    have cst := rstepq_b p.1 p.2 0 nx ny w6 hnx hny
                    go_wp2_with fail
                    ((with_reducible refine cst.mono ?_); rintro e w9 ⟨rfl, hb9⟩)
                    replace zp := zp.below hb9
                    replace zm := zm.below hb9
                    replace hou := own_below hou hb9
                    replace hru := own_below hru hb9
                    have hbk9 : Bk ≤ w9.heap.size := Nat.le_trans hbk hb9.size
                    replace hW := below_call hW hb9
                    obtain ⟨_, _, _, _⟩ := zp.two
                    have zp9 : Blk ((w9.setCell ⟨k3, 0, none⟩ (.int .i64 nx)).setCell ⟨k3, 1, none⟩ (.int .i64 ny)) k3 (ptL (nx, ny)) 26 := zp.put2 (.int .i64 nx) (.int .i64 ny)
                    have zm9 := (zm.far (c := k3) (i := 0) (.int .i64 nx) hk03).far (c := k3) (i := 1) (.int .i64 ny) hk03
                    have hou9 := own_other (own_other hou ⟨k3, 0, none⟩ (.int .i64 nx) (fun j hj => by have := (hou.lt j hj).1; show j ≠ k3; omega)) ⟨k3, 1, none⟩ (.int .i64 ny) (fun j hj => by have := (hou.lt j hj).1; show j ≠ k3; omega)
                    have hru9 := own_other (own_other hru ⟨k3, 0, none⟩ (.int .i64 nx) (fun j hj => by have := (hru.lt j hj).1; show j ≠ k3; omega)) ⟨k3, 1, none⟩ (.int .i64 ny) (fun j hj => by have := (hru.lt j hj).1; show j ≠ k3; omega)
                    have hW9 := (hW.setCell (p := ⟨k3, 0, none⟩) hk3 (.int .i64 nx)).setCell (p := ⟨k3, 1, none⟩) hk3 (.int .i64 ny)
                    have hsz9 : ((w9.setCell ⟨k3, 0, none⟩ (.int .i64 nx)).setCell ⟨k3, 1, none⟩ (.int .i64 ny)).heap.size = w9.heap.size := by simp [World.setCell]
                    rw [← hnp.out] at zp9
                    clear cst p0 p1
                    go_wp2_with fail
                    have hadd : Value.int .i64 ((i : Int) + 1) = Value.int .i64 ((i + 1 : Nat) : Int) := by push_cast; rfl
                    exact ⟨⟨i + 1, D, [], Bk, hadd, by omega, hN, hou9, hru9, by rw [hsz9]; exact hbk9, hlt, hB0k, by omega, by simp, zp9, zm9, hW9⟩, hmeas⟩
                  · have hnews : ∀ j u, (qcells pk)[j]? = some u → w6.cell? ((⟨gz, 0, none⟩ : Addr).add j) = some u := hoz.cells rfl
                    obtain ⟨kn, hkn2⟩ : ∃ kn, Hid (pk.length = kn) := ⟨_, hid rfl⟩
                    have hnl := qcells_len pk
                    obtain ⟨dn, hdn⟩ : ∃ dn, Hid (D.length = dn) := ⟨_, hid rfl⟩
                    rw [hkn2.out] at hnl hpk2 ⊢
                    rw [hdn.out] at hou hDl ⊢
                    clear hoz
                    go_wp2_with (at_builtin; refine wpList_append_own _ rfl _ _ 40 rfl B0 49 t4 (.agg #[.int .i64 0, .int .i64 0, .int .i64 0, .int .i64 0]) 4 32 Tryd.underlying40 hi4 hy0 hy1 hy2 rfl (by decide) _ _ _ rfl hou ⟨gz, 0, none⟩ kn cz (qcells pk) rfl hnl hnews (qcells_cell pk) (by unfold maxLen; omega) (by omega) hbs6 ?_)
                    intro uo w7 hou7 hg7 _
                    replace zp := blk_grown zp hg7 (fun r hr e => by subst e; have := (hou.lt _ hr).1; omega)
                    replace zm := blk_grown zm hg7 (fun r hr e => by subst e; have := (hou.lt _ hr).1; omega)
                    replace hW := hW.grown hg7 (Nat.le_trans hWB0 hbs6) (fun j hj => Nat.le_trans hWB0 (hou.lt j hj).1)
                    clear hou
                    have hou := own_to hou7 (m := (D ++ pk).length) (ys := qcells (D ++ pk)) (by rw [List.length_append, hdn.out, hkn2.out]) (qcells_app D pk).symm
                    obtain ⟨Bk, hBk⟩ : ∃ q, q = w7.heap.size := ⟨_, rfl⟩
                    have hbk : Bk ≤ w7.heap.size := by omega
                    have hlt : ∀ j, uo.ownBlock = some j → j < Bk := fun j hj => by have := (hou.lt j hj).2; omega
                    have hru := World.ownsRow_nil w7 Bk 49 4
                    have hB0k : B0 ≤ Bk := by have := hg7.size; omega
                    have hDl7 : (D ++ pk).length ≤ 2 * (i + 1) := by rw [List.length_append, hdn.out, hkn2.out]; omega
                    clear hou7 hg7 hnews
                    have p0 := zp.cell 0
                    have p1 := zp.cell 1
                    simp only [List.getElem?_cons_zero, List.getElem?_cons_succ] at p0 p1
                    have cst := rstepq_b p.1 p.2 0 nx ny w7 hnx hny
                    go_wp2_with fail
                    ((with_reducible refine cst.mono ?_); rintro e w9 ⟨rfl, hb9⟩)
                    replace zp := zp.below hb9
                    replace zm := zm.below hb9
                    replace hou := own_below hou hb9
                    replace hru := own_below hru hb9
                    have hbk9 : Bk ≤ w9.heap.size := Nat.le_trans hbk hb9.size
                    replace hW := below_call hW hb9
                    obtain ⟨_, _, _, _⟩ := zp.two
                    have zp9 : Blk ((w9.setCell ⟨k3, 0, none⟩ (.int .i64 nx)).setCell ⟨k3, 1, none⟩ (.int .i64 ny)) k3 (ptL (nx, ny)) 26 := zp.put2 (.int .i64 nx) (.int .i64 ny)
                    have zm9 := (zm.far (c := k3) (i := 0) (.int .i64 nx) hk03).far (c := k3) (i := 1) (.int .i64 ny) hk03
                    have hou9 := own_other (own_other hou ⟨k3, 0, none⟩ (.int .i64 nx) (fun j hj => by have := (hou.lt j hj).1; show j ≠ k3; omega)) ⟨k3, 1, none⟩ (.int .i64 ny) (fun j hj => by have := (hou.lt j hj).1; show j ≠ k3; omega)
                    have hru9 := own_other (own_other hru ⟨k3, 0, none⟩ (.int .i64 nx) (fun j hj => by have := (hru.lt j hj).1; show j ≠ k3; omega)) ⟨k3, 1, none⟩ (.int .i64 ny) (fun j hj => by have := (hru.lt j hj).1; show j ≠ k3; omega)
                    have hW9 := (hW.setCell (p := ⟨k3, 0, none⟩) hk3 (.int .i64 nx)).setCell (p := ⟨k3, 1, none⟩) hk3 (.int .i64 ny)
                    have hsz9 : ((w9.setCell ⟨k3, 0, none⟩ (.int .i64 nx)).setCell ⟨k3, 1, none⟩ (.int .i64 ny)).heap.size = w9.heap.size := by simp [World.setCell]
                    rw [← hnp.out] at zp9
                    clear cst p0 p1
                    go_wp2_with fail
                    have hadd : Value.int .i64 ((i : Int) + 1) = Value.int .i64 ((i + 1 : Nat) : Int) := by push_cast; rfl
                    exact ⟨⟨i + 1, D ++ pk, [], Bk, hadd, by omega, hN, hou9, hru9, by rw [hsz9]; exact hbk9, hlt, hB0k, hDl7, by simp, zp9, zm9, hW9⟩, hmeas⟩
                | true =>
                  -- the run is made longer
                  have p0 := zp.cell 0
                  have p1 := zp.cell 1
                  have q0 := zq.cell 0
                  have q1 := zq.cell 1
                  simp only [List.getElem?_cons_zero, List.getElem?_cons_succ] at p0 p1 q0 q1
                  obtain ⟨rn, hrn⟩ : ∃ rn, Hid (R.length = rn) := ⟨_, hid rfl⟩
                  rw [hrn.out] at hru hRl ⊢
                  go_wp2_with (at_builtin; refine wpList_append_own _ rfl _ _ 40 rfl Bk 49 t4 (.agg #[.int .i64 0, .int .i64 0, .int .i64 0, .int .i64 0]) 4 32 Tryd.underlying40 hi4 hy0 hy1 hy2 rfl (by decide) _ _ _ rfl (hru.alloc _) ⟨w3.heap.size, 0, none⟩ 1 1 [.int .i64 p.1, .int .i64 p.2, .int .i64 qx, .int .i64 qy] rfl rfl cells_new (ints_four _ _ _ _) (by unfold maxLen; omega) (by omega) (by simp; omega) ?_)
                  intro ur w5 hru5 hg5 _
                  have hb4 := (Below.refl w3.heap.size w3).alloc (Nat.le_refl _) (.cells #[Value.int .i64 p.1, .int .i64 p.2, .int .i64 qx, .int .i64 qy] 49)
                  have hown3 := hru
                  replace zp := blk_grown (zp.below hb4) hg5 (fun r hr e => by subst e; have := (hown3.lt _ hr).1; omega)
                  replace zm := blk_grown (zm.below hb4) hg5 (fun r hr e => by subst e; have := (hown3.lt _ hr).1; omega)
                  replace zq := blk_grown (zq.below hb4) hg5 (fun r hr e => own_no_cell hown3 (zq.below hb4) hb4 (by decide) (by rw [hr, e]))
                  replace hou := own_kept2 (own_below hou hb4) hg5 (fun j hj e => by have h7 := (hown3.lt j e).1; have := hlt j hj; omega)
                  have hs5 : w3.heap.size ≤ w5.heap.size := Nat.le_trans hb4.size hg5.size
                  replace hW := (hW.trans (hb4.mono hW.size)).grown hg5 (Nat.le_trans hW.size hb4.size) (fun j hj => by have := (hown3.lt j hj).1; omega)
                  replace hbk : Bk ≤ w5.heap.size := Nat.le_trans hbk hs5
                  have hR1e : qcells R ++ [.int .i64 p.1, .int .i64 p.2, .int .i64 qx, .int .i64 qy] = qcells (R ++ [x]) := by rw [qcells_app, hx.out]; rfl
                  have hru := own_to hru5 (m := (R ++ [x]).length) (ys := qcells (R ++ [x])) (by rw [List.length_append, hrn.out]; rfl) hR1e
                  have hR8 : (R ++ [x]).length ≤ i + 1 := by rw [List.length_append, hrn.out, List.length_singleton]; omega
                  clear hru5 hg5 hb4 hR1e hs5 hown3 p0 p1 q0 q1
                  have m0 := zm.cell 0
                  have m1 := zm.cell 1
                  have m2 := zm.cell 2
                  have p0 := zp.cell 0
                  have p1 := zp.cell 1
                  simp only [List.getElem?_cons_zero, List.getElem?_cons_succ] at m0 m1 m2 p0 p1
                  have cps := rpos15_b m (.slice sp sn sk) bl (.slice lp ln lk) c p 2 true w5 hh (hr.below hW) (hl.below hW) h1
                  go_wp2_with fail
                  ((with_reducible refine cps.mono ?_); rintro e w4 ⟨rfl, hbp⟩)
                  replace zp := zp.below hbp
                  replace zm := zm.below hbp
                  replace zq := zq.below hbp
                  replace hou := own_below hou hbp
                  replace hru := own_below hru hbp
                  replace hbk : Bk ≤ w4.heap.size := Nat.le_trans hbk hbp.size
                  replace hW := below_call hW hbp
                  clear hbp cps m0 m1 m2 p0 p1
                  have m0 := zm.cell 0
                  have m1 := zm.cell 1
                  have m2 := zm.cell 2
                  have p0 := zp.cell 0
                  have p1 := zp.cell 1
                  simp only [List.getElem?_cons_zero, List.getElem?_cons_succ] at m0 m1 m2 p0 p1
                  have cps := rpos15_b m (.slice sp sn sk) bl (.slice lp ln lk) c p 0 b2 w4 hh (hr.below hW) (hl.below hW) h2
                  go_wp2_with fail
                  ((with_reducible refine cps.mono ?_); rintro e w8 ⟨rfl, hbp⟩)
                  replace zp := zp.below hbp
                  replace zm := zm.below hbp
                  replace zq := zq.below hbp
                  replace hou := own_below hou hbp
                  replace hru := own_below hru hbp
                  replace hbk : Bk ≤ w8.heap.size := Nat.le_trans hbk hbp.size
                  replace hW := below_call hW hbp
                  clear hbp cps m0 m1 m2 p0 p1
                  cases b2 with
                  | false =>
                    clear h3
                    have hrl : (R ++ [x]).length ≤ 8 := by omega
                    have cpk := rpick_b (R ++ [x]) _ _ Bk w8 rfl hrl hru
                    go_wp2_with fail
                    ((with_reducible refine cpk.mono ?_); rintro e w6 ⟨z, rfl, hoz, hb6⟩)
                    replace zp := zp.below hb6
                    replace zm := zm.below hb6
                    replace hou := own_below hou hb6
                    replace hW := below_call hW hb6
                    have hbs6 : B0 ≤ w6.heap.size := Nat.le_trans hB0k (Nat.le_trans hbk hb6.size)
                    obtain ⟨pk, hpk⟩ : ∃ pk, Hid (pk = pickv (R ++ [x])) := ⟨_, hid rfl⟩
                    have hpk2 : pk.length ≤ 2 := by rw [hpk.out]; exact pickv_len _
                    rw [← hpk.out] at hoz
                    have hN := hid (show (D ++ pk, ([] : List PP)) = refG (crossA m bl c o) (crossG m bl c o) (bcells o (i + 1)) by rw [hstep.out]; unfold refStep; rw [hcA.out, if_pos rfl, hcG.out, Bool.false_and, if_neg Bool.false_ne_true, ← hpk.out])
                    clear hpk cpk hru hst
                    rcases own_two hoz with ⟨rfl, hp0⟩ | ⟨gz, cz, rfl⟩
                    · subst hp0
                      rw [List.append_nil] at hN
                      clear hoz
                      have p0 := zp.cell 0
                      have p1 := zp.cell 1
                      simp only [List.getElem?_cons_zero, List.getElem?_cons_succ] at p0 p1
                      go_wp2_with (at_builtin; refine wpList_append_own_none rfl _ _ 40 rfl B0 49 t4 4 Tryd.underlying40 hi4 _ _ _ rfl hou rfl ?_)
                      obtain ⟨Bk, hBk⟩ : ∃ q, q = w6.heap.size := ⟨_, rfl⟩
                      have hbk : Bk ≤ w6.heap.size := by omega
                      have hlt : ∀ j, (Value.slice puo D.length cuo).ownBlock = some j → j < Bk := fun j hj => by have := (hou.lt j hj).2; omega
                      have hru := World.ownsRow_nil w6 Bk 49 4
                      have hB0k : B0 ≤ Bk := by omega
                      have p0 := zp.cell 0
                      have p1 := zp.cell 1
                      simp only [List.getElem?_cons_zero, List.getElem?_cons_succ] at p0 p1
                      have cst := rstepq_b p.1 p.2 0 nx ny w6 hnx hny
                      go_wp2_with fail
                      ((with_reducible refine cst.mono ?_); rintro e w9 ⟨rfl, hb9⟩)
                      replace zp := zp.below hb9
                      replace zm := zm.below hb9
                      replace hou := own_below hou hb9
                      replace hru := own_below hru hb9
                      have hbk9 : Bk ≤ w9.heap.size := Nat.le_trans hbk hb9.size
                      replace hW := below_call hW hb9
                      obtain ⟨_, _, _, _⟩ := zp.two
                      have zp9 : Blk ((w9.setCell ⟨k3, 0, none⟩ (.int .i64 nx)).setCell ⟨k3, 1, none⟩ (.int .i64 ny)) k3 (ptL (nx, ny)) 26 := zp.put2 (.int .i64 nx) (.int .i64 ny)
                      have zm9 := (zm.far (c := k3) (i := 0) (.int .i64 nx) hk03).far (c := k3) (i := 1) (.int .i64 ny) hk03
                      have hou9 := own_other (own_other hou ⟨k3, 0, none⟩ (.int .i64 nx) (fun j hj => by have := (hou.lt j hj).1; show j ≠ k3; omega)) ⟨k3, 1, none⟩ (.int .i64 ny) (fun j hj => by have := (hou.lt j hj).1; show j ≠ k3; omega)
                      have hru9 := own_other (own_other hru ⟨k3, 0, none⟩ (.int .i64 nx) (fun j hj => by have := (hru.lt j hj).1; show j ≠ k3; omega)) ⟨k3, 1, none⟩ (.int .i64 ny) (fun j hj => by have := (hru.lt j hj).1; show j ≠ k3; omega)
                      have hW9 := (hW.setCell (p := ⟨k3, 0, none⟩) hk3 (.int .i64 nx)).setCell (p := ⟨k3, 1, none⟩) hk3 (.int .i64 ny)
                      have hsz9 : ((w9.setCell ⟨k3, 0, none⟩ (.int .i64 nx)).setCell ⟨k3, 1, none⟩ (.int .i64 ny)).heap.size = w9.heap.size := by simp [World.setCell]
                      rw [← hnp.out] at zp9
                      clear cst p0 p1
                      go_wp2_with fail
                      have hadd : Value.int .i64 ((i : Int) + 1) = Value.int .i64 ((i + 1 : Nat) : Int) := by push_cast; rfl
                      exact ⟨⟨i + 1, D, [], Bk, hadd, by omega, hN, hou9, hru9, by rw [hsz9]; exact hbk9, hlt, hB0k, by omega, by simp, zp9, zm9, hW9⟩, hmeas⟩
                    · have hnews : ∀ j u, (qcells pk)[j]? = some u → w6.cell? ((⟨gz, 0, none⟩ : Addr).add j) = some u := hoz.cells rfl
                      obtain ⟨kn, hkn2⟩ : ∃ kn, Hid (pk.length = kn) := ⟨_, hid rfl⟩
                      have hnl := qcells_len pk
                      obtain ⟨dn, hdn⟩ : ∃ dn, Hid (D.length = dn) := ⟨_, hid rfl⟩
                      rw [hkn2.out] at hnl hpk2 ⊢
                      rw [hdn.out] at hou hDl ⊢
                      clear hoz
                      go_wp2_with (at_builtin; refine wpList_append_own _ rfl _ _ 40 rfl B0 49 t4 (.agg #[.int .i64 0, .int .i64 0, .int .i64 0, .int .i64 0]) 4 32 Tryd.underlying40 hi4 hy0 hy1 hy2 rfl (by decide) _ _ _ rfl hou ⟨gz, 0, none⟩ kn cz (qcells pk) rfl hnl hnews (qcells_cell pk) (by unfold maxLen; omega) (by omega) hbs6 ?_)
                      intro uo w7 hou7 hg7 _
                      replace zp := blk_grown zp hg7 (fun r hr e => by subst e; have := (hou.lt _ hr).1; omega)
                      replace zm := blk_grown zm hg7 (fun r hr e => by subst e; have := (hou.lt _ hr).1; omega)
                      replace hW := hW.grown hg7 (Nat.le_trans hWB0 hbs6) (fun j hj => Nat.le_trans hWB0 (hou.lt j hj).1)
                      clear hou
                      have hou := own_to hou7 (m := (D ++ pk).length) (ys := qcells (D ++ pk)) (by rw [List.length_append, hdn.out, hkn2.out]) (qcells_app D pk).symm
                      obtain ⟨Bk, hBk⟩ : ∃ q, q = w7.heap.size := ⟨_, rfl⟩
                      have hbk : Bk ≤ w7.heap.size := by omega
                      have hlt : ∀ j, uo.ownBlock = some j → j < Bk := fun j hj => by have := (hou.lt j hj).2; omega
                      have hru := World.ownsRow_nil w7 Bk 49 4
                      have hB0k : B0 ≤ Bk := by have := hg7.size; omega
                      have hDl7 : (D ++ pk).length ≤ 2 * (i + 1) := by rw [List.length_append, hdn.out, hkn2.out]; omega
                      clear hou7 hg7 hnews
                      have p0 := zp.cell 0
                      have p1 := zp.cell 1
                      simp only [List.getElem?_cons_zero, List.getElem?_cons_succ] at p0 p1
                      have cst := rstepq_b p.1 p.2 0 nx ny w7 hnx hny
                      go_wp2_with fail
                      ((with_reducible refine cst.mono ?_); rintro e w9 ⟨rfl, hb9⟩)
                      replace zp := zp.below hb9
                      replace zm := zm.below hb9
                      replace hou := own_below hou hb9
                      replace hru := own_below hru hb9
                      have hbk9 : Bk ≤ w9.heap.size := Nat.le_trans hbk hb9.size
                      replace hW := below_call hW hb9
                      obtain ⟨_, _, _, _⟩ := zp.two
                      have zp9 : Blk ((w9.setCell ⟨k3, 0, none⟩ (.int .i64 nx)).setCell ⟨k3, 1, none⟩ (.int .i64 ny)) k3 (ptL (nx, ny)) 26 := zp.put2 (.int .i64 nx) (.int .i64 ny)
                      have zm9 := (zm.far (c := k3) (i := 0) (.int .i64 nx) hk03).far (c := k3) (i := 1) (.int .i64 ny) hk03
                      have hou9 := own_other (own_other hou ⟨k3, 0, none⟩ (.int .i64 nx) (fun j hj => by have := (hou.lt j hj).1; show j ≠ k3; omega)) ⟨k3, 1, none⟩ (.int .i64 ny) (fun j hj => by have := (hou.lt j hj).1; show j ≠ k3; omega)
                      have hru9 := own_other (own_other hru ⟨k3, 0, none⟩ (.int .i64 nx) (fun j hj => by have := (hru.lt j hj).1; show j ≠ k3; omega)) ⟨k3, 1, none⟩ (.int .i64 ny) (fun j hj => by have := (hru.lt j hj).1; show j ≠ k3; omega)
                      have hW9 := (hW.setCell (p := ⟨k3, 0, none⟩) hk3 (.int .i64 nx)).setCell (p := ⟨k3, 1, none⟩) hk3 (.int .i64 ny)
                      have hsz9 : ((w9.setCell ⟨k3, 0, none⟩ (.int .i64 nx)).setCell ⟨k3, 1, none⟩ (.int .i64 ny)).heap.size = w9.heap.size := by simp [World.setCell]
                      rw [← hnp.out] at zp9
                      clear cst p0 p1
                      go_wp2_with fail
                      have hadd : Value.int .i64 ((i : Int) + 1) = Value.int .i64 ((i + 1 : Nat) : Int) := by push_cast; rfl
                      exact ⟨⟨i + 1, D ++ pk, [], Bk, hadd, by omega, hN, hou9, hru9, by rw [hsz9]; exact hbk9, hlt, hB0k, hDl7, by simp, zp9, zm9, hW9⟩, hmeas⟩
                  | true =>
                    have m0 := zm.cell 0
                    have m1 := zm.cell 1
                    have m2 := zm.cell 2
                    have p0 := zq.cell 0
                    have p1 := zq.cell 1
                    simp only [List.getElem?_cons_zero, List.getElem?_cons_succ] at m0 m1 m2 p0 p1
                    have cps := rpos15_b m (.slice sp sn sk) bl (.slice lp ln lk) c (qx, qy) 0 b3 w8 hh (hr.below hW) (hl.below hW) h3
                    go_wp2_with fail
                    ((with_reducible refine cps.mono ?_); rintro e w10 ⟨rfl, hbp⟩)
                    replace zp := zp.below hbp
                    replace zm := zm.below hbp
                    replace zq := zq.below hbp
                    replace hou := own_below hou hbp
                    replace hru := own_below hru hbp
                    replace hbk : Bk ≤ w10.heap.size := Nat.le_trans hbk hbp.size
                    replace hW := below_call hW hbp
                    clear hbp cps m0 m1 m2 p0 p1
                    cases b3 with
                    | false =>
                      have hrl : (R ++ [x]).length ≤ 8 := by omega
                      have cpk := rpick_b (R ++ [x]) _ _ Bk w10 rfl hrl hru
                      go_wp2_with fail
                      ((with_reducible refine cpk.mono ?_); rintro e w6 ⟨z, rfl, hoz, hb6⟩)
                      replace zp := zp.below hb6
                      replace zm := zm.below hb6
                      replace hou := own_below hou hb6
                      replace hW := below_call hW hb6
                      have hbs6 : B0 ≤ w6.heap.size := Nat.le_trans hB0k (Nat.le_trans hbk hb6.size)
                      obtain ⟨pk, hpk⟩ : ∃ pk, Hid (pk = pickv (R ++ [x])) := ⟨_, hid rfl⟩
                      have hpk2 : pk.length ≤ 2 := by rw [hpk.out]; exact pickv_len _
                      rw [← hpk.out] at hoz
                      have hN := hid (show (D ++ pk, ([] : List PP)) = refG (crossA m bl c o) (crossG m bl c o) (bcells o (i + 1)) by rw [hstep.out]; unfold refStep; rw [hcA.out, if_pos rfl, hcG.out, Bool.and_false, if_neg Bool.false_ne_true, ← hpk.out])
                      clear hpk cpk hru hst
                      rcases own_two hoz with ⟨rfl, hp0⟩ | ⟨gz, cz, rfl⟩
                      · subst hp0
                        rw [List.append_nil] at hN
                        clear hoz
                        have p0 := zp.cell 0
                        have p1 := zp.cell 1
                        simp only [List.getElem?_cons_zero, List.getElem?_cons_succ] at p0 p1
                        go_wp2_with (at_builtin; refine wpList_append_own_none rfl _ _ 40 rfl B0 49 t4 4 Tryd.underlying40 hi4 _ _ _ rfl hou rfl ?_)
                        obtain ⟨Bk, hBk⟩ : ∃ q, q = w6.heap.size := ⟨_, rfl⟩
                        have hbk : Bk ≤ w6.heap.size := by omega
                        have hlt : ∀ j, (Value.slice puo D.length cuo).ownBlock = some j → j < Bk := fun j hj => by have := (hou.lt j hj).2; omega
                        have hru := World.ownsRow_nil w6 Bk 49 4
                        have hB0k : B0 ≤ Bk := by omega
                        have p0 := zp.cell 0
                        have p1 := zp.cell 1
                        simp only [List.getElem?_cons_zero, List.getElem?_cons_succ] at p0 p1
                        have cst := rstepq_b p.1 p.2 0 nx ny w6 hnx hny
                        go_wp2_with fail
                        ((with_reducible refine cst.mono ?_); rintro e w9 ⟨rfl, hb9⟩)
                        replace zp := zp.below hb9
                        replace zm := zm.below hb9
                        replace hou := own_below hou hb9
                        replace hru := own_below hru hb9
                        have hbk9 : Bk ≤ w9.heap.size := Nat.le_trans hbk hb9.size
                        replace hW := below_call hW hb9
                        obtain ⟨_, _, _, _⟩ := zp.two
                        have zp9 : Blk ((w9.setCell ⟨k3, 0, none⟩ (.int .i64 nx)).setCell ⟨k3, 1, none⟩ (.int .i64 ny)) k3 (ptL (nx, ny)) 26 := zp.put2 (.int .i64 nx) (.int .i64 ny)
                        have zm9 := (zm.far (c := k3) (i := 0) (.int .i64 nx) hk03).far (c := k3) (i := 1) (.int .i64 ny) hk03
                        have hou9 := own_other (own_other hou ⟨k3, 0, none⟩ (.int .i64 nx) (fun j hj => by have := (hou.lt j hj).1; show j ≠ k3; omega)) ⟨k3, 1, none⟩ (.int .i64 ny) (fun j hj => by have := (hou.lt j hj).1; show j ≠ k3; omega)
                        have hru9 := own_other (own_other hru ⟨k3, 0, none⟩ (.int .i64 nx) (fun j hj => by have := (hru.lt j hj).1; show j ≠ k3; omega)) ⟨k3, 1, none⟩ (.int .i64 ny) (fun j hj => by have := (hru.lt j hj).1; show j ≠ k3; omega)
                        have hW9 := (hW.setCell (p := ⟨k3, 0, none⟩) hk3 (.int .i64 nx)).setCell (p := ⟨k3, 1, none⟩) hk3 (.int .i64 ny)
                        have hsz9 : ((w9.setCell ⟨k3, 0, none⟩ (.int .i64 nx)).setCell ⟨k3, 1, none⟩ (.int .i64 ny)).heap.size = w9.heap.size := by simp [World.setCell]
                        rw [← hnp.out] at zp9
                        clear cst p0 p1
                        go_wp2_with fail
                        have hadd : Value.int .i64 ((i : Int) + 1) = Value.int .i64 ((i + 1 : Nat) : Int) := by push_cast; rfl
                        exact ⟨⟨i + 1, D, [], Bk, hadd, by omega, hN, hou9, hru9, by rw [hsz9]; exact hbk9, hlt, hB0k, by omega, by simp, zp9, zm9, hW9⟩, hmeas⟩
                      · have hnews : ∀ j u, (qcells pk)[j]? = some u → w6.cell? ((⟨gz, 0, none⟩ : Addr).add j) = some u := hoz.cells rfl
                        obtain ⟨kn, hkn2⟩ : ∃ kn, Hid (pk.length = kn) := ⟨_, hid rfl⟩
                        have hnl := qcells_len pk
                        obtain ⟨dn, hdn⟩ : ∃ dn, Hid (D.length = dn) := ⟨_, hid rfl⟩
                        rw [hkn2.out] at hnl hpk2 ⊢
                        rw [hdn.out] at hou hDl ⊢
                        clear hoz
                        go_wp2_with (at_builtin; refine wpList_append_own _ rfl _ _ 40 rfl B0 49 t4 (.agg #[.int .i64 0, .int .i64 0, .int .i64 0, .int .i64 0]) 4 32 Tryd.underlying40 hi4 hy0 hy1 hy2 rfl (by decide) _ _ _ rfl hou ⟨gz, 0, none⟩ kn cz (qcells pk) rfl hnl hnews (qcells_cell pk) (by unfold maxLen; omega) (by omega) hbs6 ?_)
                        intro uo w7 hou7 hg7 _
                        replace zp := blk_grown zp hg7 (fun r hr e => by subst e; have := (hou.lt _ hr).1; omega)
                        replace zm := blk_grown zm hg7 (fun r hr e => by subst e; have := (hou.lt _ hr).1; omega)
                        replace hW := hW.grown hg7 (Nat.le_trans hWB0 hbs6) (fun j hj => Nat.le_trans hWB0 (hou.lt j hj).1)
                        clear hou
                        have hou := own_to hou7 (m := (D ++ pk).length) (ys := qcells (D ++ pk)) (by rw [List.length_append, hdn.out, hkn2.out]) (qcells_app D pk).symm
                        obtain ⟨Bk, hBk⟩ : ∃ q, q = w7.heap.size := ⟨_, rfl⟩
                        have hbk : Bk ≤ w7.heap.size := by omega
                        have hlt : ∀ j, uo.ownBlock = some j → j < Bk := fun j hj => by have := (hou.lt j hj).2; omega
                        have hru := World.ownsRow_nil w7 Bk 49 4
                        have hB0k : B0 ≤ Bk := by have := hg7.size; omega
                        have hDl7 : (D ++ pk).length ≤ 2 * (i + 1) := by rw [List.length_append, hdn.out, hkn2.out]; omega
                        clear hou7 hg7 hnews
                        have p0 := zp.cell 0
                        have p1 := zp.cell 1
                        simp only [List.getElem?_cons_zero, List.getElem?_cons_succ] at p0 p1
                        have cst := rstepq_b p.1 p.2 0 nx ny w7 hnx hny
                        go_wp2_with fail
                        ((with_reducible refine cst.mono ?_); rintro e w9 ⟨rfl, hb9⟩)
                        replace zp := zp.below hb9
                        replace zm := zm.below hb9
                        replace hou := own_below hou hb9
                        replace hru := own_below hru hb9
                        have hbk9 : Bk ≤ w9.heap.size := Nat.le_trans hbk hb9.size
                        replace hW := below_call hW hb9
                        obtain ⟨_, _, _, _⟩ := zp.two
                        have zp9 : Blk ((w9.setCell ⟨k3, 0, none⟩ (.int .i64 nx)).setCell ⟨k3, 1, none⟩ (.int .i64 ny)) k3 (ptL (nx, ny)) 26 := zp.put2 (.int .i64 nx) (.int .i64 ny)
                        have zm9 := (zm.far (c := k3) (i := 0) (.int .i64 nx) hk03).far (c := k3) (i := 1) (.int .i64 ny) hk03
                        have hou9 := own_other (own_other hou ⟨k3, 0, none⟩ (.int .i64 nx) (fun j hj => by have := (hou.lt j hj).1; show j ≠ k3; omega)) ⟨k3, 1, none⟩ (.int .i64 ny) (fun j hj => by have := (hou.lt j hj).1; show j ≠ k3; omega)
                        have hru9 := own_other (own_other hru ⟨k3, 0, none⟩ (.int .i64 nx) (fun j hj => by have := (hru.lt j hj).1; show j ≠ k3; omega)) ⟨k3, 1, none⟩ (.int .i64 ny) (fun j hj => by have := (hru.lt j hj).1; show j ≠ k3; omega)
                        have hW9 := (hW.setCell (p := ⟨k3, 0, none⟩) hk3 (.int .i64 nx)).setCell (p := ⟨k3, 1, none⟩) hk3 (.int .i64 ny)
                        have hsz9 : ((w9.setCell ⟨k3, 0, none⟩ (.int .i64 nx)).setCell ⟨k3, 1, none⟩ (.int .i64 ny)).heap.size = w9.heap.size := by simp [World.setCell]
                        rw [← hnp.out] at zp9
                        clear cst p0 p1
                        go_wp2_with fail
                        have hadd : Value.int .i64 ((i : Int) + 1) = Value.int .i64 ((i + 1 : Nat) : Int) := by push_cast; rfl
                        exact ⟨⟨i + 1, D ++ pk, [], Bk, hadd, by omega, hN, hou9, hru9, by rw [hsz9]; exact hbk9, hlt, hB0k, hDl7, by simp, zp9, zm9, hW9⟩, hmeas⟩
                    | true =>
                      have hN := hid (show (D, R ++ [x]) = refG (crossA m bl c o) (crossG m bl c o) (bcells o (i + 1)) by rw [hstep.out]; unfold refStep; rw [hcA.out, if_pos rfl, hcG.out, Bool.and_self, if_pos rfl])
                      clear hst
                      have p0 := zp.cell 0
                      have p1 := zp.cell 1
                      simp only [List.getElem?_cons_zero, List.getElem?_cons_succ] at p0 p1
                      have cst := rstepq_b p.1 p.2 0 nx ny w10 hnx hny
                      go_wp2_with fail
                      ((with_reducible refine cst.mono ?_); rintro e w9 ⟨rfl, hb9⟩)
                      replace zp := zp.below hb9
                      replace zm := zm.below hb9
                      replace hou := own_below hou hb9
                      replace hru := own_below hru hb9
                      have hbk9 : Bk ≤ w9.heap.size := Nat.le_trans hbk hb9.size
                      replace hW := below_call hW hb9
                      obtain ⟨_, _, _, _⟩ := zp.two
                      have zp9 : Blk ((w9.setCell ⟨k3, 0, none⟩ (.int .i64 nx)).setCell ⟨k3, 1, none⟩ (.int .i64 ny)) k3 (ptL (nx, ny)) 26 := zp.put2 (.int .i64 nx) (.int .i64 ny)
                      have zm9 := (zm.far (c := k3) (i := 0) (.int .i64 nx) hk03).far (c := k3) (i := 1) (.int .i64 ny) hk03
                      have hou9 := own_other (own_other hou ⟨k3, 0, none⟩ (.int .i64 nx) (fun j hj => by have := (hou.lt j hj).1; show j ≠ k3; omega)) ⟨k3, 1, none⟩ (.int .i64 ny) (fun j hj => by have := (hou.lt j hj).1; show j ≠ k3; omega)
                      have hru9 := own_other (own_other hru ⟨k3, 0, none⟩ (.int .i64 nx) (fun j hj => by have := (hru.lt j hj).1; show j ≠ k3; omega)) ⟨k3, 1, none⟩ (.int .i64 ny) (fun j hj => by have := (hru.lt j hj).1; show j ≠ k3; omega)
                      have hW9 := (hW.setCell (p := ⟨k3, 0, none⟩) hk3 (.int .i64 nx)).setCell (p := ⟨k3, 1, none⟩) hk3 (.int .i64 ny)
                      have hsz9 : ((w9.setCell ⟨k3, 0, none⟩ (.int .i64 nx)).setCell ⟨k3, 1, none⟩ (.int .i64 ny)).heap.size = w9.heap.size := by simp [World.setCell]
                      rw [← hnp.out] at zp9
                      clear cst p0 p1
                      go_wp2_with fail
                      have hadd : Value.int .i64 ((i : Int) + 1) = Value.int .i64 ((i + 1 : Nat) : Int) := by push_cast; rfl
                      exact ⟨⟨i + 1, D, R ++ [x], Bk, hadd, by omega, hN, hou9, hru9, by rw [hsz9]; exact hbk9, hlt, hB0k, by omega, hR8, zp9, zm9, hW9⟩, hmeas⟩
              · obtain rfl : nn = i := by omega
                have z9 : decide ((nn : Int) < r.w) = false := decide_eq_false (by have := hnn.out; omega)
                have hcl := hev.out
                rw [← hst.out] at hcl
                have hrl : R.length ≤ 8 := by omega
                have cpk := rpick_b R _ _ Bk wr rfl hrl hru
                clear hst hev
                go_wp2_with fail
                ((with_reducible refine cpk.mono ?_); rintro e w6 ⟨z, rfl, hoz, hb6⟩)
                replace hou := own_below hou hb6
                replace hW := below_call hW hb6
                have hbs6 : B0 ≤ w6.heap.size := Nat.le_trans hB0k (Nat.le_trans hbk hb6.size)
                obtain ⟨pk, hpk⟩ : ∃ pk, Hid (pk = pickv R) := ⟨_, hid rfl⟩
                have hpk2 : pk.length ≤ 2 := by rw [hpk.out]; exact pickv_len _
                rw [← hpk.out] at hoz hcl
                clear cpk hru hpk
                rcases own_two hoz with ⟨rfl, hp0⟩ | ⟨gz, cz, rfl⟩
                · subst hp0
                  rw [List.append_nil] at hcl
                  go_wp2_with (at_builtin; refine wpList_append_own_none rfl _ _ 40 rfl B0 49 t4 4 Tryd.underlying40 hi4 _ _ _ rfl hou rfl ?_)
                  go_wp2_with fail
                  go_ret
                  exact ⟨_, rfl, by rw [hcl]; exact own_base hou hWB0, hW⟩
                · have hnews : ∀ j u, (qcells pk)[j]? = some u → w6.cell? ((⟨gz, 0, none⟩ : Addr).add j) = some u := hoz.cells rfl
                  obtain ⟨kn, hkn2⟩ : ∃ kn, Hid (pk.length = kn) := ⟨_, hid rfl⟩
                  have hnl := qcells_len pk
                  obtain ⟨dn, hdn⟩ : ∃ dn, Hid (D.length = dn) := ⟨_, hid rfl⟩
                  rw [hkn2.out] at hnl hpk2 ⊢
                  rw [hdn.out] at hou hDl ⊢
                  go_wp2_with (at_builtin; refine wpList_append_own _ rfl _ _ 40 rfl B0 49 t4 (.agg #[.int .i64 0, .int .i64 0, .int .i64 0, .int .i64 0]) 4 32 Tryd.underlying40 hi4 hy0 hy1 hy2 rfl (by decide) _ _ _ rfl hou ⟨gz, 0, none⟩ kn cz (qcells pk) rfl hnl hnews (qcells_cell pk) (by unfold maxLen; omega) (by omega) hbs6 ?_)
                  intro uo w7 hou7 hg7 _
                  replace hW := hW.grown hg7 (Nat.le_trans hWB0 hbs6) (fun j hj => Nat.le_trans hWB0 (hou.lt j hj).1)
                  clear hou
                  have hou := own_to hou7 (m := (D ++ pk).length) (ys := qcells (D ++ pk)) (by rw [List.length_append, hdn.out, hkn2.out]) (qcells_app D pk).symm
                  go_wp2_with fail
                  go_ret
                  exact ⟨_, rfl, by rw [hcl]; exact own_base hou hWB0, hW⟩
          · have z2 : (s.y == r.y + r.h) = false := beq_eq_false_iff_ne.2 c2
            have hn := fun w' => hnil w' (entr_none (by rw [ha, hb, show (bordv (arv m a) (arv m b)).2 = false by unfold bordv; rw [← er.out, ← es.out, if_neg (fun h => by omega), if_neg (fun h => c2 h.2)]]; rfl))
            by_cases c3 : s.y = r.y
            · have z3 : (s.y == r.y) = true := beq_iff_eq.2 c3
              have z4 : (s.x == r.x + r.w) = false := beq_eq_false_iff_ne.2 (by omega)
              replace c1 := hid c1
              replace c3 := hid c3
              go_wp2_with fail
              go_ret
              exact ⟨_, rfl, hn _, hW⟩
            · have z3 : (s.y == r.y) = false := beq_eq_false_iff_ne.2 c3
              replace c1 := hid c1
              go_wp2_with fail
              go_ret
              exact ⟨_, rfl, hn _, hW⟩
        · have z1 : (s.x == r.x) = false := beq_eq_false_iff_ne.2 c1
          by_cases c3 : s.y = r.y
          · have z3 : (s.y == r.y) = true := beq_iff_eq.2 c3
            by_cases c4 : s.x = r.x + r.w
            · have z4 : (s.x == r.x + r.w) = true := beq_iff_eq.2 c4
              have c3h := hid c3
              have c4h := hid c4
              clear c3 c4
              go_upto_region 12 with fail
              clear r0 r1 r2 r3 s0 s1
              obtain ⟨o, ho⟩ : ∃ o : B5, o = ⟨(r.x + r.w - 1, r.y), r.h, 0, 2⟩ := ⟨_, rfl⟩
              have oac : Hid (o.ac = 0) := hid (by rw [ho])
              have oal : Hid (o.al = 2) := hid (by rw [ho])
              have hbv : bordv (arv m a) (arv m b) = (o, true) := by unfold bordv; rw [← er.out, ← es.out, if_pos ⟨c3h.out, c4h.out⟩, c3h.out, c4h.out, ho]
              obtain ⟨nn, hnn⟩ : ∃ nn : Nat, Hid (r.h = nn) := ⟨(r.h).toNat, hid (by omega)⟩
              have hnn8 : nn ≤ 8 := by have := hnn.out; omega
              have hev : Hid (entrv m bl c a b = (refG (crossA m bl c o) (crossG m bl c o) (bcells o nn)).1 ++ pickv (refG (crossA m bl c o) (crossG m bl c o) (bcells o nn)).2) := hid (by
                unfold entrv
                rw [hbv, ha, hb, if_pos (show (true && true && (o, true).2) = true from rfl)]
                dsimp only
                rw [line_ref, if_pos hcv, show o.n.toNat = nn by rw [ho]; have := hnn.out; dsimp only; omega])
              have zp0 : Blk Y k3 (ptL (bpos o 0)) 26 := by
                show Blk _ k3 (ptL o.p) _
                rw [show o.p = (r.x + r.w - 1, r.y) by rw [ho]]
                exact zp
              obtain ⟨B0, hB0⟩ : ∃ q, Hid (q = Y.heap.size) := ⟨_, hid rfl⟩
              have hB0s : B0 ≤ Y.heap.size := by rw [hB0.out]; exact Nat.le_refl _
              have hWB0 : W.heap.size ≤ B0 := by rw [hB0.out]; exact hW.size
              have hk3B : k3 < B0 := by rw [hB0.out]; exact zp.lt
              have hk0B : k0 < B0 := by rw [hB0.out]; exact zm.lt
              clear hbv ho zr zs zp er es hnil hcv ha hb
              go_wp2_with fail
              go_loopw [19, 20, 21] (fun uo ur vi wr => ∃ (i : Nat) (D R : List PP) (Bk : Nat), vi = .int .i64 i ∧ i ≤ nn ∧ Hid ((D, R) = refG (crossA m bl c o) (crossG m bl c o) (bcells o i)) ∧ wr.ownsRow B0 49 4 uo D.length (qcells D) ∧ wr.ownsRow Bk 49 4 ur R.length (qcells R) ∧ Bk ≤ wr.heap.size ∧ (∀ j, uo.ownBlock = some j → j < Bk) ∧ B0 ≤ Bk ∧ D.length ≤ 2 * i ∧ R.length ≤ i ∧ Blk wr k3 (ptL (bpos o i)) 26 ∧ Blk wr k0 [.int .i64 m.w, .int .i64 m.h, .slice sp sn sk] 24 ∧ Below W.heap.size W wr) (fun _ _ vi _ => nn - (RowKit.intOf vi).toNat)
              case atStart => exact ⟨0, [], [], B0, rfl, by omega, hid rfl, World.ownsRow_nil _ B0 _ _, World.ownsRow_nil _ B0 _ _, hB0s, fun j hj => (by cases hj), Nat.le_refl _, by simp, by simp, zp0, zm, hW⟩
              case round =>
                clear zm hW zp0 hB0s
                obtain ⟨i, D, R, Bk, rfl, hi, hst, hou, hru, hbk, hlt, hB0k, hDl, hRl, zp, zm, hW⟩ := hrel
                obtain ⟨puo, cuo, rfl⟩ := own_slice hou
                obtain ⟨pur, cur', rfl⟩ := own_slice hru
                by_cases hin : i < nn
                · have z9 : decide ((i : Int) < r.h) = true := decide_eq_true (by have := hnn.out; omega)
                  have nadd : IntKind.i64.wrap ((i : Int) + 1) = ((i + 1 : Nat) : Int) := by rw [IntWalk.i64_in _ (by omega)]; simp
                  have hadd : Value.int .i64 ((i : Int) + 1) = Value.int .i64 ((i + 1 : Nat) : Int) := by push_cast; rfl
                  have hmeas : nn - (RowKit.intOf (Value.int .i64 ((i : Int) + 1))).toNat < nn - (RowKit.intOf (Value.int .i64 (i : Int))).toNat := by simp [RowKit.intOf]; omega
                  have hmeas2 : nn - (RowKit.intOf (Value.int .i64 ((i + 1 : Nat) : Int))).toNat < nn - (RowKit.intOf (Value.int .i64 (i : Int))).toNat := by simp [RowKit.intOf]; omega
                  obtain ⟨p, hp⟩ : ∃ p, Hid (p = bpos o i) := ⟨_, hid rfl⟩
                  rw [← hp.out] at zp
                  obtain ⟨nx, hnx⟩ : ∃ q, Hid (q = stx p.1 2) := ⟨_, hid rfl⟩
                  obtain ⟨ny, hny⟩ : ∃ q, Hid (q = sty p.2 2) := ⟨_, hid rfl⟩
                  obtain ⟨qx, hqx⟩ : ∃ q, Hid (q = stx p.1 0) := ⟨_, hid rfl⟩
                  obtain ⟨qy, hqy⟩ : ∃ q, Hid (q = sty p.2 0) := ⟨_, hid rfl⟩
                  have hnp : Hid (bpos o (i + 1) = (nx, ny)) := hid (by rw [hnx.out, hny.out, hp.out]; show (stx (bpos o i).1 o.al, sty (bpos o i).2 o.al) = _; rw [oal.out])
                  obtain ⟨x, hx⟩ : ∃ x : PP, Hid (x = (p, (qx, qy))) := ⟨_, hid rfl⟩
                  have hbx : bcell o i = x := by rw [hx.out, hqx.out, hqy.out, hp.out]; show (bpos o i, (stx (bpos o i).1 o.ac, sty (bpos o i).2 o.ac)) = _; rw [oac.out]
                  have hstep : refG (crossA m bl c o) (crossG m bl c o) (bcells o (i + 1)) = refStep (crossA m bl c o) (crossG m bl c o) (D, R) x := by rw [bcells_succ, refG_snoc, hbx, ← hst.out]
                  obtain ⟨b1, h1⟩ : ∃ b1, Hid (b1 = mayv m bl c p.1 p.2 0) := ⟨_, hid rfl⟩
                  obtain ⟨b2, h2⟩ : ∃ b2, Hid (b2 = mayv m bl c p.1 p.2 2) := ⟨_, hid rfl⟩
                  obtain ⟨b3, h3⟩ : ∃ b3, Hid (b3 = mayv m bl c qx qy 2) := ⟨_, hid rfl⟩
                  have hcA : crossA m bl c o x = b1 := by rw [hx.out, h1.out]; show mayv m bl c p.1 p.2 o.ac = _; rw [oac.out]
                  have hcG : crossG m bl c o x = (b2 && b3) := by rw [hx.out, h2.out, h3.out]; show (mayv m bl c p.1 p.2 o.al && mayv m bl c qx qy o.al) = _; rw [oal.out]
                  replace hstep := hid hstep
                  replace hcA := hid hcA
                  replace hcG := hid hcG
                  clear hbx hp
                  have p0 := zp.cell 0
                  have p1 := zp.cell 1
                  simp only [List.getElem?_cons_zero, List.getElem?_cons_succ] at p0 p1
                  have cst := rstepq_b p.1 p.2 0 qx qy wr hqx hqy
                  go_wp2_with fail
                  ((with_reducible refine cst.mono ?_); rintro e w1 ⟨rfl, hb1⟩)
                  have hb2 := hb1.alloc hb1.size (.cells (ptL (qx, qy)).toArray 26)
                  have zq := Blk.new w1 (ptL (qx, qy)) 26
                  go_upto_region 17 with fail
                  obtain ⟨w2, hY⟩ : ∃ Y, Y = w1.alloc (.cells #[Value.int .i64 qx, .int .i64 qy] 26) := ⟨_, rfl⟩
                  rw [← hY]
                  rw [show w1.alloc (.cells (ptL (qx, qy)).toArray 26) = w2 from hY.symm] at hb2 zq
                  replace zp := zp.below hb2
                  replace zm := zm.below hb2
                  replace hou := own_below hou hb2
                  replace hru := own_below hru hb2
                  replace hbk : Bk ≤ w2.heap.size := Nat.le_trans hbk hb2.size
                  replace hW := below_call hW hb2
                  obtain ⟨kq, ekq⟩ : ∃ q, Hid (q = w1.heap.size) := ⟨_, hid rfl⟩
                  rw [← ekq.out] at zq ⊢
                  clear hY hb2 hb1 cst p0 p1
                  have m0 := zm.cell 0
                  have m1 := zm.cell 1
                  have m2 := zm.cell 2
                  have p0 := zp.cell 0
                  have p1 := zp.cell 1
                  simp only [List.getElem?_cons_zero, List.getElem?_cons_succ] at m0 m1 m2 p0 p1
                  have cps := rpos15_b m (.slice sp sn sk) bl (.slice lp ln lk) c p 0 b1 w2 hh (hr.below hW) (hl.below hW) h1
                  go_wp2_with fail
                  ((with_reducible refine cps.mono ?_); rintro e w3 ⟨rfl, hbp⟩)
                  replace zp := zp.below hbp
                  replace zm := zm.below hbp
                  replace zq := zq.below hbp
                  replace hou := own_below hou hbp
                  replace hru := own_below hru hbp
                  replace hbk : Bk ≤ w3.heap.size := Nat.le_trans hbk hbp.size
                  replace hW := below_call hW hbp
                  clear hbp cps m0 m1 m2 p0 p1
                  cases b1 with
                  | false =>
                    clear h2 h3 hcG
                    have m0 := zm.cell 0
                    have m1 := zm.cell 1
                    have m2 := zm.cell 2
                    have p0 := zp.cell 0
                    have p1 := zp.cell 1
                    simp only [List.getElem?_cons_zero, List.getElem?_cons_succ] at m0 m1 m2 p0 p1
                    have cps := rpos15_b m (.slice sp sn sk) bl (.slice lp ln lk) c p 0 false w3 hh (hr.below hW) (hl.below hW) h1
                    go_wp2_with fail
                    ((with_reducible refine cps.mono ?_); rintro e w4 ⟨rfl, hbp⟩)
                    replace zp := zp.below hbp
                    replace zm := zm.below hbp
                    replace zq := zq.below hbp
                    replace hou := own_below hou hbp
                    replace hru := own_below hru hbp
                    replace hbk : Bk ≤ w4.heap.size := Nat.le_trans hbk hbp.size
                    replace hW := below_call hW hbp
                    clear hbp cps m0 m1 m2 p0 p1
                    have hrl : (R).length ≤ 8 := by omega
                    have cpk := rpick_b (R) _ _ Bk w4 rfl hrl hru
                    go_wp2_with fail
                    ((with_reducible refine cpk.mono ?_); rintro e w6 ⟨z, rfl, hoz, hb6⟩)
                    replace zp := zp.below hb6
                    replace zm := zm.below hb6
                    replace hou := own_below hou hb6
                    replace hW := below_call hW hb6
                    have hbs6 : B0 ≤ w6.heap.size := Nat.le_trans hB0k (Nat.le_trans hbk hb6.size)
                    obtain ⟨pk, hpk⟩ : ∃ pk, Hid (pk = pickv (R)) := ⟨_, hid rfl⟩
                    have hpk2 : pk.length ≤ 2 := by rw [hpk.out]; exact pickv_len _
                    rw [← hpk.out] at hoz
                    have hN := hid (show (D ++ pk, ([] : List PP)) = refG (crossA m bl c o) (crossG m bl c o) (bcells o (i + 1)) by rw [hstep.out]; unfold refStep; rw [hcA.out, if_neg Bool.false_ne_true, ← hpk.out])
                    clear hpk cpk hru hst
                    rcases own_two hoz with ⟨rfl, hp0⟩ | ⟨gz, cz, rfl⟩
                    · subst hp0
                      rw [List.append_nil] at hN
                      clear hoz
                      have p0 := zp.cell 0
                      have p1 := zp.cell 1
                      simp only [List.getElem?_cons_zero, List.getElem?_cons_succ] at p0 p1
                      go_wp2_with (at_builtin; refine wpList_append_own_none rfl _ _ 40 rfl B0 49 t4 4 Tryd.underlying40 hi4 _ _ _ rfl hou rfl ?_)
                      obtain ⟨Bk, hBk⟩ : ∃ q, q = w6.heap.size := ⟨_, rfl⟩
                      have hbk : Bk ≤ w6.heap.size := by omega
                      have hlt : ∀ j, (Value.slice puo D.length cuo).ownBlock = some j → j < Bk := fun j hj => by have := (hou.lt j hj).2; omega
                      have hru := World.ownsRow_nil w6 Bk 49 4
                      have hB0k : B0 ≤ Bk := by omega
                      have p0 := zp.cell 0
                      have p1 := zp.cell 1
                      simp only [List.getElem?_cons_zero, List.getElem?_cons_succ] at p0 p1
                      have cst := rstepq_b p.1 p.2 2 nx ny w6 hnx hny
                      go_wp2_with fail
                      ((with_reducible refine cst.mono ?_); rintro e w9 ⟨rfl, hb9⟩)
                      replace zp := zp.below hb9
                      replace zm := zm.below hb9
                      replace hou := own_below hou hb9
                      replace hru := own_below hru hb9
                      have hbk9 : Bk ≤ w9.heap.size := Nat.le_trans hbk hb9.size
                      replace hW := below_call hW hb9
                      obtain ⟨_, _, _, _⟩ := zp.two
                      have zp9 : Blk ((w9.setCell ⟨k3, 0, none⟩ (.int .i64 nx)).setCell ⟨k3, 1, none⟩ (.int .i64 ny)) k3 (ptL (nx, ny)) 26 := zp.put2 (.int .i64 nx) (.int .i64 ny)
                      have zm9 := (zm.far (c := k3) (i := 0) (.int .i64 nx) hk03).far (c := k3) (i := 1) (.int .i64 ny) hk03
                      have hou9 := own_other (own_other hou ⟨k3, 0, none⟩ (.int .i64 nx) (fun j hj => by have := (hou.lt j hj).1; show j ≠ k3; omega)) ⟨k3, 1, none⟩ (.int .i64 ny) (fun j hj => by have := (hou.lt j hj).1; show j ≠ k3; omega)
                      have hru9 := own_other (own_other hru ⟨k3, 0, none⟩ (.int .i64 nx) (fun j hj => by have := (hru.lt j hj).1; show j ≠ k3; omega)) ⟨k3, 1, none⟩ (.int .i64 ny) (fun j hj => by have := (hru.lt j hj).1; show j ≠ k3; omega)
                      have hW9 := (hW.setCell (p := ⟨k3, 0, none⟩) hk3 (.int .i64 nx)).setCell (p := ⟨k3, 1, none⟩) hk3 (.int .i64 ny)
                      have hsz9 : ((w9.setCell ⟨k3, 0, none⟩ (.int .i64 nx)).setCell ⟨k3, 1, none⟩ (.int .i64 ny)).heap.size = w9.heap.size := by simp [World.setCell]
                      rw [← hnp.out] at zp9
                      clear cst p0 p1
                      go_wp2_with fail
                      have hadd : Value.int .i64 ((i : Int) + 1) = Value.int .i64 ((i + 1 : Nat) : Int) := by push_cast; rfl
                      exact ⟨⟨i + 1, D, [], Bk, hadd, by omega, hN, hou9, hru9, by rw [hsz9]; exact hbk9, hlt, hB0k, by omega, by simp, zp9, zm9, hW9⟩, hmeas⟩
                    · have hnews : ∀ j u, (qcells pk)[j]? = some u → w6.cell? ((⟨gz, 0, none⟩ : Addr).add j) = some u := hoz.cells rfl
                      obtain ⟨kn, hkn2⟩ : ∃ kn, Hid (pk.length = kn) := ⟨_, hid rfl⟩
                      have hnl := qcells_len pk
                      obtain ⟨dn, hdn⟩ : ∃ dn, Hid (D.length = dn) := ⟨_, hid rfl⟩
                      rw [hkn2.out] at hnl hpk2 ⊢
                      rw [hdn.out] at hou hDl ⊢
                      clear hoz
                      go_wp2_with (at_builtin; refine wpList_append_own _ rfl _ _ 40 rfl B0 49 t4 (.agg #[.int .i64 0, .int .i64 0, .int .i64 0, .int .i64 0]) 4 32 Tryd.underlying40 hi4 hy0 hy1 hy2 rfl (by decide) _ _ _ rfl hou ⟨gz, 0, none⟩ kn cz (qcells pk) rfl hnl hnews (qcells_cell pk) (by unfold maxLen; omega) (by omega) hbs6 ?_)
                      intro uo w7 hou7 hg7 _
                      replace zp := blk_grown zp hg7 (fun r hr e => by subst e; have := (hou.lt _ hr).1; omega)
                      replace zm := blk_grown zm hg7 (fun r hr e => by subst e; have := (hou.lt _ hr).1; omega)
                      replace hW := hW.grown hg7 (Nat.le_trans hWB0 hbs6) (fun j hj => Nat.le_trans hWB0 (hou.lt j hj).1)
                      clear hou
                      have hou := own_to hou7 (m := (D ++ pk).length) (ys := qcells (D ++ pk)) (by rw [List.length_append, hdn.out, hkn2.out]) (qcells_app D pk).symm
                      obtain ⟨Bk, hBk⟩ : ∃ q, q = w7.heap.size := ⟨_, rfl⟩
                      have hbk : Bk ≤ w7.heap.size := by omega
                      have hlt : ∀ j, uo.ownBlock = some j → j < Bk := fun j hj => by have := (hou.lt j hj).2; omega
                      have hru := World.ownsRow_nil w7 Bk 49 4
                      have hB0k : B0 ≤ Bk := by have := hg7.size; omega
                      have hDl7 : (D ++ pk).length ≤ 2 * (i + 1) := by rw [List.length_append, hdn.out, hkn2.out]; omega
                      clear hou7 hg7 hnews
                      have p0 := zp.cell 0
                      have p1 := zp.cell 1
                      simp only [List.getElem?_cons_zero, List.getElem?_cons_succ] at p0 p1
                      have cst := rstepq_b p.1 p.2 2 nx ny w7 hnx hny
                      go_wp2_with fail
                      ((with_reducible refine cst.mono ?_); rintro e w9 ⟨rfl, hb9⟩)
                      replace zp := zp.below hb9
                      replace zm := zm.below hb9
                      replace hou := own_below hou hb9
                      replace hru := own_below hru hb9
                      have hbk9 : Bk ≤ w9.heap.size := Nat.le_trans hbk hb9.size
                      replace hW := below_call hW hb9
                      obtain ⟨_, _, _, _⟩ := zp.two
                      have zp9 : Blk ((w9.setCell ⟨k3, 0, none⟩ (.int .i64 nx)).setCell ⟨k3, 1, none⟩ (.int .i64 ny)) k3 (ptL (nx, ny)) 26 := zp.put2 (.int .i64 nx) (.int .i64 ny)
                      have zm9 := (zm.far (c := k3) (i := 0) (.int .i64 nx) hk03).far (c := k3) (i := 1) (.int .i64 ny) hk03
                      have hou9 := own_other (own_other hou ⟨k3, 0, none⟩ (.int .i64 nx) (fun j hj => by have := (hou.lt j hj).1; show j ≠ k3; omega)) ⟨k3, 1, none⟩ (.int .i64 ny) (fun j hj => by have := (hou.lt j hj).1; show j ≠ k3; omega)
                      have hru9 := own_other (own_other hru ⟨k3, 0, none⟩ (.int .i64 nx) (fun j hj => by have := (hru.lt j hj).1; show j ≠ k3; omega)) ⟨k3, 1, none⟩ (.int .i64 ny) (fun j hj => by have := (hru.lt j hj).1; show j ≠ k3; omega)
                      have hW9 := (hW.setCell (p := ⟨k3, 0, none⟩) hk3 (.int .i64 nx)).setCell (p := ⟨k3, 1, none⟩) hk3 (.int .i64 ny)
                      have hsz9 : ((w9.setCell ⟨k3, 0, none⟩ (.int .i64 nx)).setCell ⟨k3, 1, none⟩ (.int .i64 ny)).heap.size = w9.heap.size := by simp [World.setCell]
                      rw [← hnp.out] at zp9
                      clear cst p0 p1
                      go_wp2_with fail
                      have hadd : Value.int .i64 ((i : Int) + 1) = Value.int .i64 ((i + 1 : Nat) : Int) := by push_cast; rfl
                      exact ⟨⟨i + 1, D ++ pk, [], Bk, hadd, by omega, hN, hou9, hru9, by rw [hsz9]; exact hbk9, hlt, hB0k, hDl7, by simp, zp9, zm9, hW9⟩, hmeas⟩
                  | true =>
                    -- the run is made longer
                    have p0 := zp.cell 0
                    have p1 := zp.cell 1
                    have q0 := zq.cell 0
                    have q1 := zq.cell 1
                    simp only [List.getElem?_cons_zero, List.getElem?_cons_succ] at p0 p1 q0 q1
                    obtain ⟨rn, hrn⟩ : ∃ rn, Hid (R.length = rn) := ⟨_, hid rfl⟩
                    rw [hrn.out] at hru hRl ⊢
                    go_wp2_with (at_builtin; refine wpList_append_own _ rfl _ _ 40 rfl Bk 49 t4 (.agg #[.int .i64 0, .int .i64 0, .int .i64 0, .int .i64 0]) 4 32 Tryd.underlying40 hi4 hy0 hy1 hy2 rfl (by decide) _ _ _ rfl (hru.alloc _) ⟨w3.heap.size, 0, none⟩ 1 1 [.int .i64 p.1, .int .i64 p.2, .int .i64 qx, .int .i64 qy] rfl rfl cells_new (ints_four _ _ _ _) (by unfold maxLen; omega) (by omega) (by simp; omega) ?_)
                    intro ur w5 hru5 hg5 _
                    have hb4 := (Below.refl w3.heap.size w3).alloc (Nat.le_refl _) (.cells #[Value.int .i64 p.1, .int .i64 p.2, .int .i64 qx, .int .i64 qy] 49)
                    have hown3 := hru
                    replace zp := blk_grown (zp.below hb4) hg5 (fun r hr e => by subst e; have := (hown3.lt _ hr).1; omega)
                    replace zm := blk_grown (zm.below hb4) hg5 (fun r hr e => by subst e; have := (hown3.lt _ hr).1; omega)
                    replace zq := blk_grown (zq.below hb4) hg5 (fun r hr e => own_no_cell hown3 (zq.below hb4) hb4 (by decide) (by rw [hr, e]))
                    replace hou := own_kept2 (own_below hou hb4) hg5 (fun j hj e => by have h7 := (hown3.lt j e).1; have := hlt j hj; omega)
                    have hs5 : w3.heap.size ≤ w5.heap.size := Nat.le_trans hb4.size hg5.size
                    replace hW := (hW.trans (hb4.mono hW.size)).grown hg5 (Nat.le_trans hW.size hb4.size) (fun j hj => by have := (hown3.lt j hj).1; omega)
                    replace hbk : Bk ≤ w5.heap.size := Nat.le_trans hbk hs5
                    have hR1e : qcells R ++ [.int .i64 p.1, .int .i64 p.2, .int .i64 qx, .int .i64 qy] = qcells (R ++ [x]) := by rw [qcells_app, hx.out]; rfl
                    have hru := own_to hru5 (m := (R ++ [x]).length) (ys := qcells (R ++ [x])) (by rw [List.length_append, hrn.out]; rfl) hR1e
                    have hR8 : (R ++ [x]).length ≤ i + 1 := by rw [List.length_append, hrn.out, List.length_singleton]; omega
                    clear hru5 hg5 hb4 hR1e hs5 hown3 p0 p1 q0 q1
                    have m0 := zm.cell 0
                    have m1 := zm.cell 1
                    have m2 := zm.cell 2
                    have p0 := zp.cell 0
                    have p1 := zp.cell 1
                    simp only [List.getElem?_cons_zero, List.getElem?_cons_succ] at m0 m1 m2 p0 p1
                    have cps := rpos15_b m (.slice sp sn sk) bl (.slice lp ln lk) c p 0 true w5 hh (hr.below hW) (hl.below hW) h1
                    go_wp2_with fail
                    ((with_reducible refine cps.mono ?_); rintro e w4 ⟨rfl, hbp⟩)
                    replace zp := zp.below hbp
                    replace zm := zm.below hbp
                    replace zq := zq.below hbp
                    replace hou := own_below hou hbp
                    replace hru := own_below hru hbp
                    replace hbk : Bk ≤ w4.heap.size := Nat.le_trans hbk hbp.size
                    replace hW := below_call hW hbp
                    clear hbp cps m0 m1 m2 p0 p1
                    have m0 := zm.cell 0
                    have m1 := zm.cell 1
                    have m2 := zm.cell 2
                    have p0 := zp.cell 0
                    have p1 := zp.cell 1
                    simp only [List.getElem?_cons_zero, List.getElem?_cons_succ] at m0 m1 m2 p0 p1
                    have cps := rpos15_b m (.slice sp sn sk) bl (.slice lp ln lk) c p 2 b2 w4 hh (hr.below hW) (hl.below hW) h2
                    go_wp2_with fail
                    ((with_reducible refine cps.mono ?_); rintro e w8 ⟨rfl, hbp⟩)
                    replace zp := zp.below hbp
                    replace zm := zm.below hbp
                    replace zq := zq.below hbp
                    replace hou := own_below hou hbp
                    replace hru := own_below hru hbp
                    replace hbk : Bk ≤ w8.heap.size := Nat.le_trans hbk hbp.size
                    replace hW := below_call hW hbp
                    clear hbp cps m0 m1 m2 p0 p1
                    cases b2 with
                    | false =>
                      clear h3
                      have hrl : (R ++ [x]).length ≤ 8 := by omega
                      have cpk := rpick_b (R ++ [x]) _ _ Bk w8 rfl hrl hru
                      go_wp2_with fail
                      ((with_reducible refine cpk.mono ?_); rintro e w6 ⟨z, rfl, hoz, hb6⟩)
                      replace zp := zp.below hb6
                      replace zm := zm.below hb6
                      replace hou := own_below hou hb6
                      replace hW := below_call hW hb6
                      have hbs6 : B0 ≤ w6.heap.size := Nat.le_trans hB0k (Nat.le_trans hbk hb6.size)
                      obtain ⟨pk, hpk⟩ : ∃ pk, Hid (pk = pickv (R ++ [x])) := ⟨_, hid rfl⟩
                      have hpk2 : pk.length ≤ 2 := by rw [hpk.out]; exact pickv_len _
                      rw [← hpk.out] at hoz
                      have hN := hid (show (D ++ pk, ([] : List PP)) = refG (crossA m bl c o) (crossG m bl c o) (bcells o (i + 1)) by rw [hstep.out]; unfold refStep; rw [hcA.out, if_pos rfl, hcG.out, Bool.false_and, if_neg Bool.false_ne_true, ← hpk.out])
                      clear hpk cpk hru hst
                      rcases own_two hoz with ⟨rfl, hp0⟩ | ⟨gz, cz, rfl⟩
                      · subst hp0
                        rw [List.append_nil] at hN
                        clear hoz
                        have p0 := zp.cell 0
                        have p1 := zp.cell 1
                        simp only [List.getElem?_cons_zero, List.getElem?_cons_succ] at p0 p1
                        go_wp2_with (at_builtin; refine wpList_append_own_none rfl _ _ 40 rfl B0 49 t4 4 Tryd.underlying40 hi4 _ _ _ rfl hou rfl ?_)
                        obtain ⟨Bk, hBk⟩ : ∃ q, q = w6.heap.size := ⟨_, rfl⟩
                        have hbk : Bk ≤ w6.heap.size := by omega
                        have hlt : ∀ j, (Value.slice puo D.length cuo).ownBlock = some j → j < Bk := fun j hj => by have := (hou.lt j hj).2; omega
                        have hru := World.ownsRow_nil w6 Bk 49 4
                        have hB0k : B0 ≤ Bk := by omega
                        have p0 := zp.cell 0
                        have p1 := zp.cell 1
                        simp only [List.getElem?_cons_zero, List.getElem?_cons_succ] at p0 p1
                        have cst := rstepq_b p.1 p.2 2 nx ny w6 hnx hny
                        go_wp2_with fail
                        ((with_reducible refine cst.mono ?_); rintro e w9 ⟨rfl, hb9⟩)
                        replace zp := zp.below hb9
                        replace zm := zm.below hb9
                        replace hou := own_below hou hb9
                        replace hru := own_below hru hb9
                        have hbk9 : Bk ≤ w9.heap.size := Nat.le_trans hbk hb9.size
                        replace hW := below_call hW hb9
                        obtain ⟨_, _, _, _⟩ := zp.two
                        have zp9 : Blk ((w9.setCell ⟨k3, 0, none⟩ (.int .i64 nx)).setCell ⟨k3, 1, none⟩ (.int .i64 ny)) k3 (ptL (nx, ny)) 26 := zp.put2 (.int .i64 nx) (.int .i64 ny)
                        have zm9 := (zm.far (c := k3) (i := 0) (.int .i64 nx) hk03).far (c := k3) (i := 1) (.int .i64 ny) hk03
                        have hou9 := own_other (own_other hou ⟨k3, 0, none⟩ (.int .i64 nx) (fun j hj => by have := (hou.lt j hj).1; show j ≠ k3; omega)) ⟨k3, 1, none⟩ (.int .i64 ny) (fun j hj => by have := (hou.lt j hj).1; show j ≠ k3; omega)
                        have hru9 := own_other (own_other hru ⟨k3, 0, none⟩ (.int .i64 nx) (fun j hj => by have := (hru.lt j hj).1; show j ≠ k3; omega)) ⟨k3, 1, none⟩ (.int .i64 ny) (fun j hj => by have := (hru.lt j hj).1; show j ≠ k3; omega)
                        have hW9 := (hW.setCell (p := ⟨k3, 0, none⟩) hk3 (.int .i64 nx)).setCell (p := ⟨k3, 1, none⟩) hk3 (.int .i64 ny)
                        have hsz9 : ((w9.setCell ⟨k3, 0, none⟩ (.int .i64 nx)).setCell ⟨k3, 1, none⟩ (.int .i64 ny)).heap.size = w9.heap.size := by simp [World.setCell]
                        rw [← hnp.out] at zp9
                        clear cst p0 p1
                        go_wp2_with fail
                        have hadd : Value.int .i64 ((i : Int) + 1) = Value.int .i64 ((i + 1 : Nat) : Int) := by push_cast; rfl
                        exact ⟨⟨i + 1, D, [], Bk, hadd, by omega, hN, hou9, hru9, by rw [hsz9]; exact hbk9, hlt, hB0k, by omega, by simp, zp9, zm9, hW9⟩, hmeas⟩
                      · have hnews : ∀ j u, (qcells pk)[j]? = some u → w6.cell? ((⟨gz, 0, none⟩ : Addr).add j) = some u := hoz.cells rfl
                        obtain ⟨kn, hkn2⟩ : ∃ kn, Hid (pk.length = kn) := ⟨_, hid rfl⟩
                        have hnl := qcells_len pk
                        obtain ⟨dn, hdn⟩ : ∃ dn, Hid (D.length = dn) := ⟨_, hid rfl⟩
                        rw [hkn2.out] at hnl hpk2 ⊢
                        rw [hdn.out] at hou hDl ⊢
                        clear hoz
                        go_wp2_with (at_builtin; refine wpList_append_own _ rfl _ _ 40 rfl B0 49 t4 (.agg #[.int .i64 0, .int .i64 0, .int .i64 0, .int .i64 0]) 4 32 Tryd.underlying40 hi4 hy0 hy1 hy2 rfl (by decide) _ _ _ rfl hou ⟨gz, 0, none⟩ kn cz (qcells pk) rfl hnl hnews (qcells_cell pk) (by unfold maxLen; omega) (by omega) hbs6 ?_)
                        intro uo w7 hou7 hg7 _
                        replace zp := blk_grown zp hg7 (fun r hr e => by subst e; have := (hou.lt _ hr).1; omega)
                        replace zm := blk_grown zm hg7 (fun r hr e => by subst e; have := (hou.lt _ hr).1; omega)
                        replace hW := hW.grown hg7 (Nat.le_trans hWB0 hbs6) (fun j hj => Nat.le_trans hWB0 (hou.lt j hj).1)
                        clear hou
                        have hou := own_to hou7 (m := (D ++ pk).length) (ys := qcells (D ++ pk)) (by rw [List.length_append, hdn.out, hkn2.out]) (qcells_app D pk).symm
                        obtain ⟨Bk, hBk⟩ : ∃ q, q = w7.heap.size := ⟨_, rfl⟩
                        have hbk : Bk ≤ w7.heap.size := by omega
                        have hlt : ∀ j, uo.ownBlock = some j → j < Bk := fun j hj => by have := (hou.lt j hj).2; omega
                        have hru := World.ownsRow_nil w7 Bk 49 4
                        have hB0k : B0 ≤ Bk := by have := hg7.size; omega
                        have hDl7 : (D ++ pk).length ≤ 2 * (i + 1) := by rw [List.length_append, hdn.out, hkn2.out]; omega
                        clear hou7 hg7 hnews
                        have p0 := zp.cell 0
                        have p1 := zp.cell 1
                        simp only [List.getElem?_cons_zero, List.getElem?_cons_succ] at p0 p1
                        have cst := rstepq_b p.1 p.2 2 nx ny w7 hnx hny
                        go_wp2_with fail
                        ((with_reducible refine cst.mono ?_); rintro e w9 ⟨rfl, hb9⟩)
                        replace zp := zp.below hb9
                        replace zm := zm.below hb9
                        replace hou := own_below hou hb9
                        replace hru := own_below hru hb9
                        have hbk9 : Bk ≤ w9.heap.size := Nat.le_trans hbk hb9.size
                        replace hW := below_call hW hb9
                        obtain ⟨_, _, _, _⟩ := zp.two
                        have zp9 : Blk ((w9.setCell ⟨k3, 0, none⟩ (.int .i64 nx)).setCell ⟨k3, 1, none⟩ (.int .i64 ny)) k3 (ptL (nx, ny)) 26 := zp.put2 (.int .i64 nx) (.int .i64 ny)
                        have zm9 := (zm.far (c := k3) (i := 0) (.int .i64 nx) hk03).far (c := k3) (i := 1) (.int .i64 ny) hk03
                        have hou9 := own_other (own_other hou ⟨k3, 0, none⟩ (.int .i64 nx) (fun j hj => by have := (hou.lt j hj).1; show j ≠ k3; omega)) ⟨k3, 1, none⟩ (.int .i64 ny) (fun j hj => by have := (hou.lt j hj).1; show j ≠ k3; omega)
                        have hru9 := own_other (own_other hru ⟨k3, 0, none⟩ (.int .i64 nx) (fun j hj => by have := (hru.lt j hj).1; show j ≠ k3; omega)) ⟨k3, 1, none⟩ (.int .i64 ny) (fun j hj => by have := (hru.lt j hj).1; show j ≠ k3; omega)
                        have hW9 := (hW.setCell (p := ⟨k3, 0, none⟩) hk3 (.int .i64 nx)).setCell (p := ⟨k3, 1, none⟩) hk3 (.int .i64 ny)
                        have hsz9 : ((w9.setCell ⟨k3, 0, none⟩ (.int .i64 nx)).setCell ⟨k3, 1, none⟩ (.int .i64 ny)).heap.size = w9.heap.size := by simp [World.setCell]
                        rw [← hnp.out] at zp9
                        clear cst p0 p1
                        go_wp2_with fail
                        have hadd : Value.int .i64 ((i : Int) + 1) = Value.int .i64 ((i + 1 : Nat) : Int) := by push_cast; rfl
                        exact ⟨⟨i + 1, D ++ pk, [], Bk, hadd, by omega, hN, hou9, hru9, by rw [hsz9]; exact hbk9, hlt, hB0k, hDl7, by simp, zp9, zm9, hW9⟩, hmeas⟩
                    | true =>
                      have m0 := zm.cell 0
                      have m1 := zm.cell 1
                      have m2 := zm.cell 2
                      have p0 := zq.cell 0
                      have p1 := zq.cell 1
                      simp only [List.getElem?_cons_zero, List.getElem?_cons_succ] at m0 m1 m2 p0 p1
                      have cps := rpos15_b m (.slice sp sn sk) bl (.slice lp ln lk) c (qx, qy) 2 b3 w8 hh (hr.below hW) (hl.below hW) h3
                      go_wp2_with fail
                      ((with_reducible refine cps.mono ?_); rintro e w10 ⟨rfl, hbp⟩)
                      replace zp := zp.below hbp
                      replace zm := zm.below hbp
                      replace zq := zq.below hbp
                      replace hou := own_below hou hbp
                      replace hru := own_below hru hbp
                      replace hbk : Bk ≤ w10.heap.size := Nat.le_trans hbk hbp.size
                      replace hW := below_call hW hbp
                      clear hbp cps m0 m1 m2 p0 p1
                      cases b3 with
                      | false =>
                        have hrl : (R ++ [x]).length ≤ 8 := by omega
                        have cpk := rpick_b (R ++ [x]) _ _ Bk w10 rfl hrl hru
                        go_wp2_with fail
                        ((with_reducible refine cpk.mono ?_); rintro e w6 ⟨z, rfl, hoz, hb6⟩)
                        replace zp := zp.below hb6
                        replace zm := zm.below hb6
                        replace hou := own_below hou hb6
                        replace hW := below_call hW hb6
                        have hbs6 : B0 ≤ w6.heap.size := Nat.le_trans hB0k (Nat.le_trans hbk hb6.size)
                        obtain ⟨pk, hpk⟩ : ∃ pk, Hid (pk = pickv (R ++ [x])) := ⟨_, hid rfl⟩
                        have hpk2 : pk.length ≤ 2 := by rw [hpk.out]; exact pickv_len _
                        rw [← hpk.out] at hoz
                        have hN := hid (show (D ++ pk, ([] : List PP)) = refG (crossA m bl c o) (crossG m bl c o) (bcells o (i + 1)) by rw [hstep.out]; unfold refStep; rw [hcA.out, if_pos rfl, hcG.out, Bool.and_false, if_neg Bool.false_ne_true, ← hpk.out])
                        clear hpk cpk hru hst
                        rcases own_two hoz with ⟨rfl, hp0⟩ | ⟨gz, cz, rfl⟩
                        · subst hp0
                          rw [List.append_nil] at hN
                          clear hoz
                          have p0 := zp.cell 0
                          have p1 := zp.cell 1
                          simp only [List.getElem?_cons_zero, List.getElem?_cons_succ] at p0 p1
                          go_wp2_with (at_builtin; refine wpList_append_own_none rfl _ _ 40 rfl B0 49 t4 4 Tryd.underlying40 hi4 _ _ _ rfl hou rfl ?_)
                          obtain ⟨Bk, hBk⟩ : ∃ q, q = w6.heap.size := ⟨_, rfl⟩
                          have hbk : Bk ≤ w6.heap.size := by omega
                          have hlt : ∀ j, (Value.slice puo D.length cuo).ownBlock = some j → j < Bk := fun j hj => by have := (hou.lt j hj).2; omega
                          have hru := World.ownsRow_nil w6 Bk 49 4
                          have hB0k : B0 ≤ Bk := by omega
                          have p0 := zp.cell 0
                          have p1 := zp.cell 1
                          simp only [List.getElem?_cons_zero, List.getElem?_cons_succ] at p0 p1
                          have cst := rstepq_b p.1 p.2 2 nx ny w6 hnx hny
                          go_wp2_with fail
                          ((with_reducible refine cst.mono ?_); rintro e w9 ⟨rfl, hb9⟩)
                          replace zp := zp.below hb9
                          replace zm := zm.below hb9
                          replace hou := own_below hou hb9
                          replace hru := own_below hru hb9
                          have hbk9 : Bk ≤ w9.heap.size := Nat.le_trans hbk hb9.size
                          replace hW := below_call hW hb9
                          obtain ⟨_, _, _, _⟩ := zp.two
                          have zp9 : Blk ((w9.setCell ⟨k3, 0, none⟩ (.int .i64 nx)).setCell ⟨k3, 1, none⟩ (.int .i64 ny)) k3 (ptL (nx, ny)) 26 := zp.put2 (.int .i64 nx) (.int .i64 ny)
                          have zm9 := (zm.far (c := k3) (i := 0) (.int .i64 nx) hk03).far (c := k3) (i := 1) (.int .i64 ny) hk03
                          have hou9 := own_other (own_other hou ⟨k3, 0, none⟩ (.int .i64 nx) (fun j hj => by have := (hou.lt j hj).1; show j ≠ k3; omega)) ⟨k3, 1, none⟩ (.int .i64 ny) (fun j hj => by have := (hou.lt j hj).1; show j ≠ k3; omega)
                          have hru9 := own_other (own_other hru ⟨k3, 0, none⟩ (.int .i64 nx) (fun j hj => by have := (hru.lt j hj).1; show j ≠ k3; omega)) ⟨k3, 1, none⟩ (.int .i64 ny) (fun j hj => by have := (hru.lt j hj).1; show j ≠ k3; omega)
                          have hW9 := (hW.setCell (p := ⟨k3, 0, none⟩) hk3 (.int .i64 nx)).setCell (p := ⟨k3, 1, none⟩) hk3 (.int .i64 ny)
                          have hsz9 : ((w9.setCell ⟨k3, 0, none⟩ (.int .i64 nx)).setCell ⟨k3, 1, none⟩ (.int .i64 ny)).heap.size = w9.heap.size := by simp [World.setCell]
                          rw [← hnp.out] at zp9
                          clear cst p0 p1
                          go_wp2_with fail
                          have hadd : Value.int .i64 ((i : Int) + 1) = Value.int .i64 ((i + 1 : Nat) : Int) := by push_cast; rfl
                          exact ⟨⟨i + 1, D, [], Bk, hadd, by omega, hN, hou9, hru9, by rw [hsz9]; exact hbk9, hlt, hB0k, by omega, by simp, zp9, zm9, hW9⟩, hmeas⟩
                        · have hnews : ∀ j u, (qcells pk)[j]? = some u → w6.cell? ((⟨gz, 0, none⟩ : Addr).add j) = some u := hoz.cells rfl
                          obtain ⟨kn, hkn2⟩ : ∃ kn, Hid (pk.length = kn) := ⟨_, hid rfl⟩
                          have hnl := qcells_len pk
                          obtain ⟨dn, hdn⟩ : ∃ dn, Hid (D.length = dn) := ⟨_, hid rfl⟩
                          rw [hkn2.out] at hnl hpk2 ⊢
                          rw [hdn.out] at hou hDl ⊢
                          clear hoz
                          go_wp2_with (at_builtin; refine wpList_append_own _ rfl _ _ 40 rfl B0 49 t4 (.agg #[.int .i64 0, .int .i64 0, .int .i64 0, .int .i64 0]) 4 32 Tryd.underlying40 hi4 hy0 hy1 hy2 rfl (by decide) _ _ _ rfl hou ⟨gz, 0, none⟩ kn cz (qcells pk) rfl hnl hnews (qcells_cell pk) (by unfold maxLen; omega) (by omega) hbs6 ?_)
                          intro uo w7 hou7 hg7 _
                          replace zp := blk_grown zp hg7 (fun r hr e => by subst e; have := (hou.lt _ hr).1; omega)
                          replace zm := blk_grown zm hg7 (fun r hr e => by subst e; have := (hou.lt _ hr).1; omega)
                          replace hW := hW.grown hg7 (Nat.le_trans hWB0 hbs6) (fun j hj => Nat.le_trans hWB0 (hou.lt j hj).1)
                          clear hou
                          have hou := own_to hou7 (m := (D ++ pk).length) (ys := qcells (D ++ pk)) (by rw [List.length_append, hdn.out, hkn2.out]) (qcells_app D pk).symm
                          obtain ⟨Bk, hBk⟩ : ∃ q, q = w7.heap.size := ⟨_, rfl⟩
                          have hbk : Bk ≤ w7.heap.size := by omega
                          have hlt : ∀ j, uo.ownBlock = some j → j < Bk := fun j hj => by have := (hou.lt j hj).2; omega
                          have hru := World.ownsRow_nil w7 Bk 49 4
                          have hB0k : B0 ≤ Bk := by have := hg7.size; omega
                          have hDl7 : (D ++ pk).length ≤ 2 * (i + 1) := by rw [List.length_append, hdn.out, hkn2.out]; omega
                          clear hou7 hg7 hnews
                          have p0 := zp.cell 0
                          have p1 := zp.cell 1
                          simp only [List.getElem?_cons_zero, List.getElem?_cons_succ] at p0 p1
                          have cst := rstepq_b p.1 p.2 2 nx ny w7 hnx hny
                          go_wp2_with fail
                          ((with_reducible refine cst.mono ?_); rintro e w9 ⟨rfl, hb9⟩)
                          replace zp := zp.below hb9
                          replace zm := zm.below hb9
                          replace hou := own_below hou hb9
                          replace hru := own_below hru hb9
                          have hbk9 : Bk ≤ w9.heap.size := Nat.le_trans hbk hb9.size
                          replace hW := below_call hW hb9
                          obtain ⟨_, _, _, _⟩ := zp.two
                          have zp9 : Blk ((w9.setCell ⟨k3, 0, none⟩ (.int .i64 nx)).setCell ⟨k3, 1, none⟩ (.int .i64 ny)) k3 (ptL (nx, ny)) 26 := zp.put2 (.int .i64 nx) (.int .i64 ny)
                          have zm9 := (zm.far (c := k3) (i := 0) (.int .i64 nx) hk03).far (c := k3) (i := 1) (.int .i64 ny) hk03
                          have hou9 := own_other (own_other hou ⟨k3, 0, none⟩ (.int .i64 nx) (fun j hj => by have := (hou.lt j hj).1; show j ≠ k3; omega)) ⟨k3, 1, none⟩ (.int .i64 ny) (fun j hj => by have := (hou.lt j hj).1; show j ≠ k3; omega)
                          have hru9 := own_other (own_other hru ⟨k3, 0, none⟩ (.int .i64 nx) (fun j hj => by have := (hru.lt j hj).1; show j ≠ k3; omega)) ⟨k3, 1, none⟩ (.int .i64 ny) (fun j hj => by have := (hru.lt j hj).1; show j ≠ k3; omega)
                          have hW9 := (hW.setCell (p := ⟨k3, 0, none⟩) hk3 (.int .i64 nx)).setCell (p := ⟨k3, 1, none⟩) hk3 (.int .i64 ny)
                          have hsz9 : ((w9.setCell ⟨k3, 0, none⟩ (.int .i64 nx)).setCell ⟨k3, 1, none⟩ (.int .i64 ny)).heap.size = w9.heap.size := by simp [World.setCell]
                          rw [← hnp.out] at zp9
                          clear cst p0 p1
                          go_wp2_with fail
                          have hadd : Value.int .i64 ((i : Int) + 1) = Value.int .i64 ((i + 1 : Nat) : Int) := by push_cast; rfl
                          exact ⟨⟨i + 1, D ++ pk, [], Bk, hadd, by omega, hN, hou9, hru9, by rw [hsz9]; exact hbk9, hlt, hB0k, hDl7, by simp, zp9, zm9, hW9⟩, hmeas⟩
                      | true =>
                        have hN := hid (show (D, R ++ [x]) = refG (crossA m bl c o) (crossG m bl c o) (bcells o (i + 1)) by rw [hstep.out]; unfold refStep; rw [hcA.out, if_pos rfl, hcG.out, Bool.and_self, if_pos rfl])
                        clear hst
                        have p0 := zp.cell 0
                        have p1 := zp.cell 1
                        simp only [List.getElem?_cons_zero, List.getElem?_cons_succ] at p0 p1
                        have cst := rstepq_b p.1 p.2 2 nx ny w10 hnx hny
                        go_wp2_with fail
                        ((with_reducible refine cst.mono ?_); rintro e w9 ⟨rfl, hb9⟩)
                        replace zp := zp.below hb9
                        replace zm := zm.below hb9
                        replace hou := own_below hou hb9
                        replace hru := own_below hru hb9
                        have hbk9 : Bk ≤ w9.heap.size := Nat.le_trans hbk hb9.size
                        replace hW := below_call hW hb9
                        obtain ⟨_, _, _, _⟩ := zp.two
                        have zp9 : Blk ((w9.setCell ⟨k3, 0, none⟩ (.int .i64 nx)).setCell ⟨k3, 1, none⟩ (.int .i64 ny)) k3 (ptL (nx, ny)) 26 := zp.put2 (.int .i64 nx) (.int .i64 ny)
                        have zm9 := (zm.far (c := k3) (i := 0) (.int .i64 nx) hk03).far (c := k3) (i := 1) (.int .i64 ny) hk03
                        have hou9 := own_other (own_other hou ⟨k3, 0, none⟩ (.int .i64 nx) (fun j hj => by have := (hou.lt j hj).1; show j ≠ k3; omega)) ⟨k3, 1, none⟩ (.int .i64 ny) (fun j hj => by have := (hou.lt j hj).1; show j ≠ k3; omega)
                        have hru9 := own_other (own_other hru ⟨k3, 0, none⟩ (.int .i64 nx) (fun j hj => by have := (hru.lt j hj).1; show j ≠ k3; omega)) ⟨k3, 1, none⟩ (.int .i64 ny) (fun j hj => by have := (hru.lt j hj).1; show j ≠ k3; omega)
                        have hW9 := (hW.setCell (p := ⟨k3, 0, none⟩) hk3 (.int .i64 nx)).setCell (p := ⟨k3, 1, none⟩) hk3 (.int .i64 ny)
                        have hsz9 : ((w9.setCell ⟨k3, 0, none⟩ (.int .i64 nx)).setCell ⟨k3, 1, none⟩ (.int .i64 ny)).heap.size = w9.heap.size := by simp [World.setCell]
                        rw [← hnp.out] at zp9
                        clear cst p0 p1
                        go_wp2_with fail
                        have hadd : Value.int .i64 ((i : Int) + 1) = Value.int .i64 ((i + 1 : Nat) : Int) := by push_cast; rfl
                        exact ⟨⟨i + 1, D, R ++ [x], Bk, hadd, by omega, hN, hou9, hru9, by rw [hsz9]; exact hbk9, hlt, hB0k, by omega, hR8, zp9, zm9, hW9⟩, hmeas⟩
                · obtain rfl : nn = i := by omega
                  have z9 : decide ((nn : Int) < r.h) = false := decide_eq_false (by have := hnn.out; omega)
                  have hcl := hev.out
                  rw [← hst.out] at hcl
                  have hrl : R.length ≤ 8 := by omega
                  have cpk := rpick_b R _ _ Bk wr rfl hrl hru
                  clear hst hev
                  go_wp2_with fail
                  ((with_reducible refine cpk.mono ?_); rintro e w6 ⟨z, rfl, hoz, hb6⟩)
                  replace hou := own_below hou hb6
                  replace hW := below_call hW hb6
                  have hbs6 : B0 ≤ w6.heap.size := Nat.le_trans hB0k (Nat.le_trans hbk hb6.size)
                  obtain ⟨pk, hpk⟩ : ∃ pk, Hid (pk = pickv R) := ⟨_, hid rfl⟩
                  have hpk2 : pk.length ≤ 2 := by rw [hpk.out]; exact pickv_len _
                  rw [← hpk.out] at hoz hcl
                  clear cpk hru hpk
                  rcases own_two hoz with ⟨rfl, hp0⟩ | ⟨gz, cz, rfl⟩
                  · subst hp0
                    rw [List.append_nil] at hcl
                    go_wp2_with (at_builtin; refine wpList_append_own_none rfl _ _ 40 rfl B0 49 t4 4 Tryd.underlying40 hi4 _ _ _ rfl hou rfl ?_)
                    go_wp2_with fail
                    go_ret
                    exact ⟨_, rfl, by rw [hcl]; exact own_base hou hWB0, hW⟩
                  · have hnews : ∀ j u, (qcells pk)[j]? = some u → w6.cell? ((⟨gz, 0, none⟩ : Addr).add j) = some u := hoz.cells rfl
                    obtain ⟨kn, hkn2⟩ : ∃ kn, Hid (pk.length = kn) := ⟨_, hid rfl⟩
                    have hnl := qcells_len pk
                    obtain ⟨dn, hdn⟩ : ∃ dn, Hid (D.length = dn) := ⟨_, hid rfl⟩
                    rw [hkn2.out] at hnl hpk2 ⊢
                    rw [hdn.out] at hou hDl ⊢
                    go_wp2_with (at_builtin; refine wpList_append_own _ rfl _ _ 40 rfl B0 49 t4 (.agg #[.int .i64 0, .int .i64 0, .int .i64 0, .int .i64 0]) 4 32 Tryd.underlying40 hi4 hy0 hy1 hy2 rfl (by decide) _ _ _ rfl hou ⟨gz, 0, none⟩ kn cz (qcells pk) rfl hnl hnews (qcells_cell pk) (by unfold maxLen; omega) (by omega) hbs6 ?_)
                    intro uo w7 hou7 hg7 _
                    replace hW := hW.grown hg7 (Nat.le_trans hWB0 hbs6) (fun j hj => Nat.le_trans hWB0 (hou.lt j hj).1)
                    clear hou
                    have hou := own_to hou7 (m := (D ++ pk).length) (ys := qcells (D ++ pk)) (by rw [List.length_append, hdn.out, hkn2.out]) (qcells_app D pk).symm
                    go_wp2_with fail
                    go_ret
                    exact ⟨_, rfl, by rw [hcl]; exact own_base hou hWB0, hW⟩
            · have z4 : (s.x == r.x + r.w) = false := beq_eq_false_iff_ne.2 c4
              have hn := fun w' => hnil w' (entr_none (by rw [ha, hb, show (bordv (arv m a) (arv m b)).2 = false by unfold bordv; rw [← er.out, ← es.out, if_neg (fun h => c4 h.2), if_neg (fun h => c1 h.1)]]; rfl))
              replace c3 := hid c3
              go_wp2_with fail
              go_ret
              exact ⟨_, rfl, hn _, hW⟩
          · have z3 : (s.y == r.y) = false := beq_eq_false_iff_ne.2 c3
            have hn := fun w' => hnil w' (entr_none (by rw [ha, hb, show (bordv (arv m a) (arv m b)).2 = false by unfold bordv; rw [← er.out, ← es.out, if_neg (fun h => c3 h.1), if_neg (fun h => c1 h.1)]]; rfl))
            go_wp2_with fail
            go_ret
            exact ⟨_, rfl, hn _, hW⟩

end Go.Proofs.YtpgchjhfhndaaaaDoor
