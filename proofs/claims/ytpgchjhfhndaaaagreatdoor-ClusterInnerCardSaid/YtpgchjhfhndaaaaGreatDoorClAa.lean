/-
  The reference of layer 15: an open cell; a cost in a list of costs.
-/
import Derived.Test.YtpgchjhfhndaaaaGreatDoorClRefP
import Derived.Test.YtpgchjhfhndaaaaGreatDoorAsXd
namespace Go.Proofs.YtpgchjhfhndaaaaGreatDoor
open Go.RowKit Go.Lib

/-! ### the cells of an area by their numbers -/
theorem cells_at {m : M3} {r : R4} (ok : ArOk m r) (hf : formedv m = true) {i : Nat} {p : Pt} (h : (cellsv r)[i]? = some p) : posn (partm m r) i = shp r p ∧ insv r p.1 p.2 = true ∧ idx (partm m r) (shp r p) = i ∧ i < (cellsv r).length := by
  have hi : i < (cellsv r).length := (List.getElem?_eq_some_iff.1 h).1
  have hm : p ∈ cellsv r := List.mem_of_getElem? h
  have hin := (mem_ar ok hf).1 hm
  have hcl : (partm m r).cs.length = (cellsv r).length := by unfold partm; dsimp only; rw [List.length_map]
  obtain ⟨w, hh, e1, e2, a1, a2, a3, a4, ec⟩ := cells_ar ok hf
  have hp : posn (partm m r) i = shp r p := by
    rw [ec] at h hi
    rw [List.length_map, List.length_range] at hi
    rw [List.getElem?_map, List.getElem?_range hi] at h
    injection h with h
    have e := at_nat w i a1
    unfold posn shp
    show (atx r.w i, aty r.w i) = _
    rw [e1, e.1, e.2, ← h]
    dsimp only
    congr 1 <;> omega
  refine ⟨hp, hin, ?_, hi⟩
  rw [← hp]
  exact (idx_posn (part_formed ok hf) (by rw [hcl]; exact hi)).1
theorem cells_uniq {m : M3} {r : R4} (ok : ArOk m r) (hf : formedv m = true) {i j : Nat} {p : Pt} (h : (cellsv r)[i]? = some p) (k : (cellsv r)[j]? = some p) : i = j := by
  rw [← (cells_at ok hf h).2.2.1, ← (cells_at ok hf k).2.2.1]
/-- The steps from a cell within its area, in the directions below d. -/
def preC (m : M3) (r : R4) (bl : List Bool) (c : Int) (p : Pt) (d : Nat) : List (Nat × Int) := preD (partm m r) (partb m bl r) c (shp r p) d
theorem preC_succ {m : M3} {r : R4} (ok : ArOk m r) (hf : formedv m = true) (bl : List Bool) (c : Int) {p : Pt} (h : insv r p.1 p.2 = true) {d : Nat} (hd : d < 8) :
    preC m r bl c p (d + 1) = preC m r bl c p d ++ if (mayv m bl c p.1 p.2 d && insv r (stx p.1 d) (sty p.2 d)) = true then [(idx (partm m r) (shp r (stx p.1 d, sty p.2 d)), costv m bl c p.1 p.2 d)] else [] := by
  unfold preC preD
  rw [nbGo_succ, List.map_append, part_one ok hf bl c h hd]
  split <;> rfl
theorem preC_all {m : M3} {r : R4} (ok : ArOk m r) (hf : formedv m = true) (bl : List Bool) (c : Int) {j : Nat} {p : Pt} (h : (cellsv r)[j]? = some p) : preC m r bl c p 8 = nb (partm m r) (partb m bl r) c j := by
  obtain ⟨e, _, _, hj⟩ := cells_at ok hf h
  unfold preC
  rw [← e]
  exact preD_all (by unfold partm; dsimp only; rw [List.length_map]; exact hj)
/-- The number of a cell in its area, as the reference works it out. -/
theorem r15idx {m : M3} {r : R4} (ok : ArOk m r) (hf : formedv m = true) {p : Pt} (h : insv r p.1 p.2 = true) : ∃ i : Nat, i < (cellsv r).length ∧ (cellsv r)[i]? = some p ∧ idx (partm m r) (shp r p) = i ∧
    IntKind.i64.wrap (p.2 - r.y) = p.2 - r.y ∧ IntKind.i64.wrap ((p.2 - r.y) * r.w) = (p.2 - r.y) * r.w ∧ IntKind.i64.wrap ((p.2 - r.y) * r.w + p.1) = (p.2 - r.y) * r.w + p.1 ∧ IntKind.i64.wrap ((p.2 - r.y) * r.w + p.1 - r.x) = (i : Int) := by
  obtain ⟨i, hi, hc, hx, he⟩ := part_idx ok hf h
  obtain ⟨_, _, s1, s2, s3, s4⟩ := col_num hf
  have k := ar_in ok hf h
  obtain ⟨h1, h2, h3, h4, h5, h6, h7, h8⟩ := ok
  have hm : 0 ≤ (p.2 - r.y) * r.w ∧ (p.2 - r.y) * r.w ≤ 8 * 8 := ⟨Int.mul_nonneg (by omega) (by omega), Int.mul_le_mul (by omega) (by omega) (by omega) (by omega)⟩
  refine ⟨i, hi, hc, hx, IntWalk.i64_in _ (by omega), IntWalk.i64_in _ (by omega), IntWalk.i64_in _ (by omega), ?_⟩
  rw [IntWalk.i64_in _ (by omega)]
  omega
/-- What Costs gives. -/
def CostsR (m : M3) (bl : List Bool) (c k : Int) (a : Pt) (D : List Int) : Prop :=
  if (exv m k && classv c && insv (arv m k) a.1 a.2 && openv m bl c a.1 a.2) = true then IsDist (nbc m bl c k) (cellsv (arv m k)).length (cix m k a) D else D = []
theorem CostsR.cond {m : M3} {bl : List Bool} {c k : Int} {a : Pt} {D : List Int} (h : CostsR m bl c k a D) (h0 : D ≠ []) : (exv m k && classv c && insv (arv m k) a.1 a.2 && openv m bl c a.1 a.2) = true ∧ IsDist (nbc m bl c k) (cellsv (arv m k)).length (cix m k a) D := by
  unfold CostsR at h
  split at h
  · exact ⟨by assumption, h⟩
  · exact absurd h h0
theorem InReach.cond {m : M3} {bl : List Bool} {c k : Int} {a b : Pt} {D : List Int} (h : InReach m bl c k a b) (hD : CostsR m bl c k a D) : IsDist (nbc m bl c k) (cellsv (arv m k)).length (cix m k a) D ∧ D ≠ [] := by
  unfold CostsR at hD
  rw [if_pos (by rw [h.ex, h.cls, h.ia, h.opn]; rfl)] at hD
  refine ⟨hD, fun e => ?_⟩
  have h1 := hD.len
  rw [e] at h1
  obtain ⟨i, hi, _⟩ := part_idx (ar_ok h.ex) (valid_formed (ex_valid h.ex).1) h.ia
  rw [← h1] at hi
  exact absurd hi (Nat.not_lt_zero _)

set_option maxRecDepth 100000 in
set_option maxHeartbeats 4000000 in
theorem ropen15_b (m : M3) (s : Value) (bl : List Bool) (l : Value) (c : Int) (p : Pt) (b : Bool) (W : World) (hr : RowAt W s m.cs) (hl : BitsAt W l bl) (e : Hid (b = openv m bl c p.1 p.2)) :
    Calls Tryz.prog 100 #[.agg #[.int .i64 m.w, .int .i64 m.h, s], l, .int .i64 c, .agg #[.int .i64 p.1, .int .i64 p.2]] W fun e w' => e = .returned (.bool b) ∧ Below W.heap.size W w' := by
  obtain ⟨x, y⟩ := p
  dsimp only at e ⊢
  obtain ⟨i, hi⟩ : ∃ i, Hid (i = passv m c x y) := ⟨_, hid rfl⟩
  obtain ⟨q, hq⟩ : ∃ q, Hid (q = indexv m.w x y) := ⟨_, hid rfl⟩
  have hb : b = (i && (decide (c = 3) || !(bl.getD (indexv m.w x y).toNat false))) := by rw [e.out, hi.out]; rfl
  clear e
  have hT := Held2.start W [.int .i64 m.w, .int .i64 m.h, s] [.int .i64 x, .int .i64 y] 24 29
  go_enter Tryz.func100, Tryz.ntmps100
  go_wp2_with fail
  ((with_reducible refine (rindex_b m.w x y q _ hq).mono ?_); rintro e w0 ⟨rfl, hb0⟩)
  replace hT := hT.call hb0
  have hr' := hr.below hT.old
  obtain ⟨_, _, _, _, _, _⟩ := hT.l.three
  obtain ⟨_, _, _, _⟩ := hT.r.two
  cases i with
  | false =>
    subst hb
    go_wp2_with fail
    ((with_reducible refine (rpass_b m s c x y false _ hr' hi).mono ?_); rintro e w1 ⟨rfl, hb1⟩)
    go_wp2_with fail
    go_ret
    exact ⟨rfl, below_call hT.old hb1⟩
  | true =>
    obtain ⟨n, hlt, hix, n3, n4⟩ := r14idx (pass_inside hi.out.symm)
    rw [← hix.out, Int.toNat_natCast, Bool.true_and] at hb
    have hqn : q = (n : Int) := by rw [hq.out, hix.out]
    subst hqn
    have hl' := (hl.below hT.old)
    obtain ⟨p, k, rfl, hk, -⟩ := id hl
    go_wp2_with fail
    ((with_reducible refine (rpass_b m s c x y true _ hr' hi).mono ?_); rintro e w1 ⟨rfl, hb1⟩)
    have hT1 := hT.call hb1
    replace hl' := hl'.below hb1
    unfold maxLen at hk
    clear hix hq
    have n1 : (0 : Int) ≤ n := by omega
    have g0 : decide ((n : Int) < 0) = false := decide_eq_false (by omega)
    by_cases c3 : c = 3
    · subst c3
      go_wp2_with fail
      go_ret
      exact ⟨ret_bit (by rw [hb]; rfl), hT1.old⟩
    · have z3 : (c == 3) = false := beq_eq_false_iff_ne.2 c3
      rw [decide_eq_false c3, Bool.false_or] at hb
      by_cases hnl : n < bl.length
      · obtain ⟨p', k', e', -, hc⟩ := hl'
        obtain ⟨g, o, rfl, hat⟩ := hc (by omega)
        obtain ⟨rfl, -, rfl⟩ : p = some ⟨g, o, none⟩ ∧ True ∧ k = k' := by injection e' with e1 _ e2; exact ⟨e1, trivial, e2⟩
        have h1 := hat n hnl
        obtain ⟨v, hv⟩ : ∃ v, v = bl[n]'hnl := ⟨_, rfl⟩
        rw [← hv] at h1
        have hb' : b = !v := by rw [hb, hv, List.getD_eq_getElem?_getD, List.getElem?_eq_getElem hnl]; rfl
        have g1 : decide ((bl.length : Int) ≤ (n : Int)) = false := decide_eq_false (by omega)
        have n2 : (n : Int) < bl.length := by omega
        clear hat hc hb
        go_wp2_with fail
        go_ret
        exact ⟨ret_bit (by rw [hb', hv, decide_eq_false (by omega), Bool.false_or]), hT1.old⟩
      · have hb' : b = true := by rw [hb, List.getD_eq_getElem?_getD, List.getElem?_eq_none (by omega)]; rfl
        have g1 : decide ((bl.length : Int) ≤ (n : Int)) = true := decide_eq_true (by omega)
        go_wp2_with fail
        go_ret
        exact ⟨ret_bit hb'.symm, hT1.old⟩

set_option maxRecDepth 100000 in
set_option maxHeartbeats 4000000 in
theorem rcost15_b (m : M3) (sp : Option Addr) (sn sk : Nat) (bl : List Bool) (c k : Int) (a b : Pt) (v : Value) (D : List Int) (W : World) (hr : RowAt W (.slice sp sn sk) m.cs) (hI : IntsAt W v D) (hD : CostsR m bl c k a D) :
    Calls Tryz.prog 44 #[.agg #[.int .i64 m.w, .int .i64 m.h, .slice sp sn sk], .int .i64 k, v, .agg #[.int .i64 b.1, .int .i64 b.2]] W fun e w' => ∃ n o, e = .returned (.tuple #[.int .i64 n, .bool o]) ∧ InnerR m bl c k a b n o ∧ Below W.heap.size W w' := by
  obtain ⟨x1, hx⟩ : ∃ x, Hid (x = exv m k) := ⟨_, hid rfl⟩
  obtain ⟨r, hra⟩ : ∃ r, Hid (r = areav m k) := ⟨_, hid rfl⟩
  obtain ⟨bi, hbi⟩ : ∃ b', Hid (b' = insv r b.1 b.2) := ⟨_, hid rfl⟩
  obtain ⟨pv, cv, rfl, h2, hc⟩ := hI
  obtain ⟨n, hn⟩ : ∃ n, Hid (D.length = n) := ⟨_, hid rfl⟩
  rw [hn.out] at h2 hc ⊢
  replace hD := hid hD
  have hT := Held2.start W [.int .i64 m.w, .int .i64 m.h, .slice sp sn sk] [.int .i64 b.1, .int .i64 b.2] 24 29
  obtain ⟨k0, ek⟩ : ∃ k0, Hid (k0 = W.heap.size) := ⟨_, hid rfl⟩
  obtain ⟨k1, ek1⟩ : ∃ k1, Hid (k1 = W.heap.size + 1) := ⟨_, hid rfl⟩
  go_enter Tryz.func44, Tryz.ntmps44
  go_upto_region 1 with fail
  obtain ⟨X, hX⟩ : ∃ X, X = (W.alloc (.cells [Value.int .i64 m.w, .int .i64 m.h, .slice sp sn sk].toArray 24)).alloc (.cells [Value.int .i64 b.1, .int .i64 b.2].toArray 29) := ⟨_, rfl⟩
  rw [← hX] at hT ⊢
  clear hX
  have zm := hT.l.at ek.out.symm
  have zp := hT.r.at ek1.out.symm
  have hW := hT.old
  rw [← ek1.out]
  rw [← ek.out]
  clear hT
  have m0 := zm.cell 0
  have m1 := zm.cell 1
  have m2 := zm.cell 2
  simp only [List.getElem?_cons_zero, List.getElem?_cons_succ] at m0 m1 m2
  go_wp2_with fail
  ((with_reducible refine (rarea_b m sp sn sk k r x1 X (hr.below hW) hx hra).mono ?_); rintro e w1 ⟨rfl, hb1⟩)
  have hb2 := hb1.alloc hb1.size (.cells ([.int .i64 r.x, .int .i64 r.y, .int .i64 r.w, .int .i64 r.h] : List Value).toArray 72)
  have zr := Blk.new w1 [.int .i64 r.x, .int .i64 r.y, .int .i64 r.w, .int .i64 r.h] 72
  go_upto_region 2 with fail
  obtain ⟨Y, hX⟩ : ∃ Y, Y = w1.alloc (.cells #[Value.int .i64 r.x, .int .i64 r.y, .int .i64 r.w, .int .i64 r.h] 72) := ⟨_, rfl⟩
  rw [← hX]
  rw [show w1.alloc (.cells ([.int .i64 r.x, .int .i64 r.y, .int .i64 r.w, .int .i64 r.h] : List Value).toArray 72) = Y from hX.symm] at hb2 zr
  replace hW := below_call hW hb2
  replace zp := zp.below hb2
  obtain ⟨k2, ek2⟩ : ∃ q, Hid (q = w1.heap.size) := ⟨_, hid rfl⟩
  rw [← ek2.out] at zr ⊢
  clear hX hb1 hb2 m0 m1 m2 zm
  cases x1 with
  | false =>
    have hno : InnerR m bl c k a b 0 false := .no (fun h => by have := hx.out.trans h.ex; cases this)
    go_wp2_with fail
    refine bodyPost_ret (v := .tuple #[.int .i64 0, .bool false]) (by simp [results, Tryz.results44, go_sem]) rfl ?_
    exact ⟨0, false, rfl, hno, hW⟩
  | true =>
    have hex := hx.out.symm
    have er : r = arv m k := by rw [hra.out, ar_val hex]
    have hf := valid_formed (ex_valid hex).1
    have okr := ar_ok hex
    have r0 := zr.cell 0
    have r1 := zr.cell 1
    have r2 := zr.cell 2
    have r3 := zr.cell 3
    have p0 := zp.cell 0
    have p1 := zp.cell 1
    simp only [List.getElem?_cons_zero, List.getElem?_cons_succ] at r0 r1 r2 r3 p0 p1
    have cin : Calls Tryz.prog 98 #[.agg #[.int .i64 r.x, .int .i64 r.y, .int .i64 r.w, .int .i64 r.h], .agg #[.int .i64 b.1, .int .i64 b.2]] Y fun e w' => e = .returned (.bool bi) ∧ Below Y.heap.size Y w' := by
      rw [hbi.out]; exact rins_x r.x r.y r.w r.h b.1 b.2 Y
    replace er := hid er
    go_wp2_with fail
    ((with_reducible refine cin.mono ?_); rintro e w2 ⟨rfl, hb2⟩)
    replace zr := zr.below hb2
    replace zp := zp.below hb2
    replace hW := below_call hW hb2
    clear hb2 r0 r1 r2 r3 p0 p1 cin
    cases bi with
    | false =>
      have hno : InnerR m bl c k a b 0 false := .no (fun h => by have := hbi.out; rw [er.out, h.ib] at this; cases this)
      go_wp2_with fail
      refine bodyPost_ret (v := .tuple #[.int .i64 0, .bool false]) (by simp [results, Tryz.results44, go_sem]) rfl ?_
      exact ⟨0, false, rfl, hno, hW⟩
    | true =>
      have hbr := hbi.out.symm
      by_cases h0 : n = 0
      · subst h0
        have hD0 : D = [] := List.eq_nil_of_length_eq_zero hn.out
        have hno : InnerR m bl c k a b 0 false := .no (fun h => (h.cond hD.out).2 hD0)
        go_wp2_with fail
        refine bodyPost_ret (v := .tuple #[.int .i64 0, .bool false]) (by simp [results, Tryz.results44, go_sem]) rfl ?_
        exact ⟨0, false, rfl, hno, hW⟩
      · have z0 : ((n : Int) == 0) = false := beq_eq_false_iff_ne.2 (by omega)
        have hDne : D ≠ [] := fun e => h0 (by rw [← hn.out, e]; rfl)
        obtain ⟨hcd, hdist⟩ := hD.out.cond hDne
        simp only [Bool.and_eq_true] at hcd
        obtain ⟨⟨⟨_, hcl⟩, hia⟩, hop⟩ := hcd
        have okG := cls_nb hex bl c
        have hcsl : (partm m (arv m k)).cs.length = (cellsv (arv m k)).length := by unfold partm; dsimp only; rw [List.length_map]
        rw [hcsl] at okG
        have hal : cix m k a < (cellsv (arv m k)).length := by rw [← hcsl]; exact (cls_posn hex hia).2
        rw [er.out] at hbr
        obtain ⟨i, hi, _, hix, w1', w2', w3', w4'⟩ := r15idx okr hf hbr
        rw [← er.out] at w1' w2' w3' w4'
        have hin : i < n := by rw [← hn.out, hdist.len]; exact hi
        have hyes : 0 ≤ ga D i → InnerR m bl c k a b (ga D i) true := fun h => by
          have hw := hdist.way (q := i) h
          have hw' : Way (nbc m bl c k) (cix m k a) (cix m k b) (ga D i) := by
            show Way _ _ (idx (partm m (arv m k)) (shp (arv m k) b)) _
            rw [hix]; exact hw
          exact .yes _ ⟨hex, hcl, hia, hbr, hop, ⟨_, hw'⟩⟩ hw' (fun e w => by
            have w9 : Way (nbc m bl c k) (cix m k a) i e := by rw [← hix]; exact w
            exact (hdist.least okG hal w9).2)
        have hnot : ¬ 0 ≤ ga D i → InnerR m bl c k a b 0 false := fun h => .no (fun hr => h (by
          obtain ⟨e, w⟩ := hr.way
          have w9 : Way (nbc m bl c k) (cix m k a) i e := by rw [← hix]; exact w
          exact (hdist.least okG hal w9).1))
        obtain ⟨g, rfl, hgl, hcc⟩ := hc (by omega)
        have cI := (hW.cell (p := ⟨g, i, none⟩) hgl).trans (hcc i hin)
        obtain ⟨x, hxx⟩ : ∃ x, Hid (x = ga D i) := ⟨_, hid rfl⟩
        rw [← hxx.out] at cI hyes hnot
        have i0 : (0 : Int) ≤ (i : Int) := by omega
        have i1 : (i : Int) < (n : Int) := by omega
        have r0 := zr.cell 0
        have r1 := zr.cell 1
        have r2 := zr.cell 2
        have p0 := zp.cell 0
        have p1 := zp.cell 1
        simp only [List.getElem?_cons_zero, List.getElem?_cons_succ] at r0 r1 r2 p0 p1
        clear hcc hc hdist hix hi hcsl hal okG
        by_cases hx0 : x < 0
        · have z9 : decide (x < 0) = true := decide_eq_true hx0
          have hfin := hnot (by omega)
          clear hyes hnot hx0
          go_wp2_with fail
          refine bodyPost_ret (v := .tuple #[.int .i64 0, .bool false]) (by simp [results, Tryz.results44, go_sem]) rfl ?_
          exact ⟨0, false, rfl, hfin, hW⟩
        · have z9 : decide (x < 0) = false := decide_eq_false hx0
          have hfin := hyes (by omega)
          clear hyes hnot hx0
          go_wp2_with fail
          refine bodyPost_ret (v := .tuple #[.int .i64 x, .bool true]) (by simp [results, Tryz.results44, go_sem]) rfl ?_
          exact ⟨x, true, rfl, hfin, hW⟩

end Go.Proofs.YtpgchjhfhndaaaaGreatDoor
