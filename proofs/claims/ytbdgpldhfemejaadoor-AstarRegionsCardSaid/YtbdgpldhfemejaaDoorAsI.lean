/-
  astar as landed at 35fbd81: the least costs from a cell.
-/
import Derived.Test.YtbdgpldhfemejaaDoorAsH
import Derived.Defers
namespace Go.Proofs.YtbdgpldhfemejaaDoor
open Go.RowKit Go.Lib

/-- The least costs from the cell a, if that is free. -/
def Dst (m : M3) (bl : List Bool) (c : Int) (a : Nat) (D : List Int) : Prop :=
  if openv m bl c (posn m a).1 (posn m a).2 = true then IsDist (nb m bl c) m.cs.length a D else D = List.replicate m.cs.length (-1)
def CostsP (m : M3) (bl : List Bool) (c : Int) (a n : Nat) (W : World) (e : Ending) (w' : World) : Prop :=
  ∃ cb D, e = .returned (.slice (some ⟨cb, 0, none⟩) n n) ∧ W.heap.size ≤ cb ∧ Blk w' cb (ints D) 3 ∧ Dst m bl c a D ∧ (∀ q, -1 ≤ ga D q ∧ ga D q ≤ 30000) ∧ Below W.heap.size W w'
theorem ints_none (n : Nat) : List.replicate n (Value.int .i64 (-1)) = ints (List.replicate n (-1)) := by unfold ints; rw [List.map_replicate]
/-- The deferred check: nothing is left to be examined. -/
theorem asdone_d (F gb cx : Nat) (u : FrameMode) (w : World) (hc : w.cell? ⟨F, 1, none⟩ = some (.int .i64 0)) :
    CallsD Tryd.prog 46 #[.pointer (some ⟨F, 0, none⟩), .pointer (some ⟨gb, 0, none⟩), .pointer (some ⟨cx, 0, none⟩)] u w fun e u' w' => u' = u ∧ (e = .returned (.tuple #[]) ∧ w' = w) := by
  go_enter_d Tryd.func46, Tryd.ntmps46
  go_wp2
  go_end0
  exact ⟨rfl, rfl⟩

/-- What is asked behind a region that does not panic. -/
def onlyN (K : Act → World → Prop) : Exit → Act → World → Prop
  | .normal, a, w => K a w
  | _, _, _ => False
theorem wp_onlyN {P : Program} {x : Code} {Q : Exit → Act → World → Prop} {a : Act} {w : World} (h : x.wp P (onlyN (Q .normal)) a w) : x.wp P Q a w :=
  Code.wp_mono (fun e a w q => by cases e <;> first | exact q | exact q.elim) h

set_option maxRecDepth 100000 in
set_option maxHeartbeats 8000000 in
theorem ascosts_b (m : M3) (s : Value) (bl : List Bool) (l : Value) (c : Int) (a n : Nat) (W : World) (hG : Gd W m s bl l) (hf : formedv m = true) (ha : a < m.cs.length) (hn : Hid (m.cs.length = n)) :
    Calls Tryd.prog 26 #[.agg #[.int .i64 m.w, .int .i64 m.h, s, l, .int .i64 c], .agg #[.int .i64 (posn m a).1, .int .i64 (posn m a).2]] W (CostsP m bl c a n W) := by
  have hmf : ∀ (fn : Fn) (first cap : Array Value) (w : World), (Instr.makeFunc fn first cap).run Tryd.prog w = .ok (.func fn first cap) w := fun _ _ _ _ => rfl
  obtain ⟨fr, hfr⟩ : ∃ fr, Hid (fr = openv m bl c (posn m a).1 (posn m a).2) := ⟨_, hid rfl⟩
  have hcl := formed_len hf
  have hK := ((((Keep.nil W).alloc [.int .i64 m.w, .int .i64 m.h, s, l, .int .i64 c] 46).alloc [.int .i64 (posn m a).1, .int .i64 (posn m a).2] 27).alloc [.slice none 0 0] 41)
  simp only [World.size_alloc] at hK
  obtain ⟨X, hX⟩ : ∃ X, X = (((W.alloc (.cells [Value.int .i64 m.w, .int .i64 m.h, s, l, .int .i64 c].toArray 46)).alloc (.cells [Value.int .i64 (posn m a).1, .int .i64 (posn m a).2].toArray 27)).alloc (.cells [Value.slice none 0 0].toArray 41)) := ⟨_, rfl⟩
  have hsz : X.heap.size = W.heap.size + 3 := by rw [hX]; simp
  rw [← hX] at hK
  have hGX := hG.below hK.old
  have cn := asnumbers_b m s l c X hGX.row (by omega) hcl
  rw [hn.out] at cn
  go_enter_defers Tryd.func26, Tryd.ntmps26
  go_upto_region 1 with fail
  rw [← hX]
  clear hX
  obtain ⟨b2, h2⟩ : ∃ b2, b2 = W.heap.size + 1 + 1 := ⟨_, rfl⟩
  obtain ⟨b1, h1⟩ : ∃ b1, b1 = W.heap.size + 1 := ⟨_, rfl⟩
  obtain ⟨b0, h0⟩ : ∃ b0, b0 = W.heap.size := ⟨_, rfl⟩
  have z0 : Blk X b0 (grdL m s l c) 46 := (hK.blks (W.heap.size, grdL m s l c, 46) (by simp)).at h0.symm
  have z1 : Blk X b1 (ptL (posn m a)) 27 := (hK.blks (W.heap.size + 1, ptL (posn m a), 27) (by simp)).at h1.symm
  have z2 : Blk X b2 [.slice none 0 0] 41 := (hK.blks (W.heap.size + 1 + 1, [.slice none 0 0], 41) (by simp)).at h2.symm
  have hWX := hK.old
  rw [← h2, ← h1, ← h0]
  have k01 : W.heap.size ≤ b0 ∧ b0 < b1 ∧ b1 < b2 ∧ b2 < X.heap.size := by omega
  clear hK h0 h1 h2 hsz
  have q0 := z0.cell 0
  have q1 := z0.cell 1
  have q2 := z0.cell 2
  have q3 := z0.cell 3
  have q4 := z0.cell 4
  go_upto_region 2 with (go_at_call 40; refine cn.mono ?_; rintro e w1 ⟨cb, rfl, hcb, hB1, hb1⟩; replace z0 := z0.below hb1; replace z1 := z1.below hb1; replace z2 := z2.below hb1; have f2 := z2.frozen 0; have c2 := z2.cell 0)
  have y0 : Blk (w1.setCell ⟨b2, 0, none⟩ (.slice (some ⟨cb, 0, none⟩) n n)) b0 (grdL m s l c) 46 := z0.far _ (by omega)
  have y1 : Blk (w1.setCell ⟨b2, 0, none⟩ (.slice (some ⟨cb, 0, none⟩) n n)) b1 (ptL (posn m a)) 27 := z1.far _ (by omega)
  have y2 : Blk (w1.setCell ⟨b2, 0, none⟩ (.slice (some ⟨cb, 0, none⟩) n n)) b2 [.slice (some ⟨cb, 0, none⟩) n n] 41 := z2.set 0 _
  have yc : Blk (w1.setCell ⟨b2, 0, none⟩ (.slice (some ⟨cb, 0, none⟩) n n)) cb (ints (List.replicate n (-1))) 3 := by rw [← ints_none]; exact hB1.far _ (by omega)
  have hWV : Below W.heap.size W (w1.setCell ⟨b2, 0, none⟩ (.slice (some ⟨cb, 0, none⟩) n n)) := (below_call hWX hb1).setCell (p := ⟨b2, 0, none⟩) (show W.heap.size ≤ b2 by omega) _
  generalize w1.setCell ⟨b2, 0, none⟩ (.slice (some ⟨cb, 0, none⟩) n n) = V at *
  have kc : b2 < cb ∧ W.heap.size ≤ cb := by omega
  clear hcb hB1 hb1 z0 z1 z2 f2 c2 cn hWX hGX
  have cf := asfree_b m s bl l c (posn m a).1 (posn m a).2 fr V (hG.below hWV) hfr
  have q0 := y0.cell 0
  have q1 := y0.cell 1
  have q2 := y0.cell 2
  have q3 := y0.cell 3
  have q4 := y0.cell 4
  have p0 := y1.cell 0
  have p1 := y1.cell 1
  cases fr with
  | false =>
    go_upto_region 3 with (go_at_call 25; refine cf.mono ?_; rintro e w2 ⟨rfl, hb2⟩)
    have r0 := (y2.below hb2).cell 0
    have r1 := (y2.below hb2).frozen 0
    have y2' := y2.below hb2
    have yc' := yc.below hb2
    have hW2 := below_call hWV hb2
    clear q0 q1 q2 q3 q4 p0 p1 cf y0 y1 y2 yc hb2
    go_wp2_with fail
    have y3 := (y2'.set 0 (.slice (some ⟨cb, 0, none⟩) n n)).cell 0
    refine ⟨.slice (some ⟨cb, 0, none⟩) n n, by simp [results, Tryd.results26, go_sem, y3], cb, _, rfl, kc.2, yc'.far _ (by omega), ?_, fun q => by rw [ga_none]; omega, hW2.setCell (p := ⟨b2, 0, none⟩) (show W.heap.size ≤ b2 by omega) _⟩
    unfold Dst
    rw [if_neg (by rw [← hfr.out]; exact Bool.false_ne_true), hn.out]
  | true =>
    go_upto_region 4 with (go_at_call 25; refine cf.mono ?_; rintro e w2 ⟨rfl, hb2⟩)
    replace y0 := y0.below hb2
    replace y1 := y1.below hb2
    replace y2 := y2.below hb2
    replace yc := yc.below hb2
    have hW2 := below_call hWV hb2
    clear q0 q1 q2 q3 q4 p0 p1 cf hb2 hWV
    go_upto_region 6 with fail
    have hF := Blk.new w2 [.slice none 0 0, .int .i64 0] 72
    replace y0 := y0.alloc (.cells ([.slice none 0 0, .int .i64 0] : List Value).toArray 72)
    replace y1 := y1.alloc (.cells ([.slice none 0 0, .int .i64 0] : List Value).toArray 72)
    replace y2 := y2.alloc (.cells ([.slice none 0 0, .int .i64 0] : List Value).toArray 72)
    have hcl2 := yc.lt
    replace yc := yc.alloc (.cells ([.slice none 0 0, .int .i64 0] : List Value).toArray 72)
    have hWX := hW2.alloc hW2.size (.cells ([.slice none 0 0, .int .i64 0] : List Value).toArray 72)
    have hFlt := hF.lt
    generalize w2.alloc (.cells ([.slice none 0 0, .int .i64 0] : List Value).toArray 72) = X2 at *
    obtain ⟨F, hFe⟩ : ∃ F, F = w2.heap.size := ⟨_, rfl⟩
    rw [← hFe] at hF hcl2 hFlt ⊢
    clear hFe hW2
    have ca := fun w => asidx_b m s l c (posn m a) a w hf (idx_posn hf ha).2 (hid (idx_posn hf ha).1.symm)
    have da : (ints (List.replicate n (-1)))[a]? = some (.int .i64 (-1)) := by rw [ints_at (by rw [List.length_replicate, ← hn.out]; exact ha), ga_none]
    have an : (a : Int) < (n : Int) := by have := hn.out; omega
    have ap : (0 : Int) ≤ (a : Int) := by omega
    have hmx : Tryd.prog.follows .mixedOrders = true := by kernel_rfl
    refine wp_onlyN (wp_region_any hmx (wpAny_of_late (lt := (fun x => x == 5)) (S := fun w' => Below X2.heap.size X2 w') _ _ _ _ ?_))
    show wpAnyM _ _ _ _ _ _ _ _ _ X2.drew
    have hS0 := (Below.refl X2.heap.size X2).drew
    refine late_tk (lt := (fun x => x == 5)) (i := 0) (v := .slice (some ⟨cb, 0, none⟩) n n) (some 17) rfl (fun w' hS => by (have q0 := (y2.below hS).cell 0); go_simp) hS0 ?_
    try simp only [Act.put, List.setIfInBounds_toArray, List.set_cons_zero, List.set_cons_succ]
    refine late_tk (lt := (fun x => x == 5)) (i := 1) (v := .agg #[.int .i64 m.w, .int .i64 m.h, s, l, .int .i64 c]) (some 18) rfl (fun w' hS => by (have q0 := (y0.below hS).cell 0; have q1 := (y0.below hS).cell 1; have q2 := (y0.below hS).cell 2; have q3 := (y0.below hS).cell 3; have q4 := (y0.below hS).cell 4); go_simp) hS0 ?_
    try simp only [Act.put, List.setIfInBounds_toArray, List.set_cons_zero, List.set_cons_succ]
    refine late_tk (lt := (fun x => x == 5)) (i := 2) (v := .agg #[.int .i64 (posn m a).1, .int .i64 (posn m a).2]) (some 19) rfl (fun w' hS => by (have q0 := (y1.below hS).cell 0; have q1 := (y1.below hS).cell 1); go_simp) hS0 ?_
    try simp only [Act.put, List.setIfInBounds_toArray, List.set_cons_zero, List.set_cons_succ]
    refine late_one (i := 3) (by kernel_rfl) rfl (fun K hQ => ?_)
    go_simp
    ((with_reducible refine (ca _).mono ?_); rintro e w3 ⟨rfl, hb3⟩)
    have hS1 := below_call hS0 hb3
    clear hb3
    refine hQ.out _ _ (fun _ => hS1) ?_
    clear hQ
    try simp only [Act.put, List.setIfInBounds_toArray, List.set_cons_zero, List.set_cons_succ]
    refine late_tk (lt := (fun x => x == 5)) (i := 4) (v := .pointer (some ⟨cb, a, none⟩)) (some 21) rfl (fun w' hS => by (skip); go_simp) hS1 ?_
    try simp only [Act.put, List.setIfInBounds_toArray, List.set_cons_zero, List.set_cons_succ]
    have qc := (yc.below hS1).cell a
    rw [da] at qc
    have qf := (yc.below hS1).frozen a
    refine late_one (i := 5) (by kernel_rfl) rfl (fun K hQ => ?_)
    go_simp
    refine hQ.out _ _ (fun h => by cases h) ?_
    clear hQ
    try simp only [Act.put, List.setIfInBounds_toArray, List.set_cons_zero, List.set_cons_succ]
    refine late_done (by kernel_rfl) ?_ _
    simp only [onlyN]
    have e0 : ints ((List.replicate n (-1)).set a 0) = (ints (List.replicate n (-1))).set a (.int .i64 0) := (ints_set _ _ _).symm
    have t0 : Blk (w3.setCell ⟨cb, a, none⟩ (.int .i64 0)) b0 (grdL m s l c) 46 := (y0.below hS1).far _ (by omega)
    have t1 : Blk (w3.setCell ⟨cb, a, none⟩ (.int .i64 0)) b1 (ptL (posn m a)) 27 := (y1.below hS1).far _ (by omega)
    have t2 : Blk (w3.setCell ⟨cb, a, none⟩ (.int .i64 0)) b2 [.slice (some ⟨cb, 0, none⟩) n n] 41 := (y2.below hS1).far _ (by omega)
    have tc : Blk (w3.setCell ⟨cb, a, none⟩ (.int .i64 0)) cb (ints ((List.replicate n (-1)).set a 0)) 3 := by rw [e0]; exact (yc.below hS1).set a _
    have tF : Blk (w3.setCell ⟨cb, a, none⟩ (.int .i64 0)) F [.slice none 0 0, .int .i64 0] 72 := (hF.below hS1).far _ (by omega)
    have hWt : Below W.heap.size W (w3.setCell ⟨cb, a, none⟩ (.int .i64 0)) := (below_call hWX hS1).setCell (p := ⟨cb, a, none⟩) (show W.heap.size ≤ cb from kc.2) _
    have hszt : F < (w3.setCell ⟨cb, a, none⟩ (.int .i64 0)).heap.size := tF.lt
    generalize w3.setCell ⟨cb, a, none⟩ (.int .i64 0) = T at *
    clear hS0 hS1 y0 y1 y2 yc hF e0 ca da qc qf hWX hFlt
    have fr0 : Fr T m (F + 1) F (.slice none 0 0) [] [] 0 := ⟨tF, World.ownsRow_nil _ _ _ _, rfl, fun i u h => by simp at h, fun i j u u' h => by simp at h, by omega⟩
    have cadd := asadd_b m a 0 (posn m a).1 (posn m a).2 T (F + 1) F (.slice none 0 0) [] [] 0 fr0 (hid rfl) (hid rfl) (by omega) (by omega) (by simp) (by unfold bk; simp) (by omega)
    have p0 := t1.cell 0
    have p1 := t1.cell 1
    go_upto_region 8 with (go_at_call 47; refine cadd.mono ?_; rintro e w4 ⟨rfl, v1, vs1, g1, g2, -⟩)
    have nfb : ∀ b, Fb F (.slice none 0 0) [] b → b = F := fun b hb => by
      rcases hb with rfl | hb | ⟨u, hu, _⟩
      · rfl
      · simp [Value.ownBlock] at hb
      · simp at hu
    have s0 := g2.blk t0 (fun h => by have := nfb _ h; omega)
    have s2 := g2.blk t2 (fun h => by have := nfb _ h; omega)
    have sc := g2.blk tc (fun h => by have := nfb _ h; omega)
    have hW4 : Below W.heap.size W w4 := hWt.trans (g2.below (fun b hb => by have := nfb b hb; omega) hWt.size)
    have sc' : Blk w4 cb (ints ((List.replicate m.cs.length (-1)).set a 0)) 3 := by rw [hn.out]; exact sc
    have hF4 : F + 1 ≤ w4.heap.size := g1.blk.lt
    have ex : ∀ b, b < cb → ¬ Ex cb F v1 vs1 b := fun b hb h => by
      rcases h with h | h
      · omega
      · rcases (g1.fb_lt h).2 with h | h <;> omega
    have hS4 : Srch w4 m bl c a (F + 1) F cb v1 vs1 [[a]] ((List.replicate m.cs.length (-1)).set a 0) 0 [a] (fun _ => False) := ⟨g1, sc', Bkt.start ha⟩
    have exge : ∀ b, Ex cb F v1 vs1 b → W.heap.size ≤ b := fun b hb => Ex.ge g1 kc.2 (by omega) hb
    clear t0 t1 t2 tc hWt hszt p0 p1 cadd fr0 nfb sc sc' g1 g2 an ap
    go_upto_region 9 with fail
    go_loopw [6] (fun x wr => ∃ (cc : Nat) (v : Value) (vs : List Value) (L : List (List Nat)) (D : List Int), x = .int .i64 cc ∧ cc ≤ 20000 ∧ (bk L cc).length ≤ m.cs.length ∧ Srch wr m bl c a (F + 1) F cb v vs L D cc (bk L cc) (fun _ => False) ∧ Foot (Ex cb F v1 vs1) w4 (Ex cb F v vs) wr) (fun x _ => 20001 - (intOf x).toNat)
    case atStart => exact ⟨0, v1, vs1, [[a]], _, rfl, by omega, by show 1 ≤ _; omega, hS4, Foot.refl _ _⟩
    case round =>
      clear hS4
      obtain ⟨cc, v, vs, L, D, rfl, hcc, hbl, hS, hFt⟩ := hrel
      obtain ⟨nL, hnL⟩ : ∃ nL, Hid (nL = L.length) := ⟨_, hid rfl⟩
      have hvl : vs.length = nL := by rw [hnL.out]; exact hS.fr.len
      obtain ⟨q, cap, hv⟩ : ∃ q cap, v = .slice q nL cap := by
        rcases hS.fr.row.2 with ⟨e, e2⟩ | ⟨g, cap, cur, e, _⟩
        · exact ⟨none, 0, by rw [e, ← hvl, e2]⟩
        · exact ⟨_, _, by rw [e, hvl]⟩
      subst hv
      have hll := hS.bkt.lenL
      have hnb : nL ≤ 20000 := by have := hnL.out; omega
      have c0 := hS.fr.blk.cell 0
      simp only [List.getElem?_cons_zero] at c0
      have s0r := hFt.blk s0 (ex _ (by omega))
      have s2r := hFt.blk s2 (ex _ (by omega))
      have hWr : Below W.heap.size W wr := hW4.trans (hFt.below exge hW4.size)
      have hFr2 := hFt.size
      by_cases hlt : cc < nL
      · obtain ⟨R0, hR0⟩ : ∃ R0, R0 = bk L cc := ⟨_, rfl⟩
        obtain ⟨u, hu⟩ : ∃ u, vs[cc]? = some u := ⟨_, List.getElem?_eq_getElem (by omega)⟩
        have hou := hS.fr.each cc u hu
        rw [← hR0] at hou hbl hS
        obtain ⟨nR, hnR⟩ : ∃ nR, Hid (R0.length = nR) := ⟨_, hid rfl⟩
        obtain ⟨qu, cu, hue⟩ : ∃ qu cu, u = .slice qu nR cu := by
          rw [hnR.out] at hou
          rcases hou.2 with ⟨e, e2⟩ | ⟨g, cap, cur, e, _⟩
          · exact ⟨none, 0, by rw [e, e2]⟩
          · exact ⟨_, _, e⟩
        subst hue
        obtain ⟨gv, hq⟩ : ∃ gv, q = some ⟨gv, 0, none⟩ := by
          rcases hS.fr.row.2 with ⟨_, e2⟩ | ⟨g, cap2, cur, e, _⟩
          · omega
          · injection e with e _ _; exact ⟨g, e⟩
        subst hq
        have hrow := hS.fr.row
        rw [hvl] at hrow
        have cv := hrow.cellAt cc (by omega)
        rw [hu] at cv
        have ccp : (0 : Int) ≤ (cc : Int) := by omega
        have ccn : (cc : Int) < (nL : Int) := by omega
        have hnRb : nR ≤ 1024 := by rw [← hnR.out]; omega
        go_upto_region 12 with fail
        clear hll hrow cv c0 hvl hbl
        have hRl : ∀ q, q ∈ R0 → q < m.cs.length := hS.bkt.okR
        have hR1 : R0.length ≤ 1024 := by rw [hnR.out]; exact hnRb
        clear hou
        go_loopw [37] (fun y w' => ∃ (j : Nat) (v' : Value) (vs' : List Value) (L' : List (List Nat)) (D' : List Int), y = .int .i64 j ∧ j ≤ nR ∧ Srch w' m bl c a (F + 1) F cb v' vs' L' D' cc (R0.drop j) (fun _ => False) ∧ Foot (Ex cb F v1 vs1) w4 (Ex cb F v' vs') w' ∧ vs'[cc]? = some (.slice qu nR cu) ∧ bk L' cc = R0) (fun y _ => nR - (intOf y).toNat)
        case atStart => exact ⟨0, _, vs, L, D, rfl, by omega, hS, hFt, hu, hR0.symm⟩
        case round =>
          clear hS hFt hu hR0 s0r s2r hWr hFr2
          obtain ⟨j, v', vs', L', D', rfl, hj, hS, hFt, hu, hR0⟩ := hrel
          have hFr2 := hFt.size
          have s0r := hFt.blk s0 (ex _ (by omega))
          have s2r := hFt.blk s2 (ex _ (by omega))
          have hWr : Below W.heap.size W wr := hW4.trans (hFt.below exge hW4.size)
          by_cases hjl : j < nR
          · have hjR : j < R0.length := by rw [hnR.out]; exact hjl
            obtain ⟨k, hk⟩ : ∃ k, k = R0[j] := ⟨_, rfl⟩
            have hdr : R0.drop j = k :: R0.drop (j + 1) := by rw [hk]; exact List.drop_eq_getElem_cons hjR
            have hkn : k < m.cs.length := hRl k (by rw [hk]; exact List.getElem_mem hjR)
            have hou := hS.fr.each cc _ hu
            rw [hR0, hnR.out] at hou
            obtain ⟨gu, hq⟩ : ∃ gu, qu = some ⟨gu, 0, none⟩ := by
              rcases hou.2 with ⟨_, e2⟩ | ⟨g, cap2, cur, e, _⟩
              · omega
              · injection e with e _ _; exact ⟨g, e⟩
            subst hq
            have pj := pcells_at (R0.map (posn m)) j (by rw [List.length_map]; exact hjR)
            rw [List.getElem_map, ← hk, Nat.mul_comm 2 j] at pj
            have pc0 := (hou.cellAt (j * 2) (by omega)).trans pj.1
            have pc1 := (hou.cellAt (j * 2 + 1) (by omega)).trans pj.2
            have jp : (0 : Int) ≤ (j : Int) := by omega
            have jn : (j : Int) < (nR : Int) := by omega
            clear pj hou hk
            go_upto_region 14 with fail
            have hbx := (Below.refl wr.heap.size wr).alloc (Nat.le_refl _) (.cells [Value.int .i64 (posn m k).1, .int .i64 (posn m k).2].toArray 27)
            have sp := Blk.new wr (ptL (posn m k)) 27
            have sS := hS.below hbx
            have s0q := s0r.below hbx
            have s2q := s2r.below hbx
            have hWq := below_call hWr hbx
            have hFq : Foot (Ex cb F v' vs') wr (Ex cb F v' vs') _ := Foot.of_below hbx
            have hBx : ¬ Fb F v' vs' wr.heap.size := fun h => by have := (hS.fr.fb_lt h).1; omega
            have hBx2 : wr.heap.size ≠ F := by have := hS.fr.blk.lt; omega
            generalize wr.alloc (.cells [Value.int .i64 (posn m k).1, .int .i64 (posn m k).2].toArray 27) = Y1 at *
            generalize hzz : wr.heap.size = Bp at *
            have hY1s : Bp < Y1.heap.size := sp.lt
            have hY1F : F < Y1.heap.size := sS.fr.blk.lt
            obtain ⟨cN, hcN⟩ : ∃ cN, Hid (cN = ((tot L' (cc + 1) + (R0.drop j).length : Nat) : Int)) := ⟨_, hid rfl⟩
            have hcb : 1 ≤ cN ∧ cN ≤ 30000000 := by
              have h1 := sS.bkt.total
              have h2 : (19 * m.cs.length + 1) * m.cs.length ≤ 20000 * 1024 := Nat.mul_le_mul (by omega) hcl
              rw [hcN.out, hdr, List.length_cons, List.length_drop]
              omega
            have sfr := sS.fr
            rw [← hcN.out] at sfr
            have d1 := sfr.blk.cell 1
            have d2 := sfr.blk.frozen 1
            simp only [List.getElem?_cons_zero, List.getElem?_cons_succ] at d1
            have nsub : IntKind.i64.wrap (cN - 1) = cN - 1 := IntWalk.i64_in _ (by omega)
            obtain ⟨e1, e2⟩ := sfr.count (cN - 1)
            have e3 : Hid (cN - 1 = ((tot L' (cc + 1) + (R0.drop (j + 1)).length : Nat) : Int)) := hid (by
              rw [hcN.out, hdr, List.length_cons]; push_cast; omega)
            have x0 : Blk (Y1.setCell ⟨F, 1, none⟩ (.int .i64 (cN - 1))) b0 (grdL m s l c) 46 := s0q.far _ (by omega)
            have x2 : Blk (Y1.setCell ⟨F, 1, none⟩ (.int .i64 (cN - 1))) b2 [.slice (some ⟨cb, 0, none⟩) n n] 41 := s2q.far _ (by omega)
            have xp : Blk (Y1.setCell ⟨F, 1, none⟩ (.int .i64 (cN - 1))) Bp (ptL (posn m k)) 27 := sp.far _ hBx2
            have xc : Blk (Y1.setCell ⟨F, 1, none⟩ (.int .i64 (cN - 1))) cb (ints D') 3 := sS.cost.far _ (by omega)
            have xW : Below W.heap.size W (Y1.setCell ⟨F, 1, none⟩ (.int .i64 (cN - 1))) := hWq.setCell (p := ⟨F, 1, none⟩) (show W.heap.size ≤ F by omega) _
            have xF := hFt.trans (hFq.trans (e2.wider (C := Ex cb F v' vs') (C' := Ex cb F v' vs') (fun _ h => .inr h) (fun b hb => .inl (.inr hb))))
            have xB := sS.bkt
            clear hFq hFt hFr2 hWr s0r s2r hS sp sS s0q s2q hWq sfr e2 hbx pc0 pc1 hzz
            go_upto_region 15 with fail
            generalize Y1.setCell ⟨F, 1, none⟩ (.int .i64 (cN - 1)) = Y2 at *
            rw [e3.out] at e1
            clear d1 d2 nsub hcb hcN e3 hY1s hY1F
            obtain ⟨dk, hdk⟩ : ∃ dk, Hid (dk = ga D' k) := ⟨_, hid rfl⟩
            obtain ⟨b9, hb9⟩ : ∃ b9, Hid (b9 = (dk == (cc : Int))) := ⟨_, hid rfl⟩
            have dkE : (ints D')[k]? = some (.int .i64 dk) := by rw [hdk.out]; exact ints_at (by rw [xB.base.len]; exact hkn)
            have ck := fun w => asidx_b m s l c (posn m k) k w hf (idx_posn hf hkn).2 (hid (idx_posn hf hkn).1.symm)
            have kp : (0 : Int) ≤ (k : Int) := by omega
            have kn : (k : Int) < (n : Int) := by have := hn.out; omega
            refine wp_onlyN (wp_region_held (S := fun w' => Below Y2.heap.size Y2 w') hmx ?_)
            show wpAnyH _ _ _ _ _ _ _ _ Y2.drew
            have hS0 := (Below.refl Y2.heap.size Y2).drew
            refine reg_tk (i := 0) (v := .slice (some ⟨cb, 0, none⟩) n n) (some 45) rfl (fun w' hS => by (have q0 := (x2.below hS).cell 0); go_simp) hS0 ?_
            try simp only [Act.put, List.setIfInBounds_toArray, List.set_cons_zero, List.set_cons_succ]
            refine reg_tk (i := 1) (v := .agg #[.int .i64 m.w, .int .i64 m.h, s, l, .int .i64 c]) (some 46) rfl (fun w' hS => by (have q0 := (x0.below hS).cell 0; have q1 := (x0.below hS).cell 1; have q2 := (x0.below hS).cell 2; have q3 := (x0.below hS).cell 3; have q4 := (x0.below hS).cell 4); go_simp) hS0 ?_
            try simp only [Act.put, List.setIfInBounds_toArray, List.set_cons_zero, List.set_cons_succ]
            refine reg_tk (i := 2) (v := .agg #[.int .i64 (posn m k).1, .int .i64 (posn m k).2]) (some 47) rfl (fun w' hS => by (have q0 := (xp.below hS).cell 0; have q1 := (xp.below hS).cell 1); go_simp) hS0 ?_
            try simp only [Act.put, List.setIfInBounds_toArray, List.set_cons_zero, List.set_cons_succ]
            refine reg_tk (i := 6) (v := .int .i64 cc) (some 51) rfl (fun w' hS => by (skip); go_simp) hS0 ?_
            try simp only [Act.put, List.setIfInBounds_toArray, List.set_cons_zero, List.set_cons_succ]
            refine held_one (i := 3) (by kernel_rfl) rfl (fun K hQ => ?_)
            go_simp
            ((with_reducible refine (ck _).mono ?_); rintro e w7 ⟨rfl, hb7⟩)
            have hS1 := below_call hS0 hb7
            clear hb7
            refine hQ.out _ _ hS1 ?_
            clear hQ
            try simp only [Act.put, List.setIfInBounds_toArray, List.set_cons_zero, List.set_cons_succ]
            refine reg_tk (i := 4) (v := .pointer (some ⟨cb, k, none⟩)) (some 49) rfl (fun w' hS => by (skip); go_simp) hS1 ?_
            try simp only [Act.put, List.setIfInBounds_toArray, List.set_cons_zero, List.set_cons_succ]
            refine reg_tk (i := 5) (v := .int .i64 dk) (some 50) rfl (fun w' hS => by (have q0 := (xc.below hS).cell k; rw [dkE] at q0); go_simp) hS1 ?_
            try simp only [Act.put, List.setIfInBounds_toArray, List.set_cons_zero, List.set_cons_succ]
            refine reg_tk (i := 7) (v := .bool b9) (some 52) rfl (fun w' hS => by (have z9 := hb9.out.symm); go_simp) hS1 ?_
            try simp only [Act.put, List.setIfInBounds_toArray, List.set_cons_zero, List.set_cons_succ]
            refine wpAnyH_done (by kernel_rfl) ?_ _
            simp only [onlyN]
            have xF7 := xF.trans (Foot.of_below hS1)
            have xW7 := below_call xW hS1
            rw [hdr] at xB
            have e7 := e1.below hS1
            have c7 := xc.below hS1
            have p0 := (x0.below hS1).cell 0
            have p1 := (x0.below hS1).cell 1
            have p2 := (x0.below hS1).cell 2
            have p3 := (x0.below hS1).cell 3
            have p4 := (x0.below hS1).cell 4
            have p5 := (x2.below hS1).cell 0
            have p6 := (xp.below hS1).cell 0
            have p7 := (xp.below hS1).cell 1
            simp only [List.getElem?_cons_zero, List.getElem?_cons_succ] at p0 p1 p2 p3 p4 p5 p6 p7
            have hszF : F + 1 ≤ w7.heap.size := e7.blk.lt
            have nadd : IntKind.i64.wrap ((j : Int) + 1) = ((j + 1 : Nat) : Int) := by rw [IntWalk.i64_in _ (by omega)]; simp
            clear hS0 hS1 xF xW e1 xc x0 x2 xp ck dkE kp kn jp jn
            cases b9 with
            | true =>
              have hdc : ga D' k = cc := by have h1 := hb9.out; rw [hdk.out] at h1; exact eq_of_beq h1.symm
              obtain ⟨xB1, xM⟩ := xB.take hdc
              have cex := asexam_b m s bl l c a k (F + 1) F cb n v' vs' L' D' cc (R0.drop (j + 1)) W w7 hG xW7 hf hkn ha hn ⟨e7, c7, xB1⟩ xM (by rw [List.length_drop]; omega) kc.2 (by omega) (by omega) hszF
              clear hb9 hdk hdc xB xB1 xM e7 c7
              go_wp2_with (go_at_call 48; refine cex.mono ?_; rintro e w8 ⟨rfl, v8, vs8, L8, D8, h1, h2, h3, h4⟩)
              go_roundw
              case rel => exact ⟨j + 1, v8, vs8, L8, D8, by simp, by omega, h1, xF7.trans h2, h3 cc _ (Nat.le_refl _) hu, (h4 cc (Nat.le_refl _)).trans hR0⟩
              case measure => simp [intOf]; omega
            | false =>
              have hdc : ga D' k ≠ cc := fun h => by have h1 := hb9.out; rw [hdk.out, h] at h1; simp at h1
              have xB1 := xB.skip hdc
              have hS7 : Srch w7 m bl c a (F + 1) F cb v' vs' L' D' cc (R0.drop (j + 1)) (fun _ => False) := ⟨e7, c7, xB1⟩
              clear hb9 hdk hdc xB xB1 e7 c7 p0 p1 p2 p3 p4 p5 p6 p7
              go_wp2_with fail
              go_roundw
              case rel => exact ⟨j + 1, v', vs', L', D', by simp, by omega, hS7, xF7, hu, hR0⟩
              case measure => simp [intOf]; omega
          · obtain rfl : j = nR := by omega
            rw [List.drop_eq_nil_of_le (by rw [hnR.out]; exact Nat.le_refl _)] at hS
            have hsm := hS.bkt.small (i := cc + 1) (by omega)
            have hnx : Srch wr m bl c a (F + 1) F cb v' vs' L' D' (cc + 1) (bk L' (cc + 1)) (fun _ => False) := by
              refine ⟨?_, hS.cost, hS.bkt.next⟩
              have e : tot L' (cc + 1) + ([] : List Nat).length = tot L' (cc + 1 + 1) + (bk L' (cc + 1)).length := by rw [tot_next L' (cc + 1)]; simp; omega
              rw [← e]; exact hS.fr
            have nadd : IntKind.i64.wrap ((cc : Int) + 1) = ((cc + 1 : Nat) : Int) := by rw [IntWalk.i64_in _ (by omega)]; simp
            clear hS hRl hR0 hu
            go_wp2_with fail
            go_roundw
            case rel => exact ⟨cc + 1, v', vs', L', D', by simp, by omega, hsm, hnx, hFt⟩
            case measure => simp [intOf]; omega
      · have hb0 : bk L cc = [] := by unfold bk; rw [List.getD_eq_getElem?_getD, List.getElem?_eq_none (by have := hnL.out; omega)]; rfl
        have hover := hS.bkt
        rw [hb0] at hover
        have hbnd : ∀ q, -1 ≤ ga D q ∧ ga D q ≤ 30000 := fun q => ⟨hover.base.low q, by have := hover.base.bound (nb_ok hf bl c) ha q; omega⟩
        have hdist := hover.over (by have := hnL.out; omega)
        have hcnt : ((tot L (cc + 1) + (bk L cc).length : Nat) : Int) = 0 := by rw [hb0, tot_end L (cc + 1) (by have := hnL.out; omega)]; rfl
        have c1 := hS.fr.blk.cell 1
        simp only [List.getElem?_cons_zero, List.getElem?_cons_succ] at c1
        rw [hcnt] at c1
        have r0 := s2r.cell 0
        have r1 := s2r.frozen 0
        simp only [List.getElem?_cons_zero] at r0
        have c1' : (wr.setCell ⟨b2, 0, none⟩ (.slice (some ⟨cb, 0, none⟩) n n)).cell? ⟨F, 1, none⟩ = some (.int .i64 0) := (World.cell?_of_block (w := wr) (Below.heap_setCell wr ⟨b2, 0, none⟩ _ F (show F ≠ b2 by omega))).trans c1
        have y3 := (s2r.set 0 (.slice (some ⟨cb, 0, none⟩) n n)).cell 0
        simp only [List.set_cons_zero, List.getElem?_cons_zero] at y3
        have hcost := hS.cost.far (c := b2) (i := 0) (.slice (some ⟨cb, 0, none⟩) n n) (show cb ≠ b2 by omega)
        have hfin : CostsP m bl c a n W (.returned (.slice (some ⟨cb, 0, none⟩) n n)) (wr.setCell ⟨b2, 0, none⟩ (.slice (some ⟨cb, 0, none⟩) n n)) := by
          refine ⟨cb, D, rfl, kc.2, hcost, ?_, hbnd, hWr.setCell (p := ⟨b2, 0, none⟩) (show W.heap.size ≤ b2 by omega) _⟩
          unfold Dst
          rw [if_pos hfr.out.symm]; exact hdist
        clear hdist hover hcost hS hll hbnd
        go_wp2_with fail
        refine leaves_cons (f := 46) (args := #[.pointer (some ⟨F, 0, none⟩), .pointer (some ⟨b0, 0, none⟩), .pointer (some ⟨b2, 0, none⟩)]) (by simp) (by simp [go_sem]) ?_
        refine (asdone_d F b0 b2 .returning _ c1').mono ?_
        rintro e u' w'' ⟨rfl, rfl, rfl⟩
        exact ⟨.slice (some ⟨cb, 0, none⟩) n n, by simp [results, Tryd.results26, go_sem, y3], hfin⟩

end Go.Proofs.YtbdgpldhfemejaaDoor
