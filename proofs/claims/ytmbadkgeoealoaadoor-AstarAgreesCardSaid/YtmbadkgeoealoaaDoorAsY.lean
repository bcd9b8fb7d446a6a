/-
  The laws of astar: the cost of a path is that of Cost and of Reach in both directions.
-/
import Derived.Test.YtmbadkgeoealoaaDoorAsW
import Derived.Test.YtmbadkgeoealoaaDoorAsV
namespace Go.Proofs.YtmbadkgeoealoaaDoor
open Go.RowKit Go.Lib

/-- What a path that Path gives is, for Cost. -/
theorem agr_path {m : M3} {bl : List Bool} {c : Int} {a b : Pt} {v : Value} {n : Int} {w : World} (h : PathF m bl c a b v n 0 w) :
    okA m c a b = true ∧ frA m bl c a b = true ∧ ∃ ps : List Pt, PsAt w v ps ∧ ps.length ≤ 100000 ∧ costA m bl c ps = (n, 0) ∧ 0 < ps.length ∧ ps[0]? = some a ∧ ps[ps.length - 1]? = some b := by
  obtain ⟨o1, f1, D, hd, h0, hn, hp⟩ := h.good rfl
  have o2 := o1
  unfold okA at o2
  simp only [Bool.and_eq_true] at o2
  have hf : formedv m = true := classv_of (c := c) (by rw [o2.1.1.1, o2.1.1.2]; rfl)
  have lb := (posn_idx hf o2.2).2.1
  obtain ⟨c1, ⟨t, c2⟩, c3⟩ := path_cost o1 f1 hd h0
  have hlen := (path_run (nb_ok hf bl c) lb hd (ga D (idx m a)).toNat (idx m a) h0 (by omega)).2.2
  refine ⟨o1, f1, _, hp, ?_, by rw [c1, hn], by rw [c2]; simp, by rw [c2]; rfl, ?_⟩
  · rw [List.length_map]
    have := h.num.2
    omega
  · rw [← List.getLast?_eq_getElem?]; exact c3
/-- What Reach says from either end. -/
theorem agr_dist {m : M3} {bl : List Bool} {c : Int} {a b : Pt} {v : Value} {n : Int} {w : World} (h : PathF m bl c a b v n 0 w) :
    (∀ E, Dst m bl c (idx m a) E → ga E (idx m b) = n ∧ E.length = m.cs.length) ∧ (∀ E, Dst m bl c (idx m b) E → ga E (idx m a) = n ∧ E.length = m.cs.length) := by
  obtain ⟨o1, f1, D, hd, h0, hn, _⟩ := h.good rfl
  unfold okA at o1
  unfold frA at f1
  simp only [Bool.and_eq_true] at o1 f1
  have hf : formedv m = true := classv_of (c := c) (by rw [o1.1.1.1, o1.1.1.2]; rfl)
  have ok := nb_ok hf bl c
  obtain ⟨pa, la, _⟩ := posn_idx hf o1.1.2
  obtain ⟨pb, lb, _⟩ := posn_idx hf o1.2
  refine ⟨fun E hE => ?_, fun E hE => ?_⟩
  · unfold Dst at hE
    rw [pa, if_pos f1.1] at hE
    exact ⟨by rw [hn]; exact dist_both ok la lb hd hE h0, hE.len⟩
  · unfold Dst at hE
    rw [pb, if_pos f1.2] at hE
    exact ⟨by rw [hn, hE.eq hd], hE.len⟩
/-- Reach of a position inside a valid map. -/
theorem asreach_t (m : M3) (sp : Option Addr) (sn sk : Nat) (bl : List Bool) (lp : Option Addr) (ln lk : Nat) (c : Int) (p : Pt) (W : World) (hG : Gd W m (.slice sp sn sk) bl (.slice lp ln lk)) (hv : (validm m && classv c) = true) (hp : insp m p = true) :
    Calls Tryd.prog 21 #[.agg #[.int .i64 m.w, .int .i64 m.h, .slice sp sn sk], .slice lp ln lk, .int .i64 c, .agg #[.int .i64 p.1, .int .i64 p.2]] W fun e w' =>
      ∃ b D, e = .returned (.slice (some ⟨b, 0, none⟩) m.cs.length m.cs.length) ∧ W.heap.size ≤ b ∧ Blk w' b (ints D) 3 ∧ Dst m bl c (idx m p) D ∧ Below W.heap.size W w' :=
  (asreach_b m sp sn sk bl lp ln lk c p.1 p.2 true m.cs.length W hG (hid rfl) (hid (by rw [hv]; exact hp.symm))).mono fun e w' h => by
    rcases h with ⟨h, _⟩ | ⟨_, b, D, h1, h2, h3, h4, _, h6⟩
    · cases h
    · exact ⟨b, D, h1, h2, h3, h4, h6⟩

set_option maxRecDepth 100000 in
set_option maxHeartbeats 8000000 in
theorem law14_agrees (m : M3) (s : Value) (bl : List Bool) (l : Value) (c : Int) (a b d : Pt) (W : World) (hE : EnvT W) (hn : HighAt m) (hr : RowAt W s m.cs) (hl : BitsAt W l bl) :
    Calls Tryd.prog 6 #[.agg #[.int .i64 m.w, .int .i64 m.h, s, l, .int .i64 c, .int .i64 a.1, .int .i64 a.2, .int .i64 b.1, .int .i64 b.2, .int .i64 d.1, .int .i64 d.2]] W fun e w' => e = .returned (.bool true) ∧ Below W.heap.size W w' := by
  have hG : Gd W m s bl l := ⟨hE, hn, hr, hl⟩
  obtain ⟨p0, c0, rfl⟩ := hr.slice
  obtain ⟨pl, kl, rfl, -⟩ := id hl
  obtain ⟨sm, hsm⟩ : ∃ sm, Hid (sm = decide (m.cs.length ≤ 1100 ∧ bl.length ≤ 2000)) := ⟨_, hid rfl⟩
  have ch := fun (w : World) => assmall_b m p0 pl bl.length c0 kl c a.1 a.2 b.1 b.2 d.1 d.2 sm w hsm
  have ca := fun (w : World) (hb : Below W.heap.size W w) => asalive_b w (hE.keep hb)
  have hB := Blk.new W [.int .i64 m.w, .int .i64 m.h, .slice p0 m.cs.length c0, .slice pl bl.length kl, .int .i64 c, .int .i64 a.1, .int .i64 a.2, .int .i64 b.1, .int .i64 b.2, .int .i64 d.1, .int .i64 d.2] 29
  have hW := (Below.refl W.heap.size W).alloc (Nat.le_refl _) (.cells [Value.int .i64 m.w, .int .i64 m.h, .slice p0 m.cs.length c0, .slice pl bl.length kl, .int .i64 c, .int .i64 a.1, .int .i64 a.2, .int .i64 b.1, .int .i64 b.2, .int .i64 d.1, .int .i64 d.2].toArray 29)
  go_enter Tryd.func6, Tryd.ntmps6
  go_upto_region 1 with fail
  obtain ⟨X, hX⟩ : ∃ X, X = W.alloc (.cells [Value.int .i64 m.w, .int .i64 m.h, .slice p0 m.cs.length c0, .slice pl bl.length kl, .int .i64 c, .int .i64 a.1, .int .i64 a.2, .int .i64 b.1, .int .i64 b.2, .int .i64 d.1, .int .i64 d.2].toArray 29) := ⟨_, rfl⟩
  rw [← hX] at hB hW ⊢
  clear hX
  have q0 := hB.cell 0
  have q1 := hB.cell 1
  have q2 := hB.cell 2
  have q3 := hB.cell 3
  have q4 := hB.cell 4
  have q5 := hB.cell 5
  have q6 := hB.cell 6
  have q7 := hB.cell 7
  have q8 := hB.cell 8
  have q9 := hB.cell 9
  have q10 := hB.cell 10
  simp only [List.getElem?_cons_zero, List.getElem?_cons_succ] at q0 q1 q2 q3 q4 q5 q6 q7 q8 q9 q10
  cases sm with
  | false =>
    go_wp2_with (first
      | (go_at_call 13; with_reducible refine (ch _).mono ?_; rintro e w1 ⟨rfl, hb⟩; replace hW := below_call hW hb; clear hb)
      | (go_at_call 14; with_reducible refine (ca _ hW).mono ?_; rintro e w2 ⟨rfl, hb⟩))
    go_ret
    exact ⟨rfl, below_call hW hb⟩
  | true =>
    go_wp2_with (go_at_call 13; with_reducible refine (ch _).mono ?_; rintro e w1 ⟨rfl, hb⟩; replace hW := below_call hW hb; replace hB := hB.below hb; clear hb ch; clear q0 q1 q2 q3 q4 q5 q6 q7 q8 q9 q10; have q0 := hB.cell 0; have q1 := hB.cell 1; have q2 := hB.cell 2; have q3 := hB.cell 3; have q4 := hB.cell 4; have q5 := hB.cell 5; have q6 := hB.cell 6; have q7 := hB.cell 7; have q8 := hB.cell 8; have q9 := hB.cell 9; have q10 := hB.cell 10; simp only [List.getElem?_cons_zero, List.getElem?_cons_succ] at q0 q1 q2 q3 q4 q5 q6 q7 q8 q9 q10)
    ((with_reducible refine (aspath_f m p0 m.cs.length c0 bl pl bl.length kl c a.1 a.2 b.1 b.2 w1 (hG.below hW)).mono ?_); rintro e w2 ⟨s1, s2, s3, ab, e1, rfl, hb, hp1⟩)
    replace hB := hB.below hb
    replace hW := below_call hW hb
    clear hb q0 q1 q2 q3 q4 q5 q6 q7 q8 q9 q10
    have q0 := hB.cell 0
    have q1 := hB.cell 1
    have q2 := hB.cell 2
    have q3 := hB.cell 3
    have q4 := hB.cell 4
    have q5 := hB.cell 5
    have q6 := hB.cell 6
    have q7 := hB.cell 7
    have q8 := hB.cell 8
    have q9 := hB.cell 9
    have q10 := hB.cell 10
    simp only [List.getElem?_cons_zero, List.getElem?_cons_succ] at q0 q1 q2 q3 q4 q5 q6 q7 q8 q9 q10
    by_cases h1 : e1 = 0
    · subst h1
      obtain ⟨o1, f1, ps, hps, hl1, hcost, hpos, hfst, hlst⟩ := agr_path hp1
      obtain ⟨d1, d2⟩ := agr_dist hp1
      have hab := hp1.num
      clear hp1
      have hcost := hid hcost.symm
      have hv : (validm m && classv c) = true := by unfold okA at o1; simp only [Bool.and_eq_true] at o1; rw [o1.1.1.1, o1.1.1.2]; rfl
      have ia1 : insp m a = true := by unfold okA at o1; simp only [Bool.and_eq_true] at o1; exact o1.1.2
      have ib1 : insp m b = true := by unfold okA at o1; simp only [Bool.and_eq_true] at o1; exact o1.2
      have hf := classv_of hv
      obtain ⟨m1, i1⟩ := law_idx hf ia1
      obtain ⟨m2, i2⟩ := law_idx hf ib1
      have la := (posn_idx hf ia1).2.1
      have lb := (posn_idx hf ib1).2.1
      have cc := ascostw_b m p0 m.cs.length c0 bl pl bl.length kl c ps (.slice s1 s2 s3) (ab, 0) w2 (hG.below hW) hps hl1 hcost
      obtain ⟨pp, cap, ep, hcap, hml, hat⟩ := id hps
      have hat' := hat hpos
      obtain ⟨g, o, rfl, hg, hi⟩ := hat'
      obtain ⟨rfl, rfl, rfl⟩ : s1 = some ⟨g, o, none⟩ ∧ s2 = ps.length ∧ s3 = cap := by injection ep with e1 e2 e3; exact ⟨e1, e2, e3⟩
      have hi0 := hi 0 hpos
      have hi9 := hi (ps.length - 1) (by omega)
      rw [List.getElem?_eq_getElem hpos] at hfst
      rw [List.getElem?_eq_getElem (by omega)] at hlst
      injection hfst with hfst
      injection hlst with hlst
      rw [hfst] at hi0
      rw [hlst] at hi9
      obtain ⟨f1', f2'⟩ := hi0
      obtain ⟨f3', f4'⟩ := hi9
      simp only [Nat.zero_mul, Nat.add_zero] at f1' f2'
      obtain ⟨n, hnn⟩ : ∃ n, n = ps.length := ⟨_, rfl⟩
      rw [← hnn] at cc f3' f4' hpos hml hcap ⊢
      clear hnn hfst hlst hi hat ep hps hcost hl1 f1
      go_wp2_with fail
      ((with_reducible refine cc.mono ?_); rintro e w3 ⟨rfl, hb3⟩)
      clear cc
      replace hB := hB.below hb3
      have f1 := (hb3.cell (p := ⟨g, o, none⟩) hg).trans f1'
      have f2 := (hb3.cell (p := ⟨g, o + 1, none⟩) hg).trans f2'
      have f3 := (hb3.cell (p := ⟨g, o + (n - 1) * 2, none⟩) hg).trans f3'
      have f4 := (hb3.cell (p := ⟨g, o + (n - 1) * 2 + 1, none⟩) hg).trans f4'
      replace hW := below_call hW hb3
      have hg3 : g < w3.heap.size := by have := hb3.size; omega
      clear hb3 q0 q1 q2 q3 q4 q5 q6 q7 q8 q9 q10 f1' f2' f3' f4' hg
      have ra := fun w (hS : Below w3.heap.size w3 w) => asreach_t m p0 m.cs.length c0 bl pl bl.length kl c a w (hG.below (below_call hW hS)) hv ia1
      have rb := fun w (hS : Below w3.heap.size w3 w) => asreach_t m p0 m.cs.length c0 bl pl bl.length kl c b w (hG.below (below_call hW hS)) hv ib1
      have hmx : Tryd.prog.follows .mixedOrders = true := by kernel_rfl
      go_upto_region 7 with fail
      refine wp_onlyN (wp_region_held (S := fun w' => Below w3.heap.size w3 w') hmx ?_)
      show wpAnyH _ _ _ _ _ _ _ _ w3.drew
      have hS0 := (Below.refl w3.heap.size w3).drew
      refine reg_tk (i := 0) (v := .pointer (some ⟨W.heap.size, 0, none⟩)) (some 54) rfl (fun w' hS => by (skip); go_simp) hS0 ?_
      try simp only [Act.put, List.setIfInBounds_toArray, List.set_cons_zero, List.set_cons_succ]
      refine reg_tk (i := 1) (v := .agg #[.int .i64 m.w, .int .i64 m.h, .slice p0 m.cs.length c0]) (some 55) rfl (fun w' hS => by (have c0 := (hB.below hS).cell 0; have c1 := (hB.below hS).cell 1; have c2 := (hB.below hS).cell 2; simp only [List.getElem?_cons_zero, List.getElem?_cons_succ] at c0 c1 c2); go_simp) hS0 ?_
      try simp only [Act.put, List.setIfInBounds_toArray, List.set_cons_zero, List.set_cons_succ]
      refine reg_tk (i := 2) (v := .pointer (some ⟨W.heap.size, 3, none⟩)) (some 56) rfl (fun w' hS => by (skip); go_simp) hS0 ?_
      try simp only [Act.put, List.setIfInBounds_toArray, List.set_cons_zero, List.set_cons_succ]
      refine reg_tk (i := 3) (v := .slice pl bl.length kl) (some 57) rfl (fun w' hS => by (have c3 := (hB.below hS).cell 3; simp only [List.getElem?_cons_zero, List.getElem?_cons_succ] at c3); go_simp) hS0 ?_
      try simp only [Act.put, List.setIfInBounds_toArray, List.set_cons_zero, List.set_cons_succ]
      refine reg_tk (i := 4) (v := .pointer (some ⟨W.heap.size, 4, none⟩)) (some 58) rfl (fun w' hS => by (skip); go_simp) hS0 ?_
      try simp only [Act.put, List.setIfInBounds_toArray, List.set_cons_zero, List.set_cons_succ]
      refine reg_tk (i := 5) (v := .int .i64 c) (some 59) rfl (fun w' hS => by (have c4 := (hB.below hS).cell 4; simp only [List.getElem?_cons_zero, List.getElem?_cons_succ] at c4); go_simp) hS0 ?_
      try simp only [Act.put, List.setIfInBounds_toArray, List.set_cons_zero, List.set_cons_succ]
      refine reg_tk (i := 6) (v := .pointer (some ⟨W.heap.size, 5, none⟩)) (some 60) rfl (fun w' hS => by (skip); go_simp) hS0 ?_
      try simp only [Act.put, List.setIfInBounds_toArray, List.set_cons_zero, List.set_cons_succ]
      refine reg_tk (i := 7) (v := .agg #[.int .i64 a.1, .int .i64 a.2]) (some 61) rfl (fun w' hS => by (have c5 := (hB.below hS).cell 5; have c6 := (hB.below hS).cell 6; simp only [List.getElem?_cons_zero, List.getElem?_cons_succ] at c5 c6); go_simp) hS0 ?_
      try simp only [Act.put, List.setIfInBounds_toArray, List.set_cons_zero, List.set_cons_succ]
      refine reg_tk (i := 9) (v := .pointer (some ⟨W.heap.size, 0, none⟩)) (some 63) rfl (fun w' hS => by (skip); go_simp) hS0 ?_
      try simp only [Act.put, List.setIfInBounds_toArray, List.set_cons_zero, List.set_cons_succ]
      refine reg_tk (i := 10) (v := .agg #[.int .i64 m.w, .int .i64 m.h, .slice p0 m.cs.length c0]) (some 64) rfl (fun w' hS => by (have c0 := (hB.below hS).cell 0; have c1 := (hB.below hS).cell 1; have c2 := (hB.below hS).cell 2; simp only [List.getElem?_cons_zero, List.getElem?_cons_succ] at c0 c1 c2); go_simp) hS0 ?_
      try simp only [Act.put, List.setIfInBounds_toArray, List.set_cons_zero, List.set_cons_succ]
      refine reg_tk (i := 11) (v := .pointer (some ⟨W.heap.size, 3, none⟩)) (some 65) rfl (fun w' hS => by (skip); go_simp) hS0 ?_
      try simp only [Act.put, List.setIfInBounds_toArray, List.set_cons_zero, List.set_cons_succ]
      refine reg_tk (i := 12) (v := .slice pl bl.length kl) (some 66) rfl (fun w' hS => by (have c3 := (hB.below hS).cell 3; simp only [List.getElem?_cons_zero, List.getElem?_cons_succ] at c3); go_simp) hS0 ?_
      try simp only [Act.put, List.setIfInBounds_toArray, List.set_cons_zero, List.set_cons_succ]
      refine reg_tk (i := 13) (v := .pointer (some ⟨W.heap.size, 4, none⟩)) (some 67) rfl (fun w' hS => by (skip); go_simp) hS0 ?_
      try simp only [Act.put, List.setIfInBounds_toArray, List.set_cons_zero, List.set_cons_succ]
      refine reg_tk (i := 14) (v := .int .i64 c) (some 68) rfl (fun w' hS => by (have c4 := (hB.below hS).cell 4; simp only [List.getElem?_cons_zero, List.getElem?_cons_succ] at c4); go_simp) hS0 ?_
      try simp only [Act.put, List.setIfInBounds_toArray, List.set_cons_zero, List.set_cons_succ]
      refine reg_tk (i := 15) (v := .pointer (some ⟨W.heap.size, 7, none⟩)) (some 69) rfl (fun w' hS => by (skip); go_simp) hS0 ?_
      try simp only [Act.put, List.setIfInBounds_toArray, List.set_cons_zero, List.set_cons_succ]
      refine reg_tk (i := 16) (v := .agg #[.int .i64 b.1, .int .i64 b.2]) (some 70) rfl (fun w' hS => by (have c7 := (hB.below hS).cell 7; have c8 := (hB.below hS).cell 8; simp only [List.getElem?_cons_zero, List.getElem?_cons_succ] at c7 c8); go_simp) hS0 ?_
      try simp only [Act.put, List.setIfInBounds_toArray, List.set_cons_zero, List.set_cons_succ]
      refine held_one (i := 8) (by kernel_rfl) rfl (fun K hQ => ?_)
      go_simp
      ((with_reducible refine (ra _ hS0).mono ?_); rintro e w4 ⟨xa, Da, rfl, -, hBa, hDa, hb4⟩)
      have hS1 := below_call hS0 hb4
      clear hb4
      refine hQ.out _ _ hS1 ?_
      clear hQ
      try simp only [Act.put, List.setIfInBounds_toArray, List.set_cons_zero, List.set_cons_succ]
      refine held_one (i := 17) (by kernel_rfl) rfl (fun K hQ => ?_)
      go_simp
      ((with_reducible refine (rb _ hS1).mono ?_); rintro e w5 ⟨xb, Db, rfl, -, hBb, hDb, hb5⟩)
      replace hBa := hBa.below hb5
      have hS2 := below_call hS1 hb5
      refine hQ.out _ _ hS2 ?_
      clear hQ
      try simp only [Act.put, List.setIfInBounds_toArray, List.set_cons_zero, List.set_cons_succ]
      refine reg_tk (i := 18) (v := .slice (some ⟨xa, 0, none⟩) m.cs.length m.cs.length) (some 8) rfl (fun w' hS => by (skip); go_simp) hS2 ?_
      try simp only [Act.put, List.setIfInBounds_toArray, List.set_cons_zero, List.set_cons_succ]
      refine reg_tk (i := 19) (v := .slice (some ⟨xb, 0, none⟩) m.cs.length m.cs.length) (some 9) rfl (fun w' hS => by (skip); go_simp) hS2 ?_
      try simp only [Act.put, List.setIfInBounds_toArray, List.set_cons_zero, List.set_cons_succ]
      refine wpAnyH_done (by kernel_rfl) ?_ _
      try simp only [onlyN]
      have hkg : g < w5.heap.size := by have := hS2.size; omega
      replace f1 := (hS2.cell (p := ⟨g, o, none⟩) hg3).trans f1
      replace f2 := (hS2.cell (p := ⟨g, o + 1, none⟩) hg3).trans f2
      replace f3 := (hS2.cell (p := ⟨g, o + (n - 1) * 2, none⟩) hg3).trans f3
      replace f4 := (hS2.cell (p := ⟨g, o + (n - 1) * 2 + 1, none⟩) hg3).trans f4
      replace hB := hB.below hS2
      replace hW := below_call hW hS2
      obtain ⟨ia, hia⟩ : ∃ ia, Hid (ia = idx m a) := ⟨_, hid rfl⟩
      obtain ⟨ib, hib⟩ : ∃ ib, Hid (ib = idx m b) := ⟨_, hid rfl⟩
      obtain ⟨gA, lA⟩ := d1 Da hDa
      obtain ⟨gB, lB⟩ := d2 Db hDb
      rw [← hia.out] at i1 la gB
      rw [← hib.out] at i2 lb gA
      have gA2 := ints_at (D := Da) (i := ib) (by rw [lA]; exact lb)
      have gB2 := ints_at (D := Db) (i := ia) (by rw [lB]; exact la)
      rw [gA] at gA2
      rw [gB] at gB2
      obtain ⟨w6, hw6⟩ : ∃ w6, w6 = w5 := ⟨_, rfl⟩
      rw [← hw6] at hB hW hBa hBb f1 f2 f3 f4 hkg ⊢
      clear hw6 hS0 hS1 hS2 hDa hDb gA gB lA lB d1 d2 ra rb hb5 hg3 hv ia1 ib1 hf o1
      have gA := gA2
      have gB := gB2
      clear gA2 gB2
      go_upto_region 8 with fail
      refine wp_onlyN (wp_region_held (S := fun w' => Below w6.heap.size w6 w') hmx ?_)
      show wpAnyH _ _ _ _ _ _ _ _ w6.drew
      have hS0 := (Below.refl w6.heap.size w6).drew
      refine reg_tk (i := 0) (v := .pointer (some ⟨W.heap.size, 5, none⟩)) (some 72) rfl (fun w' hS => by (skip); go_simp) hS0 ?_
      try simp only [Act.put, List.setIfInBounds_toArray, List.set_cons_zero, List.set_cons_succ]
      refine reg_tk (i := 1) (v := .pointer (some ⟨W.heap.size, 6, none⟩)) (some 73) rfl (fun w' hS => by (skip); go_simp) hS0 ?_
      try simp only [Act.put, List.setIfInBounds_toArray, List.set_cons_zero, List.set_cons_succ]
      refine reg_tk (i := 2) (v := .int .i64 a.2) (some 74) rfl (fun w' hS => by (have c6 := (hB.below hS).cell 6; simp only [List.getElem?_cons_zero, List.getElem?_cons_succ] at c6); go_simp) hS0 ?_
      try simp only [Act.put, List.setIfInBounds_toArray, List.set_cons_zero, List.set_cons_succ]
      refine reg_tk (i := 3) (v := .pointer (some ⟨W.heap.size, 0, none⟩)) (some 75) rfl (fun w' hS => by (skip); go_simp) hS0 ?_
      try simp only [Act.put, List.setIfInBounds_toArray, List.set_cons_zero, List.set_cons_succ]
      refine reg_tk (i := 4) (v := .pointer (some ⟨W.heap.size, 0, none⟩)) (some 76) rfl (fun w' hS => by (skip); go_simp) hS0 ?_
      try simp only [Act.put, List.setIfInBounds_toArray, List.set_cons_zero, List.set_cons_succ]
      refine reg_tk (i := 5) (v := .int .i64 m.w) (some 77) rfl (fun w' hS => by (have c0 := (hB.below hS).cell 0; simp only [List.getElem?_cons_zero] at c0); go_simp) hS0 ?_
      try simp only [Act.put, List.setIfInBounds_toArray, List.set_cons_zero, List.set_cons_succ]
      refine reg_tk (i := 6) (v := .int .i64 (a.2 * m.w)) (some 78) rfl (fun w' hS => by (skip); go_simp) hS0 ?_
      try simp only [Act.put, List.setIfInBounds_toArray, List.set_cons_zero, List.set_cons_succ]
      refine reg_tk (i := 7) (v := .pointer (some ⟨W.heap.size, 5, none⟩)) (some 79) rfl (fun w' hS => by (skip); go_simp) hS0 ?_
      try simp only [Act.put, List.setIfInBounds_toArray, List.set_cons_zero, List.set_cons_succ]
      refine reg_tk (i := 8) (v := .pointer (some ⟨W.heap.size, 5, none⟩)) (some 80) rfl (fun w' hS => by (skip); go_simp) hS0 ?_
      try simp only [Act.put, List.setIfInBounds_toArray, List.set_cons_zero, List.set_cons_succ]
      refine reg_tk (i := 9) (v := .int .i64 a.1) (some 81) rfl (fun w' hS => by (have c5 := (hB.below hS).cell 5; simp only [List.getElem?_cons_zero, List.getElem?_cons_succ] at c5); go_simp) hS0 ?_
      try simp only [Act.put, List.setIfInBounds_toArray, List.set_cons_zero, List.set_cons_succ]
      refine reg_tk (i := 10) (v := .int .i64 ia) (some 82) rfl (fun w' hS => by (skip); go_simp) hS0 ?_
      try simp only [Act.put, List.setIfInBounds_toArray, List.set_cons_zero, List.set_cons_succ]
      refine reg_tk (i := 11) (v := .pointer (some ⟨W.heap.size, 7, none⟩)) (some 83) rfl (fun w' hS => by (skip); go_simp) hS0 ?_
      try simp only [Act.put, List.setIfInBounds_toArray, List.set_cons_zero, List.set_cons_succ]
      refine reg_tk (i := 12) (v := .pointer (some ⟨W.heap.size, 8, none⟩)) (some 84) rfl (fun w' hS => by (skip); go_simp) hS0 ?_
      try simp only [Act.put, List.setIfInBounds_toArray, List.set_cons_zero, List.set_cons_succ]
      refine reg_tk (i := 13) (v := .int .i64 b.2) (some 85) rfl (fun w' hS => by (have c8 := (hB.below hS).cell 8; simp only [List.getElem?_cons_zero, List.getElem?_cons_succ] at c8); go_simp) hS0 ?_
      try simp only [Act.put, List.setIfInBounds_toArray, List.set_cons_zero, List.set_cons_succ]
      refine reg_tk (i := 14) (v := .pointer (some ⟨W.heap.size, 0, none⟩)) (some 86) rfl (fun w' hS => by (skip); go_simp) hS0 ?_
      try simp only [Act.put, List.setIfInBounds_toArray, List.set_cons_zero, List.set_cons_succ]
      refine reg_tk (i := 15) (v := .pointer (some ⟨W.heap.size, 0, none⟩)) (some 87) rfl (fun w' hS => by (skip); go_simp) hS0 ?_
      try simp only [Act.put, List.setIfInBounds_toArray, List.set_cons_zero, List.set_cons_succ]
      refine reg_tk (i := 16) (v := .int .i64 m.w) (some 88) rfl (fun w' hS => by (have c0 := (hB.below hS).cell 0; simp only [List.getElem?_cons_zero] at c0); go_simp) hS0 ?_
      try simp only [Act.put, List.setIfInBounds_toArray, List.set_cons_zero, List.set_cons_succ]
      refine reg_tk (i := 17) (v := .int .i64 (b.2 * m.w)) (some 89) rfl (fun w' hS => by (skip); go_simp) hS0 ?_
      try simp only [Act.put, List.setIfInBounds_toArray, List.set_cons_zero, List.set_cons_succ]
      refine reg_tk (i := 18) (v := .pointer (some ⟨W.heap.size, 7, none⟩)) (some 90) rfl (fun w' hS => by (skip); go_simp) hS0 ?_
      try simp only [Act.put, List.setIfInBounds_toArray, List.set_cons_zero, List.set_cons_succ]
      refine reg_tk (i := 19) (v := .pointer (some ⟨W.heap.size, 7, none⟩)) (some 91) rfl (fun w' hS => by (skip); go_simp) hS0 ?_
      try simp only [Act.put, List.setIfInBounds_toArray, List.set_cons_zero, List.set_cons_succ]
      refine reg_tk (i := 20) (v := .int .i64 b.1) (some 92) rfl (fun w' hS => by (have c7 := (hB.below hS).cell 7; simp only [List.getElem?_cons_zero, List.getElem?_cons_succ] at c7); go_simp) hS0 ?_
      try simp only [Act.put, List.setIfInBounds_toArray, List.set_cons_zero, List.set_cons_succ]
      refine reg_tk (i := 21) (v := .int .i64 ib) (some 93) rfl (fun w' hS => by (skip); go_simp) hS0 ?_
      try simp only [Act.put, List.setIfInBounds_toArray, List.set_cons_zero, List.set_cons_succ]
      refine reg_tk (i := 22) (v := .int .i64 ia) (some 10) rfl (fun w' hS => by (skip); go_simp) hS0 ?_
      try simp only [Act.put, List.setIfInBounds_toArray, List.set_cons_zero, List.set_cons_succ]
      refine reg_tk (i := 23) (v := .int .i64 ib) (some 11) rfl (fun w' hS => by (skip); go_simp) hS0 ?_
      try simp only [Act.put, List.setIfInBounds_toArray, List.set_cons_zero, List.set_cons_succ]
      refine wpAnyH_done (by kernel_rfl) ?_ _
      try simp only [onlyN]
      replace hB := hB.drew
      replace hW := hW.drew
      replace hBa := hBa.drew
      replace hBb := hBb.drew
      replace f1 : w6.drew.cell? ⟨g, o, none⟩ = _ := f1
      replace f2 : w6.drew.cell? ⟨g, o + 1, none⟩ = _ := f2
      replace f3 : w6.drew.cell? ⟨g, o + (n - 1) * 2, none⟩ = _ := f3
      replace f4 : w6.drew.cell? ⟨g, o + (n - 1) * 2 + 1, none⟩ = _ := f4
      replace hkg : g < w6.drew.heap.size := hkg
      clear hS0
      obtain ⟨Z, hZ⟩ : ∃ Z, Z = w6.drew := ⟨_, rfl⟩
      rw [← hZ] at hB hW hBa hBb f1 f2 f3 f4 hkg ⊢
      clear hZ
      have y4 : decide ((m.cs.length : Int) ≤ (ia : Int)) = false := decide_eq_false (by omega)
      have y5 : decide ((m.cs.length : Int) ≤ (ib : Int)) = false := decide_eq_false (by omega)
      have y6 : decide ((ia : Int) < 0) = false := decide_eq_false (by omega)
      have y7 : decide ((ib : Int) < 0) = false := decide_eq_false (by omega)
      have y8 : (ia : Int) < (m.cs.length : Int) := by omega
      have y9 : (ib : Int) < (m.cs.length : Int) := by omega
      have yA : (0 : Int) ≤ (ia : Int) := by omega
      have yB : (0 : Int) ≤ (ib : Int) := by omega
      have yC : ((n : Int) == 0) = false := beq_eq_false_iff_ne.2 (by omega)
      have yD : IntKind.i64.wrap ((n : Int) - 1) = ((n - 1 : Nat) : Int) := by unfold maxLen at hml; rw [IntWalk.i64_in _ (by omega)]; omega
      have yE : ((n - 1 : Nat) : Int) < (n : Int) := by omega
      have yF : (0 : Int) ≤ ((n - 1 : Nat) : Int) := by omega
      have yG : (0 : Int) < (n : Int) := by omega
      have p0' := hB.cell 2
      simp only [List.getElem?_cons_zero, List.getElem?_cons_succ] at p0'
      go_upto_region 11 with fail
      refine wp_onlyN (wp_region_held (S := fun w' => Below Z.heap.size Z w') hmx ?_)
      show wpAnyH _ _ _ _ _ _ _ _ Z.drew
      have hS0 := (Below.refl Z.heap.size Z).drew
      refine reg_tk (i := 0) (v := .slice (some ⟨g, o, none⟩) n s3) (some 133) rfl (fun w' hS => by (skip); go_simp) hS0 ?_
      try simp only [Act.put, List.setIfInBounds_toArray, List.set_cons_zero, List.set_cons_succ]
      refine reg_tk (i := 1) (v := .pointer (some ⟨g, o, none⟩)) (some 134) rfl (fun w' hS => by (skip); go_simp) hS0 ?_
      try simp only [Act.put, List.setIfInBounds_toArray, List.set_cons_zero, List.set_cons_succ]
      refine reg_tk (i := 2) (v := .agg #[.int .i64 a.1, .int .i64 a.2]) (some 135) rfl (fun w' hS => by (have c0 := (hS.cell (p := ⟨g, o, none⟩) hkg).trans f1; have c1 := (hS.cell (p := ⟨g, o + 1, none⟩) hkg).trans f2); go_simp) hS0 ?_
      try simp only [Act.put, List.setIfInBounds_toArray, List.set_cons_zero, List.set_cons_succ]
      refine reg_tk (i := 3) (v := .pointer (some ⟨W.heap.size, 5, none⟩)) (some 136) rfl (fun w' hS => by (skip); go_simp) hS0 ?_
      try simp only [Act.put, List.setIfInBounds_toArray, List.set_cons_zero, List.set_cons_succ]
      refine reg_tk (i := 4) (v := .agg #[.int .i64 a.1, .int .i64 a.2]) (some 137) rfl (fun w' hS => by (have c5 := (hB.below hS).cell 5; have c6 := (hB.below hS).cell 6; simp only [List.getElem?_cons_zero, List.getElem?_cons_succ] at c5 c6); go_simp) hS0 ?_
      try simp only [Act.put, List.setIfInBounds_toArray, List.set_cons_zero, List.set_cons_succ]
      refine reg_tk (i := 5) (v := .bool true) (some 138) rfl (fun w' hS => by (skip); go_simp) hS0 ?_
      try simp only [Act.put, List.setIfInBounds_toArray, List.set_cons_zero, List.set_cons_succ]
      refine reg_tk (i := 6) (v := .bool true) (some 139) rfl (fun w' hS => by (skip); go_simp) hS0 ?_
      try simp only [Act.put, List.setIfInBounds_toArray, List.set_cons_zero, List.set_cons_succ]
      refine reg_tk (i := 7) (v := .slice (some ⟨g, o, none⟩) n s3) (some 140) rfl (fun w' hS => by (skip); go_simp) hS0 ?_
      try simp only [Act.put, List.setIfInBounds_toArray, List.set_cons_zero, List.set_cons_succ]
      refine reg_tk (i := 8) (v := .slice (some ⟨g, o, none⟩) n s3) (some 141) rfl (fun w' hS => by (skip); go_simp) hS0 ?_
      try simp only [Act.put, List.setIfInBounds_toArray, List.set_cons_zero, List.set_cons_succ]
      refine reg_tk (i := 9) (v := .int .i64 n) (some 142) rfl (fun w' hS => by (skip); go_simp) hS0 ?_
      try simp only [Act.put, List.setIfInBounds_toArray, List.set_cons_zero, List.set_cons_succ]
      refine reg_tk (i := 10) (v := .int .i64 (n - 1 : Nat)) (some 143) rfl (fun w' hS => by (skip); go_simp) hS0 ?_
      try simp only [Act.put, List.setIfInBounds_toArray, List.set_cons_zero, List.set_cons_succ]
      refine reg_tk (i := 11) (v := .pointer (some ⟨g, o + (n - 1) * 2, none⟩)) (some 144) rfl (fun w' hS => by (skip); go_simp) hS0 ?_
      try simp only [Act.put, List.setIfInBounds_toArray, List.set_cons_zero, List.set_cons_succ]
      refine reg_tk (i := 12) (v := .agg #[.int .i64 b.1, .int .i64 b.2]) (some 145) rfl (fun w' hS => by (have c0 := (hS.cell (p := ⟨g, o + (n - 1) * 2, none⟩) hkg).trans f3; have c1 := (hS.cell (p := ⟨g, o + (n - 1) * 2 + 1, none⟩) hkg).trans f4); go_simp) hS0 ?_
      try simp only [Act.put, List.setIfInBounds_toArray, List.set_cons_zero, List.set_cons_succ]
      refine reg_tk (i := 13) (v := .pointer (some ⟨W.heap.size, 7, none⟩)) (some 146) rfl (fun w' hS => by (skip); go_simp) hS0 ?_
      try simp only [Act.put, List.setIfInBounds_toArray, List.set_cons_zero, List.set_cons_succ]
      refine reg_tk (i := 14) (v := .agg #[.int .i64 b.1, .int .i64 b.2]) (some 147) rfl (fun w' hS => by (have c7 := (hB.below hS).cell 7; have c8 := (hB.below hS).cell 8; simp only [List.getElem?_cons_zero, List.getElem?_cons_succ] at c7 c8); go_simp) hS0 ?_
      try simp only [Act.put, List.setIfInBounds_toArray, List.set_cons_zero, List.set_cons_succ]
      refine reg_tk (i := 15) (v := .bool true) (some 148) rfl (fun w' hS => by (skip); go_simp) hS0 ?_
      try simp only [Act.put, List.setIfInBounds_toArray, List.set_cons_zero, List.set_cons_succ]
      refine reg_tk (i := 16) (v := .bool true) (some 149) rfl (fun w' hS => by (skip); go_simp) hS0 ?_
      try simp only [Act.put, List.setIfInBounds_toArray, List.set_cons_zero, List.set_cons_succ]
      refine reg_tk (i := 17) (v := .bool true) (some 150) rfl (fun w' hS => by (skip); go_simp) hS0 ?_
      try simp only [Act.put, List.setIfInBounds_toArray, List.set_cons_zero, List.set_cons_succ]
      refine reg_tk (i := 18) (v := .int .i64 ab) (some 151) rfl (fun w' hS => by (skip); go_simp) hS0 ?_
      try simp only [Act.put, List.setIfInBounds_toArray, List.set_cons_zero, List.set_cons_succ]
      refine reg_tk (i := 19) (v := .int .i64 ab) (some 152) rfl (fun w' hS => by (skip); go_simp) hS0 ?_
      try simp only [Act.put, List.setIfInBounds_toArray, List.set_cons_zero, List.set_cons_succ]
      refine reg_tk (i := 20) (v := .bool true) (some 153) rfl (fun w' hS => by (skip); go_simp) hS0 ?_
      try simp only [Act.put, List.setIfInBounds_toArray, List.set_cons_zero, List.set_cons_succ]
      refine reg_tk (i := 21) (v := .bool true) (some 154) rfl (fun w' hS => by (skip); go_simp) hS0 ?_
      try simp only [Act.put, List.setIfInBounds_toArray, List.set_cons_zero, List.set_cons_succ]
      refine reg_tk (i := 22) (v := .bool true) (some 155) rfl (fun w' hS => by (skip); go_simp) hS0 ?_
      try simp only [Act.put, List.setIfInBounds_toArray, List.set_cons_zero, List.set_cons_succ]
      refine reg_tk (i := 23) (v := .int .i64 0) (some 156) rfl (fun w' hS => by (skip); go_simp) hS0 ?_
      try simp only [Act.put, List.setIfInBounds_toArray, List.set_cons_zero, List.set_cons_succ]
      refine reg_tk (i := 24) (v := .bool true) (some 157) rfl (fun w' hS => by (skip); go_simp) hS0 ?_
      try simp only [Act.put, List.setIfInBounds_toArray, List.set_cons_zero, List.set_cons_succ]
      refine reg_tk (i := 25) (v := .bool true) (some 158) rfl (fun w' hS => by (skip); go_simp) hS0 ?_
      try simp only [Act.put, List.setIfInBounds_toArray, List.set_cons_zero, List.set_cons_succ]
      refine reg_tk (i := 26) (v := .bool true) (some 159) rfl (fun w' hS => by (skip); go_simp) hS0 ?_
      try simp only [Act.put, List.setIfInBounds_toArray, List.set_cons_zero, List.set_cons_succ]
      refine reg_tk (i := 27) (v := .slice (some ⟨xa, 0, none⟩) m.cs.length m.cs.length) (some 160) rfl (fun w' hS => by (skip); go_simp) hS0 ?_
      try simp only [Act.put, List.setIfInBounds_toArray, List.set_cons_zero, List.set_cons_succ]
      refine reg_tk (i := 28) (v := .int .i64 ib) (some 161) rfl (fun w' hS => by (skip); go_simp) hS0 ?_
      try simp only [Act.put, List.setIfInBounds_toArray, List.set_cons_zero, List.set_cons_succ]
      refine reg_tk (i := 29) (v := .pointer (some ⟨xa, ib, none⟩)) (some 162) rfl (fun w' hS => by (skip); go_simp) hS0 ?_
      try simp only [Act.put, List.setIfInBounds_toArray, List.set_cons_zero, List.set_cons_succ]
      refine reg_tk (i := 30) (v := .int .i64 ab) (some 163) rfl (fun w' hS => by (have c0 := (hBa.below hS).cell ib; rw [gA] at c0); go_simp) hS0 ?_
      try simp only [Act.put, List.setIfInBounds_toArray, List.set_cons_zero, List.set_cons_succ]
      refine reg_tk (i := 31) (v := .int .i64 ab) (some 164) rfl (fun w' hS => by (skip); go_simp) hS0 ?_
      try simp only [Act.put, List.setIfInBounds_toArray, List.set_cons_zero, List.set_cons_succ]
      refine reg_tk (i := 32) (v := .bool true) (some 165) rfl (fun w' hS => by (skip); go_simp) hS0 ?_
      try simp only [Act.put, List.setIfInBounds_toArray, List.set_cons_zero, List.set_cons_succ]
      refine reg_tk (i := 33) (v := .bool true) (some 166) rfl (fun w' hS => by (skip); go_simp) hS0 ?_
      try simp only [Act.put, List.setIfInBounds_toArray, List.set_cons_zero, List.set_cons_succ]
      refine reg_tk (i := 34) (v := .bool true) (some 167) rfl (fun w' hS => by (skip); go_simp) hS0 ?_
      try simp only [Act.put, List.setIfInBounds_toArray, List.set_cons_zero, List.set_cons_succ]
      refine reg_tk (i := 35) (v := .slice (some ⟨xb, 0, none⟩) m.cs.length m.cs.length) (some 168) rfl (fun w' hS => by (skip); go_simp) hS0 ?_
      try simp only [Act.put, List.setIfInBounds_toArray, List.set_cons_zero, List.set_cons_succ]
      refine reg_tk (i := 36) (v := .int .i64 ia) (some 169) rfl (fun w' hS => by (skip); go_simp) hS0 ?_
      try simp only [Act.put, List.setIfInBounds_toArray, List.set_cons_zero, List.set_cons_succ]
      refine reg_tk (i := 37) (v := .pointer (some ⟨xb, ia, none⟩)) (some 170) rfl (fun w' hS => by (skip); go_simp) hS0 ?_
      try simp only [Act.put, List.setIfInBounds_toArray, List.set_cons_zero, List.set_cons_succ]
      refine reg_tk (i := 38) (v := .int .i64 ab) (some 171) rfl (fun w' hS => by (have c0 := (hBb.below hS).cell ia; rw [gB] at c0); go_simp) hS0 ?_
      try simp only [Act.put, List.setIfInBounds_toArray, List.set_cons_zero, List.set_cons_succ]
      refine reg_tk (i := 39) (v := .int .i64 ab) (some 172) rfl (fun w' hS => by (skip); go_simp) hS0 ?_
      try simp only [Act.put, List.setIfInBounds_toArray, List.set_cons_zero, List.set_cons_succ]
      refine reg_tk (i := 40) (v := .bool true) (some 173) rfl (fun w' hS => by (skip); go_simp) hS0 ?_
      try simp only [Act.put, List.setIfInBounds_toArray, List.set_cons_zero, List.set_cons_succ]
      refine reg_tk (i := 41) (v := .bool true) (some 174) rfl (fun w' hS => by (skip); go_simp) hS0 ?_
      try simp only [Act.put, List.setIfInBounds_toArray, List.set_cons_zero, List.set_cons_succ]
      refine reg_tk (i := 42) (v := .bool true) (some 175) rfl (fun w' hS => by (skip); go_simp) hS0 ?_
      try simp only [Act.put, List.setIfInBounds_toArray, List.set_cons_zero, List.set_cons_succ]
      refine held_one (i := 43) (by kernel_rfl) rfl (fun K hQ => ?_)
      rw [if_pos (show Region.wanted _ _ = true by kernel_rfl)]
      go_simp
      ((with_reducible refine (ca _ (below_call hW hS0)).mono ?_); rintro e w9 ⟨rfl, hb9⟩)
      have hS1 := below_call hS0 hb9
      clear hb9
      refine hQ.out _ _ hS1 ?_
      clear hQ
      try simp only [Act.put, List.setIfInBounds_toArray, List.set_cons_zero, List.set_cons_succ]
      refine reg_tk (i := 44) (v := .bool true) (some 177) rfl (fun w' hS => by (skip); go_simp) hS1 ?_
      try simp only [Act.put, List.setIfInBounds_toArray, List.set_cons_zero, List.set_cons_succ]
      refine reg_tk (i := 45) (v := .bool true) (some 2) rfl (fun w' hS => by (skip); go_simp) hS1 ?_
      try simp only [Act.put, List.setIfInBounds_toArray, List.set_cons_zero, List.set_cons_succ]
      refine wpAnyH_done (by kernel_rfl) ?_ _
      try simp only [onlyN]
      go_wp2_with fail
      go_ret
      exact ⟨rfl, below_call hW hS1⟩
    · obtain ⟨hs, rfl⟩ := hp1.bad h1
      injection hs with e2 e3 e4
      subst e2 e3 e4
      have z1 : (e1 != 0) = true := bne_iff_ne.2 h1
      clear h1 hp1
      go_wp2_with (go_at_call 14; with_reducible refine (ca _ hW).mono ?_; rintro e w9 ⟨rfl, hb⟩)
      go_ret
      exact ⟨rfl, below_call hW hb⟩

end Go.Proofs.YtmbadkgeoealoaaDoor
