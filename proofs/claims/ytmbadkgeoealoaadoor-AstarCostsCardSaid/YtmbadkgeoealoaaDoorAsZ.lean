/-
  The laws of astar: what Cost returns; no way costs less than the path that is found.
-/
import Derived.Test.YtmbadkgeoealoaaDoorAsXb
import Derived.Test.YtmbadkgeoealoaaDoorAsY
namespace Go.Proofs.YtmbadkgeoealoaaDoor
open Go.RowKit Go.Lib

theorem sum_way {m : M3} (hf : formedv m = true) {bl : List Bool} {c : Int} : ∀ (t : List Pt) (p : Pt) (s : Int), insp m p = true → openv m bl c p.1 p.2 = true → sumC m bl c p t = some s →
    ∃ q, (p :: t).getLast? = some q ∧ insp m q = true ∧ openv m bl c q.1 q.2 = true ∧ Way (nb m bl c) (idx m p) (idx m q) s
  | [], p, s, hp, ho, h => by
    simp only [sumC, Option.some.injEq] at h
    subst h
    exact ⟨p, rfl, hp, ho, .here⟩
  | q :: t, p, s, hp, ho, h => by
    simp only [sumC] at h
    cases h5 : stepC m bl c p q with
    | none => rw [h5] at h; cases h
    | some w =>
      rw [h5] at h
      dsimp only at h
      cases h6 : sumC m bl c q t with
      | none => rw [h6] at h; cases h
      | some s' =>
        rw [h6] at h
        simp only [Option.map_some, Option.some.injEq] at h
        subst h
        unfold stepC at h5
        cases h7 : (nbp m bl c p).find? fun x => decide (x.1 = q) with
        | none => rw [h7] at h5; cases h5
        | some x =>
          rw [h7] at h5
          simp only [Option.map_some, Option.some.injEq] at h5
          have hx := List.mem_of_find?_eq_some h7
          have hq := List.find?_some h7
          simp only [decide_eq_true_eq] at hq
          have hin := nbp_in hx
          rw [hq] at hin
          obtain ⟨z, z1, z2, z3, z4⟩ := sum_way hf t q s' hin.1 hin.2.2.1 h6
          refine ⟨z, by rw [List.getLast?_cons_cons]; exact z1, z2, z3, ?_⟩
          have hm : (idx m q, w) ∈ nb m bl c (idx m p) := by
            rw [nb_at hf bl c hp]
            exact List.mem_map.2 ⟨x, hx, by rw [hq, h5]⟩
          exact (Way.one hm).trans z4
/-- What Cost accepts is a way. -/
theorem cost_way {m : M3} {bl : List Bool} {c : Int} {ps : List Pt} {s : Int} (h : costA m bl c ps = (s, 0)) :
    ∃ a b, ps[0]? = some a ∧ ps[ps.length - 1]? = some b ∧ 0 < ps.length ∧ okA m c a b = true ∧ frA m bl c a b = true ∧ Way (nb m bl c) (idx m a) (idx m b) s := by
  rw [costA_eq] at h
  split at h
  · cases h
  · next h1 =>
    simp only [Bool.not_eq_false, Bool.and_eq_true] at h1
    obtain ⟨⟨⟨hv, hc⟩, _⟩, hall⟩ := h1
    have hf : formedv m = true := classv_of (c := c) (by rw [hv, hc]; rfl)
    cases ps with
    | nil => cases h
    | cons p t =>
      replace h : (if openv m bl c p.1 p.2 = false then ((0, 9) : Int × Int) else sumT (sumC m bl c p t)) = (s, 0) := h
      split at h
      · cases h
      · next h2 =>
        rw [Bool.not_eq_false] at h2
        cases h3 : sumC m bl c p t with
        | none => rw [h3] at h; cases h
        | some s' =>
          rw [h3] at h
          injection h with h _
          subst h
          have hp : insp m p = true := List.all_eq_true.1 hall p List.mem_cons_self
          obtain ⟨q, q1, q2, q3, q4⟩ := sum_way hf t p s' hp h2 h3
          refine ⟨p, q, rfl, by rw [← List.getLast?_eq_getElem?]; exact q1, by simp, ?_, ?_, q4⟩
          · unfold okA; rw [hv, hc, hp, q2]; rfl
          · unfold frA; rw [h2, q3]; rfl
theorem short_le {m : M3} {bl : List Bool} {c : Int} {a b : Pt} {s1 : Option Addr} {s2 s3 : Nat} {n er s : Int} {w : World} (h : PathF m bl c a b (.slice s1 s2 s3) n er w) (o1 : okA m c a b = true) (f1 : frA m bl c a b = true) (hw : Way (nb m bl c) (idx m a) (idx m b) s) : er = 0 ∧ n ≤ s ∧ 0 < s2 := by
  have o2 := o1
  unfold okA at o2
  simp only [Bool.and_eq_true] at o2
  have hf : formedv m = true := classv_of (c := c) (by rw [o2.1.1.1, o2.1.1.2]; rfl)
  have ok := nb_ok hf bl c
  have lb := (posn_idx hf o2.2).2.1
  rcases h.all o1 f1 with rfl | rfl
  · obtain ⟨_, _, D, hd, h0, hn, _⟩ := h.good rfl
    have := hd.least ok lb (hw.symm ok)
    obtain ⟨_, _, ps, ⟨p', c', e, _⟩, _, _, hpos, _⟩ := agr_path h
    injection e with _ e2 _
    exact ⟨rfl, by omega, by omega⟩
  · obtain ⟨_, _, D, hd, h0⟩ := h.none_ rfl
    have := hd.least ok lb (hw.symm ok)
    omega

set_option maxRecDepth 100000 in
set_option maxHeartbeats 8000000 in
theorem law14_costs (m : M3) (s : Value) (bl : List Bool) (l : Value) (c : Int) (a b d : Pt) (ps : List Pt) (v : Value) (W : World) (hE : EnvT W) (hn : HighAt m) (hr : RowAt W s m.cs) (hl : BitsAt W l bl) (hps : PsAt W v ps) :
    Calls Tryd.prog 4 #[.agg #[.int .i64 m.w, .int .i64 m.h, s, l, .int .i64 c, .int .i64 a.1, .int .i64 a.2, .int .i64 b.1, .int .i64 b.2, .int .i64 d.1, .int .i64 d.2], v] W fun e w' => e = .returned (.bool true) ∧ Below W.heap.size W w' := by
  have hG : Gd W m s bl l := ⟨hE, hn, hr, hl⟩
  obtain ⟨p0, c0, rfl⟩ := hr.slice
  obtain ⟨pl, kl, rfl, -⟩ := id hl
  obtain ⟨pp, cap, rfl, hcap, hml, hat⟩ := id hps
  obtain ⟨n, hnn⟩ : ∃ n, Hid (n = ps.length) := ⟨_, hid rfl⟩
  rw [← hnn.out] at hml hps hcap
  rw [show (Value.slice pp ps.length cap) = .slice pp n cap by rw [hnn.out]]
  obtain ⟨sm, hsm⟩ : ∃ sm, Hid (sm = decide (m.cs.length ≤ 1100 ∧ bl.length ≤ 2000)) := ⟨_, hid rfl⟩
  obtain ⟨⟨r1, r2⟩, hrr⟩ : ∃ r, Hid (r = costA m bl c ps) := ⟨_, hid rfl⟩
  have ch := fun (w : World) => assmall_b m p0 pl bl.length c0 kl c a.1 a.2 b.1 b.2 d.1 d.2 sm w hsm
  have ca := fun (w : World) (hb : Below W.heap.size W w) => asalive_b w (hE.keep hb)
  have hB := Blk.new W [.int .i64 m.w, .int .i64 m.h, .slice p0 m.cs.length c0, .slice pl bl.length kl, .int .i64 c, .int .i64 a.1, .int .i64 a.2, .int .i64 b.1, .int .i64 b.2, .int .i64 d.1, .int .i64 d.2] 29
  have hW := (Below.refl W.heap.size W).alloc (Nat.le_refl _) (.cells [Value.int .i64 m.w, .int .i64 m.h, .slice p0 m.cs.length c0, .slice pl bl.length kl, .int .i64 c, .int .i64 a.1, .int .i64 a.2, .int .i64 b.1, .int .i64 b.2, .int .i64 d.1, .int .i64 d.2].toArray 29)
  unfold maxLen at hml
  go_enter Tryd.func4, Tryd.ntmps4
  go_upto_region 1 with fail
  obtain ⟨X, hX⟩ : ∃ X, X = W.alloc (.cells [Value.int .i64 m.w, .int .i64 m.h, .slice p0 m.cs.length c0, .slice pl bl.length kl, .int .i64 c, .int .i64 a.1, .int .i64 a.2, .int .i64 b.1, .int .i64 b.2, .int .i64 d.1, .int .i64 d.2].toArray 29) := ⟨_, rfl⟩
  rw [← hX] at hB hW ⊢
  clear hX
  have q0 := hB.cell 0
  have q1 := hB.cell 1
  have q2 := hB.cell 2
  have q3 := hB.cell 3
  have q4 := hB.cell 4
  have q5 := hB.cell 5
  have q6 := hB.cell 6
  have q7 := hB.cell 7
  have q8 := hB.cell 8
  have q9 := hB.cell 9
  have q10 := hB.cell 10
  simp only [List.getElem?_cons_zero, List.getElem?_cons_succ] at q0 q1 q2 q3 q4 q5 q6 q7 q8 q9 q10
  go_wp2_with fail
  ((with_reducible refine (ch _).mono ?_); rintro e w1 ⟨rfl, hb⟩)
  replace hW := below_call hW hb
  replace hB := hB.below hb
  clear hb ch q0 q1 q2 q3 q4 q5 q6 q7 q8 q9 q10
  have q0 := hB.cell 0
  have q1 := hB.cell 1
  have q2 := hB.cell 2
  have q3 := hB.cell 3
  have q4 := hB.cell 4
  have q5 := hB.cell 5
  have q6 := hB.cell 6
  have q7 := hB.cell 7
  have q8 := hB.cell 8
  have q9 := hB.cell 9
  have q10 := hB.cell 10
  simp only [List.getElem?_cons_zero, List.getElem?_cons_succ] at q0 q1 q2 q3 q4 q5 q6 q7 q8 q9 q10
  cases sm with
  | false =>
    go_wp2_with (go_at_call 14; with_reducible refine (ca _ hW).mono ?_; rintro e w2 ⟨rfl, hb⟩)
    go_ret
    exact ⟨rfl, below_call hW hb⟩
  | true =>
    by_cases hl2 : n ≤ 200
    · have z1 : decide ((200 : Int) < (n : Int)) = false := decide_eq_false (by omega)
      go_wp2_with fail
      ((with_reducible refine (ascostw_b m p0 m.cs.length c0 bl pl bl.length kl c ps (.slice pp n cap) (r1, r2) w1 (hG.below hW) (hps.below hW) (by rw [← hnn.out]; omega) hrr).mono ?_); rintro e w2 ⟨rfl, hb⟩)
      replace hB := hB.below hb
      replace hW := below_call hW hb
      clear hb q0 q1 q2 q3 q4 q5 q6 q7 q8 q9 q10
      have q0 := hB.cell 0
      have q1 := hB.cell 1
      have q2 := hB.cell 2
      have q3 := hB.cell 3
      have q4 := hB.cell 4
      have q5 := hB.cell 5
      have q6 := hB.cell 6
      have q7 := hB.cell 7
      have q8 := hB.cell 8
      have q9 := hB.cell 9
      have q10 := hB.cell 10
      simp only [List.getElem?_cons_zero, List.getElem?_cons_succ] at q0 q1 q2 q3 q4 q5 q6 q7 q8 q9 q10
      go_wp2_with fail
      ((with_reducible refine (r14cost_b m p0 m.cs.length c0 bl pl bl.length kl c ps (.slice pp n cap) (r1, r2) w2 hn (hr.below hW) (hl.below hW) (hps.below hW) (by rw [← hnn.out]; omega) hrr).mono ?_); rintro e w3 ⟨rfl, hb⟩)
      replace hW := below_call hW hb
      clear hb q0 q1 q2 q3 q4 q5 q6 q7 q8 q9 q10
      go_wp2_with (go_at_call 14; with_reducible refine (ca _ hW).mono ?_; rintro e w9 ⟨rfl, hb⟩)
      go_ret
      exact ⟨rfl, below_call hW hb⟩
    · have z1 : decide ((200 : Int) < (n : Int)) = true := decide_eq_true (by omega)
      go_wp2_with (go_at_call 14; with_reducible refine (ca _ hW).mono ?_; rintro e w2 ⟨rfl, hb⟩)
      go_ret
      exact ⟨rfl, below_call hW hb⟩

set_option maxRecDepth 100000 in
set_option maxHeartbeats 8000000 in
theorem law14_shortest (m : M3) (s : Value) (bl : List Bool) (l : Value) (c : Int) (a b d : Pt) (ps : List Pt) (v : Value) (W : World) (hE : EnvT W) (hn : HighAt m) (hr : RowAt W s m.cs) (hl : BitsAt W l bl) (hps : PsAt W v ps) :
    Calls Tryd.prog 7 #[.agg #[.int .i64 m.w, .int .i64 m.h, s, l, .int .i64 c, .int .i64 a.1, .int .i64 a.2, .int .i64 b.1, .int .i64 b.2, .int .i64 d.1, .int .i64 d.2], v] W fun e w' => e = .returned (.bool true) ∧ Below W.heap.size W w' := by
  have hG : Gd W m s bl l := ⟨hE, hn, hr, hl⟩
  obtain ⟨p0, c0, rfl⟩ := hr.slice
  obtain ⟨pl, kl, rfl, -⟩ := id hl
  obtain ⟨pp, cap, rfl, hcap, hml, hat⟩ := id hps
  obtain ⟨n, hnn⟩ : ∃ n, Hid (n = ps.length) := ⟨_, hid rfl⟩
  rw [← hnn.out] at hml hps hcap
  rw [show (Value.slice pp ps.length cap) = .slice pp n cap by rw [hnn.out]]
  obtain ⟨sm, hsm⟩ : ∃ sm, Hid (sm = decide (m.cs.length ≤ 1100 ∧ bl.length ≤ 2000)) := ⟨_, hid rfl⟩
  obtain ⟨⟨r1, r2⟩, hrr⟩ : ∃ r, Hid (r = costA m bl c ps) := ⟨_, hid rfl⟩
  have ch := fun (w : World) => assmall_b m p0 pl bl.length c0 kl c a.1 a.2 b.1 b.2 d.1 d.2 sm w hsm
  have ca := fun (w : World) (hb : Below W.heap.size W w) => asalive_b w (hE.keep hb)
  have hB := Blk.new W [.int .i64 m.w, .int .i64 m.h, .slice p0 m.cs.length c0, .slice pl bl.length kl, .int .i64 c, .int .i64 a.1, .int .i64 a.2, .int .i64 b.1, .int .i64 b.2, .int .i64 d.1, .int .i64 d.2] 29
  have hW := (Below.refl W.heap.size W).alloc (Nat.le_refl _) (.cells [Value.int .i64 m.w, .int .i64 m.h, .slice p0 m.cs.length c0, .slice pl bl.length kl, .int .i64 c, .int .i64 a.1, .int .i64 a.2, .int .i64 b.1, .int .i64 b.2, .int .i64 d.1, .int .i64 d.2].toArray 29)
  unfold maxLen at hml
  go_enter Tryd.func7, Tryd.ntmps7
  go_upto_region 1 with fail
  obtain ⟨X, hX⟩ : ∃ X, X = W.alloc (.cells [Value.int .i64 m.w, .int .i64 m.h, .slice p0 m.cs.length c0, .slice pl bl.length kl, .int .i64 c, .int .i64 a.1, .int .i64 a.2, .int .i64 b.1, .int .i64 b.2, .int .i64 d.1, .int .i64 d.2].toArray 29) := ⟨_, rfl⟩
  rw [← hX] at hB hW ⊢
  clear hX
  have q0 := hB.cell 0
  have q1 := hB.cell 1
  have q2 := hB.cell 2
  have q3 := hB.cell 3
  have q4 := hB.cell 4
  have q5 := hB.cell 5
  have q6 := hB.cell 6
  have q7 := hB.cell 7
  have q8 := hB.cell 8
  have q9 := hB.cell 9
  have q10 := hB.cell 10
  simp only [List.getElem?_cons_zero, List.getElem?_cons_succ] at q0 q1 q2 q3 q4 q5 q6 q7 q8 q9 q10
  go_wp2_with fail
  ((with_reducible refine (ch _).mono ?_); rintro e w1 ⟨rfl, hb⟩)
  replace hW := below_call hW hb
  replace hB := hB.below hb
  clear hb ch q0 q1 q2 q3 q4 q5 q6 q7 q8 q9 q10
  have q0 := hB.cell 0
  have q1 := hB.cell 1
  have q2 := hB.cell 2
  have q3 := hB.cell 3
  have q4 := hB.cell 4
  have q5 := hB.cell 5
  have q6 := hB.cell 6
  have q7 := hB.cell 7
  have q8 := hB.cell 8
  have q9 := hB.cell 9
  have q10 := hB.cell 10
  simp only [List.getElem?_cons_zero, List.getElem?_cons_succ] at q0 q1 q2 q3 q4 q5 q6 q7 q8 q9 q10
  cases sm with
  | false =>
    go_wp2_with (go_at_call 14; with_reducible refine (ca _ hW).mono ?_; rintro e w2 ⟨rfl, hb⟩)
    go_ret
    exact ⟨rfl, below_call hW hb⟩
  | true =>
    by_cases hl2 : n ≤ 200
    · have z1 : decide ((200 : Int) < (n : Int)) = false := decide_eq_false (by omega)
      go_wp2_with fail
      ((with_reducible refine (r14cost_b m p0 m.cs.length c0 bl pl bl.length kl c ps (.slice pp n cap) (r1, r2) w1 hn (hr.below hW) (hl.below hW) (hps.below hW) (by rw [← hnn.out]; omega) hrr).mono ?_); rintro e w2 ⟨rfl, hb⟩)
      replace hB := hB.below hb
      replace hW := below_call hW hb
      clear hb q0 q1 q2 q3 q4 q5 q6 q7 q8 q9 q10
      have q0 := hB.cell 0
      have q1 := hB.cell 1
      have q2 := hB.cell 2
      have q3 := hB.cell 3
      have q4 := hB.cell 4
      have q5 := hB.cell 5
      have q6 := hB.cell 6
      have q7 := hB.cell 7
      have q8 := hB.cell 8
      have q9 := hB.cell 9
      have q10 := hB.cell 10
      simp only [List.getElem?_cons_zero, List.getElem?_cons_succ] at q0 q1 q2 q3 q4 q5 q6 q7 q8 q9 q10
      by_cases h2 : r2 = 0
      · subst h2
        obtain ⟨u, z, hu, hz, hpos, o1, fr1, hway⟩ := cost_way hrr.out.symm
        rw [← hnn.out] at hpos hz
        obtain ⟨g, o, rfl, hg, hi⟩ := hat (by rw [← hnn.out]; exact hpos)
        have hi0 := hi 0 (by rw [← hnn.out]; exact hpos)
        have hi9 := hi (n - 1) (by rw [← hnn.out]; omega)
        rw [List.getElem?_eq_getElem (by rw [← hnn.out]; exact hpos)] at hu
        rw [List.getElem?_eq_getElem (by rw [← hnn.out]; omega)] at hz
        injection hu with hu
        injection hz with hz
        rw [hu] at hi0
        rw [hz] at hi9
        obtain ⟨f1', f2'⟩ := hi0
        obtain ⟨f3', f4'⟩ := hi9
        simp only [Nat.zero_mul, Nat.add_zero] at f1' f2'
        have f1 := (hW.cell (p := ⟨g, o, none⟩) hg).trans f1'
        have f2 := (hW.cell (p := ⟨g, o + 1, none⟩) hg).trans f2'
        have f3 := (hW.cell (p := ⟨g, o + (n - 1) * 2, none⟩) hg).trans f3'
        have f4 := (hW.cell (p := ⟨g, o + (n - 1) * 2 + 1, none⟩) hg).trans f4'
        have hkg : g < w2.heap.size := by have := hW.size; omega
        have yD : IntKind.i64.wrap ((n : Int) - 1) = ((n - 1 : Nat) : Int) := by rw [IntWalk.i64_in _ (by omega)]; omega
        have yE : ((n - 1 : Nat) : Int) < (n : Int) := by omega
        have yF : (0 : Int) ≤ ((n - 1 : Nat) : Int) := by omega
        have yG : (0 : Int) < (n : Int) := by omega
        clear f1' f2' f3' f4' hi hat hu hz
        have cp := fun w (hS : Below w2.heap.size w2 w) => aspath_f m p0 m.cs.length c0 bl pl bl.length kl c u.1 u.2 z.1 z.2 w (hG.below (below_call hW hS))
        have hway := hid hway
        have hmx : Tryd.prog.follows .mixedOrders = true := by kernel_rfl
        go_upto_region 6 with fail
        refine wp_onlyN (wp_region_held (S := fun w' => Below w2.heap.size w2 w') hmx ?_)
        show wpAnyH _ _ _ _ _ _ _ _ w2.drew
        have hS0 := (Below.refl w2.heap.size w2).drew
        refine reg_tk (i := 0) (v := .pointer (some ⟨W.heap.size, 0, none⟩)) (some 34) rfl (fun w' hS => by (skip); go_simp) hS0 ?_
        try simp only [Act.put, List.setIfInBounds_toArray, List.set_cons_zero, List.set_cons_succ]
        refine reg_tk (i := 1) (v := .agg #[.int .i64 m.w, .int .i64 m.h, .slice p0 m.cs.length c0]) (some 35) rfl (fun w' hS => by (have c0 := (hB.below hS).cell 0; have c1 := (hB.below hS).cell 1; have c2 := (hB.below hS).cell 2; simp only [List.getElem?_cons_zero, List.getElem?_cons_succ] at c0 c1 c2); go_simp) hS0 ?_
        try simp only [Act.put, List.setIfInBounds_toArray, List.set_cons_zero, List.set_cons_succ]
        refine reg_tk (i := 2) (v := .pointer (some ⟨W.heap.size, 3, none⟩)) (some 36) rfl (fun w' hS => by (skip); go_simp) hS0 ?_
        try simp only [Act.put, List.setIfInBounds_toArray, List.set_cons_zero, List.set_cons_succ]
        refine reg_tk (i := 3) (v := .slice pl bl.length kl) (some 37) rfl (fun w' hS => by (have c3 := (hB.below hS).cell 3; simp only [List.getElem?_cons_zero, List.getElem?_cons_succ] at c3); go_simp) hS0 ?_
        try simp only [Act.put, List.setIfInBounds_toArray, List.set_cons_zero, List.set_cons_succ]
        refine reg_tk (i := 4) (v := .pointer (some ⟨W.heap.size, 4, none⟩)) (some 38) rfl (fun w' hS => by (skip); go_simp) hS0 ?_
        try simp only [Act.put, List.setIfInBounds_toArray, List.set_cons_zero, List.set_cons_succ]
        refine reg_tk (i := 5) (v := .int .i64 c) (some 39) rfl (fun w' hS => by (have c4 := (hB.below hS).cell 4; simp only [List.getElem?_cons_zero, List.getElem?_cons_succ] at c4); go_simp) hS0 ?_
        try simp only [Act.put, List.setIfInBounds_toArray, List.set_cons_zero, List.set_cons_succ]
        refine reg_tk (i := 6) (v := .slice (some ⟨g, o, none⟩) n cap) (some 40) rfl (fun w' hS => by (skip); go_simp) hS0 ?_
        try simp only [Act.put, List.setIfInBounds_toArray, List.set_cons_zero, List.set_cons_succ]
        refine reg_tk (i := 7) (v := .pointer (some ⟨g, o, none⟩)) (some 41) rfl (fun w' hS => by (skip); go_simp) hS0 ?_
        try simp only [Act.put, List.setIfInBounds_toArray, List.set_cons_zero, List.set_cons_succ]
        refine reg_tk (i := 8) (v := .agg #[.int .i64 u.1, .int .i64 u.2]) (some 42) rfl (fun w' hS => by (have c0 := (hS.cell (p := ⟨g, o, none⟩) hkg).trans f1; have c1 := (hS.cell (p := ⟨g, o + 1, none⟩) hkg).trans f2); go_simp) hS0 ?_
        try simp only [Act.put, List.setIfInBounds_toArray, List.set_cons_zero, List.set_cons_succ]
        refine reg_tk (i := 9) (v := .slice (some ⟨g, o, none⟩) n cap) (some 43) rfl (fun w' hS => by (skip); go_simp) hS0 ?_
        try simp only [Act.put, List.setIfInBounds_toArray, List.set_cons_zero, List.set_cons_succ]
        refine reg_tk (i := 10) (v := .slice (some ⟨g, o, none⟩) n cap) (some 44) rfl (fun w' hS => by (skip); go_simp) hS0 ?_
        try simp only [Act.put, List.setIfInBounds_toArray, List.set_cons_zero, List.set_cons_succ]
        refine reg_tk (i := 11) (v := .int .i64 n) (some 45) rfl (fun w' hS => by (skip); go_simp) hS0 ?_
        try simp only [Act.put, List.setIfInBounds_toArray, List.set_cons_zero, List.set_cons_succ]
        refine reg_tk (i := 12) (v := .int .i64 (n - 1 : Nat)) (some 46) rfl (fun w' hS => by (skip); go_simp) hS0 ?_
        try simp only [Act.put, List.setIfInBounds_toArray, List.set_cons_zero, List.set_cons_succ]
        refine reg_tk (i := 13) (v := .pointer (some ⟨g, o + (n - 1) * 2, none⟩)) (some 47) rfl (fun w' hS => by (skip); go_simp) hS0 ?_
        try simp only [Act.put, List.setIfInBounds_toArray, List.set_cons_zero, List.set_cons_succ]
        refine reg_tk (i := 14) (v := .agg #[.int .i64 z.1, .int .i64 z.2]) (some 48) rfl (fun w' hS => by (have c0 := (hS.cell (p := ⟨g, o + (n - 1) * 2, none⟩) hkg).trans f3; have c1 := (hS.cell (p := ⟨g, o + (n - 1) * 2 + 1, none⟩) hkg).trans f4); go_simp) hS0 ?_
        try simp only [Act.put, List.setIfInBounds_toArray, List.set_cons_zero, List.set_cons_succ]
        refine held_one (i := 15) (by kernel_rfl) rfl (fun K hQ => ?_)
        go_simp
        ((with_reducible refine (cp _ hS0).mono ?_); rintro e w4 ⟨s1, s2, s3, ab, e1, rfl, hb4, hp1⟩)
        have hS1 := below_call hS0 hb4
        refine hQ.out _ _ hS1 ?_
        clear hQ
        try simp only [Act.put, List.setIfInBounds_toArray, List.set_cons_zero, List.set_cons_succ]
        refine reg_tk (i := 16) (v := .tuple #[.slice s1 s2 s3, .int .i64 ab, .int .i64 e1]) (some 33) rfl (fun w' hS => by (skip); go_simp) hS1 ?_
        try simp only [Act.put, List.setIfInBounds_toArray, List.set_cons_zero, List.set_cons_succ]
        refine reg_tk (i := 17) (v := .slice s1 s2 s3) (some 50) rfl (fun w' hS => by (skip); go_simp) hS1 ?_
        try simp only [Act.put, List.setIfInBounds_toArray, List.set_cons_zero, List.set_cons_succ]
        refine reg_tk (i := 18) (v := .int .i64 ab) (some 51) rfl (fun w' hS => by (skip); go_simp) hS1 ?_
        try simp only [Act.put, List.setIfInBounds_toArray, List.set_cons_zero, List.set_cons_succ]
        refine reg_tk (i := 19) (v := .int .i64 e1) (some 52) rfl (fun w' hS => by (skip); go_simp) hS1 ?_
        try simp only [Act.put, List.setIfInBounds_toArray, List.set_cons_zero, List.set_cons_succ]
        refine reg_tk (i := 20) (v := .slice s1 s2 s3) (some 7) rfl (fun w' hS => by (skip); go_simp) hS1 ?_
        try simp only [Act.put, List.setIfInBounds_toArray, List.set_cons_zero, List.set_cons_succ]
        refine reg_tk (i := 21) (v := .int .i64 ab) (some 8) rfl (fun w' hS => by (skip); go_simp) hS1 ?_
        try simp only [Act.put, List.setIfInBounds_toArray, List.set_cons_zero, List.set_cons_succ]
        refine reg_tk (i := 22) (v := .int .i64 e1) (some 9) rfl (fun w' hS => by (skip); go_simp) hS1 ?_
        try simp only [Act.put, List.setIfInBounds_toArray, List.set_cons_zero, List.set_cons_succ]
        refine wpAnyH_done (by kernel_rfl) ?_ _
        try simp only [onlyN]
        replace hW := below_call hW hS1
        obtain ⟨rfl, hle, hs2⟩ := short_le hp1 o1 fr1 hway.out
        have y1 : decide (ab ≤ r1) = true := decide_eq_true hle
        have y2 : decide ((0 : Int) < (s2 : Int)) = true := decide_eq_true (by omega)
        clear hS1 hS0 hb4 hp1 cp hway o1 q0 q1 q2 q3 q4 q5 q6 q7 q8 q9 q10 f1 f2 f3 f4
        go_wp2_with (go_at_call 14; with_reducible refine (ca _ hW).mono ?_; rintro e w9 ⟨rfl, hb⟩)
        go_ret
        exact ⟨rfl, below_call hW hb⟩
      · have z2 : (r2 != 0) = true := bne_iff_ne.2 h2
        clear h2
        go_wp2_with (go_at_call 14; with_reducible refine (ca _ hW).mono ?_; rintro e w9 ⟨rfl, hb⟩)
        go_ret
        exact ⟨rfl, below_call hW hb⟩
    · have z1 : decide ((200 : Int) < (n : Int)) = true := decide_eq_true (by omega)
      go_wp2_with (go_at_call 14; with_reducible refine (ca _ hW).mono ?_; rintro e w2 ⟨rfl, hb⟩)
      go_ret
      exact ⟨rfl, below_call hW hb⟩

end Go.Proofs.YtmbadkgeoealoaaDoor
