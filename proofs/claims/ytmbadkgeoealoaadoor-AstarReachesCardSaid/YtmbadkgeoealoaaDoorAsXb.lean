/-
  What the reference of astar answers: the cost of a step and of a way.
-/
import Derived.Test.YtmbadkgeoealoaaDoorAsX
namespace Go.Proofs.YtmbadkgeoealoaaDoor
open Go.RowKit Go.Lib

theorem bk_call {k : Nat} {w W w1 : World} (e : Hid (k = w.heap.size)) (h : Below k w W) (hb : Below W.heap.size W w1) : Below k w w1 := by
  have := e.out
  subst this
  exact below_call h hb
theorem bk_dn {k : Nat} {w W : World} (e : Hid (k = w.heap.size)) (h : Below k w W) : Below w.heap.size w W := by
  have := e.out
  subst this
  exact h
theorem eq_two {qx qy a b : Int} {bq : Bool} (h : Hid (bq = (qx == a && qy == b))) {w : World} : (if qx = a then (if qy = b then Result.ok (Next.value (Value.bool true)) w else Result.ok (Next.value (Value.bool false)) w) else Result.ok (Next.value (Value.bool false)) w) = Result.ok (Next.value (Value.bool bq)) w := by
  rw [h.out]
  by_cases h1 : qx = a
  · by_cases h2 : qy = b
    · rw [if_pos h1, if_pos h2, beq_iff_eq.2 h1, beq_iff_eq.2 h2]; rfl
    · rw [if_pos h1, if_neg h2, beq_iff_eq.2 h1, beq_eq_false_iff_ne.2 h2]; rfl
  · rw [if_neg h1, beq_eq_false_iff_ne.2 h1]; rfl
/-- What a way comes to, piece by piece. -/
def sumT : Option Int → Int × Int
  | none => (0, 9)
  | some s => (s, 0)
def costT (m : M3) (bl : List Bool) (c : Int) : List Pt → Int × Int
  | [] => (0, 1)
  | p :: t => if openv m bl c p.1 p.2 = false then (0, 9) else sumT (sumC m bl c p t)
theorem costA_eq (m : M3) (bl : List Bool) (c : Int) (ps : List Pt) : costA m bl c ps = if (validm m && classv c && !ps.isEmpty && ps.all (insp m)) = false then (0, 1) else costT m bl c ps := by
  unfold costA
  cases ps with
  | nil => rfl
  | cons p t => unfold costT; cases sumC m bl c p t <;> rfl
/-- The step of one direction more: to q, or not. -/
theorem miss_next {m : M3} {bl : List Bool} {c : Int} {p q : Pt} {d : Nat} (h : StpMiss q (nbGo m bl c p d)) (hn : mayv m bl c p.1 p.2 d = true → (stx p.1 d, sty p.2 d) ≠ q) : StpMiss q (nbGo m bl c p (d + 1)) := by
  rw [nbGo_next]
  by_cases hm : mayv m bl c p.1 p.2 d = true
  · rw [if_pos hm]; exact h.snoc (hn hm)
  · rw [if_neg hm, List.append_nil]; exact h
theorem miss_hit {m : M3} {bl : List Bool} {c : Int} {p q : Pt} {d : Nat} (h : StpMiss q (nbGo m bl c p d)) (hd : d < 8) (hm : mayv m bl c p.1 p.2 d = true) (hq : (stx p.1 d, sty p.2 d) = q) : stepC m bl c p q = some (costv m bl c p.1 p.2 d) := by
  have h1 : (nbGo m bl c p (d + 1)).find? (fun x => decide (x.1 = q)) = some ((stx p.1 d, sty p.2 d), costv m bl c p.1 p.2 d) := by
    rw [nbGo_next, if_pos hm]; exact h.hit hq
  unfold stepC nbp
  rw [find_pre (nbGo_pre m bl c p (show d + 1 ≤ 8 by omega)) h1]
  rfl

set_option maxRecDepth 100000 in
set_option maxHeartbeats 8000000 in
theorem r14between_b (m : M3) (s : Value) (bl : List Bool) (l : Value) (c : Int) (p q : Pt) (k : Int) (b : Bool) (W : World) (hh : HighAt m) (hr : RowAt W s m.cs) (hl : BitsAt W l bl) (e : Hid ((k, b) = match stepC m bl c p q with | some w => (w, true) | none => (0, false))) :
    Calls Tryd.prog 58 #[.agg #[.int .i64 m.w, .int .i64 m.h, s], l, .int .i64 c, .agg #[.int .i64 p.1, .int .i64 p.2], .agg #[.int .i64 q.1, .int .i64 q.2]] W fun e w' => e = .returned (.tuple #[.int .i64 k, .bool b]) ∧ Below W.heap.size W w' := by
  have hmx : Tryd.prog.follows .mixedOrders = true := by kernel_rfl
  have hK := ((((Keep.nil W).alloc [.int .i64 m.w, .int .i64 m.h, s] 24).alloc [.int .i64 p.1, .int .i64 p.2] 27).alloc [.int .i64 q.1, .int .i64 q.2] 27)
  simp only [World.size_alloc] at hK
  obtain ⟨pl, kl, rfl, -⟩ := id hl
  obtain ⟨ps, ks, rfl, -⟩ := id hr
  go_enter Tryd.func58, Tryd.ntmps58
  go_upto_region 2 with fail
  obtain ⟨X, hX⟩ : ∃ X, X = ((W.alloc (.cells [Value.int .i64 m.w, .int .i64 m.h, .slice ps m.cs.length ks].toArray 24)).alloc (.cells [Value.int .i64 p.1, .int .i64 p.2].toArray 27)).alloc (.cells [Value.int .i64 q.1, .int .i64 q.2].toArray 27) := ⟨_, rfl⟩
  rw [← hX] at hK ⊢
  clear hX
  obtain ⟨k2, e2⟩ : ∃ k2, k2 = W.heap.size + 1 + 1 := ⟨_, rfl⟩
  obtain ⟨k1, e1⟩ : ∃ k1, k1 = W.heap.size + 1 := ⟨_, rfl⟩
  obtain ⟨k0, e0⟩ : ∃ k0, Hid (k0 = W.heap.size) := ⟨_, hid rfl⟩
  have zm : Blk X k0 [.int .i64 m.w, .int .i64 m.h, .slice ps m.cs.length ks] 24 := (hK.blks (W.heap.size, [.int .i64 m.w, .int .i64 m.h, .slice ps m.cs.length ks], 24) (by simp)).at e0.out.symm
  have zp : Blk X k1 (ptL p) 27 := (hK.blks (W.heap.size + 1, ptL p, 27) (by simp)).at e1.symm
  have zq : Blk X k2 (ptL q) 27 := (hK.blks (W.heap.size + 1 + 1, ptL q, 27) (by simp)).at e2.symm
  have hWX := hK.old
  rw [← e2, ← e1]
  rw [← e0.out] at hWX ⊢
  clear hK e1 e2
  go_loopw [12] (fun vi wr => ∃ d : Nat, vi = .int .i64 d ∧ d ≤ 8 ∧ Below k0 W wr ∧ Blk wr k0 [.int .i64 m.w, .int .i64 m.h, .slice ps m.cs.length ks] 24 ∧ Blk wr k1 (ptL p) 27 ∧ Blk wr k2 (ptL q) 27 ∧ Hid (StpMiss q (nbGo m bl c p d))) (fun vi _ => 8 - (RowKit.intOf vi).toNat)
  case atStart => exact ⟨0, rfl, by omega, hWX, zm, zp, zq, hid rfl⟩
  case round =>
    clear hWX zm zp zq
    obtain ⟨d, rfl, hd8, hW, zm, zp, zq, hM⟩ := hrel
    by_cases hd : d < 8
    · have z9 : decide ((d : Int) < 8) = true := decide_eq_true (by omega)
      obtain ⟨kw, hkw⟩ : ∃ kw, Hid (kw = costv m bl c p.1 p.2 d) := ⟨_, hid rfl⟩
      obtain ⟨b5, hb5⟩ : ∃ b5, Hid (b5 = mayv m bl c p.1 p.2 d) := ⟨_, hid rfl⟩
      have cs := rcost_b m (.slice ps m.cs.length ks) bl (.slice pl bl.length kl) c p.1 p.2 d b5 kw wr hh (hr.below (bk_dn e0 hW)) (hl.below (bk_dn e0 hW)) hb5 hkw
      have nadd : IntKind.i64.wrap ((d : Int) + 1) = ((d + 1 : Nat) : Int) := by rw [IntWalk.i64_in _ (by omega)]; simp
      have m0 := zm.cell 0
      have m1 := zm.cell 1
      have m2 := zm.cell 2
      have p0 := zp.cell 0
      have p1 := zp.cell 1
      simp only [List.getElem?_cons_zero, List.getElem?_cons_succ] at m0 m1 m2 p0 p1
      go_wp2_with fail
      ((with_reducible refine cs.mono ?_); rintro e w2 ⟨rfl, hb2⟩)
      clear cs m0 m1 m2 p0 p1
      replace zm := zm.below hb2
      replace zp := zp.below hb2
      replace zq := zq.below hb2
      have hW2 : Below k0 W w2 := bk_call e0 hW hb2
      clear hb2
      cases b5 with
      | false =>
        have hN := hid (miss_next hM.out (fun h => by rw [← hb5.out] at h; cases h))
        clear hb5 hkw hM
        go_upto_region 5 with fail
        refine wp_onlyN (wp_region_held (S := fun w' => Below w2.heap.size w2 w') hmx ?_)
        show wpAnyH _ _ _ _ _ _ _ _ w2.drew
        have hS0 := (Below.refl w2.heap.size w2).drew
        refine reg_tk (i := 0) (v := .bool false) (some 28) rfl (fun w' hS => by (skip); go_simp) hS0 ?_
        try simp only [Act.put, List.setIfInBounds_toArray, List.set_cons_zero, List.set_cons_succ]
        refine reg_tk (i := 1) (v := .bool false) (some 29) rfl (fun w' hS => by (skip); go_simp) hS0 ?_
        try simp only [Act.put, List.setIfInBounds_toArray, List.set_cons_zero, List.set_cons_succ]
        refine reg_skip (i := 2) (some 30) rfl rfl (by kernel_rfl) (by kernel_rfl) (by kernel_rfl) (fun _ _ _ h => h) (by kernel_rfl) hS0 ?_
        try simp only [Act.put, List.setIfInBounds_toArray, List.set_cons_zero, List.set_cons_succ]
        refine reg_skip (i := 3) (some 31) rfl rfl (by kernel_rfl) (by kernel_rfl) (by kernel_rfl) (fun _ _ _ h => h) (by kernel_rfl) hS0 ?_
        try simp only [Act.put, List.setIfInBounds_toArray, List.set_cons_zero, List.set_cons_succ]
        refine reg_skip (i := 4) (some 32) rfl rfl (by kernel_rfl) (by kernel_rfl) (by kernel_rfl) (fun _ _ _ h => h) (by kernel_rfl) hS0 ?_
        try simp only [Act.put, List.setIfInBounds_toArray, List.set_cons_zero, List.set_cons_succ]
        refine reg_skip (i := 5) (some 33) rfl rfl (by kernel_rfl) (by kernel_rfl) (by kernel_rfl) (fun _ _ _ h => h) (by kernel_rfl) hS0 ?_
        try simp only [Act.put, List.setIfInBounds_toArray, List.set_cons_zero, List.set_cons_succ]
        refine reg_skip (i := 6) (some 34) rfl rfl (by kernel_rfl) (by kernel_rfl) (by kernel_rfl) (fun _ _ _ h => h) (by kernel_rfl) hS0 ?_
        try simp only [Act.put, List.setIfInBounds_toArray, List.set_cons_zero, List.set_cons_succ]
        refine reg_tk (i := 7) (v := .bool false) (some 35) rfl (fun w' hS => by (skip); go_simp) hS0 ?_
        try simp only [Act.put, List.setIfInBounds_toArray, List.set_cons_zero, List.set_cons_succ]
        refine wpAnyH_done (by kernel_rfl) ?_ _
        try simp only [onlyN]
        replace zm := zm.below hS0
        replace zp := zp.below hS0
        replace zq := zq.below hS0
        replace hW2 := bk_call e0 hW2 hS0
        clear hS0
        go_wp2_with fail
        go_roundw
        case rel => exact ⟨d + 1, by go_num, by omega, hW2, zm, zp, zq, hN⟩
        case measure => simp [RowKit.intOf]; omega
      | true =>
        obtain ⟨qx, hqx⟩ : ∃ qx, Hid (qx = stx p.1 d) := ⟨_, hid rfl⟩
        obtain ⟨qy, hqy⟩ : ∃ qy, Hid (qy = sty p.2 d) := ⟨_, hid rfl⟩
        obtain ⟨bq, hbq⟩ : ∃ bq, Hid (bq = (qx == q.1 && qy == q.2)) := ⟨_, hid rfl⟩
        go_upto_region 5 with fail
        refine wp_onlyN (wp_region_held (S := fun w' => Below w2.heap.size w2 w') hmx ?_)
        show wpAnyH _ _ _ _ _ _ _ _ w2.drew
        have hS0 := (Below.refl w2.heap.size w2).drew
        refine reg_tk (i := 0) (v := .bool true) (some 28) rfl (fun w' hS => by (skip); go_simp) hS0 ?_
        try simp only [Act.put, List.setIfInBounds_toArray, List.set_cons_zero, List.set_cons_succ]
        refine reg_tk (i := 1) (v := .bool true) (some 29) rfl (fun w' hS => by (skip); go_simp) hS0 ?_
        try simp only [Act.put, List.setIfInBounds_toArray, List.set_cons_zero, List.set_cons_succ]
        refine reg_tk (i := 2) (v := .agg #[.int .i64 p.1, .int .i64 p.2]) (some 30) rfl (fun w' hS => by (have c0 := (zp.below hS).cell 0; have c1 := (zp.below hS).cell 1; simp only [List.getElem?_cons_zero, List.getElem?_cons_succ] at c0 c1); go_simp) hS0 ?_
        try simp only [Act.put, List.setIfInBounds_toArray, List.set_cons_zero, List.set_cons_succ]
        refine reg_tk (i := 3) (v := .int .i64 d) (some 31) rfl (fun w' hS => by (skip); go_simp) hS0 ?_
        try simp only [Act.put, List.setIfInBounds_toArray, List.set_cons_zero, List.set_cons_succ]
        refine reg_tk (i := 5) (v := .agg #[.int .i64 q.1, .int .i64 q.2]) (some 33) rfl (fun w' hS => by (have c0 := (zq.below hS).cell 0; have c1 := (zq.below hS).cell 1; simp only [List.getElem?_cons_zero, List.getElem?_cons_succ] at c0 c1); go_simp) hS0 ?_
        try simp only [Act.put, List.setIfInBounds_toArray, List.set_cons_zero, List.set_cons_succ]
        refine held_one (i := 4) (by kernel_rfl) rfl (fun K hQ => ?_)
        rw [if_pos (show Region.wanted _ _ = true by kernel_rfl)]
        go_simp
        ((with_reducible refine (r14beside_b p d qx qy _ hqx hqy).mono ?_); rintro e w5 ⟨rfl, hb5⟩)
        have hS1 := below_call hS0 hb5
        clear hb5
        refine hQ.out _ _ hS1 ?_
        clear hQ
        try simp only [Act.put, List.setIfInBounds_toArray, List.set_cons_zero, List.set_cons_succ]
        refine reg_tk (i := 6) (v := .bool bq) (some 34) rfl (fun w' hS => by go_simp; exact eq_two hbq) hS1 ?_
        try simp only [Act.put, List.setIfInBounds_toArray, List.set_cons_zero, List.set_cons_succ]
        refine reg_tk (i := 7) (v := .bool bq) (some 35) rfl (fun w' hS => by (skip); go_simp) hS1 ?_
        try simp only [Act.put, List.setIfInBounds_toArray, List.set_cons_zero, List.set_cons_succ]
        refine wpAnyH_done (by kernel_rfl) ?_ _
        try simp only [onlyN]
        replace zm := zm.below hS1
        replace zp := zp.below hS1
        replace zq := zq.below hS1
        have hW3 : Below k0 W w5 := bk_call e0 hW2 hS1
        clear hS1 hS0
        cases bq with
        | false =>
          have hN := hid (miss_next hM.out (fun _ h => by
            have h1 : qx = q.1 := by rw [hqx.out, ← h]
            have h2 : qy = q.2 := by rw [hqy.out, ← h]
            have h3 := hbq.out
            rw [h1, h2] at h3
            simp at h3))
          clear hb5 hkw hM hbq hqx hqy
          go_wp2_with fail
          go_roundw
          case rel => exact ⟨d + 1, by go_num, by omega, hW3, zm, zp, zq, hN⟩
          case measure => simp [RowKit.intOf]; omega
        | true =>
          have hst : stepC m bl c p q = some kw := by
            have h3 := hbq.out
            rw [eq_comm, Bool.and_eq_true, beq_iff_eq, beq_iff_eq] at h3
            rw [hkw.out]
            exact miss_hit hM.out hd hb5.out.symm (by rw [← hqx.out, ← hqy.out]; exact Prod.ext h3.1 h3.2)
          obtain ⟨rfl, rfl⟩ : k = kw ∧ b = true := by
            have e' := e.out
            rw [hst] at e'
            exact ⟨congrArg Prod.fst e', congrArg Prod.snd e'⟩
          clear hb5 hkw hM hbq hqx hqy e hst
          go_wp2_with fail
          go_ret2
          exact ⟨rfl, bk_dn e0 hW3⟩
    · obtain rfl : d = 8 := by omega
      obtain ⟨rfl, rfl⟩ : k = 0 ∧ b = false := by
        have e' := e.out
        unfold stepC at e'
        have hm := hM.out
        unfold StpMiss at hm
        unfold nbp at e'
        rw [hm] at e'
        exact ⟨congrArg Prod.fst e', congrArg Prod.snd e'⟩
      clear e hM
      go_wp2_with fail
      go_ret2
      exact ⟨rfl, bk_dn e0 hW⟩

set_option maxRecDepth 100000 in
set_option maxHeartbeats 8000000 in
theorem r14cost_b (m : M3) (sp : Option Addr) (sn sk : Nat) (bl : List Bool) (lp : Option Addr) (ln lk : Nat) (c : Int) (ps : List Pt) (v : Value) (r : Int × Int) (W : World) (hh : HighAt m) (hrow : RowAt W (.slice sp sn sk) m.cs) (hbit : BitsAt W (.slice lp ln lk) bl) (hr : PsAt W v ps) (hs : ps.length ≤ 100000) (hA : Hid (r = costA m bl c ps)) :
    Calls Tryd.prog 19 #[.agg #[.int .i64 m.w, .int .i64 m.h, .slice sp sn sk], .slice lp ln lk, .int .i64 c, v] W fun e w' => e = .returned (.tuple #[.int .i64 r.1, .int .i64 r.2]) ∧ Below W.heap.size W w' := by
  have hmx : Tryd.prog.follows .mixedOrders = true := by kernel_rfl
  obtain ⟨b1, h1⟩ : ∃ b1, Hid (b1 = validm m) := ⟨_, hid rfl⟩
  obtain ⟨b2, h2⟩ : ∃ b2, Hid (b2 = classv c) := ⟨_, hid rfl⟩
  have hT := Held1.start W [.int .i64 m.w, .int .i64 m.h, .slice sp sn sk] 24
  obtain ⟨pp, cap, rfl, hc1, hm, hc⟩ := id hr
  obtain ⟨n, hn⟩ : ∃ n, Hid (ps.length = n) := ⟨_, hid rfl⟩
  rw [hn.out] at hm hs hc1
  rw [show (Value.slice pp ps.length cap) = .slice pp n cap by rw [hn.out]]
  unfold maxLen at hm
  obtain ⟨k1, ek⟩ : ∃ k1, Hid (k1 = W.heap.size) := ⟨_, hid rfl⟩
  go_enter Tryd.func19, Tryd.ntmps19
  go_upto_region 1 with fail
  obtain ⟨X, hX⟩ : ∃ X, X = W.alloc (.cells [Value.int .i64 m.w, .int .i64 m.h, .slice sp sn sk].toArray 24) := ⟨_, rfl⟩
  rw [← hX] at hT ⊢
  clear hX
  have z1 := hT.l.at ek.out.symm
  have hWX : Below k1 W X := by rw [ek.out]; exact hT.old
  rw [← ek.out]
  clear hT
  have m0 := z1.cell 0
  have m1 := z1.cell 1
  have m2 := z1.cell 2
  simp only [List.getElem?_cons_zero, List.getElem?_cons_succ] at m0 m1 m2
  go_wp2_with fail
  ((with_reducible refine (rvalidm_c m (.slice sp sn sk) b1 X (hrow.below (bk_dn ek hWX)) h1).mono ?_); rintro e w1 ⟨rfl, hb1⟩)
  replace z1 := z1.below hb1
  have hW1 : Below k1 W w1 := bk_call ek hWX hb1
  clear hb1 m0 m1 m2
  have stop : (b1 && b2) = false ∨ n = 0 → r = (0, 1) := fun h => by
    rw [hA.out, costA_eq, ← h1.out, ← h2.out]
    rcases h with h | h
    · rw [h]; rfl
    · rw [show ps = [] from List.eq_nil_of_length_eq_zero (by rw [hn.out]; exact h)]; simp
  cases b1 with
  | false =>
    have hr1 := stop (.inl rfl)
    subst hr1
    clear stop hA hc
    go_wp2_with fail
    go_ret2
    exact ⟨rfl, bk_dn ek hW1⟩
  | true =>
    go_wp2_with fail
    ((with_reducible refine (r14class_b c b2 w1 h2).mono ?_); rintro e w2 ⟨rfl, hb2⟩)
    replace z1 := z1.below hb2
    have hW2 : Below k1 W w2 := bk_call ek hW1 hb2
    clear hb2
    cases b2 with
    | false =>
      have hr1 := stop (.inl rfl)
      subst hr1
      clear stop hA hc
      go_wp2_with fail
      go_ret2
      exact ⟨rfl, bk_dn ek hW2⟩
    | true =>
      by_cases hz : n = 0
      · have hr1 := stop (.inr hz)
        have z9 : ((n : Int) == 0) = true := beq_iff_eq.2 (by omega)
        subst hr1
        clear stop hA hc hz
        go_wp2_with fail
        go_ret2
        exact ⟨rfl, bk_dn ek hW2⟩
      · have z9 : ((n : Int) == 0) = false := beq_eq_false_iff_ne.2 (by omega)
        clear stop
        obtain ⟨g, o, rfl, hk, hat⟩ := hc (by rw [hn.out]; omega)
        have hpos : 0 < n := by omega
        replace hA : Hid (r = if ps.all (insp m) = false then ((0, 1) : Int × Int) else costT m bl c ps) := hid (by
          rw [hA.out, costA_eq, ← h1.out, ← h2.out, show ps.isEmpty = false from by
            cases h : ps with
            | nil => exact absurd (show n = 0 by rw [← hn.out, h]; rfl) hz
            | cons p t => rfl]
          simp only [Bool.true_and, Bool.and_self, Bool.not_false])
        clear h1 h2 hz
        go_wp2_with fail
        go_loopw [10] (fun vi wr => ∃ i : Nat, vi = .int .i64 i ∧ i ≤ n ∧ Below k1 W wr ∧ Blk wr k1 [.int .i64 m.w, .int .i64 m.h, .slice sp sn sk] 24 ∧ Hid (∀ j, (h : j < ps.length) → j < i → insp m (ps[j]'h) = true)) (fun vi _ => n - (RowKit.intOf vi).toNat)
        case atStart => exact ⟨0, rfl, by omega, hW2, z1, hid (fun j _ h => by omega)⟩
        case round =>
          clear hW2 z1
          obtain ⟨i, rfl, hi, hWr, z1, hG⟩ := hrel
          by_cases hlt : i < n
          · have hip : i < ps.length := by rw [hn.out]; exact hlt
            have d1 : (i : Int) < (n : Int) := by omega
            have d0 : (0 : Int) ≤ (i : Int) := by omega
            have z8 : decide ((i : Int) < (n : Int)) = true := decide_eq_true d1
            obtain ⟨a1, a2⟩ := hat i hip
            rw [← hWr.cell (p := ⟨g, _, none⟩) (by rw [ek.out]; exact hk)] at a1 a2
            have hkr : g < wr.heap.size := by have := hWr.size; omega
            obtain ⟨q, hq⟩ : ∃ q, ps[i]'hip = q := ⟨_, rfl⟩
            rw [hq] at a1 a2
            obtain ⟨b6, hb6⟩ : ∃ b6, Hid (b6 = insp m q) := ⟨_, hid rfl⟩
            have ci := fun w => r14inside_b m (.slice sp sn sk) q b6 w hb6
            have nadd : IntKind.i64.wrap ((i : Int) + 1) = ((i + 1 : Nat) : Int) := by rw [IntWalk.i64_in _ (by omega)]; simp
            go_upto_region 6 with fail
            refine wp_onlyN (wp_region_held (S := fun w' => Below wr.heap.size wr w') hmx ?_)
            show wpAnyH _ _ _ _ _ _ _ _ wr.drew
            have hS0 := (Below.refl wr.heap.size wr).drew
            refine reg_tk (i := 0) (v := .agg #[.int .i64 m.w, .int .i64 m.h, .slice sp sn sk]) (some 34) rfl (fun w' hS => by (have c0 := (z1.below hS).cell 0; have c1 := (z1.below hS).cell 1; have c2 := (z1.below hS).cell 2; simp only [List.getElem?_cons_zero, List.getElem?_cons_succ] at c0 c1 c2); go_simp) hS0 ?_
            try simp only [Act.put, List.setIfInBounds_toArray, List.set_cons_zero, List.set_cons_succ]
            refine reg_tk (i := 1) (v := .slice (some ⟨g, o, none⟩) n cap) (some 35) rfl (fun w' hS => by (skip); go_simp) hS0 ?_
            try simp only [Act.put, List.setIfInBounds_toArray, List.set_cons_zero, List.set_cons_succ]
            refine reg_tk (i := 2) (v := .int .i64 i) (some 36) rfl (fun w' hS => by (skip); go_simp) hS0 ?_
            try simp only [Act.put, List.setIfInBounds_toArray, List.set_cons_zero, List.set_cons_succ]
            refine reg_tk (i := 3) (v := .pointer (some ⟨g, o + i * 2, none⟩)) (some 37) rfl (fun w' hS => by (skip); go_simp) hS0 ?_
            try simp only [Act.put, List.setIfInBounds_toArray, List.set_cons_zero, List.set_cons_succ]
            refine reg_tk (i := 4) (v := .agg #[.int .i64 q.1, .int .i64 q.2]) (some 38) rfl (fun w' hS => by (have c0 := (hS.cell (p := ⟨g, o + i * 2, none⟩) hkr).trans a1; have c1 := (hS.cell (p := ⟨g, o + i * 2 + 1, none⟩) hkr).trans a2); go_simp) hS0 ?_
            try simp only [Act.put, List.setIfInBounds_toArray, List.set_cons_zero, List.set_cons_succ]
            refine held_one (i := 5) (by kernel_rfl) rfl (fun K hQ => ?_)
            go_simp
            ((with_reducible refine (ci _).mono ?_); rintro e w6 ⟨rfl, hb6⟩)
            have hS1 := below_call hS0 hb6
            clear hb6
            refine hQ.out _ _ hS1 ?_
            clear hQ
            try simp only [Act.put, List.setIfInBounds_toArray, List.set_cons_zero, List.set_cons_succ]
            refine reg_tk (i := 6) (v := .bool (!b6)) (some 40) rfl (fun w' hS => by (skip); go_simp) hS1 ?_
            try simp only [Act.put, List.setIfInBounds_toArray, List.set_cons_zero, List.set_cons_succ]
            refine wpAnyH_done (by kernel_rfl) ?_ _
            try simp only [onlyN]
            replace z1 := z1.below hS1
            have hW6 : Below k1 W w6 := bk_call ek hWr hS1
            clear hS1 hS0 ci a1 a2
            cases b6 with
            | true =>
              have hN := hid (show ∀ j, (h : j < ps.length) → j < i + 1 → insp m (ps[j]'h) = true from fun j h hj => by
                by_cases e : j < i
                · exact hG.out j h e
                · obtain rfl : j = i := by omega
                  rw [hq]; exact hb6.out.symm)
              clear hG hat
              go_wp2_with fail
              go_roundw
              case rel => exact ⟨i + 1, by go_num, by omega, hW6, z1, hN⟩
              case measure => simp [RowKit.intOf]; omega
            | false =>
              have hr1 : r = (0, 1) := by
                rw [hA.out, if_pos]
                rw [List.all_eq_false]
                exact ⟨ps[i]'hip, List.getElem_mem hip, by rw [hq, ← hb6.out]; simp⟩
              subst hr1
              clear hG hat hA
              go_wp2_with fail
              go_ret2
              exact ⟨rfl, bk_dn ek hW6⟩
          · obtain rfl : n = i := by omega
            have z8 : decide ((n : Int) < (n : Int)) = false := decide_eq_false (by omega)
            have hall : ps.all (insp m) = true := by
              rw [List.all_eq_true]
              intro x hx
              obtain ⟨j, hj, rfl⟩ := List.getElem_of_mem hx
              exact hG.out j hj (by rw [← hn.out]; exact hj)
            clear hG
            obtain ⟨p0, t, hps⟩ : ∃ p0 t, Hid (ps = p0 :: t) := by
              cases ps with
              | nil => exact absurd hn.out (by simp; omega)
              | cons p t => exact ⟨p, t, hid rfl⟩
            replace hA : Hid (r = if openv m bl c p0.1 p0.2 = false then ((0, 9) : Int × Int) else sumT (sumC m bl c p0 t)) := hid (by
              rw [hA.out, if_neg (by rw [hall]; decide), hps.out]; rfl)
            have hlt : Hid (t.length + 1 = n) := hid (by have := hn.out; rw [hps.out] at this; exact this)
            obtain ⟨b4, h4⟩ : ∃ b4, Hid (b4 = openv m bl c p0.1 p0.2) := ⟨_, hid rfl⟩
            have hat0 := hat 0 (by rw [hn.out]; exact hpos)
            have hp0 : ps[0]'(by rw [hn.out]; exact hpos) = p0 := by simp [hps.out]
            rw [hp0] at hat0
            simp only [Nat.zero_mul, Nat.add_zero] at hat0
            obtain ⟨a1, a2⟩ := hat0
            rw [← hWr.cell (p := ⟨g, _, none⟩) (by rw [ek.out]; exact hk)] at a1 a2
            obtain ⟨w2, hw2⟩ : ∃ w2, w2 = wr := ⟨_, rfl⟩
            rw [← hw2] at a1 a2 z1 hWr ⊢
            clear hw2
            have hk3 : g < w2.heap.size := by have := hWr.size; omega
            have cf := fun w (hS : Below w2.heap.size w2 w) => r14free_b m (.slice sp sn sk) bl (.slice lp ln lk) c p0 b4 w (hrow.below (below_call (bk_dn ek hWr) hS)) (hbit.below (below_call (bk_dn ek hWr) hS)) h4
            clear hall hi
            go_upto_region 8 with fail
            refine wp_onlyN (wp_region_held (S := fun w' => Below w2.heap.size w2 w') hmx ?_)
            show wpAnyH _ _ _ _ _ _ _ _ w2.drew
            have hS0 := (Below.refl w2.heap.size w2).drew
            refine reg_tk (i := 0) (v := .agg #[.int .i64 m.w, .int .i64 m.h, .slice sp sn sk]) (some 41) rfl (fun w' hS => by (have c0 := (z1.below hS).cell 0; have c1 := (z1.below hS).cell 1; have c2 := (z1.below hS).cell 2; simp only [List.getElem?_cons_zero, List.getElem?_cons_succ] at c0 c1 c2); go_simp) hS0 ?_
            try simp only [Act.put, List.setIfInBounds_toArray, List.set_cons_zero, List.set_cons_succ]
            refine reg_tk (i := 1) (v := .slice lp ln lk) (some 42) rfl (fun w' hS => by (skip); go_simp) hS0 ?_
            try simp only [Act.put, List.setIfInBounds_toArray, List.set_cons_zero, List.set_cons_succ]
            refine reg_tk (i := 2) (v := .int .i64 c) (some 43) rfl (fun w' hS => by (skip); go_simp) hS0 ?_
            try simp only [Act.put, List.setIfInBounds_toArray, List.set_cons_zero, List.set_cons_succ]
            refine reg_tk (i := 3) (v := .slice (some ⟨g, o, none⟩) n cap) (some 44) rfl (fun w' hS => by (skip); go_simp) hS0 ?_
            try simp only [Act.put, List.setIfInBounds_toArray, List.set_cons_zero, List.set_cons_succ]
            refine reg_tk (i := 4) (v := .pointer (some ⟨g, o, none⟩)) (some 45) rfl (fun w' hS => by (skip); go_simp) hS0 ?_
            try simp only [Act.put, List.setIfInBounds_toArray, List.set_cons_zero, List.set_cons_succ]
            refine reg_tk (i := 5) (v := .agg #[.int .i64 p0.1, .int .i64 p0.2]) (some 46) rfl (fun w' hS => by (have c0 := (hS.cell (p := ⟨g, o, none⟩) hk3).trans a1; have c1 := (hS.cell (p := ⟨g, o + 1, none⟩) hk3).trans a2); go_simp) hS0 ?_
            try simp only [Act.put, List.setIfInBounds_toArray, List.set_cons_zero, List.set_cons_succ]
            refine held_one (i := 6) (by kernel_rfl) rfl (fun K hQ => ?_)
            go_simp
            ((with_reducible refine (cf _ hS0).mono ?_); rintro e w8 ⟨rfl, hb8⟩)
            have hS1 := below_call hS0 hb8
            clear hb8
            refine hQ.out _ _ hS1 ?_
            clear hQ
            try simp only [Act.put, List.setIfInBounds_toArray, List.set_cons_zero, List.set_cons_succ]
            refine reg_tk (i := 7) (v := .bool (!b4)) (some 48) rfl (fun w' hS => by (skip); go_simp) hS1 ?_
            try simp only [Act.put, List.setIfInBounds_toArray, List.set_cons_zero, List.set_cons_succ]
            refine wpAnyH_done (by kernel_rfl) ?_ _
            try simp only [onlyN]
            replace z1 := z1.below hS1
            have hW8 : Below k1 W w8 := bk_call ek hWr hS1
            clear hS1 hS0 cf a1 a2
            cases b4 with
            | false =>
              have hr1 : r = (0, 9) := by rw [hA.out, ← h4.out]; rfl
              subst hr1
              clear hat hA
              go_wp2_with fail
              go_ret2
              exact ⟨rfl, bk_dn ek hW8⟩
            | true =>
              replace hA : Hid (r = sumT (sumC m bl c p0 t)) := hid (by rw [hA.out, ← h4.out]; rfl)
              clear z8 z9
              go_upto_region 12 with fail
              go_loopw [11, 12] (fun yt yi wr => ∃ (j i : Nat) (tot : Int) (a : Pt), yt = .int .i64 tot ∧ yi = .int .i64 j ∧ Hid (j = i + 1) ∧ j ≤ n ∧ ps[i]? = some a ∧ Hid (sumC m bl c p0 t = (sumC m bl c a (ps.drop (i + 1))).map (tot + ·)) ∧ (0 ≤ tot ∧ tot ≤ 19 * (i : Int)) ∧ Below k1 W wr ∧ Blk wr k1 [.int .i64 m.w, .int .i64 m.h, .slice sp sn sk] 24) (fun _ yi _ => n - (RowKit.intOf yi).toNat)
              case atStart => exact ⟨1, 0, 0, p0, rfl, rfl, hid rfl, by omega, by rw [hps.out]; rfl, hid (by rw [hps.out]; show sumC m bl c p0 t = (sumC m bl c p0 t).map (0 + ·); simp), by omega, hW8, z1⟩
              case round =>
                clear z1 hW8
                obtain ⟨j, i, tot, a, rfl, rfl, hji, hi, hia, hsum, htot, hWr, z1⟩ := hrel
                by_cases hlt2 : j < n
                · have hjl : j < ps.length := by rw [hn.out]; exact hlt2
                  have hi1 : i + 1 < ps.length := by rw [← hji.out]; exact hjl
                  have hin : i < n := by have := hji.out; omega
                  obtain ⟨q, hq⟩ : ∃ q, q = ps[i + 1]'hi1 := ⟨_, rfl⟩
                  have hdr : ps.drop (i + 1) = q :: ps.drop (i + 2) := by rw [hq]; exact List.drop_eq_getElem_cons hi1
                  have hqq : ps[i + 1]? = some q := by rw [List.getElem?_eq_getElem hi1, hq]
                  have hca := hat i (by omega)
                  have haa : ps[i]'(by omega) = a := by have := List.getElem?_eq_getElem (show i < ps.length by omega); rw [hia] at this; injection this with e; exact e.symm
                  rw [haa] at hca
                  have hcq := hat (i + 1) hi1
                  rw [← hq, ← hji.out] at hcq
                  obtain ⟨a1, a2⟩ := hca
                  obtain ⟨c1, c2⟩ := hcq
                  rw [← hWr.cell (p := ⟨g, _, none⟩) (by rw [ek.out]; exact hk)] at a1 a2 c1 c2
                  have hkr : g < wr.heap.size := by have := hWr.size; omega
                  have i0 : (0 : Int) ≤ (i : Int) := by omega
                  have i1 : (i : Int) < (n : Int) := by omega
                  have i2 : (0 : Int) ≤ (j : Int) := by omega
                  have i3 : (j : Int) < (n : Int) := by omega
                  have z9 : decide ((j : Int) < (n : Int)) = true := decide_eq_true i3
                  have nsub : IntKind.i64.wrap ((j : Int) - 1) = (i : Int) := by have := hji.out; rw [IntWalk.i64_in _ (by omega)]; omega
                  have nadd : IntKind.i64.wrap ((j : Int) + 1) = ((j + 1 : Nat) : Int) := by rw [IntWalk.i64_in _ (by omega)]; omega
                  obtain ⟨kw, b5, hst⟩ : ∃ kw b5, Hid (((kw, b5) : Int × Bool) = match stepC m bl c a q with | some w => (w, true) | none => (0, false)) := ⟨_, _, hid rfl⟩
                  have hkw : 0 ≤ kw ∧ kw ≤ 19 := by
                    have h := hst.out
                    cases h5 : stepC m bl c a q with
                    | none => rw [h5] at h; injection h with h _; omega
                    | some w =>
                      rw [h5] at h
                      injection h with h _
                      unfold stepC at h5
                      cases h6 : (nbp m bl c a).find? fun x => decide (x.1 = q) with
                      | none => rw [h6] at h5; cases h5
                      | some x =>
                        rw [h6] at h5
                        injection h5 with h5
                        have h7 : x.2 = w := h5
                        have := nbp_w (List.mem_of_find?_eq_some h6)
                        omega
                  have nsum : IntKind.i64.wrap (tot + kw) = tot + kw := IntWalk.i64_in _ (by omega)
                  have cs := fun w (hS : Below wr.heap.size wr w) => r14between_b m (.slice sp sn sk) bl (.slice lp ln lk) c a q kw b5 w hh (hrow.below (below_call (bk_dn ek hWr) hS)) (hbit.below (below_call (bk_dn ek hWr) hS)) hst
                  clear hq haa
                  replace hdr := hid hdr
                  go_upto_region 14 with fail
                  refine wp_onlyN (wp_region_held (S := fun w' => Below wr.heap.size wr w') hmx ?_)
                  show wpAnyH _ _ _ _ _ _ _ _ wr.drew
                  have hS0 := (Below.refl wr.heap.size wr).drew
                  refine reg_tk (i := 0) (v := .agg #[.int .i64 m.w, .int .i64 m.h, .slice sp sn sk]) (some 56) rfl (fun w' hS => by (have c0 := (z1.below hS).cell 0; have c1 := (z1.below hS).cell 1; have c2 := (z1.below hS).cell 2; simp only [List.getElem?_cons_zero, List.getElem?_cons_succ] at c0 c1 c2); go_simp) hS0 ?_
                  try simp only [Act.put, List.setIfInBounds_toArray, List.set_cons_zero, List.set_cons_succ]
                  refine reg_tk (i := 1) (v := .slice lp ln lk) (some 57) rfl (fun w' hS => by (skip); go_simp) hS0 ?_
                  try simp only [Act.put, List.setIfInBounds_toArray, List.set_cons_zero, List.set_cons_succ]
                  refine reg_tk (i := 2) (v := .int .i64 c) (some 58) rfl (fun w' hS => by (skip); go_simp) hS0 ?_
                  try simp only [Act.put, List.setIfInBounds_toArray, List.set_cons_zero, List.set_cons_succ]
                  refine reg_tk (i := 3) (v := .slice (some ⟨g, o, none⟩) n cap) (some 59) rfl (fun w' hS => by (skip); go_simp) hS0 ?_
                  try simp only [Act.put, List.setIfInBounds_toArray, List.set_cons_zero, List.set_cons_succ]
                  refine reg_tk (i := 4) (v := .int .i64 j) (some 60) rfl (fun w' hS => by (skip); go_simp) hS0 ?_
                  try simp only [Act.put, List.setIfInBounds_toArray, List.set_cons_zero, List.set_cons_succ]
                  refine reg_tk (i := 5) (v := .int .i64 i) (some 61) rfl (fun w' hS => by (skip); go_simp) hS0 ?_
                  try simp only [Act.put, List.setIfInBounds_toArray, List.set_cons_zero, List.set_cons_succ]
                  refine reg_tk (i := 6) (v := .pointer (some ⟨g, o + i * 2, none⟩)) (some 62) rfl (fun w' hS => by (skip); go_simp) hS0 ?_
                  try simp only [Act.put, List.setIfInBounds_toArray, List.set_cons_zero, List.set_cons_succ]
                  refine reg_tk (i := 7) (v := .agg #[.int .i64 a.1, .int .i64 a.2]) (some 63) rfl (fun w' hS => by (have c0 := (hS.cell (p := ⟨g, o + i * 2, none⟩) hkr).trans a1; have c1 := (hS.cell (p := ⟨g, o + i * 2 + 1, none⟩) hkr).trans a2); go_simp) hS0 ?_
                  try simp only [Act.put, List.setIfInBounds_toArray, List.set_cons_zero, List.set_cons_succ]
                  refine reg_tk (i := 8) (v := .slice (some ⟨g, o, none⟩) n cap) (some 64) rfl (fun w' hS => by (skip); go_simp) hS0 ?_
                  try simp only [Act.put, List.setIfInBounds_toArray, List.set_cons_zero, List.set_cons_succ]
                  refine reg_tk (i := 9) (v := .int .i64 j) (some 65) rfl (fun w' hS => by (skip); go_simp) hS0 ?_
                  try simp only [Act.put, List.setIfInBounds_toArray, List.set_cons_zero, List.set_cons_succ]
                  refine reg_tk (i := 10) (v := .pointer (some ⟨g, o + j * 2, none⟩)) (some 66) rfl (fun w' hS => by (skip); go_simp) hS0 ?_
                  try simp only [Act.put, List.setIfInBounds_toArray, List.set_cons_zero, List.set_cons_succ]
                  refine reg_tk (i := 11) (v := .agg #[.int .i64 q.1, .int .i64 q.2]) (some 67) rfl (fun w' hS => by (have c0 := (hS.cell (p := ⟨g, o + j * 2, none⟩) hkr).trans c1; have c1 := (hS.cell (p := ⟨g, o + j * 2 + 1, none⟩) hkr).trans c2); go_simp) hS0 ?_
                  try simp only [Act.put, List.setIfInBounds_toArray, List.set_cons_zero, List.set_cons_succ]
                  refine held_one (i := 12) (by kernel_rfl) rfl (fun K hQ => ?_)
                  go_simp
                  ((with_reducible refine (cs _ hS0).mono ?_); rintro e w14 ⟨rfl, hb14⟩)
                  have hS1 := below_call hS0 hb14
                  clear hb14
                  refine hQ.out _ _ hS1 ?_
                  clear hQ
                  try simp only [Act.put, List.setIfInBounds_toArray, List.set_cons_zero, List.set_cons_succ]
                  refine reg_tk (i := 13) (v := .tuple #[.int .i64 kw, .bool b5]) (some 55) rfl (fun w' hS => by (skip); go_simp) hS1 ?_
                  try simp only [Act.put, List.setIfInBounds_toArray, List.set_cons_zero, List.set_cons_succ]
                  refine reg_tk (i := 14) (v := .int .i64 kw) (some 69) rfl (fun w' hS => by (skip); go_simp) hS1 ?_
                  try simp only [Act.put, List.setIfInBounds_toArray, List.set_cons_zero, List.set_cons_succ]
                  refine reg_tk (i := 15) (v := .bool b5) (some 70) rfl (fun w' hS => by (skip); go_simp) hS1 ?_
                  try simp only [Act.put, List.setIfInBounds_toArray, List.set_cons_zero, List.set_cons_succ]
                  refine reg_tk (i := 16) (v := .int .i64 kw) (some 13) rfl (fun w' hS => by (skip); go_simp) hS1 ?_
                  try simp only [Act.put, List.setIfInBounds_toArray, List.set_cons_zero, List.set_cons_succ]
                  refine reg_tk (i := 17) (v := .bool b5) (some 14) rfl (fun w' hS => by (skip); go_simp) hS1 ?_
                  try simp only [Act.put, List.setIfInBounds_toArray, List.set_cons_zero, List.set_cons_succ]
                  refine wpAnyH_done (by kernel_rfl) ?_ _
                  try simp only [onlyN]
                  replace z1 := z1.below hS1
                  have hW9 : Below k1 W w14 := bk_call ek hWr hS1
                  clear hS1 hS0 cs a1 a2 c1 c2
                  cases b5 with
                  | false =>
                    have hno : stepC m bl c a q = none := by
                      have h := hst.out
                      cases h5 : stepC m bl c a q with
                      | none => rfl
                      | some w => rw [h5] at h; injection h with _ h; cases h
                    have hr1 : r = (0, 9) := by rw [hA.out, hsum.out, hdr.out]; simp only [sumC]; rw [hno]; rfl
                    subst hr1
                    clear hat hA hsum hst hno
                    go_wp2_with fail
                    go_ret2
                    exact ⟨rfl, bk_dn ek hW9⟩
                  | true =>
                    have hyes : stepC m bl c a q = some kw := by
                      have h := hst.out
                      cases h5 : stepC m bl c a q with
                      | none => rw [h5] at h; injection h with _ h; cases h
                      | some w => rw [h5] at h; injection h with h _; rw [h]
                    have hsn : Hid (sumC m bl c p0 t = (sumC m bl c q (ps.drop (i + 1 + 1))).map (tot + kw + ·)) := hid (by
                      rw [hsum.out, hdr.out]; simp only [sumC]; rw [hyes]
                      cases sumC m bl c q (ps.drop (i + 2)) with
                      | none => rfl
                      | some z => simp [Int.add_assoc])
                    clear hat hA hsum hst hyes
                    go_wp2_with fail
                    have hadd : Value.int .i64 ((j : Int) + 1) = Value.int .i64 ((j + 1 : Nat) : Int) := by push_cast; rfl
                    have hmeas : n - (RowKit.intOf (Value.int .i64 ((j : Int) + 1))).toNat < n - (RowKit.intOf (Value.int .i64 (j : Int))).toNat := by simp [RowKit.intOf]; omega
                    refine ⟨⟨_, _, _, _, _, _, _, _, _, _, _, _, _, _, _, _, _, _, _, _, _, _, _, _, _, _, _, _, _, _, _, _, _, ⟨j + 1, i + 1, tot + kw, q, rfl, hadd, hid (by rw [hji.out]), by omega, hqq, hsn, by push_cast; omega, hW9, z1⟩, rfl⟩, hmeas⟩
                · obtain rfl : n = j := by omega
                  have z9 : decide ((n : Int) < (n : Int)) = false := decide_eq_false (by omega)
                  have hr1 : r = (tot, 0) := by
                    rw [hA.out, hsum.out, List.drop_eq_nil_of_le (by rw [hn.out, hji.out]; omega)]
                    show sumT ((sumC m bl c a []).map (tot + ·)) = (tot, 0)
                    simp [sumC, sumT]
                  subst hr1
                  clear hat hA hsum
                  go_wp2_with fail
                  go_ret2
                  exact ⟨rfl, bk_dn ek hWr⟩

end Go.Proofs.YtmbadkgeoealoaaDoor
