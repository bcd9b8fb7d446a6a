/-
  astar as landed at 35fbd81: the cost of a way.
-/
import Derived.Test.YtbdgpldhfemejaaDoorAsP
namespace Go.Proofs.YtbdgpldhfemejaaDoor
open Go.RowKit Go.Lib Go.Shelf

/-- What the steps of a way cost together. -/
def sumC (m : M3) (bl : List Bool) (c : Int) : Pt → List Pt → Option Int
  | _, [] => some 0
  | p, q :: t => match stepC m bl c p q with
    | none => none
    | some w => (sumC m bl c q t).map (w + ·)
def costA (m : M3) (bl : List Bool) (c : Int) (ps : List Pt) : Int × Int :=
  if (validm m && classv c && !ps.isEmpty && ps.all (insp m)) = false then (0, 1) else
  match ps with
  | [] => (0, 1)
  | p :: t => if openv m bl c p.1 p.2 = false then (0, 9) else
    match sumC m bl c p t with
    | none => (0, 9)
    | some s => (s, 0)

set_option maxRecDepth 100000 in
set_option maxHeartbeats 8000000 in
theorem ascostw_b (m : M3) (sp : Option Addr) (sn sk : Nat) (bl : List Bool) (lp : Option Addr) (ln lk : Nat) (c : Int) (ps : List Pt) (v : Value) (r : Int × Int) (W : World) (hG : Gd W m (.slice sp sn sk) bl (.slice lp ln lk)) (hr : PsAt W v ps) (hs : ps.length ≤ 100000) (hA : Hid (r = costA m bl c ps)) :
    Calls Tryd.prog 15 #[.agg #[.int .i64 m.w, .int .i64 m.h, .slice sp sn sk], .slice lp ln lk, .int .i64 c, v] W fun e w' => e = .returned (.tuple #[.int .i64 r.1, .int .i64 r.2]) ∧ Below W.heap.size W w' := by
  obtain ⟨b1, h1⟩ : ∃ b1, Hid (b1 = (validm m && classv c)) := ⟨_, hid rfl⟩
  obtain ⟨b2, h2⟩ : ∃ b2, Hid (b2 = ps.all (insp m)) := ⟨_, hid rfl⟩
  have hK := (((Keep.nil W).alloc [.int .i64 m.w, .int .i64 m.h, .slice sp sn sk] 24)).alloc [.int .i64 m.w, .int .i64 m.h, .slice sp sn sk, .slice lp ln lk, .int .i64 c] 46
  simp only [World.size_alloc] at hK
  obtain ⟨p, cap, rfl, hc1, hm, hc⟩ := id hr
  go_enter Tryd.func15, Tryd.ntmps15
  go_upto_region 2 with fail
  obtain ⟨X, hX⟩ : ∃ X, X = (W.alloc (.cells [Value.int .i64 m.w, .int .i64 m.h, .slice sp sn sk].toArray 24)).alloc (.cells [Value.int .i64 m.w, .int .i64 m.h, .slice sp sn sk, .slice lp ln lk, .int .i64 c].toArray 46) := ⟨_, rfl⟩
  rw [← hX] at hK ⊢
  clear hX
  obtain ⟨k1, e1⟩ : ∃ k1, k1 = W.heap.size + 1 := ⟨_, rfl⟩
  have z1 : Blk X k1 (grdL m (.slice sp sn sk) (.slice lp ln lk) c) 46 := (hK.blks (W.heap.size + 1, grdL m (.slice sp sn sk) (.slice lp ln lk) c, 46) (by simp)).at e1.symm
  have hWX := hK.old
  rw [← e1]
  clear hK e1
  have q0 := z1.cell 0
  have q1 := z1.cell 1
  have q2 := z1.cell 2
  have q3 := z1.cell 3
  have q4 := z1.cell 4
  simp only [List.getElem?_cons_zero, List.getElem?_cons_succ] at q0 q1 q2 q3 q4
  go_wp2_with fail
  ((with_reducible refine (asvalid_b m (.slice sp sn sk) (.slice lp ln lk) c b1 X (hG.row.below hWX) h1).mono ?_); rintro e w1 ⟨rfl, hb1⟩)
  replace z1 := z1.below hb1
  have hW1 := below_call hWX hb1
  clear hb1 q0 q1 q2 q3 q4
  have q0 := z1.cell 0
  have q1 := z1.cell 1
  have q2 := z1.cell 2
  have q3 := z1.cell 3
  have q4 := z1.cell 4
  simp only [List.getElem?_cons_zero, List.getElem?_cons_succ] at q0 q1 q2 q3 q4
  cases b1 with
  | false =>
    have hr1 : r = (0, 1) := by rw [hA.out]; unfold costA; rw [← h1.out]; rfl
    subst hr1
    go_wp2_with fail
    go_ret2
    exact ⟨rfl, hW1⟩
  | true =>
    have hf := classv_of h1.out.symm
    have hcl := formed_len hf
    have ok := nb_ok hf bl c
    rcases (show ps = [] ∨ ∃ p0 t, Hid (ps = p0 :: t) by cases ps with | nil => exact .inl rfl | cons a t => exact .inr ⟨a, t, hid rfl⟩) with hps | ⟨p0, t, hps⟩
    · subst hps
      have hr1 : r = (0, 1) := by rw [hA.out]; unfold costA; simp
      subst hr1
      clear hc
      go_wp2_with fail
      go_ret2
      exact ⟨rfl, hW1⟩
    · have hlen : Hid (ps.length = t.length + 1) := hid (by rw [hps.out]; rfl)
      have hl0 : ((ps.length : Int) == 0) = false := beq_eq_false_iff_ne.2 (by have := hlen.out; omega)
      obtain ⟨g, o, rfl, hk, hat⟩ := hc (by have := hlen.out; omega)
      have cc := ascont_b m (.slice sp sn sk) (.slice lp ln lk) c ps _ b2 w1 (hr.below hW1) h2
      go_wp2_with fail
      ((with_reducible refine cc.mono ?_); rintro e w2 ⟨rfl, hb2⟩)
      replace z1 := z1.below hb2
      have hW2 := below_call hW1 hb2
      clear hb2 q0 q1 q2 q3 q4 cc hc
      have q0 := z1.cell 0
      have q1 := z1.cell 1
      have q2 := z1.cell 2
      have q3 := z1.cell 3
      have q4 := z1.cell 4
      simp only [List.getElem?_cons_zero, List.getElem?_cons_succ] at q0 q1 q2 q3 q4
      cases b2 with
      | false =>
        have hr1 : r = (0, 1) := by rw [hA.out]; unfold costA; rw [← h2.out, Bool.and_false]; rfl
        subst hr1
        clear hat
        go_wp2_with fail
        go_ret2
        exact ⟨rfl, hW2⟩
      | true =>
        have hrB : Hid (r = if openv m bl c p0.1 p0.2 = false then ((0, 9) : Int × Int) else match sumC m bl c p0 t with | none => (0, 9) | some s => (s, 0)) := hid (by
          rw [hA.out]; unfold costA; rw [← h2.out, ← h1.out, hps.out]; rfl)
        obtain ⟨b4, h4⟩ : ∃ b4, Hid (b4 = openv m bl c p0.1 p0.2) := ⟨_, hid rfl⟩
        have hne : ¬ ps = [] := by rw [hps.out]; exact List.cons_ne_nil _ _
        have hat0 := hat 0 (by have := hlen.out; omega)
        have hp0 : ps[0]'(by have := hlen.out; omega) = p0 := by simp [hps.out]
        rw [hp0] at hat0
        simp only [Nat.zero_mul, Nat.add_zero] at hat0
        obtain ⟨a1, a2⟩ := hat0
        rw [← hW2.cell (p := ⟨g, _, none⟩) hk] at a1 a2
        have hk3 : g < w2.heap.size := by have := hW2.size; omega
        have cf := fun w (hS : Below w2.heap.size w2 w) => asfree_b m (.slice sp sn sk) bl (.slice lp ln lk) c p0.1 p0.2 b4 w (hG.below (below_call hW2 hS)) h4
        have hmx : Tryd.prog.follows .mixedOrders = true := by kernel_rfl
        go_upto_region 4 with fail
        refine wp_onlyN (wp_region_held (S := fun w' => Below w2.heap.size w2 w') hmx ?_)
        show wpAnyH _ _ _ _ _ _ _ _ w2.drew
        have hS0 := (Below.refl w2.heap.size w2).drew
        refine reg_tk (i := 0) (v := .agg #[.int .i64 m.w, .int .i64 m.h, .slice sp sn sk, .slice lp ln lk, .int .i64 c]) (some 34) rfl (fun w' hS => by (have q0 := (z1.below hS).cell 0; have q1 := (z1.below hS).cell 1; have q2 := (z1.below hS).cell 2; have q3 := (z1.below hS).cell 3; have q4 := (z1.below hS).cell 4); go_simp) hS0 ?_
        try simp only [Act.put, List.setIfInBounds_toArray, List.set_cons_zero, List.set_cons_succ]
        refine reg_tk (i := 1) (v := .slice (some ⟨g, o, none⟩) ps.length cap) (some 35) rfl (fun w' hS => by (skip); go_simp) hS0 ?_
        try simp only [Act.put, List.setIfInBounds_toArray, List.set_cons_zero, List.set_cons_succ]
        refine reg_tk (i := 2) (v := .pointer (some ⟨g, o, none⟩)) (some 36) rfl (fun w' hS => by (skip); go_simp) hS0 ?_
        try simp only [Act.put, List.setIfInBounds_toArray, List.set_cons_zero, List.set_cons_succ]
        refine reg_tk (i := 3) (v := .agg #[.int .i64 p0.1, .int .i64 p0.2]) (some 37) rfl (fun w' hS => by (have q0 := (hS.cell (p := ⟨g, o, none⟩) hk3).trans a1; have q1 := (hS.cell (p := ⟨g, o + 1, none⟩) hk3).trans a2); go_simp) hS0 ?_
        try simp only [Act.put, List.setIfInBounds_toArray, List.set_cons_zero, List.set_cons_succ]
        refine held_one (i := 4) (by kernel_rfl) rfl (fun K hQ => ?_)
        go_simp
        ((with_reducible refine (cf _ hS0).mono ?_); rintro e w4 ⟨rfl, hb4⟩)
        have hS1 := below_call hS0 hb4
        clear hb4
        refine hQ.out _ _ hS1 ?_
        clear hQ
        try simp only [Act.put, List.setIfInBounds_toArray, List.set_cons_zero, List.set_cons_succ]
        refine reg_tk (i := 5) (v := .bool (!b4)) (some 39) rfl (fun w' hS => by (skip); go_simp) hS1 ?_
        try simp only [Act.put, List.setIfInBounds_toArray, List.set_cons_zero, List.set_cons_succ]
        refine wpAnyH_done (by kernel_rfl) ?_ _
        simp only [onlyN]
        replace z1 := z1.below hS1
        have hW4 := below_call hW2 hS1
        clear hS0 hS1 cf a1 a2 q0 q1 q2 q3 q4
        cases b4 with
        | false =>
          have hr1 : r = (0, 9) := by rw [hrB.out, ← h4.out]; rfl
          subst hr1
          clear hat
          go_wp2_with fail
          go_ret2
          exact ⟨rfl, hW4⟩
        | true =>
          have hrC : Hid (r = match sumC m bl c p0 t with | none => ((0, 9) : Int × Int) | some s => (s, 0)) := hid (by rw [hrB.out, ← h4.out]; rfl)
          clear hrB hA
          have d1 : (1 : Int) ≤ (ps.length : Int) := by have := hlen.out; omega
          have n1 : IntKind.i64.wrap ((ps.length : Int) - 1) = (t.length : Int) := by have := hlen.out; unfold maxLen at hm; rw [IntWalk.i64_in _ (by omega)]; omega
          by_cases hcap : cap = 1
          · have ht : t = [] := List.eq_nil_of_length_eq_zero (by have := hlen.out; omega)
            have hl1 : ps.length = 1 := by have := hlen.out; omega
            have hr1 : r = (0, 0) := by rw [hrC.out, ht]; rfl
            subst hr1
            subst hcap
            clear hat hrC hp0
            go_upto_region 8 with fail
            go_loopw [11, 43] (fun yt y wr => yt = .int .i64 0 ∧ y = .int .i64 0 ∧ Below W.heap.size W wr) (fun _ _ _ => 0)
            case atStart => exact ⟨rfl, rfl, hW4⟩
            case round =>
              obtain ⟨rfl, rfl, hWr⟩ := hrel
              have hl2 : ps.length - 1 = 0 := by omega
              go_wp2_with fail
              go_ret2
              exact ⟨rfl, hWr⟩
          · have hcap2 : Hid (2 ≤ cap) := hid (by have := hlen.out; omega)
            obtain ⟨nt, hnt⟩ : ∃ nt, Hid (nt = ps.length - 1) := ⟨_, hid rfl⟩
            go_upto_region 8 with fail
            rw [← hnt.out]
            go_loopw [11, 43] (fun yt yi wr => ∃ (i : Nat) (tot : Int) (a : Pt), yt = .int .i64 tot ∧ yi = .int .i64 i ∧ i ≤ nt ∧ ps[i]? = some a ∧ Hid (sumC m bl c p0 t = (sumC m bl c a (ps.drop (i + 1))).map (tot + ·)) ∧ (0 ≤ tot ∧ tot ≤ 19 * (i : Int)) ∧ Below W.heap.size W wr ∧ Blk wr k1 (grdL m (.slice sp sn sk) (.slice lp ln lk) c) 46) (fun _ yi _ => nt - (RowKit.intOf yi).toNat)
            case atStart => exact ⟨0, 0, p0, rfl, rfl, Nat.zero_le _, by rw [hps.out]; rfl, hid (by rw [hps.out]; show sumC m bl c p0 t = (sumC m bl c p0 t).map (0 + ·); simp), by omega, hW4, z1⟩
            case round =>
              clear z1 hW4
              obtain ⟨i, tot, a, rfl, rfl, hi, hia, hsum, htot, hWr, z1⟩ := hrel
              by_cases hlt : i < nt
              · have hnl : nt = ps.length - 1 := hnt.out
                have hi1 : i + 1 < ps.length := by omega
                obtain ⟨q, hq⟩ : ∃ q, q = ps[i + 1]'hi1 := ⟨_, rfl⟩
                have hdr : ps.drop (i + 1) = q :: ps.drop (i + 2) := by rw [hq]; exact List.drop_eq_getElem_cons hi1
                have hqq : ps[i + 1]? = some q := by rw [List.getElem?_eq_getElem hi1, hq]
                have hca := hat i (by omega)
                have haa : ps[i]'(by omega) = a := by have := List.getElem?_eq_getElem (show i < ps.length by omega); rw [hia] at this; injection this with e; exact e.symm
                rw [haa] at hca
                have hcq := hat (i + 1) hi1
                rw [← hq, show o + (i + 1) * 2 = o + 2 + i * 2 by omega] at hcq
                obtain ⟨a1, a2⟩ := hca
                obtain ⟨c1, c2⟩ := hcq
                rw [← hWr.cell (p := ⟨g, _, none⟩) hk] at a1 a2 c1 c2
                have hkr : g < wr.heap.size := by have := hWr.size; omega
                have ip : (0 : Int) ≤ (i : Int) := by omega
                have ipn : (i : Int) < (nt : Int) := by omega
                have ipl : (i : Int) < (ps.length : Int) := by omega
                have z9 : decide ((i : Int) < (nt : Int)) = true := decide_eq_true ipn
                obtain ⟨kw, b5, hst⟩ : ∃ kw b5, Hid (((kw, b5) : Int × Bool) = match stepC m bl c a q with | some w => (w, true) | none => (0, false)) := ⟨_, _, hid rfl⟩
                have hkw : 0 ≤ kw ∧ kw ≤ 19 := by
                  have h := hst.out
                  cases h5 : stepC m bl c a q with
                  | none => rw [h5] at h; injection h with h _; omega
                  | some w =>
                    rw [h5] at h
                    injection h with h _
                    unfold stepC at h5
                    cases h6 : (nbp m bl c a).find? fun x => decide (x.1 = q) with
                    | none => rw [h6] at h5; cases h5
                    | some x =>
                      rw [h6] at h5
                      injection h5 with h5
                      have h7 : x.2 = w := h5
                      have := nbp_w (List.mem_of_find?_eq_some h6)
                      omega
                clear hnl hq haa
                replace hdr := hid hdr
                go_upto_region 10 with fail
                have hX5 := (Below.refl wr.heap.size wr).alloc (Nat.le_refl _) (.cells [Value.int .i64 q.1, .int .i64 q.2].toArray 27)
                have zq := Blk.new wr (ptL q) 27
                obtain ⟨w5, hw5⟩ : ∃ w5, w5 = wr.alloc (.cells [Value.int .i64 q.1, .int .i64 q.2].toArray 27) := ⟨_, rfl⟩
                rw [← hw5] at hX5 ⊢
                rw [show wr.alloc (.cells (ptL q).toArray 27) = w5 from hw5.symm] at zq
                clear hw5
                obtain ⟨bq, hbq⟩ : ∃ bq, bq = wr.heap.size := ⟨_, rfl⟩
                rw [← hbq] at zq ⊢
                have z1' := z1.below hX5
                have hW5 := below_call hWr hX5
                have hk5 : g < w5.heap.size := by have := hX5.size; omega
                rw [← hX5.cell (p := ⟨g, _, none⟩) hkr] at a1 a2
                have nadd : IntKind.i64.wrap ((i : Int) + 1) = ((i + 1 : Nat) : Int) := by rw [IntWalk.i64_in _ (by have := hnt.out; omega)]; simp
                have nsum : IntKind.i64.wrap (tot + kw) = tot + kw := IntWalk.i64_in _ (by have := hnt.out; omega)
                clear c1 c2 hX5 hbq z1
                have cs := fun w (hS : Below w5.heap.size w5 w) => ascost_b m (.slice sp sn sk) bl (.slice lp ln lk) c a q kw b5 w (hG.below (below_call hW5 hS)) hst
                refine wp_region_held (S := fun w' => Below w5.heap.size w5 w') hmx ?_
                show wpAnyH _ _ _ _ _ _ _ _ w5.drew
                have hS0 := (Below.refl w5.heap.size w5).drew
                refine reg_tk (i := 0) (v := .agg #[.int .i64 m.w, .int .i64 m.h, .slice sp sn sk, .slice lp ln lk, .int .i64 c]) (some 49) rfl (fun w' hS => by (have q0 := (z1'.below hS).cell 0; have q1 := (z1'.below hS).cell 1; have q2 := (z1'.below hS).cell 2; have q3 := (z1'.below hS).cell 3; have q4 := (z1'.below hS).cell 4); go_simp) hS0 ?_
                try simp only [Act.put, List.setIfInBounds_toArray, List.set_cons_zero, List.set_cons_succ]
                refine reg_tk (i := 1) (v := .slice (some ⟨g, o, none⟩) ps.length cap) (some 50) rfl (fun w' hS => by (skip); go_simp) hS0 ?_
                try simp only [Act.put, List.setIfInBounds_toArray, List.set_cons_zero, List.set_cons_succ]
                refine reg_tk (i := 2) (v := .int .i64 i) (some 51) rfl (fun w' hS => by (skip); go_simp) hS0 ?_
                try simp only [Act.put, List.setIfInBounds_toArray, List.set_cons_zero, List.set_cons_succ]
                refine reg_tk (i := 3) (v := .pointer (some ⟨g, o + i * 2, none⟩)) (some 52) rfl (fun w' hS => by (skip); go_simp) hS0 ?_
                try simp only [Act.put, List.setIfInBounds_toArray, List.set_cons_zero, List.set_cons_succ]
                refine reg_tk (i := 4) (v := .agg #[.int .i64 a.1, .int .i64 a.2]) (some 53) rfl (fun w' hS => by (have q0 := (hS.cell (p := ⟨g, o + i * 2, none⟩) hk5).trans a1; have q1 := (hS.cell (p := ⟨g, o + i * 2 + 1, none⟩) hk5).trans a2); go_simp) hS0 ?_
                try simp only [Act.put, List.setIfInBounds_toArray, List.set_cons_zero, List.set_cons_succ]
                refine reg_tk (i := 5) (v := .agg #[.int .i64 q.1, .int .i64 q.2]) (some 54) rfl (fun w' hS => by (have q0 := (zq.below hS).cell 0; have q1 := (zq.below hS).cell 1); go_simp) hS0 ?_
                try simp only [Act.put, List.setIfInBounds_toArray, List.set_cons_zero, List.set_cons_succ]
                refine held_one (i := 6) (by kernel_rfl) rfl (fun K hQ => ?_)
                go_simp
                ((with_reducible refine (cs _ hS0).mono ?_); rintro e w6 ⟨rfl, hb6⟩)
                have hS1 := below_call hS0 hb6
                clear hb6
                refine hQ.out _ _ hS1 ?_
                clear hQ
                try simp only [Act.put, List.setIfInBounds_toArray, List.set_cons_zero, List.set_cons_succ]
                refine reg_tk (i := 7) (v := .tuple #[.int .i64 kw, .bool b5]) (some 48) rfl (fun w' hS => by (skip); go_simp) hS1 ?_
                try simp only [Act.put, List.setIfInBounds_toArray, List.set_cons_zero, List.set_cons_succ]
                refine reg_tk (i := 8) (v := .int .i64 kw) (some 56) rfl (fun w' hS => by (skip); go_simp) hS1 ?_
                try simp only [Act.put, List.setIfInBounds_toArray, List.set_cons_zero, List.set_cons_succ]
                refine reg_tk (i := 9) (v := .bool b5) (some 57) rfl (fun w' hS => by (skip); go_simp) hS1 ?_
                try simp only [Act.put, List.setIfInBounds_toArray, List.set_cons_zero, List.set_cons_succ]
                refine reg_tk (i := 10) (v := .int .i64 kw) (some 14) rfl (fun w' hS => by (skip); go_simp) hS1 ?_
                try simp only [Act.put, List.setIfInBounds_toArray, List.set_cons_zero, List.set_cons_succ]
                refine reg_tk (i := 11) (v := .bool b5) (some 15) rfl (fun w' hS => by (skip); go_simp) hS1 ?_
                try simp only [Act.put, List.setIfInBounds_toArray, List.set_cons_zero, List.set_cons_succ]
                refine wpAnyH_done (by kernel_rfl) ?_ _
                try simp only [onlyN]
                replace z1' := z1'.below hS1
                have hW6 := below_call hW5 hS1
                clear hS0 hS1 cs a1 a2 zq hW5
                cases b5 with
                | false =>
                  have hno : stepC m bl c a q = none := by
                    have h := hst.out
                    cases h5 : stepC m bl c a q with
                    | none => rfl
                    | some w => rw [h5] at h; injection h with _ h; cases h
                  have hr1 : r = (0, 9) := by rw [hrC.out, hsum.out, hdr.out]; simp only [sumC]; rw [hno]; rfl
                  subst hr1
                  clear hat hrC hsum hst hno
                  go_wp2_with fail
                  go_ret2
                  exact ⟨rfl, hW6⟩
                | true =>
                  have hyes : stepC m bl c a q = some kw := by
                    have h := hst.out
                    cases h5 : stepC m bl c a q with
                    | none => rw [h5] at h; injection h with _ h; cases h
                    | some w => rw [h5] at h; injection h with h _; rw [h]
                  have hsn : Hid (sumC m bl c p0 t = (sumC m bl c q (ps.drop (i + 1 + 1))).map (tot + kw + ·)) := hid (by
                    rw [hsum.out, hdr.out]; simp only [sumC]; rw [hyes]
                    cases sumC m bl c q (ps.drop (i + 2)) with
                    | none => rfl
                    | some z => simp [Int.add_assoc])
                  clear hat hrC hsum hst hyes
                  go_wp2_with fail
                  have hcast : Value.int .i64 ((i : Int) + 1) = Value.int .i64 ((i + 1 : Nat) : Int) := by push_cast; rfl
                  have hmeas : nt - (RowKit.intOf (Value.int .i64 ((i : Int) + 1))).toNat < nt - (RowKit.intOf (Value.int .i64 (i : Int))).toNat := by simp [RowKit.intOf]; omega
                  refine ⟨⟨_, _, _, _, _, _, _, _, _, _, _, _, _, _, _, _, _, _, _, _, _, _, _, _, _, _, _, _, ⟨i + 1, tot + kw, q, rfl, hcast, by omega, hqq, hsn, by push_cast; omega, hW6, z1'⟩, rfl⟩, hmeas⟩
              · obtain rfl : i = nt := by omega
                have z9 : decide ((i : Int) < (i : Int)) = false := decide_eq_false (by omega)
                have hr1 : r = (tot, 0) := by
                  rw [hrC.out, hsum.out, List.drop_eq_nil_of_le (by have := hnt.out; have := hlen.out; omega)]
                  show (match (sumC m bl c a []).map (tot + ·) with | none => ((0, 9) : Int × Int) | some s => (s, 0)) = (tot, 0)
                  simp [sumC]
                subst hr1
                clear hat hrC hsum
                go_wp2_with fail
                go_ret2
                exact ⟨rfl, hWr⟩

end Go.Proofs.YtbdgpldhfemejaaDoor
