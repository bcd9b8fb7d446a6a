/-
  What the reference of astar answers: Regions.
-/
import Derived.Test.YtmbadkgeoealoaaDoorAsXe
namespace Go.Proofs.YtmbadkgeoealoaaDoor
open Go.RowKit Go.Lib

/-- What Regions gives. -/
structure RegsR (m : M3) (bl : List Bool) (c : Int) (b : Bool) (R : List Int) : Prop where
  no : b = false → R = []
  yes : b = true → Regs (nb m bl c) m.cs.length (opn m bl c) m.cs.length R
/-- In the middle of naming what can be reached: the cells below k are looked at. -/
structure Flood (R E R' : List Int) (i n k : Nat) : Prop where
  len : R'.length = n
  lo : ∀ q, q < k → ga R' q = if 0 ≤ ga E q then (i : Int) else ga R q
  hi : ∀ q, k ≤ q → ga R' q = ga R q
theorem Flood.start {R E : List Int} {i n : Nat} (h : R.length = n) : Flood R E R i n 0 := ⟨h, fun q h => by omega, fun _ _ => rfl⟩
theorem Flood.hit {R E R' : List Int} {i n k : Nat} (h : Flood R E R' i n k) (hk : k < n) (h0 : 0 ≤ ga E k) : Flood R E (R'.set k i) i n (k + 1) := by
  refine ⟨by rw [List.length_set]; exact h.len, fun q hq => ?_, fun q hq => ?_⟩
  · rw [ga_set _ _ _ _ (by rw [h.len]; exact hk)]
    by_cases e : q = k
    · rw [if_pos e, e, if_pos h0]
    · rw [if_neg e]; exact h.lo q (by omega)
  · rw [ga_set _ _ _ _ (by rw [h.len]; exact hk), if_neg (by omega)]
    exact h.hi q (by omega)
theorem Flood.miss {R E R' : List Int} {i n k : Nat} (h : Flood R E R' i n k) (h0 : ¬ 0 ≤ ga E k) : Flood R E R' i n (k + 1) := by
  refine ⟨h.len, fun q hq => ?_, fun q hq => h.hi q (by omega)⟩
  by_cases e : q = k
  · rw [e, if_neg h0]; exact h.hi k (Nat.le_refl _)
  · exact h.lo q (by omega)
theorem regs_low {nb : Nb} {n i : Nat} {free : Nat → Prop} {R : List Int} (h : Regs nb n free i R) (q : Nat) : -1 ≤ ga R q := by
  by_cases hq : q < n
  · by_cases hf : free q
    · by_cases hj : ∃ j, j < i ∧ Conn nb j q
      · obtain ⟨j, h1, h2⟩ := hj
        obtain ⟨k, e, _⟩ := h.yes q hq hf j h1 h2
        omega
      · have := h.no q hq (.inr fun j h1 h2 => hj ⟨j, h1, h2⟩)
        omega
    · have := h.no q hq (.inl hf)
      omega
  · unfold ga
    rw [List.getD_eq_getElem?_getD, List.getElem?_eq_none (by rw [h.len]; omega)]
    simp
/-- All that can be reached from i has its name. -/
theorem flood_over {nb : Nb} {n i : Nat} {free : Nat → Prop} {R E R' : List Int} (ok : GOk nb n) (h0 : Regs nb n free i R) (hf : ∀ p q, Conn nb p q → p ≠ q → free p ∧ free q) (hi : i < n) (hfr : free i) (hr : ¬ 0 ≤ ga R i) (hE : IsDist nb n i E) (h : Flood R E R' i n n) : Regs nb n free (i + 1) R' := by
  refine h0.reach ok hf hi hfr (by have := regs_low h0 i; omega) h.len (fun q hq hc => ?_) (fun q hq hc => ?_)
  · obtain ⟨c, w⟩ := hc
    rw [h.lo q hq, if_pos (hE.least ok hi w).1]
  · rw [h.lo q hq, if_neg (fun h0 => hc ⟨_, hE.way h0⟩)]
theorem cell_heap {w w' : World} {g i : Nat} (h : w'.heap[g]? = w.heap[g]?) : w'.cell? ⟨g, i, none⟩ = w.cell? ⟨g, i, none⟩ := by
  simp [World.cell?, h]

set_option maxRecDepth 100000 in
set_option maxHeartbeats 16000000 in
theorem r14regions_b (m : M3) (sp : Option Addr) (sn sk : Nat) (bl : List Bool) (lp : Option Addr) (ln lk : Nat) (c : Int) (b : Bool) (W : World) (hh : HighAt m) (hrow : RowAt W (.slice sp sn sk) m.cs) (hbit : BitsAt W (.slice lp ln lk) bl) (hb : Hid (b = (validm m && classv c))) :
    Calls Tryd.prog 24 #[.agg #[.int .i64 m.w, .int .i64 m.h, .slice sp sn sk], .slice lp ln lk, .int .i64 c] W fun e w' => ∃ v R, e = .returned v ∧ IntsAt w' v R ∧ Below W.heap.size W w' ∧ RegsR m bl c b R := by
  have hmx : Tryd.prog.follows .mixedOrders = true := by kernel_rfl
  obtain ⟨b1, h1⟩ : ∃ b1, Hid (b1 = validm m) := ⟨_, hid rfl⟩
  obtain ⟨b2, h2⟩ : ∃ b2, Hid (b2 = classv c) := ⟨_, hid rfl⟩
  have hbb : Hid (b = (b1 && b2)) := hid (by rw [hb.out, h1.out, h2.out])
  clear hb
  have hT := Held1.start W [.int .i64 m.w, .int .i64 m.h, .slice sp sn sk] 24
  obtain ⟨k0, ek⟩ : ∃ k0, Hid (k0 = W.heap.size) := ⟨_, hid rfl⟩
  go_enter Tryd.func24, Tryd.ntmps24
  go_upto_region 1 with fail
  obtain ⟨X, hX⟩ : ∃ X, X = W.alloc (.cells [Value.int .i64 m.w, .int .i64 m.h, .slice sp sn sk].toArray 24) := ⟨_, rfl⟩
  rw [← hX] at hT ⊢
  clear hX
  have zm := hT.l.at ek.out.symm
  have hW := hT.old
  rw [← ek.out]
  clear hT
  have m0 := zm.cell 0
  have m1 := zm.cell 1
  have m2 := zm.cell 2
  simp only [List.getElem?_cons_zero, List.getElem?_cons_succ] at m0 m1 m2
  go_wp2_with fail
  ((with_reducible refine (rvalidm_c m (.slice sp sn sk) b1 X (hrow.below hW) h1).mono ?_); rintro e w1 ⟨rfl, hb1⟩)
  replace zm := zm.below hb1
  replace hW := below_call hW hb1
  clear hb1 m0 m1 m2
  cases b1 with
  | false =>
    have hbf : b = false := hbb.out
    clear hbb
    go_wp2_with fail
    go_ret
    exact ⟨_, [], rfl, IntsAt.nil _, hW, ⟨fun _ => rfl, fun h => by rw [hbf] at h; cases h⟩⟩
  | true =>
    go_wp2_with fail
    ((with_reducible refine (r14class_b c b2 w1 h2).mono ?_); rintro e w2 ⟨rfl, hb2⟩)
    replace zm := zm.below hb2
    replace hW := below_call hW hb2
    clear hb2
    cases b2 with
    | false =>
      have hbf : b = false := hbb.out
      clear hbb
      go_wp2_with fail
      go_ret
      exact ⟨_, [], rfl, IntsAt.nil _, hW, ⟨fun _ => rfl, fun h => by rw [hbf] at h; cases h⟩⟩
    | true =>
      obtain rfl : b = true := hbb.out
      have hv := h1.out.symm
      have hcl := h2.out.symm
      have hf := valid_formed14 hv
      obtain ⟨n, hn⟩ : ∃ n, Hid (m.cs.length = n) := ⟨_, hid rfl⟩
      have hn2 : n ≤ 1024 := by rw [← hn.out]; exact formed_len hf
      have hn1 : 1 ≤ n := by
        obtain ⟨X, Y, _, _, x1, _, y1, _, hl, _⟩ := formed_num hf
        rw [← hn.out, hl]
        exact Nat.mul_le_mul x1 y1
      have hmul : IntKind.i64.wrap (m.w * m.h) = (n : Int) := by rw [← hn.out]; exact area14 hf
      have ok := nb_ok hf bl c
      rw [hn.out] at ok
      have hfr := conn_open hf bl c
      have m0 := zm.cell 0
      have m1 := zm.cell 1
      have m2 := zm.cell 2
      simp only [List.getElem?_cons_zero, List.getElem?_cons_succ] at m0 m1 m2
      clear hbb h2 h1
      go_wp2_with fail
      ((with_reducible refine (r14none_b n w2 hn1 (by omega)).mono ?_); rintro e w4 ⟨g, cap, rfl, hown, hb4⟩)
      have hkg : k0 < g := Nat.lt_of_lt_of_le zm.lt (hown.lt g rfl).1
      replace zm := zm.below hb4
      replace hown := own_base hown hW.size
      replace hW := below_call hW hb4
      have hst : Hid (Regs (nb m bl c) n (opn m bl c) 0 (List.replicate n (-1))) := hid (Regs.start _)
      have hgW := (hown.lt g rfl).1
      clear hb4 m0 m1 m2
      go_wp2_with fail
      go_loopw [8] (fun vi wr => ∃ (i : Nat) (R : List Int), vi = .int .i64 i ∧ i ≤ n ∧ Hid (Regs (nb m bl c) n (opn m bl c) i R) ∧ wr.ownsRow W.heap.size 3 1 (.slice (some ⟨g, 0, none⟩) n cap) n (ints R) ∧ Blk wr k0 [.int .i64 m.w, .int .i64 m.h, .slice sp sn sk] 24 ∧ Below W.heap.size W wr) (fun vi _ => n - (RowKit.intOf vi).toNat)
      case atStart => exact ⟨0, _, rfl, by omega, hst, hown, zm, hW⟩
      case round =>
        clear hst hown zm hW
        obtain ⟨i, R, rfl, hi, hR, hown, zm, hW⟩ := hrel
        by_cases hlt : i < n
        · have z1 : decide ((i : Int) < (n : Int)) = true := decide_eq_true (by omega)
          have hin : i < m.cs.length := by rw [hn.out]; exact hlt
          obtain ⟨p, hp⟩ : ∃ p, Hid (p = posn m i) := ⟨_, hid rfl⟩
          obtain ⟨q0, q1, q2, q3, q4⟩ := posn_quo hf i hin
          rw [← hp.out] at q1 q2 q3 q4
          have hgr := (hown.lt g rfl).2
          go_upto_region 7 with fail
          refine wp_onlyN (wp_region_held (S := fun w' => Below wr.heap.size wr w') hmx ?_)
          show wpAnyH _ _ _ _ _ _ _ _ wr.drew
          have hS0 := (Below.refl wr.heap.size wr).drew
          refine reg_tk (i := 0) (v := .int .i64 i) (some 32) rfl (fun w' hS => by (skip); go_simp) hS0 ?_
          try simp only [Act.put, List.setIfInBounds_toArray, List.set_cons_zero, List.set_cons_succ]
          refine reg_tk (i := 1) (v := .pointer (some ⟨k0, 0, none⟩)) (some 33) rfl (fun w' hS => by (skip); go_simp) hS0 ?_
          try simp only [Act.put, List.setIfInBounds_toArray, List.set_cons_zero, List.set_cons_succ]
          refine reg_tk (i := 2) (v := .int .i64 m.w) (some 34) rfl (fun w' hS => by (have c0 := (zm.below hS).cell 0; simp only [List.getElem?_cons_zero] at c0); go_simp) hS0 ?_
          try simp only [Act.put, List.setIfInBounds_toArray, List.set_cons_zero, List.set_cons_succ]
          refine reg_tk (i := 3) (v := .int .i64 p.1) (some 35) rfl (fun w' hS => by (skip); go_simp) hS0 ?_
          try simp only [Act.put, List.setIfInBounds_toArray, List.set_cons_zero, List.set_cons_succ]
          refine reg_tk (i := 4) (v := .int .i64 i) (some 36) rfl (fun w' hS => by (skip); go_simp) hS0 ?_
          try simp only [Act.put, List.setIfInBounds_toArray, List.set_cons_zero, List.set_cons_succ]
          refine reg_tk (i := 5) (v := .pointer (some ⟨k0, 0, none⟩)) (some 37) rfl (fun w' hS => by (skip); go_simp) hS0 ?_
          try simp only [Act.put, List.setIfInBounds_toArray, List.set_cons_zero, List.set_cons_succ]
          refine reg_tk (i := 6) (v := .int .i64 m.w) (some 38) rfl (fun w' hS => by (have c0 := (zm.below hS).cell 0; simp only [List.getElem?_cons_zero] at c0); go_simp) hS0 ?_
          try simp only [Act.put, List.setIfInBounds_toArray, List.set_cons_zero, List.set_cons_succ]
          refine reg_tk (i := 7) (v := .int .i64 p.2) (some 39) rfl (fun w' hS => by (skip); go_simp) hS0 ?_
          try simp only [Act.put, List.setIfInBounds_toArray, List.set_cons_zero, List.set_cons_succ]
          refine reg_tk (i := 8) (v := .agg #[.int .i64 p.1, .int .i64 p.2]) (some 40) rfl (fun w' hS => by (skip); go_simp) hS0 ?_
          try simp only [Act.put, List.setIfInBounds_toArray, List.set_cons_zero, List.set_cons_succ]
          refine held_one (i := 9) (by kernel_rfl) rfl (fun K hQ => ?_)
          refine step_alloc_agg rfl 27 rfl [.int .i64 0, .int .i64 0] Tryd.zeroValue27 ?_
          have hS1 := hS0.alloc hS0.size (.cells [Value.int .i64 0, .int .i64 0].toArray 27)
          have zp := Blk.new wr.drew [.int .i64 0, .int .i64 0] 27
          refine hQ.out _ _ hS1 ?_
          clear hQ
          try simp only [Act.put, List.setIfInBounds_toArray]
          refine held_one (i := 10) (by kernel_rfl) rfl (fun K hQ => ?_)
          refine step_store_agg rfl 27 (.tmp 9) (.tmp 40) rfl rfl wr.drew.heap.size rfl Tryd.sizeOf27 [.int .i64 p.1, .int .i64 p.2] rfl rfl zp rfl ints_lone ?_
          have hS2x := below_setRow hS1 (Nat.le_refl _) [Value.int .i64 p.1, .int .i64 p.2].toArray
          have zpx := zp.put [.int .i64 p.1, .int .i64 p.2]
          obtain ⟨w6, e6⟩ : ∃ w6, w6 = (wr.drew.alloc (.cells [Value.int .i64 0, .int .i64 0].toArray 27)).setRow wr.drew.heap.size [Value.int .i64 p.1, .int .i64 p.2].toArray := ⟨_, rfl⟩
          rw [← e6]
          have hS2 : Below wr.heap.size wr w6 := by rw [e6]; exact hS2x
          replace zp : Blk w6 wr.drew.heap.size [.int .i64 p.1, .int .i64 p.2] 27 := by rw [e6]; exact zpx
          clear e6 hS2x zpx
          refine hQ.out _ _ hS2 ?_
          clear hQ
          try simp only [Act.put, List.setIfInBounds_toArray, List.set_cons_zero, List.set_cons_succ]
          refine wpAnyH_done (by kernel_rfl) ?_ _
          try simp only [onlyN]
          replace zm := zm.below hS2
          replace hown := own_below hown hS2
          have hW2 := below_call hW hS2
          obtain ⟨pb, hpb⟩ : ∃ pb, Hid (pb = wr.drew.heap.size) := ⟨_, hid rfl⟩
          have hpg : g < pb := by rw [hpb.out]; exact hgr
          rw [← hpb.out] at zp ⊢
          clear hS0 hS1 hS2 q0 q1 q2 q3 q4 hW hgr
          have nadd : IntKind.i64.wrap ((i : Int) + 1) = ((i + 1 : Nat) : Int) := by rw [IntWalk.i64_in _ (by omega)]; simp
          have i0 : (0 : Int) ≤ (i : Int) := by omega
          have i1 : (i : Int) < (n : Int) := by omega
          have hRl := hR.out.len
          have cI := hown.cellAt i (by omega)
          rw [ints_at (by omega)] at cI
          obtain ⟨x, hx⟩ : ∃ x, Hid (x = ga R i) := ⟨_, hid rfl⟩
          rw [← hx.out] at cI
          have m0 := zm.cell 0
          have m1 := zm.cell 1
          have m2 := zm.cell 2
          have p0 := zp.cell 0
          have p1 := zp.cell 1
          simp only [List.getElem?_cons_zero, List.getElem?_cons_succ] at m0 m1 m2 p0 p1
          have hmeas : n - (RowKit.intOf (Value.int .i64 ((i : Int) + 1))).toNat < n - (RowKit.intOf (Value.int .i64 (i : Int))).toNat := by simp [RowKit.intOf]; omega
          by_cases hx0 : 0 ≤ x
          · have v1 : decide (0 ≤ x) = true := decide_eq_true hx0
            have hN := hid (hR.out.skip ok hfr hlt (.inl (by rw [← hx.out]; omega)))
            clear hR hx hx0
            go_wp2_with fail
            have hadd : Value.int .i64 ((i : Int) + 1) = Value.int .i64 ((i + 1 : Nat) : Int) := by push_cast; rfl
            exact ⟨⟨i + 1, R, hadd, by omega, hN, hown, zm, hW2⟩, hmeas⟩
          · have v1 : decide (0 ≤ x) = false := decide_eq_false hx0
            obtain ⟨b4, h4⟩ : ∃ b4, Hid (b4 = openv m bl c p.1 p.2) := ⟨_, hid rfl⟩
            go_wp2_with fail
            ((with_reducible refine (r14free_b m (.slice sp sn sk) bl (.slice lp ln lk) c p b4 w6 (hrow.below hW2) (hbit.below hW2) h4).mono ?_); rintro e w7 ⟨rfl, hb7⟩)
            replace zm := zm.below hb7
            replace zp := zp.below hb7
            replace hown := own_below hown hb7
            replace hW2 := below_call hW2 hb7
            clear hb7 m0 m1 m2 p0 p1 cI
            cases b4 with
            | false =>
              have hN := hid (hR.out.skip ok hfr hlt (.inr (by unfold opn; rw [← hp.out, ← h4.out]; exact Bool.false_ne_true)))
              clear hR hx hx0 h4
              go_wp2_with fail
              have hadd : Value.int .i64 ((i : Int) + 1) = Value.int .i64 ((i + 1 : Nat) : Int) := by push_cast; rfl
              exact ⟨⟨i + 1, R, hadd, by omega, hN, hown, zm, hW2⟩, hmeas⟩
            | true =>
              have hpin : insp m p = true := by rw [hp.out]; exact (idx_posn hf hin).2
              have hpidx : idx m p = i := by rw [hp.out]; exact (idx_posn hf hin).1
              have hbt : Hid (true = (validm m && classv c && insp m p)) := hid (by rw [hv, hcl, hpin]; rfl)
              have hopn : opn m bl c i := by unfold opn; rw [← hp.out]; exact h4.out.symm
              have m0 := zm.cell 0
              have m1 := zm.cell 1
              have m2 := zm.cell 2
              have p0 := zp.cell 0
              have p1 := zp.cell 1
              simp only [List.getElem?_cons_zero, List.getElem?_cons_succ] at m0 m1 m2 p0 p1
              go_wp2_with fail
              ((with_reducible refine (r14reach_b m sp sn sk bl lp ln lk c p true w7 hh (hrow.below hW2) (hbit.below hW2) hbt).mono ?_); rintro e w8 ⟨v, E, rfl, hE, hb8, hfv, hRE⟩)
              have hgl7 := (hown.lt g rfl).2
              replace zm := zm.below hb8
              replace hown := own_below hown hb8
              replace hW2 := below_call hW2 hb8
              have hdist : IsDist (nb m bl c) n i E := by
                have h := hRE.yes rfl
                unfold Dst at h
                rw [hpidx, ← hp.out, ← h4.out, if_pos rfl, hn.out] at h
                exact h
              have hEl := hdist.len
              obtain ⟨pE, cE, rfl, -, hEc⟩ := hE
              rw [hEl] at hEc ⊢
              obtain ⟨g2, rfl, hg2, hEc⟩ := hEc hn1
              have hgg : g ≠ g2 := by have := hfv g2 rfl; omega
              have hfl : Hid (Flood R E R i n 0) := hid (Flood.start hRl)
              have hRx : ¬ 0 ≤ ga R i := by rw [← hx.out]; omega
              clear hb8 m0 m1 m2 p0 p1 zp hx hx0 h4 hfv hRE v1
              go_wp2_with fail
              go_loopw [11] (fun vk wr => ∃ (k : Nat) (R' : List Int), vk = .int .i64 k ∧ k ≤ n ∧ Hid (Flood R E R' i n k) ∧ wr.heap[g2]? = w8.heap[g2]? ∧ wr.ownsRow W.heap.size 3 1 (.slice (some ⟨g, 0, none⟩) n cap) n (ints R') ∧ Blk wr k0 [.int .i64 m.w, .int .i64 m.h, .slice sp sn sk] 24 ∧ Below W.heap.size W wr) (fun vk _ => n - (RowKit.intOf vk).toNat)
              case atStart => exact ⟨0, R, rfl, by omega, hfl, rfl, hown, zm, hW2⟩
              case round =>
                clear hfl hown zm hW2
                obtain ⟨k, R', rfl, hk, hfl, hg8, hown, zm, hW2⟩ := hrel
                by_cases hkn : k < n
                · have z2 : decide ((k : Int) < (n : Int)) = true := decide_eq_true (by omega)
                  have naddk : IntKind.i64.wrap ((k : Int) + 1) = ((k + 1 : Nat) : Int) := by rw [IntWalk.i64_in _ (by omega)]; simp
                  have k0' : (0 : Int) ≤ (k : Int) := by omega
                  have k1' : (k : Int) < (n : Int) := by omega
                  have cE := hEc k (by omega)
                  rw [← cell_heap hg8] at cE
                  obtain ⟨y, hy⟩ : ∃ y, Hid (y = ga E k) := ⟨_, hid rfl⟩
                  rw [← hy.out] at cE
                  have hmeask : n - (RowKit.intOf (Value.int .i64 ((k : Int) + 1))).toNat < n - (RowKit.intOf (Value.int .i64 (k : Int))).toNat := by simp [RowKit.intOf]; omega
                  have hR'l := hfl.out.len
                  by_cases hy0 : 0 ≤ y
                  · have v2 : decide (0 ≤ y) = true := decide_eq_true hy0
                    have hN := hid (hfl.out.hit hkn (by rw [← hy.out]; exact hy0))
                    have cK := hown.cellAt k (by omega)
                    rw [ints_at (by omega)] at cK
                    have fK := hown.frozenAt k
                    clear hfl hy hy0
                    go_wp2_with fail
                    have haddk : Value.int .i64 ((k : Int) + 1) = Value.int .i64 ((k + 1 : Nat) : Int) := by push_cast; rfl
                    exact ⟨⟨k + 1, R'.set k i, haddk, by omega, hN, (heap_setCell_other _ _ _ _ (fun e => hgg e.symm)).trans hg8, by rw [← ints_set]; exact (hown.stored k _).1, zm.far _ (by omega), hW2.setCell (p := ⟨g, k, none⟩) hgW _⟩, hmeask⟩
                  · have v2 : decide (0 ≤ y) = false := decide_eq_false hy0
                    have hN := hid (hfl.out.miss (by rw [← hy.out]; exact hy0))
                    clear hfl hy hy0
                    go_wp2_with fail
                    have haddk : Value.int .i64 ((k : Int) + 1) = Value.int .i64 ((k + 1 : Nat) : Int) := by push_cast; rfl
                    exact ⟨⟨k + 1, R', haddk, by omega, hN, hg8, hown, zm, hW2⟩, hmeask⟩
                · obtain rfl : n = k := by omega
                  have z2 : decide ((n : Int) < (n : Int)) = false := decide_eq_false (by omega)
                  have hN := hid (flood_over ok hR.out hfr hlt hopn (by omega) hdist hfl.out)
                  clear hR hfl hdist
                  go_wp2_with fail
                  have hadd : Value.int .i64 ((i : Int) + 1) = Value.int .i64 ((i + 1 : Nat) : Int) := by push_cast; rfl
                  exact ⟨⟨i + 1, R', hadd, by omega, hN, hown, zm, hW2⟩, hmeas⟩
        · obtain rfl : n = i := by omega
          have z1 : decide ((n : Int) < (n : Int)) = false := decide_eq_false (by omega)
          have hl := hR.out.len
          have hR2 := hR.out
          clear hR
          go_wp2_with fail
          go_ret
          exact ⟨_, R, rfl, IntsAt.own hown hl (by omega), hW, ⟨fun h => (by cases h), fun _ => by rw [hn.out]; exact hR2⟩⟩

end Go.Proofs.YtmbadkgeoealoaaDoor
