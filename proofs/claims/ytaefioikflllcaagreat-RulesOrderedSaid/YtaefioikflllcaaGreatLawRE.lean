/-
  The laws of rules: the order, without the reference.
-/
import Derived.Test.YtaefioikflllcaaGreatLawRB
import Derived.Test.YtaefioikflllcaaGreatRulLess
import Derived.Test.YtaefioikflllcaaGreatRulPure
namespace Go.Proofs.YtaefioikflllcaaGreat
open Go.RowKit Go.Lib

set_option maxHeartbeats 8000000 in
set_option maxRecDepth 100000 in
theorem law_ordered (su sw st : Value) (r : R9) (W : World) (hR : RAt W su sw st r) :
    Calls Tryz.prog 7 #[.agg #[su, sw, st]] W fun e w' => e = .returned (.bool true) ∧ Below W.heap.size W w' := by
  have hR0 := hid hR
  obtain ⟨p, c, rfl, hm, -⟩ := hR.u
  obtain ⟨p1, c1, rfl, hm1, -⟩ := hR.w
  obtain ⟨p2, c2, rfl, hm2, -⟩ := hR.t
  have hB := Blk.new W [.slice p r.us.length c, .slice p1 r.ws.length c1, .slice p2 r.ts.length c2] 28
  have hL := (Below.refl W.heap.size W).alloc (Nat.le_refl _) (.cells [.slice p r.us.length c, .slice p1 r.ws.length c1, .slice p2 r.ts.length c2].toArray 28)
  unfold maxLen at hm hm1 hm2
  obtain ⟨q, hq⟩ : ∃ q, Hid (q = fewv r) := ⟨_, hid rfl⟩
  clear hR
  go_enter Tryz.func7, Tryz.ntmps7
  go_upto_region 1 with fail
  generalize W.alloc (.cells [.slice p r.us.length c, .slice p1 r.ws.length c1, .slice p2 r.ts.length c2].toArray 28) = V at *
  obtain ⟨_, _, _, _, _, _⟩ := hB.three
  go_wp2_with fail
  ((with_reducible refine (few_b _ _ _ r q _ (hR0.out.below hL) hq).mono ?_); rintro e w1 ⟨rfl, hb⟩)
  replace hB := hB.below hb
  replace hL := below_call hL hb
  clear hb
  cases q with
  | false =>
    go_wp2_with fail
    ((with_reducible refine (awake_b _).mono ?_); rintro e wz ⟨rfl, hb⟩)
    replace hL := below_call hL hb
    clear hb
    go_wp2_with fail
    go_ret
    exact ⟨rfl, hL⟩
  | true =>
    obtain ⟨hu, hw, ht, hsm, hst⟩ := fewv_small hq.out.symm
    obtain ⟨_, _, _, _, _, _⟩ := hB.three
    go_wp2_with fail
    ((with_reducible refine (lOrd_b _ _ _ r W _ hR0.out hL hu ht hsm).mono ?_); rintro e w2 ⟨v, rfl, ⟨hv, hcp⟩, hb⟩)
    replace hB := hB.below hb
    replace hL := below_call hL hb
    clear hb
    obtain ⟨n, hn⟩ : ∃ n, (orderv r).2 = n := ⟨_, rfl⟩
    rw [hn]
    by_cases hz : n = 0
    · subst hz
      obtain ⟨hv0, hl0⟩ := ordv_ok hn
      have hlen := ord_len hv0
      obtain ⟨l, hl⟩ : ∃ l, seqv r = l := ⟨_, rfl⟩
      have hAt := hid fun i (hi : i < l.length) => ord_at hv0 hl hi
      rw [hl0, hl] at hv
      rw [hl] at hlen
      clear hl
      obtain ⟨p3, c3, rfl, hm3, hat3⟩ := id hv
      have hc3 := hcp _ _ _ rfl
      unfold maxLen at hm3
      have e1 : ((0 : Int) != 0) = false := rfl
      have e2 : ((l.length : Int) != (r.us.length : Int) + (r.ts.length : Int)) = false := by rw [hlen]; simp
      have wk : IntKind.i64.wrap ((r.us.length : Int) + (r.ts.length : Int)) = (r.us.length : Int) + (r.ts.length : Int) := IntWalk.i64_in _ (by omega)
      clear hcp hn hl0 hv0 hsm
      replace hlen := hid hlen
      obtain ⟨_, _, _, _, _, _⟩ := hB.three
      go_wp2_with fail
      clear e1 e2 wk
      go_loopw [5] (fun vi wr => ∃ i : Nat, vi = .int .i64 i ∧ i ≤ l.length ∧ Blk wr W.heap.size [.slice p r.us.length c, .slice p1 r.ws.length c1, .slice p2 r.ts.length c2] 28 ∧ Below W.heap.size W wr ∧ Below w2.heap.size w2 wr) (fun vi _ => l.length - (RowKit.intOf vi).toNat)
      case atStart => exact ⟨0, rfl, by omega, hB, hL, Below.refl _ _⟩
      case round =>
        clear hB hL
        obtain ⟨i, rfl, hi, hB, hL, h2⟩ := hrel
        by_cases hlt : i < l.length
        · have d1 : (i : Int) < l.length := by omega
          have d0 : (0 : Int) ≤ i := by omega
          have d3 : (i : Int) ≤ c3 := by omega
          obtain ⟨g, o, rfl, hc⟩ := hat3 (by omega)
          have k1 := (h2.cell (p := ⟨g, o + i, none⟩) (World.block_lt_of_cell? w2 _ (hc i hlt))).trans (hc i hlt)
          have hk := World.block_lt_of_cell? wr _ k1
          obtain ⟨a1, a2, a3, a4⟩ := hAt.out i hlt
          obtain ⟨s, hs⟩ : ∃ s, l[i]'hlt = s := ⟨_, rfl⟩
          rw [hs] at k1 a1 a2 a3 a4
          replace a4 := hid a4
          replace a3 := hid a3
          replace hs := hid hs
          obtain ⟨ou, hou⟩ : ∃ z, Hid (z = (unitv r s).isSome) := ⟨_, hid rfl⟩
          obtain ⟨ot, hot⟩ : ∃ z, Hid (z = (techfv r s).isSome) := ⟨_, hid rfl⟩
          obtain ⟨uu, huu⟩ : ∃ z, Hid (z = (unitv r s).getD U9.zero) := ⟨_, hid rfl⟩
          obtain ⟨tt, htt⟩ : ∃ z, Hid (z = (techfv r s).getD T9.zero) := ⟨_, hid rfl⟩
          rw [← hou.out, ← hot.out] at a1
          replace a2 := hid a2.symm
          go_upto_region 11 with fail
          go_cut [6, 7] from 46 to 132 (fun s6 s7 wx => ∃ bx : Nat, s6 = .pointer (some ⟨bx, 0, none⟩) ∧ s7 = .bool ou ∧ Below wr.heap.size wr wx)
          case first =>
            have hmx : Tryz.prog.follows .mixedOrders = true := by kernel_rfl
            refine wp_region_held (S := fun w' => Below wr.heap.size wr w') hmx ?_
            show wpAnyH _ _ _ _ _ _ _ _ wr.drew
            have hS0 := (Below.refl wr.heap.size wr).drew
            refine reg_take (i := 0) (v := .agg #[.slice p r.us.length c, .slice p1 r.ws.length c1, .slice p2 r.ts.length c2]) (some 53) rfl rfl (by kernel_rfl) (by kernel_rfl) (by kernel_rfl) (fun _ _ _ h => h) (by kernel_rfl) (fun w' hS => by (obtain ⟨_, _, _, _, _, _⟩ := (hB.below hS).three; have := (hS.cell (p := ⟨g, o + i, none⟩) hk).trans k1); go_simp) hS0 ?_
            simp only [Act.put, List.setIfInBounds_toArray, List.set_cons_zero, List.set_cons_succ]
            refine reg_take (i := 1) (v := .slice (some ⟨g, o, none⟩) l.length c3) (some 54) rfl rfl (by kernel_rfl) (by kernel_rfl) (by kernel_rfl) (fun _ _ _ h => h) (by kernel_rfl) (fun w' hS => by (obtain ⟨_, _, _, _, _, _⟩ := (hB.below hS).three; have := (hS.cell (p := ⟨g, o + i, none⟩) hk).trans k1); go_simp) hS0 ?_
            simp only [Act.put, List.setIfInBounds_toArray, List.set_cons_zero, List.set_cons_succ]
            refine reg_take (i := 2) (v := .int .i64 i) (some 55) rfl rfl (by kernel_rfl) (by kernel_rfl) (by kernel_rfl) (fun _ _ _ h => h) (by kernel_rfl) (fun w' hS => by (obtain ⟨_, _, _, _, _, _⟩ := (hB.below hS).three; have := (hS.cell (p := ⟨g, o + i, none⟩) hk).trans k1); go_simp) hS0 ?_
            simp only [Act.put, List.setIfInBounds_toArray, List.set_cons_zero, List.set_cons_succ]
            refine reg_take (i := 3) (v := .pointer (some ⟨g, o + i, none⟩)) (some 56) rfl rfl (by kernel_rfl) (by kernel_rfl) (by kernel_rfl) (fun _ _ _ h => h) (by kernel_rfl) (fun w' hS => by (obtain ⟨_, _, _, _, _, _⟩ := (hB.below hS).three; have := (hS.cell (p := ⟨g, o + i, none⟩) hk).trans k1); go_simp) hS0 ?_
            simp only [Act.put, List.setIfInBounds_toArray, List.set_cons_zero, List.set_cons_succ]
            refine reg_take (i := 4) (v := .string s) (some 57) rfl rfl (by kernel_rfl) (by kernel_rfl) (by kernel_rfl) (fun _ _ _ h => h) (by kernel_rfl) (fun w' hS => by (obtain ⟨_, _, _, _, _, _⟩ := (hB.below hS).three; have := (hS.cell (p := ⟨g, o + i, none⟩) hk).trans k1); go_simp) hS0 ?_
            simp only [Act.put, List.setIfInBounds_toArray, List.set_cons_zero, List.set_cons_succ]
            refine held_two (i := 5) (k := 9) (by kernel_rfl) rfl rfl (fun K hQ => ?_) (fun K hQ => ?_)
            · go_simp
              (with_reducible refine (r9unit_c _ _ _ r s ou uu W _ hR0.out (hL.trans (hS0.mono hL.size)) hou huu).mono ?_)
              rintro e w1 ⟨vs, rfl, hUL, hb⟩
              have hS1 := below_call hS0 hb
              refine hQ.out _ _ hS1 ?_
              clear hQ
              try simp only [Act.put, List.setIfInBounds_toArray, List.set_cons_zero, List.set_cons_succ]
              refine reg_take (i := 6) (v := .tuple #[.agg vs.toArray, .bool ou]) (some 52) rfl rfl (by kernel_rfl) (by kernel_rfl) (by kernel_rfl) (fun _ _ _ h => h) (by kernel_rfl) (fun w' hS => by skip; go_simp) hS1 ?_
              simp only [Act.put, List.setIfInBounds_toArray, List.set_cons_zero, List.set_cons_succ]
              refine reg_take (i := 7) (v := .agg vs.toArray) (some 59) rfl rfl (by kernel_rfl) (by kernel_rfl) (by kernel_rfl) (fun _ _ _ h => h) (by kernel_rfl) (fun w' hS => by skip; go_simp) hS1 ?_
              simp only [Act.put, List.setIfInBounds_toArray, List.set_cons_zero, List.set_cons_succ]
              refine reg_take (i := 8) (v := .bool ou) (some 60) rfl rfl (by kernel_rfl) (by kernel_rfl) (by kernel_rfl) (fun _ _ _ h => h) (by kernel_rfl) (fun w' hS => by skip; go_simp) hS1 ?_
              simp only [Act.put, List.setIfInBounds_toArray, List.set_cons_zero, List.set_cons_succ]
              refine held_one (i := 9) (by kernel_rfl) rfl (fun K hQ => ?_)
              refine step_alloc_agg rfl 34 rfl uZero zeroU ?_
              have hS2 := hS1.alloc hS1.size (.cells uZero.toArray 34)
              refine hQ.out _ _ hS2 ?_
              clear hQ
              try simp only [Act.put, List.setIfInBounds_toArray]
              have hbox := Blk.new w1 uZero 34
              refine held_one (i := 10) (by kernel_rfl) rfl (fun K hQ => ?_)
              refine step_store_agg rfl 34 (.tmp 6) (.tmp 59) rfl rfl w1.heap.size rfl Tryz.sizeOf34 vs rfl hUL.len hbox rfl hUL.lone ?_
              have hw3 := below_setRow hS2 hS1.size vs.toArray
              refine hQ.out _ _ hw3 ?_
              clear hQ
              refine reg_take (i := 11) (v := .bool ou) (some 7) rfl rfl (by kernel_rfl) (by kernel_rfl) (by kernel_rfl) (fun _ _ _ h => h) (by kernel_rfl) (fun w' hS => by skip; go_simp) hw3 ?_
              simp only [Act.put]
              refine wpAnyH_done (by kernel_rfl) ?_ _
              show Exit.then _ _ Exit.normal _ _
              go_wp2_with fail
              go_meet
              case rel => exact ⟨_, rfl, rfl, hw3⟩
            · refine step_alloc_agg rfl 34 rfl uZero zeroU ?_
              have hS1 := hS0.alloc hS0.size (.cells uZero.toArray 34)
              have hbox := Blk.new wr.drew uZero 34
              refine hQ.out _ _ hS1 ?_
              clear hQ
              generalize wr.drew.alloc (.cells uZero.toArray 34) = wB at *
              try simp only [Act.put, List.setIfInBounds_toArray]
              refine held_one (i := 5) (by kernel_rfl) rfl (fun K hQ => ?_)
              go_simp
              (with_reducible refine (r9unit_c _ _ _ r s ou uu W _ hR0.out (hL.trans (hS1.mono hL.size)) hou huu).mono ?_)
              rintro e w1 ⟨vs, rfl, hUL, hb⟩
              replace hbox := hbox.below hb
              have hS2 := below_call hS1 hb
              refine hQ.out _ _ hS2 ?_
              clear hQ
              try simp only [Act.put, List.setIfInBounds_toArray, List.set_cons_zero, List.set_cons_succ]
              refine reg_take (i := 6) (v := .tuple #[.agg vs.toArray, .bool ou]) (some 52) rfl rfl (by kernel_rfl) (by kernel_rfl) (by kernel_rfl) (fun _ _ _ h => h) (by kernel_rfl) (fun w' hS => by skip; go_simp) hS2 ?_
              simp only [Act.put, List.setIfInBounds_toArray, List.set_cons_zero, List.set_cons_succ]
              refine reg_take (i := 7) (v := .agg vs.toArray) (some 59) rfl rfl (by kernel_rfl) (by kernel_rfl) (by kernel_rfl) (fun _ _ _ h => h) (by kernel_rfl) (fun w' hS => by skip; go_simp) hS2 ?_
              simp only [Act.put, List.setIfInBounds_toArray, List.set_cons_zero, List.set_cons_succ]
              refine reg_take (i := 8) (v := .bool ou) (some 60) rfl rfl (by kernel_rfl) (by kernel_rfl) (by kernel_rfl) (fun _ _ _ h => h) (by kernel_rfl) (fun w' hS => by skip; go_simp) hS2 ?_
              simp only [Act.put, List.setIfInBounds_toArray, List.set_cons_zero, List.set_cons_succ]
              refine held_one (i := 10) (by kernel_rfl) rfl (fun K hQ => ?_)
              refine step_store_agg rfl 34 (.tmp 6) (.tmp 59) rfl rfl wr.heap.size rfl Tryz.sizeOf34 vs rfl hUL.len hbox rfl hUL.lone ?_
              have hw3 := below_setRow hS2 (Nat.le_refl _) vs.toArray
              refine hQ.out _ _ hw3 ?_
              clear hQ
              refine reg_take (i := 11) (v := .bool ou) (some 7) rfl rfl (by kernel_rfl) (by kernel_rfl) (by kernel_rfl) (fun _ _ _ h => h) (by kernel_rfl) (fun w' hS => by skip; go_simp) hw3 ?_
              simp only [Act.put, List.setIfInBounds_toArray, List.set_cons_zero, List.set_cons_succ]
              refine wpAnyH_done (by kernel_rfl) ?_ _
              show Exit.then _ _ Exit.normal _ _
              go_wp2_with fail
              go_meet
              case rel => exact ⟨_, rfl, rfl, hw3⟩
          case rest =>
          obtain ⟨bx, rfl, rfl, hX⟩ := hcut
          have hX' := hX
          replace hB := hB.below hX
          replace hL := below_call hL hX
          replace h2 := below_call h2 hX
          replace k1 := (hX.cell (p := ⟨g, o + i, none⟩) hk).trans k1
          replace hk := Nat.lt_of_lt_of_le hk hX.size
          clear hX hX'
          generalize wc = wa at *
          go_upto_region 12 with fail
          go_cut [8, 9] from 46 to 132 (fun s8 s9 wx => ∃ bx : Nat, s8 = .pointer (some ⟨bx, 0, none⟩) ∧ s9 = .bool ot ∧ Below wa.heap.size wa wx)
          case first =>
            have hmx : Tryz.prog.follows .mixedOrders = true := by kernel_rfl
            refine wp_region_held (S := fun w' => Below wa.heap.size wa w') hmx ?_
            show wpAnyH _ _ _ _ _ _ _ _ wa.drew
            have hS0 := (Below.refl wa.heap.size wa).drew
            refine reg_take (i := 0) (v := .agg #[.slice p r.us.length c, .slice p1 r.ws.length c1, .slice p2 r.ts.length c2]) (some 62) rfl rfl (by kernel_rfl) (by kernel_rfl) (by kernel_rfl) (fun _ _ _ h => h) (by kernel_rfl) (fun w' hS => by (obtain ⟨_, _, _, _, _, _⟩ := (hB.below hS).three; have := (hS.cell (p := ⟨g, o + i, none⟩) hk).trans k1); go_simp) hS0 ?_
            simp only [Act.put, List.setIfInBounds_toArray, List.set_cons_zero, List.set_cons_succ]
            refine reg_take (i := 1) (v := .slice (some ⟨g, o, none⟩) l.length c3) (some 63) rfl rfl (by kernel_rfl) (by kernel_rfl) (by kernel_rfl) (fun _ _ _ h => h) (by kernel_rfl) (fun w' hS => by (obtain ⟨_, _, _, _, _, _⟩ := (hB.below hS).three; have := (hS.cell (p := ⟨g, o + i, none⟩) hk).trans k1); go_simp) hS0 ?_
            simp only [Act.put, List.setIfInBounds_toArray, List.set_cons_zero, List.set_cons_succ]
            refine reg_take (i := 2) (v := .int .i64 i) (some 64) rfl rfl (by kernel_rfl) (by kernel_rfl) (by kernel_rfl) (fun _ _ _ h => h) (by kernel_rfl) (fun w' hS => by (obtain ⟨_, _, _, _, _, _⟩ := (hB.below hS).three; have := (hS.cell (p := ⟨g, o + i, none⟩) hk).trans k1); go_simp) hS0 ?_
            simp only [Act.put, List.setIfInBounds_toArray, List.set_cons_zero, List.set_cons_succ]
            refine reg_take (i := 3) (v := .pointer (some ⟨g, o + i, none⟩)) (some 65) rfl rfl (by kernel_rfl) (by kernel_rfl) (by kernel_rfl) (fun _ _ _ h => h) (by kernel_rfl) (fun w' hS => by (obtain ⟨_, _, _, _, _, _⟩ := (hB.below hS).three; have := (hS.cell (p := ⟨g, o + i, none⟩) hk).trans k1); go_simp) hS0 ?_
            simp only [Act.put, List.setIfInBounds_toArray, List.set_cons_zero, List.set_cons_succ]
            refine reg_take (i := 4) (v := .string s) (some 66) rfl rfl (by kernel_rfl) (by kernel_rfl) (by kernel_rfl) (fun _ _ _ h => h) (by kernel_rfl) (fun w' hS => by (obtain ⟨_, _, _, _, _, _⟩ := (hB.below hS).three; have := (hS.cell (p := ⟨g, o + i, none⟩) hk).trans k1); go_simp) hS0 ?_
            simp only [Act.put, List.setIfInBounds_toArray, List.set_cons_zero, List.set_cons_succ]
            refine held_two (i := 5) (k := 9) (by kernel_rfl) rfl rfl (fun K hQ => ?_) (fun K hQ => ?_)
            · go_simp
              (with_reducible refine (r9tech_c _ _ _ r s ot tt W _ hR0.out (hL.trans (hS0.mono hL.size)) hot htt).mono ?_)
              rintro e w1 ⟨vs, rfl, hUL, hb⟩
              have hS1 := below_call hS0 hb
              refine hQ.out _ _ hS1 ?_
              clear hQ
              try simp only [Act.put, List.setIfInBounds_toArray, List.set_cons_zero, List.set_cons_succ]
              refine reg_take (i := 6) (v := .tuple #[.agg vs.toArray, .bool ot]) (some 61) rfl rfl (by kernel_rfl) (by kernel_rfl) (by kernel_rfl) (fun _ _ _ h => h) (by kernel_rfl) (fun w' hS => by skip; go_simp) hS1 ?_
              simp only [Act.put, List.setIfInBounds_toArray, List.set_cons_zero, List.set_cons_succ]
              refine reg_take (i := 7) (v := .agg vs.toArray) (some 68) rfl rfl (by kernel_rfl) (by kernel_rfl) (by kernel_rfl) (fun _ _ _ h => h) (by kernel_rfl) (fun w' hS => by skip; go_simp) hS1 ?_
              simp only [Act.put, List.setIfInBounds_toArray, List.set_cons_zero, List.set_cons_succ]
              refine reg_take (i := 8) (v := .bool ot) (some 69) rfl rfl (by kernel_rfl) (by kernel_rfl) (by kernel_rfl) (fun _ _ _ h => h) (by kernel_rfl) (fun w' hS => by skip; go_simp) hS1 ?_
              simp only [Act.put, List.setIfInBounds_toArray, List.set_cons_zero, List.set_cons_succ]
              refine held_one (i := 9) (by kernel_rfl) rfl (fun K hQ => ?_)
              refine step_alloc_agg rfl 42 rfl tZero zeroT ?_
              have hS2 := hS1.alloc hS1.size (.cells tZero.toArray 42)
              refine hQ.out _ _ hS2 ?_
              clear hQ
              try simp only [Act.put, List.setIfInBounds_toArray]
              have hbox := Blk.new w1 tZero 42
              refine held_one (i := 10) (by kernel_rfl) rfl (fun K hQ => ?_)
              refine step_store_agg rfl 42 (.tmp 8) (.tmp 68) rfl rfl w1.heap.size rfl Tryz.sizeOf42 vs rfl hUL.len hbox rfl hUL.lone ?_
              have hw3 := below_setRow hS2 hS1.size vs.toArray
              refine hQ.out _ _ hw3 ?_
              clear hQ
              refine reg_take (i := 11) (v := .bool ot) (some 9) rfl rfl (by kernel_rfl) (by kernel_rfl) (by kernel_rfl) (fun _ _ _ h => h) (by kernel_rfl) (fun w' hS => by skip; go_simp) hw3 ?_
              simp only [Act.put]
              refine wpAnyH_done (by kernel_rfl) ?_ _
              show Exit.then _ _ Exit.normal _ _
              go_wp2_with fail
              go_meet
              case rel => exact ⟨_, rfl, rfl, hw3⟩
            · refine step_alloc_agg rfl 42 rfl tZero zeroT ?_
              have hS1 := hS0.alloc hS0.size (.cells tZero.toArray 42)
              have hbox := Blk.new wa.drew tZero 42
              refine hQ.out _ _ hS1 ?_
              clear hQ
              generalize wa.drew.alloc (.cells tZero.toArray 42) = wB at *
              try simp only [Act.put, List.setIfInBounds_toArray]
              refine held_one (i := 5) (by kernel_rfl) rfl (fun K hQ => ?_)
              go_simp
              (with_reducible refine (r9tech_c _ _ _ r s ot tt W _ hR0.out (hL.trans (hS1.mono hL.size)) hot htt).mono ?_)
              rintro e w1 ⟨vs, rfl, hUL, hb⟩
              replace hbox := hbox.below hb
              have hS2 := below_call hS1 hb
              refine hQ.out _ _ hS2 ?_
              clear hQ
              try simp only [Act.put, List.setIfInBounds_toArray, List.set_cons_zero, List.set_cons_succ]
              refine reg_take (i := 6) (v := .tuple #[.agg vs.toArray, .bool ot]) (some 61) rfl rfl (by kernel_rfl) (by kernel_rfl) (by kernel_rfl) (fun _ _ _ h => h) (by kernel_rfl) (fun w' hS => by skip; go_simp) hS2 ?_
              simp only [Act.put, List.setIfInBounds_toArray, List.set_cons_zero, List.set_cons_succ]
              refine reg_take (i := 7) (v := .agg vs.toArray) (some 68) rfl rfl (by kernel_rfl) (by kernel_rfl) (by kernel_rfl) (fun _ _ _ h => h) (by kernel_rfl) (fun w' hS => by skip; go_simp) hS2 ?_
              simp only [Act.put, List.setIfInBounds_toArray, List.set_cons_zero, List.set_cons_succ]
              refine reg_take (i := 8) (v := .bool ot) (some 69) rfl rfl (by kernel_rfl) (by kernel_rfl) (by kernel_rfl) (fun _ _ _ h => h) (by kernel_rfl) (fun w' hS => by skip; go_simp) hS2 ?_
              simp only [Act.put, List.setIfInBounds_toArray, List.set_cons_zero, List.set_cons_succ]
              refine held_one (i := 10) (by kernel_rfl) rfl (fun K hQ => ?_)
              refine step_store_agg rfl 42 (.tmp 8) (.tmp 68) rfl rfl wa.heap.size rfl Tryz.sizeOf42 vs rfl hUL.len hbox rfl hUL.lone ?_
              have hw3 := below_setRow hS2 (Nat.le_refl _) vs.toArray
              refine hQ.out _ _ hw3 ?_
              clear hQ
              refine reg_take (i := 11) (v := .bool ot) (some 9) rfl rfl (by kernel_rfl) (by kernel_rfl) (by kernel_rfl) (fun _ _ _ h => h) (by kernel_rfl) (fun w' hS => by skip; go_simp) hw3 ?_
              simp only [Act.put, List.setIfInBounds_toArray, List.set_cons_zero, List.set_cons_succ]
              refine wpAnyH_done (by kernel_rfl) ?_ _
              show Exit.then _ _ Exit.normal _ _
              go_wp2_with fail
              go_meet
              case rel => exact ⟨_, rfl, rfl, hw3⟩
          case rest =>
          obtain ⟨bx2, rfl, rfl, hX⟩ := hcut
          have hX' := hX
          replace hB := hB.below hX
          replace hL := below_call hL hX
          replace h2 := below_call h2 hX
          replace k1 := (hX.cell (p := ⟨g, o + i, none⟩) hk).trans k1
          replace hk := Nat.lt_of_lt_of_le hk hX.size
          clear hX hX'
          generalize wc = wb at *
          clear hou hot huu htt
          have hvb := hv.below h2
          go_upto_region 13 with fail
          have hmx : Tryz.prog.follows .mixedOrders = true := by kernel_rfl
          refine wp_region_held (S := fun w' => Below wb.heap.size wb w') hmx ?_
          show wpAnyH _ _ _ _ _ _ _ _ wb.drew
          have hS0 := (Below.refl wb.heap.size wb).drew
          refine reg_take (i := 0) (v := .bool ou) (some 70) rfl rfl (by kernel_rfl) (by kernel_rfl) (by kernel_rfl) (fun _ _ _ h => h) (by kernel_rfl) (fun w' hS => by skip; go_simp) hS0 ?_
          simp only [Act.put, List.setIfInBounds_toArray, List.set_cons_zero, List.set_cons_succ]
          refine reg_take (i := 1) (v := .bool ot) (some 71) rfl rfl (by kernel_rfl) (by kernel_rfl) (by kernel_rfl) (fun _ _ _ h => h) (by kernel_rfl) (fun w' hS => by skip; go_simp) hS0 ?_
          simp only [Act.put, List.setIfInBounds_toArray, List.set_cons_zero, List.set_cons_succ]
          refine reg_take (i := 2) (v := .bool false) (some 72) rfl rfl (by kernel_rfl) (by kernel_rfl) (by kernel_rfl) (fun _ _ _ h => h) (by kernel_rfl) (fun w' hS => by skip; go_simp) hS0 ?_
          simp only [Act.put, List.setIfInBounds_toArray, List.set_cons_zero, List.set_cons_succ]
          refine reg_take (i := 3) (v := .bool false) (some 73) rfl rfl (by kernel_rfl) (by kernel_rfl) (by kernel_rfl) (fun _ _ _ h => h) (by kernel_rfl) (fun w' hS => by skip; go_simp) hS0 ?_
          simp only [Act.put, List.setIfInBounds_toArray, List.set_cons_zero, List.set_cons_succ]
          refine reg_take (i := 4) (v := .slice (some ⟨g, o, none⟩) l.length c3) (some 74) rfl rfl (by kernel_rfl) (by kernel_rfl) (by kernel_rfl) (fun _ _ _ h => h) (by kernel_rfl) (fun w' hS => by skip; go_simp) hS0 ?_
          simp only [Act.put, List.setIfInBounds_toArray, List.set_cons_zero, List.set_cons_succ]
          refine reg_take (i := 5) (v := .int .i64 i) (some 75) rfl rfl (by kernel_rfl) (by kernel_rfl) (by kernel_rfl) (fun _ _ _ h => h) (by kernel_rfl) (fun w' hS => by skip; go_simp) hS0 ?_
          simp only [Act.put, List.setIfInBounds_toArray, List.set_cons_zero, List.set_cons_succ]
          refine reg_take (i := 6) (v := .slice (some ⟨g, o, none⟩) i c3) (some 76) rfl rfl (by kernel_rfl) (by kernel_rfl) (by kernel_rfl) (fun _ _ _ h => h) (by kernel_rfl) (fun w' hS => by skip; go_simp) hS0 ?_
          simp only [Act.put, List.setIfInBounds_toArray, List.set_cons_zero, List.set_cons_succ]
          refine reg_take (i := 7) (v := .slice (some ⟨g, o, none⟩) l.length c3) (some 77) rfl rfl (by kernel_rfl) (by kernel_rfl) (by kernel_rfl) (fun _ _ _ h => h) (by kernel_rfl) (fun w' hS => by skip; go_simp) hS0 ?_
          simp only [Act.put, List.setIfInBounds_toArray, List.set_cons_zero, List.set_cons_succ]
          refine reg_take (i := 8) (v := .int .i64 i) (some 78) rfl rfl (by kernel_rfl) (by kernel_rfl) (by kernel_rfl) (fun _ _ _ h => h) (by kernel_rfl) (fun w' hS => by skip; go_simp) hS0 ?_
          simp only [Act.put, List.setIfInBounds_toArray, List.set_cons_zero, List.set_cons_succ]
          refine reg_take (i := 9) (v := .pointer (some ⟨g, o + i, none⟩)) (some 79) rfl rfl (by kernel_rfl) (by kernel_rfl) (by kernel_rfl) (fun _ _ _ h => h) (by kernel_rfl) (fun w' hS => by skip; go_simp) hS0 ?_
          simp only [Act.put, List.setIfInBounds_toArray, List.set_cons_zero, List.set_cons_succ]
          refine reg_take (i := 10) (v := .string s) (some 80) rfl rfl (by kernel_rfl) (by kernel_rfl) (by kernel_rfl) (fun _ _ _ h => h) (by kernel_rfl) (fun w' hS => by (have := (hS.cell (p := ⟨g, o + i, none⟩) hk).trans k1); go_simp) hS0 ?_
          simp only [Act.put, List.setIfInBounds_toArray, List.set_cons_zero, List.set_cons_succ]
          refine held_one (i := 11) (by kernel_rfl) rfl (fun K hQ => ?_)
          go_simp
          (with_reducible refine (r9has_b (l.take i) _ s false _ ((hvb.take hi).below hS0) a2).mono ?_)
          rintro e w1 ⟨rfl, rfl⟩
          refine hQ.out _ _ hS0 ?_
          clear hQ
          try simp only [Act.put, List.setIfInBounds_toArray, List.set_cons_zero, List.set_cons_succ]
          refine reg_take (i := 12) (v := .bool false) (some 82) rfl rfl (by kernel_rfl) (by kernel_rfl) (by kernel_rfl) (fun _ _ _ h => h) (by kernel_rfl) (fun w' hS => by skip; go_simp) hS0 ?_
          simp only [Act.put, List.setIfInBounds_toArray, List.set_cons_zero, List.set_cons_succ]
          refine wpAnyH_done (by kernel_rfl) ?_ _
          show Exit.then _ _ Exit.normal _ _
          replace hB := hB.below hS0
          replace hL := below_call hL hS0
          replace h2 := below_call h2 hS0
          replace hvb := hvb.below hS0
          replace k1 := (hS0.cell (p := ⟨g, o + i, none⟩) hk).trans k1
          replace hk := Nat.lt_of_lt_of_le hk hS0.size
          clear hS0
          generalize wb.drew = wd at *
          clear a1 a2
          go_upto_region 15 with fail
          have hmx : Tryz.prog.follows .mixedOrders = true := by kernel_rfl
          refine wp_region_held (S := fun w' => Below wd.heap.size wd w') hmx ?_
          show wpAnyH _ _ _ _ _ _ _ _ wd.drew
          have hS0 := (Below.refl wd.heap.size wd).drew
          refine reg_take (i := 0) (v := .agg #[.slice p r.us.length c, .slice p1 r.ws.length c1, .slice p2 r.ts.length c2]) (some 83) rfl rfl (by kernel_rfl) (by kernel_rfl) (by kernel_rfl) (fun _ _ _ h => h) (by kernel_rfl) (fun w' hS => by (obtain ⟨_, _, _, _, _, _⟩ := (hB.below hS).three; have := (hS.cell (p := ⟨g, o + i, none⟩) hk).trans k1); go_simp) hS0 ?_
          simp only [Act.put, List.setIfInBounds_toArray, List.set_cons_zero, List.set_cons_succ]
          refine reg_take (i := 1) (v := .slice (some ⟨g, o, none⟩) l.length c3) (some 84) rfl rfl (by kernel_rfl) (by kernel_rfl) (by kernel_rfl) (fun _ _ _ h => h) (by kernel_rfl) (fun w' hS => by (obtain ⟨_, _, _, _, _, _⟩ := (hB.below hS).three; have := (hS.cell (p := ⟨g, o + i, none⟩) hk).trans k1); go_simp) hS0 ?_
          simp only [Act.put, List.setIfInBounds_toArray, List.set_cons_zero, List.set_cons_succ]
          refine reg_take (i := 2) (v := .int .i64 i) (some 85) rfl rfl (by kernel_rfl) (by kernel_rfl) (by kernel_rfl) (fun _ _ _ h => h) (by kernel_rfl) (fun w' hS => by (obtain ⟨_, _, _, _, _, _⟩ := (hB.below hS).three; have := (hS.cell (p := ⟨g, o + i, none⟩) hk).trans k1); go_simp) hS0 ?_
          simp only [Act.put, List.setIfInBounds_toArray, List.set_cons_zero, List.set_cons_succ]
          refine reg_take (i := 3) (v := .pointer (some ⟨g, o + i, none⟩)) (some 86) rfl rfl (by kernel_rfl) (by kernel_rfl) (by kernel_rfl) (fun _ _ _ h => h) (by kernel_rfl) (fun w' hS => by (obtain ⟨_, _, _, _, _, _⟩ := (hB.below hS).three; have := (hS.cell (p := ⟨g, o + i, none⟩) hk).trans k1); go_simp) hS0 ?_
          simp only [Act.put, List.setIfInBounds_toArray, List.set_cons_zero, List.set_cons_succ]
          refine reg_take (i := 4) (v := .string s) (some 87) rfl rfl (by kernel_rfl) (by kernel_rfl) (by kernel_rfl) (fun _ _ _ h => h) (by kernel_rfl) (fun w' hS => by (obtain ⟨_, _, _, _, _, _⟩ := (hB.below hS).three; have := (hS.cell (p := ⟨g, o + i, none⟩) hk).trans k1); go_simp) hS0 ?_
          simp only [Act.put, List.setIfInBounds_toArray, List.set_cons_zero, List.set_cons_succ]
          refine held_one (i := 5) (by kernel_rfl) rfl (fun K hQ => ?_)
          go_simp
          (with_reducible refine (r9needs_b _ _ _ r s W _ hR0.out (hL.trans (hS0.mono hL.size))).mono ?_)
          rintro e w5 ⟨v5, rfl, hnd, hb⟩
          have hS1 := below_call hS0 hb
          clear hb
          refine hQ.out _ _ hS1 ?_
          clear hQ
          try simp only [Act.put, List.setIfInBounds_toArray, List.set_cons_zero, List.set_cons_succ]
          obtain ⟨p5, c5, rfl, hm5, hat5⟩ := id hnd
          refine reg_take (i := 6) (v := .slice p5 (needsv r s).length c5) (some 10) rfl rfl (by kernel_rfl) (by kernel_rfl) (by kernel_rfl) (fun _ _ _ h => h) (by kernel_rfl) (fun w' hS => by skip; go_simp) hS1 ?_
          simp only [Act.put, List.setIfInBounds_toArray, List.set_cons_zero, List.set_cons_succ]
          refine wpAnyH_done (by kernel_rfl) ?_ _
          show Exit.then _ _ Exit.normal _ _
          replace hB := hB.below hS1
          replace hL := below_call hL hS1
          replace h2 := below_call h2 hS1
          replace hvb := hvb.below hS1
          replace k1 := (hS1.cell (p := ⟨g, o + i, none⟩) hk).trans k1
          replace hk := Nat.lt_of_lt_of_le hk hS1.size
          clear hS1
          generalize needsv r s = nd at *
          clear hS0
          unfold maxLen at hm5
          have hndw := hnd.below hL
          go_upto_region 16 with fail
          go_cut [11] from 46 to 132 (fun s11 wx => ∃ b : Bool, s11 = .bool b ∧ wx = w5 ∧ ∀ j, (hj : j + 1 = i) → b = hasv nd (l[j]'(by omega)))
          case first =>
            cases i with
            | zero =>
              have z1 : decide ((0 : Int) < 0) = false := rfl
              go_wp2_with fail
              go_meet
              case rel => exact ⟨false, rfl, rfl, fun j hj => by omega⟩
            | succ j =>
              have z1 : decide ((0 : Int) < (j : Int) + 1) = true := decide_eq_true (by omega)
              have z2 : (j : Int) + 1 - 1 = j := by omega
              have z3 : (j : Int) < l.length := by omega
              have z4 : (0 : Int) ≤ j := by omega
              have wj : IntKind.i64.wrap (j : Int) = j := IntWalk.i64_in _ (by omega)
              have k2 := (h2.cell (p := ⟨g, o + j, none⟩) (World.block_lt_of_cell? w2 _ (hc j (by omega)))).trans (hc j (by omega))
              obtain ⟨b, hb0⟩ : ∃ z, Hid (z = hasv nd (l[j]'(by omega))) := ⟨_, hid rfl⟩
              trace_state
              go_wp2_with fail
              ((with_reducible refine (r9has_b nd _ _ b _ hndw hb0).mono ?_); rintro e w6 ⟨rfl, rfl⟩)
              go_wp2_with fail
              go_meet
              case rel => exact ⟨b, rfl, rfl, fun j2 hj => by obtain rfl : j2 = j := by omega
                                                              exact hb0.out⟩
          case rest =>
          obtain ⟨rb, rfl, hwc, hrb⟩ := hcut
          replace hwc := hwc.symm
          subst hwc
          replace hrb := hid hrb
          go_wp2_with fail
          go_loopw [12] (fun vk wr => ∃ k : Nat, vk = .int .i64 k ∧ k ≤ nd.length ∧ Below w5.heap.size w5 wr) (fun vk _ => nd.length - (RowKit.intOf vk).toNat)
          case atStart => exact ⟨0, rfl, by omega, Below.refl _ _⟩
          case round =>
            obtain ⟨k, rfl, hk2, h5⟩ := hrel
            by_cases hlt2 : k < nd.length
            · have f1 : (k : Int) < nd.length := by omega
              have f0 : (0 : Int) ≤ k := by omega
              have hLy := below_call hL h5
              obtain ⟨g5, o5, rfl, hc5⟩ := hat5 (by omega)
              have k5 := (hLy.cell (p := ⟨g5, o5 + k, none⟩) (World.block_lt_of_cell? W _ (hc5 k hlt2))).trans (hc5 k hlt2)
              have hk5 := World.block_lt_of_cell? wr _ k5
              obtain ⟨x, hx⟩ : ∃ x, nd[k]'hlt2 = x := ⟨_, rfl⟩
              rw [hx] at k5
              have ax : Hid (true = hasv (l.take i) x) := hid (a3.out x (by rw [← hx]; exact List.getElem_mem _)).symm
              clear hx
              go_upto_region 20 with fail
              have hmx : Tryz.prog.follows .mixedOrders = true := by kernel_rfl
              refine wp_region_held (S := fun w' => Below wr.heap.size wr w') hmx ?_
              show wpAnyH _ _ _ _ _ _ _ _ wr.drew
              have hS0 := (Below.refl wr.heap.size wr).drew
              refine reg_take (i := 0) (v := .slice (some ⟨g, o, none⟩) l.length c3) (some 106) rfl rfl (by kernel_rfl) (by kernel_rfl) (by kernel_rfl) (fun _ _ _ h => h) (by kernel_rfl) (fun w' hS => by skip; go_simp) hS0 ?_
              simp only [Act.put, List.setIfInBounds_toArray, List.set_cons_zero, List.set_cons_succ]
              refine reg_take (i := 1) (v := .int .i64 i) (some 107) rfl rfl (by kernel_rfl) (by kernel_rfl) (by kernel_rfl) (fun _ _ _ h => h) (by kernel_rfl) (fun w' hS => by skip; go_simp) hS0 ?_
              simp only [Act.put, List.setIfInBounds_toArray, List.set_cons_zero, List.set_cons_succ]
              refine reg_take (i := 2) (v := .slice (some ⟨g, o, none⟩) i c3) (some 108) rfl rfl (by kernel_rfl) (by kernel_rfl) (by kernel_rfl) (fun _ _ _ h => h) (by kernel_rfl) (fun w' hS => by skip; go_simp) hS0 ?_
              simp only [Act.put, List.setIfInBounds_toArray, List.set_cons_zero, List.set_cons_succ]
              refine reg_take (i := 3) (v := .slice (some ⟨g5, o5, none⟩) nd.length c5) (some 109) rfl rfl (by kernel_rfl) (by kernel_rfl) (by kernel_rfl) (fun _ _ _ h => h) (by kernel_rfl) (fun w' hS => by skip; go_simp) hS0 ?_
              simp only [Act.put, List.setIfInBounds_toArray, List.set_cons_zero, List.set_cons_succ]
              refine reg_take (i := 4) (v := .int .i64 k) (some 110) rfl rfl (by kernel_rfl) (by kernel_rfl) (by kernel_rfl) (fun _ _ _ h => h) (by kernel_rfl) (fun w' hS => by skip; go_simp) hS0 ?_
              simp only [Act.put, List.setIfInBounds_toArray, List.set_cons_zero, List.set_cons_succ]
              refine reg_take (i := 5) (v := .pointer (some ⟨g5, o5 + k, none⟩)) (some 111) rfl rfl (by kernel_rfl) (by kernel_rfl) (by kernel_rfl) (fun _ _ _ h => h) (by kernel_rfl) (fun w' hS => by skip; go_simp) hS0 ?_
              simp only [Act.put, List.setIfInBounds_toArray, List.set_cons_zero, List.set_cons_succ]
              refine reg_take (i := 6) (v := .string x) (some 112) rfl rfl (by kernel_rfl) (by kernel_rfl) (by kernel_rfl) (fun _ _ _ h => h) (by kernel_rfl) (fun w' hS => by (have := (hS.cell (p := ⟨g5, o5 + k, none⟩) hk5).trans k5); go_simp) hS0 ?_
              simp only [Act.put, List.setIfInBounds_toArray, List.set_cons_zero, List.set_cons_succ]
              refine held_one (i := 7) (by kernel_rfl) rfl (fun K hQ => ?_)
              go_simp
              (with_reducible refine (r9has_b (l.take i) _ x true _ (((hvb.below h5).take hi).below hS0) ax).mono ?_)
              rintro e w1 ⟨rfl, rfl⟩
              refine hQ.out _ _ hS0 ?_
              clear hQ
              try simp only [Act.put, List.setIfInBounds_toArray, List.set_cons_zero, List.set_cons_succ]
              refine reg_take (i := 8) (v := .bool false) (some 114) rfl rfl (by kernel_rfl) (by kernel_rfl) (by kernel_rfl) (fun _ _ _ h => h) (by kernel_rfl) (fun w' hS => by skip; go_simp) hS0 ?_
              simp only [Act.put, List.setIfInBounds_toArray, List.set_cons_zero, List.set_cons_succ]
              refine wpAnyH_done (by kernel_rfl) ?_ _
              show Exit.then _ _ Exit.normal _ _
              have h6 := below_call h5 hS0
              generalize wr.drew = wy2 at *
              clear hS0 h5 hLy k5 hk5 ax
              go_wp2_with fail
              go_roundw
              case rel => exact ⟨k + 1, by go_num, by omega, h6⟩
              case measure => simp [RowKit.intOf]; omega
            · obtain rfl : k = nd.length := by omega
              have f1 : ¬ (nd.length : Int) < nd.length := by omega
              replace hB := hB.below h5
              replace hL := below_call hL h5
              replace h2 := below_call h2 h5
              replace hvb := hvb.below h5
              replace k1 := (h5.cell (p := ⟨g, o + i, none⟩) hk).trans k1
              replace hk := Nat.lt_of_lt_of_le hk h5.size
              clear h5
              cases i with
              | zero =>
                have z1 : decide ((0 : Int) < 0) = false := rfl
                go_wp2_with fail
                go_quiet (fail)
                trace_state
                have hL2 := below_many hL nq
                have h22 := below_many h2 nq
                replace hB := hB.drewN nq
                generalize wr.drewN nq = wy2 at *
                clear hL h2 k1
                go_wp2_with fail
                go_roundw
                case rel => exact ⟨1, by go_num, by omega, hB, hL2, h22⟩
                case measure => simp [RowKit.intOf]; omega
              | succ j =>
                have z1 : decide ((0 : Int) < (j : Int) + 1) = true := decide_eq_true (by omega)
                have z2 : (j : Int) + 1 - 1 = j := by omega
                have z3 : (j : Int) < l.length := by omega
                have z4 : (0 : Int) ≤ j := by omega
                have wj : IntKind.i64.wrap (j : Int) = j := IntWalk.i64_in _ (by omega)
                have k2 := (h2.cell (p := ⟨g, o + j, none⟩) (World.block_lt_of_cell? w2 _ (hc j (by omega)))).trans (hc j (by omega))
                have hr0 := hrb.out j rfl
                have ha0 := a4.out j rfl
                obtain ⟨s2, hs2⟩ : ∃ z, l[j]'(by omega) = z := ⟨_, rfl⟩
                rw [hs2] at k2 hr0 ha0
                unfold ltS at ha0
                replace ha0 := hid ha0
                replace hr0 := hid hr0
                clear hs2 hrb a4
                by_cases hq : Op.bytesLess s.toList s2.toList = true
                · have hrt : rb = true := hr0.out.trans (ha0.out hq)
                  subst hrt
                  clear hr0 ha0
                  trace_state
                  go_wp2_with fail
                  go_quiet (fail)
                  have hL2 := below_many hL nq
                  have h22 := below_many h2 nq
                  replace hB := hB.drewN nq
                  generalize wr.drewN nq = wy2 at *
                  clear hL h2 k1 k2
                  go_wp2_with fail
                  go_roundw
                  case rel => exact ⟨j + 1 + 1, by go_num, by omega, hB, hL2, h22⟩
                  case measure => simp [RowKit.intOf]; omega
                · have hq2 : Op.bytesLess s.toList s2.toList = false := by simpa using hq
                  clear hr0 ha0 hq
                  go_wp2_with fail
                  go_quiet (fail)
                  have hL2 := below_many hL nq
                  have h22 := below_many h2 nq
                  replace hB := hB.drewN nq
                  generalize wr.drewN nq = wy2 at *
                  clear hL h2 k1 k2
                  go_wp2_with fail
                  go_roundw
                  case rel => exact ⟨j + 1 + 1, by go_num, by omega, hB, hL2, h22⟩
                  case measure => simp [RowKit.intOf]; omega
        · obtain rfl : i = l.length := by omega
          have d1 : ¬ (l.length : Int) < l.length := by omega
          clear h2 hB
          go_wp2_with fail
          ((with_reducible refine (awake_b _).mono ?_); rintro e wz ⟨rfl, hb⟩)
          replace hL := below_call hL hb
          clear hb
          go_wp2_with fail
          go_ret
          exact ⟨rfl, hL⟩
    · obtain ⟨hb1, hb2⟩ := ordv_bad (r := r) (by rw [hn]; exact hz)
      rw [hn] at hb1
      rw [hb2] at hv
      obtain ⟨p3, c3, rfl, -⟩ := id hv
      have e1 : (n != 0) = true := by simpa using hz
      have e2 : (n == n) = true := beq_self_eq_true n
      replace hb1 := hid hb1
      clear hn hb2 hcp hv hz
      obtain ⟨_, _, _, _, _, _⟩ := hB.three
      go_wp2_with fail
      ((with_reducible refine (lVal_b _ _ _ r n W _ hR0.out hL hu ht hsm hb1).mono ?_); rintro e w3 ⟨rfl, hb⟩)
      replace hB := hB.below hb
      replace hL := below_call hL hb
      clear hb
      go_wp2_with fail
      ((with_reducible refine (awake_b _).mono ?_); rintro e wz ⟨rfl, hb⟩)
      replace hL := below_call hL hb
      clear hb
      go_wp2_with fail
      go_ret
      exact ⟨rfl, hL⟩

end Go.Proofs.YtaefioikflllcaaGreat
