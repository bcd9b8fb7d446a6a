/-
  The laws of rules: names, Validate, Order, Same.
-/
import Derived.Test.YtaefioikflllcaaGreatLawRulP
import Derived.Test.YtaefioikflllcaaGreatRulRefR
namespace Go.Proofs.YtaefioikflllcaaGreat
open Go.RowKit Go.Lib

set_option maxHeartbeats 8000000 in
set_option maxRecDepth 100000 in
theorem law_names (s : ByteArray) (W : World) :
    Calls Tryz.prog 3 #[.string s] W fun e w' => e = .returned (.bool true) ∧ Below W.heap.size W w' := by
  by_cases h1 : 200 < s.size
  · have z1 : decide ((200 : Int) < s.size) = true := decide_eq_true (by omega)
    go_enter Tryz.func3, Tryz.ntmps3
    go_wp2_with fail
    go_ret
    exact ⟨rfl, Below.refl _ _⟩
  · have z1 : decide ((200 : Int) < s.size) = false := decide_eq_false (by omega)
    obtain ⟨b, hb0⟩ : ∃ b, Hid (b = nameB s.data.toList) := ⟨_, hid rfl⟩
    have z2 : (b == b) = true := beq_self_eq_true b
    go_enter Tryz.func3, Tryz.ntmps3
    go_wp2_with fail
    ((with_reducible refine (lname_b s b _ hb0).mono ?_); rintro e w1 ⟨rfl, rfl⟩)
    go_wp2_with fail
    ((with_reducible refine (r9name_b s b _ hb0).mono ?_); rintro e w1 ⟨rfl, rfl⟩)
    go_wp2_with fail
    ((with_reducible refine (awake_b _).mono ?_); rintro e w2 ⟨rfl, hb⟩)
    go_wp2_with fail
    go_ret
    exact ⟨rfl, hb⟩

set_option maxHeartbeats 8000000 in
set_option maxRecDepth 100000 in
theorem law_validate (su sw st : Value) (r : R9) (W : World) (hR : RAt W su sw st r) :
    Calls Tryz.prog 4 #[.agg #[su, sw, st]] W fun e w' => e = .returned (.bool true) ∧ Below W.heap.size W w' := by
  have hR0 := hid hR
  obtain ⟨p, c, rfl, hm, -⟩ := hR.u
  obtain ⟨p1, c1, rfl, hm1, -⟩ := hR.w
  obtain ⟨p2, c2, rfl, hm2, -⟩ := hR.t
  have hB := Blk.new W [.slice p r.us.length c, .slice p1 r.ws.length c1, .slice p2 r.ts.length c2] 28
  have hL := (Below.refl W.heap.size W).alloc (Nat.le_refl _) (.cells [.slice p r.us.length c, .slice p1 r.ws.length c1, .slice p2 r.ts.length c2].toArray 28)
  unfold maxLen at hm hm1 hm2
  obtain ⟨q, hq⟩ : ∃ q, Hid (q = fewv r) := ⟨_, hid rfl⟩
  clear hR
  go_enter Tryz.func4, Tryz.ntmps4
  go_upto_region 1 with fail
  generalize W.alloc (.cells [.slice p r.us.length c, .slice p1 r.ws.length c1, .slice p2 r.ts.length c2].toArray 28) = V at *
  have hmx : Tryz.prog.follows .mixedOrders = true := by kernel_rfl
  refine wp_region_held (S := fun w' => Below V.heap.size V w') hmx ?_
  show wpAnyH _ _ _ _ _ _ _ _ V.drew
  have hS0 := (Below.refl V.heap.size V).drew
  refine reg_take (i := 0) (v := .agg #[.slice p r.us.length c, .slice p1 r.ws.length c1, .slice p2 r.ts.length c2]) (some 3) rfl rfl (by kernel_rfl) (by kernel_rfl) (by kernel_rfl) (fun _ _ _ h => h) (by kernel_rfl) (fun w' hS => by (obtain ⟨_, _, _, _, _, _⟩ := (hB.below hS).three); go_simp) hS0 ?_
  simp only [Act.put, List.setIfInBounds_toArray, List.set_cons_zero, List.set_cons_succ]
  refine held_one (i := 1) (by kernel_rfl) rfl (fun K hQ => ?_)
  go_simp
  (with_reducible refine (few_b _ _ _ r q _ (hR0.out.below (hL.trans (hS0.mono hL.size))) hq).mono ?_)
  rintro e w1 ⟨rfl, hb⟩
  have hS1 := below_call hS0 hb
  clear hb
  refine hQ.out _ _ hS1 ?_
  clear hQ
  try simp only [Act.put, List.setIfInBounds_toArray, List.set_cons_zero, List.set_cons_succ]
  cases q with
  | false =>
    refine reg_take (i := 2) (v := .bool true) (some 5) rfl rfl (by kernel_rfl) (by kernel_rfl) (by kernel_rfl) (fun _ _ _ h => h) (by kernel_rfl) (fun w' hS => by skip; go_simp) hS1 ?_
    simp only [Act.put, List.setIfInBounds_toArray, List.set_cons_zero, List.set_cons_succ]
    refine reg_take (i := 3) (v := .bool true) (some 6) rfl rfl (by kernel_rfl) (by kernel_rfl) (by kernel_rfl) (fun _ _ _ h => h) (by kernel_rfl) (fun w' hS => by skip; go_simp) hS1 ?_
    simp only [Act.put, List.setIfInBounds_toArray, List.set_cons_zero, List.set_cons_succ]
    refine reg_skip (i := 4) (some 7) rfl rfl (by kernel_rfl) (by kernel_rfl) (by kernel_rfl) (fun _ _ _ h => h) (by kernel_rfl) hS1 ?_
    simp only [Act.put, List.setIfInBounds_toArray, List.set_cons_zero, List.set_cons_succ]
    refine reg_skip (i := 5) (some 8) rfl rfl (by kernel_rfl) (by kernel_rfl) (by kernel_rfl) (fun _ _ _ h => h) (by kernel_rfl) hS1 ?_
    simp only [Act.put, List.setIfInBounds_toArray, List.set_cons_zero, List.set_cons_succ]
    refine reg_skip (i := 6) (some 9) rfl rfl (by kernel_rfl) (by kernel_rfl) (by kernel_rfl) (fun _ _ _ h => h) (by kernel_rfl) hS1 ?_
    simp only [Act.put, List.setIfInBounds_toArray, List.set_cons_zero, List.set_cons_succ]
    refine reg_skip (i := 7) (some 10) rfl rfl (by kernel_rfl) (by kernel_rfl) (by kernel_rfl) (fun _ _ _ h => h) (by kernel_rfl) hS1 ?_
    simp only [Act.put, List.setIfInBounds_toArray, List.set_cons_zero, List.set_cons_succ]
    refine reg_skip (i := 8) (some 11) rfl rfl (by kernel_rfl) (by kernel_rfl) (by kernel_rfl) (fun _ _ _ h => h) (by kernel_rfl) hS1 ?_
    simp only [Act.put, List.setIfInBounds_toArray, List.set_cons_zero, List.set_cons_succ]
    refine reg_skip (i := 9) (some 12) rfl rfl (by kernel_rfl) (by kernel_rfl) (by kernel_rfl) (fun _ _ _ h => h) (by kernel_rfl) hS1 ?_
    simp only [Act.put, List.setIfInBounds_toArray, List.set_cons_zero, List.set_cons_succ]
    refine reg_skip (i := 10) (some 13) rfl rfl (by kernel_rfl) (by kernel_rfl) (by kernel_rfl) (fun _ _ _ h => h) (by kernel_rfl) hS1 ?_
    simp only [Act.put, List.setIfInBounds_toArray, List.set_cons_zero, List.set_cons_succ]
    refine reg_skip (i := 11) (some 14) rfl rfl (by kernel_rfl) (by kernel_rfl) (by kernel_rfl) (fun _ _ _ h => h) (by kernel_rfl) hS1 ?_
    simp only [Act.put, List.setIfInBounds_toArray, List.set_cons_zero, List.set_cons_succ]
    refine reg_take (i := 12) (v := .bool true) (some 15) rfl rfl (by kernel_rfl) (by kernel_rfl) (by kernel_rfl) (fun _ _ _ h => h) (by kernel_rfl) (fun w' hS => by skip; go_simp) hS1 ?_
    simp only [Act.put, List.setIfInBounds_toArray, List.set_cons_zero, List.set_cons_succ]
    refine reg_take (i := 13) (v := .bool true) (some 2) rfl rfl (by kernel_rfl) (by kernel_rfl) (by kernel_rfl) (fun _ _ _ h => h) (by kernel_rfl) (fun w' hS => by skip; go_simp) hS1 ?_
    simp only [Act.put, List.setIfInBounds_toArray, List.set_cons_zero, List.set_cons_succ]
    refine wpAnyH_done (by kernel_rfl) ?_ _
    show Exit.then _ _ Exit.normal _ _
    go_wp2_with fail
    go_ret
    exact ⟨rfl, hL.trans (hS1.mono hL.size)⟩
  | true =>
    obtain ⟨hu, hw, ht, hsm, hst⟩ := fewv_small hq.out.symm
    obtain ⟨n, hn⟩ : ∃ n, Hid (n = valv r) := ⟨_, hid rfl⟩
    have z2 : (n == n) = true := beq_self_eq_true n
    refine reg_take (i := 2) (v := .bool false) (some 5) rfl rfl (by kernel_rfl) (by kernel_rfl) (by kernel_rfl) (fun _ _ _ h => h) (by kernel_rfl) (fun w' hS => by skip; go_simp) hS1 ?_
    simp only [Act.put, List.setIfInBounds_toArray, List.set_cons_zero, List.set_cons_succ]
    refine reg_take (i := 3) (v := .bool false) (some 6) rfl rfl (by kernel_rfl) (by kernel_rfl) (by kernel_rfl) (fun _ _ _ h => h) (by kernel_rfl) (fun w' hS => by skip; go_simp) hS1 ?_
    simp only [Act.put, List.setIfInBounds_toArray, List.set_cons_zero, List.set_cons_succ]
    refine reg_take (i := 4) (v := .agg #[.slice p r.us.length c, .slice p1 r.ws.length c1, .slice p2 r.ts.length c2]) (some 7) rfl rfl (by kernel_rfl) (by kernel_rfl) (by kernel_rfl) (fun _ _ _ h => h) (by kernel_rfl) (fun w' hS => by (obtain ⟨_, _, _, _, _, _⟩ := (hB.below hS).three); go_simp) hS1 ?_
    simp only [Act.put, List.setIfInBounds_toArray, List.set_cons_zero, List.set_cons_succ]
    refine reg_take (i := 6) (v := .agg #[.slice p r.us.length c, .slice p1 r.ws.length c1, .slice p2 r.ts.length c2]) (some 9) rfl rfl (by kernel_rfl) (by kernel_rfl) (by kernel_rfl) (fun _ _ _ h => h) (by kernel_rfl) (fun w' hS => by (obtain ⟨_, _, _, _, _, _⟩ := (hB.below hS).three); go_simp) hS1 ?_
    simp only [Act.put, List.setIfInBounds_toArray, List.set_cons_zero, List.set_cons_succ]
    refine held_one (i := 5) (by kernel_rfl) rfl (fun K hQ => ?_)
    go_simp
    (with_reducible refine (lVal_b _ _ _ r n W _ hR0.out (hL.trans (hS1.mono hL.size)) hu ht hsm hn).mono ?_)
    rintro e w2 ⟨rfl, hb⟩
    have hS2 := below_call hS1 hb
    clear hb
    refine hQ.out _ _ hS2 ?_
    clear hQ
    try simp only [Act.put, List.setIfInBounds_toArray, List.set_cons_zero, List.set_cons_succ]
    refine held_one (i := 7) (by kernel_rfl) rfl (fun K hQ => ?_)
    go_simp
    (with_reducible refine (r9val_b _ _ _ r n _ (hR0.out.below (hL.trans (hS2.mono hL.size))) hu hw ht hn).mono ?_)
    rintro e w3 ⟨rfl, hb⟩
    have hS3 := below_call hS2 hb
    clear hb
    refine hQ.out _ _ hS3 ?_
    clear hQ
    try simp only [Act.put, List.setIfInBounds_toArray, List.set_cons_zero, List.set_cons_succ]
    refine reg_take (i := 8) (v := .bool true) (some 11) rfl rfl (by kernel_rfl) (by kernel_rfl) (by kernel_rfl) (fun _ _ _ h => h) (by kernel_rfl) (fun w' hS => by skip; go_simp) hS3 ?_
    simp only [Act.put, List.setIfInBounds_toArray, List.set_cons_zero, List.set_cons_succ]
    refine reg_take (i := 9) (v := .bool true) (some 12) rfl rfl (by kernel_rfl) (by kernel_rfl) (by kernel_rfl) (fun _ _ _ h => h) (by kernel_rfl) (fun w' hS => by skip; go_simp) hS3 ?_
    simp only [Act.put, List.setIfInBounds_toArray, List.set_cons_zero, List.set_cons_succ]
    refine held_one (i := 10) (by kernel_rfl) rfl (fun K hQ => ?_)
    go_simp
    (with_reducible refine (awake_b _).mono ?_)
    rintro e w4 ⟨rfl, hb⟩
    have hS4 := below_call hS3 hb
    clear hb
    refine hQ.out _ _ hS4 ?_
    clear hQ
    try simp only [Act.put, List.setIfInBounds_toArray, List.set_cons_zero, List.set_cons_succ]
    refine reg_take (i := 11) (v := .bool true) (some 14) rfl rfl (by kernel_rfl) (by kernel_rfl) (by kernel_rfl) (fun _ _ _ h => h) (by kernel_rfl) (fun w' hS => by skip; go_simp) hS4 ?_
    simp only [Act.put, List.setIfInBounds_toArray, List.set_cons_zero, List.set_cons_succ]
    refine reg_take (i := 12) (v := .bool true) (some 15) rfl rfl (by kernel_rfl) (by kernel_rfl) (by kernel_rfl) (fun _ _ _ h => h) (by kernel_rfl) (fun w' hS => by skip; go_simp) hS4 ?_
    simp only [Act.put, List.setIfInBounds_toArray, List.set_cons_zero, List.set_cons_succ]
    refine reg_take (i := 13) (v := .bool true) (some 2) rfl rfl (by kernel_rfl) (by kernel_rfl) (by kernel_rfl) (fun _ _ _ h => h) (by kernel_rfl) (fun w' hS => by skip; go_simp) hS4 ?_
    simp only [Act.put, List.setIfInBounds_toArray, List.set_cons_zero, List.set_cons_succ]
    refine wpAnyH_done (by kernel_rfl) ?_ _
    show Exit.then _ _ Exit.normal _ _
    go_wp2_with fail
    go_ret
    exact ⟨rfl, hL.trans (hS4.mono hL.size)⟩

set_option maxHeartbeats 8000000 in
set_option maxRecDepth 100000 in
theorem law_sequence (su sw st : Value) (r : R9) (W : World) (hR : RAt W su sw st r) :
    Calls Tryz.prog 6 #[.agg #[su, sw, st]] W fun e w' => e = .returned (.bool true) ∧ Below W.heap.size W w' := by
  have hR0 := hid hR
  obtain ⟨p, c, rfl, hm, -⟩ := hR.u
  obtain ⟨p1, c1, rfl, hm1, -⟩ := hR.w
  obtain ⟨p2, c2, rfl, hm2, -⟩ := hR.t
  have hB := Blk.new W [.slice p r.us.length c, .slice p1 r.ws.length c1, .slice p2 r.ts.length c2] 28
  have hL := (Below.refl W.heap.size W).alloc (Nat.le_refl _) (.cells [.slice p r.us.length c, .slice p1 r.ws.length c1, .slice p2 r.ts.length c2].toArray 28)
  unfold maxLen at hm hm1 hm2
  obtain ⟨q, hq⟩ : ∃ q, Hid (q = fewv r) := ⟨_, hid rfl⟩
  clear hR
  go_enter Tryz.func6, Tryz.ntmps6
  go_upto_region 1 with fail
  generalize W.alloc (.cells [.slice p r.us.length c, .slice p1 r.ws.length c1, .slice p2 r.ts.length c2].toArray 28) = V at *
  obtain ⟨_, _, _, _, _, _⟩ := hB.three
  go_wp2_with fail
  ((with_reducible refine (few_b _ _ _ r q _ (hR0.out.below hL) hq).mono ?_); rintro e w1 ⟨rfl, hb⟩)
  replace hB := hB.below hb
  replace hL := below_call hL hb
  clear hb
  cases q with
  | false =>
    go_wp2_with fail
    ((with_reducible refine (awake_b _).mono ?_); rintro e wz ⟨rfl, hb⟩)
    replace hL := below_call hL hb
    clear hb
    go_wp2_with fail
    go_ret
    exact ⟨rfl, hL⟩
  | true =>
    obtain ⟨hu, hw, ht, hsm, hst⟩ := fewv_small hq.out.symm
    obtain ⟨_, _, _, _, _, _⟩ := hB.three
    go_wp2_with fail
    ((with_reducible refine (lOrd_b _ _ _ r W _ hR0.out hL hu ht hsm).mono ?_); rintro e w2 ⟨v, rfl, ⟨hv, -⟩, hb⟩)
    replace hB := hB.below hb
    replace hL := below_call hL hb
    clear hb
    obtain ⟨p3, c3, rfl, -⟩ := id hv
    obtain ⟨_, _, _, _, _, _⟩ := hB.three
    go_wp2_with fail
    ((with_reducible refine (r9order_b _ _ _ r _ (hR0.out.below hL) hu hw ht).mono ?_); rintro e w3 ⟨v, rfl, hv2, hb⟩)
    replace hB := hB.below hb
    replace hL := below_call hL hb
    replace hv := hv.below hb
    clear hb
    obtain ⟨p4, c4, rfl, -⟩ := id hv2
    generalize (orderv r).1 = l at *
    generalize (orderv r).2 = n at *
    have z2 : (n == n) = true := beq_self_eq_true n
    go_wp2_with fail
    ((with_reducible refine (r9names_b l l _ _ true _ hv hv2 (hid (decide_eq_true rfl).symm)).mono ?_); rintro e w4 ⟨rfl, hb⟩)
    replace hL := below_call hL hb
    clear hb
    go_wp2_with fail
    ((with_reducible refine (awake_b _).mono ?_); rintro e wz ⟨rfl, hb⟩)
    replace hL := below_call hL hb
    clear hb
    go_wp2_with fail
    go_ret
    exact ⟨rfl, hL⟩

set_option maxHeartbeats 8000000 in
set_option maxRecDepth 100000 in
theorem law_same (su sw st tu tw tt : Value) (r s : R9) (W : World) (hR : RAt W su sw st r) (hS : RAt W tu tw tt s) :
    Calls Tryz.prog 8 #[.agg #[su, sw, st], .agg #[tu, tw, tt]] W fun e w' => e = .returned (.bool true) ∧ Below W.heap.size W w' := by
  have hR0 := hid hR
  have hS0 := hid hS
  obtain ⟨p, c, rfl, hm, -⟩ := hR.u
  obtain ⟨p1, c1, rfl, hm1, -⟩ := hR.w
  obtain ⟨p2, c2, rfl, hm2, -⟩ := hR.t
  obtain ⟨p3, c3, rfl, hm3, -⟩ := hS.u
  obtain ⟨p4, c4, rfl, hm4, -⟩ := hS.w
  obtain ⟨p5, c5, rfl, hm5, -⟩ := hS.t
  have hB := (Blk.new W [.slice p r.us.length c, .slice p1 r.ws.length c1, .slice p2 r.ts.length c2] 28).alloc (.cells [.slice p3 s.us.length c3, .slice p4 s.ws.length c4, .slice p5 s.ts.length c5].toArray 28)
  have hC := (Blk.new (W.alloc (.cells [.slice p r.us.length c, .slice p1 r.ws.length c1, .slice p2 r.ts.length c2].toArray 28)) [.slice p3 s.us.length c3, .slice p4 s.ws.length c4, .slice p5 s.ts.length c5] 28).at (World.size_alloc _ _)
  have hL := ((Below.refl W.heap.size W).alloc (Nat.le_refl _) (.cells [.slice p r.us.length c, .slice p1 r.ws.length c1, .slice p2 r.ts.length c2].toArray 28)).alloc (by simp) (.cells [.slice p3 s.us.length c3, .slice p4 s.ws.length c4, .slice p5 s.ts.length c5].toArray 28)
  obtain ⟨q, hq⟩ : ∃ q, Hid (q = fewv r) := ⟨_, hid rfl⟩
  obtain ⟨q2, hq2⟩ : ∃ q, Hid (q = fewv s) := ⟨_, hid rfl⟩
  clear hR hS hm hm1 hm2 hm3 hm4 hm5
  go_enter Tryz.func8, Tryz.ntmps8
  go_upto_region 1 with fail
  generalize (W.alloc (.cells [.slice p r.us.length c, .slice p1 r.ws.length c1, .slice p2 r.ts.length c2].toArray 28)).alloc (.cells [.slice p3 s.us.length c3, .slice p4 s.ws.length c4, .slice p5 s.ts.length c5].toArray 28) = V at *
  obtain ⟨_, _, _, _, _, _⟩ := hB.three
  obtain ⟨_, _, _, _, _, _⟩ := hC.three
  go_wp2_with fail
  ((with_reducible refine (few_b _ _ _ r q _ (hR0.out.below hL) hq).mono ?_); rintro e w1 ⟨rfl, hb⟩)
  replace hB := hB.below hb
  replace hC := hC.below hb
  replace hL := below_call hL hb
  clear hb
  cases q with
  | false =>
    go_wp2_with fail
    ((with_reducible refine (awake_b _).mono ?_); rintro e wz ⟨rfl, hb⟩)
    replace hL := below_call hL hb
    clear hb
    go_wp2_with fail
    go_ret
    exact ⟨rfl, hL⟩
  | true =>
    obtain ⟨_, _, _, _, _, _⟩ := hB.three
    obtain ⟨_, _, _, _, _, _⟩ := hC.three
    go_wp2_with fail
    ((with_reducible refine (few_b _ _ _ s q2 _ (hS0.out.below hL) hq2).mono ?_); rintro e w2 ⟨rfl, hb⟩)
    replace hB := hB.below hb
    replace hC := hC.below hb
    replace hL := below_call hL hb
    clear hb
    cases q2 with
    | false =>
      go_wp2_with fail
      ((with_reducible refine (awake_b _).mono ?_); rintro e wz ⟨rfl, hb⟩)
      replace hL := below_call hL hb
      clear hb
      go_wp2_with fail
      go_ret
      exact ⟨rfl, hL⟩
    | true =>
      obtain ⟨hu, hw, ht, hsm, hst⟩ := fewv_small hq.out.symm
      obtain ⟨b, hb0⟩ : ∃ b, Hid (b = decide (r = s)) := ⟨_, hid rfl⟩
      have hb1 : Hid (b = decide (s = r)) := hid (by rw [hb0.out]; exact decide_eq_decide.2 eq_comm)
      have z2 : (b == b) = true := beq_self_eq_true b
      go_upto_region 3 with fail
      generalize w2 = V at *
      have hmx : Tryz.prog.follows .mixedOrders = true := by kernel_rfl
      refine wp_region_held (S := fun w' => Below V.heap.size V w') hmx ?_
      show wpAnyH _ _ _ _ _ _ _ _ V.drew
      have hT0 := (Below.refl V.heap.size V).drew
      refine reg_take (i := 0) (v := .agg #[.slice p r.us.length c, .slice p1 r.ws.length c1, .slice p2 r.ts.length c2]) (some 14) rfl rfl (by kernel_rfl) (by kernel_rfl) (by kernel_rfl) (fun _ _ _ h => h) (by kernel_rfl) (fun w' hS => by (obtain ⟨_, _, _, _, _, _⟩ := (hB.below hS).three; obtain ⟨_, _, _, _, _, _⟩ := (hC.below hS).three); go_simp) hT0 ?_
      simp only [Act.put, List.setIfInBounds_toArray, List.set_cons_zero, List.set_cons_succ]
      refine reg_take (i := 1) (v := .agg #[.slice p3 s.us.length c3, .slice p4 s.ws.length c4, .slice p5 s.ts.length c5]) (some 15) rfl rfl (by kernel_rfl) (by kernel_rfl) (by kernel_rfl) (fun _ _ _ h => h) (by kernel_rfl) (fun w' hS => by (obtain ⟨_, _, _, _, _, _⟩ := (hB.below hS).three; obtain ⟨_, _, _, _, _, _⟩ := (hC.below hS).three); go_simp) hT0 ?_
      simp only [Act.put, List.setIfInBounds_toArray, List.set_cons_zero, List.set_cons_succ]
      refine reg_take (i := 3) (v := .agg #[.slice p r.us.length c, .slice p1 r.ws.length c1, .slice p2 r.ts.length c2]) (some 17) rfl rfl (by kernel_rfl) (by kernel_rfl) (by kernel_rfl) (fun _ _ _ h => h) (by kernel_rfl) (fun w' hS => by (obtain ⟨_, _, _, _, _, _⟩ := (hB.below hS).three; obtain ⟨_, _, _, _, _, _⟩ := (hC.below hS).three); go_simp) hT0 ?_
      simp only [Act.put, List.setIfInBounds_toArray, List.set_cons_zero, List.set_cons_succ]
      refine reg_take (i := 4) (v := .agg #[.slice p3 s.us.length c3, .slice p4 s.ws.length c4, .slice p5 s.ts.length c5]) (some 18) rfl rfl (by kernel_rfl) (by kernel_rfl) (by kernel_rfl) (fun _ _ _ h => h) (by kernel_rfl) (fun w' hS => by (obtain ⟨_, _, _, _, _, _⟩ := (hB.below hS).three; obtain ⟨_, _, _, _, _, _⟩ := (hC.below hS).three); go_simp) hT0 ?_
      simp only [Act.put, List.setIfInBounds_toArray, List.set_cons_zero, List.set_cons_succ]
      refine held_one (i := 2) (by kernel_rfl) rfl (fun K hQ => ?_)
      go_simp
      (with_reducible refine (lSame_b _ _ _ _ _ _ r s b W _ hR0.out hS0.out (hL.trans (hT0.mono hL.size)) hb0).mono ?_)
      rintro e w3 ⟨rfl, hb⟩
      have hT1 := below_call hT0 hb
      clear hb
      refine hQ.out _ _ hT1 ?_
      clear hQ
      try simp only [Act.put, List.setIfInBounds_toArray, List.set_cons_zero, List.set_cons_succ]
      refine held_one (i := 5) (by kernel_rfl) rfl (fun K hQ => ?_)
      go_simp
      (with_reducible refine (r9same_b _ _ _ _ _ _ r s b W _ hR0.out hS0.out (hL.trans (hT1.mono hL.size)) hb0).mono ?_)
      rintro e w4 ⟨rfl, hb⟩
      have hT2 := below_call hT1 hb
      clear hb
      refine hQ.out _ _ hT2 ?_
      clear hQ
      try simp only [Act.put, List.setIfInBounds_toArray, List.set_cons_zero, List.set_cons_succ]
      refine reg_take (i := 6) (v := .bool true) (some 20) rfl rfl (by kernel_rfl) (by kernel_rfl) (by kernel_rfl) (fun _ _ _ h => h) (by kernel_rfl) (fun w' hS => by skip; go_simp) hT2 ?_
      simp only [Act.put, List.setIfInBounds_toArray, List.set_cons_zero, List.set_cons_succ]
      refine reg_take (i := 7) (v := .bool true) (some 21) rfl rfl (by kernel_rfl) (by kernel_rfl) (by kernel_rfl) (fun _ _ _ h => h) (by kernel_rfl) (fun w' hS => by skip; go_simp) hT2 ?_
      simp only [Act.put, List.setIfInBounds_toArray, List.set_cons_zero, List.set_cons_succ]
      refine reg_take (i := 8) (v := .agg #[.slice p r.us.length c, .slice p1 r.ws.length c1, .slice p2 r.ts.length c2]) (some 22) rfl rfl (by kernel_rfl) (by kernel_rfl) (by kernel_rfl) (fun _ _ _ h => h) (by kernel_rfl) (fun w' hS => by (obtain ⟨_, _, _, _, _, _⟩ := (hB.below hS).three; obtain ⟨_, _, _, _, _, _⟩ := (hC.below hS).three); go_simp) hT2 ?_
      simp only [Act.put, List.setIfInBounds_toArray, List.set_cons_zero, List.set_cons_succ]
      refine reg_take (i := 9) (v := .agg #[.slice p r.us.length c, .slice p1 r.ws.length c1, .slice p2 r.ts.length c2]) (some 23) rfl rfl (by kernel_rfl) (by kernel_rfl) (by kernel_rfl) (fun _ _ _ h => h) (by kernel_rfl) (fun w' hS => by (obtain ⟨_, _, _, _, _, _⟩ := (hB.below hS).three; obtain ⟨_, _, _, _, _, _⟩ := (hC.below hS).three); go_simp) hT2 ?_
      simp only [Act.put, List.setIfInBounds_toArray, List.set_cons_zero, List.set_cons_succ]
      refine held_one (i := 10) (by kernel_rfl) rfl (fun K hQ => ?_)
      go_simp
      (with_reducible refine (lSame_b _ _ _ _ _ _ r r true W _ hR0.out hR0.out (hL.trans (hT2.mono hL.size)) (hid (decide_eq_true rfl).symm)).mono ?_)
      rintro e w5 ⟨rfl, hb⟩
      have hT3 := below_call hT2 hb
      clear hb
      refine hQ.out _ _ hT3 ?_
      clear hQ
      try simp only [Act.put, List.setIfInBounds_toArray, List.set_cons_zero, List.set_cons_succ]
      refine reg_take (i := 11) (v := .bool true) (some 25) rfl rfl (by kernel_rfl) (by kernel_rfl) (by kernel_rfl) (fun _ _ _ h => h) (by kernel_rfl) (fun w' hS => by skip; go_simp) hT3 ?_
      simp only [Act.put, List.setIfInBounds_toArray, List.set_cons_zero, List.set_cons_succ]
      refine reg_take (i := 12) (v := .bool true) (some 26) rfl rfl (by kernel_rfl) (by kernel_rfl) (by kernel_rfl) (fun _ _ _ h => h) (by kernel_rfl) (fun w' hS => by skip; go_simp) hT3 ?_
      simp only [Act.put, List.setIfInBounds_toArray, List.set_cons_zero, List.set_cons_succ]
      refine reg_take (i := 13) (v := .agg #[.slice p3 s.us.length c3, .slice p4 s.ws.length c4, .slice p5 s.ts.length c5]) (some 27) rfl rfl (by kernel_rfl) (by kernel_rfl) (by kernel_rfl) (fun _ _ _ h => h) (by kernel_rfl) (fun w' hS => by (obtain ⟨_, _, _, _, _, _⟩ := (hB.below hS).three; obtain ⟨_, _, _, _, _, _⟩ := (hC.below hS).three); go_simp) hT3 ?_
      simp only [Act.put, List.setIfInBounds_toArray, List.set_cons_zero, List.set_cons_succ]
      refine reg_take (i := 14) (v := .agg #[.slice p r.us.length c, .slice p1 r.ws.length c1, .slice p2 r.ts.length c2]) (some 28) rfl rfl (by kernel_rfl) (by kernel_rfl) (by kernel_rfl) (fun _ _ _ h => h) (by kernel_rfl) (fun w' hS => by (obtain ⟨_, _, _, _, _, _⟩ := (hB.below hS).three; obtain ⟨_, _, _, _, _, _⟩ := (hC.below hS).three); go_simp) hT3 ?_
      simp only [Act.put, List.setIfInBounds_toArray, List.set_cons_zero, List.set_cons_succ]
      refine reg_take (i := 16) (v := .agg #[.slice p r.us.length c, .slice p1 r.ws.length c1, .slice p2 r.ts.length c2]) (some 30) rfl rfl (by kernel_rfl) (by kernel_rfl) (by kernel_rfl) (fun _ _ _ h => h) (by kernel_rfl) (fun w' hS => by (obtain ⟨_, _, _, _, _, _⟩ := (hB.below hS).three; obtain ⟨_, _, _, _, _, _⟩ := (hC.below hS).three); go_simp) hT3 ?_
      simp only [Act.put, List.setIfInBounds_toArray, List.set_cons_zero, List.set_cons_succ]
      refine reg_take (i := 17) (v := .agg #[.slice p3 s.us.length c3, .slice p4 s.ws.length c4, .slice p5 s.ts.length c5]) (some 31) rfl rfl (by kernel_rfl) (by kernel_rfl) (by kernel_rfl) (fun _ _ _ h => h) (by kernel_rfl) (fun w' hS => by (obtain ⟨_, _, _, _, _, _⟩ := (hB.below hS).three; obtain ⟨_, _, _, _, _, _⟩ := (hC.below hS).three); go_simp) hT3 ?_
      simp only [Act.put, List.setIfInBounds_toArray, List.set_cons_zero, List.set_cons_succ]
      refine held_one (i := 15) (by kernel_rfl) rfl (fun K hQ => ?_)
      go_simp
      (with_reducible refine (lSame_b _ _ _ _ _ _ s r b W _ hS0.out hR0.out (hL.trans (hT3.mono hL.size)) hb1).mono ?_)
      rintro e w6 ⟨rfl, hb⟩
      have hT4 := below_call hT3 hb
      clear hb
      refine hQ.out _ _ hT4 ?_
      clear hQ
      try simp only [Act.put, List.setIfInBounds_toArray, List.set_cons_zero, List.set_cons_succ]
      refine held_one (i := 18) (by kernel_rfl) rfl (fun K hQ => ?_)
      go_simp
      (with_reducible refine (lSame_b _ _ _ _ _ _ r s b W _ hR0.out hS0.out (hL.trans (hT4.mono hL.size)) hb0).mono ?_)
      rintro e w7 ⟨rfl, hb⟩
      have hT5 := below_call hT4 hb
      clear hb
      refine hQ.out _ _ hT5 ?_
      clear hQ
      try simp only [Act.put, List.setIfInBounds_toArray, List.set_cons_zero, List.set_cons_succ]
      refine reg_take (i := 19) (v := .bool true) (some 33) rfl rfl (by kernel_rfl) (by kernel_rfl) (by kernel_rfl) (fun _ _ _ h => h) (by kernel_rfl) (fun w' hS => by skip; go_simp) hT5 ?_
      simp only [Act.put, List.setIfInBounds_toArray, List.set_cons_zero, List.set_cons_succ]
      refine reg_take (i := 20) (v := .bool true) (some 34) rfl rfl (by kernel_rfl) (by kernel_rfl) (by kernel_rfl) (fun _ _ _ h => h) (by kernel_rfl) (fun w' hS => by skip; go_simp) hT5 ?_
      simp only [Act.put, List.setIfInBounds_toArray, List.set_cons_zero, List.set_cons_succ]
      refine reg_take (i := 21) (v := .bool true) (some 35) rfl rfl (by kernel_rfl) (by kernel_rfl) (by kernel_rfl) (fun _ _ _ h => h) (by kernel_rfl) (fun w' hS => by skip; go_simp) hT5 ?_
      simp only [Act.put, List.setIfInBounds_toArray, List.set_cons_zero, List.set_cons_succ]
      refine held_one (i := 22) (by kernel_rfl) rfl (fun K hQ => ?_)
      go_simp
      (with_reducible refine (awake_b _).mono ?_)
      rintro e w8 ⟨rfl, hb⟩
      have hT6 := below_call hT5 hb
      clear hb
      refine hQ.out _ _ hT6 ?_
      clear hQ
      try simp only [Act.put, List.setIfInBounds_toArray, List.set_cons_zero, List.set_cons_succ]
      refine reg_take (i := 23) (v := .bool true) (some 37) rfl rfl (by kernel_rfl) (by kernel_rfl) (by kernel_rfl) (fun _ _ _ h => h) (by kernel_rfl) (fun w' hS => by skip; go_simp) hT6 ?_
      simp only [Act.put, List.setIfInBounds_toArray, List.set_cons_zero, List.set_cons_succ]
      refine reg_take (i := 24) (v := .bool true) (some 4) rfl rfl (by kernel_rfl) (by kernel_rfl) (by kernel_rfl) (fun _ _ _ h => h) (by kernel_rfl) (fun w' hS => by skip; go_simp) hT6 ?_
      simp only [Act.put, List.setIfInBounds_toArray, List.set_cons_zero, List.set_cons_succ]
      refine wpAnyH_done (by kernel_rfl) ?_ _
      show Exit.then _ _ Exit.normal _ _
      go_wp2_with fail
      go_ret
      exact ⟨rfl, hL.trans (hT6.mono hL.size)⟩

end Go.Proofs.YtaefioikflllcaaGreat
