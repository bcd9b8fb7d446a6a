/-
  The laws of rules: what is found.
-/
import Derived.Test.YtaefioikflllcaaGreatLawRB
namespace Go.Proofs.YtaefioikflllcaaGreat
open Go.RowKit Go.Lib

theorem exec_eqlW {o : Oper} {ρ : Operand → Value} {w : World} (p q : Operand) (t2 : TypeId) (ho : o.op = .binOp .eql 38 p q t2) {x y : W9} {xs ys : List Value} (hx : WL xs x) (hy : WL ys y) (hp : ρ p = .agg xs.toArray) (hq : ρ q = .agg ys.toArray) :
    (execOp ρ o).run Tryz.prog w = .ok (.value (.bool (decide (x = y)))) w := by
  subst hx
  subst hy
  unfold execOp
  simp only [ho, hp, hq, Sem.run_bind, Sem.run_pure, Result.andThen_ok, guardW, run_eql_struct, eqW]
theorem exec_sameW {o : Oper} {ρ : Operand → Value} {w : World} (p q : Operand) (t2 : TypeId) (ho : o.op = .binOp .eql 38 p q t2) {x : W9} {xs ys : List Value} (hx : WL xs x) (hy : WL ys x) (hp : ρ p = .agg xs.toArray) (hq : ρ q = .agg ys.toArray) :
    (execOp ρ o).run Tryz.prog w = .ok (.value (.bool true)) w := by
  rw [exec_eqlW p q t2 ho hx hy hp hq, decide_eq_true rfl]

set_option maxHeartbeats 8000000 in
set_option maxRecDepth 100000 in
theorem law_finds (su sw st : Value) (r : R9) (nm : ByteArray) (W : World) (hR : RAt W su sw st r) :
    Calls Tryz.prog 5 #[.agg #[su, sw, st], .string nm] W fun e w' => e = .returned (.bool true) ∧ Below W.heap.size W w' := by
  have hR0 := hid hR
  obtain ⟨p, c, rfl, hm, -⟩ := hR.u
  obtain ⟨p1, c1, rfl, hm1, -⟩ := hR.w
  obtain ⟨p2, c2, rfl, hm2, -⟩ := hR.t
  have hB := Blk.new W [.slice p r.us.length c, .slice p1 r.ws.length c1, .slice p2 r.ts.length c2] 28
  have hL := (Below.refl W.heap.size W).alloc (Nat.le_refl _) (.cells [.slice p r.us.length c, .slice p1 r.ws.length c1, .slice p2 r.ts.length c2].toArray 28)
  unfold maxLen at hm hm1 hm2
  obtain ⟨q, hq⟩ : ∃ q, Hid (q = fewv r) := ⟨_, hid rfl⟩
  clear hR
  go_enter Tryz.func5, Tryz.ntmps5
  go_upto_region 1 with fail
  generalize W.alloc (.cells [.slice p r.us.length c, .slice p1 r.ws.length c1, .slice p2 r.ts.length c2].toArray 28) = V at *
  obtain ⟨_, _, _, _, _, _⟩ := hB.three
  go_wp2_with fail
  ((with_reducible refine (few_b _ _ _ r q _ (hR0.out.below hL) hq).mono ?_); rintro e w1 ⟨rfl, hb⟩)
  replace hB := hB.below hb
  replace hL := below_call hL hb
  clear hb
  cases q with
  | false =>
    go_wp2_with fail
    ((with_reducible refine (awake_b _).mono ?_); rintro e wz ⟨rfl, hb⟩)
    replace hL := below_call hL hb
    clear hb
    go_wp2_with fail
    go_ret
    exact ⟨rfl, hL⟩
  | true =>
    obtain ⟨hu, hw, ht, hsm, hst⟩ := fewv_small hq.out.symm
    go_upto_region 3 with fail
    obtain ⟨x, hx⟩ : ∃ x, (unitv r nm).isSome = x := ⟨_, rfl⟩
    obtain ⟨y, hy⟩ : ∃ x, (weaponv r nm).isSome = x := ⟨_, rfl⟩
    obtain ⟨z, hz⟩ : ∃ x, (techfv r nm).isSome = x := ⟨_, rfl⟩
    obtain ⟨ua, hua⟩ : ∃ x, (unitv r nm).getD U9.zero = x := ⟨_, rfl⟩
    obtain ⟨wa, hwa⟩ : ∃ x, (weaponv r nm).getD W9.zero = x := ⟨_, rfl⟩
    obtain ⟨ta, hta⟩ : ∃ x, (techfv r nm).getD T9.zero = x := ⟨_, rfl⟩
    have c1 := fun V1 h => lUnit_b _ _ _ r nm W V1 hR0.out h hsm
    have c2 := fun V1 h => lWeapon_b _ _ _ r nm W V1 hR0.out h
    have c3 := fun V1 h => lTech_b _ _ _ r nm W V1 hR0.out h hst
    have c4 := fun V1 h => r9unit_b _ _ _ r nm W V1 hR0.out h
    have c5 := fun V1 h => r9weapon_b _ _ _ r nm W V1 hR0.out h
    have c6 := fun V1 h => r9tech_b _ _ _ r nm W V1 hR0.out h
    unfold LUnitPost at c1
    unfold LWeaponPost at c2
    unfold LTechPost at c3
    unfold UnitPost at c4
    unfold WeaponPost at c5
    unfold TechPost at c6
    rw [hx, hua] at c1 c4
    rw [hy, hwa] at c2 c5
    rw [hz, hta] at c3 c6
    clear hx hy hz hua hwa hta
    obtain ⟨_, _, _, _, _, _⟩ := hB.three
    go_wp2_with fail
    ((with_reducible refine (c1 _ hL).mono ?_); rintro e w2 ⟨va, rfl, hA, hb⟩)
    replace hB := hB.below hb
    replace hL := below_call hL hb
    clear hb
    have hA' := hid hA
    go_upto_region 4 with (first | (with_reducible refine wpList_alloc_agg rfl 34 rfl _ rfl uZero zeroU ?_) | (with_reducible refine wpList_store_new rfl 34 _ _ rfl rfl Tryz.sizeOf34 va uZero 34 (by with_unfolding_all rfl) (by with_unfolding_all rfl) hA'.out.len rfl hA'.out.lone ?_))
    have ba := Blk.new w2 va 34
    replace hB := hB.alloc (.cells va.toArray 34)
    have hb := (Below.refl w2.heap.size w2).alloc (Nat.le_refl _) (.cells va.toArray 34)
    replace hA := hA.below hb
    replace hL := below_call hL hb
    clear hb
    generalize w2.alloc (.cells va.toArray 34) = V2 at *
    generalize w2.heap.size = bab at *
    obtain ⟨_, _, _, _, _, _⟩ := hB.three
    go_wp2_with fail
    ((with_reducible refine (c2 _ hL).mono ?_); rintro e w3 ⟨vb, rfl, hW, hb⟩)
    replace hB := hB.below hb
    replace hA := hA.below hb
    replace ba := ba.below hb
    replace hL := below_call hL hb
    clear hb
    have hW' := hid hW
    go_upto_region 5 with (first | (with_reducible refine wpList_alloc_agg rfl 38 rfl _ rfl wZero zeroW ?_) | (with_reducible refine wpList_store_new rfl 38 _ _ rfl rfl Tryz.sizeOf38 vb wZero 38 (by with_unfolding_all rfl) (by with_unfolding_all rfl) hW'.out.len rfl (wl_lone hW'.out) ?_))
    have bb := Blk.new w3 vb 38
    replace hB := hB.alloc (.cells vb.toArray 38)
    have hb := (Below.refl w3.heap.size w3).alloc (Nat.le_refl _) (.cells vb.toArray 38)
    replace hA := hA.below hb
    replace ba := ba.below hb
    replace hL := below_call hL hb
    clear hb
    generalize w3.alloc (.cells vb.toArray 38) = V3 at *
    generalize w3.heap.size = bbb at *
    obtain ⟨_, _, _, _, _, _⟩ := hB.three
    go_wp2_with fail
    ((with_reducible refine (c3 _ hL).mono ?_); rintro e w4 ⟨vc, rfl, hT, hb⟩)
    replace hB := hB.below hb
    replace hA := hA.below hb
    replace ba := ba.below hb
    replace bb := bb.below hb
    replace hL := below_call hL hb
    clear hb
    have hT' := hid hT
    go_upto_region 6 with (first | (with_reducible refine wpList_alloc_agg rfl 42 rfl _ rfl tZero zeroT ?_) | (with_reducible refine wpList_store_new rfl 42 _ _ rfl rfl Tryz.sizeOf42 vc tZero 42 (by with_unfolding_all rfl) (by with_unfolding_all rfl) hT'.out.len rfl hT'.out.lone ?_))
    have bc := Blk.new w4 vc 42
    replace hB := hB.alloc (.cells vc.toArray 42)
    have hb := (Below.refl w4.heap.size w4).alloc (Nat.le_refl _) (.cells vc.toArray 42)
    replace hA := hA.below hb
    replace ba := ba.below hb
    replace bb := bb.below hb
    replace hT := hT.below hb
    replace hL := below_call hL hb
    clear hb
    generalize w4.alloc (.cells vc.toArray 42) = V4 at *
    generalize w4.heap.size = bcb at *
    obtain ⟨_, _, _, _, _, _⟩ := hB.three
    go_wp2_with fail
    ((with_reducible refine (c4 _ hL).mono ?_); rintro e w5 ⟨vd, rfl, hD, hb⟩)
    replace hB := hB.below hb
    replace hA := hA.below hb
    replace ba := ba.below hb
    replace bb := bb.below hb
    replace hT := hT.below hb
    replace bc := bc.below hb
    replace hL := below_call hL hb
    clear hb
    have hD' := hid hD
    go_upto_region 7 with (first | (with_reducible refine wpList_alloc_agg rfl 34 rfl _ rfl uZero zeroU ?_) | (with_reducible refine wpList_store_new rfl 34 _ _ rfl rfl Tryz.sizeOf34 vd uZero 34 (by with_unfolding_all rfl) (by with_unfolding_all rfl) hD'.out.len rfl hD'.out.lone ?_))
    have bd := Blk.new w5 vd 34
    replace hB := hB.alloc (.cells vd.toArray 34)
    have hb := (Below.refl w5.heap.size w5).alloc (Nat.le_refl _) (.cells vd.toArray 34)
    replace hA := hA.below hb
    replace ba := ba.below hb
    replace bb := bb.below hb
    replace hT := hT.below hb
    replace bc := bc.below hb
    replace hL := below_call hL hb
    clear hb
    generalize w5.alloc (.cells vd.toArray 34) = V5 at *
    generalize w5.heap.size = bdb at *
    obtain ⟨_, _, _, _, _, _⟩ := hB.three
    go_wp2_with fail
    ((with_reducible refine (c5 _ hL).mono ?_); rintro e w6 ⟨ve, rfl, hE, hb⟩)
    replace hB := hB.below hb
    replace hA := hA.below hb
    replace ba := ba.below hb
    replace bb := bb.below hb
    replace hT := hT.below hb
    replace bc := bc.below hb
    replace bd := bd.below hb
    replace hL := below_call hL hb
    clear hb
    have hE' := hid hE
    go_upto_region 8 with (first | (with_reducible refine wpList_alloc_agg rfl 38 rfl _ rfl wZero zeroW ?_) | (with_reducible refine wpList_store_new rfl 38 _ _ rfl rfl Tryz.sizeOf38 ve wZero 38 (by with_unfolding_all rfl) (by with_unfolding_all rfl) hE'.out.len rfl (wl_lone hE'.out) ?_))
    have be := Blk.new w6 ve 38
    replace hB := hB.alloc (.cells ve.toArray 38)
    have hb := (Below.refl w6.heap.size w6).alloc (Nat.le_refl _) (.cells ve.toArray 38)
    replace hA := hA.below hb
    replace ba := ba.below hb
    replace bb := bb.below hb
    replace hT := hT.below hb
    replace bc := bc.below hb
    replace bd := bd.below hb
    replace hL := below_call hL hb
    clear hb
    generalize w6.alloc (.cells ve.toArray 38) = V6 at *
    generalize w6.heap.size = beb at *
    obtain ⟨_, _, _, _, _, _⟩ := hB.three
    go_wp2_with fail
    ((with_reducible refine (c6 _ hL).mono ?_); rintro e w7 ⟨vf, rfl, hF, hb⟩)
    replace hB := hB.below hb
    replace hA := hA.below hb
    replace ba := ba.below hb
    replace bb := bb.below hb
    replace hT := hT.below hb
    replace bc := bc.below hb
    replace bd := bd.below hb
    replace be := be.below hb
    replace hL := below_call hL hb
    clear hb
    have hF' := hid hF
    go_upto_region 9 with (first | (with_reducible refine wpList_alloc_agg rfl 42 rfl _ rfl tZero zeroT ?_) | (with_reducible refine wpList_store_new rfl 42 _ _ rfl rfl Tryz.sizeOf42 vf tZero 42 (by with_unfolding_all rfl) (by with_unfolding_all rfl) hF'.out.len rfl hF'.out.lone ?_))
    have bf := Blk.new w7 vf 42
    replace hB := hB.alloc (.cells vf.toArray 42)
    have hb := (Below.refl w7.heap.size w7).alloc (Nat.le_refl _) (.cells vf.toArray 42)
    replace hA := hA.below hb
    replace ba := ba.below hb
    replace bb := bb.below hb
    replace hT := hT.below hb
    replace bc := bc.below hb
    replace bd := bd.below hb
    replace be := be.below hb
    replace hL := below_call hL hb
    clear hb
    generalize w7.alloc (.cells vf.toArray 42) = V7 at *
    generalize w7.heap.size = bfb at *
    have x1 : (x == x) = true := beq_self_eq_true x
    have y1 : (y == y) = true := beq_self_eq_true y
    have z1 : (z == z) = true := beq_self_eq_true z
    clear c1 c2 c3 c4 c5 c6
    go_wp2_with (first | (with_reducible refine wpList_load_agg' 34 _ rfl (by with_unfolding_all rfl) ⟨bab, 0, none⟩ (by with_unfolding_all rfl) Tryz.isAgg34 Tryz.sizeOf34 va (ba.loads hA'.out.len) ?_) | (with_reducible refine wpList_load_agg' 34 _ rfl (by with_unfolding_all rfl) ⟨bdb, 0, none⟩ (by with_unfolding_all rfl) Tryz.isAgg34 Tryz.sizeOf34 vd (bd.loads hD'.out.len) ?_))
    ((with_reducible refine (r9sameu_b ua ua va vd true _ _ hA (hD'.out.below hL) (Below.refl _ _) (hid (decide_eq_true rfl).symm)).mono ?_); rintro e w8 ⟨rfl, hb⟩)
    replace bb := bb.below hb
    replace bc := bc.below hb
    replace be := be.below hb
    replace bf := bf.below hb
    replace hT := hT.below hb
    replace hL := below_call hL hb
    clear hb
    go_wp2_with (first | (with_reducible refine wpList_load_agg' 38 _ rfl (by with_unfolding_all rfl) ⟨bbb, 0, none⟩ (by with_unfolding_all rfl) Tryz.isAgg38 Tryz.sizeOf38 vb (bb.loads hW'.out.len) ?_) | (with_reducible refine wpList_load_agg' 38 _ rfl (by with_unfolding_all rfl) ⟨beb, 0, none⟩ (by with_unfolding_all rfl) Tryz.isAgg38 Tryz.sizeOf38 ve (be.loads hE'.out.len) ?_) | (with_reducible refine wpList_load_agg' 42 _ rfl (by with_unfolding_all rfl) ⟨bcb, 0, none⟩ (by with_unfolding_all rfl) Tryz.isAgg42 Tryz.sizeOf42 vc (bc.loads hT'.out.len) ?_) | (with_reducible refine wpList_load_agg' 42 _ rfl (by with_unfolding_all rfl) ⟨bfb, 0, none⟩ (by with_unfolding_all rfl) Tryz.isAgg42 Tryz.sizeOf42 vf (bf.loads hF'.out.len) ?_) | (with_reducible refine wpList_val (by with_unfolding_all rfl) (exec_sameW _ _ _ rfl hW'.out hE'.out rfl rfl) ?_))
    ((with_reducible refine (r9samet_b ta ta vc vf true _ _ hT (hF'.out.below hL) (Below.refl _ _) (hid (decide_eq_true rfl).symm)).mono ?_); rintro e w9 ⟨rfl, hb⟩)
    replace hL := below_call hL hb
    clear hb
    go_wp2_with fail
    ((with_reducible refine (awake_b _).mono ?_); rintro e wz ⟨rfl, hb⟩)
    replace hL := below_call hL hb
    clear hb
    go_wp2_with fail
    go_ret
    exact ⟨rfl, hL⟩

end Go.Proofs.YtaefioikflllcaaGreat
