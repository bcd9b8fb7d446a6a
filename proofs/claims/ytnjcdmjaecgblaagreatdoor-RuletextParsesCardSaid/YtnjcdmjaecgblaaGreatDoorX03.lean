/-
  What the reference of ruletext answers: an element with another value of a field.
-/
import Derived.Test.YtnjcdmjaecgblaaGreatDoorX02
namespace Go.Proofs.YtnjcdmjaecgblaaGreatDoor
section
open Go.RowKit Go.Lib
theorem lone_set {us : List Value} {j : Nat} {x : Value} (h : ∀ v ∈ us, v.oneCell' = true) (hx : x.oneCell' = true) : ∀ v ∈ us.set j x, v.oneCell' = true := fun v hv => by
 rcases List.mem_or_eq_of_mem_set hv with q | q
 · exact h v q
 · rw [q]; exact hx
def withUnitPost (u : U9) (V0 w : World) (e : Ending) (w' : World) : Prop := ∃ vs, e = .returned (.agg vs.toArray) ∧ UL V0 vs u ∧ Below w.heap.size w w'
def withWeaponPost (u : W9) (_V0 w : World) (e : Ending) (w' : World) : Prop := ∃ vs, e = .returned (.agg vs.toArray) ∧ WL vs u ∧ Below w.heap.size w w'
def withTechPost (u : T9) (V0 w : World) (e : Ending) (w' : World) : Prop := ∃ vs, e = .returned (.agg vs.toArray) ∧ TL V0 vs u ∧ Below w.heap.size w w'
set_option maxHeartbeats 8000000 in
set_option maxRecDepth 100000 in
theorem r10wiW_b (u : W9) (us vs : List Value) (v : V10) (f : ByteArray) (V0 W : World) (hU : WL us u) (hV : VL V0 vs v) (hf : f ∈ fieldsv 2) : Calls Tryz.prog 37 #[.agg us.toArray, .string f, .agg vs.toArray] W (withWeaponPost (withWv u f v) V0 W) := by
 obtain ⟨sl, rfl, hs⟩ := hV
 obtain ⟨pl, cl, rfl, -⟩ := id hs
 have hZ := ((Blk.new W us 51).alloc (.cells [.int .i64 v.n, .bool v.b, .string v.s, .slice pl v.l.length cl].toArray 72)).alloc (.cells wZero.toArray 51)
 have hX := ((Blk.new (W.alloc (.cells us.toArray 51)) [.int .i64 v.n, .bool v.b, .string v.s, .slice pl v.l.length cl] 72).at (World.size_alloc _ _)).alloc (.cells wZero.toArray 51)
 have hY := (Blk.new ((W.alloc (.cells us.toArray 51)).alloc (.cells [.int .i64 v.n, .bool v.b, .string v.s, .slice pl v.l.length cl].toArray 72)) wZero 51).at (c := W.heap.size + 1 + 1) (by simp)
 have hL := (((Below.refl W.heap.size W).alloc (Nat.le_refl _) (.cells us.toArray 51)).alloc (by simp) (.cells [.int .i64 v.n, .bool v.b, .string v.s, .slice pl v.l.length cl].toArray 72)).alloc (by simp; omega) (.cells wZero.toArray 51)
 have hln := hU.len
 have hlone := hU.lone
 have hvs := hU
 replace hvs := hid hvs
 replace hln := hid hln
 replace hlone := hid hlone
 rw [fieldsW] at hf
 simp only [List.mem_cons, List.not_mem_nil, or_false] at hf
 rcases hf with rfl | rfl | rfl | rfl | rfl
 · have kz := (hZ.cell 1).trans (show us[1]? = some (.int .i64 u.rng) by rw [hvs.out]; rfl)
   have fz := hZ.frozen 1
   have kx := hX.cell 0
   simp only [List.getElem?_cons_zero] at kx
   go_enter Tryz.func37, Tryz.ntmps37
   go_upto_region 1 with (with_reducible refine wpList_alloc_agg rfl 51 rfl _ rfl wZero zeroW ?_)
   generalize (((W.alloc (.cells us.toArray 51)).alloc (.cells [.int .i64 v.n, .bool v.b, .string v.s, .slice pl v.l.length cl].toArray 72)).alloc (.cells wZero.toArray 51)) = V at *
   have hZ2 := hid (hZ.set 1 (.int .i64 v.n))
   have hY2 := (hY.far (c := W.heap.size) (i := 1) (.int .i64 v.n) (by omega))
   go_wp2_with (first | (with_reducible refine wpList_load_agg rfl 51 _ rfl ⟨W.heap.size, 0, none⟩ (by with_unfolding_all rfl) Tryz.isAgg51 Tryz.sizeOf51 (us.set 1 (.int .i64 v.n)) (hZ2.out.loads ((List.length_set ..).trans hln.out)) ?_) | (with_reducible refine wpList_store_agg rfl 51 _ _ rfl rfl (W.heap.size + 1 + 1) (by with_unfolding_all rfl) Tryz.sizeOf51 (us.set 1 (.int .i64 v.n)) (by with_unfolding_all rfl) ((List.length_set ..).trans hln.out) hY2 rfl (lone_set hlone.out rfl) ?_))
   refine bodyPost_ret (results_agg_one rfl rfl Tryz.isAgg51 Tryz.sizeOf51 (hY2.put _) ((List.length_set ..).trans hln.out)) rfl ?_
   exact ⟨_, rfl, (by rw [hvs.out]; rfl), below_setRow (hL.setCell (Nat.le_refl _) _) (by omega) _⟩
 · have kz := (hZ.cell 2).trans (show us[2]? = some (.int .i64 u.dmg) by rw [hvs.out]; rfl)
   have fz := hZ.frozen 2
   have kx := hX.cell 0
   simp only [List.getElem?_cons_zero] at kx
   go_enter Tryz.func37, Tryz.ntmps37
   go_upto_region 1 with (with_reducible refine wpList_alloc_agg rfl 51 rfl _ rfl wZero zeroW ?_)
   generalize (((W.alloc (.cells us.toArray 51)).alloc (.cells [.int .i64 v.n, .bool v.b, .string v.s, .slice pl v.l.length cl].toArray 72)).alloc (.cells wZero.toArray 51)) = V at *
   have hZ2 := hid (hZ.set 2 (.int .i64 v.n))
   have hY2 := (hY.far (c := W.heap.size) (i := 2) (.int .i64 v.n) (by omega))
   go_wp2_with (first | (with_reducible refine wpList_load_agg rfl 51 _ rfl ⟨W.heap.size, 0, none⟩ (by with_unfolding_all rfl) Tryz.isAgg51 Tryz.sizeOf51 (us.set 2 (.int .i64 v.n)) (hZ2.out.loads ((List.length_set ..).trans hln.out)) ?_) | (with_reducible refine wpList_store_agg rfl 51 _ _ rfl rfl (W.heap.size + 1 + 1) (by with_unfolding_all rfl) Tryz.sizeOf51 (us.set 2 (.int .i64 v.n)) (by with_unfolding_all rfl) ((List.length_set ..).trans hln.out) hY2 rfl (lone_set hlone.out rfl) ?_))
   refine bodyPost_ret (results_agg_one rfl rfl Tryz.isAgg51 Tryz.sizeOf51 (hY2.put _) ((List.length_set ..).trans hln.out)) rfl ?_
   exact ⟨_, rfl, (by rw [hvs.out]; rfl), below_setRow (hL.setCell (Nat.le_refl _) _) (by omega) _⟩
 · have kz := (hZ.cell 3).trans (show us[3]? = some (.int .i64 u.cool) by rw [hvs.out]; rfl)
   have fz := hZ.frozen 3
   have kx := hX.cell 0
   simp only [List.getElem?_cons_zero] at kx
   go_enter Tryz.func37, Tryz.ntmps37
   go_upto_region 1 with (with_reducible refine wpList_alloc_agg rfl 51 rfl _ rfl wZero zeroW ?_)
   generalize (((W.alloc (.cells us.toArray 51)).alloc (.cells [.int .i64 v.n, .bool v.b, .string v.s, .slice pl v.l.length cl].toArray 72)).alloc (.cells wZero.toArray 51)) = V at *
   have hZ2 := hid (hZ.set 3 (.int .i64 v.n))
   have hY2 := (hY.far (c := W.heap.size) (i := 3) (.int .i64 v.n) (by omega))
   go_wp2_with (first | (with_reducible refine wpList_load_agg rfl 51 _ rfl ⟨W.heap.size, 0, none⟩ (by with_unfolding_all rfl) Tryz.isAgg51 Tryz.sizeOf51 (us.set 3 (.int .i64 v.n)) (hZ2.out.loads ((List.length_set ..).trans hln.out)) ?_) | (with_reducible refine wpList_store_agg rfl 51 _ _ rfl rfl (W.heap.size + 1 + 1) (by with_unfolding_all rfl) Tryz.sizeOf51 (us.set 3 (.int .i64 v.n)) (by with_unfolding_all rfl) ((List.length_set ..).trans hln.out) hY2 rfl (lone_set hlone.out rfl) ?_))
   refine bodyPost_ret (results_agg_one rfl rfl Tryz.isAgg51 Tryz.sizeOf51 (hY2.put _) ((List.length_set ..).trans hln.out)) rfl ?_
   exact ⟨_, rfl, (by rw [hvs.out]; rfl), below_setRow (hL.setCell (Nat.le_refl _) _) (by omega) _⟩
 · have kz := (hZ.cell 4).trans (show us[4]? = some (.int .i64 u.spd) by rw [hvs.out]; rfl)
   have fz := hZ.frozen 4
   have kx := hX.cell 0
   simp only [List.getElem?_cons_zero] at kx
   go_enter Tryz.func37, Tryz.ntmps37
   go_upto_region 1 with (with_reducible refine wpList_alloc_agg rfl 51 rfl _ rfl wZero zeroW ?_)
   generalize (((W.alloc (.cells us.toArray 51)).alloc (.cells [.int .i64 v.n, .bool v.b, .string v.s, .slice pl v.l.length cl].toArray 72)).alloc (.cells wZero.toArray 51)) = V at *
   have hZ2 := hid (hZ.set 4 (.int .i64 v.n))
   have hY2 := (hY.far (c := W.heap.size) (i := 4) (.int .i64 v.n) (by omega))
   go_wp2_with (first | (with_reducible refine wpList_load_agg rfl 51 _ rfl ⟨W.heap.size, 0, none⟩ (by with_unfolding_all rfl) Tryz.isAgg51 Tryz.sizeOf51 (us.set 4 (.int .i64 v.n)) (hZ2.out.loads ((List.length_set ..).trans hln.out)) ?_) | (with_reducible refine wpList_store_agg rfl 51 _ _ rfl rfl (W.heap.size + 1 + 1) (by with_unfolding_all rfl) Tryz.sizeOf51 (us.set 4 (.int .i64 v.n)) (by with_unfolding_all rfl) ((List.length_set ..).trans hln.out) hY2 rfl (lone_set hlone.out rfl) ?_))
   refine bodyPost_ret (results_agg_one rfl rfl Tryz.isAgg51 Tryz.sizeOf51 (hY2.put _) ((List.length_set ..).trans hln.out)) rfl ?_
   exact ⟨_, rfl, (by rw [hvs.out]; rfl), below_setRow (hL.setCell (Nat.le_refl _) _) (by omega) _⟩
 · have kz := (hZ.cell 5).trans (show us[5]? = some (.int .i64 u.spl) by rw [hvs.out]; rfl)
   have fz := hZ.frozen 5
   have kx := hX.cell 0
   simp only [List.getElem?_cons_zero] at kx
   go_enter Tryz.func37, Tryz.ntmps37
   go_upto_region 1 with (with_reducible refine wpList_alloc_agg rfl 51 rfl _ rfl wZero zeroW ?_)
   generalize (((W.alloc (.cells us.toArray 51)).alloc (.cells [.int .i64 v.n, .bool v.b, .string v.s, .slice pl v.l.length cl].toArray 72)).alloc (.cells wZero.toArray 51)) = V at *
   have hZ2 := hid (hZ.set 5 (.int .i64 v.n))
   have hY2 := (hY.far (c := W.heap.size) (i := 5) (.int .i64 v.n) (by omega))
   go_wp2_with (first | (with_reducible refine wpList_load_agg rfl 51 _ rfl ⟨W.heap.size, 0, none⟩ (by with_unfolding_all rfl) Tryz.isAgg51 Tryz.sizeOf51 (us.set 5 (.int .i64 v.n)) (hZ2.out.loads ((List.length_set ..).trans hln.out)) ?_) | (with_reducible refine wpList_store_agg rfl 51 _ _ rfl rfl (W.heap.size + 1 + 1) (by with_unfolding_all rfl) Tryz.sizeOf51 (us.set 5 (.int .i64 v.n)) (by with_unfolding_all rfl) ((List.length_set ..).trans hln.out) hY2 rfl (lone_set hlone.out rfl) ?_))
   refine bodyPost_ret (results_agg_one rfl rfl Tryz.isAgg51 Tryz.sizeOf51 (hY2.put _) ((List.length_set ..).trans hln.out)) rfl ?_
   exact ⟨_, rfl, (by rw [hvs.out]; rfl), below_setRow (hL.setCell (Nat.le_refl _) _) (by omega) _⟩
set_option maxHeartbeats 8000000 in
set_option maxRecDepth 100000 in
theorem r10wiU_b (u : U9) (us vs : List Value) (v : V10) (f : ByteArray) (V0 W : World) (hU : UL V0 us u) (hV : VL V0 vs v) (hf : f ∈ fieldsv 1) : Calls Tryz.prog 36 #[.agg us.toArray, .string f, .agg vs.toArray] W (withUnitPost (withUv u f v) V0 W) := by
 obtain ⟨sl, rfl, hs⟩ := hV
 obtain ⟨pl, cl, rfl, -⟩ := id hs
 have hZ := ((Blk.new W us 53).alloc (.cells [.int .i64 v.n, .bool v.b, .string v.s, .slice pl v.l.length cl].toArray 72)).alloc (.cells uZero.toArray 53)
 have hX := ((Blk.new (W.alloc (.cells us.toArray 53)) [.int .i64 v.n, .bool v.b, .string v.s, .slice pl v.l.length cl] 72).at (World.size_alloc _ _)).alloc (.cells uZero.toArray 53)
 have hY := (Blk.new ((W.alloc (.cells us.toArray 53)).alloc (.cells [.int .i64 v.n, .bool v.b, .string v.s, .slice pl v.l.length cl].toArray 72)) uZero 53).at (c := W.heap.size + 1 + 1) (by simp)
 have hL := (((Below.refl W.heap.size W).alloc (Nat.le_refl _) (.cells us.toArray 53)).alloc (by simp) (.cells [.int .i64 v.n, .bool v.b, .string v.s, .slice pl v.l.length cl].toArray 72)).alloc (by simp; omega) (.cells uZero.toArray 53)
 have hln := hU.len
 have hlone := hU.lone
 obtain ⟨sn, st, sr, hvs, q_needs, q_trains, q_ress⟩ := hU
 obtain ⟨pn, cn, rfl, -⟩ := id q_needs
 obtain ⟨pt, ct, rfl, -⟩ := id q_trains
 obtain ⟨pr, cr, rfl, -⟩ := id q_ress
 replace hvs := hid hvs
 replace hln := hid hln
 replace hlone := hid hlone
 rw [fieldsU] at hf
 simp only [List.mem_cons, List.not_mem_nil, or_false] at hf
 rcases hf with rfl | rfl | rfl | rfl | rfl | rfl | rfl | rfl | rfl | rfl | rfl | rfl | rfl | rfl | rfl | rfl | rfl | rfl
 · have kz := (hZ.cell 1).trans (show us[1]? = some (.bool u.bld) by rw [hvs.out]; rfl)
   have fz := hZ.frozen 1
   have kx := hX.cell 1
   simp only [List.getElem?_cons_zero, List.getElem?_cons_succ] at kx
   go_enter Tryz.func36, Tryz.ntmps36
   go_upto_region 1 with (with_reducible refine wpList_alloc_agg rfl 53 rfl _ rfl uZero zeroU ?_)
   generalize (((W.alloc (.cells us.toArray 53)).alloc (.cells [.int .i64 v.n, .bool v.b, .string v.s, .slice pl v.l.length cl].toArray 72)).alloc (.cells uZero.toArray 53)) = V at *
   have hZ2 := hid (hZ.set 1 (.bool v.b))
   have hY2 := (hY.far (c := W.heap.size) (i := 1) (.bool v.b) (by omega))
   go_wp2_with (first | (with_reducible refine wpList_load_agg rfl 53 _ rfl ⟨W.heap.size, 0, none⟩ (by with_unfolding_all rfl) Tryz.isAgg53 Tryz.sizeOf53 (us.set 1 (.bool v.b)) (hZ2.out.loads ((List.length_set ..).trans hln.out)) ?_) | (with_reducible refine wpList_store_agg rfl 53 _ _ rfl rfl (W.heap.size + 1 + 1) (by with_unfolding_all rfl) Tryz.sizeOf53 (us.set 1 (.bool v.b)) (by with_unfolding_all rfl) ((List.length_set ..).trans hln.out) hY2 rfl (lone_set hlone.out rfl) ?_))
   refine bodyPost_ret (results_agg_one rfl rfl Tryz.isAgg53 Tryz.sizeOf53 (hY2.put _) ((List.length_set ..).trans hln.out)) rfl ?_
   exact ⟨_, rfl, ⟨_, _, _, by rw [hvs.out]; rfl, q_needs, q_trains, q_ress⟩, below_setRow (hL.setCell (Nat.le_refl _) _) (by omega) _⟩
 · have kz := (hZ.cell 2).trans (show us[2]? = some (.bool u.dep) by rw [hvs.out]; rfl)
   have fz := hZ.frozen 2
   have kx := hX.cell 1
   simp only [List.getElem?_cons_zero, List.getElem?_cons_succ] at kx
   go_enter Tryz.func36, Tryz.ntmps36
   go_upto_region 1 with (with_reducible refine wpList_alloc_agg rfl 53 rfl _ rfl uZero zeroU ?_)
   generalize (((W.alloc (.cells us.toArray 53)).alloc (.cells [.int .i64 v.n, .bool v.b, .string v.s, .slice pl v.l.length cl].toArray 72)).alloc (.cells uZero.toArray 53)) = V at *
   have hZ2 := hid (hZ.set 2 (.bool v.b))
   have hY2 := (hY.far (c := W.heap.size) (i := 2) (.bool v.b) (by omega))
   go_wp2_with (first | (with_reducible refine wpList_load_agg rfl 53 _ rfl ⟨W.heap.size, 0, none⟩ (by with_unfolding_all rfl) Tryz.isAgg53 Tryz.sizeOf53 (us.set 2 (.bool v.b)) (hZ2.out.loads ((List.length_set ..).trans hln.out)) ?_) | (with_reducible refine wpList_store_agg rfl 53 _ _ rfl rfl (W.heap.size + 1 + 1) (by with_unfolding_all rfl) Tryz.sizeOf53 (us.set 2 (.bool v.b)) (by with_unfolding_all rfl) ((List.length_set ..).trans hln.out) hY2 rfl (lone_set hlone.out rfl) ?_))
   refine bodyPost_ret (results_agg_one rfl rfl Tryz.isAgg53 Tryz.sizeOf53 (hY2.put _) ((List.length_set ..).trans hln.out)) rfl ?_
   exact ⟨_, rfl, ⟨_, _, _, by rw [hvs.out]; rfl, q_needs, q_trains, q_ress⟩, below_setRow (hL.setCell (Nat.le_refl _) _) (by omega) _⟩
 · have kz := (hZ.cell 3).trans (show us[3]? = some (.int .i64 u.cls) by rw [hvs.out]; rfl)
   have fz := hZ.frozen 3
   have kx := hX.cell 0
   simp only [List.getElem?_cons_zero] at kx
   go_enter Tryz.func36, Tryz.ntmps36
   go_upto_region 1 with (with_reducible refine wpList_alloc_agg rfl 53 rfl _ rfl uZero zeroU ?_)
   generalize (((W.alloc (.cells us.toArray 53)).alloc (.cells [.int .i64 v.n, .bool v.b, .string v.s, .slice pl v.l.length cl].toArray 72)).alloc (.cells uZero.toArray 53)) = V at *
   have hZ2 := hid (hZ.set 3 (.int .i64 v.n))
   have hY2 := (hY.far (c := W.heap.size) (i := 3) (.int .i64 v.n) (by omega))
   go_wp2_with (first | (with_reducible refine wpList_load_agg rfl 53 _ rfl ⟨W.heap.size, 0, none⟩ (by with_unfolding_all rfl) Tryz.isAgg53 Tryz.sizeOf53 (us.set 3 (.int .i64 v.n)) (hZ2.out.loads ((List.length_set ..).trans hln.out)) ?_) | (with_reducible refine wpList_store_agg rfl 53 _ _ rfl rfl (W.heap.size + 1 + 1) (by with_unfolding_all rfl) Tryz.sizeOf53 (us.set 3 (.int .i64 v.n)) (by with_unfolding_all rfl) ((List.length_set ..).trans hln.out) hY2 rfl (lone_set hlone.out rfl) ?_))
   refine bodyPost_ret (results_agg_one rfl rfl Tryz.isAgg53 Tryz.sizeOf53 (hY2.put _) ((List.length_set ..).trans hln.out)) rfl ?_
   exact ⟨_, rfl, ⟨_, _, _, by rw [hvs.out]; rfl, q_needs, q_trains, q_ress⟩, below_setRow (hL.setCell (Nat.le_refl _) _) (by omega) _⟩
 · have kz := (hZ.cell 4).trans (show us[4]? = some (.int .i64 u.w) by rw [hvs.out]; rfl)
   have fz := hZ.frozen 4
   have kx := hX.cell 0
   simp only [List.getElem?_cons_zero] at kx
   go_enter Tryz.func36, Tryz.ntmps36
   go_upto_region 1 with (with_reducible refine wpList_alloc_agg rfl 53 rfl _ rfl uZero zeroU ?_)
   generalize (((W.alloc (.cells us.toArray 53)).alloc (.cells [.int .i64 v.n, .bool v.b, .string v.s, .slice pl v.l.length cl].toArray 72)).alloc (.cells uZero.toArray 53)) = V at *
   have hZ2 := hid (hZ.set 4 (.int .i64 v.n))
   have hY2 := (hY.far (c := W.heap.size) (i := 4) (.int .i64 v.n) (by omega))
   go_wp2_with (first | (with_reducible refine wpList_load_agg rfl 53 _ rfl ⟨W.heap.size, 0, none⟩ (by with_unfolding_all rfl) Tryz.isAgg53 Tryz.sizeOf53 (us.set 4 (.int .i64 v.n)) (hZ2.out.loads ((List.length_set ..).trans hln.out)) ?_) | (with_reducible refine wpList_store_agg rfl 53 _ _ rfl rfl (W.heap.size + 1 + 1) (by with_unfolding_all rfl) Tryz.sizeOf53 (us.set 4 (.int .i64 v.n)) (by with_unfolding_all rfl) ((List.length_set ..).trans hln.out) hY2 rfl (lone_set hlone.out rfl) ?_))
   refine bodyPost_ret (results_agg_one rfl rfl Tryz.isAgg53 Tryz.sizeOf53 (hY2.put _) ((List.length_set ..).trans hln.out)) rfl ?_
   exact ⟨_, rfl, ⟨_, _, _, by rw [hvs.out]; rfl, q_needs, q_trains, q_ress⟩, below_setRow (hL.setCell (Nat.le_refl _) _) (by omega) _⟩
 · have kz := (hZ.cell 5).trans (show us[5]? = some (.int .i64 u.h) by rw [hvs.out]; rfl)
   have fz := hZ.frozen 5
   have kx := hX.cell 0
   simp only [List.getElem?_cons_zero] at kx
   go_enter Tryz.func36, Tryz.ntmps36
   go_upto_region 1 with (with_reducible refine wpList_alloc_agg rfl 53 rfl _ rfl uZero zeroU ?_)
   generalize (((W.alloc (.cells us.toArray 53)).alloc (.cells [.int .i64 v.n, .bool v.b, .string v.s, .slice pl v.l.length cl].toArray 72)).alloc (.cells uZero.toArray 53)) = V at *
   have hZ2 := hid (hZ.set 5 (.int .i64 v.n))
   have hY2 := (hY.far (c := W.heap.size) (i := 5) (.int .i64 v.n) (by omega))
   go_wp2_with (first | (with_reducible refine wpList_load_agg rfl 53 _ rfl ⟨W.heap.size, 0, none⟩ (by with_unfolding_all rfl) Tryz.isAgg53 Tryz.sizeOf53 (us.set 5 (.int .i64 v.n)) (hZ2.out.loads ((List.length_set ..).trans hln.out)) ?_) | (with_reducible refine wpList_store_agg rfl 53 _ _ rfl rfl (W.heap.size + 1 + 1) (by with_unfolding_all rfl) Tryz.sizeOf53 (us.set 5 (.int .i64 v.n)) (by with_unfolding_all rfl) ((List.length_set ..).trans hln.out) hY2 rfl (lone_set hlone.out rfl) ?_))
   refine bodyPost_ret (results_agg_one rfl rfl Tryz.isAgg53 Tryz.sizeOf53 (hY2.put _) ((List.length_set ..).trans hln.out)) rfl ?_
   exact ⟨_, rfl, ⟨_, _, _, by rw [hvs.out]; rfl, q_needs, q_trains, q_ress⟩, below_setRow (hL.setCell (Nat.le_refl _) _) (by omega) _⟩
 · have kz := (hZ.cell 6).trans (show us[6]? = some (.int .i64 u.rad) by rw [hvs.out]; rfl)
   have fz := hZ.frozen 6
   have kx := hX.cell 0
   simp only [List.getElem?_cons_zero] at kx
   go_enter Tryz.func36, Tryz.ntmps36
   go_upto_region 1 with (with_reducible refine wpList_alloc_agg rfl 53 rfl _ rfl uZero zeroU ?_)
   generalize (((W.alloc (.cells us.toArray 53)).alloc (.cells [.int .i64 v.n, .bool v.b, .string v.s, .slice pl v.l.length cl].toArray 72)).alloc (.cells uZero.toArray 53)) = V at *
   have hZ2 := hid (hZ.set 6 (.int .i64 v.n))
   have hY2 := (hY.far (c := W.heap.size) (i := 6) (.int .i64 v.n) (by omega))
   go_wp2_with (first | (with_reducible refine wpList_load_agg rfl 53 _ rfl ⟨W.heap.size, 0, none⟩ (by with_unfolding_all rfl) Tryz.isAgg53 Tryz.sizeOf53 (us.set 6 (.int .i64 v.n)) (hZ2.out.loads ((List.length_set ..).trans hln.out)) ?_) | (with_reducible refine wpList_store_agg rfl 53 _ _ rfl rfl (W.heap.size + 1 + 1) (by with_unfolding_all rfl) Tryz.sizeOf53 (us.set 6 (.int .i64 v.n)) (by with_unfolding_all rfl) ((List.length_set ..).trans hln.out) hY2 rfl (lone_set hlone.out rfl) ?_))
   refine bodyPost_ret (results_agg_one rfl rfl Tryz.isAgg53 Tryz.sizeOf53 (hY2.put _) ((List.length_set ..).trans hln.out)) rfl ?_
   exact ⟨_, rfl, ⟨_, _, _, by rw [hvs.out]; rfl, q_needs, q_trains, q_ress⟩, below_setRow (hL.setCell (Nat.le_refl _) _) (by omega) _⟩
 · have kz := (hZ.cell 7).trans (show us[7]? = some (.int .i64 u.spd) by rw [hvs.out]; rfl)
   have fz := hZ.frozen 7
   have kx := hX.cell 0
   simp only [List.getElem?_cons_zero] at kx
   go_enter Tryz.func36, Tryz.ntmps36
   go_upto_region 1 with (with_reducible refine wpList_alloc_agg rfl 53 rfl _ rfl uZero zeroU ?_)
   generalize (((W.alloc (.cells us.toArray 53)).alloc (.cells [.int .i64 v.n, .bool v.b, .string v.s, .slice pl v.l.length cl].toArray 72)).alloc (.cells uZero.toArray 53)) = V at *
   have hZ2 := hid (hZ.set 7 (.int .i64 v.n))
   have hY2 := (hY.far (c := W.heap.size) (i := 7) (.int .i64 v.n) (by omega))
   go_wp2_with (first | (with_reducible refine wpList_load_agg rfl 53 _ rfl ⟨W.heap.size, 0, none⟩ (by with_unfolding_all rfl) Tryz.isAgg53 Tryz.sizeOf53 (us.set 7 (.int .i64 v.n)) (hZ2.out.loads ((List.length_set ..).trans hln.out)) ?_) | (with_reducible refine wpList_store_agg rfl 53 _ _ rfl rfl (W.heap.size + 1 + 1) (by with_unfolding_all rfl) Tryz.sizeOf53 (us.set 7 (.int .i64 v.n)) (by with_unfolding_all rfl) ((List.length_set ..).trans hln.out) hY2 rfl (lone_set hlone.out rfl) ?_))
   refine bodyPost_ret (results_agg_one rfl rfl Tryz.isAgg53 Tryz.sizeOf53 (hY2.put _) ((List.length_set ..).trans hln.out)) rfl ?_
   exact ⟨_, rfl, ⟨_, _, _, by rw [hvs.out]; rfl, q_needs, q_trains, q_ress⟩, below_setRow (hL.setCell (Nat.le_refl _) _) (by omega) _⟩
 · have kz := (hZ.cell 8).trans (show us[8]? = some (.int .i64 u.sgt) by rw [hvs.out]; rfl)
   have fz := hZ.frozen 8
   have kx := hX.cell 0
   simp only [List.getElem?_cons_zero] at kx
   go_enter Tryz.func36, Tryz.ntmps36
   go_upto_region 1 with (with_reducible refine wpList_alloc_agg rfl 53 rfl _ rfl uZero zeroU ?_)
   generalize (((W.alloc (.cells us.toArray 53)).alloc (.cells [.int .i64 v.n, .bool v.b, .string v.s, .slice pl v.l.length cl].toArray 72)).alloc (.cells uZero.toArray 53)) = V at *
   have hZ2 := hid (hZ.set 8 (.int .i64 v.n))
   have hY2 := (hY.far (c := W.heap.size) (i := 8) (.int .i64 v.n) (by omega))
   go_wp2_with (first | (with_reducible refine wpList_load_agg rfl 53 _ rfl ⟨W.heap.size, 0, none⟩ (by with_unfolding_all rfl) Tryz.isAgg53 Tryz.sizeOf53 (us.set 8 (.int .i64 v.n)) (hZ2.out.loads ((List.length_set ..).trans hln.out)) ?_) | (with_reducible refine wpList_store_agg rfl 53 _ _ rfl rfl (W.heap.size + 1 + 1) (by with_unfolding_all rfl) Tryz.sizeOf53 (us.set 8 (.int .i64 v.n)) (by with_unfolding_all rfl) ((List.length_set ..).trans hln.out) hY2 rfl (lone_set hlone.out rfl) ?_))
   refine bodyPost_ret (results_agg_one rfl rfl Tryz.isAgg53 Tryz.sizeOf53 (hY2.put _) ((List.length_set ..).trans hln.out)) rfl ?_
   exact ⟨_, rfl, ⟨_, _, _, by rw [hvs.out]; rfl, q_needs, q_trains, q_ress⟩, below_setRow (hL.setCell (Nat.le_refl _) _) (by omega) _⟩
 · have kz := (hZ.cell 9).trans (show us[9]? = some (.int .i64 u.hp) by rw [hvs.out]; rfl)
   have fz := hZ.frozen 9
   have kx := hX.cell 0
   simp only [List.getElem?_cons_zero] at kx
   go_enter Tryz.func36, Tryz.ntmps36
   go_upto_region 1 with (with_reducible refine wpList_alloc_agg rfl 53 rfl _ rfl uZero zeroU ?_)
   generalize (((W.alloc (.cells us.toArray 53)).alloc (.cells [.int .i64 v.n, .bool v.b, .string v.s, .slice pl v.l.length cl].toArray 72)).alloc (.cells uZero.toArray 53)) = V at *
   have hZ2 := hid (hZ.set 9 (.int .i64 v.n))
   have hY2 := (hY.far (c := W.heap.size) (i := 9) (.int .i64 v.n) (by omega))
   go_wp2_with (first | (with_reducible refine wpList_load_agg rfl 53 _ rfl ⟨W.heap.size, 0, none⟩ (by with_unfolding_all rfl) Tryz.isAgg53 Tryz.sizeOf53 (us.set 9 (.int .i64 v.n)) (hZ2.out.loads ((List.length_set ..).trans hln.out)) ?_) | (with_reducible refine wpList_store_agg rfl 53 _ _ rfl rfl (W.heap.size + 1 + 1) (by with_unfolding_all rfl) Tryz.sizeOf53 (us.set 9 (.int .i64 v.n)) (by with_unfolding_all rfl) ((List.length_set ..).trans hln.out) hY2 rfl (lone_set hlone.out rfl) ?_))
   refine bodyPost_ret (results_agg_one rfl rfl Tryz.isAgg53 Tryz.sizeOf53 (hY2.put _) ((List.length_set ..).trans hln.out)) rfl ?_
   exact ⟨_, rfl, ⟨_, _, _, by rw [hvs.out]; rfl, q_needs, q_trains, q_ress⟩, below_setRow (hL.setCell (Nat.le_refl _) _) (by omega) _⟩
 · have kz := (hZ.cell 10).trans (show us[10]? = some (.int .i64 u.arm) by rw [hvs.out]; rfl)
   have fz := hZ.frozen 10
   have kx := hX.cell 0
   simp only [List.getElem?_cons_zero] at kx
   go_enter Tryz.func36, Tryz.ntmps36
   go_upto_region 1 with (with_reducible refine wpList_alloc_agg rfl 53 rfl _ rfl uZero zeroU ?_)
   generalize (((W.alloc (.cells us.toArray 53)).alloc (.cells [.int .i64 v.n, .bool v.b, .string v.s, .slice pl v.l.length cl].toArray 72)).alloc (.cells uZero.toArray 53)) = V at *
   have hZ2 := hid (hZ.set 10 (.int .i64 v.n))
   have hY2 := (hY.far (c := W.heap.size) (i := 10) (.int .i64 v.n) (by omega))
   go_wp2_with (first | (with_reducible refine wpList_load_agg rfl 53 _ rfl ⟨W.heap.size, 0, none⟩ (by with_unfolding_all rfl) Tryz.isAgg53 Tryz.sizeOf53 (us.set 10 (.int .i64 v.n)) (hZ2.out.loads ((List.length_set ..).trans hln.out)) ?_) | (with_reducible refine wpList_store_agg rfl 53 _ _ rfl rfl (W.heap.size + 1 + 1) (by with_unfolding_all rfl) Tryz.sizeOf53 (us.set 10 (.int .i64 v.n)) (by with_unfolding_all rfl) ((List.length_set ..).trans hln.out) hY2 rfl (lone_set hlone.out rfl) ?_))
   refine bodyPost_ret (results_agg_one rfl rfl Tryz.isAgg53 Tryz.sizeOf53 (hY2.put _) ((List.length_set ..).trans hln.out)) rfl ?_
   exact ⟨_, rfl, ⟨_, _, _, by rw [hvs.out]; rfl, q_needs, q_trains, q_ress⟩, below_setRow (hL.setCell (Nat.le_refl _) _) (by omega) _⟩
 · have kz := (hZ.cell 11).trans (show us[11]? = some (.int .i64 u.load) by rw [hvs.out]; rfl)
   have fz := hZ.frozen 11
   have kx := hX.cell 0
   simp only [List.getElem?_cons_zero] at kx
   go_enter Tryz.func36, Tryz.ntmps36
   go_upto_region 1 with (with_reducible refine wpList_alloc_agg rfl 53 rfl _ rfl uZero zeroU ?_)
   generalize (((W.alloc (.cells us.toArray 53)).alloc (.cells [.int .i64 v.n, .bool v.b, .string v.s, .slice pl v.l.length cl].toArray 72)).alloc (.cells uZero.toArray 53)) = V at *
   have hZ2 := hid (hZ.set 11 (.int .i64 v.n))
   have hY2 := (hY.far (c := W.heap.size) (i := 11) (.int .i64 v.n) (by omega))
   go_wp2_with (first | (with_reducible refine wpList_load_agg rfl 53 _ rfl ⟨W.heap.size, 0, none⟩ (by with_unfolding_all rfl) Tryz.isAgg53 Tryz.sizeOf53 (us.set 11 (.int .i64 v.n)) (hZ2.out.loads ((List.length_set ..).trans hln.out)) ?_) | (with_reducible refine wpList_store_agg rfl 53 _ _ rfl rfl (W.heap.size + 1 + 1) (by with_unfolding_all rfl) Tryz.sizeOf53 (us.set 11 (.int .i64 v.n)) (by with_unfolding_all rfl) ((List.length_set ..).trans hln.out) hY2 rfl (lone_set hlone.out rfl) ?_))
   refine bodyPost_ret (results_agg_one rfl rfl Tryz.isAgg53 Tryz.sizeOf53 (hY2.put _) ((List.length_set ..).trans hln.out)) rfl ?_
   exact ⟨_, rfl, ⟨_, _, _, by rw [hvs.out]; rfl, q_needs, q_trains, q_ress⟩, below_setRow (hL.setCell (Nat.le_refl _) _) (by omega) _⟩
 · have kz := (hZ.cell 12).trans (show us[12]? = some (.string u.wpn) by rw [hvs.out]; rfl)
   have fz := hZ.frozen 12
   have kx := hX.cell 2
   simp only [List.getElem?_cons_zero, List.getElem?_cons_succ] at kx
   go_enter Tryz.func36, Tryz.ntmps36
   go_upto_region 1 with (with_reducible refine wpList_alloc_agg rfl 53 rfl _ rfl uZero zeroU ?_)
   generalize (((W.alloc (.cells us.toArray 53)).alloc (.cells [.int .i64 v.n, .bool v.b, .string v.s, .slice pl v.l.length cl].toArray 72)).alloc (.cells uZero.toArray 53)) = V at *
   have hZ2 := hid (hZ.set 12 (.string v.s))
   have hY2 := (hY.far (c := W.heap.size) (i := 12) (.string v.s) (by omega))
   go_wp2_with (first | (with_reducible refine wpList_load_agg rfl 53 _ rfl ⟨W.heap.size, 0, none⟩ (by with_unfolding_all rfl) Tryz.isAgg53 Tryz.sizeOf53 (us.set 12 (.string v.s)) (hZ2.out.loads ((List.length_set ..).trans hln.out)) ?_) | (with_reducible refine wpList_store_agg rfl 53 _ _ rfl rfl (W.heap.size + 1 + 1) (by with_unfolding_all rfl) Tryz.sizeOf53 (us.set 12 (.string v.s)) (by with_unfolding_all rfl) ((List.length_set ..).trans hln.out) hY2 rfl (lone_set hlone.out rfl) ?_))
   refine bodyPost_ret (results_agg_one rfl rfl Tryz.isAgg53 Tryz.sizeOf53 (hY2.put _) ((List.length_set ..).trans hln.out)) rfl ?_
   exact ⟨_, rfl, ⟨_, _, _, by rw [hvs.out]; rfl, q_needs, q_trains, q_ress⟩, below_setRow (hL.setCell (Nat.le_refl _) _) (by omega) _⟩
 · have kz := (hZ.cell 13).trans (show us[13]? = some (.int .i64 u.ore) by rw [hvs.out]; rfl)
   have fz := hZ.frozen 13
   have kx := hX.cell 0
   simp only [List.getElem?_cons_zero] at kx
   go_enter Tryz.func36, Tryz.ntmps36
   go_upto_region 1 with (with_reducible refine wpList_alloc_agg rfl 53 rfl _ rfl uZero zeroU ?_)
   generalize (((W.alloc (.cells us.toArray 53)).alloc (.cells [.int .i64 v.n, .bool v.b, .string v.s, .slice pl v.l.length cl].toArray 72)).alloc (.cells uZero.toArray 53)) = V at *
   have hZ2 := hid (hZ.set 13 (.int .i64 v.n))
   have hY2 := (hY.far (c := W.heap.size) (i := 13) (.int .i64 v.n) (by omega))
   go_wp2_with (first | (with_reducible refine wpList_load_agg rfl 53 _ rfl ⟨W.heap.size, 0, none⟩ (by with_unfolding_all rfl) Tryz.isAgg53 Tryz.sizeOf53 (us.set 13 (.int .i64 v.n)) (hZ2.out.loads ((List.length_set ..).trans hln.out)) ?_) | (with_reducible refine wpList_store_agg rfl 53 _ _ rfl rfl (W.heap.size + 1 + 1) (by with_unfolding_all rfl) Tryz.sizeOf53 (us.set 13 (.int .i64 v.n)) (by with_unfolding_all rfl) ((List.length_set ..).trans hln.out) hY2 rfl (lone_set hlone.out rfl) ?_))
   refine bodyPost_ret (results_agg_one rfl rfl Tryz.isAgg53 Tryz.sizeOf53 (hY2.put _) ((List.length_set ..).trans hln.out)) rfl ?_
   exact ⟨_, rfl, ⟨_, _, _, by rw [hvs.out]; rfl, q_needs, q_trains, q_ress⟩, below_setRow (hL.setCell (Nat.le_refl _) _) (by omega) _⟩
 · have kz := (hZ.cell 14).trans (show us[14]? = some (.int .i64 u.wood) by rw [hvs.out]; rfl)
   have fz := hZ.frozen 14
   have kx := hX.cell 0
   simp only [List.getElem?_cons_zero] at kx
   go_enter Tryz.func36, Tryz.ntmps36
   go_upto_region 1 with (with_reducible refine wpList_alloc_agg rfl 53 rfl _ rfl uZero zeroU ?_)
   generalize (((W.alloc (.cells us.toArray 53)).alloc (.cells [.int .i64 v.n, .bool v.b, .string v.s, .slice pl v.l.length cl].toArray 72)).alloc (.cells uZero.toArray 53)) = V at *
   have hZ2 := hid (hZ.set 14 (.int .i64 v.n))
   have hY2 := (hY.far (c := W.heap.size) (i := 14) (.int .i64 v.n) (by omega))
   go_wp2_with (first | (with_reducible refine wpList_load_agg rfl 53 _ rfl ⟨W.heap.size, 0, none⟩ (by with_unfolding_all rfl) Tryz.isAgg53 Tryz.sizeOf53 (us.set 14 (.int .i64 v.n)) (hZ2.out.loads ((List.length_set ..).trans hln.out)) ?_) | (with_reducible refine wpList_store_agg rfl 53 _ _ rfl rfl (W.heap.size + 1 + 1) (by with_unfolding_all rfl) Tryz.sizeOf53 (us.set 14 (.int .i64 v.n)) (by with_unfolding_all rfl) ((List.length_set ..).trans hln.out) hY2 rfl (lone_set hlone.out rfl) ?_))
   refine bodyPost_ret (results_agg_one rfl rfl Tryz.isAgg53 Tryz.sizeOf53 (hY2.put _) ((List.length_set ..).trans hln.out)) rfl ?_
   exact ⟨_, rfl, ⟨_, _, _, by rw [hvs.out]; rfl, q_needs, q_trains, q_ress⟩, below_setRow (hL.setCell (Nat.le_refl _) _) (by omega) _⟩
 · have kz := (hZ.cell 15).trans (show us[15]? = some (.int .i64 u.time) by rw [hvs.out]; rfl)
   have fz := hZ.frozen 15
   have kx := hX.cell 0
   simp only [List.getElem?_cons_zero] at kx
   go_enter Tryz.func36, Tryz.ntmps36
   go_upto_region 1 with (with_reducible refine wpList_alloc_agg rfl 53 rfl _ rfl uZero zeroU ?_)
   generalize (((W.alloc (.cells us.toArray 53)).alloc (.cells [.int .i64 v.n, .bool v.b, .string v.s, .slice pl v.l.length cl].toArray 72)).alloc (.cells uZero.toArray 53)) = V at *
   have hZ2 := hid (hZ.set 15 (.int .i64 v.n))
   have hY2 := (hY.far (c := W.heap.size) (i := 15) (.int .i64 v.n) (by omega))
   go_wp2_with (first | (with_reducible refine wpList_load_agg rfl 53 _ rfl ⟨W.heap.size, 0, none⟩ (by with_unfolding_all rfl) Tryz.isAgg53 Tryz.sizeOf53 (us.set 15 (.int .i64 v.n)) (hZ2.out.loads ((List.length_set ..).trans hln.out)) ?_) | (with_reducible refine wpList_store_agg rfl 53 _ _ rfl rfl (W.heap.size + 1 + 1) (by with_unfolding_all rfl) Tryz.sizeOf53 (us.set 15 (.int .i64 v.n)) (by with_unfolding_all rfl) ((List.length_set ..).trans hln.out) hY2 rfl (lone_set hlone.out rfl) ?_))
   refine bodyPost_ret (results_agg_one rfl rfl Tryz.isAgg53 Tryz.sizeOf53 (hY2.put _) ((List.length_set ..).trans hln.out)) rfl ?_
   exact ⟨_, rfl, ⟨_, _, _, by rw [hvs.out]; rfl, q_needs, q_trains, q_ress⟩, below_setRow (hL.setCell (Nat.le_refl _) _) (by omega) _⟩
 · have kz := (hZ.cell 16).trans (show us[16]? = some (.slice pn u.needs.length cn) by rw [hvs.out]; rfl)
   have fz := hZ.frozen 16
   have kx := hX.cell 3
   simp only [List.getElem?_cons_zero, List.getElem?_cons_succ] at kx
   go_enter Tryz.func36, Tryz.ntmps36
   go_upto_region 1 with (with_reducible refine wpList_alloc_agg rfl 53 rfl _ rfl uZero zeroU ?_)
   generalize (((W.alloc (.cells us.toArray 53)).alloc (.cells [.int .i64 v.n, .bool v.b, .string v.s, .slice pl v.l.length cl].toArray 72)).alloc (.cells uZero.toArray 53)) = V at *
   have hZ2 := hid (hZ.set 16 (.slice pl v.l.length cl))
   have hY2 := (hY.far (c := W.heap.size) (i := 16) (.slice pl v.l.length cl) (by omega))
   go_wp2_with (first | (with_reducible refine wpList_load_agg rfl 53 _ rfl ⟨W.heap.size, 0, none⟩ (by with_unfolding_all rfl) Tryz.isAgg53 Tryz.sizeOf53 (us.set 16 (.slice pl v.l.length cl)) (hZ2.out.loads ((List.length_set ..).trans hln.out)) ?_) | (with_reducible refine wpList_store_agg rfl 53 _ _ rfl rfl (W.heap.size + 1 + 1) (by with_unfolding_all rfl) Tryz.sizeOf53 (us.set 16 (.slice pl v.l.length cl)) (by with_unfolding_all rfl) ((List.length_set ..).trans hln.out) hY2 rfl (lone_set hlone.out rfl) ?_))
   refine bodyPost_ret (results_agg_one rfl rfl Tryz.isAgg53 Tryz.sizeOf53 (hY2.put _) ((List.length_set ..).trans hln.out)) rfl ?_
   exact ⟨_, rfl, ⟨_, _, _, by rw [hvs.out]; rfl, hs, q_trains, q_ress⟩, below_setRow (hL.setCell (Nat.le_refl _) _) (by omega) _⟩
 · have kz := (hZ.cell 17).trans (show us[17]? = some (.slice pt u.trains.length ct) by rw [hvs.out]; rfl)
   have fz := hZ.frozen 17
   have kx := hX.cell 3
   simp only [List.getElem?_cons_zero, List.getElem?_cons_succ] at kx
   go_enter Tryz.func36, Tryz.ntmps36
   go_upto_region 1 with (with_reducible refine wpList_alloc_agg rfl 53 rfl _ rfl uZero zeroU ?_)
   generalize (((W.alloc (.cells us.toArray 53)).alloc (.cells [.int .i64 v.n, .bool v.b, .string v.s, .slice pl v.l.length cl].toArray 72)).alloc (.cells uZero.toArray 53)) = V at *
   have hZ2 := hid (hZ.set 17 (.slice pl v.l.length cl))
   have hY2 := (hY.far (c := W.heap.size) (i := 17) (.slice pl v.l.length cl) (by omega))
   go_wp2_with (first | (with_reducible refine wpList_load_agg rfl 53 _ rfl ⟨W.heap.size, 0, none⟩ (by with_unfolding_all rfl) Tryz.isAgg53 Tryz.sizeOf53 (us.set 17 (.slice pl v.l.length cl)) (hZ2.out.loads ((List.length_set ..).trans hln.out)) ?_) | (with_reducible refine wpList_store_agg rfl 53 _ _ rfl rfl (W.heap.size + 1 + 1) (by with_unfolding_all rfl) Tryz.sizeOf53 (us.set 17 (.slice pl v.l.length cl)) (by with_unfolding_all rfl) ((List.length_set ..).trans hln.out) hY2 rfl (lone_set hlone.out rfl) ?_))
   refine bodyPost_ret (results_agg_one rfl rfl Tryz.isAgg53 Tryz.sizeOf53 (hY2.put _) ((List.length_set ..).trans hln.out)) rfl ?_
   exact ⟨_, rfl, ⟨_, _, _, by rw [hvs.out]; rfl, q_needs, hs, q_ress⟩, below_setRow (hL.setCell (Nat.le_refl _) _) (by omega) _⟩
 · have kz := (hZ.cell 18).trans (show us[18]? = some (.slice pr u.ress.length cr) by rw [hvs.out]; rfl)
   have fz := hZ.frozen 18
   have kx := hX.cell 3
   simp only [List.getElem?_cons_zero, List.getElem?_cons_succ] at kx
   go_enter Tryz.func36, Tryz.ntmps36
   go_upto_region 1 with (with_reducible refine wpList_alloc_agg rfl 53 rfl _ rfl uZero zeroU ?_)
   generalize (((W.alloc (.cells us.toArray 53)).alloc (.cells [.int .i64 v.n, .bool v.b, .string v.s, .slice pl v.l.length cl].toArray 72)).alloc (.cells uZero.toArray 53)) = V at *
   have hZ2 := hid (hZ.set 18 (.slice pl v.l.length cl))
   have hY2 := (hY.far (c := W.heap.size) (i := 18) (.slice pl v.l.length cl) (by omega))
   go_wp2_with (first | (with_reducible refine wpList_load_agg rfl 53 _ rfl ⟨W.heap.size, 0, none⟩ (by with_unfolding_all rfl) Tryz.isAgg53 Tryz.sizeOf53 (us.set 18 (.slice pl v.l.length cl)) (hZ2.out.loads ((List.length_set ..).trans hln.out)) ?_) | (with_reducible refine wpList_store_agg rfl 53 _ _ rfl rfl (W.heap.size + 1 + 1) (by with_unfolding_all rfl) Tryz.sizeOf53 (us.set 18 (.slice pl v.l.length cl)) (by with_unfolding_all rfl) ((List.length_set ..).trans hln.out) hY2 rfl (lone_set hlone.out rfl) ?_))
   refine bodyPost_ret (results_agg_one rfl rfl Tryz.isAgg53 Tryz.sizeOf53 (hY2.put _) ((List.length_set ..).trans hln.out)) rfl ?_
   exact ⟨_, rfl, ⟨_, _, _, by rw [hvs.out]; rfl, q_needs, q_trains, hs⟩, below_setRow (hL.setCell (Nat.le_refl _) _) (by omega) _⟩
set_option maxHeartbeats 8000000 in
set_option maxRecDepth 100000 in
theorem r10wiT_b (u : T9) (us vs : List Value) (v : V10) (f : ByteArray) (V0 W : World) (hU : TL V0 us u) (hV : VL V0 vs v) (hf : f ∈ fieldsv 3) : Calls Tryz.prog 38 #[.agg us.toArray, .string f, .agg vs.toArray] W (withTechPost (withTv u f v) V0 W) := by
 obtain ⟨sl, rfl, hs⟩ := hV
 obtain ⟨pl, cl, rfl, -⟩ := id hs
 have hZ := ((Blk.new W us 56).alloc (.cells [.int .i64 v.n, .bool v.b, .string v.s, .slice pl v.l.length cl].toArray 72)).alloc (.cells tZero.toArray 56)
 have hX := ((Blk.new (W.alloc (.cells us.toArray 56)) [.int .i64 v.n, .bool v.b, .string v.s, .slice pl v.l.length cl] 72).at (World.size_alloc _ _)).alloc (.cells tZero.toArray 56)
 have hY := (Blk.new ((W.alloc (.cells us.toArray 56)).alloc (.cells [.int .i64 v.n, .bool v.b, .string v.s, .slice pl v.l.length cl].toArray 72)) tZero 56).at (c := W.heap.size + 1 + 1) (by simp)
 have hL := (((Below.refl W.heap.size W).alloc (Nat.le_refl _) (.cells us.toArray 56)).alloc (by simp) (.cells [.int .i64 v.n, .bool v.b, .string v.s, .slice pl v.l.length cl].toArray 72)).alloc (by simp; omega) (.cells tZero.toArray 56)
 have hln := hU.len
 have hlone := hU.lone
 obtain ⟨sn, hvs, q_needs⟩ := hU
 obtain ⟨pn, cn, rfl, -⟩ := id q_needs
 replace hvs := hid hvs
 replace hln := hid hln
 replace hlone := hid hlone
 rw [fieldsT] at hf
 simp only [List.mem_cons, List.not_mem_nil, or_false] at hf
 rcases hf with rfl | rfl | rfl | rfl | rfl | rfl | rfl
 · have kz := (hZ.cell 1).trans (show us[1]? = some (.slice pn u.needs.length cn) by rw [hvs.out]; rfl)
   have fz := hZ.frozen 1
   have kx := hX.cell 3
   simp only [List.getElem?_cons_zero, List.getElem?_cons_succ] at kx
   go_enter Tryz.func38, Tryz.ntmps38
   go_upto_region 1 with (with_reducible refine wpList_alloc_agg rfl 56 rfl _ rfl tZero zeroT ?_)
   generalize (((W.alloc (.cells us.toArray 56)).alloc (.cells [.int .i64 v.n, .bool v.b, .string v.s, .slice pl v.l.length cl].toArray 72)).alloc (.cells tZero.toArray 56)) = V at *
   have hZ2 := hid (hZ.set 1 (.slice pl v.l.length cl))
   have hY2 := (hY.far (c := W.heap.size) (i := 1) (.slice pl v.l.length cl) (by omega))
   go_wp2_with (first | (with_reducible refine wpList_load_agg rfl 56 _ rfl ⟨W.heap.size, 0, none⟩ (by with_unfolding_all rfl) Tryz.isAgg56 Tryz.sizeOf56 (us.set 1 (.slice pl v.l.length cl)) (hZ2.out.loads ((List.length_set ..).trans hln.out)) ?_) | (with_reducible refine wpList_store_agg rfl 56 _ _ rfl rfl (W.heap.size + 1 + 1) (by with_unfolding_all rfl) Tryz.sizeOf56 (us.set 1 (.slice pl v.l.length cl)) (by with_unfolding_all rfl) ((List.length_set ..).trans hln.out) hY2 rfl (lone_set hlone.out rfl) ?_))
   refine bodyPost_ret (results_agg_one rfl rfl Tryz.isAgg56 Tryz.sizeOf56 (hY2.put _) ((List.length_set ..).trans hln.out)) rfl ?_
   exact ⟨_, rfl, ⟨_, by rw [hvs.out]; rfl, hs⟩, below_setRow (hL.setCell (Nat.le_refl _) _) (by omega) _⟩
 · have kz := (hZ.cell 2).trans (show us[2]? = some (.int .i64 u.ore) by rw [hvs.out]; rfl)
   have fz := hZ.frozen 2
   have kx := hX.cell 0
   simp only [List.getElem?_cons_zero] at kx
   go_enter Tryz.func38, Tryz.ntmps38
   go_upto_region 1 with (with_reducible refine wpList_alloc_agg rfl 56 rfl _ rfl tZero zeroT ?_)
   generalize (((W.alloc (.cells us.toArray 56)).alloc (.cells [.int .i64 v.n, .bool v.b, .string v.s, .slice pl v.l.length cl].toArray 72)).alloc (.cells tZero.toArray 56)) = V at *
   have hZ2 := hid (hZ.set 2 (.int .i64 v.n))
   have hY2 := (hY.far (c := W.heap.size) (i := 2) (.int .i64 v.n) (by omega))
   go_wp2_with (first | (with_reducible refine wpList_load_agg rfl 56 _ rfl ⟨W.heap.size, 0, none⟩ (by with_unfolding_all rfl) Tryz.isAgg56 Tryz.sizeOf56 (us.set 2 (.int .i64 v.n)) (hZ2.out.loads ((List.length_set ..).trans hln.out)) ?_) | (with_reducible refine wpList_store_agg rfl 56 _ _ rfl rfl (W.heap.size + 1 + 1) (by with_unfolding_all rfl) Tryz.sizeOf56 (us.set 2 (.int .i64 v.n)) (by with_unfolding_all rfl) ((List.length_set ..).trans hln.out) hY2 rfl (lone_set hlone.out rfl) ?_))
   refine bodyPost_ret (results_agg_one rfl rfl Tryz.isAgg56 Tryz.sizeOf56 (hY2.put _) ((List.length_set ..).trans hln.out)) rfl ?_
   exact ⟨_, rfl, ⟨_, by rw [hvs.out]; rfl, q_needs⟩, below_setRow (hL.setCell (Nat.le_refl _) _) (by omega) _⟩
 · have kz := (hZ.cell 3).trans (show us[3]? = some (.int .i64 u.wood) by rw [hvs.out]; rfl)
   have fz := hZ.frozen 3
   have kx := hX.cell 0
   simp only [List.getElem?_cons_zero] at kx
   go_enter Tryz.func38, Tryz.ntmps38
   go_upto_region 1 with (with_reducible refine wpList_alloc_agg rfl 56 rfl _ rfl tZero zeroT ?_)
   generalize (((W.alloc (.cells us.toArray 56)).alloc (.cells [.int .i64 v.n, .bool v.b, .string v.s, .slice pl v.l.length cl].toArray 72)).alloc (.cells tZero.toArray 56)) = V at *
   have hZ2 := hid (hZ.set 3 (.int .i64 v.n))
   have hY2 := (hY.far (c := W.heap.size) (i := 3) (.int .i64 v.n) (by omega))
   go_wp2_with (first | (with_reducible refine wpList_load_agg rfl 56 _ rfl ⟨W.heap.size, 0, none⟩ (by with_unfolding_all rfl) Tryz.isAgg56 Tryz.sizeOf56 (us.set 3 (.int .i64 v.n)) (hZ2.out.loads ((List.length_set ..).trans hln.out)) ?_) | (with_reducible refine wpList_store_agg rfl 56 _ _ rfl rfl (W.heap.size + 1 + 1) (by with_unfolding_all rfl) Tryz.sizeOf56 (us.set 3 (.int .i64 v.n)) (by with_unfolding_all rfl) ((List.length_set ..).trans hln.out) hY2 rfl (lone_set hlone.out rfl) ?_))
   refine bodyPost_ret (results_agg_one rfl rfl Tryz.isAgg56 Tryz.sizeOf56 (hY2.put _) ((List.length_set ..).trans hln.out)) rfl ?_
   exact ⟨_, rfl, ⟨_, by rw [hvs.out]; rfl, q_needs⟩, below_setRow (hL.setCell (Nat.le_refl _) _) (by omega) _⟩
 · have kz := (hZ.cell 4).trans (show us[4]? = some (.int .i64 u.time) by rw [hvs.out]; rfl)
   have fz := hZ.frozen 4
   have kx := hX.cell 0
   simp only [List.getElem?_cons_zero] at kx
   go_enter Tryz.func38, Tryz.ntmps38
   go_upto_region 1 with (with_reducible refine wpList_alloc_agg rfl 56 rfl _ rfl tZero zeroT ?_)
   generalize (((W.alloc (.cells us.toArray 56)).alloc (.cells [.int .i64 v.n, .bool v.b, .string v.s, .slice pl v.l.length cl].toArray 72)).alloc (.cells tZero.toArray 56)) = V at *
   have hZ2 := hid (hZ.set 4 (.int .i64 v.n))
   have hY2 := (hY.far (c := W.heap.size) (i := 4) (.int .i64 v.n) (by omega))
   go_wp2_with (first | (with_reducible refine wpList_load_agg rfl 56 _ rfl ⟨W.heap.size, 0, none⟩ (by with_unfolding_all rfl) Tryz.isAgg56 Tryz.sizeOf56 (us.set 4 (.int .i64 v.n)) (hZ2.out.loads ((List.length_set ..).trans hln.out)) ?_) | (with_reducible refine wpList_store_agg rfl 56 _ _ rfl rfl (W.heap.size + 1 + 1) (by with_unfolding_all rfl) Tryz.sizeOf56 (us.set 4 (.int .i64 v.n)) (by with_unfolding_all rfl) ((List.length_set ..).trans hln.out) hY2 rfl (lone_set hlone.out rfl) ?_))
   refine bodyPost_ret (results_agg_one rfl rfl Tryz.isAgg56 Tryz.sizeOf56 (hY2.put _) ((List.length_set ..).trans hln.out)) rfl ?_
   exact ⟨_, rfl, ⟨_, by rw [hvs.out]; rfl, q_needs⟩, below_setRow (hL.setCell (Nat.le_refl _) _) (by omega) _⟩
 · have kz := (hZ.cell 5).trans (show us[5]? = some (.string u.un) by rw [hvs.out]; rfl)
   have fz := hZ.frozen 5
   have kx := hX.cell 2
   simp only [List.getElem?_cons_zero, List.getElem?_cons_succ] at kx
   go_enter Tryz.func38, Tryz.ntmps38
   go_upto_region 1 with (with_reducible refine wpList_alloc_agg rfl 56 rfl _ rfl tZero zeroT ?_)
   generalize (((W.alloc (.cells us.toArray 56)).alloc (.cells [.int .i64 v.n, .bool v.b, .string v.s, .slice pl v.l.length cl].toArray 72)).alloc (.cells tZero.toArray 56)) = V at *
   have hZ2 := hid (hZ.set 5 (.string v.s))
   have hY2 := (hY.far (c := W.heap.size) (i := 5) (.string v.s) (by omega))
   go_wp2_with (first | (with_reducible refine wpList_load_agg rfl 56 _ rfl ⟨W.heap.size, 0, none⟩ (by with_unfolding_all rfl) Tryz.isAgg56 Tryz.sizeOf56 (us.set 5 (.string v.s)) (hZ2.out.loads ((List.length_set ..).trans hln.out)) ?_) | (with_reducible refine wpList_store_agg rfl 56 _ _ rfl rfl (W.heap.size + 1 + 1) (by with_unfolding_all rfl) Tryz.sizeOf56 (us.set 5 (.string v.s)) (by with_unfolding_all rfl) ((List.length_set ..).trans hln.out) hY2 rfl (lone_set hlone.out rfl) ?_))
   refine bodyPost_ret (results_agg_one rfl rfl Tryz.isAgg56 Tryz.sizeOf56 (hY2.put _) ((List.length_set ..).trans hln.out)) rfl ?_
   exact ⟨_, rfl, ⟨_, by rw [hvs.out]; rfl, q_needs⟩, below_setRow (hL.setCell (Nat.le_refl _) _) (by omega) _⟩
 · have kz := (hZ.cell 6).trans (show us[6]? = some (.int .i64 u.stat) by rw [hvs.out]; rfl)
   have fz := hZ.frozen 6
   have kx := hX.cell 0
   simp only [List.getElem?_cons_zero] at kx
   go_enter Tryz.func38, Tryz.ntmps38
   go_upto_region 1 with (with_reducible refine wpList_alloc_agg rfl 56 rfl _ rfl tZero zeroT ?_)
   generalize (((W.alloc (.cells us.toArray 56)).alloc (.cells [.int .i64 v.n, .bool v.b, .string v.s, .slice pl v.l.length cl].toArray 72)).alloc (.cells tZero.toArray 56)) = V at *
   have hZ2 := hid (hZ.set 6 (.int .i64 v.n))
   have hY2 := (hY.far (c := W.heap.size) (i := 6) (.int .i64 v.n) (by omega))
   go_wp2_with (first | (with_reducible refine wpList_load_agg rfl 56 _ rfl ⟨W.heap.size, 0, none⟩ (by with_unfolding_all rfl) Tryz.isAgg56 Tryz.sizeOf56 (us.set 6 (.int .i64 v.n)) (hZ2.out.loads ((List.length_set ..).trans hln.out)) ?_) | (with_reducible refine wpList_store_agg rfl 56 _ _ rfl rfl (W.heap.size + 1 + 1) (by with_unfolding_all rfl) Tryz.sizeOf56 (us.set 6 (.int .i64 v.n)) (by with_unfolding_all rfl) ((List.length_set ..).trans hln.out) hY2 rfl (lone_set hlone.out rfl) ?_))
   refine bodyPost_ret (results_agg_one rfl rfl Tryz.isAgg56 Tryz.sizeOf56 (hY2.put _) ((List.length_set ..).trans hln.out)) rfl ?_
   exact ⟨_, rfl, ⟨_, by rw [hvs.out]; rfl, q_needs⟩, below_setRow (hL.setCell (Nat.le_refl _) _) (by omega) _⟩
 · have kz := (hZ.cell 7).trans (show us[7]? = some (.int .i64 u.amt) by rw [hvs.out]; rfl)
   have fz := hZ.frozen 7
   have kx := hX.cell 0
   simp only [List.getElem?_cons_zero] at kx
   go_enter Tryz.func38, Tryz.ntmps38
   go_upto_region 1 with (with_reducible refine wpList_alloc_agg rfl 56 rfl _ rfl tZero zeroT ?_)
   generalize (((W.alloc (.cells us.toArray 56)).alloc (.cells [.int .i64 v.n, .bool v.b, .string v.s, .slice pl v.l.length cl].toArray 72)).alloc (.cells tZero.toArray 56)) = V at *
   have hZ2 := hid (hZ.set 7 (.int .i64 v.n))
   have hY2 := (hY.far (c := W.heap.size) (i := 7) (.int .i64 v.n) (by omega))
   go_wp2_with (first | (with_reducible refine wpList_load_agg rfl 56 _ rfl ⟨W.heap.size, 0, none⟩ (by with_unfolding_all rfl) Tryz.isAgg56 Tryz.sizeOf56 (us.set 7 (.int .i64 v.n)) (hZ2.out.loads ((List.length_set ..).trans hln.out)) ?_) | (with_reducible refine wpList_store_agg rfl 56 _ _ rfl rfl (W.heap.size + 1 + 1) (by with_unfolding_all rfl) Tryz.sizeOf56 (us.set 7 (.int .i64 v.n)) (by with_unfolding_all rfl) ((List.length_set ..).trans hln.out) hY2 rfl (lone_set hlone.out rfl) ?_))
   refine bodyPost_ret (results_agg_one rfl rfl Tryz.isAgg56 Tryz.sizeOf56 (hY2.put _) ((List.length_set ..).trans hln.out)) rfl ?_
   exact ⟨_, rfl, ⟨_, by rw [hvs.out]; rfl, q_needs⟩, below_setRow (hL.setCell (Nat.le_refl _) _) (by omega) _⟩
end

end Go.Proofs.YtnjcdmjaecgblaaGreatDoor
