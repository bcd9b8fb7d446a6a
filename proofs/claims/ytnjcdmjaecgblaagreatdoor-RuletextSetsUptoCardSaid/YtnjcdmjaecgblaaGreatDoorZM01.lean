/-
  What the reference of ruletext answers: an element with another value of a field; A slice of texts in a block of texts; What the reference of ruletext answers: names of a list.
-/
import Derived.Test.YtnjcdmjaecgblaaGreatDoorZE00
import Derived.Test.YtnjcdmjaecgblaaGreatDoorZM00
namespace Go.Proofs.YtnjcdmjaecgblaaGreatDoor
section
open Go.RowKit Go.Lib
theorem lone_set {us : List Value} {j : Nat} {x : Value} (h : ∀ v ∈ us, v.oneCell' = true) (hx : x.oneCell' = true) : ∀ v ∈ us.set j x, v.oneCell' = true := fun v hv => by
 rcases List.mem_or_eq_of_mem_set hv with q | q
 · exact h v q
 · rw [q]; exact hx
def withUnitPost (u : U9) (V0 w : World) (e : Ending) (w' : World) : Prop := ∃ vs, e = .returned (.agg vs.toArray) ∧ UL V0 vs u ∧ Below w.heap.size w w'
def withWeaponPost (u : W9) (_V0 w : World) (e : Ending) (w' : World) : Prop := ∃ vs, e = .returned (.agg vs.toArray) ∧ WL vs u ∧ Below w.heap.size w w'
def withTechPost (u : T9) (V0 w : World) (e : Ending) (w' : World) : Prop := ∃ vs, e = .returned (.agg vs.toArray) ∧ TL V0 vs u ∧ Below w.heap.size w w'
set_option maxHeartbeats 8000000 in
set_option maxRecDepth 100000 in
theorem r10wiW_b (u : W9) (us vs : List Value) (v : V10) (f : ByteArray) (V0 W : World) (hU : WL us u) (hV : VL V0 vs v) (hf : f ∈ fieldsv 2) : Calls Tryz.prog 37 #[.agg us.toArray, .string f, .agg vs.toArray] W (withWeaponPost (withWv u f v) V0 W) := by
 obtain ⟨sl, rfl, hs⟩ := hV
 obtain ⟨pl, cl, rfl, -⟩ := id hs
 have hZ := ((Blk.new W us 51).alloc (.cells [.int .i64 v.n, .bool v.b, .string v.s, .slice pl v.l.length cl].toArray 72)).alloc (.cells wZero.toArray 51)
 have hX := ((Blk.new (W.alloc (.cells us.toArray 51)) [.int .i64 v.n, .bool v.b, .string v.s, .slice pl v.l.length cl] 72).at (World.size_alloc _ _)).alloc (.cells wZero.toArray 51)
 have hY := (Blk.new ((W.alloc (.cells us.toArray 51)).alloc (.cells [.int .i64 v.n, .bool v.b, .string v.s, .slice pl v.l.length cl].toArray 72)) wZero 51).at (c := W.heap.size + 1 + 1) (by simp)
 have hL := (((Below.refl W.heap.size W).alloc (Nat.le_refl _) (.cells us.toArray 51)).alloc (by simp) (.cells [.int .i64 v.n, .bool v.b, .string v.s, .slice pl v.l.length cl].toArray 72)).alloc (by simp; omega) (.cells wZero.toArray 51)
 have hln := hU.len
 have hlone := hU.lone
 have hvs := hU
 replace hvs := hid hvs
 replace hln := hid hln
 replace hlone := hid hlone
 rw [fieldsW] at hf
 simp only [List.mem_cons, List.not_mem_nil, or_false] at hf
 rcases hf with rfl | rfl | rfl | rfl | rfl
 · have kz := (hZ.cell 1).trans (show us[1]? = some (.int .i64 u.rng) by rw [hvs.out]; rfl)
   have fz := hZ.frozen 1
   have kx := hX.cell 0
   simp only [List.getElem?_cons_zero] at kx
   go_enter Tryz.func37, Tryz.ntmps37
   go_upto_region 1 with (with_reducible refine wpList_alloc_agg rfl 51 rfl _ rfl wZero zeroW ?_)
   generalize (((W.alloc (.cells us.toArray 51)).alloc (.cells [.int .i64 v.n, .bool v.b, .string v.s, .slice pl v.l.length cl].toArray 72)).alloc (.cells wZero.toArray 51)) = V at *
   have hZ2 := hid (hZ.set 1 (.int .i64 v.n))
   have hY2 := (hY.far (c := W.heap.size) (i := 1) (.int .i64 v.n) (by omega))
   go_wp2_with (first | (with_reducible refine wpList_load_agg rfl 51 _ rfl ⟨W.heap.size, 0, none⟩ (by with_unfolding_all rfl) Tryz.isAgg51 Tryz.sizeOf51 (us.set 1 (.int .i64 v.n)) (hZ2.out.loads ((List.length_set ..).trans hln.out)) ?_) | (with_reducible refine wpList_store_agg rfl 51 _ _ rfl rfl (W.heap.size + 1 + 1) (by with_unfolding_all rfl) Tryz.sizeOf51 (us.set 1 (.int .i64 v.n)) (by with_unfolding_all rfl) ((List.length_set ..).trans hln.out) hY2 rfl (lone_set hlone.out rfl) ?_))
   refine bodyPost_ret (results_agg_one rfl rfl Tryz.isAgg51 Tryz.sizeOf51 (hY2.put _) ((List.length_set ..).trans hln.out)) rfl ?_
   exact ⟨_, rfl, (by rw [hvs.out]; rfl), below_setRow (hL.setCell (Nat.le_refl _) _) (by omega) _⟩
 · have kz := (hZ.cell 2).trans (show us[2]? = some (.int .i64 u.dmg) by rw [hvs.out]; rfl)
   have fz := hZ.frozen 2
   have kx := hX.cell 0
   simp only [List.getElem?_cons_zero] at kx
   go_enter Tryz.func37, Tryz.ntmps37
   go_upto_region 1 with (with_reducible refine wpList_alloc_agg rfl 51 rfl _ rfl wZero zeroW ?_)
   generalize (((W.alloc (.cells us.toArray 51)).alloc (.cells [.int .i64 v.n, .bool v.b, .string v.s, .slice pl v.l.length cl].toArray 72)).alloc (.cells wZero.toArray 51)) = V at *
   have hZ2 := hid (hZ.set 2 (.int .i64 v.n))
   have hY2 := (hY.far (c := W.heap.size) (i := 2) (.int .i64 v.n) (by omega))
   go_wp2_with (first | (with_reducible refine wpList_load_agg rfl 51 _ rfl ⟨W.heap.size, 0, none⟩ (by with_unfolding_all rfl) Tryz.isAgg51 Tryz.sizeOf51 (us.set 2 (.int .i64 v.n)) (hZ2.out.loads ((List.length_set ..).trans hln.out)) ?_) | (with_reducible refine wpList_store_agg rfl 51 _ _ rfl rfl (W.heap.size + 1 + 1) (by with_unfolding_all rfl) Tryz.sizeOf51 (us.set 2 (.int .i64 v.n)) (by with_unfolding_all rfl) ((List.length_set ..).trans hln.out) hY2 rfl (lone_set hlone.out rfl) ?_))
   refine bodyPost_ret (results_agg_one rfl rfl Tryz.isAgg51 Tryz.sizeOf51 (hY2.put _) ((List.length_set ..).trans hln.out)) rfl ?_
   exact ⟨_, rfl, (by rw [hvs.out]; rfl), below_setRow (hL.setCell (Nat.le_refl _) _) (by omega) _⟩
 · have kz := (hZ.cell 3).trans (show us[3]? = some (.int .i64 u.cool) by rw [hvs.out]; rfl)
   have fz := hZ.frozen 3
   have kx := hX.cell 0
   simp only [List.getElem?_cons_zero] at kx
   go_enter Tryz.func37, Tryz.ntmps37
   go_upto_region 1 with (with_reducible refine wpList_alloc_agg rfl 51 rfl _ rfl wZero zeroW ?_)
   generalize (((W.alloc (.cells us.toArray 51)).alloc (.cells [.int .i64 v.n, .bool v.b, .string v.s, .slice pl v.l.length cl].toArray 72)).alloc (.cells wZero.toArray 51)) = V at *
   have hZ2 := hid (hZ.set 3 (.int .i64 v.n))
   have hY2 := (hY.far (c := W.heap.size) (i := 3) (.int .i64 v.n) (by omega))
   go_wp2_with (first | (with_reducible refine wpList_load_agg rfl 51 _ rfl ⟨W.heap.size, 0, none⟩ (by with_unfolding_all rfl) Tryz.isAgg51 Tryz.sizeOf51 (us.set 3 (.int .i64 v.n)) (hZ2.out.loads ((List.length_set ..).trans hln.out)) ?_) | (with_reducible refine wpList_store_agg rfl 51 _ _ rfl rfl (W.heap.size + 1 + 1) (by with_unfolding_all rfl) Tryz.sizeOf51 (us.set 3 (.int .i64 v.n)) (by with_unfolding_all rfl) ((List.length_set ..).trans hln.out) hY2 rfl (lone_set hlone.out rfl) ?_))
   refine bodyPost_ret (results_agg_one rfl rfl Tryz.isAgg51 Tryz.sizeOf51 (hY2.put _) ((List.length_set ..).trans hln.out)) rfl ?_
   exact ⟨_, rfl, (by rw [hvs.out]; rfl), below_setRow (hL.setCell (Nat.le_refl _) _) (by omega) _⟩
 · have kz := (hZ.cell 4).trans (show us[4]? = some (.int .i64 u.spd) by rw [hvs.out]; rfl)
   have fz := hZ.frozen 4
   have kx := hX.cell 0
   simp only [List.getElem?_cons_zero] at kx
   go_enter Tryz.func37, Tryz.ntmps37
   go_upto_region 1 with (with_reducible refine wpList_alloc_agg rfl 51 rfl _ rfl wZero zeroW ?_)
   generalize (((W.alloc (.cells us.toArray 51)).alloc (.cells [.int .i64 v.n, .bool v.b, .string v.s, .slice pl v.l.length cl].toArray 72)).alloc (.cells wZero.toArray 51)) = V at *
   have hZ2 := hid (hZ.set 4 (.int .i64 v.n))
   have hY2 := (hY.far (c := W.heap.size) (i := 4) (.int .i64 v.n) (by omega))
   go_wp2_with (first | (with_reducible refine wpList_load_agg rfl 51 _ rfl ⟨W.heap.size, 0, none⟩ (by with_unfolding_all rfl) Tryz.isAgg51 Tryz.sizeOf51 (us.set 4 (.int .i64 v.n)) (hZ2.out.loads ((List.length_set ..).trans hln.out)) ?_) | (with_reducible refine wpList_store_agg rfl 51 _ _ rfl rfl (W.heap.size + 1 + 1) (by with_unfolding_all rfl) Tryz.sizeOf51 (us.set 4 (.int .i64 v.n)) (by with_unfolding_all rfl) ((List.length_set ..).trans hln.out) hY2 rfl (lone_set hlone.out rfl) ?_))
   refine bodyPost_ret (results_agg_one rfl rfl Tryz.isAgg51 Tryz.sizeOf51 (hY2.put _) ((List.length_set ..).trans hln.out)) rfl ?_
   exact ⟨_, rfl, (by rw [hvs.out]; rfl), below_setRow (hL.setCell (Nat.le_refl _) _) (by omega) _⟩
 · have kz := (hZ.cell 5).trans (show us[5]? = some (.int .i64 u.spl) by rw [hvs.out]; rfl)
   have fz := hZ.frozen 5
   have kx := hX.cell 0
   simp only [List.getElem?_cons_zero] at kx
   go_enter Tryz.func37, Tryz.ntmps37
   go_upto_region 1 with (with_reducible refine wpList_alloc_agg rfl 51 rfl _ rfl wZero zeroW ?_)
   generalize (((W.alloc (.cells us.toArray 51)).alloc (.cells [.int .i64 v.n, .bool v.b, .string v.s, .slice pl v.l.length cl].toArray 72)).alloc (.cells wZero.toArray 51)) = V at *
   have hZ2 := hid (hZ.set 5 (.int .i64 v.n))
   have hY2 := (hY.far (c := W.heap.size) (i := 5) (.int .i64 v.n) (by omega))
   go_wp2_with (first | (with_reducible refine wpList_load_agg rfl 51 _ rfl ⟨W.heap.size, 0, none⟩ (by with_unfolding_all rfl) Tryz.isAgg51 Tryz.sizeOf51 (us.set 5 (.int .i64 v.n)) (hZ2.out.loads ((List.length_set ..).trans hln.out)) ?_) | (with_reducible refine wpList_store_agg rfl 51 _ _ rfl rfl (W.heap.size + 1 + 1) (by with_unfolding_all rfl) Tryz.sizeOf51 (us.set 5 (.int .i64 v.n)) (by with_unfolding_all rfl) ((List.length_set ..).trans hln.out) hY2 rfl (lone_set hlone.out rfl) ?_))
   refine bodyPost_ret (results_agg_one rfl rfl Tryz.isAgg51 Tryz.sizeOf51 (hY2.put _) ((List.length_set ..).trans hln.out)) rfl ?_
   exact ⟨_, rfl, (by rw [hvs.out]; rfl), below_setRow (hL.setCell (Nat.le_refl _) _) (by omega) _⟩
set_option maxHeartbeats 8000000 in
set_option maxRecDepth 100000 in
theorem r10wiU_b (u : U9) (us vs : List Value) (v : V10) (f : ByteArray) (V0 W : World) (hU : UL V0 us u) (hV : VL V0 vs v) (hf : f ∈ fieldsv 1) : Calls Tryz.prog 36 #[.agg us.toArray, .string f, .agg vs.toArray] W (withUnitPost (withUv u f v) V0 W) := by
 obtain ⟨sl, rfl, hs⟩ := hV
 obtain ⟨pl, cl, rfl, -⟩ := id hs
 have hZ := ((Blk.new W us 53).alloc (.cells [.int .i64 v.n, .bool v.b, .string v.s, .slice pl v.l.length cl].toArray 72)).alloc (.cells uZero.toArray 53)
 have hX := ((Blk.new (W.alloc (.cells us.toArray 53)) [.int .i64 v.n, .bool v.b, .string v.s, .slice pl v.l.length cl] 72).at (World.size_alloc _ _)).alloc (.cells uZero.toArray 53)
 have hY := (Blk.new ((W.alloc (.cells us.toArray 53)).alloc (.cells [.int .i64 v.n, .bool v.b, .string v.s, .slice pl v.l.length cl].toArray 72)) uZero 53).at (c := W.heap.size + 1 + 1) (by simp)
 have hL := (((Below.refl W.heap.size W).alloc (Nat.le_refl _) (.cells us.toArray 53)).alloc (by simp) (.cells [.int .i64 v.n, .bool v.b, .string v.s, .slice pl v.l.length cl].toArray 72)).alloc (by simp; omega) (.cells uZero.toArray 53)
 have hln := hU.len
 have hlone := hU.lone
 obtain ⟨sn, st, sr, hvs, q_needs, q_trains, q_ress⟩ := hU
 obtain ⟨pn, cn, rfl, -⟩ := id q_needs
 obtain ⟨pt, ct, rfl, -⟩ := id q_trains
 obtain ⟨pr, cr, rfl, -⟩ := id q_ress
 replace hvs := hid hvs
 replace hln := hid hln
 replace hlone := hid hlone
 rw [fieldsU] at hf
 simp only [List.mem_cons, List.not_mem_nil, or_false] at hf
 rcases hf with rfl | rfl | rfl | rfl | rfl | rfl | rfl | rfl | rfl | rfl | rfl | rfl | rfl | rfl | rfl | rfl | rfl | rfl
 · have kz := (hZ.cell 1).trans (show us[1]? = some (.bool u.bld) by rw [hvs.out]; rfl)
   have fz := hZ.frozen 1
   have kx := hX.cell 1
   simp only [List.getElem?_cons_zero, List.getElem?_cons_succ] at kx
   go_enter Tryz.func36, Tryz.ntmps36
   go_upto_region 1 with (with_reducible refine wpList_alloc_agg rfl 53 rfl _ rfl uZero zeroU ?_)
   generalize (((W.alloc (.cells us.toArray 53)).alloc (.cells [.int .i64 v.n, .bool v.b, .string v.s, .slice pl v.l.length cl].toArray 72)).alloc (.cells uZero.toArray 53)) = V at *
   have hZ2 := hid (hZ.set 1 (.bool v.b))
   have hY2 := (hY.far (c := W.heap.size) (i := 1) (.bool v.b) (by omega))
   go_wp2_with (first | (with_reducible refine wpList_load_agg rfl 53 _ rfl ⟨W.heap.size, 0, none⟩ (by with_unfolding_all rfl) Tryz.isAgg53 Tryz.sizeOf53 (us.set 1 (.bool v.b)) (hZ2.out.loads ((List.length_set ..).trans hln.out)) ?_) | (with_reducible refine wpList_store_agg rfl 53 _ _ rfl rfl (W.heap.size + 1 + 1) (by with_unfolding_all rfl) Tryz.sizeOf53 (us.set 1 (.bool v.b)) (by with_unfolding_all rfl) ((List.length_set ..).trans hln.out) hY2 rfl (lone_set hlone.out rfl) ?_))
   refine bodyPost_ret (results_agg_one rfl rfl Tryz.isAgg53 Tryz.sizeOf53 (hY2.put _) ((List.length_set ..).trans hln.out)) rfl ?_
   exact ⟨_, rfl, ⟨_, _, _, by rw [hvs.out]; rfl, q_needs, q_trains, q_ress⟩, below_setRow (hL.setCell (Nat.le_refl _) _) (by omega) _⟩
 · have kz := (hZ.cell 2).trans (show us[2]? = some (.bool u.dep) by rw [hvs.out]; rfl)
   have fz := hZ.frozen 2
   have kx := hX.cell 1
   simp only [List.getElem?_cons_zero, List.getElem?_cons_succ] at kx
   go_enter Tryz.func36, Tryz.ntmps36
   go_upto_region 1 with (with_reducible refine wpList_alloc_agg rfl 53 rfl _ rfl uZero zeroU ?_)
   generalize (((W.alloc (.cells us.toArray 53)).alloc (.cells [.int .i64 v.n, .bool v.b, .string v.s, .slice pl v.l.length cl].toArray 72)).alloc (.cells uZero.toArray 53)) = V at *
   have hZ2 := hid (hZ.set 2 (.bool v.b))
   have hY2 := (hY.far (c := W.heap.size) (i := 2) (.bool v.b) (by omega))
   go_wp2_with (first | (with_reducible refine wpList_load_agg rfl 53 _ rfl ⟨W.heap.size, 0, none⟩ (by with_unfolding_all rfl) Tryz.isAgg53 Tryz.sizeOf53 (us.set 2 (.bool v.b)) (hZ2.out.loads ((List.length_set ..).trans hln.out)) ?_) | (with_reducible refine wpList_store_agg rfl 53 _ _ rfl rfl (W.heap.size + 1 + 1) (by with_unfolding_all rfl) Tryz.sizeOf53 (us.set 2 (.bool v.b)) (by with_unfolding_all rfl) ((List.length_set ..).trans hln.out) hY2 rfl (lone_set hlone.out rfl) ?_))
   refine bodyPost_ret (results_agg_one rfl rfl Tryz.isAgg53 Tryz.sizeOf53 (hY2.put _) ((List.length_set ..).trans hln.out)) rfl ?_
   exact ⟨_, rfl, ⟨_, _, _, by rw [hvs.out]; rfl, q_needs, q_trains, q_ress⟩, below_setRow (hL.setCell (Nat.le_refl _) _) (by omega) _⟩
 · have kz := (hZ.cell 3).trans (show us[3]? = some (.int .i64 u.cls) by rw [hvs.out]; rfl)
   have fz := hZ.frozen 3
   have kx := hX.cell 0
   simp only [List.getElem?_cons_zero] at kx
   go_enter Tryz.func36, Tryz.ntmps36
   go_upto_region 1 with (with_reducible refine wpList_alloc_agg rfl 53 rfl _ rfl uZero zeroU ?_)
   generalize (((W.alloc (.cells us.toArray 53)).alloc (.cells [.int .i64 v.n, .bool v.b, .string v.s, .slice pl v.l.length cl].toArray 72)).alloc (.cells uZero.toArray 53)) = V at *
   have hZ2 := hid (hZ.set 3 (.int .i64 v.n))
   have hY2 := (hY.far (c := W.heap.size) (i := 3) (.int .i64 v.n) (by omega))
   go_wp2_with (first | (with_reducible refine wpList_load_agg rfl 53 _ rfl ⟨W.heap.size, 0, none⟩ (by with_unfolding_all rfl) Tryz.isAgg53 Tryz.sizeOf53 (us.set 3 (.int .i64 v.n)) (hZ2.out.loads ((List.length_set ..).trans hln.out)) ?_) | (with_reducible refine wpList_store_agg rfl 53 _ _ rfl rfl (W.heap.size + 1 + 1) (by with_unfolding_all rfl) Tryz.sizeOf53 (us.set 3 (.int .i64 v.n)) (by with_unfolding_all rfl) ((List.length_set ..).trans hln.out) hY2 rfl (lone_set hlone.out rfl) ?_))
   refine bodyPost_ret (results_agg_one rfl rfl Tryz.isAgg53 Tryz.sizeOf53 (hY2.put _) ((List.length_set ..).trans hln.out)) rfl ?_
   exact ⟨_, rfl, ⟨_, _, _, by rw [hvs.out]; rfl, q_needs, q_trains, q_ress⟩, below_setRow (hL.setCell (Nat.le_refl _) _) (by omega) _⟩
 · have kz := (hZ.cell 4).trans (show us[4]? = some (.int .i64 u.w) by rw [hvs.out]; rfl)
   have fz := hZ.frozen 4
   have kx := hX.cell 0
   simp only [List.getElem?_cons_zero] at kx
   go_enter Tryz.func36, Tryz.ntmps36
   go_upto_region 1 with (with_reducible refine wpList_alloc_agg rfl 53 rfl _ rfl uZero zeroU ?_)
   generalize (((W.alloc (.cells us.toArray 53)).alloc (.cells [.int .i64 v.n, .bool v.b, .string v.s, .slice pl v.l.length cl].toArray 72)).alloc (.cells uZero.toArray 53)) = V at *
   have hZ2 := hid (hZ.set 4 (.int .i64 v.n))
   have hY2 := (hY.far (c := W.heap.size) (i := 4) (.int .i64 v.n) (by omega))
   go_wp2_with (first | (with_reducible refine wpList_load_agg rfl 53 _ rfl ⟨W.heap.size, 0, none⟩ (by with_unfolding_all rfl) Tryz.isAgg53 Tryz.sizeOf53 (us.set 4 (.int .i64 v.n)) (hZ2.out.loads ((List.length_set ..).trans hln.out)) ?_) | (with_reducible refine wpList_store_agg rfl 53 _ _ rfl rfl (W.heap.size + 1 + 1) (by with_unfolding_all rfl) Tryz.sizeOf53 (us.set 4 (.int .i64 v.n)) (by with_unfolding_all rfl) ((List.length_set ..).trans hln.out) hY2 rfl (lone_set hlone.out rfl) ?_))
   refine bodyPost_ret (results_agg_one rfl rfl Tryz.isAgg53 Tryz.sizeOf53 (hY2.put _) ((List.length_set ..).trans hln.out)) rfl ?_
   exact ⟨_, rfl, ⟨_, _, _, by rw [hvs.out]; rfl, q_needs, q_trains, q_ress⟩, below_setRow (hL.setCell (Nat.le_refl _) _) (by omega) _⟩
 · have kz := (hZ.cell 5).trans (show us[5]? = some (.int .i64 u.h) by rw [hvs.out]; rfl)
   have fz := hZ.frozen 5
   have kx := hX.cell 0
   simp only [List.getElem?_cons_zero] at kx
   go_enter Tryz.func36, Tryz.ntmps36
   go_upto_region 1 with (with_reducible refine wpList_alloc_agg rfl 53 rfl _ rfl uZero zeroU ?_)
   generalize (((W.alloc (.cells us.toArray 53)).alloc (.cells [.int .i64 v.n, .bool v.b, .string v.s, .slice pl v.l.length cl].toArray 72)).alloc (.cells uZero.toArray 53)) = V at *
   have hZ2 := hid (hZ.set 5 (.int .i64 v.n))
   have hY2 := (hY.far (c := W.heap.size) (i := 5) (.int .i64 v.n) (by omega))
   go_wp2_with (first | (with_reducible refine wpList_load_agg rfl 53 _ rfl ⟨W.heap.size, 0, none⟩ (by with_unfolding_all rfl) Tryz.isAgg53 Tryz.sizeOf53 (us.set 5 (.int .i64 v.n)) (hZ2.out.loads ((List.length_set ..).trans hln.out)) ?_) | (with_reducible refine wpList_store_agg rfl 53 _ _ rfl rfl (W.heap.size + 1 + 1) (by with_unfolding_all rfl) Tryz.sizeOf53 (us.set 5 (.int .i64 v.n)) (by with_unfolding_all rfl) ((List.length_set ..).trans hln.out) hY2 rfl (lone_set hlone.out rfl) ?_))
   refine bodyPost_ret (results_agg_one rfl rfl Tryz.isAgg53 Tryz.sizeOf53 (hY2.put _) ((List.length_set ..).trans hln.out)) rfl ?_
   exact ⟨_, rfl, ⟨_, _, _, by rw [hvs.out]; rfl, q_needs, q_trains, q_ress⟩, below_setRow (hL.setCell (Nat.le_refl _) _) (by omega) _⟩
 · have kz := (hZ.cell 6).trans (show us[6]? = some (.int .i64 u.rad) by rw [hvs.out]; rfl)
   have fz := hZ.frozen 6
   have kx := hX.cell 0
   simp only [List.getElem?_cons_zero] at kx
   go_enter Tryz.func36, Tryz.ntmps36
   go_upto_region 1 with (with_reducible refine wpList_alloc_agg rfl 53 rfl _ rfl uZero zeroU ?_)
   generalize (((W.alloc (.cells us.toArray 53)).alloc (.cells [.int .i64 v.n, .bool v.b, .string v.s, .slice pl v.l.length cl].toArray 72)).alloc (.cells uZero.toArray 53)) = V at *
   have hZ2 := hid (hZ.set 6 (.int .i64 v.n))
   have hY2 := (hY.far (c := W.heap.size) (i := 6) (.int .i64 v.n) (by omega))
   go_wp2_with (first | (with_reducible refine wpList_load_agg rfl 53 _ rfl ⟨W.heap.size, 0, none⟩ (by with_unfolding_all rfl) Tryz.isAgg53 Tryz.sizeOf53 (us.set 6 (.int .i64 v.n)) (hZ2.out.loads ((List.length_set ..).trans hln.out)) ?_) | (with_reducible refine wpList_store_agg rfl 53 _ _ rfl rfl (W.heap.size + 1 + 1) (by with_unfolding_all rfl) Tryz.sizeOf53 (us.set 6 (.int .i64 v.n)) (by with_unfolding_all rfl) ((List.length_set ..).trans hln.out) hY2 rfl (lone_set hlone.out rfl) ?_))
   refine bodyPost_ret (results_agg_one rfl rfl Tryz.isAgg53 Tryz.sizeOf53 (hY2.put _) ((List.length_set ..).trans hln.out)) rfl ?_
   exact ⟨_, rfl, ⟨_, _, _, by rw [hvs.out]; rfl, q_needs, q_trains, q_ress⟩, below_setRow (hL.setCell (Nat.le_refl _) _) (by omega) _⟩
 · have kz := (hZ.cell 7).trans (show us[7]? = some (.int .i64 u.spd) by rw [hvs.out]; rfl)
   have fz := hZ.frozen 7
   have kx := hX.cell 0
   simp only [List.getElem?_cons_zero] at kx
   go_enter Tryz.func36, Tryz.ntmps36
   go_upto_region 1 with (with_reducible refine wpList_alloc_agg rfl 53 rfl _ rfl uZero zeroU ?_)
   generalize (((W.alloc (.cells us.toArray 53)).alloc (.cells [.int .i64 v.n, .bool v.b, .string v.s, .slice pl v.l.length cl].toArray 72)).alloc (.cells uZero.toArray 53)) = V at *
   have hZ2 := hid (hZ.set 7 (.int .i64 v.n))
   have hY2 := (hY.far (c := W.heap.size) (i := 7) (.int .i64 v.n) (by omega))
   go_wp2_with (first | (with_reducible refine wpList_load_agg rfl 53 _ rfl ⟨W.heap.size, 0, none⟩ (by with_unfolding_all rfl) Tryz.isAgg53 Tryz.sizeOf53 (us.set 7 (.int .i64 v.n)) (hZ2.out.loads ((List.length_set ..).trans hln.out)) ?_) | (with_reducible refine wpList_store_agg rfl 53 _ _ rfl rfl (W.heap.size + 1 + 1) (by with_unfolding_all rfl) Tryz.sizeOf53 (us.set 7 (.int .i64 v.n)) (by with_unfolding_all rfl) ((List.length_set ..).trans hln.out) hY2 rfl (lone_set hlone.out rfl) ?_))
   refine bodyPost_ret (results_agg_one rfl rfl Tryz.isAgg53 Tryz.sizeOf53 (hY2.put _) ((List.length_set ..).trans hln.out)) rfl ?_
   exact ⟨_, rfl, ⟨_, _, _, by rw [hvs.out]; rfl, q_needs, q_trains, q_ress⟩, below_setRow (hL.setCell (Nat.le_refl _) _) (by omega) _⟩
 · have kz := (hZ.cell 8).trans (show us[8]? = some (.int .i64 u.sgt) by rw [hvs.out]; rfl)
   have fz := hZ.frozen 8
   have kx := hX.cell 0
   simp only [List.getElem?_cons_zero] at kx
   go_enter Tryz.func36, Tryz.ntmps36
   go_upto_region 1 with (with_reducible refine wpList_alloc_agg rfl 53 rfl _ rfl uZero zeroU ?_)
   generalize (((W.alloc (.cells us.toArray 53)).alloc (.cells [.int .i64 v.n, .bool v.b, .string v.s, .slice pl v.l.length cl].toArray 72)).alloc (.cells uZero.toArray 53)) = V at *
   have hZ2 := hid (hZ.set 8 (.int .i64 v.n))
   have hY2 := (hY.far (c := W.heap.size) (i := 8) (.int .i64 v.n) (by omega))
   go_wp2_with (first | (with_reducible refine wpList_load_agg rfl 53 _ rfl ⟨W.heap.size, 0, none⟩ (by with_unfolding_all rfl) Tryz.isAgg53 Tryz.sizeOf53 (us.set 8 (.int .i64 v.n)) (hZ2.out.loads ((List.length_set ..).trans hln.out)) ?_) | (with_reducible refine wpList_store_agg rfl 53 _ _ rfl rfl (W.heap.size + 1 + 1) (by with_unfolding_all rfl) Tryz.sizeOf53 (us.set 8 (.int .i64 v.n)) (by with_unfolding_all rfl) ((List.length_set ..).trans hln.out) hY2 rfl (lone_set hlone.out rfl) ?_))
   refine bodyPost_ret (results_agg_one rfl rfl Tryz.isAgg53 Tryz.sizeOf53 (hY2.put _) ((List.length_set ..).trans hln.out)) rfl ?_
   exact ⟨_, rfl, ⟨_, _, _, by rw [hvs.out]; rfl, q_needs, q_trains, q_ress⟩, below_setRow (hL.setCell (Nat.le_refl _) _) (by omega) _⟩
 · have kz := (hZ.cell 9).trans (show us[9]? = some (.int .i64 u.hp) by rw [hvs.out]; rfl)
   have fz := hZ.frozen 9
   have kx := hX.cell 0
   simp only [List.getElem?_cons_zero] at kx
   go_enter Tryz.func36, Tryz.ntmps36
   go_upto_region 1 with (with_reducible refine wpList_alloc_agg rfl 53 rfl _ rfl uZero zeroU ?_)
   generalize (((W.alloc (.cells us.toArray 53)).alloc (.cells [.int .i64 v.n, .bool v.b, .string v.s, .slice pl v.l.length cl].toArray 72)).alloc (.cells uZero.toArray 53)) = V at *
   have hZ2 := hid (hZ.set 9 (.int .i64 v.n))
   have hY2 := (hY.far (c := W.heap.size) (i := 9) (.int .i64 v.n) (by omega))
   go_wp2_with (first | (with_reducible refine wpList_load_agg rfl 53 _ rfl ⟨W.heap.size, 0, none⟩ (by with_unfolding_all rfl) Tryz.isAgg53 Tryz.sizeOf53 (us.set 9 (.int .i64 v.n)) (hZ2.out.loads ((List.length_set ..).trans hln.out)) ?_) | (with_reducible refine wpList_store_agg rfl 53 _ _ rfl rfl (W.heap.size + 1 + 1) (by with_unfolding_all rfl) Tryz.sizeOf53 (us.set 9 (.int .i64 v.n)) (by with_unfolding_all rfl) ((List.length_set ..).trans hln.out) hY2 rfl (lone_set hlone.out rfl) ?_))
   refine bodyPost_ret (results_agg_one rfl rfl Tryz.isAgg53 Tryz.sizeOf53 (hY2.put _) ((List.length_set ..).trans hln.out)) rfl ?_
   exact ⟨_, rfl, ⟨_, _, _, by rw [hvs.out]; rfl, q_needs, q_trains, q_ress⟩, below_setRow (hL.setCell (Nat.le_refl _) _) (by omega) _⟩
 · have kz := (hZ.cell 10).trans (show us[10]? = some (.int .i64 u.arm) by rw [hvs.out]; rfl)
   have fz := hZ.frozen 10
   have kx := hX.cell 0
   simp only [List.getElem?_cons_zero] at kx
   go_enter Tryz.func36, Tryz.ntmps36
   go_upto_region 1 with (with_reducible refine wpList_alloc_agg rfl 53 rfl _ rfl uZero zeroU ?_)
   generalize (((W.alloc (.cells us.toArray 53)).alloc (.cells [.int .i64 v.n, .bool v.b, .string v.s, .slice pl v.l.length cl].toArray 72)).alloc (.cells uZero.toArray 53)) = V at *
   have hZ2 := hid (hZ.set 10 (.int .i64 v.n))
   have hY2 := (hY.far (c := W.heap.size) (i := 10) (.int .i64 v.n) (by omega))
   go_wp2_with (first | (with_reducible refine wpList_load_agg rfl 53 _ rfl ⟨W.heap.size, 0, none⟩ (by with_unfolding_all rfl) Tryz.isAgg53 Tryz.sizeOf53 (us.set 10 (.int .i64 v.n)) (hZ2.out.loads ((List.length_set ..).trans hln.out)) ?_) | (with_reducible refine wpList_store_agg rfl 53 _ _ rfl rfl (W.heap.size + 1 + 1) (by with_unfolding_all rfl) Tryz.sizeOf53 (us.set 10 (.int .i64 v.n)) (by with_unfolding_all rfl) ((List.length_set ..).trans hln.out) hY2 rfl (lone_set hlone.out rfl) ?_))
   refine bodyPost_ret (results_agg_one rfl rfl Tryz.isAgg53 Tryz.sizeOf53 (hY2.put _) ((List.length_set ..).trans hln.out)) rfl ?_
   exact ⟨_, rfl, ⟨_, _, _, by rw [hvs.out]; rfl, q_needs, q_trains, q_ress⟩, below_setRow (hL.setCell (Nat.le_refl _) _) (by omega) _⟩
 · have kz := (hZ.cell 11).trans (show us[11]? = some (.int .i64 u.load) by rw [hvs.out]; rfl)
   have fz := hZ.frozen 11
   have kx := hX.cell 0
   simp only [List.getElem?_cons_zero] at kx
   go_enter Tryz.func36, Tryz.ntmps36
   go_upto_region 1 with (with_reducible refine wpList_alloc_agg rfl 53 rfl _ rfl uZero zeroU ?_)
   generalize (((W.alloc (.cells us.toArray 53)).alloc (.cells [.int .i64 v.n, .bool v.b, .string v.s, .slice pl v.l.length cl].toArray 72)).alloc (.cells uZero.toArray 53)) = V at *
   have hZ2 := hid (hZ.set 11 (.int .i64 v.n))
   have hY2 := (hY.far (c := W.heap.size) (i := 11) (.int .i64 v.n) (by omega))
   go_wp2_with (first | (with_reducible refine wpList_load_agg rfl 53 _ rfl ⟨W.heap.size, 0, none⟩ (by with_unfolding_all rfl) Tryz.isAgg53 Tryz.sizeOf53 (us.set 11 (.int .i64 v.n)) (hZ2.out.loads ((List.length_set ..).trans hln.out)) ?_) | (with_reducible refine wpList_store_agg rfl 53 _ _ rfl rfl (W.heap.size + 1 + 1) (by with_unfolding_all rfl) Tryz.sizeOf53 (us.set 11 (.int .i64 v.n)) (by with_unfolding_all rfl) ((List.length_set ..).trans hln.out) hY2 rfl (lone_set hlone.out rfl) ?_))
   refine bodyPost_ret (results_agg_one rfl rfl Tryz.isAgg53 Tryz.sizeOf53 (hY2.put _) ((List.length_set ..).trans hln.out)) rfl ?_
   exact ⟨_, rfl, ⟨_, _, _, by rw [hvs.out]; rfl, q_needs, q_trains, q_ress⟩, below_setRow (hL.setCell (Nat.le_refl _) _) (by omega) _⟩
 · have kz := (hZ.cell 12).trans (show us[12]? = some (.string u.wpn) by rw [hvs.out]; rfl)
   have fz := hZ.frozen 12
   have kx := hX.cell 2
   simp only [List.getElem?_cons_zero, List.getElem?_cons_succ] at kx
   go_enter Tryz.func36, Tryz.ntmps36
   go_upto_region 1 with (with_reducible refine wpList_alloc_agg rfl 53 rfl _ rfl uZero zeroU ?_)
   generalize (((W.alloc (.cells us.toArray 53)).alloc (.cells [.int .i64 v.n, .bool v.b, .string v.s, .slice pl v.l.length cl].toArray 72)).alloc (.cells uZero.toArray 53)) = V at *
   have hZ2 := hid (hZ.set 12 (.string v.s))
   have hY2 := (hY.far (c := W.heap.size) (i := 12) (.string v.s) (by omega))
   go_wp2_with (first | (with_reducible refine wpList_load_agg rfl 53 _ rfl ⟨W.heap.size, 0, none⟩ (by with_unfolding_all rfl) Tryz.isAgg53 Tryz.sizeOf53 (us.set 12 (.string v.s)) (hZ2.out.loads ((List.length_set ..).trans hln.out)) ?_) | (with_reducible refine wpList_store_agg rfl 53 _ _ rfl rfl (W.heap.size + 1 + 1) (by with_unfolding_all rfl) Tryz.sizeOf53 (us.set 12 (.string v.s)) (by with_unfolding_all rfl) ((List.length_set ..).trans hln.out) hY2 rfl (lone_set hlone.out rfl) ?_))
   refine bodyPost_ret (results_agg_one rfl rfl Tryz.isAgg53 Tryz.sizeOf53 (hY2.put _) ((List.length_set ..).trans hln.out)) rfl ?_
   exact ⟨_, rfl, ⟨_, _, _, by rw [hvs.out]; rfl, q_needs, q_trains, q_ress⟩, below_setRow (hL.setCell (Nat.le_refl _) _) (by omega) _⟩
 · have kz := (hZ.cell 13).trans (show us[13]? = some (.int .i64 u.ore) by rw [hvs.out]; rfl)
   have fz := hZ.frozen 13
   have kx := hX.cell 0
   simp only [List.getElem?_cons_zero] at kx
   go_enter Tryz.func36, Tryz.ntmps36
   go_upto_region 1 with (with_reducible refine wpList_alloc_agg rfl 53 rfl _ rfl uZero zeroU ?_)
   generalize (((W.alloc (.cells us.toArray 53)).alloc (.cells [.int .i64 v.n, .bool v.b, .string v.s, .slice pl v.l.length cl].toArray 72)).alloc (.cells uZero.toArray 53)) = V at *
   have hZ2 := hid (hZ.set 13 (.int .i64 v.n))
   have hY2 := (hY.far (c := W.heap.size) (i := 13) (.int .i64 v.n) (by omega))
   go_wp2_with (first | (with_reducible refine wpList_load_agg rfl 53 _ rfl ⟨W.heap.size, 0, none⟩ (by with_unfolding_all rfl) Tryz.isAgg53 Tryz.sizeOf53 (us.set 13 (.int .i64 v.n)) (hZ2.out.loads ((List.length_set ..).trans hln.out)) ?_) | (with_reducible refine wpList_store_agg rfl 53 _ _ rfl rfl (W.heap.size + 1 + 1) (by with_unfolding_all rfl) Tryz.sizeOf53 (us.set 13 (.int .i64 v.n)) (by with_unfolding_all rfl) ((List.length_set ..).trans hln.out) hY2 rfl (lone_set hlone.out rfl) ?_))
   refine bodyPost_ret (results_agg_one rfl rfl Tryz.isAgg53 Tryz.sizeOf53 (hY2.put _) ((List.length_set ..).trans hln.out)) rfl ?_
   exact ⟨_, rfl, ⟨_, _, _, by rw [hvs.out]; rfl, q_needs, q_trains, q_ress⟩, below_setRow (hL.setCell (Nat.le_refl _) _) (by omega) _⟩
 · have kz := (hZ.cell 14).trans (show us[14]? = some (.int .i64 u.wood) by rw [hvs.out]; rfl)
   have fz := hZ.frozen 14
   have kx := hX.cell 0
   simp only [List.getElem?_cons_zero] at kx
   go_enter Tryz.func36, Tryz.ntmps36
   go_upto_region 1 with (with_reducible refine wpList_alloc_agg rfl 53 rfl _ rfl uZero zeroU ?_)
   generalize (((W.alloc (.cells us.toArray 53)).alloc (.cells [.int .i64 v.n, .bool v.b, .string v.s, .slice pl v.l.length cl].toArray 72)).alloc (.cells uZero.toArray 53)) = V at *
   have hZ2 := hid (hZ.set 14 (.int .i64 v.n))
   have hY2 := (hY.far (c := W.heap.size) (i := 14) (.int .i64 v.n) (by omega))
   go_wp2_with (first | (with_reducible refine wpList_load_agg rfl 53 _ rfl ⟨W.heap.size, 0, none⟩ (by with_unfolding_all rfl) Tryz.isAgg53 Tryz.sizeOf53 (us.set 14 (.int .i64 v.n)) (hZ2.out.loads ((List.length_set ..).trans hln.out)) ?_) | (with_reducible refine wpList_store_agg rfl 53 _ _ rfl rfl (W.heap.size + 1 + 1) (by with_unfolding_all rfl) Tryz.sizeOf53 (us.set 14 (.int .i64 v.n)) (by with_unfolding_all rfl) ((List.length_set ..).trans hln.out) hY2 rfl (lone_set hlone.out rfl) ?_))
   refine bodyPost_ret (results_agg_one rfl rfl Tryz.isAgg53 Tryz.sizeOf53 (hY2.put _) ((List.length_set ..).trans hln.out)) rfl ?_
   exact ⟨_, rfl, ⟨_, _, _, by rw [hvs.out]; rfl, q_needs, q_trains, q_ress⟩, below_setRow (hL.setCell (Nat.le_refl _) _) (by omega) _⟩
 · have kz := (hZ.cell 15).trans (show us[15]? = some (.int .i64 u.time) by rw [hvs.out]; rfl)
   have fz := hZ.frozen 15
   have kx := hX.cell 0
   simp only [List.getElem?_cons_zero] at kx
   go_enter Tryz.func36, Tryz.ntmps36
   go_upto_region 1 with (with_reducible refine wpList_alloc_agg rfl 53 rfl _ rfl uZero zeroU ?_)
   generalize (((W.alloc (.cells us.toArray 53)).alloc (.cells [.int .i64 v.n, .bool v.b, .string v.s, .slice pl v.l.length cl].toArray 72)).alloc (.cells uZero.toArray 53)) = V at *
   have hZ2 := hid (hZ.set 15 (.int .i64 v.n))
   have hY2 := (hY.far (c := W.heap.size) (i := 15) (.int .i64 v.n) (by omega))
   go_wp2_with (first | (with_reducible refine wpList_load_agg rfl 53 _ rfl ⟨W.heap.size, 0, none⟩ (by with_unfolding_all rfl) Tryz.isAgg53 Tryz.sizeOf53 (us.set 15 (.int .i64 v.n)) (hZ2.out.loads ((List.length_set ..).trans hln.out)) ?_) | (with_reducible refine wpList_store_agg rfl 53 _ _ rfl rfl (W.heap.size + 1 + 1) (by with_unfolding_all rfl) Tryz.sizeOf53 (us.set 15 (.int .i64 v.n)) (by with_unfolding_all rfl) ((List.length_set ..).trans hln.out) hY2 rfl (lone_set hlone.out rfl) ?_))
   refine bodyPost_ret (results_agg_one rfl rfl Tryz.isAgg53 Tryz.sizeOf53 (hY2.put _) ((List.length_set ..).trans hln.out)) rfl ?_
   exact ⟨_, rfl, ⟨_, _, _, by rw [hvs.out]; rfl, q_needs, q_trains, q_ress⟩, below_setRow (hL.setCell (Nat.le_refl _) _) (by omega) _⟩
 · have kz := (hZ.cell 16).trans (show us[16]? = some (.slice pn u.needs.length cn) by rw [hvs.out]; rfl)
   have fz := hZ.frozen 16
   have kx := hX.cell 3
   simp only [List.getElem?_cons_zero, List.getElem?_cons_succ] at kx
   go_enter Tryz.func36, Tryz.ntmps36
   go_upto_region 1 with (with_reducible refine wpList_alloc_agg rfl 53 rfl _ rfl uZero zeroU ?_)
   generalize (((W.alloc (.cells us.toArray 53)).alloc (.cells [.int .i64 v.n, .bool v.b, .string v.s, .slice pl v.l.length cl].toArray 72)).alloc (.cells uZero.toArray 53)) = V at *
   have hZ2 := hid (hZ.set 16 (.slice pl v.l.length cl))
   have hY2 := (hY.far (c := W.heap.size) (i := 16) (.slice pl v.l.length cl) (by omega))
   go_wp2_with (first | (with_reducible refine wpList_load_agg rfl 53 _ rfl ⟨W.heap.size, 0, none⟩ (by with_unfolding_all rfl) Tryz.isAgg53 Tryz.sizeOf53 (us.set 16 (.slice pl v.l.length cl)) (hZ2.out.loads ((List.length_set ..).trans hln.out)) ?_) | (with_reducible refine wpList_store_agg rfl 53 _ _ rfl rfl (W.heap.size + 1 + 1) (by with_unfolding_all rfl) Tryz.sizeOf53 (us.set 16 (.slice pl v.l.length cl)) (by with_unfolding_all rfl) ((List.length_set ..).trans hln.out) hY2 rfl (lone_set hlone.out rfl) ?_))
   refine bodyPost_ret (results_agg_one rfl rfl Tryz.isAgg53 Tryz.sizeOf53 (hY2.put _) ((List.length_set ..).trans hln.out)) rfl ?_
   exact ⟨_, rfl, ⟨_, _, _, by rw [hvs.out]; rfl, hs, q_trains, q_ress⟩, below_setRow (hL.setCell (Nat.le_refl _) _) (by omega) _⟩
 · have kz := (hZ.cell 17).trans (show us[17]? = some (.slice pt u.trains.length ct) by rw [hvs.out]; rfl)
   have fz := hZ.frozen 17
   have kx := hX.cell 3
   simp only [List.getElem?_cons_zero, List.getElem?_cons_succ] at kx
   go_enter Tryz.func36, Tryz.ntmps36
   go_upto_region 1 with (with_reducible refine wpList_alloc_agg rfl 53 rfl _ rfl uZero zeroU ?_)
   generalize (((W.alloc (.cells us.toArray 53)).alloc (.cells [.int .i64 v.n, .bool v.b, .string v.s, .slice pl v.l.length cl].toArray 72)).alloc (.cells uZero.toArray 53)) = V at *
   have hZ2 := hid (hZ.set 17 (.slice pl v.l.length cl))
   have hY2 := (hY.far (c := W.heap.size) (i := 17) (.slice pl v.l.length cl) (by omega))
   go_wp2_with (first | (with_reducible refine wpList_load_agg rfl 53 _ rfl ⟨W.heap.size, 0, none⟩ (by with_unfolding_all rfl) Tryz.isAgg53 Tryz.sizeOf53 (us.set 17 (.slice pl v.l.length cl)) (hZ2.out.loads ((List.length_set ..).trans hln.out)) ?_) | (with_reducible refine wpList_store_agg rfl 53 _ _ rfl rfl (W.heap.size + 1 + 1) (by with_unfolding_all rfl) Tryz.sizeOf53 (us.set 17 (.slice pl v.l.length cl)) (by with_unfolding_all rfl) ((List.length_set ..).trans hln.out) hY2 rfl (lone_set hlone.out rfl) ?_))
   refine bodyPost_ret (results_agg_one rfl rfl Tryz.isAgg53 Tryz.sizeOf53 (hY2.put _) ((List.length_set ..).trans hln.out)) rfl ?_
   exact ⟨_, rfl, ⟨_, _, _, by rw [hvs.out]; rfl, q_needs, hs, q_ress⟩, below_setRow (hL.setCell (Nat.le_refl _) _) (by omega) _⟩
 · have kz := (hZ.cell 18).trans (show us[18]? = some (.slice pr u.ress.length cr) by rw [hvs.out]; rfl)
   have fz := hZ.frozen 18
   have kx := hX.cell 3
   simp only [List.getElem?_cons_zero, List.getElem?_cons_succ] at kx
   go_enter Tryz.func36, Tryz.ntmps36
   go_upto_region 1 with (with_reducible refine wpList_alloc_agg rfl 53 rfl _ rfl uZero zeroU ?_)
   generalize (((W.alloc (.cells us.toArray 53)).alloc (.cells [.int .i64 v.n, .bool v.b, .string v.s, .slice pl v.l.length cl].toArray 72)).alloc (.cells uZero.toArray 53)) = V at *
   have hZ2 := hid (hZ.set 18 (.slice pl v.l.length cl))
   have hY2 := (hY.far (c := W.heap.size) (i := 18) (.slice pl v.l.length cl) (by omega))
   go_wp2_with (first | (with_reducible refine wpList_load_agg rfl 53 _ rfl ⟨W.heap.size, 0, none⟩ (by with_unfolding_all rfl) Tryz.isAgg53 Tryz.sizeOf53 (us.set 18 (.slice pl v.l.length cl)) (hZ2.out.loads ((List.length_set ..).trans hln.out)) ?_) | (with_reducible refine wpList_store_agg rfl 53 _ _ rfl rfl (W.heap.size + 1 + 1) (by with_unfolding_all rfl) Tryz.sizeOf53 (us.set 18 (.slice pl v.l.length cl)) (by with_unfolding_all rfl) ((List.length_set ..).trans hln.out) hY2 rfl (lone_set hlone.out rfl) ?_))
   refine bodyPost_ret (results_agg_one rfl rfl Tryz.isAgg53 Tryz.sizeOf53 (hY2.put _) ((List.length_set ..).trans hln.out)) rfl ?_
   exact ⟨_, rfl, ⟨_, _, _, by rw [hvs.out]; rfl, q_needs, q_trains, hs⟩, below_setRow (hL.setCell (Nat.le_refl _) _) (by omega) _⟩
set_option maxHeartbeats 8000000 in
set_option maxRecDepth 100000 in
theorem r10wiT_b (u : T9) (us vs : List Value) (v : V10) (f : ByteArray) (V0 W : World) (hU : TL V0 us u) (hV : VL V0 vs v) (hf : f ∈ fieldsv 3) : Calls Tryz.prog 38 #[.agg us.toArray, .string f, .agg vs.toArray] W (withTechPost (withTv u f v) V0 W) := by
 obtain ⟨sl, rfl, hs⟩ := hV
 obtain ⟨pl, cl, rfl, -⟩ := id hs
 have hZ := ((Blk.new W us 56).alloc (.cells [.int .i64 v.n, .bool v.b, .string v.s, .slice pl v.l.length cl].toArray 72)).alloc (.cells tZero.toArray 56)
 have hX := ((Blk.new (W.alloc (.cells us.toArray 56)) [.int .i64 v.n, .bool v.b, .string v.s, .slice pl v.l.length cl] 72).at (World.size_alloc _ _)).alloc (.cells tZero.toArray 56)
 have hY := (Blk.new ((W.alloc (.cells us.toArray 56)).alloc (.cells [.int .i64 v.n, .bool v.b, .string v.s, .slice pl v.l.length cl].toArray 72)) tZero 56).at (c := W.heap.size + 1 + 1) (by simp)
 have hL := (((Below.refl W.heap.size W).alloc (Nat.le_refl _) (.cells us.toArray 56)).alloc (by simp) (.cells [.int .i64 v.n, .bool v.b, .string v.s, .slice pl v.l.length cl].toArray 72)).alloc (by simp; omega) (.cells tZero.toArray 56)
 have hln := hU.len
 have hlone := hU.lone
 obtain ⟨sn, hvs, q_needs⟩ := hU
 obtain ⟨pn, cn, rfl, -⟩ := id q_needs
 replace hvs := hid hvs
 replace hln := hid hln
 replace hlone := hid hlone
 rw [fieldsT] at hf
 simp only [List.mem_cons, List.not_mem_nil, or_false] at hf
 rcases hf with rfl | rfl | rfl | rfl | rfl | rfl | rfl
 · have kz := (hZ.cell 1).trans (show us[1]? = some (.slice pn u.needs.length cn) by rw [hvs.out]; rfl)
   have fz := hZ.frozen 1
   have kx := hX.cell 3
   simp only [List.getElem?_cons_zero, List.getElem?_cons_succ] at kx
   go_enter Tryz.func38, Tryz.ntmps38
   go_upto_region 1 with (with_reducible refine wpList_alloc_agg rfl 56 rfl _ rfl tZero zeroT ?_)
   generalize (((W.alloc (.cells us.toArray 56)).alloc (.cells [.int .i64 v.n, .bool v.b, .string v.s, .slice pl v.l.length cl].toArray 72)).alloc (.cells tZero.toArray 56)) = V at *
   have hZ2 := hid (hZ.set 1 (.slice pl v.l.length cl))
   have hY2 := (hY.far (c := W.heap.size) (i := 1) (.slice pl v.l.length cl) (by omega))
   go_wp2_with (first | (with_reducible refine wpList_load_agg rfl 56 _ rfl ⟨W.heap.size, 0, none⟩ (by with_unfolding_all rfl) Tryz.isAgg56 Tryz.sizeOf56 (us.set 1 (.slice pl v.l.length cl)) (hZ2.out.loads ((List.length_set ..).trans hln.out)) ?_) | (with_reducible refine wpList_store_agg rfl 56 _ _ rfl rfl (W.heap.size + 1 + 1) (by with_unfolding_all rfl) Tryz.sizeOf56 (us.set 1 (.slice pl v.l.length cl)) (by with_unfolding_all rfl) ((List.length_set ..).trans hln.out) hY2 rfl (lone_set hlone.out rfl) ?_))
   refine bodyPost_ret (results_agg_one rfl rfl Tryz.isAgg56 Tryz.sizeOf56 (hY2.put _) ((List.length_set ..).trans hln.out)) rfl ?_
   exact ⟨_, rfl, ⟨_, by rw [hvs.out]; rfl, hs⟩, below_setRow (hL.setCell (Nat.le_refl _) _) (by omega) _⟩
 · have kz := (hZ.cell 2).trans (show us[2]? = some (.int .i64 u.ore) by rw [hvs.out]; rfl)
   have fz := hZ.frozen 2
   have kx := hX.cell 0
   simp only [List.getElem?_cons_zero] at kx
   go_enter Tryz.func38, Tryz.ntmps38
   go_upto_region 1 with (with_reducible refine wpList_alloc_agg rfl 56 rfl _ rfl tZero zeroT ?_)
   generalize (((W.alloc (.cells us.toArray 56)).alloc (.cells [.int .i64 v.n, .bool v.b, .string v.s, .slice pl v.l.length cl].toArray 72)).alloc (.cells tZero.toArray 56)) = V at *
   have hZ2 := hid (hZ.set 2 (.int .i64 v.n))
   have hY2 := (hY.far (c := W.heap.size) (i := 2) (.int .i64 v.n) (by omega))
   go_wp2_with (first | (with_reducible refine wpList_load_agg rfl 56 _ rfl ⟨W.heap.size, 0, none⟩ (by with_unfolding_all rfl) Tryz.isAgg56 Tryz.sizeOf56 (us.set 2 (.int .i64 v.n)) (hZ2.out.loads ((List.length_set ..).trans hln.out)) ?_) | (with_reducible refine wpList_store_agg rfl 56 _ _ rfl rfl (W.heap.size + 1 + 1) (by with_unfolding_all rfl) Tryz.sizeOf56 (us.set 2 (.int .i64 v.n)) (by with_unfolding_all rfl) ((List.length_set ..).trans hln.out) hY2 rfl (lone_set hlone.out rfl) ?_))
   refine bodyPost_ret (results_agg_one rfl rfl Tryz.isAgg56 Tryz.sizeOf56 (hY2.put _) ((List.length_set ..).trans hln.out)) rfl ?_
   exact ⟨_, rfl, ⟨_, by rw [hvs.out]; rfl, q_needs⟩, below_setRow (hL.setCell (Nat.le_refl _) _) (by omega) _⟩
 · have kz := (hZ.cell 3).trans (show us[3]? = some (.int .i64 u.wood) by rw [hvs.out]; rfl)
   have fz := hZ.frozen 3
   have kx := hX.cell 0
   simp only [List.getElem?_cons_zero] at kx
   go_enter Tryz.func38, Tryz.ntmps38
   go_upto_region 1 with (with_reducible refine wpList_alloc_agg rfl 56 rfl _ rfl tZero zeroT ?_)
   generalize (((W.alloc (.cells us.toArray 56)).alloc (.cells [.int .i64 v.n, .bool v.b, .string v.s, .slice pl v.l.length cl].toArray 72)).alloc (.cells tZero.toArray 56)) = V at *
   have hZ2 := hid (hZ.set 3 (.int .i64 v.n))
   have hY2 := (hY.far (c := W.heap.size) (i := 3) (.int .i64 v.n) (by omega))
   go_wp2_with (first | (with_reducible refine wpList_load_agg rfl 56 _ rfl ⟨W.heap.size, 0, none⟩ (by with_unfolding_all rfl) Tryz.isAgg56 Tryz.sizeOf56 (us.set 3 (.int .i64 v.n)) (hZ2.out.loads ((List.length_set ..).trans hln.out)) ?_) | (with_reducible refine wpList_store_agg rfl 56 _ _ rfl rfl (W.heap.size + 1 + 1) (by with_unfolding_all rfl) Tryz.sizeOf56 (us.set 3 (.int .i64 v.n)) (by with_unfolding_all rfl) ((List.length_set ..).trans hln.out) hY2 rfl (lone_set hlone.out rfl) ?_))
   refine bodyPost_ret (results_agg_one rfl rfl Tryz.isAgg56 Tryz.sizeOf56 (hY2.put _) ((List.length_set ..).trans hln.out)) rfl ?_
   exact ⟨_, rfl, ⟨_, by rw [hvs.out]; rfl, q_needs⟩, below_setRow (hL.setCell (Nat.le_refl _) _) (by omega) _⟩
 · have kz := (hZ.cell 4).trans (show us[4]? = some (.int .i64 u.time) by rw [hvs.out]; rfl)
   have fz := hZ.frozen 4
   have kx := hX.cell 0
   simp only [List.getElem?_cons_zero] at kx
   go_enter Tryz.func38, Tryz.ntmps38
   go_upto_region 1 with (with_reducible refine wpList_alloc_agg rfl 56 rfl _ rfl tZero zeroT ?_)
   generalize (((W.alloc (.cells us.toArray 56)).alloc (.cells [.int .i64 v.n, .bool v.b, .string v.s, .slice pl v.l.length cl].toArray 72)).alloc (.cells tZero.toArray 56)) = V at *
   have hZ2 := hid (hZ.set 4 (.int .i64 v.n))
   have hY2 := (hY.far (c := W.heap.size) (i := 4) (.int .i64 v.n) (by omega))
   go_wp2_with (first | (with_reducible refine wpList_load_agg rfl 56 _ rfl ⟨W.heap.size, 0, none⟩ (by with_unfolding_all rfl) Tryz.isAgg56 Tryz.sizeOf56 (us.set 4 (.int .i64 v.n)) (hZ2.out.loads ((List.length_set ..).trans hln.out)) ?_) | (with_reducible refine wpList_store_agg rfl 56 _ _ rfl rfl (W.heap.size + 1 + 1) (by with_unfolding_all rfl) Tryz.sizeOf56 (us.set 4 (.int .i64 v.n)) (by with_unfolding_all rfl) ((List.length_set ..).trans hln.out) hY2 rfl (lone_set hlone.out rfl) ?_))
   refine bodyPost_ret (results_agg_one rfl rfl Tryz.isAgg56 Tryz.sizeOf56 (hY2.put _) ((List.length_set ..).trans hln.out)) rfl ?_
   exact ⟨_, rfl, ⟨_, by rw [hvs.out]; rfl, q_needs⟩, below_setRow (hL.setCell (Nat.le_refl _) _) (by omega) _⟩
 · have kz := (hZ.cell 5).trans (show us[5]? = some (.string u.un) by rw [hvs.out]; rfl)
   have fz := hZ.frozen 5
   have kx := hX.cell 2
   simp only [List.getElem?_cons_zero, List.getElem?_cons_succ] at kx
   go_enter Tryz.func38, Tryz.ntmps38
   go_upto_region 1 with (with_reducible refine wpList_alloc_agg rfl 56 rfl _ rfl tZero zeroT ?_)
   generalize (((W.alloc (.cells us.toArray 56)).alloc (.cells [.int .i64 v.n, .bool v.b, .string v.s, .slice pl v.l.length cl].toArray 72)).alloc (.cells tZero.toArray 56)) = V at *
   have hZ2 := hid (hZ.set 5 (.string v.s))
   have hY2 := (hY.far (c := W.heap.size) (i := 5) (.string v.s) (by omega))
   go_wp2_with (first | (with_reducible refine wpList_load_agg rfl 56 _ rfl ⟨W.heap.size, 0, none⟩ (by with_unfolding_all rfl) Tryz.isAgg56 Tryz.sizeOf56 (us.set 5 (.string v.s)) (hZ2.out.loads ((List.length_set ..).trans hln.out)) ?_) | (with_reducible refine wpList_store_agg rfl 56 _ _ rfl rfl (W.heap.size + 1 + 1) (by with_unfolding_all rfl) Tryz.sizeOf56 (us.set 5 (.string v.s)) (by with_unfolding_all rfl) ((List.length_set ..).trans hln.out) hY2 rfl (lone_set hlone.out rfl) ?_))
   refine bodyPost_ret (results_agg_one rfl rfl Tryz.isAgg56 Tryz.sizeOf56 (hY2.put _) ((List.length_set ..).trans hln.out)) rfl ?_
   exact ⟨_, rfl, ⟨_, by rw [hvs.out]; rfl, q_needs⟩, below_setRow (hL.setCell (Nat.le_refl _) _) (by omega) _⟩
 · have kz := (hZ.cell 6).trans (show us[6]? = some (.int .i64 u.stat) by rw [hvs.out]; rfl)
   have fz := hZ.frozen 6
   have kx := hX.cell 0
   simp only [List.getElem?_cons_zero] at kx
   go_enter Tryz.func38, Tryz.ntmps38
   go_upto_region 1 with (with_reducible refine wpList_alloc_agg rfl 56 rfl _ rfl tZero zeroT ?_)
   generalize (((W.alloc (.cells us.toArray 56)).alloc (.cells [.int .i64 v.n, .bool v.b, .string v.s, .slice pl v.l.length cl].toArray 72)).alloc (.cells tZero.toArray 56)) = V at *
   have hZ2 := hid (hZ.set 6 (.int .i64 v.n))
   have hY2 := (hY.far (c := W.heap.size) (i := 6) (.int .i64 v.n) (by omega))
   go_wp2_with (first | (with_reducible refine wpList_load_agg rfl 56 _ rfl ⟨W.heap.size, 0, none⟩ (by with_unfolding_all rfl) Tryz.isAgg56 Tryz.sizeOf56 (us.set 6 (.int .i64 v.n)) (hZ2.out.loads ((List.length_set ..).trans hln.out)) ?_) | (with_reducible refine wpList_store_agg rfl 56 _ _ rfl rfl (W.heap.size + 1 + 1) (by with_unfolding_all rfl) Tryz.sizeOf56 (us.set 6 (.int .i64 v.n)) (by with_unfolding_all rfl) ((List.length_set ..).trans hln.out) hY2 rfl (lone_set hlone.out rfl) ?_))
   refine bodyPost_ret (results_agg_one rfl rfl Tryz.isAgg56 Tryz.sizeOf56 (hY2.put _) ((List.length_set ..).trans hln.out)) rfl ?_
   exact ⟨_, rfl, ⟨_, by rw [hvs.out]; rfl, q_needs⟩, below_setRow (hL.setCell (Nat.le_refl _) _) (by omega) _⟩
 · have kz := (hZ.cell 7).trans (show us[7]? = some (.int .i64 u.amt) by rw [hvs.out]; rfl)
   have fz := hZ.frozen 7
   have kx := hX.cell 0
   simp only [List.getElem?_cons_zero] at kx
   go_enter Tryz.func38, Tryz.ntmps38
   go_upto_region 1 with (with_reducible refine wpList_alloc_agg rfl 56 rfl _ rfl tZero zeroT ?_)
   generalize (((W.alloc (.cells us.toArray 56)).alloc (.cells [.int .i64 v.n, .bool v.b, .string v.s, .slice pl v.l.length cl].toArray 72)).alloc (.cells tZero.toArray 56)) = V at *
   have hZ2 := hid (hZ.set 7 (.int .i64 v.n))
   have hY2 := (hY.far (c := W.heap.size) (i := 7) (.int .i64 v.n) (by omega))
   go_wp2_with (first | (with_reducible refine wpList_load_agg rfl 56 _ rfl ⟨W.heap.size, 0, none⟩ (by with_unfolding_all rfl) Tryz.isAgg56 Tryz.sizeOf56 (us.set 7 (.int .i64 v.n)) (hZ2.out.loads ((List.length_set ..).trans hln.out)) ?_) | (with_reducible refine wpList_store_agg rfl 56 _ _ rfl rfl (W.heap.size + 1 + 1) (by with_unfolding_all rfl) Tryz.sizeOf56 (us.set 7 (.int .i64 v.n)) (by with_unfolding_all rfl) ((List.length_set ..).trans hln.out) hY2 rfl (lone_set hlone.out rfl) ?_))
   refine bodyPost_ret (results_agg_one rfl rfl Tryz.isAgg56 Tryz.sizeOf56 (hY2.put _) ((List.length_set ..).trans hln.out)) rfl ?_
   exact ⟨_, rfl, ⟨_, by rw [hvs.out]; rfl, q_needs⟩, below_setRow (hL.setCell (Nat.le_refl _) _) (by omega) _⟩
end
section
open Go.RowKit Go.Lib
theorem SB.moves {w w' : World} {v : Value} {l : List ByteArray} {c : Nat} {us : List Value} {t : TypeId} (h : SB w v l) (hb : Blk w c us t) (ne : 9 ≠ t) (hk : ∀ j, j ≠ c → w'.heap[j]? = w.heap[j]?) : SB w' v l := by
 obtain ⟨p, cc, e, hm, hc⟩ := h
 refine ⟨p, cc, e, hm, fun h1 => ?_⟩
 obtain ⟨g, o, us2, e2, hg, hi⟩ := hc h1
 have hgc : g ≠ c := fun q => by
  subst q
  unfold Blk at hg hb
  rw [hg] at hb
  injection hb with hb
  injection hb with _ hb
  exact ne hb
 exact ⟨g, o, us2, e2, (hk g hgc).trans hg, hi⟩
theorem SB.put {w : World} {v : Value} {l : List ByteArray} {c i : Nat} {us : List Value} {t : TypeId} (h : SB w v l) (hb : Blk w c us t) (ne : 9 ≠ t) (x : Value) : SB (w.setCell ⟨c, i, none⟩ x) v l := h.moves hb ne fun j hj => Below.heap_setCell _ _ _ j hj
end
section
open Go.RowKit Go.Lib
theorem own_new {w : World} {B k n : Nat} {e : TypeId} {v : Value} {xs : List Value} (h : w.ownsRow B e k v n xs) : NewSl B v := by
 rcases h.2 with ⟨rfl, -⟩ | ⟨g, cap, cur, rfl, hg, -⟩
 · intro a n c q
   injection q with q _ _
   cases q
 · intro a n c q
   injection q with q _ _
   injection q with q
   rw [← q]
   exact hg
def NamesPost (s : List UInt8) (w : World) (e : Ending) (w' : World) : Prop := ∃ v b, e = .returned (.tuple #[v, .bool b]) ∧ (b = true → ∃ l, listv s = some l ∧ StrSl w' v l ∧ NewSl w.heap.size v ∧ SB w' v l) ∧ (b = false → listv s = none ∧ v = .slice none 0 0) ∧ Below w.heap.size w w'
theorem listv_no {s : List UInt8} {x : List UInt8} (h : x ∈ parts 44 s) (hn : nameB x = false) : listv s = none := by
 unfold listv
 rw [if_neg]
 intro q
 rw [List.all_eq_true.1 q x h] at hn
 cases hn
set_option maxHeartbeats 8000000 in
set_option maxRecDepth 100000 in
theorem r10names_b (s : ByteArray) (W : World) (hs : s.size ≤ 50000) : Calls Tryz.prog 79 #[.string s] W (NamesPost s.data.toList W) := by
 have hsl := rt_size s
 obtain ⟨i0, hi0, hz0, hz1, hz2⟩ := info_cut9 infoStr9
 go_enter Tryz.func79, Tryz.ntmps79
 go_wp2_with fail
 go_loopw [4, 5, 6] (fun vo vf vi wr => ∃ (k i : Nat) (l : List ByteArray), vi = .int .i64 k ∧ vf = .int .i64 i ∧ i ≤ k ∧ k ≤ s.size + 1 ∧ l.length ≤ k ∧ wr.ownsRow W.heap.size 9 1 vo l.length (strs l) ∧ Below W.heap.size W wr ∧
  Hid ((k ≤ s.size → (parts 44 s.data.toList).map toB = l ++ (parts 44 (s.data.toList.drop i)).map toB ∧ 44 ∉ (s.data.toList.drop i).take (k - i)) ∧ (k = s.size + 1 → (parts 44 s.data.toList).map toB = l) ∧ ∀ x ∈ l, nameB x.toList = true)) (fun _ _ vi _ => s.size + 1 - (RowKit.intOf vi).toNat)
 case atStart => exact ⟨0, 0, [], rfl, rfl, by omega, by omega, by simp, World.ownsRow_nil _ _ _ _, Below.refl _ _, hid ⟨fun _ => ⟨rfl, by simp⟩, fun h => by omega, fun x hx => by simp at hx⟩⟩
 case round =>
  obtain ⟨k, i, l, rfl, rfl, hik, hk, hll, hown, hL, hA⟩ := hrel
  have k0 : (0 : Int) ≤ k := by omega
  have i0' : (0 : Int) ≤ i := by omega
  have ik : (i : Int) ≤ k := by omega
  by_cases hle : k ≤ s.size
  · have d1 : (k : Int) ≤ s.size := by omega
    obtain ⟨⟨p1, p2⟩, p4⟩ := (⟨hA.out.1 hle, hA.out.2.2⟩ : (_ ∧ _) ∧ _)
    by_cases hc : ∃ hlt : k < s.size, ¬ s[k]'hlt = 44
    · obtain ⟨hlt, hc⟩ := hc
      have k1 : (k : Int) < s.size := by omega
      have hz : (((s[k]'hlt).toNat : Int) != 44) = true := by
       rw [bne_iff_ne]
       intro q
       exact hc (UInt8.toNat_inj.1 (by show (s[k]'hlt).toNat = 44; omega))
      have hN := hid (show (k + 1 ≤ s.size → (parts 44 s.data.toList).map toB = l ++ (parts 44 (s.data.toList.drop i)).map toB ∧ 44 ∉ (s.data.toList.drop i).take (k + 1 - i)) ∧ (k + 1 = s.size + 1 → (parts 44 s.data.toList).map toB = l) ∧ ∀ x ∈ l, nameB x.toList = true from ⟨fun _ => ⟨p1, rt_free hlt hik p2 hc⟩, fun q => by omega, p4⟩)
      clear hA p1 p2 p4
      go_wp2_with fail
      go_roundw
      case rel => exact ⟨k + 1, i, l, by go_num, rfl, by omega, by omega, by omega, hown, hL, hN⟩
      case measure => simp [RowKit.intOf]; omega
    · -- a piece ends here
      have hend : (∃ hlt : k < s.size, s[k]'hlt = 44) ∨ k = s.size := by
       rcases Nat.lt_or_ge k s.size with q | q
       · exact .inl ⟨q, Classical.byContradiction fun q2 => hc ⟨q, q2⟩⟩
       · exact .inr (by omega)
      have hx := rt_ext s i k
      have hpc : parts 44 (s.data.toList.drop i) = (s.data.toList.drop i).take (k - i) :: (if k = s.size then [] else parts 44 (s.data.toList.drop (k + 1))) := by
       rcases hend with ⟨hlt, q⟩ | q
       · rw [if_neg (by omega)]
         exact rt_here hlt hik p2 q
       · subst q
         rw [if_pos rfl]
         exact rt_last p2
      obtain ⟨x, hxe⟩ : ∃ x, (s.data.toList.drop i).take (k - i) = x := ⟨_, rfl⟩
      rw [hxe] at hx hpc
      rw [hpc, List.map_cons] at p1
      have hmem : x ∈ parts 44 s.data.toList := by
       have : toB x ∈ (parts 44 s.data.toList).map toB := by rw [p1]; simp
       obtain ⟨y, hy, he⟩ := List.mem_map.1 this
       have : x = y := by rw [← toB_list x, ← toB_list y, he]
       rw [this]; exact hy
      obtain ⟨b, hb⟩ : ∃ b, Hid (b = nameB (s.extract i k).data.toList) := ⟨_, hid rfl⟩
      have hbx : b = nameB x := by rw [hb.out, hx, ← Lib.toList_data, toB_list]
      have hN := fun (q : b = true) => hid (show (k + 1 ≤ s.size → (parts 44 s.data.toList).map toB = (l ++ [s.extract i k]) ++ (parts 44 (s.data.toList.drop (k + 1))).map toB ∧ 44 ∉ (s.data.toList.drop (k + 1)).take (k + 1 - (k + 1))) ∧ (k + 1 = s.size + 1 → (parts 44 s.data.toList).map toB = l ++ [s.extract i k]) ∧ ∀ y ∈ l ++ [s.extract i k], nameB y.toList = true from
       ⟨fun h => ⟨by rw [p1, if_neg (by omega), hx, List.append_assoc]; rfl, by simp⟩, fun h => by rw [p1, if_pos (by omega), hx]; rfl, fun y hy => by
        rcases List.mem_append.1 hy with h | h
        · exact p4 y h
        · rw [List.mem_singleton] at h
          rw [h, hx, toB_list, ← hbx]; exact q⟩)
      have hNo := fun (q : b = false) => hid (listv_no hmem (hbx.symm.trans q))
      clear hA p1 p2 p4 hx hpc hxe hmem hbx hc
      rcases hend with ⟨hlt, hc⟩ | hkk
      · have k1 : (k : Int) < s.size := by omega
        have hz : (((s[k]'hlt).toNat : Int) != 44) = false := by rw [hc]; rfl
        clear hc
        go_wp2_with fail
        ((with_reducible refine (r9name_b (s.extract i k) b _ hb).mono ?_); rintro e w1 ⟨rfl, rfl⟩)
        cases b with
        | false =>
         have HQ := hNo rfl
         clear hN hNo hb
         go_wp2_with fail
         first | go_ret2 | go_ret
         exact ⟨_, false, rfl, fun q => by (cases q), fun _ => ⟨HQ.out, rfl⟩, hL⟩
        | true =>
         have HQ := hN rfl
         clear hN hNo hb
         go_wp2_with (at_builtin; refine wpList_append_own _ rfl _ _ 23 rfl W.heap.size 9 i0 (.string ⟨#[]⟩) 1 16 Tryz.underlying23 hi0 hz0 hz1 hz2 rfl (by decide) _ _ _ rfl (hown.alloc _) ⟨wr.heap.size, 0, none⟩ 1 1 [.string (s.extract i k)] rfl rfl cells_new (str_lone9 _) (by unfold maxLen; omega) (by omega) (by have := hL.size; simp; omega) ?_)
         intro v' w' hown' hg' _
         have hb' := below_push (t := 9) hL.size hL hown (Nat.le_refl _) hg'
         have hown2 := own_to hown' (m := (l ++ [s.extract i k]).length) (ys := strs (l ++ [s.extract i k])) (by simp) (strs_snoc _ _)
         clear hg' hown hL hown'
         go_wp2_with fail
         go_roundw
         case rel => exact ⟨k + 1, k + 1, l ++ [s.extract i k], by go_num, by go_num, by omega, by omega, by simp; omega, hown2, hb', HQ⟩
         case measure => simp [RowKit.intOf]; omega
      · have k1 : ¬ (k : Int) < s.size := by omega
        subst hkk
        go_wp2_with fail
        ((with_reducible refine (r9name_b (s.extract i s.size) b _ hb).mono ?_); rintro e w1 ⟨rfl, rfl⟩)
        cases b with
        | false =>
         have HQ := hNo rfl
         clear hN hNo hb
         go_wp2_with fail
         first | go_ret2 | go_ret
         exact ⟨_, false, rfl, fun q => by (cases q), fun _ => ⟨HQ.out, rfl⟩, hL⟩
        | true =>
         have HQ := hN rfl
         clear hN hNo hb
         go_wp2_with (at_builtin; refine wpList_append_own _ rfl _ _ 23 rfl W.heap.size 9 i0 (.string ⟨#[]⟩) 1 16 Tryz.underlying23 hi0 hz0 hz1 hz2 rfl (by decide) _ _ _ rfl (hown.alloc _) ⟨wr.heap.size, 0, none⟩ 1 1 [.string (s.extract i s.size)] rfl rfl cells_new (str_lone9 _) (by unfold maxLen; omega) (by omega) (by have := hL.size; simp; omega) ?_)
         intro v' w' hown' hg' _
         have hb' := below_push (t := 9) hL.size hL hown (Nat.le_refl _) hg'
         have hown2 := own_to hown' (m := (l ++ [s.extract i s.size]).length) (ys := strs (l ++ [s.extract i s.size])) (by simp) (strs_snoc _ _)
         clear hg' hown hL hown'
         go_wp2_with fail
         go_roundw
         case rel => exact ⟨s.size + 1, s.size + 1, l ++ [s.extract i s.size], by go_num, by go_num, by omega, by omega, by simp; omega, hown2, hb', hid ⟨HQ.out.1, fun _ => HQ.out.2.1 trivial, HQ.out.2.2⟩⟩
         case measure => simp [RowKit.intOf]
  · obtain rfl : k = s.size + 1 := by omega
    have d1 : ¬ ((s.size : Int) + 1 ≤ s.size) := by omega
    have hl : (parts 44 s.data.toList).map toB = l := hA.out.2.1 rfl
    have hv : listv s.data.toList = some l := by
     unfold listv
     rw [if_pos, hl]
     rw [List.all_eq_true]
     intro x hx
     have := hA.out.2.2 (toB x) (by rw [← hl]; exact List.mem_map_of_mem hx)
     rwa [toB_list] at this
    have hst := own_strs hown (by omega)
    have hnew := own_new hown
    have hsb := own_sb hown (by omega)
    replace hv := hid hv
    clear hA hl
    obtain ⟨pv, cv, rfl, -⟩ := id hst
    go_wp2_with fail
    first | go_ret2 | go_ret
    exact ⟨_, true, rfl, fun _ => ⟨l, hv.out, hst, hnew, hsb⟩, fun q => by (cases q), hL⟩
end

end Go.Proofs.YtnjcdmjaecgblaaGreatDoor
