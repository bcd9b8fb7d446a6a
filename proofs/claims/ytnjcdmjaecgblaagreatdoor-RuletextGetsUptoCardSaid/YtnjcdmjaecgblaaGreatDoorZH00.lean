/-
  What the reference of ruletext answers: the value of a field; What the reference of ruletext answers: the text of a value; What the reference of ruletext answers: find, value; What the reference of ruletext answers: Get.
-/
import Derived.Test.YtnjcdmjaecgblaaGreatDoorZE00
namespace Go.Proofs.YtnjcdmjaecgblaaGreatDoor
section
open Go.RowKit Go.Lib
def ValPost (v : V10) (V0 w : World) (e : Ending) (w' : World) : Prop := ∃ vs, e = .returned (.agg vs.toArray) ∧ VL V0 vs v ∧ Below w.heap.size w w'
set_option maxHeartbeats 8000000 in
set_option maxRecDepth 100000 in
theorem r10ofW_b (u : W9) (us : List Value) (f : ByteArray) (V0 W : World) (hU : WL us u) (hf : f ∈ fieldsv 2) : Calls Tryz.prog 67 #[.agg us.toArray, .string f] W (ValPost (ofWv u f) V0 W) := by
 have hZ := (Blk.new W us 51).alloc (.cells [.int .i64 0, .bool false, .string ⟨#[]⟩, .slice none 0 0].toArray 72)
 have hY := (Blk.new (W.alloc (.cells us.toArray 51)) [.int .i64 0, .bool false, .string ⟨#[]⟩, .slice none 0 0] 72).at (World.size_alloc _ _)
 have hL := ((Below.refl W.heap.size W).alloc (Nat.le_refl _) (.cells us.toArray 51)).alloc (by simp) (.cells [.int .i64 0, .bool false, .string ⟨#[]⟩, .slice none 0 0].toArray 72)
 have hvs := hU
 replace hvs := hid hvs
 rw [fieldsW] at hf
 simp only [List.mem_cons, List.not_mem_nil, or_false] at hf
 rcases hf with rfl | rfl | rfl | rfl | rfl
 · have kz : ((W.alloc (.cells us.toArray 51)).alloc (.cells [.int .i64 0, .bool false, .string ⟨#[]⟩, .slice none 0 0].toArray 72)).cell? ⟨W.heap.size, 1, none⟩ = some (.int .i64 u.rng) := (hZ.cell 1).trans (by rw [hvs.out]; rfl)
   go_enter Tryz.func67, Tryz.ntmps67
   go_wp2_with fail
   refine bodyPost_ret (results_agg_one rfl rfl Tryz.isAgg72 Tryz.sizeOf72 ((Blk.new (W.alloc (.cells us.toArray 51)) [.int .i64 u.rng, .bool false, .string ⟨#[]⟩, .slice none 0 0] 72).at (World.size_alloc _ _)) rfl) rfl ?_
   exact ⟨_, rfl, ⟨_, rfl, strSl_nil V0⟩, ((Below.refl W.heap.size W).alloc (Nat.le_refl _) _).alloc (by simp) _⟩
 · have kz : ((W.alloc (.cells us.toArray 51)).alloc (.cells [.int .i64 0, .bool false, .string ⟨#[]⟩, .slice none 0 0].toArray 72)).cell? ⟨W.heap.size, 2, none⟩ = some (.int .i64 u.dmg) := (hZ.cell 2).trans (by rw [hvs.out]; rfl)
   go_enter Tryz.func67, Tryz.ntmps67
   go_wp2_with fail
   refine bodyPost_ret (results_agg_one rfl rfl Tryz.isAgg72 Tryz.sizeOf72 ((Blk.new (W.alloc (.cells us.toArray 51)) [.int .i64 u.dmg, .bool false, .string ⟨#[]⟩, .slice none 0 0] 72).at (World.size_alloc _ _)) rfl) rfl ?_
   exact ⟨_, rfl, ⟨_, rfl, strSl_nil V0⟩, ((Below.refl W.heap.size W).alloc (Nat.le_refl _) _).alloc (by simp) _⟩
 · have kz : ((W.alloc (.cells us.toArray 51)).alloc (.cells [.int .i64 0, .bool false, .string ⟨#[]⟩, .slice none 0 0].toArray 72)).cell? ⟨W.heap.size, 3, none⟩ = some (.int .i64 u.cool) := (hZ.cell 3).trans (by rw [hvs.out]; rfl)
   go_enter Tryz.func67, Tryz.ntmps67
   go_wp2_with fail
   refine bodyPost_ret (results_agg_one rfl rfl Tryz.isAgg72 Tryz.sizeOf72 ((Blk.new (W.alloc (.cells us.toArray 51)) [.int .i64 u.cool, .bool false, .string ⟨#[]⟩, .slice none 0 0] 72).at (World.size_alloc _ _)) rfl) rfl ?_
   exact ⟨_, rfl, ⟨_, rfl, strSl_nil V0⟩, ((Below.refl W.heap.size W).alloc (Nat.le_refl _) _).alloc (by simp) _⟩
 · have kz : ((W.alloc (.cells us.toArray 51)).alloc (.cells [.int .i64 0, .bool false, .string ⟨#[]⟩, .slice none 0 0].toArray 72)).cell? ⟨W.heap.size, 4, none⟩ = some (.int .i64 u.spd) := (hZ.cell 4).trans (by rw [hvs.out]; rfl)
   go_enter Tryz.func67, Tryz.ntmps67
   go_wp2_with fail
   refine bodyPost_ret (results_agg_one rfl rfl Tryz.isAgg72 Tryz.sizeOf72 ((Blk.new (W.alloc (.cells us.toArray 51)) [.int .i64 u.spd, .bool false, .string ⟨#[]⟩, .slice none 0 0] 72).at (World.size_alloc _ _)) rfl) rfl ?_
   exact ⟨_, rfl, ⟨_, rfl, strSl_nil V0⟩, ((Below.refl W.heap.size W).alloc (Nat.le_refl _) _).alloc (by simp) _⟩
 · have kz : ((W.alloc (.cells us.toArray 51)).alloc (.cells [.int .i64 0, .bool false, .string ⟨#[]⟩, .slice none 0 0].toArray 72)).cell? ⟨W.heap.size, 5, none⟩ = some (.int .i64 u.spl) := (hZ.cell 5).trans (by rw [hvs.out]; rfl)
   go_enter Tryz.func67, Tryz.ntmps67
   go_wp2_with fail
   refine bodyPost_ret (results_agg_one rfl rfl Tryz.isAgg72 Tryz.sizeOf72 ((Blk.new (W.alloc (.cells us.toArray 51)) [.int .i64 u.spl, .bool false, .string ⟨#[]⟩, .slice none 0 0] 72).at (World.size_alloc _ _)) rfl) rfl ?_
   exact ⟨_, rfl, ⟨_, rfl, strSl_nil V0⟩, ((Below.refl W.heap.size W).alloc (Nat.le_refl _) _).alloc (by simp) _⟩
set_option maxHeartbeats 8000000 in
set_option maxRecDepth 100000 in
theorem r10ofU_b (u : U9) (us : List Value) (f : ByteArray) (V0 W : World) (hU : UL V0 us u) (hf : f ∈ fieldsv 1) : Calls Tryz.prog 66 #[.agg us.toArray, .string f] W (ValPost (ofUv u f) V0 W) := by
 have hZ := (Blk.new W us 53).alloc (.cells [.int .i64 0, .bool false, .string ⟨#[]⟩, .slice none 0 0].toArray 72)
 have hY := (Blk.new (W.alloc (.cells us.toArray 53)) [.int .i64 0, .bool false, .string ⟨#[]⟩, .slice none 0 0] 72).at (World.size_alloc _ _)
 have hL := ((Below.refl W.heap.size W).alloc (Nat.le_refl _) (.cells us.toArray 53)).alloc (by simp) (.cells [.int .i64 0, .bool false, .string ⟨#[]⟩, .slice none 0 0].toArray 72)
 obtain ⟨sn, st, sr, hvs, q_needs, q_trains, q_ress⟩ := hU
 obtain ⟨pn, cn, rfl, -⟩ := id q_needs
 obtain ⟨pt, ct, rfl, -⟩ := id q_trains
 obtain ⟨pr, cr, rfl, -⟩ := id q_ress
 replace hvs := hid hvs
 rw [fieldsU] at hf
 simp only [List.mem_cons, List.not_mem_nil, or_false] at hf
 rcases hf with rfl | rfl | rfl | rfl | rfl | rfl | rfl | rfl | rfl | rfl | rfl | rfl | rfl | rfl | rfl | rfl | rfl | rfl
 · have kz : ((W.alloc (.cells us.toArray 53)).alloc (.cells [.int .i64 0, .bool false, .string ⟨#[]⟩, .slice none 0 0].toArray 72)).cell? ⟨W.heap.size, 1, none⟩ = some (.bool u.bld) := (hZ.cell 1).trans (by rw [hvs.out]; rfl)
   go_enter Tryz.func66, Tryz.ntmps66
   go_wp2_with fail
   refine bodyPost_ret (results_agg_one rfl rfl Tryz.isAgg72 Tryz.sizeOf72 ((Blk.new (W.alloc (.cells us.toArray 53)) [.int .i64 0, .bool u.bld, .string ⟨#[]⟩, .slice none 0 0] 72).at (World.size_alloc _ _)) rfl) rfl ?_
   exact ⟨_, rfl, ⟨_, rfl, strSl_nil V0⟩, ((Below.refl W.heap.size W).alloc (Nat.le_refl _) _).alloc (by simp) _⟩
 · have kz : ((W.alloc (.cells us.toArray 53)).alloc (.cells [.int .i64 0, .bool false, .string ⟨#[]⟩, .slice none 0 0].toArray 72)).cell? ⟨W.heap.size, 2, none⟩ = some (.bool u.dep) := (hZ.cell 2).trans (by rw [hvs.out]; rfl)
   go_enter Tryz.func66, Tryz.ntmps66
   go_wp2_with fail
   refine bodyPost_ret (results_agg_one rfl rfl Tryz.isAgg72 Tryz.sizeOf72 ((Blk.new (W.alloc (.cells us.toArray 53)) [.int .i64 0, .bool u.dep, .string ⟨#[]⟩, .slice none 0 0] 72).at (World.size_alloc _ _)) rfl) rfl ?_
   exact ⟨_, rfl, ⟨_, rfl, strSl_nil V0⟩, ((Below.refl W.heap.size W).alloc (Nat.le_refl _) _).alloc (by simp) _⟩
 · have kz : ((W.alloc (.cells us.toArray 53)).alloc (.cells [.int .i64 0, .bool false, .string ⟨#[]⟩, .slice none 0 0].toArray 72)).cell? ⟨W.heap.size, 3, none⟩ = some (.int .i64 u.cls) := (hZ.cell 3).trans (by rw [hvs.out]; rfl)
   go_enter Tryz.func66, Tryz.ntmps66
   go_wp2_with fail
   refine bodyPost_ret (results_agg_one rfl rfl Tryz.isAgg72 Tryz.sizeOf72 ((Blk.new (W.alloc (.cells us.toArray 53)) [.int .i64 u.cls, .bool false, .string ⟨#[]⟩, .slice none 0 0] 72).at (World.size_alloc _ _)) rfl) rfl ?_
   exact ⟨_, rfl, ⟨_, rfl, strSl_nil V0⟩, ((Below.refl W.heap.size W).alloc (Nat.le_refl _) _).alloc (by simp) _⟩
 · have kz : ((W.alloc (.cells us.toArray 53)).alloc (.cells [.int .i64 0, .bool false, .string ⟨#[]⟩, .slice none 0 0].toArray 72)).cell? ⟨W.heap.size, 4, none⟩ = some (.int .i64 u.w) := (hZ.cell 4).trans (by rw [hvs.out]; rfl)
   go_enter Tryz.func66, Tryz.ntmps66
   go_wp2_with fail
   refine bodyPost_ret (results_agg_one rfl rfl Tryz.isAgg72 Tryz.sizeOf72 ((Blk.new (W.alloc (.cells us.toArray 53)) [.int .i64 u.w, .bool false, .string ⟨#[]⟩, .slice none 0 0] 72).at (World.size_alloc _ _)) rfl) rfl ?_
   exact ⟨_, rfl, ⟨_, rfl, strSl_nil V0⟩, ((Below.refl W.heap.size W).alloc (Nat.le_refl _) _).alloc (by simp) _⟩
 · have kz : ((W.alloc (.cells us.toArray 53)).alloc (.cells [.int .i64 0, .bool false, .string ⟨#[]⟩, .slice none 0 0].toArray 72)).cell? ⟨W.heap.size, 5, none⟩ = some (.int .i64 u.h) := (hZ.cell 5).trans (by rw [hvs.out]; rfl)
   go_enter Tryz.func66, Tryz.ntmps66
   go_wp2_with fail
   refine bodyPost_ret (results_agg_one rfl rfl Tryz.isAgg72 Tryz.sizeOf72 ((Blk.new (W.alloc (.cells us.toArray 53)) [.int .i64 u.h, .bool false, .string ⟨#[]⟩, .slice none 0 0] 72).at (World.size_alloc _ _)) rfl) rfl ?_
   exact ⟨_, rfl, ⟨_, rfl, strSl_nil V0⟩, ((Below.refl W.heap.size W).alloc (Nat.le_refl _) _).alloc (by simp) _⟩
 · have kz : ((W.alloc (.cells us.toArray 53)).alloc (.cells [.int .i64 0, .bool false, .string ⟨#[]⟩, .slice none 0 0].toArray 72)).cell? ⟨W.heap.size, 6, none⟩ = some (.int .i64 u.rad) := (hZ.cell 6).trans (by rw [hvs.out]; rfl)
   go_enter Tryz.func66, Tryz.ntmps66
   go_wp2_with fail
   refine bodyPost_ret (results_agg_one rfl rfl Tryz.isAgg72 Tryz.sizeOf72 ((Blk.new (W.alloc (.cells us.toArray 53)) [.int .i64 u.rad, .bool false, .string ⟨#[]⟩, .slice none 0 0] 72).at (World.size_alloc _ _)) rfl) rfl ?_
   exact ⟨_, rfl, ⟨_, rfl, strSl_nil V0⟩, ((Below.refl W.heap.size W).alloc (Nat.le_refl _) _).alloc (by simp) _⟩
 · have kz : ((W.alloc (.cells us.toArray 53)).alloc (.cells [.int .i64 0, .bool false, .string ⟨#[]⟩, .slice none 0 0].toArray 72)).cell? ⟨W.heap.size, 7, none⟩ = some (.int .i64 u.spd) := (hZ.cell 7).trans (by rw [hvs.out]; rfl)
   go_enter Tryz.func66, Tryz.ntmps66
   go_wp2_with fail
   refine bodyPost_ret (results_agg_one rfl rfl Tryz.isAgg72 Tryz.sizeOf72 ((Blk.new (W.alloc (.cells us.toArray 53)) [.int .i64 u.spd, .bool false, .string ⟨#[]⟩, .slice none 0 0] 72).at (World.size_alloc _ _)) rfl) rfl ?_
   exact ⟨_, rfl, ⟨_, rfl, strSl_nil V0⟩, ((Below.refl W.heap.size W).alloc (Nat.le_refl _) _).alloc (by simp) _⟩
 · have kz : ((W.alloc (.cells us.toArray 53)).alloc (.cells [.int .i64 0, .bool false, .string ⟨#[]⟩, .slice none 0 0].toArray 72)).cell? ⟨W.heap.size, 8, none⟩ = some (.int .i64 u.sgt) := (hZ.cell 8).trans (by rw [hvs.out]; rfl)
   go_enter Tryz.func66, Tryz.ntmps66
   go_wp2_with fail
   refine bodyPost_ret (results_agg_one rfl rfl Tryz.isAgg72 Tryz.sizeOf72 ((Blk.new (W.alloc (.cells us.toArray 53)) [.int .i64 u.sgt, .bool false, .string ⟨#[]⟩, .slice none 0 0] 72).at (World.size_alloc _ _)) rfl) rfl ?_
   exact ⟨_, rfl, ⟨_, rfl, strSl_nil V0⟩, ((Below.refl W.heap.size W).alloc (Nat.le_refl _) _).alloc (by simp) _⟩
 · have kz : ((W.alloc (.cells us.toArray 53)).alloc (.cells [.int .i64 0, .bool false, .string ⟨#[]⟩, .slice none 0 0].toArray 72)).cell? ⟨W.heap.size, 9, none⟩ = some (.int .i64 u.hp) := (hZ.cell 9).trans (by rw [hvs.out]; rfl)
   go_enter Tryz.func66, Tryz.ntmps66
   go_wp2_with fail
   refine bodyPost_ret (results_agg_one rfl rfl Tryz.isAgg72 Tryz.sizeOf72 ((Blk.new (W.alloc (.cells us.toArray 53)) [.int .i64 u.hp, .bool false, .string ⟨#[]⟩, .slice none 0 0] 72).at (World.size_alloc _ _)) rfl) rfl ?_
   exact ⟨_, rfl, ⟨_, rfl, strSl_nil V0⟩, ((Below.refl W.heap.size W).alloc (Nat.le_refl _) _).alloc (by simp) _⟩
 · have kz : ((W.alloc (.cells us.toArray 53)).alloc (.cells [.int .i64 0, .bool false, .string ⟨#[]⟩, .slice none 0 0].toArray 72)).cell? ⟨W.heap.size, 10, none⟩ = some (.int .i64 u.arm) := (hZ.cell 10).trans (by rw [hvs.out]; rfl)
   go_enter Tryz.func66, Tryz.ntmps66
   go_wp2_with fail
   refine bodyPost_ret (results_agg_one rfl rfl Tryz.isAgg72 Tryz.sizeOf72 ((Blk.new (W.alloc (.cells us.toArray 53)) [.int .i64 u.arm, .bool false, .string ⟨#[]⟩, .slice none 0 0] 72).at (World.size_alloc _ _)) rfl) rfl ?_
   exact ⟨_, rfl, ⟨_, rfl, strSl_nil V0⟩, ((Below.refl W.heap.size W).alloc (Nat.le_refl _) _).alloc (by simp) _⟩
 · have kz : ((W.alloc (.cells us.toArray 53)).alloc (.cells [.int .i64 0, .bool false, .string ⟨#[]⟩, .slice none 0 0].toArray 72)).cell? ⟨W.heap.size, 11, none⟩ = some (.int .i64 u.load) := (hZ.cell 11).trans (by rw [hvs.out]; rfl)
   go_enter Tryz.func66, Tryz.ntmps66
   go_wp2_with fail
   refine bodyPost_ret (results_agg_one rfl rfl Tryz.isAgg72 Tryz.sizeOf72 ((Blk.new (W.alloc (.cells us.toArray 53)) [.int .i64 u.load, .bool false, .string ⟨#[]⟩, .slice none 0 0] 72).at (World.size_alloc _ _)) rfl) rfl ?_
   exact ⟨_, rfl, ⟨_, rfl, strSl_nil V0⟩, ((Below.refl W.heap.size W).alloc (Nat.le_refl _) _).alloc (by simp) _⟩
 · have kz : ((W.alloc (.cells us.toArray 53)).alloc (.cells [.int .i64 0, .bool false, .string ⟨#[]⟩, .slice none 0 0].toArray 72)).cell? ⟨W.heap.size, 12, none⟩ = some (.string u.wpn) := (hZ.cell 12).trans (by rw [hvs.out]; rfl)
   go_enter Tryz.func66, Tryz.ntmps66
   go_wp2_with fail
   refine bodyPost_ret (results_agg_one rfl rfl Tryz.isAgg72 Tryz.sizeOf72 ((Blk.new (W.alloc (.cells us.toArray 53)) [.int .i64 0, .bool false, .string u.wpn, .slice none 0 0] 72).at (World.size_alloc _ _)) rfl) rfl ?_
   exact ⟨_, rfl, ⟨_, rfl, strSl_nil V0⟩, ((Below.refl W.heap.size W).alloc (Nat.le_refl _) _).alloc (by simp) _⟩
 · have kz : ((W.alloc (.cells us.toArray 53)).alloc (.cells [.int .i64 0, .bool false, .string ⟨#[]⟩, .slice none 0 0].toArray 72)).cell? ⟨W.heap.size, 13, none⟩ = some (.int .i64 u.ore) := (hZ.cell 13).trans (by rw [hvs.out]; rfl)
   go_enter Tryz.func66, Tryz.ntmps66
   go_wp2_with fail
   refine bodyPost_ret (results_agg_one rfl rfl Tryz.isAgg72 Tryz.sizeOf72 ((Blk.new (W.alloc (.cells us.toArray 53)) [.int .i64 u.ore, .bool false, .string ⟨#[]⟩, .slice none 0 0] 72).at (World.size_alloc _ _)) rfl) rfl ?_
   exact ⟨_, rfl, ⟨_, rfl, strSl_nil V0⟩, ((Below.refl W.heap.size W).alloc (Nat.le_refl _) _).alloc (by simp) _⟩
 · have kz : ((W.alloc (.cells us.toArray 53)).alloc (.cells [.int .i64 0, .bool false, .string ⟨#[]⟩, .slice none 0 0].toArray 72)).cell? ⟨W.heap.size, 14, none⟩ = some (.int .i64 u.wood) := (hZ.cell 14).trans (by rw [hvs.out]; rfl)
   go_enter Tryz.func66, Tryz.ntmps66
   go_wp2_with fail
   refine bodyPost_ret (results_agg_one rfl rfl Tryz.isAgg72 Tryz.sizeOf72 ((Blk.new (W.alloc (.cells us.toArray 53)) [.int .i64 u.wood, .bool false, .string ⟨#[]⟩, .slice none 0 0] 72).at (World.size_alloc _ _)) rfl) rfl ?_
   exact ⟨_, rfl, ⟨_, rfl, strSl_nil V0⟩, ((Below.refl W.heap.size W).alloc (Nat.le_refl _) _).alloc (by simp) _⟩
 · have kz : ((W.alloc (.cells us.toArray 53)).alloc (.cells [.int .i64 0, .bool false, .string ⟨#[]⟩, .slice none 0 0].toArray 72)).cell? ⟨W.heap.size, 15, none⟩ = some (.int .i64 u.time) := (hZ.cell 15).trans (by rw [hvs.out]; rfl)
   go_enter Tryz.func66, Tryz.ntmps66
   go_wp2_with fail
   refine bodyPost_ret (results_agg_one rfl rfl Tryz.isAgg72 Tryz.sizeOf72 ((Blk.new (W.alloc (.cells us.toArray 53)) [.int .i64 u.time, .bool false, .string ⟨#[]⟩, .slice none 0 0] 72).at (World.size_alloc _ _)) rfl) rfl ?_
   exact ⟨_, rfl, ⟨_, rfl, strSl_nil V0⟩, ((Below.refl W.heap.size W).alloc (Nat.le_refl _) _).alloc (by simp) _⟩
 · have kz : ((W.alloc (.cells us.toArray 53)).alloc (.cells [.int .i64 0, .bool false, .string ⟨#[]⟩, .slice none 0 0].toArray 72)).cell? ⟨W.heap.size, 16, none⟩ = some (.slice pn u.needs.length cn) := (hZ.cell 16).trans (by rw [hvs.out]; rfl)
   go_enter Tryz.func66, Tryz.ntmps66
   go_wp2_with fail
   refine bodyPost_ret (results_agg_one rfl rfl Tryz.isAgg72 Tryz.sizeOf72 ((Blk.new (W.alloc (.cells us.toArray 53)) [.int .i64 0, .bool false, .string ⟨#[]⟩, .slice pn u.needs.length cn] 72).at (World.size_alloc _ _)) rfl) rfl ?_
   exact ⟨_, rfl, ⟨_, rfl, q_needs⟩, ((Below.refl W.heap.size W).alloc (Nat.le_refl _) _).alloc (by simp) _⟩
 · have kz : ((W.alloc (.cells us.toArray 53)).alloc (.cells [.int .i64 0, .bool false, .string ⟨#[]⟩, .slice none 0 0].toArray 72)).cell? ⟨W.heap.size, 17, none⟩ = some (.slice pt u.trains.length ct) := (hZ.cell 17).trans (by rw [hvs.out]; rfl)
   go_enter Tryz.func66, Tryz.ntmps66
   go_wp2_with fail
   refine bodyPost_ret (results_agg_one rfl rfl Tryz.isAgg72 Tryz.sizeOf72 ((Blk.new (W.alloc (.cells us.toArray 53)) [.int .i64 0, .bool false, .string ⟨#[]⟩, .slice pt u.trains.length ct] 72).at (World.size_alloc _ _)) rfl) rfl ?_
   exact ⟨_, rfl, ⟨_, rfl, q_trains⟩, ((Below.refl W.heap.size W).alloc (Nat.le_refl _) _).alloc (by simp) _⟩
 · have kz : ((W.alloc (.cells us.toArray 53)).alloc (.cells [.int .i64 0, .bool false, .string ⟨#[]⟩, .slice none 0 0].toArray 72)).cell? ⟨W.heap.size, 18, none⟩ = some (.slice pr u.ress.length cr) := (hZ.cell 18).trans (by rw [hvs.out]; rfl)
   go_enter Tryz.func66, Tryz.ntmps66
   go_wp2_with fail
   refine bodyPost_ret (results_agg_one rfl rfl Tryz.isAgg72 Tryz.sizeOf72 ((Blk.new (W.alloc (.cells us.toArray 53)) [.int .i64 0, .bool false, .string ⟨#[]⟩, .slice pr u.ress.length cr] 72).at (World.size_alloc _ _)) rfl) rfl ?_
   exact ⟨_, rfl, ⟨_, rfl, q_ress⟩, ((Below.refl W.heap.size W).alloc (Nat.le_refl _) _).alloc (by simp) _⟩
set_option maxHeartbeats 8000000 in
set_option maxRecDepth 100000 in
theorem r10ofT_b (u : T9) (us : List Value) (f : ByteArray) (V0 W : World) (hU : TL V0 us u) (hf : f ∈ fieldsv 3) : Calls Tryz.prog 68 #[.agg us.toArray, .string f] W (ValPost (ofTv u f) V0 W) := by
 have hZ := (Blk.new W us 56).alloc (.cells [.int .i64 0, .bool false, .string ⟨#[]⟩, .slice none 0 0].toArray 72)
 have hY := (Blk.new (W.alloc (.cells us.toArray 56)) [.int .i64 0, .bool false, .string ⟨#[]⟩, .slice none 0 0] 72).at (World.size_alloc _ _)
 have hL := ((Below.refl W.heap.size W).alloc (Nat.le_refl _) (.cells us.toArray 56)).alloc (by simp) (.cells [.int .i64 0, .bool false, .string ⟨#[]⟩, .slice none 0 0].toArray 72)
 obtain ⟨sn, hvs, q_needs⟩ := hU
 obtain ⟨pn, cn, rfl, -⟩ := id q_needs
 replace hvs := hid hvs
 rw [fieldsT] at hf
 simp only [List.mem_cons, List.not_mem_nil, or_false] at hf
 rcases hf with rfl | rfl | rfl | rfl | rfl | rfl | rfl
 · have kz : ((W.alloc (.cells us.toArray 56)).alloc (.cells [.int .i64 0, .bool false, .string ⟨#[]⟩, .slice none 0 0].toArray 72)).cell? ⟨W.heap.size, 1, none⟩ = some (.slice pn u.needs.length cn) := (hZ.cell 1).trans (by rw [hvs.out]; rfl)
   go_enter Tryz.func68, Tryz.ntmps68
   go_wp2_with fail
   refine bodyPost_ret (results_agg_one rfl rfl Tryz.isAgg72 Tryz.sizeOf72 ((Blk.new (W.alloc (.cells us.toArray 56)) [.int .i64 0, .bool false, .string ⟨#[]⟩, .slice pn u.needs.length cn] 72).at (World.size_alloc _ _)) rfl) rfl ?_
   exact ⟨_, rfl, ⟨_, rfl, q_needs⟩, ((Below.refl W.heap.size W).alloc (Nat.le_refl _) _).alloc (by simp) _⟩
 · have kz : ((W.alloc (.cells us.toArray 56)).alloc (.cells [.int .i64 0, .bool false, .string ⟨#[]⟩, .slice none 0 0].toArray 72)).cell? ⟨W.heap.size, 2, none⟩ = some (.int .i64 u.ore) := (hZ.cell 2).trans (by rw [hvs.out]; rfl)
   go_enter Tryz.func68, Tryz.ntmps68
   go_wp2_with fail
   refine bodyPost_ret (results_agg_one rfl rfl Tryz.isAgg72 Tryz.sizeOf72 ((Blk.new (W.alloc (.cells us.toArray 56)) [.int .i64 u.ore, .bool false, .string ⟨#[]⟩, .slice none 0 0] 72).at (World.size_alloc _ _)) rfl) rfl ?_
   exact ⟨_, rfl, ⟨_, rfl, strSl_nil V0⟩, ((Below.refl W.heap.size W).alloc (Nat.le_refl _) _).alloc (by simp) _⟩
 · have kz : ((W.alloc (.cells us.toArray 56)).alloc (.cells [.int .i64 0, .bool false, .string ⟨#[]⟩, .slice none 0 0].toArray 72)).cell? ⟨W.heap.size, 3, none⟩ = some (.int .i64 u.wood) := (hZ.cell 3).trans (by rw [hvs.out]; rfl)
   go_enter Tryz.func68, Tryz.ntmps68
   go_wp2_with fail
   refine bodyPost_ret (results_agg_one rfl rfl Tryz.isAgg72 Tryz.sizeOf72 ((Blk.new (W.alloc (.cells us.toArray 56)) [.int .i64 u.wood, .bool false, .string ⟨#[]⟩, .slice none 0 0] 72).at (World.size_alloc _ _)) rfl) rfl ?_
   exact ⟨_, rfl, ⟨_, rfl, strSl_nil V0⟩, ((Below.refl W.heap.size W).alloc (Nat.le_refl _) _).alloc (by simp) _⟩
 · have kz : ((W.alloc (.cells us.toArray 56)).alloc (.cells [.int .i64 0, .bool false, .string ⟨#[]⟩, .slice none 0 0].toArray 72)).cell? ⟨W.heap.size, 4, none⟩ = some (.int .i64 u.time) := (hZ.cell 4).trans (by rw [hvs.out]; rfl)
   go_enter Tryz.func68, Tryz.ntmps68
   go_wp2_with fail
   refine bodyPost_ret (results_agg_one rfl rfl Tryz.isAgg72 Tryz.sizeOf72 ((Blk.new (W.alloc (.cells us.toArray 56)) [.int .i64 u.time, .bool false, .string ⟨#[]⟩, .slice none 0 0] 72).at (World.size_alloc _ _)) rfl) rfl ?_
   exact ⟨_, rfl, ⟨_, rfl, strSl_nil V0⟩, ((Below.refl W.heap.size W).alloc (Nat.le_refl _) _).alloc (by simp) _⟩
 · have kz : ((W.alloc (.cells us.toArray 56)).alloc (.cells [.int .i64 0, .bool false, .string ⟨#[]⟩, .slice none 0 0].toArray 72)).cell? ⟨W.heap.size, 5, none⟩ = some (.string u.un) := (hZ.cell 5).trans (by rw [hvs.out]; rfl)
   go_enter Tryz.func68, Tryz.ntmps68
   go_wp2_with fail
   refine bodyPost_ret (results_agg_one rfl rfl Tryz.isAgg72 Tryz.sizeOf72 ((Blk.new (W.alloc (.cells us.toArray 56)) [.int .i64 0, .bool false, .string u.un, .slice none 0 0] 72).at (World.size_alloc _ _)) rfl) rfl ?_
   exact ⟨_, rfl, ⟨_, rfl, strSl_nil V0⟩, ((Below.refl W.heap.size W).alloc (Nat.le_refl _) _).alloc (by simp) _⟩
 · have kz : ((W.alloc (.cells us.toArray 56)).alloc (.cells [.int .i64 0, .bool false, .string ⟨#[]⟩, .slice none 0 0].toArray 72)).cell? ⟨W.heap.size, 6, none⟩ = some (.int .i64 u.stat) := (hZ.cell 6).trans (by rw [hvs.out]; rfl)
   go_enter Tryz.func68, Tryz.ntmps68
   go_wp2_with fail
   refine bodyPost_ret (results_agg_one rfl rfl Tryz.isAgg72 Tryz.sizeOf72 ((Blk.new (W.alloc (.cells us.toArray 56)) [.int .i64 u.stat, .bool false, .string ⟨#[]⟩, .slice none 0 0] 72).at (World.size_alloc _ _)) rfl) rfl ?_
   exact ⟨_, rfl, ⟨_, rfl, strSl_nil V0⟩, ((Below.refl W.heap.size W).alloc (Nat.le_refl _) _).alloc (by simp) _⟩
 · have kz : ((W.alloc (.cells us.toArray 56)).alloc (.cells [.int .i64 0, .bool false, .string ⟨#[]⟩, .slice none 0 0].toArray 72)).cell? ⟨W.heap.size, 7, none⟩ = some (.int .i64 u.amt) := (hZ.cell 7).trans (by rw [hvs.out]; rfl)
   go_enter Tryz.func68, Tryz.ntmps68
   go_wp2_with fail
   refine bodyPost_ret (results_agg_one rfl rfl Tryz.isAgg72 Tryz.sizeOf72 ((Blk.new (W.alloc (.cells us.toArray 56)) [.int .i64 u.amt, .bool false, .string ⟨#[]⟩, .slice none 0 0] 72).at (World.size_alloc _ _)) rfl) rfl ?_
   exact ⟨_, rfl, ⟨_, rfl, strSl_nil V0⟩, ((Below.refl W.heap.size W).alloc (Nat.le_refl _) _).alloc (by simp) _⟩
end
section
open Go.RowKit Go.Lib
theorem join_snoc (x : ByteArray) : ∀ l : List ByteArray, ¬ l = [] → joinC (l ++ [x]) = joinC l ++ 44 :: x.toList
 | [], h => absurd rfl h
 | [a], _ => rfl
 | a :: b :: l, _ => by
  rw [List.cons_append, List.cons_append, joinC, ← List.cons_append, join_snoc x (b :: l) (by simp), joinC]
  simp
theorem join_le (l : List ByteArray) (i : Nat) : (joinC (l.take i)).length ≤ (joinC l).length := by
 induction l generalizing i with
 | nil => simp [joinC]
 | cons a l ih =>
  cases i with
  | zero => simp [joinC]
  | succ i =>
   cases l with
   | nil => simp [joinC]
   | cons b l =>
    cases i with
    | zero => simp [joinC]
    | succ i =>
     have := ih (i + 1)
     rw [List.take_succ_cons] at this
     rw [List.take_succ_cons, List.take_succ_cons, joinC, joinC, List.length_append, List.length_append, List.length_cons, List.length_cons]
     omega
set_option maxHeartbeats 8000000 in
set_option maxRecDepth 100000 in
theorem r10text_b (t : Int) (v : V10) (vs : List Value) (V0 W : World) (hV : VL V0 vs v) (h0 : Below V0.heap.size V0 W) (hn : t = 1 → -9223372036854775808 ≤ v.n ∧ v.n ≤ 9223372036854775807) (hsz : (textL t v).length ≤ 4000000) :
 Calls Tryz.prog 31 #[.int .i64 t, .agg vs.toArray] W fun e w' => e = .returned (.string (toB (textL t v))) ∧ Below W.heap.size W w' := by
 obtain ⟨n, b, s, l⟩ := v
 obtain ⟨sl, rfl, hs⟩ := hV
 obtain ⟨p, c, rfl, hm, hat⟩ := id hs
 dsimp only at hn hs hm hat ⊢
 unfold maxLen at hm
 have hX := Blk.new W [.int .i64 n, .bool b, .string s, .slice p l.length c] 72
 have hL := (Below.refl W.heap.size W).alloc (Nat.le_refl _) (.cells [.int .i64 n, .bool b, .string s, .slice p l.length c].toArray 72)
 have x0 := hX.cell 0
 have x1 := hX.cell 1
 have x2 := hX.cell 2
 have x3 := hX.cell 3
 simp only [List.getElem?_cons_zero, List.getElem?_cons_succ] at x0 x1 x2 x3
 by_cases h1 : t = 1
 · subst h1
   obtain ⟨n1, n2⟩ := hn rfl
   go_enter Tryz.func31, Tryz.ntmps31
   go_wp2_with fail
   ((with_reducible refine (r10dec_b n _ n1 n2).mono ?_); rintro e w1 ⟨rfl, hb⟩)
   go_wp2_with fail
   go_ret
   exact ⟨rfl, below_call hL hb⟩
 have z1 : (t == 1) = false := beq_eq_false_iff_ne.2 h1
 by_cases h2 : t = 2
 · subst h2
   cases b with
   | true =>
    go_enter Tryz.func31, Tryz.ntmps31
    go_wp2_with fail
    go_ret
    exact ⟨rfl, hL⟩
   | false =>
    go_enter Tryz.func31, Tryz.ntmps31
    go_wp2_with fail
    go_ret
    exact ⟨rfl, hL⟩
 have z2 : (t == 2) = false := beq_eq_false_iff_ne.2 h2
 by_cases h3 : t = 3
 · subst h3
   by_cases hd : s = ⟨#[]⟩
   · subst hd
     go_enter Tryz.func31, Tryz.ntmps31
     go_wp2_with fail
     go_ret
     exact ⟨rfl, hL⟩
   · obtain ⟨a1, a2⟩ := lit_two (l := []) hd
     have hT : toB (textL 3 ⟨n, b, s, l⟩) = s := by
      show toB (if s = ⟨#[]⟩ then dashB else s.toList) = s
      rw [if_neg hd, list_toB]
     rw [hT]
     clear hT hsz
     have a3 : (s.toList).isEmpty = false := by simpa using a2
     go_enter Tryz.func31, Tryz.ntmps31
     go_wp2_with fail
     go_ret
     exact ⟨rfl, hL⟩
 have z3 : (t == 3) = false := beq_eq_false_iff_ne.2 h3
 have hT : textL t ⟨n, b, s, l⟩ = if l = [] then dashB else joinC l := by
  unfold textL
  rw [if_neg h1, if_neg h2, if_neg h3]
 rw [hT] at hsz ⊢
 clear hT hn x0 x1 x2
 by_cases hd : l = []
 · subst hd
   go_enter Tryz.func31, Tryz.ntmps31
   go_wp2_with fail
   go_ret
   exact ⟨rfl, hL⟩
 · rw [if_neg hd] at hsz ⊢
   have hl1 : 0 < l.length := List.length_pos_iff.2 hd
   obtain ⟨g, o, rfl, hc⟩ := hat hl1
   have e0 : ((l.length : Int) == 0) = false := beq_eq_false_iff_ne.2 (by omega)
   have d0 : (0 : Int) < l.length := by omega
   have hcW := fun i (hi : i < l.length) => ((h0.trans (hL.mono h0.size)).cell (p := ⟨g, o + i, none⟩) (World.block_lt_of_cell? V0 _ (hc i hi))).trans (hc i hi)
   have k0 := hcW 0 hl1
   have hj1 : toB (joinC (l.take 1)) = l[0]'hl1 := by
    rw [List.take_one, List.head?_eq_getElem?, List.getElem?_eq_getElem hl1]
    exact list_toB _
   obtain ⟨x, hx⟩ : ∃ x, l[0]'hl1 = x := ⟨_, rfl⟩
   rw [hx] at k0 hj1
   rw [Nat.add_zero] at k0
   replace hd := hid hd
   clear hx hat hc
   replace hcW := hid hcW
   go_enter Tryz.func31, Tryz.ntmps31
   go_wp2_with fail
   clear e0 k0
   replace hj1 := hid hj1.symm
   go_loop [5, 6] (fun vs vi => ∃ (i : Nat) (y : ByteArray), vs = .string y ∧ vi = .int .i64 (i + 1) ∧ i + 1 ≤ l.length ∧ Hid (y = toB (joinC (l.take (i + 1))))) (fun _ vi => l.length - (RowKit.intOf vi).toNat)
   case atStart => exact ⟨0, x, rfl, rfl, by omega, hj1⟩
   case round =>
    obtain ⟨i, y, rfl, rfl, hi, hA⟩ := hrel
    by_cases hlt : i + 1 < l.length
    · have d1 : (i : Int) + 1 < l.length := by omega
      have d2 : (0 : Int) ≤ (i : Int) + 1 := by omega
      have k1 := hcW.out (i + 1) hlt
      have hy := join_le l (i + 1)
      have hz := join_le l (i + 2)
      have hE : toB (joinC (l.take (i + 2))) = y ++ ((ByteArray.mk #[44]) ++ l[i + 1]'hlt) := by
       rw [hA.out, List.take_succ_eq_append_getElem hlt, join_snoc _ _ (fun e => by have h9 := congrArg List.length e; rw [List.length_take] at h9; simp only [List.length_nil] at h9; omega), ← cat_toB]
       congr 1
       rw [show (44 :: (l[i + 1]'hlt).toList) = [44] ++ (l[i + 1]'hlt).toList from rfl, ← cat_toB, list_toB]
       rfl
      have hs1 : y.size ≤ 4000000 := by rw [hA.out, size_toB]; omega
      have hs2 : (l[i + 1]'hlt).size ≤ 4000000 := by
       have h9 := congrArg ByteArray.size hE
       rw [size_toB, ByteArray.size_append, ByteArray.size_append] at h9
       omega
      obtain ⟨x2, hx2⟩ : ∃ x, l[i + 1]'hlt = x := ⟨_, rfl⟩
      rw [hx2] at k1 hE hs2
      replace hE := hid hE
      clear hx2 hA hy hz
      go_wp2_with fail
      go_round
      case rel => exact ⟨i + 1, _, rfl, by go_num, by omega, hid hE.out.symm⟩
      case measure => simp [RowKit.intOf]; omega
    · have d1 : ¬ (i : Int) + 1 < l.length := by omega
      have hT : y = toB (joinC l) := by rw [hA.out, List.take_of_length_le (by omega)]
      replace hT := hid hT
      clear hA hcW hj1
      go_wp2_with fail
      go_ret
      exact ⟨congrArg (fun z => Ending.returned (.string z)) hT.out, hL⟩
end
section
open Go.RowKit Go.Lib
set_option maxHeartbeats 8000000 in
set_option maxRecDepth 100000 in
theorem r10value_b (su sw st : Value) (r : R9) (k : Int) (i : Nat) (f : ByteArray) (V0 W : World) (hR : RAt V0 su sw st r) (h0 : Below V0.heap.size V0 W) (hf : f ∈ fieldsv k) (hi : i < (namesK r k).length) :
 Calls Tryz.prog 32 #[.agg #[su, sw, st], .int .i64 k, .int .i64 i, .string f] W (ValPost (valueK r k i f) V0 W) := by
 obtain ⟨n1, n2, n3⟩ := names_len r
 obtain ⟨p, c, rfl, hm, hat⟩ := hR.u
 obtain ⟨p1, c1, rfl, hm1, hat1⟩ := hR.w
 obtain ⟨p2, c2, rfl, hm2, hat2⟩ := hR.t
 have hB := (Blk.new W [.slice p r.us.length c, .slice p1 r.ws.length c1, .slice p2 r.ts.length c2] 31).alloc (.cells [.int .i64 0, .bool false, .string ⟨#[]⟩, .slice none 0 0].toArray 72)
 have hY := (Blk.new (W.alloc (.cells [.slice p r.us.length c, .slice p1 r.ws.length c1, .slice p2 r.ts.length c2].toArray 31)) [.int .i64 0, .bool false, .string ⟨#[]⟩, .slice none 0 0] 72).at (World.size_alloc _ _)
 have hL := ((Below.refl W.heap.size W).alloc (Nat.le_refl _) (.cells [.slice p r.us.length c, .slice p1 r.ws.length c1, .slice p2 r.ts.length c2].toArray 31)).alloc (by simp) (.cells [.int .i64 0, .bool false, .string ⟨#[]⟩, .slice none 0 0].toArray 72)
 unfold maxLen at hm hm1 hm2
 clear hR
 have b0 := hB.cell 0
 have b1 := hB.cell 1
 have b2 := hB.cell 2
 simp only [List.getElem?_cons_zero, List.getElem?_cons_succ] at b0 b1 b2
 have hkk := kind_of hf
 rcases hkk with rfl | rfl | rfl
 · rw [n1] at hi
   have d0 : (0 : Int) ≤ i := by omega
   have d1 : (i : Int) < r.us.length := by omega
   obtain ⟨g, o, rfl, hc⟩ := hat (by omega)
   obtain ⟨vs, hU, hcs⟩ := (hc i hi).ul
   have hnm := hU.name
   have hV : valueK r 1 i f = ofUv (r.us[i]'hi) f := by
    show ofUv (r.us.getD i U9.zero) f = _
    rw [List.getD_eq_getElem?_getD, List.getElem?_eq_getElem hi]
    rfl
   rw [hV]
   obtain ⟨u, hu⟩ : ∃ u, r.us[i]'hi = u := ⟨_, rfl⟩
   rw [hu] at hU ⊢
   have kl := hid ((hcs.below' (hcs.lt' hnm) (h0.trans (hL.mono h0.size))).loads (P := Tryz.prog) hU.len)
   clear hV hu hc hcs hnm hat hat1 hat2
   go_enter Tryz.func32, Tryz.ntmps32
   go_upto_region 1 with fail
   generalize (W.alloc (.cells [.slice (some ⟨g, o, none⟩) r.us.length c, .slice p1 r.ws.length c1, .slice p2 r.ts.length c2].toArray 31)).alloc (.cells [.int .i64 0, .bool false, .string ⟨#[]⟩, .slice none 0 0].toArray 72) = V at *
   go_wp2_with (with_reducible refine wpList_load_agg rfl 53 _ rfl ⟨g, o + i * 19, none⟩ (by with_unfolding_all rfl) Tryz.isAgg53 Tryz.sizeOf53 vs kl.out ?_)
   ((with_reducible refine (r10ofU_b u vs f V0 _ hU hf).mono ?_); rintro e w1 ⟨ws, rfl, hv, hb⟩)
   obtain ⟨sl, rfl, hs⟩ := hv
   obtain ⟨ps, cs, rfl, -⟩ := id hs
   replace hY := hY.below hb
   replace hL := below_call hL hb
   clear hb kl b0 b1 b2
   obtain ⟨_, _, _, _, _, _, _, _⟩ := hY.four
   go_wp2_with fail
   refine bodyPost_ret (results_agg_one rfl rfl Tryz.isAgg72 Tryz.sizeOf72 (hY.put4 _ _ _ _) rfl) rfl ?_
   exact ⟨_, rfl, ⟨_, rfl, hs⟩, ((((hL.setCell (by simp) _).setCell (by simp) _).setCell (by simp) _).setCell (by simp) _)⟩
 · rw [n2] at hi
   have d0 : (0 : Int) ≤ i := by omega
   have d1 : (i : Int) < r.ws.length := by omega
   obtain ⟨g, o, rfl, hc⟩ := hat1 (by omega)
   obtain ⟨vs, hU, hcs⟩ : ∃ vs, WL vs (r.ws[i]'hi) ∧ CellsAt V0 g (o + i * 6) vs := ⟨_, rfl, hc i hi⟩
   have hnm : vs[0]? = some (.string (r.ws[i]'hi).nm) := by rw [show vs = wCells _ from hU]; rfl
   have hV : valueK r 2 i f = ofWv (r.ws[i]'hi) f := by
    show ofWv (r.ws.getD i W9.zero) f = _
    rw [List.getD_eq_getElem?_getD, List.getElem?_eq_getElem hi]
    rfl
   rw [hV]
   obtain ⟨u, hu⟩ : ∃ u, r.ws[i]'hi = u := ⟨_, rfl⟩
   rw [hu] at hU ⊢
   have kl := hid ((hcs.below' (hcs.lt' hnm) (h0.trans (hL.mono h0.size))).loads (P := Tryz.prog) hU.len)
   clear hV hu hc hcs hnm hat hat1 hat2
   go_enter Tryz.func32, Tryz.ntmps32
   go_upto_region 1 with fail
   generalize (W.alloc (.cells [.slice p r.us.length c, .slice (some ⟨g, o, none⟩) r.ws.length c1, .slice p2 r.ts.length c2].toArray 31)).alloc (.cells [.int .i64 0, .bool false, .string ⟨#[]⟩, .slice none 0 0].toArray 72) = V at *
   go_wp2_with (with_reducible refine wpList_load_agg rfl 51 _ rfl ⟨g, o + i * 6, none⟩ (by with_unfolding_all rfl) Tryz.isAgg51 Tryz.sizeOf51 vs kl.out ?_)
   ((with_reducible refine (r10ofW_b u vs f V0 _ hU hf).mono ?_); rintro e w1 ⟨ws, rfl, hv, hb⟩)
   obtain ⟨sl, rfl, hs⟩ := hv
   obtain ⟨ps, cs, rfl, -⟩ := id hs
   replace hY := hY.below hb
   replace hL := below_call hL hb
   clear hb kl b0 b1 b2
   obtain ⟨_, _, _, _, _, _, _, _⟩ := hY.four
   go_wp2_with fail
   refine bodyPost_ret (results_agg_one rfl rfl Tryz.isAgg72 Tryz.sizeOf72 (hY.put4 _ _ _ _) rfl) rfl ?_
   exact ⟨_, rfl, ⟨_, rfl, hs⟩, ((((hL.setCell (by simp) _).setCell (by simp) _).setCell (by simp) _).setCell (by simp) _)⟩
 · rw [n3] at hi
   have d0 : (0 : Int) ≤ i := by omega
   have d1 : (i : Int) < r.ts.length := by omega
   obtain ⟨g, o, rfl, hc⟩ := hat2 (by omega)
   obtain ⟨vs, hU, hcs⟩ := (hc i hi).tl
   have hnm := hU.name
   have hV : valueK r 3 i f = ofTv (r.ts[i]'hi) f := by
    show ofTv (r.ts.getD i T9.zero) f = _
    rw [List.getD_eq_getElem?_getD, List.getElem?_eq_getElem hi]
    rfl
   rw [hV]
   obtain ⟨u, hu⟩ : ∃ u, r.ts[i]'hi = u := ⟨_, rfl⟩
   rw [hu] at hU ⊢
   have kl := hid ((hcs.below' (hcs.lt' hnm) (h0.trans (hL.mono h0.size))).loads (P := Tryz.prog) hU.len)
   clear hV hu hc hcs hnm hat hat1 hat2
   go_enter Tryz.func32, Tryz.ntmps32
   go_upto_region 1 with fail
   generalize (W.alloc (.cells [.slice p r.us.length c, .slice p1 r.ws.length c1, .slice (some ⟨g, o, none⟩) r.ts.length c2].toArray 31)).alloc (.cells [.int .i64 0, .bool false, .string ⟨#[]⟩, .slice none 0 0].toArray 72) = V at *
   go_wp2_with (with_reducible refine wpList_load_agg rfl 56 _ rfl ⟨g, o + i * 8, none⟩ (by with_unfolding_all rfl) Tryz.isAgg56 Tryz.sizeOf56 vs kl.out ?_)
   ((with_reducible refine (r10ofT_b u vs f V0 _ hU hf).mono ?_); rintro e w1 ⟨ws, rfl, hv, hb⟩)
   obtain ⟨sl, rfl, hs⟩ := hv
   obtain ⟨ps, cs, rfl, -⟩ := id hs
   replace hY := hY.below hb
   replace hL := below_call hL hb
   clear hb kl b0 b1 b2
   obtain ⟨_, _, _, _, _, _, _, _⟩ := hY.four
   go_wp2_with fail
   refine bodyPost_ret (results_agg_one rfl rfl Tryz.isAgg72 Tryz.sizeOf72 (hY.put4 _ _ _ _) rfl) rfl ?_
   exact ⟨_, rfl, ⟨_, rfl, hs⟩, ((((hL.setCell (by simp) _).setCell (by simp) _).setCell (by simp) _).setCell (by simp) _)⟩
end
section
open Go.RowKit Go.Lib
theorem int_bd {n : Int} (h : int64v n) : -9223372036854775808 ≤ n ∧ n ≤ 9223372036854775807 := h
end

end Go.Proofs.YtnjcdmjaecgblaaGreatDoor
