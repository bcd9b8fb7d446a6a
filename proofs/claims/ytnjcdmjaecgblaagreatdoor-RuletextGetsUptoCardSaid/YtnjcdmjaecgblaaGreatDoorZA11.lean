/-
  What the functions of rules answer: numbers, names that are there, Unit, Weapon, Tech.
-/
import Derived.Test.YtnjcdmjaecgblaaGreatDoorZA06
namespace Go.Proofs.YtnjcdmjaecgblaaGreatDoor
section
section
open Go.RowKit Go.Lib
abbrev G9 := Int × Int × Int
def outv (x : G9) : Bool := !rngv x.1 x.2.1 x.2.2
def flat3 (l : List G9) : List Value := l.flatMap fun x => [.int .i64 x.1, .int .i64 x.2.1, .int .i64 x.2.2]
theorem flat3_len : ∀ l : List G9, (flat3 l).length = l.length * 3
 | [] => rfl
 | a :: l => by
  have := flat3_len l
  unfold flat3 at this ⊢
  rw [List.flatMap_cons, List.length_append, this]
  simp
  omega
theorem flat3_app (l m : List G9) : flat3 l ++ flat3 m = flat3 (l ++ m) := by unfold flat3; rw [List.flatMap_append]
theorem flat3_lone (l : List G9) : ∀ v ∈ flat3 l, v.oneCell' = true := by
 intro v hv
 unfold flat3 at hv
 obtain ⟨x, -, hx⟩ := List.mem_flatMap.1 hv
 simp only [List.mem_cons, List.not_mem_nil, or_false] at hx
 rcases hx with rfl | rfl | rfl <;> rfl
theorem flat3_at : ∀ {l : List G9} {i : Nat} (h : i < l.length), ((flat3 l).drop (i * 3)).take 3 = [.int .i64 (l[i]'h).1, .int .i64 (l[i]'h).2.1, .int .i64 (l[i]'h).2.2]
 | a :: l, 0, _ => rfl
 | a :: l, i + 1, h => by
  have ih := flat3_at (l := l) (i := i) (by simpa using h)
  rw [List.getElem_cons_succ, ← ih]
  unfold flat3
  rw [List.flatMap_cons, show (i + 1) * 3 = [Value.int .i64 a.1, .int .i64 a.2.1, .int .i64 a.2.2].length + i * 3 by simp; omega, List.drop_length_add_append]
theorem own_lit (w : World) (e : TypeId) (k n : Nat) (cs : List Value) (hl : cs.length = n * k) (hm : n ≤ maxLen) : (w.alloc (.cells cs.toArray e)).ownsRow w.heap.size e k (.slice (some ⟨w.heap.size, 0, none⟩) n n) n cs :=
 ⟨hl, .inr ⟨w.heap.size, n, cs.toArray, rfl, Nat.le_refl _, heap_alloc_new w _, Nat.le_refl _, hm, by simp [hl], by rw [← hl]; simp⟩⟩
set_option maxHeartbeats 2000000 in
theorem lout1_b (a lo hi : Int) (W : World) :
 Calls Tryz.prog 175 #[.agg [.int .i64 a, .int .i64 lo, .int .i64 hi].toArray] W fun e w' => e = .returned (.bool (!rngv a lo hi)) ∧ Below W.heap.size W w' := by
 have hB := Blk.new W [.int .i64 a, .int .i64 lo, .int .i64 hi] 192
 have hL := (Below.refl W.heap.size W).alloc (Nat.le_refl _) (.cells [.int .i64 a, .int .i64 lo, .int .i64 hi].toArray 192)
 have hr : (!rngv a lo hi) = (decide (a < lo) || decide (hi < a)) := by
  unfold rngv
  rw [Bool.eq_iff_iff]
  simp only [Bool.not_eq_true', decide_eq_false_iff_not, Bool.or_eq_true, decide_eq_true_eq]
  omega
 rw [hr]
 clear hr
 obtain ⟨q1, h1⟩ : ∃ q, decide (a < lo) = q := ⟨_, rfl⟩
 obtain ⟨q2, h2⟩ : ∃ q, decide (hi < a) = q := ⟨_, rfl⟩
 rw [h1, h2]
 go_enter Tryz.func175, Tryz.ntmps175
 go_upto_region 1 with fail
 generalize W.alloc (.cells [.int .i64 a, .int .i64 lo, .int .i64 hi].toArray 192) = X at *
 obtain ⟨_, _, _, _, _, _⟩ := hB.three
 cases q1
 all_goals
  go_wp2_with fail
  go_ret
  exact ⟨rfl, hL⟩
theorem eg_out : ∀ args w, (callFunc 175 args).run Tryz.prog w = .ok (.enter 175 args) w := enters_of Tryz.func175 (by kernel_rfl) rfl
theorem lout_b (v : Value) (l : List G9) (n B : Nat) (b : Bool) (W : World) (hown : W.ownsRow B 192 3 v n (flat3 l)) (hn : n = l.length) (hsm : n ≤ 100000) (e : Hid (b = l.any outv)) :
 Calls Tryz.prog 136 #[v] W fun e w' => e = .returned (.bool b) ∧ Below W.heap.size W w' := by
 have hr := own_row hown (by omega) (by decide)
 subst hn
 obtain ⟨q, c, rfl, -⟩ := id hr
 have hcon := lanyR_b _ l.length _ 175 #[] (fun i => match l[i]? with | some x => outv x | none => false) b W W hr (Below.refl _ _) eg_out (fun i hi w _ => by
  rw [flat3_at hi]
  simp only [List.getElem?_eq_getElem hi]
  exact lout1_b _ _ _ w) (hid (by rw [e.out]; exact (anyN_list fun i h => by simp only [List.getElem?_eq_getElem h]).symm))
 clear hr hown e
 go_enter Tryz.func136, Tryz.ntmps136
 go_wp2_with fail
 (refine hcon.mono ?_; rintro e w1 ⟨rfl, hb⟩)
 go_wp2_with fail
 go_ret
 exact ⟨rfl, hb⟩
def NumsPost (l : List G9) (w : World) (e : Ending) (w' : World) : Prop := ∃ v, e = .returned v ∧ w'.ownsRow (w.heap.size + 1) 192 3 v l.length (flat3 l) ∧ Below w.heap.size w w'
def wnums (w : W9) : List G9 := [(w.rng, 0, 8192), (w.dmg, 0, 100000), (w.cool, 0, 100000), (w.spd, 0, 512), (w.spl, 0, 1024)]
def tnums (t : T9) : List G9 := [(t.ore, 0, 100000), (t.wood, 0, 100000), (t.time, 0, 100000), (t.amt, 0, 100000), (t.stat, 1, 6)]
def unums1 (u : U9) : List G9 := [(u.sgt, 0, 16), (u.hp, 1, 100000), (u.arm, 0, 100000), (u.ore, 0, 100000), (u.wood, 0, 100000), (u.time, 0, 100000)]
def unums2 (u : U9) : List G9 := if u.bld then [(u.cls, 0, 0), (u.w, 1, 4), (u.h, 1, 4), (u.rad, 0, 0), (u.spd, 0, 0), (u.load, 0, 0)] else [(u.cls, 1, 3), (u.w, 0, 0), (u.h, 0, 0), (u.rad, 16, 128), (u.spd, 0, 256), (u.load, 0, 100000)]
set_option maxHeartbeats 2000000 in
set_option maxRecDepth 100000 in
theorem lnumsW_b (w : W9) (vs : List Value) (_V0 W : World) (hU : WL vs w) :
 Calls Tryz.prog 139 #[.agg vs.toArray] W (NumsPost (wnums w) W) := by
 have hB := Blk.new W vs 51
 have hL := (Below.refl W.heap.size W).alloc (Nat.le_refl _) (.cells vs.toArray 51)
 have hs : (W.alloc (.cells vs.toArray 51)).heap.size = W.heap.size + 1 := by simp
 obtain ⟨v1, v2, v3, v4, v5⟩ := hU.cells
 have z1 := (hB.cell 1).trans v1
 have z2 := (hB.cell 2).trans v2
 have z3 := (hB.cell 3).trans v3
 have z4 := (hB.cell 4).trans v4
 have z5 := (hB.cell 5).trans v5
 clear v1 v2 v3 v4 v5 hU
 go_enter Tryz.func139, Tryz.ntmps139
 go_upto_region 1 with fail
 have hsz := hs
 replace hsz := hid hsz
 clear hs
 generalize W.alloc (.cells vs.toArray 51) = X at *
 have hown := own_lit X 192 3 5 (flat3 (wnums w)) (by rw [flat3_len]; rfl) (by decide)
 go_wp2_with fail
 go_ret
 exact ⟨_, rfl, own_base hown (by rw [hsz.out]; exact Nat.le_refl _), hL.alloc hL.size _⟩
set_option maxHeartbeats 2000000 in
set_option maxRecDepth 100000 in
theorem lnumsT_b (t : T9) (vs : List Value) (V0 W : World) (hU : TL V0 vs t) :
 Calls Tryz.prog 141 #[.agg vs.toArray] W (NumsPost (tnums t) W) := by
 have hB := Blk.new W vs 56
 have hL := (Below.refl W.heap.size W).alloc (Nat.le_refl _) (.cells vs.toArray 56)
 have hs : (W.alloc (.cells vs.toArray 56)).heap.size = W.heap.size + 1 := by simp
 obtain ⟨v2, v3, v4, -, v6, v7⟩ := hU.cells
 have z2 := (hB.cell 2).trans v2
 have z3 := (hB.cell 3).trans v3
 have z4 := (hB.cell 4).trans v4
 have z7 := (hB.cell 7).trans v7
 have z6 := (hB.cell 6).trans v6
 clear v2 v3 v4 v7 v6 hU
 go_enter Tryz.func141, Tryz.ntmps141
 go_upto_region 1 with fail
 have hsz := hs
 replace hsz := hid hsz
 clear hs
 generalize W.alloc (.cells vs.toArray 56) = X at *
 have hown := own_lit X 192 3 5 (flat3 (tnums t)) (by rw [flat3_len]; rfl) (by decide)
 go_wp2_with fail
 go_ret
 exact ⟨_, rfl, own_base hown (by rw [hsz.out]; exact Nat.le_refl _), hL.alloc hL.size _⟩
theorem infoR9 : (Tryz.prog.info? 192).map (fun i => (i.zero, i.size, i.bytes)) = some (some (.agg #[.int .i64 0, .int .i64 0, .int .i64 0]), 3, 24) := by kernel_rfl
set_option maxHeartbeats 8000000 in
set_option maxRecDepth 100000 in
theorem lnumsU_b (u : U9) (vs : List Value) (V0 W : World) (hU : UL V0 vs u) :
 Calls Tryz.prog 137 #[.agg vs.toArray] W (NumsPost (unums1 u ++ unums2 u) W) := by
 obtain ⟨i0, hi0, hz0, hz1, hz2⟩ := info_cut9 infoR9
 have hB := Blk.new W vs 53
 have hL := (Below.refl W.heap.size W).alloc (Nat.le_refl _) (.cells vs.toArray 53)
 have hs : (W.alloc (.cells vs.toArray 53)).heap.size = W.heap.size + 1 := by simp
 obtain ⟨sn, st, sr, hvs, -⟩ := hU
 have z1 := (hB.cell 1).trans (show vs[1]? = some (.bool u.bld) by rw [hvs]; rfl)
 have z3 := (hB.cell 3).trans (show vs[3]? = some (.int .i64 u.cls) by rw [hvs]; rfl)
 have z4 := (hB.cell 4).trans (show vs[4]? = some (.int .i64 u.w) by rw [hvs]; rfl)
 have z5 := (hB.cell 5).trans (show vs[5]? = some (.int .i64 u.h) by rw [hvs]; rfl)
 have z6 := (hB.cell 6).trans (show vs[6]? = some (.int .i64 u.rad) by rw [hvs]; rfl)
 have z7 := (hB.cell 7).trans (show vs[7]? = some (.int .i64 u.spd) by rw [hvs]; rfl)
 have z8 := (hB.cell 8).trans (show vs[8]? = some (.int .i64 u.sgt) by rw [hvs]; rfl)
 have z9 := (hB.cell 9).trans (show vs[9]? = some (.int .i64 u.hp) by rw [hvs]; rfl)
 have z10 := (hB.cell 10).trans (show vs[10]? = some (.int .i64 u.arm) by rw [hvs]; rfl)
 have z11 := (hB.cell 11).trans (show vs[11]? = some (.int .i64 u.load) by rw [hvs]; rfl)
 have z13 := (hB.cell 13).trans (show vs[13]? = some (.int .i64 u.ore) by rw [hvs]; rfl)
 have z14 := (hB.cell 14).trans (show vs[14]? = some (.int .i64 u.wood) by rw [hvs]; rfl)
 have z15 := (hB.cell 15).trans (show vs[15]? = some (.int .i64 u.time) by rw [hvs]; rfl)
 clear hvs hB
 go_enter Tryz.func137, Tryz.ntmps137
 go_upto_region 1 with fail
 replace hs := hid hs
 generalize W.alloc (.cells vs.toArray 53) = X at *
 have hown := own_lit X 192 3 6 (flat3 (unums1 u)) (by rw [flat3_len]; rfl) (by decide)
 have hL2 := hL.alloc hL.size (.cells (flat3 (unums1 u)).toArray 192)
 have y1 := ((Below.refl X.heap.size X).alloc (Nat.le_refl _) (.cells (flat3 (unums1 u)).toArray 192)).cell (p := ⟨W.heap.size, 1, none⟩) (World.block_lt_of_cell? X _ z1) |>.trans z1
 have y3 := ((Below.refl X.heap.size X).alloc (Nat.le_refl _) (.cells (flat3 (unums1 u)).toArray 192)).cell (p := ⟨W.heap.size, 3, none⟩) (World.block_lt_of_cell? X _ z3) |>.trans z3
 have y4 := ((Below.refl X.heap.size X).alloc (Nat.le_refl _) (.cells (flat3 (unums1 u)).toArray 192)).cell (p := ⟨W.heap.size, 4, none⟩) (World.block_lt_of_cell? X _ z4) |>.trans z4
 have y5 := ((Below.refl X.heap.size X).alloc (Nat.le_refl _) (.cells (flat3 (unums1 u)).toArray 192)).cell (p := ⟨W.heap.size, 5, none⟩) (World.block_lt_of_cell? X _ z5) |>.trans z5
 have y6 := ((Below.refl X.heap.size X).alloc (Nat.le_refl _) (.cells (flat3 (unums1 u)).toArray 192)).cell (p := ⟨W.heap.size, 6, none⟩) (World.block_lt_of_cell? X _ z6) |>.trans z6
 have y7 := ((Below.refl X.heap.size X).alloc (Nat.le_refl _) (.cells (flat3 (unums1 u)).toArray 192)).cell (p := ⟨W.heap.size, 7, none⟩) (World.block_lt_of_cell? X _ z7) |>.trans z7
 have y8 := ((Below.refl X.heap.size X).alloc (Nat.le_refl _) (.cells (flat3 (unums1 u)).toArray 192)).cell (p := ⟨W.heap.size, 8, none⟩) (World.block_lt_of_cell? X _ z8) |>.trans z8
 have y9 := ((Below.refl X.heap.size X).alloc (Nat.le_refl _) (.cells (flat3 (unums1 u)).toArray 192)).cell (p := ⟨W.heap.size, 9, none⟩) (World.block_lt_of_cell? X _ z9) |>.trans z9
 have y10 := ((Below.refl X.heap.size X).alloc (Nat.le_refl _) (.cells (flat3 (unums1 u)).toArray 192)).cell (p := ⟨W.heap.size, 10, none⟩) (World.block_lt_of_cell? X _ z10) |>.trans z10
 have y11 := ((Below.refl X.heap.size X).alloc (Nat.le_refl _) (.cells (flat3 (unums1 u)).toArray 192)).cell (p := ⟨W.heap.size, 11, none⟩) (World.block_lt_of_cell? X _ z11) |>.trans z11
 have y13 := ((Below.refl X.heap.size X).alloc (Nat.le_refl _) (.cells (flat3 (unums1 u)).toArray 192)).cell (p := ⟨W.heap.size, 13, none⟩) (World.block_lt_of_cell? X _ z13) |>.trans z13
 have y14 := ((Below.refl X.heap.size X).alloc (Nat.le_refl _) (.cells (flat3 (unums1 u)).toArray 192)).cell (p := ⟨W.heap.size, 14, none⟩) (World.block_lt_of_cell? X _ z14) |>.trans z14
 have y15 := ((Below.refl X.heap.size X).alloc (Nat.le_refl _) (.cells (flat3 (unums1 u)).toArray 192)).cell (p := ⟨W.heap.size, 15, none⟩) (World.block_lt_of_cell? X _ z15) |>.trans z15
 obtain ⟨bl, hbl⟩ : ∃ q, u.bld = q := ⟨_, rfl⟩
 have hu2 : unums2 u = if bl = true then [(u.cls, 0, 0), (u.w, 1, 4), (u.h, 1, 4), (u.rad, 0, 0), (u.spd, 0, 0), (u.load, 0, 0)] else [(u.cls, 1, 3), (u.w, 0, 0), (u.h, 0, 0), (u.rad, 16, 128), (u.spd, 0, 256), (u.load, 0, 100000)] := by unfold unums2; rw [hbl]
 rw [hbl] at z1 y1
 have hown' : (X.alloc (.cells #[.int .i64 u.sgt, .int .i64 0, .int .i64 16, .int .i64 u.hp, .int .i64 1, .int .i64 100000, .int .i64 u.arm, .int .i64 0, .int .i64 100000, .int .i64 u.ore, .int .i64 0, .int .i64 100000, .int .i64 u.wood, .int .i64 0, .int .i64 100000, .int .i64 u.time, .int .i64 0, .int .i64 100000] 192)).ownsRow X.heap.size 192 3 (.slice (some ⟨X.heap.size, 0, none⟩) 6 6) 6 (flat3 (unums1 u)) := hown
 have hL2' : Below W.heap.size W (X.alloc (.cells #[.int .i64 u.sgt, .int .i64 0, .int .i64 16, .int .i64 u.hp, .int .i64 1, .int .i64 100000, .int .i64 u.arm, .int .i64 0, .int .i64 100000, .int .i64 u.ore, .int .i64 0, .int .i64 100000, .int .i64 u.wood, .int .i64 0, .int .i64 100000, .int .i64 u.time, .int .i64 0, .int .i64 100000] 192)) := hL2
 have x1 : (X.alloc (.cells #[.int .i64 u.sgt, .int .i64 0, .int .i64 16, .int .i64 u.hp, .int .i64 1, .int .i64 100000, .int .i64 u.arm, .int .i64 0, .int .i64 100000, .int .i64 u.ore, .int .i64 0, .int .i64 100000, .int .i64 u.wood, .int .i64 0, .int .i64 100000, .int .i64 u.time, .int .i64 0, .int .i64 100000] 192)).cell? ⟨W.heap.size, 1, none⟩ = some (.bool bl) := y1
 have x3 : (X.alloc (.cells #[.int .i64 u.sgt, .int .i64 0, .int .i64 16, .int .i64 u.hp, .int .i64 1, .int .i64 100000, .int .i64 u.arm, .int .i64 0, .int .i64 100000, .int .i64 u.ore, .int .i64 0, .int .i64 100000, .int .i64 u.wood, .int .i64 0, .int .i64 100000, .int .i64 u.time, .int .i64 0, .int .i64 100000] 192)).cell? ⟨W.heap.size, 3, none⟩ = some (.int .i64 u.cls) := y3
 have x4 : (X.alloc (.cells #[.int .i64 u.sgt, .int .i64 0, .int .i64 16, .int .i64 u.hp, .int .i64 1, .int .i64 100000, .int .i64 u.arm, .int .i64 0, .int .i64 100000, .int .i64 u.ore, .int .i64 0, .int .i64 100000, .int .i64 u.wood, .int .i64 0, .int .i64 100000, .int .i64 u.time, .int .i64 0, .int .i64 100000] 192)).cell? ⟨W.heap.size, 4, none⟩ = some (.int .i64 u.w) := y4
 have x5 : (X.alloc (.cells #[.int .i64 u.sgt, .int .i64 0, .int .i64 16, .int .i64 u.hp, .int .i64 1, .int .i64 100000, .int .i64 u.arm, .int .i64 0, .int .i64 100000, .int .i64 u.ore, .int .i64 0, .int .i64 100000, .int .i64 u.wood, .int .i64 0, .int .i64 100000, .int .i64 u.time, .int .i64 0, .int .i64 100000] 192)).cell? ⟨W.heap.size, 5, none⟩ = some (.int .i64 u.h) := y5
 have x6 : (X.alloc (.cells #[.int .i64 u.sgt, .int .i64 0, .int .i64 16, .int .i64 u.hp, .int .i64 1, .int .i64 100000, .int .i64 u.arm, .int .i64 0, .int .i64 100000, .int .i64 u.ore, .int .i64 0, .int .i64 100000, .int .i64 u.wood, .int .i64 0, .int .i64 100000, .int .i64 u.time, .int .i64 0, .int .i64 100000] 192)).cell? ⟨W.heap.size, 6, none⟩ = some (.int .i64 u.rad) := y6
 have x7 : (X.alloc (.cells #[.int .i64 u.sgt, .int .i64 0, .int .i64 16, .int .i64 u.hp, .int .i64 1, .int .i64 100000, .int .i64 u.arm, .int .i64 0, .int .i64 100000, .int .i64 u.ore, .int .i64 0, .int .i64 100000, .int .i64 u.wood, .int .i64 0, .int .i64 100000, .int .i64 u.time, .int .i64 0, .int .i64 100000] 192)).cell? ⟨W.heap.size, 7, none⟩ = some (.int .i64 u.spd) := y7
 have x8 : (X.alloc (.cells #[.int .i64 u.sgt, .int .i64 0, .int .i64 16, .int .i64 u.hp, .int .i64 1, .int .i64 100000, .int .i64 u.arm, .int .i64 0, .int .i64 100000, .int .i64 u.ore, .int .i64 0, .int .i64 100000, .int .i64 u.wood, .int .i64 0, .int .i64 100000, .int .i64 u.time, .int .i64 0, .int .i64 100000] 192)).cell? ⟨W.heap.size, 8, none⟩ = some (.int .i64 u.sgt) := y8
 have x9 : (X.alloc (.cells #[.int .i64 u.sgt, .int .i64 0, .int .i64 16, .int .i64 u.hp, .int .i64 1, .int .i64 100000, .int .i64 u.arm, .int .i64 0, .int .i64 100000, .int .i64 u.ore, .int .i64 0, .int .i64 100000, .int .i64 u.wood, .int .i64 0, .int .i64 100000, .int .i64 u.time, .int .i64 0, .int .i64 100000] 192)).cell? ⟨W.heap.size, 9, none⟩ = some (.int .i64 u.hp) := y9
 have x10 : (X.alloc (.cells #[.int .i64 u.sgt, .int .i64 0, .int .i64 16, .int .i64 u.hp, .int .i64 1, .int .i64 100000, .int .i64 u.arm, .int .i64 0, .int .i64 100000, .int .i64 u.ore, .int .i64 0, .int .i64 100000, .int .i64 u.wood, .int .i64 0, .int .i64 100000, .int .i64 u.time, .int .i64 0, .int .i64 100000] 192)).cell? ⟨W.heap.size, 10, none⟩ = some (.int .i64 u.arm) := y10
 have x11 : (X.alloc (.cells #[.int .i64 u.sgt, .int .i64 0, .int .i64 16, .int .i64 u.hp, .int .i64 1, .int .i64 100000, .int .i64 u.arm, .int .i64 0, .int .i64 100000, .int .i64 u.ore, .int .i64 0, .int .i64 100000, .int .i64 u.wood, .int .i64 0, .int .i64 100000, .int .i64 u.time, .int .i64 0, .int .i64 100000] 192)).cell? ⟨W.heap.size, 11, none⟩ = some (.int .i64 u.load) := y11
 have x13 : (X.alloc (.cells #[.int .i64 u.sgt, .int .i64 0, .int .i64 16, .int .i64 u.hp, .int .i64 1, .int .i64 100000, .int .i64 u.arm, .int .i64 0, .int .i64 100000, .int .i64 u.ore, .int .i64 0, .int .i64 100000, .int .i64 u.wood, .int .i64 0, .int .i64 100000, .int .i64 u.time, .int .i64 0, .int .i64 100000] 192)).cell? ⟨W.heap.size, 13, none⟩ = some (.int .i64 u.ore) := y13
 have x14 : (X.alloc (.cells #[.int .i64 u.sgt, .int .i64 0, .int .i64 16, .int .i64 u.hp, .int .i64 1, .int .i64 100000, .int .i64 u.arm, .int .i64 0, .int .i64 100000, .int .i64 u.ore, .int .i64 0, .int .i64 100000, .int .i64 u.wood, .int .i64 0, .int .i64 100000, .int .i64 u.time, .int .i64 0, .int .i64 100000] 192)).cell? ⟨W.heap.size, 14, none⟩ = some (.int .i64 u.wood) := y14
 have x15 : (X.alloc (.cells #[.int .i64 u.sgt, .int .i64 0, .int .i64 16, .int .i64 u.hp, .int .i64 1, .int .i64 100000, .int .i64 u.arm, .int .i64 0, .int .i64 100000, .int .i64 u.ore, .int .i64 0, .int .i64 100000, .int .i64 u.wood, .int .i64 0, .int .i64 100000, .int .i64 u.time, .int .i64 0, .int .i64 100000] 192)).cell? ⟨W.heap.size, 15, none⟩ = some (.int .i64 u.time) := y15
 clear hown hL2 hbl y1 y3 y4 y5 y6 y7 y8 y9 y10 y11 y13 y14 y15
 cases bl
 · have hm : flat3 (unums2 u) = [.int .i64 u.cls, .int .i64 1, .int .i64 3, .int .i64 u.w, .int .i64 0, .int .i64 0, .int .i64 u.h, .int .i64 0, .int .i64 0, .int .i64 u.rad, .int .i64 16, .int .i64 128, .int .i64 u.spd, .int .i64 0, .int .i64 256, .int .i64 u.load, .int .i64 0, .int .i64 100000] := by rw [hu2]; rfl
   have hlen : (unums1 u ++ unums2 u).length = 6 + 6 := by rw [hu2]; rfl
   go_upto_region 2 with fail
   have hXY : X.heap.size ≤ (X.alloc (.cells #[.int .i64 u.sgt, .int .i64 0, .int .i64 16, .int .i64 u.hp, .int .i64 1, .int .i64 100000, .int .i64 u.arm, .int .i64 0, .int .i64 100000, .int .i64 u.ore, .int .i64 0, .int .i64 100000, .int .i64 u.wood, .int .i64 0, .int .i64 100000, .int .i64 u.time, .int .i64 0, .int .i64 100000] 192)).heap.size := by simp
   generalize X.alloc (.cells #[.int .i64 u.sgt, .int .i64 0, .int .i64 16, .int .i64 u.hp, .int .i64 1, .int .i64 100000, .int .i64 u.arm, .int .i64 0, .int .i64 100000, .int .i64 u.ore, .int .i64 0, .int .i64 100000, .int .i64 u.wood, .int .i64 0, .int .i64 100000, .int .i64 u.time, .int .i64 0, .int .i64 100000] 192) = Y at *
   go_wp2_with (at_builtin; refine wpList_append_own _ rfl _ _ 166 rfl X.heap.size 192 i0 (.agg #[.int .i64 0, .int .i64 0, .int .i64 0]) 3 24 Tryz.underlying166 hi0 hz0 hz1 hz2 rfl (by decide) _ _ _ rfl (hown'.alloc _) ⟨Y.heap.size, 0, none⟩ 6 6 [.int .i64 u.cls, .int .i64 1, .int .i64 3, .int .i64 u.w, .int .i64 0, .int .i64 0, .int .i64 u.h, .int .i64 0, .int .i64 0, .int .i64 u.rad, .int .i64 16, .int .i64 128, .int .i64 u.spd, .int .i64 0, .int .i64 256, .int .i64 u.load, .int .i64 0, .int .i64 100000] rfl rfl cells_new (by rw [← hm]; exact flat3_lone _) (by unfold maxLen; omega) (by omega) (by first | (simp; done) | (simp; omega)) ?_)
   intro v' w' hown2 hg' _
   have hb' := below_push (t := 192) hL2'.size hL2' hown' hL.size hg'
   go_wp2_with fail
   go_ret
   refine ⟨_, rfl, ?_, hb'⟩
   rw [hlen, ← flat3_app, hm]
   exact own_base hown2 (by rw [hs.out]; exact Nat.le_refl _)
 · have hm : flat3 (unums2 u) = [.int .i64 u.cls, .int .i64 0, .int .i64 0, .int .i64 u.w, .int .i64 1, .int .i64 4, .int .i64 u.h, .int .i64 1, .int .i64 4, .int .i64 u.rad, .int .i64 0, .int .i64 0, .int .i64 u.spd, .int .i64 0, .int .i64 0, .int .i64 u.load, .int .i64 0, .int .i64 0] := by rw [hu2]; rfl
   have hlen : (unums1 u ++ unums2 u).length = 6 + 6 := by rw [hu2]; rfl
   go_upto_region 2 with fail
   have hXY : X.heap.size ≤ (X.alloc (.cells #[.int .i64 u.sgt, .int .i64 0, .int .i64 16, .int .i64 u.hp, .int .i64 1, .int .i64 100000, .int .i64 u.arm, .int .i64 0, .int .i64 100000, .int .i64 u.ore, .int .i64 0, .int .i64 100000, .int .i64 u.wood, .int .i64 0, .int .i64 100000, .int .i64 u.time, .int .i64 0, .int .i64 100000] 192)).heap.size := by simp
   generalize X.alloc (.cells #[.int .i64 u.sgt, .int .i64 0, .int .i64 16, .int .i64 u.hp, .int .i64 1, .int .i64 100000, .int .i64 u.arm, .int .i64 0, .int .i64 100000, .int .i64 u.ore, .int .i64 0, .int .i64 100000, .int .i64 u.wood, .int .i64 0, .int .i64 100000, .int .i64 u.time, .int .i64 0, .int .i64 100000] 192) = Y at *
   go_wp2_with (at_builtin; refine wpList_append_own _ rfl _ _ 166 rfl X.heap.size 192 i0 (.agg #[.int .i64 0, .int .i64 0, .int .i64 0]) 3 24 Tryz.underlying166 hi0 hz0 hz1 hz2 rfl (by decide) _ _ _ rfl (hown'.alloc _) ⟨Y.heap.size, 0, none⟩ 6 6 [.int .i64 u.cls, .int .i64 0, .int .i64 0, .int .i64 u.w, .int .i64 1, .int .i64 4, .int .i64 u.h, .int .i64 1, .int .i64 4, .int .i64 u.rad, .int .i64 0, .int .i64 0, .int .i64 u.spd, .int .i64 0, .int .i64 0, .int .i64 u.load, .int .i64 0, .int .i64 0] rfl rfl cells_new (by rw [← hm]; exact flat3_lone _) (by unfold maxLen; omega) (by omega) (by first | (simp; done) | (simp; omega)) ?_)
   intro v' w' hown2 hg' _
   have hb' := below_push (t := 192) hL2'.size hL2' hown' hL.size hg'
   go_wp2_with fail
   go_ret
   refine ⟨_, rfl, ?_, hb'⟩
   rw [hlen, ← flat3_app, hm]
   exact own_base hown2 (by rw [hs.out]; exact Nat.le_refl _)
end
section
open Go.RowKit Go.Lib
theorem rngv_zero (n : Int) : rngv n 0 0 = decide (n = 0) := by
 unfold rngv
 rw [Bool.eq_iff_iff]
 simp only [decide_eq_true_eq]
 omega
theorem weapv_eq (w : W9) : weapv w = !(wnums w).any outv := by
 unfold weapv wnums statv
 simp only [List.any_cons, List.any_nil, outv, Bool.or_false, Bool.not_or, Bool.not_not, Bool.and_assoc]
theorem techv_eq (t : T9) : techv t = !(tnums t).any outv := by
 unfold techv tnums statv
 simp only [List.any_cons, List.any_nil, outv, Bool.or_false, Bool.not_or, Bool.not_not, Bool.and_assoc]
theorem shapev_eq (u : U9) : shapev u = !((u.dep && !u.bld) || (unums1 u ++ unums2 u).any outv) := by
 unfold shapev unums1 unums2 statv
 cases u.bld with
 | true =>
  simp only [if_true, List.cons_append, List.nil_append, List.any_cons, List.any_nil, outv, Bool.or_false, Bool.not_or, Bool.not_not, rngv_zero, Bool.not_true, Bool.and_false, Bool.false_or, Bool.and_assoc]
  cases rngv u.sgt 0 16 <;> cases rngv u.hp 1 100000 <;> cases rngv u.arm 0 100000 <;> cases rngv u.ore 0 100000 <;> cases rngv u.wood 0 100000 <;> cases rngv u.time 0 100000 <;> simp
 | false =>
  simp only [List.cons_append, List.nil_append, List.any_cons, outv, Bool.not_or, Bool.not_not, Bool.not_false, Bool.and_true, Bool.and_assoc]
  cases rngv u.sgt 0 16 <;> cases rngv u.hp 1 100000 <;> cases rngv u.arm 0 100000 <;> cases rngv u.ore 0 100000 <;> cases rngv u.wood 0 100000 <;> cases rngv u.time 0 100000 <;> cases u.dep <;> simp [outv, rngv_zero]
theorem eg_numW : ∀ args w, (callFunc 138 args).run Tryz.prog w = .ok (.enter 138 args) w := enters_of Tryz.func138 (by kernel_rfl) rfl
set_option maxHeartbeats 2000000 in
set_option maxRecDepth 100000 in
theorem lbnumW_b (u : W9) (vs : List Value) (V0 W : World) (hU : WL vs u) :
 Calls Tryz.prog 138 #[.agg vs.toArray] W fun e w' => e = .returned (.bool (!weapv u)) ∧ Below W.heap.size W w' := by
 obtain ⟨q, hq⟩ : ∃ q, Hid (q = (wnums u).any outv) := ⟨_, hid rfl⟩
 rw [weapv_eq, Bool.not_not, ← hq.out]
 have hB := Blk.new W vs 51
 have hL := (Below.refl W.heap.size W).alloc (Nat.le_refl _) (.cells vs.toArray 51)
 have kl := hid (hB.loads (P := Tryz.prog) hU.len)
 have hcon := hid (fun w => lnumsW_b u vs V0 w hU)
 clear hU hB
 go_enter Tryz.func138, Tryz.ntmps138
 go_upto_region 1 with fail
 generalize W.alloc (.cells vs.toArray 51) = X at *
 go_wp2_with (with_reducible refine wpList_load_agg rfl 51 _ rfl ⟨W.heap.size, 0, none⟩ (by with_unfolding_all rfl) Tryz.isAgg51 Tryz.sizeOf51 vs kl.out ?_)
 ((with_reducible refine (hcon.out _).mono ?_); rintro e w1 ⟨v, rfl, hown, hb⟩)
 have hc2 := lout_b v _ _ _ q w1 hown rfl (by show 5 ≤ 100000; decide) hq
 replace hL := below_call hL hb
 clear hown hb hq
 go_wp2_with fail
 (refine hc2.mono ?_; rintro e w2 ⟨rfl, hb⟩)
 replace hL := below_call hL hb
 go_wp2_with fail
 go_ret
 exact ⟨rfl, hL⟩
theorem eg_numT : ∀ args w, (callFunc 140 args).run Tryz.prog w = .ok (.enter 140 args) w := enters_of Tryz.func140 (by kernel_rfl) rfl
set_option maxHeartbeats 2000000 in
set_option maxRecDepth 100000 in
theorem lbnumT_b (u : T9) (vs : List Value) (V0 W : World) (hU : TL V0 vs u) :
 Calls Tryz.prog 140 #[.agg vs.toArray] W fun e w' => e = .returned (.bool (!techv u)) ∧ Below W.heap.size W w' := by
 obtain ⟨q, hq⟩ : ∃ q, Hid (q = (tnums u).any outv) := ⟨_, hid rfl⟩
 rw [techv_eq, Bool.not_not, ← hq.out]
 have hB := Blk.new W vs 56
 have hL := (Below.refl W.heap.size W).alloc (Nat.le_refl _) (.cells vs.toArray 56)
 have kl := hid (hB.loads (P := Tryz.prog) hU.len)
 have hcon := hid (fun w => lnumsT_b u vs V0 w hU)
 clear hU hB
 go_enter Tryz.func140, Tryz.ntmps140
 go_upto_region 1 with fail
 generalize W.alloc (.cells vs.toArray 56) = X at *
 go_wp2_with (with_reducible refine wpList_load_agg rfl 56 _ rfl ⟨W.heap.size, 0, none⟩ (by with_unfolding_all rfl) Tryz.isAgg56 Tryz.sizeOf56 vs kl.out ?_)
 ((with_reducible refine (hcon.out _).mono ?_); rintro e w1 ⟨v, rfl, hown, hb⟩)
 have hc2 := lout_b v _ _ _ q w1 hown rfl (by show 5 ≤ 100000; decide) hq
 replace hL := below_call hL hb
 clear hown hb hq
 go_wp2_with fail
 (refine hc2.mono ?_; rintro e w2 ⟨rfl, hb⟩)
 replace hL := below_call hL hb
 go_wp2_with fail
 go_ret
 exact ⟨rfl, hL⟩
theorem numsv_eq (r : R9) : (!numsv r) = (!r.us.all shapev || (r.ws.any fun w => !weapv w) || (r.ts.any fun t => !techv t)) := by
 unfold numsv
 rw [Bool.not_and, Bool.not_and, List.not_all_eq_any_not (l := r.ws), List.not_all_eq_any_not (l := r.ts)]
set_option maxHeartbeats 8000000 in
set_option maxRecDepth 100000 in
theorem lnum_b (su sw st : Value) (r : R9) (b : Bool) (V0 W : World) (hR : RAt V0 su sw st r) (h0 : Below V0.heap.size V0 W) (e : Hid (b = numsv r)) :
 Calls Tryz.prog 94 #[.agg #[su, sw, st]] W fun e w' => e = .returned (.bool (!b)) ∧ Below W.heap.size W w' := by
 have hR0 := hid hR
 obtain ⟨b2, hb2⟩ : ∃ q, Hid (q = r.ws.any fun w => !weapv w) := ⟨_, hid rfl⟩
 obtain ⟨b3, hb3⟩ : ∃ q, Hid (q = r.ts.any fun t => !techv t) := ⟨_, hid rfl⟩
 obtain ⟨nb, hnb⟩ : ∃ q, Hid (q = !b) := ⟨_, hid rfl⟩
 rw [← hnb.out]
 replace e := hid (show nb = (!r.us.all shapev || b2 || b3) by rw [hnb.out, e.out, numsv_eq, hb2.out, hb3.out])
 clear hnb
 obtain ⟨p, c, rfl, hm, hat⟩ := hR.u
 obtain ⟨p1, c1, rfl, hm1, hat1⟩ := hR.w
 obtain ⟨p2, c2, rfl, hm2, hat2⟩ := hR.t
 have hB := Blk.new W [.slice p r.us.length c, .slice p1 r.ws.length c1, .slice p2 r.ts.length c2] 31
 have hL := (Below.refl W.heap.size W).alloc (Nat.le_refl _) (.cells [.slice p r.us.length c, .slice p1 r.ws.length c1, .slice p2 r.ts.length c2].toArray 31)
 unfold maxLen at hm hm1 hm2
 clear hR
 go_enter Tryz.func94, Tryz.ntmps94
 go_wp2_with fail
 generalize W.alloc (.cells [.slice p r.us.length c, .slice p1 r.ws.length c1, .slice p2 r.ts.length c2].toArray 31) = V at *
 clear hat1 hat2
 go_loopw [10] (fun vi wr => ∃ i : Nat, vi = .int .i64 i ∧ i ≤ r.us.length ∧ Blk wr W.heap.size [.slice p r.us.length c, .slice p1 r.ws.length c1, .slice p2 r.ts.length c2] 31 ∧ Below W.heap.size W wr ∧ Hid ((r.us.take i).all shapev = true)) (fun vi _ => r.us.length - (RowKit.intOf vi).toNat)
 case atStart => exact ⟨0, rfl, by omega, hB, hL, hid rfl⟩
 case round =>
  clear hB hL
  obtain ⟨i, rfl, hi, hB, hL, hA⟩ := hrel
  obtain ⟨_, _, _, _, _, _⟩ := hB.three
  by_cases hlt : i < r.us.length
  · have d1 : (i : Int) < r.us.length := by omega
    have d0 : (0 : Int) ≤ i := by omega
    have hV := h0.trans (hL.mono h0.size)
    obtain ⟨g, o, rfl, hc⟩ := hat (by omega)
    obtain ⟨vs, hU, hcs⟩ := (hc i hlt).ul
    have kl := hid ((hcs.below' (hcs.lt' hU.name) hV).loads (P := Tryz.prog) hU.len)
    have hZ := Blk.new wr vs 53
    have HN := fun q => hid (allp_take (f := shapev) hlt hA.out q)
    have HY := fun q => hid (allp_no (f := shapev) hlt q)
    obtain ⟨u, hu⟩ : ∃ u, r.us[i]'hlt = u := ⟨_, rfl⟩
    rw [hu] at HN HY hU
    have hcon := hid (fun w => lnumsU_b u vs V0 w hU)
    have kz := hid (hZ.loads (P := Tryz.prog) hU.len)
    obtain ⟨sn, st, sr, hvs, -⟩ := id hU
    have z1 := (hZ.cell 1).trans (show vs[1]? = some (.bool u.bld) by rw [hvs]; rfl)
    have z2 := (hZ.cell 2).trans (show vs[2]? = some (.bool u.dep) by rw [hvs]; rfl)
    have hs := hid (shapev_eq u)
    obtain ⟨bl, hbl⟩ : ∃ q, u.bld = q := ⟨_, rfl⟩
    obtain ⟨dp, hdp⟩ : ∃ q, u.dep = q := ⟨_, rfl⟩
    obtain ⟨q, hq⟩ : ∃ q, Hid (q = (unums1 u ++ unums2 u).any outv) := ⟨_, hid rfl⟩
    have hsh := hid (show shapev u = !((dp && !bl) || q) by rw [hs.out, hbl, hdp, hq.out])
    rw [hbl] at z1
    rw [hdp] at z2
    have hB2 := hB.alloc (.cells vs.toArray 53)
    have hL2 := hL.alloc hL.size (.cells vs.toArray 53)
    have hU' := hid hU
    clear hat hc hcs hU hA hvs hs hbl hdp hZ hu
    go_upto_region 4 with (first | (with_reducible refine wpList_load_agg rfl 53 _ rfl ⟨g, o + i * 19, none⟩ (by with_unfolding_all rfl) Tryz.isAgg53 Tryz.sizeOf53 vs kl.out ?_) | (with_reducible refine wpList_alloc_agg rfl 53 rfl _ rfl uZero zeroU ?_) | (with_reducible refine wpList_store_new rfl 53 _ _ rfl rfl Tryz.sizeOf53 vs uZero 53 (by with_unfolding_all rfl) (by with_unfolding_all rfl) hU'.out.len rfl hU'.out.lone ?_))
    generalize wr.alloc (.cells vs.toArray 53) = X at *
    by_cases hbad : (dp && !bl) = true
    · obtain ⟨rfl, hb2⟩ := Bool.and_eq_true_iff.1 hbad
      obtain rfl : bl = false := by simpa using hb2
      have he := e.out.trans (show _ = true by rw [(HY (by rw [hsh.out]; rfl)).out]; rfl)
      subst he
      clear e HN HY hsh hq hcon kz
      go_wp2_with fail
      go_ret
      exact ⟨rfl, hL2⟩
    · have hsh2 := hid (show shapev u = !q by rw [hsh.out, Bool.eq_false_iff.2 hbad, Bool.false_or])
      have harm : ∀ Q' : Bool, Q' = true → Q' = true := fun _ h => h
      clear hsh harm
      have hdb : (dp = false) ∨ (dp = true ∧ bl = true) := by
       cases dp
       · exact .inl rfl
       · cases bl
         · exact absurd rfl hbad
         · exact .inr ⟨rfl, rfl⟩
      clear hbad
      rcases hdb with rfl | ⟨rfl, rfl⟩
      all_goals
       go_wp2_with (with_reducible refine wpList_load_agg' 53 _ rfl (by with_unfolding_all rfl) ⟨wr.heap.size, 0, none⟩ (by with_unfolding_all rfl) Tryz.isAgg53 Tryz.sizeOf53 vs kz.out ?_)
       ((with_reducible refine (hcon.out _).mono ?_); rintro e w1 ⟨v, rfl, hown, hb⟩)
       have hc2 := lout_b v _ _ _ q w1 hown rfl (by rw [List.length_append]; unfold unums1 unums2; split <;> simp) hq
       replace hB2 := hB2.below hb
       replace hL2 := below_call hL2 hb
       clear hown hb hq hcon kz kl z1 z2
       go_wp2_with fail
       (refine hc2.mono ?_; rintro e w2 ⟨rfl, hb⟩)
       replace hB2 := hB2.below hb
       replace hL2 := below_call hL2 hb
       clear hb hc2
       cases q with
       | true =>
        have he := e.out.trans (show _ = true by rw [(HY (by rw [hsh2.out]; rfl)).out]; rfl)
        subst he
        clear e HN HY hsh2
        go_wp2_with fail
        go_ret
        exact ⟨rfl, hL2⟩
       | false =>
        have HS := HN (by rw [hsh2.out]; rfl)
        clear HN HY hsh2
        go_wp2_with fail
        go_roundw
        case rel => exact ⟨i + 1, by go_num, by omega, hB2, hL2, HS⟩
        case measure => simp [RowKit.intOf]; omega
  · obtain rfl : i = r.us.length := by omega
    have ha := hA.out
    rw [List.take_length] at ha
    rw [ha, Bool.not_true, Bool.false_or] at e
    have d1 : ¬ (r.us.length : Int) < r.us.length := by omega
    obtain ⟨cw, hrw, hUw⟩ := hR0.out.w.rowW
    obtain ⟨ct, hrt, hUt⟩ := hR0.out.t.rowT
    clear hat ha hA
    go_upto_region 9 with fail
    have hV := h0.trans (hL.mono h0.size)
    have hcon := lanyW_b _ r.ws.length cw 138 #[] (fun i => match r.ws[i]? with | some x => !weapv x | none => false) b2 V0 wr hrw hV eg_numW (fun i hi w _ => by
     simp only [List.getElem?_eq_getElem hi]
     exact lbnumW_b (r.ws[i]'hi) (cw i) V0 w (hUw i hi)) (hid (by rw [hb2.out]; exact (anyN_list fun i h => by simp only [List.getElem?_eq_getElem h]).symm))
    go_wp2_with fail
    (refine hcon.mono ?_; rintro e w1 ⟨rfl, hb⟩)
    replace hB := hB.below hb
    replace hL := below_call hL hb
    obtain ⟨_, _, _, _, _, _⟩ := hB.three
    clear hb hcon hV
    cases b2 with
    | true =>
     rw [Bool.true_or] at e
     have he := e.out
     subst he
     go_wp2_with fail
     go_ret
     exact ⟨rfl, hL⟩
    | false =>
     rw [Bool.false_or] at e
     have he := e.out
     subst he
     have hV := h0.trans (hL.mono h0.size)
     have hcon := lanyT_b _ r.ts.length ct 140 #[] (fun i => match r.ts[i]? with | some x => !techv x | none => false) nb V0 w1 hrt hV eg_numT (fun i hi w _ => by
      simp only [List.getElem?_eq_getElem hi]
      exact lbnumT_b (r.ts[i]'hi) (ct i) V0 w (hUt i hi)) (hid (by rw [hb3.out]; exact (anyN_list fun i h => by simp only [List.getElem?_eq_getElem h]).symm))
     clear e hb3
     go_wp2_with fail
     (refine hcon.mono ?_; rintro e w2 ⟨rfl, hb⟩)
     replace hL := below_call hL hb
     go_wp2_with fail
     go_ret
     exact ⟨rfl, hL⟩
end
section
open Go.RowKit Go.Lib
theorem dup_swap (r : R9) : dupv r = r.ts.any fun t => hasv (namesU r) t.nm := by
 unfold dupv namesU namesT
 rw [Bool.eq_iff_iff, List.any_eq_true, List.any_eq_true]
 constructor
 · rintro ⟨u, hu, h⟩
   obtain ⟨t, ht, e⟩ := List.mem_map.1 (hasv_iff.1 h)
   exact ⟨t, ht, hasv_iff.2 (e ▸ List.mem_map_of_mem hu)⟩
 · rintro ⟨t, ht, h⟩
   obtain ⟨u, hu, e⟩ := List.mem_map.1 (hasv_iff.1 h)
   exact ⟨u, hu, hasv_iff.2 (e ▸ List.mem_map_of_mem ht)⟩
theorem eg_shared : ∀ args w, (callFunc 134 args).run Tryz.prog w = .ok (.enter 134 args) w := enters_of Tryz.func134 (by kernel_rfl) rfl
set_option maxHeartbeats 8000000 in
set_option maxRecDepth 100000 in
theorem lshared1_b (su sw st : Value) (r : R9) (t : T9) (vs : List Value) (b : Nat) (V0 W : World) (hR : RAt V0 su sw st r) (h0 : Below V0.heap.size V0 W) (hB : Blk W b [su, sw, st] 31) (hU : TL V0 vs t) :
 Calls Tryz.prog 134 #[.agg vs.toArray, .pointer (some ⟨b, 0, none⟩)] W fun e w' => e = .returned (.bool (hasv (namesU r) t.nm)) ∧ Below W.heap.size W w' := by
 obtain ⟨q, hq⟩ : ∃ q, Hid (q = hasv (namesU r) t.nm) := ⟨_, hid rfl⟩
 rw [← hq.out]
 have hT := Blk.new W vs 56
 have hL := (Below.refl W.heap.size W).alloc (Nat.le_refl _) (.cells vs.toArray 56)
 have hB2 := hB.alloc (.cells vs.toArray 56)
 have k0 := (hT.cell 0).trans hU.name
 have hcon := lisType_b su sw st r t.nm q V0 _ hR (h0.trans (hL.mono h0.size)) hq
 clear hU hT hB hR h0 hq
 go_enter Tryz.func134, Tryz.ntmps134
 go_upto_region 1 with fail
 generalize W.alloc (.cells vs.toArray 56) = X at *
 obtain ⟨_, _, _, _, _, _⟩ := hB2.three
 go_wp2_with fail
 (refine hcon.mono ?_; rintro e w1 ⟨rfl, hb⟩)
 go_wp2_with fail
 go_ret
 exact ⟨rfl, hL.trans (hb.mono hL.size)⟩
set_option maxHeartbeats 8000000 in
set_option maxRecDepth 100000 in
theorem lshared_b (su sw st : Value) (r : R9) (b : Bool) (V0 W : World) (hR : RAt V0 su sw st r) (h0 : Below V0.heap.size V0 W) (e : Hid (b = dupv r)) :
 Calls Tryz.prog 93 #[.agg #[su, sw, st]] W fun e w' => e = .returned (.bool b) ∧ Below W.heap.size W w' := by
 obtain ⟨ct, hrt, hUt⟩ := hR.t.rowT
 have hB := Blk.new W [su, sw, st] 31
 have hL := (Below.refl W.heap.size W).alloc (Nat.le_refl _) (.cells [su, sw, st].toArray 31)
 have h02 := h0.trans (hL.mono h0.size)
 have hcon := lanyT_b st r.ts.length ct 134 #[.pointer (some ⟨W.heap.size, 0, none⟩)] (fun i => match r.ts[i]? with | some x => hasv (namesU r) x.nm | none => false) b V0 _ hrt h02 eg_shared (fun i hi w hw => by
  simp only [List.getElem?_eq_getElem hi]
  exact lshared1_b su sw st r (r.ts[i]'hi) (ct i) W.heap.size V0 w hR (h02.trans (hw.mono h02.size)) (hB.below hw) (hUt i hi)) (hid (by rw [e.out, dup_swap]; exact (anyN_list fun i h => by simp only [List.getElem?_eq_getElem h]).symm))
 clear hrt hUt hR e h0 h02
 go_enter Tryz.func93, Tryz.ntmps93
 go_upto_region 1 with fail
 generalize W.alloc (.cells [su, sw, st].toArray 31) = X at *
 obtain ⟨_, _, _, _, _, _⟩ := hB.three
 go_wp2_with fail
 (refine hcon.mono ?_; rintro e w1 ⟨rfl, hb⟩)
 go_wp2_with fail
 go_ret
 exact ⟨rfl, hL.trans (hb.mono hL.size)⟩
theorem eg_un1 : ∀ args w, (callFunc 143 args).run Tryz.prog w = .ok (.enter 143 args) w := enters_of Tryz.func143 (by kernel_rfl) rfl
theorem lun1_b (su sw st : Value) (r : R9) (s : ByteArray) (b : Nat) (V0 W : World) (hR : RAt V0 su sw st r) (h0 : Below V0.heap.size V0 W) (hB : Blk W b [su, sw, st] 31) :
 Calls Tryz.prog 143 #[.string s, .pointer (some ⟨b, 0, none⟩)] W fun e w' => e = .returned (.bool (!hasv (namesU r) s)) ∧ Below W.heap.size W w' := by
 obtain ⟨q, hq⟩ : ∃ q, Hid (q = hasv (namesU r) s) := ⟨_, hid rfl⟩
 rw [← hq.out]
 have hcon := lisType_b su sw st r s q V0 W hR h0 hq
 obtain ⟨_, _, _, _, _, _⟩ := hB.three
 clear hR h0 hq
 go_enter Tryz.func143, Tryz.ntmps143
 go_wp2_with fail
 (refine hcon.mono ?_; rintro e w1 ⟨rfl, hb⟩)
 go_wp2_with fail
 go_ret
 exact ⟨rfl, hb⟩
theorem eg_un2 : ∀ args w, (callFunc 144 args).run Tryz.prog w = .ok (.enter 144 args) w := enters_of Tryz.func144 (by kernel_rfl) rfl
theorem lun2_b (su sw st : Value) (r : R9) (s : ByteArray) (b : Nat) (V0 W : World) (hR : RAt V0 su sw st r) (h0 : Below V0.heap.size V0 W) (hB : Blk W b [su, sw, st] 31) :
 Calls Tryz.prog 144 #[.string s, .pointer (some ⟨b, 0, none⟩)] W fun e w' => e = .returned (.bool (!hasv (namesT r) s)) ∧ Below W.heap.size W w' := by
 obtain ⟨q, hq⟩ : ∃ q, Hid (q = hasv (namesT r) s) := ⟨_, hid rfl⟩
 rw [← hq.out]
 have hcon := lisTech_b su sw st r s q V0 W hR h0 hq
 obtain ⟨_, _, _, _, _, _⟩ := hB.three
 clear hR h0 hq
 go_enter Tryz.func144, Tryz.ntmps144
 go_wp2_with fail
 (refine hcon.mono ?_; rintro e w1 ⟨rfl, hb⟩)
 go_wp2_with fail
 go_ret
 exact ⟨rfl, hb⟩
structure CloF (W : World) (b b3 b4 b5 : Nat) (L : List Value) : Prop where
 r : Blk W b L 31
 c3 : Blk W b3 [.func (.func 143) #[] #[.pointer (some ⟨b, 0, none⟩)]] 48
 c4 : Blk W b4 [.func (.func 144) #[] #[.pointer (some ⟨b, 0, none⟩)]] 48
 c5 : Blk W b5 [.func (.func 146) #[] #[.pointer (some ⟨b3, 0, none⟩), .pointer (some ⟨b4, 0, none⟩)]] 48
theorem CloF.below {W w' : World} {b b3 b4 b5 : Nat} {L : List Value} (h : CloF W b b3 b4 b5 L) (hb : Below W.heap.size W w') : CloF w' b b3 b4 b5 L := ⟨h.r.below hb, h.c3.below hb, h.c4.below hb, h.c5.below hb⟩
theorem has_app (l m : List ByteArray) (s : ByteArray) : hasv (l ++ m) s = (hasv l s || hasv m s) := by unfold hasv; rw [List.any_append]
theorem eg_un3 : ∀ args w, (callFunc 146 args).run Tryz.prog w = .ok (.enter 146 args) w := enters_of Tryz.func146 (by kernel_rfl) rfl
set_option maxHeartbeats 8000000 in
set_option maxRecDepth 100000 in
theorem lun3_b (su sw st : Value) (r : R9) (s : ByteArray) (b b3 b4 b5 : Nat) (V0 W : World) (hR : RAt V0 su sw st r) (h0 : Below V0.heap.size V0 W) (hC : CloF W b b3 b4 b5 [su, sw, st]) :
 Calls Tryz.prog 146 #[.string s, .pointer (some ⟨b3, 0, none⟩), .pointer (some ⟨b4, 0, none⟩)] W fun e w' => e = .returned (.bool (!hasv (namesU r ++ namesT r) s)) ∧ Below W.heap.size W w' := by
 obtain ⟨q1, hq1⟩ : ∃ q, Hid (q = hasv (namesU r) s) := ⟨_, hid rfl⟩
 obtain ⟨q2, hq2⟩ : ∃ q, Hid (q = hasv (namesT r) s) := ⟨_, hid rfl⟩
 rw [has_app, ← hq1.out, ← hq2.out]
 have c1 := lun1_b su sw st r s b V0 W hR h0 hC.r
 rw [← hq1.out] at c1
 have c2 := hid (fun w (hb : Below W.heap.size W w) => lun2_b su sw st r s b V0 w hR (h0.trans (hb.mono h0.size)) (hC.r.below hb))
 rw [← hq2.out] at c2
 have k3 := hC.c3.one.1
 have hC4 := hC.c4
 clear hC hR h0 hq1 hq2
 go_enter Tryz.func146, Tryz.ntmps146
 go_wp2_with fail
 (refine c1.mono ?_; rintro e w1 ⟨rfl, hb⟩)
 have k4 := (hC4.below hb).one.1
 cases q1 with
 | true =>
  clear c2 k3 k4 hC4
  go_wp2_with fail
  go_ret
  exact ⟨rfl, hb⟩
 | false =>
  have c2' := c2.out _ hb
  clear c2 k3 hC4
  go_wp2_with fail
  (refine c2'.mono ?_; rintro e w2 ⟨rfl, hb2⟩)
  have hb3 := below_call hb hb2
  clear hb hb2 k4
  go_wp2_with fail
  go_ret
  exact ⟨rfl, hb3⟩
theorem eg_un4 : ∀ args w, (callFunc 148 args).run Tryz.prog w = .ok (.enter 148 args) w := enters_of Tryz.func148 (by kernel_rfl) rfl
theorem any_not_all {α : Type} (l : List α) (f : α → Bool) : (l.any fun x => !f x) = !l.all f := by rw [List.not_all_eq_any_not]
set_option maxHeartbeats 8000000 in
set_option maxRecDepth 100000 in
theorem lun4_b (su sw st : Value) (r : R9) (t : T9) (vs : List Value) (b b3 b4 b5 : Nat) (V0 W : World) (hR : RAt V0 su sw st r) (h0 : Below V0.heap.size V0 W) (hC : CloF W b b3 b4 b5 [su, sw, st]) (hU : TL V0 vs t) :
 Calls Tryz.prog 148 #[.agg vs.toArray, .pointer (some ⟨b5, 0, none⟩), .pointer (some ⟨b3, 0, none⟩)] W fun e w' => e = .returned (.bool (!fnd2 r t)) ∧ Below W.heap.size W w' := by
 obtain ⟨q1, hq1⟩ : ∃ q, Hid (q = t.needs.any fun s => !hasv (namesU r ++ namesT r) s) := ⟨_, hid rfl⟩
 obtain ⟨q2, hq2⟩ : ∃ q, Hid (q = hasv (namesU r) t.un) := ⟨_, hid rfl⟩
 have hF : (!fnd2 r t) = (q1 || !q2) := by rw [hq1.out, hq2.out, any_not_all]; unfold fnd2; rw [Bool.not_and]
 rw [hF]
 have hT := Blk.new W vs 56
 have hL := (Below.refl W.heap.size W).alloc (Nat.le_refl _) (.cells vs.toArray 56)
 have hC2 := hC.below hL
 have h02 := h0.trans (hL.mono h0.size)
 obtain ⟨pn, cn, hvs, s1⟩ := hU.lists
 have k1 := (hT.cell 1).trans (show vs[1]? = some (.slice pn t.needs.length cn) by rw [hvs]; rfl)
 have k5 := (hT.cell 5).trans (show vs[5]? = some (.string t.un) by rw [hvs]; rfl)
 have c1 := lanyStr_b _ t.needs 146 #[.pointer (some ⟨b3, 0, none⟩), .pointer (some ⟨b4, 0, none⟩)] (fun s => !hasv (namesU r ++ namesT r) s) q1 V0 _ s1 h02 eg_un3 (fun s w hw => lun3_b su sw st r s b b3 b4 b5 V0 w hR (h02.trans (hw.mono h02.size)) (hC2.below hw)) hq1
 have c2 := hid (fun w (hb : Below (W.alloc (.cells vs.toArray 56)).heap.size (W.alloc (.cells vs.toArray 56)) w) => lun1_b su sw st r t.un b V0 w hR (h02.trans (hb.mono h02.size)) (hC2.r.below hb))
 rw [← hq2.out] at c2
 have f5 := hC2.c5.one.1
 have hc3 := hC2.c3
 clear hC hC2 hR h0 h02 hq1 hq2 hU hvs s1 hF
 go_enter Tryz.func148, Tryz.ntmps148
 go_upto_region 1 with fail
 generalize W.alloc (.cells vs.toArray 56) = X at *
 go_wp2_with fail
 (refine c1.mono ?_; rintro e w1 ⟨rfl, hb⟩)
 replace hL := below_call hL hb
 cases q1 with
 | true =>
  clear c2 c1
  go_wp2_with fail
  go_ret
  exact ⟨rfl, hL⟩
 | false =>
  have k3 := (hc3.below hb).one.1
  have k5' := (hb.cell (p := ⟨W.heap.size, 5, none⟩) (World.block_lt_of_cell? X _ k5)).trans k5
  have c2' := c2.out _ hb
  clear c2 c1 hc3 f5 k1 k5
  go_wp2_with fail
  (refine c2'.mono ?_; rintro e w2 ⟨rfl, hb2⟩)
  replace hL := below_call hL hb2
  clear hb hb2 k3 k5'
  go_wp2_with fail
  go_ret
  exact ⟨rfl, hL⟩
end
section
open Go.RowKit Go.Lib
set_option maxHeartbeats 8000000 in
set_option maxRecDepth 100000 in
theorem lunk_b (su sw st : Value) (r : R9) (b : Bool) (V0 W : World) (hR : RAt V0 su sw st r) (h0 : Below V0.heap.size V0 W) (e : Hid (b = foundv r)) :
 Calls Tryz.prog 95 #[.agg #[su, sw, st]] W fun e w' => e = .returned (.bool (!b)) ∧ Below W.heap.size W w' := by
 have hR0 := hid hR
 obtain ⟨nb, hnb⟩ : ∃ q, Hid (q = !b) := ⟨_, hid rfl⟩
 rw [← hnb.out]
 replace e := hid (show nb = (!r.us.all (fnd1 r) || r.ts.any fun t => !fnd2 r t) by rw [hnb.out, e.out, foundv_eq, Bool.not_and, any_not_all])
 clear hnb
 obtain ⟨p, c, rfl, hm, hat⟩ := hR.u
 obtain ⟨p1, c1, rfl, hm1, hat1⟩ := hR.w
 obtain ⟨p2, c2, rfl, hm2, hat2⟩ := hR.t
 have hB := Blk.new W [.slice p r.us.length c, .slice p1 r.ws.length c1, .slice p2 r.ts.length c2] 31
 have hL := (Below.refl W.heap.size W).alloc (Nat.le_refl _) (.cells [.slice p r.us.length c, .slice p1 r.ws.length c1, .slice p2 r.ts.length c2].toArray 31)
 unfold maxLen at hm hm1 hm2
 clear hR
 go_enter Tryz.func95, Tryz.ntmps95
 go_upto_region 1 with fail
 generalize W.alloc (.cells [.slice p r.us.length c, .slice p1 r.ws.length c1, .slice p2 r.ts.length c2].toArray 31) = V at *
 clear hat1 hat2
 go_upto_region 2 with fail
 have h3 := Blk.new V [.func (.func 143) #[] #[.pointer (some ⟨W.heap.size, 0, none⟩)]] 48
 replace hB := hB.alloc (.cells [.func (.func 143) #[] #[.pointer (some ⟨W.heap.size, 0, none⟩)]].toArray 48)
 replace hL := hL.alloc hL.size (.cells [.func (.func 143) #[] #[.pointer (some ⟨W.heap.size, 0, none⟩)]].toArray 48)
 generalize hb3 : V.heap.size = b3 at *
 generalize V.alloc (.cells [.func (.func 143) #[] #[.pointer (some ⟨W.heap.size, 0, none⟩)]].toArray 48) = X1 at *
 go_upto_region 3 with fail
 have h4 := Blk.new X1 [.func (.func 144) #[] #[.pointer (some ⟨W.heap.size, 0, none⟩)]] 48
 replace hB := hB.alloc (.cells [.func (.func 144) #[] #[.pointer (some ⟨W.heap.size, 0, none⟩)]].toArray 48)
 replace h3 := h3.alloc (.cells [.func (.func 144) #[] #[.pointer (some ⟨W.heap.size, 0, none⟩)]].toArray 48)
 replace hL := hL.alloc hL.size (.cells [.func (.func 144) #[] #[.pointer (some ⟨W.heap.size, 0, none⟩)]].toArray 48)
 generalize hb4 : X1.heap.size = b4 at *
 generalize X1.alloc (.cells [.func (.func 144) #[] #[.pointer (some ⟨W.heap.size, 0, none⟩)]].toArray 48) = X2 at *
 go_upto_region 4 with fail
 have h5 := Blk.new X2 [.func (.func 146) #[] #[.pointer (some ⟨b3, 0, none⟩), .pointer (some ⟨b4, 0, none⟩)]] 48
 replace hB := hB.alloc (.cells [.func (.func 146) #[] #[.pointer (some ⟨b3, 0, none⟩), .pointer (some ⟨b4, 0, none⟩)]].toArray 48)
 replace h3 := h3.alloc (.cells [.func (.func 146) #[] #[.pointer (some ⟨b3, 0, none⟩), .pointer (some ⟨b4, 0, none⟩)]].toArray 48)
 replace h4 := h4.alloc (.cells [.func (.func 146) #[] #[.pointer (some ⟨b3, 0, none⟩), .pointer (some ⟨b4, 0, none⟩)]].toArray 48)
 replace hL := hL.alloc hL.size (.cells [.func (.func 146) #[] #[.pointer (some ⟨b3, 0, none⟩), .pointer (some ⟨b4, 0, none⟩)]].toArray 48)
 generalize hb5 : X2.heap.size = b5 at *
 generalize X2.alloc (.cells [.func (.func 146) #[] #[.pointer (some ⟨b3, 0, none⟩), .pointer (some ⟨b4, 0, none⟩)]].toArray 48) = X3 at *
 clear hb3 hb4 hb5
 have hC : CloF X3 W.heap.size b3 b4 b5 [.slice p r.us.length c, .slice p1 r.ws.length c1, .slice p2 r.ts.length c2] := ⟨hB, h3, h4, h5⟩
 clear hB h3 h4 h5
 obtain ⟨_, _, _, _, _, _⟩ := hC.r.three
 go_wp2_with fail
 go_loopw [14] (fun vi wr => ∃ i : Nat, vi = .int .i64 i ∧ i ≤ r.us.length ∧ CloF wr W.heap.size b3 b4 b5 [.slice p r.us.length c, .slice p1 r.ws.length c1, .slice p2 r.ts.length c2] ∧ Below W.heap.size W wr ∧ Hid ((r.us.take i).all (fnd1 r) = true)) (fun vi _ => r.us.length - (RowKit.intOf vi).toNat)
 case atStart => exact ⟨0, rfl, by omega, hC, hL, hid rfl⟩
 case round =>
  clear hC hL
  obtain ⟨i, rfl, hi, hC, hL, hA⟩ := hrel
  by_cases hlt : i < r.us.length
  · have d1 : (i : Int) < r.us.length := by omega
    have d0 : (0 : Int) ≤ i := by omega
    have hV := h0.trans (hL.mono h0.size)
    obtain ⟨g, o, rfl, hc⟩ := hat (by omega)
    obtain ⟨vs, hU, hcs⟩ := (hc i hlt).ul
    have kl := hid ((hcs.below' (hcs.lt' hU.name) hV).loads (P := Tryz.prog) hU.len)
    obtain ⟨pn, cn, pt, ct, pr, cr, hvs, s1, s2, s3⟩ := hU.lists
    have HN := fun q => hid (allp_take (f := fnd1 r) hlt hA.out q)
    have HY := fun q => hid (allp_no (f := fnd1 r) hlt q)
    obtain ⟨u, hu⟩ : ∃ u, r.us[i]'hlt = u := ⟨_, rfl⟩
    rw [hu] at HN HY hvs s1 s2 s3 hU
    have hZ := Blk.new wr vs 53
    have z12 := (hZ.cell 12).trans (show vs[12]? = some (.string u.wpn) by rw [hvs]; rfl)
    have z16 := (hZ.cell 16).trans (show vs[16]? = some (.slice pn u.needs.length cn) by rw [hvs]; rfl)
    have z17 := (hZ.cell 17).trans (show vs[17]? = some (.slice pt u.trains.length ct) by rw [hvs]; rfl)
    have z18 := (hZ.cell 18).trans (show vs[18]? = some (.slice pr u.ress.length cr) by rw [hvs]; rfl)
    have hC2 := hC.below ((Below.refl wr.heap.size wr).alloc (Nat.le_refl _) (.cells vs.toArray 53))
    have hL2 := hL.alloc hL.size (.cells vs.toArray 53)
    have hzl := hZ.lt
    obtain ⟨q1, hq1⟩ : ∃ q, Hid (q = hasv (namesW r) u.wpn) := ⟨_, hid rfl⟩
    obtain ⟨q2, hq2⟩ : ∃ q, Hid (q = u.needs.any fun s => !hasv (namesU r ++ namesT r) s) := ⟨_, hid rfl⟩
    obtain ⟨q3, hq3⟩ : ∃ q, Hid (q = u.trains.any fun s => !hasv (namesU r) s) := ⟨_, hid rfl⟩
    obtain ⟨q4, hq4⟩ : ∃ q, Hid (q = u.ress.any fun s => !hasv (namesT r) s) := ⟨_, hid rfl⟩
    have hF : fnd1 r u = ((decide (u.wpn = ⟨#[]⟩) || q1) && !q2 && !q3 && !q4) := by
     rw [hq1.out, hq2.out, hq3.out, hq4.out, any_not_all, any_not_all, any_not_all, Bool.not_not, Bool.not_not, Bool.not_not]; rfl
    have hF' := hid hF
    have hU' := hid hU
    have s1' := hid s1
    have s2' := hid s2
    have s3' := hid s3
    obtain ⟨x, hx⟩ : ∃ x, u.wpn = x := ⟨_, rfl⟩
    rw [hx] at z12 hF' hq1
    clear hu hat hc hcs hU hA hvs s1 s2 s3 hZ hF hx hC
    go_upto_region 6 with fail
    go_cut [7] from 16 to 27 (fun s7 wx => s7 = .pointer (some ⟨wr.heap.size, 0, none⟩) ∧ wx = wr.alloc (.cells vs.toArray 53))
    case first =>
     go_wp2_with (first | (with_reducible refine wpList_load_agg rfl 53 _ rfl ⟨g, o + i * 19, none⟩ (by with_unfolding_all rfl) Tryz.isAgg53 Tryz.sizeOf53 vs kl.out ?_) | (with_reducible refine wpList_alloc_agg rfl 53 rfl _ rfl uZero zeroU ?_) | (with_reducible refine wpList_store_new rfl 53 _ _ rfl rfl Tryz.sizeOf53 vs uZero 53 (by with_unfolding_all rfl) (by with_unfolding_all rfl) hU'.out.len rfl hU'.out.lone ?_))
     go_meet
     case rel => exact ⟨rfl, rfl⟩
    case rest =>
    obtain ⟨rfl, rfl⟩ := hcut
    generalize hbx : wr.heap.size = bx at *
    generalize wr.alloc (.cells vs.toArray 53) = Y at *
    obtain ⟨_, _, _, _, _, _⟩ := hC2.r.three
    obtain ⟨bad, hbad⟩ : ∃ q, Hid (q = !(decide (x = ⟨#[]⟩) || q1)) := ⟨_, hid rfl⟩
    have hV2 := h0.trans (hL2.mono h0.size)
    go_upto_region 7 with fail
    go_cut [27] from 18 to 27 (fun s27 wx => s27 = .bool bad ∧ Below Y.heap.size Y wx)
    case first =>
     by_cases hx : x = ⟨#[]⟩
     · subst hx
       obtain rfl : bad = false := by rw [hbad.out]; simp
       clear hbad hq1 hF'
       go_wp2_with fail
       go_meet
       case rel => exact ⟨rfl, Below.refl _ _⟩
     · obtain ⟨e1, e2, e3⟩ := ne_empty hx
       obtain rfl : bad = !q1 := by rw [hbad.out, decide_eq_false hx, Bool.false_or]
       have hcon := lisWeapon_b _ _ _ r x q1 V0 Y hR0.out hV2 hq1
       clear hbad hq1 hF' hx
       go_wp2_with fail
       (refine hcon.mono ?_; rintro e w1 ⟨rfl, hb⟩)
       go_wp2_with fail
       go_meet
       case rel => exact ⟨rfl, hb⟩
    case rest =>
    obtain ⟨rfl, hb⟩ := hcut
    replace hC2 := hC2.below hb
    replace hL2 := below_call hL2 hb
    have z16' := (hb.cell (p := ⟨bx, 16, none⟩) hzl).trans z16
    have z17' := (hb.cell (p := ⟨bx, 17, none⟩) hzl).trans z17
    have z18' := (hb.cell (p := ⟨bx, 18, none⟩) hzl).trans z18
    have hzl' := Nat.lt_of_lt_of_le hzl hb.size
    have hV3 := h0.trans (hL2.mono h0.size)
    clear z12 z16 z17 z18 hb hV2 hV hzl
    have hF3 := hid (show fnd1 r u = (!bad && !q2 && !q3 && !q4) by rw [hF'.out, hbad.out, Bool.not_not])
    clear hF' hbad hq1
    cases bad with
    | true =>
     have he := e.out.trans (show _ = true by rw [(HY (by rw [hF3.out]; rfl)).out]; rfl)
     subst he
     clear e HN HY hF3
     go_wp2_with fail
     go_ret
     exact ⟨rfl, hL2⟩
    | false =>
     have c2 := lanyStr_b _ u.needs 146 #[.pointer (some ⟨b3, 0, none⟩), .pointer (some ⟨b4, 0, none⟩)] (fun s => !hasv (namesU r ++ namesT r) s) q2 V0 _ s1'.out hV3 eg_un3 (fun s w hw => lun3_b _ _ _ r s W.heap.size b3 b4 b5 V0 w hR0.out (hV3.trans (hw.mono hV3.size)) (hC2.below hw)) hq2
     have f5 := hC2.c5.one.1
     go_wp2_with fail
     (refine c2.mono ?_; rintro e w2 ⟨rfl, hb⟩)
     replace hC2 := hC2.below hb
     replace hL2 := below_call hL2 hb
     have y17 := (hb.cell (p := ⟨bx, 17, none⟩) hzl').trans z17'
     have y18 := (hb.cell (p := ⟨bx, 18, none⟩) hzl').trans z18'
     have hzl2 := Nat.lt_of_lt_of_le hzl' hb.size
     have hV4 := h0.trans (hL2.mono h0.size)
     clear z16' z17' z18' hb hV3 hzl' c2 f5 hq2
     cases q2 with
     | true =>
      have he := e.out.trans (show _ = true by rw [(HY (by rw [hF3.out]; rfl)).out]; rfl)
      subst he
      clear e HN HY hF3
      go_wp2_with fail
      go_ret
      exact ⟨rfl, hL2⟩
     | false =>
      have c3 := lanyStr_b _ u.trains 143 #[.pointer (some ⟨W.heap.size, 0, none⟩)] (fun s => !hasv (namesU r) s) q3 V0 w2 s2'.out hV4 eg_un1 (fun s w hw => lun1_b _ _ _ r s W.heap.size V0 w hR0.out (hV4.trans (hw.mono hV4.size)) (hC2.r.below hw)) hq3
      have f3 := hC2.c3.one.1
      go_wp2_with fail
      (refine c3.mono ?_; rintro e w3 ⟨rfl, hb⟩)
      replace hC2 := hC2.below hb
      replace hL2 := below_call hL2 hb
      have x18 := (hb.cell (p := ⟨bx, 18, none⟩) hzl2).trans y18
      have hV5 := h0.trans (hL2.mono h0.size)
      clear y17 y18 hb hV4 hzl2 c3 f3 hq3
      cases q3 with
      | true =>
       have he := e.out.trans (show _ = true by rw [(HY (by rw [hF3.out]; rfl)).out]; rfl)
       subst he
       clear e HN HY hF3
       go_wp2_with fail
       go_ret
       exact ⟨rfl, hL2⟩
      | false =>
       have c4 := lanyStr_b _ u.ress 144 #[.pointer (some ⟨W.heap.size, 0, none⟩)] (fun s => !hasv (namesT r) s) q4 V0 w3 s3'.out hV5 eg_un2 (fun s w hw => lun2_b _ _ _ r s W.heap.size V0 w hR0.out (hV5.trans (hw.mono hV5.size)) (hC2.r.below hw)) hq4
       have f4 := hC2.c4.one.1
       go_wp2_with fail
       (refine c4.mono ?_; rintro e w4 ⟨rfl, hb⟩)
       replace hC2 := hC2.below hb
       replace hL2 := below_call hL2 hb
       clear x18 hb hV5 c4 f4 hq4
       cases q4 with
       | true =>
        have he := e.out.trans (show _ = true by rw [(HY (by rw [hF3.out]; rfl)).out]; rfl)
        subst he
        clear e HN HY hF3
        go_wp2_with fail
        go_ret
        exact ⟨rfl, hL2⟩
       | false =>
        have HS := HN (by rw [hF3.out]; rfl)
        clear HN HY hF3
        go_wp2_with fail
        go_roundw
        case rel => exact ⟨i + 1, by go_num, by omega, hC2, hL2, HS⟩
        case measure => simp [RowKit.intOf]; omega
  · obtain rfl : i = r.us.length := by omega
    have ha := hA.out
    rw [List.take_length] at ha
    rw [ha, Bool.not_true, Bool.false_or] at e
    have d1 : ¬ (r.us.length : Int) < r.us.length := by omega
    obtain ⟨ctl, hrt, hUt⟩ := hR0.out.t.rowT
    have hV := h0.trans (hL.mono h0.size)
    obtain ⟨_, _, _, _, _, _⟩ := hC.r.three
    have hcon := lanyT_b _ r.ts.length ctl 148 #[.pointer (some ⟨b5, 0, none⟩), .pointer (some ⟨b3, 0, none⟩)] (fun i => match r.ts[i]? with | some x => !fnd2 r x | none => false) nb V0 wr hrt hV eg_un4 (fun i hi w hw => by
     simp only [List.getElem?_eq_getElem hi]
     exact lun4_b _ _ _ r (r.ts[i]'hi) (ctl i) W.heap.size b3 b4 b5 V0 w hR0.out (hV.trans (hw.mono hV.size)) (hC.below hw) (hUt i hi)) (hid (by rw [e.out]; exact (anyN_list fun i h => by simp only [List.getElem?_eq_getElem h]).symm))
    clear hat ha hA e hrt hUt hV
    go_wp2_with fail
    (refine hcon.mono ?_; rintro e w1 ⟨rfl, hb⟩)
    replace hL := below_call hL hb
    go_wp2_with fail
    go_ret
    exact ⟨rfl, hL⟩
end
section
open Go.RowKit Go.Lib
theorem find_pl {α : Type} (f : α → ByteArray) (l : List α) (s : ByteArray) (n : Int) (e : n = idxN (fun i => match l[i]? with | some x => decide (f x = s) | none => false) l.length) :
 (∃ i, ∃ h : i < l.length, n = i ∧ l.find? (fun x => decide (f x = s)) = some (l[i]'h)) ∨ (n = -1 ∧ l.find? (fun x => decide (f x = s)) = none) := by
 subst e
 rcases idxN_is (fun i => match l[i]? with | some x => decide (f x = s) | none => false) l.length with ⟨i, hi, e, h, hb⟩ | ⟨e, hb⟩
 · left
   refine ⟨i, hi, e, ?_⟩
   simp only [List.getElem?_eq_getElem hi] at h
   refine find_at hi ?_ h
   rw [List.find?_eq_none]
   intro x hx
   obtain ⟨j, hj, rfl⟩ := List.getElem_of_mem hx
   have hji : j < i := by simp at hj; omega
   have := hb j hji
   simp only [List.getElem?_eq_getElem (show j < l.length by omega)] at this
   rw [List.getElem_take, this]
   simp
 · right
   refine ⟨e, ?_⟩
   rw [List.find?_eq_none]
   intro x hx
   obtain ⟨j, hj, rfl⟩ := List.getElem_of_mem hx
   have := hb j hj
   simp only [List.getElem?_eq_getElem hj] at this
   rw [this]
   simp
def LUnitPost (r : R9) (s : ByteArray) (w : World) (e : Ending) (w' : World) : Prop := ∃ vs, e = .returned (.tuple #[.agg vs.toArray, .bool (unitv r s).isSome]) ∧ UL w' vs ((unitv r s).getD U9.zero) ∧ Below w.heap.size w w'
set_option maxHeartbeats 8000000 in
set_option maxRecDepth 100000 in
theorem lUnit_b (su sw st : Value) (r : R9) (s : ByteArray) (V0 W : World) (hR : RAt V0 su sw st r) (h0 : Below V0.heap.size V0 W) (hsm : ∀ u ∈ r.us, u.needs.length ≤ 100000 ∧ u.trains.length ≤ 100000 ∧ u.ress.length ≤ 100000) :
 Calls Tryz.prog 150 #[.agg #[su, sw, st], .string s] W (LUnitPost r s W) := by
 have hl0 := hR.u
 obtain ⟨p, c, rfl, hm, hat⟩ := hR.u
 have hl0 := hid hl0
 have hB := (Blk.new W [.slice p r.us.length c, sw, st] 31).alloc (.cells uZero.toArray 53)
 have hZ := (Blk.new (W.alloc (.cells [.slice p r.us.length c, sw, st].toArray 31)) uZero 53).at (World.size_alloc _ _)
 have hL := ((Below.refl W.heap.size W).alloc (Nat.le_refl _) (.cells [.slice p r.us.length c, sw, st].toArray 31)).alloc (by simp) (.cells uZero.toArray 53)
 unfold maxLen at hm
 clear hR
 go_enter Tryz.func150, Tryz.ntmps150
 go_upto_region 1 with (with_reducible refine wpList_alloc_agg rfl 53 rfl _ rfl uZero zeroU ?_)
 generalize (W.alloc (.cells [.slice p r.us.length c, sw, st].toArray 31)).alloc (.cells uZero.toArray 53) = V at *
 obtain ⟨n, hn⟩ : ∃ z, Hid (z = plU r.us s) := ⟨_, hid rfl⟩
 obtain ⟨_, _, _, _, _, _⟩ := hB.three
 go_wp2_with fail
 ((with_reducible refine (lposU_b _ _ s n V0 _ hl0.out (h0.trans (hL.mono h0.size)) hn).mono ?_); rintro e w1 ⟨rfl, hb⟩)
 replace hB := hB.below hb
 replace hZ := hZ.below hb
 replace hL := below_call hL hb
 clear hb
 obtain ⟨_, _, _, _, _, _⟩ := hB.three
 rcases find_pl U9.nm r.us s n (by rw [hn.out]; unfold plU; congr 1; funext i; cases r.us[i]? <;> rfl) with ⟨i, hi, rfl, hf⟩ | ⟨rfl, hf⟩
 · have hF : unitv r s = some (r.us[i]'hi) := hf
   replace hF := hid hF
   obtain ⟨g, o, rfl, hc⟩ := hat (by omega)
   obtain ⟨vs, hU, hcs⟩ := (hc i hi).ul
   have hV := h0.trans (hL.mono h0.size)
   have kl := hid ((hcs.below' (hcs.lt' hU.name) hV).loads (P := Tryz.prog) hU.len)
   have d0 : ¬ ((i : Int) < 0) := by omega
   have d2 : (0 : Int) ≤ i := by omega
   have d1 : (i : Int) < r.us.length := by omega
   have hmem : r.us[i]'hi ∈ r.us := List.getElem_mem hi
   obtain ⟨u, hu⟩ : ∃ u, r.us[i]'hi = u := ⟨_, rfl⟩
   rw [hu] at hF hU hmem
   have hU' := hid hU
   clear hu hf hn hat hc hcs
   obtain ⟨pn, cn, pt, ct, pr, cr, hvs, s1, s2, s3⟩ := hU.lists
   clear hU
   go_upto_region 4 with fail
   go_cut [7] from 15 to 20 (fun s7 wx => s7 = .pointer (some ⟨w1.heap.size, 0, none⟩) ∧ wx = w1.alloc (.cells vs.toArray 53))
   case first =>
    go_wp2_with (first | (with_reducible refine wpList_load_agg rfl 53 _ rfl ⟨g, o + i * 19, none⟩ (by with_unfolding_all rfl) Tryz.isAgg53 Tryz.sizeOf53 vs kl.out ?_) | (with_reducible refine wpList_alloc_agg rfl 53 rfl _ rfl uZero zeroU ?_) | (with_reducible refine wpList_store_new rfl 53 _ _ rfl rfl Tryz.sizeOf53 vs uZero 53 (by with_unfolding_all rfl) (by with_unfolding_all rfl) hU'.out.len rfl hU'.out.lone ?_))
    go_meet
    case rel => exact ⟨rfl, rfl⟩
   case rest =>
   obtain ⟨rfl, rfl⟩ := hcut
   have hX := Blk.new w1 vs 53
   have hbx := hL.size
   have hwz := hZ.lt
   replace hZ := hZ.alloc (.cells vs.toArray 53)
   replace hL := hL.alloc hL.size (.cells vs.toArray 53)
   have hV2 := h0.trans (hL.mono h0.size)
   generalize hbxe : w1.heap.size = bx at *
   generalize w1.alloc (.cells vs.toArray 53) = X at *
   clear hbxe kl hV
   rw [hvs] at hX
   have z16 := hX.cell 16
   have z17 := hX.cell 17
   have z18 := hX.cell 18
   simp only [uCells, List.getElem?_cons_zero, List.getElem?_cons_succ] at z16 z17 z18
   have hxl := hX.lt
   obtain ⟨m1, m2, m3⟩ := hsm u hmem
   go_upto_region 5 with fail
   go_cut [7] from 20 to 31 (fun s7 wy => ∃ p1 c1 p2 c2 p3 c3, s7 = .pointer (some ⟨bx, 0, none⟩) ∧ Blk wy bx (uCells u (.slice p1 u.needs.length c1) (.slice p2 u.trains.length c2) (.slice p3 u.ress.length c3)) 53 ∧ wy.ownsRow (bx + 1) 9 1 (.slice p1 u.needs.length c1) u.needs.length (strs u.needs) ∧ wy.ownsRow (bx + 1) 9 1 (.slice p2 u.trains.length c2) u.trains.length (strs u.trains) ∧ wy.ownsRow (bx + 1) 9 1 (.slice p3 u.ress.length c3) u.ress.length (strs u.ress) ∧ Blk wy (W.heap.size + 1) uZero 53 ∧ Below W.heap.size W wy)
   case first =>
    have hmx : Tryz.prog.follows .mixedOrders = true := by kernel_rfl
    refine wp_region_any hmx (wpAny_of_late (lt := (fun x => x == 10 || x == 11 || x == 12 || x == 13 || x == 14)) (S := fun w' => Below X.heap.size X w') _ _ _ _ ?_)
    show wpAnyM _ _ _ _ _ _ _ _ _ X.drew
    have hS0 := (Below.refl X.heap.size X).drew
    refine late_tk (lt := (fun x => x == 10 || x == 11 || x == 12 || x == 13 || x == 14)) (i := 0) (v := .pointer (some ⟨bx, 16, none⟩)) (some 20) rfl (fun w' hS => by skip; go_simp) hS0 ?_
    simp only [Act.put, List.setIfInBounds_toArray, List.set_cons_zero, List.set_cons_succ]
    refine late_tk (lt := (fun x => x == 10 || x == 11 || x == 12 || x == 13 || x == 14)) (i := 1) (v := .slice pn u.needs.length cn) (some 21) rfl (fun w' hS => by (have := (hS.cell (p := ⟨bx, 16, none⟩) hxl).trans z16); go_simp) hS0 ?_
    simp only [Act.put, List.setIfInBounds_toArray, List.set_cons_zero, List.set_cons_succ]
    refine late_tk (lt := (fun x => x == 10 || x == 11 || x == 12 || x == 13 || x == 14)) (i := 3) (v := .pointer (some ⟨bx, 17, none⟩)) (some 23) rfl (fun w' hS => by skip; go_simp) hS0 ?_
    simp only [Act.put, List.setIfInBounds_toArray, List.set_cons_zero, List.set_cons_succ]
    refine late_tk (lt := (fun x => x == 10 || x == 11 || x == 12 || x == 13 || x == 14)) (i := 4) (v := .slice pt u.trains.length ct) (some 24) rfl (fun w' hS => by (have := (hS.cell (p := ⟨bx, 17, none⟩) hxl).trans z17); go_simp) hS0 ?_
    simp only [Act.put, List.setIfInBounds_toArray, List.set_cons_zero, List.set_cons_succ]
    refine late_tk (lt := (fun x => x == 10 || x == 11 || x == 12 || x == 13 || x == 14)) (i := 6) (v := .pointer (some ⟨bx, 18, none⟩)) (some 26) rfl (fun w' hS => by skip; go_simp) hS0 ?_
    simp only [Act.put, List.setIfInBounds_toArray, List.set_cons_zero, List.set_cons_succ]
    refine late_tk (lt := (fun x => x == 10 || x == 11 || x == 12 || x == 13 || x == 14)) (i := 7) (v := .slice pr u.ress.length cr) (some 27) rfl (fun w' hS => by (have := (hS.cell (p := ⟨bx, 18, none⟩) hxl).trans z18); go_simp) hS0 ?_
    simp only [Act.put, List.setIfInBounds_toArray, List.set_cons_zero, List.set_cons_succ]
    refine late_one (i := 2) (by kernel_rfl) rfl (fun K hQ => ?_)
    go_simp
    (with_reducible refine (lclone_b u.needs _ V0 _ s1 (hV2.trans (hS0.mono hV2.size)) (by omega)).mono ?_)
    rintro e w2 ⟨q0, k0, rfl, t0, hb0⟩
    have hS1 := below_call hS0 hb0
    have hz0 := hS0.size
    replace t0 := own_base t0 (show bx + 1 ≤ _ by omega)
    refine hQ.out _ _ (fun _ => hS1) ?_
    clear hQ
    try simp only [Act.put, List.setIfInBounds_toArray, List.set_cons_zero, List.set_cons_succ]
    refine late_tk (lt := (fun x => x == 10 || x == 11 || x == 12 || x == 13 || x == 14)) (i := 9) (v := .pointer (some ⟨bx, 16, none⟩)) (some 29) rfl (fun w' hS => by skip; go_simp) hS1 ?_
    simp only [Act.put, List.setIfInBounds_toArray, List.set_cons_zero, List.set_cons_succ]
    refine late_one (i := 5) (by kernel_rfl) rfl (fun K hQ => ?_)
    go_simp
    (with_reducible refine (lclone_b u.trains _ V0 _ s2 (hV2.trans (hS1.mono hV2.size)) (by omega)).mono ?_)
    rintro e w3 ⟨q1, k1, rfl, t1, hb1⟩
    have hS2 := below_call hS1 hb1
    have hz1 := hS1.size
    replace t1 := own_base t1 (show bx + 1 ≤ _ by omega)
    replace t0 := own_below t0 hb1
    refine hQ.out _ _ (fun _ => hS2) ?_
    clear hQ
    try simp only [Act.put, List.setIfInBounds_toArray, List.set_cons_zero, List.set_cons_succ]
    refine late_one (i := 8) (by kernel_rfl) rfl (fun K hQ => ?_)
    go_simp
    (with_reducible refine (lclone_b u.ress _ V0 _ s3 (hV2.trans (hS2.mono hV2.size)) (by omega)).mono ?_)
    rintro e w4 ⟨q2, k2, rfl, t2, hb2⟩
    have hS3 := below_call hS2 hb2
    have hz2 := hS2.size
    replace t2 := own_base t2 (show bx + 1 ≤ _ by omega)
    replace t0 := own_below t0 hb2
    replace t1 := own_below t1 hb2
    refine hQ.out _ _ (fun _ => hS3) ?_
    clear hQ
    try simp only [Act.put, List.setIfInBounds_toArray, List.set_cons_zero, List.set_cons_succ]
    have hX1 := hX.below hS3
    have hZ1 := hZ.below hS3
    have hL1 := below_call hL hS3
    clear hS0 hS1 hS2 hS3 hX hZ hL hb0 hb1 hb2 z16 z17 z18
    have g0 := hX1.cell 16
    simp only [uCells, List.getElem?_cons_zero, List.getElem?_cons_succ] at g0
    have f0 := hX1.frozen 16
    refine late_one (i := 10) (by kernel_rfl) rfl (fun K hQ => ?_)
    go_simp
    refine hQ.out _ _ (fun h => by cases h) ?_
    clear hQ
    replace hX1 := hX1.set 16 (.slice q0 u.needs.length k0)
    replace hZ1 := hZ1.far (c := bx) (i := 16) (.slice q0 u.needs.length k0) (by omega)
    replace hL1 := hL1.setCell (p := ⟨bx, 16, none⟩) hbx (.slice q0 u.needs.length k0)
    replace t0 := own_cell (i := 16) t0 (Nat.lt_succ_self bx) (.slice q0 u.needs.length k0)
    replace t1 := own_cell (i := 16) t1 (Nat.lt_succ_self bx) (.slice q0 u.needs.length k0)
    replace t2 := own_cell (i := 16) t2 (Nat.lt_succ_self bx) (.slice q0 u.needs.length k0)
    clear g0 f0
    try simp only [Act.put, List.setIfInBounds_toArray, List.set_cons_zero, List.set_cons_succ]
    refine late_one (i := 11) (by kernel_rfl) rfl (fun K hQ => ?_)
    go_simp
    refine hQ.out _ _ (fun h => by cases h) ?_
    clear hQ
    skip
    try simp only [Act.put, List.setIfInBounds_toArray, List.set_cons_zero, List.set_cons_succ]
    have g1 := hX1.cell 17
    simp only [uCells, List.getElem?_cons_zero, List.getElem?_cons_succ, List.set_cons_zero, List.set_cons_succ] at g1
    have f1 := hX1.frozen 17
    refine late_one (i := 12) (by kernel_rfl) rfl (fun K hQ => ?_)
    go_simp
    refine hQ.out _ _ (fun h => by cases h) ?_
    clear hQ
    replace hX1 := hX1.set 17 (.slice q1 u.trains.length k1)
    replace hZ1 := hZ1.far (c := bx) (i := 17) (.slice q1 u.trains.length k1) (by omega)
    replace hL1 := hL1.setCell (p := ⟨bx, 17, none⟩) hbx (.slice q1 u.trains.length k1)
    replace t0 := own_cell (i := 17) t0 (Nat.lt_succ_self bx) (.slice q1 u.trains.length k1)
    replace t1 := own_cell (i := 17) t1 (Nat.lt_succ_self bx) (.slice q1 u.trains.length k1)
    replace t2 := own_cell (i := 17) t2 (Nat.lt_succ_self bx) (.slice q1 u.trains.length k1)
    clear g1 f1
    try simp only [Act.put, List.setIfInBounds_toArray, List.set_cons_zero, List.set_cons_succ]
    refine late_one (i := 13) (by kernel_rfl) rfl (fun K hQ => ?_)
    go_simp
    refine hQ.out _ _ (fun h => by cases h) ?_
    clear hQ
    skip
    try simp only [Act.put, List.setIfInBounds_toArray, List.set_cons_zero, List.set_cons_succ]
    have g2 := hX1.cell 18
    simp only [uCells, List.getElem?_cons_zero, List.getElem?_cons_succ, List.set_cons_zero, List.set_cons_succ] at g2
    have f2 := hX1.frozen 18
    refine late_one (i := 14) (by kernel_rfl) rfl (fun K hQ => ?_)
    go_simp
    refine hQ.out _ _ (fun h => by cases h) ?_
    clear hQ
    replace hX1 := hX1.set 18 (.slice q2 u.ress.length k2)
    replace hZ1 := hZ1.far (c := bx) (i := 18) (.slice q2 u.ress.length k2) (by omega)
    replace hL1 := hL1.setCell (p := ⟨bx, 18, none⟩) hbx (.slice q2 u.ress.length k2)
    replace t0 := own_cell (i := 18) t0 (Nat.lt_succ_self bx) (.slice q2 u.ress.length k2)
    replace t1 := own_cell (i := 18) t1 (Nat.lt_succ_self bx) (.slice q2 u.ress.length k2)
    replace t2 := own_cell (i := 18) t2 (Nat.lt_succ_self bx) (.slice q2 u.ress.length k2)
    clear g2 f2
    try simp only [Act.put, List.setIfInBounds_toArray, List.set_cons_zero, List.set_cons_succ]
    refine late_done (by kernel_rfl) ?_ _
    show Exit.then _ _ Exit.normal _ _
    go_wp2_with fail
    go_meet
    case rel => exact ⟨q0, k0, q1, k1, q2, k2, rfl, hX1, t0, t1, t2, hZ1, hL1⟩
   case rest =>
   obtain ⟨p1, c1, p2, c2, p3, c3, rfl, hX1, t0, t1, t2, hZ1, hL1⟩ := hcut
   have ky := hid (hX1.loads (P := Tryz.prog) (k := 19) rfl)
   have hlo' := hid (show ∀ v ∈ uCells u (.slice p1 u.needs.length c1) (.slice p2 u.trains.length c2) (.slice p3 u.ress.length c3), v.oneCell' = true from by
    intro v hv
    simp only [uCells, List.mem_cons, List.not_mem_nil, or_false] at hv
    rcases hv with rfl | rfl | rfl | rfl | rfl | rfl | rfl | rfl | rfl | rfl | rfl | rfl | rfl | rfl | rfl | rfl | rfl | rfl | rfl <;> rfl)
   have hln : (uCells u (.slice p1 u.needs.length c1) (.slice p2 u.trains.length c2) (.slice p3 u.ress.length c3)).length = 19 := rfl
   have hys' := hid (show uCells u (.slice p1 u.needs.length c1) (.slice p2 u.trains.length c2) (.slice p3 u.ress.length c3) = uCells u (.slice p1 u.needs.length c1) (.slice p2 u.trains.length c2) (.slice p3 u.ress.length c3) from rfl)
   generalize hy : uCells u (.slice p1 u.needs.length c1) (.slice p2 u.trains.length c2) (.slice p3 u.ress.length c3) = ys at ky hlo' hln
   replace hy := hid hy
   clear hX1 hX hZ hL z16 z17 z18 hys'
   go_wp2_with (first | (with_reducible refine wpList_load_agg rfl 53 _ rfl ⟨bx, 0, none⟩ (by with_unfolding_all rfl) Tryz.isAgg53 Tryz.sizeOf53 ys ky.out ?_) | (with_reducible refine wpList_store_agg rfl 53 _ _ rfl rfl (W.heap.size + 1) (by with_unfolding_all rfl) Tryz.sizeOf53 ys (by with_unfolding_all rfl) hln hZ1 rfl hlo'.out ?_))
   refine bodyPost_ret (results_agg_two rfl rfl rfl Tryz.isAgg53 Tryz.sizeOf53 (hZ1.put ys) hln) rfl ?_
   refine ⟨ys, by rw [hF.out]; rfl, ?_, below_setRow hL1 (Nat.le_succ W.heap.size) ys.toArray⟩
   rw [hF.out]
   exact ⟨_, _, _, hy.out.symm, own_strs (own_setRow t0 (by omega) ys.toArray) (by omega), own_strs (own_setRow t1 (by omega) ys.toArray) (by omega), own_strs (own_setRow t2 (by omega) ys.toArray) (by omega)⟩
 · have hF : unitv r s = none := hf
   replace hF := hid hF
   have d0 : ((-1 : Int) < 0) := by omega
   clear hf hn hat
   go_wp2_with (first | (with_reducible refine wpList_zero_agg rfl 53 rfl uZero buildU ?_) | (with_reducible refine wpList_store_agg rfl 53 _ _ rfl rfl (W.heap.size + 1) (by with_unfolding_all rfl) Tryz.sizeOf53 uZero (by with_unfolding_all rfl) rfl hZ rfl (uZero_ul W).lone ?_))
   refine bodyPost_ret (results_agg_two rfl rfl rfl Tryz.isAgg53 Tryz.sizeOf53 (hZ.put uZero) rfl) rfl ?_
   refine ⟨uZero, by rw [hF.out]; rfl, by rw [hF.out]; exact (uZero_ul _), below_setRow hL (Nat.le_succ W.heap.size) uZero.toArray⟩
end
end

end Go.Proofs.YtnjcdmjaecgblaaGreatDoor
