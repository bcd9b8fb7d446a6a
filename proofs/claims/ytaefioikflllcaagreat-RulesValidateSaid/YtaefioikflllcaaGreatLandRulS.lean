/-
  What the functions of rules answer: Same.
-/
import Derived.Test.YtaefioikflllcaaGreatLandRulQ
import Derived.Test.YtaefioikflllcaaGreatRulRefR
import Derived.Test.YtaefioikflllcaaGreatChain
namespace Go.Proofs.YtaefioikflllcaaGreat

section
open Go.RowKit Go.Lib

set_option maxHeartbeats 8000000 in
set_option maxRecDepth 100000 in
theorem lequalS_b (l m : List ByteArray) (v u : Value) (b : Bool) (W : World) (hl : StrSl W v l) (hm2 : StrSl W u m) (e : Hid (b = decide (l = m))) :
    Calls Tryz.prog 118 #[v, u] W fun e w' => e = .returned (.bool b) ∧ Below W.heap.size W w' := by
  obtain ⟨p, c, rfl, hm, hat⟩ := hl
  obtain ⟨p2, c2, rfl, -, hat2⟩ := hm2
  unfold maxLen at hm
  by_cases hlen : l.length = m.length
  · have z : ((l.length : Int) != (m.length : Int)) = false := by rw [hlen]; simp
    go_enter Tryz.func118, Tryz.ntmps118
    go_wp2_with fail
    clear z
    go_loopw [13] (fun vi wr => ∃ i : Nat, vi = .int .i64 i ∧ i ≤ l.length ∧ Below W.heap.size W wr ∧ Hid (l.take i = m.take i)) (fun vi _ => l.length - (RowKit.intOf vi).toNat)
    case atStart => exact ⟨0, rfl, by omega, Below.refl _ _, hid rfl⟩
    case round =>
      obtain ⟨i, rfl, hi, hL, hA⟩ := hrel
      by_cases hlt : i < l.length
      · have hlt2 : i < m.length := by omega
        have d1 : (i : Int) < l.length := by omega
        have d2 : (i : Int) < m.length := by omega
        have d0 : (0 : Int) ≤ i := by omega
        obtain ⟨g, o, rfl, hc⟩ := hat (by omega)
        obtain ⟨g2, o2, rfl, hc2⟩ := hat2 (by omega)
        have k1 := (hL.cell (p := ⟨g, o + i, none⟩) (World.block_lt_of_cell? W _ (hc i hlt))).trans (hc i hlt)
        have k2 := (hL.cell (p := ⟨g2, o2 + i, none⟩) (World.block_lt_of_cell? W _ (hc2 i hlt2))).trans (hc2 i hlt2)
        have HN := fun (q : ¬ l[i]'hlt = m[i]'hlt2) => hid (show decide (l = m) = false from decide_eq_false fun h => q (by subst h; rfl))
        have HY := fun (q : l[i]'hlt = m[i]'hlt2) => hid (show l.take (i + 1) = m.take (i + 1) by
          rw [List.take_succ_eq_append_getElem hlt, List.take_succ_eq_append_getElem hlt2, hA.out, q])
        obtain ⟨x, hx⟩ : ∃ x, l[i]'hlt = x := ⟨_, rfl⟩
        obtain ⟨y, hy⟩ : ∃ x, m[i]'hlt2 = x := ⟨_, rfl⟩
        rw [hx, hy] at HN HY
        rw [hx] at k1
        rw [hy] at k2
        clear hx hy hat hat2 hA hc hc2
        by_cases hq : x = y
        · have HS := HY hq
          subst hq
          clear HN HY
          go_wp2_with fail
          go_quiet (fail)
          have hL2 := below_many hL nq
          generalize wr.drewN nq = wr' at *
          clear hL k1 k2
          go_wp2_with fail
          go_roundw
          case rel => exact ⟨i + 1, by go_num, by omega, hL2, HS⟩
          case measure => simp [RowKit.intOf]; omega
        · obtain ⟨q1, q2⟩ := ne_list hq
          have hb := e.out.trans (HN hq).out
          subst hb
          clear HN HY e hq
          go_wp2_with fail
          go_quiet (fail)
          have hL2 := below_many hL nq
          generalize wr.drewN nq = wr' at *
          clear hL k1 k2
          go_wp2_with fail
          go_ret
          exact ⟨rfl, hL2⟩
      · have ha := hA.out
        rw [List.take_of_length_le (by omega), List.take_of_length_le (by omega)] at ha
        have hb := e.out.trans (decide_eq_true ha)
        subst hb
        have d1 : ¬ (i : Int) < l.length := by omega
        clear hat hat2 ha hA e
        go_wp2_with fail
        go_ret
        exact ⟨rfl, hL⟩
  · have z : ((l.length : Int) != (m.length : Int)) = true := by simp; omega
    have hb := e.out.trans (decide_eq_false (fun h => hlen (by rw [h])))
    subst hb
    clear e hat hat2
    go_enter Tryz.func118, Tryz.ntmps118
    go_wp2_with fail
    go_ret
    exact ⟨rfl, Below.refl _ _⟩
theorem U9_eql (u v : U9) : decide (u = v) = (decide (u.nm = v.nm) && decide (u.bld = v.bld) && decide (u.dep = v.dep) && decide (u.wpn = v.wpn) && decide (u.cls = v.cls) && decide (u.w = v.w) && decide (u.h = v.h) && decide (u.rad = v.rad) && decide (u.spd = v.spd) && decide (u.sgt = v.sgt) && decide (u.hp = v.hp) && decide (u.arm = v.arm) && decide (u.load = v.load) && decide (u.ore = v.ore) && decide (u.wood = v.wood) && decide (u.time = v.time) && decide (u.needs = v.needs) && decide (u.trains = v.trains) && decide (u.ress = v.ress)) := by
  rw [Bool.eq_iff_iff]
  simp only [Bool.and_eq_true, decide_eq_true_eq, and_assoc]
  cases u
  cases v
  simp only [U9.mk.injEq]
  exact ⟨fun ⟨a0, a1, a2, a3, a4, a5, a6, a7, a8, a9, a10, a11, a12, a13, a14, a15, a16, a17, a18⟩ => ⟨a0, a1, a2, a12, a3, a4, a5, a6, a7, a8, a9, a10, a11, a13, a14, a15, a16, a17, a18⟩, fun ⟨a0, a1, a2, a12, a3, a4, a5, a6, a7, a8, a9, a10, a11, a13, a14, a15, a16, a17, a18⟩ => ⟨a0, a1, a2, a3, a4, a5, a6, a7, a8, a9, a10, a11, a12, a13, a14, a15, a16, a17, a18⟩⟩
theorem T9_eql (u v : T9) : decide (u = v) = (decide (u.nm = v.nm) && decide (u.un = v.un) && decide (u.stat = v.stat) && decide (u.amt = v.amt) && decide (u.ore = v.ore) && decide (u.wood = v.wood) && decide (u.time = v.time) && decide (u.needs = v.needs)) := by
  rw [Bool.eq_iff_iff]
  simp only [Bool.and_eq_true, decide_eq_true_eq, and_assoc]
  cases u
  cases v
  simp only [T9.mk.injEq]
  exact ⟨fun ⟨a0, a1, a2, a3, a4, a5, a6, a7⟩ => ⟨a0, a5, a6, a7, a2, a3, a4, a1⟩, fun ⟨a0, a5, a6, a7, a2, a3, a4, a1⟩ => ⟨a0, a1, a2, a3, a4, a5, a6, a7⟩⟩

set_option maxHeartbeats 8000000 in
set_option maxRecDepth 100000 in
theorem lsamet_b (u v : T9) (us vs : List Value) (b : Bool) (V0 W : World) (hU : TL V0 us u) (hV : TL V0 vs v) (h0 : Below V0.heap.size V0 W) (e : Hid (b = decide (u = v))) :
    Calls Tryz.prog 62 #[.agg us.toArray, .agg vs.toArray] W fun e w' => e = .returned (.bool b) ∧ Below W.heap.size W w' := by
  have hB := (Blk.new W us 42).alloc (.cells vs.toArray 42)
  have hC := (Blk.new (W.alloc (.cells us.toArray 42)) vs 42).at (World.size_alloc _ _)
  have hL := ((Below.refl W.heap.size W).alloc (Nat.le_refl _) (.cells us.toArray 42)).alloc (by simp) (.cells vs.toArray 42)
  obtain ⟨pu0, cu0, hlu, su0⟩ := hU.lists
  obtain ⟨pv0, cv0, hlv, sv0⟩ := hV.lists
  replace hlu := hid hlu
  replace hlv := hid hlv
  have hV0 := h0.trans (hL.mono h0.size)
  clear hU hV
  go_enter Tryz.func62, Tryz.ntmps62
  go_upto_region 1 with fail
  generalize (W.alloc (.cells us.toArray 42)).alloc (.cells vs.toArray 42) = V at *
  obtain ⟨q0, h0⟩ : ∃ q, (u.nm.toList == v.nm.toList) = q := ⟨_, rfl⟩
  obtain ⟨q5, h5⟩ : ∃ q, (u.un.toList == v.un.toList) = q := ⟨_, rfl⟩
  obtain ⟨q6, h6⟩ : ∃ q, (u.stat == v.stat) = q := ⟨_, rfl⟩
  obtain ⟨q7, h7⟩ : ∃ q, (u.amt == v.amt) = q := ⟨_, rfl⟩
  obtain ⟨q2, h2⟩ : ∃ q, (u.ore == v.ore) = q := ⟨_, rfl⟩
  obtain ⟨q3, h3⟩ : ∃ q, (u.wood == v.wood) = q := ⟨_, rfl⟩
  obtain ⟨q4, h4⟩ : ∃ q, (u.time == v.time) = q := ⟨_, rfl⟩
  obtain ⟨q1, h1⟩ : ∃ q, Hid (q = decide (u.needs = v.needs)) := ⟨_, hid rfl⟩
  replace e := hid (show b = (q0 && q5 && q6 && q7 && q2 && q3 && q4 && q1) by rw [e.out, T9_eql, deq_str u.nm, h0, deq_str u.un, h5, deq_int u.stat, h6, deq_int u.amt, h7, deq_int u.ore, h2, deq_int u.wood, h3, deq_int u.time, h4, ← h1.out])
  have uf0 : V.cell? ⟨W.heap.size, 0, none⟩ = some (.string u.nm) := (hB.cell 0).trans (by rw [hlu.out]; rfl)
  have vf0 : V.cell? ⟨W.heap.size + 1, 0, none⟩ = some (.string v.nm) := (hC.cell 0).trans (by rw [hlv.out]; rfl)
  have uf5 : V.cell? ⟨W.heap.size, 5, none⟩ = some (.string u.un) := (hB.cell 5).trans (by rw [hlu.out]; rfl)
  have vf5 : V.cell? ⟨W.heap.size + 1, 5, none⟩ = some (.string v.un) := (hC.cell 5).trans (by rw [hlv.out]; rfl)
  have uf6 : V.cell? ⟨W.heap.size, 6, none⟩ = some (.int .i64 u.stat) := (hB.cell 6).trans (by rw [hlu.out]; rfl)
  have vf6 : V.cell? ⟨W.heap.size + 1, 6, none⟩ = some (.int .i64 v.stat) := (hC.cell 6).trans (by rw [hlv.out]; rfl)
  have uf7 : V.cell? ⟨W.heap.size, 7, none⟩ = some (.int .i64 u.amt) := (hB.cell 7).trans (by rw [hlu.out]; rfl)
  have vf7 : V.cell? ⟨W.heap.size + 1, 7, none⟩ = some (.int .i64 v.amt) := (hC.cell 7).trans (by rw [hlv.out]; rfl)
  have uf2 : V.cell? ⟨W.heap.size, 2, none⟩ = some (.int .i64 u.ore) := (hB.cell 2).trans (by rw [hlu.out]; rfl)
  have vf2 : V.cell? ⟨W.heap.size + 1, 2, none⟩ = some (.int .i64 v.ore) := (hC.cell 2).trans (by rw [hlv.out]; rfl)
  have uf3 : V.cell? ⟨W.heap.size, 3, none⟩ = some (.int .i64 u.wood) := (hB.cell 3).trans (by rw [hlu.out]; rfl)
  have vf3 : V.cell? ⟨W.heap.size + 1, 3, none⟩ = some (.int .i64 v.wood) := (hC.cell 3).trans (by rw [hlv.out]; rfl)
  have uf4 : V.cell? ⟨W.heap.size, 4, none⟩ = some (.int .i64 u.time) := (hB.cell 4).trans (by rw [hlu.out]; rfl)
  have vf4 : V.cell? ⟨W.heap.size + 1, 4, none⟩ = some (.int .i64 v.time) := (hC.cell 4).trans (by rw [hlv.out]; rfl)
  have uf1 : V.cell? ⟨W.heap.size, 1, none⟩ = some (.slice pu0 u.needs.length cu0) := (hB.cell 1).trans (by rw [hlu.out]; rfl)
  have vf1 : V.cell? ⟨W.heap.size + 1, 1, none⟩ = some (.slice pv0 v.needs.length cv0) := (hC.cell 1).trans (by rw [hlv.out]; rfl)
  go_wp2_with (first
    | (go_at_call 118; with_reducible refine (lequalS_b u.needs v.needs (.slice pu0 u.needs.length cu0) (.slice pv0 v.needs.length cv0) q1 _ (su0.below hV0) (sv0.below hV0) h1).mono ?_; rintro e w0 ⟨rfl, hb⟩
       replace hV0 := hV0.trans (hb.mono hV0.size)
       replace hL := below_call hL hb
       replace hB := hB.below hb
       replace hC := hC.below hb
       clear hb))
  all_goals
    go_ret
    exact ⟨ret_bool (by rw [e.out]; simp only [Bool.false_and, Bool.and_false, Bool.true_and, Bool.and_self, *]), hL⟩

end

section
open Go.RowKit Go.Lib

set_option maxHeartbeats 8000000 in
set_option maxRecDepth 100000 in
theorem lsameu_b (u v : U9) (us vs : List Value) (b : Bool) (V0 W : World) (hU : UL V0 us u) (hV : UL V0 vs v) (h0 : Below V0.heap.size V0 W) (e : Hid (b = decide (u = v))) :
    Calls Tryz.prog 59 #[.agg us.toArray, .agg vs.toArray] W fun e w' => e = .returned (.bool b) ∧ Below W.heap.size W w' := by
  have hB := (Blk.new W us 34).alloc (.cells vs.toArray 34)
  have hC := (Blk.new (W.alloc (.cells us.toArray 34)) vs 34).at (World.size_alloc _ _)
  have hL := ((Below.refl W.heap.size W).alloc (Nat.le_refl _) (.cells us.toArray 34)).alloc (by simp) (.cells vs.toArray 34)
  obtain ⟨pu0, cu0, pu1, cu1, pu2, cu2, hlu, su0, su1, su2⟩ := hU.lists
  obtain ⟨pv0, cv0, pv1, cv1, pv2, cv2, hlv, sv0, sv1, sv2⟩ := hV.lists
  replace hlu := hid hlu
  replace hlv := hid hlv
  have hV0 := h0.trans (hL.mono h0.size)
  clear hU hV
  go_enter Tryz.func59, Tryz.ntmps59
  go_upto_region 1 with fail
  generalize (W.alloc (.cells us.toArray 34)).alloc (.cells vs.toArray 34) = V at *
  apply wp_region_lit
  have eg : ∀ args w, (callFunc 118 args).run Tryz.prog w = .ok (.enter 118 args) w := enters_of Tryz.func118 (by kernel_rfl) rfl
  obtain ⟨q0, h0x⟩ : ∃ q, (u.nm.toList == v.nm.toList) = q := ⟨_, rfl⟩
  obtain ⟨q1, h1⟩ : ∃ q, (u.bld == v.bld) = q := ⟨_, rfl⟩
  obtain ⟨q2, h2⟩ : ∃ q, (u.dep == v.dep) = q := ⟨_, rfl⟩
  obtain ⟨q12, h12⟩ : ∃ q, (u.wpn.toList == v.wpn.toList) = q := ⟨_, rfl⟩
  obtain ⟨q3, h3⟩ : ∃ q, (u.cls == v.cls) = q := ⟨_, rfl⟩
  obtain ⟨q4, h4⟩ : ∃ q, (u.w == v.w) = q := ⟨_, rfl⟩
  obtain ⟨q5, h5⟩ : ∃ q, (u.h == v.h) = q := ⟨_, rfl⟩
  obtain ⟨q6, h6⟩ : ∃ q, (u.rad == v.rad) = q := ⟨_, rfl⟩
  obtain ⟨q7, h7⟩ : ∃ q, (u.spd == v.spd) = q := ⟨_, rfl⟩
  obtain ⟨q8, h8⟩ : ∃ q, (u.sgt == v.sgt) = q := ⟨_, rfl⟩
  obtain ⟨q9, h9⟩ : ∃ q, (u.hp == v.hp) = q := ⟨_, rfl⟩
  obtain ⟨q10, h10⟩ : ∃ q, (u.arm == v.arm) = q := ⟨_, rfl⟩
  obtain ⟨q11, h11⟩ : ∃ q, (u.load == v.load) = q := ⟨_, rfl⟩
  obtain ⟨q13, h13⟩ : ∃ q, (u.ore == v.ore) = q := ⟨_, rfl⟩
  obtain ⟨q14, h14⟩ : ∃ q, (u.wood == v.wood) = q := ⟨_, rfl⟩
  obtain ⟨q15, h15⟩ : ∃ q, (u.time == v.time) = q := ⟨_, rfl⟩
  obtain ⟨q16, h16⟩ : ∃ q, Hid (q = decide (u.needs = v.needs)) := ⟨_, hid rfl⟩
  obtain ⟨q17, h17⟩ : ∃ q, Hid (q = decide (u.trains = v.trains)) := ⟨_, hid rfl⟩
  obtain ⟨q18, h18⟩ : ∃ q, Hid (q = decide (u.ress = v.ress)) := ⟨_, hid rfl⟩
  replace e := hid (show b = (q0 && q1 && q2 && q12 && q3 && q4 && q5 && q6 && q7 && q8 && q9 && q10 && q11 && q13 && q14 && q15 && q16 && q17 && q18) by rw [e.out, U9_eql, deq_str u.nm, h0x, deq_bool u.bld, h1, deq_bool u.dep, h2, deq_str u.wpn, h12, deq_int u.cls, h3, deq_int u.w, h4, deq_int u.h, h5, deq_int u.rad, h6, deq_int u.spd, h7, deq_int u.sgt, h8, deq_int u.hp, h9, deq_int u.arm, h10, deq_int u.load, h11, deq_int u.ore, h13, deq_int u.wood, h14, deq_int u.time, h15, ← h16.out, ← h17.out, ← h18.out])
  replace h0x := hid h0x
  replace h1 := hid h1
  replace h2 := hid h2
  replace h12 := hid h12
  replace h3 := hid h3
  replace h4 := hid h4
  replace h5 := hid h5
  replace h6 := hid h6
  replace h7 := hid h7
  replace h8 := hid h8
  replace h9 := hid h9
  replace h10 := hid h10
  replace h11 := hid h11
  replace h13 := hid h13
  replace h14 := hid h14
  replace h15 := hid h15
  have k0 : V.cell? ⟨W.heap.size, 0, none⟩ = some (.string u.nm) := (hB.cell 0).trans (by rw [hlu.out]; rfl)
  have m0 : V.cell? ⟨W.heap.size + 1, 0, none⟩ = some (.string v.nm) := (hC.cell 0).trans (by rw [hlv.out]; rfl)
  have z0 := h0x.out
  refine wpList_val (v := .pointer (some ⟨W.heap.size, 0, none⟩)) (wanted_free rfl) (by go_simp) ?_
  simp only [Act.put, List.setIfInBounds_toArray, List.set_cons_zero, List.set_cons_succ]
  refine wpList_val (v := .string u.nm) (wanted_free rfl) (by go_simp) ?_
  simp only [Act.put, List.setIfInBounds_toArray, List.set_cons_zero, List.set_cons_succ]
  refine wpList_val (v := .pointer (some ⟨W.heap.size + 1, 0, none⟩)) (wanted_free rfl) (by go_simp) ?_
  simp only [Act.put, List.setIfInBounds_toArray, List.set_cons_zero, List.set_cons_succ]
  refine wpList_val (v := .string v.nm) (wanted_free rfl) (by go_simp) ?_
  simp only [Act.put, List.setIfInBounds_toArray, List.set_cons_zero, List.set_cons_succ]
  refine wpList_val (v := .bool q0) (wanted_free rfl) (by go_simp) ?_
  simp only [Act.put, List.setIfInBounds_toArray, List.set_cons_zero, List.set_cons_succ]
  refine tr_start (n := 136) (p := .pointer (some ⟨W.heap.size, 0, none⟩)) (q := .pointer (some ⟨W.heap.size + 1, 0, none⟩)) (t := 9) (b := q0) (fun a0 T => ?_) ⟨rfl, rfl, rfl, rfl, rfl⟩
  clear k0 m0 z0
  have k1 : V.cell? ⟨W.heap.size, 1, none⟩ = some (.bool u.bld) := (hB.cell 1).trans (by rw [hlu.out]; rfl)
  have m1 : V.cell? ⟨W.heap.size + 1, 1, none⟩ = some (.bool v.bld) := (hC.cell 1).trans (by rw [hlv.out]; rfl)
  have z1 := h1.out
  refine wpList_and7 (j := 5) (ax := .pointer (some ⟨W.heap.size, 1, none⟩)) (ay := .pointer (some ⟨W.heap.size + 1, 1, none⟩)) (x := .bool u.bld) (y := .bool v.bld) (e := q1) T (by decide) (by decide) (by decide) rfl rfl rfl rfl rfl rfl rfl rfl rfl rfl rfl rfl rfl rfl rfl
    (fun ρ r1 => by go_simp) (fun ρ r1 => by go_simp) (fun ρ r1 => by go_simp) (fun ρ r1 => by go_simp) (fun ρ r1 => by go_simp) (fun ρ r1 r2 => by go_simp) (fun ρ x rc r1 r2 => by cases (q0) <;> (try have r3 := r2 rfl) <;> clear r2 <;> go_simp) (fun a' T => ?_)
  clear k1 m1 z1
  obtain ⟨Q1, hQ1⟩ : ∃ z, (q0 && q1) = z := ⟨_, rfl⟩
  rw [hQ1] at T
  replace e := hid (e.out.trans (by rw [hQ1]))
  have k2 : V.cell? ⟨W.heap.size, 2, none⟩ = some (.bool u.dep) := (hB.cell 2).trans (by rw [hlu.out]; rfl)
  have m2 : V.cell? ⟨W.heap.size + 1, 2, none⟩ = some (.bool v.dep) := (hC.cell 2).trans (by rw [hlv.out]; rfl)
  have z2 := h2.out
  refine wpList_and7 (j := 12) (ax := .pointer (some ⟨W.heap.size, 2, none⟩)) (ay := .pointer (some ⟨W.heap.size + 1, 2, none⟩)) (x := .bool u.dep) (y := .bool v.dep) (e := q2) T (by decide) (by decide) (by decide) rfl rfl rfl rfl rfl rfl rfl rfl rfl rfl rfl rfl rfl rfl rfl
    (fun ρ r1 => by go_simp) (fun ρ r1 => by go_simp) (fun ρ r1 => by go_simp) (fun ρ r1 => by go_simp) (fun ρ r1 => by go_simp) (fun ρ r1 r2 => by go_simp) (fun ρ x rc r1 r2 => by cases (Q1) <;> (try have r3 := r2 rfl) <;> clear r2 <;> go_simp) (fun a' T => ?_)
  clear k2 m2 z2
  obtain ⟨Q2, hQ2⟩ : ∃ z, (Q1 && q2) = z := ⟨_, rfl⟩
  rw [hQ2] at T
  replace e := hid (e.out.trans (by rw [hQ2]))
  have k12 : V.cell? ⟨W.heap.size, 12, none⟩ = some (.string u.wpn) := (hB.cell 12).trans (by rw [hlu.out]; rfl)
  have m12 : V.cell? ⟨W.heap.size + 1, 12, none⟩ = some (.string v.wpn) := (hC.cell 12).trans (by rw [hlv.out]; rfl)
  have z12 := h12.out
  refine wpList_and7 (j := 19) (ax := .pointer (some ⟨W.heap.size, 12, none⟩)) (ay := .pointer (some ⟨W.heap.size + 1, 12, none⟩)) (x := .string u.wpn) (y := .string v.wpn) (e := q12) T (by decide) (by decide) (by decide) rfl rfl rfl rfl rfl rfl rfl rfl rfl rfl rfl rfl rfl rfl rfl
    (fun ρ r1 => by go_simp) (fun ρ r1 => by go_simp) (fun ρ r1 => by go_simp) (fun ρ r1 => by go_simp) (fun ρ r1 => by go_simp) (fun ρ r1 r2 => by go_simp) (fun ρ x rc r1 r2 => by cases (Q2) <;> (try have r3 := r2 rfl) <;> clear r2 <;> go_simp) (fun a' T => ?_)
  clear k12 m12 z12
  obtain ⟨Q12, hQ12⟩ : ∃ z, (Q2 && q12) = z := ⟨_, rfl⟩
  rw [hQ12] at T
  replace e := hid (e.out.trans (by rw [hQ12]))
  have k3 : V.cell? ⟨W.heap.size, 3, none⟩ = some (.int .i64 u.cls) := (hB.cell 3).trans (by rw [hlu.out]; rfl)
  have m3 : V.cell? ⟨W.heap.size + 1, 3, none⟩ = some (.int .i64 v.cls) := (hC.cell 3).trans (by rw [hlv.out]; rfl)
  have z3 := h3.out
  refine wpList_and7 (j := 26) (ax := .pointer (some ⟨W.heap.size, 3, none⟩)) (ay := .pointer (some ⟨W.heap.size + 1, 3, none⟩)) (x := .int .i64 u.cls) (y := .int .i64 v.cls) (e := q3) T (by decide) (by decide) (by decide) rfl rfl rfl rfl rfl rfl rfl rfl rfl rfl rfl rfl rfl rfl rfl
    (fun ρ r1 => by go_simp) (fun ρ r1 => by go_simp) (fun ρ r1 => by go_simp) (fun ρ r1 => by go_simp) (fun ρ r1 => by go_simp) (fun ρ r1 r2 => by go_simp) (fun ρ x rc r1 r2 => by cases (Q12) <;> (try have r3 := r2 rfl) <;> clear r2 <;> go_simp) (fun a' T => ?_)
  clear k3 m3 z3
  obtain ⟨Q3, hQ3⟩ : ∃ z, (Q12 && q3) = z := ⟨_, rfl⟩
  rw [hQ3] at T
  replace e := hid (e.out.trans (by rw [hQ3]))
  have k4 : V.cell? ⟨W.heap.size, 4, none⟩ = some (.int .i64 u.w) := (hB.cell 4).trans (by rw [hlu.out]; rfl)
  have m4 : V.cell? ⟨W.heap.size + 1, 4, none⟩ = some (.int .i64 v.w) := (hC.cell 4).trans (by rw [hlv.out]; rfl)
  have z4 := h4.out
  refine wpList_and7 (j := 33) (ax := .pointer (some ⟨W.heap.size, 4, none⟩)) (ay := .pointer (some ⟨W.heap.size + 1, 4, none⟩)) (x := .int .i64 u.w) (y := .int .i64 v.w) (e := q4) T (by decide) (by decide) (by decide) rfl rfl rfl rfl rfl rfl rfl rfl rfl rfl rfl rfl rfl rfl rfl
    (fun ρ r1 => by go_simp) (fun ρ r1 => by go_simp) (fun ρ r1 => by go_simp) (fun ρ r1 => by go_simp) (fun ρ r1 => by go_simp) (fun ρ r1 r2 => by go_simp) (fun ρ x rc r1 r2 => by cases (Q3) <;> (try have r3 := r2 rfl) <;> clear r2 <;> go_simp) (fun a' T => ?_)
  clear k4 m4 z4
  obtain ⟨Q4, hQ4⟩ : ∃ z, (Q3 && q4) = z := ⟨_, rfl⟩
  rw [hQ4] at T
  replace e := hid (e.out.trans (by rw [hQ4]))
  have k5 : V.cell? ⟨W.heap.size, 5, none⟩ = some (.int .i64 u.h) := (hB.cell 5).trans (by rw [hlu.out]; rfl)
  have m5 : V.cell? ⟨W.heap.size + 1, 5, none⟩ = some (.int .i64 v.h) := (hC.cell 5).trans (by rw [hlv.out]; rfl)
  have z5 := h5.out
  refine wpList_and7 (j := 40) (ax := .pointer (some ⟨W.heap.size, 5, none⟩)) (ay := .pointer (some ⟨W.heap.size + 1, 5, none⟩)) (x := .int .i64 u.h) (y := .int .i64 v.h) (e := q5) T (by decide) (by decide) (by decide) rfl rfl rfl rfl rfl rfl rfl rfl rfl rfl rfl rfl rfl rfl rfl
    (fun ρ r1 => by go_simp) (fun ρ r1 => by go_simp) (fun ρ r1 => by go_simp) (fun ρ r1 => by go_simp) (fun ρ r1 => by go_simp) (fun ρ r1 r2 => by go_simp) (fun ρ x rc r1 r2 => by cases (Q4) <;> (try have r3 := r2 rfl) <;> clear r2 <;> go_simp) (fun a' T => ?_)
  clear k5 m5 z5
  obtain ⟨Q5, hQ5⟩ : ∃ z, (Q4 && q5) = z := ⟨_, rfl⟩
  rw [hQ5] at T
  replace e := hid (e.out.trans (by rw [hQ5]))
  have k6 : V.cell? ⟨W.heap.size, 6, none⟩ = some (.int .i64 u.rad) := (hB.cell 6).trans (by rw [hlu.out]; rfl)
  have m6 : V.cell? ⟨W.heap.size + 1, 6, none⟩ = some (.int .i64 v.rad) := (hC.cell 6).trans (by rw [hlv.out]; rfl)
  have z6 := h6.out
  refine wpList_and7 (j := 47) (ax := .pointer (some ⟨W.heap.size, 6, none⟩)) (ay := .pointer (some ⟨W.heap.size + 1, 6, none⟩)) (x := .int .i64 u.rad) (y := .int .i64 v.rad) (e := q6) T (by decide) (by decide) (by decide) rfl rfl rfl rfl rfl rfl rfl rfl rfl rfl rfl rfl rfl rfl rfl
    (fun ρ r1 => by go_simp) (fun ρ r1 => by go_simp) (fun ρ r1 => by go_simp) (fun ρ r1 => by go_simp) (fun ρ r1 => by go_simp) (fun ρ r1 r2 => by go_simp) (fun ρ x rc r1 r2 => by cases (Q5) <;> (try have r3 := r2 rfl) <;> clear r2 <;> go_simp) (fun a' T => ?_)
  clear k6 m6 z6
  obtain ⟨Q6, hQ6⟩ : ∃ z, (Q5 && q6) = z := ⟨_, rfl⟩
  rw [hQ6] at T
  replace e := hid (e.out.trans (by rw [hQ6]))
  have k7 : V.cell? ⟨W.heap.size, 7, none⟩ = some (.int .i64 u.spd) := (hB.cell 7).trans (by rw [hlu.out]; rfl)
  have m7 : V.cell? ⟨W.heap.size + 1, 7, none⟩ = some (.int .i64 v.spd) := (hC.cell 7).trans (by rw [hlv.out]; rfl)
  have z7 := h7.out
  refine wpList_and7 (j := 54) (ax := .pointer (some ⟨W.heap.size, 7, none⟩)) (ay := .pointer (some ⟨W.heap.size + 1, 7, none⟩)) (x := .int .i64 u.spd) (y := .int .i64 v.spd) (e := q7) T (by decide) (by decide) (by decide) rfl rfl rfl rfl rfl rfl rfl rfl rfl rfl rfl rfl rfl rfl rfl
    (fun ρ r1 => by go_simp) (fun ρ r1 => by go_simp) (fun ρ r1 => by go_simp) (fun ρ r1 => by go_simp) (fun ρ r1 => by go_simp) (fun ρ r1 r2 => by go_simp) (fun ρ x rc r1 r2 => by cases (Q6) <;> (try have r3 := r2 rfl) <;> clear r2 <;> go_simp) (fun a' T => ?_)
  clear k7 m7 z7
  obtain ⟨Q7, hQ7⟩ : ∃ z, (Q6 && q7) = z := ⟨_, rfl⟩
  rw [hQ7] at T
  replace e := hid (e.out.trans (by rw [hQ7]))
  have k8 : V.cell? ⟨W.heap.size, 8, none⟩ = some (.int .i64 u.sgt) := (hB.cell 8).trans (by rw [hlu.out]; rfl)
  have m8 : V.cell? ⟨W.heap.size + 1, 8, none⟩ = some (.int .i64 v.sgt) := (hC.cell 8).trans (by rw [hlv.out]; rfl)
  have z8 := h8.out
  refine wpList_and7 (j := 61) (ax := .pointer (some ⟨W.heap.size, 8, none⟩)) (ay := .pointer (some ⟨W.heap.size + 1, 8, none⟩)) (x := .int .i64 u.sgt) (y := .int .i64 v.sgt) (e := q8) T (by decide) (by decide) (by decide) rfl rfl rfl rfl rfl rfl rfl rfl rfl rfl rfl rfl rfl rfl rfl
    (fun ρ r1 => by go_simp) (fun ρ r1 => by go_simp) (fun ρ r1 => by go_simp) (fun ρ r1 => by go_simp) (fun ρ r1 => by go_simp) (fun ρ r1 r2 => by go_simp) (fun ρ x rc r1 r2 => by cases (Q7) <;> (try have r3 := r2 rfl) <;> clear r2 <;> go_simp) (fun a' T => ?_)
  clear k8 m8 z8
  obtain ⟨Q8, hQ8⟩ : ∃ z, (Q7 && q8) = z := ⟨_, rfl⟩
  rw [hQ8] at T
  replace e := hid (e.out.trans (by rw [hQ8]))
  have k9 : V.cell? ⟨W.heap.size, 9, none⟩ = some (.int .i64 u.hp) := (hB.cell 9).trans (by rw [hlu.out]; rfl)
  have m9 : V.cell? ⟨W.heap.size + 1, 9, none⟩ = some (.int .i64 v.hp) := (hC.cell 9).trans (by rw [hlv.out]; rfl)
  have z9 := h9.out
  refine wpList_and7 (j := 68) (ax := .pointer (some ⟨W.heap.size, 9, none⟩)) (ay := .pointer (some ⟨W.heap.size + 1, 9, none⟩)) (x := .int .i64 u.hp) (y := .int .i64 v.hp) (e := q9) T (by decide) (by decide) (by decide) rfl rfl rfl rfl rfl rfl rfl rfl rfl rfl rfl rfl rfl rfl rfl
    (fun ρ r1 => by go_simp) (fun ρ r1 => by go_simp) (fun ρ r1 => by go_simp) (fun ρ r1 => by go_simp) (fun ρ r1 => by go_simp) (fun ρ r1 r2 => by go_simp) (fun ρ x rc r1 r2 => by cases (Q8) <;> (try have r3 := r2 rfl) <;> clear r2 <;> go_simp) (fun a' T => ?_)
  clear k9 m9 z9
  obtain ⟨Q9, hQ9⟩ : ∃ z, (Q8 && q9) = z := ⟨_, rfl⟩
  rw [hQ9] at T
  replace e := hid (e.out.trans (by rw [hQ9]))
  have k10 : V.cell? ⟨W.heap.size, 10, none⟩ = some (.int .i64 u.arm) := (hB.cell 10).trans (by rw [hlu.out]; rfl)
  have m10 : V.cell? ⟨W.heap.size + 1, 10, none⟩ = some (.int .i64 v.arm) := (hC.cell 10).trans (by rw [hlv.out]; rfl)
  have z10 := h10.out
  refine wpList_and7 (j := 75) (ax := .pointer (some ⟨W.heap.size, 10, none⟩)) (ay := .pointer (some ⟨W.heap.size + 1, 10, none⟩)) (x := .int .i64 u.arm) (y := .int .i64 v.arm) (e := q10) T (by decide) (by decide) (by decide) rfl rfl rfl rfl rfl rfl rfl rfl rfl rfl rfl rfl rfl rfl rfl
    (fun ρ r1 => by go_simp) (fun ρ r1 => by go_simp) (fun ρ r1 => by go_simp) (fun ρ r1 => by go_simp) (fun ρ r1 => by go_simp) (fun ρ r1 r2 => by go_simp) (fun ρ x rc r1 r2 => by cases (Q9) <;> (try have r3 := r2 rfl) <;> clear r2 <;> go_simp) (fun a' T => ?_)
  clear k10 m10 z10
  obtain ⟨Q10, hQ10⟩ : ∃ z, (Q9 && q10) = z := ⟨_, rfl⟩
  rw [hQ10] at T
  replace e := hid (e.out.trans (by rw [hQ10]))
  have k11 : V.cell? ⟨W.heap.size, 11, none⟩ = some (.int .i64 u.load) := (hB.cell 11).trans (by rw [hlu.out]; rfl)
  have m11 : V.cell? ⟨W.heap.size + 1, 11, none⟩ = some (.int .i64 v.load) := (hC.cell 11).trans (by rw [hlv.out]; rfl)
  have z11 := h11.out
  refine wpList_and7 (j := 82) (ax := .pointer (some ⟨W.heap.size, 11, none⟩)) (ay := .pointer (some ⟨W.heap.size + 1, 11, none⟩)) (x := .int .i64 u.load) (y := .int .i64 v.load) (e := q11) T (by decide) (by decide) (by decide) rfl rfl rfl rfl rfl rfl rfl rfl rfl rfl rfl rfl rfl rfl rfl
    (fun ρ r1 => by go_simp) (fun ρ r1 => by go_simp) (fun ρ r1 => by go_simp) (fun ρ r1 => by go_simp) (fun ρ r1 => by go_simp) (fun ρ r1 r2 => by go_simp) (fun ρ x rc r1 r2 => by cases (Q10) <;> (try have r3 := r2 rfl) <;> clear r2 <;> go_simp) (fun a' T => ?_)
  clear k11 m11 z11
  obtain ⟨Q11, hQ11⟩ : ∃ z, (Q10 && q11) = z := ⟨_, rfl⟩
  rw [hQ11] at T
  replace e := hid (e.out.trans (by rw [hQ11]))
  have k13 : V.cell? ⟨W.heap.size, 13, none⟩ = some (.int .i64 u.ore) := (hB.cell 13).trans (by rw [hlu.out]; rfl)
  have m13 : V.cell? ⟨W.heap.size + 1, 13, none⟩ = some (.int .i64 v.ore) := (hC.cell 13).trans (by rw [hlv.out]; rfl)
  have z13 := h13.out
  refine wpList_and7 (j := 89) (ax := .pointer (some ⟨W.heap.size, 13, none⟩)) (ay := .pointer (some ⟨W.heap.size + 1, 13, none⟩)) (x := .int .i64 u.ore) (y := .int .i64 v.ore) (e := q13) T (by decide) (by decide) (by decide) rfl rfl rfl rfl rfl rfl rfl rfl rfl rfl rfl rfl rfl rfl rfl
    (fun ρ r1 => by go_simp) (fun ρ r1 => by go_simp) (fun ρ r1 => by go_simp) (fun ρ r1 => by go_simp) (fun ρ r1 => by go_simp) (fun ρ r1 r2 => by go_simp) (fun ρ x rc r1 r2 => by cases (Q11) <;> (try have r3 := r2 rfl) <;> clear r2 <;> go_simp) (fun a' T => ?_)
  clear k13 m13 z13
  obtain ⟨Q13, hQ13⟩ : ∃ z, (Q11 && q13) = z := ⟨_, rfl⟩
  rw [hQ13] at T
  replace e := hid (e.out.trans (by rw [hQ13]))
  have k14 : V.cell? ⟨W.heap.size, 14, none⟩ = some (.int .i64 u.wood) := (hB.cell 14).trans (by rw [hlu.out]; rfl)
  have m14 : V.cell? ⟨W.heap.size + 1, 14, none⟩ = some (.int .i64 v.wood) := (hC.cell 14).trans (by rw [hlv.out]; rfl)
  have z14 := h14.out
  refine wpList_and7 (j := 96) (ax := .pointer (some ⟨W.heap.size, 14, none⟩)) (ay := .pointer (some ⟨W.heap.size + 1, 14, none⟩)) (x := .int .i64 u.wood) (y := .int .i64 v.wood) (e := q14) T (by decide) (by decide) (by decide) rfl rfl rfl rfl rfl rfl rfl rfl rfl rfl rfl rfl rfl rfl rfl
    (fun ρ r1 => by go_simp) (fun ρ r1 => by go_simp) (fun ρ r1 => by go_simp) (fun ρ r1 => by go_simp) (fun ρ r1 => by go_simp) (fun ρ r1 r2 => by go_simp) (fun ρ x rc r1 r2 => by cases (Q13) <;> (try have r3 := r2 rfl) <;> clear r2 <;> go_simp) (fun a' T => ?_)
  clear k14 m14 z14
  obtain ⟨Q14, hQ14⟩ : ∃ z, (Q13 && q14) = z := ⟨_, rfl⟩
  rw [hQ14] at T
  replace e := hid (e.out.trans (by rw [hQ14]))
  have k15 : V.cell? ⟨W.heap.size, 15, none⟩ = some (.int .i64 u.time) := (hB.cell 15).trans (by rw [hlu.out]; rfl)
  have m15 : V.cell? ⟨W.heap.size + 1, 15, none⟩ = some (.int .i64 v.time) := (hC.cell 15).trans (by rw [hlv.out]; rfl)
  have z15 := h15.out
  refine wpList_and7 (j := 103) (ax := .pointer (some ⟨W.heap.size, 15, none⟩)) (ay := .pointer (some ⟨W.heap.size + 1, 15, none⟩)) (x := .int .i64 u.time) (y := .int .i64 v.time) (e := q15) T (by decide) (by decide) (by decide) rfl rfl rfl rfl rfl rfl rfl rfl rfl rfl rfl rfl rfl rfl rfl
    (fun ρ r1 => by go_simp) (fun ρ r1 => by go_simp) (fun ρ r1 => by go_simp) (fun ρ r1 => by go_simp) (fun ρ r1 => by go_simp) (fun ρ r1 r2 => by go_simp) (fun ρ x rc r1 r2 => by cases (Q14) <;> (try have r3 := r2 rfl) <;> clear r2 <;> go_simp) (fun a' T => ?_)
  clear k15 m15 z15
  obtain ⟨Q15, hQ15⟩ : ∃ z, (Q14 && q15) = z := ⟨_, rfl⟩
  rw [hQ15] at T
  replace e := hid (e.out.trans (by rw [hQ15]))
  have k16 : V.cell? ⟨W.heap.size, 16, none⟩ = some (.slice pu0 u.needs.length cu0) := (hB.cell 16).trans (by rw [hlu.out]; rfl)
  have m16 : V.cell? ⟨W.heap.size + 1, 16, none⟩ = some (.slice pv0 v.needs.length cv0) := (hC.cell 16).trans (by rw [hlv.out]; rfl)
  refine wpList_and7c (j := 110) (f := 118) (ax := .pointer (some ⟨W.heap.size, 16, none⟩)) (ay := .pointer (some ⟨W.heap.size + 1, 16, none⟩)) (x := .slice pu0 u.needs.length cu0) (y := .slice pv0 v.needs.length cv0) (e := q16) T (by decide) (by decide) (by decide) rfl rfl rfl rfl rfl rfl rfl rfl rfl rfl rfl rfl rfl rfl rfl
    (fun ρ r1 => by go_simp) (fun ρ r1 => by go_simp) (fun ρ r1 => by go_simp) (fun ρ r1 => by go_simp) (fun ρ r1 => by go_simp) (fun ρ rf r1 r2 => by go_simp) (lequalS_b u.needs v.needs _ _ q16 V (su0.below hV0) (sv0.below hV0) h16) (fun ρ x w' rc r1 r2 => by cases (Q15) <;> (try have r3 := r2 rfl) <;> clear r2 <;> go_simp) (fun a' w0 T hb => ?_)
  clear k16 m16
  replace hB := hB.below hb
  replace hC := hC.below hb
  replace hL := below_call hL hb
  replace hV0 := hV0.trans (hb.mono hV0.size)
  clear hb
  obtain ⟨Q16, hQ16⟩ : ∃ z, (Q15 && q16) = z := ⟨_, rfl⟩
  rw [hQ16] at T
  replace e := hid (e.out.trans (by rw [hQ16]))
  have k17 : w0.cell? ⟨W.heap.size, 17, none⟩ = some (.slice pu1 u.trains.length cu1) := (hB.cell 17).trans (by rw [hlu.out]; rfl)
  have m17 : w0.cell? ⟨W.heap.size + 1, 17, none⟩ = some (.slice pv1 v.trains.length cv1) := (hC.cell 17).trans (by rw [hlv.out]; rfl)
  refine wpList_and7c (j := 117) (f := 118) (ax := .pointer (some ⟨W.heap.size, 17, none⟩)) (ay := .pointer (some ⟨W.heap.size + 1, 17, none⟩)) (x := .slice pu1 u.trains.length cu1) (y := .slice pv1 v.trains.length cv1) (e := q17) T (by decide) (by decide) (by decide) rfl rfl rfl rfl rfl rfl rfl rfl rfl rfl rfl rfl rfl rfl rfl
    (fun ρ r1 => by go_simp) (fun ρ r1 => by go_simp) (fun ρ r1 => by go_simp) (fun ρ r1 => by go_simp) (fun ρ r1 => by go_simp) (fun ρ rf r1 r2 => by go_simp) (lequalS_b u.trains v.trains _ _ q17 w0 (su1.below hV0) (sv1.below hV0) h17) (fun ρ x w' rc r1 r2 => by cases (Q16) <;> (try have r3 := r2 rfl) <;> clear r2 <;> go_simp) (fun a' w1 T hb => ?_)
  clear k17 m17
  replace hB := hB.below hb
  replace hC := hC.below hb
  replace hL := below_call hL hb
  replace hV0 := hV0.trans (hb.mono hV0.size)
  clear hb
  obtain ⟨Q17, hQ17⟩ : ∃ z, (Q16 && q17) = z := ⟨_, rfl⟩
  rw [hQ17] at T
  replace e := hid (e.out.trans (by rw [hQ17]))
  have k18 : w1.cell? ⟨W.heap.size, 18, none⟩ = some (.slice pu2 u.ress.length cu2) := (hB.cell 18).trans (by rw [hlu.out]; rfl)
  have m18 : w1.cell? ⟨W.heap.size + 1, 18, none⟩ = some (.slice pv2 v.ress.length cv2) := (hC.cell 18).trans (by rw [hlv.out]; rfl)
  refine wpList_and7c (j := 124) (f := 118) (ax := .pointer (some ⟨W.heap.size, 18, none⟩)) (ay := .pointer (some ⟨W.heap.size + 1, 18, none⟩)) (x := .slice pu2 u.ress.length cu2) (y := .slice pv2 v.ress.length cv2) (e := q18) T (by decide) (by decide) (by decide) rfl rfl rfl rfl rfl rfl rfl rfl rfl rfl rfl rfl rfl rfl rfl
    (fun ρ r1 => by go_simp) (fun ρ r1 => by go_simp) (fun ρ r1 => by go_simp) (fun ρ r1 => by go_simp) (fun ρ r1 => by go_simp) (fun ρ rf r1 r2 => by go_simp) (lequalS_b u.ress v.ress _ _ q18 w1 (su2.below hV0) (sv2.below hV0) h18) (fun ρ x w' rc r1 r2 => by cases (Q17) <;> (try have r3 := r2 rfl) <;> clear r2 <;> go_simp) (fun a' w2 T hb => ?_)
  clear k18 m18
  replace hB := hB.below hb
  replace hC := hC.below hb
  replace hL := below_call hL hb
  replace hV0 := hV0.trans (hb.mono hV0.size)
  clear hb
  obtain ⟨Q18, hQ18⟩ : ∃ z, (Q17 && q18) = z := ⟨_, rfl⟩
  rw [hQ18] at T
  replace e := hid (e.out.trans (by rw [hQ18]))
  have hT := eval_of T.b
  refine wpList_val (v := .bool b) (wanted_free rfl) (by rw [e.out]; go_simp; rw [T.b]; rfl) ?_
  refine wpList_nil ?_
  have T2 : (a'.put (some 4) (.bool b)).tmps[4]? = some (.bool b) := put_same (by rw [T.size]; decide)
  have D2 : (a'.put (some 4) (.bool b)).defers = [] := put_defers.trans T.d
  clear T hT
  generalize ha9 : a'.put (some 4) (.bool b) = a9 at T2 D2
  show Exit.then _ _ Exit.normal _ _
  clear ha9
  go_wp2_with fail
  refine bodyPost_ret (v := .bool b) ?_ D2 ⟨rfl, hL⟩
  unfold results
  simp [Array.getD_eq_getD_getElem?, T2, go_sem]

end

section
open Go.RowKit Go.Lib

set_option maxHeartbeats 8000000 in
set_option maxRecDepth 100000 in
theorem leqfU_b (v u : Value) (l m : List U9) (b : Bool) (V0 W : World) (hl : SlAt UAt 19 V0 v l) (hm2 : SlAt UAt 19 V0 u m) (h0 : Below V0.heap.size V0 W) (e : Hid (b = decide (l = m))) :
    Calls Tryz.prog 58 #[v, u, .func (.func 59) #[] #[]] W fun e w' => e = .returned (.bool b) ∧ Below W.heap.size W w' := by
  obtain ⟨p, c, rfl, hm, hat⟩ := hl
  obtain ⟨p2, c2, rfl, -, hat2⟩ := hm2
  unfold maxLen at hm
  by_cases hlen : l.length = m.length
  rotate_left
  · have z : ((l.length : Int) != (m.length : Int)) = true := by simp; omega
    have hb := e.out.trans (decide_eq_false (fun h => hlen (by rw [h])))
    subst hb
    clear e hat hat2
    go_enter Tryz.func58, Tryz.ntmps58
    go_wp2_with fail
    go_ret
    exact ⟨rfl, Below.refl _ _⟩
  · have z : ((l.length : Int) != (m.length : Int)) = false := by rw [hlen]; simp
    replace hlen := hid hlen
    go_enter Tryz.func58, Tryz.ntmps58
    go_wp2_with fail
    clear z
    go_loopw [17] (fun vi wr => ∃ i : Nat, vi = .int .i64 i ∧ i ≤ l.length ∧ Below W.heap.size W wr ∧ Hid (l.take i = m.take i)) (fun vi _ => l.length - (RowKit.intOf vi).toNat)
    case atStart => exact ⟨0, rfl, by omega, Below.refl _ _, hid rfl⟩
    case round =>
      obtain ⟨i, rfl, hi, hL, hA⟩ := hrel
      by_cases hlt : i < l.length
      · have hlt2 : i < m.length := by have := hlen.out; omega
        have d1 : (i : Int) < l.length := by omega
        have d2 : (i : Int) < m.length := by omega
        have d0 : (0 : Int) ≤ i := by omega
        have hV := h0.trans (hL.mono h0.size)
        obtain ⟨g, o, rfl, hc⟩ := hat (by omega)
        obtain ⟨g2, o2, rfl, hc2⟩ := hat2 (by omega)
        obtain ⟨vs, hU, hcs⟩ := (hc i hlt).ul
        obtain ⟨ws, hU2, hcs2⟩ := (hc2 i hlt2).ul
        have kl := hid ((hcs.below' (hcs.lt' hU.name) hV).loads (P := Tryz.prog) hU.len)
        have HN := fun (q : ¬ l[i]'hlt = m[i]'hlt2) => hid (show decide (l = m) = false from decide_eq_false fun h => q (by subst h; rfl))
        have HY := fun (q : l[i]'hlt = m[i]'hlt2) => hid (take_eq hlt hlt2 hA.out q)
        obtain ⟨x, hx⟩ : ∃ x, l[i]'hlt = x := ⟨_, rfl⟩
        obtain ⟨y, hy⟩ : ∃ x, m[i]'hlt2 = x := ⟨_, rfl⟩
        rw [hx] at HN HY hU
        rw [hy] at HN HY hU2
        have hZ := (Blk.new wr vs 34).alloc (.cells ws.toArray 34)
        have hY := (Blk.new (wr.alloc (.cells vs.toArray 34)) ws 34).at (World.size_alloc _ _)
        have hL2 := (hL.alloc hL.size (.cells vs.toArray 34)).alloc (by have := hL.size; simp; omega) (.cells ws.toArray 34)
        have hV1 := hV.trans (((Below.refl wr.heap.size wr).alloc (Nat.le_refl _) (.cells vs.toArray 34)).mono hV.size)
        have kl2 := hid ((hcs2.below' (hcs2.lt' hU2.name) hV1).loads (P := Tryz.prog) hU2.len)
        have kz := hid (hZ.loads (P := Tryz.prog) hU.len)
        have ky := hid (hY.loads (P := Tryz.prog) hU2.len)
        obtain ⟨q, hq⟩ : ∃ q, Hid (q = decide (x = y)) := ⟨_, hid rfl⟩
        have hcon := hid (lsameu_b x y vs ws q V0 ((wr.alloc (.cells vs.toArray 34)).alloc (.cells ws.toArray 34)) hU hU2 (h0.trans (hL2.mono h0.size)) hq)
        have hU' := hid hU
        have hU2' := hid hU2
        clear hx hy hat hat2 hA hc hc2 hU hU2 hcs hcs2 hZ hY hV hV1
        go_upto_region 5 with fail
        go_cut [7, 8] from 18 to 31 (fun s7 s8 wx => s7 = .int .i64 i ∧ s8 = .pointer (some ⟨wr.heap.size, 0, none⟩) ∧ wx = wr.alloc (.cells vs.toArray 34))
        case first =>
          go_wp2_with (first | (with_reducible refine wpList_load_agg rfl 34 _ rfl ⟨g, o + i * 19, none⟩ (by with_unfolding_all rfl) Tryz.isAgg34 Tryz.sizeOf34 vs kl.out ?_) | (with_reducible refine wpList_alloc_agg rfl 34 rfl _ rfl uZero zeroU ?_) | (with_reducible refine wpList_store_new rfl 34 _ _ rfl rfl Tryz.sizeOf34 vs uZero 34 (by with_unfolding_all rfl) (by with_unfolding_all rfl) hU'.out.len rfl hU'.out.lone ?_))
          go_meet
          case rel => exact ⟨rfl, rfl, rfl⟩
        case rest =>
        obtain ⟨rfl, rfl, rfl⟩ := hcut
        generalize hbx : wr.heap.size = bx at *
        generalize hX : wr.alloc (.cells vs.toArray 34) = X at *
        have hXs : X.heap.size = bx + 1 := by rw [← hX, ← hbx]; simp
        rw [← hXs] at ky
        clear hXs hX
        go_upto_region 6 with fail
        go_cut [9] from 22 to 31 (fun s9 wx => s9 = .pointer (some ⟨X.heap.size, 0, none⟩) ∧ wx = X.alloc (.cells ws.toArray 34))
        case first =>
          go_wp2_with (first | (with_reducible refine wpList_load_agg rfl 34 _ rfl ⟨g2, o2 + i * 19, none⟩ (by with_unfolding_all rfl) Tryz.isAgg34 Tryz.sizeOf34 ws kl2.out ?_) | (with_reducible refine wpList_alloc_agg rfl 34 rfl _ rfl uZero zeroU ?_) | (with_reducible refine wpList_store_new rfl 34 _ _ rfl rfl Tryz.sizeOf34 ws uZero 34 (by with_unfolding_all rfl) (by with_unfolding_all rfl) hU2'.out.len rfl hU2'.out.lone ?_))
          go_meet
          case rel => exact ⟨rfl, rfl⟩
        case rest =>
        obtain ⟨rfl, rfl⟩ := hcut
        generalize X.alloc (.cells ws.toArray 34) = Y at *
        go_wp2_with (first | (with_reducible refine wpList_load_agg rfl 34 _ rfl ⟨bx, 0, none⟩ (by with_unfolding_all rfl) Tryz.isAgg34 Tryz.sizeOf34 vs kz.out ?_) | (with_reducible refine wpList_load_agg rfl 34 _ rfl ⟨X.heap.size, 0, none⟩ (by with_unfolding_all rfl) Tryz.isAgg34 Tryz.sizeOf34 ws ky.out ?_))
        (refine hcon.out.mono ?_; rintro e w1 ⟨rfl, hb⟩)
        replace hL2 := below_call hL2 hb
        clear hb hcon kz ky kl kl2 hU' hU2' hL
        cases q with
        | false =>
          have hb := e.out.trans (HN (of_decide_eq_false hq.out.symm)).out
          subst hb
          clear HN HY e hq
          go_wp2_with fail
          go_ret
          exact ⟨rfl, hL2⟩
        | true =>
          have HS := HY (of_decide_eq_true hq.out.symm)
          clear HN HY hq
          go_wp2_with fail
          go_roundw
          case rel => exact ⟨i + 1, by go_num, by omega, hL2, HS⟩
          case measure => simp [RowKit.intOf]; omega
      · have ha := hA.out
        rw [List.take_of_length_le (by omega), List.take_of_length_le (by have := hlen.out; omega)] at ha
        have hb := e.out.trans (decide_eq_true ha)
        subst hb
        have d1 : ¬ (i : Int) < l.length := by omega
        clear hat hat2 ha hA e
        go_wp2_with fail
        go_ret
        exact ⟨rfl, hL⟩
set_option maxHeartbeats 8000000 in
set_option maxRecDepth 100000 in
theorem leqfT_b (v u : Value) (l m : List T9) (b : Bool) (V0 W : World) (hl : SlAt TAt 8 V0 v l) (hm2 : SlAt TAt 8 V0 u m) (h0 : Below V0.heap.size V0 W) (e : Hid (b = decide (l = m))) :
    Calls Tryz.prog 61 #[v, u, .func (.func 62) #[] #[]] W fun e w' => e = .returned (.bool b) ∧ Below W.heap.size W w' := by
  obtain ⟨p, c, rfl, hm, hat⟩ := hl
  obtain ⟨p2, c2, rfl, -, hat2⟩ := hm2
  unfold maxLen at hm
  by_cases hlen : l.length = m.length
  rotate_left
  · have z : ((l.length : Int) != (m.length : Int)) = true := by simp; omega
    have hb := e.out.trans (decide_eq_false (fun h => hlen (by rw [h])))
    subst hb
    clear e hat hat2
    go_enter Tryz.func61, Tryz.ntmps61
    go_wp2_with fail
    go_ret
    exact ⟨rfl, Below.refl _ _⟩
  · have z : ((l.length : Int) != (m.length : Int)) = false := by rw [hlen]; simp
    replace hlen := hid hlen
    go_enter Tryz.func61, Tryz.ntmps61
    go_wp2_with fail
    clear z
    go_loopw [17] (fun vi wr => ∃ i : Nat, vi = .int .i64 i ∧ i ≤ l.length ∧ Below W.heap.size W wr ∧ Hid (l.take i = m.take i)) (fun vi _ => l.length - (RowKit.intOf vi).toNat)
    case atStart => exact ⟨0, rfl, by omega, Below.refl _ _, hid rfl⟩
    case round =>
      obtain ⟨i, rfl, hi, hL, hA⟩ := hrel
      by_cases hlt : i < l.length
      · have hlt2 : i < m.length := by have := hlen.out; omega
        have d1 : (i : Int) < l.length := by omega
        have d2 : (i : Int) < m.length := by omega
        have d0 : (0 : Int) ≤ i := by omega
        have hV := h0.trans (hL.mono h0.size)
        obtain ⟨g, o, rfl, hc⟩ := hat (by omega)
        obtain ⟨g2, o2, rfl, hc2⟩ := hat2 (by omega)
        obtain ⟨vs, hU, hcs⟩ := (hc i hlt).tl
        obtain ⟨ws, hU2, hcs2⟩ := (hc2 i hlt2).tl
        have kl := hid ((hcs.below' (hcs.lt' hU.name) hV).loads (P := Tryz.prog) hU.len)
        have HN := fun (q : ¬ l[i]'hlt = m[i]'hlt2) => hid (show decide (l = m) = false from decide_eq_false fun h => q (by subst h; rfl))
        have HY := fun (q : l[i]'hlt = m[i]'hlt2) => hid (take_eq hlt hlt2 hA.out q)
        obtain ⟨x, hx⟩ : ∃ x, l[i]'hlt = x := ⟨_, rfl⟩
        obtain ⟨y, hy⟩ : ∃ x, m[i]'hlt2 = x := ⟨_, rfl⟩
        rw [hx] at HN HY hU
        rw [hy] at HN HY hU2
        have hZ := (Blk.new wr vs 42).alloc (.cells ws.toArray 42)
        have hY := (Blk.new (wr.alloc (.cells vs.toArray 42)) ws 42).at (World.size_alloc _ _)
        have hL2 := (hL.alloc hL.size (.cells vs.toArray 42)).alloc (by have := hL.size; simp; omega) (.cells ws.toArray 42)
        have hV1 := hV.trans (((Below.refl wr.heap.size wr).alloc (Nat.le_refl _) (.cells vs.toArray 42)).mono hV.size)
        have kl2 := hid ((hcs2.below' (hcs2.lt' hU2.name) hV1).loads (P := Tryz.prog) hU2.len)
        have kz := hid (hZ.loads (P := Tryz.prog) hU.len)
        have ky := hid (hY.loads (P := Tryz.prog) hU2.len)
        obtain ⟨q, hq⟩ : ∃ q, Hid (q = decide (x = y)) := ⟨_, hid rfl⟩
        have hcon := hid (lsamet_b x y vs ws q V0 ((wr.alloc (.cells vs.toArray 42)).alloc (.cells ws.toArray 42)) hU hU2 (h0.trans (hL2.mono h0.size)) hq)
        have hU' := hid hU
        have hU2' := hid hU2
        clear hx hy hat hat2 hA hc hc2 hU hU2 hcs hcs2 hZ hY hV hV1
        go_upto_region 5 with fail
        go_cut [7, 8] from 18 to 31 (fun s7 s8 wx => s7 = .int .i64 i ∧ s8 = .pointer (some ⟨wr.heap.size, 0, none⟩) ∧ wx = wr.alloc (.cells vs.toArray 42))
        case first =>
          go_wp2_with (first | (with_reducible refine wpList_load_agg rfl 42 _ rfl ⟨g, o + i * 8, none⟩ (by with_unfolding_all rfl) Tryz.isAgg42 Tryz.sizeOf42 vs kl.out ?_) | (with_reducible refine wpList_alloc_agg rfl 42 rfl _ rfl tZero zeroT ?_) | (with_reducible refine wpList_store_new rfl 42 _ _ rfl rfl Tryz.sizeOf42 vs tZero 42 (by with_unfolding_all rfl) (by with_unfolding_all rfl) hU'.out.len rfl hU'.out.lone ?_))
          go_meet
          case rel => exact ⟨rfl, rfl, rfl⟩
        case rest =>
        obtain ⟨rfl, rfl, rfl⟩ := hcut
        generalize hbx : wr.heap.size = bx at *
        generalize hX : wr.alloc (.cells vs.toArray 42) = X at *
        have hXs : X.heap.size = bx + 1 := by rw [← hX, ← hbx]; simp
        rw [← hXs] at ky
        clear hXs hX
        go_upto_region 6 with fail
        go_cut [9] from 22 to 31 (fun s9 wx => s9 = .pointer (some ⟨X.heap.size, 0, none⟩) ∧ wx = X.alloc (.cells ws.toArray 42))
        case first =>
          go_wp2_with (first | (with_reducible refine wpList_load_agg rfl 42 _ rfl ⟨g2, o2 + i * 8, none⟩ (by with_unfolding_all rfl) Tryz.isAgg42 Tryz.sizeOf42 ws kl2.out ?_) | (with_reducible refine wpList_alloc_agg rfl 42 rfl _ rfl tZero zeroT ?_) | (with_reducible refine wpList_store_new rfl 42 _ _ rfl rfl Tryz.sizeOf42 ws tZero 42 (by with_unfolding_all rfl) (by with_unfolding_all rfl) hU2'.out.len rfl hU2'.out.lone ?_))
          go_meet
          case rel => exact ⟨rfl, rfl⟩
        case rest =>
        obtain ⟨rfl, rfl⟩ := hcut
        generalize X.alloc (.cells ws.toArray 42) = Y at *
        go_wp2_with (first | (with_reducible refine wpList_load_agg rfl 42 _ rfl ⟨bx, 0, none⟩ (by with_unfolding_all rfl) Tryz.isAgg42 Tryz.sizeOf42 vs kz.out ?_) | (with_reducible refine wpList_load_agg rfl 42 _ rfl ⟨X.heap.size, 0, none⟩ (by with_unfolding_all rfl) Tryz.isAgg42 Tryz.sizeOf42 ws ky.out ?_))
        (refine hcon.out.mono ?_; rintro e w1 ⟨rfl, hb⟩)
        replace hL2 := below_call hL2 hb
        clear hb hcon kz ky kl kl2 hU' hU2' hL
        cases q with
        | false =>
          have hb := e.out.trans (HN (of_decide_eq_false hq.out.symm)).out
          subst hb
          clear HN HY e hq
          go_wp2_with fail
          go_ret
          exact ⟨rfl, hL2⟩
        | true =>
          have HS := HY (of_decide_eq_true hq.out.symm)
          clear HN HY hq
          go_wp2_with fail
          go_roundw
          case rel => exact ⟨i + 1, by go_num, by omega, hL2, HS⟩
          case measure => simp [RowKit.intOf]; omega
      · have ha := hA.out
        rw [List.take_of_length_le (by omega), List.take_of_length_le (by have := hlen.out; omega)] at ha
        have hb := e.out.trans (decide_eq_true ha)
        subst hb
        have d1 : ¬ (i : Int) < l.length := by omega
        clear hat hat2 ha hA e
        go_wp2_with fail
        go_ret
        exact ⟨rfl, hL⟩
set_option maxHeartbeats 8000000 in
set_option maxRecDepth 100000 in
theorem leqW_b (v u : Value) (l m : List W9) (b : Bool) (V0 W : World) (hl : SlAt WAt 6 V0 v l) (hm2 : SlAt WAt 6 V0 u m) (h0 : Below V0.heap.size V0 W) (e : Hid (b = decide (l = m))) :
    Calls Tryz.prog 60 #[v, u] W fun e w' => e = .returned (.bool b) ∧ Below W.heap.size W w' := by
  obtain ⟨p, c, rfl, hm, hat⟩ := hl
  obtain ⟨p2, c2, rfl, -, hat2⟩ := hm2
  unfold maxLen at hm
  by_cases hlen : l.length = m.length
  rotate_left
  · have z : ((l.length : Int) != (m.length : Int)) = true := by simp; omega
    have hb := e.out.trans (decide_eq_false (fun h => hlen (by rw [h])))
    subst hb
    clear e hat hat2
    go_enter Tryz.func60, Tryz.ntmps60
    go_wp2_with fail
    go_ret
    exact ⟨rfl, Below.refl _ _⟩
  · have z : ((l.length : Int) != (m.length : Int)) = false := by rw [hlen]; simp
    replace hlen := hid hlen
    go_enter Tryz.func60, Tryz.ntmps60
    go_wp2_with fail
    clear z
    go_loopw [13] (fun vi wr => ∃ i : Nat, vi = .int .i64 i ∧ i ≤ l.length ∧ Below W.heap.size W wr ∧ Hid (l.take i = m.take i)) (fun vi _ => l.length - (RowKit.intOf vi).toNat)
    case atStart => exact ⟨0, rfl, by omega, Below.refl _ _, hid rfl⟩
    case round =>
      obtain ⟨i, rfl, hi, hL, hA⟩ := hrel
      by_cases hlt : i < l.length
      · have hlt2 : i < m.length := by have := hlen.out; omega
        have d1 : (i : Int) < l.length := by omega
        have d2 : (i : Int) < m.length := by omega
        have d0 : (0 : Int) ≤ i := by omega
        have hV := h0.trans (hL.mono h0.size)
        obtain ⟨g, o, rfl, hc⟩ := hat (by omega)
        obtain ⟨g2, o2, rfl, hc2⟩ := hat2 (by omega)
        obtain ⟨vs, hU, hcs⟩ := (hc i hlt).wl
        obtain ⟨ws, hU2, hcs2⟩ := (hc2 i hlt2).wl
        have HN := fun (q : ¬ l[i]'hlt = m[i]'hlt2) => hid (show decide (l = m) = false from decide_eq_false fun h => q (by subst h; rfl))
        have HY := fun (q : l[i]'hlt = m[i]'hlt2) => hid (take_eq hlt hlt2 hA.out q)
        obtain ⟨x, hx⟩ : ∃ x, l[i]'hlt = x := ⟨_, rfl⟩
        obtain ⟨y, hy⟩ : ∃ x, m[i]'hlt2 = x := ⟨_, rfl⟩
        rw [hx] at HN HY hU
        rw [hy] at HN HY hU2
        obtain ⟨q, hq⟩ : ∃ q, Hid (q = decide (x = y)) := ⟨_, hid rfl⟩
        clear hx hy hat hat2 hA hc hc2
        go_upto_region 6 with fail
        go_cut [24] from 16 to 25 (fun s24 wx => s24 = .bool (!q) ∧ Below wr.heap.size wr wx)
        case first =>
          have hmx : Tryz.prog.follows .mixedOrders = true := by kernel_rfl
          refine wp_region_held (S := fun w' => Below wr.heap.size wr w') hmx ?_
          show wpAnyH _ _ _ _ _ _ _ _ wr.drew
          have hS0 := (Below.refl wr.heap.size wr).drew
          refine reg_take (i := 0) (v := .slice (some ⟨g, o, none⟩) l.length c) (some 16) rfl rfl (by kernel_rfl) (by kernel_rfl) (by kernel_rfl) (fun _ _ _ h => h) (by kernel_rfl) (fun w' hS => by skip; go_simp) hS0 ?_
          simp only [Act.put, List.setIfInBounds_toArray, List.set_cons_zero, List.set_cons_succ]
          refine reg_take (i := 1) (v := .int .i64 i) (some 17) rfl rfl (by kernel_rfl) (by kernel_rfl) (by kernel_rfl) (fun _ _ _ h => h) (by kernel_rfl) (fun w' hS => by skip; go_simp) hS0 ?_
          simp only [Act.put, List.setIfInBounds_toArray, List.set_cons_zero, List.set_cons_succ]
          refine reg_take (i := 2) (v := .pointer (some ⟨g, o + i * 6, none⟩)) (some 18) rfl rfl (by kernel_rfl) (by kernel_rfl) (by kernel_rfl) (fun _ _ _ h => h) (by kernel_rfl) (fun w' hS => by skip; go_simp) hS0 ?_
          simp only [Act.put, List.setIfInBounds_toArray, List.set_cons_zero, List.set_cons_succ]
          refine reg_take (i := 3) (v := .agg vs.toArray) (some 19) rfl rfl (by kernel_rfl) (by kernel_rfl) (by kernel_rfl) (fun _ _ _ h => h) (by kernel_rfl) (fun w' hS => exec_load_agg 38 _ rfl ⟨g, o + i * 6, none⟩ (by with_unfolding_all rfl) Tryz.isAgg38 Tryz.sizeOf38 vs ((hcs.below' (hcs.lt' hU.name) (hV.trans (hS.mono hV.size))).loads hU.len)) hS0 ?_
          simp only [Act.put, List.setIfInBounds_toArray, List.set_cons_zero, List.set_cons_succ]
          refine reg_take (i := 4) (v := .slice (some ⟨g2, o2, none⟩) m.length c2) (some 20) rfl rfl (by kernel_rfl) (by kernel_rfl) (by kernel_rfl) (fun _ _ _ h => h) (by kernel_rfl) (fun w' hS => by skip; go_simp) hS0 ?_
          simp only [Act.put, List.setIfInBounds_toArray, List.set_cons_zero, List.set_cons_succ]
          refine reg_take (i := 5) (v := .int .i64 i) (some 21) rfl rfl (by kernel_rfl) (by kernel_rfl) (by kernel_rfl) (fun _ _ _ h => h) (by kernel_rfl) (fun w' hS => by skip; go_simp) hS0 ?_
          simp only [Act.put, List.setIfInBounds_toArray, List.set_cons_zero, List.set_cons_succ]
          refine reg_take (i := 6) (v := .pointer (some ⟨g2, o2 + i * 6, none⟩)) (some 22) rfl rfl (by kernel_rfl) (by kernel_rfl) (by kernel_rfl) (fun _ _ _ h => h) (by kernel_rfl) (fun w' hS => by skip; go_simp) hS0 ?_
          simp only [Act.put, List.setIfInBounds_toArray, List.set_cons_zero, List.set_cons_succ]
          refine reg_take (i := 7) (v := .agg ws.toArray) (some 23) rfl rfl (by kernel_rfl) (by kernel_rfl) (by kernel_rfl) (fun _ _ _ h => h) (by kernel_rfl) (fun w' hS => exec_load_agg 38 _ rfl ⟨g2, o2 + i * 6, none⟩ (by with_unfolding_all rfl) Tryz.isAgg38 Tryz.sizeOf38 ws ((hcs2.below' (hcs2.lt' hU2.name) (hV.trans (hS.mono hV.size))).loads hU2.len)) hS0 ?_
          simp only [Act.put, List.setIfInBounds_toArray, List.set_cons_zero, List.set_cons_succ]
          refine reg_take (i := 8) (v := .bool (!q)) (some 24) rfl rfl (by kernel_rfl) (by kernel_rfl) (by kernel_rfl) (fun _ _ _ h => h) (by kernel_rfl) (fun w' hS => by rw [hq.out]; exact exec_neqW _ _ _ rfl hU hU2 rfl rfl) hS0 ?_
          simp only [Act.put, List.setIfInBounds_toArray, List.set_cons_zero, List.set_cons_succ]
          refine wpAnyH_done (by kernel_rfl) ?_ _
          show Exit.then _ _ Exit.normal _ _
          go_wp2_with fail
          go_meet
          case rel => exact ⟨rfl, hS0⟩
        case rest =>
        obtain ⟨rfl, hb⟩ := hcut
        replace hL := below_call hL hb
        clear hb hU hU2 hcs hcs2 hV
        cases q with
        | false =>
          have hb := e.out.trans (HN (of_decide_eq_false hq.out.symm)).out
          subst hb
          clear HN HY e hq
          go_wp2_with fail
          go_ret
          exact ⟨rfl, hL⟩
        | true =>
          have HS := HY (of_decide_eq_true hq.out.symm)
          clear HN HY hq
          go_wp2_with fail
          go_roundw
          case rel => exact ⟨i + 1, by go_num, by omega, hL, HS⟩
          case measure => simp [RowKit.intOf]; omega
      · have ha := hA.out
        rw [List.take_of_length_le (by omega), List.take_of_length_le (by have := hlen.out; omega)] at ha
        have hb := e.out.trans (decide_eq_true ha)
        subst hb
        have d1 : ¬ (i : Int) < l.length := by omega
        clear hat hat2 ha hA e
        go_wp2_with fail
        go_ret
        exact ⟨rfl, hL⟩
set_option maxHeartbeats 8000000 in
set_option maxRecDepth 100000 in
theorem lSame_b (su sw st tu tw tt : Value) (r s : R9) (b : Bool) (V0 W : World) (hR : RAt V0 su sw st r) (hS : RAt V0 tu tw tt s) (h0 : Below V0.heap.size V0 W) (e : Hid (b = decide (r = s))) :
    Calls Tryz.prog 29 #[.agg #[su, sw, st], .agg #[tu, tw, tt]] W fun e w' => e = .returned (.bool b) ∧ Below W.heap.size W w' := by
  have hB := (Blk.new W [su, sw, st] 28).alloc (.cells [tu, tw, tt].toArray 28)
  have hC := (Blk.new (W.alloc (.cells [su, sw, st].toArray 28)) [tu, tw, tt] 28).at (World.size_alloc _ _)
  have hL := ((Below.refl W.heap.size W).alloc (Nat.le_refl _) (.cells [su, sw, st].toArray 28)).alloc (by simp) (.cells [tu, tw, tt].toArray 28)
  obtain ⟨q1, hq1⟩ : ∃ q, Hid (q = decide (r.us = s.us)) := ⟨_, hid rfl⟩
  obtain ⟨q2, hq2⟩ : ∃ q, Hid (q = decide (r.ws = s.ws)) := ⟨_, hid rfl⟩
  obtain ⟨q3, hq3⟩ : ∃ q, Hid (q = decide (r.ts = s.ts)) := ⟨_, hid rfl⟩
  obtain rfl : b = (q1 && q2 && q3) := by
    rw [e.out, hq1.out, hq2.out, hq3.out, Bool.eq_iff_iff]
    simp only [Bool.and_eq_true, decide_eq_true_eq]
    cases r
    cases s
    simp only [R9.mk.injEq, and_assoc]
  clear e
  have hR0 := hid hR
  have hS0 := hid hS
  clear hR hS
  go_enter Tryz.func29, Tryz.ntmps29
  go_upto_region 1 with fail
  generalize (W.alloc (.cells [su, sw, st].toArray 28)).alloc (.cells [tu, tw, tt].toArray 28) = V at *
  obtain ⟨_, _, _, _, _, _⟩ := hB.three
  obtain ⟨_, _, _, _, _, _⟩ := hC.three
  go_wp2_with fail
  ((with_reducible refine (leqfU_b _ _ _ _ q1 V0 _ hR0.out.u hS0.out.u (h0.trans (hL.mono h0.size)) hq1).mono ?_); rintro e w1 ⟨rfl, hb⟩)
  replace hB := hB.below hb
  replace hC := hC.below hb
  replace hL := below_call hL hb
  clear hb
  cases q1 with
  | false =>
    go_wp2_with fail
    go_ret
    exact ⟨rfl, hL⟩
  | true =>
    obtain ⟨_, _, _, _, _, _⟩ := hB.three
    obtain ⟨_, _, _, _, _, _⟩ := hC.three
    go_wp2_with fail
    ((with_reducible refine (leqW_b _ _ _ _ q2 V0 _ hR0.out.w hS0.out.w (h0.trans (hL.mono h0.size)) hq2).mono ?_); rintro e w1 ⟨rfl, hb⟩)
    replace hB := hB.below hb
    replace hC := hC.below hb
    replace hL := below_call hL hb
    clear hb
    cases q2 with
    | false =>
      go_wp2_with fail
      go_ret
      exact ⟨rfl, hL⟩
    | true =>
      obtain ⟨_, _, _, _, _, _⟩ := hB.three
      obtain ⟨_, _, _, _, _, _⟩ := hC.three
      go_wp2_with fail
      ((with_reducible refine (leqfT_b _ _ _ _ q3 V0 _ hR0.out.t hS0.out.t (h0.trans (hL.mono h0.size)) hq3).mono ?_); rintro e w1 ⟨rfl, hb⟩)
      replace hB := hB.below hb
      replace hC := hC.below hb
      replace hL := below_call hL hb
      clear hb
      go_wp2_with fail
      go_ret
      exact ⟨rfl, hL⟩

end

end Go.Proofs.YtaefioikflllcaaGreat
