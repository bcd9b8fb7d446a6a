/-
  The laws of shadow: cells see each other.
-/
import Derived.Test.YtlcbkeieejmmbaaDoorShS
import Derived.Test.YtlcbkeieejmmbaaDoorTerRefA
namespace Go.Proofs.YtlcbkeieejmmbaaDoor
open Go.RowKit Go.Lib

theorem Blk.six9 {w : World} {b : Nat} {a0 a1 a2 a3 a4 a5 : Value} {t : TypeId} (h : Blk w b [a0, a1, a2, a3, a4, a5] t) :
    w.cell? ⟨b, 0, none⟩ = some a0 ∧ w.cell? ⟨b, 1, none⟩ = some a1 ∧ w.cell? ⟨b, 2, none⟩ = some a2 ∧ w.cell? ⟨b, 3, none⟩ = some a3 ∧ w.cell? ⟨b, 4, none⟩ = some a4 ∧ w.cell? ⟨b, 5, none⟩ = some a5 := ⟨h.cell 0, h.cell 1, h.cell 2, h.cell 3, h.cell 4, h.cell 5⟩
/-- What of two lists of visible cells is asked. -/
theorem sym_facts {m : M3} {x y u v : Int} (h1 : (visv m x y 32 false).length ≠ 0) (h2 : (visv m u v 32 false).length ≠ 0) (hd : (x - u) * (x - u) + (y - v) * (y - v) ≤ 1024) :
    ∃ i k : Nat, Hid ((i : Int) = indexv m.w u v) ∧ Hid ((k : Int) = indexv m.w x y) ∧ ∃ (hi : i < (visv m x y 32 false).length) (hk : k < (visv m u v 32 false).length), (visv m x y 32 false)[i]'hi = lookv m x y u v ∧ (visv m u v 32 false)[k]'hk = lookv m x y u v := by
  obtain ⟨hv, ha, -⟩ := vis_some h1
  obtain ⟨-, hb, -⟩ := vis_some h2
  obtain ⟨i, hi, hix, e1⟩ := vis_cell (high := false) (r := 32) hv ha (by decide) hb
  obtain ⟨k, hk, hkx, e2⟩ := vis_cell (high := false) (r := 32) hv hb (by decide) ha
  have hl : lookv m x y u v = seesv m x y u v := by unfold lookv; rw [hv, ha, hb]; rfl
  have s1 := sq_neg (x - u)
  have s2 := sq_neg (y - v)
  rw [show -(x - u) = u - x by omega] at s1
  rw [show -(y - v) = v - y by omega] at s2
  refine ⟨i, k, hix, hkx, hi, hk, ?_, ?_⟩
  · rw [e1, hl, decide_eq_true (show (u - x) * (u - x) + (v - y) * (v - y) ≤ min 32 32 * min 32 32 by rw [s1, s2]; exact hd), Bool.true_and, Bool.false_or]
  · rw [e2, hl, decide_eq_true (show (x - u) * (x - u) + (y - v) * (y - v) ≤ min 32 32 * min 32 32 from hd), Bool.true_and, Bool.false_or, sees_turn]
/-- Boxes of a map and of three positions, held. -/
structure Box4 (W X : World) (bm ba bb bc : Nat) (ms pa pb pc : List Value) : Prop where
  m : Blk X bm ms 24
  a : Blk X ba pa 26
  b : Blk X bb pb 26
  c : Blk X bc pc 26
  old : Below W.heap.size W X
theorem Box4.call {W X Y : World} {bm ba bb bc : Nat} {ms pa pb pc : List Value} (h : Box4 W X bm ba bb bc ms pa pb pc) (hb : Below X.heap.size X Y) : Box4 W Y bm ba bb bc ms pa pb pc := ⟨h.m.below hb, h.a.below hb, h.b.below hb, h.c.below hb, below_call h.old hb⟩
set_option maxRecDepth 100000 in
set_option maxHeartbeats 16000000 in
theorem law12_symmetric (m : M3) (s : Value) (x y u v p q : Int) (W : World) (hE : EnvT W) (hr : RowAt W s m.cs) :
    Calls Tryd.prog 7 #[.agg #[.int .i64 m.w, .int .i64 m.h, s], .agg #[.int .i64 x, .int .i64 y, .int .i64 u, .int .i64 v, .int .i64 p, .int .i64 q]] W fun e w' => e = .returned (.bool true) ∧ Below W.heap.size W w' := by
  obtain ⟨z, hz⟩ : ∃ z, Hid (z = lookv m x y u v) := ⟨_, hid rfl⟩
  obtain ⟨k, hk⟩ : ∃ z, Hid (z = blocksv m x y u v p q) := ⟨_, hid rfl⟩
  have hz2 : Hid (z = lookv m u v x y) := hid (by rw [look_turn]; exact hz.out)
  have hk2 : Hid (k = blocksv m u v x y p q) := hid (by rw [blocks_turn]; exact hk.out)
  have hkz : Hid (k = true → z = false) := hid (fun h => by rw [hz.out]; exact blocks_look (by rw [← hk.out, h]))
  have cs1 := fun (w : World) (hb : Below W.heap.size W w) => shsees_b m s x y u v z w (hE.p.keep hb) (hr.below hb) hz
  have cs2 := fun (w : World) (hb : Below W.heap.size W w) => shsees_b m s u v x y z w (hE.p.keep hb) (hr.below hb) hz2
  have cb1 := fun (w : World) (hb : Below W.heap.size W w) => shblocks_b m s x y u v p q k w (hE.p.keep hb) (hr.below hb) hk
  have cb2 := fun (w : World) (hb : Below W.heap.size W w) => shblocks_b m s u v x y p q k w (hE.p.keep hb) (hr.below hb) hk2
  have cv1 := fun (w : World) (hb : Below W.heap.size W w) => shvisible_b m s x y 32 false w (hE.keep hb) (hr.below hb)
  have cv2 := fun (w : World) (hb : Below W.heap.size W w) => shvisible_b m s u v 32 false w (hE.keep hb) (hr.below hb)
  have ca := fun (w : World) (hb : Below W.heap.size W w) => awake12_b w (hE.keep hb)
  have hbd : Hid ((visv m x y 32 false).length ≠ 0 → (visv m u v 32 false).length ≠ 0 → (0 ≤ x ∧ x ≤ 31 ∧ 0 ≤ y ∧ y ≤ 31) ∧ (0 ≤ u ∧ u ≤ 31 ∧ 0 ≤ v ∧ v ≤ 31)) := hid (fun h1 h2 => by
    obtain ⟨hv, ha, -⟩ := vis_some h1
    obtain ⟨-, hb, -⟩ := vis_some h2
    exact ⟨(inv_sm (formed_of hv) ha).1, (inv_sm (formed_of hv) hb).1⟩)
  have hfacts := hid (fun h1 h2 hd => sym_facts (m := m) (x := x) (y := y) (u := u) (v := v) h1 h2 hd)
  have hcix := fun (X Y : Int) (n : Int) (w : World) (h : Hid (n = indexv m.w X Y)) => rindex_b m.w X Y n w h
  have vs1 := vis_small m x y 32 false
  have vs2 := vis_small m u v 32 false
  rw [← hz.out] at hfacts
  generalize visv m x y 32 false = V1 at *
  generalize visv m u v 32 false = V2 at *
  obtain ⟨p0, c0, rfl⟩ := hr.slice
  have hT := Held2.start W [.int .i64 m.w, .int .i64 m.h, .slice p0 m.cs.length c0] [.int .i64 x, .int .i64 y, .int .i64 u, .int .i64 v, .int .i64 p, .int .i64 q] 24 27
  clear hr hz hz2 hk hk2 hE
  by_cases hlen : 1024 < m.cs.length
  · have z1 : decide ((1024 : Int) < (m.cs.length : Int)) = true := decide_eq_true (by omega)
    obtain ⟨_, _, _, _, _, _⟩ := hT.l.three
    go_enter Tryd.func7, Tryd.ntmps7
    go_wp2_with (go_at_call 10; with_reducible refine (ca _ hT.old).mono ?_; rintro e w1 ⟨rfl, hb⟩)
    go_ret
    exact ⟨rfl, below_call hT.old hb⟩
  · have z1 : decide ((1024 : Int) < (m.cs.length : Int)) = false := decide_eq_false (by omega)
    obtain ⟨_, _, _, _, _, _⟩ := hT.l.three
    go_enter Tryd.func7, Tryd.ntmps7
    go_upto_region 3 with fail
    generalize (W.alloc (.cells [Value.int .i64 m.w, .int .i64 m.h, .slice p0 m.cs.length c0].toArray 24)).alloc (.cells [Value.int .i64 x, .int .i64 y, .int .i64 u, .int .i64 v, .int .i64 p, .int .i64 q].toArray 27) = X at *
    have B := hT.r
    go_cut [5, 6, 7] from 8 (fun s5 s6 s7 wx => ∃ (ga gb gc : Nat) (Y : World), Y = wx ∧ s5 = .pointer (some ⟨ga, 0, none⟩) ∧ s6 = .pointer (some ⟨gb, 0, none⟩) ∧ s7 = .pointer (some ⟨gc, 0, none⟩) ∧ Blk wx ga [.int .i64 x, .int .i64 y] 26 ∧ Blk wx gb [.int .i64 u, .int .i64 v] 26 ∧ Blk wx gc [.int .i64 p, .int .i64 q] 26 ∧ Below X.heap.size X wx)
    case first =>
      obtain ⟨_, _, _, _, _, _⟩ := B.six9
      go_region_held3 (fun w' => w'.cell? ⟨W.heap.size + 1, 0, none⟩ = some (.int .i64 x) ∧ w'.cell? ⟨W.heap.size + 1, 1, none⟩ = some (.int .i64 y) ∧ w'.cell? ⟨W.heap.size + 1, 2, none⟩ = some (.int .i64 u) ∧ w'.cell? ⟨W.heap.size + 1, 3, none⟩ = some (.int .i64 v) ∧ w'.cell? ⟨W.heap.size + 1, 4, none⟩ = some (.int .i64 p) ∧ w'.cell? ⟨W.heap.size + 1, 5, none⟩ = some (.int .i64 q))
        (first
          | (refine (B.below (w' := _) ?_).six9; with_reducible (repeat (first | assumption | exact Below.refl _ _ | refine Below.drew ?_ | refine Below.alloc ?_ ?_ _)) <;> first | omega | (simp; done) | (simp; omega)))
        (fail)
      all_goals
        go_wp2_with fail
        go_meet
        case rel =>
          with_reducible
            refine ⟨_, _, _, _, rfl, rfl, rfl, rfl, ?_, ?_, ?_, ?_⟩
            · repeat (first
                | exact Blk.new _ _ _
                | exact (Blk.new _ _ _).at (World.size_alloc _ _)
                | exact (Blk.new _ _ _).at ((World.size_alloc _ _).trans (congrArg (· + 1) (World.size_alloc _ _)))
                | refine Blk.drew ?_
                | refine Blk.alloc ?_ _)
            · repeat (first
                | exact Blk.new _ _ _
                | exact (Blk.new _ _ _).at (World.size_alloc _ _)
                | exact (Blk.new _ _ _).at ((World.size_alloc _ _).trans (congrArg (· + 1) (World.size_alloc _ _)))
                | refine Blk.drew ?_
                | refine Blk.alloc ?_ _)
            · repeat (first
                | exact Blk.new _ _ _
                | exact (Blk.new _ _ _).at (World.size_alloc _ _)
                | exact (Blk.new _ _ _).at ((World.size_alloc _ _).trans (congrArg (· + 1) (World.size_alloc _ _)))
                | refine Blk.drew ?_
                | refine Blk.alloc ?_ _)
            · (repeat (first | assumption | exact Below.refl _ _ | refine Below.drew ?_ | refine Below.alloc ?_ ?_ _)) <;> first | omega | (simp; done) | (simp; omega)
    case rest =>
    obtain ⟨ga, gb, gc, Y, rfl, rfl, rfl, rfl, Ba, Bb, Bc, hXY⟩ := hcut
    have hF : Box4 W Y W.heap.size ga gb gc [.int .i64 m.w, .int .i64 m.h, .slice p0 m.cs.length c0] [.int .i64 x, .int .i64 y] [.int .i64 u, .int .i64 v] [.int .i64 p, .int .i64 q] := ⟨hT.l.below hXY, Ba, Bb, Bc, below_call hT.old hXY⟩
    clear hT B Ba Bb Bc hXY
    go_upto_region 4 with fail
    go_cut [59] from 60 (fun s59 wx => s59 = .bool false ∧ ∃ Z, Z = wx ∧ Below Y.heap.size Y Z)
    case first =>
      cases k with
      | false =>
        cases z with
        | false =>
          have hmx : Tryd.prog.follows .mixedOrders = true := by kernel_rfl
          refine wp_region_held (S := fun w' => Below Y.heap.size Y w') hmx ?_
          show wpAnyH _ _ _ _ _ _ _ _ Y.drew
          have hS0 := (Below.refl Y.heap.size Y).drew
          refine reg_tk (i := 0) (v := .agg #[.int .i64 m.w, .int .i64 m.h, .slice p0 m.cs.length c0]) (some 25) rfl (fun w' hS => by (have f0 := (hF.m.below hS).cell 0; have f1 := (hF.m.below hS).cell 1; have f2 := (hF.m.below hS).cell 2; go_simp)) hS0 ?_
          try simp only [Act.put, List.setIfInBounds_toArray, List.set_cons_zero, List.set_cons_succ]
          refine reg_tk (i := 1) (v := .agg #[.int .i64 x, .int .i64 y]) (some 26) rfl (fun w' hS => by (have f0 := (hF.a.below hS).cell 0; have f1 := (hF.a.below hS).cell 1; go_simp)) hS0 ?_
          try simp only [Act.put, List.setIfInBounds_toArray, List.set_cons_zero, List.set_cons_succ]
          refine reg_tk (i := 2) (v := .agg #[.int .i64 u, .int .i64 v]) (some 27) rfl (fun w' hS => by (have f0 := (hF.b.below hS).cell 0; have f1 := (hF.b.below hS).cell 1; go_simp)) hS0 ?_
          try simp only [Act.put, List.setIfInBounds_toArray, List.set_cons_zero, List.set_cons_succ]
          refine reg_tk (i := 4) (v := .agg #[.int .i64 m.w, .int .i64 m.h, .slice p0 m.cs.length c0]) (some 29) rfl (fun w' hS => by (have f0 := (hF.m.below hS).cell 0; have f1 := (hF.m.below hS).cell 1; have f2 := (hF.m.below hS).cell 2; go_simp)) hS0 ?_
          try simp only [Act.put, List.setIfInBounds_toArray, List.set_cons_zero, List.set_cons_succ]
          refine reg_tk (i := 5) (v := .agg #[.int .i64 u, .int .i64 v]) (some 30) rfl (fun w' hS => by (have f0 := (hF.b.below hS).cell 0; have f1 := (hF.b.below hS).cell 1; go_simp)) hS0 ?_
          try simp only [Act.put, List.setIfInBounds_toArray, List.set_cons_zero, List.set_cons_succ]
          refine reg_tk (i := 6) (v := .agg #[.int .i64 x, .int .i64 y]) (some 31) rfl (fun w' hS => by (have f0 := (hF.a.below hS).cell 0; have f1 := (hF.a.below hS).cell 1; go_simp)) hS0 ?_
          try simp only [Act.put, List.setIfInBounds_toArray, List.set_cons_zero, List.set_cons_succ]
          refine held_one (i := 3) (by kernel_rfl) rfl (fun K hQ => ?_)
          go_simp
          ((with_reducible refine (cs1 _ (below_call hF.old hS0)).mono ?_); rintro e whS1 ⟨rfl, hbhS1⟩)
          have hS1 := below_call hS0 hbhS1
          refine hQ.out _ _ hS1 ?_
          clear hQ
          try simp only [Act.put, List.setIfInBounds_toArray, List.set_cons_zero, List.set_cons_succ]
          refine held_one (i := 7) (by kernel_rfl) rfl (fun K hQ => ?_)
          go_simp
          ((with_reducible refine (cs2 _ (below_call hF.old hS1)).mono ?_); rintro e whS2 ⟨rfl, hbhS2⟩)
          have hS2 := below_call hS1 hbhS2
          refine hQ.out _ _ hS2 ?_
          clear hQ
          try simp only [Act.put, List.setIfInBounds_toArray, List.set_cons_zero, List.set_cons_succ]
          refine reg_tk (i := 8) (v := .bool false) (some 33) rfl (fun w' hS => by skip; go_simp) hS2 ?_
          try simp only [Act.put, List.setIfInBounds_toArray, List.set_cons_zero, List.set_cons_succ]
          refine reg_tk (i := 9) (v := .bool false) (some 34) rfl (fun w' hS => by skip; go_simp) hS2 ?_
          try simp only [Act.put, List.setIfInBounds_toArray, List.set_cons_zero, List.set_cons_succ]
          refine reg_tk (i := 10) (v := .agg #[.int .i64 m.w, .int .i64 m.h, .slice p0 m.cs.length c0]) (some 35) rfl (fun w' hS => by (have f0 := (hF.m.below hS).cell 0; have f1 := (hF.m.below hS).cell 1; have f2 := (hF.m.below hS).cell 2; go_simp)) hS2 ?_
          try simp only [Act.put, List.setIfInBounds_toArray, List.set_cons_zero, List.set_cons_succ]
          refine reg_tk (i := 11) (v := .agg #[.int .i64 x, .int .i64 y]) (some 36) rfl (fun w' hS => by (have f0 := (hF.a.below hS).cell 0; have f1 := (hF.a.below hS).cell 1; go_simp)) hS2 ?_
          try simp only [Act.put, List.setIfInBounds_toArray, List.set_cons_zero, List.set_cons_succ]
          refine reg_tk (i := 12) (v := .agg #[.int .i64 u, .int .i64 v]) (some 37) rfl (fun w' hS => by (have f0 := (hF.b.below hS).cell 0; have f1 := (hF.b.below hS).cell 1; go_simp)) hS2 ?_
          try simp only [Act.put, List.setIfInBounds_toArray, List.set_cons_zero, List.set_cons_succ]
          refine reg_tk (i := 13) (v := .agg #[.int .i64 p, .int .i64 q]) (some 38) rfl (fun w' hS => by (have f0 := (hF.c.below hS).cell 0; have f1 := (hF.c.below hS).cell 1; go_simp)) hS2 ?_
          try simp only [Act.put, List.setIfInBounds_toArray, List.set_cons_zero, List.set_cons_succ]
          refine reg_tk (i := 15) (v := .agg #[.int .i64 m.w, .int .i64 m.h, .slice p0 m.cs.length c0]) (some 40) rfl (fun w' hS => by (have f0 := (hF.m.below hS).cell 0; have f1 := (hF.m.below hS).cell 1; have f2 := (hF.m.below hS).cell 2; go_simp)) hS2 ?_
          try simp only [Act.put, List.setIfInBounds_toArray, List.set_cons_zero, List.set_cons_succ]
          refine reg_tk (i := 16) (v := .agg #[.int .i64 u, .int .i64 v]) (some 41) rfl (fun w' hS => by (have f0 := (hF.b.below hS).cell 0; have f1 := (hF.b.below hS).cell 1; go_simp)) hS2 ?_
          try simp only [Act.put, List.setIfInBounds_toArray, List.set_cons_zero, List.set_cons_succ]
          refine reg_tk (i := 17) (v := .agg #[.int .i64 x, .int .i64 y]) (some 42) rfl (fun w' hS => by (have f0 := (hF.a.below hS).cell 0; have f1 := (hF.a.below hS).cell 1; go_simp)) hS2 ?_
          try simp only [Act.put, List.setIfInBounds_toArray, List.set_cons_zero, List.set_cons_succ]
          refine reg_tk (i := 18) (v := .agg #[.int .i64 p, .int .i64 q]) (some 43) rfl (fun w' hS => by (have f0 := (hF.c.below hS).cell 0; have f1 := (hF.c.below hS).cell 1; go_simp)) hS2 ?_
          try simp only [Act.put, List.setIfInBounds_toArray, List.set_cons_zero, List.set_cons_succ]
          refine held_one (i := 14) (by kernel_rfl) rfl (fun K hQ => ?_)
          go_simp
          ((with_reducible refine (cb1 _ (below_call hF.old hS2)).mono ?_); rintro e whS3 ⟨rfl, hbhS3⟩)
          have hS3 := below_call hS2 hbhS3
          refine hQ.out _ _ hS3 ?_
          clear hQ
          try simp only [Act.put, List.setIfInBounds_toArray, List.set_cons_zero, List.set_cons_succ]
          refine held_one (i := 19) (by kernel_rfl) rfl (fun K hQ => ?_)
          go_simp
          ((with_reducible refine (cb2 _ (below_call hF.old hS3)).mono ?_); rintro e whS4 ⟨rfl, hbhS4⟩)
          have hS4 := below_call hS3 hbhS4
          refine hQ.out _ _ hS4 ?_
          clear hQ
          try simp only [Act.put, List.setIfInBounds_toArray, List.set_cons_zero, List.set_cons_succ]
          refine reg_tk (i := 20) (v := .bool false) (some 45) rfl (fun w' hS => by skip; go_simp) hS4 ?_
          try simp only [Act.put, List.setIfInBounds_toArray, List.set_cons_zero, List.set_cons_succ]
          refine reg_tk (i := 21) (v := .bool false) (some 46) rfl (fun w' hS => by skip; go_simp) hS4 ?_
          try simp only [Act.put, List.setIfInBounds_toArray, List.set_cons_zero, List.set_cons_succ]
          refine reg_tk (i := 22) (v := .bool false) (some 47) rfl (fun w' hS => by skip; go_simp) hS4 ?_
          try simp only [Act.put, List.setIfInBounds_toArray, List.set_cons_zero, List.set_cons_succ]
          refine reg_tk (i := 23) (v := .agg #[.int .i64 m.w, .int .i64 m.h, .slice p0 m.cs.length c0]) (some 48) rfl (fun w' hS => by (have f0 := (hF.m.below hS).cell 0; have f1 := (hF.m.below hS).cell 1; have f2 := (hF.m.below hS).cell 2; go_simp)) hS4 ?_
          try simp only [Act.put, List.setIfInBounds_toArray, List.set_cons_zero, List.set_cons_succ]
          refine reg_tk (i := 24) (v := .agg #[.int .i64 x, .int .i64 y]) (some 49) rfl (fun w' hS => by (have f0 := (hF.a.below hS).cell 0; have f1 := (hF.a.below hS).cell 1; go_simp)) hS4 ?_
          try simp only [Act.put, List.setIfInBounds_toArray, List.set_cons_zero, List.set_cons_succ]
          refine reg_tk (i := 25) (v := .agg #[.int .i64 u, .int .i64 v]) (some 50) rfl (fun w' hS => by (have f0 := (hF.b.below hS).cell 0; have f1 := (hF.b.below hS).cell 1; go_simp)) hS4 ?_
          try simp only [Act.put, List.setIfInBounds_toArray, List.set_cons_zero, List.set_cons_succ]
          refine reg_tk (i := 26) (v := .agg #[.int .i64 p, .int .i64 q]) (some 51) rfl (fun w' hS => by (have f0 := (hF.c.below hS).cell 0; have f1 := (hF.c.below hS).cell 1; go_simp)) hS4 ?_
          try simp only [Act.put, List.setIfInBounds_toArray, List.set_cons_zero, List.set_cons_succ]
          refine held_one (i := 27) (by kernel_rfl) rfl (fun K hQ => ?_)
          go_simp
          ((with_reducible refine (cb1 _ (below_call hF.old hS4)).mono ?_); rintro e whS5 ⟨rfl, hbhS5⟩)
          have hS5 := below_call hS4 hbhS5
          refine hQ.out _ _ hS5 ?_
          clear hQ
          try simp only [Act.put, List.setIfInBounds_toArray, List.set_cons_zero, List.set_cons_succ]
          refine reg_tk (i := 28) (v := .bool false) (some 53) rfl (fun w' hS => by skip; go_simp) hS5 ?_
          try simp only [Act.put, List.setIfInBounds_toArray, List.set_cons_zero, List.set_cons_succ]
          refine reg_skip (i := 29) (some 54) rfl rfl (by kernel_rfl) (by kernel_rfl) (by kernel_rfl) (fun _ _ _ h => h) (by kernel_rfl) hS5 ?_
          try simp only [Act.put, List.setIfInBounds_toArray, List.set_cons_zero, List.set_cons_succ]
          refine reg_skip (i := 30) (some 55) rfl rfl (by kernel_rfl) (by kernel_rfl) (by kernel_rfl) (fun _ _ _ h => h) (by kernel_rfl) hS5 ?_
          try simp only [Act.put, List.setIfInBounds_toArray, List.set_cons_zero, List.set_cons_succ]
          refine reg_skip (i := 31) (some 56) rfl rfl (by kernel_rfl) (by kernel_rfl) (by kernel_rfl) (fun _ _ _ h => h) (by kernel_rfl) hS5 ?_
          try simp only [Act.put, List.setIfInBounds_toArray, List.set_cons_zero, List.set_cons_succ]
          refine reg_skip (i := 32) (some 57) rfl rfl (by kernel_rfl) (by kernel_rfl) (by kernel_rfl) (fun _ _ _ h => h) (by kernel_rfl) hS5 ?_
          try simp only [Act.put, List.setIfInBounds_toArray, List.set_cons_zero, List.set_cons_succ]
          refine reg_tk (i := 33) (v := .bool false) (some 58) rfl (fun w' hS => by skip; go_simp) hS5 ?_
          try simp only [Act.put, List.setIfInBounds_toArray, List.set_cons_zero, List.set_cons_succ]
          refine reg_tk (i := 34) (v := .bool false) (some 59) rfl (fun w' hS => by skip; go_simp) hS5 ?_
          try simp only [Act.put, List.setIfInBounds_toArray, List.set_cons_zero, List.set_cons_succ]
          refine wpAnyH_done (by kernel_rfl) ?_ _
          show Exit.then _ _ Exit.normal _ _
          go_wp2_with fail
          go_meet
          case rel => exact ⟨rfl, _, rfl, hS5⟩
        | true =>
          have hmx : Tryd.prog.follows .mixedOrders = true := by kernel_rfl
          refine wp_region_held (S := fun w' => Below Y.heap.size Y w') hmx ?_
          show wpAnyH _ _ _ _ _ _ _ _ Y.drew
          have hS0 := (Below.refl Y.heap.size Y).drew
          refine reg_tk (i := 0) (v := .agg #[.int .i64 m.w, .int .i64 m.h, .slice p0 m.cs.length c0]) (some 25) rfl (fun w' hS => by (have f0 := (hF.m.below hS).cell 0; have f1 := (hF.m.below hS).cell 1; have f2 := (hF.m.below hS).cell 2; go_simp)) hS0 ?_
          try simp only [Act.put, List.setIfInBounds_toArray, List.set_cons_zero, List.set_cons_succ]
          refine reg_tk (i := 1) (v := .agg #[.int .i64 x, .int .i64 y]) (some 26) rfl (fun w' hS => by (have f0 := (hF.a.below hS).cell 0; have f1 := (hF.a.below hS).cell 1; go_simp)) hS0 ?_
          try simp only [Act.put, List.setIfInBounds_toArray, List.set_cons_zero, List.set_cons_succ]
          refine reg_tk (i := 2) (v := .agg #[.int .i64 u, .int .i64 v]) (some 27) rfl (fun w' hS => by (have f0 := (hF.b.below hS).cell 0; have f1 := (hF.b.below hS).cell 1; go_simp)) hS0 ?_
          try simp only [Act.put, List.setIfInBounds_toArray, List.set_cons_zero, List.set_cons_succ]
          refine reg_tk (i := 4) (v := .agg #[.int .i64 m.w, .int .i64 m.h, .slice p0 m.cs.length c0]) (some 29) rfl (fun w' hS => by (have f0 := (hF.m.below hS).cell 0; have f1 := (hF.m.below hS).cell 1; have f2 := (hF.m.below hS).cell 2; go_simp)) hS0 ?_
          try simp only [Act.put, List.setIfInBounds_toArray, List.set_cons_zero, List.set_cons_succ]
          refine reg_tk (i := 5) (v := .agg #[.int .i64 u, .int .i64 v]) (some 30) rfl (fun w' hS => by (have f0 := (hF.b.below hS).cell 0; have f1 := (hF.b.below hS).cell 1; go_simp)) hS0 ?_
          try simp only [Act.put, List.setIfInBounds_toArray, List.set_cons_zero, List.set_cons_succ]
          refine reg_tk (i := 6) (v := .agg #[.int .i64 x, .int .i64 y]) (some 31) rfl (fun w' hS => by (have f0 := (hF.a.below hS).cell 0; have f1 := (hF.a.below hS).cell 1; go_simp)) hS0 ?_
          try simp only [Act.put, List.setIfInBounds_toArray, List.set_cons_zero, List.set_cons_succ]
          refine held_one (i := 3) (by kernel_rfl) rfl (fun K hQ => ?_)
          go_simp
          ((with_reducible refine (cs1 _ (below_call hF.old hS0)).mono ?_); rintro e whS1 ⟨rfl, hbhS1⟩)
          have hS1 := below_call hS0 hbhS1
          refine hQ.out _ _ hS1 ?_
          clear hQ
          try simp only [Act.put, List.setIfInBounds_toArray, List.set_cons_zero, List.set_cons_succ]
          refine held_one (i := 7) (by kernel_rfl) rfl (fun K hQ => ?_)
          go_simp
          ((with_reducible refine (cs2 _ (below_call hF.old hS1)).mono ?_); rintro e whS2 ⟨rfl, hbhS2⟩)
          have hS2 := below_call hS1 hbhS2
          refine hQ.out _ _ hS2 ?_
          clear hQ
          try simp only [Act.put, List.setIfInBounds_toArray, List.set_cons_zero, List.set_cons_succ]
          refine reg_tk (i := 8) (v := .bool false) (some 33) rfl (fun w' hS => by skip; go_simp) hS2 ?_
          try simp only [Act.put, List.setIfInBounds_toArray, List.set_cons_zero, List.set_cons_succ]
          refine reg_tk (i := 9) (v := .bool false) (some 34) rfl (fun w' hS => by skip; go_simp) hS2 ?_
          try simp only [Act.put, List.setIfInBounds_toArray, List.set_cons_zero, List.set_cons_succ]
          refine reg_tk (i := 10) (v := .agg #[.int .i64 m.w, .int .i64 m.h, .slice p0 m.cs.length c0]) (some 35) rfl (fun w' hS => by (have f0 := (hF.m.below hS).cell 0; have f1 := (hF.m.below hS).cell 1; have f2 := (hF.m.below hS).cell 2; go_simp)) hS2 ?_
          try simp only [Act.put, List.setIfInBounds_toArray, List.set_cons_zero, List.set_cons_succ]
          refine reg_tk (i := 11) (v := .agg #[.int .i64 x, .int .i64 y]) (some 36) rfl (fun w' hS => by (have f0 := (hF.a.below hS).cell 0; have f1 := (hF.a.below hS).cell 1; go_simp)) hS2 ?_
          try simp only [Act.put, List.setIfInBounds_toArray, List.set_cons_zero, List.set_cons_succ]
          refine reg_tk (i := 12) (v := .agg #[.int .i64 u, .int .i64 v]) (some 37) rfl (fun w' hS => by (have f0 := (hF.b.below hS).cell 0; have f1 := (hF.b.below hS).cell 1; go_simp)) hS2 ?_
          try simp only [Act.put, List.setIfInBounds_toArray, List.set_cons_zero, List.set_cons_succ]
          refine reg_tk (i := 13) (v := .agg #[.int .i64 p, .int .i64 q]) (some 38) rfl (fun w' hS => by (have f0 := (hF.c.below hS).cell 0; have f1 := (hF.c.below hS).cell 1; go_simp)) hS2 ?_
          try simp only [Act.put, List.setIfInBounds_toArray, List.set_cons_zero, List.set_cons_succ]
          refine reg_tk (i := 15) (v := .agg #[.int .i64 m.w, .int .i64 m.h, .slice p0 m.cs.length c0]) (some 40) rfl (fun w' hS => by (have f0 := (hF.m.below hS).cell 0; have f1 := (hF.m.below hS).cell 1; have f2 := (hF.m.below hS).cell 2; go_simp)) hS2 ?_
          try simp only [Act.put, List.setIfInBounds_toArray, List.set_cons_zero, List.set_cons_succ]
          refine reg_tk (i := 16) (v := .agg #[.int .i64 u, .int .i64 v]) (some 41) rfl (fun w' hS => by (have f0 := (hF.b.below hS).cell 0; have f1 := (hF.b.below hS).cell 1; go_simp)) hS2 ?_
          try simp only [Act.put, List.setIfInBounds_toArray, List.set_cons_zero, List.set_cons_succ]
          refine reg_tk (i := 17) (v := .agg #[.int .i64 x, .int .i64 y]) (some 42) rfl (fun w' hS => by (have f0 := (hF.a.below hS).cell 0; have f1 := (hF.a.below hS).cell 1; go_simp)) hS2 ?_
          try simp only [Act.put, List.setIfInBounds_toArray, List.set_cons_zero, List.set_cons_succ]
          refine reg_tk (i := 18) (v := .agg #[.int .i64 p, .int .i64 q]) (some 43) rfl (fun w' hS => by (have f0 := (hF.c.below hS).cell 0; have f1 := (hF.c.below hS).cell 1; go_simp)) hS2 ?_
          try simp only [Act.put, List.setIfInBounds_toArray, List.set_cons_zero, List.set_cons_succ]
          refine held_one (i := 14) (by kernel_rfl) rfl (fun K hQ => ?_)
          go_simp
          ((with_reducible refine (cb1 _ (below_call hF.old hS2)).mono ?_); rintro e whS3 ⟨rfl, hbhS3⟩)
          have hS3 := below_call hS2 hbhS3
          refine hQ.out _ _ hS3 ?_
          clear hQ
          try simp only [Act.put, List.setIfInBounds_toArray, List.set_cons_zero, List.set_cons_succ]
          refine held_one (i := 19) (by kernel_rfl) rfl (fun K hQ => ?_)
          go_simp
          ((with_reducible refine (cb2 _ (below_call hF.old hS3)).mono ?_); rintro e whS4 ⟨rfl, hbhS4⟩)
          have hS4 := below_call hS3 hbhS4
          refine hQ.out _ _ hS4 ?_
          clear hQ
          try simp only [Act.put, List.setIfInBounds_toArray, List.set_cons_zero, List.set_cons_succ]
          refine reg_tk (i := 20) (v := .bool false) (some 45) rfl (fun w' hS => by skip; go_simp) hS4 ?_
          try simp only [Act.put, List.setIfInBounds_toArray, List.set_cons_zero, List.set_cons_succ]
          refine reg_tk (i := 21) (v := .bool false) (some 46) rfl (fun w' hS => by skip; go_simp) hS4 ?_
          try simp only [Act.put, List.setIfInBounds_toArray, List.set_cons_zero, List.set_cons_succ]
          refine reg_tk (i := 22) (v := .bool false) (some 47) rfl (fun w' hS => by skip; go_simp) hS4 ?_
          try simp only [Act.put, List.setIfInBounds_toArray, List.set_cons_zero, List.set_cons_succ]
          refine reg_tk (i := 23) (v := .agg #[.int .i64 m.w, .int .i64 m.h, .slice p0 m.cs.length c0]) (some 48) rfl (fun w' hS => by (have f0 := (hF.m.below hS).cell 0; have f1 := (hF.m.below hS).cell 1; have f2 := (hF.m.below hS).cell 2; go_simp)) hS4 ?_
          try simp only [Act.put, List.setIfInBounds_toArray, List.set_cons_zero, List.set_cons_succ]
          refine reg_tk (i := 24) (v := .agg #[.int .i64 x, .int .i64 y]) (some 49) rfl (fun w' hS => by (have f0 := (hF.a.below hS).cell 0; have f1 := (hF.a.below hS).cell 1; go_simp)) hS4 ?_
          try simp only [Act.put, List.setIfInBounds_toArray, List.set_cons_zero, List.set_cons_succ]
          refine reg_tk (i := 25) (v := .agg #[.int .i64 u, .int .i64 v]) (some 50) rfl (fun w' hS => by (have f0 := (hF.b.below hS).cell 0; have f1 := (hF.b.below hS).cell 1; go_simp)) hS4 ?_
          try simp only [Act.put, List.setIfInBounds_toArray, List.set_cons_zero, List.set_cons_succ]
          refine reg_tk (i := 26) (v := .agg #[.int .i64 p, .int .i64 q]) (some 51) rfl (fun w' hS => by (have f0 := (hF.c.below hS).cell 0; have f1 := (hF.c.below hS).cell 1; go_simp)) hS4 ?_
          try simp only [Act.put, List.setIfInBounds_toArray, List.set_cons_zero, List.set_cons_succ]
          refine held_one (i := 27) (by kernel_rfl) rfl (fun K hQ => ?_)
          go_simp
          ((with_reducible refine (cb1 _ (below_call hF.old hS4)).mono ?_); rintro e whS5 ⟨rfl, hbhS5⟩)
          have hS5 := below_call hS4 hbhS5
          refine hQ.out _ _ hS5 ?_
          clear hQ
          try simp only [Act.put, List.setIfInBounds_toArray, List.set_cons_zero, List.set_cons_succ]
          refine reg_tk (i := 28) (v := .bool false) (some 53) rfl (fun w' hS => by skip; go_simp) hS5 ?_
          try simp only [Act.put, List.setIfInBounds_toArray, List.set_cons_zero, List.set_cons_succ]
          refine reg_skip (i := 29) (some 54) rfl rfl (by kernel_rfl) (by kernel_rfl) (by kernel_rfl) (fun _ _ _ h => h) (by kernel_rfl) hS5 ?_
          try simp only [Act.put, List.setIfInBounds_toArray, List.set_cons_zero, List.set_cons_succ]
          refine reg_skip (i := 30) (some 55) rfl rfl (by kernel_rfl) (by kernel_rfl) (by kernel_rfl) (fun _ _ _ h => h) (by kernel_rfl) hS5 ?_
          try simp only [Act.put, List.setIfInBounds_toArray, List.set_cons_zero, List.set_cons_succ]
          refine reg_skip (i := 31) (some 56) rfl rfl (by kernel_rfl) (by kernel_rfl) (by kernel_rfl) (fun _ _ _ h => h) (by kernel_rfl) hS5 ?_
          try simp only [Act.put, List.setIfInBounds_toArray, List.set_cons_zero, List.set_cons_succ]
          refine reg_skip (i := 32) (some 57) rfl rfl (by kernel_rfl) (by kernel_rfl) (by kernel_rfl) (fun _ _ _ h => h) (by kernel_rfl) hS5 ?_
          try simp only [Act.put, List.setIfInBounds_toArray, List.set_cons_zero, List.set_cons_succ]
          refine reg_tk (i := 33) (v := .bool false) (some 58) rfl (fun w' hS => by skip; go_simp) hS5 ?_
          try simp only [Act.put, List.setIfInBounds_toArray, List.set_cons_zero, List.set_cons_succ]
          refine reg_tk (i := 34) (v := .bool false) (some 59) rfl (fun w' hS => by skip; go_simp) hS5 ?_
          try simp only [Act.put, List.setIfInBounds_toArray, List.set_cons_zero, List.set_cons_succ]
          refine wpAnyH_done (by kernel_rfl) ?_ _
          show Exit.then _ _ Exit.normal _ _
          go_wp2_with fail
          go_meet
          case rel => exact ⟨rfl, _, rfl, hS5⟩
      | true =>
        obtain rfl := hkz.out rfl
        have hmx : Tryd.prog.follows .mixedOrders = true := by kernel_rfl
        refine wp_region_held (S := fun w' => Below Y.heap.size Y w') hmx ?_
        show wpAnyH _ _ _ _ _ _ _ _ Y.drew
        have hS0 := (Below.refl Y.heap.size Y).drew
        refine reg_tk (i := 0) (v := .agg #[.int .i64 m.w, .int .i64 m.h, .slice p0 m.cs.length c0]) (some 25) rfl (fun w' hS => by (have f0 := (hF.m.below hS).cell 0; have f1 := (hF.m.below hS).cell 1; have f2 := (hF.m.below hS).cell 2; go_simp)) hS0 ?_
        try simp only [Act.put, List.setIfInBounds_toArray, List.set_cons_zero, List.set_cons_succ]
        refine reg_tk (i := 1) (v := .agg #[.int .i64 x, .int .i64 y]) (some 26) rfl (fun w' hS => by (have f0 := (hF.a.below hS).cell 0; have f1 := (hF.a.below hS).cell 1; go_simp)) hS0 ?_
        try simp only [Act.put, List.setIfInBounds_toArray, List.set_cons_zero, List.set_cons_succ]
        refine reg_tk (i := 2) (v := .agg #[.int .i64 u, .int .i64 v]) (some 27) rfl (fun w' hS => by (have f0 := (hF.b.below hS).cell 0; have f1 := (hF.b.below hS).cell 1; go_simp)) hS0 ?_
        try simp only [Act.put, List.setIfInBounds_toArray, List.set_cons_zero, List.set_cons_succ]
        refine reg_tk (i := 4) (v := .agg #[.int .i64 m.w, .int .i64 m.h, .slice p0 m.cs.length c0]) (some 29) rfl (fun w' hS => by (have f0 := (hF.m.below hS).cell 0; have f1 := (hF.m.below hS).cell 1; have f2 := (hF.m.below hS).cell 2; go_simp)) hS0 ?_
        try simp only [Act.put, List.setIfInBounds_toArray, List.set_cons_zero, List.set_cons_succ]
        refine reg_tk (i := 5) (v := .agg #[.int .i64 u, .int .i64 v]) (some 30) rfl (fun w' hS => by (have f0 := (hF.b.below hS).cell 0; have f1 := (hF.b.below hS).cell 1; go_simp)) hS0 ?_
        try simp only [Act.put, List.setIfInBounds_toArray, List.set_cons_zero, List.set_cons_succ]
        refine reg_tk (i := 6) (v := .agg #[.int .i64 x, .int .i64 y]) (some 31) rfl (fun w' hS => by (have f0 := (hF.a.below hS).cell 0; have f1 := (hF.a.below hS).cell 1; go_simp)) hS0 ?_
        try simp only [Act.put, List.setIfInBounds_toArray, List.set_cons_zero, List.set_cons_succ]
        refine held_one (i := 3) (by kernel_rfl) rfl (fun K hQ => ?_)
        go_simp
        ((with_reducible refine (cs1 _ (below_call hF.old hS0)).mono ?_); rintro e whS1 ⟨rfl, hbhS1⟩)
        have hS1 := below_call hS0 hbhS1
        refine hQ.out _ _ hS1 ?_
        clear hQ
        try simp only [Act.put, List.setIfInBounds_toArray, List.set_cons_zero, List.set_cons_succ]
        refine held_one (i := 7) (by kernel_rfl) rfl (fun K hQ => ?_)
        go_simp
        ((with_reducible refine (cs2 _ (below_call hF.old hS1)).mono ?_); rintro e whS2 ⟨rfl, hbhS2⟩)
        have hS2 := below_call hS1 hbhS2
        refine hQ.out _ _ hS2 ?_
        clear hQ
        try simp only [Act.put, List.setIfInBounds_toArray, List.set_cons_zero, List.set_cons_succ]
        refine reg_tk (i := 8) (v := .bool false) (some 33) rfl (fun w' hS => by skip; go_simp) hS2 ?_
        try simp only [Act.put, List.setIfInBounds_toArray, List.set_cons_zero, List.set_cons_succ]
        refine reg_tk (i := 9) (v := .bool false) (some 34) rfl (fun w' hS => by skip; go_simp) hS2 ?_
        try simp only [Act.put, List.setIfInBounds_toArray, List.set_cons_zero, List.set_cons_succ]
        refine reg_tk (i := 10) (v := .agg #[.int .i64 m.w, .int .i64 m.h, .slice p0 m.cs.length c0]) (some 35) rfl (fun w' hS => by (have f0 := (hF.m.below hS).cell 0; have f1 := (hF.m.below hS).cell 1; have f2 := (hF.m.below hS).cell 2; go_simp)) hS2 ?_
        try simp only [Act.put, List.setIfInBounds_toArray, List.set_cons_zero, List.set_cons_succ]
        refine reg_tk (i := 11) (v := .agg #[.int .i64 x, .int .i64 y]) (some 36) rfl (fun w' hS => by (have f0 := (hF.a.below hS).cell 0; have f1 := (hF.a.below hS).cell 1; go_simp)) hS2 ?_
        try simp only [Act.put, List.setIfInBounds_toArray, List.set_cons_zero, List.set_cons_succ]
        refine reg_tk (i := 12) (v := .agg #[.int .i64 u, .int .i64 v]) (some 37) rfl (fun w' hS => by (have f0 := (hF.b.below hS).cell 0; have f1 := (hF.b.below hS).cell 1; go_simp)) hS2 ?_
        try simp only [Act.put, List.setIfInBounds_toArray, List.set_cons_zero, List.set_cons_succ]
        refine reg_tk (i := 13) (v := .agg #[.int .i64 p, .int .i64 q]) (some 38) rfl (fun w' hS => by (have f0 := (hF.c.below hS).cell 0; have f1 := (hF.c.below hS).cell 1; go_simp)) hS2 ?_
        try simp only [Act.put, List.setIfInBounds_toArray, List.set_cons_zero, List.set_cons_succ]
        refine reg_tk (i := 15) (v := .agg #[.int .i64 m.w, .int .i64 m.h, .slice p0 m.cs.length c0]) (some 40) rfl (fun w' hS => by (have f0 := (hF.m.below hS).cell 0; have f1 := (hF.m.below hS).cell 1; have f2 := (hF.m.below hS).cell 2; go_simp)) hS2 ?_
        try simp only [Act.put, List.setIfInBounds_toArray, List.set_cons_zero, List.set_cons_succ]
        refine reg_tk (i := 16) (v := .agg #[.int .i64 u, .int .i64 v]) (some 41) rfl (fun w' hS => by (have f0 := (hF.b.below hS).cell 0; have f1 := (hF.b.below hS).cell 1; go_simp)) hS2 ?_
        try simp only [Act.put, List.setIfInBounds_toArray, List.set_cons_zero, List.set_cons_succ]
        refine reg_tk (i := 17) (v := .agg #[.int .i64 x, .int .i64 y]) (some 42) rfl (fun w' hS => by (have f0 := (hF.a.below hS).cell 0; have f1 := (hF.a.below hS).cell 1; go_simp)) hS2 ?_
        try simp only [Act.put, List.setIfInBounds_toArray, List.set_cons_zero, List.set_cons_succ]
        refine reg_tk (i := 18) (v := .agg #[.int .i64 p, .int .i64 q]) (some 43) rfl (fun w' hS => by (have f0 := (hF.c.below hS).cell 0; have f1 := (hF.c.below hS).cell 1; go_simp)) hS2 ?_
        try simp only [Act.put, List.setIfInBounds_toArray, List.set_cons_zero, List.set_cons_succ]
        refine held_one (i := 14) (by kernel_rfl) rfl (fun K hQ => ?_)
        go_simp
        ((with_reducible refine (cb1 _ (below_call hF.old hS2)).mono ?_); rintro e whS3 ⟨rfl, hbhS3⟩)
        have hS3 := below_call hS2 hbhS3
        refine hQ.out _ _ hS3 ?_
        clear hQ
        try simp only [Act.put, List.setIfInBounds_toArray, List.set_cons_zero, List.set_cons_succ]
        refine held_one (i := 19) (by kernel_rfl) rfl (fun K hQ => ?_)
        go_simp
        ((with_reducible refine (cb2 _ (below_call hF.old hS3)).mono ?_); rintro e whS4 ⟨rfl, hbhS4⟩)
        have hS4 := below_call hS3 hbhS4
        refine hQ.out _ _ hS4 ?_
        clear hQ
        try simp only [Act.put, List.setIfInBounds_toArray, List.set_cons_zero, List.set_cons_succ]
        refine reg_tk (i := 20) (v := .bool false) (some 45) rfl (fun w' hS => by skip; go_simp) hS4 ?_
        try simp only [Act.put, List.setIfInBounds_toArray, List.set_cons_zero, List.set_cons_succ]
        refine reg_tk (i := 21) (v := .bool false) (some 46) rfl (fun w' hS => by skip; go_simp) hS4 ?_
        try simp only [Act.put, List.setIfInBounds_toArray, List.set_cons_zero, List.set_cons_succ]
        refine reg_tk (i := 22) (v := .bool false) (some 47) rfl (fun w' hS => by skip; go_simp) hS4 ?_
        try simp only [Act.put, List.setIfInBounds_toArray, List.set_cons_zero, List.set_cons_succ]
        refine reg_tk (i := 23) (v := .agg #[.int .i64 m.w, .int .i64 m.h, .slice p0 m.cs.length c0]) (some 48) rfl (fun w' hS => by (have f0 := (hF.m.below hS).cell 0; have f1 := (hF.m.below hS).cell 1; have f2 := (hF.m.below hS).cell 2; go_simp)) hS4 ?_
        try simp only [Act.put, List.setIfInBounds_toArray, List.set_cons_zero, List.set_cons_succ]
        refine reg_tk (i := 24) (v := .agg #[.int .i64 x, .int .i64 y]) (some 49) rfl (fun w' hS => by (have f0 := (hF.a.below hS).cell 0; have f1 := (hF.a.below hS).cell 1; go_simp)) hS4 ?_
        try simp only [Act.put, List.setIfInBounds_toArray, List.set_cons_zero, List.set_cons_succ]
        refine reg_tk (i := 25) (v := .agg #[.int .i64 u, .int .i64 v]) (some 50) rfl (fun w' hS => by (have f0 := (hF.b.below hS).cell 0; have f1 := (hF.b.below hS).cell 1; go_simp)) hS4 ?_
        try simp only [Act.put, List.setIfInBounds_toArray, List.set_cons_zero, List.set_cons_succ]
        refine reg_tk (i := 26) (v := .agg #[.int .i64 p, .int .i64 q]) (some 51) rfl (fun w' hS => by (have f0 := (hF.c.below hS).cell 0; have f1 := (hF.c.below hS).cell 1; go_simp)) hS4 ?_
        try simp only [Act.put, List.setIfInBounds_toArray, List.set_cons_zero, List.set_cons_succ]
        refine held_one (i := 27) (by kernel_rfl) rfl (fun K hQ => ?_)
        go_simp
        ((with_reducible refine (cb1 _ (below_call hF.old hS4)).mono ?_); rintro e whS5 ⟨rfl, hbhS5⟩)
        have hS5 := below_call hS4 hbhS5
        refine hQ.out _ _ hS5 ?_
        clear hQ
        try simp only [Act.put, List.setIfInBounds_toArray, List.set_cons_zero, List.set_cons_succ]
        refine reg_tk (i := 28) (v := .bool true) (some 53) rfl (fun w' hS => by skip; go_simp) hS5 ?_
        try simp only [Act.put, List.setIfInBounds_toArray, List.set_cons_zero, List.set_cons_succ]
        refine reg_tk (i := 29) (v := .agg #[.int .i64 m.w, .int .i64 m.h, .slice p0 m.cs.length c0]) (some 54) rfl (fun w' hS => by (have f0 := (hF.m.below hS).cell 0; have f1 := (hF.m.below hS).cell 1; have f2 := (hF.m.below hS).cell 2; go_simp)) hS5 ?_
        try simp only [Act.put, List.setIfInBounds_toArray, List.set_cons_zero, List.set_cons_succ]
        refine reg_tk (i := 30) (v := .agg #[.int .i64 x, .int .i64 y]) (some 55) rfl (fun w' hS => by (have f0 := (hF.a.below hS).cell 0; have f1 := (hF.a.below hS).cell 1; go_simp)) hS5 ?_
        try simp only [Act.put, List.setIfInBounds_toArray, List.set_cons_zero, List.set_cons_succ]
        refine reg_tk (i := 31) (v := .agg #[.int .i64 u, .int .i64 v]) (some 56) rfl (fun w' hS => by (have f0 := (hF.b.below hS).cell 0; have f1 := (hF.b.below hS).cell 1; go_simp)) hS5 ?_
        try simp only [Act.put, List.setIfInBounds_toArray, List.set_cons_zero, List.set_cons_succ]
        refine held_one (i := 32) (by kernel_rfl) rfl (fun K hQ => ?_)
        go_simp
        ((with_reducible refine (cs1 _ (below_call hF.old hS5)).mono ?_); rintro e whS6 ⟨rfl, hbhS6⟩)
        have hS6 := below_call hS5 hbhS6
        refine hQ.out _ _ hS6 ?_
        clear hQ
        try simp only [Act.put, List.setIfInBounds_toArray, List.set_cons_zero, List.set_cons_succ]
        refine reg_tk (i := 33) (v := .bool false) (some 58) rfl (fun w' hS => by skip; go_simp) hS6 ?_
        try simp only [Act.put, List.setIfInBounds_toArray, List.set_cons_zero, List.set_cons_succ]
        refine reg_tk (i := 34) (v := .bool false) (some 59) rfl (fun w' hS => by skip; go_simp) hS6 ?_
        try simp only [Act.put, List.setIfInBounds_toArray, List.set_cons_zero, List.set_cons_succ]
        refine wpAnyH_done (by kernel_rfl) ?_ _
        show Exit.then _ _ Exit.normal _ _
        go_wp2_with fail
        go_meet
        case rel => exact ⟨rfl, _, rfl, hS6⟩
    case rest =>
    obtain ⟨rfl, Z, rfl, hYZ⟩ := hcut
    replace hF := hF.call hYZ
    clear hYZ cb1 cb2 cs2 hkz hlen z1
    obtain ⟨_, _, _, _, _, _⟩ := hF.m.three
    obtain ⟨_, _, _, _⟩ := hF.a.two
    obtain ⟨_, _, _, _⟩ := hF.b.two
    go_upto_region 6 with fail
    have hk := fun (w' : World) (hb : Below Z.heap.size Z w') => And.intro ((hF.m.below hb).cell 0) (And.intro ((hF.m.below hb).cell 1) (And.intro ((hF.m.below hb).cell 2) (And.intro ((hF.a.below hb).cell 0) (And.intro ((hF.a.below hb).cell 1) (And.intro ((hF.b.below hb).cell 0) ((hF.b.below hb).cell 1))))))
    have hq := (Below.refl Z.heap.size Z).drew
    obtain ⟨_, _, _, _, _, _, _⟩ := hk _ hq
    have hW := hF.old
    go_region_held3 (fun w' => w'.cell? ⟨W.heap.size, 0, none⟩ = some (.int .i64 m.w) ∧ w'.cell? ⟨W.heap.size, 1, none⟩ = some (.int .i64 m.h) ∧ w'.cell? ⟨W.heap.size, 2, none⟩ = some (.slice p0 m.cs.length c0) ∧ w'.cell? ⟨ga, 0, none⟩ = some (.int .i64 x) ∧ w'.cell? ⟨ga, 1, none⟩ = some (.int .i64 y) ∧ w'.cell? ⟨gb, 0, none⟩ = some (.int .i64 u) ∧ w'.cell? ⟨gb, 1, none⟩ = some (.int .i64 v))
      (exact hk _ hq)
      (first
        | (go_at_call 16; with_reducible refine (cv1 _ (below_call hW hq)).mono ?_; rintro e w' ⟨v1, rfl, g1, hb⟩; replace hq := below_call hq hb; clear hb)
        | (go_at_call 16; with_reducible refine (cv2 _ (below_call hW hq)).mono ?_; rintro e w' ⟨v2, rfl, g2, hb⟩; replace hq := below_call hq hb; replace g1 := g1.below hb; clear hb))
    replace hF := hF.call hq
    clear hk hW cv1 cv2
    obtain ⟨_, _, _, _, _, _⟩ := hF.m.three
    obtain ⟨_, _, _, _⟩ := hF.a.two
    obtain ⟨_, _, _, _⟩ := hF.b.two
    obtain ⟨q1, j1, rfl⟩ := g1.len
    obtain ⟨q2, j2, rfl⟩ := g2.len
    have hold := hF.old
    clear hq
    go_upto_region 7 with fail
    by_cases n1 : V1.length = 0
    · have e1 : ((V1.length : Int) == 0) = true := by rw [n1]; rfl
      clear hfacts hbd
      go_quiet (fail)
      go_wp2_with (go_at_call 10; with_reducible refine (ca _ (below_many hold _)).mono ?_; rintro e w9 ⟨rfl, hb⟩)
      go_ret
      exact ⟨rfl, below_call (below_many hold _) hb⟩
    · have e1 : ((V1.length : Int) == 0) = false := beq_eq_false_iff_ne.2 (by omega)
      by_cases n2 : V2.length = 0
      · have e2 : ((V2.length : Int) == 0) = true := by rw [n2]; rfl
        clear hfacts hbd
        go_quiet (fail)
        go_wp2_with (go_at_call 10; with_reducible refine (ca _ (below_many hold _)).mono ?_; rintro e w9 ⟨rfl, hb⟩)
        go_ret
        exact ⟨rfl, below_call (below_many hold _) hb⟩
      · have e2 : ((V2.length : Int) == 0) = false := beq_eq_false_iff_ne.2 (by omega)
        obtain ⟨b1, b2⟩ := hbd.out n1 n2
        obtain ⟨dx, hdx⟩ : ∃ d, d = x - u := ⟨_, rfl⟩
        obtain ⟨dy, hdy⟩ : ∃ d, d = y - v := ⟨_, rfl⟩
        have w1 : IntKind.i64.wrap (x - u) = dx := by rw [hdx]; exact IntWalk.i64_in _ (by omega)
        have w2 : IntKind.i64.wrap (y - v) = dy := by rw [hdy]; exact IntWalk.i64_in _ (by omega)
        have m1 := Sm.mul (a := dx) (b := dx) (by unfold Sm; omega) (by unfold Sm; omega)
        have m2 := Sm.mul (a := dy) (b := dy) (by unfold Sm; omega) (by unfold Sm; omega)
        have w3 : IntKind.i64.wrap (dx * dx) = dx * dx := IntWalk.i64_in _ (by omega)
        have w4 : IntKind.i64.wrap (dy * dy) = dy * dy := IntWalk.i64_in _ (by omega)
        have w5 : IntKind.i64.wrap (dx * dx + dy * dy) = dx * dx + dy * dy := IntWalk.i64_in _ (by omega)
        have hff := fun h => hfacts.out n1 n2 (by rw [← hdx, ← hdy]; exact h)
        clear hbd hfacts hdx hdy m1 m2 b1 b2
        by_cases hd : dx * dx + dy * dy ≤ 1024
        · have e3 : decide (1024 < dx * dx + dy * dy) = false := decide_eq_false (by omega)
          obtain ⟨i, k, hix, hkx, hi, hk, hvi, hvk⟩ := hff hd
          clear hff hd
          have ci1 := fun (w : World) => hcix u v i w hix
          have ci2 := fun (w : World) => hcix x y k w hkx
          obtain ⟨G1, o1, j1', hsl1, on1⟩ := g1.on (by omega)
          obtain ⟨G2, o2, j2', hsl2, on2⟩ := g2.on (by omega)
          clear g1 g2
          injection hsl1 with hp1 _ hj1
          injection hsl2 with hp2 _ hj2
          subst hp1 hj1 hp2 hj2
          go_quiet (fail)
          replace on1 := BitsOn.below on1 (below_many (Below.refl _ _) nq)
          replace on2 := BitsOn.below on2 (below_many (Below.refl _ _) nq)
          replace hF := hF.call (below_many (Below.refl _ _) nq)
          clear hold
          go_upto_region 10 with fail
          generalize World.drewN _ nq = U at *
          have hk9 := fun (w' : World) (hb : Below U.heap.size U w') => And.intro ((hF.m.below hb).cell 0) (And.intro ((hF.m.below hb).cell 1) (And.intro ((hF.m.below hb).cell 2) (And.intro ((hF.a.below hb).cell 0) (And.intro ((hF.a.below hb).cell 1) (And.intro ((hF.b.below hb).cell 0) ((hF.b.below hb).cell 1))))))
          have hq := (Below.refl U.heap.size U).drew
          obtain ⟨_, _, _, _, _, _, _⟩ := hk9 _ hq
          go_region_held3 (fun w' => w'.cell? ⟨W.heap.size, 0, none⟩ = some (.int .i64 m.w) ∧ w'.cell? ⟨W.heap.size, 1, none⟩ = some (.int .i64 m.h) ∧ w'.cell? ⟨W.heap.size, 2, none⟩ = some (.slice p0 m.cs.length c0) ∧ w'.cell? ⟨ga, 0, none⟩ = some (.int .i64 x) ∧ w'.cell? ⟨ga, 1, none⟩ = some (.int .i64 y) ∧ w'.cell? ⟨gb, 0, none⟩ = some (.int .i64 u) ∧ w'.cell? ⟨gb, 1, none⟩ = some (.int .i64 v))
            (exact hk9 _ hq)
            (first
              | (go_at_call 20; with_reducible refine (ci1 _).mono ?_; rintro e w' ⟨rfl, hb⟩; replace hq := below_call hq hb; clear hb)
              | (go_at_call 20; with_reducible refine (ci2 _).mono ?_; rintro e w' ⟨rfl, hb⟩; replace hq := below_call hq hb; clear hb))
          replace on1 := on1.below hq
          replace on2 := on2.below hq
          replace hF := hF.call hq
          clear hq hk9 ci1 ci2
          have f1 : decide ((i : Int) < 0) = false := decide_eq_false (by omega)
          have f2 : decide ((k : Int) < 0) = false := decide_eq_false (by omega)
          have f3 : decide ((V1.length : Int) ≤ (i : Int)) = false := decide_eq_false (by omega)
          have f4 : decide ((V2.length : Int) ≤ (k : Int)) = false := decide_eq_false (by omega)
          have f5 : (0 : Int) ≤ i := by omega
          have f6 : (0 : Int) ≤ k := by omega
          have f7 : (i : Int) < V1.length := by omega
          have f8 : (k : Int) < V2.length := by omega
          have y1 := on1 i hi
          have y2 := on2 k hk
          rw [hvi] at y1
          rw [hvk] at y2
          clear on1 on2 hvi hvk hix hkx
          go_upto_region 13 with fail
          cases z with
          | false =>
            have hk9 := fun (w9 : World) (hb : Below w'.heap.size w' w9) => And.intro ((hF.m.below hb).cell 0) (And.intro ((hF.m.below hb).cell 1) (And.intro ((hF.m.below hb).cell 2) (And.intro ((hF.a.below hb).cell 0) (And.intro ((hF.a.below hb).cell 1) (And.intro ((hF.b.below hb).cell 0) (And.intro ((hF.b.below hb).cell 1) (And.intro ((hb.cell (World.block_lt_of_cell? w' _ y1)).trans y1) ((hb.cell (World.block_lt_of_cell? w' _ y2)).trans y2))))))))
            have hq := (Below.refl w'.heap.size w').drew
            have hold9 := hF.old
            obtain ⟨_, _, _, _, _, _, _, _, _⟩ := hk9 _ hq
            go_region_held3 (fun w' => w'.cell? ⟨W.heap.size, 0, none⟩ = some (.int .i64 m.w) ∧ w'.cell? ⟨W.heap.size, 1, none⟩ = some (.int .i64 m.h) ∧ w'.cell? ⟨W.heap.size, 2, none⟩ = some (.slice p0 m.cs.length c0) ∧ w'.cell? ⟨ga, 0, none⟩ = some (.int .i64 x) ∧ w'.cell? ⟨ga, 1, none⟩ = some (.int .i64 y) ∧ w'.cell? ⟨gb, 0, none⟩ = some (.int .i64 u) ∧ w'.cell? ⟨gb, 1, none⟩ = some (.int .i64 v) ∧ w'.cell? ⟨G1, o1 + i, none⟩ = some (.bool false) ∧ w'.cell? ⟨G2, o2 + k, none⟩ = some (.bool false))
              (exact hk9 _ hq)
              (first
                | (go_at_call 13; with_reducible refine (cs1 _ (below_call hold9 hq)).mono ?_; rintro e w8 ⟨rfl, hb⟩; replace hq := below_call hq hb; clear hb)
                | (go_at_call 10; with_reducible refine (ca _ (below_call hold9 hq)).mono ?_; rintro e w8 ⟨rfl, hb⟩; replace hq := below_call hq hb; clear hb))
            go_wp2
            go_ret
            exact ⟨rfl, below_call hold9 hq⟩
          | true =>
            have hk9 := fun (w9 : World) (hb : Below w'.heap.size w' w9) => And.intro ((hF.m.below hb).cell 0) (And.intro ((hF.m.below hb).cell 1) (And.intro ((hF.m.below hb).cell 2) (And.intro ((hF.a.below hb).cell 0) (And.intro ((hF.a.below hb).cell 1) (And.intro ((hF.b.below hb).cell 0) (And.intro ((hF.b.below hb).cell 1) (And.intro ((hb.cell (World.block_lt_of_cell? w' _ y1)).trans y1) ((hb.cell (World.block_lt_of_cell? w' _ y2)).trans y2))))))))
            have hq := (Below.refl w'.heap.size w').drew
            have hold9 := hF.old
            obtain ⟨_, _, _, _, _, _, _, _, _⟩ := hk9 _ hq
            go_region_held3 (fun w' => w'.cell? ⟨W.heap.size, 0, none⟩ = some (.int .i64 m.w) ∧ w'.cell? ⟨W.heap.size, 1, none⟩ = some (.int .i64 m.h) ∧ w'.cell? ⟨W.heap.size, 2, none⟩ = some (.slice p0 m.cs.length c0) ∧ w'.cell? ⟨ga, 0, none⟩ = some (.int .i64 x) ∧ w'.cell? ⟨ga, 1, none⟩ = some (.int .i64 y) ∧ w'.cell? ⟨gb, 0, none⟩ = some (.int .i64 u) ∧ w'.cell? ⟨gb, 1, none⟩ = some (.int .i64 v) ∧ w'.cell? ⟨G1, o1 + i, none⟩ = some (.bool true) ∧ w'.cell? ⟨G2, o2 + k, none⟩ = some (.bool true))
              (exact hk9 _ hq)
              (first
                | (go_at_call 13; with_reducible refine (cs1 _ (below_call hold9 hq)).mono ?_; rintro e w8 ⟨rfl, hb⟩; replace hq := below_call hq hb; clear hb)
                | (go_at_call 10; with_reducible refine (ca _ (below_call hold9 hq)).mono ?_; rintro e w8 ⟨rfl, hb⟩; replace hq := below_call hq hb; clear hb))
            go_wp2
            go_ret
            exact ⟨rfl, below_call hold9 hq⟩
        · have e3 : decide (1024 < dx * dx + dy * dy) = true := decide_eq_true (by omega)
          clear hff
          go_quiet (fail)
          go_wp2_with (go_at_call 10; with_reducible refine (ca _ (below_many hold _)).mono ?_; rintro e w9 ⟨rfl, hb⟩)
          go_ret
          exact ⟨rfl, below_call (below_many hold _) hb⟩

end Go.Proofs.YtlcbkeieejmmbaaDoor
