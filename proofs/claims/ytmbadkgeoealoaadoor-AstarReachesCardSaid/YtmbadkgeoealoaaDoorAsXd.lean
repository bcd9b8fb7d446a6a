/-
  What the reference of astar answers: least costs, spread from cell to cell.
-/
import Derived.Test.YtmbadkgeoealoaaDoorAsXc
namespace Go.Proofs.YtmbadkgeoealoaaDoor
open Go.RowKit Go.Lib

theorem own_drewN {w : World} {B k n : Nat} {e : TypeId} {v : Value} {xs : List Value} (h : w.ownsRow B e k v n xs) (j : Nat) : (w.drewN j).ownsRow B e k v n xs := by
  induction j with
  | zero => exact h
  | succ j ih => exact ih.drew
def bools (s : List Bool) : List Value := s.map .bool
theorem bools_at {s : List Bool} {i : Nat} (h : i < s.length) : (bools s)[i]? = some (.bool (gb s i)) := by
  unfold bools gb
  rw [List.getElem?_map, List.getElem?_eq_getElem h, List.getD_eq_getElem?_getD, List.getElem?_eq_getElem h]
  rfl
theorem bools_set (s : List Bool) (i : Nat) (v : Bool) : (bools s).set i (.bool v) = bools (s.set i v) := by unfold bools; rw [List.map_set]
def isFv : Value → Bool | .bool b => !b | _ => false
/-- How many cells are not settled, read off the world. -/
def leftMu (sb : Nat) (w : World) : Nat := match w.heap[sb]? with | some (.cells cur _ _) => cur.toList.countP isFv | _ => 0
theorem left_mu {w : World} {sb : Nat} {s : List Bool} {t : TypeId} (h : Blk w sb (bools s) t) : leftMu sb w = s.countP (! ·) := by
  unfold Blk at h
  unfold leftMu
  rw [h]
  show (bools s).countP isFv = _
  unfold bools
  rw [List.countP_map]
  rfl
theorem left_set {s : List Bool} {j : Nat} (hj : j < s.length) (h : gb s j = false) : (s.set j true).countP (! ·) < s.countP (! ·) := by
  have e : s[j] = false := by
    unfold gb at h
    rw [List.getD_eq_getElem?_getD, List.getElem?_eq_getElem hj] at h
    exact h
  rw [List.countP_set hj, e]
  have hp : 0 < s.countP (! ·) := List.countP_pos_iff.2 ⟨s[j], List.getElem_mem hj, by rw [e]; rfl⟩
  simp
  omega
theorem asinfoBool : (Tryd.prog.info? 4).map (fun i => (i.zero, i.size, i.bytes)) = some (some (.bool false), 1, 1) := by kernel_rfl
theorem made_blk {w w1 : World} {B n : Nat} {z : Value} {t : TypeId} (hc : z.cells = #[z]) (h : w1.ownsRow B t 1 (.slice (some ⟨w.heap.size, 0, none⟩) n n) n (madeCells z.cells (n * 1)).toList) : Blk w1 w.heap.size (List.replicate n z) t := by
  rw [Nat.mul_one, hc, toList_madeCells_one] at h
  rcases h.2 with ⟨e, _⟩ | ⟨g', cap, cur, e, _, hh, _, _, hs, ht⟩
  · cases e
  · injection e with e1 _ e2
    injection e1 with e1
    injection e1 with e1
    subst e1 e2
    unfold Blk
    rw [hh]
    rw [Nat.mul_one, List.take_of_length_le (by simp [hs])] at ht
    congr 2
    rw [← ht]
/-- The steps of a cell in the directions below d, by the cells' numbers. -/
def preD (m : M3) (bl : List Bool) (c : Int) (p : Pt) (d : Nat) : List (Nat × Int) := (nbGo m bl c p d).map fun x => (idx m x.1, x.2)
theorem preD_no {m : M3} {bl : List Bool} {c : Int} {p : Pt} {d : Nat} (h : mayv m bl c p.1 p.2 d = false) : preD m bl c p (d + 1) = preD m bl c p d := by
  unfold preD
  rw [nbGo_next, if_neg (by rw [h]; exact Bool.false_ne_true), List.append_nil]
theorem preD_yes {m : M3} {bl : List Bool} {c : Int} {p : Pt} {d : Nat} (h : mayv m bl c p.1 p.2 d = true) : preD m bl c p (d + 1) = preD m bl c p d ++ [(idx m (stx p.1 d, sty p.2 d), costv m bl c p.1 p.2 d)] := by
  unfold preD
  rw [nbGo_next, if_pos h, List.map_append]
  rfl
theorem preD_all {m : M3} {bl : List Bool} {c : Int} {j : Nat} (hj : j < m.cs.length) : preD m bl c (posn m j) 8 = nb m bl c j := by
  unfold preD nb
  rw [if_pos hj]
  rfl
theorem step_nb {m : M3} {bl : List Bool} {c : Int} {j d : Nat} (hj : j < m.cs.length) (hd : d < 8) (h : mayv m bl c (posn m j).1 (posn m j).2 d = true) : (idx m (stx (posn m j).1 d, sty (posn m j).2 d), costv m bl c (posn m j).1 (posn m j).2 d) ∈ nb m bl c j :=
  mem_nb.2 ⟨hj, ((stx (posn m j).1 d, sty (posn m j).2 d), costv m bl c (posn m j).1 (posn m j).2 d), mem_nbGo.2 ⟨d, hd, h, rfl⟩, rfl, rfl⟩
/-- The quotient and the rest that tell where a cell lies. -/
theorem posn_quo {m : M3} (hf : formedv m = true) (j : Nat) (hj : j < m.cs.length) : ¬ m.w = 0 ∧ (j : Int).tmod m.w = (posn m j).1 ∧ (j : Int).tdiv m.w = (posn m j).2 ∧ wrap64 (posn m j).2 = (posn m j).2 ∧ IntKind.i64.wrap (posn m j).2 = (posn m j).2 := by
  obtain ⟨X, Y, e1, e2, x1, x2, y1, y2, hl, _⟩ := formed_num hf
  have e := at_nat X j x1
  have hs := ins_small hf (idx_posn hf hj).2
  unfold posn at hs ⊢
  rw [e1] at hs ⊢
  dsimp only at hs ⊢
  refine ⟨by omega, ?_, ?_, IntWalk.wrap64_in _ (by omega), IntWalk.i64_in _ (by omega)⟩
  · rw [Int.tmod_eq_emod_of_nonneg (by omega), e.1, Int.natCast_emod]
  · rw [Int.tdiv_eq_ediv_of_nonneg (by omega), e.2, Int.natCast_ediv]

set_option maxRecDepth 100000 in
set_option maxHeartbeats 16000000 in
theorem r14spread_b (m : M3) (sp : Option Addr) (sn sk : Nat) (bl : List Bool) (lp : Option Addr) (ln lk : Nat) (c : Int) (a g cap n : Nat) (V W : World) (hf : formedv m = true) (hn : Hid (m.cs.length = n)) (ha : a < n) (hh : HighAt m) (hrow : RowAt V (.slice sp sn sk) m.cs) (hbit : BitsAt V (.slice lp ln lk) bl) (hV : Below V.heap.size V W) (hown : W.ownsRow V.heap.size 3 1 (.slice (some ⟨g, 0, none⟩) n cap) n (ints ((List.replicate n (-1)).set a 0))) :
    Calls Tryd.prog 60 #[.agg #[.int .i64 m.w, .int .i64 m.h, .slice sp sn sk], .slice lp ln lk, .int .i64 c, .slice (some ⟨g, 0, none⟩) n cap] W fun e w' => ∃ D, e = .returned (.slice (some ⟨g, 0, none⟩) n cap) ∧ IsDist (nb m bl c) n a D ∧ w'.ownsRow V.heap.size 3 1 (.slice (some ⟨g, 0, none⟩) n cap) n (ints D) ∧ Below V.heap.size V w' ∧ ∀ q, -1 ≤ ga D q ∧ ga D q ≤ 30000 := by
  have hmx : Tryd.prog.follows .mixedOrders = true := by kernel_rfl
  have ok := nb_ok hf bl c
  rw [hn.out] at ok
  have hn2 : n ≤ 1024 := by rw [← hn.out]; exact formed_len hf
  have hgl := hown.lt g rfl
  obtain ⟨i0, hi0, hz0, hz1, hz2⟩ := info_cut asinfoBool
  obtain ⟨k0, ek⟩ : ∃ k0, Hid (k0 = W.heap.size) := ⟨_, hid rfl⟩
  have zm := (Blk.new W [.int .i64 m.w, .int .i64 m.h, .slice sp sn sk] 24).at ek.out.symm
  have hVX := hV.alloc hV.size (.cells [Value.int .i64 m.w, .int .i64 m.h, .slice sp sn sk].toArray 24)
  have hownX := hown.alloc (.cells [Value.int .i64 m.w, .int .i64 m.h, .slice sp sn sk].toArray 24)
  have hsX : (W.alloc (.cells [Value.int .i64 m.w, .int .i64 m.h, .slice sp sn sk].toArray 24)).heap.size = k0 + 1 := by rw [World.size_alloc, ek.out]
  go_enter Tryd.func60, Tryd.ntmps60
  go_upto_region 1 with fail
  obtain ⟨X, hX⟩ : ∃ X, X = W.alloc (.cells [Value.int .i64 m.w, .int .i64 m.h, .slice sp sn sk].toArray 24) := ⟨_, rfl⟩
  rw [← hX] at zm hVX hownX hsX ⊢
  rw [← ek.out]
  clear hX hown
  obtain ⟨W1, hmk, hown1, hg1⟩ := run_make_full X X.heap.size 25 4 i0 (.bool false) 1 Tryd.underlying25 hi0 hz0 hz1 .i64 .i64 n (by rw [hz2]; omega) (by unfold maxLen; omega) (Nat.le_refl _)
  have zs : Blk W1 X.heap.size (bools (List.replicate n false)) 4 := by
    have := made_blk rfl hown1
    unfold bools
    rw [List.map_replicate]
    exact this
  replace zm := zm.grown hg1 (fun k h => by cases h)
  have hVW := hVX.grown hg1 (by have := hVX.size; exact this) (fun k h => by cases h)
  have hown2 : W1.ownsRow V.heap.size 3 1 (.slice (some ⟨g, 0, none⟩) n cap) n (ints ((List.replicate n (-1)).set a 0)) := hownX.kept hg1 (.inr (by simp [Value.ownBlock]))
  obtain ⟨sb, hsb⟩ : ∃ sb, Hid (sb = X.heap.size) := ⟨_, hid rfl⟩
  have hgs : g < sb := by rw [hsb.out, hsX, ek.out]; omega
  have hks : k0 < sb := by rw [hsb.out, hsX]; omega
  have hVs : V.heap.size ≤ sb := by omega
  have hVk : V.heap.size ≤ k0 := by rw [ek.out]; exact hV.size
  have hgk : g < k0 := by rw [ek.out]; exact hgl.2
  replace hmk : (Instr.makeSlice 25 (.int .i64 n) (.int .i64 n)).run Tryd.prog X = .ok (.slice (some ⟨sb, 0, none⟩) n n) W1 := by rw [hsb.out]; exact hmk
  rw [← hsb.out] at zs
  clear hown1 hg1 hi0 hz0 hz1 hz2 hownX hVX hsX hV
  have hS0 := hid (Sett.start (nb := nb m bl c) (n := n) (a := a) ha)
  have cn := fun (D : List Int) (s : List Bool) (w : World) (h1 : w.ownsRow V.heap.size 3 1 (.slice (some ⟨g, 0, none⟩) n cap) n (ints D)) (h2 : Blk w sb (bools s) 4) (h3 : D.length = n) (h4 : s.length = n) => r14near_b g sb n cap n D s w (by omega) (fun i hi => by rw [h1.cellAt i (by omega), ints_at (by omega)]) (fun i hi => by rw [h2.cell, bools_at (by omega)])
  go_wp2_with fail
  ((with_reducible refine (cn _ _ W1 hown2 zs (by rw [List.length_set, List.length_replicate]) List.length_replicate).mono ?_); rintro e w2 ⟨k, rfl, hk, hb2⟩)
  replace hk := hid hk
  replace zm := zm.below hb2
  replace zs := zs.below hb2
  replace hown2 := own_below hown2 hb2
  have hV2 := below_call hVW hb2
  clear hb2 hVW
  go_wp2_with fail
  go_loopw [10] (fun vk wr => ∃ (k : Int) (D : List Int) (s : List Bool) (cst : Int), vk = .int .i64 k ∧ Hid (Sett (nb m bl c) n a D s cst) ∧ Hid (NearU D s n k) ∧ wr.ownsRow V.heap.size 3 1 (.slice (some ⟨g, 0, none⟩) n cap) n (ints D) ∧ Blk wr sb (bools s) 4 ∧ Blk wr k0 [.int .i64 m.w, .int .i64 m.h, .slice sp sn sk] 24 ∧ Below V.heap.size V wr) (fun _ wr => leftMu sb wr)
  case atStart => exact ⟨k, _, _, 0, rfl, hS0, hk, hown2, zs, zm, hV2⟩
  case round =>
    clear hown2 zs zm hV2 hk hS0
    obtain ⟨k, D, s, cst, rfl, hS, hk, hown, zs, zm, hV⟩ := hrel
    have hmu0 := left_mu zs
    by_cases hk0 : 0 ≤ k
    · have z1 : decide (0 ≤ k) = true := decide_eq_true hk0
      obtain ⟨j, rfl⟩ := Int.eq_ofNat_of_zero_le hk0
      obtain ⟨hM, _, hj, hsj⟩ := hS.out.begin hk.out
      have hsl := hS.out.len
      have c1 := zs.cell j
      have f1 := zs.frozen j
      rw [bools_at (by omega), hsj] at c1
      have b0 : (0 : Int) ≤ (j : Int) := by omega
      have b1 : (j : Int) < (n : Int) := by omega
      obtain ⟨p, hp⟩ : ∃ p, Hid (p = posn m j) := ⟨_, hid rfl⟩
      obtain ⟨q0, q1, q2, q3, q4⟩ := posn_quo hf j (by rw [hn.out]; exact hj)
      rw [← hp.out] at q1 q2 q3 q4
      have hdec := left_set (s := s) (by omega) hsj
      clear hk0 hsj
      replace hM := hid hM
      go_upto_region 6 with fail
      have zs2 := zs.set j (.bool true)
      rw [bools_set] at zs2
      have zm2 := zm.far (c := sb) (i := j) (.bool true) (by omega)
      have hown2 := own_other hown ⟨sb, j, none⟩ (.bool true) (fun k hk => by injection hk with hk; subst hk; show g ≠ sb; omega)
      have hV2 := hV.setCell (p := ⟨sb, j, none⟩) hVs (.bool true)
      obtain ⟨Z, hZ⟩ : ∃ Z, Z = wr.setCell ⟨sb, j, none⟩ (.bool true) := ⟨_, rfl⟩
      rw [← hZ] at zs2 zm2 hown2 hV2 ⊢
      clear hZ zs zm hown hV c1 f1
      have zm := zm2
      clear zm2
      have hsbZ := zs2.lt
      have hVZ := hV2.size
      refine wp_onlyN (wp_region_held (S := fun w' => Below Z.heap.size Z w') hmx ?_)
      show wpAnyH _ _ _ _ _ _ _ _ Z.drew
      have hS0 := (Below.refl Z.heap.size Z).drew
      refine reg_tk (i := 0) (v := .int .i64 j) (some 31) rfl (fun w' hS => by (skip); go_simp) hS0 ?_
      try simp only [Act.put, List.setIfInBounds_toArray, List.set_cons_zero, List.set_cons_succ]
      refine reg_tk (i := 1) (v := .pointer (some ⟨k0, 0, none⟩)) (some 32) rfl (fun w' hS => by (skip); go_simp) hS0 ?_
      try simp only [Act.put, List.setIfInBounds_toArray, List.set_cons_zero, List.set_cons_succ]
      refine reg_tk (i := 2) (v := .int .i64 m.w) (some 33) rfl (fun w' hS => by (have c0 := (zm.below hS).cell 0; simp only [List.getElem?_cons_zero] at c0); go_simp) hS0 ?_
      try simp only [Act.put, List.setIfInBounds_toArray, List.set_cons_zero, List.set_cons_succ]
      refine reg_tk (i := 3) (v := .int .i64 p.1) (some 34) rfl (fun w' hS => by (skip); go_simp) hS0 ?_
      try simp only [Act.put, List.setIfInBounds_toArray, List.set_cons_zero, List.set_cons_succ]
      refine reg_tk (i := 4) (v := .int .i64 j) (some 35) rfl (fun w' hS => by (skip); go_simp) hS0 ?_
      try simp only [Act.put, List.setIfInBounds_toArray, List.set_cons_zero, List.set_cons_succ]
      refine reg_tk (i := 5) (v := .pointer (some ⟨k0, 0, none⟩)) (some 36) rfl (fun w' hS => by (skip); go_simp) hS0 ?_
      try simp only [Act.put, List.setIfInBounds_toArray, List.set_cons_zero, List.set_cons_succ]
      refine reg_tk (i := 6) (v := .int .i64 m.w) (some 37) rfl (fun w' hS => by (have c0 := (zm.below hS).cell 0; simp only [List.getElem?_cons_zero] at c0); go_simp) hS0 ?_
      try simp only [Act.put, List.setIfInBounds_toArray, List.set_cons_zero, List.set_cons_succ]
      refine reg_tk (i := 7) (v := .int .i64 p.2) (some 38) rfl (fun w' hS => by (skip); go_simp) hS0 ?_
      try simp only [Act.put, List.setIfInBounds_toArray, List.set_cons_zero, List.set_cons_succ]
      refine reg_tk (i := 8) (v := .agg #[.int .i64 p.1, .int .i64 p.2]) (some 39) rfl (fun w' hS => by (skip); go_simp) hS0 ?_
      try simp only [Act.put, List.setIfInBounds_toArray, List.set_cons_zero, List.set_cons_succ]
      refine held_one (i := 9) (by kernel_rfl) rfl (fun K hQ => ?_)
      refine step_alloc_agg rfl 27 rfl [.int .i64 0, .int .i64 0] Tryd.zeroValue27 ?_
      have hS1 := hS0.alloc hS0.size (.cells [Value.int .i64 0, .int .i64 0].toArray 27)
      have zp := Blk.new Z.drew [.int .i64 0, .int .i64 0] 27
      refine hQ.out _ _ hS1 ?_
      clear hQ
      try simp only [Act.put, List.setIfInBounds_toArray]
      refine held_one (i := 10) (by kernel_rfl) rfl (fun K hQ => ?_)
      refine step_store_agg rfl 27 (.tmp 11) (.tmp 39) rfl rfl Z.drew.heap.size rfl Tryd.sizeOf27 [.int .i64 p.1, .int .i64 p.2] rfl rfl zp rfl ints_lone ?_
      have hS2x := below_setRow hS1 (Nat.le_refl _) [Value.int .i64 p.1, .int .i64 p.2].toArray
      have zpx := zp.put [.int .i64 p.1, .int .i64 p.2]
      obtain ⟨w6, e6⟩ : ∃ w6, w6 = (Z.drew.alloc (.cells [Value.int .i64 0, .int .i64 0].toArray 27)).setRow Z.drew.heap.size [Value.int .i64 p.1, .int .i64 p.2].toArray := ⟨_, rfl⟩
      rw [← e6]
      have hS2 : Below Z.heap.size Z w6 := by rw [e6]; exact hS2x
      replace zp : Blk w6 Z.drew.heap.size [.int .i64 p.1, .int .i64 p.2] 27 := by rw [e6]; exact zpx
      clear e6 hS2x zpx
      refine hQ.out _ _ hS2 ?_
      clear hQ
      try simp only [Act.put, List.setIfInBounds_toArray, List.set_cons_zero, List.set_cons_succ]
      refine wpAnyH_done (by kernel_rfl) ?_ _
      try simp only [onlyN]
      replace zs2 := zs2.below hS2
      replace zm := zm.below hS2
      replace hown2 := own_below hown2 hS2
      have hV3 := below_call hV2 hS2
      obtain ⟨pb, hpb⟩ : ∃ pb, Hid (pb = Z.drew.heap.size) := ⟨_, hid rfl⟩
      have hpg : g < pb ∧ V.heap.size ≤ pb := by
        rw [hpb.out]
        exact ⟨Nat.lt_trans hgs hsbZ, hVZ⟩
      rw [← hpb.out] at zp ⊢
      clear hS2 hV2 q0 q1 q2 q3 q4
      have hs2 : (s.set j true).length = n := by rw [List.length_set]; exact hsl
      have hM0 : Hid (SetMid (nb m bl c) n a D (s.set j true) (ga D j) j (preD m bl c p 0)) := hid hM.out
      obtain ⟨cj, hcj⟩ : ∃ cj, Hid (cj = ga D j) := ⟨_, hid rfl⟩
      rw [← hcj.out] at hM0
      obtain ⟨s2, hss⟩ : ∃ s2, Hid (s2 = s.set j true) := ⟨_, hid rfl⟩
      rw [← hss.out] at hM0 hs2 zs2 hdec
      clear hM hS hk hcj hss
      go_wp2_with fail
      go_loopw [12] (fun vd wr => ∃ (d : Nat) (D : List Int), vd = .int .i64 d ∧ d ≤ 8 ∧ Hid (SetMid (nb m bl c) n a D s2 cj j (preD m bl c p d)) ∧ wr.ownsRow V.heap.size 3 1 (.slice (some ⟨g, 0, none⟩) n cap) n (ints D) ∧ Blk wr sb (bools s2) 4 ∧ Blk wr k0 [.int .i64 m.w, .int .i64 m.h, .slice sp sn sk] 24 ∧ Blk wr pb (ptL p) 27 ∧ Below V.heap.size V wr) (fun vd _ => 8 - (RowKit.intOf vd).toNat)
      case atStart => exact ⟨0, D, rfl, by omega, hM0, hown2, zs2, zm, zp, hV3⟩
      case round =>
        clear hM0 hown2 zs2 zm zp hV3
        obtain ⟨d, D, rfl, hd8, hM, hown, zs, zm, zp, hV⟩ := hrel
        by_cases hd : d < 8
        · have z9 : decide ((d : Int) < 8) = true := decide_eq_true (by omega)
          have nadd : IntKind.i64.wrap ((d : Int) + 1) = ((d + 1 : Nat) : Int) := by rw [IntWalk.i64_in _ (by omega)]; simp
          obtain ⟨kw, hkw⟩ : ∃ kw, Hid (kw = costv m bl c p.1 p.2 d) := ⟨_, hid rfl⟩
          obtain ⟨b5, hb5⟩ : ∃ b5, Hid (b5 = mayv m bl c p.1 p.2 d) := ⟨_, hid rfl⟩
          have cs := rcost_b m (.slice sp sn sk) bl (.slice lp ln lk) c p.1 p.2 d b5 kw wr hh (hrow.below hV) (hbit.below hV) hb5 hkw
          have m0 := zm.cell 0
          have m1 := zm.cell 1
          have m2 := zm.cell 2
          have p0 := zp.cell 0
          have p1 := zp.cell 1
          simp only [List.getElem?_cons_zero, List.getElem?_cons_succ] at m0 m1 m2 p0 p1
          go_wp2_with fail
          ((with_reducible refine cs.mono ?_); rintro e w2 ⟨rfl, hb2⟩)
          clear cs m0 m1 m2 p0 p1
          replace zs := zs.below hb2
          replace zm := zm.below hb2
          replace zp := zp.below hb2
          replace hown := own_below hown hb2
          have hV2 := below_call hV hb2
          clear hb2
          cases b5 with
          | false =>
            have hN := hid (show SetMid (nb m bl c) n a D s2 cj j (preD m bl c p (d + 1)) by rw [preD_no hb5.out.symm]; exact hM.out)
            clear hb5 hkw hM
            go_wp2_with fail
            have hmeas : 8 - (RowKit.intOf (Value.int .i64 ((d : Int) + 1))).toNat < 8 - (RowKit.intOf (Value.int .i64 (d : Int))).toNat := by simp [RowKit.intOf]; omega
            have hadd : Value.int .i64 ((d : Int) + 1) = Value.int .i64 ((d + 1 : Nat) : Int) := by push_cast; rfl
            exact ⟨⟨d + 1, D, hadd, by omega, hN, hown, zs, zm, zp, hV2⟩, hmeas⟩
          | true =>
            have hmay := hb5.out.symm
            obtain ⟨qx, hqx⟩ : ∃ qx, Hid (qx = stx p.1 d) := ⟨_, hid rfl⟩
            obtain ⟨qy, hqy⟩ : ∃ qy, Hid (qy = sty p.2 d) := ⟨_, hid rfl⟩
            have hin : insidev m qx qy = true := by
              unfold insidev
              rw [hf, hqx.out, hqy.out, (may_in hmay).1]
              rfl
            obtain ⟨i, hi, hix, n3, n4⟩ := r14idx hin
            rw [hn.out] at hi
            have hidx : idx m (stx p.1 d, sty p.2 d) = i := by unfold idx; rw [← hqx.out, ← hqy.out, ← hix.out]; rfl
            have hjn : j < m.cs.length := by rw [hn.out]; exact hj
            have hstep : (i, kw) ∈ nb m bl c j := by
              have h := step_nb (m := m) (bl := bl) (c := c) hjn hd (by rw [← hp.out]; exact hmay)
              rw [← hp.out, hidx, ← hkw.out] at h
              exact h
            have hpre : preD m bl c p (d + 1) = preD m bl c p d ++ [(i, kw)] := by rw [preD_yes hmay, hidx, ← hkw.out]
            have hnew := hM.out.step ok hstep
            rw [← hpre] at hnew
            have hlen := hM.out.mid.base.len
            have hlow := hM.out.mid.base.low
            have hbd := hM.out.mid.base.bound ok ha
            have hcj := hM.out.mid.at_
            have hw := ok.pos _ _ _ hstep
            have hcb : 0 ≤ cj ∧ cj ≤ 20000 := ⟨hM.out.mid.pos, by have := hbd j; omega⟩
            have nsum : IntKind.i64.wrap (cj + kw) = cj + kw := IntWalk.i64_in _ (by omega)
            obtain ⟨x, hx⟩ : ∃ x, Hid (x = ga D i) := ⟨_, hid rfl⟩
            have q0 := zp.cell 0
            have q1 := zp.cell 1
            simp only [List.getElem?_cons_zero, List.getElem?_cons_succ] at q0 q1
            clear hin hmay hb5 hstep hlow hbd hpre hidx hix hjn
            go_wp2_with fail
            ((with_reducible refine (r14beside_b p d qx qy _ hqx hqy).mono ?_); rintro e w3 ⟨rfl, hb3⟩)
            replace zs := zs.below hb3
            replace zm := zm.below hb3
            replace zp := zp.below hb3
            replace hown := own_below hown hb3
            replace hV2 := below_call hV2 hb3
            clear hb3 q0 q1
            have hgq := (hown.lt g rfl).2
            have zq := Blk.new w3 (ptL (qx, qy)) 27
            have hb4 := (Below.refl w3.heap.size w3).alloc (Nat.le_refl _) (.cells (ptL (qx, qy)).toArray 27)
            replace zs := zs.below hb4
            replace zm := zm.below hb4
            replace zp := zp.below hb4
            replace hown := own_below hown hb4
            replace hV2 := below_call hV2 hb4
            go_upto_region 13 with fail
            obtain ⟨Y, hY⟩ : ∃ Y, Y = w3.alloc (.cells #[Value.int .i64 qx, .int .i64 qy] 27) := ⟨_, rfl⟩
            rw [← hY]
            rw [show w3.alloc (.cells (ptL (qx, qy)).toArray 27) = Y from hY.symm] at zs zm zp zq hown hV2
            clear hb4 hY
            obtain ⟨qb, hqb⟩ : ∃ qb, Hid (qb = w3.heap.size) := ⟨_, hid rfl⟩
            rw [← hqb.out] at hgq zq ⊢
            have y0 := zq.cell 0
            have y1 := zq.cell 1
            have m0 := zm.cell 0
            simp only [List.getElem?_cons_zero, List.getElem?_cons_succ] at y0 y1 m0
            have cI := hown.cellAt i (by omega)
            have cJ := hown.cellAt j (by omega)
            rw [ints_at (by omega)] at cI cJ
            rw [← hx.out] at cI
            rw [hcj] at cJ
            have fI := hown.frozenAt i
            have i0 : (0 : Int) ≤ (i : Int) := by omega
            have i1 : (i : Int) < (n : Int) := by omega
            have hmeas : 8 - (RowKit.intOf (Value.int .i64 ((d : Int) + 1))).toNat < 8 - (RowKit.intOf (Value.int .i64 (d : Int))).toNat := by simp [RowKit.intOf]; omega
            unfold relax1 at hnew
            dsimp only at hnew
            rw [hcj, ← hx.out] at hnew
            clear hcj hqx hqy hkw hx hM
            by_cases h1 : x < 0
            · have v1 : decide (x < 0) = true := decide_eq_true h1
              rw [if_pos (.inl h1)] at hnew
              replace hnew := hid hnew
              clear h1
              go_wp2_with fail
              go_quiet (fail)
              go_wp2_with fail
              have hadd : Value.int .i64 ((d : Int) + 1) = Value.int .i64 ((d + 1 : Nat) : Int) := by push_cast; rfl
              exact ⟨⟨d + 1, D.set i (cj + kw), hadd, by omega, hnew, by rw [← ints_set]; exact ((own_drewN hown nq).stored i _).1, (zs.drewN nq).far _ (by omega), (zm.drewN nq).far _ (by omega), (zp.drewN nq).far _ (by omega), (below_many hV2 nq).setCell (p := ⟨g, i, none⟩) hgl.1 _⟩, hmeas⟩
            · have v1 : decide (x < 0) = false := decide_eq_false h1
              by_cases h2 : cj + kw < x
              · have v2 : decide (cj + kw < x) = true := decide_eq_true h2
                rw [if_pos (.inr h2)] at hnew
                replace hnew := hid hnew
                clear h1 h2
                go_wp2_with fail
                go_quiet (fail)
                go_wp2_with fail
                have hadd : Value.int .i64 ((d : Int) + 1) = Value.int .i64 ((d + 1 : Nat) : Int) := by push_cast; rfl
                exact ⟨⟨d + 1, D.set i (cj + kw), hadd, by omega, hnew, by rw [← ints_set]; exact ((own_drewN hown nq).stored i _).1, (zs.drewN nq).far _ (by omega), (zm.drewN nq).far _ (by omega), (zp.drewN nq).far _ (by omega), (below_many hV2 nq).setCell (p := ⟨g, i, none⟩) hgl.1 _⟩, hmeas⟩
              · have v2 : decide (cj + kw < x) = false := decide_eq_false h2
                rw [if_neg (fun h => by rcases h with h | h; exact h1 h; exact h2 h)] at hnew
                replace hnew := hid hnew
                clear h1 h2
                go_wp2_with fail
                go_quiet (fail)
                go_wp2_with fail
                have hadd : Value.int .i64 ((d : Int) + 1) = Value.int .i64 ((d + 1 : Nat) : Int) := by push_cast; rfl
                exact ⟨⟨d + 1, D, hadd, by omega, hnew, own_drewN hown nq, zs.drewN nq, zm.drewN nq, zp.drewN nq, below_many hV2 nq⟩, hmeas⟩
        · obtain rfl : d = 8 := by omega
          have z9 : decide (((8 : Nat) : Int) < 8) = false := by decide
          have hcl := hM.out
          rw [hp.out, preD_all (by rw [hn.out]; exact hj)] at hcl
          have hS2 := hid hcl.close
          have hlD := hcl.mid.base.len
          clear hcl hM
          go_wp2_with fail
          ((with_reducible refine (cn D s2 _ hown zs hlD hs2).mono ?_); rintro e w4 ⟨k', rfl, hk', hb4⟩)
          replace hk' := hid hk'
          replace zm := zm.below hb4
          replace zs := zs.below hb4
          replace hown := own_below hown hb4
          have hV4 := below_call hV hb4
          clear hb4
          have hmu4 := left_mu zs
          go_wp2_with fail
          exact ⟨⟨k', D, s2, cj, rfl, hS2, hk', hown, zs, zm, hV4⟩, by rw [hmu4, hmu0]; exact hdec⟩
    · have z1 : decide (0 ≤ k) = false := decide_eq_false hk0
      obtain rfl : k = -1 := by
        rcases hk.out with ⟨e, _⟩ | ⟨j, e, _⟩
        · exact e
        · omega
      have hD := hS.out.over hk.out
      have hnum : ∀ q, -1 ≤ ga D q ∧ ga D q ≤ 30000 := fun q => ⟨hS.out.base.low q, by have := hS.out.base.bound ok ha q; omega⟩
      clear hS hk hk0
      go_wp2_with fail
      go_ret
      exact ⟨D, rfl, hD, hown, hV, hnum⟩

end Go.Proofs.YtmbadkgeoealoaaDoor
