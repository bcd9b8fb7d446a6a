/-
  astar as landed at 35fbd81: the way of least directions.
-/
import Derived.Test.YtbdgpldhfemejaaDoorAsJ
import Derived.Test.YtbdgpldhfemejaaDoorAsI
namespace Go.Proofs.YtbdgpldhfemejaaDoor
open Go.RowKit Go.Lib

/-- How far the position in a box is, read off the world. -/
def farAt (m : M3) (D : List Int) (b : Nat) (W : World) : Nat := match W.cell? ⟨b, 0, none⟩, W.cell? ⟨b, 1, none⟩ with | some (.int _ x), some (.int _ y) => (ga D (idx m (x, y))).toNat | _, _ => 0
def DescP (m : M3) (path : List Nat) (W : World) (e : Ending) (w' : World) : Prop := ∃ v', e = .returned v' ∧ w'.ownsRow W.heap.size 27 2 v' path.length (pls m path) ∧ Below W.heap.size W w'
theorem own_same {w w' : World} {B : Nat} {e : TypeId} {size n : Nat} {v : Value} {xs : List Value} (h : w.ownsRow B e size v n xs) (hs : ∀ b, v.ownBlock = some b → w'.heap[b]? = w.heap[b]?) : w'.ownsRow B e size v n xs := by
  refine ⟨h.1, ?_⟩
  rcases h.2 with hn | ⟨g, cap, cur, rfl, hB, hh, rest⟩
  · exact .inl hn
  · refine .inr ⟨g, cap, cur, rfl, hB, ?_, rest⟩
    rw [hs g rfl]; exact hh

set_option maxRecDepth 100000 in
set_option maxHeartbeats 8000000 in
theorem asdesc_b (m : M3) (s : Value) (bl : List Bool) (l : Value) (c : Int) (k b rb n : Nat) (D : List Int) (W : World) (hG : Gd W m s bl l) (hf : formedv m = true) (hk : k < m.cs.length) (hbn : b < m.cs.length) (hn : Hid (m.cs.length = n)) (hD : Blk W rb (ints D) 3)
    (hd : IsDist (nb m bl c) m.cs.length b D) (hk0 : 0 ≤ ga D k) (hDb : ∀ q, -1 ≤ ga D q ∧ ga D q ≤ 30000) :
    Calls Tryd.prog 28 #[.agg #[.int .i64 m.w, .int .i64 m.h, s, l, .int .i64 c], .agg #[.int .i64 (posn m k).1, .int .i64 (posn m k).2], .slice (some ⟨rb, 0, none⟩) n n] W (DescP m (pathG (nb m bl c) D k) W) := by
  obtain ⟨i1, hj0, hy0, hy1, hy2⟩ := info_cut infoPosA
  have ok := nb_ok hf bl c
  obtain ⟨P, hP⟩ : ∃ P, Hid (P = pathG (nb m bl c) D k) := ⟨_, hid rfl⟩
  have hPl : P.length ≤ 30001 := by
    have h1 := (path_run ok hbn hd (ga D k).toNat k hk0 (by omega)).2.2
    have := (hDb k).2
    rw [hP.out]; omega
  have hK := (((Keep.nil W).alloc [.int .i64 m.w, .int .i64 m.h, s, l, .int .i64 c] 46).alloc [.int .i64 (posn m k).1, .int .i64 (posn m k).2] 27)
  simp only [World.size_alloc] at hK
  obtain ⟨X, hX⟩ : ∃ X, X = ((W.alloc (.cells [Value.int .i64 m.w, .int .i64 m.h, s, l, .int .i64 c].toArray 46)).alloc (.cells [Value.int .i64 (posn m k).1, .int .i64 (posn m k).2].toArray 27)) := ⟨_, rfl⟩
  have hsz : X.heap.size = W.heap.size + 2 := by rw [hX]; simp
  rw [← hX] at hK
  rw [← hP.out]
  go_enter Tryd.func28, Tryd.ntmps28
  go_upto_region 1 with fail
  rw [← hX]
  clear hX
  obtain ⟨b1, h1⟩ : ∃ b1, b1 = W.heap.size + 1 := ⟨_, rfl⟩
  obtain ⟨b0, h0⟩ : ∃ b0, b0 = W.heap.size := ⟨_, rfl⟩
  have z0 : Blk X b0 (grdL m s l c) 46 := (hK.blks (W.heap.size, grdL m s l c, 46) (by simp)).at h0.symm
  have z1 : Blk X b1 (ptL (posn m k)) 27 := (hK.blks (W.heap.size + 1, ptL (posn m k), 27) (by simp)).at h1.symm
  have hWX := hK.old
  rw [← h1, ← h0]
  have k01 : W.heap.size ≤ b0 ∧ b0 < b1 ∧ b1 < X.heap.size := by omega
  clear hK h0 h1 hsz
  have q0 := z1.cell 0
  have q1 := z1.cell 1
  simp only [List.getElem?_cons_zero, List.getElem?_cons_succ] at q0 q1
  go_upto_region 2 with fail
  have hb := (Below.refl X.heap.size X).alloc (Nat.le_refl _) (.cells [Value.int .i64 (posn m k).1, .int .i64 (posn m k).2].toArray 27)
  have hown : (X.alloc (.cells [Value.int .i64 (posn m k).1, .int .i64 (posn m k).2].toArray 27)).ownsRow X.heap.size 27 2 (.slice (some ⟨X.heap.size, 0, none⟩) 1 1) 1 [.int .i64 (posn m k).1, .int .i64 (posn m k).2] := World.ownsRow_lit X _ 1 (Nat.le_refl _) (by unfold maxLen; omega) rfl
  have z0' := z0.below hb
  have z1' := z1.below hb
  have hW1 := below_call hWX hb
  generalize X.alloc (.cells [Value.int .i64 (posn m k).1, .int .i64 (posn m k).2].toArray 27) = V at *
  have hXs : X.heap.size ≤ V.heap.size := hb.size
  generalize X.heap.size = B at *
  clear z0 z1 hb hWX q0 q1
  go_loopw [7] (fun v7 wr => ∃ (pre : List Nat) (q : Nat), wr.ownsRow B 27 2 v7 (pre.length + 1) (pls m (pre ++ [q])) ∧ Blk wr b0 (grdL m s l c) 46 ∧ Blk wr b1 (ptL (posn m q)) 27 ∧ Below W.heap.size W wr ∧ B ≤ wr.heap.size ∧ q < m.cs.length ∧ 0 ≤ ga D q ∧ P = pre ++ pathG (nb m bl c) D q) (fun _ wr => farAt m D b1 wr)
  case atStart => exact ⟨[], k, hown, z0', z1', hW1, hXs, hk, hk0, by rw [hP.out]; rfl⟩
  case round =>
    clear hown z0' z1' hW1 hXs
    obtain ⟨pre, q, hown, z0, z1, hW, hBs, hq, hq0, hPq⟩ := hrel
    replace hPq := hid hPq
    have cn := asnext_b m s bl l c q rb n D wr (hG.below hW) hf hq hn (hD.below hW) hd.len hDb
    have q0 := z0.cell 0
    have q1 := z0.cell 1
    have q2 := z0.cell 2
    have q3 := z0.cell 3
    have q4 := z0.cell 4
    have p0 := z1.cell 0
    have p1 := z1.cell 1
    have hfar : farAt m D b1 wr = (ga D q).toNat := by unfold farAt; rw [p0, p1]; show (ga D (idx m (posn m q))).toNat = _; rw [(idx_posn hf hq).1]
    have z1f := z1.frozen
    cases hnx : nextG (nb m bl c) D q with
    | none =>
      have cn' : Calls Tryd.prog 50 #[.agg #[.int .i64 m.w, .int .i64 m.h, s, l, .int .i64 c], .agg #[.int .i64 (posn m q).1, .int .i64 (posn m q).2], .slice (some ⟨rb, 0, none⟩) n n] wr fun e w' => e = .returned (.tuple #[.agg #[.int .i64 0, .int .i64 0], .bool false]) ∧ Below wr.heap.size wr w' :=
        cn.mono fun e w' ⟨h1, h2⟩ => by
          rcases h2 with ⟨_, h2⟩ | ⟨_, _, h2, _⟩
          · exact ⟨h2, h1⟩
          · rw [hnx] at h2; cases h2
      have hlast : pre ++ [q] = P := by
        rw [hPq.out]
        congr 1
        by_cases e : q = b
        · rw [e, path_goal ok hbn hd]
        · obtain ⟨_, _, h2, _⟩ := next_there ok hbn hd hq0 e
          rw [hnx] at h2; cases h2
      have hlen : P.length = pre.length + 1 := by rw [← hlast, List.length_append]; rfl
      clear cn hnx hPq
      go_wp2_with (go_at_call 50; refine cn'.mono ?_; rintro e w1 ⟨rfl, hb1⟩)
      go_ret
      have hb2 := hb1.alloc hb1.size (.cells [Value.int .i64 0, .int .i64 0].toArray 27)
      refine ⟨_, rfl, ?_, below_call hW hb2⟩
      rw [hlen, ← hlast]
      exact own_base (own_below hown hb2) (by omega)
    | some y =>
      obtain ⟨q', wt⟩ := y
      obtain ⟨s1, s2, s3⟩ := path_step ok hbn hd hq0 hnx
      have hq' : q' < m.cs.length := (ok.lt _ _ _ (next_some hnx).1).2
      have cn' : Calls Tryd.prog 50 #[.agg #[.int .i64 m.w, .int .i64 m.h, s, l, .int .i64 c], .agg #[.int .i64 (posn m q).1, .int .i64 (posn m q).2], .slice (some ⟨rb, 0, none⟩) n n] wr fun e w' => e = .returned (.tuple #[.agg #[.int .i64 (posn m q').1, .int .i64 (posn m q').2], .bool true]) ∧ Below wr.heap.size wr w' :=
        cn.mono fun e w' ⟨h1, h2⟩ => by
          rcases h2 with ⟨h2, _⟩ | ⟨_, _, h2, _, h3⟩
          · rw [hnx] at h2; cases h2
          · rw [hnx] at h2
            injection h2 with h2
            injection h2 with h2 _
            subst h2
            exact ⟨h3, h1⟩
      have hPn := hid (show P = (pre ++ [q]) ++ pathG (nb m bl c) D q' by rw [hPq.out, s1, List.append_assoc]; rfl)
      have hPlen : pre.length + 2 ≤ P.length := by
        obtain ⟨t, ht⟩ := path_head (nb := nb m bl c) D q'
        rw [hPn.out, ht, List.length_append, List.length_append]; simp; omega
      clear cn hnx hPq
      go_upto_region 5 with (go_at_call 50; refine cn'.mono ?_; rintro e w1 ⟨rfl, hb1⟩)
      have hb2 := hb1.alloc hb1.size (.cells [Value.int .i64 (posn m q').1, .int .i64 (posn m q').2].toArray 27)
      have zq := Blk.new w1 (ptL (posn m q')) 27
      have y0 := z0.below hb2
      have y1 := z1.below hb2
      have hown2 := own_below hown hb2
      have hW2 := below_call hW hb2
      have hvl : ∀ g, u7.ownBlock = some g → B ≤ g ∧ g < w1.heap.size := fun g hg => by have := hown.lt g hg; have := hb1.size; omega
      have hBs2 := hb2.size
      generalize w1.alloc (.cells [Value.int .i64 (posn m q').1, .int .i64 (posn m q').2].toArray 27) = Z1 at *
      generalize w1.heap.size = Bq at *
      obtain ⟨X2, hX2⟩ : ∃ X2, X2 = Z1.alloc (.cells [Value.int .i64 (posn m q').1, .int .i64 (posn m q').2].toArray 27) := ⟨_, rfl⟩
      have hX2s : X2.heap.size = Z1.heap.size + 1 := by rw [hX2]; simp
      have hb3 : Below Z1.heap.size Z1 X2 := by rw [hX2]; exact (Below.refl _ _).alloc (Nat.le_refl _) _
      obtain ⟨v', W', hrun, hown3, hg, hwh⟩ := app_where (P := Tryd.prog) X2 B 32 32 27 i1 (.agg #[.int .i64 0, .int .i64 0]) 2 16 Tryd.underlying32 hj0 hy0 hy1 hy2 rfl (by decide) u7 _ _ (own_below hown2 hb3) ⟨Z1.heap.size, 0, none⟩ 1 [.int .i64 (posn m q').1, .int .i64 (posn m q').2] rfl
        (by rw [hX2]; exact cells_new) (posCells _ _) (by unfold maxLen; omega) (by omega) (by omega)
      have hnv : ∀ g, g < B ∨ g = Bq → ∀ j, u7.ownBlock = some j → g ≠ j := fun g hg j hj => by have := hvl j hj; omega
      have yq := (zq.below hb3).grown hg (hnv _ (.inr rfl))
      have yb0 := (y0.below hb3).grown hg (hnv _ (.inl (by omega)))
      have yb1 := (y1.below hb3).grown hg (hnv _ (.inl (by omega)))
      have hW3 : Below W.heap.size W W' := (below_call hW2 hb3).grown hg (by have := hW2.size; omega) (fun g hg => by have := hvl g hg; omega)
      have hfin : (((W'.setCell ⟨b1, 0, none⟩ (.int .i64 (posn m q').1)).setCell ⟨b1, 1, none⟩ (.int .i64 (posn m q').2))).ownsRow B 27 2 v' ((pre ++ [q]).length + 1) (pls m ((pre ++ [q]) ++ [q'])) := by
        have h1 := hown3
        rw [pls_snoc] at h1
        rw [List.length_append]
        exact ownsRow_setCell_below (ownsRow_setCell_below h1 (a := ⟨b1, 0, none⟩) (show b1 < B by omega) _) (a := ⟨b1, 1, none⟩) (show b1 < B by omega) _
      have f0 : Blk ((W'.setCell ⟨b1, 0, none⟩ (.int .i64 (posn m q').1)).setCell ⟨b1, 1, none⟩ (.int .i64 (posn m q').2)) b0 (grdL m s l c) 46 := (yb0.far _ (by omega)).far _ (by omega)
      have f1 : Blk ((W'.setCell ⟨b1, 0, none⟩ (.int .i64 (posn m q').1)).setCell ⟨b1, 1, none⟩ (.int .i64 (posn m q').2)) b1 (ptL (posn m q')) 27 := yb1.put2 _ _
      have f2 : Below W.heap.size W ((W'.setCell ⟨b1, 0, none⟩ (.int .i64 (posn m q').1)).setCell ⟨b1, 1, none⟩ (.int .i64 (posn m q').2)) := (hW3.setCell (p := ⟨b1, 0, none⟩) (show W.heap.size ≤ b1 by omega) _).setCell (p := ⟨b1, 1, none⟩) (show W.heap.size ≤ b1 by omega) _
      have f3 : B ≤ ((W'.setCell ⟨b1, 0, none⟩ (.int .i64 (posn m q').1)).setCell ⟨b1, 1, none⟩ (.int .i64 (posn m q').2)).heap.size := by have := hg.size; simp [World.setCell]; omega
      have hfar2 : farAt m D b1 ((W'.setCell ⟨b1, 0, none⟩ (.int .i64 (posn m q').1)).setCell ⟨b1, 1, none⟩ (.int .i64 (posn m q').2)) = (ga D q').toNat := by
        unfold farAt; rw [f1.cell 0, f1.cell 1]; show (ga D (idx m (posn m q'))).toNat = _; rw [(idx_posn hf hq').1]
      obtain ⟨_, _, _, _⟩ := zq.two
      obtain ⟨_, _, _, _⟩ := yq.two
      obtain ⟨_, _, _, _⟩ := yb1.two
      clear hown hown2 hown3 hg hwh hnv hvl yb0 y0 y1 z0 z1 hW hW2 hW3 hb2 hb3 hb1 zq yq yb1 hj0 hy0 hy1 hy2 hPlen s1 hBs2
      go_wp2_with (at_builtin; rw [← hX2]; refine wpList_append_run rfl (.tmp 22) (.tmp 24) 32 rfl _ _ _ W' rfl rfl hrun ?_)
      go_roundw
      case rel => exact ⟨pre ++ [q], q', hfin, f0, f1, f2, f3, hq', s2, hPn.out⟩
      case measure => rw [hfar, hfar2]; omega

end Go.Proofs.YtbdgpldhfemejaaDoor
