/-
  astar as landed at 35fbd81: what the iterator over the possible steps produces.
-/
import Derived.Test.YtbdgpldhfemejaaDoorAsA
import Derived.Test.YtbdgpldhfemejaaDoorAsRound
import Derived.RangeFuncBox
namespace Go.Proofs.YtbdgpldhfemejaaDoor
open Go.RowKit Go.Lib Go.Shelf

attribute [local go_sem] Oper.semAt_some

/-- What a step is handed as: where it leads, what it costs. -/
abbrev encS (x : Pt × Int) : Array Value := #[.agg #[.int .i64 x.1.1, .int .i64 x.1.2], .int .i64 x.2]
/-- What a round keeps: all below B, and the iterator's two boxes. -/
structure KpS (B G : Nat) (W W' : World) : Prop where
  old : Below B W W'
  g : W'.heap[G]? = W.heap[G]?
  p : W'.heap[G + 1]? = W.heap[G + 1]?
theorem KpS.trans {B G : Nat} {X Y Z : World} (h : KpS B G X Y) (k : KpS B G Y Z) : KpS B G X Z := ⟨h.old.trans k.old, k.g.trans h.g, k.p.trans h.p⟩
theorem KpS.refl (B G : Nat) (W : World) : KpS B G W W := ⟨Below.refl _ _, rfl, rfl⟩
theorem KpS.turn {B G : Nat} {w : World} (hB : B ≤ w.heap.size) (hG : G + 1 < w.heap.size) (W : World) (l : Nat) (o o' : Obj) (hl : w.heap.size ≤ l) (h : W.heap[l]? = some o) (h1 : o.isCells = false) (h2 : o.isWalk = false) : KpS B G W (W.putObj l o') :=
  ⟨belowK_b hB W l o o' hl h h1 h2, (grownBy_putObj' W l o').block G (by have := (Array.getElem?_eq_some_iff.1 h).1; omega) (fun e => by injection e with e; omega), (grownBy_putObj' W l o').block (G + 1) (by have := (Array.getElem?_eq_some_iff.1 h).1; omega) (fun e => by injection e with e; omega)⟩
/-- The steps that may come. -/
abbrev Stp (m : M3) (bl : List Bool) (c : Int) (p : Pt) := { x : Pt × Int // x ∈ nbp m bl c p }

set_option maxRecDepth 100000 in
set_option maxHeartbeats 4000000 in
theorem assteps_stops (m : M3) (s : Value) (bl : List Bool) (l : Value) (c : Int) (p : Pt) (V W0 : World) (G n : Nat) (hG : Gd V m s bl l) (hV : Below V.heap.size V W0)
    (hg : Blk W0 G (grdL m s l c) 46) (hp : Blk W0 (G + 1) (ptL p) 27) :
    SeqStopsK (α := Stp m bl c p) Fence.wide n Tryd.prog 77 #[.pointer (some ⟨G, 0, none⟩), .pointer (some ⟨G + 1, 0, none⟩)] (fun x => encS x.1) (KpS V.heap.size G)
      (fun xs => xs.map (·.1) = nbp m bl c p) (fun pre => pre.map (·.1) <+: nbp m bl c p) 8 W0 := fun ll J Jx W hW hJ _ hY h0 => by
  have hgW := hg.below hW
  have hpW := hp.below hW
  have hVW := below_call hV hW
  clear hg hp hV hW
  refine callsIn_of_wp Tryd.func77 rfl trivial ?_ rfl
  simp only [Tryd.ntmps77, List.size_toArray, List.length_cons, List.length_nil, Nat.reduceAdd, Nat.reduceSub, Array.replicate_succ, Array.replicate_zero, List.push_toArray, List.append_toArray, List.nil_append, List.cons_append]
  gi_wp2
  gi_loopw [7] (fun d wr => ∃ (k : Nat) (pre : List (Stp m bl c p)), d = .int .i64 k ∧ k ≤ 8 ∧ pre.map (·.1) = nbGo m bl c p k ∧ J pre wr ∧ Below V.heap.size V wr ∧ Blk wr G (grdL m s l c) 46 ∧ Blk wr (G + 1) (ptL p) 27)
    (fun d _ => 8 - (intOf d).toNat)
  case atStart => exact ⟨0, [], rfl, by omega, rfl, h0, hVW, hgW, hpW⟩
  case round =>
    clear h0 hVW hgW hpW
    obtain ⟨k, pre, rfl, hk, hpre, hJs, hVw, hgw, hpw⟩ := hrel
    by_cases hlt : k < 8
    · obtain ⟨b, hb⟩ : ∃ b, Hid (b = mayv m bl c p.1 p.2 k) := ⟨_, hid rfl⟩
      obtain ⟨w, hw⟩ : ∃ w, Hid (w = costv m bl c p.1 p.2 k) := ⟨_, hid rfl⟩
      have hGw := hG.below hVw
      have u0 := hgw.cell 0
      have u1 := hgw.cell 1
      have u2 := hgw.cell 2
      have u3 := hgw.cell 3
      have u4 := hgw.cell 4
      have p0 := hpw.cell 0
      have p1 := hpw.cell 1
      have hc := callsIn_wide (n := n - 1).2 (dcost_b m s bl l c p.1 p.2 k b w wr hGw.env hGw.high hGw.row hGw.bits hb hw)
      cases b with
      | false =>
        clear hw
        gi_wp2
        refine ⟨trivial, wide_no, ?_⟩
        ((with_reducible refine hc.mono ?_); rintro e w1 ⟨rfl, hb1⟩)
        have hVw1 := below_call hVw hb1
        have hgw1 := hgw.below hb1
        have hpw1 := hpw.below hb1
        have hJ1 := hJ _ _ _ none hJs (below_grown hb1) (fun _ e => by cases e)
        clear u0 u1 u2 u3 u4 p0 p1 hc hGw
        gi_wp2
        refine ⟨trivial, ?_⟩
        gi_wp2
        refine ⟨fun _ h => (by cases h), ?_⟩
        gi_wp2
        go_roundw
        case rel => exact ⟨k + 1, pre, by simp, by omega, by rw [nbGo_succ, hpre, oneD, if_neg (by rw [← hb.out]; exact Bool.false_ne_true), List.append_nil], hJ1, hVw1, hgw1, hpw1⟩
        case measure => simp [intOf]; omega
      | true =>
        obtain ⟨x2, hx2⟩ : ∃ x2, Hid (x2 = stx p.1 k) := ⟨_, hid rfl⟩
        obtain ⟨y2, hy2⟩ : ∃ y2, Hid (y2 = sty p.2 k) := ⟨_, hid rfl⟩
        have hmem : ((x2, y2), w) ∈ nbp m bl c p := by rw [hx2.out, hy2.out, hw.out]; exact mem_nbGo.2 ⟨k, hlt, hb.out.symm, rfl⟩
        have hone : nbGo m bl c p (k + 1) = nbGo m bl c p k ++ [((x2, y2), w)] := by rw [nbGo_succ, oneD, if_pos hb.out.symm, hx2.out, hy2.out, hw.out]
        have hlen : pre.length < 8 := by
          have := nbGo_len m bl c p (k + 1)
          rw [hone, ← hpre, List.length_append, List.length_map] at this
          simp at this; omega
        gi_wp2
        refine ⟨trivial, wide_no, ?_⟩
        ((with_reducible refine hc.mono ?_); rintro e w1 ⟨rfl, hb1⟩)
        have hVw1 := below_call hVw hb1
        have hgw1 := hgw.below hb1
        have hpw1 := hpw.below hb1
        have hJ1 := hJ _ _ _ none hJs (below_grown hb1) (fun _ e => by cases e)
        clear u0 u1 u2 u3 u4 p0 p1 hc hGw
        have p0 := hpw1.cell 0
        have p1 := hpw1.cell 1
        have hs := callsIn_wide (n := n - 1).2 (dstepq_b p.1 p.2 k x2 y2 w1 (hG.env.keep hVw1) hx2 hy2)
        gi_wp2
        refine ⟨trivial, wide_no, ?_⟩
        ((with_reducible refine hs.mono ?_); rintro e w2 ⟨rfl, hb2⟩)
        have hVw2 := below_call hVw1 hb2
        have hgw2 := hgw1.below hb2
        have hpw2 := hpw1.below hb2
        have hJ2 := hJ _ _ _ none hJ1 (below_grown hb2) (fun _ e => by cases e)
        clear p0 p1 hs
        obtain ⟨fn, tmps, assign, body, hy, hR⟩ := hY pre ⟨((x2, y2), w), hmem⟩ w2 hJ2 hlen
        dsimp only [encS] at hy
        gi_wp2
        refine ⟨wide_no, ?_⟩
        refine hR.mono ?_
        rintro e W' (⟨rfl, hJ', hk'⟩ | ⟨rfl, hJx'⟩)
        · have hVw' := hVw2.trans hk'.old
          have hgw' : Blk W' G (grdL m s l c) 46 := hk'.g.trans hgw2
          have hpw' : Blk W' (G + 1) (ptL p) 27 := hk'.p.trans hpw2
          gi_wp2
          go_roundw
          case rel => exact ⟨k + 1, pre ++ [⟨((x2, y2), w), hmem⟩], by simp, by omega, by rw [hone, List.map_append, hpre]; rfl, hJ', hVw', hgw', hpw'⟩
          case measure => simp [intOf]; omega
        · gi_wp2
          refine bodyPost_ret (results_none rfl _ _ _) rfl ?_
          refine ⟨⟨_, rfl⟩, .inr ⟨_, ?_, hJx'⟩⟩
          rw [List.map_append, hpre]
          show nbGo m bl c p k ++ [((x2, y2), w)] <+: _
          rw [← hone]; exact nbGo_pre m bl c p (by omega)
    · obtain rfl : k = 8 := by omega
      gi_wp2
      go_end0
      exact ⟨⟨_, rfl⟩, .inl ⟨pre, hpre, hJs⟩⟩

end Go.Proofs.YtbdgpldhfemejaaDoor
