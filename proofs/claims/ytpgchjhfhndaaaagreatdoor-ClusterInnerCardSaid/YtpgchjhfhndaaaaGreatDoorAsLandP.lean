/-
  What the functions of astar answer: grounds, steps, the frontier.
-/
import Derived.Test.YtpgchjhfhndaaaaGreatDoorPureAs
import Derived.Test.YtpgchjhfhndaaaaGreatDoorTerLandQ
import Derived.Test.YtpgchjhfhndaaaaGreatDoorAny
import Derived.Deep.Cut
import Derived.RangeFuncBox
import Derived.Test.YtpgchjhfhndaaaaGreatDoorShelf
import Derived.Laws.CopyRow
import Derived.Laws.CopyOwn
import Derived.Test.YtpgchjhfhndaaaaGreatDoorMemLib
import Derived.Test.YtpgchjhfhndaaaaGreatDoorHeldM
namespace Go.Proofs.YtpgchjhfhndaaaaGreatDoor

section
open Go.RowKit Go.Lib

/-- A ground, as its cells. -/
abbrev grdL (m : M3) (s l : Value) (c : Int) : List Value := [.int .i64 m.w, .int .i64 m.h, s, l, .int .i64 c]
abbrev ptL (p : Pt) : List Value := [.int .i64 p.1, .int .i64 p.2]
def classv (c : Int) : Bool := decide (c = 1 ∨ c = 2 ∨ c = 3)
/-- What a ground's memory holds. -/
structure Gd (W : World) (m : M3) (s : Value) (bl : List Bool) (l : Value) : Prop where
  env : EnvT W
  high : HighAt m
  row : RowAt W s m.cs
  bits : BitsAt W l bl
theorem Gd.below {W w' : World} {m : M3} {s : Value} {bl : List Bool} {l : Value} (h : Gd W m s bl l) (hb : Below W.heap.size W w') : Gd w' m s bl l :=
  ⟨h.env.keep hb, h.high, h.row.below hb, h.bits.below hb⟩

set_option maxHeartbeats 2000000 in
theorem asvalid_b (m : M3) (s l : Value) (c : Int) (b : Bool) (W : World) (hr : RowAt W s m.cs) (e : Hid (b = (validm m && classv c))) :
    Calls Tryz.prog 71 #[.agg #[.int .i64 m.w, .int .i64 m.h, s, l, .int .i64 c]] W fun e w' => e = .returned (.bool b) ∧ Below W.heap.size W w' := by
  obtain ⟨g, hg⟩ : ∃ g, Hid (g = validm m) := ⟨_, hid rfl⟩
  have hb := e.out
  rw [← hg.out] at hb
  clear e
  have hK := Held1.start W [.int .i64 m.w, .int .i64 m.h, s, l, .int .i64 c] 124
  have hr' := hr.below hK.old
  cases g with
  | false =>
    rw [Bool.false_and] at hb
    subst hb
    go_enter Tryz.func71, Tryz.ntmps71
    go_wp2_with fail
    ((with_reducible refine (dvalidm_b m s false _ hr' hg).mono ?_); rintro e w1 ⟨rfl, hb1⟩)
    go_wp2_with fail
    go_ret
    exact ⟨rfl, below_call hK.old hb1⟩
  | true =>
    rw [Bool.true_and] at hb
    go_enter Tryz.func71, Tryz.ntmps71
    go_wp2_with fail
    ((with_reducible refine (dvalidm_b m s true _ hr' hg).mono ?_); rintro e w1 ⟨rfl, hb1⟩)
    have hK1 := hK.call hb1
    have u := hK1.l.cell 4
    clear hg hr' hb1
    by_cases c1 : c = 1
    · subst c1
      obtain rfl : b = true := hb
      go_wp2_with fail
      go_ret
      exact ⟨rfl, hK1.old⟩
    · have z1 : (c == 1) = false := beq_eq_false_iff_ne.2 c1
      by_cases c2 : c = 2
      · subst c2
        obtain rfl : b = true := hb
        go_wp2_with fail
        go_ret
        exact ⟨rfl, hK1.old⟩
      · have z2 : (c == 2) = false := beq_eq_false_iff_ne.2 c2
        have hb' : b = (c == 3) := by
          rw [hb]; unfold classv
          by_cases c3 : c = 3
          · subst c3; rfl
          · rw [beq_eq_false_iff_ne.2 c3]; exact decide_eq_false (by omega)
        subst hb'
        clear hb
        go_wp2_with fail
        go_ret
        exact ⟨rfl, hK1.old⟩

set_option maxHeartbeats 1000000 in
theorem asinside_b (m : M3) (s l : Value) (c x y : Int) (b : Bool) (W : World) (e : Hid (b = insp m (x, y))) :
    Calls Tryz.prog 72 #[.agg #[.int .i64 m.w, .int .i64 m.h, s, l, .int .i64 c], .agg #[.int .i64 x, .int .i64 y]] W fun e w' => e = .returned (.bool b) ∧ Below W.heap.size W w' := by
  have hT := Held2.start W [.int .i64 m.w, .int .i64 m.h, s, l, .int .i64 c] [.int .i64 x, .int .i64 y] 124 29
  have e2 : Hid (b = inv m.w m.h x y) := e
  clear e
  go_enter Tryz.func72, Tryz.ntmps72
  go_wp2_with fail
  ((with_reducible refine (din_b m.w m.h x y b _ e2).mono ?_); rintro e w1 ⟨rfl, hb1⟩)
  go_wp2_with fail
  go_ret
  exact ⟨rfl, below_call hT.old hb1⟩

set_option maxHeartbeats 1000000 in
theorem asindex_b (m : M3) (s l : Value) (c x y n : Int) (W : World) (e : Hid (n = indexv m.w x y)) :
    Calls Tryz.prog 75 #[.agg #[.int .i64 m.w, .int .i64 m.h, s, l, .int .i64 c], .agg #[.int .i64 x, .int .i64 y]] W fun e w' => e = .returned (.int .i64 n) ∧ Below W.heap.size W w' := by
  have hT := Held2.start W [.int .i64 m.w, .int .i64 m.h, s, l, .int .i64 c] [.int .i64 x, .int .i64 y] 124 29
  go_enter Tryz.func75, Tryz.ntmps75
  go_wp2_with fail
  ((with_reducible refine (dindex_b m.w x y n _ e).mono ?_); rintro e w1 ⟨rfl, hb1⟩)
  go_wp2_with fail
  go_ret
  exact ⟨rfl, below_call hT.old hb1⟩
/-- The number of a position inside. -/
theorem asidx_b (m : M3) (s l : Value) (c : Int) (p : Pt) (n : Nat) (W : World) (hf : formedv m = true) (hp : insp m p = true) (e : Hid (n = idx m p)) :
    Calls Tryz.prog 75 #[.agg #[.int .i64 m.w, .int .i64 m.h, s, l, .int .i64 c], .agg #[.int .i64 p.1, .int .i64 p.2]] W fun e w' => e = .returned (.int .i64 n) ∧ Below W.heap.size W w' :=
  asindex_b m s l c p.1 p.2 n W (hid (by rw [e.out, (posn_idx hf hp).2.2]))

set_option maxHeartbeats 2000000 in
theorem asfree_b (m : M3) (s : Value) (bl : List Bool) (l : Value) (c x y : Int) (b : Bool) (W : World) (hG : Gd W m s bl l) (e : Hid (b = openv m bl c x y)) :
    Calls Tryz.prog 73 #[.agg #[.int .i64 m.w, .int .i64 m.h, s, l, .int .i64 c], .agg #[.int .i64 x, .int .i64 y]] W fun e w' => e = .returned (.bool b) ∧ Below W.heap.size W w' := by
  obtain ⟨hE, -, hr, hl⟩ := hG
  obtain ⟨i, hi⟩ : ∃ i, Hid (i = passv m c x y) := ⟨_, hid rfl⟩
  have hb : b = (i && (decide (c = 3) || !(bl.getD (indexv m.w x y).toNat false))) := by rw [e.out, hi.out]; rfl
  clear e
  have hT := Held2.start W [.int .i64 m.w, .int .i64 m.h, s, l, .int .i64 c] [.int .i64 x, .int .i64 y] 124 29
  have hr' := hr.below hT.old
  cases i with
  | false =>
    subst hb
    go_enter Tryz.func73, Tryz.ntmps73
    go_wp2_with fail
    ((with_reducible refine (dpass_b m s c x y false _ (hE.p.keep hT.old) hr' hi).mono ?_); rintro e w1 ⟨rfl, hb1⟩)
    go_wp2_with fail
    go_ret
    exact ⟨rfl, hT.old.trans (hb1.mono hT.old.size)⟩
  | true =>
    obtain ⟨n, hlt, hix, -⟩ := get_at (pass_inside hi.out.symm)
    rw [← hix.out, Int.toNat_natCast, Bool.true_and] at hb
    have hm := hr.choose_spec.choose_spec.2.1
    have hl' := (hl.below hT.old)
    obtain ⟨p, k, rfl, hk, -⟩ := id hl
    go_enter Tryz.func73, Tryz.ntmps73
    go_wp2_with fail
    ((with_reducible refine (dpass_b m s c x y true _ (hE.p.keep hT.old) hr' hi).mono ?_); rintro e w1 ⟨rfl, hb1⟩)
    have hT1 := hT.call hb1
    replace hl' := hl'.below hb1
    have u0 := hT1.l.cell 0
    have u1 := hT1.l.cell 1
    have u2 := hT1.l.cell 2
    have u3 := hT1.l.cell 3
    have u4 := hT1.l.cell 4
    obtain ⟨_, _, _, _⟩ := hT1.r.two
    go_wp2_with fail
    ((with_reducible refine (asindex_b m s _ c x y n _ hix).mono ?_); rintro e w2 ⟨rfl, hb2⟩)
    have hT2 := hT1.call hb2
    replace hl' := hl'.below hb2
    clear u0 u1 u2 u3 u4
    have u3 := hT2.l.cell 3
    have u4 := hT2.l.cell 4
    unfold maxLen at hm hk
    by_cases c3 : c = 3
    · subst c3
      go_wp2_with fail
      go_ret
      exact ⟨ret_bit (by rw [hb]; rfl), hT2.old⟩
    · have z3 : (c == 3) = false := beq_eq_false_iff_ne.2 c3
      rw [decide_eq_false c3, Bool.false_or] at hb
      by_cases hnl : n < bl.length
      · obtain ⟨p', k', e', -, hc⟩ := hl'
        obtain ⟨g, o, rfl, hat⟩ := hc (by omega)
        obtain ⟨rfl, -, rfl⟩ : p = some ⟨g, o, none⟩ ∧ True ∧ k = k' := by injection e' with e1 _ e2; exact ⟨e1, trivial, e2⟩
        have h1 := hat n hnl
        obtain ⟨v, hv⟩ : ∃ v, v = bl[n]'hnl := ⟨_, rfl⟩
        rw [← hv] at h1
        have hb' : b = !v := by rw [hb, hv, List.getD_eq_getElem?_getD, List.getElem?_eq_getElem hnl]; rfl
        have g1 : decide ((bl.length : Int) ≤ (n : Int)) = false := decide_eq_false (by omega)
        have n1 : (0 : Int) ≤ n := by omega
        have n2 : (n : Int) < bl.length := by omega
        clear hat hc hb
        go_wp2_with fail
        go_ret
        exact ⟨ret_bit (by rw [hb', hv, decide_eq_false (by omega), Bool.false_or]), hT2.old⟩
      · have hb' : b = true := by rw [hb, List.getD_eq_getElem?_getD, List.getElem?_eq_none (by omega)]; rfl
        have g1 : decide ((bl.length : Int) ≤ (n : Int)) = true := decide_eq_true (by omega)
        go_wp2_with fail
        go_ret
        exact ⟨ret_bit hb'.symm, hT2.old⟩

set_option maxHeartbeats 1000000 in
/-- The iterator's value: a closure over the ground and the position. -/
theorem assteps_b (m : M3) (s l : Value) (c x y : Int) (W : World) :
    Calls Tryz.prog 129 #[.agg #[.int .i64 m.w, .int .i64 m.h, s, l, .int .i64 c], .agg #[.int .i64 x, .int .i64 y]] W fun e w' =>
      e = .returned (.func (.func 168) #[] #[.pointer (some ⟨W.heap.size, 0, none⟩), .pointer (some ⟨W.heap.size + 1, 0, none⟩)]) ∧
      w' = (W.alloc (.cells [.int .i64 m.w, .int .i64 m.h, s, l, .int .i64 c].toArray 124)).alloc (.cells [.int .i64 x, .int .i64 y].toArray 29) := by
  have hmf : ∀ (fn : Fn) (first cap : Array Value) (w : World), (Instr.makeFunc fn first cap).run Tryz.prog w = .ok (.func fn first cap) w := fun _ _ _ _ => rfl
  go_enter Tryz.func129, Tryz.ntmps129
  go_wp2_with fail
  go_ret
  exact ⟨rfl, rfl⟩

end

section
open Go.RowKit Go.Lib Go.Shelf

attribute [local go_sem] Oper.semAt_some
/-- What a step is handed as: where it leads, what it costs. -/
abbrev encS (x : Pt × Int) : Array Value := #[.agg #[.int .i64 x.1.1, .int .i64 x.1.2], .int .i64 x.2]
/-- What a round keeps: all below B, and the iterator's two boxes. -/
structure KpS (B G : Nat) (W W' : World) : Prop where
  old : Below B W W'
  g : W'.heap[G]? = W.heap[G]?
  p : W'.heap[G + 1]? = W.heap[G + 1]?
theorem KpS.trans {B G : Nat} {X Y Z : World} (h : KpS B G X Y) (k : KpS B G Y Z) : KpS B G X Z := ⟨h.old.trans k.old, k.g.trans h.g, k.p.trans h.p⟩
theorem KpS.refl (B G : Nat) (W : World) : KpS B G W W := ⟨Below.refl _ _, rfl, rfl⟩
theorem KpS.turn {B G : Nat} {w : World} (hB : B ≤ w.heap.size) (hG : G + 1 < w.heap.size) (W : World) (l : Nat) (o o' : Obj) (hl : w.heap.size ≤ l) (h : W.heap[l]? = some o) (h1 : o.isCells = false) (h2 : o.isWalk = false) : KpS B G W (W.putObj l o') :=
  ⟨belowK_b hB W l o o' hl h h1 h2, (grownBy_putObj' W l o').block G (by have := (Array.getElem?_eq_some_iff.1 h).1; omega) (fun e => by injection e with e; omega), (grownBy_putObj' W l o').block (G + 1) (by have := (Array.getElem?_eq_some_iff.1 h).1; omega) (fun e => by injection e with e; omega)⟩
/-- The steps that may come. -/
abbrev Stp (m : M3) (bl : List Bool) (c : Int) (p : Pt) := { x : Pt × Int // x ∈ nbp m bl c p }

set_option maxRecDepth 100000 in
set_option maxHeartbeats 4000000 in
theorem assteps_stops (m : M3) (s : Value) (bl : List Bool) (l : Value) (c : Int) (p : Pt) (V W0 : World) (G n : Nat) (hG : Gd V m s bl l) (hV : Below V.heap.size V W0)
    (hg : Blk W0 G (grdL m s l c) 124) (hp : Blk W0 (G + 1) (ptL p) 29) :
    SeqStopsK (α := Stp m bl c p) Fence.wide n Tryz.prog 168 #[.pointer (some ⟨G, 0, none⟩), .pointer (some ⟨G + 1, 0, none⟩)] (fun x => encS x.1) (KpS V.heap.size G)
      (fun xs => xs.map (·.1) = nbp m bl c p) (fun pre => pre.map (·.1) <+: nbp m bl c p) 8 W0 := fun ll J Jx W hW hJ _ hY h0 => by
  have hgW := hg.below hW
  have hpW := hp.below hW
  have hVW := below_call hV hW
  clear hg hp hV hW
  refine callsIn_of_wp Tryz.func168 rfl trivial ?_ rfl
  simp only [Tryz.ntmps168, List.size_toArray, List.length_cons, List.length_nil, Nat.reduceAdd, Nat.reduceSub, Array.replicate_succ, Array.replicate_zero, List.push_toArray, List.append_toArray, List.nil_append, List.cons_append]
  gi_wp2
  gi_loopw [7] (fun d wr => ∃ (k : Nat) (pre : List (Stp m bl c p)), d = .int .i64 k ∧ k ≤ 8 ∧ pre.map (·.1) = nbGo m bl c p k ∧ J pre wr ∧ Below V.heap.size V wr ∧ Blk wr G (grdL m s l c) 124 ∧ Blk wr (G + 1) (ptL p) 29)
    (fun d _ => 8 - (intOf d).toNat)
  case atStart => exact ⟨0, [], rfl, by omega, rfl, h0, hVW, hgW, hpW⟩
  case round =>
    clear h0 hVW hgW hpW
    obtain ⟨k, pre, rfl, hk, hpre, hJs, hVw, hgw, hpw⟩ := hrel
    by_cases hlt : k < 8
    · obtain ⟨b, hb⟩ : ∃ b, Hid (b = mayv m bl c p.1 p.2 k) := ⟨_, hid rfl⟩
      obtain ⟨w, hw⟩ : ∃ w, Hid (w = costv m bl c p.1 p.2 k) := ⟨_, hid rfl⟩
      have hGw := hG.below hVw
      have u0 := hgw.cell 0
      have u1 := hgw.cell 1
      have u2 := hgw.cell 2
      have u3 := hgw.cell 3
      have u4 := hgw.cell 4
      have p0 := hpw.cell 0
      have p1 := hpw.cell 1
      have hc := callsIn_wide (n := n - 1).2 (dcost_b m s bl l c p.1 p.2 k b w wr hGw.env hGw.high hGw.row hGw.bits hb hw)
      cases b with
      | false =>
        clear hw
        gi_wp2
        refine ⟨trivial, wide_no, ?_⟩
        ((with_reducible refine hc.mono ?_); rintro e w1 ⟨rfl, hb1⟩)
        have hVw1 := below_call hVw hb1
        have hgw1 := hgw.below hb1
        have hpw1 := hpw.below hb1
        have hJ1 := hJ _ _ _ none hJs (below_grown hb1) (fun _ e => by cases e)
        clear u0 u1 u2 u3 u4 p0 p1 hc hGw
        gi_wp2
        refine ⟨trivial, ?_⟩
        gi_wp2
        refine ⟨fun _ h => (by cases h), ?_⟩
        gi_wp2
        go_roundw
        case rel => exact ⟨k + 1, pre, by simp, by omega, by rw [nbGo_succ, hpre, oneD, if_neg (by rw [← hb.out]; exact Bool.false_ne_true), List.append_nil], hJ1, hVw1, hgw1, hpw1⟩
        case measure => simp [intOf]; omega
      | true =>
        obtain ⟨x2, hx2⟩ : ∃ x2, Hid (x2 = stx p.1 k) := ⟨_, hid rfl⟩
        obtain ⟨y2, hy2⟩ : ∃ y2, Hid (y2 = sty p.2 k) := ⟨_, hid rfl⟩
        have hmem : ((x2, y2), w) ∈ nbp m bl c p := by rw [hx2.out, hy2.out, hw.out]; exact mem_nbGo.2 ⟨k, hlt, hb.out.symm, rfl⟩
        have hone : nbGo m bl c p (k + 1) = nbGo m bl c p k ++ [((x2, y2), w)] := by rw [nbGo_succ, oneD, if_pos hb.out.symm, hx2.out, hy2.out, hw.out]
        have hlen : pre.length < 8 := by
          have := nbGo_len m bl c p (k + 1)
          rw [hone, ← hpre, List.length_append, List.length_map] at this
          simp at this; omega
        gi_wp2
        refine ⟨trivial, wide_no, ?_⟩
        ((with_reducible refine hc.mono ?_); rintro e w1 ⟨rfl, hb1⟩)
        have hVw1 := below_call hVw hb1
        have hgw1 := hgw.below hb1
        have hpw1 := hpw.below hb1
        have hJ1 := hJ _ _ _ none hJs (below_grown hb1) (fun _ e => by cases e)
        clear u0 u1 u2 u3 u4 p0 p1 hc hGw
        have p0 := hpw1.cell 0
        have p1 := hpw1.cell 1
        have hs := callsIn_wide (n := n - 1).2 (dstepq_b p.1 p.2 k x2 y2 w1 (hG.env.keep hVw1) hx2 hy2)
        gi_wp2
        refine ⟨trivial, wide_no, ?_⟩
        ((with_reducible refine hs.mono ?_); rintro e w2 ⟨rfl, hb2⟩)
        have hVw2 := below_call hVw1 hb2
        have hgw2 := hgw1.below hb2
        have hpw2 := hpw1.below hb2
        have hJ2 := hJ _ _ _ none hJ1 (below_grown hb2) (fun _ e => by cases e)
        clear p0 p1 hs
        obtain ⟨fn, tmps, assign, body, hy, hR⟩ := hY pre ⟨((x2, y2), w), hmem⟩ w2 hJ2 hlen
        dsimp only [encS] at hy
        gi_wp2
        refine ⟨wide_no, ?_⟩
        refine hR.mono ?_
        rintro e W' (⟨rfl, hJ', hk'⟩ | ⟨rfl, hJx'⟩)
        · have hVw' := hVw2.trans hk'.old
          have hgw' : Blk W' G (grdL m s l c) 124 := hk'.g.trans hgw2
          have hpw' : Blk W' (G + 1) (ptL p) 29 := hk'.p.trans hpw2
          gi_wp2
          go_roundw
          case rel => exact ⟨k + 1, pre ++ [⟨((x2, y2), w), hmem⟩], by simp, by omega, by rw [hone, List.map_append, hpre]; rfl, hJ', hVw', hgw', hpw'⟩
          case measure => simp [intOf]; omega
        · gi_wp2
          refine bodyPost_ret (results_none rfl _ _ _) rfl ?_
          refine ⟨⟨_, rfl⟩, .inr ⟨_, ?_, hJx'⟩⟩
          rw [List.map_append, hpre]
          show nbGo m bl c p k ++ [((x2, y2), w)] <+: _
          rw [← hone]; exact nbGo_pre m bl c p (by omega)
    · obtain rfl : k = 8 := by omega
      gi_wp2
      go_end0
      exact ⟨⟨_, rfl⟩, .inl ⟨pre, hpre, hJs⟩⟩

end

section
open Go.RowKit Go.Lib

theorem asinfoInt : (Tryz.prog.info? 3).map (fun i => (i.zero, i.size, i.bytes)) = some (some (.int .i64 0), 1, 8) := by kernel_rfl
theorem sizeInt : (Tryz.prog.info? 3).map (·.size) = some 1 := by kernel_rfl
/-- A row of -1 up to k, of zeros behind. -/
abbrev repL (n k : Nat) : List Value := List.replicate k (.int .i64 (-1)) ++ List.replicate (n - k) (.int .i64 0)
theorem rep_copy (w : World) (b n k j c d : Nat) (t : TypeId) (hk : k ≤ n) (hj : j = min k (n - k)) (h : Blk w b (repL n k) t) :
    ∃ w', (Builtin.copy_ #[79, 79] 3 #[.slice (some ⟨b, k, none⟩) (n - k) c, .slice (some ⟨b, 0, none⟩) k d]).run Tryz.prog w = .ok (goInt j) w' ∧ Blk w' b (repL n (k + j)) t ∧ ∀ B, B ≤ b → Below B w w' := by
  have hl : (List.replicate j (Value.int .i64 (-1))).length = j := List.length_replicate
  have hr := run_copy_row (P := Tryz.prog) w 79 79 3 3 b k (n - k) c ⟨b, 0, none⟩ k d (repL n k).toArray t (List.replicate j (.int .i64 (-1))) Tryz.underlying79 sizeInt h
    (by rw [hl, hj]) (fun i v hv => by
      have hi : i < j := by
        apply Classical.byContradiction; intro hn
        rw [List.getElem?_eq_none (by rw [hl]; omega)] at hv; cases hv
      have hadd : (⟨b, 0, none⟩ : Addr).add i = ⟨b, i, none⟩ := by unfold Addr.add; split <;> simp_all
      rw [hadd, h.cell i, List.getElem?_append_left (by rw [List.length_replicate]; omega)]
      rw [List.getElem?_replicate, if_pos hi] at hv
      rw [List.getElem?_replicate, if_pos (by omega)]; exact hv)
    (by rw [hl]; simp only [List.size_toArray, repL, List.length_append, List.length_replicate]; omega) (fun v hv => by rw [List.eq_of_mem_replicate hv]; rfl)
  rw [hl] at hr
  have hbk : ((repL n k).toArray.toList.take k ++ List.replicate j (Value.int .i64 (-1)) ++ (repL n k).toArray.toList.drop (k + j)) = repL n (k + j) := by
    show ((List.replicate k _ ++ List.replicate (n - k) _).take k ++ _ ++ (List.replicate k _ ++ List.replicate (n - k) _).drop (k + j)) = _
    have e1 : (List.replicate k (Value.int .i64 (-1)) ++ List.replicate (n - k) (Value.int .i64 0)).take k = List.replicate k (.int .i64 (-1)) := by
      rw [List.take_append_of_le_length (by rw [List.length_replicate]; exact Nat.le_refl _), List.take_of_length_le (by rw [List.length_replicate]; exact Nat.le_refl _)]
    have e2 : (List.replicate k (Value.int .i64 (-1)) ++ List.replicate (n - k) (Value.int .i64 0)).drop (k + j) = List.replicate (n - (k + j)) (.int .i64 0) := by
      rw [List.drop_append, List.drop_eq_nil_of_le (by rw [List.length_replicate]; omega), List.nil_append, List.length_replicate, List.drop_replicate, show n - k - (k + j - k) = n - (k + j) by omega]
    rw [e1, e2, repL, ← List.replicate_append_replicate]
  rw [hbk] at hr
  exact ⟨_, hr, setRow_heap w b _ _ t _ h, fun B hB => below_setRow (Below.refl B w) hB _⟩

theorem rep_copy1 (w : World) (b n g : Nat) (t : TypeId) (h1 : 1 ≤ n) (h : Blk w b (repL n 0) t) (hc : w.cell? ⟨g, 0, none⟩ = some (.int .i64 (-1))) :
    ∃ w', (Builtin.copy_ #[79, 79] 3 #[.slice (some ⟨b, 0, none⟩) n n, .slice (some ⟨g, 0, none⟩) 1 1]).run Tryz.prog w = .ok (goInt 1) w' ∧ Blk w' b (repL n 1) t ∧ ∀ B, B ≤ b → Below B w w' := by
  have hr := run_copy_row (P := Tryz.prog) w 79 79 3 3 b 0 n n ⟨g, 0, none⟩ 1 1 (repL n 0).toArray t [.int .i64 (-1)] Tryz.underlying79 sizeInt h
    (Nat.min_eq_left h1).symm (fun i v hv => by
      cases i with
      | zero => injection hv with hv; rw [← hv]; exact hc
      | succ i => simp at hv)
    (by simp only [List.size_toArray, repL, List.length_append, List.length_replicate, List.length_cons, List.length_nil]; omega) (fun v hv => by rw [List.mem_singleton.1 hv]; rfl)
  have hbk : ((repL n 0).toArray.toList.take 0 ++ [Value.int .i64 (-1)] ++ (repL n 0).toArray.toList.drop (0 + [Value.int .i64 (-1)].length)) = repL n 1 := by
    show [] ++ [Value.int .i64 (-1)] ++ ((List.replicate 0 _ ++ List.replicate (n - 0) _).drop 1) = _
    rw [List.replicate_zero, List.nil_append, List.nil_append, List.drop_replicate, repL, Nat.sub_zero]
    rfl
  rw [hbk] at hr
  exact ⟨_, hr, setRow_heap w b _ _ t _ h, fun B hB => below_setRow (Below.refl B w) hB _⟩

set_option maxRecDepth 100000 in
set_option maxHeartbeats 4000000 in
theorem asrep_b (n g : Nat) (W : World) (h1 : 1 ≤ n) (hn : n ≤ 1024) (hc : W.cell? ⟨g, 0, none⟩ = some (.int .i64 (-1))) :
    Calls Tryz.prog 166 #[.slice (some ⟨g, 0, none⟩) 1 1, .int .i64 n] W fun e w' => ∃ b, e = .returned (.slice (some ⟨b, 0, none⟩) n n) ∧ W.heap.size ≤ b ∧ Blk w' b (List.replicate n (.int .i64 (-1))) 3 ∧ Below W.heap.size W w' := by
  have hMul := Tryz.bits_Mul 1 n (by omega) (by omega) W
  rw [Nat.one_mul, Nat.div_eq_of_lt (by omega : n < 18446744073709551616), Nat.mod_eq_of_lt (by omega : n < 18446744073709551616)] at hMul
  obtain ⟨i0, hi0, hz0, hz1, hz2⟩ := info_cut asinfoInt
  have hn0 : (0 : Int) ≤ n := by omega
  have hnb : (n : Int) ≤ 1024 := by omega
  have w1 : IntKind.u64.wrap (n : Int) = n := by rw [IntKind.wrap_u64]; omega
  have w2 : IntKind.i64.wrap (n : Int) = n := IntWalk.i64_in _ (by omega)
  obtain ⟨W1, hmk, hown, hg1⟩ := run_make_full W W.heap.size 79 3 i0 (.int .i64 0) 1 Tryz.underlying79 hi0 hz0 hz1 .i64 .i64 n (by rw [hz2]; omega) (by unfold maxLen; omega) (Nat.le_refl _)
  have hb1 : Below W.heap.size W W1 := (Below.refl _ W).grown hg1 (Nat.le_refl _) (fun k h => by cases h)
  have hB1 : Blk W1 W.heap.size (repL n 0) 3 := by
    rw [Nat.mul_one, show (.int .i64 0 : Value).cells = #[.int .i64 0] from rfl, toList_madeCells_one] at hown
    rcases hown.2 with ⟨e, _⟩ | ⟨g', cap, cur, e, _, hh, _, _, hs, ht⟩
    · cases e
    · injection e with e1 _ e2
      injection e1 with e1
      injection e1 with e1
      subst e1 e2
      unfold Blk
      rw [hh]
      rw [Nat.mul_one, List.take_of_length_le (by simp [hs])] at ht
      congr 2
      rw [repL, List.replicate_zero, List.nil_append, Nat.sub_zero, ← ht]
  clear hown hg1 hi0 hz0 hz1 hz2
  have hc1 : W1.cell? ⟨g, 0, none⟩ = some (.int .i64 (-1)) := (hb1.cell (p := ⟨g, 0, none⟩) (World.block_lt_of_cell? W _ hc)).trans hc
  obtain ⟨W2, hcp, hB2, hw2⟩ := rep_copy1 W1 W.heap.size n g 3 h1 hB1 hc1
  have hb2 := hb1.trans (hw2 _ (Nat.le_refl _))
  clear hc1 hB1 hb1 hw2
  go_enter Tryz.func166, Tryz.ntmps166
  go_wp2_with (go_at_call 187; refine hMul.mono ?_; rintro e w9 ⟨rfl, hw⟩; rw [hw]; clear hw)
  go_loopw [8] (fun x wr => ∃ k : Nat, x = .int .i64 k ∧ 1 ≤ k ∧ k ≤ n ∧ Blk wr W.heap.size (repL n k) 3 ∧ Below W.heap.size W wr) (fun x _ => n - (intOf x).toNat)
  case atStart => exact ⟨1, rfl, Nat.le_refl _, h1, hB2, hb2⟩
  case round =>
    clear hB2 hb2 hcp hmk
    obtain ⟨k, rfl, hk1, hkn, hB, hb⟩ := hrel
    by_cases hlt : k < n
    · obtain ⟨j, hj⟩ : ∃ j, j = min k (n - k) := ⟨_, rfl⟩
      have hj1 : 1 ≤ j := by omega
      have hjn : k + j ≤ n := by omega
      obtain ⟨W3, hcp, hB3, hw3⟩ := rep_copy wr.drew W.heap.size n k j (n - k) n 3 hkn hj hB.drew
      have hb3 := hb.drew.trans (hw3 _ (Nat.le_refl _))
      clear hw3 hj
      have g1 : decide ((k : Int) < n) = true := decide_eq_true (by omega)
      have s1 : IntKind.i64.wrap ((k : Int) + j) = ((k + j : Nat) : Int) := by rw [IntWalk.i64_in _ (by omega)]; simp
      go_upto_region 1 with fail
      go_region
      go_wp2
      go_roundw
      case rel => exact ⟨k + j, by simp, by omega, hjn, hB3, hb3⟩
      case measure => simp [intOf]; omega
    · obtain rfl : k = n := by omega
      go_wp2
      go_ret
      rw [show repL k k = List.replicate k (.int .i64 (-1)) by rw [repL, Nat.sub_self, List.replicate_zero, List.append_nil]] at hB
      exact ⟨_, rfl, Nat.le_refl _, hB, hb⟩

set_option maxHeartbeats 1000000 in
theorem asnumbers_b (m : M3) (s l : Value) (c : Int) (W : World) (hr : RowAt W s m.cs) (h1 : 1 ≤ m.cs.length) (hn : m.cs.length ≤ 1024) :
    Calls Tryz.prog 122 #[.agg #[.int .i64 m.w, .int .i64 m.h, s, l, .int .i64 c]] W fun e w' => ∃ b, e = .returned (.slice (some ⟨b, 0, none⟩) m.cs.length m.cs.length) ∧ W.heap.size < b ∧ Blk w' b (List.replicate m.cs.length (.int .i64 (-1))) 3 ∧ Below W.heap.size W w' := by
  have hK := Held1.start W [.int .i64 m.w, .int .i64 m.h, s, l, .int .i64 c] 124
  obtain ⟨p, k, rfl, hm, -⟩ := hr
  unfold maxLen at hm
  have cr := fun (w : World) (g : Nat) (hc : w.cell? ⟨g, 0, none⟩ = some (.int .i64 (-1))) => asrep_b m.cs.length g w h1 hn hc
  obtain ⟨n, hN⟩ : ∃ n, m.cs.length = n := ⟨_, rfl⟩
  rw [hN] at hm h1 hn cr ⊢
  clear hN
  go_enter Tryz.func122, Tryz.ntmps122
  go_wp2_with fail
  have hK2 := (Below.refl W.heap.size W).alloc (Nat.le_refl _) (.cells [Value.int .i64 m.w, .int .i64 m.h, .slice p n k, l, .int .i64 c].toArray 124)
  have hK3 := hK2.alloc hK2.size (.cells [Value.int .i64 (-1)].toArray 3)
  have hz := Blk.new (W.alloc (.cells [Value.int .i64 m.w, .int .i64 m.h, .slice p n k, l, .int .i64 c].toArray 124)) [.int .i64 (-1)] 3
  rw [World.size_alloc] at hz
  refine (cr _ (W.heap.size + 1) (hz.cell 0)).mono ?_
  rintro e w1 ⟨b, rfl, hlt, hB, hb1⟩
  have hb2 := below_call hK3 hb1
  rw [World.size_alloc, World.size_alloc] at hlt
  clear hK2 hK3 hz hb1 cr hK
  go_wp2_with fail
  go_ret
  exact ⟨b, rfl, by omega, hB, hb2⟩

end

section
open Go.RowKit Go.Lib

theorem infoPosA : (Tryz.prog.info? 29).map (fun i => (i.zero, i.size, i.bytes)) = some (some (.agg #[.int .i64 0, .int .i64 0]), 2, 16) := by kernel_rfl
theorem infoRowA : (Tryz.prog.info? 51).map (fun i => (i.zero, i.size, i.bytes)) = some (some (.slice none 0 0), 1, 24) := by kernel_rfl
/-- The cells of a bucket, as memory holds them. -/
def pls (m : M3) (l : List Nat) : List Value := pcells (l.map (posn m))
theorem pls_len (m : M3) (l : List Nat) : (pls m l).length = l.length * 2 := by unfold pls; rw [pcells_len, List.length_map]
theorem pls_snoc (m : M3) (l : List Nat) (i : Nat) : pls m l ++ [.int .i64 (posn m i).1, .int .i64 (posn m i).2] = pls m (l ++ [i]) := by
  unfold pls; rw [pcells_snoc, List.map_append]; rfl
/-- The buckets of a frontier: a row of rows, each in a block of its own. -/
structure Fr (W : World) (m : M3) (B F : Nat) (v : Value) (vs : List Value) (L : List (List Nat)) (cnt : Int) : Prop where
  blk : Blk W F [v, .int .i64 cnt] 170
  row : W.ownsRow B 51 1 v vs.length vs
  len : vs.length = L.length
  each : ∀ i u, vs[i]? = some u → W.ownsRow B 29 2 u (bk L i).length (pls m (bk L i))
  apart : ∀ (i j : Nat) (u u' : Value), vs[i]? = some u → vs[j]? = some u' → i ≠ j → ∀ b, u.ownBlock = some b → u'.ownBlock ≠ some b
  low : F < B
/-- The blocks of a frontier. -/
def Fb (F : Nat) (v : Value) (vs : List Value) (b : Nat) : Prop := b = F ∨ v.ownBlock = some b ∨ ∃ u ∈ vs, u.ownBlock = some b
section
variable {W W' : World} {m : M3} {B F : Nat} {v : Value} {vs : List Value} {L : List (List Nat)} {cnt : Int}
theorem own_type {w : World} {base : Nat} {e : TypeId} {size n : Nat} {u : Value} {xs : List Value} (h : w.ownsRow base e size u n xs) {b : Nat} (hb : u.ownBlock = some b) : ∃ cur, w.heap[b]? = some (.cells cur e (0, 0)) := by
  rcases h.2 with ⟨rfl, _⟩ | ⟨g, cap, cur, rfl, _, hh, _⟩
  · simp [Value.ownBlock] at hb
  · simp [Value.ownBlock] at hb
    subst hb
    exact ⟨cur, hh⟩
theorem asown_apart {w : World} {base base' : Nat} {e e' : TypeId} {size size' n n' : Nat} {u u' : Value} {xs xs' : List Value} (h : w.ownsRow base e size u n xs) (h' : w.ownsRow base' e' size' u' n' xs') (ne : e ≠ e') {b : Nat} (hb : u.ownBlock = some b) : u'.ownBlock ≠ some b := fun hb' => by
  obtain ⟨c, hc⟩ := own_type h hb
  obtain ⟨c', hc'⟩ := own_type h' hb'
  rw [hc] at hc'
  injection hc' with hc'
  injection hc' with _ e1
  exact ne e1
theorem Fr.rowEach (h : Fr W m B F v vs L cnt) {i : Nat} {u : Value} (hu : vs[i]? = some u) {b : Nat} (hb : u.ownBlock = some b) : v.ownBlock ≠ some b :=
  asown_apart (h.each i u hu) h.row (by decide) hb
theorem Fr.fb_lt (h : Fr W m B F v vs L cnt) {b : Nat} (hb : Fb F v vs b) : b < W.heap.size ∧ (b = F ∨ B ≤ b) := by
  rcases hb with rfl | hb | ⟨u, hu, hb⟩
  · exact ⟨h.blk.lt, .inl rfl⟩
  · have := h.row.lt b hb; exact ⟨this.2, .inr this.1⟩
  · obtain ⟨i, hi, e⟩ := List.mem_iff_getElem.1 hu
    have := (h.each i u (by rw [List.getElem?_eq_getElem hi, e])).lt b hb
    exact ⟨this.2, .inr this.1⟩
/-- What leaves a frontier's blocks alone leaves it as it was. -/
theorem Fr.kept (h : Fr W m B F v vs L cnt) (hs : ∀ b, Fb F v vs b → W'.heap[b]? = W.heap[b]?) : Fr W' m B F v vs L cnt := by
  have own : ∀ {e size n u xs}, W.ownsRow B e size u n xs → (∀ b, u.ownBlock = some b → Fb F v vs b) → W'.ownsRow B e size u n xs := fun {e size n u xs} ho hb => by
    refine ⟨ho.1, ?_⟩
    rcases ho.2 with hn | ⟨g, cap, cur, rfl, hB, hh, rest⟩
    · exact .inl hn
    · refine .inr ⟨g, cap, cur, rfl, hB, ?_, rest⟩
      rw [hs g (hb g rfl)]; exact hh
  refine ⟨?_, own h.row (fun b hb => .inr (.inl hb)), h.len, fun i u hu => own (h.each i u hu) (fun b hb => .inr (.inr ⟨u, List.mem_of_getElem? hu, hb⟩)), h.apart, h.low⟩
  have := h.blk
  unfold Blk at this ⊢
  rw [hs F (.inl rfl)]; exact this
theorem Fr.below (h : Fr W m B F v vs L cnt) (hb : Below W.heap.size W W') : Fr W' m B F v vs L cnt := h.kept (fun b k => hb.block b (h.fb_lt k).1)
theorem Fr.foot {A A' : Nat → Prop} (h : Fr W m B F v vs L cnt) (hf : Foot A W A' W') (hA : ∀ b, Fb F v vs b → ¬ A b) : Fr W' m B F v vs L cnt := h.kept (fun b k => hf.same b (h.fb_lt k).1 (hA b k))
end

/-- An append to a row of the call's own: and where the new row lies. -/
theorem app_where {P : Program} (w : World) (base : Nat) (t ty e : TypeId) (i : TypeInfo) (z : Value) (size bytes : Nat) (ht : P.underlying t = some (.slice e)) (hi : P.info? e = some i) (hz : i.zero = some z)
    (hsize : i.size = size) (hby : i.bytes = bytes) (hzs : z.cells.size = size) (hsz : 0 < size)
    (v : Value) (n : Nat) (xs : List Value) (hown : w.ownsRow base e size v n xs)
    (a : Addr) (c : Nat) (news : List Value) (hl : news.length = 1 * size) (hnews : ∀ j u, news[j]? = some u → w.cell? (a.add j) = some u) (h1 : ∀ u ∈ news, u.oneCell' = true)
    (h63 : n + 1 ≤ maxLen) (hbytes : (n + 1) * bytes ≤ 140737488355328) (hbase : base ≤ w.heap.size) :
    ∃ v' w', (Builtin.append_ #[t, t] ty #[v, .slice (some a) 1 c]).run P w = .ok v' w' ∧ w'.ownsRow base e size v' (n + 1) (xs ++ news) ∧ w.grownBy w' v.ownBlock ∧ (∀ b, v'.ownBlock = some b → v.ownBlock = some b ∨ w.heap.size ≤ b) := by
  obtain ⟨v', w', hr, h2, h3, _⟩ := run_append_own (P := P) w base t ty e i z size bytes ht hi hz hsize hby hzs hsz v n xs hown a 1 c news hl hnews h1 h63 hbytes hbase
  refine ⟨v', w', hr, h2, h3, fun b hb => ?_⟩
  rcases hown.2 with ⟨rfl, rfl⟩ | ⟨g, cap, cur, rfl, hbg, hg, hnc, hcm, hcs, htake⟩
  · have hx : xs = [] := List.eq_nil_of_length_eq_zero (by have := hown.1; simpa using this)
    obtain ⟨v2, w2, hr2, h22, _, _⟩ := run_append_own (P := P) w w.heap.size t ty e i z size bytes ht hi hz hsize hby hzs hsz (.slice none 0 0) 0 [] (World.ownsRow_nil w _ e size) a 1 c news hl hnews h1 h63 hbytes (Nat.le_refl _)
    have := hr.symm.trans hr2
    injection this with e1 e2
    rw [← e1] at h22
    exact .inr (h22.lt b hb).1
  · subst hsize
    subst hby
    have hsmall : n + 1 ≤ 9223372036854775807 := by simp only [maxLen] at h63; omega
    by_cases hroom : n + 1 ≤ cap
    · have hfit : n * i.size + news.length ≤ cur.size := by rw [hl, hcs, ← Nat.add_mul]; exact Nat.mul_le_mul_right _ hroom
      have hr2 := run_append_room (P := P) w t ty e i ht hi g n cap cur hg a 1 c news hl hnews h1 hroom hfit
      have := hr.symm.trans hr2
      injection this with e1 _
      rw [e1] at hb
      exact .inl hb
    · have holds : ∀ j u, xs[j]? = some u → w.cell? ((⟨g, 0, none⟩ : Addr).add j) = some u := hown.cells (g := g) rfl
      have hr2 := run_append_grow (P := P) w t ty e i z ht hi hz ⟨g, 0, none⟩ n cap xs hown.1 holds a 1 c news hl hnews (by omega) (by omega) (growslice_fits (by omega) hbytes)
      have := hr.symm.trans hr2
      injection this with e1 _
      rw [e1] at hb
      simp [Value.ownBlock] at hb
      exact .inr (by omega)

theorem vs_snoc {vs : List Value} {x u : Value} {i : Nat} (h : (vs ++ [x])[i]? = some u) : (i < vs.length ∧ vs[i]? = some u) ∨ (i = vs.length ∧ u = x) := by
  rw [List.getElem?_append] at h
  split at h
  · next hl => exact .inl ⟨hl, h⟩
  · next hl =>
    have hi : i - vs.length = 0 := by
      apply Classical.byContradiction; intro hn
      rw [List.getElem?_eq_none (by simp; omega)] at h; cases h
    rw [hi] at h
    injection h with h
    exact .inr ⟨by omega, h.symm⟩
theorem bk_snoc (L : List (List Nat)) (i : Nat) : bk (L ++ [[]]) i = bk L i := by
  unfold bk
  rw [List.getD_eq_getElem?_getD, List.getD_eq_getElem?_getD, List.getElem?_append]
  split
  · rfl
  · rw [List.getElem?_eq_none (l := L) (by omega)]
    cases h : i - L.length <;> rfl
/-- An empty bucket is put behind the others. -/
theorem Fr.push {W V W' : World} {m : M3} {B F : Nat} {v v' : Value} {vs : List Value} {L : List (List Nat)} {cnt : Int} (h : Fr W m B F v vs L cnt) (h2 : Foot (fun _ => False) W (fun _ => False) V) (hg : V.grownBy W' v.ownBlock) (hown : W'.ownsRow B 51 1 v' (vs.length + 1) (vs ++ [.slice none 0 0]))
    (hv' : ∀ b, v'.ownBlock = some b → v.ownBlock = some b ∨ W.heap.size ≤ b) :
    Fr (W'.setCell ⟨F, 0, none⟩ v') m B F v' (vs ++ [.slice none 0 0]) (L ++ [[]]) cnt ∧ Foot (Fb F v vs) W (Fb F v' (vs ++ [.slice none 0 0])) (W'.setCell ⟨F, 0, none⟩ v') := by
  have same : ∀ b, b < W.heap.size → v.ownBlock ≠ some b → W'.heap[b]? = W.heap[b]? := fun b hb hne => (hg.block b (Nat.lt_of_lt_of_le hb h2.size) (fun e => hne e.symm)).trans (h2.same b hb (fun h => h))
  have hFlt := h.blk.lt
  have hFv : v.ownBlock ≠ some F := fun e => by have := (h.row.lt F e).1; have := h.low; omega
  have hB1 : Blk W' F [v, .int .i64 cnt] 170 := by
    have := h.blk
    unfold Blk at this ⊢
    rw [same F hFlt hFv]; exact this
  have sameF : ∀ b, b ≠ F → (W'.setCell ⟨F, 0, none⟩ v').heap[b]? = W'.heap[b]? := fun b hb => Below.heap_setCell W' ⟨F, 0, none⟩ v' b hb
  have own : ∀ {e size n u xs}, W'.ownsRow B e size u n xs → (W'.setCell ⟨F, 0, none⟩ v').ownsRow B e size u n xs := fun {e size n u xs} ho => by
    refine ⟨ho.1, ?_⟩
    rcases ho.2 with hn | ⟨g, cap, cur, rfl, hB, hh, rest⟩
    · exact .inl hn
    · refine .inr ⟨g, cap, cur, rfl, hB, ?_, rest⟩
      rw [sameF g (by have := h.low; omega)]; exact hh
  refine ⟨⟨hB1.set 0 v', by rw [List.length_append]; exact own hown, by rw [List.length_append, List.length_append, h.len]; rfl, fun i u hu => ?_, fun i j u u' hu hu' hij b hb => ?_, h.low⟩, ⟨?_, ?_, ?_, ?_, fun b hb hA => ?_, fun b hb => ?_⟩⟩
  · rw [bk_snoc]
    rcases vs_snoc hu with ⟨hi, hu⟩ | ⟨hi, rfl⟩
    · refine own ?_
      have ho := h.each i u hu
      refine ⟨ho.1, ?_⟩
      rcases ho.2 with hn | ⟨g, cap, cur, e, hB, hh, rest⟩
      · exact .inl hn
      · refine .inr ⟨g, cap, cur, e, hB, ?_, rest⟩
        rw [same g (Array.getElem?_eq_some_iff.1 hh).1 (h.rowEach hu (by rw [e]; rfl))]
        exact hh
    · have : bk L i = [] := by unfold bk; rw [List.getD_eq_getElem?_getD, List.getElem?_eq_none (by rw [← h.len]; omega)]; rfl
      rw [this]
      exact World.ownsRow_nil _ _ _ _
  · rcases vs_snoc hu with ⟨hi, hu⟩ | ⟨hi, rfl⟩
    · rcases vs_snoc hu' with ⟨hj, hu'⟩ | ⟨hj, rfl⟩
      · exact h.apart i j u u' hu hu' hij b hb
      · simp [Value.ownBlock]
    · simp [Value.ownBlock] at hb
  · exact hg.os.trans h2.os
  · exact hg.tape.trans h2.tape
  · exact hg.output.trans h2.output
  · have := h2.size; have := hg.size; simp [World.setCell]; omega
  · have hbF : b ≠ F := fun e => hA (.inl e)
    rw [sameF b hbF]
    exact same b hb (fun e => hA (.inr (.inl e)))
  · rcases hb with rfl | hb | ⟨u, hu, hb⟩
    · exact .inl (.inl rfl)
    · rcases hv' b hb with k | k
      · exact .inl (.inr (.inl k))
      · exact .inr k
    · rcases List.mem_append.1 hu with hu | hu
      · exact .inl (.inr (.inr ⟨u, hu, hb⟩))
      · rw [List.mem_singleton.1 hu] at hb; simp [Value.ownBlock] at hb

theorem bk_one (L : List (List Nat)) (i v j : Nat) (h : v < L.length) : bk (putB L i v) j = if j = v then bk L v ++ [i] else bk L j := putB_bk L i v j h
/-- A cell is put behind a bucket. -/
theorem Fr.put {W V W' : World} {m : M3} {B F : Nat} {v u u' : Value} {vs : List Value} {L : List (List Nat)} {cnt : Int} {k i : Nat} (h : Fr W m B F v vs L cnt) (h2 : Foot (fun _ => False) W (fun _ => False) V) (hk : k < L.length) (hu : vs[k]? = some u) (hg : V.grownBy W' u.ownBlock)
    (hown : W'.ownsRow B 29 2 u' ((bk L k).length + 1) (pls m (bk L k) ++ [.int .i64 (posn m i).1, .int .i64 (posn m i).2])) (hu' : ∀ b, u'.ownBlock = some b → u.ownBlock = some b ∨ W.heap.size ≤ b) (gv : Nat) (hgv : v.ownBlock = some gv) :
    Fr (W'.setCell ⟨gv, k, none⟩ u') m B F v (vs.set k u') (putB L i k) cnt ∧ Foot (Fb F v vs) W (Fb F v (vs.set k u')) (W'.setCell ⟨gv, k, none⟩ u') := by
  have hkv : k < vs.length := by rw [h.len]; exact hk
  have hmem : u ∈ vs := List.mem_of_getElem? hu
  have same : ∀ b, b < W.heap.size → u.ownBlock ≠ some b → W'.heap[b]? = W.heap[b]? := fun b hb hne => (hg.block b (Nat.lt_of_lt_of_le hb h2.size) (fun e => hne e.symm)).trans (h2.same b hb (fun h => h))
  have hFlt := h.blk.lt
  have hgl := h.row.lt gv hgv
  have hFu : u.ownBlock ≠ some F := fun e => by have := ((h.each k u hu).lt F e).1; have := h.low; omega
  have hvu : u.ownBlock ≠ some gv := fun e => h.rowEach hu e hgv
  have sameG : ∀ b, b ≠ gv → (W'.setCell ⟨gv, k, none⟩ u').heap[b]? = W'.heap[b]? := fun b hb => Below.heap_setCell W' ⟨gv, k, none⟩ u' b hb
  have keep : ∀ {e size n x xs}, W.ownsRow B e size x n xs → (∀ b, x.ownBlock = some b → u.ownBlock ≠ some b ∧ b ≠ gv) → (W'.setCell ⟨gv, k, none⟩ u').ownsRow B e size x n xs := fun {e size n x xs} ho hne => by
    refine ⟨ho.1, ?_⟩
    rcases ho.2 with hn | ⟨g, cap, cur, e1, hB, hh, rest⟩
    · exact .inl hn
    · have hx := hne g (by rw [e1]; rfl)
      refine .inr ⟨g, cap, cur, e1, hB, ?_, rest⟩
      rw [sameG g hx.2, same g (Array.getElem?_eq_some_iff.1 hh).1 hx.1]; exact hh
  have hrow : W'.ownsRow B 51 1 v vs.length vs := by
    have ho := h.row
    refine ⟨ho.1, ?_⟩
    rcases ho.2 with hn | ⟨g, cap, cur, e1, hB, hh, rest⟩
    · exact .inl hn
    · refine .inr ⟨g, cap, cur, e1, hB, ?_, rest⟩
      rw [same g (Array.getElem?_eq_some_iff.1 hh).1 (by rw [e1] at hgv; simp [Value.ownBlock] at hgv; rw [hgv]; exact hvu)]; exact hh
  have hrow2 : (W'.setCell ⟨gv, k, none⟩ u').ownsRow B 51 1 v (vs.set k u').length (vs.set k u') := by
    rcases hrow.2 with ⟨e1, _⟩ | ⟨g, cap, cur, e1, _⟩
    · rw [e1] at hgv; simp [Value.ownBlock] at hgv
    · obtain rfl : g = gv := by rw [e1] at hgv; simp [Value.ownBlock] at hgv; exact hgv
      subst e1
      rw [List.length_set]
      exact (hrow.stored k u').1
  have hu2 : (W'.setCell ⟨gv, k, none⟩ u').ownsRow B 29 2 u' ((bk L k).length + 1) (pls m (bk L k ++ [i])) := by
    rw [← pls_snoc]
    refine ⟨hown.1, ?_⟩
    rcases hown.2 with hn | ⟨g, cap, cur, e1, hB, hh, rest⟩
    · exact .inl hn
    · refine .inr ⟨g, cap, cur, e1, hB, ?_, rest⟩
      rw [sameG g (fun e => ?_)]
      · exact hh
      · subst e
        rcases hu' g (by rw [e1]; rfl) with e | e
        · exact hvu e
        · omega
  have hset : ∀ j x, (vs.set k u')[j]? = some x → (j = k ∧ x = u') ∨ (j ≠ k ∧ vs[j]? = some x) := fun j x hx => by
    rw [List.getElem?_set] at hx
    by_cases e : k = j
    · rw [if_pos e, if_pos hkv] at hx; injection hx with hx; exact .inl ⟨e.symm, hx.symm⟩
    · rw [if_neg e] at hx; exact .inr ⟨fun h => e h.symm, hx⟩
  refine ⟨⟨?_, hrow2, by rw [List.length_set, putB_len]; exact h.len, fun j x hx => ?_, fun j j' x x' hx hx' hij b hb hb' => ?_, h.low⟩, ⟨?_, ?_, ?_, ?_, fun b hb hA => ?_, fun b hb => ?_⟩⟩
  · have := h.blk
    unfold Blk at this ⊢
    rw [sameG F (by have := h.low; omega), same F hFlt hFu]; exact this
  · rw [bk_one L i k j hk]
    rcases hset j x hx with ⟨rfl, rfl⟩ | ⟨hj, hx⟩
    · rw [if_pos rfl, List.length_append]; exact hu2
    · rw [if_neg hj]
      exact keep (h.each j x hx) (fun b hb => ⟨fun e => h.apart j k x u hx hu hj b hb e, fun e => h.rowEach hx hb (by rw [e]; exact hgv)⟩)
  · have new : ∀ {j x b}, j ≠ k → vs[j]? = some x → x.ownBlock = some b → u'.ownBlock ≠ some b := fun {j x b} hj hx hb hb' => by
      rcases hu' b hb' with e | e
      · exact h.apart j k x u hx hu hj b hb e
      · have := ((h.each j x hx).lt b hb).2; omega
    rcases hset j x hx with ⟨e1, e2⟩ | ⟨hj, hy⟩
    · rcases hset j' x' hx' with ⟨e3, e4⟩ | ⟨hj', hy'⟩
      · exact hij (e1.trans e3.symm)
      · rw [e2] at hb; exact new hj' hy' hb' hb
    · rcases hset j' x' hx' with ⟨e3, e4⟩ | ⟨hj', hy'⟩
      · rw [e4] at hb'; exact new hj hy hb hb'
      · exact h.apart j j' x x' hy hy' hij b hb hb'
  · exact hg.os.trans h2.os
  · exact hg.tape.trans h2.tape
  · exact hg.output.trans h2.output
  · have := h2.size; have := hg.size; simp [World.setCell]; omega
  · have hbg : b ≠ gv := fun e => hA (.inr (.inl (by rw [e]; exact hgv)))
    rw [sameG b hbg]
    exact same b hb (fun e => hA (.inr (.inr ⟨u, hmem, e⟩)))
  · rcases hb with rfl | hb | ⟨x, hx, hb⟩
    · exact .inl (.inl rfl)
    · exact .inl (.inr (.inl hb))
    · obtain ⟨j, hj, e⟩ := List.mem_iff_getElem.1 hx
      rcases hset j x (by rw [List.getElem?_eq_getElem hj, e]) with ⟨_, rfl⟩ | ⟨_, hx⟩
      · rcases hu' b hb with k | k
        · exact .inl (.inr (.inr ⟨u, hmem, k⟩))
        · exact .inr k
      · exact .inl (.inr (.inr ⟨x, List.mem_of_getElem? hx, hb⟩))
/-- The count is changed. -/
theorem Fr.count {W : World} {m : M3} {B F : Nat} {v : Value} {vs : List Value} {L : List (List Nat)} {cnt : Int} (h : Fr W m B F v vs L cnt) (n : Int) :
    Fr (W.setCell ⟨F, 1, none⟩ (.int .i64 n)) m B F v vs L n ∧ Foot (Fb F v vs) W (Fb F v vs) (W.setCell ⟨F, 1, none⟩ (.int .i64 n)) := by
  have same : ∀ b, b ≠ F → (W.setCell ⟨F, 1, none⟩ (.int .i64 n)).heap[b]? = W.heap[b]? := fun b hb => Below.heap_setCell W ⟨F, 1, none⟩ _ b hb
  have own : ∀ {e size k u xs}, W.ownsRow B e size u k xs → (W.setCell ⟨F, 1, none⟩ (.int .i64 n)).ownsRow B e size u k xs := fun {e size k u xs} ho => ownsRow_setCell_below ho h.low _
  exact ⟨⟨h.blk.set 1 _, own h.row, h.len, fun i u hu => own (h.each i u hu), h.apart, h.low⟩, Foot.set ⟨F, 1, none⟩ _ (.inl rfl)⟩

end

section
open Go.RowKit Go.Lib

theorem posCells (x y : Int) : ∀ u ∈ ([.int .i64 x, .int .i64 y] : List Value), u.oneCell' = true := by
  intro u hu
  rcases List.mem_cons.1 hu with rfl | hu
  · rfl
  · rw [List.mem_singleton.1 hu]; rfl
/-- How many buckets a frontier has, read off the world. -/
def bksAt (F : Nat) (W : World) : Nat := match W.cell? ⟨F, 0, none⟩ with | some (.slice _ n _) => n | _ => 0
theorem pad_more (L : List (List Nat)) (c : Nat) : (L ++ List.replicate c []) ++ [[]] = L ++ List.replicate (c + 1) [] := by
  rw [List.append_assoc, List.replicate_succ']
theorem nil_more (vs : List Value) (c : Nat) : (vs ++ List.replicate c (.slice none 0 0)) ++ [.slice none 0 0] = vs ++ List.replicate (c + 1) (.slice none 0 0) := by
  rw [List.append_assoc, List.replicate_succ']
theorem bk_pad (L : List (List Nat)) (c i : Nat) : bk (L ++ List.replicate c []) i = bk L i := by
  unfold bk
  rw [List.getD_eq_getElem?_getD, List.getD_eq_getElem?_getD, List.getElem?_append]
  split
  · rfl
  · rw [List.getElem?_replicate, List.getElem?_eq_none (by omega)]; split <;> rfl
/-- What add answers. -/
def AddP (m : M3) (B F : Nat) (v : Value) (vs : List Value) (L : List (List Nat)) (cnt : Int) (W w' : World) (p k : Nat) : Prop :=
  ∃ v' vs', Fr w' m B F v' vs' (addB L p k) (cnt + 1) ∧ Foot (Fb F v vs) W (Fb F v' vs') w' ∧ ∀ (j : Nat) (u : Value), j ≠ k → vs[j]? = some u → vs'[j]? = some u

set_option maxRecDepth 100000 in
set_option maxHeartbeats 8000000 in
theorem asadd_b (m : M3) (p k : Nat) (x y : Int) (W : World) (B F : Nat) (v : Value) (vs : List Value) (L : List (List Nat)) (cnt : Int) (h : Fr W m B F v vs L cnt) (hx : Hid (x = (posn m p).1)) (hy : Hid (y = (posn m p).2))
    (hB : B ≤ W.heap.size) (hk : k ≤ 30000) (hL : L.length ≤ 30000) (hb : (bk L k).length ≤ 30000) (hc : 0 ≤ cnt ∧ cnt ≤ 4000000000) :
    Calls Tryz.prog 124 #[.pointer (some ⟨F, 0, none⟩), .agg #[.int .i64 x, .int .i64 y], .int .i64 k] W fun e w' => e = .returned (.tuple #[]) ∧ AddP m B F v vs L cnt W w' p k := by
  obtain ⟨i0, hi0, hz0, hz1, hz2⟩ := info_cut infoRowA
  obtain ⟨i1, hj0, hy0, hy1, hy2⟩ := info_cut infoPosA
  obtain ⟨W1, hW1⟩ : ∃ W1, W1 = W.alloc (.cells [Value.int .i64 x, .int .i64 y].toArray 29) := ⟨_, rfl⟩
  have hP : Blk W1 W.heap.size [.int .i64 x, .int .i64 y] 29 := by rw [hW1]; exact Blk.new W _ _
  have hsz : W1.heap.size = W.heap.size + 1 := by rw [hW1]; simp
  have hb1 : Below W.heap.size W W1 := by rw [hW1]; exact (Below.refl _ W).alloc (Nat.le_refl _) _
  have h1 := h.below hb1
  have hnP : ¬ Fb F v vs W.heap.size := fun hf => by have := (h.fb_lt hf).1; omega
  have hF1 : Foot (Fb F v vs) W (Fb F v vs) W1 := Foot.of_below hb1
  have hvl := h.len
  clear hb1
  go_enter Tryz.func124, Tryz.ntmps124
  go_upto_region 1 with fail
  rw [← hW1]
  clear hW1
  go_loopw [] (fun wr => ∃ v2 c, Fr wr m B F v2 (vs ++ List.replicate c (.slice none 0 0)) (L ++ List.replicate c []) cnt ∧ L.length + c ≤ max L.length (k + 1) ∧ Foot (Fb F v vs) W (Fb F v2 (vs ++ List.replicate c (.slice none 0 0))) wr ∧ Blk wr W.heap.size [.int .i64 x, .int .i64 y] 29 ∧ ¬ Fb F v2 (vs ++ List.replicate c (.slice none 0 0)) W.heap.size)
    (fun wr => k + 1 - bksAt F wr)
  case atStart => exact ⟨v, 0, by simpa using h1, by omega, by simpa using hF1, hP, by simpa using hnP⟩
  case round =>
    clear h1 hF1 hP hnP
    obtain ⟨v2, c, hFr, hcl, hFt, hP, hnP⟩ := hrel
    obtain ⟨n, hn⟩ : ∃ n, Hid (n = L.length + c) := ⟨_, hid rfl⟩
    have hlen : (vs ++ List.replicate c (Value.slice none 0 0)).length = n := by rw [List.length_append, List.length_replicate, hvl, hn.out]
    have hnb : n ≤ 30001 := by have := hn.out; omega
    obtain ⟨q, cap, hv2⟩ : ∃ q cap, v2 = .slice q n cap := by
      rcases hFr.row.2 with ⟨e, e2⟩ | ⟨g, cap, cur, e, _⟩
      · exact ⟨none, 0, by rw [e, ← hlen, e2]⟩
      · exact ⟨_, _, by rw [e, hlen]⟩
    subst hv2
    have b0 := hFr.blk.cell 0
    have hFlt := hFr.blk.lt
    simp only [List.getElem?_cons_zero] at b0
    by_cases hlt : n ≤ k
    · obtain ⟨X, hX⟩ : ∃ X, X = wr.alloc (.cells ([.slice none 0 0] : List Value).toArray 51) := ⟨_, rfl⟩
      have hXs : X.heap.size = wr.heap.size + 1 := by rw [hX]; simp
      have hV : Foot (fun _ => False) wr (fun _ => False) X := by rw [hX]; exact Foot.alloc _
      have hrow : X.ownsRow B 51 1 (.slice q n cap) n (vs ++ List.replicate c (.slice none 0 0)) := by rw [hX]; exact own_to (hFr.row.alloc _) hlen rfl
      have hrs := hFr.row.lt
      have hBs : B ≤ wr.heap.size := by have := hFt.size; omega
      obtain ⟨v', W', hrun, hown, hg, hwh⟩ := app_where (P := Tryz.prog) X B 168 168 51 i0 (.slice none 0 0) 1 24 Tryz.underlying168 hi0 hz0 hz1 hz2 rfl (by decide) (.slice q n cap) n _ hrow ⟨wr.heap.size, 0, none⟩ 1 [.slice none 0 0] rfl
        (by rw [hX]; exact cells_new) (fun u hu => by rw [List.mem_singleton.1 hu]; rfl) (by unfold maxLen; omega) (by omega) (by omega)
      have hFb : Blk W' F [.slice q n cap, .int .i64 cnt] 170 := by
        have e := hFr.blk
        unfold Blk at e ⊢
        rw [hg.block F (by omega) (fun e2 => by have := (hrs F e2.symm).1; have := hFr.low; omega), hV.same F hFlt (fun h => h)]
        exact e
      have w0 := hFb.cell 0
      have w1 := hFb.frozen 0
      simp only [List.getElem?_cons_zero] at w0
      obtain ⟨p1, p2⟩ := hFr.push hV hg (own_to hown (by rw [hlen]) rfl) (fun b hb => (hwh b hb).imp id (fun k => by omega))
      rw [pad_more, nil_more] at p1
      rw [nil_more] at p2
      have hPn : Blk (W'.setCell ⟨F, 0, none⟩ v') W.heap.size [.int .i64 x, .int .i64 y] 29 := by
        have e := hP
        unfold Blk at e ⊢
        rw [p2.same _ hP.lt hnP]; exact e
      have hnPn : ¬ Fb F v' (vs ++ List.replicate (c + 1) (.slice none 0 0)) W.heap.size := fun hf => (p2.from_ _ hf).elim hnP (fun hge => by have := hP.lt; omega)
      obtain ⟨g', cap', rfl⟩ : ∃ g' cap', v' = .slice (some ⟨g', 0, none⟩) (n + 1) cap' := by
        rcases hown.2 with ⟨_, e⟩ | ⟨g', cap', cur, e, _⟩
        · omega
        · exact ⟨g', cap', e⟩
      have hFt2 := hFt.trans p2
      clear hown hg hwh hrow hrs hFb hV p2 hP hnP hFt hi0 hz0 hz1 hz2 hj0 hy0 hy1 hy2
      go_wp2_with (at_builtin; rw [← hX]; refine wpList_append_run rfl (.tmp 17) (.tmp 18) 168 rfl _ _ _ W' rfl rfl hrun ?_)
      go_roundw
      case rel => exact ⟨_, c + 1, p1, by have := hn.out; omega, hFt2, hPn, hnPn⟩
      case measure =>
        have e1 : bksAt F (W'.setCell ⟨F, 0, none⟩ (.slice (some ⟨g', 0, none⟩) (n + 1) cap')) = n + 1 := by unfold bksAt; rw [p1.blk.cell 0]; rfl
        have e2 : bksAt F wr = n := by unfold bksAt; rw [b0]
        rw [e1, e2]; omega
    · obtain ⟨Lp, hLp⟩ : ∃ Lp, Lp = padB L k := ⟨_, rfl⟩
      have hpad : L ++ List.replicate c [] = Lp := by
        rw [hLp]; unfold padB
        have := hn.out
        rw [show c = k + 1 - L.length by omega]
      have hvp : ∀ (j : Nat) (u : Value), vs[j]? = some u → (vs ++ List.replicate c (.slice none 0 0))[j]? = some u := fun j u hu => by
        rw [List.getElem?_append_left (List.getElem?_eq_some_iff.1 hu).1]; exact hu
      generalize vs ++ List.replicate c (.slice none 0 0) = vp at *
      rw [hpad] at hFr
      have hkl : k < Lp.length := by rw [← hFr.len, hlen]; omega
      have hkv : k < vp.length := by rw [hlen]; omega
      obtain ⟨u, hu⟩ : ∃ u, vp[k]? = some u := ⟨_, List.getElem?_eq_getElem hkv⟩
      have hbk : (bk Lp k).length ≤ 30000 := by rw [hLp, padB_bk]; exact hb
      have hou := hFr.each k u hu
      obtain ⟨gv, rfl⟩ : ∃ gv, q = some ⟨gv, 0, none⟩ := by
        rcases hFr.row.2 with ⟨_, e2⟩ | ⟨g, cap2, cur, e, _⟩
        · omega
        · injection e with e _ _; exact ⟨g, e⟩
      have hgvl := hFr.row.lt gv rfl
      have hune : u.ownBlock ≠ some gv := fun e => hFr.rowEach hu e rfl
      have hrow := hFr.row
      rw [hlen] at hrow
      have ck := hrow.cellAt k (by omega)
      rw [hu] at ck
      obtain ⟨X, hX⟩ : ∃ X, X = (wr.alloc (.cells [Value.int .i64 x, .int .i64 y].toArray 29)).drew := ⟨_, rfl⟩
      have hXs : X.heap.size = wr.heap.size + 1 := by rw [hX]; simp
      have hV : Foot (fun _ => False) wr (fun _ => False) X := by rw [hX]; exact (Foot.alloc _).trans Foot.drew
      have hoX : X.ownsRow B 29 2 u (bk Lp k).length (pls m (bk Lp k)) := by rw [hX]; exact World.ownsRow.alloc (w := wr) hou _
      have hBs : B ≤ wr.heap.size := by have := hFt.size; omega
      obtain ⟨u', W', hrun, hown, hg, hwh⟩ := app_where (P := Tryz.prog) X B 51 51 29 i1 (.agg #[.int .i64 0, .int .i64 0]) 2 16 Tryz.underlying51 hj0 hy0 hy1 hy2 rfl (by decide) u _ _ hoX ⟨wr.heap.size, 0, none⟩ 1 [.int .i64 x, .int .i64 y] rfl
        (by rw [hX]; exact cells_new (w := wr)) (posCells x y) (by unfold maxLen; omega) (by omega) (by omega)
      have hgW : W'.heap[gv]? = wr.heap[gv]? := (hg.block gv (by omega) (fun e => hune e.symm)).trans (hV.same gv hgvl.2 (fun h => h))
      have ck' : W'.cell? ⟨gv, k, none⟩ = some u := (World.cell?_of_block (w := wr) hgW).trans ck
      have fk' : W'.frozen? ⟨gv, k, none⟩ = false := (World.frozen?_of_block (w := wr) hgW).trans (hrow.frozenAt k)
      have hFb : Blk W' F [.slice (some ⟨gv, 0, none⟩) n cap, .int .i64 cnt] 170 := by
        have e := hFr.blk
        unfold Blk at e ⊢
        rw [hg.block F (by omega) (fun e2 => by have := (hou.lt F e2.symm).1; have := hFr.low; omega), hV.same F hFlt (fun h => h)]
        exact e
      have hPW : Blk W' W.heap.size [.int .i64 x, .int .i64 y] 29 := by
        have e := hP
        have := hP.lt
        unfold Blk at e ⊢
        rw [hg.block W.heap.size (by omega) (fun e2 => hnP (.inr (.inr ⟨u, List.mem_of_getElem? hu, e2.symm⟩))), hV.same _ hP.lt (fun h => h)]
        exact e
      have hown2 := hown
      rw [hx.out, hy.out] at hown2
      obtain ⟨p1, p2⟩ := hFr.put (i := p) hV hkl hu hg hown2 (fun b hb => (hwh b hb).imp id (fun k => by omega)) gv rfl
      obtain ⟨qu, nu, cu, rfl⟩ : ∃ qu nu cu, u = .slice qu nu cu := by
        rcases hou.2 with ⟨e, _⟩ | ⟨g, cap, cur, e, _⟩
        · exact ⟨_, _, _, e⟩
        · exact ⟨_, _, _, e⟩
      obtain ⟨qw, nw, cw, rfl⟩ : ∃ qw nw cw, u' = .slice qw nw cw := by
        rcases hown.2 with ⟨e, _⟩ | ⟨g, cap, cur, e, _⟩
        · exact ⟨_, _, _, e⟩
        · exact ⟨_, _, _, e⟩
      have hset : ∀ (j : Nat) (z : Value), j ≠ k → vp[j]? = some z → (vp.set k (.slice qw nw cw))[j]? = some z := fun j z hj hz => by rw [List.getElem?_set, if_neg (fun e => hj e.symm)]; exact hz
      obtain ⟨c1, c2⟩ := p1.count (cnt + 1)
      have hfin : AddP m B F v vs L cnt W ((W'.setCell ⟨gv, k, none⟩ (.slice qw nw cw)).setCell ⟨F, 1, none⟩ (.int .i64 (cnt + 1))) p k := by
        refine ⟨_, _, ?_, hFt.trans (p2.trans c2), fun j z hj hz => hset j z hj (hvp j z hz)⟩
        rw [hLp] at c1
        exact c1
      have d1 := p1.blk.cell 1
      have d2 := p1.blk.frozen 1
      simp only [List.getElem?_cons_succ, List.getElem?_cons_zero] at d1
      have nrm : IntKind.i64.wrap (cnt + 1) = cnt + 1 := IntWalk.i64_in _ (by omega)
      have kn : (0 : Int) ≤ (k : Int) := by omega
      have kn2 : (k : Int) < (n : Int) := by omega
      have hXeq := hX
      clear hown hown2 hg hwh hoX hV hou hrow hFt p1 p2 c1 c2 hset hvp hi0 hz0 hz1 hz2 hj0 hy0 hy1 hy2 hnP hgW hu hune hgvl
      go_upto_region 3 with fail
      have hmx : Tryz.prog.follows .mixedOrders = true := by kernel_rfl
      refine wp_region_any hmx (wpAny_of_late (lt := (fun x => x == 16)) (S := fun w' => Blk w' F [.slice (some ⟨gv, 0, none⟩) n cap, .int .i64 cnt] 170 ∧ w'.cell? ⟨gv, k, none⟩ = some (.slice qu nu cu) ∧ Blk w' W.heap.size [.int .i64 x, .int .i64 y] 29) _ _ _ _ ?_)
      show wpAnyM _ _ _ _ _ _ _ _ _ wr.drew
      have hS0 : Blk wr.drew F [.slice (some ⟨gv, 0, none⟩) n cap, .int .i64 cnt] 170 ∧ wr.drew.cell? ⟨gv, k, none⟩ = some (.slice qu nu cu) ∧ Blk wr.drew W.heap.size [.int .i64 x, .int .i64 y] 29 := ⟨hFr.blk, ck, hP⟩
      have hS1 : Blk X F [.slice (some ⟨gv, 0, none⟩) n cap, .int .i64 cnt] 170 ∧ X.cell? ⟨gv, k, none⟩ = some (.slice qu nu cu) ∧ Blk X W.heap.size [.int .i64 x, .int .i64 y] 29 := by
        rw [hX]; exact ⟨(Blk.alloc (w := wr) hS0.1 _).drew, (World.cell?_of_block (w := wr) (Below.heap_alloc wr _ gv (World.block_lt_of_cell? wr _ ck))).trans hS0.2.1, (Blk.alloc (w := wr) hS0.2.2 _).drew⟩
      have hS2 : Blk W' F [.slice (some ⟨gv, 0, none⟩) n cap, .int .i64 cnt] 170 ∧ W'.cell? ⟨gv, k, none⟩ = some (.slice qu nu cu) ∧ Blk W' W.heap.size [.int .i64 x, .int .i64 y] 29 := ⟨hFb, ck', hPW⟩
      clear hFr hP hPW hFb
      refine late_tk (lt := (fun x => x == 16)) (i := 0) (v := .pointer (some ⟨F, 0, none⟩)) (some 22) rfl (fun w' hS => by (skip); go_simp) hS0 ?_
      try simp only [Act.put, List.setIfInBounds_toArray, List.set_cons_zero, List.set_cons_succ]
      refine late_tk (lt := (fun x => x == 16)) (i := 1) (v := .pointer (some ⟨F, 0, none⟩)) (some 23) rfl (fun w' hS => by (skip); go_simp) hS0 ?_
      try simp only [Act.put, List.setIfInBounds_toArray, List.set_cons_zero, List.set_cons_succ]
      refine late_tk (lt := (fun x => x == 16)) (i := 2) (v := .pointer (some ⟨F, 0, none⟩)) (some 24) rfl (fun w' hS => by (skip); go_simp) hS0 ?_
      try simp only [Act.put, List.setIfInBounds_toArray, List.set_cons_zero, List.set_cons_succ]
      refine late_tk (lt := (fun x => x == 16)) (i := 3) (v := .slice (some ⟨gv, 0, none⟩) n cap) (some 25) rfl (fun w' hS => by (have q0 := hS.1.cell 0); go_simp) hS0 ?_
      try simp only [Act.put, List.setIfInBounds_toArray, List.set_cons_zero, List.set_cons_succ]
      refine late_tk (lt := (fun x => x == 16)) (i := 4) (v := .int .i64 k) (some 26) rfl (fun w' hS => by (skip); go_simp) hS0 ?_
      try simp only [Act.put, List.setIfInBounds_toArray, List.set_cons_zero, List.set_cons_succ]
      refine late_tk (lt := (fun x => x == 16)) (i := 5) (v := .pointer (some ⟨F, 0, none⟩)) (some 27) rfl (fun w' hS => by (skip); go_simp) hS0 ?_
      try simp only [Act.put, List.setIfInBounds_toArray, List.set_cons_zero, List.set_cons_succ]
      refine late_tk (lt := (fun x => x == 16)) (i := 6) (v := .pointer (some ⟨F, 0, none⟩)) (some 28) rfl (fun w' hS => by (skip); go_simp) hS0 ?_
      try simp only [Act.put, List.setIfInBounds_toArray, List.set_cons_zero, List.set_cons_succ]
      refine late_tk (lt := (fun x => x == 16)) (i := 7) (v := .pointer (some ⟨F, 0, none⟩)) (some 29) rfl (fun w' hS => by (skip); go_simp) hS0 ?_
      try simp only [Act.put, List.setIfInBounds_toArray, List.set_cons_zero, List.set_cons_succ]
      refine late_tk (lt := (fun x => x == 16)) (i := 8) (v := .slice (some ⟨gv, 0, none⟩) n cap) (some 30) rfl (fun w' hS => by (have q0 := hS.1.cell 0); go_simp) hS0 ?_
      try simp only [Act.put, List.setIfInBounds_toArray, List.set_cons_zero, List.set_cons_succ]
      refine late_tk (lt := (fun x => x == 16)) (i := 9) (v := .int .i64 k) (some 31) rfl (fun w' hS => by (skip); go_simp) hS0 ?_
      try simp only [Act.put, List.setIfInBounds_toArray, List.set_cons_zero, List.set_cons_succ]
      refine late_tk (lt := (fun x => x == 16)) (i := 10) (v := .pointer (some ⟨gv, k, none⟩)) (some 32) rfl (fun w' hS => by (skip); go_simp) hS0 ?_
      try simp only [Act.put, List.setIfInBounds_toArray, List.set_cons_zero, List.set_cons_succ]
      refine late_tk (lt := (fun x => x == 16)) (i := 11) (v := .slice qu nu cu) (some 33) rfl (fun w' hS => by (have q1 := hS.2.1); go_simp) hS0 ?_
      try simp only [Act.put, List.setIfInBounds_toArray, List.set_cons_zero, List.set_cons_succ]
      refine late_tk (lt := (fun x => x == 16)) (i := 12) (v := .agg #[.int .i64 x, .int .i64 y]) (some 34) rfl (fun w' hS => by (have q2 := hS.2.2.cell 0; have q3 := hS.2.2.cell 1); go_simp) hS0 ?_
      try simp only [Act.put, List.setIfInBounds_toArray, List.set_cons_zero, List.set_cons_succ]
      refine late_one (i := 13) (by kernel_rfl) rfl (fun K hQ => ?_)
      go_simp
      rw [← hX]
      refine hQ.out _ _ (fun _ => hS1) ?_
      clear hQ
      try simp only [Act.put, List.setIfInBounds_toArray, List.set_cons_zero, List.set_cons_succ]
      refine late_one (i := 14) (by kernel_rfl) rfl (fun K hQ => ?_)
      refine step_app_run rfl (.tmp 33) (.tmp 35) 51 rfl _ _ _ rfl rfl hrun ?_
      refine hQ.out _ _ (fun _ => hS2) ?_
      clear hQ
      try simp only [Act.put, List.setIfInBounds_toArray]
      refine late_tk (lt := (fun x => x == 16)) (i := 15) (v := .pointer (some ⟨gv, k, none⟩)) (some 37) rfl (fun w' hS => by (skip); go_simp) hS2 ?_
      try simp only [Act.put]
      refine late_one (i := 16) (by kernel_rfl) rfl (fun K hQ => ?_)
      go_simp
      refine hQ.out _ _ (fun h => by cases h) ?_
      clear hQ
      try simp only [Act.put, List.setIfInBounds_toArray, List.set_cons_zero, List.set_cons_succ]
      refine late_done (by kernel_rfl) ?_ _
      show Exit.then _ _ Exit.normal _ _
      clear hS0 hS1 hS2
      go_wp2_with fail
      go_end0
      exact ⟨rfl, hfin⟩

end

section
open Go.RowKit Go.Lib Go.Shelf

attribute [local go_sem] Oper.semAt_some
/-- The cost of the step from p to q, if there is one. -/
def stepC (m : M3) (bl : List Bool) (c : Int) (p q : Pt) : Option Int := ((nbp m bl c p).find? fun x => decide (x.1 = q)).map (·.2)
/-- A block, behind a turn of what is no cells. -/
theorem asblk_turn {X Y : World} {b : Nat} {vs : List Value} {t : TypeId} {row : Option Nat} (h : Blk X b vs t) (hg : X.grownBy Y row) (hr : ∀ r, row = some r → ∃ o : Obj, X.heap[r]? = some o ∧ o.isCells = false) : Blk Y b vs t := by
  refine h.grown hg fun k hk e => ?_
  subst e
  obtain ⟨o, ho, hc⟩ := hr b hk
  unfold Blk at h
  rw [h] at ho
  injection ho with ho
  subst ho
  cases hc
theorem asbelow_turn {B C : Nat} {w X Y : World} {row : Option Nat} (h : Below B w X) (hg : X.grownBy Y row) (hB : B ≤ X.heap.size) (hC : B ≤ C) (hr : ∀ r, row = some r → C ≤ r ∧ ∃ o : Obj, X.heap[r]? = some o ∧ o.isCells = false) : Below B w Y :=
  h.grown hg hB (fun k hk => Nat.le_trans hC (hr k hk).1)
theorem find_pre {α : Type} {f : α → Bool} {l l' : List α} {x : α} (h : l <+: l') (hf : l.find? f = some x) : l'.find? f = some x := by
  obtain ⟨t, rfl⟩ := h
  rw [List.find?_append, hf]; rfl
theorem find_miss {α : Type} {f : α → Bool} {l : List α} {x : α} (h : l.find? f = none) (hx : f x = false) : (l ++ [x]).find? f = none := by
  rw [List.find?_append, h]; simp [hx]
theorem find_hit {α : Type} {f : α → Bool} {l : List α} {x : α} (h : l.find? f = none) (hx : f x = true) : (l ++ [x]).find? f = some x := by
  rw [List.find?_append, h]; simp [hx]

/-- No step of these leads to q. -/
def StpMiss (q : Pt) (l : List (Pt × Int)) : Prop := l.find? (fun x => decide (x.1 = q)) = none
theorem StpMiss.snoc {q : Pt} {l : List (Pt × Int)} {x : Pt × Int} (h : StpMiss q l) (hx : x.1 ≠ q) : StpMiss q (l ++ [x]) := by
  unfold StpMiss at *; exact find_miss h (decide_eq_false hx)
theorem StpMiss.hit {q : Pt} {l : List (Pt × Int)} {x : Pt × Int} (h : StpMiss q l) (hx : x.1 = q) : (l ++ [x]).find? (fun x => decide (x.1 = q)) = some x := by
  unfold StpMiss at h; exact find_hit h (decide_eq_true hx)
/-- The step has been found: its cost lies in the results. -/
def StpHit (q : Pt) (l : List (Pt × Int)) (b3 b4 : Nat) (Z : World) : Prop := ∃ y, l.find? (fun x => decide (x.1 = q)) = some y ∧ Blk Z b3 [.int .i64 y.2] 3 ∧ Blk Z b4 [.bool true] 4

set_option maxRecDepth 100000 in
set_option maxHeartbeats 4000000 in
theorem ascost_b (m : M3) (s : Value) (bl : List Bool) (l : Value) (c : Int) (p q : Pt) (k : Int) (b : Bool) (W : World) (hG : Gd W m s bl l) (e : Hid ((k, b) = match stepC m bl c p q with | some w => (w, true) | none => (0, false))) :
    Calls Tryz.prog 78 #[.agg #[.int .i64 m.w, .int .i64 m.h, s, l, .int .i64 c], .agg #[.int .i64 p.1, .int .i64 p.2], .agg #[.int .i64 q.1, .int .i64 q.2]] W fun e w' => e = .returned (.tuple #[.int .i64 k, .bool b]) ∧ Below W.heap.size W w' := by
  refine callsIn_wide (n := 9).1 ?_
  refine callsIn_of_wp_marks Tryz.func78 rfl trivial ?_ rfl
  simp only [Tryz.ntmps78, List.size_toArray, List.length_cons, List.length_nil, Nat.reduceAdd, Nat.reduceSub, Array.replicate_succ, Array.replicate_zero, List.push_toArray, List.append_toArray, List.nil_append, List.cons_append]
  have hK := (((((Keep.nil W).alloc [.int .i64 m.w, .int .i64 m.h, s, l, .int .i64 c] 124).alloc [.int .i64 p.1, .int .i64 p.2] 29).alloc [.int .i64 q.1, .int .i64 q.2] 29).alloc [.int .i64 0] 3).alloc [.bool false] 4
  simp only [World.size_alloc] at hK
  gi_wp2
  refine ⟨trivial, ?_⟩
  obtain ⟨X, hX⟩ : ∃ X, X = ((((W.alloc (.cells [Value.int .i64 m.w, .int .i64 m.h, s, l, .int .i64 c].toArray 124)).alloc (.cells [Value.int .i64 p.1, .int .i64 p.2].toArray 29)).alloc (.cells [Value.int .i64 q.1, .int .i64 q.2].toArray 29)).alloc (.cells [Value.int .i64 0].toArray 3)).alloc (.cells [Value.bool false].toArray 4) := ⟨_, rfl⟩
  have hsz : X.heap.size = W.heap.size + 5 := by rw [hX]; simp
  rw [← hX] at hK ⊢
  clear hX
  ((with_reducible refine (callsIn_wide (n := 8).2 (assteps_b m s l c p.1 p.2 X)).mono ?_); rintro e1 w1 ⟨rfl, rfl⟩)
  have hK2 := (hK.alloc [.int .i64 m.w, .int .i64 m.h, s, l, .int .i64 c] 124).alloc [.int .i64 p.1, .int .i64 p.2] 29
  simp only [World.size_alloc, hsz] at hK2
  obtain ⟨Y, hY⟩ : ∃ Y, Y = (X.alloc (.cells [Value.int .i64 m.w, .int .i64 m.h, s, l, .int .i64 c].toArray 124)).alloc (.cells [Value.int .i64 p.1, .int .i64 p.2].toArray 29) := ⟨_, rfl⟩
  have hsY : Y.heap.size = W.heap.size + 7 := by rw [hY]; simp; omega
  rw [← hY] at hK2 ⊢
  clear hY hK
  rw [hsz]
  gi_wp2
  obtain ⟨g5, h5⟩ : ∃ g5, g5 = W.heap.size + 5 := ⟨_, rfl⟩
  obtain ⟨b4, h4⟩ : ∃ b4, b4 = W.heap.size + 1 + 1 + 1 + 1 := ⟨_, rfl⟩
  obtain ⟨b3, h3⟩ : ∃ b3, b3 = W.heap.size + 1 + 1 + 1 := ⟨_, rfl⟩
  obtain ⟨b2, h2⟩ : ∃ b2, b2 = W.heap.size + 1 + 1 := ⟨_, rfl⟩
  have bG : Blk Y g5 (grdL m s l c) 124 := (hK2.blks (W.heap.size + 5, grdL m s l c, 124) (by simp)).at (by omega)
  have bP : Blk Y (g5 + 1) (ptL p) 29 := (hK2.blks (W.heap.size + 5 + 1, ptL p, 29) (by simp)).at (by omega)
  have bQ : Blk Y b2 (ptL q) 29 := (hK2.blks (W.heap.size + 1 + 1, ptL q, 29) (by simp)).at (by omega)
  have bN : Blk Y b3 [.int .i64 0] 3 := (hK2.blks (W.heap.size + 1 + 1 + 1, [.int .i64 0], 3) (by simp)).at (by omega)
  have bB : Blk Y b4 [.bool false] 4 := (hK2.blks (W.heap.size + 1 + 1 + 1 + 1, [.bool false], 4) (by simp)).at (by omega)
  have hWY := hK2.old
  clear hK2
  rw [← h5, ← h4, ← h3, ← h2]
  have k3 : W.heap.size ≤ b3 := by omega
  have k4 : W.heap.size ≤ b4 := by omega
  have k34 : b3 ≠ b4 := by omega
  have k5 : W.heap.size ≤ Y.heap.size := by omega
  have k6 : g5 + 1 < Y.heap.size := by omega
  have k7 : b3 ≠ g5 ∧ b3 ≠ g5 + 1 ∧ b4 ≠ g5 ∧ b4 ≠ g5 + 1 := by omega
  clear h2 h3 h4 h5 hsz hsY
  refine wpIn_rangeFunc_ownH (α := Stp m bl c p) rfl (by omega) (gf := 168) (lb := #[.pointer (some ⟨g5, 0, none⟩), .pointer (some ⟨g5 + 1, 0, none⟩)]) rfl trivial (enters_of Tryz.func168 (by kernel_rfl) rfl)
    (assteps_stops m s bl l c p W Y g5 8 hG hWY bG bP) KpS.trans (KpS.turn k5 k6) (Below.refl _ _) (fun _ => rfl)
    (fun pre Z => StpMiss q (pre.map (·.1)) ∧ Below W.heap.size W Z ∧ Blk Z g5 (grdL m s l c) 124 ∧ Blk Z (g5 + 1) (ptL p) 29 ∧ Blk Z b2 (ptL q) 29 ∧ Blk Z b3 [.int .i64 0] 3 ∧ Blk Z b4 [.bool false] 4)
    (fun cd pre Z => cd = .ret ∧ Below W.heap.size W Z ∧ StpHit q (pre.map (·.1)) b3 b4 Z)
    ?hI ?hIx ?h0 (fun x a' Z => ∃ Bq, Blk Z Bq (ptL x.1.1) 29 ∧ a' = { tmps := #[.agg #[.int .i64 m.w, .int .i64 m.h, s, l, .int .i64 c], .agg #[.int .i64 p.1, .int .i64 p.2], .agg #[.int .i64 q.1, .int .i64 q.2], .pointer (some ⟨W.heap.size, 0, none⟩), .pointer (some ⟨W.heap.size + 1, 0, none⟩), .pointer (some ⟨b2, 0, none⟩), .pointer (some ⟨b3, 0, none⟩), .pointer (some ⟨b4, 0, none⟩), .pointer (some ⟨Bq, 0, none⟩), .int .i64 x.1.2, .agg #[.int .i64 m.w, .int .i64 m.h, s, l, .int .i64 c], .agg #[.int .i64 p.1, .int .i64 p.2], .func (.func 168) #[] #[.pointer (some ⟨g5, 0, none⟩), .pointer (some ⟨g5 + 1, 0, none⟩)], .agg #[.int .i64 x.1.1.1, .int .i64 x.1.1.2], .int .i64 x.1.2, undef, undef, undef, undef], defers := [] }) ?hAx ?assign ?body ?done ?stop
  case hI =>
    rintro pre A B row ⟨u1, u2, u3, u4, u5, u6, u7⟩ hg hr
    have hr2 := fun r e => (hr r e).2
    have := u2.size
    exact ⟨u1, asbelow_turn u2 hg this k5 hr, asblk_turn u3 hg hr2, asblk_turn u4 hg hr2, asblk_turn u5 hg hr2, asblk_turn u6 hg hr2, asblk_turn u7 hg hr2⟩
  case hIx =>
    rintro cd pre A B row ⟨u1, u2, y, u3, u4, u5⟩ hg hr
    have hr2 := fun r e => (hr r e).2
    have := u2.size
    exact ⟨u1, asbelow_turn u2 hg this k5 hr, y, u3, asblk_turn u4 hg hr2, asblk_turn u5 hg hr2⟩
  case h0 => exact ⟨rfl, hWY, bG, bP, bQ, bN, bB⟩
  case hAx =>
    rintro x a' _ A B row ⟨Bq, u1, u2⟩ hg hr
    exact ⟨Bq, asblk_turn u1 hg (fun r e => (hr r e).2), u2⟩
  case assign =>
    rintro ll pre x Z K ⟨u1, u2, u3, u4, u5, u6, u7⟩ hK
    have hZ := (Below.refl Z.heap.size Z).alloc (Nat.le_refl _) (.cells [Value.int .i64 x.1.1.1, .int .i64 x.1.1.2].toArray 29)
    gi_wp2
    exact hK _ _ ((KeepsOthers.alloc _ _).from _) ⟨hZ.mono u2.size, hZ.block _ u3.lt, hZ.block _ u4.lt⟩ ⟨u1, below_call u2 hZ, u3.below hZ, u4.below hZ, u5.below hZ, u6.below hZ, u7.below hZ⟩ ⟨_, Blk.new Z _ _, rfl⟩
  case body =>
    rintro ll pre x a' Z - - ⟨u1, u2, u3, u4, u5, u6, u7⟩ ⟨Bq, uq, rfl⟩ -
    obtain ⟨_, _, _, _⟩ := uq.two
    obtain ⟨_, _, _, _⟩ := u5.two
    obtain ⟨_, _⟩ := u6.one
    obtain ⟨_, _⟩ := u7.one
    have keep : x.1.1 ≠ q → ∀ a, ownPostG Y.heap.size (KpS W.heap.size g5) (fun pre Z => StpMiss q (pre.map (·.1)) ∧ Below W.heap.size W Z ∧ Blk Z g5 (grdL m s l c) 124 ∧ Blk Z (g5 + 1) (ptL p) 29 ∧ Blk Z b2 (ptL q) 29 ∧ Blk Z b3 [.int .i64 0] 3 ∧ Blk Z b4 [.bool false] 4)
        (fun cd pre Z => cd = .ret ∧ Below W.heap.size W Z ∧ StpHit q (pre.map (·.1)) b3 b4 Z) (pre ++ [x]) Z .normal a Z := fun hne _ =>
      ⟨KeepsFrom.refl _ _, KpS.refl _ _ _, by rw [List.map_append]; exact u1.snoc hne, u2, u3, u4, u5, u6, u7⟩
    by_cases e1 : x.1.1.1 = q.1
    · by_cases e2 : x.1.1.2 = q.2
      · have z1 : (x.1.1.1 == q.1) = true := beq_iff_eq.2 e1
        have z2 : (x.1.1.2 == q.2) = true := beq_iff_eq.2 e2
        have hq : x.1.1 = q := Prod.ext e1 e2
        clear e1 e2
        gi_wp2
        refine ⟨((KeepsOthers.setCell _ _ _).trans (KeepsOthers.setCell _ _ _)).from _, rfl, (u2.setCell (p := ⟨b3, 0, none⟩) k3 _).setCell (p := ⟨b4, 0, none⟩) k4 _, x.1, ?_, (u6.set 0 _).far _ k34, (u7.far _ (fun h => k34 h.symm)).set 0 _⟩
        rw [List.map_append]
        exact u1.hit hq
      · have z1 : (x.1.1.1 == q.1) = true := beq_iff_eq.2 e1
        have z2 : (x.1.1.2 == q.2) = false := beq_eq_false_iff_ne.2 e2
        have hq := keep (fun h => e2 (by rw [h]))
        clear e1 keep
        gi_wp2
        all_goals exact hq _
    · have z1 : (x.1.1.1 == q.1) = false := beq_eq_false_iff_ne.2 e1
      have hq := keep (fun h => e1 (by rw [h]))
      clear keep
      gi_wp2
      all_goals exact hq _
  case done =>
    rintro D xs Z hD hxs ⟨u1, u2, u3, u4, u5, u6, u7⟩ hK
    obtain ⟨_, _⟩ := u6.one
    obtain ⟨_, _⟩ := u7.one
    obtain ⟨rfl, rfl⟩ : k = 0 ∧ b = false := by
      have e' := e.out
      rw [hxs] at u1
      unfold StpMiss at u1
      unfold stepC at e'
      rw [u1] at e'
      exact ⟨congrArg Prod.fst e', congrArg Prod.snd e'⟩
    gi_wp2
    have hK' := (KeepsOthers.trans (KeepsOthers.setCell Z ⟨b3, 0, none⟩ (.int .i64 0)) (KeepsOthers.setCell _ ⟨b4, 0, none⟩ (.bool false))).same D _ hK rfl
    have v6 := (u6.set 0 (.int .i64 0)).far (c := b4) (i := 0) (.bool false) k34
    have v7 := (u7.far (c := b3) (i := 0) (.int .i64 0) (fun h => k34 h.symm)).set 0 (.bool false)
    have hb := (u2.setCell (p := ⟨b3, 0, none⟩) k3 (.int .i64 0)).setCell (p := ⟨b4, 0, none⟩) k4 (.bool false)
    generalize (Z.setCell ⟨b3, 0, none⟩ (.int .i64 0)).setCell ⟨b4, 0, none⟩ (.bool false) = Z2 at *
    refine ⟨by simp, .inl ⟨_, _, rfl, run_takeDeferred hK', ?_⟩⟩
    have c6 := (asblk_turn v6 (grownBy_putObj' Z2 D (.deferred none)) (fun r e => by cases e; exact ⟨_, hK', rfl⟩)).cell 0
    have c7 := (asblk_turn v7 (grownBy_putObj' Z2 D (.deferred none)) (fun r e => by cases e; exact ⟨_, hK', rfl⟩)).cell 0
    refine ⟨.tuple #[.int .i64 0, .bool false], ?_, rfl, hb.trans (belowK_b (w := Y) k5 Z2 D _ _ hD hK' rfl rfl)⟩
    simp [results, Tryz.results78, go_sem, c6, c7]
  case stop =>
    rintro D cd pre Z hD hpre ⟨rfl, u2, y, hy, u6, u7⟩ hK
    obtain ⟨rfl, rfl⟩ : k = y.2 ∧ b = true := by
      have e' := e.out
      unfold stepC at e'
      rw [find_pre hpre hy] at e'
      exact ⟨congrArg Prod.fst e', congrArg Prod.snd e'⟩
    gi_wp2
    refine ⟨by simp, .inl ⟨_, _, rfl, run_takeDeferred hK, ?_⟩⟩
    have c6 := (asblk_turn u6 (grownBy_putObj' Z D (.deferred none)) (fun r e => by cases e; exact ⟨_, hK, rfl⟩)).cell 0
    have c7 := (asblk_turn u7 (grownBy_putObj' Z D (.deferred none)) (fun r e => by cases e; exact ⟨_, hK, rfl⟩)).cell 0
    refine ⟨.tuple #[.int .i64 y.2, .bool true], ?_, rfl, u2.trans (belowK_b (w := Y) k5 Z D _ _ hD hK rfl rfl)⟩
    simp [results, Tryz.results78, go_sem, c6, c7]

end

section
open Go.RowKit Go.Lib Go.Shelf

theorem Foot.turn {A A' : Nat → Prop} {w X Y : World} {row : Option Nat} (h : Foot A w A' X) (hg : X.grownBy Y row) (hr : ∀ r, row = some r → w.heap.size ≤ r) : Foot A w A' Y :=
  ⟨hg.os.trans h.os, hg.tape.trans h.tape, hg.output.trans h.output, Nat.le_trans h.size hg.size,
    fun b hb hA => (hg.block b (Nat.lt_of_lt_of_le hb h.size) (fun e => by have := hr b e.symm; omega)).trans (h.same b hb hA), h.from_⟩
/-- A frontier's blocks hold cells. -/
theorem Fr.cells {W : World} {m : M3} {B F : Nat} {v : Value} {vs : List Value} {L : List (List Nat)} {cnt : Int} (h : Fr W m B F v vs L cnt) {b : Nat} (hb : Fb F v vs b) : ∃ cur t f, W.heap[b]? = some (.cells cur t f) := by
  rcases hb with rfl | hb | ⟨u, hu, hb⟩
  · exact ⟨_, _, _, h.blk⟩
  · obtain ⟨cur, hc⟩ := own_type h.row hb; exact ⟨_, _, _, hc⟩
  · obtain ⟨i, hi, e⟩ := List.mem_iff_getElem.1 hu
    obtain ⟨cur, hc⟩ := own_type (h.each i u (by rw [List.getElem?_eq_getElem hi, e])) hb; exact ⟨_, _, _, hc⟩
theorem Fr.turn {X Y : World} {m : M3} {B F : Nat} {v : Value} {vs : List Value} {L : List (List Nat)} {cnt : Int} {row : Option Nat} (h : Fr X m B F v vs L cnt) (hg : X.grownBy Y row) (hr : ∀ r, row = some r → ∃ o : Obj, X.heap[r]? = some o ∧ o.isCells = false) : Fr Y m B F v vs L cnt :=
  h.kept fun b hb => hg.block b (h.fb_lt hb).1 fun e => by
    obtain ⟨o, ho, hc⟩ := hr b e.symm
    obtain ⟨cur, t, f, hx⟩ := h.cells hb
    rw [hx] at ho
    injection ho with ho
    subst ho
    cases hc
/-- A frontier is told by its memory: which rows it has. -/
theorem Fr.uniq {W : World} {m : M3} {B F : Nat} {v v2 : Value} {vs vs2 : List Value} {L L2 : List (List Nat)} {cnt cnt2 : Int} (h : Fr W m B F v vs L cnt) (k : Fr W m B F v2 vs2 L2 cnt2) : v = v2 ∧ vs = vs2 := by
  have e0 : v = v2 := by
    have h0 := h.blk.cell 0
    have k0 := k.blk.cell 0
    simp only [List.getElem?_cons_zero] at h0 k0
    rw [h0] at k0
    injection k0
  subst e0
  refine ⟨rfl, ?_⟩
  rcases h.row.2 with ⟨e1, n1⟩ | ⟨g, cap, cur, e1, _, hh, _, _, _, t1⟩
  · rcases k.row.2 with ⟨_, n2⟩ | ⟨g2, cap2, cur2, e2, _⟩
    · rw [List.eq_nil_of_length_eq_zero n1, List.eq_nil_of_length_eq_zero n2]
    · rw [e1] at e2; cases e2
  · rcases k.row.2 with ⟨e2, _⟩ | ⟨g2, cap2, cur2, e2, _, hh2, _, _, _, t2⟩
    · rw [e1] at e2; cases e2
    · rw [e1] at e2
      injection e2 with e3 e4 _
      injection e3 with e3
      injection e3 with e3
      subst e3
      rw [hh] at hh2
      injection hh2 with hh2
      injection hh2 with hh2
      subst hh2
      rw [e4] at t1
      exact t1.symm.trans t2
/-- The blocks that the search writes: the costs' and the frontier's. -/
def Ex (cb F : Nat) (v : Value) (vs : List Value) (b : Nat) : Prop := b = cb ∨ Fb F v vs b
theorem Ex.ge {W : World} {m : M3} {B F cb : Nat} {v : Value} {vs : List Value} {L : List (List Nat)} {cnt : Int} (h : Fr W m B F v vs L cnt) {V : Nat} (h1 : V ≤ cb) (h2 : V ≤ F) {b : Nat} (hb : Ex cb F v vs b) : V ≤ b := by
  rcases hb with rfl | hb
  · exact h1
  · have := h.low
    rcases (h.fb_lt hb).2 with rfl | k
    · exact h2
    · omega
theorem Ex.keeps {X Y : World} {m : M3} {B F cb : Nat} {v v' : Value} {vs vs' : List Value} {L : List (List Nat)} {cnt : Int} (h : Fr X m B F v vs L cnt) {cs : List Value} {t : TypeId} (hc : Blk X cb cs t) (hf : Foot (Ex cb F v vs) X (Ex cb F v' vs') Y) (C : Nat) : KeepsFrom C X Y :=
  ⟨hf.size, fun k o _ hk ho => by
    have hlt := (Array.getElem?_eq_some_iff.1 hk).1
    rw [hf.same k hlt (fun hx => ?_)]
    · exact hk
    · rcases hx with rfl | hx
      · unfold Blk at hc
        rw [hc] at hk
        injection hk with hk
        subst hk
        cases ho
      · obtain ⟨cur, t, f, hx⟩ := h.cells hx
        rw [hx] at hk
        injection hk with hk
        subst hk
        cases ho⟩
/-- The cells that a list of steps leads to, by number. -/
def idxs (m : M3) {bl : List Bool} {c : Int} {p : Pt} (l : List (Stp m bl c p)) : List (Nat × Int) := l.map fun x => (idx m x.1.1, x.1.2)
theorem idxs_snoc (m : M3) {bl : List Bool} {c : Int} {p : Pt} (l : List (Stp m bl c p)) (x : Stp m bl c p) : idxs m (l ++ [x]) = idxs m l ++ [(idx m x.1.1, x.1.2)] := by
  unfold idxs; rw [List.map_append]; rfl
theorem idxs_all {m : M3} (_hf : formedv m = true) {bl : List Bool} {c : Int} {k : Nat} (hk : k < m.cs.length) (l : List (Stp m bl c (posn m k))) (h : l.map (·.1) = nbp m bl c (posn m k)) : idxs m l = nb m bl c k := by
  unfold nb
  rw [if_pos hk, ← h, List.map_map]; rfl
theorem idxs_mem {m : M3} (_hf : formedv m = true) {bl : List Bool} {c : Int} {k : Nat} (hk : k < m.cs.length) (x : Stp m bl c (posn m k)) : (idx m x.1.1, x.1.2) ∈ nb m bl c k := mem_nb.2 ⟨hk, x.1, x.2, rfl, rfl⟩

end

end Go.Proofs.YtpgchjhfhndaaaaGreatDoor
