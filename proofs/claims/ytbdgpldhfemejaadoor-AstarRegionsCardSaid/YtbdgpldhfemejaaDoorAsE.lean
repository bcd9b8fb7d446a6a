/-
  astar as landed at 35fbd81: a cell is added to the frontier.
-/
import Derived.Test.YtbdgpldhfemejaaDoorAsD
import Derived.Test.YtbdgpldhfemejaaDoorHeldM
namespace Go.Proofs.YtbdgpldhfemejaaDoor
open Go.RowKit Go.Lib

theorem posCells (x y : Int) : ∀ u ∈ ([.int .i64 x, .int .i64 y] : List Value), u.oneCell' = true := by
  intro u hu
  rcases List.mem_cons.1 hu with rfl | hu
  · rfl
  · rw [List.mem_singleton.1 hu]; rfl
/-- How many buckets a frontier has, read off the world. -/
def bksAt (F : Nat) (W : World) : Nat := match W.cell? ⟨F, 0, none⟩ with | some (.slice _ n _) => n | _ => 0
theorem pad_more (L : List (List Nat)) (c : Nat) : (L ++ List.replicate c []) ++ [[]] = L ++ List.replicate (c + 1) [] := by
  rw [List.append_assoc, List.replicate_succ']
theorem nil_more (vs : List Value) (c : Nat) : (vs ++ List.replicate c (.slice none 0 0)) ++ [.slice none 0 0] = vs ++ List.replicate (c + 1) (.slice none 0 0) := by
  rw [List.append_assoc, List.replicate_succ']
theorem bk_pad (L : List (List Nat)) (c i : Nat) : bk (L ++ List.replicate c []) i = bk L i := by
  unfold bk
  rw [List.getD_eq_getElem?_getD, List.getD_eq_getElem?_getD, List.getElem?_append]
  split
  · rfl
  · rw [List.getElem?_replicate, List.getElem?_eq_none (by omega)]; split <;> rfl
/-- What add answers. -/
def AddP (m : M3) (B F : Nat) (v : Value) (vs : List Value) (L : List (List Nat)) (cnt : Int) (W w' : World) (p k : Nat) : Prop :=
  ∃ v' vs', Fr w' m B F v' vs' (addB L p k) (cnt + 1) ∧ Foot (Fb F v vs) W (Fb F v' vs') w' ∧ ∀ (j : Nat) (u : Value), j ≠ k → vs[j]? = some u → vs'[j]? = some u

set_option maxRecDepth 100000 in
set_option maxHeartbeats 8000000 in
theorem asadd_b (m : M3) (p k : Nat) (x y : Int) (W : World) (B F : Nat) (v : Value) (vs : List Value) (L : List (List Nat)) (cnt : Int) (h : Fr W m B F v vs L cnt) (hx : Hid (x = (posn m p).1)) (hy : Hid (y = (posn m p).2))
    (hB : B ≤ W.heap.size) (hk : k ≤ 30000) (hL : L.length ≤ 30000) (hb : (bk L k).length ≤ 30000) (hc : 0 ≤ cnt ∧ cnt ≤ 4000000000) :
    Calls Tryd.prog 47 #[.pointer (some ⟨F, 0, none⟩), .agg #[.int .i64 x, .int .i64 y], .int .i64 k] W fun e w' => e = .returned (.tuple #[]) ∧ AddP m B F v vs L cnt W w' p k := by
  obtain ⟨i0, hi0, hz0, hz1, hz2⟩ := info_cut infoRowA
  obtain ⟨i1, hj0, hy0, hy1, hy2⟩ := info_cut infoPosA
  obtain ⟨W1, hW1⟩ : ∃ W1, W1 = W.alloc (.cells [Value.int .i64 x, .int .i64 y].toArray 27) := ⟨_, rfl⟩
  have hP : Blk W1 W.heap.size [.int .i64 x, .int .i64 y] 27 := by rw [hW1]; exact Blk.new W _ _
  have hsz : W1.heap.size = W.heap.size + 1 := by rw [hW1]; simp
  have hb1 : Below W.heap.size W W1 := by rw [hW1]; exact (Below.refl _ W).alloc (Nat.le_refl _) _
  have h1 := h.below hb1
  have hnP : ¬ Fb F v vs W.heap.size := fun hf => by have := (h.fb_lt hf).1; omega
  have hF1 : Foot (Fb F v vs) W (Fb F v vs) W1 := Foot.of_below hb1
  have hvl := h.len
  clear hb1
  go_enter Tryd.func47, Tryd.ntmps47
  go_upto_region 1 with fail
  rw [← hW1]
  clear hW1
  go_loopw [] (fun wr => ∃ v2 c, Fr wr m B F v2 (vs ++ List.replicate c (.slice none 0 0)) (L ++ List.replicate c []) cnt ∧ L.length + c ≤ max L.length (k + 1) ∧ Foot (Fb F v vs) W (Fb F v2 (vs ++ List.replicate c (.slice none 0 0))) wr ∧ Blk wr W.heap.size [.int .i64 x, .int .i64 y] 27 ∧ ¬ Fb F v2 (vs ++ List.replicate c (.slice none 0 0)) W.heap.size)
    (fun wr => k + 1 - bksAt F wr)
  case atStart => exact ⟨v, 0, by simpa using h1, by omega, by simpa using hF1, hP, by simpa using hnP⟩
  case round =>
    clear h1 hF1 hP hnP
    obtain ⟨v2, c, hFr, hcl, hFt, hP, hnP⟩ := hrel
    obtain ⟨n, hn⟩ : ∃ n, Hid (n = L.length + c) := ⟨_, hid rfl⟩
    have hlen : (vs ++ List.replicate c (Value.slice none 0 0)).length = n := by rw [List.length_append, List.length_replicate, hvl, hn.out]
    have hnb : n ≤ 30001 := by have := hn.out; omega
    obtain ⟨q, cap, hv2⟩ : ∃ q cap, v2 = .slice q n cap := by
      rcases hFr.row.2 with ⟨e, e2⟩ | ⟨g, cap, cur, e, _⟩
      · exact ⟨none, 0, by rw [e, ← hlen, e2]⟩
      · exact ⟨_, _, by rw [e, hlen]⟩
    subst hv2
    have b0 := hFr.blk.cell 0
    have hFlt := hFr.blk.lt
    simp only [List.getElem?_cons_zero] at b0
    by_cases hlt : n ≤ k
    · obtain ⟨X, hX⟩ : ∃ X, X = wr.alloc (.cells ([.slice none 0 0] : List Value).toArray 32) := ⟨_, rfl⟩
      have hXs : X.heap.size = wr.heap.size + 1 := by rw [hX]; simp
      have hV : Foot (fun _ => False) wr (fun _ => False) X := by rw [hX]; exact Foot.alloc _
      have hrow : X.ownsRow B 32 1 (.slice q n cap) n (vs ++ List.replicate c (.slice none 0 0)) := by rw [hX]; exact own_to (hFr.row.alloc _) hlen rfl
      have hrs := hFr.row.lt
      have hBs : B ≤ wr.heap.size := by have := hFt.size; omega
      obtain ⟨v', W', hrun, hown, hg, hwh⟩ := app_where (P := Tryd.prog) X B 70 70 32 i0 (.slice none 0 0) 1 24 Tryd.underlying70 hi0 hz0 hz1 hz2 rfl (by decide) (.slice q n cap) n _ hrow ⟨wr.heap.size, 0, none⟩ 1 [.slice none 0 0] rfl
        (by rw [hX]; exact cells_new) (fun u hu => by rw [List.mem_singleton.1 hu]; rfl) (by unfold maxLen; omega) (by omega) (by omega)
      have hFb : Blk W' F [.slice q n cap, .int .i64 cnt] 72 := by
        have e := hFr.blk
        unfold Blk at e ⊢
        rw [hg.block F (by omega) (fun e2 => by have := (hrs F e2.symm).1; have := hFr.low; omega), hV.same F hFlt (fun h => h)]
        exact e
      have w0 := hFb.cell 0
      have w1 := hFb.frozen 0
      simp only [List.getElem?_cons_zero] at w0
      obtain ⟨p1, p2⟩ := hFr.push hV hg (own_to hown (by rw [hlen]) rfl) (fun b hb => (hwh b hb).imp id (fun k => by omega))
      rw [pad_more, nil_more] at p1
      rw [nil_more] at p2
      have hPn : Blk (W'.setCell ⟨F, 0, none⟩ v') W.heap.size [.int .i64 x, .int .i64 y] 27 := by
        have e := hP
        unfold Blk at e ⊢
        rw [p2.same _ hP.lt hnP]; exact e
      have hnPn : ¬ Fb F v' (vs ++ List.replicate (c + 1) (.slice none 0 0)) W.heap.size := fun hf => (p2.from_ _ hf).elim hnP (fun hge => by have := hP.lt; omega)
      obtain ⟨g', cap', rfl⟩ : ∃ g' cap', v' = .slice (some ⟨g', 0, none⟩) (n + 1) cap' := by
        rcases hown.2 with ⟨_, e⟩ | ⟨g', cap', cur, e, _⟩
        · omega
        · exact ⟨g', cap', e⟩
      have hFt2 := hFt.trans p2
      clear hown hg hwh hrow hrs hFb hV p2 hP hnP hFt hi0 hz0 hz1 hz2 hj0 hy0 hy1 hy2
      go_wp2_with (at_builtin; rw [← hX]; refine wpList_append_run rfl (.tmp 17) (.tmp 18) 70 rfl _ _ _ W' rfl rfl hrun ?_)
      go_roundw
      case rel => exact ⟨_, c + 1, p1, by have := hn.out; omega, hFt2, hPn, hnPn⟩
      case measure =>
        have e1 : bksAt F (W'.setCell ⟨F, 0, none⟩ (.slice (some ⟨g', 0, none⟩) (n + 1) cap')) = n + 1 := by unfold bksAt; rw [p1.blk.cell 0]; rfl
        have e2 : bksAt F wr = n := by unfold bksAt; rw [b0]
        rw [e1, e2]; omega
    · obtain ⟨Lp, hLp⟩ : ∃ Lp, Lp = padB L k := ⟨_, rfl⟩
      have hpad : L ++ List.replicate c [] = Lp := by
        rw [hLp]; unfold padB
        have := hn.out
        rw [show c = k + 1 - L.length by omega]
      have hvp : ∀ (j : Nat) (u : Value), vs[j]? = some u → (vs ++ List.replicate c (.slice none 0 0))[j]? = some u := fun j u hu => by
        rw [List.getElem?_append_left (List.getElem?_eq_some_iff.1 hu).1]; exact hu
      generalize vs ++ List.replicate c (.slice none 0 0) = vp at *
      rw [hpad] at hFr
      have hkl : k < Lp.length := by rw [← hFr.len, hlen]; omega
      have hkv : k < vp.length := by rw [hlen]; omega
      obtain ⟨u, hu⟩ : ∃ u, vp[k]? = some u := ⟨_, List.getElem?_eq_getElem hkv⟩
      have hbk : (bk Lp k).length ≤ 30000 := by rw [hLp, padB_bk]; exact hb
      have hou := hFr.each k u hu
      obtain ⟨gv, rfl⟩ : ∃ gv, q = some ⟨gv, 0, none⟩ := by
        rcases hFr.row.2 with ⟨_, e2⟩ | ⟨g, cap2, cur, e, _⟩
        · omega
        · injection e with e _ _; exact ⟨g, e⟩
      have hgvl := hFr.row.lt gv rfl
      have hune : u.ownBlock ≠ some gv := fun e => hFr.rowEach hu e rfl
      have hrow := hFr.row
      rw [hlen] at hrow
      have ck := hrow.cellAt k (by omega)
      rw [hu] at ck
      obtain ⟨X, hX⟩ : ∃ X, X = (wr.alloc (.cells [Value.int .i64 x, .int .i64 y].toArray 27)).drew := ⟨_, rfl⟩
      have hXs : X.heap.size = wr.heap.size + 1 := by rw [hX]; simp
      have hV : Foot (fun _ => False) wr (fun _ => False) X := by rw [hX]; exact (Foot.alloc _).trans Foot.drew
      have hoX : X.ownsRow B 27 2 u (bk Lp k).length (pls m (bk Lp k)) := by rw [hX]; exact World.ownsRow.alloc (w := wr) hou _
      have hBs : B ≤ wr.heap.size := by have := hFt.size; omega
      obtain ⟨u', W', hrun, hown, hg, hwh⟩ := app_where (P := Tryd.prog) X B 32 32 27 i1 (.agg #[.int .i64 0, .int .i64 0]) 2 16 Tryd.underlying32 hj0 hy0 hy1 hy2 rfl (by decide) u _ _ hoX ⟨wr.heap.size, 0, none⟩ 1 [.int .i64 x, .int .i64 y] rfl
        (by rw [hX]; exact cells_new (w := wr)) (posCells x y) (by unfold maxLen; omega) (by omega) (by omega)
      have hgW : W'.heap[gv]? = wr.heap[gv]? := (hg.block gv (by omega) (fun e => hune e.symm)).trans (hV.same gv hgvl.2 (fun h => h))
      have ck' : W'.cell? ⟨gv, k, none⟩ = some u := (World.cell?_of_block (w := wr) hgW).trans ck
      have fk' : W'.frozen? ⟨gv, k, none⟩ = false := (World.frozen?_of_block (w := wr) hgW).trans (hrow.frozenAt k)
      have hFb : Blk W' F [.slice (some ⟨gv, 0, none⟩) n cap, .int .i64 cnt] 72 := by
        have e := hFr.blk
        unfold Blk at e ⊢
        rw [hg.block F (by omega) (fun e2 => by have := (hou.lt F e2.symm).1; have := hFr.low; omega), hV.same F hFlt (fun h => h)]
        exact e
      have hPW : Blk W' W.heap.size [.int .i64 x, .int .i64 y] 27 := by
        have e := hP
        have := hP.lt
        unfold Blk at e ⊢
        rw [hg.block W.heap.size (by omega) (fun e2 => hnP (.inr (.inr ⟨u, List.mem_of_getElem? hu, e2.symm⟩))), hV.same _ hP.lt (fun h => h)]
        exact e
      have hown2 := hown
      rw [hx.out, hy.out] at hown2
      obtain ⟨p1, p2⟩ := hFr.put (i := p) hV hkl hu hg hown2 (fun b hb => (hwh b hb).imp id (fun k => by omega)) gv rfl
      obtain ⟨qu, nu, cu, rfl⟩ : ∃ qu nu cu, u = .slice qu nu cu := by
        rcases hou.2 with ⟨e, _⟩ | ⟨g, cap, cur, e, _⟩
        · exact ⟨_, _, _, e⟩
        · exact ⟨_, _, _, e⟩
      obtain ⟨qw, nw, cw, rfl⟩ : ∃ qw nw cw, u' = .slice qw nw cw := by
        rcases hown.2 with ⟨e, _⟩ | ⟨g, cap, cur, e, _⟩
        · exact ⟨_, _, _, e⟩
        · exact ⟨_, _, _, e⟩
      have hset : ∀ (j : Nat) (z : Value), j ≠ k → vp[j]? = some z → (vp.set k (.slice qw nw cw))[j]? = some z := fun j z hj hz => by rw [List.getElem?_set, if_neg (fun e => hj e.symm)]; exact hz
      obtain ⟨c1, c2⟩ := p1.count (cnt + 1)
      have hfin : AddP m B F v vs L cnt W ((W'.setCell ⟨gv, k, none⟩ (.slice qw nw cw)).setCell ⟨F, 1, none⟩ (.int .i64 (cnt + 1))) p k := by
        refine ⟨_, _, ?_, hFt.trans (p2.trans c2), fun j z hj hz => hset j z hj (hvp j z hz)⟩
        rw [hLp] at c1
        exact c1
      have d1 := p1.blk.cell 1
      have d2 := p1.blk.frozen 1
      simp only [List.getElem?_cons_succ, List.getElem?_cons_zero] at d1
      have nrm : IntKind.i64.wrap (cnt + 1) = cnt + 1 := IntWalk.i64_in _ (by omega)
      have kn : (0 : Int) ≤ (k : Int) := by omega
      have kn2 : (k : Int) < (n : Int) := by omega
      have hXeq := hX
      clear hown hown2 hg hwh hoX hV hou hrow hFt p1 p2 c1 c2 hset hvp hi0 hz0 hz1 hz2 hj0 hy0 hy1 hy2 hnP hgW hu hune hgvl
      go_upto_region 3 with fail
      have hmx : Tryd.prog.follows .mixedOrders = true := by kernel_rfl
      refine wp_region_any hmx (wpAny_of_late (lt := (fun x => x == 16)) (S := fun w' => Blk w' F [.slice (some ⟨gv, 0, none⟩) n cap, .int .i64 cnt] 72 ∧ w'.cell? ⟨gv, k, none⟩ = some (.slice qu nu cu) ∧ Blk w' W.heap.size [.int .i64 x, .int .i64 y] 27) _ _ _ _ ?_)
      show wpAnyM _ _ _ _ _ _ _ _ _ wr.drew
      have hS0 : Blk wr.drew F [.slice (some ⟨gv, 0, none⟩) n cap, .int .i64 cnt] 72 ∧ wr.drew.cell? ⟨gv, k, none⟩ = some (.slice qu nu cu) ∧ Blk wr.drew W.heap.size [.int .i64 x, .int .i64 y] 27 := ⟨hFr.blk, ck, hP⟩
      have hS1 : Blk X F [.slice (some ⟨gv, 0, none⟩) n cap, .int .i64 cnt] 72 ∧ X.cell? ⟨gv, k, none⟩ = some (.slice qu nu cu) ∧ Blk X W.heap.size [.int .i64 x, .int .i64 y] 27 := by
        rw [hX]; exact ⟨(Blk.alloc (w := wr) hS0.1 _).drew, (World.cell?_of_block (w := wr) (Below.heap_alloc wr _ gv (World.block_lt_of_cell? wr _ ck))).trans hS0.2.1, (Blk.alloc (w := wr) hS0.2.2 _).drew⟩
      have hS2 : Blk W' F [.slice (some ⟨gv, 0, none⟩) n cap, .int .i64 cnt] 72 ∧ W'.cell? ⟨gv, k, none⟩ = some (.slice qu nu cu) ∧ Blk W' W.heap.size [.int .i64 x, .int .i64 y] 27 := ⟨hFb, ck', hPW⟩
      clear hFr hP hPW hFb
      refine late_tk (lt := (fun x => x == 16)) (i := 0) (v := .pointer (some ⟨F, 0, none⟩)) (some 22) rfl (fun w' hS => by (skip); go_simp) hS0 ?_
      try simp only [Act.put, List.setIfInBounds_toArray, List.set_cons_zero, List.set_cons_succ]
      refine late_tk (lt := (fun x => x == 16)) (i := 1) (v := .pointer (some ⟨F, 0, none⟩)) (some 23) rfl (fun w' hS => by (skip); go_simp) hS0 ?_
      try simp only [Act.put, List.setIfInBounds_toArray, List.set_cons_zero, List.set_cons_succ]
      refine late_tk (lt := (fun x => x == 16)) (i := 2) (v := .pointer (some ⟨F, 0, none⟩)) (some 24) rfl (fun w' hS => by (skip); go_simp) hS0 ?_
      try simp only [Act.put, List.setIfInBounds_toArray, List.set_cons_zero, List.set_cons_succ]
      refine late_tk (lt := (fun x => x == 16)) (i := 3) (v := .slice (some ⟨gv, 0, none⟩) n cap) (some 25) rfl (fun w' hS => by (have q0 := hS.1.cell 0); go_simp) hS0 ?_
      try simp only [Act.put, List.setIfInBounds_toArray, List.set_cons_zero, List.set_cons_succ]
      refine late_tk (lt := (fun x => x == 16)) (i := 4) (v := .int .i64 k) (some 26) rfl (fun w' hS => by (skip); go_simp) hS0 ?_
      try simp only [Act.put, List.setIfInBounds_toArray, List.set_cons_zero, List.set_cons_succ]
      refine late_tk (lt := (fun x => x == 16)) (i := 5) (v := .pointer (some ⟨F, 0, none⟩)) (some 27) rfl (fun w' hS => by (skip); go_simp) hS0 ?_
      try simp only [Act.put, List.setIfInBounds_toArray, List.set_cons_zero, List.set_cons_succ]
      refine late_tk (lt := (fun x => x == 16)) (i := 6) (v := .pointer (some ⟨F, 0, none⟩)) (some 28) rfl (fun w' hS => by (skip); go_simp) hS0 ?_
      try simp only [Act.put, List.setIfInBounds_toArray, List.set_cons_zero, List.set_cons_succ]
      refine late_tk (lt := (fun x => x == 16)) (i := 7) (v := .pointer (some ⟨F, 0, none⟩)) (some 29) rfl (fun w' hS => by (skip); go_simp) hS0 ?_
      try simp only [Act.put, List.setIfInBounds_toArray, List.set_cons_zero, List.set_cons_succ]
      refine late_tk (lt := (fun x => x == 16)) (i := 8) (v := .slice (some ⟨gv, 0, none⟩) n cap) (some 30) rfl (fun w' hS => by (have q0 := hS.1.cell 0); go_simp) hS0 ?_
      try simp only [Act.put, List.setIfInBounds_toArray, List.set_cons_zero, List.set_cons_succ]
      refine late_tk (lt := (fun x => x == 16)) (i := 9) (v := .int .i64 k) (some 31) rfl (fun w' hS => by (skip); go_simp) hS0 ?_
      try simp only [Act.put, List.setIfInBounds_toArray, List.set_cons_zero, List.set_cons_succ]
      refine late_tk (lt := (fun x => x == 16)) (i := 10) (v := .pointer (some ⟨gv, k, none⟩)) (some 32) rfl (fun w' hS => by (skip); go_simp) hS0 ?_
      try simp only [Act.put, List.setIfInBounds_toArray, List.set_cons_zero, List.set_cons_succ]
      refine late_tk (lt := (fun x => x == 16)) (i := 11) (v := .slice qu nu cu) (some 33) rfl (fun w' hS => by (have q1 := hS.2.1); go_simp) hS0 ?_
      try simp only [Act.put, List.setIfInBounds_toArray, List.set_cons_zero, List.set_cons_succ]
      refine late_tk (lt := (fun x => x == 16)) (i := 12) (v := .agg #[.int .i64 x, .int .i64 y]) (some 34) rfl (fun w' hS => by (have q2 := hS.2.2.cell 0; have q3 := hS.2.2.cell 1); go_simp) hS0 ?_
      try simp only [Act.put, List.setIfInBounds_toArray, List.set_cons_zero, List.set_cons_succ]
      refine late_one (i := 13) (by kernel_rfl) rfl (fun K hQ => ?_)
      go_simp
      rw [← hX]
      refine hQ.out _ _ (fun _ => hS1) ?_
      clear hQ
      try simp only [Act.put, List.setIfInBounds_toArray, List.set_cons_zero, List.set_cons_succ]
      refine late_one (i := 14) (by kernel_rfl) rfl (fun K hQ => ?_)
      refine step_app_run rfl (.tmp 33) (.tmp 35) 32 rfl _ _ _ rfl rfl hrun ?_
      refine hQ.out _ _ (fun _ => hS2) ?_
      clear hQ
      try simp only [Act.put, List.setIfInBounds_toArray]
      refine late_tk (lt := (fun x => x == 16)) (i := 15) (v := .pointer (some ⟨gv, k, none⟩)) (some 37) rfl (fun w' hS => by (skip); go_simp) hS2 ?_
      try simp only [Act.put]
      refine late_one (i := 16) (by kernel_rfl) rfl (fun K hQ => ?_)
      go_simp
      refine hQ.out _ _ (fun h => by cases h) ?_
      clear hQ
      try simp only [Act.put, List.setIfInBounds_toArray, List.set_cons_zero, List.set_cons_succ]
      refine late_done (by kernel_rfl) ?_ _
      show Exit.then _ _ Exit.normal _ _
      clear hS0 hS1 hS2
      go_wp2_with fail
      go_end0
      exact ⟨rfl, hfin⟩

end Go.Proofs.YtbdgpldhfemejaaDoor
