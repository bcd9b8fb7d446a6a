/-
  What the functions of astar answer: regions, Path, Reach, Cost.
-/
import Derived.Test.YtmbadkgeoealoaaDoorAsLandQ
namespace Go.Proofs.YtmbadkgeoealoaaDoor

section
open Go.RowKit Go.Lib Go.Shelf

attribute [local go_sem] Oper.semAt_some
def FillP (m : M3) (bl : List Bool) (c : Int) (i rb : Nat) (R0 : List Int) (W w' : World) : Prop := ∃ R, Blk w' rb (ints R) 3 ∧ Fill (nb m bl c) m.cs.length i R0 R [] (fun _ => False) ∧ Foot (fun b => b = rb) W (fun b => b = rb) w'

set_option maxRecDepth 100000 in
set_option maxHeartbeats 8000000 in
theorem asfill_b (m : M3) (s : Value) (bl : List Bool) (l : Value) (c : Int) (i rb n : Nat) (R0 : List Int) (V W : World) (hG : Gd V m s bl l) (hV : Below V.heap.size V W) (hVr : V.heap.size ≤ rb) (hf : formedv m = true) (hi : i < m.cs.length) (hn : Hid (m.cs.length = n))
    (hR : Blk W rb (ints R0) 3) (hRl : R0.length = m.cs.length) (hRi : ga R0 i = -1) :
    Calls Tryd.prog 63 #[.agg #[.int .i64 m.w, .int .i64 m.h, s, l, .int .i64 c], .slice (some ⟨rb, 0, none⟩) n n, .agg #[.int .i64 (posn m i).1, .int .i64 (posn m i).2], .int .i64 i] W fun e w' => e = .returned (.tuple #[]) ∧ FillP m bl c i rb R0 W w' := by
  have hcl := formed_len hf
  have ok := nb_ok hf bl c
  obtain ⟨i1, hj0, hy0, hy1, hy2⟩ := info_cut infoPosA
  have hK := (((((Keep.nil W).alloc [.int .i64 m.w, .int .i64 m.h, s, l, .int .i64 c] 72).alloc [.slice (some ⟨rb, 0, none⟩) n n] 41).alloc [.int .i64 (posn m i).1, .int .i64 (posn m i).2] 27).alloc [.int .i64 i] 3)
  simp only [World.size_alloc] at hK
  obtain ⟨X, hX⟩ : ∃ X, X = ((((W.alloc (.cells [Value.int .i64 m.w, .int .i64 m.h, s, l, .int .i64 c].toArray 72)).alloc (.cells [.slice (some ⟨rb, 0, none⟩) n n].toArray 41)).alloc (.cells [Value.int .i64 (posn m i).1, .int .i64 (posn m i).2].toArray 27)).alloc (.cells [Value.int .i64 i].toArray 3)) := ⟨_, rfl⟩
  have hsz : X.heap.size = W.heap.size + 4 := by rw [hX]; simp
  rw [← hX] at hK
  refine callsIn_wide (n := 9).1 ?_
  refine callsIn_of_wp_marks Tryd.func63 rfl trivial ?_ rfl
  simp only [Tryd.ntmps63, List.size_toArray, List.length_cons, List.length_nil, Nat.reduceAdd, Nat.reduceSub, Array.replicate_succ, Array.replicate_zero, List.push_toArray, List.append_toArray, List.nil_append, List.cons_append]
  have hmx : Tryd.prog.follows .mixedOrders = true := by kernel_rfl
  have ci := fun w => asidx_b m s l c (posn m i) i w hf (idx_posn hf hi).2 (hid (idx_posn hf hi).1.symm)
  have diE : (ints R0)[i]? = some (.int .i64 (-1)) := by rw [ints_at (by rw [hRl]; exact hi), hRi]
  have iN : (i : Int) < (n : Int) := by have := hn.out; omega
  have ip : (0 : Int) ≤ (i : Int) := by omega
  have hW1 : Below W.heap.size W X := hK.old
  obtain ⟨c3, h3⟩ : ∃ c3, c3 = W.heap.size + 1 + 1 + 1 := ⟨_, rfl⟩
  obtain ⟨c2, h2⟩ : ∃ c2, c2 = W.heap.size + 1 + 1 := ⟨_, rfl⟩
  obtain ⟨c1, h1⟩ : ∃ c1, c1 = W.heap.size + 1 := ⟨_, rfl⟩
  obtain ⟨c0, h0⟩ : ∃ c0, c0 = W.heap.size := ⟨_, rfl⟩
  have z0 : Blk X c0 (grdL m s l c) 72 := (hK.blks (W.heap.size, grdL m s l c, 72) (by simp)).at h0.symm
  have z1 : Blk X c1 [.slice (some ⟨rb, 0, none⟩) n n] 41 := (hK.blks (W.heap.size + 1, [.slice (some ⟨rb, 0, none⟩) n n], 41) (by simp)).at h1.symm
  have z2 : Blk X c2 (ptL (posn m i)) 27 := (hK.blks (W.heap.size + 1 + 1, ptL (posn m i), 27) (by simp)).at h2.symm
  have z3 : Blk X c3 [.int .i64 i] 3 := (hK.blks (W.heap.size + 1 + 1 + 1, [.int .i64 i], 3) (by simp)).at h3.symm
  have kk : W.heap.size ≤ c0 ∧ c0 < c1 ∧ c1 < c2 ∧ c2 < c3 ∧ c3 < X.heap.size := by omega
  have hrbl := hR.lt
  refine wpIn_seq ?_
  gi_wp2
  rw [← hX, ← h3, ← h2, ← h1, ← h0]
  clear hX hsz h0 h1 h2 h3 hK
  refine wide_region (wp_onlyN (wp_region_any hmx (wpAny_of_late (lt := (fun x => x == 6)) (S := fun w' => Below X.heap.size X w') _ _ _ _ ?_)))
  show wpAnyM _ _ _ _ _ _ _ _ _ X.drew
  have hS0 := (Below.refl X.heap.size X).drew
  refine late_tk (lt := (fun x => x == 6)) (i := 0) (v := .slice (some ⟨rb, 0, none⟩) n n) (some 12) rfl (fun w' hS => by (have q0 := (z1.below hS).cell 0); go_simp) hS0 ?_
  try simp only [Act.put, List.setIfInBounds_toArray, List.set_cons_zero, List.set_cons_succ]
  refine late_tk (lt := (fun x => x == 6)) (i := 1) (v := .agg #[.int .i64 m.w, .int .i64 m.h, s, l, .int .i64 c]) (some 13) rfl (fun w' hS => by (have q0 := (z0.below hS).cell 0; have q1 := (z0.below hS).cell 1; have q2 := (z0.below hS).cell 2; have q3 := (z0.below hS).cell 3; have q4 := (z0.below hS).cell 4); go_simp) hS0 ?_
  try simp only [Act.put, List.setIfInBounds_toArray, List.set_cons_zero, List.set_cons_succ]
  refine late_tk (lt := (fun x => x == 6)) (i := 2) (v := .agg #[.int .i64 (posn m i).1, .int .i64 (posn m i).2]) (some 14) rfl (fun w' hS => by (have q0 := (z2.below hS).cell 0; have q1 := (z2.below hS).cell 1); go_simp) hS0 ?_
  try simp only [Act.put, List.setIfInBounds_toArray, List.set_cons_zero, List.set_cons_succ]
  refine late_tk (lt := (fun x => x == 6)) (i := 4) (v := .int .i64 i) (some 16) rfl (fun w' hS => by (have q0 := (z3.below hS).cell 0); go_simp) hS0 ?_
  try simp only [Act.put, List.setIfInBounds_toArray, List.set_cons_zero, List.set_cons_succ]
  refine late_one (i := 3) (by kernel_rfl) rfl (fun K hQ => ?_)
  go_simp
  ((with_reducible refine (ci _).mono ?_); rintro e w1 ⟨rfl, hb1⟩)
  have hS1 := below_call hS0 hb1
  clear hb1
  refine hQ.out _ _ (fun _ => hS1) ?_
  clear hQ
  try simp only [Act.put, List.setIfInBounds_toArray, List.set_cons_zero, List.set_cons_succ]
  refine late_tk (lt := (fun x => x == 6)) (i := 5) (v := .pointer (some ⟨rb, i, none⟩)) (some 17) rfl (fun w' hS => by (skip); go_simp) hS1 ?_
  try simp only [Act.put, List.setIfInBounds_toArray, List.set_cons_zero, List.set_cons_succ]
  have qc := (hR.below hW1).below hS1
  have qc0 := qc.cell i
  rw [diE] at qc0
  have qf := qc.frozen i
  refine late_one (i := 6) (by kernel_rfl) rfl (fun K hQ => ?_)
  go_simp
  refine hQ.out _ _ (fun h => by cases h) ?_
  clear hQ
  try simp only [Act.put, List.setIfInBounds_toArray, List.set_cons_zero, List.set_cons_succ]
  refine late_done (by kernel_rfl) ?_ _
  simp only [onlyN]
  have hrb0 : rb < W.heap.size := hrbl
  have fst := Fill.start (nb := nb m bl c) hRl hi hRi
  have t0 : Blk (w1.setCell ⟨rb, i, none⟩ (.int .i64 i)) c0 (grdL m s l c) 72 := (z0.below hS1).far _ (by omega)
  have t1 : Blk (w1.setCell ⟨rb, i, none⟩ (.int .i64 i)) c1 [.slice (some ⟨rb, 0, none⟩) n n] 41 := (z1.below hS1).far _ (by omega)
  have t2 : Blk (w1.setCell ⟨rb, i, none⟩ (.int .i64 i)) c2 (ptL (posn m i)) 27 := (z2.below hS1).far _ (by omega)
  have t3 : Blk (w1.setCell ⟨rb, i, none⟩ (.int .i64 i)) c3 [.int .i64 i] 3 := (z3.below hS1).far _ (by omega)
  have tR : Blk (w1.setCell ⟨rb, i, none⟩ (.int .i64 i)) rb (ints (R0.set i i)) 3 := by rw [← ints_set]; exact qc.set i _
  have tW : Foot (fun b => b = rb) W (fun b => b = rb) (w1.setCell ⟨rb, i, none⟩ (.int .i64 i)) := (Foot.of_below (below_call hW1 hS1)).trans (Foot.set ⟨rb, i, none⟩ _ rfl)
  have ts : X.heap.size ≤ (w1.setCell ⟨rb, i, none⟩ (.int .i64 i)).heap.size := by have := hS1.size; simp [World.setCell]; omega
  generalize w1.setCell ⟨rb, i, none⟩ (.int .i64 i) = T at *
  clear hS0 hS1 z0 z1 z2 z3 qc qc0 qf hW1 ci diE hR
  have p0 := t2.cell 0
  have p1 := t2.cell 1
  simp only [List.getElem?_cons_zero, List.getElem?_cons_succ] at p0 p1
  gi_wp2
  have g1 := (Below.refl T.heap.size T).alloc (Nat.le_refl _) (.cells [Value.int .i64 (posn m i).1, .int .i64 (posn m i).2].toArray 27)
  have o1 : (T.alloc (.cells [Value.int .i64 (posn m i).1, .int .i64 (posn m i).2].toArray 27)).ownsRow T.heap.size 27 2 (.slice (some ⟨T.heap.size, 0, none⟩) 1 1) 1 [.int .i64 (posn m i).1, .int .i64 (posn m i).2] := World.ownsRow_lit T _ 1 (Nat.le_refl _) (by unfold maxLen; omega) rfl
  have g2 := (Below.refl (T.alloc (.cells [Value.int .i64 (posn m i).1, .int .i64 (posn m i).2].toArray 27)).heap.size _).alloc (Nat.le_refl _) (.cells [Value.slice (some ⟨T.heap.size, 0, none⟩) 1 1].toArray 32)
  have o2 := Blk.new (T.alloc (.cells [Value.int .i64 (posn m i).1, .int .i64 (posn m i).2].toArray 27)) [Value.slice (some ⟨T.heap.size, 0, none⟩) 1 1] 32
  replace o1 := own_below o1 g2
  rw [World.size_alloc] at o2
  have g3 := below_call g1 g2
  generalize (T.alloc (.cells [Value.int .i64 (posn m i).1, .int .i64 (posn m i).2].toArray 27)).alloc (.cells [Value.slice (some ⟨T.heap.size, 0, none⟩) 1 1].toArray 32) = X2 at *
  have s0 := t0.below g3
  have s1 := t1.below g3
  have s2 := t2.below g3
  have s3 := t3.below g3
  have sR := tR.below g3
  have hWX2 := tW.trans (Foot.of_below g3)
  obtain ⟨b8, hb8⟩ : ∃ b8, b8 = T.heap.size + 1 := ⟨_, rfl⟩
  rw [← hb8] at o2 ⊢
  have k8 : T.heap.size < b8 := by omega
  have hrT : rb < T.heap.size := tR.lt
  have hX2b : b8 < X2.heap.size := o2.lt
  clear hb8 g1 g2 g3 t0 t1 t2 t3 tR tW p0 p1
  generalize T.heap.size = B at *
  have st0 : FillS X2 m bl c i rb b8 B R0 (.slice (some ⟨B, 0, none⟩) 1 1) [i] (R0.set i i) (fun _ => False) := ⟨o2, o1, sR, fst⟩
  clear o1 o2 sR fst
  have hsum0 : cM1 (R0.set i i) + [i].length ≤ 1024 := by
    have h1 := cM1_set (R := R0) (i := i) (v := i) (by omega) hRi (by omega)
    have h2 : cM1 R0 ≤ R0.length := List.countP_le_length
    simp only [List.length_singleton]
    omega
  generalize hv0 : Value.slice (some ⟨B, 0, none⟩) 1 1 = v0 at *
  have hv0b : ∀ b, v0.ownBlock = some b → b = B := fun b hb => by rw [← hv0] at hb; simp [Value.ownBlock] at hb; exact hb.symm
  clear hv0
  refine wpIn_loop (fun a' w' => ∃ (u : Nat → Value) (ds : List Nat) (v : Value) (F : List Nat) (R : List Int), a' = { tmps := #[.agg #[.int .i64 m.w, .int .i64 m.h, s, l, .int .i64 c], .slice (some ⟨rb, 0, none⟩) n n, .agg #[.int .i64 (posn m i).1, .int .i64 (posn m i).2], .int .i64 i, .pointer (some ⟨c0, 0, none⟩), .pointer (some ⟨c1, 0, none⟩), .pointer (some ⟨c2, 0, none⟩), .pointer (some ⟨c3, 0, none⟩), .pointer (some ⟨b8, 0, none⟩), u 9, u 10, u 11, u 12, u 13, u 14, u 15, u 16, u 17, u 18, u 19, u 20, u 21, u 22, u 23, u 24, u 25, u 26, u 27, u 28, u 29, u 30, u 31, u 32, u 33, u 34, u 35, u 36, u 37, u 38, u 39, u 40, u 41, u 42, u 43, u 44, u 45, u 46, u 47, u 48, u 49, u 50, u 51, u 52, u 53], defers := marks ds } ∧ FillS w' m bl c i rb b8 B R0 v F R (fun _ => False) ∧ Foot (Fx rb b8 c2 v0) X2 (Fx rb b8 c2 v) w' ∧ cM1 R + F.length ≤ 1024 ∧ (∃ x y, Blk w' c2 [x, y] 27) ∧ ds.Nodup ∧ ∀ D ∈ ds, X2.heap.size ≤ D ∧ w'.heap[D]? = some (.deferred (some []))) (fun _ w' => fillMu rb b8 w') ?start ?round
  case start =>
    refine ⟨fun j => match j with | 12 => .slice (some ⟨rb, 0, none⟩) n n | 13 => .agg #[.int .i64 m.w, .int .i64 m.h, s, l, .int .i64 c] | 14 => .agg #[.int .i64 (posn m i).1, .int .i64 (posn m i).2] | 15 => .int .i64 i | 16 => .int .i64 i | 17 => .pointer (some ⟨rb, i, none⟩) | 18 => .agg #[.int .i64 (posn m i).1, .int .i64 (posn m i).2] | 19 => v0 | _ => undef, [], v0, [i], _, rfl, st0, Foot.refl _ _, hsum0, ⟨_, _, s2⟩, List.nodup_nil, fun D hD => by simp at hD⟩
  case round =>
    rintro a' wr ⟨u, ds, v, F, R, rfl, hS, hFt, hsum, ⟨x2, y2, hp⟩, hnd, hds⟩
    clear st0
    have hmu := hS.mu
    have nfx : ∀ b, b < B → b ≠ rb → b ≠ c2 → ¬ Fx rb b8 c2 v0 b := fun b h1 h2 h3 h => by
      rcases h with h | h | h | h
      · exact h2 h
      · omega
      · exact h3 h
      · have := hv0b b h; omega
    have y0 := hFt.blk s0 (nfx _ (by omega) (by omega) (by omega))
    have y1 := hFt.blk s1 (nfx _ (by omega) (by omega) (by omega))
    have y3 := hFt.blk s3 (nfx _ (by omega) (by omega) (by omega))
    have hFs := hFt.size
    obtain ⟨nF, hnF⟩ : ∃ nF, Hid (nF = F.length) := ⟨_, hid rfl⟩
    obtain ⟨q, cap, hve⟩ : ∃ q cap, v = .slice q nF cap := by
      rcases hS.row.2 with ⟨e, e2⟩ | ⟨g, cap, cur, e, _⟩
      · exact ⟨none, 0, by rw [e, hnF.out, e2]⟩
      · exact ⟨_, _, by rw [e, hnF.out]⟩
    subst hve
    have d0 := hS.box.cell 0
    simp only [List.getElem?_cons_zero] at d0
    have hFl : F.length ≤ 1024 := by omega
    have hnFl : nF ≤ 1024 := by rw [hnF.out]; exact hFl
    rcases List.eq_nil_or_concat F with hF | ⟨F', p, hF⟩
    · have hnF0 : nF = 0 := by rw [hnF.out, hF]; rfl
      subst hnF0
      have hfin : ∀ w', CSame X2.heap.size wr w' → FillP m bl c i rb R0 W w' := fun w' hc => by
        have hfil := hS.fil
        rw [hF] at hfil
        have hWs := hWX2.size
        refine ⟨R, hc.same rb _ hS.reg rfl, hfil, ⟨?_, ?_, ?_, ?_, fun b hb hne => ?_, fun b hb => .inl hb⟩⟩
        · exact hc.old.os.trans (hFt.os.trans hWX2.os)
        · exact hc.old.tape.trans (hFt.tape.trans hWX2.tape)
        · exact hc.old.output.trans (hFt.output.trans hWX2.output)
        · have := hc.old.size; omega
        · rw [hc.old.block b (by omega), hFt.same b (by omega) (fun h => ?_), hWX2.same b hb hne]
          rcases h with h | h | h | h
          · exact hne h
          · omega
          · omega
          · have := hv0b b h; omega
      clear hS hFt hWX2 hsum hmu
      gi_wp2
      exact leaves_marks (B := X2.heap.size) (.tuple #[]) (fun w => results_none rfl _ _ _) ds wr hnd hds (fun w' hc => ⟨rfl, hfin w' hc⟩)
    · rw [List.concat_eq_append] at hF
      obtain ⟨k, hkkH⟩ : ∃ k, Hid (k = F'.length) := ⟨_, hid rfl⟩
      have hkk := hkkH.out
      have hnkH : Hid (nF = k + 1) := hid (by rw [hnF.out, hF, hkk]; simp)
      have hnk := hnkH.out
      obtain ⟨gq, hq⟩ : ∃ gq, q = some ⟨gq, 0, none⟩ := by
        rcases hS.row.2 with ⟨e, e2⟩ | ⟨g, cap2, cur, e, _⟩
        · rw [← hnF.out] at e2; omega
        · injection e with e _ _; exact ⟨g, e⟩
      subst hq
      subst hF
      have hrow := hS.row
      rw [← hnF.out] at hrow
      have hgB := (hrow.lt gq rfl).1
      have hgl := (hrow.lt gq rfl).2
      have hpl := pls_last m F' p
      rw [← hkk] at hpl
      have pc0 := (hrow.cellAt (k * 2) (by omega)).trans hpl.1
      have pc1 := (hrow.cellAt (k * 2 + 1) (by omega)).trans hpl.2
      have hpop : wr.ownsRow B 27 2 (.slice (some ⟨gq, 0, none⟩) k cap) k (pls m F') := by
        rw [hnk, ← pls_snoc] at hrow
        exact ownsRow_pop (by rw [pls_len, hkk]) hrow
      have hgb8 : gq ≠ b8 := fun e => own_ne hrow hS.box (by decide) (by rw [e]; rfl)
      have hgc2 : gq ≠ c2 := by omega
      have hrb8 : rb ≠ b8 := by omega
      have hrc2 : rb ≠ c2 := by omega
      have hc28 : c2 ≠ b8 := by omega
      obtain ⟨hfp, hfpi, hfp0⟩ := hS.fil.pop
      have hpn : p < m.cs.length := by have := ga_lt (D := R) (q := p) (by omega); rw [hS.fil.len] at this; exact this
      have hsub : IntKind.i64.wrap ((nF : Int) - 1) = (k : Int) := by rw [hnk, IntWalk.i64_in _ (by push_cast; omega)]; push_cast; omega
      have hgt : decide ((0 : Int) < (nF : Int)) = true := decide_eq_true (by omega)
      have kp : (0 : Int) ≤ (k : Int) := by omega
      have kn : (k : Int) < (nF : Int) := by omega
      have kc : (k : Int) ≤ (cap : Int) := by
        have := hrow.2
        rcases this with ⟨e, _⟩ | ⟨g, cap2, cur, e, _, _, h5, _⟩
        · cases e
        · injection e with _ _ e; omega
      have hp4 := hp.two
      have hbx := hS.box
      have hreg := hS.reg
      have d8 := hbx.cell 0
      have e8 := hbx.frozen 0
      simp only [List.getElem?_cons_zero] at d8
      have kcn : ¬ cap < k := by omega
      clear hpl hkk hnk
      gi_wp2
      refine wide_region (wp_onlyN (wp_region_any hmx (wpAny_of_late (lt := (fun x => x == 8)) (S := fun w' => Blk w' b8 [.slice (some ⟨gq, 0, none⟩) nF cap] 32 ∧ w'.cell? ⟨gq, k * 2, none⟩ = some (.int .i64 (posn m p).1) ∧ w'.cell? ⟨gq, k * 2 + 1, none⟩ = some (.int .i64 (posn m p).2) ∧ ∃ x y, Blk w' c2 [x, y] 27) _ _ _ _ ?_)))
      show wpAnyM _ _ _ _ _ _ _ _ _ wr.drew
      have hS0 : Blk wr.drew b8 [.slice (some ⟨gq, 0, none⟩) nF cap] 32 ∧ wr.drew.cell? ⟨gq, k * 2, none⟩ = some (.int .i64 (posn m p).1) ∧ wr.drew.cell? ⟨gq, k * 2 + 1, none⟩ = some (.int .i64 (posn m p).2) ∧ ∃ x y, Blk wr.drew c2 [x, y] 27 := ⟨hbx, pc0, pc1, _, _, hp⟩
      have pc2 : (wr.drew.setCell ⟨c2, 0, none⟩ (.int .i64 (posn m p).1)).setCell ⟨c2, 1, none⟩ (.int .i64 (posn m p).2) = (wr.drew.setCell ⟨c2, 0, none⟩ (.int .i64 (posn m p).1)).setCell ⟨c2, 1, none⟩ (.int .i64 (posn m p).2) := rfl
      have hpd : Blk wr.drew c2 [x2, y2] 27 := hp
      obtain ⟨_, _, _, _⟩ := hpd.two
      have g5 : ((wr.drew.setCell ⟨c2, 0, none⟩ (.int .i64 (posn m p).1)).setCell ⟨c2, 1, none⟩ (.int .i64 (posn m p).2)).heap[gq]? = wr.heap[gq]? := (Below.heap_setCell _ ⟨c2, 1, none⟩ _ gq hgc2).trans (Below.heap_setCell _ ⟨c2, 0, none⟩ _ gq hgc2)
      have hS1 : Blk ((wr.drew.setCell ⟨c2, 0, none⟩ (.int .i64 (posn m p).1)).setCell ⟨c2, 1, none⟩ (.int .i64 (posn m p).2)) b8 [.slice (some ⟨gq, 0, none⟩) nF cap] 32 ∧ ((wr.drew.setCell ⟨c2, 0, none⟩ (.int .i64 (posn m p).1)).setCell ⟨c2, 1, none⟩ (.int .i64 (posn m p).2)).cell? ⟨gq, k * 2, none⟩ = some (.int .i64 (posn m p).1) ∧ ((wr.drew.setCell ⟨c2, 0, none⟩ (.int .i64 (posn m p).1)).setCell ⟨c2, 1, none⟩ (.int .i64 (posn m p).2)).cell? ⟨gq, k * 2 + 1, none⟩ = some (.int .i64 (posn m p).2) ∧ ∃ x y, Blk ((wr.drew.setCell ⟨c2, 0, none⟩ (.int .i64 (posn m p).1)).setCell ⟨c2, 1, none⟩ (.int .i64 (posn m p).2)) c2 [x, y] 27 :=
        ⟨(Blk.far (w := wr.drew) hbx _ (fun e => hc28 e.symm)).far _ (fun e => hc28 e.symm), (World.cell?_of_block (w := wr) g5).trans pc0, (World.cell?_of_block (w := wr) g5).trans pc1, _, _, hpd.put2 _ _⟩
      have hSk := hS
      clear hS
      refine late_tk (lt := (fun x => x == 8)) (i := 0) (v := .slice (some ⟨gq, 0, none⟩) nF cap) (some 26) rfl (fun w' hS => by (have q0 := hS.1.cell 0); go_simp) hS0 ?_
      try simp only [Act.put, List.setIfInBounds_toArray, List.set_cons_zero, List.set_cons_succ]
      refine late_tk (lt := (fun x => x == 8)) (i := 1) (v := .int .i64 k) (some 27) rfl (fun w' hS => by (skip); go_simp) hS0 ?_
      try simp only [Act.put, List.setIfInBounds_toArray, List.set_cons_zero, List.set_cons_succ]
      refine late_tk (lt := (fun x => x == 8)) (i := 2) (v := .pointer (some ⟨gq, k * 2, none⟩)) (some 28) rfl (fun w' hS => by (skip); go_simp) hS0 ?_
      try simp only [Act.put, List.setIfInBounds_toArray, List.set_cons_zero, List.set_cons_succ]
      refine late_tk (lt := (fun x => x == 8)) (i := 3) (v := .agg #[.int .i64 (posn m p).1, .int .i64 (posn m p).2]) (some 29) rfl (fun w' hS => by (have q0 := hS.2.1; have q1 := hS.2.2.1); go_simp) hS0 ?_
      try simp only [Act.put, List.setIfInBounds_toArray, List.set_cons_zero, List.set_cons_succ]
      refine late_tk (lt := (fun x => x == 8)) (i := 4) (v := .slice (some ⟨gq, 0, none⟩) nF cap) (some 30) rfl (fun w' hS => by (have q0 := hS.1.cell 0); go_simp) hS0 ?_
      try simp only [Act.put, List.setIfInBounds_toArray, List.set_cons_zero, List.set_cons_succ]
      refine late_tk (lt := (fun x => x == 8)) (i := 5) (v := .int .i64 k) (some 31) rfl (fun w' hS => by (skip); go_simp) hS0 ?_
      try simp only [Act.put, List.setIfInBounds_toArray, List.set_cons_zero, List.set_cons_succ]
      refine late_tk (lt := (fun x => x == 8)) (i := 6) (v := .slice (some ⟨gq, 0, none⟩) k cap) (some 32) rfl (fun w' hS => by (skip); go_simp) hS0 ?_
      try simp only [Act.put, List.setIfInBounds_toArray, List.set_cons_zero, List.set_cons_succ]
      refine late_one (i := 7) (by kernel_rfl) rfl (fun K hQ => ?_)
      go_simp
      refine hQ.out _ _ (fun _ => hS1) ?_
      clear hQ
      try simp only [Act.put, List.setIfInBounds_toArray, List.set_cons_zero, List.set_cons_succ]
      refine late_one (i := 8) (by kernel_rfl) rfl (fun K hQ => ?_)
      go_simp
      refine hQ.out _ _ (fun h => by cases h) ?_
      clear hQ
      try simp only [Act.put, List.setIfInBounds_toArray, List.set_cons_zero, List.set_cons_succ]
      refine late_done (by kernel_rfl) ?_ _
      simp only [onlyN]
      have hF5 : Foot (Fx rb b8 c2 (.slice (some ⟨gq, 0, none⟩) nF cap)) wr (Fx rb b8 c2 (.slice (some ⟨gq, 0, none⟩) k cap)) (((wr.setCell ⟨c2, 0, none⟩ (.int .i64 (posn m p).1)).setCell ⟨c2, 1, none⟩ (.int .i64 (posn m p).2)).setCell ⟨b8, 0, none⟩ (.slice (some ⟨gq, 0, none⟩) k cap)).drew :=
        (Foot.set (A := Fx rb b8 c2 (.slice (some ⟨gq, 0, none⟩) nF cap)) ⟨c2, 0, none⟩ _ (.inr (.inr (.inl rfl)))).trans ((Foot.set (A := Fx rb b8 c2 (.slice (some ⟨gq, 0, none⟩) nF cap)) ⟨c2, 1, none⟩ _ (.inr (.inr (.inl rfl)))).trans ((Foot.set (A := Fx rb b8 c2 (.slice (some ⟨gq, 0, none⟩) nF cap)) ⟨b8, 0, none⟩ _ (.inr (.inl rfl))).trans (Foot.drew (A := Fx rb b8 c2 (.slice (some ⟨gq, 0, none⟩) nF cap)))))
      have hds5 := fun D hD => (hSk.keeps hp hF5 0).same D _ (Nat.zero_le _) (hds D hD).2 rfl
      have box5 := (Blk.set (Blk.far (w := _) (Blk.far (w := wr) hbx (c := c2) (i := 0) (.int .i64 (posn m p).1) (fun e => hc28 e.symm)) (c := c2) (i := 1) (.int .i64 (posn m p).2) (fun e => hc28 e.symm)) 0 (.slice (some ⟨gq, 0, none⟩) k cap)).drew
      have reg5 := (Blk.far (w := _) (Blk.far (w := _) (Blk.far (w := wr) hreg (c := c2) (i := 0) (.int .i64 (posn m p).1) hrc2) (c := c2) (i := 1) (.int .i64 (posn m p).2) hrc2) (c := b8) (i := 0) (.slice (some ⟨gq, 0, none⟩) k cap) hrb8).drew
      have z2 := (Blk.far (w := _) (Blk.put2 (W := wr) hp (.int .i64 (posn m p).1) (.int .i64 (posn m p).2)) (c := b8) (i := 0) (.slice (some ⟨gq, 0, none⟩) k cap) hc28).drew
      have z0 := (Blk.far (w := _) (Blk.far (w := _) (Blk.far (w := wr) y0 (c := c2) (i := 0) (.int .i64 (posn m p).1) (by omega)) (c := c2) (i := 1) (.int .i64 (posn m p).2) (by omega)) (c := b8) (i := 0) (.slice (some ⟨gq, 0, none⟩) k cap) (by omega)).drew
      have z1 := (Blk.far (w := _) (Blk.far (w := _) (Blk.far (w := wr) y1 (c := c2) (i := 0) (.int .i64 (posn m p).1) (by omega)) (c := c2) (i := 1) (.int .i64 (posn m p).2) (by omega)) (c := b8) (i := 0) (.slice (some ⟨gq, 0, none⟩) k cap) (by omega)).drew
      have z3 := (Blk.far (w := _) (Blk.far (w := _) (Blk.far (w := wr) y3 (c := c2) (i := 0) (.int .i64 (posn m p).1) (by omega)) (c := c2) (i := 1) (.int .i64 (posn m p).2) (by omega)) (c := b8) (i := 0) (.slice (some ⟨gq, 0, none⟩) k cap) (by omega)).drew
      have row5 : ((((wr.setCell ⟨c2, 0, none⟩ (.int .i64 (posn m p).1)).setCell ⟨c2, 1, none⟩ (.int .i64 (posn m p).2)).setCell ⟨b8, 0, none⟩ (.slice (some ⟨gq, 0, none⟩) k cap)).drew).ownsRow B 27 2 (.slice (some ⟨gq, 0, none⟩) k cap) k (pls m F') := own_same2 hpop fun b hb => by
        have hgb : gq = b := by simpa [Value.ownBlock] using hb
        subst hgb
        exact (Below.heap_setCell _ ⟨b8, 0, none⟩ _ gq hgb8).trans ((Below.heap_setCell _ ⟨c2, 1, none⟩ _ gq hgc2).trans (Below.heap_setCell wr ⟨c2, 0, none⟩ _ gq hgc2))
      clear hS0 hS1 hpd hp4 hp d8 e8 hbx hreg y0 y1 y3 hpop g5 pc2 pc0 pc1 hsub hgt kp kn kc kcn
      generalize (((wr.setCell ⟨c2, 0, none⟩ (.int .i64 (posn m p).1)).setCell ⟨c2, 1, none⟩ (.int .i64 (posn m p).2)).setCell ⟨b8, 0, none⟩ (.slice (some ⟨gq, 0, none⟩) k cap)).drew = W5 at *
      have hSW : FillS W5 m bl c i rb b8 B R0 (.slice (some ⟨gq, 0, none⟩) k cap) F' R (fun q => q = p) := ⟨box5, by rw [← hkkH.out]; exact row5, reg5, hfp⟩
      clear box5 row5 reg5
      have hF5s := hF5.size
      have c00 := z0.cell 0
      have c01 := z0.cell 1
      have c02 := z0.cell 2
      have c03 := z0.cell 3
      have c04 := z0.cell 4
      have c20 := z2.cell 0
      have c21 := z2.cell 1
      simp only [List.getElem?_cons_zero, List.getElem?_cons_succ] at c00 c01 c02 c03 c04 c20 c21
      gi_wp2
      refine ⟨trivial, ?_⟩
      ((with_reducible refine (callsIn_wide (n := 8).2 (assteps_b m s l c (posn m p).1 (posn m p).2 W5)).mono ?_); rintro e1 w1 ⟨rfl, rfl⟩)
      have hK2 := (((Keep.nil W5).alloc [.int .i64 m.w, .int .i64 m.h, s, l, .int .i64 c] 72).alloc [.int .i64 (posn m p).1, .int .i64 (posn m p).2] 27)
      simp only [World.size_alloc] at hK2
      obtain ⟨Y, hY⟩ : ∃ Y, Y = (W5.alloc (.cells [Value.int .i64 m.w, .int .i64 m.h, s, l, .int .i64 c].toArray 72)).alloc (.cells [Value.int .i64 (posn m p).1, .int .i64 (posn m p).2].toArray 27) := ⟨_, rfl⟩
      have hsY : Y.heap.size = W5.heap.size + 2 := by rw [hY]; simp
      rw [← hY] at hK2 ⊢
      clear hY c00 c01 c02 c03 c04 c20 c21
      gi_wp2
      obtain ⟨g4, h4⟩ : ∃ g4, g4 = W5.heap.size := ⟨_, rfl⟩
      have bG : Blk Y g4 (grdL m s l c) 72 := (hK2.blks (W5.heap.size, grdL m s l c, 72) (by simp)).at (by omega)
      have bP : Blk Y (g4 + 1) (ptL (posn m p)) 27 := (hK2.blks (W5.heap.size + 1, ptL (posn m p), 27) (by simp)).at (by omega)
      have hYb := hK2.old
      clear hK2
      rw [← h4]
      have hSY := hSW.below hYb
      have hVW5 : Below V.heap.size V W5 := by
        have hx := (hWX2.trans (Foot.refl _ _)).below (B := V.heap.size) (fun b hb => by rw [hb]; exact hVr) hV.size
        have hx2 := hFt.below (B := V.heap.size) (fun b hb => by
          rcases hb with h | h | h | h
          · omega
          · omega
          · omega
          · have := hv0b b h; omega) (by have := hV.size; omega)
        have hx3 := hF5.below (B := V.heap.size) (fun b hb => by
          rcases hb with h | h | h | h
          · omega
          · omega
          · omega
          · have hgb : gq = b := by simpa [Value.ownBlock] using h
            omega) (by have := hV.size; omega)
        exact hV.trans (hx.trans (hx2.trans hx3))
      have hVs := hVW5.size
      have hVY := hVW5.trans (hYb.mono hVs)
      have hdsY : ∀ D, D ∈ ds → D < W5.heap.size ∧ Y.heap[D]? = some (.deferred (some [])) := fun D hD => by
        have h1 := hds5 D hD
        have h2 := (Array.getElem?_eq_some_iff.1 h1).1
        exact ⟨h2, (hYb.block D h2).trans h1⟩
      have nfk : ∀ b, W.heap.size ≤ b → b < B → ¬ Fx rb b8 rb (.slice (some ⟨gq, 0, none⟩) k cap) b := fun b h1 h2 h => by
        rcases h with h | h | h | h
        · omega
        · omega
        · omega
        · have hgb : gq = b := by simpa [Value.ownBlock] using h
          omega
      have q0 := z0.below hYb
      have q1 := z1.below hYb
      have q2 := z2.below hYb
      have q3 := z3.below hYb
      have hI0 : FillI m bl c i rb b8 B R0 R k p (.slice (some ⟨gq, 0, none⟩) k cap) ds Y [] Y := ⟨_, F', R, hSY, Foot.refl _ _, by rw [hkkH.out], Nat.le_refl _, fun y hy => by simp at hy, hfpi, fun D hD => (hdsY D hD).2⟩
      have k4 : W5.heap.size ≤ g4 ∧ g4 + 1 < Y.heap.size := by omega
      have kY : W5.heap.size ≤ Y.heap.size := by omega
      clear z0 z1 z2 z3 hds5 hSY h4 hsY
      refine wpIn_rangeFunc_ownH (α := Stp m bl c (posn m p)) rfl (by omega) (gf := 123) (lb := #[.pointer (some ⟨g4, 0, none⟩), .pointer (some ⟨g4 + 1, 0, none⟩)]) rfl trivial (enters_of Tryd.func123 (by kernel_rfl) rfl)
        (assteps_stops m s bl l c (posn m p) V Y g4 8 hG hVY bG bP) KpS.trans (KpS.turn (by omega) (by omega)) (Below.refl _ _) (fun _ => rfl)
        (fun pre Z => FillI m bl c i rb b8 B R0 R k p (.slice (some ⟨gq, 0, none⟩) k cap) ds Y (idxs m pre) Z) (fun _ _ _ => False)
        ?hI (fun _ _ _ _ _ hs _ _ => hs) hI0 (fun x a' Z => ∃ Bq, Y.heap.size ≤ Bq ∧ Blk Z Bq (ptL x.1.1) 27 ∧ a' = { tmps := #[.agg #[.int .i64 m.w, .int .i64 m.h, s, l, .int .i64 c], .slice (some ⟨rb, 0, none⟩) n n, .agg #[.int .i64 (posn m i).1, .int .i64 (posn m i).2], .int .i64 i, .pointer (some ⟨c0, 0, none⟩), .pointer (some ⟨c1, 0, none⟩), .pointer (some ⟨c2, 0, none⟩), .pointer (some ⟨c3, 0, none⟩), .pointer (some ⟨b8, 0, none⟩), .int .i64 k, .pointer (some ⟨Bq, 0, none⟩), u 11, u 12, u 13, u 14, u 15, u 16, u 17, u 18, u 19, .slice (some ⟨gq, 0, none⟩) nF cap, .int .i64 nF, .bool true, .slice (some ⟨gq, 0, none⟩) nF cap, .int .i64 nF, .int .i64 k, .slice (some ⟨gq, 0, none⟩) nF cap, .int .i64 k, .pointer (some ⟨gq, k * 2, none⟩), .agg #[.int .i64 (posn m p).1, .int .i64 (posn m p).2], .slice (some ⟨gq, 0, none⟩) nF cap, .int .i64 k, .slice (some ⟨gq, 0, none⟩) k cap, .agg #[.int .i64 m.w, .int .i64 m.h, s, l, .int .i64 c], .agg #[.int .i64 (posn m p).1, .int .i64 (posn m p).2], .func (.func 123) #[] #[.pointer (some ⟨g4, 0, none⟩), .pointer (some ⟨g4 + 1, 0, none⟩)], .agg #[.int .i64 x.1.1.1, .int .i64 x.1.1.2], .int .i64 x.1.2, u 38, u 39, u 40, u 41, u 42, u 43, u 44, u 45, u 46, u 47, u 48, u 49, u 50, u 51, u 52, u 53], defers := [] }) ?hAx ?assign ?body ?done (fun _ _ _ _ _ _ h _ => h.elim)
      case hI =>
        rintro pre A1 B1 row ⟨v', F2, R2, u1, u2, u3, u4, u5, u6, u7⟩ hg hr
        refine ⟨v', F2, R2, u1.turn hg (fun r e => (hr r e).2), u2.turn hg (fun r e => (hr r e).1), u3, u4, u5, u6, fun D hD => ?_⟩
        have h1 := u7 D hD
        rw [hg.block D (Array.getElem?_eq_some_iff.1 h1).1 (fun e => by have := (hr D e.symm).1; have := (hdsY D hD).1; omega)]
        exact h1
      case hAx =>
        rintro x a' _ A1 B1 row ⟨Bq, u1, u2, u3⟩ hg hr
        exact ⟨Bq, u1, asblk_turn u2 hg (fun r e => (hr r e).2), u3⟩
      case assign =>
        rintro ll pre x Z K ⟨v', F2, R2, u1, u2, u3, u4, u5, u6, u7⟩ hK
        have hZ := (Below.refl Z.heap.size Z).alloc (Nat.le_refl _) (.cells [Value.int .i64 x.1.1.1, .int .i64 x.1.1.2].toArray 27)
        have hZs := u2.size
        have g1 := hZ.block g4 (by omega)
        have g2 := hZ.block (g4 + 1) (by omega)
        gi_wp2
        exact hK _ _ ((KeepsOthers.alloc _ _).from _) ⟨hZ.mono (by omega), g1, g2⟩ ⟨v', F2, R2, u1.below hZ, u2.trans (Foot.of_below hZ), u3, u4, u5, u6, fun D hD => (hZ.block D (Array.getElem?_eq_some_iff.1 (u7 D hD)).1).trans (u7 D hD)⟩ ⟨_, hZs, Blk.new Z _ _, rfl⟩
      case body =>
        rintro ll pre x a' Z - - ⟨v', F2, R2, u1, u2, u3, u4, u5, u6, u7⟩ ⟨Bq, hBq, zq, rfl⟩ -
        have hZs := u2.size
        have ng : ∀ b, W5.heap.size ≤ b → b < Y.heap.size → ¬ Fx rb b8 rb v' b := fun b h1 h2 h3 => (u2.from_ b h3).elim (fun h => by have := hSW.fx_lt hSW.reg h; omega) (fun h => by omega)
        have y0 := u2.blk q0 (nfk c0 (by omega) (by omega))
        have y1 := u2.blk q1 (nfk c1 (by omega) (by omega))
        have y3 := u2.blk q3 (nfk c3 (by omega) (by omega))
        have hin := (nbp_in x.2).1
        have hmem := idxs_mem hf hpn x
        have hpi := posn_idx hf hin
        obtain ⟨iq, hiq⟩ : ∃ iq, Hid (iq = idx m x.1.1) := ⟨_, hid rfl⟩
        rw [← hiq.out] at hmem hpi
        have hsn : idxs m (pre ++ [x]) = idxs m pre ++ [(iq, x.1.2)] := by rw [idxs_snoc, ← hiq.out]
        have hin2 : iq < R2.length := by rw [u1.fil.len]; exact hpi.2.1
        have diE := ints_at hin2
        obtain ⟨di, hdi⟩ : ∃ di, Hid (di = ga R2 iq) := ⟨_, hid rfl⟩
        rw [← hdi.out] at diE
        have cq := fun w => asidx_b m s l c x.1.1 iq w hf hin hiq
        have hnn := hn.out
        have ik : (iq : Int) < (n : Int) := by have := hpi.2.1; omega
        have ipq : (0 : Int) ≤ (iq : Int) := by omega
        have c00 := y0.cell 0
        have c01 := y0.cell 1
        have c02 := y0.cell 2
        have c03 := y0.cell 3
        have c04 := y0.cell 4
        have c20 := zq.cell 0
        have c21 := zq.cell 1
        simp only [List.getElem?_cons_zero, List.getElem?_cons_succ] at c00 c01 c02 c03 c04 c20 c21
        have stay : ∀ w2, Below Z.heap.size Z w2 → di ≠ -1 → ∀ a9, ownPostG Y.heap.size (KpS V.heap.size g4) (fun pre Z => FillI m bl c i rb b8 B R0 R k p (.slice (some ⟨gq, 0, none⟩) k cap) ds Y (idxs m pre) Z) (fun _ _ _ => False) (pre ++ [x]) Z .normal a9 w2 := fun w2 hb2 hno a9 => by
          refine ⟨u1.keeps u1.reg (Foot.of_below hb2) _, ⟨hb2.mono (by omega), hb2.block _ (by omega), hb2.block _ (by omega)⟩, v', F2, R2, u1.below hb2, u2.trans (Foot.of_below hb2), u3, u4, fun y hy => ?_, u6, fun D hD => (hb2.block D (Array.getElem?_eq_some_iff.1 (u7 D hD)).1).trans (u7 D hD)⟩
          rw [hsn] at hy
          rcases List.mem_append.1 hy with hy | hy
          · exact u5 y hy
          · rw [List.mem_singleton.1 hy]; show ga R2 iq ≠ -1; rw [← hdi.out]; exact hno
        have go : ∀ (w2 X W' : World) (v8 : Value), Below Z.heap.size Z w2 → di = -1 → X = (w2.setCell ⟨rb, iq, none⟩ (.int .i64 i)).alloc (.cells [Value.int .i64 x.1.1.1, .int .i64 x.1.1.2].toArray 27) → X.grownBy W' v'.ownBlock → W'.ownsRow B 27 2 v8 (F2.length + 1) (pls m F2 ++ [Value.int .i64 x.1.1.1, .int .i64 x.1.1.2]) → (∀ b, v8.ownBlock = some b → v'.ownBlock = some b ∨ X.heap.size ≤ b) →
            Blk W' b8 [v'] 32 ∧ ∀ a9, ownPostG Y.heap.size (KpS V.heap.size g4) (fun pre Z => FillI m bl c i rb b8 B R0 R k p (.slice (some ⟨gq, 0, none⟩) k cap) ds Y (idxs m pre) Z) (fun _ _ _ => False) (pre ++ [x]) Z .normal a9 (W'.setCell ⟨b8, 0, none⟩ v8) := fun w2 X W' v8 hb2 hyes hX hg hown hwh => by
          have hne : ga R2 iq = -1 := by rw [← hdi.out]; exact hyes
          have hfil := u1.fil.mark ok ⟨u6, hfp0⟩ hmem hne
          have hcm := cM1_set (v := (i : Int)) hin2 hne (by omega)
          rw [← hpi.1] at hX hown
          obtain ⟨t1, t2, t3⟩ := u1.push hb2 hX rb hg hown hwh hfil
          refine ⟨t1, fun a9 => ⟨u1.keeps u1.reg t3 _, ⟨t3.below (fun b hb => ?_) (by omega), t3.same _ (by omega) (ng _ (by omega) (by omega)), t3.same _ (by omega) (ng _ (by omega) (by omega))⟩, v8, _, _, t2, u2.trans t3, ?_, by omega, fun y hy => ?_, ?_, fun D hD => (u1.keeps u1.reg t3 0).same D _ (Nat.zero_le _) (u7 D hD) rfl⟩⟩
          · rcases hb with h | h | h | h
            · omega
            · omega
            · omega
            · have := (u1.row.lt b h).1; omega
          · rw [List.length_append, List.length_singleton]; omega
          · rw [hsn] at hy
            rw [ga_set R2 iq y.1 _ hin2]
            by_cases e : y.1 = iq
            · rw [if_pos e]; omega
            · rw [if_neg e]
              rcases List.mem_append.1 hy with hy | hy
              · exact u5 y hy
              · exact absurd (by rw [List.mem_singleton.1 hy]) e
          · rw [ga_set R2 iq p _ hin2]
            split
            · rfl
            · exact u6
        have hrow2 := u1.row
        obtain ⟨qv, nv, cv, hve⟩ : ∃ qv nv cv, v' = .slice qv nv cv := by
          rcases hrow2.2 with ⟨e, _⟩ | ⟨g, cap, cur, e, _⟩
          · exact ⟨_, _, _, e⟩
          · exact ⟨_, _, _, e⟩
        have hbq : Bq ≠ rb := blk_ne zq u1.reg (by decide)
        have hbq' := hbq.symm
        have hrb8' := hrb8.symm
        have hF2l : F2.length ≤ 1024 := by have := hnF.out; have := hnkH.out; omega
        have hBZ : B ≤ Z.heap.size := by omega
        gi_wp2
        refine ⟨trivial, ?_⟩
        ((with_reducible refine (CallsIn.inRound ll (callsIn_wide (n := 6).2 (cq _))).mono ?_); rintro e w2 ⟨rfl, hb2⟩)
        have rI := (u1.reg.below hb2).cell iq
        rw [diE] at rI
        have rF := (u1.reg.below hb2).frozen iq
        have d1 := (y1.below hb2).cell 0
        have d3 := (y3.below hb2).cell 0
        have d8 := (u1.box.below hb2).cell 0
        have dq := zq.below hb2
        have d20 := dq.cell 0
        have d21 := dq.cell 1
        simp only [List.getElem?_cons_zero, List.getElem?_cons_succ] at d1 d3 d8 d20 d21
        clear c00 c01 c02 c03 c04 c20 c21 cq dq
        have nr1 : c1 ≠ rb := by omega
        have nr3 : c3 ≠ rb := by omega
        by_cases e1 : di = -1
        · have z9 : (di == -1) = true := beq_iff_eq.2 e1
          obtain ⟨X, hX⟩ : ∃ X, X = (w2.setCell ⟨rb, iq, none⟩ (.int .i64 i)).alloc (.cells [Value.int .i64 x.1.1.1, .int .i64 x.1.1.2].toArray 27) := ⟨_, rfl⟩
          have hss : (w2.setCell ⟨rb, iq, none⟩ (.int .i64 i)).heap.size = w2.heap.size := by simp [World.setCell]
          have hXs : X.heap.size = w2.heap.size + 1 := by rw [hX, World.size_alloc, hss]
          have hoX : X.ownsRow B 27 2 v' F2.length (pls m F2) := by
            rw [hX]
            refine World.ownsRow.alloc (own_same2 (own_below hrow2 hb2) fun b hb => Below.heap_setCell w2 ⟨rb, iq, none⟩ _ b (fun e => ?_)) _
            exact own_ne hrow2 u1.reg (by decide) (by rw [hb]; exact congrArg some e)
          have hb2s := hb2.size
          obtain ⟨v8, W', hrun, hown, hg, hwh⟩ := app_where (P := Tryd.prog) X B 32 32 27 i1 (.agg #[.int .i64 0, .int .i64 0]) 2 16 Tryd.underlying32 hj0 hy0 hy1 hy2 rfl (by decide) v' _ _ hoX ⟨w2.heap.size, 0, none⟩ 1 [.int .i64 x.1.1.1, .int .i64 x.1.1.2] rfl
            (by rw [hX, ← hss]; exact cells_new (w := w2.setCell ⟨rb, iq, none⟩ (.int .i64 i))) (posCells x.1.1.1 x.1.1.2) (by unfold maxLen; omega) (by omega) (by omega)
          obtain ⟨t1, t2⟩ := go w2 X W' v8 hb2 e1 hX hg hown hwh
          obtain ⟨q8, n8, k8', hv8⟩ : ∃ q8 n8 k8', v8 = .slice q8 n8 k8' := by
            rcases hown.2 with ⟨e, _⟩ | ⟨g, cap, cur, e, _⟩
            · exact ⟨_, _, _, e⟩
            · exact ⟨_, _, _, e⟩
          have f0 := t1.cell 0
          have f1 := t1.frozen 0
          simp only [List.getElem?_cons_zero] at f0
          subst hve
          subst hv8
          clear stay go hown hg hwh hoX hrow2 u1 u2 u3 u4 u5 u6 u7 hmem diE hin2 hdi e1 zq y0 y1 y3 hss
          gi_wp2_with (gi_at_builtin; go_loud (rw [← hX]; refine wpListIn_append_run rfl (.tmp 50) (.tmp 52) 32 rfl _ _ _ W' rfl rfl hrun ?_))
          all_goals exact t2 _
        · have z9 : (di == -1) = false := beq_eq_false_iff_ne.2 e1
          have hs := stay w2 hb2 e1
          clear stay go u1 u2 u3 u4 u5 u6 u7 hmem diE hin2 hdi e1 zq y0 y1 y3 hrow2
          gi_wp2
          all_goals exact hs _
      case done =>
        rintro D1 xs Z hD hxs ⟨v', F2, R2, u1, u2, u3, u4, u5, u6, u7⟩ hK
        rw [idxs_all hf hpn xs hxs] at u5
        have hS' : FillS Z m bl c i rb b8 B R0 v' F2 R2 (fun _ => False) := ⟨u1.box, u1.row, u1.reg, u1.fil.close (fun r w hm => u5 (r, w) hm)⟩
        have hmu' := hS'.mu
        have hft : Foot (Fx rb b8 c2 v0) X2 (Fx rb b8 c2 v') Z := hFt.trans (hF5.trans ((Foot.of_below hYb).trans (u2.wider (fun b h => by
          rcases h with h | h | h | h
          · exact .inl h
          · exact .inr (.inl h)
          · exact .inl h
          · exact .inr (.inr (.inr h))) (fun b h => by
          rcases h with h | h | h | h
          · exact .inl (.inl (.inl h))
          · exact .inl (.inl (.inr (.inl h)))
          · exact .inl (.inr (.inr (.inr (.inl h))))
          · exact .inl (.inl (.inr (.inr (.inr h))))))))
        have hc2 := u2.blk q2 (fun h => by
          rcases h with h | h | h | h
          · omega
          · omega
          · omega
          · have hgb : gq = c2 := by simpa [Value.ownBlock] using h
            omega)
        have hsum' : cM1 R2 + F2.length ≤ 1024 := by have := hnF.out; have := hnkH.out; omega
        have hlt : fillMu rb b8 Z < fillMu rb b8 wr := by rw [hmu', hmu]; have := hnF.out; have := hnkH.out; omega
        have hnd' : (D1 :: ds).Nodup := List.nodup_cons.2 ⟨fun h => by have := (hdsY D1 h).1; omega, hnd⟩
        have hds' : ∀ D, D ∈ D1 :: ds → X2.heap.size ≤ D ∧ Z.heap[D]? = some (.deferred (some [])) := fun D hD2 => by
          rcases List.mem_cons.1 hD2 with e | e
          · rw [e]; exact ⟨by omega, hK⟩
          · exact ⟨(hds D e).1, u7 D e⟩
        clear u1 u2 u3 u4 u5 u6 u7 hK hds hnd hFt hF5 hmu hmu'
        gi_wp2
        exact ⟨⟨fun j => match j with | 9 => .int .i64 k | 20 => .slice (some ⟨gq, 0, none⟩) nF cap | 21 => .int .i64 nF | 22 => .bool true | 23 => .slice (some ⟨gq, 0, none⟩) nF cap | 24 => .int .i64 nF | 25 => .int .i64 k | 26 => .slice (some ⟨gq, 0, none⟩) nF cap | 27 => .int .i64 k | 28 => .pointer (some ⟨gq, k * 2, none⟩) | 29 => .agg #[.int .i64 (posn m p).1, .int .i64 (posn m p).2] | 30 => .slice (some ⟨gq, 0, none⟩) nF cap | 31 => .int .i64 k | 32 => .slice (some ⟨gq, 0, none⟩) k cap | 33 => .agg #[.int .i64 m.w, .int .i64 m.h, s, l, .int .i64 c] | 34 => .agg #[.int .i64 (posn m p).1, .int .i64 (posn m p).2] | 35 => .func (.func 123) #[] #[.pointer (some ⟨g4, 0, none⟩), .pointer (some ⟨g4 + 1, 0, none⟩)] | j => u j, D1 :: ds, v', F2, R2, rfl, hS', hft, hsum', ⟨_, _, hc2⟩, hnd', hds'⟩, hlt⟩

end

section
open Go.RowKit Go.Lib Go.Shelf

theorem own_le2 {w : World} {B B' size n : Nat} {e : TypeId} {v : Value} {xs : List Value} (h : w.ownsRow B e size v n xs) (hb : B' ≤ B) : w.ownsRow B' e size v n xs :=
  ⟨h.1, h.2.imp id fun ⟨g, cap, cur, e, hB, rest⟩ => ⟨g, cap, cur, e, Nat.le_trans hb hB, rest⟩⟩
theorem classv_of {m : M3} {c : Int} (h : (validm m && classv c) = true) : formedv m = true := by
  unfold validm at h
  simp only [Bool.and_eq_true] at h
  exact h.1.1
/-- The costs from a position inside. -/
theorem ascosts_at (m : M3) (s : Value) (bl : List Bool) (l : Value) (c x y : Int) (n : Nat) (W : World) (hG : Gd W m s bl l) (hf : formedv m = true) (hi : insp m (x, y) = true) (hn : Hid (m.cs.length = n)) :
    Calls Tryd.prog 49 #[.agg #[.int .i64 m.w, .int .i64 m.h, s, l, .int .i64 c], .agg #[.int .i64 x, .int .i64 y]] W (CostsP m bl c (idx m (x, y)) n W) := by
  have hp := posn_idx hf hi
  have h := ascosts_b m s bl l c (idx m (x, y)) n W hG hf hp.2.1 hn
  rw [hp.1] at h
  exact h

set_option maxHeartbeats 2000000 in
theorem asreach_b (m : M3) (sp : Option Addr) (sn sk : Nat) (bl : List Bool) (lp : Option Addr) (ln lk : Nat) (c x y : Int) (b : Bool) (n : Nat) (W : World) (hG : Gd W m (.slice sp sn sk) bl (.slice lp ln lk)) (hn : Hid (m.cs.length = n)) (hb : Hid (b = (validm m && classv c && insp m (x, y)))) :
    Calls Tryd.prog 21 #[.agg #[.int .i64 m.w, .int .i64 m.h, .slice sp sn sk], .slice lp ln lk, .int .i64 c, .agg #[.int .i64 x, .int .i64 y]] W fun e w' => (b = false ∧ e = .returned (.slice none 0 0) ∧ Below W.heap.size W w') ∨ (b = true ∧ CostsP m bl c (idx m (x, y)) n W e w') := by
  obtain ⟨b1, h1⟩ : ∃ b1, Hid (b1 = (validm m && classv c)) := ⟨_, hid rfl⟩
  obtain ⟨b2, h2⟩ : ∃ b2, Hid (b2 = insp m (x, y)) := ⟨_, hid rfl⟩
  have hbb : Hid (b = (b1 && b2)) := hid (by rw [hb.out, h1.out, h2.out])
  clear hb
  have hK := (((Keep.nil W).alloc [.int .i64 m.w, .int .i64 m.h, .slice sp sn sk] 24).alloc [.int .i64 x, .int .i64 y] 27).alloc [.int .i64 m.w, .int .i64 m.h, .slice sp sn sk, .slice lp ln lk, .int .i64 c] 72
  simp only [World.size_alloc] at hK
  go_enter Tryd.func21, Tryd.ntmps21
  go_wp2_with fail
  obtain ⟨X, hX⟩ : ∃ X, X = ((W.alloc (.cells [Value.int .i64 m.w, .int .i64 m.h, .slice sp sn sk].toArray 24)).alloc (.cells [Value.int .i64 x, .int .i64 y].toArray 27)).alloc (.cells [Value.int .i64 m.w, .int .i64 m.h, .slice sp sn sk, .slice lp ln lk, .int .i64 c].toArray 72) := ⟨_, rfl⟩
  rw [← hX] at hK ⊢
  clear hX
  obtain ⟨k2, e2⟩ : ∃ k2, k2 = W.heap.size + 1 + 1 := ⟨_, rfl⟩
  obtain ⟨k1, e1⟩ : ∃ k1, k1 = W.heap.size + 1 := ⟨_, rfl⟩
  have z2 : Blk X k2 (grdL m (.slice sp sn sk) (.slice lp ln lk) c) 72 := (hK.blks (W.heap.size + 1 + 1, grdL m (.slice sp sn sk) (.slice lp ln lk) c, 72) (by simp)).at e2.symm
  have z1 : Blk X k1 (ptL (x, y)) 27 := (hK.blks (W.heap.size + 1, ptL (x, y), 27) (by simp)).at e1.symm
  have hWX := hK.old
  rw [← e2, ← e1]
  clear hK e1 e2
  ((with_reducible refine (asvalid_b m (.slice sp sn sk) (.slice lp ln lk) c b1 X (hG.row.below hWX) h1).mono ?_); rintro e w1 ⟨rfl, hb1⟩)
  replace z1 := z1.below hb1
  replace z2 := z2.below hb1
  have hW1 := below_call hWX hb1
  clear hb1
  have p0 := z1.cell 0
  have p1 := z1.cell 1
  simp only [List.getElem?_cons_zero, List.getElem?_cons_succ] at p0 p1
  have q0 := z2.cell 0
  have q1 := z2.cell 1
  have q2 := z2.cell 2
  have q3 := z2.cell 3
  have q4 := z2.cell 4
  simp only [List.getElem?_cons_zero, List.getElem?_cons_succ] at q0 q1 q2 q3 q4
  cases b1 with
  | false =>
    have hbf : b = false := hbb.out
    clear hbb
    go_wp2_with fail
    go_ret
    exact .inl ⟨hbf, rfl, hW1⟩
  | true =>
    have hf := classv_of h1.out.symm
    go_wp2_with fail
    ((with_reducible refine (asinside_b m (.slice sp sn sk) (.slice lp ln lk) c x y b2 w1 h2).mono ?_); rintro e w2 ⟨rfl, hb2⟩)
    replace z1 := z1.below hb2
    replace z2 := z2.below hb2
    have hW2 := below_call hW1 hb2
    clear p0 p1 q0 q1 q2 q3 q4 hb2
    have p0 := z1.cell 0
    have p1 := z1.cell 1
    simp only [List.getElem?_cons_zero, List.getElem?_cons_succ] at p0 p1
    have q0 := z2.cell 0
    have q1 := z2.cell 1
    have q2 := z2.cell 2
    have q3 := z2.cell 3
    have q4 := z2.cell 4
    simp only [List.getElem?_cons_zero, List.getElem?_cons_succ] at q0 q1 q2 q3 q4
    cases b2 with
    | false =>
      have hbf : b = false := hbb.out
      clear hbb
      go_wp2_with fail
      go_ret
      exact .inl ⟨hbf, rfl, hW2⟩
    | true =>
      have hbf : b = true := hbb.out
      clear hbb
      have cc := ascosts_at m (.slice sp sn sk) bl (.slice lp ln lk) c x y n w2 (hG.below hW2) hf h2.out.symm hn
      go_wp2_with fail
      ((with_reducible refine cc.mono ?_); rintro e w3 ⟨cb, D, rfl, k3, k4, k5, k6, k7⟩)
      clear cc
      have hs2 := hW2.size
      go_wp2_with fail
      go_ret
      exact .inr ⟨hbf, cb, D, rfl, by omega, k4, k5, k6, below_call hW2 k7⟩

/-- What Path answers. -/
inductive PathA (m : M3) (bl : List Bool) (c : Int) (a b : Pt) (W : World) : Ending → World → Prop
  | arg {w' : World} : (validm m && classv c && insp m a && insp m b) = false → PathA m bl c a b W (.returned (.tuple #[.slice none 0 0, .int .i64 0, .int .i64 1])) w'
  | blocked {w' : World} : (validm m && classv c && insp m a && insp m b) = true → (openv m bl c a.1 a.2 && openv m bl c b.1 b.2) = false → PathA m bl c a b W (.returned (.tuple #[.slice none 0 0, .int .i64 0, .int .i64 9])) w'
  | none {w' : World} (D : List Int) : (validm m && classv c && insp m a && insp m b) = true → (openv m bl c a.1 a.2 && openv m bl c b.1 b.2) = true → IsDist (nb m bl c) m.cs.length (idx m b) D → ga D (idx m a) = -1 → PathA m bl c a b W (.returned (.tuple #[.slice none 0 0, .int .i64 0, .int .i64 22])) w'
  | way {w' : World} (D : List Int) (v : Value) : (validm m && classv c && insp m a && insp m b) = true → (openv m bl c a.1 a.2 && openv m bl c b.1 b.2) = true → IsDist (nb m bl c) m.cs.length (idx m b) D → 0 ≤ ga D (idx m a) → (∀ q, -1 ≤ ga D q ∧ ga D q ≤ 30000) →
    w'.ownsRow W.heap.size 27 2 v (pathG (nb m bl c) D (idx m a)).length (pls m (pathG (nb m bl c) D (idx m a))) → PathA m bl c a b W (.returned (.tuple #[v, .int .i64 (ga D (idx m a)), .int .i64 0])) w'

set_option maxRecDepth 100000 in
set_option maxHeartbeats 4000000 in
theorem aspath_b (m : M3) (sp : Option Addr) (sn sk : Nat) (bl : List Bool) (lp : Option Addr) (ln lk : Nat) (c x y x2 y2 : Int) (W : World) (hG : Gd W m (.slice sp sn sk) bl (.slice lp ln lk)) :
    Calls Tryd.prog 15 #[.agg #[.int .i64 m.w, .int .i64 m.h, .slice sp sn sk], .slice lp ln lk, .int .i64 c, .agg #[.int .i64 x, .int .i64 y], .agg #[.int .i64 x2, .int .i64 y2]] W fun e w' => Below W.heap.size W w' ∧ PathA m bl c (x, y) (x2, y2) W e w' := by
  obtain ⟨n, hn⟩ : ∃ n, Hid (m.cs.length = n) := ⟨_, hid rfl⟩
  obtain ⟨b1, h1⟩ : ∃ b1, Hid (b1 = (validm m && classv c)) := ⟨_, hid rfl⟩
  obtain ⟨b2, h2⟩ : ∃ b2, Hid (b2 = insp m (x, y)) := ⟨_, hid rfl⟩
  obtain ⟨b3, h3⟩ : ∃ b3, Hid (b3 = insp m (x2, y2)) := ⟨_, hid rfl⟩
  obtain ⟨b4, h4⟩ : ∃ b4, Hid (b4 = openv m bl c x y) := ⟨_, hid rfl⟩
  obtain ⟨b5, h5⟩ : ∃ b5, Hid (b5 = openv m bl c x2 y2) := ⟨_, hid rfl⟩
  have hA : Hid ((validm m && classv c && insp m (x, y) && insp m (x2, y2)) = (b1 && b2 && b3)) := hid (by rw [h1.out, h2.out, h3.out])
  have hO : Hid ((openv m bl c x y && openv m bl c x2 y2) = (b4 && b5)) := hid (by rw [h4.out, h5.out])
  have hK := ((((Keep.nil W).alloc [.int .i64 m.w, .int .i64 m.h, .slice sp sn sk] 24).alloc [.int .i64 x, .int .i64 y] 27).alloc [.int .i64 x2, .int .i64 y2] 27).alloc [.int .i64 m.w, .int .i64 m.h, .slice sp sn sk, .slice lp ln lk, .int .i64 c] 72
  simp only [World.size_alloc] at hK
  go_enter Tryd.func15, Tryd.ntmps15
  go_wp2_with fail
  obtain ⟨X, hX⟩ : ∃ X, X = (((W.alloc (.cells [Value.int .i64 m.w, .int .i64 m.h, .slice sp sn sk].toArray 24)).alloc (.cells [Value.int .i64 x, .int .i64 y].toArray 27)).alloc (.cells [Value.int .i64 x2, .int .i64 y2].toArray 27)).alloc (.cells [Value.int .i64 m.w, .int .i64 m.h, .slice sp sn sk, .slice lp ln lk, .int .i64 c].toArray 72) := ⟨_, rfl⟩
  rw [← hX] at hK ⊢
  clear hX
  obtain ⟨k3, e3⟩ : ∃ k3, k3 = W.heap.size + 1 + 1 + 1 := ⟨_, rfl⟩
  obtain ⟨k2, e2⟩ : ∃ k2, k2 = W.heap.size + 1 + 1 := ⟨_, rfl⟩
  obtain ⟨k1, e1⟩ : ∃ k1, k1 = W.heap.size + 1 := ⟨_, rfl⟩
  have z3 : Blk X k3 (grdL m (.slice sp sn sk) (.slice lp ln lk) c) 72 := (hK.blks (W.heap.size + 1 + 1 + 1, grdL m (.slice sp sn sk) (.slice lp ln lk) c, 72) (by simp)).at e3.symm
  have z2 : Blk X k2 (ptL (x2, y2)) 27 := (hK.blks (W.heap.size + 1 + 1, ptL (x2, y2), 27) (by simp)).at e2.symm
  have z1 : Blk X k1 (ptL (x, y)) 27 := (hK.blks (W.heap.size + 1, ptL (x, y), 27) (by simp)).at e1.symm
  have hWX := hK.old
  rw [← e3, ← e2, ← e1]
  clear hK e1 e2 e3
  ((with_reducible refine (asvalid_b m (.slice sp sn sk) (.slice lp ln lk) c b1 X (hG.row.below hWX) h1).mono ?_); rintro e w1 ⟨rfl, hb1⟩)
  replace z1 := z1.below hb1
  replace z2 := z2.below hb1
  replace z3 := z3.below hb1
  have hW1 := below_call hWX hb1
  have hb1K := hid hb1
  clear hb1
  have p0 := z1.cell 0
  have p1 := z1.cell 1
  simp only [List.getElem?_cons_zero, List.getElem?_cons_succ] at p0 p1
  have r0 := z2.cell 0
  have r1 := z2.cell 1
  simp only [List.getElem?_cons_zero, List.getElem?_cons_succ] at r0 r1
  have q0 := z3.cell 0
  have q1 := z3.cell 1
  have q2 := z3.cell 2
  have q3 := z3.cell 3
  have q4 := z3.cell 4
  simp only [List.getElem?_cons_zero, List.getElem?_cons_succ] at q0 q1 q2 q3 q4
  cases b1 with
  | false =>
    have hAf := hA.out
    simp only [Bool.false_and] at hAf
    clear hA hO
    go_wp2_with fail
    go_ret3
    exact ⟨hW1, .arg hAf⟩
  | true =>
    have hf := classv_of h1.out.symm
    go_wp2_with fail
    ((with_reducible refine (asinside_b m (.slice sp sn sk) (.slice lp ln lk) c x y b2 w1 h2).mono ?_); rintro e w2 ⟨rfl, hb2⟩)
    clear p0 p1 r0 r1 q0 q1 q2 q3 q4
    replace z1 := z1.below hb2
    replace z2 := z2.below hb2
    replace z3 := z3.below hb2
    have hW2 := below_call hW1 hb2
    have hb2K := hid hb2
    clear hb2
    have p0 := z1.cell 0
    have p1 := z1.cell 1
    simp only [List.getElem?_cons_zero, List.getElem?_cons_succ] at p0 p1
    have r0 := z2.cell 0
    have r1 := z2.cell 1
    simp only [List.getElem?_cons_zero, List.getElem?_cons_succ] at r0 r1
    have q0 := z3.cell 0
    have q1 := z3.cell 1
    have q2 := z3.cell 2
    have q3 := z3.cell 3
    have q4 := z3.cell 4
    simp only [List.getElem?_cons_zero, List.getElem?_cons_succ] at q0 q1 q2 q3 q4
    cases b2 with
    | false =>
      have hAf := hA.out
      simp only [Bool.false_and, Bool.and_false] at hAf
      clear hA hO
      go_wp2_with fail
      go_ret3
      exact ⟨hW2, .arg hAf⟩
    | true =>
      go_wp2_with fail
      ((with_reducible refine (asinside_b m (.slice sp sn sk) (.slice lp ln lk) c x2 y2 b3 w2 h3).mono ?_); rintro e w3 ⟨rfl, hb3⟩)
      clear p0 p1 r0 r1 q0 q1 q2 q3 q4
      replace z1 := z1.below hb3
      replace z2 := z2.below hb3
      replace z3 := z3.below hb3
      have hW3 := below_call hW2 hb3
      have hb3K := hid hb3
      clear hb3
      have p0 := z1.cell 0
      have p1 := z1.cell 1
      simp only [List.getElem?_cons_zero, List.getElem?_cons_succ] at p0 p1
      have r0 := z2.cell 0
      have r1 := z2.cell 1
      simp only [List.getElem?_cons_zero, List.getElem?_cons_succ] at r0 r1
      have q0 := z3.cell 0
      have q1 := z3.cell 1
      have q2 := z3.cell 2
      have q3 := z3.cell 3
      have q4 := z3.cell 4
      simp only [List.getElem?_cons_zero, List.getElem?_cons_succ] at q0 q1 q2 q3 q4
      cases b3 with
      | false =>
        have hAf := hA.out
        simp only [Bool.and_false] at hAf
        clear hA hO
        go_wp2_with fail
        go_ret3
        exact ⟨hW3, .arg hAf⟩
      | true =>
        have hAt := hA.out
        simp only [Bool.and_self] at hAt
        clear hA
        replace hAt := hid hAt
        go_wp2_with fail
        ((with_reducible refine (asfree_b m (.slice sp sn sk) bl (.slice lp ln lk) c x y b4 w3 (hG.below hW3) h4).mono ?_); rintro e w4 ⟨rfl, hb4⟩)
        clear p0 p1 r0 r1 q0 q1 q2 q3 q4
        replace z1 := z1.below hb4
        replace z2 := z2.below hb4
        replace z3 := z3.below hb4
        have hW4 := below_call hW3 hb4
        have hb4K := hid hb4
        clear hb4
        have p0 := z1.cell 0
        have p1 := z1.cell 1
        simp only [List.getElem?_cons_zero, List.getElem?_cons_succ] at p0 p1
        have r0 := z2.cell 0
        have r1 := z2.cell 1
        simp only [List.getElem?_cons_zero, List.getElem?_cons_succ] at r0 r1
        have q0 := z3.cell 0
        have q1 := z3.cell 1
        have q2 := z3.cell 2
        have q3 := z3.cell 3
        have q4 := z3.cell 4
        simp only [List.getElem?_cons_zero, List.getElem?_cons_succ] at q0 q1 q2 q3 q4
        cases b4 with
        | false =>
          have hOf := hO.out
          simp only [Bool.false_and] at hOf
          clear hO
          go_wp2_with fail
          go_ret3
          exact ⟨hW4, .blocked hAt.out hOf⟩
        | true =>
          go_wp2_with fail
          ((with_reducible refine (asfree_b m (.slice sp sn sk) bl (.slice lp ln lk) c x2 y2 b5 w4 (hG.below hW4) h5).mono ?_); rintro e w5 ⟨rfl, hb5⟩)
          clear p0 p1 r0 r1 q0 q1 q2 q3 q4
          replace z1 := z1.below hb5
          replace z2 := z2.below hb5
          replace z3 := z3.below hb5
          have hW5 := below_call hW4 hb5
          have hb5K := hid hb5
          clear hb5
          have p0 := z1.cell 0
          have p1 := z1.cell 1
          simp only [List.getElem?_cons_zero, List.getElem?_cons_succ] at p0 p1
          have r0 := z2.cell 0
          have r1 := z2.cell 1
          simp only [List.getElem?_cons_zero, List.getElem?_cons_succ] at r0 r1
          have q0 := z3.cell 0
          have q1 := z3.cell 1
          have q2 := z3.cell 2
          have q3 := z3.cell 3
          have q4 := z3.cell 4
          simp only [List.getElem?_cons_zero, List.getElem?_cons_succ] at q0 q1 q2 q3 q4
          cases b5 with
          | false =>
            have hOf := hO.out
            simp only [Bool.and_false] at hOf
            clear hO
            go_wp2_with fail
            go_ret3
            exact ⟨hW5, .blocked hAt.out hOf⟩
          | true =>
            have hOt := hO.out
            simp only [Bool.and_self] at hOt
            clear hO
            replace hOt := hid hOt
            have hp1 := posn_idx hf h2.out.symm
            have hp2 := posn_idx hf h3.out.symm
            have cc := ascosts_at m (.slice sp sn sk) bl (.slice lp ln lk) c x2 y2 n w5 (hG.below hW5) hf h3.out.symm hn
            go_wp2_with fail
            ((with_reducible refine cc.mono ?_); rintro e w6 ⟨cb, D, rfl, j1, j2, j3, j4, hb6⟩)
            clear cc
            clear p0 p1 r0 r1 q0 q1 q2 q3 q4
            replace z1 := z1.below hb6
            replace z2 := z2.below hb6
            replace z3 := z3.below hb6
            have hW6 := below_call hW5 hb6
            have hb6K := hid hb6
            clear hb6
            have p0 := z1.cell 0
            have p1 := z1.cell 1
            simp only [List.getElem?_cons_zero, List.getElem?_cons_succ] at p0 p1
            have r0 := z2.cell 0
            have r1 := z2.cell 1
            simp only [List.getElem?_cons_zero, List.getElem?_cons_succ] at r0 r1
            have q0 := z3.cell 0
            have q1 := z3.cell 1
            have q2 := z3.cell 2
            have q3 := z3.cell 3
            have q4 := z3.cell 4
            simp only [List.getElem?_cons_zero, List.getElem?_cons_succ] at q0 q1 q2 q3 q4
            unfold Dst at j3
            rw [hp2.1, if_pos h5.out.symm] at j3
            obtain ⟨ia, hia⟩ : ∃ ia, Hid (ia = idx m (x, y)) := ⟨_, hid rfl⟩
            have hil : ia < D.length := by rw [j3.len, hia.out]; exact hp1.2.1
            have dI := ints_at hil
            obtain ⟨da, hda⟩ : ∃ da, Hid (da = ga D ia) := ⟨_, hid rfl⟩
            rw [← hda.out] at dI
            have ipn : (ia : Int) < (n : Int) := by have := hn.out; have := j3.len; omega
            have ip : (0 : Int) ≤ (ia : Int) := by omega
            have ck := asidx_b m (.slice sp sn sk) (.slice lp ln lk) c (x, y) ia w6 hf h2.out.symm hia
            have hs5 := hW5.size
            go_wp2_with fail
            ((with_reducible refine ck.mono ?_); rintro e w7 ⟨rfl, hb7⟩)
            clear ck
            clear p0 p1 r0 r1 q0 q1 q2 q3 q4
            replace z1 := z1.below hb7
            replace z2 := z2.below hb7
            replace z3 := z3.below hb7
            have hW7 := below_call hW6 hb7
            have hb7K := hid hb7
            clear hb7
            have p0 := z1.cell 0
            have p1 := z1.cell 1
            simp only [List.getElem?_cons_zero, List.getElem?_cons_succ] at p0 p1
            have r0 := z2.cell 0
            have r1 := z2.cell 1
            simp only [List.getElem?_cons_zero, List.getElem?_cons_succ] at r0 r1
            have q0 := z3.cell 0
            have q1 := z3.cell 1
            have q2 := z3.cell 2
            have q3 := z3.cell 3
            have q4 := z3.cell 4
            simp only [List.getElem?_cons_zero, List.getElem?_cons_succ] at q0 q1 q2 q3 q4
            have dI2 := (j2.below hb7K.out).cell ia
            rw [dI] at dI2
            by_cases e1 : da = -1
            · have z9 : (da == -1) = true := beq_iff_eq.2 e1
              have hda1 : ga D (idx m (x, y)) = -1 := by rw [← hia.out, ← hda.out]; exact e1
              clear e1
              go_wp2_with fail
              go_ret3
              exact ⟨hW7, .none D hAt.out hOt.out j3 hda1⟩
            · have z9 : (da == -1) = false := beq_eq_false_iff_ne.2 e1
              have hda1 : 0 ≤ ga D (idx m (x, y)) := by have := (j4 (idx m (x, y))).1; have h9 := hda.out; rw [hia.out] at h9; omega
              have hde : da = ga D (idx m (x, y)) := by rw [hda.out, hia.out]
              have cd := asdesc_b m (.slice sp sn sk) bl (.slice lp ln lk) c (idx m (x, y)) (idx m (x2, y2)) cb n D w7 (hG.below hW7) hf hp1.2.1 hp2.2.1 hn (j2.below hb7K.out) j3 hda1 j4
              rw [hp1.1] at cd
              replace hde := hid hde
              clear e1
              go_wp2_with fail
              ((with_reducible refine cd.mono ?_); rintro e w8 ⟨v8, rfl, r1, r2⟩)
              clear cd
              have hs7 := hW7.size
              go_wp2_with fail
              go_ret3
              rw [hde.out]
              exact ⟨below_call hW7 r2, .way D v8 hAt.out hOt.out j3 hda1 j4 (own_le2 r1 hs7)⟩

end

section
open Go.RowKit Go.Lib Go.Shelf

/-- A cell that units may be on. -/
def opn (m : M3) (bl : List Bool) (c : Int) (i : Nat) : Prop := openv m bl c (posn m i).1 (posn m i).2 = true
theorem conn_open {m : M3} (hf : formedv m = true) (bl : List Bool) (c : Int) (p q : Nat) (h : Conn (nb m bl c) p q) (hne : p ≠ q) : opn m bl c p ∧ opn m bl c q := by
  obtain ⟨w, h⟩ := h
  induction h with
  | here => exact absurd rfl hne
  | step k mm ih =>
    rename_i r t d w
    obtain ⟨hr, x, hx, rfl, _⟩ := mem_nb.1 mm
    have hin := nbp_in hx
    have h2 : opn m bl c (idx m x.1) := by unfold opn; rw [(posn_idx hf hin.1).1]; exact hin.2.2.1
    refine ⟨?_, h2⟩
    by_cases e : p = r
    · rw [e]; exact hin.2.2.2
    · exact (ih e).1
def RegsP (m : M3) (bl : List Bool) (c : Int) (n : Nat) (W : World) (e : Ending) (w' : World) : Prop :=
  ∃ rb R, e = .returned (.slice (some ⟨rb, 0, none⟩) n n) ∧ W.heap.size ≤ rb ∧ Blk w' rb (ints R) 3 ∧ Regs (nb m bl c) m.cs.length (opn m bl c) m.cs.length R ∧ Below W.heap.size W w'

set_option maxRecDepth 100000 in
set_option maxHeartbeats 8000000 in
theorem asregs_b (m : M3) (sp : Option Addr) (sn sk : Nat) (bl : List Bool) (lp : Option Addr) (ln lk : Nat) (c : Int) (n : Nat) (b : Bool) (W : World) (hG : Gd W m (.slice sp sn sk) bl (.slice lp ln lk)) (hn : Hid (m.cs.length = n)) (hb : Hid (b = (validm m && classv c))) :
    Calls Tryd.prog 23 #[.agg #[.int .i64 m.w, .int .i64 m.h, .slice sp sn sk], .slice lp ln lk, .int .i64 c] W fun e w' => (b = false ∧ e = .returned (.slice none 0 0) ∧ Below W.heap.size W w') ∨ (b = true ∧ RegsP m bl c n W e w') := by
  have hK := (((Keep.nil W).alloc [.int .i64 m.w, .int .i64 m.h, .slice sp sn sk] 24)).alloc [.int .i64 m.w, .int .i64 m.h, .slice sp sn sk, .slice lp ln lk, .int .i64 c] 72
  simp only [World.size_alloc] at hK
  go_enter Tryd.func23, Tryd.ntmps23
  go_wp2_with fail
  obtain ⟨X, hX⟩ : ∃ X, X = (W.alloc (.cells [Value.int .i64 m.w, .int .i64 m.h, .slice sp sn sk].toArray 24)).alloc (.cells [Value.int .i64 m.w, .int .i64 m.h, .slice sp sn sk, .slice lp ln lk, .int .i64 c].toArray 72) := ⟨_, rfl⟩
  have hsX : X.heap.size = W.heap.size + 2 := by rw [hX]; simp
  rw [← hX] at hK ⊢
  clear hX
  obtain ⟨k1, e1⟩ : ∃ k1, k1 = W.heap.size + 1 := ⟨_, rfl⟩
  obtain ⟨k0, e0⟩ : ∃ k0, k0 = W.heap.size := ⟨_, rfl⟩
  have z1 : Blk X k1 (grdL m (.slice sp sn sk) (.slice lp ln lk) c) 72 := (hK.blks (W.heap.size + 1, grdL m (.slice sp sn sk) (.slice lp ln lk) c, 72) (by simp)).at e1.symm
  have z0 : Blk X k0 [.int .i64 m.w, .int .i64 m.h, .slice sp sn sk] 24 := (hK.blks (W.heap.size, [.int .i64 m.w, .int .i64 m.h, .slice sp sn sk], 24) (by simp)).at e0.symm
  have hWX := hK.old
  have kk : k0 < k1 ∧ k1 < X.heap.size := by omega
  rw [← e1, ← e0]
  clear hK e1 e0 hsX
  ((with_reducible refine (asvalid_b m (.slice sp sn sk) (.slice lp ln lk) c b X (hG.row.below hWX) hb).mono ?_); rintro e w1 ⟨rfl, hb1⟩)
  replace z1 := z1.below hb1
  replace z0 := z0.below hb1
  have hW1 := below_call hWX hb1
  have hs1 := hb1.size
  have hWs := hW1.size
  clear hb1
  have q0 := z1.cell 0
  have q1 := z1.cell 1
  have q2 := z1.cell 2
  have q3 := z1.cell 3
  have q4 := z1.cell 4
  simp only [List.getElem?_cons_zero, List.getElem?_cons_succ] at q0 q1 q2 q3 q4
  cases b with
  | false =>
    go_wp2_with fail
    go_ret
    exact ⟨rfl, hW1⟩
  | true =>
    have hf := classv_of hb.out.symm
    have hcl := formed_len hf
    have ok := nb_ok hf bl c
    have hfr := conn_open hf bl c
    have h1 : 1 ≤ m.cs.length := by obtain ⟨X0, Y0, _, _, x1, _, y1, _, hl, _⟩ := formed_num hf; rw [hl]; exact Nat.mul_pos (by omega) (by omega)
    have cn := asnumbers_b m (.slice sp sn sk) (.slice lp ln lk) c w1 (hG.row.below hW1) h1 hcl
    rw [hn.out] at cn
    go_wp2_with fail
    ((with_reducible refine cn.mono ?_); rintro e w2 ⟨rb, rfl, hrb, hB, hb2⟩)
    rw [ints_none] at hB
    replace z1 := z1.below hb2
    replace z0 := z0.below hb2
    have hW2 := below_call hW1 hb2
    have hs2 := hb2.size
    have hst : Regs (nb m bl c) m.cs.length (opn m bl c) 0 (List.replicate n (-1)) := by have h := Regs.start (nb := nb m bl c) (n := m.cs.length) (opn m bl c); rw [hn.out] at h ⊢; exact h
    have hsW := hW2.size
    clear q0 q1 q2 q3 q4 cn hb2
    go_upto_region 6 with fail
    go_loopw [22] (fun y w' => ∃ (i : Nat) (R : List Int), y = .int .i64 i ∧ i ≤ n ∧ Regs (nb m bl c) m.cs.length (opn m bl c) i R ∧ Blk w' rb (ints R) 3 ∧ Below W.heap.size W w' ∧ w2.heap.size ≤ w'.heap.size ∧ Blk w' k0 [.int .i64 m.w, .int .i64 m.h, .slice sp sn sk] 24 ∧ Blk w' k1 (grdL m (.slice sp sn sk) (.slice lp ln lk) c) 72) (fun y _ => n - (intOf y).toNat)
    case atStart => exact ⟨0, _, rfl, Nat.zero_le _, hst, hB, hW2, Nat.le_refl _, z0, z1⟩
    case round =>
      clear hst hB z0 z1 hW2
      obtain ⟨i, R, rfl, hi, hR, hB, hWr, hsr, z0, z1⟩ := hrel
      have hnn := hn.out
      by_cases hlt : i < n
      · have hil : i < m.cs.length := by omega
        have hip := idx_posn hf hil
        have ip : (0 : Int) ≤ (i : Int) := by omega
        have ipn : (i : Int) < (n : Int) := by omega
        have z9 : decide ((i : Int) < (n : Int)) = true := decide_eq_true ipn
        have m0 := z0.cell 0
        simp only [List.getElem?_cons_zero] at m0
        have ca := dat_any m.w i wr (by omega)
        clear hnn
        go_upto_region 9 with (go_at_call 62; refine ca.mono ?_; rintro e w3 ⟨rfl, hb3⟩)
        have hX3 := (Below.refl w3.heap.size w3).alloc (Nat.le_refl _) (.cells [Value.int .i64 (atx m.w i), .int .i64 (aty m.w i)].toArray 27)
        have zp := Blk.new w3 (ptL (posn m i)) 27
        have hb4 := below_call hb3 hX3
        have hw3s := hb3.size
        obtain ⟨w4, hw4⟩ : ∃ w4, w4 = w3.alloc (.cells [Value.int .i64 (atx m.w i), .int .i64 (aty m.w i)].toArray 27) := ⟨_, rfl⟩
        have hw4' : w3.alloc (.cells (ptL (posn m i)).toArray 27) = w4 := hw4.symm
        rw [hw4'] at zp
        rw [← hw4] at hb4
        replace z0 := z0.below hb4
        replace z1 := z1.below hb4
        replace hB := hB.below hb4
        have hW4 := below_call hWr hb4
        have hs4 := hb4.size
        have diE := ints_at (D := R) (i := i) (by rw [hR.len]; exact hil)
        obtain ⟨di, hdi⟩ : ∃ di, Hid (di = ga R i) := ⟨_, hid rfl⟩
        rw [← hdi.out] at diE
        have rI := hB.cell i
        rw [diE] at rI
        clear m0 ca hX3 hb3 hb4
        have q0 := z1.cell 0
        have q1 := z1.cell 1
        have q2 := z1.cell 2
        have q3 := z1.cell 3
        have q4 := z1.cell 4
        simp only [List.getElem?_cons_zero, List.getElem?_cons_succ] at q0 q1 q2 q3 q4
        have p0 := zp.cell 0
        have p1 := zp.cell 1
        simp only [List.getElem?_cons_zero, List.getElem?_cons_succ] at p0 p1
        obtain ⟨x, hx⟩ : ∃ x, Hid (x = atx m.w i) := ⟨_, hid rfl⟩
        obtain ⟨y, hy⟩ : ∃ y, Hid (y = aty m.w i) := ⟨_, hid rfl⟩
        have hpx : (posn m i).1 = x := hx.out.symm
        have hpy : (posn m i).2 = y := hy.out.symm
        rw [hpx] at p0
        rw [hpy] at p1
        rw [← hx.out, ← hy.out] at hw4 ⊢
        obtain ⟨bp, hbp⟩ : ∃ bp, bp = w3.heap.size := ⟨_, rfl⟩
        rw [← hbp] at p0 p1 zp ⊢
        rw [← hw4]
        clear hw4 hw4'
        have hbp4 : bp < w4.heap.size := zp.lt
        have hkb : w2.heap.size ≤ bp := by omega
        replace hbp := hid hbp
        have nadd : IntKind.i64.wrap ((i : Int) + 1) = ((i + 1 : Nat) : Int) := by rw [IntWalk.i64_in _ (by omega)]; simp
        by_cases e1 : di = -1
        · have z8 : (di == -1) = true := beq_iff_eq.2 e1
          obtain ⟨fr, hfo⟩ : ∃ fr, Hid (fr = openv m bl c x y) := ⟨_, hid rfl⟩
          have cf := asfree_b m (.slice sp sn sk) bl (.slice lp ln lk) c x y fr w4 (hG.below hW4) hfo
          have hRi : ga R i = -1 := by rw [← hdi.out]; exact e1
          have hfop : Hid (fr = openv m bl c (posn m i).1 (posn m i).2) := hid (by rw [hpx, hpy]; exact hfo.out)
          clear e1
          go_wp2_with fail
          ((with_reducible refine cf.mono ?_); rintro e w5 ⟨rfl, hb5⟩)
          replace z0 := z0.below hb5
          replace z1 := z1.below hb5
          replace zp := zp.below hb5
          replace hB := hB.below hb5
          have hW5 := below_call hW4 hb5
          have hs5 := hb5.size
          clear q0 q1 q2 q3 q4 p0 p1 cf hb5 rI
          have q0 := z1.cell 0
          have q1 := z1.cell 1
          have q2 := z1.cell 2
          have q3 := z1.cell 3
          have q4 := z1.cell 4
          simp only [List.getElem?_cons_zero, List.getElem?_cons_succ] at q0 q1 q2 q3 q4
          have p0 := zp.cell 0
          have p1 := zp.cell 1
          simp only [List.getElem?_cons_zero, List.getElem?_cons_succ] at p0 p1
          rw [hpx] at p0
          rw [hpy] at p1
          cases fr with
          | false =>
            have hnx := hR.skip ok hfr hil (.inr (by unfold opn; rw [← hfop.out]; exact Bool.false_ne_true))
            go_wp2_with fail
            go_roundw
            case rel => exact ⟨i + 1, R, by simp, by omega, hnx, hB, hW5, by omega, z0, z1⟩
            case measure => simp [intOf]; omega
          | true =>
            have cfl := asfill_b m (.slice sp sn sk) bl (.slice lp ln lk) c i rb n R W w5 hG hW5 (by omega) hf hil hn hB hR.len hRi
            rw [hpx, hpy] at cfl
            go_wp2_with fail
            ((with_reducible refine cfl.mono ?_); rintro e w6 ⟨rfl, R', hB', hF', hft⟩)
            have hnx := hF'.over ok hR hfr hil hfop.out.symm hRi
            have y0 := hft.blk z0 (by omega)
            have y1 := hft.blk z1 (by omega)
            have hW6 := hW5.trans (hft.below (fun b hb => by omega) (by omega))
            have hs6 := hft.size
            clear cfl q0 q1 q2 q3 q4 p0 p1 hF'
            go_wp2_with fail
            go_roundw
            case rel => exact ⟨i + 1, R', by simp, by omega, hnx, hB', hW6, by omega, y0, y1⟩
            case measure => simp [intOf]; omega
        · have z8 : (di == -1) = false := beq_eq_false_iff_ne.2 e1
          have hnx := hR.skip ok hfr hil (.inl (by rw [← hdi.out]; exact e1))
          clear e1
          go_wp2_with fail
          go_roundw
          case rel => exact ⟨i + 1, R, by simp, by omega, hnx, hB, hW4, by omega, z0, z1⟩
          case measure => simp [intOf]; omega
      · obtain rfl : i = n := by omega
        have z9 : decide ((i : Int) < (i : Int)) = false := decide_eq_false (by omega)
        rw [← hnn] at hR
        have hfin : RegsP m bl c i W (.returned (.slice (some ⟨rb, 0, none⟩) i i)) wr := ⟨rb, R, rfl, by omega, hB, by rw [← hnn] at *; exact hR, hWr⟩
        clear hnn
        go_wp2_with fail
        go_ret
        exact hfin

end

section
open Go.RowKit Go.Lib Go.Shelf

/-- A slice of positions that can be read. -/
def PsAt (W : World) (s : Value) (l : List Pt) : Prop :=
  ∃ p c, s = .slice p l.length c ∧ l.length ≤ c ∧ l.length ≤ maxLen ∧ (1 ≤ l.length → ∃ g o, p = some ⟨g, o, none⟩ ∧ g < W.heap.size ∧ ∀ i, (h : i < l.length) → W.cell? ⟨g, o + i * 2, none⟩ = some (.int .i64 (l[i]'h).1) ∧ W.cell? ⟨g, o + i * 2 + 1, none⟩ = some (.int .i64 (l[i]'h).2))
theorem PsAt.below {W w' : World} {s : Value} {l : List Pt} (h : PsAt W s l) (hb : Below W.heap.size W w') : PsAt w' s l := by
  obtain ⟨p, c, rfl, hc1, hm, hc⟩ := h
  refine ⟨p, c, rfl, hc1, hm, fun h1 => ?_⟩
  obtain ⟨g, o, rfl, hg, hi⟩ := hc h1
  refine ⟨g, o, rfl, Nat.lt_of_lt_of_le hg hb.size, fun i hi' => ?_⟩
  obtain ⟨a, b⟩ := hi i hi'
  exact ⟨(hb.cell (p := ⟨g, o + i * 2, none⟩) hg).trans a, (hb.cell (p := ⟨g, o + i * 2 + 1, none⟩) hg).trans b⟩
theorem PsAt.any {w : World} {B n : Nat} {v : Value} {m : M3} {F : List Nat} (h : w.ownsRow B 27 2 v n (pls m F)) (hn : F.length = n) : PsAt w v (F.map (posn m)) := by
  subst hn
  rcases id h.2 with ⟨rfl, h0⟩ | ⟨g, cap, cur, rfl, _, _, hc1, hc2, _⟩
  · have : F = [] := List.eq_nil_of_length_eq_zero h0
    subst this
    exact ⟨none, 0, rfl, Nat.zero_le _, Nat.zero_le _, fun h => by simp at h⟩
  · refine ⟨some ⟨g, 0, none⟩, cap, by rw [List.length_map], by rw [List.length_map]; exact hc1, by rw [List.length_map]; omega, fun _ => ⟨g, 0, rfl, (h.lt g rfl).2, fun i hi => ?_⟩⟩
    have hi2 : i < F.length := by rw [List.length_map] at hi; exact hi
    have pj := pcells_at (F.map (posn m)) i hi
    rw [Nat.mul_comm 2 i] at pj
    rw [Nat.zero_add]
    exact ⟨(h.cellAt (i * 2) (by omega)).trans pj.1, (h.cellAt (i * 2 + 1) (by omega)).trans pj.2⟩

set_option maxHeartbeats 2000000 in
theorem asclos_b (m : M3) (s l : Value) (c x y : Int) (k : Nat) (b : Bool) (W : World) (hg : Blk W k (grdL m s l c) 72) (e : Hid (b = insp m (x, y))) :
    Calls Tryd.prog 97 #[.agg #[.int .i64 x, .int .i64 y], .pointer (some ⟨k, 0, none⟩)] W fun e w' => e = .returned (.bool (!b)) ∧ Below W.heap.size W w' := by
  have hT := Held1.start W [.int .i64 x, .int .i64 y] 27
  have hg2 := hg.below hT.old
  have q0 := hg2.cell 0
  have q1 := hg2.cell 1
  have q2 := hg2.cell 2
  have q3 := hg2.cell 3
  have q4 := hg2.cell 4
  simp only [List.getElem?_cons_zero, List.getElem?_cons_succ] at q0 q1 q2 q3 q4
  go_enter Tryd.func97, Tryd.ntmps97
  go_upto_region 1 with fail
  obtain ⟨X, hX⟩ : ∃ X, X = W.alloc (.cells [Value.int .i64 x, .int .i64 y].toArray 27) := ⟨_, rfl⟩
  rw [← hX] at hT hg2 q0 q1 q2 q3 q4 ⊢
  have p0 := hT.l.cell 0
  have p1 := hT.l.cell 1
  simp only [List.getElem?_cons_zero, List.getElem?_cons_succ] at p0 p1
  clear hX
  have ci := asinside_b m s l c x y b X e
  go_wp2_with fail
  ((with_reducible refine ci.mono ?_); rintro e w1 ⟨rfl, hb1⟩)
  clear q0 q1 q2 q3 q4 p0 p1 ci
  go_wp2_with fail
  go_ret
  exact ⟨rfl, below_call hT.old hb1⟩
theorem eg_asclos : ∀ args w, (callFunc 97 args).run Tryd.prog w = .ok (.enter 97 args) w := enters_of Tryd.func97 (by kernel_rfl) rfl

set_option maxHeartbeats 4000000 in
theorem asidxf_b (m : M3) (s l : Value) (c : Int) (k : Nat) (ps : List Pt) (v : Value) (W : World) (hr : PsAt W v ps) (hg : Blk W k (grdL m s l c) 72) :
    Calls Tryd.prog 122 #[v, .func (.func 97) #[] #[.pointer (some ⟨k, 0, none⟩)]] W fun e w' => ∃ n : Int, e = .returned (.int .i64 n) ∧ Hid (decide (0 ≤ n) = !ps.all (insp m)) ∧ Below W.heap.size W w' := by
  obtain ⟨p, cap, rfl, -, hm, hc⟩ := id hr
  unfold maxLen at hm
  go_enter Tryd.func122, Tryd.ntmps122
  go_wp2_with fail
  go_loopw [8] (fun vi wr => ∃ i : Nat, vi = .int .i64 i ∧ i ≤ ps.length ∧ Below W.heap.size W wr ∧ Hid (∀ j, (h : j < ps.length) → j < i → insp m (ps[j]'h) = true)) (fun vi _ => ps.length - (RowKit.intOf vi).toNat)
  case atStart => exact ⟨0, rfl, by omega, Below.refl _ _, hid (fun j _ h => by omega)⟩
  case round =>
    obtain ⟨i, rfl, hi, hT, hG⟩ := hrel
    by_cases hlt : i < ps.length
    · have d1 : (i : Int) < ps.length := by omega
      obtain ⟨g, o, rfl, hk, hat⟩ := hc (by omega)
      obtain ⟨a1, a2⟩ := hat i hlt
      rw [← hT.cell (p := ⟨g, _, none⟩) hk] at a1 a2
      obtain ⟨q, hq⟩ : ∃ q, ps[i]'hlt = q := ⟨_, rfl⟩
      rw [hq] at a1 a2
      obtain ⟨bb, hbb⟩ : ∃ t, Hid (t = insp m q) := ⟨_, hid rfl⟩
      have cf := asclos_b m s l c q.1 q.2 k bb wr (hg.below hT) hbb
      have eg := eg_asclos
      clear hat hc hr
      cases bb with
      | true =>
        have hN := hid (show ∀ j, (h : j < ps.length) → j < i + 1 → insp m (ps[j]'h) = true from fun j h hj => by
          by_cases e : j < i
          · exact hG.out j h e
          · obtain rfl : j = i := by omega
            rw [hq]; exact hbb.out.symm)
        clear hG
        go_wp2_with (go_at_fn 97; refine cf.mono ?_; rintro e w2 ⟨rfl, hb2⟩)
        go_roundw
        case rel => exact ⟨i + 1, by go_num, by omega, below_call hT hb2, hN⟩
        case measure => simp [RowKit.intOf]; omega
      | false =>
        have hA : ps.all (insp m) = false := by
          rw [List.all_eq_false]
          exact ⟨ps[i]'hlt, List.getElem_mem hlt, by rw [hq, ← hbb.out]; simp⟩
        clear hG
        go_wp2_with (go_at_fn 97; refine cf.mono ?_; rintro e w2 ⟨rfl, hb2⟩)
        go_ret
        exact ⟨_, rfl, hid (by rw [hA]; exact decide_eq_true (by omega)), below_call hT hb2⟩
    · obtain rfl : i = ps.length := by omega
      have hA : ps.all (insp m) = true := by
        rw [List.all_eq_true]
        intro x hx
        obtain ⟨j, hj, rfl⟩ := List.getElem_of_mem hx
        exact hG.out j hj hj
      clear hG
      go_wp2_with fail
      go_ret
      exact ⟨_, rfl, hid (by rw [hA]; rfl), hT⟩

set_option maxHeartbeats 1000000 in
theorem asany_b (m : M3) (s l : Value) (c : Int) (k : Nat) (ps : List Pt) (v : Value) (b : Bool) (W : World) (hr : PsAt W v ps) (hg : Blk W k (grdL m s l c) 72) (e : Hid (b = ps.all (insp m))) :
    Calls Tryd.prog 96 #[v, .func (.func 97) #[] #[.pointer (some ⟨k, 0, none⟩)]] W fun e w' => e = .returned (.bool (!b)) ∧ Below W.heap.size W w' := by
  have hc := asidxf_b m s l c k ps v W hr hg
  obtain ⟨p, cap, rfl, _, _⟩ := id hr
  go_enter Tryd.func96, Tryd.ntmps96
  go_wp2_with (go_at_call 122; refine hc.mono ?_; rintro e w1 ⟨n, rfl, hn, hb1⟩)
  go_ret
  exact ⟨ret_bit (by rw [e.out]; exact hn.out), hb1⟩

set_option maxHeartbeats 2000000 in
theorem ascont_b (m : M3) (s l : Value) (c : Int) (ps : List Pt) (v : Value) (b : Bool) (W : World) (hr : PsAt W v ps) (e : Hid (b = ps.all (insp m))) :
    Calls Tryd.prog 56 #[.agg #[.int .i64 m.w, .int .i64 m.h, s, l, .int .i64 c], v] W fun e w' => e = .returned (.bool b) ∧ Below W.heap.size W w' := by
  have hmf : ∀ (fn : Fn) (first cap : Array Value) (w : World), (Instr.makeFunc fn first cap).run Tryd.prog w = .ok (.func fn first cap) w := fun _ _ _ _ => rfl
  have hT := Held1.start W [.int .i64 m.w, .int .i64 m.h, s, l, .int .i64 c] 72
  have hB := Blk.new W (grdL m s l c) 72
  have hca := asany_b m s l c W.heap.size ps v b _ (hr.below hT.old) hB e
  go_enter Tryd.func56, Tryd.ntmps56
  go_wp2_with (go_at_call 96; refine hca.mono ?_; rintro e w1 ⟨rfl, hb1⟩)
  go_ret
  refine ⟨ret_bit ?_, below_call hT.old hb1⟩
  cases b <;> rfl

end

section
open Go.RowKit Go.Lib Go.Shelf

/-- What the steps of a way cost together. -/
def sumC (m : M3) (bl : List Bool) (c : Int) : Pt → List Pt → Option Int
  | _, [] => some 0
  | p, q :: t => match stepC m bl c p q with
    | none => none
    | some w => (sumC m bl c q t).map (w + ·)
def costA (m : M3) (bl : List Bool) (c : Int) (ps : List Pt) : Int × Int :=
  if (validm m && classv c && !ps.isEmpty && ps.all (insp m)) = false then (0, 1) else
  match ps with
  | [] => (0, 1)
  | p :: t => if openv m bl c p.1 p.2 = false then (0, 9) else
    match sumC m bl c p t with
    | none => (0, 9)
    | some s => (s, 0)

set_option maxRecDepth 100000 in
set_option maxHeartbeats 8000000 in
theorem ascostw_b (m : M3) (sp : Option Addr) (sn sk : Nat) (bl : List Bool) (lp : Option Addr) (ln lk : Nat) (c : Int) (ps : List Pt) (v : Value) (r : Int × Int) (W : World) (hG : Gd W m (.slice sp sn sk) bl (.slice lp ln lk)) (hr : PsAt W v ps) (hs : ps.length ≤ 100000) (hA : Hid (r = costA m bl c ps)) :
    Calls Tryd.prog 18 #[.agg #[.int .i64 m.w, .int .i64 m.h, .slice sp sn sk], .slice lp ln lk, .int .i64 c, v] W fun e w' => e = .returned (.tuple #[.int .i64 r.1, .int .i64 r.2]) ∧ Below W.heap.size W w' := by
  obtain ⟨b1, h1⟩ : ∃ b1, Hid (b1 = (validm m && classv c)) := ⟨_, hid rfl⟩
  obtain ⟨b2, h2⟩ : ∃ b2, Hid (b2 = ps.all (insp m)) := ⟨_, hid rfl⟩
  have hK := (((Keep.nil W).alloc [.int .i64 m.w, .int .i64 m.h, .slice sp sn sk] 24)).alloc [.int .i64 m.w, .int .i64 m.h, .slice sp sn sk, .slice lp ln lk, .int .i64 c] 72
  simp only [World.size_alloc] at hK
  obtain ⟨p, cap, rfl, hc1, hm, hc⟩ := id hr
  go_enter Tryd.func18, Tryd.ntmps18
  go_upto_region 2 with fail
  obtain ⟨X, hX⟩ : ∃ X, X = (W.alloc (.cells [Value.int .i64 m.w, .int .i64 m.h, .slice sp sn sk].toArray 24)).alloc (.cells [Value.int .i64 m.w, .int .i64 m.h, .slice sp sn sk, .slice lp ln lk, .int .i64 c].toArray 72) := ⟨_, rfl⟩
  rw [← hX] at hK ⊢
  clear hX
  obtain ⟨k1, e1⟩ : ∃ k1, k1 = W.heap.size + 1 := ⟨_, rfl⟩
  have z1 : Blk X k1 (grdL m (.slice sp sn sk) (.slice lp ln lk) c) 72 := (hK.blks (W.heap.size + 1, grdL m (.slice sp sn sk) (.slice lp ln lk) c, 72) (by simp)).at e1.symm
  have hWX := hK.old
  rw [← e1]
  clear hK e1
  have q0 := z1.cell 0
  have q1 := z1.cell 1
  have q2 := z1.cell 2
  have q3 := z1.cell 3
  have q4 := z1.cell 4
  simp only [List.getElem?_cons_zero, List.getElem?_cons_succ] at q0 q1 q2 q3 q4
  go_wp2_with fail
  ((with_reducible refine (asvalid_b m (.slice sp sn sk) (.slice lp ln lk) c b1 X (hG.row.below hWX) h1).mono ?_); rintro e w1 ⟨rfl, hb1⟩)
  replace z1 := z1.below hb1
  have hW1 := below_call hWX hb1
  clear hb1 q0 q1 q2 q3 q4
  have q0 := z1.cell 0
  have q1 := z1.cell 1
  have q2 := z1.cell 2
  have q3 := z1.cell 3
  have q4 := z1.cell 4
  simp only [List.getElem?_cons_zero, List.getElem?_cons_succ] at q0 q1 q2 q3 q4
  cases b1 with
  | false =>
    have hr1 : r = (0, 1) := by rw [hA.out]; unfold costA; rw [← h1.out]; rfl
    subst hr1
    go_wp2_with fail
    go_ret2
    exact ⟨rfl, hW1⟩
  | true =>
    have hf := classv_of h1.out.symm
    have hcl := formed_len hf
    have ok := nb_ok hf bl c
    rcases (show ps = [] ∨ ∃ p0 t, Hid (ps = p0 :: t) by cases ps with | nil => exact .inl rfl | cons a t => exact .inr ⟨a, t, hid rfl⟩) with hps | ⟨p0, t, hps⟩
    · subst hps
      have hr1 : r = (0, 1) := by rw [hA.out]; unfold costA; simp
      subst hr1
      clear hc
      go_wp2_with fail
      go_ret2
      exact ⟨rfl, hW1⟩
    · have hlen : Hid (ps.length = t.length + 1) := hid (by rw [hps.out]; rfl)
      have hl0 : ((ps.length : Int) == 0) = false := beq_eq_false_iff_ne.2 (by have := hlen.out; omega)
      obtain ⟨g, o, rfl, hk, hat⟩ := hc (by have := hlen.out; omega)
      have cc := ascont_b m (.slice sp sn sk) (.slice lp ln lk) c ps _ b2 w1 (hr.below hW1) h2
      go_wp2_with fail
      ((with_reducible refine cc.mono ?_); rintro e w2 ⟨rfl, hb2⟩)
      replace z1 := z1.below hb2
      have hW2 := below_call hW1 hb2
      clear hb2 q0 q1 q2 q3 q4 cc hc
      have q0 := z1.cell 0
      have q1 := z1.cell 1
      have q2 := z1.cell 2
      have q3 := z1.cell 3
      have q4 := z1.cell 4
      simp only [List.getElem?_cons_zero, List.getElem?_cons_succ] at q0 q1 q2 q3 q4
      cases b2 with
      | false =>
        have hr1 : r = (0, 1) := by rw [hA.out]; unfold costA; rw [← h2.out, Bool.and_false]; rfl
        subst hr1
        clear hat
        go_wp2_with fail
        go_ret2
        exact ⟨rfl, hW2⟩
      | true =>
        have hrB : Hid (r = if openv m bl c p0.1 p0.2 = false then ((0, 9) : Int × Int) else match sumC m bl c p0 t with | none => (0, 9) | some s => (s, 0)) := hid (by
          rw [hA.out]; unfold costA; rw [← h2.out, ← h1.out, hps.out]; rfl)
        obtain ⟨b4, h4⟩ : ∃ b4, Hid (b4 = openv m bl c p0.1 p0.2) := ⟨_, hid rfl⟩
        have hne : ¬ ps = [] := by rw [hps.out]; exact List.cons_ne_nil _ _
        have hat0 := hat 0 (by have := hlen.out; omega)
        have hp0 : ps[0]'(by have := hlen.out; omega) = p0 := by simp [hps.out]
        rw [hp0] at hat0
        simp only [Nat.zero_mul, Nat.add_zero] at hat0
        obtain ⟨a1, a2⟩ := hat0
        rw [← hW2.cell (p := ⟨g, _, none⟩) hk] at a1 a2
        have hk3 : g < w2.heap.size := by have := hW2.size; omega
        have cf := fun w (hS : Below w2.heap.size w2 w) => asfree_b m (.slice sp sn sk) bl (.slice lp ln lk) c p0.1 p0.2 b4 w (hG.below (below_call hW2 hS)) h4
        have hmx : Tryd.prog.follows .mixedOrders = true := by kernel_rfl
        go_upto_region 4 with fail
        refine wp_onlyN (wp_region_held (S := fun w' => Below w2.heap.size w2 w') hmx ?_)
        show wpAnyH _ _ _ _ _ _ _ _ w2.drew
        have hS0 := (Below.refl w2.heap.size w2).drew
        refine reg_tk (i := 0) (v := .agg #[.int .i64 m.w, .int .i64 m.h, .slice sp sn sk, .slice lp ln lk, .int .i64 c]) (some 34) rfl (fun w' hS => by (have q0 := (z1.below hS).cell 0; have q1 := (z1.below hS).cell 1; have q2 := (z1.below hS).cell 2; have q3 := (z1.below hS).cell 3; have q4 := (z1.below hS).cell 4); go_simp) hS0 ?_
        try simp only [Act.put, List.setIfInBounds_toArray, List.set_cons_zero, List.set_cons_succ]
        refine reg_tk (i := 1) (v := .slice (some ⟨g, o, none⟩) ps.length cap) (some 35) rfl (fun w' hS => by (skip); go_simp) hS0 ?_
        try simp only [Act.put, List.setIfInBounds_toArray, List.set_cons_zero, List.set_cons_succ]
        refine reg_tk (i := 2) (v := .pointer (some ⟨g, o, none⟩)) (some 36) rfl (fun w' hS => by (skip); go_simp) hS0 ?_
        try simp only [Act.put, List.setIfInBounds_toArray, List.set_cons_zero, List.set_cons_succ]
        refine reg_tk (i := 3) (v := .agg #[.int .i64 p0.1, .int .i64 p0.2]) (some 37) rfl (fun w' hS => by (have q0 := (hS.cell (p := ⟨g, o, none⟩) hk3).trans a1; have q1 := (hS.cell (p := ⟨g, o + 1, none⟩) hk3).trans a2); go_simp) hS0 ?_
        try simp only [Act.put, List.setIfInBounds_toArray, List.set_cons_zero, List.set_cons_succ]
        refine held_one (i := 4) (by kernel_rfl) rfl (fun K hQ => ?_)
        go_simp
        ((with_reducible refine (cf _ hS0).mono ?_); rintro e w4 ⟨rfl, hb4⟩)
        have hS1 := below_call hS0 hb4
        clear hb4
        refine hQ.out _ _ hS1 ?_
        clear hQ
        try simp only [Act.put, List.setIfInBounds_toArray, List.set_cons_zero, List.set_cons_succ]
        refine reg_tk (i := 5) (v := .bool (!b4)) (some 39) rfl (fun w' hS => by (skip); go_simp) hS1 ?_
        try simp only [Act.put, List.setIfInBounds_toArray, List.set_cons_zero, List.set_cons_succ]
        refine wpAnyH_done (by kernel_rfl) ?_ _
        simp only [onlyN]
        replace z1 := z1.below hS1
        have hW4 := below_call hW2 hS1
        clear hS0 hS1 cf a1 a2 q0 q1 q2 q3 q4
        cases b4 with
        | false =>
          have hr1 : r = (0, 9) := by rw [hrB.out, ← h4.out]; rfl
          subst hr1
          clear hat
          go_wp2_with fail
          go_ret2
          exact ⟨rfl, hW4⟩
        | true =>
          have hrC : Hid (r = match sumC m bl c p0 t with | none => ((0, 9) : Int × Int) | some s => (s, 0)) := hid (by rw [hrB.out, ← h4.out]; rfl)
          clear hrB hA
          have d1 : (1 : Int) ≤ (ps.length : Int) := by have := hlen.out; omega
          have n1 : IntKind.i64.wrap ((ps.length : Int) - 1) = (t.length : Int) := by have := hlen.out; unfold maxLen at hm; rw [IntWalk.i64_in _ (by omega)]; omega
          by_cases hcap : cap = 1
          · have ht : t = [] := List.eq_nil_of_length_eq_zero (by have := hlen.out; omega)
            have hl1 : ps.length = 1 := by have := hlen.out; omega
            have hr1 : r = (0, 0) := by rw [hrC.out, ht]; rfl
            subst hr1
            subst hcap
            clear hat hrC hp0
            go_upto_region 8 with fail
            go_loopw [11, 43] (fun yt y wr => yt = .int .i64 0 ∧ y = .int .i64 0 ∧ Below W.heap.size W wr) (fun _ _ _ => 0)
            case atStart => exact ⟨rfl, rfl, hW4⟩
            case round =>
              obtain ⟨rfl, rfl, hWr⟩ := hrel
              have hl2 : ps.length - 1 = 0 := by omega
              go_wp2_with fail
              go_ret2
              exact ⟨rfl, hWr⟩
          · have hcap2 : Hid (2 ≤ cap) := hid (by have := hlen.out; omega)
            obtain ⟨nt, hnt⟩ : ∃ nt, Hid (nt = ps.length - 1) := ⟨_, hid rfl⟩
            go_upto_region 8 with fail
            rw [← hnt.out]
            go_loopw [11, 43] (fun yt yi wr => ∃ (i : Nat) (tot : Int) (a : Pt), yt = .int .i64 tot ∧ yi = .int .i64 i ∧ i ≤ nt ∧ ps[i]? = some a ∧ Hid (sumC m bl c p0 t = (sumC m bl c a (ps.drop (i + 1))).map (tot + ·)) ∧ (0 ≤ tot ∧ tot ≤ 19 * (i : Int)) ∧ Below W.heap.size W wr ∧ Blk wr k1 (grdL m (.slice sp sn sk) (.slice lp ln lk) c) 72) (fun _ yi _ => nt - (RowKit.intOf yi).toNat)
            case atStart => exact ⟨0, 0, p0, rfl, rfl, Nat.zero_le _, by rw [hps.out]; rfl, hid (by rw [hps.out]; show sumC m bl c p0 t = (sumC m bl c p0 t).map (0 + ·); simp), by omega, hW4, z1⟩
            case round =>
              clear z1 hW4
              obtain ⟨i, tot, a, rfl, rfl, hi, hia, hsum, htot, hWr, z1⟩ := hrel
              by_cases hlt : i < nt
              · have hnl : nt = ps.length - 1 := hnt.out
                have hi1 : i + 1 < ps.length := by omega
                obtain ⟨q, hq⟩ : ∃ q, q = ps[i + 1]'hi1 := ⟨_, rfl⟩
                have hdr : ps.drop (i + 1) = q :: ps.drop (i + 2) := by rw [hq]; exact List.drop_eq_getElem_cons hi1
                have hqq : ps[i + 1]? = some q := by rw [List.getElem?_eq_getElem hi1, hq]
                have hca := hat i (by omega)
                have haa : ps[i]'(by omega) = a := by have := List.getElem?_eq_getElem (show i < ps.length by omega); rw [hia] at this; injection this with e; exact e.symm
                rw [haa] at hca
                have hcq := hat (i + 1) hi1
                rw [← hq, show o + (i + 1) * 2 = o + 2 + i * 2 by omega] at hcq
                obtain ⟨a1, a2⟩ := hca
                obtain ⟨c1, c2⟩ := hcq
                rw [← hWr.cell (p := ⟨g, _, none⟩) hk] at a1 a2 c1 c2
                have hkr : g < wr.heap.size := by have := hWr.size; omega
                have ip : (0 : Int) ≤ (i : Int) := by omega
                have ipn : (i : Int) < (nt : Int) := by omega
                have ipl : (i : Int) < (ps.length : Int) := by omega
                have z9 : decide ((i : Int) < (nt : Int)) = true := decide_eq_true ipn
                obtain ⟨kw, b5, hst⟩ : ∃ kw b5, Hid (((kw, b5) : Int × Bool) = match stepC m bl c a q with | some w => (w, true) | none => (0, false)) := ⟨_, _, hid rfl⟩
                have hkw : 0 ≤ kw ∧ kw ≤ 19 := by
                  have h := hst.out
                  cases h5 : stepC m bl c a q with
                  | none => rw [h5] at h; injection h with h _; omega
                  | some w =>
                    rw [h5] at h
                    injection h with h _
                    unfold stepC at h5
                    cases h6 : (nbp m bl c a).find? fun x => decide (x.1 = q) with
                    | none => rw [h6] at h5; cases h5
                    | some x =>
                      rw [h6] at h5
                      injection h5 with h5
                      have h7 : x.2 = w := h5
                      have := nbp_w (List.mem_of_find?_eq_some h6)
                      omega
                clear hnl hq haa
                replace hdr := hid hdr
                go_upto_region 10 with fail
                have hX5 := (Below.refl wr.heap.size wr).alloc (Nat.le_refl _) (.cells [Value.int .i64 q.1, .int .i64 q.2].toArray 27)
                have zq := Blk.new wr (ptL q) 27
                obtain ⟨w5, hw5⟩ : ∃ w5, w5 = wr.alloc (.cells [Value.int .i64 q.1, .int .i64 q.2].toArray 27) := ⟨_, rfl⟩
                rw [← hw5] at hX5 ⊢
                rw [show wr.alloc (.cells (ptL q).toArray 27) = w5 from hw5.symm] at zq
                clear hw5
                obtain ⟨bq, hbq⟩ : ∃ bq, bq = wr.heap.size := ⟨_, rfl⟩
                rw [← hbq] at zq ⊢
                have z1' := z1.below hX5
                have hW5 := below_call hWr hX5
                have hk5 : g < w5.heap.size := by have := hX5.size; omega
                rw [← hX5.cell (p := ⟨g, _, none⟩) hkr] at a1 a2
                have nadd : IntKind.i64.wrap ((i : Int) + 1) = ((i + 1 : Nat) : Int) := by rw [IntWalk.i64_in _ (by have := hnt.out; omega)]; simp
                have nsum : IntKind.i64.wrap (tot + kw) = tot + kw := IntWalk.i64_in _ (by have := hnt.out; omega)
                clear c1 c2 hX5 hbq z1
                have cs := fun w (hS : Below w5.heap.size w5 w) => ascost_b m (.slice sp sn sk) bl (.slice lp ln lk) c a q kw b5 w (hG.below (below_call hW5 hS)) hst
                refine wp_region_held (S := fun w' => Below w5.heap.size w5 w') hmx ?_
                show wpAnyH _ _ _ _ _ _ _ _ w5.drew
                have hS0 := (Below.refl w5.heap.size w5).drew
                refine reg_tk (i := 0) (v := .agg #[.int .i64 m.w, .int .i64 m.h, .slice sp sn sk, .slice lp ln lk, .int .i64 c]) (some 49) rfl (fun w' hS => by (have q0 := (z1'.below hS).cell 0; have q1 := (z1'.below hS).cell 1; have q2 := (z1'.below hS).cell 2; have q3 := (z1'.below hS).cell 3; have q4 := (z1'.below hS).cell 4); go_simp) hS0 ?_
                try simp only [Act.put, List.setIfInBounds_toArray, List.set_cons_zero, List.set_cons_succ]
                refine reg_tk (i := 1) (v := .slice (some ⟨g, o, none⟩) ps.length cap) (some 50) rfl (fun w' hS => by (skip); go_simp) hS0 ?_
                try simp only [Act.put, List.setIfInBounds_toArray, List.set_cons_zero, List.set_cons_succ]
                refine reg_tk (i := 2) (v := .int .i64 i) (some 51) rfl (fun w' hS => by (skip); go_simp) hS0 ?_
                try simp only [Act.put, List.setIfInBounds_toArray, List.set_cons_zero, List.set_cons_succ]
                refine reg_tk (i := 3) (v := .pointer (some ⟨g, o + i * 2, none⟩)) (some 52) rfl (fun w' hS => by (skip); go_simp) hS0 ?_
                try simp only [Act.put, List.setIfInBounds_toArray, List.set_cons_zero, List.set_cons_succ]
                refine reg_tk (i := 4) (v := .agg #[.int .i64 a.1, .int .i64 a.2]) (some 53) rfl (fun w' hS => by (have q0 := (hS.cell (p := ⟨g, o + i * 2, none⟩) hk5).trans a1; have q1 := (hS.cell (p := ⟨g, o + i * 2 + 1, none⟩) hk5).trans a2); go_simp) hS0 ?_
                try simp only [Act.put, List.setIfInBounds_toArray, List.set_cons_zero, List.set_cons_succ]
                refine reg_tk (i := 5) (v := .agg #[.int .i64 q.1, .int .i64 q.2]) (some 54) rfl (fun w' hS => by (have q0 := (zq.below hS).cell 0; have q1 := (zq.below hS).cell 1); go_simp) hS0 ?_
                try simp only [Act.put, List.setIfInBounds_toArray, List.set_cons_zero, List.set_cons_succ]
                refine held_one (i := 6) (by kernel_rfl) rfl (fun K hQ => ?_)
                go_simp
                ((with_reducible refine (cs _ hS0).mono ?_); rintro e w6 ⟨rfl, hb6⟩)
                have hS1 := below_call hS0 hb6
                clear hb6
                refine hQ.out _ _ hS1 ?_
                clear hQ
                try simp only [Act.put, List.setIfInBounds_toArray, List.set_cons_zero, List.set_cons_succ]
                refine reg_tk (i := 7) (v := .tuple #[.int .i64 kw, .bool b5]) (some 48) rfl (fun w' hS => by (skip); go_simp) hS1 ?_
                try simp only [Act.put, List.setIfInBounds_toArray, List.set_cons_zero, List.set_cons_succ]
                refine reg_tk (i := 8) (v := .int .i64 kw) (some 56) rfl (fun w' hS => by (skip); go_simp) hS1 ?_
                try simp only [Act.put, List.setIfInBounds_toArray, List.set_cons_zero, List.set_cons_succ]
                refine reg_tk (i := 9) (v := .bool b5) (some 57) rfl (fun w' hS => by (skip); go_simp) hS1 ?_
                try simp only [Act.put, List.setIfInBounds_toArray, List.set_cons_zero, List.set_cons_succ]
                refine reg_tk (i := 10) (v := .int .i64 kw) (some 14) rfl (fun w' hS => by (skip); go_simp) hS1 ?_
                try simp only [Act.put, List.setIfInBounds_toArray, List.set_cons_zero, List.set_cons_succ]
                refine reg_tk (i := 11) (v := .bool b5) (some 15) rfl (fun w' hS => by (skip); go_simp) hS1 ?_
                try simp only [Act.put, List.setIfInBounds_toArray, List.set_cons_zero, List.set_cons_succ]
                refine wpAnyH_done (by kernel_rfl) ?_ _
                try simp only [onlyN]
                replace z1' := z1'.below hS1
                have hW6 := below_call hW5 hS1
                clear hS0 hS1 cs a1 a2 zq hW5
                cases b5 with
                | false =>
                  have hno : stepC m bl c a q = none := by
                    have h := hst.out
                    cases h5 : stepC m bl c a q with
                    | none => rfl
                    | some w => rw [h5] at h; injection h with _ h; cases h
                  have hr1 : r = (0, 9) := by rw [hrC.out, hsum.out, hdr.out]; simp only [sumC]; rw [hno]; rfl
                  subst hr1
                  clear hat hrC hsum hst hno
                  go_wp2_with fail
                  go_ret2
                  exact ⟨rfl, hW6⟩
                | true =>
                  have hyes : stepC m bl c a q = some kw := by
                    have h := hst.out
                    cases h5 : stepC m bl c a q with
                    | none => rw [h5] at h; injection h with _ h; cases h
                    | some w => rw [h5] at h; injection h with h _; rw [h]
                  have hsn : Hid (sumC m bl c p0 t = (sumC m bl c q (ps.drop (i + 1 + 1))).map (tot + kw + ·)) := hid (by
                    rw [hsum.out, hdr.out]; simp only [sumC]; rw [hyes]
                    cases sumC m bl c q (ps.drop (i + 2)) with
                    | none => rfl
                    | some z => simp [Int.add_assoc])
                  clear hat hrC hsum hst hyes
                  go_wp2_with fail
                  have hcast : Value.int .i64 ((i : Int) + 1) = Value.int .i64 ((i + 1 : Nat) : Int) := by push_cast; rfl
                  have hmeas : nt - (RowKit.intOf (Value.int .i64 ((i : Int) + 1))).toNat < nt - (RowKit.intOf (Value.int .i64 (i : Int))).toNat := by simp [RowKit.intOf]; omega
                  refine ⟨⟨_, _, _, _, _, _, _, _, _, _, _, _, _, _, _, _, _, _, _, _, _, _, _, _, _, _, _, _, ⟨i + 1, tot + kw, q, rfl, hcast, by omega, hqq, hsn, by push_cast; omega, hW6, z1'⟩, rfl⟩, hmeas⟩
              · obtain rfl : i = nt := by omega
                have z9 : decide ((i : Int) < (i : Int)) = false := decide_eq_false (by omega)
                have hr1 : r = (tot, 0) := by
                  rw [hrC.out, hsum.out, List.drop_eq_nil_of_le (by have := hnt.out; have := hlen.out; omega)]
                  show (match (sumC m bl c a []).map (tot + ·) with | none => ((0, 9) : Int × Int) | some s => (s, 0)) = (tot, 0)
                  simp [sumC]
                subst hr1
                clear hat hrC hsum
                go_wp2_with fail
                go_ret2
                exact ⟨rfl, hWr⟩

end

end Go.Proofs.YtmbadkgeoealoaaDoor
