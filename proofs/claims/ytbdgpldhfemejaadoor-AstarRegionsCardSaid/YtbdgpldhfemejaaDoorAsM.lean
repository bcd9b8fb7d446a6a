/-
  astar as landed at 35fbd81: a region is filled.
-/
import Derived.Test.YtbdgpldhfemejaaDoorAsL
namespace Go.Proofs.YtbdgpldhfemejaaDoor
open Go.RowKit Go.Lib Go.Shelf

attribute [local go_sem] Oper.semAt_some

def FillP (m : M3) (bl : List Bool) (c : Int) (i rb : Nat) (R0 : List Int) (W w' : World) : Prop := ∃ R, Blk w' rb (ints R) 3 ∧ Fill (nb m bl c) m.cs.length i R0 R [] (fun _ => False) ∧ Foot (fun b => b = rb) W (fun b => b = rb) w'

set_option maxRecDepth 100000 in
set_option maxHeartbeats 8000000 in
theorem asfill_b (m : M3) (s : Value) (bl : List Bool) (l : Value) (c : Int) (i rb n : Nat) (R0 : List Int) (V W : World) (hG : Gd V m s bl l) (hV : Below V.heap.size V W) (hVr : V.heap.size ≤ rb) (hf : formedv m = true) (hi : i < m.cs.length) (hn : Hid (m.cs.length = n))
    (hR : Blk W rb (ints R0) 3) (hRl : R0.length = m.cs.length) (hRi : ga R0 i = -1) :
    Calls Tryd.prog 42 #[.agg #[.int .i64 m.w, .int .i64 m.h, s, l, .int .i64 c], .slice (some ⟨rb, 0, none⟩) n n, .agg #[.int .i64 (posn m i).1, .int .i64 (posn m i).2], .int .i64 i] W fun e w' => e = .returned (.tuple #[]) ∧ FillP m bl c i rb R0 W w' := by
  have hcl := formed_len hf
  have ok := nb_ok hf bl c
  obtain ⟨i1, hj0, hy0, hy1, hy2⟩ := info_cut infoPosA
  have hK := (((((Keep.nil W).alloc [.int .i64 m.w, .int .i64 m.h, s, l, .int .i64 c] 46).alloc [.slice (some ⟨rb, 0, none⟩) n n] 41).alloc [.int .i64 (posn m i).1, .int .i64 (posn m i).2] 27).alloc [.int .i64 i] 3)
  simp only [World.size_alloc] at hK
  obtain ⟨X, hX⟩ : ∃ X, X = ((((W.alloc (.cells [Value.int .i64 m.w, .int .i64 m.h, s, l, .int .i64 c].toArray 46)).alloc (.cells [.slice (some ⟨rb, 0, none⟩) n n].toArray 41)).alloc (.cells [Value.int .i64 (posn m i).1, .int .i64 (posn m i).2].toArray 27)).alloc (.cells [Value.int .i64 i].toArray 3)) := ⟨_, rfl⟩
  have hsz : X.heap.size = W.heap.size + 4 := by rw [hX]; simp
  rw [← hX] at hK
  refine callsIn_wide (n := 9).1 ?_
  refine callsIn_of_wp_marks Tryd.func42 rfl trivial ?_ rfl
  simp only [Tryd.ntmps42, List.size_toArray, List.length_cons, List.length_nil, Nat.reduceAdd, Nat.reduceSub, Array.replicate_succ, Array.replicate_zero, List.push_toArray, List.append_toArray, List.nil_append, List.cons_append]
  have hmx : Tryd.prog.follows .mixedOrders = true := by kernel_rfl
  have ci := fun w => asidx_b m s l c (posn m i) i w hf (idx_posn hf hi).2 (hid (idx_posn hf hi).1.symm)
  have diE : (ints R0)[i]? = some (.int .i64 (-1)) := by rw [ints_at (by rw [hRl]; exact hi), hRi]
  have iN : (i : Int) < (n : Int) := by have := hn.out; omega
  have ip : (0 : Int) ≤ (i : Int) := by omega
  have hW1 : Below W.heap.size W X := hK.old
  obtain ⟨c3, h3⟩ : ∃ c3, c3 = W.heap.size + 1 + 1 + 1 := ⟨_, rfl⟩
  obtain ⟨c2, h2⟩ : ∃ c2, c2 = W.heap.size + 1 + 1 := ⟨_, rfl⟩
  obtain ⟨c1, h1⟩ : ∃ c1, c1 = W.heap.size + 1 := ⟨_, rfl⟩
  obtain ⟨c0, h0⟩ : ∃ c0, c0 = W.heap.size := ⟨_, rfl⟩
  have z0 : Blk X c0 (grdL m s l c) 46 := (hK.blks (W.heap.size, grdL m s l c, 46) (by simp)).at h0.symm
  have z1 : Blk X c1 [.slice (some ⟨rb, 0, none⟩) n n] 41 := (hK.blks (W.heap.size + 1, [.slice (some ⟨rb, 0, none⟩) n n], 41) (by simp)).at h1.symm
  have z2 : Blk X c2 (ptL (posn m i)) 27 := (hK.blks (W.heap.size + 1 + 1, ptL (posn m i), 27) (by simp)).at h2.symm
  have z3 : Blk X c3 [.int .i64 i] 3 := (hK.blks (W.heap.size + 1 + 1 + 1, [.int .i64 i], 3) (by simp)).at h3.symm
  have kk : W.heap.size ≤ c0 ∧ c0 < c1 ∧ c1 < c2 ∧ c2 < c3 ∧ c3 < X.heap.size := by omega
  have hrbl := hR.lt
  refine wpIn_seq ?_
  gi_wp2
  rw [← hX, ← h3, ← h2, ← h1, ← h0]
  clear hX hsz h0 h1 h2 h3 hK
  refine wide_region (wp_onlyN (wp_region_any hmx (wpAny_of_late (lt := (fun x => x == 6)) (S := fun w' => Below X.heap.size X w') _ _ _ _ ?_)))
  show wpAnyM _ _ _ _ _ _ _ _ _ X.drew
  have hS0 := (Below.refl X.heap.size X).drew
  refine late_tk (lt := (fun x => x == 6)) (i := 0) (v := .slice (some ⟨rb, 0, none⟩) n n) (some 12) rfl (fun w' hS => by (have q0 := (z1.below hS).cell 0); go_simp) hS0 ?_
  try simp only [Act.put, List.setIfInBounds_toArray, List.set_cons_zero, List.set_cons_succ]
  refine late_tk (lt := (fun x => x == 6)) (i := 1) (v := .agg #[.int .i64 m.w, .int .i64 m.h, s, l, .int .i64 c]) (some 13) rfl (fun w' hS => by (have q0 := (z0.below hS).cell 0; have q1 := (z0.below hS).cell 1; have q2 := (z0.below hS).cell 2; have q3 := (z0.below hS).cell 3; have q4 := (z0.below hS).cell 4); go_simp) hS0 ?_
  try simp only [Act.put, List.setIfInBounds_toArray, List.set_cons_zero, List.set_cons_succ]
  refine late_tk (lt := (fun x => x == 6)) (i := 2) (v := .agg #[.int .i64 (posn m i).1, .int .i64 (posn m i).2]) (some 14) rfl (fun w' hS => by (have q0 := (z2.below hS).cell 0; have q1 := (z2.below hS).cell 1); go_simp) hS0 ?_
  try simp only [Act.put, List.setIfInBounds_toArray, List.set_cons_zero, List.set_cons_succ]
  refine late_tk (lt := (fun x => x == 6)) (i := 4) (v := .int .i64 i) (some 16) rfl (fun w' hS => by (have q0 := (z3.below hS).cell 0); go_simp) hS0 ?_
  try simp only [Act.put, List.setIfInBounds_toArray, List.set_cons_zero, List.set_cons_succ]
  refine late_one (i := 3) (by kernel_rfl) rfl (fun K hQ => ?_)
  go_simp
  ((with_reducible refine (ci _).mono ?_); rintro e w1 ⟨rfl, hb1⟩)
  have hS1 := below_call hS0 hb1
  clear hb1
  refine hQ.out _ _ (fun _ => hS1) ?_
  clear hQ
  try simp only [Act.put, List.setIfInBounds_toArray, List.set_cons_zero, List.set_cons_succ]
  refine late_tk (lt := (fun x => x == 6)) (i := 5) (v := .pointer (some ⟨rb, i, none⟩)) (some 17) rfl (fun w' hS => by (skip); go_simp) hS1 ?_
  try simp only [Act.put, List.setIfInBounds_toArray, List.set_cons_zero, List.set_cons_succ]
  have qc := (hR.below hW1).below hS1
  have qc0 := qc.cell i
  rw [diE] at qc0
  have qf := qc.frozen i
  refine late_one (i := 6) (by kernel_rfl) rfl (fun K hQ => ?_)
  go_simp
  refine hQ.out _ _ (fun h => by cases h) ?_
  clear hQ
  try simp only [Act.put, List.setIfInBounds_toArray, List.set_cons_zero, List.set_cons_succ]
  refine late_done (by kernel_rfl) ?_ _
  simp only [onlyN]
  have hrb0 : rb < W.heap.size := hrbl
  have fst := Fill.start (nb := nb m bl c) hRl hi hRi
  have t0 : Blk (w1.setCell ⟨rb, i, none⟩ (.int .i64 i)) c0 (grdL m s l c) 46 := (z0.below hS1).far _ (by omega)
  have t1 : Blk (w1.setCell ⟨rb, i, none⟩ (.int .i64 i)) c1 [.slice (some ⟨rb, 0, none⟩) n n] 41 := (z1.below hS1).far _ (by omega)
  have t2 : Blk (w1.setCell ⟨rb, i, none⟩ (.int .i64 i)) c2 (ptL (posn m i)) 27 := (z2.below hS1).far _ (by omega)
  have t3 : Blk (w1.setCell ⟨rb, i, none⟩ (.int .i64 i)) c3 [.int .i64 i] 3 := (z3.below hS1).far _ (by omega)
  have tR : Blk (w1.setCell ⟨rb, i, none⟩ (.int .i64 i)) rb (ints (R0.set i i)) 3 := by rw [← ints_set]; exact qc.set i _
  have tW : Foot (fun b => b = rb) W (fun b => b = rb) (w1.setCell ⟨rb, i, none⟩ (.int .i64 i)) := (Foot.of_below (below_call hW1 hS1)).trans (Foot.set ⟨rb, i, none⟩ _ rfl)
  have ts : X.heap.size ≤ (w1.setCell ⟨rb, i, none⟩ (.int .i64 i)).heap.size := by have := hS1.size; simp [World.setCell]; omega
  generalize w1.setCell ⟨rb, i, none⟩ (.int .i64 i) = T at *
  clear hS0 hS1 z0 z1 z2 z3 qc qc0 qf hW1 ci diE hR
  have p0 := t2.cell 0
  have p1 := t2.cell 1
  simp only [List.getElem?_cons_zero, List.getElem?_cons_succ] at p0 p1
  gi_wp2
  have g1 := (Below.refl T.heap.size T).alloc (Nat.le_refl _) (.cells [Value.int .i64 (posn m i).1, .int .i64 (posn m i).2].toArray 27)
  have o1 : (T.alloc (.cells [Value.int .i64 (posn m i).1, .int .i64 (posn m i).2].toArray 27)).ownsRow T.heap.size 27 2 (.slice (some ⟨T.heap.size, 0, none⟩) 1 1) 1 [.int .i64 (posn m i).1, .int .i64 (posn m i).2] := World.ownsRow_lit T _ 1 (Nat.le_refl _) (by unfold maxLen; omega) rfl
  have g2 := (Below.refl (T.alloc (.cells [Value.int .i64 (posn m i).1, .int .i64 (posn m i).2].toArray 27)).heap.size _).alloc (Nat.le_refl _) (.cells [Value.slice (some ⟨T.heap.size, 0, none⟩) 1 1].toArray 32)
  have o2 := Blk.new (T.alloc (.cells [Value.int .i64 (posn m i).1, .int .i64 (posn m i).2].toArray 27)) [Value.slice (some ⟨T.heap.size, 0, none⟩) 1 1] 32
  replace o1 := own_below o1 g2
  rw [World.size_alloc] at o2
  have g3 := below_call g1 g2
  generalize (T.alloc (.cells [Value.int .i64 (posn m i).1, .int .i64 (posn m i).2].toArray 27)).alloc (.cells [Value.slice (some ⟨T.heap.size, 0, none⟩) 1 1].toArray 32) = X2 at *
  have s0 := t0.below g3
  have s1 := t1.below g3
  have s2 := t2.below g3
  have s3 := t3.below g3
  have sR := tR.below g3
  have hWX2 := tW.trans (Foot.of_below g3)
  obtain ⟨b8, hb8⟩ : ∃ b8, b8 = T.heap.size + 1 := ⟨_, rfl⟩
  rw [← hb8] at o2 ⊢
  have k8 : T.heap.size < b8 := by omega
  have hrT : rb < T.heap.size := tR.lt
  have hX2b : b8 < X2.heap.size := o2.lt
  clear hb8 g1 g2 g3 t0 t1 t2 t3 tR tW p0 p1
  generalize T.heap.size = B at *
  have st0 : FillS X2 m bl c i rb b8 B R0 (.slice (some ⟨B, 0, none⟩) 1 1) [i] (R0.set i i) (fun _ => False) := ⟨o2, o1, sR, fst⟩
  clear o1 o2 sR fst
  have hsum0 : cM1 (R0.set i i) + [i].length ≤ 1024 := by
    have h1 := cM1_set (R := R0) (i := i) (v := i) (by omega) hRi (by omega)
    have h2 : cM1 R0 ≤ R0.length := List.countP_le_length
    simp only [List.length_singleton]
    omega
  generalize hv0 : Value.slice (some ⟨B, 0, none⟩) 1 1 = v0 at *
  have hv0b : ∀ b, v0.ownBlock = some b → b = B := fun b hb => by rw [← hv0] at hb; simp [Value.ownBlock] at hb; exact hb.symm
  clear hv0
  refine wpIn_loop (fun a' w' => ∃ (u : Nat → Value) (ds : List Nat) (v : Value) (F : List Nat) (R : List Int), a' = { tmps := #[.agg #[.int .i64 m.w, .int .i64 m.h, s, l, .int .i64 c], .slice (some ⟨rb, 0, none⟩) n n, .agg #[.int .i64 (posn m i).1, .int .i64 (posn m i).2], .int .i64 i, .pointer (some ⟨c0, 0, none⟩), .pointer (some ⟨c1, 0, none⟩), .pointer (some ⟨c2, 0, none⟩), .pointer (some ⟨c3, 0, none⟩), .pointer (some ⟨b8, 0, none⟩), u 9, u 10, u 11, u 12, u 13, u 14, u 15, u 16, u 17, u 18, u 19, u 20, u 21, u 22, u 23, u 24, u 25, u 26, u 27, u 28, u 29, u 30, u 31, u 32, u 33, u 34, u 35, u 36, u 37, u 38, u 39, u 40, u 41, u 42, u 43, u 44, u 45, u 46, u 47, u 48, u 49, u 50, u 51, u 52, u 53], defers := marks ds } ∧ FillS w' m bl c i rb b8 B R0 v F R (fun _ => False) ∧ Foot (Fx rb b8 c2 v0) X2 (Fx rb b8 c2 v) w' ∧ cM1 R + F.length ≤ 1024 ∧ (∃ x y, Blk w' c2 [x, y] 27) ∧ ds.Nodup ∧ ∀ D ∈ ds, X2.heap.size ≤ D ∧ w'.heap[D]? = some (.deferred (some []))) (fun _ w' => fillMu rb b8 w') ?start ?round
  case start =>
    refine ⟨fun j => match j with | 12 => .slice (some ⟨rb, 0, none⟩) n n | 13 => .agg #[.int .i64 m.w, .int .i64 m.h, s, l, .int .i64 c] | 14 => .agg #[.int .i64 (posn m i).1, .int .i64 (posn m i).2] | 15 => .int .i64 i | 16 => .int .i64 i | 17 => .pointer (some ⟨rb, i, none⟩) | 18 => .agg #[.int .i64 (posn m i).1, .int .i64 (posn m i).2] | 19 => v0 | _ => undef, [], v0, [i], _, rfl, st0, Foot.refl _ _, hsum0, ⟨_, _, s2⟩, List.nodup_nil, fun D hD => by simp at hD⟩
  case round =>
    rintro a' wr ⟨u, ds, v, F, R, rfl, hS, hFt, hsum, ⟨x2, y2, hp⟩, hnd, hds⟩
    clear st0
    have hmu := hS.mu
    have nfx : ∀ b, b < B → b ≠ rb → b ≠ c2 → ¬ Fx rb b8 c2 v0 b := fun b h1 h2 h3 h => by
      rcases h with h | h | h | h
      · exact h2 h
      · omega
      · exact h3 h
      · have := hv0b b h; omega
    have y0 := hFt.blk s0 (nfx _ (by omega) (by omega) (by omega))
    have y1 := hFt.blk s1 (nfx _ (by omega) (by omega) (by omega))
    have y3 := hFt.blk s3 (nfx _ (by omega) (by omega) (by omega))
    have hFs := hFt.size
    obtain ⟨nF, hnF⟩ : ∃ nF, Hid (nF = F.length) := ⟨_, hid rfl⟩
    obtain ⟨q, cap, hve⟩ : ∃ q cap, v = .slice q nF cap := by
      rcases hS.row.2 with ⟨e, e2⟩ | ⟨g, cap, cur, e, _⟩
      · exact ⟨none, 0, by rw [e, hnF.out, e2]⟩
      · exact ⟨_, _, by rw [e, hnF.out]⟩
    subst hve
    have d0 := hS.box.cell 0
    simp only [List.getElem?_cons_zero] at d0
    have hFl : F.length ≤ 1024 := by omega
    have hnFl : nF ≤ 1024 := by rw [hnF.out]; exact hFl
    rcases List.eq_nil_or_concat F with hF | ⟨F', p, hF⟩
    · have hnF0 : nF = 0 := by rw [hnF.out, hF]; rfl
      subst hnF0
      have hfin : ∀ w', CSame X2.heap.size wr w' → FillP m bl c i rb R0 W w' := fun w' hc => by
        have hfil := hS.fil
        rw [hF] at hfil
        have hWs := hWX2.size
        refine ⟨R, hc.same rb _ hS.reg rfl, hfil, ⟨?_, ?_, ?_, ?_, fun b hb hne => ?_, fun b hb => .inl hb⟩⟩
        · exact hc.old.os.trans (hFt.os.trans hWX2.os)
        · exact hc.old.tape.trans (hFt.tape.trans hWX2.tape)
        · exact hc.old.output.trans (hFt.output.trans hWX2.output)
        · have := hc.old.size; omega
        · rw [hc.old.block b (by omega), hFt.same b (by omega) (fun h => ?_), hWX2.same b hb hne]
          rcases h with h | h | h | h
          · exact hne h
          · omega
          · omega
          · have := hv0b b h; omega
      clear hS hFt hWX2 hsum hmu
      gi_wp2
      exact leaves_marks (B := X2.heap.size) (.tuple #[]) (fun w => results_none rfl _ _ _) ds wr hnd hds (fun w' hc => ⟨rfl, hfin w' hc⟩)
    · rw [List.concat_eq_append] at hF
      obtain ⟨k, hkkH⟩ : ∃ k, Hid (k = F'.length) := ⟨_, hid rfl⟩
      have hkk := hkkH.out
      have hnkH : Hid (nF = k + 1) := hid (by rw [hnF.out, hF, hkk]; simp)
      have hnk := hnkH.out
      obtain ⟨gq, hq⟩ : ∃ gq, q = some ⟨gq, 0, none⟩ := by
        rcases hS.row.2 with ⟨e, e2⟩ | ⟨g, cap2, cur, e, _⟩
        · rw [← hnF.out] at e2; omega
        · injection e with e _ _; exact ⟨g, e⟩
      subst hq
      subst hF
      have hrow := hS.row
      rw [← hnF.out] at hrow
      have hgB := (hrow.lt gq rfl).1
      have hgl := (hrow.lt gq rfl).2
      have hpl := pls_last m F' p
      rw [← hkk] at hpl
      have pc0 := (hrow.cellAt (k * 2) (by omega)).trans hpl.1
      have pc1 := (hrow.cellAt (k * 2 + 1) (by omega)).trans hpl.2
      have hpop : wr.ownsRow B 27 2 (.slice (some ⟨gq, 0, none⟩) k cap) k (pls m F') := by
        rw [hnk, ← pls_snoc] at hrow
        exact ownsRow_pop (by rw [pls_len, hkk]) hrow
      have hgb8 : gq ≠ b8 := fun e => own_ne hrow hS.box (by decide) (by rw [e]; rfl)
      have hgc2 : gq ≠ c2 := by omega
      have hrb8 : rb ≠ b8 := by omega
      have hrc2 : rb ≠ c2 := by omega
      have hc28 : c2 ≠ b8 := by omega
      obtain ⟨hfp, hfpi, hfp0⟩ := hS.fil.pop
      have hpn : p < m.cs.length := by have := ga_lt (D := R) (q := p) (by omega); rw [hS.fil.len] at this; exact this
      have hsub : IntKind.i64.wrap ((nF : Int) - 1) = (k : Int) := by rw [hnk, IntWalk.i64_in _ (by push_cast; omega)]; push_cast; omega
      have hgt : decide ((0 : Int) < (nF : Int)) = true := decide_eq_true (by omega)
      have kp : (0 : Int) ≤ (k : Int) := by omega
      have kn : (k : Int) < (nF : Int) := by omega
      have kc : (k : Int) ≤ (cap : Int) := by
        have := hrow.2
        rcases this with ⟨e, _⟩ | ⟨g, cap2, cur, e, _, _, h5, _⟩
        · cases e
        · injection e with _ _ e; omega
      have hp4 := hp.two
      have hbx := hS.box
      have hreg := hS.reg
      have d8 := hbx.cell 0
      have e8 := hbx.frozen 0
      simp only [List.getElem?_cons_zero] at d8
      have kcn : ¬ cap < k := by omega
      clear hpl hkk hnk
      gi_wp2
      refine wide_region (wp_onlyN (wp_region_any hmx (wpAny_of_late (lt := (fun x => x == 8)) (S := fun w' => Blk w' b8 [.slice (some ⟨gq, 0, none⟩) nF cap] 32 ∧ w'.cell? ⟨gq, k * 2, none⟩ = some (.int .i64 (posn m p).1) ∧ w'.cell? ⟨gq, k * 2 + 1, none⟩ = some (.int .i64 (posn m p).2) ∧ ∃ x y, Blk w' c2 [x, y] 27) _ _ _ _ ?_)))
      show wpAnyM _ _ _ _ _ _ _ _ _ wr.drew
      have hS0 : Blk wr.drew b8 [.slice (some ⟨gq, 0, none⟩) nF cap] 32 ∧ wr.drew.cell? ⟨gq, k * 2, none⟩ = some (.int .i64 (posn m p).1) ∧ wr.drew.cell? ⟨gq, k * 2 + 1, none⟩ = some (.int .i64 (posn m p).2) ∧ ∃ x y, Blk wr.drew c2 [x, y] 27 := ⟨hbx, pc0, pc1, _, _, hp⟩
      have pc2 : (wr.drew.setCell ⟨c2, 0, none⟩ (.int .i64 (posn m p).1)).setCell ⟨c2, 1, none⟩ (.int .i64 (posn m p).2) = (wr.drew.setCell ⟨c2, 0, none⟩ (.int .i64 (posn m p).1)).setCell ⟨c2, 1, none⟩ (.int .i64 (posn m p).2) := rfl
      have hpd : Blk wr.drew c2 [x2, y2] 27 := hp
      obtain ⟨_, _, _, _⟩ := hpd.two
      have g5 : ((wr.drew.setCell ⟨c2, 0, none⟩ (.int .i64 (posn m p).1)).setCell ⟨c2, 1, none⟩ (.int .i64 (posn m p).2)).heap[gq]? = wr.heap[gq]? := (Below.heap_setCell _ ⟨c2, 1, none⟩ _ gq hgc2).trans (Below.heap_setCell _ ⟨c2, 0, none⟩ _ gq hgc2)
      have hS1 : Blk ((wr.drew.setCell ⟨c2, 0, none⟩ (.int .i64 (posn m p).1)).setCell ⟨c2, 1, none⟩ (.int .i64 (posn m p).2)) b8 [.slice (some ⟨gq, 0, none⟩) nF cap] 32 ∧ ((wr.drew.setCell ⟨c2, 0, none⟩ (.int .i64 (posn m p).1)).setCell ⟨c2, 1, none⟩ (.int .i64 (posn m p).2)).cell? ⟨gq, k * 2, none⟩ = some (.int .i64 (posn m p).1) ∧ ((wr.drew.setCell ⟨c2, 0, none⟩ (.int .i64 (posn m p).1)).setCell ⟨c2, 1, none⟩ (.int .i64 (posn m p).2)).cell? ⟨gq, k * 2 + 1, none⟩ = some (.int .i64 (posn m p).2) ∧ ∃ x y, Blk ((wr.drew.setCell ⟨c2, 0, none⟩ (.int .i64 (posn m p).1)).setCell ⟨c2, 1, none⟩ (.int .i64 (posn m p).2)) c2 [x, y] 27 :=
        ⟨(Blk.far (w := wr.drew) hbx _ (fun e => hc28 e.symm)).far _ (fun e => hc28 e.symm), (World.cell?_of_block (w := wr) g5).trans pc0, (World.cell?_of_block (w := wr) g5).trans pc1, _, _, hpd.put2 _ _⟩
      have hSk := hS
      clear hS
      refine late_tk (lt := (fun x => x == 8)) (i := 0) (v := .slice (some ⟨gq, 0, none⟩) nF cap) (some 26) rfl (fun w' hS => by (have q0 := hS.1.cell 0); go_simp) hS0 ?_
      try simp only [Act.put, List.setIfInBounds_toArray, List.set_cons_zero, List.set_cons_succ]
      refine late_tk (lt := (fun x => x == 8)) (i := 1) (v := .int .i64 k) (some 27) rfl (fun w' hS => by (skip); go_simp) hS0 ?_
      try simp only [Act.put, List.setIfInBounds_toArray, List.set_cons_zero, List.set_cons_succ]
      refine late_tk (lt := (fun x => x == 8)) (i := 2) (v := .pointer (some ⟨gq, k * 2, none⟩)) (some 28) rfl (fun w' hS => by (skip); go_simp) hS0 ?_
      try simp only [Act.put, List.setIfInBounds_toArray, List.set_cons_zero, List.set_cons_succ]
      refine late_tk (lt := (fun x => x == 8)) (i := 3) (v := .agg #[.int .i64 (posn m p).1, .int .i64 (posn m p).2]) (some 29) rfl (fun w' hS => by (have q0 := hS.2.1; have q1 := hS.2.2.1); go_simp) hS0 ?_
      try simp only [Act.put, List.setIfInBounds_toArray, List.set_cons_zero, List.set_cons_succ]
      refine late_tk (lt := (fun x => x == 8)) (i := 4) (v := .slice (some ⟨gq, 0, none⟩) nF cap) (some 30) rfl (fun w' hS => by (have q0 := hS.1.cell 0); go_simp) hS0 ?_
      try simp only [Act.put, List.setIfInBounds_toArray, List.set_cons_zero, List.set_cons_succ]
      refine late_tk (lt := (fun x => x == 8)) (i := 5) (v := .int .i64 k) (some 31) rfl (fun w' hS => by (skip); go_simp) hS0 ?_
      try simp only [Act.put, List.setIfInBounds_toArray, List.set_cons_zero, List.set_cons_succ]
      refine late_tk (lt := (fun x => x == 8)) (i := 6) (v := .slice (some ⟨gq, 0, none⟩) k cap) (some 32) rfl (fun w' hS => by (skip); go_simp) hS0 ?_
      try simp only [Act.put, List.setIfInBounds_toArray, List.set_cons_zero, List.set_cons_succ]
      refine late_one (i := 7) (by kernel_rfl) rfl (fun K hQ => ?_)
      go_simp
      refine hQ.out _ _ (fun _ => hS1) ?_
      clear hQ
      try simp only [Act.put, List.setIfInBounds_toArray, List.set_cons_zero, List.set_cons_succ]
      refine late_one (i := 8) (by kernel_rfl) rfl (fun K hQ => ?_)
      go_simp
      refine hQ.out _ _ (fun h => by cases h) ?_
      clear hQ
      try simp only [Act.put, List.setIfInBounds_toArray, List.set_cons_zero, List.set_cons_succ]
      refine late_done (by kernel_rfl) ?_ _
      simp only [onlyN]
      have hF5 : Foot (Fx rb b8 c2 (.slice (some ⟨gq, 0, none⟩) nF cap)) wr (Fx rb b8 c2 (.slice (some ⟨gq, 0, none⟩) k cap)) (((wr.setCell ⟨c2, 0, none⟩ (.int .i64 (posn m p).1)).setCell ⟨c2, 1, none⟩ (.int .i64 (posn m p).2)).setCell ⟨b8, 0, none⟩ (.slice (some ⟨gq, 0, none⟩) k cap)).drew :=
        (Foot.set (A := Fx rb b8 c2 (.slice (some ⟨gq, 0, none⟩) nF cap)) ⟨c2, 0, none⟩ _ (.inr (.inr (.inl rfl)))).trans ((Foot.set (A := Fx rb b8 c2 (.slice (some ⟨gq, 0, none⟩) nF cap)) ⟨c2, 1, none⟩ _ (.inr (.inr (.inl rfl)))).trans ((Foot.set (A := Fx rb b8 c2 (.slice (some ⟨gq, 0, none⟩) nF cap)) ⟨b8, 0, none⟩ _ (.inr (.inl rfl))).trans (Foot.drew (A := Fx rb b8 c2 (.slice (some ⟨gq, 0, none⟩) nF cap)))))
      have hds5 := fun D hD => (hSk.keeps hp hF5 0).same D _ (Nat.zero_le _) (hds D hD).2 rfl
      have box5 := (Blk.set (Blk.far (w := _) (Blk.far (w := wr) hbx (c := c2) (i := 0) (.int .i64 (posn m p).1) (fun e => hc28 e.symm)) (c := c2) (i := 1) (.int .i64 (posn m p).2) (fun e => hc28 e.symm)) 0 (.slice (some ⟨gq, 0, none⟩) k cap)).drew
      have reg5 := (Blk.far (w := _) (Blk.far (w := _) (Blk.far (w := wr) hreg (c := c2) (i := 0) (.int .i64 (posn m p).1) hrc2) (c := c2) (i := 1) (.int .i64 (posn m p).2) hrc2) (c := b8) (i := 0) (.slice (some ⟨gq, 0, none⟩) k cap) hrb8).drew
      have z2 := (Blk.far (w := _) (Blk.put2 (W := wr) hp (.int .i64 (posn m p).1) (.int .i64 (posn m p).2)) (c := b8) (i := 0) (.slice (some ⟨gq, 0, none⟩) k cap) hc28).drew
      have z0 := (Blk.far (w := _) (Blk.far (w := _) (Blk.far (w := wr) y0 (c := c2) (i := 0) (.int .i64 (posn m p).1) (by omega)) (c := c2) (i := 1) (.int .i64 (posn m p).2) (by omega)) (c := b8) (i := 0) (.slice (some ⟨gq, 0, none⟩) k cap) (by omega)).drew
      have z1 := (Blk.far (w := _) (Blk.far (w := _) (Blk.far (w := wr) y1 (c := c2) (i := 0) (.int .i64 (posn m p).1) (by omega)) (c := c2) (i := 1) (.int .i64 (posn m p).2) (by omega)) (c := b8) (i := 0) (.slice (some ⟨gq, 0, none⟩) k cap) (by omega)).drew
      have z3 := (Blk.far (w := _) (Blk.far (w := _) (Blk.far (w := wr) y3 (c := c2) (i := 0) (.int .i64 (posn m p).1) (by omega)) (c := c2) (i := 1) (.int .i64 (posn m p).2) (by omega)) (c := b8) (i := 0) (.slice (some ⟨gq, 0, none⟩) k cap) (by omega)).drew
      have row5 : ((((wr.setCell ⟨c2, 0, none⟩ (.int .i64 (posn m p).1)).setCell ⟨c2, 1, none⟩ (.int .i64 (posn m p).2)).setCell ⟨b8, 0, none⟩ (.slice (some ⟨gq, 0, none⟩) k cap)).drew).ownsRow B 27 2 (.slice (some ⟨gq, 0, none⟩) k cap) k (pls m F') := own_same2 hpop fun b hb => by
        have hgb : gq = b := by simpa [Value.ownBlock] using hb
        subst hgb
        exact (Below.heap_setCell _ ⟨b8, 0, none⟩ _ gq hgb8).trans ((Below.heap_setCell _ ⟨c2, 1, none⟩ _ gq hgc2).trans (Below.heap_setCell wr ⟨c2, 0, none⟩ _ gq hgc2))
      clear hS0 hS1 hpd hp4 hp d8 e8 hbx hreg y0 y1 y3 hpop g5 pc2 pc0 pc1 hsub hgt kp kn kc kcn
      generalize (((wr.setCell ⟨c2, 0, none⟩ (.int .i64 (posn m p).1)).setCell ⟨c2, 1, none⟩ (.int .i64 (posn m p).2)).setCell ⟨b8, 0, none⟩ (.slice (some ⟨gq, 0, none⟩) k cap)).drew = W5 at *
      have hSW : FillS W5 m bl c i rb b8 B R0 (.slice (some ⟨gq, 0, none⟩) k cap) F' R (fun q => q = p) := ⟨box5, by rw [← hkkH.out]; exact row5, reg5, hfp⟩
      clear box5 row5 reg5
      have hF5s := hF5.size
      have c00 := z0.cell 0
      have c01 := z0.cell 1
      have c02 := z0.cell 2
      have c03 := z0.cell 3
      have c04 := z0.cell 4
      have c20 := z2.cell 0
      have c21 := z2.cell 1
      simp only [List.getElem?_cons_zero, List.getElem?_cons_succ] at c00 c01 c02 c03 c04 c20 c21
      gi_wp2
      refine ⟨trivial, ?_⟩
      ((with_reducible refine (callsIn_wide (n := 8).2 (assteps_b m s l c (posn m p).1 (posn m p).2 W5)).mono ?_); rintro e1 w1 ⟨rfl, rfl⟩)
      have hK2 := (((Keep.nil W5).alloc [.int .i64 m.w, .int .i64 m.h, s, l, .int .i64 c] 46).alloc [.int .i64 (posn m p).1, .int .i64 (posn m p).2] 27)
      simp only [World.size_alloc] at hK2
      obtain ⟨Y, hY⟩ : ∃ Y, Y = (W5.alloc (.cells [Value.int .i64 m.w, .int .i64 m.h, s, l, .int .i64 c].toArray 46)).alloc (.cells [Value.int .i64 (posn m p).1, .int .i64 (posn m p).2].toArray 27) := ⟨_, rfl⟩
      have hsY : Y.heap.size = W5.heap.size + 2 := by rw [hY]; simp
      rw [← hY] at hK2 ⊢
      clear hY c00 c01 c02 c03 c04 c20 c21
      gi_wp2
      obtain ⟨g4, h4⟩ : ∃ g4, g4 = W5.heap.size := ⟨_, rfl⟩
      have bG : Blk Y g4 (grdL m s l c) 46 := (hK2.blks (W5.heap.size, grdL m s l c, 46) (by simp)).at (by omega)
      have bP : Blk Y (g4 + 1) (ptL (posn m p)) 27 := (hK2.blks (W5.heap.size + 1, ptL (posn m p), 27) (by simp)).at (by omega)
      have hYb := hK2.old
      clear hK2
      rw [← h4]
      have hSY := hSW.below hYb
      have hVW5 : Below V.heap.size V W5 := by
        have hx := (hWX2.trans (Foot.refl _ _)).below (B := V.heap.size) (fun b hb => by rw [hb]; exact hVr) hV.size
        have hx2 := hFt.below (B := V.heap.size) (fun b hb => by
          rcases hb with h | h | h | h
          · omega
          · omega
          · omega
          · have := hv0b b h; omega) (by have := hV.size; omega)
        have hx3 := hF5.below (B := V.heap.size) (fun b hb => by
          rcases hb with h | h | h | h
          · omega
          · omega
          · omega
          · have hgb : gq = b := by simpa [Value.ownBlock] using h
            omega) (by have := hV.size; omega)
        exact hV.trans (hx.trans (hx2.trans hx3))
      have hVs := hVW5.size
      have hVY := hVW5.trans (hYb.mono hVs)
      have hdsY : ∀ D, D ∈ ds → D < W5.heap.size ∧ Y.heap[D]? = some (.deferred (some [])) := fun D hD => by
        have h1 := hds5 D hD
        have h2 := (Array.getElem?_eq_some_iff.1 h1).1
        exact ⟨h2, (hYb.block D h2).trans h1⟩
      have nfk : ∀ b, W.heap.size ≤ b → b < B → ¬ Fx rb b8 rb (.slice (some ⟨gq, 0, none⟩) k cap) b := fun b h1 h2 h => by
        rcases h with h | h | h | h
        · omega
        · omega
        · omega
        · have hgb : gq = b := by simpa [Value.ownBlock] using h
          omega
      have q0 := z0.below hYb
      have q1 := z1.below hYb
      have q2 := z2.below hYb
      have q3 := z3.below hYb
      have hI0 : FillI m bl c i rb b8 B R0 R k p (.slice (some ⟨gq, 0, none⟩) k cap) ds Y [] Y := ⟨_, F', R, hSY, Foot.refl _ _, by rw [hkkH.out], Nat.le_refl _, fun y hy => by simp at hy, hfpi, fun D hD => (hdsY D hD).2⟩
      have k4 : W5.heap.size ≤ g4 ∧ g4 + 1 < Y.heap.size := by omega
      have kY : W5.heap.size ≤ Y.heap.size := by omega
      clear z0 z1 z2 z3 hds5 hSY h4 hsY
      refine wpIn_rangeFunc_ownH (α := Stp m bl c (posn m p)) rfl (by omega) (gf := 77) (lb := #[.pointer (some ⟨g4, 0, none⟩), .pointer (some ⟨g4 + 1, 0, none⟩)]) rfl trivial (enters_of Tryd.func77 (by kernel_rfl) rfl)
        (assteps_stops m s bl l c (posn m p) V Y g4 8 hG hVY bG bP) KpS.trans (KpS.turn (by omega) (by omega)) (Below.refl _ _) (fun _ => rfl)
        (fun pre Z => FillI m bl c i rb b8 B R0 R k p (.slice (some ⟨gq, 0, none⟩) k cap) ds Y (idxs m pre) Z) (fun _ _ _ => False)
        ?hI (fun _ _ _ _ _ hs _ _ => hs) hI0 (fun x a' Z => ∃ Bq, Y.heap.size ≤ Bq ∧ Blk Z Bq (ptL x.1.1) 27 ∧ a' = { tmps := #[.agg #[.int .i64 m.w, .int .i64 m.h, s, l, .int .i64 c], .slice (some ⟨rb, 0, none⟩) n n, .agg #[.int .i64 (posn m i).1, .int .i64 (posn m i).2], .int .i64 i, .pointer (some ⟨c0, 0, none⟩), .pointer (some ⟨c1, 0, none⟩), .pointer (some ⟨c2, 0, none⟩), .pointer (some ⟨c3, 0, none⟩), .pointer (some ⟨b8, 0, none⟩), .int .i64 k, .pointer (some ⟨Bq, 0, none⟩), u 11, u 12, u 13, u 14, u 15, u 16, u 17, u 18, u 19, .slice (some ⟨gq, 0, none⟩) nF cap, .int .i64 nF, .bool true, .slice (some ⟨gq, 0, none⟩) nF cap, .int .i64 nF, .int .i64 k, .slice (some ⟨gq, 0, none⟩) nF cap, .int .i64 k, .pointer (some ⟨gq, k * 2, none⟩), .agg #[.int .i64 (posn m p).1, .int .i64 (posn m p).2], .slice (some ⟨gq, 0, none⟩) nF cap, .int .i64 k, .slice (some ⟨gq, 0, none⟩) k cap, .agg #[.int .i64 m.w, .int .i64 m.h, s, l, .int .i64 c], .agg #[.int .i64 (posn m p).1, .int .i64 (posn m p).2], .func (.func 77) #[] #[.pointer (some ⟨g4, 0, none⟩), .pointer (some ⟨g4 + 1, 0, none⟩)], .agg #[.int .i64 x.1.1.1, .int .i64 x.1.1.2], .int .i64 x.1.2, u 38, u 39, u 40, u 41, u 42, u 43, u 44, u 45, u 46, u 47, u 48, u 49, u 50, u 51, u 52, u 53], defers := [] }) ?hAx ?assign ?body ?done (fun _ _ _ _ _ _ h _ => h.elim)
      case hI =>
        rintro pre A1 B1 row ⟨v', F2, R2, u1, u2, u3, u4, u5, u6, u7⟩ hg hr
        refine ⟨v', F2, R2, u1.turn hg (fun r e => (hr r e).2), u2.turn hg (fun r e => (hr r e).1), u3, u4, u5, u6, fun D hD => ?_⟩
        have h1 := u7 D hD
        rw [hg.block D (Array.getElem?_eq_some_iff.1 h1).1 (fun e => by have := (hr D e.symm).1; have := (hdsY D hD).1; omega)]
        exact h1
      case hAx =>
        rintro x a' _ A1 B1 row ⟨Bq, u1, u2, u3⟩ hg hr
        exact ⟨Bq, u1, asblk_turn u2 hg (fun r e => (hr r e).2), u3⟩
      case assign =>
        rintro ll pre x Z K ⟨v', F2, R2, u1, u2, u3, u4, u5, u6, u7⟩ hK
        have hZ := (Below.refl Z.heap.size Z).alloc (Nat.le_refl _) (.cells [Value.int .i64 x.1.1.1, .int .i64 x.1.1.2].toArray 27)
        have hZs := u2.size
        have g1 := hZ.block g4 (by omega)
        have g2 := hZ.block (g4 + 1) (by omega)
        gi_wp2
        exact hK _ _ ((KeepsOthers.alloc _ _).from _) ⟨hZ.mono (by omega), g1, g2⟩ ⟨v', F2, R2, u1.below hZ, u2.trans (Foot.of_below hZ), u3, u4, u5, u6, fun D hD => (hZ.block D (Array.getElem?_eq_some_iff.1 (u7 D hD)).1).trans (u7 D hD)⟩ ⟨_, hZs, Blk.new Z _ _, rfl⟩
      case body =>
        rintro ll pre x a' Z - - ⟨v', F2, R2, u1, u2, u3, u4, u5, u6, u7⟩ ⟨Bq, hBq, zq, rfl⟩ -
        have hZs := u2.size
        have ng : ∀ b, W5.heap.size ≤ b → b < Y.heap.size → ¬ Fx rb b8 rb v' b := fun b h1 h2 h3 => (u2.from_ b h3).elim (fun h => by have := hSW.fx_lt hSW.reg h; omega) (fun h => by omega)
        have y0 := u2.blk q0 (nfk c0 (by omega) (by omega))
        have y1 := u2.blk q1 (nfk c1 (by omega) (by omega))
        have y3 := u2.blk q3 (nfk c3 (by omega) (by omega))
        have hin := (nbp_in x.2).1
        have hmem := idxs_mem hf hpn x
        have hpi := posn_idx hf hin
        obtain ⟨iq, hiq⟩ : ∃ iq, Hid (iq = idx m x.1.1) := ⟨_, hid rfl⟩
        rw [← hiq.out] at hmem hpi
        have hsn : idxs m (pre ++ [x]) = idxs m pre ++ [(iq, x.1.2)] := by rw [idxs_snoc, ← hiq.out]
        have hin2 : iq < R2.length := by rw [u1.fil.len]; exact hpi.2.1
        have diE := ints_at hin2
        obtain ⟨di, hdi⟩ : ∃ di, Hid (di = ga R2 iq) := ⟨_, hid rfl⟩
        rw [← hdi.out] at diE
        have cq := fun w => asidx_b m s l c x.1.1 iq w hf hin hiq
        have hnn := hn.out
        have ik : (iq : Int) < (n : Int) := by have := hpi.2.1; omega
        have ipq : (0 : Int) ≤ (iq : Int) := by omega
        have c00 := y0.cell 0
        have c01 := y0.cell 1
        have c02 := y0.cell 2
        have c03 := y0.cell 3
        have c04 := y0.cell 4
        have c20 := zq.cell 0
        have c21 := zq.cell 1
        simp only [List.getElem?_cons_zero, List.getElem?_cons_succ] at c00 c01 c02 c03 c04 c20 c21
        have stay : ∀ w2, Below Z.heap.size Z w2 → di ≠ -1 → ∀ a9, ownPostG Y.heap.size (KpS V.heap.size g4) (fun pre Z => FillI m bl c i rb b8 B R0 R k p (.slice (some ⟨gq, 0, none⟩) k cap) ds Y (idxs m pre) Z) (fun _ _ _ => False) (pre ++ [x]) Z .normal a9 w2 := fun w2 hb2 hno a9 => by
          refine ⟨u1.keeps u1.reg (Foot.of_below hb2) _, ⟨hb2.mono (by omega), hb2.block _ (by omega), hb2.block _ (by omega)⟩, v', F2, R2, u1.below hb2, u2.trans (Foot.of_below hb2), u3, u4, fun y hy => ?_, u6, fun D hD => (hb2.block D (Array.getElem?_eq_some_iff.1 (u7 D hD)).1).trans (u7 D hD)⟩
          rw [hsn] at hy
          rcases List.mem_append.1 hy with hy | hy
          · exact u5 y hy
          · rw [List.mem_singleton.1 hy]; show ga R2 iq ≠ -1; rw [← hdi.out]; exact hno
        have go : ∀ (w2 X W' : World) (v8 : Value), Below Z.heap.size Z w2 → di = -1 → X = (w2.setCell ⟨rb, iq, none⟩ (.int .i64 i)).alloc (.cells [Value.int .i64 x.1.1.1, .int .i64 x.1.1.2].toArray 27) → X.grownBy W' v'.ownBlock → W'.ownsRow B 27 2 v8 (F2.length + 1) (pls m F2 ++ [Value.int .i64 x.1.1.1, .int .i64 x.1.1.2]) → (∀ b, v8.ownBlock = some b → v'.ownBlock = some b ∨ X.heap.size ≤ b) →
            Blk W' b8 [v'] 32 ∧ ∀ a9, ownPostG Y.heap.size (KpS V.heap.size g4) (fun pre Z => FillI m bl c i rb b8 B R0 R k p (.slice (some ⟨gq, 0, none⟩) k cap) ds Y (idxs m pre) Z) (fun _ _ _ => False) (pre ++ [x]) Z .normal a9 (W'.setCell ⟨b8, 0, none⟩ v8) := fun w2 X W' v8 hb2 hyes hX hg hown hwh => by
          have hne : ga R2 iq = -1 := by rw [← hdi.out]; exact hyes
          have hfil := u1.fil.mark ok ⟨u6, hfp0⟩ hmem hne
          have hcm := cM1_set (v := (i : Int)) hin2 hne (by omega)
          rw [← hpi.1] at hX hown
          obtain ⟨t1, t2, t3⟩ := u1.push hb2 hX rb hg hown hwh hfil
          refine ⟨t1, fun a9 => ⟨u1.keeps u1.reg t3 _, ⟨t3.below (fun b hb => ?_) (by omega), t3.same _ (by omega) (ng _ (by omega) (by omega)), t3.same _ (by omega) (ng _ (by omega) (by omega))⟩, v8, _, _, t2, u2.trans t3, ?_, by omega, fun y hy => ?_, ?_, fun D hD => (u1.keeps u1.reg t3 0).same D _ (Nat.zero_le _) (u7 D hD) rfl⟩⟩
          · rcases hb with h | h | h | h
            · omega
            · omega
            · omega
            · have := (u1.row.lt b h).1; omega
          · rw [List.length_append, List.length_singleton]; omega
          · rw [hsn] at hy
            rw [ga_set R2 iq y.1 _ hin2]
            by_cases e : y.1 = iq
            · rw [if_pos e]; omega
            · rw [if_neg e]
              rcases List.mem_append.1 hy with hy | hy
              · exact u5 y hy
              · exact absurd (by rw [List.mem_singleton.1 hy]) e
          · rw [ga_set R2 iq p _ hin2]
            split
            · rfl
            · exact u6
        have hrow2 := u1.row
        obtain ⟨qv, nv, cv, hve⟩ : ∃ qv nv cv, v' = .slice qv nv cv := by
          rcases hrow2.2 with ⟨e, _⟩ | ⟨g, cap, cur, e, _⟩
          · exact ⟨_, _, _, e⟩
          · exact ⟨_, _, _, e⟩
        have hbq : Bq ≠ rb := blk_ne zq u1.reg (by decide)
        have hbq' := hbq.symm
        have hrb8' := hrb8.symm
        have hF2l : F2.length ≤ 1024 := by have := hnF.out; have := hnkH.out; omega
        have hBZ : B ≤ Z.heap.size := by omega
        gi_wp2
        refine ⟨trivial, ?_⟩
        ((with_reducible refine (CallsIn.inRound ll (callsIn_wide (n := 6).2 (cq _))).mono ?_); rintro e w2 ⟨rfl, hb2⟩)
        have rI := (u1.reg.below hb2).cell iq
        rw [diE] at rI
        have rF := (u1.reg.below hb2).frozen iq
        have d1 := (y1.below hb2).cell 0
        have d3 := (y3.below hb2).cell 0
        have d8 := (u1.box.below hb2).cell 0
        have dq := zq.below hb2
        have d20 := dq.cell 0
        have d21 := dq.cell 1
        simp only [List.getElem?_cons_zero, List.getElem?_cons_succ] at d1 d3 d8 d20 d21
        clear c00 c01 c02 c03 c04 c20 c21 cq dq
        have nr1 : c1 ≠ rb := by omega
        have nr3 : c3 ≠ rb := by omega
        by_cases e1 : di = -1
        · have z9 : (di == -1) = true := beq_iff_eq.2 e1
          obtain ⟨X, hX⟩ : ∃ X, X = (w2.setCell ⟨rb, iq, none⟩ (.int .i64 i)).alloc (.cells [Value.int .i64 x.1.1.1, .int .i64 x.1.1.2].toArray 27) := ⟨_, rfl⟩
          have hss : (w2.setCell ⟨rb, iq, none⟩ (.int .i64 i)).heap.size = w2.heap.size := by simp [World.setCell]
          have hXs : X.heap.size = w2.heap.size + 1 := by rw [hX, World.size_alloc, hss]
          have hoX : X.ownsRow B 27 2 v' F2.length (pls m F2) := by
            rw [hX]
            refine World.ownsRow.alloc (own_same2 (own_below hrow2 hb2) fun b hb => Below.heap_setCell w2 ⟨rb, iq, none⟩ _ b (fun e => ?_)) _
            exact own_ne hrow2 u1.reg (by decide) (by rw [hb]; exact congrArg some e)
          have hb2s := hb2.size
          obtain ⟨v8, W', hrun, hown, hg, hwh⟩ := app_where (P := Tryd.prog) X B 32 32 27 i1 (.agg #[.int .i64 0, .int .i64 0]) 2 16 Tryd.underlying32 hj0 hy0 hy1 hy2 rfl (by decide) v' _ _ hoX ⟨w2.heap.size, 0, none⟩ 1 [.int .i64 x.1.1.1, .int .i64 x.1.1.2] rfl
            (by rw [hX, ← hss]; exact cells_new (w := w2.setCell ⟨rb, iq, none⟩ (.int .i64 i))) (posCells x.1.1.1 x.1.1.2) (by unfold maxLen; omega) (by omega) (by omega)
          obtain ⟨t1, t2⟩ := go w2 X W' v8 hb2 e1 hX hg hown hwh
          obtain ⟨q8, n8, k8', hv8⟩ : ∃ q8 n8 k8', v8 = .slice q8 n8 k8' := by
            rcases hown.2 with ⟨e, _⟩ | ⟨g, cap, cur, e, _⟩
            · exact ⟨_, _, _, e⟩
            · exact ⟨_, _, _, e⟩
          have f0 := t1.cell 0
          have f1 := t1.frozen 0
          simp only [List.getElem?_cons_zero] at f0
          subst hve
          subst hv8
          clear stay go hown hg hwh hoX hrow2 u1 u2 u3 u4 u5 u6 u7 hmem diE hin2 hdi e1 zq y0 y1 y3 hss
          gi_wp2_with (gi_at_builtin; go_loud (rw [← hX]; refine wpListIn_append_run rfl (.tmp 50) (.tmp 52) 32 rfl _ _ _ W' rfl rfl hrun ?_))
          all_goals exact t2 _
        · have z9 : (di == -1) = false := beq_eq_false_iff_ne.2 e1
          have hs := stay w2 hb2 e1
          clear stay go u1 u2 u3 u4 u5 u6 u7 hmem diE hin2 hdi e1 zq y0 y1 y3 hrow2
          gi_wp2
          all_goals exact hs _
      case done =>
        rintro D1 xs Z hD hxs ⟨v', F2, R2, u1, u2, u3, u4, u5, u6, u7⟩ hK
        rw [idxs_all hf hpn xs hxs] at u5
        have hS' : FillS Z m bl c i rb b8 B R0 v' F2 R2 (fun _ => False) := ⟨u1.box, u1.row, u1.reg, u1.fil.close (fun r w hm => u5 (r, w) hm)⟩
        have hmu' := hS'.mu
        have hft : Foot (Fx rb b8 c2 v0) X2 (Fx rb b8 c2 v') Z := hFt.trans (hF5.trans ((Foot.of_below hYb).trans (u2.wider (fun b h => by
          rcases h with h | h | h | h
          · exact .inl h
          · exact .inr (.inl h)
          · exact .inl h
          · exact .inr (.inr (.inr h))) (fun b h => by
          rcases h with h | h | h | h
          · exact .inl (.inl (.inl h))
          · exact .inl (.inl (.inr (.inl h)))
          · exact .inl (.inr (.inr (.inr (.inl h))))
          · exact .inl (.inl (.inr (.inr (.inr h))))))))
        have hc2 := u2.blk q2 (fun h => by
          rcases h with h | h | h | h
          · omega
          · omega
          · omega
          · have hgb : gq = c2 := by simpa [Value.ownBlock] using h
            omega)
        have hsum' : cM1 R2 + F2.length ≤ 1024 := by have := hnF.out; have := hnkH.out; omega
        have hlt : fillMu rb b8 Z < fillMu rb b8 wr := by rw [hmu', hmu]; have := hnF.out; have := hnkH.out; omega
        have hnd' : (D1 :: ds).Nodup := List.nodup_cons.2 ⟨fun h => by have := (hdsY D1 h).1; omega, hnd⟩
        have hds' : ∀ D, D ∈ D1 :: ds → X2.heap.size ≤ D ∧ Z.heap[D]? = some (.deferred (some [])) := fun D hD2 => by
          rcases List.mem_cons.1 hD2 with e | e
          · rw [e]; exact ⟨by omega, hK⟩
          · exact ⟨(hds D e).1, u7 D e⟩
        clear u1 u2 u3 u4 u5 u6 u7 hK hds hnd hFt hF5 hmu hmu'
        gi_wp2
        exact ⟨⟨fun j => match j with | 9 => .int .i64 k | 20 => .slice (some ⟨gq, 0, none⟩) nF cap | 21 => .int .i64 nF | 22 => .bool true | 23 => .slice (some ⟨gq, 0, none⟩) nF cap | 24 => .int .i64 nF | 25 => .int .i64 k | 26 => .slice (some ⟨gq, 0, none⟩) nF cap | 27 => .int .i64 k | 28 => .pointer (some ⟨gq, k * 2, none⟩) | 29 => .agg #[.int .i64 (posn m p).1, .int .i64 (posn m p).2] | 30 => .slice (some ⟨gq, 0, none⟩) nF cap | 31 => .int .i64 k | 32 => .slice (some ⟨gq, 0, none⟩) k cap | 33 => .agg #[.int .i64 m.w, .int .i64 m.h, s, l, .int .i64 c] | 34 => .agg #[.int .i64 (posn m p).1, .int .i64 (posn m p).2] | 35 => .func (.func 77) #[] #[.pointer (some ⟨g4, 0, none⟩), .pointer (some ⟨g4 + 1, 0, none⟩)] | j => u j, D1 :: ds, v', F2, R2, rfl, hS', hft, hsum', ⟨_, _, hc2⟩, hnd', hds'⟩, hlt⟩

end Go.Proofs.YtbdgpldhfemejaaDoor
