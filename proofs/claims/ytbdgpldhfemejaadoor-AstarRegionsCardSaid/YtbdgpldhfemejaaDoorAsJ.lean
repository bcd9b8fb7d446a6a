/-
  astar as landed at 35fbd81: the next cell of a way.
-/
import Derived.Test.YtbdgpldhfemejaaDoorAsH
import Derived.Test.YtbdgpldhfemejaaDoorAsPath
namespace Go.Proofs.YtbdgpldhfemejaaDoor
open Go.RowKit Go.Lib Go.Shelf

attribute [local go_sem] Oper.semAt_some

def nxF (m : M3) (D : List Int) (k : Nat) (y : Pt × Int) : Bool := decide (y.2 + ga D (idx m y.1) = ga D k)
/-- No step of these leads to where the rest is the least; one does. -/
def NxMiss (m : M3) (D : List Int) (k : Nat) (l : List (Pt × Int)) : Prop := l.find? (nxF m D k) = none
def NxHit (m : M3) (D : List Int) (k : Nat) (l : List (Pt × Int)) (b3 b4 : Nat) (Z : World) : Prop := ∃ y, l.find? (nxF m D k) = some y ∧ Blk Z b3 (ptL y.1) 27 ∧ Blk Z b4 [.bool true] 4
theorem NxMiss.snoc {m : M3} {D : List Int} {k : Nat} {l : List (Pt × Int)} {x : Pt × Int} (h : NxMiss m D k l) (hx : nxF m D k x = false) : NxMiss m D k (l ++ [x]) := by
  unfold NxMiss at *; exact find_miss h hx
theorem NxMiss.hit {m : M3} {D : List Int} {k : Nat} {l : List (Pt × Int)} {x : Pt × Int} (h : NxMiss m D k l) (hx : nxF m D k x = true) : (l ++ [x]).find? (nxF m D k) = some x := by
  unfold NxMiss at h; exact find_hit h hx
theorem next_nbp {m : M3} (bl : List Bool) (c : Int) (D : List Int) {k : Nat} (hk : k < m.cs.length) : nextG (nb m bl c) D k = ((nbp m bl c (posn m k)).find? (nxF m D k)).map fun y => (idx m y.1, y.2) := by
  unfold nextG nb
  rw [if_pos hk, List.find?_map]
  rfl
def NextP (m : M3) (bl : List Bool) (c : Int) (D : List Int) (k : Nat) (W : World) (e : Ending) (w' : World) : Prop :=
  Below W.heap.size W w' ∧ ((nextG (nb m bl c) D k = none ∧ e = .returned (.tuple #[.agg #[.int .i64 0, .int .i64 0], .bool false])) ∨ (∃ q w, nextG (nb m bl c) D k = some (q, w) ∧ q < m.cs.length ∧ e = .returned (.tuple #[.agg #[.int .i64 (posn m q).1, .int .i64 (posn m q).2], .bool true])))

set_option maxRecDepth 100000 in
set_option maxHeartbeats 8000000 in
theorem asnext_b (m : M3) (s : Value) (bl : List Bool) (l : Value) (c : Int) (k rb n : Nat) (D : List Int) (W : World) (hG : Gd W m s bl l) (hf : formedv m = true) (hk : k < m.cs.length) (hn : Hid (m.cs.length = n)) (hD : Blk W rb (ints D) 3) (hDl : D.length = m.cs.length) (hDb : ∀ q, -1 ≤ ga D q ∧ ga D q ≤ 30000) :
    Calls Tryd.prog 50 #[.agg #[.int .i64 m.w, .int .i64 m.h, s, l, .int .i64 c], .agg #[.int .i64 (posn m k).1, .int .i64 (posn m k).2], .slice (some ⟨rb, 0, none⟩) n n] W (NextP m bl c D k W) := by
  have hcl := formed_len hf
  refine callsIn_wide (n := 9).1 ?_
  refine callsIn_of_wp_marks Tryd.func50 rfl trivial ?_ rfl
  simp only [Tryd.ntmps50, List.size_toArray, List.length_cons, List.length_nil, Nat.reduceAdd, Nat.reduceSub, Array.replicate_succ, Array.replicate_zero, List.push_toArray, List.append_toArray, List.nil_append, List.cons_append]
  have hK := (((((Keep.nil W).alloc [.int .i64 m.w, .int .i64 m.h, s, l, .int .i64 c] 46).alloc [.int .i64 (posn m k).1, .int .i64 (posn m k).2] 27).alloc [.slice (some ⟨rb, 0, none⟩) n n] 41).alloc [.int .i64 0, .int .i64 0] 27).alloc [.bool false] 4
  simp only [World.size_alloc] at hK
  gi_wp2
  refine ⟨trivial, ?_⟩
  obtain ⟨X, hX⟩ : ∃ X, X = ((((W.alloc (.cells [Value.int .i64 m.w, .int .i64 m.h, s, l, .int .i64 c].toArray 46)).alloc (.cells [Value.int .i64 (posn m k).1, .int .i64 (posn m k).2].toArray 27)).alloc (.cells [Value.slice (some ⟨rb, 0, none⟩) n n].toArray 41)).alloc (.cells [Value.int .i64 0, .int .i64 0].toArray 27)).alloc (.cells [Value.bool false].toArray 4) := ⟨_, rfl⟩
  have hsz : X.heap.size = W.heap.size + 5 := by rw [hX]; simp
  rw [← hX] at hK ⊢
  clear hX
  ((with_reducible refine (callsIn_wide (n := 8).2 (assteps_b m s l c (posn m k).1 (posn m k).2 X)).mono ?_); rintro e1 w1 ⟨rfl, rfl⟩)
  have hK2 := (hK.alloc [.int .i64 m.w, .int .i64 m.h, s, l, .int .i64 c] 46).alloc [.int .i64 (posn m k).1, .int .i64 (posn m k).2] 27
  simp only [World.size_alloc, hsz] at hK2
  obtain ⟨Y, hY⟩ : ∃ Y, Y = (X.alloc (.cells [Value.int .i64 m.w, .int .i64 m.h, s, l, .int .i64 c].toArray 46)).alloc (.cells [Value.int .i64 (posn m k).1, .int .i64 (posn m k).2].toArray 27) := ⟨_, rfl⟩
  have hsY : Y.heap.size = W.heap.size + 7 := by rw [hY]; simp; omega
  rw [← hY] at hK2 ⊢
  clear hY hK
  rw [hsz]
  gi_wp2
  obtain ⟨g5, h5⟩ : ∃ g5, g5 = W.heap.size + 5 := ⟨_, rfl⟩
  obtain ⟨b4, h4⟩ : ∃ b4, b4 = W.heap.size + 1 + 1 + 1 + 1 := ⟨_, rfl⟩
  obtain ⟨b3, h3⟩ : ∃ b3, b3 = W.heap.size + 1 + 1 + 1 := ⟨_, rfl⟩
  obtain ⟨b2, h2⟩ : ∃ b2, b2 = W.heap.size + 1 + 1 := ⟨_, rfl⟩
  obtain ⟨b1, h1⟩ : ∃ b1, b1 = W.heap.size + 1 := ⟨_, rfl⟩
  obtain ⟨b0, h0⟩ : ∃ b0, b0 = W.heap.size := ⟨_, rfl⟩
  have bG : Blk Y g5 (grdL m s l c) 46 := (hK2.blks (W.heap.size + 5, grdL m s l c, 46) (by simp)).at (by omega)
  have bP : Blk Y (g5 + 1) (ptL (posn m k)) 27 := (hK2.blks (W.heap.size + 5 + 1, ptL (posn m k), 27) (by simp)).at (by omega)
  have bQ : Blk Y b2 [.slice (some ⟨rb, 0, none⟩) n n] 41 := (hK2.blks (W.heap.size + 1 + 1, [.slice (some ⟨rb, 0, none⟩) n n], 41) (by simp)).at (by omega)
  have bN : Blk Y b3 [.int .i64 0, .int .i64 0] 27 := (hK2.blks (W.heap.size + 1 + 1 + 1, [.int .i64 0, .int .i64 0], 27) (by simp)).at (by omega)
  have bB : Blk Y b4 [.bool false] 4 := (hK2.blks (W.heap.size + 1 + 1 + 1 + 1, [.bool false], 4) (by simp)).at (by omega)
  have bZ : Blk Y b0 (grdL m s l c) 46 := (hK2.blks (W.heap.size, grdL m s l c, 46) (by simp)).at (by omega)
  have bO : Blk Y b1 (ptL (posn m k)) 27 := (hK2.blks (W.heap.size + 1, ptL (posn m k), 27) (by simp)).at (by omega)
  have hWY := hK2.old
  clear hK2
  rw [← h5, ← h4, ← h3, ← h2, ← h1, ← h0]
  have k3 : W.heap.size ≤ b3 := by omega
  have k4 : W.heap.size ≤ b4 := by omega
  have k34 : b3 ≠ b4 := by omega
  have k5 : W.heap.size ≤ Y.heap.size := by omega
  have k6 : g5 + 1 < Y.heap.size := by omega
  clear h0 h1 h2 h3 h4 h5 hsz hsY
  refine wpIn_rangeFunc_ownH (α := Stp m bl c (posn m k)) rfl (by omega) (gf := 77) (lb := #[.pointer (some ⟨g5, 0, none⟩), .pointer (some ⟨g5 + 1, 0, none⟩)]) rfl trivial (enters_of Tryd.func77 (by kernel_rfl) rfl)
    (assteps_stops m s bl l c (posn m k) W Y g5 8 hG hWY bG bP) KpS.trans (KpS.turn k5 k6) (Below.refl _ _) (fun _ => rfl)
    (fun pre Z => NxMiss m D k (pre.map (·.1)) ∧ Below W.heap.size W Z ∧ Blk Z g5 (grdL m s l c) 46 ∧ Blk Z (g5 + 1) (ptL (posn m k)) 27 ∧ Blk Z b2 [.slice (some ⟨rb, 0, none⟩) n n] 41 ∧ Blk Z b3 [.int .i64 0, .int .i64 0] 27 ∧ Blk Z b4 [.bool false] 4 ∧ Blk Z b0 (grdL m s l c) 46 ∧ Blk Z b1 (ptL (posn m k)) 27)
    (fun cd pre Z => cd = .ret ∧ Below W.heap.size W Z ∧ NxHit m D k (pre.map (·.1)) b3 b4 Z)
    ?hI ?hIx ?h0 (fun x a' Z => ∃ Bq, Blk Z Bq (ptL x.1.1) 27 ∧ a' = { tmps := #[.agg #[.int .i64 m.w, .int .i64 m.h, s, l, .int .i64 c], .agg #[.int .i64 (posn m k).1, .int .i64 (posn m k).2], .slice (some ⟨rb, 0, none⟩) n n, .pointer (some ⟨b0, 0, none⟩), .pointer (some ⟨b1, 0, none⟩), .pointer (some ⟨b2, 0, none⟩), .pointer (some ⟨b3, 0, none⟩), .pointer (some ⟨b4, 0, none⟩), .pointer (some ⟨Bq, 0, none⟩), .int .i64 x.1.2, .agg #[.int .i64 m.w, .int .i64 m.h, s, l, .int .i64 c], .agg #[.int .i64 (posn m k).1, .int .i64 (posn m k).2], .func (.func 77) #[] #[.pointer (some ⟨g5, 0, none⟩), .pointer (some ⟨g5 + 1, 0, none⟩)], .agg #[.int .i64 x.1.1.1, .int .i64 x.1.1.2], .int .i64 x.1.2, undef, undef, undef, undef, undef, undef, undef, undef, undef, undef, undef, undef, undef, undef, undef, undef, undef], defers := [] }) ?hAx ?assign ?body ?done ?stop
  case hI =>
    rintro pre A B row ⟨u1, u2, u3, u4, u5, u6, u7, u8, u9⟩ hg hr
    have hr2 := fun r e => (hr r e).2
    have := u2.size
    exact ⟨u1, asbelow_turn u2 hg this k5 hr, asblk_turn u3 hg hr2, asblk_turn u4 hg hr2, asblk_turn u5 hg hr2, asblk_turn u6 hg hr2, asblk_turn u7 hg hr2, asblk_turn u8 hg hr2, asblk_turn u9 hg hr2⟩
  case hIx =>
    rintro cd pre A B row ⟨u1, u2, y, u3, u4, u5⟩ hg hr
    have hr2 := fun r e => (hr r e).2
    have := u2.size
    exact ⟨u1, asbelow_turn u2 hg this k5 hr, y, u3, asblk_turn u4 hg hr2, asblk_turn u5 hg hr2⟩
  case h0 => exact ⟨rfl, hWY, bG, bP, bQ, bN, bB, bZ, bO⟩
  case hAx =>
    rintro x a' _ A B row ⟨Bq, u1, u2⟩ hg hr
    exact ⟨Bq, asblk_turn u1 hg (fun r e => (hr r e).2), u2⟩
  case assign =>
    rintro ll pre x Z K ⟨u1, u2, u3, u4, u5, u6, u7, u8, u9⟩ hK
    have hZ := (Below.refl Z.heap.size Z).alloc (Nat.le_refl _) (.cells [Value.int .i64 x.1.1.1, .int .i64 x.1.1.2].toArray 27)
    gi_wp2
    exact hK _ _ ((KeepsOthers.alloc _ _).from _) ⟨hZ.mono u2.size, hZ.block _ u3.lt, hZ.block _ u4.lt⟩ ⟨u1, below_call u2 hZ, u3.below hZ, u4.below hZ, u5.below hZ, u6.below hZ, u7.below hZ, u8.below hZ, u9.below hZ⟩ ⟨_, Blk.new Z _ _, rfl⟩
  case body =>
    rintro ll pre x a' Z - - ⟨u1, u2, u3, u4, u5, u6, u7, u8, u9⟩ ⟨Bq, uq, rfl⟩ -
    have hin := (nbp_in x.2).1
    have hw := nbp_w x.2
    have hpi := posn_idx hf hin
    obtain ⟨i, hi⟩ : ∃ i, Hid (i = idx m x.1.1) := ⟨_, hid rfl⟩
    rw [← hi.out] at hpi
    have hil : i < D.length := by rw [hDl]; exact hpi.2.1
    have ud := hD.below u2
    have diE := ints_at hil
    have dkE := ints_at (D := D) (i := k) (by rw [hDl]; exact hk)
    have hdi := hDb i
    obtain ⟨di, hdi2⟩ : ∃ di, Hid (di = ga D i) := ⟨_, hid rfl⟩
    obtain ⟨dk, hdk2⟩ : ∃ dk, Hid (dk = ga D k) := ⟨_, hid rfl⟩
    rw [← hdi2.out] at diE hdi
    rw [← hdk2.out] at dkE
    obtain ⟨sm, hsm⟩ : ∃ sm, Hid (sm = x.1.2 + di) := ⟨_, hid rfl⟩
    obtain ⟨b9, hb9⟩ : ∃ b9, Hid (b9 = (sm == dk)) := ⟨_, hid rfl⟩
    have hnx : nxF m D k x.1 = b9 := by rw [hb9.out, hsm.out, hdi2.out, hdk2.out, hi.out]; unfold nxF; rw [Bool.eq_iff_iff, decide_eq_true_iff, beq_iff_eq]
    have hadd : IntKind.i64.wrap (x.1.2 + di) = sm := by rw [hsm.out]; exact IntWalk.i64_in _ (by omega)
    have hnn := hn.out
    have kn : (k : Int) < (n : Int) := by omega
    have kp : (0 : Int) ≤ (k : Int) := by omega
    have ik : (i : Int) < (n : Int) := by have := hpi.2.1; omega
    have ip : (0 : Int) ≤ (i : Int) := by omega
    have ck := fun w => asidx_b m s l c (posn m k) k w hf (idx_posn hf hk).2 (hid (idx_posn hf hk).1.symm)
    have cq := fun w => asidx_b m s l c x.1.1 i w hf hin hi
    have hmx : Tryd.prog.follows .mixedOrders = true := by kernel_rfl
    clear hnn hdi hw
    refine wpIn_block (wpIn_seq ?_)
    refine round_held (S := fun w' => Below Z.heap.size Z w') hmx (by kernel_rfl) (fun ⟨_, _, h⟩ => h) ?_
    show wpAnyH _ _ _ _ _ _ _ _ Z.drew
    have hS0 := (Below.refl Z.heap.size Z).drew
    refine reg_tk (i := 0) (v := .int .i64 x.1.2) (some 15) rfl (fun w' hS => by (skip); go_simp) hS0 ?_
    try simp only [Act.put, List.setIfInBounds_toArray, List.set_cons_zero, List.set_cons_succ]
    refine reg_tk (i := 1) (v := .slice (some ⟨rb, 0, none⟩) n n) (some 16) rfl (fun w' hS => by (have q0 := (u5.below hS).cell 0); go_simp) hS0 ?_
    try simp only [Act.put, List.setIfInBounds_toArray, List.set_cons_zero, List.set_cons_succ]
    refine reg_tk (i := 2) (v := .agg #[.int .i64 m.w, .int .i64 m.h, s, l, .int .i64 c]) (some 17) rfl (fun w' hS => by (have q0 := (u8.below hS).cell 0; have q1 := (u8.below hS).cell 1; have q2 := (u8.below hS).cell 2; have q3 := (u8.below hS).cell 3; have q4 := (u8.below hS).cell 4); go_simp) hS0 ?_
    try simp only [Act.put, List.setIfInBounds_toArray, List.set_cons_zero, List.set_cons_succ]
    refine reg_tk (i := 3) (v := .agg #[.int .i64 x.1.1.1, .int .i64 x.1.1.2]) (some 18) rfl (fun w' hS => by (have q0 := (uq.below hS).cell 0; have q1 := (uq.below hS).cell 1); go_simp) hS0 ?_
    try simp only [Act.put, List.setIfInBounds_toArray, List.set_cons_zero, List.set_cons_succ]
    refine reg_tk (i := 8) (v := .slice (some ⟨rb, 0, none⟩) n n) (some 23) rfl (fun w' hS => by (have q0 := (u5.below hS).cell 0); go_simp) hS0 ?_
    try simp only [Act.put, List.setIfInBounds_toArray, List.set_cons_zero, List.set_cons_succ]
    refine reg_tk (i := 9) (v := .agg #[.int .i64 m.w, .int .i64 m.h, s, l, .int .i64 c]) (some 24) rfl (fun w' hS => by (have q0 := (u8.below hS).cell 0; have q1 := (u8.below hS).cell 1; have q2 := (u8.below hS).cell 2; have q3 := (u8.below hS).cell 3; have q4 := (u8.below hS).cell 4); go_simp) hS0 ?_
    try simp only [Act.put, List.setIfInBounds_toArray, List.set_cons_zero, List.set_cons_succ]
    refine reg_tk (i := 10) (v := .agg #[.int .i64 (posn m k).1, .int .i64 (posn m k).2]) (some 25) rfl (fun w' hS => by (have q0 := (u9.below hS).cell 0; have q1 := (u9.below hS).cell 1); go_simp) hS0 ?_
    try simp only [Act.put, List.setIfInBounds_toArray, List.set_cons_zero, List.set_cons_succ]
    refine held_one (i := 4) (by kernel_rfl) rfl (fun K hQ => ?_)
    go_simp
    ((with_reducible refine (cq _).mono ?_); rintro e w1 ⟨rfl, hb1⟩)
    have hS1 := below_call hS0 hb1
    clear hb1
    refine hQ.out _ _ hS1 ?_
    clear hQ
    try simp only [Act.put, List.setIfInBounds_toArray, List.set_cons_zero, List.set_cons_succ]
    refine reg_tk (i := 5) (v := .pointer (some ⟨rb, i, none⟩)) (some 20) rfl (fun w' hS => by (skip); go_simp) hS1 ?_
    try simp only [Act.put, List.setIfInBounds_toArray, List.set_cons_zero, List.set_cons_succ]
    refine reg_tk (i := 6) (v := .int .i64 di) (some 21) rfl (fun w' hS => by (have q0 := (ud.below hS).cell i; rw [diE] at q0); go_simp) hS1 ?_
    try simp only [Act.put, List.setIfInBounds_toArray, List.set_cons_zero, List.set_cons_succ]
    refine reg_tk (i := 7) (v := .int .i64 sm) (some 22) rfl (fun w' hS => by (have z9 := hadd); go_simp) hS1 ?_
    try simp only [Act.put, List.setIfInBounds_toArray, List.set_cons_zero, List.set_cons_succ]
    refine held_one (i := 11) (by kernel_rfl) rfl (fun K hQ => ?_)
    go_simp
    ((with_reducible refine (ck _).mono ?_); rintro e w2 ⟨rfl, hb2⟩)
    have hS2 := below_call hS1 hb2
    clear hb2
    refine hQ.out _ _ hS2 ?_
    clear hQ
    try simp only [Act.put, List.setIfInBounds_toArray, List.set_cons_zero, List.set_cons_succ]
    refine reg_tk (i := 12) (v := .pointer (some ⟨rb, k, none⟩)) (some 27) rfl (fun w' hS => by (skip); go_simp) hS2 ?_
    try simp only [Act.put, List.setIfInBounds_toArray, List.set_cons_zero, List.set_cons_succ]
    refine reg_tk (i := 13) (v := .int .i64 dk) (some 28) rfl (fun w' hS => by (have q0 := (ud.below hS).cell k; rw [dkE] at q0); go_simp) hS2 ?_
    try simp only [Act.put, List.setIfInBounds_toArray, List.set_cons_zero, List.set_cons_succ]
    refine reg_tk (i := 14) (v := .bool b9) (some 29) rfl (fun w' hS => by (have z9 := hb9.out.symm); go_simp) hS2 ?_
    try simp only [Act.put, List.setIfInBounds_toArray, List.set_cons_zero, List.set_cons_succ]
    refine wpAnyH_done (by kernel_rfl) ?_ _
    show Exit.then _ _ Exit.normal _ _
    clear ck cq dkE diE hS0 hS1 kn kp ik ip hadd
    have v2 := below_call u2 hS2
    have v3 := u3.below hS2
    have v4 := u4.below hS2
    have v5 := u5.below hS2
    have v6 := u6.below hS2
    have v7 := u7.below hS2
    have v8 := u8.below hS2
    have v9 := u9.below hS2
    have vq := uq.below hS2
    have hks : KpS W.heap.size g5 Z w2 := ⟨hS2.mono u2.size, hS2.block _ u3.lt, hS2.block _ u4.lt⟩
    have hkf : KeepsFrom Y.heap.size Z w2 := ⟨hS2.size, fun j o _ hj _ => (hS2.block j (Array.getElem?_eq_some_iff.1 hj).1).trans hj⟩
    cases b9 with
    | false =>
      have keep : ∀ a, ownPostG Y.heap.size (KpS W.heap.size g5) (fun pre Z => NxMiss m D k (pre.map (·.1)) ∧ Below W.heap.size W Z ∧ Blk Z g5 (grdL m s l c) 46 ∧ Blk Z (g5 + 1) (ptL (posn m k)) 27 ∧ Blk Z b2 [.slice (some ⟨rb, 0, none⟩) n n] 41 ∧ Blk Z b3 [.int .i64 0, .int .i64 0] 27 ∧ Blk Z b4 [.bool false] 4 ∧ Blk Z b0 (grdL m s l c) 46 ∧ Blk Z b1 (ptL (posn m k)) 27) (fun cd pre Z => cd = .ret ∧ Below W.heap.size W Z ∧ NxHit m D k (pre.map (·.1)) b3 b4 Z) (pre ++ [x]) Z .normal a w2 := fun _ =>
        ⟨hkf, hks, by rw [List.map_append]; exact u1.snoc hnx, v2, v3, v4, v5, v6, v7, v8, v9⟩
      clear hkf hks u1 hnx
      gi_wp2
      all_goals exact keep _
    | true =>
      obtain ⟨_, _, _, _⟩ := vq.two
      obtain ⟨_, _, _, _⟩ := v6.two
      obtain ⟨_, _⟩ := v7.one
      have hhit := u1.hit hnx
      clear u1 hnx
      gi_wp2
      have w6 := ((v6.put2 (.int .i64 x.1.1.1) (.int .i64 x.1.1.2)).far (c := b4) (i := 0) (.bool true) k34)
      have w7 := ((v7.far (c := b3) (i := 0) (.int .i64 x.1.1.1) (fun h => k34 h.symm)).far (c := b3) (i := 1) (.int .i64 x.1.1.2) (fun h => k34 h.symm)).set 0 (.bool true)
      have wB := ((v2.setCell (p := ⟨b3, 0, none⟩) k3 (.int .i64 x.1.1.1)).setCell (p := ⟨b3, 1, none⟩) k3 (.int .i64 x.1.1.2)).setCell (p := ⟨b4, 0, none⟩) k4 (.bool true)
      refine ⟨hkf.trans (((KeepsOthers.setCell _ _ _).trans ((KeepsOthers.setCell _ _ _).trans (KeepsOthers.setCell _ _ _))).from _), rfl, wB, x.1, ?_, w6, w7⟩
      rw [List.map_append]; exact hhit
  case done =>
    rintro D1 xs Z hD1 hxs ⟨u1, u2, u3, u4, u5, u6, u7, u8, u9⟩ hK
    obtain ⟨_, _, _, _⟩ := u6.two
    obtain ⟨_, _⟩ := u7.one
    have hnone : nextG (nb m bl c) D k = none := by rw [next_nbp bl c D hk, ← hxs]; unfold NxMiss at u1; rw [u1]; rfl
    gi_wp2
    have v6 := ((u6.put2 (.int .i64 0) (.int .i64 0)).far (c := b4) (i := 0) (.bool false) k34)
    have v7 := ((u7.far (c := b3) (i := 0) (.int .i64 0) (fun h => k34 h.symm)).far (c := b3) (i := 1) (.int .i64 0) (fun h => k34 h.symm)).set 0 (.bool false)
    have hb := ((u2.setCell (p := ⟨b3, 0, none⟩) k3 (.int .i64 0)).setCell (p := ⟨b3, 1, none⟩) k3 (.int .i64 0)).setCell (p := ⟨b4, 0, none⟩) k4 (.bool false)
    have hK' := (KeepsOthers.trans (KeepsOthers.setCell Z ⟨b3, 0, none⟩ (.int .i64 0)) (KeepsOthers.trans (KeepsOthers.setCell _ ⟨b3, 1, none⟩ (.int .i64 0)) (KeepsOthers.setCell _ ⟨b4, 0, none⟩ (.bool false)))).same D1 _ hK rfl
    generalize ((Z.setCell ⟨b3, 0, none⟩ (.int .i64 0)).setCell ⟨b3, 1, none⟩ (.int .i64 0)).setCell ⟨b4, 0, none⟩ (.bool false) = Z2 at *
    refine ⟨by simp, .inl ⟨_, _, rfl, run_takeDeferred hK', ?_⟩⟩
    have c6 := (asblk_turn v6 (grownBy_putObj' Z2 D1 (.deferred none)) (fun r e => by cases e; exact ⟨_, hK', rfl⟩))
    have c7 := (asblk_turn v7 (grownBy_putObj' Z2 D1 (.deferred none)) (fun r e => by cases e; exact ⟨_, hK', rfl⟩)).cell 0
    have c60 := c6.cell 0
    have c61 := c6.cell 1
    refine ⟨.tuple #[.agg #[.int .i64 0, .int .i64 0], .bool false], ?_, hb.trans (belowK_b (w := Y) k5 Z2 D1 _ _ hD1 hK' rfl rfl), .inl ⟨hnone, rfl⟩⟩
    simp [results, Tryd.results50, go_sem, c60, c61, c7]
  case stop =>
    rintro D1 cd pre Z hD1 hpre ⟨rfl, u2, y, hy, u6, u7⟩ hK
    have hsome := find_pre hpre hy
    have hyin := List.mem_of_find?_eq_some hsome
    have hpi := posn_idx hf (nbp_in hyin).1
    have hnx : nextG (nb m bl c) D k = some (idx m y.1, y.2) := by rw [next_nbp bl c D hk, hsome]; rfl
    gi_wp2
    refine ⟨by simp, .inl ⟨_, _, rfl, run_takeDeferred hK, ?_⟩⟩
    have c6 := (asblk_turn u6 (grownBy_putObj' Z D1 (.deferred none)) (fun r e => by cases e; exact ⟨_, hK, rfl⟩))
    have c7 := (asblk_turn u7 (grownBy_putObj' Z D1 (.deferred none)) (fun r e => by cases e; exact ⟨_, hK, rfl⟩)).cell 0
    have c60 := c6.cell 0
    have c61 := c6.cell 1
    refine ⟨.tuple #[.agg #[.int .i64 y.1.1, .int .i64 y.1.2], .bool true], ?_, u2.trans (belowK_b (w := Y) k5 Z D1 _ _ hD1 hK rfl rfl), .inr ⟨_, _, hnx, hpi.2.1, by rw [hpi.1]⟩⟩
    simp [results, Tryd.results50, go_sem, c60, c61, c7]

end Go.Proofs.YtbdgpldhfemejaaDoor
