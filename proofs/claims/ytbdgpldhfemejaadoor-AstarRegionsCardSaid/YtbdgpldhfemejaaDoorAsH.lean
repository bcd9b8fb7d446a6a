/-
  astar as landed at 35fbd81: a cell is examined: its steps are taken up.
-/
import Derived.Test.YtbdgpldhfemejaaDoorAsG
namespace Go.Proofs.YtbdgpldhfemejaaDoor
open Go.RowKit Go.Lib Go.Shelf

attribute [local go_sem] Oper.semAt_some

/-- Numbers, as memory holds them. -/
def ints (D : List Int) : List Value := D.map fun d => .int .i64 d
theorem ints_len (D : List Int) : (ints D).length = D.length := by unfold ints; rw [List.length_map]
theorem ints_at {D : List Int} {i : Nat} (h : i < D.length) : (ints D)[i]? = some (.int .i64 (ga D i)) := by
  unfold ints; rw [List.getElem?_map, List.getElem?_eq_getElem h, ga_at h]; rfl
theorem ints_set (D : List Int) (i : Nat) (v : Int) : (ints D).set i (.int .i64 v) = ints (D.set i v) := by unfold ints; rw [List.map_set]
/-- The search, as memory holds it. -/
structure Srch (Z : World) (m : M3) (bl : List Bool) (c : Int) (a B F cb : Nat) (v : Value) (vs : List Value) (L : List (List Nat)) (D : List Int) (cc : Nat) (R : List Nat) (pe : Nat → Prop) : Prop where
  fr : Fr Z m B F v vs L ((tot L (cc + 1) + R.length : Nat) : Int)
  cost : Blk Z cb (ints D) 3
  bkt : Bkt (nb m bl c) m.cs.length a D L cc R pe
/-- The buckets up to cc stay as they are. -/
def KeepB (vs : List Value) (L : List (List Nat)) (vs' : List Value) (L' : List (List Nat)) (cc : Nat) : Prop := (∀ (j : Nat) (u : Value), j ≤ cc → vs[j]? = some u → vs'[j]? = some u) ∧ ∀ j, j ≤ cc → bk L' j = bk L j
def ExamP (m : M3) (bl : List Bool) (c : Int) (a B F cb : Nat) (v : Value) (vs : List Value) (L : List (List Nat)) (cc : Nat) (R : List Nat) (W w' : World) : Prop :=
  ∃ v' vs' L' D', Srch w' m bl c a B F cb v' vs' L' D' cc R (fun _ => False) ∧ Foot (Ex cb F v vs) W (Ex cb F v' vs') w' ∧ KeepB vs L vs' L' cc
/-- What holds between two steps. -/
def ExamI (m : M3) (bl : List Bool) (c : Int) (a B F cb k : Nat) (v : Value) (vs : List Value) (L : List (List Nat)) (cc : Nat) (R : List Nat) (Y : World) (pre : List (Nat × Int)) (Z : World) : Prop :=
  ∃ v' vs' L' D', Srch Z m bl c a B F cb v' vs' L' D' cc R (fun q => q = k) ∧ Mid (nb m bl c) m.cs.length a k cc D' pre ∧ Foot (Ex cb F v vs) Y (Ex cb F v' vs') Z ∧ KeepB vs L vs' L' cc
theorem Srch.turn {X Y : World} {m : M3} {bl : List Bool} {c : Int} {a B F cb : Nat} {v : Value} {vs : List Value} {L : List (List Nat)} {D : List Int} {cc : Nat} {R : List Nat} {pe : Nat → Prop} {row : Option Nat} (h : Srch X m bl c a B F cb v vs L D cc R pe)
    (hg : X.grownBy Y row) (hr : ∀ r, row = some r → ∃ o : Obj, X.heap[r]? = some o ∧ o.isCells = false) : Srch Y m bl c a B F cb v vs L D cc R pe := ⟨h.fr.turn hg hr, asblk_turn h.cost hg hr, h.bkt⟩
theorem Srch.below {X Y : World} {m : M3} {bl : List Bool} {c : Int} {a B F cb : Nat} {v : Value} {vs : List Value} {L : List (List Nat)} {D : List Int} {cc : Nat} {R : List Nat} {pe : Nat → Prop} (h : Srch X m bl c a B F cb v vs L D cc R pe)
    (hb : Below X.heap.size X Y) : Srch Y m bl c a B F cb v vs L D cc R pe := ⟨h.fr.below hb, h.cost.below hb, h.bkt⟩
theorem Foot.blk {A A' : Nat → Prop} {X Y : World} {b : Nat} {cs : List Value} {t : TypeId} (h : Foot A X A' Y) (hb : Blk X b cs t) (hA : ¬ A b) : Blk Y b cs t := by
  have := h.same b hb.lt hA
  unfold Blk at *
  rw [this]; exact hb
theorem Srch.ex_lt {X : World} {m : M3} {bl : List Bool} {c : Int} {a B F cb : Nat} {v : Value} {vs : List Value} {L : List (List Nat)} {D : List Int} {cc : Nat} {R : List Nat} {pe : Nat → Prop} (h : Srch X m bl c a B F cb v vs L D cc R pe) {b : Nat} (hb : Ex cb F v vs b) : b < X.heap.size := by
  rcases hb with rfl | hb
  · exact h.cost.lt
  · exact (h.fr.fb_lt hb).1

set_option maxRecDepth 100000 in
set_option maxHeartbeats 8000000 in
theorem asexam_b (m : M3) (s : Value) (bl : List Bool) (l : Value) (c : Int) (a k B F cb n : Nat) (v : Value) (vs : List Value) (L : List (List Nat)) (D : List Int) (cc : Nat) (R : List Nat) (V W : World) (hG : Gd V m s bl l) (hV : Below V.heap.size V W)
    (hf : formedv m = true) (hk : k < m.cs.length) (ha : a < m.cs.length) (hn : Hid (m.cs.length = n)) (hS : Srch W m bl c a B F cb v vs L D cc R (fun q => q = k)) (hM : Mid (nb m bl c) m.cs.length a k cc D []) (hR : R.length ≤ 1024) (hVc : V.heap.size ≤ cb) (hVF : V.heap.size ≤ F) (hcB : cb < B) (hBW : B ≤ W.heap.size) :
    Calls Tryd.prog 48 #[.agg #[.int .i64 m.w, .int .i64 m.h, s, l, .int .i64 c], .pointer (some ⟨F, 0, none⟩), .slice (some ⟨cb, 0, none⟩) n n, .agg #[.int .i64 (posn m k).1, .int .i64 (posn m k).2]] W fun e w' => e = .returned (.tuple #[]) ∧ ExamP m bl c a B F cb v vs L cc R W w' := by
  have hK := (((((Keep.nil W).alloc [.int .i64 m.w, .int .i64 m.h, s, l, .int .i64 c] 46).alloc [.pointer (some ⟨F, 0, none⟩)] 75).alloc [.slice (some ⟨cb, 0, none⟩) n n] 41).alloc [.int .i64 (posn m k).1, .int .i64 (posn m k).2] 27)
  simp only [World.size_alloc] at hK
  refine callsIn_wide (n := 9).1 ?_
  refine callsIn_of_wp_marks Tryd.func48 rfl trivial ?_ rfl
  simp only [Tryd.ntmps48, List.size_toArray, List.length_cons, List.length_nil, Nat.reduceAdd, Nat.reduceSub, Array.replicate_succ, Array.replicate_zero, List.push_toArray, List.append_toArray, List.nil_append, List.cons_append]
  gi_wp2
  refine ⟨trivial, ?_⟩
  obtain ⟨X, hX⟩ : ∃ X, X = ((((W.alloc (.cells [Value.int .i64 m.w, .int .i64 m.h, s, l, .int .i64 c].toArray 46)).alloc (.cells [Value.pointer (some ⟨F, 0, none⟩)].toArray 75)).alloc (.cells [Value.slice (some ⟨cb, 0, none⟩) n n].toArray 41)).alloc (.cells [Value.int .i64 (posn m k).1, .int .i64 (posn m k).2].toArray 27)) := ⟨_, rfl⟩
  have hsz : X.heap.size = W.heap.size + 4 := by rw [hX]; simp
  rw [← hX] at hK ⊢
  clear hX
  ((with_reducible refine (callsIn_wide (n := 8).2 (assteps_b m s l c (posn m k).1 (posn m k).2 X)).mono ?_); rintro e1 w1 ⟨rfl, rfl⟩)
  have hK2 := (hK.alloc [.int .i64 m.w, .int .i64 m.h, s, l, .int .i64 c] 46).alloc [.int .i64 (posn m k).1, .int .i64 (posn m k).2] 27
  simp only [World.size_alloc, hsz] at hK2
  obtain ⟨Y, hY⟩ : ∃ Y, Y = (X.alloc (.cells [Value.int .i64 m.w, .int .i64 m.h, s, l, .int .i64 c].toArray 46)).alloc (.cells [Value.int .i64 (posn m k).1, .int .i64 (posn m k).2].toArray 27) := ⟨_, rfl⟩
  have hsY : Y.heap.size = W.heap.size + 6 := by rw [hY]; simp; omega
  rw [← hY] at hK2 ⊢
  clear hY hK
  rw [hsz]
  gi_wp2
  obtain ⟨g4, h4⟩ : ∃ g4, g4 = W.heap.size + 4 := ⟨_, rfl⟩
  obtain ⟨b3, h3⟩ : ∃ b3, b3 = W.heap.size + 1 + 1 + 1 := ⟨_, rfl⟩
  obtain ⟨b2, h2⟩ : ∃ b2, b2 = W.heap.size + 1 + 1 := ⟨_, rfl⟩
  obtain ⟨b1, h1⟩ : ∃ b1, b1 = W.heap.size + 1 := ⟨_, rfl⟩
  obtain ⟨b0, h0⟩ : ∃ b0, b0 = W.heap.size := ⟨_, rfl⟩
  have bG : Blk Y g4 (grdL m s l c) 46 := (hK2.blks (W.heap.size + 4, grdL m s l c, 46) (by simp)).at (by omega)
  have bP : Blk Y (g4 + 1) (ptL (posn m k)) 27 := (hK2.blks (W.heap.size + 4 + 1, ptL (posn m k), 27) (by simp)).at (by omega)
  have z0 : Blk Y b0 (grdL m s l c) 46 := (hK2.blks (W.heap.size, grdL m s l c, 46) (by simp)).at (by omega)
  have z1 : Blk Y b1 [.pointer (some ⟨F, 0, none⟩)] 75 := (hK2.blks (W.heap.size + 1, [.pointer (some ⟨F, 0, none⟩)], 75) (by simp)).at (by omega)
  have z2 : Blk Y b2 [.slice (some ⟨cb, 0, none⟩) n n] 41 := (hK2.blks (W.heap.size + 1 + 1, [.slice (some ⟨cb, 0, none⟩) n n], 41) (by simp)).at (by omega)
  have z3 : Blk Y b3 (ptL (posn m k)) 27 := (hK2.blks (W.heap.size + 1 + 1 + 1, ptL (posn m k), 27) (by simp)).at (by omega)
  have hWY := hK2.old
  clear hK2
  have hSY := hS.below hWY
  have hexl : ∀ b, Ex cb F v vs b → b < W.heap.size := fun b hb => hS.ex_lt hb
  rw [← h4, ← h3, ← h2, ← h1, ← h0]
  have ex0 : ¬ Ex cb F v vs b0 := fun h => by have := hexl _ h; omega
  have ex1 : ¬ Ex cb F v vs b1 := fun h => by have := hexl _ h; omega
  have ex2 : ¬ Ex cb F v vs b2 := fun h => by have := hexl _ h; omega
  have ex3 : ¬ Ex cb F v vs b3 := fun h => by have := hexl _ h; omega
  have ex4 : ¬ Ex cb F v vs g4 := fun h => by have := hexl _ h; omega
  have ex5 : ¬ Ex cb F v vs (g4 + 1) := fun h => by have := hexl _ h; omega
  have hVs := hV.size
  have hYs : V.heap.size ≤ Y.heap.size := by omega
  have hYg : g4 + 1 < Y.heap.size := by omega
  have hBY : B ≤ Y.heap.size := by omega
  have hWYs : W.heap.size ≤ Y.heap.size := by omega
  have hVY := hV.trans (hWY.mono hVs)
  have hfin : ∀ Z w' row, ExamI m bl c a B F cb k v vs L cc R Y (nb m bl c k) Z → Z.grownBy w' row → (∀ r, row = some r → Y.heap.size ≤ r ∧ ∃ o : Obj, Z.heap[r]? = some o ∧ o.isCells = false) → ExamP m bl c a B F cb v vs L cc R W w' := by
    rintro Z w' row ⟨v', vs', L', D', u1, u2, u3, u4⟩ hg hr
    have t1 := u1.turn hg (fun r e => (hr r e).2)
    exact ⟨v', vs', L', D', ⟨t1.fr, t1.cost, t1.bkt.close u2⟩, (Foot.of_below hWY).trans (u3.turn hg (fun r e => (hr r e).1)), u4⟩
  clear h0 h1 h2 h3 h4 hsz hsY hexl hS
  refine wpIn_rangeFunc_ownH (α := Stp m bl c (posn m k)) rfl (by omega) (gf := 77) (lb := #[.pointer (some ⟨g4, 0, none⟩), .pointer (some ⟨g4 + 1, 0, none⟩)]) rfl trivial (enters_of Tryd.func77 (by kernel_rfl) rfl)
    (assteps_stops m s bl l c (posn m k) V Y g4 8 hG hVY bG bP) KpS.trans (KpS.turn hYs hYg) (Below.refl _ _) (fun _ => rfl)
    (fun pre Z => ExamI m bl c a B F cb k v vs L cc R Y (idxs m pre) Z) (fun _ _ _ => False)
    ?hI (fun _ _ _ _ _ hs _ _ => hs) ?h0 (fun x a' Z => (∃ Bq, Blk Z Bq (ptL x.1.1) 27 ∧ (∃ v' vs' L' cnt', Fr Z m B F v' vs' L' cnt' ∧ ¬ Fb F v' vs' Bq) ∧ a' = { tmps := #[.agg #[.int .i64 m.w, .int .i64 m.h, s, l, .int .i64 c], .pointer (some ⟨F, 0, none⟩), .slice (some ⟨cb, 0, none⟩) n n, .agg #[.int .i64 (posn m k).1, .int .i64 (posn m k).2], .pointer (some ⟨b0, 0, none⟩), .pointer (some ⟨b1, 0, none⟩), .pointer (some ⟨b2, 0, none⟩), .pointer (some ⟨b3, 0, none⟩), .pointer (some ⟨Bq, 0, none⟩), .int .i64 x.1.2, undef, undef, .agg #[.int .i64 m.w, .int .i64 m.h, s, l, .int .i64 c], .agg #[.int .i64 (posn m k).1, .int .i64 (posn m k).2], .func (.func 77) #[] #[.pointer (some ⟨g4, 0, none⟩), .pointer (some ⟨g4 + 1, 0, none⟩)], .agg #[.int .i64 x.1.1.1, .int .i64 x.1.1.2], .int .i64 x.1.2, undef, undef, undef, undef, undef, undef, undef, undef, undef, undef, undef, undef, undef, undef, undef, undef, undef, undef, undef, undef, undef, undef, undef, undef, undef, undef, undef, undef, undef, undef, undef, undef], defers := [] })) ?hAx ?assign ?body ?done (fun _ _ _ _ _ _ h _ => h.elim)
  case hI =>
    rintro pre A1 B1 row ⟨v', vs', L', D', u1, u2, u3, u4⟩ hg hr
    exact ⟨v', vs', L', D', u1.turn hg (fun r e => (hr r e).2), u2, u3.turn hg (fun r e => (hr r e).1), u4⟩
  case h0 => exact ⟨v, vs, L, D, hSY, hM, Foot.refl _ _, fun _ _ _ h => h, fun _ _ => rfl⟩
  case hAx =>
    rintro x a' _ A1 B1 row ⟨Bq, u1, ⟨v', vs', L', cnt', u2, u3⟩, u4⟩ hg hr
    exact ⟨Bq, asblk_turn u1 hg (fun r e => (hr r e).2), ⟨v', vs', L', cnt', u2.turn hg (fun r e => (hr r e).2), u3⟩, u4⟩
  case assign =>
    rintro ll pre x Z K ⟨v', vs', L', D', u1, u2, u3, u4⟩ hK
    have hZ := (Below.refl Z.heap.size Z).alloc (Nat.le_refl _) (.cells [Value.int .i64 x.1.1.1, .int .i64 x.1.1.2].toArray 27)
    have hZs := u3.size
    have g1 := hZ.block g4 (by omega)
    have g2 := hZ.block (g4 + 1) (by omega)
    have hq : ¬ Fb F v' vs' Z.heap.size := fun h => by have := (u1.fr.fb_lt h).1; omega
    gi_wp2
    exact hK _ _ ((KeepsOthers.alloc _ _).from _) ⟨hZ.mono (by omega), g1, g2⟩ ⟨v', vs', L', D', u1.below hZ, u2, u3.trans (Foot.of_below hZ), u4⟩ ⟨_, Blk.new Z _ _, ⟨v', vs', L', _, u1.fr.below hZ, hq⟩, rfl⟩
  case body =>
    rintro ll pre x a' Z - - ⟨v', vs', L', D', u1, u2, u3, u4⟩ ⟨Bq, zq, ⟨v2, vs2, L2, cnt2, w1, w2⟩, rfl⟩ -
    obtain ⟨rfl, rfl⟩ := u1.fr.uniq w1
    clear w1
    have y0 := u3.blk z0 ex0
    have y1 := u3.blk z1 ex1
    have y2 := u3.blk z2 ex2
    have y3 := u3.blk z3 ex3
    have hin := (nbp_in x.2).1
    have hw := nbp_w x.2
    have hmem := idxs_mem hf hk x
    have hpi := posn_idx hf hin
    obtain ⟨i, hi⟩ : ∃ i, Hid (i = idx m x.1.1) := ⟨_, hid rfl⟩
    rw [← hi.out] at hmem hpi
    obtain ⟨wn, hwn⟩ : ∃ wn : Nat, x.1.2 = (wn : Int) := Int.eq_ofNat_of_zero_le (by omega)
    rw [hwn] at hmem hw ⊢
    have hsn : idxs m (pre ++ [x]) = idxs m pre ++ [(i, (wn : Int))] := by rw [idxs_snoc, ← hi.out, hwn]
    have hst := u1.bkt.step (nb_ok hf bl c) ha u2 hmem
    have hlen : D'.length = m.cs.length := u1.bkt.base.len
    have hin2 : i < D'.length := by rw [hlen]; exact hpi.2.1
    have hcl := formed_len hf
    have dk : (ints D')[k]? = some (.int .i64 cc) := by rw [ints_at (by rw [hlen]; exact hk), u2.at_]
    have di := ints_at hin2
    have dlow := u1.bkt.base.low i
    obtain ⟨dr, hdr⟩ : ∃ dr, Hid (dr = ga D' i) := ⟨_, hid rfl⟩
    rw [← hdr.out] at di dlow
    have hbd := u1.bkt.base.bound (nb_ok hf bl c) ha i
    have hbk := u1.bkt.base.bound (nb_ok hf bl c) ha k
    rw [u2.at_] at hbk
    rw [← hdr.out] at hbd
    have hnn := hn.out
    have kn : (k : Int) < (n : Int) := by omega
    have kp : (0 : Int) ≤ (k : Int) := by omega
    have ik : (i : Int) < (n : Int) := by have := hpi.2.1; omega
    have ip : (0 : Int) ≤ (i : Int) := by omega
    obtain ⟨nw, hnw⟩ : ∃ nw, Hid (nw = cc + wn) := ⟨_, hid rfl⟩
    have hadd : IntKind.i64.wrap ((cc : Int) + (wn : Int)) = (nw : Int) := by rw [hnw.out, IntWalk.i64_in _ (by omega)]; simp
    have ck := fun w => asidx_b m s l c (posn m k) k w hf (idx_posn hf hk).2 (hid (idx_posn hf hk).1.symm)
    have cq := fun w => asidx_b m s l c x.1.1 i w hf hin hi
    have hmx : Tryd.prog.follows .mixedOrders = true := by kernel_rfl
    clear hmem hnn
    refine wpIn_block (wpIn_seq ?_)
    refine round_held (S := fun w' => Below Z.heap.size Z w') hmx (by kernel_rfl) (fun ⟨_, _, h⟩ => h) ?_
    show wpAnyH _ _ _ _ _ _ _ _ Z.drew
    have hS0 := (Below.refl Z.heap.size Z).drew
    refine reg_tk (i := 0) (v := .slice (some ⟨cb, 0, none⟩) n n) (some 17) rfl (fun w' hS => by (have q0 := (y2.below hS).cell 0); go_simp) hS0 ?_
    try simp only [Act.put, List.setIfInBounds_toArray, List.set_cons_zero, List.set_cons_succ]
    refine reg_tk (i := 1) (v := .agg #[.int .i64 m.w, .int .i64 m.h, s, l, .int .i64 c]) (some 18) rfl (fun w' hS => by (have q0 := (y0.below hS).cell 0; have q1 := (y0.below hS).cell 1; have q2 := (y0.below hS).cell 2; have q3 := (y0.below hS).cell 3; have q4 := (y0.below hS).cell 4); go_simp) hS0 ?_
    try simp only [Act.put, List.setIfInBounds_toArray, List.set_cons_zero, List.set_cons_succ]
    refine reg_tk (i := 2) (v := .agg #[.int .i64 (posn m k).1, .int .i64 (posn m k).2]) (some 19) rfl (fun w' hS => by (have q0 := (y3.below hS).cell 0; have q1 := (y3.below hS).cell 1); go_simp) hS0 ?_
    try simp only [Act.put, List.setIfInBounds_toArray, List.set_cons_zero, List.set_cons_succ]
    refine reg_tk (i := 6) (v := .int .i64 wn) (some 23) rfl (fun w' hS => by (skip); go_simp) hS0 ?_
    try simp only [Act.put, List.setIfInBounds_toArray, List.set_cons_zero, List.set_cons_succ]
    refine reg_tk (i := 8) (v := .agg #[.int .i64 m.w, .int .i64 m.h, s, l, .int .i64 c]) (some 25) rfl (fun w' hS => by (have q0 := (y0.below hS).cell 0; have q1 := (y0.below hS).cell 1; have q2 := (y0.below hS).cell 2; have q3 := (y0.below hS).cell 3; have q4 := (y0.below hS).cell 4); go_simp) hS0 ?_
    try simp only [Act.put, List.setIfInBounds_toArray, List.set_cons_zero, List.set_cons_succ]
    refine reg_tk (i := 9) (v := .agg #[.int .i64 x.1.1.1, .int .i64 x.1.1.2]) (some 26) rfl (fun w' hS => by (have q0 := (zq.below hS).cell 0; have q1 := (zq.below hS).cell 1); go_simp) hS0 ?_
    try simp only [Act.put, List.setIfInBounds_toArray, List.set_cons_zero, List.set_cons_succ]
    refine held_one (i := 3) (by kernel_rfl) rfl (fun K hQ => ?_)
    go_simp
    ((with_reducible refine (ck _).mono ?_); rintro e w1 ⟨rfl, hb1⟩)
    have hS1 := below_call hS0 hb1
    clear hb1
    refine hQ.out _ _ hS1 ?_
    clear hQ
    try simp only [Act.put, List.setIfInBounds_toArray, List.set_cons_zero, List.set_cons_succ]
    refine reg_tk (i := 4) (v := .pointer (some ⟨cb, k, none⟩)) (some 21) rfl (fun w' hS => by (skip); go_simp) hS1 ?_
    try simp only [Act.put, List.setIfInBounds_toArray, List.set_cons_zero, List.set_cons_succ]
    refine reg_tk (i := 5) (v := .int .i64 cc) (some 22) rfl (fun w' hS => by (have q0 := (u1.cost.below hS).cell k; rw [dk] at q0); go_simp) hS1 ?_
    try simp only [Act.put, List.setIfInBounds_toArray, List.set_cons_zero, List.set_cons_succ]
    refine reg_tk (i := 7) (v := .int .i64 (nw : Int)) (some 24) rfl (fun w' hS => by (skip); go_simp) hS1 ?_
    try simp only [Act.put, List.setIfInBounds_toArray, List.set_cons_zero, List.set_cons_succ]
    refine held_one (i := 10) (by kernel_rfl) rfl (fun K hQ => ?_)
    go_simp
    ((with_reducible refine (cq _).mono ?_); rintro e w2 ⟨rfl, hb2⟩)
    have hS2 := below_call hS1 hb2
    clear hb2
    refine hQ.out _ _ hS2 ?_
    clear hQ
    try simp only [Act.put, List.setIfInBounds_toArray, List.set_cons_zero, List.set_cons_succ]
    refine reg_tk (i := 11) (v := .int .i64 (nw : Int)) (some 10) rfl (fun w' hS => by (skip); go_simp) hS2 ?_
    try simp only [Act.put, List.setIfInBounds_toArray, List.set_cons_zero, List.set_cons_succ]
    refine reg_tk (i := 12) (v := .int .i64 i) (some 11) rfl (fun w' hS => by (skip); go_simp) hS2 ?_
    try simp only [Act.put, List.setIfInBounds_toArray, List.set_cons_zero, List.set_cons_succ]
    refine wpAnyH_done (by kernel_rfl) ?_ _
    show Exit.then _ _ Exit.normal _ _
    clear ck cq dk hS0 hS1 hadd kn kp
    replace y0 := y0.below hS2
    replace y1 := y1.below hS2
    replace y2 := y2.below hS2
    replace y3 := y3.below hS2
    replace zq := zq.below hS2
    have u1' := u1.below hS2
    have cI := u1'.cost.cell i
    rw [di] at cI
    have cF := u1'.cost.frozen i
    have q2 := y2.cell 0
    have qa := zq.cell 0
    have qb := zq.cell 1
    have qf := y1.cell 0
    simp only [List.getElem?_cons_zero, List.getElem?_cons_succ] at q2 qa qb qf
    have hYZ := u3.size
    have eG : ∀ b, ¬ Ex cb F v vs b → b < Y.heap.size → ¬ Ex cb F v' vs' b := fun b h1 h2 h3 => (u3.from_ b h3).elim h1 (fun h4 => by omega)
    have hg1 := eG g4 ex4 (by omega)
    have hg2 := eG (g4 + 1) ex5 hYg
    -- where nothing is cheaper
    have stay : ¬ (ga D' i < 0 ∨ (cc : Int) + wn < ga D' i) → ∀ a9, ownPostG Y.heap.size (KpS V.heap.size g4) (fun pre Z => ExamI m bl c a B F cb k v vs L cc R Y (idxs m pre) Z) (fun _ _ _ => False) (pre ++ [x]) Z .normal a9 w2 := fun hno a9 => by
      have e1 : relaxB k (D', L') (i, (wn : Int)) = (D', L') := by unfold relaxB; dsimp only; rw [u2.at_, if_neg hno]
      rw [e1] at hst
      refine ⟨(Ex.keeps u1.fr u1.cost (Foot.of_below hS2) _), ⟨hS2.mono (by omega), hS2.block _ (by omega), hS2.block _ (by omega)⟩, v', vs', L', D', ⟨u1'.fr, u1'.cost, hst.1⟩, ?_, u3.trans (Foot.of_below hS2), u4⟩
      rw [hsn]; exact hst.2
    -- where it is cheaper
    obtain ⟨w3, hw3⟩ : ∃ w3, w3 = w2.setCell ⟨cb, i, none⟩ (.int .i64 (nw : Int)) := ⟨_, rfl⟩
    have hncb : ¬ Fb F v' vs' cb := fun h => by
      rcases (u1.fr.fb_lt h).2 with e | e
      · have e1 := u1.cost
        have e2 := u1.fr.blk
        rw [← e] at e2
        unfold Blk at e1 e2
        rw [e1] at e2
        injection e2 with e2
        injection e2 with _ e2
        exact absurd e2 (by decide)
      · omega
    have hfr3 : Fr w3 m B F v' vs' L' ((tot L' (cc + 1) + R.length : Nat) : Int) := by
      rw [hw3]
      exact u1'.fr.kept (fun b hb => Below.heap_setCell w2 ⟨cb, i, none⟩ _ b (fun e => hncb (by rw [← show b = cb from e]; exact hb)))
    have hco3 : Blk w3 cb (ints (D'.set i (nw : Int))) 3 := by rw [hw3, ← ints_set]; exact u1'.cost.set i _
    have hft3 : Foot (Ex cb F v' vs') Z (Ex cb F v' vs') w3 := by rw [hw3]; exact (Foot.of_below hS2).trans (Foot.set ⟨cb, i, none⟩ _ (.inl rfl))
    have hsm : (bk L' nw).length ≤ m.cs.length := u1.bkt.small (by have := hnw.out; omega)
    have htt := u1.bkt.total
    have hmu : (19 * m.cs.length + 1) * m.cs.length ≤ 20000 * 1024 := Nat.mul_le_mul (by omega) hcl
    have hll := u1.bkt.lenL
    have hwk : nw ≤ 30000 := by have := hnw.out; omega
    have ca := asadd_b m i nw x.1.1.1 x.1.1.2 w3 B F v' vs' L' _ hfr3 (hid (by rw [hpi.1])) (hid (by rw [hpi.1])) (by have := hS2.size; rw [hw3]; simp [World.setCell]; omega) hwk (by omega) (by omega) (by omega)
    have go : (ga D' i < 0 ∨ (cc : Int) + wn < ga D' i) → ∀ a9 w4, AddP m B F v' vs' L' ((tot L' (cc + 1) + R.length : Nat) : Int) w3 w4 i nw → ownPostG Y.heap.size (KpS V.heap.size g4) (fun pre Z => ExamI m bl c a B F cb k v vs L cc R Y (idxs m pre) Z) (fun _ _ _ => False) (pre ++ [x]) Z .normal a9 w4 := fun hyes a9 w4 ⟨v8, vs8, p1, p2, p3⟩ => by
      have hnw' : ((cc : Int) + (wn : Int)).toNat = nw := by have := hnw.out; omega
      have hnw2 : (cc : Int) + (wn : Int) = (nw : Int) := by have := hnw.out; omega
      have e1 : relaxB k (D', L') (i, (wn : Int)) = (D'.set i (nw : Int), addB L' i nw) := by unfold relaxB; dsimp only; rw [u2.at_, if_pos hyes, hnw', hnw2]
      rw [e1] at hst
      have hf4 : Foot (Ex cb F v' vs') Z (Ex cb F v8 vs8) w4 := hft3.trans (p2.wider (fun _ h => .inr h) (fun b hb => by
        rcases hb with rfl | hb
        · exact .inl (.inr (.inl rfl))
        · exact .inl (.inl hb)))
      refine ⟨Ex.keeps u1.fr u1.cost hf4 _, ⟨hf4.below (fun b hb => Ex.ge u1.fr hVc hVF hb) (by omega), hf4.same _ (by omega) hg1, hf4.same _ (by omega) hg2⟩, v8, vs8, _, _, ⟨?_, p2.blk hco3 hncb, hst.1⟩, ?_, u3.trans hf4, fun j u hj hu => p3 j u (by have := hnw.out; omega) (u4.1 j u hj hu), fun j hj => by rw [addB_bk, if_neg (by have := hnw.out; omega)]; exact u4.2 j hj⟩
      · rw [tot_add _ _ _ _ (by have := hnw.out; omega)]
        have : ((tot L' (cc + 1) + 1 + R.length : Nat) : Int) = ((tot L' (cc + 1) + R.length : Nat) : Int) + 1 := by push_cast; omega
        rw [this]; exact p1
      · rw [hsn]; exact hst.2
    have nb1 : b1 ≠ cb := fun e => ex1 (.inl e)
    have nbq : Bq ≠ cb := fun e => by
      have c1 := u1'.cost
      have c2 := zq
      rw [e] at c2
      unfold Blk at c1 c2
      rw [c1] at c2
      injection c2 with c2
      injection c2 with _ c2
      exact absurd c2 (by decide)
    have nb1' := nb1.symm
    have nbq' := nbq.symm
    clear hfr3 hco3 hft3 hsm htt hmu hll hncb eG hg1 hg2
    by_cases e1 : dr = -1
    · have z9 : (dr == -1) = true := beq_iff_eq.2 e1
      have hs := go (.inl (by rw [← hdr.out]; omega))
      clear stay go hst hdr e1 dlow hbd
      gi_wp2
      rw [← hw3]
      refine ⟨trivial, ?_⟩
      ((with_reducible refine (CallsIn.inRound ll (callsIn_wide (n := 6).2 ca)).mono ?_); rintro e w4 ⟨rfl, p4⟩)
      have hs := fun a9 => hs a9 w4 p4
      clear ca p4
      gi_wp2
      all_goals exact hs _
    · have z9 : (dr == -1) = false := beq_eq_false_iff_ne.2 e1
      by_cases e2 : (cc : Int) + wn < dr
      · have z8 : decide ((nw : Int) < dr) = true := decide_eq_true (by have := hnw.out; omega)
        have hs := go (.inr (by rw [← hdr.out]; omega))
        clear stay go hst hdr e1 e2 dlow hbd
        gi_wp2
        rw [← hw3]
        refine ⟨trivial, ?_⟩
        ((with_reducible refine (CallsIn.inRound ll (callsIn_wide (n := 6).2 ca)).mono ?_); rintro e w4 ⟨rfl, p4⟩)
        have hs := fun a9 => hs a9 w4 p4
        clear ca p4
        gi_wp2
        all_goals exact hs _
      · have z8 : decide ((nw : Int) < dr) = false := decide_eq_false (by have := hnw.out; omega)
        have hs := stay (by rw [← hdr.out]; omega)
        clear stay go hst hdr e1 e2 dlow hbd ca hw3
        gi_wp2
        all_goals exact hs _
  case done =>
    rintro D1 xs Z hD hxs hI hK
    rw [idxs_all hf hk xs hxs] at hI
    gi_wp2
    refine ⟨by simp, .inl ⟨_, _, rfl, run_takeDeferred hK, ?_⟩⟩
    exact ⟨_, results_none rfl _ _ _, rfl, hfin Z _ (some D1) hI (grownBy_putObj' Z D1 _) (fun r e => by cases e; exact ⟨hD, _, hK, rfl⟩)⟩

end Go.Proofs.YtbdgpldhfemejaaDoor
