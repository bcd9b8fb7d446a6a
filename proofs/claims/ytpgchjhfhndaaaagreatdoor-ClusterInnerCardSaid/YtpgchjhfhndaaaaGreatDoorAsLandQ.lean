/-
  What the functions of astar answer: costs, the next cell, the way.
-/
import Derived.Test.YtpgchjhfhndaaaaGreatDoorAsLandP
import Derived.Defers
import Derived.Test.YtpgchjhfhndaaaaGreatDoorPureAs
namespace Go.Proofs.YtpgchjhfhndaaaaGreatDoor

section
open Go.RowKit Go.Lib Go.Shelf

attribute [local go_sem] Oper.semAt_some
/-- Numbers, as memory holds them. -/
def ints (D : List Int) : List Value := D.map fun d => .int .i64 d
theorem ints_len (D : List Int) : (ints D).length = D.length := by unfold ints; rw [List.length_map]
theorem ints_at {D : List Int} {i : Nat} (h : i < D.length) : (ints D)[i]? = some (.int .i64 (ga D i)) := by
  unfold ints; rw [List.getElem?_map, List.getElem?_eq_getElem h, ga_at h]; rfl
theorem ints_set (D : List Int) (i : Nat) (v : Int) : (ints D).set i (.int .i64 v) = ints (D.set i v) := by unfold ints; rw [List.map_set]
/-- The search, as memory holds it. -/
structure Srch (Z : World) (m : M3) (bl : List Bool) (c : Int) (a B F cb : Nat) (v : Value) (vs : List Value) (L : List (List Nat)) (D : List Int) (cc : Nat) (R : List Nat) (pe : Nat → Prop) : Prop where
  fr : Fr Z m B F v vs L ((tot L (cc + 1) + R.length : Nat) : Int)
  cost : Blk Z cb (ints D) 3
  bkt : Bkt (nb m bl c) m.cs.length a D L cc R pe
/-- The buckets up to cc stay as they are. -/
def KeepB (vs : List Value) (L : List (List Nat)) (vs' : List Value) (L' : List (List Nat)) (cc : Nat) : Prop := (∀ (j : Nat) (u : Value), j ≤ cc → vs[j]? = some u → vs'[j]? = some u) ∧ ∀ j, j ≤ cc → bk L' j = bk L j
def ExamP (m : M3) (bl : List Bool) (c : Int) (a B F cb : Nat) (v : Value) (vs : List Value) (L : List (List Nat)) (cc : Nat) (R : List Nat) (W w' : World) : Prop :=
  ∃ v' vs' L' D', Srch w' m bl c a B F cb v' vs' L' D' cc R (fun _ => False) ∧ Foot (Ex cb F v vs) W (Ex cb F v' vs') w' ∧ KeepB vs L vs' L' cc
/-- What holds between two steps. -/
def ExamI (m : M3) (bl : List Bool) (c : Int) (a B F cb k : Nat) (v : Value) (vs : List Value) (L : List (List Nat)) (cc : Nat) (R : List Nat) (Y : World) (pre : List (Nat × Int)) (Z : World) : Prop :=
  ∃ v' vs' L' D', Srch Z m bl c a B F cb v' vs' L' D' cc R (fun q => q = k) ∧ Mid (nb m bl c) m.cs.length a k cc D' pre ∧ Foot (Ex cb F v vs) Y (Ex cb F v' vs') Z ∧ KeepB vs L vs' L' cc
theorem Srch.turn {X Y : World} {m : M3} {bl : List Bool} {c : Int} {a B F cb : Nat} {v : Value} {vs : List Value} {L : List (List Nat)} {D : List Int} {cc : Nat} {R : List Nat} {pe : Nat → Prop} {row : Option Nat} (h : Srch X m bl c a B F cb v vs L D cc R pe)
    (hg : X.grownBy Y row) (hr : ∀ r, row = some r → ∃ o : Obj, X.heap[r]? = some o ∧ o.isCells = false) : Srch Y m bl c a B F cb v vs L D cc R pe := ⟨h.fr.turn hg hr, asblk_turn h.cost hg hr, h.bkt⟩
theorem Srch.below {X Y : World} {m : M3} {bl : List Bool} {c : Int} {a B F cb : Nat} {v : Value} {vs : List Value} {L : List (List Nat)} {D : List Int} {cc : Nat} {R : List Nat} {pe : Nat → Prop} (h : Srch X m bl c a B F cb v vs L D cc R pe)
    (hb : Below X.heap.size X Y) : Srch Y m bl c a B F cb v vs L D cc R pe := ⟨h.fr.below hb, h.cost.below hb, h.bkt⟩
theorem Foot.blk {A A' : Nat → Prop} {X Y : World} {b : Nat} {cs : List Value} {t : TypeId} (h : Foot A X A' Y) (hb : Blk X b cs t) (hA : ¬ A b) : Blk Y b cs t := by
  have := h.same b hb.lt hA
  unfold Blk at *
  rw [this]; exact hb
theorem Srch.ex_lt {X : World} {m : M3} {bl : List Bool} {c : Int} {a B F cb : Nat} {v : Value} {vs : List Value} {L : List (List Nat)} {D : List Int} {cc : Nat} {R : List Nat} {pe : Nat → Prop} (h : Srch X m bl c a B F cb v vs L D cc R pe) {b : Nat} (hb : Ex cb F v vs b) : b < X.heap.size := by
  rcases hb with rfl | hb
  · exact h.cost.lt
  · exact (h.fr.fb_lt hb).1

set_option maxRecDepth 100000 in
set_option maxHeartbeats 8000000 in
theorem asexam_b (m : M3) (s : Value) (bl : List Bool) (l : Value) (c : Int) (a k B F cb n : Nat) (v : Value) (vs : List Value) (L : List (List Nat)) (D : List Int) (cc : Nat) (R : List Nat) (V W : World) (hG : Gd V m s bl l) (hV : Below V.heap.size V W)
    (hf : formedv m = true) (hk : k < m.cs.length) (ha : a < m.cs.length) (hn : Hid (m.cs.length = n)) (hS : Srch W m bl c a B F cb v vs L D cc R (fun q => q = k)) (hM : Mid (nb m bl c) m.cs.length a k cc D []) (hR : R.length ≤ 1024) (hVc : V.heap.size ≤ cb) (hVF : V.heap.size ≤ F) (hcB : cb < B) (hBW : B ≤ W.heap.size) :
    Calls Tryz.prog 125 #[.agg #[.int .i64 m.w, .int .i64 m.h, s, l, .int .i64 c], .pointer (some ⟨F, 0, none⟩), .slice (some ⟨cb, 0, none⟩) n n, .agg #[.int .i64 (posn m k).1, .int .i64 (posn m k).2]] W fun e w' => e = .returned (.tuple #[]) ∧ ExamP m bl c a B F cb v vs L cc R W w' := by
  have hK := (((((Keep.nil W).alloc [.int .i64 m.w, .int .i64 m.h, s, l, .int .i64 c] 124).alloc [.pointer (some ⟨F, 0, none⟩)] 173).alloc [.slice (some ⟨cb, 0, none⟩) n n] 79).alloc [.int .i64 (posn m k).1, .int .i64 (posn m k).2] 29)
  simp only [World.size_alloc] at hK
  refine callsIn_wide (n := 9).1 ?_
  refine callsIn_of_wp_marks Tryz.func125 rfl trivial ?_ rfl
  simp only [Tryz.ntmps125, List.size_toArray, List.length_cons, List.length_nil, Nat.reduceAdd, Nat.reduceSub, Array.replicate_succ, Array.replicate_zero, List.push_toArray, List.append_toArray, List.nil_append, List.cons_append]
  gi_wp2
  refine ⟨trivial, ?_⟩
  obtain ⟨X, hX⟩ : ∃ X, X = ((((W.alloc (.cells [Value.int .i64 m.w, .int .i64 m.h, s, l, .int .i64 c].toArray 124)).alloc (.cells [Value.pointer (some ⟨F, 0, none⟩)].toArray 173)).alloc (.cells [Value.slice (some ⟨cb, 0, none⟩) n n].toArray 79)).alloc (.cells [Value.int .i64 (posn m k).1, .int .i64 (posn m k).2].toArray 29)) := ⟨_, rfl⟩
  have hsz : X.heap.size = W.heap.size + 4 := by rw [hX]; simp
  rw [← hX] at hK ⊢
  clear hX
  ((with_reducible refine (callsIn_wide (n := 8).2 (assteps_b m s l c (posn m k).1 (posn m k).2 X)).mono ?_); rintro e1 w1 ⟨rfl, rfl⟩)
  have hK2 := (hK.alloc [.int .i64 m.w, .int .i64 m.h, s, l, .int .i64 c] 124).alloc [.int .i64 (posn m k).1, .int .i64 (posn m k).2] 29
  simp only [World.size_alloc, hsz] at hK2
  obtain ⟨Y, hY⟩ : ∃ Y, Y = (X.alloc (.cells [Value.int .i64 m.w, .int .i64 m.h, s, l, .int .i64 c].toArray 124)).alloc (.cells [Value.int .i64 (posn m k).1, .int .i64 (posn m k).2].toArray 29) := ⟨_, rfl⟩
  have hsY : Y.heap.size = W.heap.size + 6 := by rw [hY]; simp; omega
  rw [← hY] at hK2 ⊢
  clear hY hK
  rw [hsz]
  gi_wp2
  obtain ⟨g4, h4⟩ : ∃ g4, g4 = W.heap.size + 4 := ⟨_, rfl⟩
  obtain ⟨b3, h3⟩ : ∃ b3, b3 = W.heap.size + 1 + 1 + 1 := ⟨_, rfl⟩
  obtain ⟨b2, h2⟩ : ∃ b2, b2 = W.heap.size + 1 + 1 := ⟨_, rfl⟩
  obtain ⟨b1, h1⟩ : ∃ b1, b1 = W.heap.size + 1 := ⟨_, rfl⟩
  obtain ⟨b0, h0⟩ : ∃ b0, b0 = W.heap.size := ⟨_, rfl⟩
  have bG : Blk Y g4 (grdL m s l c) 124 := (hK2.blks (W.heap.size + 4, grdL m s l c, 124) (by simp)).at (by omega)
  have bP : Blk Y (g4 + 1) (ptL (posn m k)) 29 := (hK2.blks (W.heap.size + 4 + 1, ptL (posn m k), 29) (by simp)).at (by omega)
  have z0 : Blk Y b0 (grdL m s l c) 124 := (hK2.blks (W.heap.size, grdL m s l c, 124) (by simp)).at (by omega)
  have z1 : Blk Y b1 [.pointer (some ⟨F, 0, none⟩)] 173 := (hK2.blks (W.heap.size + 1, [.pointer (some ⟨F, 0, none⟩)], 173) (by simp)).at (by omega)
  have z2 : Blk Y b2 [.slice (some ⟨cb, 0, none⟩) n n] 79 := (hK2.blks (W.heap.size + 1 + 1, [.slice (some ⟨cb, 0, none⟩) n n], 79) (by simp)).at (by omega)
  have z3 : Blk Y b3 (ptL (posn m k)) 29 := (hK2.blks (W.heap.size + 1 + 1 + 1, ptL (posn m k), 29) (by simp)).at (by omega)
  have hWY := hK2.old
  clear hK2
  have hSY := hS.below hWY
  have hexl : ∀ b, Ex cb F v vs b → b < W.heap.size := fun b hb => hS.ex_lt hb
  rw [← h4, ← h3, ← h2, ← h1, ← h0]
  have ex0 : ¬ Ex cb F v vs b0 := fun h => by have := hexl _ h; omega
  have ex1 : ¬ Ex cb F v vs b1 := fun h => by have := hexl _ h; omega
  have ex2 : ¬ Ex cb F v vs b2 := fun h => by have := hexl _ h; omega
  have ex3 : ¬ Ex cb F v vs b3 := fun h => by have := hexl _ h; omega
  have ex4 : ¬ Ex cb F v vs g4 := fun h => by have := hexl _ h; omega
  have ex5 : ¬ Ex cb F v vs (g4 + 1) := fun h => by have := hexl _ h; omega
  have hVs := hV.size
  have hYs : V.heap.size ≤ Y.heap.size := by omega
  have hYg : g4 + 1 < Y.heap.size := by omega
  have hBY : B ≤ Y.heap.size := by omega
  have hWYs : W.heap.size ≤ Y.heap.size := by omega
  have hVY := hV.trans (hWY.mono hVs)
  have hfin : ∀ Z w' row, ExamI m bl c a B F cb k v vs L cc R Y (nb m bl c k) Z → Z.grownBy w' row → (∀ r, row = some r → Y.heap.size ≤ r ∧ ∃ o : Obj, Z.heap[r]? = some o ∧ o.isCells = false) → ExamP m bl c a B F cb v vs L cc R W w' := by
    rintro Z w' row ⟨v', vs', L', D', u1, u2, u3, u4⟩ hg hr
    have t1 := u1.turn hg (fun r e => (hr r e).2)
    exact ⟨v', vs', L', D', ⟨t1.fr, t1.cost, t1.bkt.close u2⟩, (Foot.of_below hWY).trans (u3.turn hg (fun r e => (hr r e).1)), u4⟩
  clear h0 h1 h2 h3 h4 hsz hsY hexl hS
  refine wpIn_rangeFunc_ownH (α := Stp m bl c (posn m k)) rfl (by omega) (gf := 168) (lb := #[.pointer (some ⟨g4, 0, none⟩), .pointer (some ⟨g4 + 1, 0, none⟩)]) rfl trivial (enters_of Tryz.func168 (by kernel_rfl) rfl)
    (assteps_stops m s bl l c (posn m k) V Y g4 8 hG hVY bG bP) KpS.trans (KpS.turn hYs hYg) (Below.refl _ _) (fun _ => rfl)
    (fun pre Z => ExamI m bl c a B F cb k v vs L cc R Y (idxs m pre) Z) (fun _ _ _ => False)
    ?hI (fun _ _ _ _ _ hs _ _ => hs) ?h0 (fun x a' Z => (∃ Bq, Blk Z Bq (ptL x.1.1) 29 ∧ (∃ v' vs' L' cnt', Fr Z m B F v' vs' L' cnt' ∧ ¬ Fb F v' vs' Bq) ∧ a' = { tmps := #[.agg #[.int .i64 m.w, .int .i64 m.h, s, l, .int .i64 c], .pointer (some ⟨F, 0, none⟩), .slice (some ⟨cb, 0, none⟩) n n, .agg #[.int .i64 (posn m k).1, .int .i64 (posn m k).2], .pointer (some ⟨b0, 0, none⟩), .pointer (some ⟨b1, 0, none⟩), .pointer (some ⟨b2, 0, none⟩), .pointer (some ⟨b3, 0, none⟩), .pointer (some ⟨Bq, 0, none⟩), .int .i64 x.1.2, undef, undef, .agg #[.int .i64 m.w, .int .i64 m.h, s, l, .int .i64 c], .agg #[.int .i64 (posn m k).1, .int .i64 (posn m k).2], .func (.func 168) #[] #[.pointer (some ⟨g4, 0, none⟩), .pointer (some ⟨g4 + 1, 0, none⟩)], .agg #[.int .i64 x.1.1.1, .int .i64 x.1.1.2], .int .i64 x.1.2, undef, undef, undef, undef, undef, undef, undef, undef, undef, undef, undef, undef, undef, undef, undef, undef, undef, undef, undef, undef, undef, undef, undef, undef, undef, undef, undef, undef, undef, undef, undef, undef], defers := [] })) ?hAx ?assign ?body ?done (fun _ _ _ _ _ _ h _ => h.elim)
  case hI =>
    rintro pre A1 B1 row ⟨v', vs', L', D', u1, u2, u3, u4⟩ hg hr
    exact ⟨v', vs', L', D', u1.turn hg (fun r e => (hr r e).2), u2, u3.turn hg (fun r e => (hr r e).1), u4⟩
  case h0 => exact ⟨v, vs, L, D, hSY, hM, Foot.refl _ _, fun _ _ _ h => h, fun _ _ => rfl⟩
  case hAx =>
    rintro x a' _ A1 B1 row ⟨Bq, u1, ⟨v', vs', L', cnt', u2, u3⟩, u4⟩ hg hr
    exact ⟨Bq, asblk_turn u1 hg (fun r e => (hr r e).2), ⟨v', vs', L', cnt', u2.turn hg (fun r e => (hr r e).2), u3⟩, u4⟩
  case assign =>
    rintro ll pre x Z K ⟨v', vs', L', D', u1, u2, u3, u4⟩ hK
    have hZ := (Below.refl Z.heap.size Z).alloc (Nat.le_refl _) (.cells [Value.int .i64 x.1.1.1, .int .i64 x.1.1.2].toArray 29)
    have hZs := u3.size
    have g1 := hZ.block g4 (by omega)
    have g2 := hZ.block (g4 + 1) (by omega)
    have hq : ¬ Fb F v' vs' Z.heap.size := fun h => by have := (u1.fr.fb_lt h).1; omega
    gi_wp2
    exact hK _ _ ((KeepsOthers.alloc _ _).from _) ⟨hZ.mono (by omega), g1, g2⟩ ⟨v', vs', L', D', u1.below hZ, u2, u3.trans (Foot.of_below hZ), u4⟩ ⟨_, Blk.new Z _ _, ⟨v', vs', L', _, u1.fr.below hZ, hq⟩, rfl⟩
  case body =>
    rintro ll pre x a' Z - - ⟨v', vs', L', D', u1, u2, u3, u4⟩ ⟨Bq, zq, ⟨v2, vs2, L2, cnt2, w1, w2⟩, rfl⟩ -
    obtain ⟨rfl, rfl⟩ := u1.fr.uniq w1
    clear w1
    have y0 := u3.blk z0 ex0
    have y1 := u3.blk z1 ex1
    have y2 := u3.blk z2 ex2
    have y3 := u3.blk z3 ex3
    have hin := (nbp_in x.2).1
    have hw := nbp_w x.2
    have hmem := idxs_mem hf hk x
    have hpi := posn_idx hf hin
    obtain ⟨i, hi⟩ : ∃ i, Hid (i = idx m x.1.1) := ⟨_, hid rfl⟩
    rw [← hi.out] at hmem hpi
    obtain ⟨wn, hwn⟩ : ∃ wn : Nat, x.1.2 = (wn : Int) := Int.eq_ofNat_of_zero_le (by omega)
    rw [hwn] at hmem hw ⊢
    have hsn : idxs m (pre ++ [x]) = idxs m pre ++ [(i, (wn : Int))] := by rw [idxs_snoc, ← hi.out, hwn]
    have hst := u1.bkt.step (nb_ok hf bl c) ha u2 hmem
    have hlen : D'.length = m.cs.length := u1.bkt.base.len
    have hin2 : i < D'.length := by rw [hlen]; exact hpi.2.1
    have hcl := formed_len hf
    have dk : (ints D')[k]? = some (.int .i64 cc) := by rw [ints_at (by rw [hlen]; exact hk), u2.at_]
    have di := ints_at hin2
    have dlow := u1.bkt.base.low i
    obtain ⟨dr, hdr⟩ : ∃ dr, Hid (dr = ga D' i) := ⟨_, hid rfl⟩
    rw [← hdr.out] at di dlow
    have hbd := u1.bkt.base.bound (nb_ok hf bl c) ha i
    have hbk := u1.bkt.base.bound (nb_ok hf bl c) ha k
    rw [u2.at_] at hbk
    rw [← hdr.out] at hbd
    have hnn := hn.out
    have kn : (k : Int) < (n : Int) := by omega
    have kp : (0 : Int) ≤ (k : Int) := by omega
    have ik : (i : Int) < (n : Int) := by have := hpi.2.1; omega
    have ip : (0 : Int) ≤ (i : Int) := by omega
    obtain ⟨nw, hnw⟩ : ∃ nw, Hid (nw = cc + wn) := ⟨_, hid rfl⟩
    have hadd : IntKind.i64.wrap ((cc : Int) + (wn : Int)) = (nw : Int) := by rw [hnw.out, IntWalk.i64_in _ (by omega)]; simp
    have ck := fun w => asidx_b m s l c (posn m k) k w hf (idx_posn hf hk).2 (hid (idx_posn hf hk).1.symm)
    have cq := fun w => asidx_b m s l c x.1.1 i w hf hin hi
    have hmx : Tryz.prog.follows .mixedOrders = true := by kernel_rfl
    clear hmem hnn
    refine wpIn_block (wpIn_seq ?_)
    refine round_held (S := fun w' => Below Z.heap.size Z w') hmx (by kernel_rfl) (fun ⟨_, _, h⟩ => h) ?_
    show wpAnyH _ _ _ _ _ _ _ _ Z.drew
    have hS0 := (Below.refl Z.heap.size Z).drew
    refine reg_tk (i := 0) (v := .slice (some ⟨cb, 0, none⟩) n n) (some 17) rfl (fun w' hS => by (have q0 := (y2.below hS).cell 0); go_simp) hS0 ?_
    try simp only [Act.put, List.setIfInBounds_toArray, List.set_cons_zero, List.set_cons_succ]
    refine reg_tk (i := 1) (v := .agg #[.int .i64 m.w, .int .i64 m.h, s, l, .int .i64 c]) (some 18) rfl (fun w' hS => by (have q0 := (y0.below hS).cell 0; have q1 := (y0.below hS).cell 1; have q2 := (y0.below hS).cell 2; have q3 := (y0.below hS).cell 3; have q4 := (y0.below hS).cell 4); go_simp) hS0 ?_
    try simp only [Act.put, List.setIfInBounds_toArray, List.set_cons_zero, List.set_cons_succ]
    refine reg_tk (i := 2) (v := .agg #[.int .i64 (posn m k).1, .int .i64 (posn m k).2]) (some 19) rfl (fun w' hS => by (have q0 := (y3.below hS).cell 0; have q1 := (y3.below hS).cell 1); go_simp) hS0 ?_
    try simp only [Act.put, List.setIfInBounds_toArray, List.set_cons_zero, List.set_cons_succ]
    refine reg_tk (i := 6) (v := .int .i64 wn) (some 23) rfl (fun w' hS => by (skip); go_simp) hS0 ?_
    try simp only [Act.put, List.setIfInBounds_toArray, List.set_cons_zero, List.set_cons_succ]
    refine reg_tk (i := 8) (v := .agg #[.int .i64 m.w, .int .i64 m.h, s, l, .int .i64 c]) (some 25) rfl (fun w' hS => by (have q0 := (y0.below hS).cell 0; have q1 := (y0.below hS).cell 1; have q2 := (y0.below hS).cell 2; have q3 := (y0.below hS).cell 3; have q4 := (y0.below hS).cell 4); go_simp) hS0 ?_
    try simp only [Act.put, List.setIfInBounds_toArray, List.set_cons_zero, List.set_cons_succ]
    refine reg_tk (i := 9) (v := .agg #[.int .i64 x.1.1.1, .int .i64 x.1.1.2]) (some 26) rfl (fun w' hS => by (have q0 := (zq.below hS).cell 0; have q1 := (zq.below hS).cell 1); go_simp) hS0 ?_
    try simp only [Act.put, List.setIfInBounds_toArray, List.set_cons_zero, List.set_cons_succ]
    refine held_one (i := 3) (by kernel_rfl) rfl (fun K hQ => ?_)
    go_simp
    ((with_reducible refine (ck _).mono ?_); rintro e w1 ⟨rfl, hb1⟩)
    have hS1 := below_call hS0 hb1
    clear hb1
    refine hQ.out _ _ hS1 ?_
    clear hQ
    try simp only [Act.put, List.setIfInBounds_toArray, List.set_cons_zero, List.set_cons_succ]
    refine reg_tk (i := 4) (v := .pointer (some ⟨cb, k, none⟩)) (some 21) rfl (fun w' hS => by (skip); go_simp) hS1 ?_
    try simp only [Act.put, List.setIfInBounds_toArray, List.set_cons_zero, List.set_cons_succ]
    refine reg_tk (i := 5) (v := .int .i64 cc) (some 22) rfl (fun w' hS => by (have q0 := (u1.cost.below hS).cell k; rw [dk] at q0); go_simp) hS1 ?_
    try simp only [Act.put, List.setIfInBounds_toArray, List.set_cons_zero, List.set_cons_succ]
    refine reg_tk (i := 7) (v := .int .i64 (nw : Int)) (some 24) rfl (fun w' hS => by (skip); go_simp) hS1 ?_
    try simp only [Act.put, List.setIfInBounds_toArray, List.set_cons_zero, List.set_cons_succ]
    refine held_one (i := 10) (by kernel_rfl) rfl (fun K hQ => ?_)
    go_simp
    ((with_reducible refine (cq _).mono ?_); rintro e w2 ⟨rfl, hb2⟩)
    have hS2 := below_call hS1 hb2
    clear hb2
    refine hQ.out _ _ hS2 ?_
    clear hQ
    try simp only [Act.put, List.setIfInBounds_toArray, List.set_cons_zero, List.set_cons_succ]
    refine reg_tk (i := 11) (v := .int .i64 (nw : Int)) (some 10) rfl (fun w' hS => by (skip); go_simp) hS2 ?_
    try simp only [Act.put, List.setIfInBounds_toArray, List.set_cons_zero, List.set_cons_succ]
    refine reg_tk (i := 12) (v := .int .i64 i) (some 11) rfl (fun w' hS => by (skip); go_simp) hS2 ?_
    try simp only [Act.put, List.setIfInBounds_toArray, List.set_cons_zero, List.set_cons_succ]
    refine wpAnyH_done (by kernel_rfl) ?_ _
    show Exit.then _ _ Exit.normal _ _
    clear ck cq dk hS0 hS1 hadd kn kp
    replace y0 := y0.below hS2
    replace y1 := y1.below hS2
    replace y2 := y2.below hS2
    replace y3 := y3.below hS2
    replace zq := zq.below hS2
    have u1' := u1.below hS2
    have cI := u1'.cost.cell i
    rw [di] at cI
    have cF := u1'.cost.frozen i
    have q2 := y2.cell 0
    have qa := zq.cell 0
    have qb := zq.cell 1
    have qf := y1.cell 0
    simp only [List.getElem?_cons_zero, List.getElem?_cons_succ] at q2 qa qb qf
    have hYZ := u3.size
    have eG : ∀ b, ¬ Ex cb F v vs b → b < Y.heap.size → ¬ Ex cb F v' vs' b := fun b h1 h2 h3 => (u3.from_ b h3).elim h1 (fun h4 => by omega)
    have hg1 := eG g4 ex4 (by omega)
    have hg2 := eG (g4 + 1) ex5 hYg
    -- where nothing is cheaper
    have stay : ¬ (ga D' i < 0 ∨ (cc : Int) + wn < ga D' i) → ∀ a9, ownPostG Y.heap.size (KpS V.heap.size g4) (fun pre Z => ExamI m bl c a B F cb k v vs L cc R Y (idxs m pre) Z) (fun _ _ _ => False) (pre ++ [x]) Z .normal a9 w2 := fun hno a9 => by
      have e1 : relaxB k (D', L') (i, (wn : Int)) = (D', L') := by unfold relaxB; dsimp only; rw [u2.at_, if_neg hno]
      rw [e1] at hst
      refine ⟨(Ex.keeps u1.fr u1.cost (Foot.of_below hS2) _), ⟨hS2.mono (by omega), hS2.block _ (by omega), hS2.block _ (by omega)⟩, v', vs', L', D', ⟨u1'.fr, u1'.cost, hst.1⟩, ?_, u3.trans (Foot.of_below hS2), u4⟩
      rw [hsn]; exact hst.2
    -- where it is cheaper
    obtain ⟨w3, hw3⟩ : ∃ w3, w3 = w2.setCell ⟨cb, i, none⟩ (.int .i64 (nw : Int)) := ⟨_, rfl⟩
    have hncb : ¬ Fb F v' vs' cb := fun h => by
      rcases (u1.fr.fb_lt h).2 with e | e
      · have e1 := u1.cost
        have e2 := u1.fr.blk
        rw [← e] at e2
        unfold Blk at e1 e2
        rw [e1] at e2
        injection e2 with e2
        injection e2 with _ e2
        exact absurd e2 (by decide)
      · omega
    have hfr3 : Fr w3 m B F v' vs' L' ((tot L' (cc + 1) + R.length : Nat) : Int) := by
      rw [hw3]
      exact u1'.fr.kept (fun b hb => Below.heap_setCell w2 ⟨cb, i, none⟩ _ b (fun e => hncb (by rw [← show b = cb from e]; exact hb)))
    have hco3 : Blk w3 cb (ints (D'.set i (nw : Int))) 3 := by rw [hw3, ← ints_set]; exact u1'.cost.set i _
    have hft3 : Foot (Ex cb F v' vs') Z (Ex cb F v' vs') w3 := by rw [hw3]; exact (Foot.of_below hS2).trans (Foot.set ⟨cb, i, none⟩ _ (.inl rfl))
    have hsm : (bk L' nw).length ≤ m.cs.length := u1.bkt.small (by have := hnw.out; omega)
    have htt := u1.bkt.total
    have hmu : (19 * m.cs.length + 1) * m.cs.length ≤ 20000 * 1024 := Nat.mul_le_mul (by omega) hcl
    have hll := u1.bkt.lenL
    have hwk : nw ≤ 30000 := by have := hnw.out; omega
    have ca := asadd_b m i nw x.1.1.1 x.1.1.2 w3 B F v' vs' L' _ hfr3 (hid (by rw [hpi.1])) (hid (by rw [hpi.1])) (by have := hS2.size; rw [hw3]; simp [World.setCell]; omega) hwk (by omega) (by omega) (by omega)
    have go : (ga D' i < 0 ∨ (cc : Int) + wn < ga D' i) → ∀ a9 w4, AddP m B F v' vs' L' ((tot L' (cc + 1) + R.length : Nat) : Int) w3 w4 i nw → ownPostG Y.heap.size (KpS V.heap.size g4) (fun pre Z => ExamI m bl c a B F cb k v vs L cc R Y (idxs m pre) Z) (fun _ _ _ => False) (pre ++ [x]) Z .normal a9 w4 := fun hyes a9 w4 ⟨v8, vs8, p1, p2, p3⟩ => by
      have hnw' : ((cc : Int) + (wn : Int)).toNat = nw := by have := hnw.out; omega
      have hnw2 : (cc : Int) + (wn : Int) = (nw : Int) := by have := hnw.out; omega
      have e1 : relaxB k (D', L') (i, (wn : Int)) = (D'.set i (nw : Int), addB L' i nw) := by unfold relaxB; dsimp only; rw [u2.at_, if_pos hyes, hnw', hnw2]
      rw [e1] at hst
      have hf4 : Foot (Ex cb F v' vs') Z (Ex cb F v8 vs8) w4 := hft3.trans (p2.wider (fun _ h => .inr h) (fun b hb => by
        rcases hb with rfl | hb
        · exact .inl (.inr (.inl rfl))
        · exact .inl (.inl hb)))
      refine ⟨Ex.keeps u1.fr u1.cost hf4 _, ⟨hf4.below (fun b hb => Ex.ge u1.fr hVc hVF hb) (by omega), hf4.same _ (by omega) hg1, hf4.same _ (by omega) hg2⟩, v8, vs8, _, _, ⟨?_, p2.blk hco3 hncb, hst.1⟩, ?_, u3.trans hf4, fun j u hj hu => p3 j u (by have := hnw.out; omega) (u4.1 j u hj hu), fun j hj => by rw [addB_bk, if_neg (by have := hnw.out; omega)]; exact u4.2 j hj⟩
      · rw [tot_add _ _ _ _ (by have := hnw.out; omega)]
        have : ((tot L' (cc + 1) + 1 + R.length : Nat) : Int) = ((tot L' (cc + 1) + R.length : Nat) : Int) + 1 := by push_cast; omega
        rw [this]; exact p1
      · rw [hsn]; exact hst.2
    have nb1 : b1 ≠ cb := fun e => ex1 (.inl e)
    have nbq : Bq ≠ cb := fun e => by
      have c1 := u1'.cost
      have c2 := zq
      rw [e] at c2
      unfold Blk at c1 c2
      rw [c1] at c2
      injection c2 with c2
      injection c2 with _ c2
      exact absurd c2 (by decide)
    have nb1' := nb1.symm
    have nbq' := nbq.symm
    clear hfr3 hco3 hft3 hsm htt hmu hll hncb eG hg1 hg2
    by_cases e1 : dr = -1
    · have z9 : (dr == -1) = true := beq_iff_eq.2 e1
      have hs := go (.inl (by rw [← hdr.out]; omega))
      clear stay go hst hdr e1 dlow hbd
      gi_wp2
      rw [← hw3]
      refine ⟨trivial, ?_⟩
      ((with_reducible refine (CallsIn.inRound ll (callsIn_wide (n := 6).2 ca)).mono ?_); rintro e w4 ⟨rfl, p4⟩)
      have hs := fun a9 => hs a9 w4 p4
      clear ca p4
      gi_wp2
      all_goals exact hs _
    · have z9 : (dr == -1) = false := beq_eq_false_iff_ne.2 e1
      by_cases e2 : (cc : Int) + wn < dr
      · have z8 : decide ((nw : Int) < dr) = true := decide_eq_true (by have := hnw.out; omega)
        have hs := go (.inr (by rw [← hdr.out]; omega))
        clear stay go hst hdr e1 e2 dlow hbd
        gi_wp2
        rw [← hw3]
        refine ⟨trivial, ?_⟩
        ((with_reducible refine (CallsIn.inRound ll (callsIn_wide (n := 6).2 ca)).mono ?_); rintro e w4 ⟨rfl, p4⟩)
        have hs := fun a9 => hs a9 w4 p4
        clear ca p4
        gi_wp2
        all_goals exact hs _
      · have z8 : decide ((nw : Int) < dr) = false := decide_eq_false (by have := hnw.out; omega)
        have hs := stay (by rw [← hdr.out]; omega)
        clear stay go hst hdr e1 e2 dlow hbd ca hw3
        gi_wp2
        all_goals exact hs _
  case done =>
    rintro D1 xs Z hD hxs hI hK
    rw [idxs_all hf hk xs hxs] at hI
    gi_wp2
    refine ⟨by simp, .inl ⟨_, _, rfl, run_takeDeferred hK, ?_⟩⟩
    exact ⟨_, results_none rfl _ _ _, rfl, hfin Z _ (some D1) hI (grownBy_putObj' Z D1 _) (fun r e => by cases e; exact ⟨hD, _, hK, rfl⟩)⟩

end

section
open Go.RowKit Go.Lib

/-- The least costs from the cell a, if that is free. -/
def Dst (m : M3) (bl : List Bool) (c : Int) (a : Nat) (D : List Int) : Prop :=
  if openv m bl c (posn m a).1 (posn m a).2 = true then IsDist (nb m bl c) m.cs.length a D else D = List.replicate m.cs.length (-1)
def CostsP (m : M3) (bl : List Bool) (c : Int) (a n : Nat) (W : World) (e : Ending) (w' : World) : Prop :=
  ∃ cb D, e = .returned (.slice (some ⟨cb, 0, none⟩) n n) ∧ W.heap.size ≤ cb ∧ Blk w' cb (ints D) 3 ∧ Dst m bl c a D ∧ (∀ q, -1 ≤ ga D q ∧ ga D q ≤ 30000) ∧ Below W.heap.size W w'
theorem ints_none (n : Nat) : List.replicate n (Value.int .i64 (-1)) = ints (List.replicate n (-1)) := by unfold ints; rw [List.map_replicate]
/-- The deferred check: nothing is left to be examined. -/
theorem asdone_d (F gb cx : Nat) (u : FrameMode) (w : World) (hc : w.cell? ⟨F, 1, none⟩ = some (.int .i64 0)) :
    CallsD Tryz.prog 123 #[.pointer (some ⟨F, 0, none⟩), .pointer (some ⟨gb, 0, none⟩), .pointer (some ⟨cx, 0, none⟩)] u w fun e u' w' => u' = u ∧ (e = .returned (.tuple #[]) ∧ w' = w) := by
  go_enter_d Tryz.func123, Tryz.ntmps123
  go_wp2
  go_end0
  exact ⟨rfl, rfl⟩

/-- What is asked behind a region that does not panic. -/
def onlyN (K : Act → World → Prop) : Exit → Act → World → Prop
  | .normal, a, w => K a w
  | _, _, _ => False
theorem wp_onlyN {P : Program} {x : Code} {Q : Exit → Act → World → Prop} {a : Act} {w : World} (h : x.wp P (onlyN (Q .normal)) a w) : x.wp P Q a w :=
  Code.wp_mono (fun e a w q => by cases e <;> first | exact q | exact q.elim) h

set_option maxRecDepth 100000 in
set_option maxHeartbeats 8000000 in
theorem ascosts_b (m : M3) (s : Value) (bl : List Bool) (l : Value) (c : Int) (a n : Nat) (W : World) (hG : Gd W m s bl l) (hf : formedv m = true) (ha : a < m.cs.length) (hn : Hid (m.cs.length = n)) :
    Calls Tryz.prog 74 #[.agg #[.int .i64 m.w, .int .i64 m.h, s, l, .int .i64 c], .agg #[.int .i64 (posn m a).1, .int .i64 (posn m a).2]] W (CostsP m bl c a n W) := by
  have hmf : ∀ (fn : Fn) (first cap : Array Value) (w : World), (Instr.makeFunc fn first cap).run Tryz.prog w = .ok (.func fn first cap) w := fun _ _ _ _ => rfl
  obtain ⟨fr, hfr⟩ : ∃ fr, Hid (fr = openv m bl c (posn m a).1 (posn m a).2) := ⟨_, hid rfl⟩
  have hcl := formed_len hf
  have hK := ((((Keep.nil W).alloc [.int .i64 m.w, .int .i64 m.h, s, l, .int .i64 c] 124).alloc [.int .i64 (posn m a).1, .int .i64 (posn m a).2] 29).alloc [.slice none 0 0] 79)
  simp only [World.size_alloc] at hK
  obtain ⟨X, hX⟩ : ∃ X, X = (((W.alloc (.cells [Value.int .i64 m.w, .int .i64 m.h, s, l, .int .i64 c].toArray 124)).alloc (.cells [Value.int .i64 (posn m a).1, .int .i64 (posn m a).2].toArray 29)).alloc (.cells [Value.slice none 0 0].toArray 79)) := ⟨_, rfl⟩
  have hsz : X.heap.size = W.heap.size + 3 := by rw [hX]; simp
  rw [← hX] at hK
  have hGX := hG.below hK.old
  have cn := asnumbers_b m s l c X hGX.row (by omega) hcl
  rw [hn.out] at cn
  go_enter_defers Tryz.func74, Tryz.ntmps74
  go_upto_region 1 with fail
  rw [← hX]
  clear hX
  obtain ⟨b2, h2⟩ : ∃ b2, b2 = W.heap.size + 1 + 1 := ⟨_, rfl⟩
  obtain ⟨b1, h1⟩ : ∃ b1, b1 = W.heap.size + 1 := ⟨_, rfl⟩
  obtain ⟨b0, h0⟩ : ∃ b0, b0 = W.heap.size := ⟨_, rfl⟩
  have z0 : Blk X b0 (grdL m s l c) 124 := (hK.blks (W.heap.size, grdL m s l c, 124) (by simp)).at h0.symm
  have z1 : Blk X b1 (ptL (posn m a)) 29 := (hK.blks (W.heap.size + 1, ptL (posn m a), 29) (by simp)).at h1.symm
  have z2 : Blk X b2 [.slice none 0 0] 79 := (hK.blks (W.heap.size + 1 + 1, [.slice none 0 0], 79) (by simp)).at h2.symm
  have hWX := hK.old
  rw [← h2, ← h1, ← h0]
  have k01 : W.heap.size ≤ b0 ∧ b0 < b1 ∧ b1 < b2 ∧ b2 < X.heap.size := by omega
  clear hK h0 h1 h2 hsz
  have q0 := z0.cell 0
  have q1 := z0.cell 1
  have q2 := z0.cell 2
  have q3 := z0.cell 3
  have q4 := z0.cell 4
  go_upto_region 2 with (go_at_call 122; refine cn.mono ?_; rintro e w1 ⟨cb, rfl, hcb, hB1, hb1⟩; replace z0 := z0.below hb1; replace z1 := z1.below hb1; replace z2 := z2.below hb1; have f2 := z2.frozen 0; have c2 := z2.cell 0)
  have y0 : Blk (w1.setCell ⟨b2, 0, none⟩ (.slice (some ⟨cb, 0, none⟩) n n)) b0 (grdL m s l c) 124 := z0.far _ (by omega)
  have y1 : Blk (w1.setCell ⟨b2, 0, none⟩ (.slice (some ⟨cb, 0, none⟩) n n)) b1 (ptL (posn m a)) 29 := z1.far _ (by omega)
  have y2 : Blk (w1.setCell ⟨b2, 0, none⟩ (.slice (some ⟨cb, 0, none⟩) n n)) b2 [.slice (some ⟨cb, 0, none⟩) n n] 79 := z2.set 0 _
  have yc : Blk (w1.setCell ⟨b2, 0, none⟩ (.slice (some ⟨cb, 0, none⟩) n n)) cb (ints (List.replicate n (-1))) 3 := by rw [← ints_none]; exact hB1.far _ (by omega)
  have hWV : Below W.heap.size W (w1.setCell ⟨b2, 0, none⟩ (.slice (some ⟨cb, 0, none⟩) n n)) := (below_call hWX hb1).setCell (p := ⟨b2, 0, none⟩) (show W.heap.size ≤ b2 by omega) _
  generalize w1.setCell ⟨b2, 0, none⟩ (.slice (some ⟨cb, 0, none⟩) n n) = V at *
  have kc : b2 < cb ∧ W.heap.size ≤ cb := by omega
  clear hcb hB1 hb1 z0 z1 z2 f2 c2 cn hWX hGX
  have cf := asfree_b m s bl l c (posn m a).1 (posn m a).2 fr V (hG.below hWV) hfr
  have q0 := y0.cell 0
  have q1 := y0.cell 1
  have q2 := y0.cell 2
  have q3 := y0.cell 3
  have q4 := y0.cell 4
  have p0 := y1.cell 0
  have p1 := y1.cell 1
  cases fr with
  | false =>
    go_upto_region 3 with (go_at_call 73; refine cf.mono ?_; rintro e w2 ⟨rfl, hb2⟩)
    have r0 := (y2.below hb2).cell 0
    have r1 := (y2.below hb2).frozen 0
    have y2' := y2.below hb2
    have yc' := yc.below hb2
    have hW2 := below_call hWV hb2
    clear q0 q1 q2 q3 q4 p0 p1 cf y0 y1 y2 yc hb2
    go_wp2_with fail
    have y3 := (y2'.set 0 (.slice (some ⟨cb, 0, none⟩) n n)).cell 0
    refine ⟨.slice (some ⟨cb, 0, none⟩) n n, by simp [results, Tryz.results74, go_sem, y3], cb, _, rfl, kc.2, yc'.far _ (by omega), ?_, fun q => by rw [ga_none]; omega, hW2.setCell (p := ⟨b2, 0, none⟩) (show W.heap.size ≤ b2 by omega) _⟩
    unfold Dst
    rw [if_neg (by rw [← hfr.out]; exact Bool.false_ne_true), hn.out]
  | true =>
    go_upto_region 4 with (go_at_call 73; refine cf.mono ?_; rintro e w2 ⟨rfl, hb2⟩)
    replace y0 := y0.below hb2
    replace y1 := y1.below hb2
    replace y2 := y2.below hb2
    replace yc := yc.below hb2
    have hW2 := below_call hWV hb2
    clear q0 q1 q2 q3 q4 p0 p1 cf hb2 hWV
    go_upto_region 6 with fail
    have hF := Blk.new w2 [.slice none 0 0, .int .i64 0] 170
    replace y0 := y0.alloc (.cells ([.slice none 0 0, .int .i64 0] : List Value).toArray 170)
    replace y1 := y1.alloc (.cells ([.slice none 0 0, .int .i64 0] : List Value).toArray 170)
    replace y2 := y2.alloc (.cells ([.slice none 0 0, .int .i64 0] : List Value).toArray 170)
    have hcl2 := yc.lt
    replace yc := yc.alloc (.cells ([.slice none 0 0, .int .i64 0] : List Value).toArray 170)
    have hWX := hW2.alloc hW2.size (.cells ([.slice none 0 0, .int .i64 0] : List Value).toArray 170)
    have hFlt := hF.lt
    generalize w2.alloc (.cells ([.slice none 0 0, .int .i64 0] : List Value).toArray 170) = X2 at *
    obtain ⟨F, hFe⟩ : ∃ F, F = w2.heap.size := ⟨_, rfl⟩
    rw [← hFe] at hF hcl2 hFlt ⊢
    clear hFe hW2
    have ca := fun w => asidx_b m s l c (posn m a) a w hf (idx_posn hf ha).2 (hid (idx_posn hf ha).1.symm)
    have da : (ints (List.replicate n (-1)))[a]? = some (.int .i64 (-1)) := by rw [ints_at (by rw [List.length_replicate, ← hn.out]; exact ha), ga_none]
    have an : (a : Int) < (n : Int) := by have := hn.out; omega
    have ap : (0 : Int) ≤ (a : Int) := by omega
    have hmx : Tryz.prog.follows .mixedOrders = true := by kernel_rfl
    refine wp_onlyN (wp_region_any hmx (wpAny_of_late (lt := (fun x => x == 5)) (S := fun w' => Below X2.heap.size X2 w') _ _ _ _ ?_))
    show wpAnyM _ _ _ _ _ _ _ _ _ X2.drew
    have hS0 := (Below.refl X2.heap.size X2).drew
    refine late_tk (lt := (fun x => x == 5)) (i := 0) (v := .slice (some ⟨cb, 0, none⟩) n n) (some 17) rfl (fun w' hS => by (have q0 := (y2.below hS).cell 0); go_simp) hS0 ?_
    try simp only [Act.put, List.setIfInBounds_toArray, List.set_cons_zero, List.set_cons_succ]
    refine late_tk (lt := (fun x => x == 5)) (i := 1) (v := .agg #[.int .i64 m.w, .int .i64 m.h, s, l, .int .i64 c]) (some 18) rfl (fun w' hS => by (have q0 := (y0.below hS).cell 0; have q1 := (y0.below hS).cell 1; have q2 := (y0.below hS).cell 2; have q3 := (y0.below hS).cell 3; have q4 := (y0.below hS).cell 4); go_simp) hS0 ?_
    try simp only [Act.put, List.setIfInBounds_toArray, List.set_cons_zero, List.set_cons_succ]
    refine late_tk (lt := (fun x => x == 5)) (i := 2) (v := .agg #[.int .i64 (posn m a).1, .int .i64 (posn m a).2]) (some 19) rfl (fun w' hS => by (have q0 := (y1.below hS).cell 0; have q1 := (y1.below hS).cell 1); go_simp) hS0 ?_
    try simp only [Act.put, List.setIfInBounds_toArray, List.set_cons_zero, List.set_cons_succ]
    refine late_one (i := 3) (by kernel_rfl) rfl (fun K hQ => ?_)
    go_simp
    ((with_reducible refine (ca _).mono ?_); rintro e w3 ⟨rfl, hb3⟩)
    have hS1 := below_call hS0 hb3
    clear hb3
    refine hQ.out _ _ (fun _ => hS1) ?_
    clear hQ
    try simp only [Act.put, List.setIfInBounds_toArray, List.set_cons_zero, List.set_cons_succ]
    refine late_tk (lt := (fun x => x == 5)) (i := 4) (v := .pointer (some ⟨cb, a, none⟩)) (some 21) rfl (fun w' hS => by (skip); go_simp) hS1 ?_
    try simp only [Act.put, List.setIfInBounds_toArray, List.set_cons_zero, List.set_cons_succ]
    have qc := (yc.below hS1).cell a
    rw [da] at qc
    have qf := (yc.below hS1).frozen a
    refine late_one (i := 5) (by kernel_rfl) rfl (fun K hQ => ?_)
    go_simp
    refine hQ.out _ _ (fun h => by cases h) ?_
    clear hQ
    try simp only [Act.put, List.setIfInBounds_toArray, List.set_cons_zero, List.set_cons_succ]
    refine late_done (by kernel_rfl) ?_ _
    simp only [onlyN]
    have e0 : ints ((List.replicate n (-1)).set a 0) = (ints (List.replicate n (-1))).set a (.int .i64 0) := (ints_set _ _ _).symm
    have t0 : Blk (w3.setCell ⟨cb, a, none⟩ (.int .i64 0)) b0 (grdL m s l c) 124 := (y0.below hS1).far _ (by omega)
    have t1 : Blk (w3.setCell ⟨cb, a, none⟩ (.int .i64 0)) b1 (ptL (posn m a)) 29 := (y1.below hS1).far _ (by omega)
    have t2 : Blk (w3.setCell ⟨cb, a, none⟩ (.int .i64 0)) b2 [.slice (some ⟨cb, 0, none⟩) n n] 79 := (y2.below hS1).far _ (by omega)
    have tc : Blk (w3.setCell ⟨cb, a, none⟩ (.int .i64 0)) cb (ints ((List.replicate n (-1)).set a 0)) 3 := by rw [e0]; exact (yc.below hS1).set a _
    have tF : Blk (w3.setCell ⟨cb, a, none⟩ (.int .i64 0)) F [.slice none 0 0, .int .i64 0] 170 := (hF.below hS1).far _ (by omega)
    have hWt : Below W.heap.size W (w3.setCell ⟨cb, a, none⟩ (.int .i64 0)) := (below_call hWX hS1).setCell (p := ⟨cb, a, none⟩) (show W.heap.size ≤ cb from kc.2) _
    have hszt : F < (w3.setCell ⟨cb, a, none⟩ (.int .i64 0)).heap.size := tF.lt
    generalize w3.setCell ⟨cb, a, none⟩ (.int .i64 0) = T at *
    clear hS0 hS1 y0 y1 y2 yc hF e0 ca da qc qf hWX hFlt
    have fr0 : Fr T m (F + 1) F (.slice none 0 0) [] [] 0 := ⟨tF, World.ownsRow_nil _ _ _ _, rfl, fun i u h => by simp at h, fun i j u u' h => by simp at h, by omega⟩
    have cadd := asadd_b m a 0 (posn m a).1 (posn m a).2 T (F + 1) F (.slice none 0 0) [] [] 0 fr0 (hid rfl) (hid rfl) (by omega) (by omega) (by simp) (by unfold bk; simp) (by omega)
    have p0 := t1.cell 0
    have p1 := t1.cell 1
    go_upto_region 8 with (go_at_call 124; refine cadd.mono ?_; rintro e w4 ⟨rfl, v1, vs1, g1, g2, -⟩)
    have nfb : ∀ b, Fb F (.slice none 0 0) [] b → b = F := fun b hb => by
      rcases hb with rfl | hb | ⟨u, hu, _⟩
      · rfl
      · simp [Value.ownBlock] at hb
      · simp at hu
    have s0 := g2.blk t0 (fun h => by have := nfb _ h; omega)
    have s2 := g2.blk t2 (fun h => by have := nfb _ h; omega)
    have sc := g2.blk tc (fun h => by have := nfb _ h; omega)
    have hW4 : Below W.heap.size W w4 := hWt.trans (g2.below (fun b hb => by have := nfb b hb; omega) hWt.size)
    have sc' : Blk w4 cb (ints ((List.replicate m.cs.length (-1)).set a 0)) 3 := by rw [hn.out]; exact sc
    have hF4 : F + 1 ≤ w4.heap.size := g1.blk.lt
    have ex : ∀ b, b < cb → ¬ Ex cb F v1 vs1 b := fun b hb h => by
      rcases h with h | h
      · omega
      · rcases (g1.fb_lt h).2 with h | h <;> omega
    have hS4 : Srch w4 m bl c a (F + 1) F cb v1 vs1 [[a]] ((List.replicate m.cs.length (-1)).set a 0) 0 [a] (fun _ => False) := ⟨g1, sc', Bkt.start ha⟩
    have exge : ∀ b, Ex cb F v1 vs1 b → W.heap.size ≤ b := fun b hb => Ex.ge g1 kc.2 (by omega) hb
    clear t0 t1 t2 tc hWt hszt p0 p1 cadd fr0 nfb sc sc' g1 g2 an ap
    go_upto_region 9 with fail
    go_loopw [6] (fun x wr => ∃ (cc : Nat) (v : Value) (vs : List Value) (L : List (List Nat)) (D : List Int), x = .int .i64 cc ∧ cc ≤ 20000 ∧ (bk L cc).length ≤ m.cs.length ∧ Srch wr m bl c a (F + 1) F cb v vs L D cc (bk L cc) (fun _ => False) ∧ Foot (Ex cb F v1 vs1) w4 (Ex cb F v vs) wr) (fun x _ => 20001 - (intOf x).toNat)
    case atStart => exact ⟨0, v1, vs1, [[a]], _, rfl, by omega, by show 1 ≤ _; omega, hS4, Foot.refl _ _⟩
    case round =>
      clear hS4
      obtain ⟨cc, v, vs, L, D, rfl, hcc, hbl, hS, hFt⟩ := hrel
      obtain ⟨nL, hnL⟩ : ∃ nL, Hid (nL = L.length) := ⟨_, hid rfl⟩
      have hvl : vs.length = nL := by rw [hnL.out]; exact hS.fr.len
      obtain ⟨q, cap, hv⟩ : ∃ q cap, v = .slice q nL cap := by
        rcases hS.fr.row.2 with ⟨e, e2⟩ | ⟨g, cap, cur, e, _⟩
        · exact ⟨none, 0, by rw [e, ← hvl, e2]⟩
        · exact ⟨_, _, by rw [e, hvl]⟩
      subst hv
      have hll := hS.bkt.lenL
      have hnb : nL ≤ 20000 := by have := hnL.out; omega
      have c0 := hS.fr.blk.cell 0
      simp only [List.getElem?_cons_zero] at c0
      have s0r := hFt.blk s0 (ex _ (by omega))
      have s2r := hFt.blk s2 (ex _ (by omega))
      have hWr : Below W.heap.size W wr := hW4.trans (hFt.below exge hW4.size)
      have hFr2 := hFt.size
      by_cases hlt : cc < nL
      · obtain ⟨R0, hR0⟩ : ∃ R0, R0 = bk L cc := ⟨_, rfl⟩
        obtain ⟨u, hu⟩ : ∃ u, vs[cc]? = some u := ⟨_, List.getElem?_eq_getElem (by omega)⟩
        have hou := hS.fr.each cc u hu
        rw [← hR0] at hou hbl hS
        obtain ⟨nR, hnR⟩ : ∃ nR, Hid (R0.length = nR) := ⟨_, hid rfl⟩
        obtain ⟨qu, cu, hue⟩ : ∃ qu cu, u = .slice qu nR cu := by
          rw [hnR.out] at hou
          rcases hou.2 with ⟨e, e2⟩ | ⟨g, cap, cur, e, _⟩
          · exact ⟨none, 0, by rw [e, e2]⟩
          · exact ⟨_, _, e⟩
        subst hue
        obtain ⟨gv, hq⟩ : ∃ gv, q = some ⟨gv, 0, none⟩ := by
          rcases hS.fr.row.2 with ⟨_, e2⟩ | ⟨g, cap2, cur, e, _⟩
          · omega
          · injection e with e _ _; exact ⟨g, e⟩
        subst hq
        have hrow := hS.fr.row
        rw [hvl] at hrow
        have cv := hrow.cellAt cc (by omega)
        rw [hu] at cv
        have ccp : (0 : Int) ≤ (cc : Int) := by omega
        have ccn : (cc : Int) < (nL : Int) := by omega
        have hnRb : nR ≤ 1024 := by rw [← hnR.out]; omega
        go_upto_region 12 with fail
        clear hll hrow cv c0 hvl hbl
        have hRl : ∀ q, q ∈ R0 → q < m.cs.length := hS.bkt.okR
        have hR1 : R0.length ≤ 1024 := by rw [hnR.out]; exact hnRb
        clear hou
        go_loopw [37] (fun y w' => ∃ (j : Nat) (v' : Value) (vs' : List Value) (L' : List (List Nat)) (D' : List Int), y = .int .i64 j ∧ j ≤ nR ∧ Srch w' m bl c a (F + 1) F cb v' vs' L' D' cc (R0.drop j) (fun _ => False) ∧ Foot (Ex cb F v1 vs1) w4 (Ex cb F v' vs') w' ∧ vs'[cc]? = some (.slice qu nR cu) ∧ bk L' cc = R0) (fun y _ => nR - (intOf y).toNat)
        case atStart => exact ⟨0, _, vs, L, D, rfl, by omega, hS, hFt, hu, hR0.symm⟩
        case round =>
          clear hS hFt hu hR0 s0r s2r hWr hFr2
          obtain ⟨j, v', vs', L', D', rfl, hj, hS, hFt, hu, hR0⟩ := hrel
          have hFr2 := hFt.size
          have s0r := hFt.blk s0 (ex _ (by omega))
          have s2r := hFt.blk s2 (ex _ (by omega))
          have hWr : Below W.heap.size W wr := hW4.trans (hFt.below exge hW4.size)
          by_cases hjl : j < nR
          · have hjR : j < R0.length := by rw [hnR.out]; exact hjl
            obtain ⟨k, hk⟩ : ∃ k, k = R0[j] := ⟨_, rfl⟩
            have hdr : R0.drop j = k :: R0.drop (j + 1) := by rw [hk]; exact List.drop_eq_getElem_cons hjR
            have hkn : k < m.cs.length := hRl k (by rw [hk]; exact List.getElem_mem hjR)
            have hou := hS.fr.each cc _ hu
            rw [hR0, hnR.out] at hou
            obtain ⟨gu, hq⟩ : ∃ gu, qu = some ⟨gu, 0, none⟩ := by
              rcases hou.2 with ⟨_, e2⟩ | ⟨g, cap2, cur, e, _⟩
              · omega
              · injection e with e _ _; exact ⟨g, e⟩
            subst hq
            have pj := pcells_at (R0.map (posn m)) j (by rw [List.length_map]; exact hjR)
            rw [List.getElem_map, ← hk, Nat.mul_comm 2 j] at pj
            have pc0 := (hou.cellAt (j * 2) (by omega)).trans pj.1
            have pc1 := (hou.cellAt (j * 2 + 1) (by omega)).trans pj.2
            have jp : (0 : Int) ≤ (j : Int) := by omega
            have jn : (j : Int) < (nR : Int) := by omega
            clear pj hou hk
            go_upto_region 14 with fail
            have hbx := (Below.refl wr.heap.size wr).alloc (Nat.le_refl _) (.cells [Value.int .i64 (posn m k).1, .int .i64 (posn m k).2].toArray 29)
            have sp := Blk.new wr (ptL (posn m k)) 29
            have sS := hS.below hbx
            have s0q := s0r.below hbx
            have s2q := s2r.below hbx
            have hWq := below_call hWr hbx
            have hFq : Foot (Ex cb F v' vs') wr (Ex cb F v' vs') _ := Foot.of_below hbx
            have hBx : ¬ Fb F v' vs' wr.heap.size := fun h => by have := (hS.fr.fb_lt h).1; omega
            have hBx2 : wr.heap.size ≠ F := by have := hS.fr.blk.lt; omega
            generalize wr.alloc (.cells [Value.int .i64 (posn m k).1, .int .i64 (posn m k).2].toArray 29) = Y1 at *
            generalize hzz : wr.heap.size = Bp at *
            have hY1s : Bp < Y1.heap.size := sp.lt
            have hY1F : F < Y1.heap.size := sS.fr.blk.lt
            obtain ⟨cN, hcN⟩ : ∃ cN, Hid (cN = ((tot L' (cc + 1) + (R0.drop j).length : Nat) : Int)) := ⟨_, hid rfl⟩
            have hcb : 1 ≤ cN ∧ cN ≤ 30000000 := by
              have h1 := sS.bkt.total
              have h2 : (19 * m.cs.length + 1) * m.cs.length ≤ 20000 * 1024 := Nat.mul_le_mul (by omega) hcl
              rw [hcN.out, hdr, List.length_cons, List.length_drop]
              omega
            have sfr := sS.fr
            rw [← hcN.out] at sfr
            have d1 := sfr.blk.cell 1
            have d2 := sfr.blk.frozen 1
            simp only [List.getElem?_cons_zero, List.getElem?_cons_succ] at d1
            have nsub : IntKind.i64.wrap (cN - 1) = cN - 1 := IntWalk.i64_in _ (by omega)
            obtain ⟨e1, e2⟩ := sfr.count (cN - 1)
            have e3 : Hid (cN - 1 = ((tot L' (cc + 1) + (R0.drop (j + 1)).length : Nat) : Int)) := hid (by
              rw [hcN.out, hdr, List.length_cons]; push_cast; omega)
            have x0 : Blk (Y1.setCell ⟨F, 1, none⟩ (.int .i64 (cN - 1))) b0 (grdL m s l c) 124 := s0q.far _ (by omega)
            have x2 : Blk (Y1.setCell ⟨F, 1, none⟩ (.int .i64 (cN - 1))) b2 [.slice (some ⟨cb, 0, none⟩) n n] 79 := s2q.far _ (by omega)
            have xp : Blk (Y1.setCell ⟨F, 1, none⟩ (.int .i64 (cN - 1))) Bp (ptL (posn m k)) 29 := sp.far _ hBx2
            have xc : Blk (Y1.setCell ⟨F, 1, none⟩ (.int .i64 (cN - 1))) cb (ints D') 3 := sS.cost.far _ (by omega)
            have xW : Below W.heap.size W (Y1.setCell ⟨F, 1, none⟩ (.int .i64 (cN - 1))) := hWq.setCell (p := ⟨F, 1, none⟩) (show W.heap.size ≤ F by omega) _
            have xF := hFt.trans (hFq.trans (e2.wider (C := Ex cb F v' vs') (C' := Ex cb F v' vs') (fun _ h => .inr h) (fun b hb => .inl (.inr hb))))
            have xB := sS.bkt
            clear hFq hFt hFr2 hWr s0r s2r hS sp sS s0q s2q hWq sfr e2 hbx pc0 pc1 hzz
            go_upto_region 15 with fail
            generalize Y1.setCell ⟨F, 1, none⟩ (.int .i64 (cN - 1)) = Y2 at *
            rw [e3.out] at e1
            clear d1 d2 nsub hcb hcN e3 hY1s hY1F
            obtain ⟨dk, hdk⟩ : ∃ dk, Hid (dk = ga D' k) := ⟨_, hid rfl⟩
            obtain ⟨b9, hb9⟩ : ∃ b9, Hid (b9 = (dk == (cc : Int))) := ⟨_, hid rfl⟩
            have dkE : (ints D')[k]? = some (.int .i64 dk) := by rw [hdk.out]; exact ints_at (by rw [xB.base.len]; exact hkn)
            have ck := fun w => asidx_b m s l c (posn m k) k w hf (idx_posn hf hkn).2 (hid (idx_posn hf hkn).1.symm)
            have kp : (0 : Int) ≤ (k : Int) := by omega
            have kn : (k : Int) < (n : Int) := by have := hn.out; omega
            refine wp_onlyN (wp_region_held (S := fun w' => Below Y2.heap.size Y2 w') hmx ?_)
            show wpAnyH _ _ _ _ _ _ _ _ Y2.drew
            have hS0 := (Below.refl Y2.heap.size Y2).drew
            refine reg_tk (i := 0) (v := .slice (some ⟨cb, 0, none⟩) n n) (some 45) rfl (fun w' hS => by (have q0 := (x2.below hS).cell 0); go_simp) hS0 ?_
            try simp only [Act.put, List.setIfInBounds_toArray, List.set_cons_zero, List.set_cons_succ]
            refine reg_tk (i := 1) (v := .agg #[.int .i64 m.w, .int .i64 m.h, s, l, .int .i64 c]) (some 46) rfl (fun w' hS => by (have q0 := (x0.below hS).cell 0; have q1 := (x0.below hS).cell 1; have q2 := (x0.below hS).cell 2; have q3 := (x0.below hS).cell 3; have q4 := (x0.below hS).cell 4); go_simp) hS0 ?_
            try simp only [Act.put, List.setIfInBounds_toArray, List.set_cons_zero, List.set_cons_succ]
            refine reg_tk (i := 2) (v := .agg #[.int .i64 (posn m k).1, .int .i64 (posn m k).2]) (some 47) rfl (fun w' hS => by (have q0 := (xp.below hS).cell 0; have q1 := (xp.below hS).cell 1); go_simp) hS0 ?_
            try simp only [Act.put, List.setIfInBounds_toArray, List.set_cons_zero, List.set_cons_succ]
            refine reg_tk (i := 6) (v := .int .i64 cc) (some 51) rfl (fun w' hS => by (skip); go_simp) hS0 ?_
            try simp only [Act.put, List.setIfInBounds_toArray, List.set_cons_zero, List.set_cons_succ]
            refine held_one (i := 3) (by kernel_rfl) rfl (fun K hQ => ?_)
            go_simp
            ((with_reducible refine (ck _).mono ?_); rintro e w7 ⟨rfl, hb7⟩)
            have hS1 := below_call hS0 hb7
            clear hb7
            refine hQ.out _ _ hS1 ?_
            clear hQ
            try simp only [Act.put, List.setIfInBounds_toArray, List.set_cons_zero, List.set_cons_succ]
            refine reg_tk (i := 4) (v := .pointer (some ⟨cb, k, none⟩)) (some 49) rfl (fun w' hS => by (skip); go_simp) hS1 ?_
            try simp only [Act.put, List.setIfInBounds_toArray, List.set_cons_zero, List.set_cons_succ]
            refine reg_tk (i := 5) (v := .int .i64 dk) (some 50) rfl (fun w' hS => by (have q0 := (xc.below hS).cell k; rw [dkE] at q0); go_simp) hS1 ?_
            try simp only [Act.put, List.setIfInBounds_toArray, List.set_cons_zero, List.set_cons_succ]
            refine reg_tk (i := 7) (v := .bool b9) (some 52) rfl (fun w' hS => by (have z9 := hb9.out.symm); go_simp) hS1 ?_
            try simp only [Act.put, List.setIfInBounds_toArray, List.set_cons_zero, List.set_cons_succ]
            refine wpAnyH_done (by kernel_rfl) ?_ _
            simp only [onlyN]
            have xF7 := xF.trans (Foot.of_below hS1)
            have xW7 := below_call xW hS1
            rw [hdr] at xB
            have e7 := e1.below hS1
            have c7 := xc.below hS1
            have p0 := (x0.below hS1).cell 0
            have p1 := (x0.below hS1).cell 1
            have p2 := (x0.below hS1).cell 2
            have p3 := (x0.below hS1).cell 3
            have p4 := (x0.below hS1).cell 4
            have p5 := (x2.below hS1).cell 0
            have p6 := (xp.below hS1).cell 0
            have p7 := (xp.below hS1).cell 1
            simp only [List.getElem?_cons_zero, List.getElem?_cons_succ] at p0 p1 p2 p3 p4 p5 p6 p7
            have hszF : F + 1 ≤ w7.heap.size := e7.blk.lt
            have nadd : IntKind.i64.wrap ((j : Int) + 1) = ((j + 1 : Nat) : Int) := by rw [IntWalk.i64_in _ (by omega)]; simp
            clear hS0 hS1 xF xW e1 xc x0 x2 xp ck dkE kp kn jp jn
            cases b9 with
            | true =>
              have hdc : ga D' k = cc := by have h1 := hb9.out; rw [hdk.out] at h1; exact eq_of_beq h1.symm
              obtain ⟨xB1, xM⟩ := xB.take hdc
              have cex := asexam_b m s bl l c a k (F + 1) F cb n v' vs' L' D' cc (R0.drop (j + 1)) W w7 hG xW7 hf hkn ha hn ⟨e7, c7, xB1⟩ xM (by rw [List.length_drop]; omega) kc.2 (by omega) (by omega) hszF
              clear hb9 hdk hdc xB xB1 xM e7 c7
              go_wp2_with (go_at_call 125; refine cex.mono ?_; rintro e w8 ⟨rfl, v8, vs8, L8, D8, h1, h2, h3, h4⟩)
              go_roundw
              case rel => exact ⟨j + 1, v8, vs8, L8, D8, by simp, by omega, h1, xF7.trans h2, h3 cc _ (Nat.le_refl _) hu, (h4 cc (Nat.le_refl _)).trans hR0⟩
              case measure => simp [intOf]; omega
            | false =>
              have hdc : ga D' k ≠ cc := fun h => by have h1 := hb9.out; rw [hdk.out, h] at h1; simp at h1
              have xB1 := xB.skip hdc
              have hS7 : Srch w7 m bl c a (F + 1) F cb v' vs' L' D' cc (R0.drop (j + 1)) (fun _ => False) := ⟨e7, c7, xB1⟩
              clear hb9 hdk hdc xB xB1 e7 c7 p0 p1 p2 p3 p4 p5 p6 p7
              go_wp2_with fail
              go_roundw
              case rel => exact ⟨j + 1, v', vs', L', D', by simp, by omega, hS7, xF7, hu, hR0⟩
              case measure => simp [intOf]; omega
          · obtain rfl : j = nR := by omega
            rw [List.drop_eq_nil_of_le (by rw [hnR.out]; exact Nat.le_refl _)] at hS
            have hsm := hS.bkt.small (i := cc + 1) (by omega)
            have hnx : Srch wr m bl c a (F + 1) F cb v' vs' L' D' (cc + 1) (bk L' (cc + 1)) (fun _ => False) := by
              refine ⟨?_, hS.cost, hS.bkt.next⟩
              have e : tot L' (cc + 1) + ([] : List Nat).length = tot L' (cc + 1 + 1) + (bk L' (cc + 1)).length := by rw [tot_next L' (cc + 1)]; simp; omega
              rw [← e]; exact hS.fr
            have nadd : IntKind.i64.wrap ((cc : Int) + 1) = ((cc + 1 : Nat) : Int) := by rw [IntWalk.i64_in _ (by omega)]; simp
            clear hS hRl hR0 hu
            go_wp2_with fail
            go_roundw
            case rel => exact ⟨cc + 1, v', vs', L', D', by simp, by omega, hsm, hnx, hFt⟩
            case measure => simp [intOf]; omega
      · have hb0 : bk L cc = [] := by unfold bk; rw [List.getD_eq_getElem?_getD, List.getElem?_eq_none (by have := hnL.out; omega)]; rfl
        have hover := hS.bkt
        rw [hb0] at hover
        have hbnd : ∀ q, -1 ≤ ga D q ∧ ga D q ≤ 30000 := fun q => ⟨hover.base.low q, by have := hover.base.bound (nb_ok hf bl c) ha q; omega⟩
        have hdist := hover.over (by have := hnL.out; omega)
        have hcnt : ((tot L (cc + 1) + (bk L cc).length : Nat) : Int) = 0 := by rw [hb0, tot_end L (cc + 1) (by have := hnL.out; omega)]; rfl
        have c1 := hS.fr.blk.cell 1
        simp only [List.getElem?_cons_zero, List.getElem?_cons_succ] at c1
        rw [hcnt] at c1
        have r0 := s2r.cell 0
        have r1 := s2r.frozen 0
        simp only [List.getElem?_cons_zero] at r0
        have c1' : (wr.setCell ⟨b2, 0, none⟩ (.slice (some ⟨cb, 0, none⟩) n n)).cell? ⟨F, 1, none⟩ = some (.int .i64 0) := (World.cell?_of_block (w := wr) (Below.heap_setCell wr ⟨b2, 0, none⟩ _ F (show F ≠ b2 by omega))).trans c1
        have y3 := (s2r.set 0 (.slice (some ⟨cb, 0, none⟩) n n)).cell 0
        simp only [List.set_cons_zero, List.getElem?_cons_zero] at y3
        have hcost := hS.cost.far (c := b2) (i := 0) (.slice (some ⟨cb, 0, none⟩) n n) (show cb ≠ b2 by omega)
        have hfin : CostsP m bl c a n W (.returned (.slice (some ⟨cb, 0, none⟩) n n)) (wr.setCell ⟨b2, 0, none⟩ (.slice (some ⟨cb, 0, none⟩) n n)) := by
          refine ⟨cb, D, rfl, kc.2, hcost, ?_, hbnd, hWr.setCell (p := ⟨b2, 0, none⟩) (show W.heap.size ≤ b2 by omega) _⟩
          unfold Dst
          rw [if_pos hfr.out.symm]; exact hdist
        clear hdist hover hcost hS hll hbnd
        go_wp2_with fail
        refine leaves_cons (f := 123) (args := #[.pointer (some ⟨F, 0, none⟩), .pointer (some ⟨b0, 0, none⟩), .pointer (some ⟨b2, 0, none⟩)]) (by simp) (by simp [go_sem]) ?_
        refine (asdone_d F b0 b2 .returning _ c1').mono ?_
        rintro e u' w'' ⟨rfl, rfl, rfl⟩
        exact ⟨.slice (some ⟨cb, 0, none⟩) n n, by simp [results, Tryz.results74, go_sem, y3], hfin⟩

end

section
open Go.RowKit Go.Lib Go.Shelf

attribute [local go_sem] Oper.semAt_some
def nxF (m : M3) (D : List Int) (k : Nat) (y : Pt × Int) : Bool := decide (y.2 + ga D (idx m y.1) = ga D k)
/-- No step of these leads to where the rest is the least; one does. -/
def NxMiss (m : M3) (D : List Int) (k : Nat) (l : List (Pt × Int)) : Prop := l.find? (nxF m D k) = none
def NxHit (m : M3) (D : List Int) (k : Nat) (l : List (Pt × Int)) (b3 b4 : Nat) (Z : World) : Prop := ∃ y, l.find? (nxF m D k) = some y ∧ Blk Z b3 (ptL y.1) 29 ∧ Blk Z b4 [.bool true] 4
theorem NxMiss.snoc {m : M3} {D : List Int} {k : Nat} {l : List (Pt × Int)} {x : Pt × Int} (h : NxMiss m D k l) (hx : nxF m D k x = false) : NxMiss m D k (l ++ [x]) := by
  unfold NxMiss at *; exact find_miss h hx
theorem NxMiss.hit {m : M3} {D : List Int} {k : Nat} {l : List (Pt × Int)} {x : Pt × Int} (h : NxMiss m D k l) (hx : nxF m D k x = true) : (l ++ [x]).find? (nxF m D k) = some x := by
  unfold NxMiss at h; exact find_hit h hx
theorem next_nbp {m : M3} (bl : List Bool) (c : Int) (D : List Int) {k : Nat} (hk : k < m.cs.length) : nextG (nb m bl c) D k = ((nbp m bl c (posn m k)).find? (nxF m D k)).map fun y => (idx m y.1, y.2) := by
  unfold nextG nb
  rw [if_pos hk, List.find?_map]
  rfl
def NextP (m : M3) (bl : List Bool) (c : Int) (D : List Int) (k : Nat) (W : World) (e : Ending) (w' : World) : Prop :=
  Below W.heap.size W w' ∧ ((nextG (nb m bl c) D k = none ∧ e = .returned (.tuple #[.agg #[.int .i64 0, .int .i64 0], .bool false])) ∨ (∃ q w, nextG (nb m bl c) D k = some (q, w) ∧ q < m.cs.length ∧ e = .returned (.tuple #[.agg #[.int .i64 (posn m q).1, .int .i64 (posn m q).2], .bool true])))

set_option maxRecDepth 100000 in
set_option maxHeartbeats 8000000 in
theorem asnext_b (m : M3) (s : Value) (bl : List Bool) (l : Value) (c : Int) (k rb n : Nat) (D : List Int) (W : World) (hG : Gd W m s bl l) (hf : formedv m = true) (hk : k < m.cs.length) (hn : Hid (m.cs.length = n)) (hD : Blk W rb (ints D) 3) (hDl : D.length = m.cs.length) (hDb : ∀ q, -1 ≤ ga D q ∧ ga D q ≤ 30000) :
    Calls Tryz.prog 126 #[.agg #[.int .i64 m.w, .int .i64 m.h, s, l, .int .i64 c], .agg #[.int .i64 (posn m k).1, .int .i64 (posn m k).2], .slice (some ⟨rb, 0, none⟩) n n] W (NextP m bl c D k W) := by
  have hcl := formed_len hf
  refine callsIn_wide (n := 9).1 ?_
  refine callsIn_of_wp_marks Tryz.func126 rfl trivial ?_ rfl
  simp only [Tryz.ntmps126, List.size_toArray, List.length_cons, List.length_nil, Nat.reduceAdd, Nat.reduceSub, Array.replicate_succ, Array.replicate_zero, List.push_toArray, List.append_toArray, List.nil_append, List.cons_append]
  have hK := (((((Keep.nil W).alloc [.int .i64 m.w, .int .i64 m.h, s, l, .int .i64 c] 124).alloc [.int .i64 (posn m k).1, .int .i64 (posn m k).2] 29).alloc [.slice (some ⟨rb, 0, none⟩) n n] 79).alloc [.int .i64 0, .int .i64 0] 29).alloc [.bool false] 4
  simp only [World.size_alloc] at hK
  gi_wp2
  refine ⟨trivial, ?_⟩
  obtain ⟨X, hX⟩ : ∃ X, X = ((((W.alloc (.cells [Value.int .i64 m.w, .int .i64 m.h, s, l, .int .i64 c].toArray 124)).alloc (.cells [Value.int .i64 (posn m k).1, .int .i64 (posn m k).2].toArray 29)).alloc (.cells [Value.slice (some ⟨rb, 0, none⟩) n n].toArray 79)).alloc (.cells [Value.int .i64 0, .int .i64 0].toArray 29)).alloc (.cells [Value.bool false].toArray 4) := ⟨_, rfl⟩
  have hsz : X.heap.size = W.heap.size + 5 := by rw [hX]; simp
  rw [← hX] at hK ⊢
  clear hX
  ((with_reducible refine (callsIn_wide (n := 8).2 (assteps_b m s l c (posn m k).1 (posn m k).2 X)).mono ?_); rintro e1 w1 ⟨rfl, rfl⟩)
  have hK2 := (hK.alloc [.int .i64 m.w, .int .i64 m.h, s, l, .int .i64 c] 124).alloc [.int .i64 (posn m k).1, .int .i64 (posn m k).2] 29
  simp only [World.size_alloc, hsz] at hK2
  obtain ⟨Y, hY⟩ : ∃ Y, Y = (X.alloc (.cells [Value.int .i64 m.w, .int .i64 m.h, s, l, .int .i64 c].toArray 124)).alloc (.cells [Value.int .i64 (posn m k).1, .int .i64 (posn m k).2].toArray 29) := ⟨_, rfl⟩
  have hsY : Y.heap.size = W.heap.size + 7 := by rw [hY]; simp; omega
  rw [← hY] at hK2 ⊢
  clear hY hK
  rw [hsz]
  gi_wp2
  obtain ⟨g5, h5⟩ : ∃ g5, g5 = W.heap.size + 5 := ⟨_, rfl⟩
  obtain ⟨b4, h4⟩ : ∃ b4, b4 = W.heap.size + 1 + 1 + 1 + 1 := ⟨_, rfl⟩
  obtain ⟨b3, h3⟩ : ∃ b3, b3 = W.heap.size + 1 + 1 + 1 := ⟨_, rfl⟩
  obtain ⟨b2, h2⟩ : ∃ b2, b2 = W.heap.size + 1 + 1 := ⟨_, rfl⟩
  obtain ⟨b1, h1⟩ : ∃ b1, b1 = W.heap.size + 1 := ⟨_, rfl⟩
  obtain ⟨b0, h0⟩ : ∃ b0, b0 = W.heap.size := ⟨_, rfl⟩
  have bG : Blk Y g5 (grdL m s l c) 124 := (hK2.blks (W.heap.size + 5, grdL m s l c, 124) (by simp)).at (by omega)
  have bP : Blk Y (g5 + 1) (ptL (posn m k)) 29 := (hK2.blks (W.heap.size + 5 + 1, ptL (posn m k), 29) (by simp)).at (by omega)
  have bQ : Blk Y b2 [.slice (some ⟨rb, 0, none⟩) n n] 79 := (hK2.blks (W.heap.size + 1 + 1, [.slice (some ⟨rb, 0, none⟩) n n], 79) (by simp)).at (by omega)
  have bN : Blk Y b3 [.int .i64 0, .int .i64 0] 29 := (hK2.blks (W.heap.size + 1 + 1 + 1, [.int .i64 0, .int .i64 0], 29) (by simp)).at (by omega)
  have bB : Blk Y b4 [.bool false] 4 := (hK2.blks (W.heap.size + 1 + 1 + 1 + 1, [.bool false], 4) (by simp)).at (by omega)
  have bZ : Blk Y b0 (grdL m s l c) 124 := (hK2.blks (W.heap.size, grdL m s l c, 124) (by simp)).at (by omega)
  have bO : Blk Y b1 (ptL (posn m k)) 29 := (hK2.blks (W.heap.size + 1, ptL (posn m k), 29) (by simp)).at (by omega)
  have hWY := hK2.old
  clear hK2
  rw [← h5, ← h4, ← h3, ← h2, ← h1, ← h0]
  have k3 : W.heap.size ≤ b3 := by omega
  have k4 : W.heap.size ≤ b4 := by omega
  have k34 : b3 ≠ b4 := by omega
  have k5 : W.heap.size ≤ Y.heap.size := by omega
  have k6 : g5 + 1 < Y.heap.size := by omega
  clear h0 h1 h2 h3 h4 h5 hsz hsY
  refine wpIn_rangeFunc_ownH (α := Stp m bl c (posn m k)) rfl (by omega) (gf := 168) (lb := #[.pointer (some ⟨g5, 0, none⟩), .pointer (some ⟨g5 + 1, 0, none⟩)]) rfl trivial (enters_of Tryz.func168 (by kernel_rfl) rfl)
    (assteps_stops m s bl l c (posn m k) W Y g5 8 hG hWY bG bP) KpS.trans (KpS.turn k5 k6) (Below.refl _ _) (fun _ => rfl)
    (fun pre Z => NxMiss m D k (pre.map (·.1)) ∧ Below W.heap.size W Z ∧ Blk Z g5 (grdL m s l c) 124 ∧ Blk Z (g5 + 1) (ptL (posn m k)) 29 ∧ Blk Z b2 [.slice (some ⟨rb, 0, none⟩) n n] 79 ∧ Blk Z b3 [.int .i64 0, .int .i64 0] 29 ∧ Blk Z b4 [.bool false] 4 ∧ Blk Z b0 (grdL m s l c) 124 ∧ Blk Z b1 (ptL (posn m k)) 29)
    (fun cd pre Z => cd = .ret ∧ Below W.heap.size W Z ∧ NxHit m D k (pre.map (·.1)) b3 b4 Z)
    ?hI ?hIx ?h0 (fun x a' Z => ∃ Bq, Blk Z Bq (ptL x.1.1) 29 ∧ a' = { tmps := #[.agg #[.int .i64 m.w, .int .i64 m.h, s, l, .int .i64 c], .agg #[.int .i64 (posn m k).1, .int .i64 (posn m k).2], .slice (some ⟨rb, 0, none⟩) n n, .pointer (some ⟨b0, 0, none⟩), .pointer (some ⟨b1, 0, none⟩), .pointer (some ⟨b2, 0, none⟩), .pointer (some ⟨b3, 0, none⟩), .pointer (some ⟨b4, 0, none⟩), .pointer (some ⟨Bq, 0, none⟩), .int .i64 x.1.2, .agg #[.int .i64 m.w, .int .i64 m.h, s, l, .int .i64 c], .agg #[.int .i64 (posn m k).1, .int .i64 (posn m k).2], .func (.func 168) #[] #[.pointer (some ⟨g5, 0, none⟩), .pointer (some ⟨g5 + 1, 0, none⟩)], .agg #[.int .i64 x.1.1.1, .int .i64 x.1.1.2], .int .i64 x.1.2, undef, undef, undef, undef, undef, undef, undef, undef, undef, undef, undef, undef, undef, undef, undef, undef, undef], defers := [] }) ?hAx ?assign ?body ?done ?stop
  case hI =>
    rintro pre A B row ⟨u1, u2, u3, u4, u5, u6, u7, u8, u9⟩ hg hr
    have hr2 := fun r e => (hr r e).2
    have := u2.size
    exact ⟨u1, asbelow_turn u2 hg this k5 hr, asblk_turn u3 hg hr2, asblk_turn u4 hg hr2, asblk_turn u5 hg hr2, asblk_turn u6 hg hr2, asblk_turn u7 hg hr2, asblk_turn u8 hg hr2, asblk_turn u9 hg hr2⟩
  case hIx =>
    rintro cd pre A B row ⟨u1, u2, y, u3, u4, u5⟩ hg hr
    have hr2 := fun r e => (hr r e).2
    have := u2.size
    exact ⟨u1, asbelow_turn u2 hg this k5 hr, y, u3, asblk_turn u4 hg hr2, asblk_turn u5 hg hr2⟩
  case h0 => exact ⟨rfl, hWY, bG, bP, bQ, bN, bB, bZ, bO⟩
  case hAx =>
    rintro x a' _ A B row ⟨Bq, u1, u2⟩ hg hr
    exact ⟨Bq, asblk_turn u1 hg (fun r e => (hr r e).2), u2⟩
  case assign =>
    rintro ll pre x Z K ⟨u1, u2, u3, u4, u5, u6, u7, u8, u9⟩ hK
    have hZ := (Below.refl Z.heap.size Z).alloc (Nat.le_refl _) (.cells [Value.int .i64 x.1.1.1, .int .i64 x.1.1.2].toArray 29)
    gi_wp2
    exact hK _ _ ((KeepsOthers.alloc _ _).from _) ⟨hZ.mono u2.size, hZ.block _ u3.lt, hZ.block _ u4.lt⟩ ⟨u1, below_call u2 hZ, u3.below hZ, u4.below hZ, u5.below hZ, u6.below hZ, u7.below hZ, u8.below hZ, u9.below hZ⟩ ⟨_, Blk.new Z _ _, rfl⟩
  case body =>
    rintro ll pre x a' Z - - ⟨u1, u2, u3, u4, u5, u6, u7, u8, u9⟩ ⟨Bq, uq, rfl⟩ -
    have hin := (nbp_in x.2).1
    have hw := nbp_w x.2
    have hpi := posn_idx hf hin
    obtain ⟨i, hi⟩ : ∃ i, Hid (i = idx m x.1.1) := ⟨_, hid rfl⟩
    rw [← hi.out] at hpi
    have hil : i < D.length := by rw [hDl]; exact hpi.2.1
    have ud := hD.below u2
    have diE := ints_at hil
    have dkE := ints_at (D := D) (i := k) (by rw [hDl]; exact hk)
    have hdi := hDb i
    obtain ⟨di, hdi2⟩ : ∃ di, Hid (di = ga D i) := ⟨_, hid rfl⟩
    obtain ⟨dk, hdk2⟩ : ∃ dk, Hid (dk = ga D k) := ⟨_, hid rfl⟩
    rw [← hdi2.out] at diE hdi
    rw [← hdk2.out] at dkE
    obtain ⟨sm, hsm⟩ : ∃ sm, Hid (sm = x.1.2 + di) := ⟨_, hid rfl⟩
    obtain ⟨b9, hb9⟩ : ∃ b9, Hid (b9 = (sm == dk)) := ⟨_, hid rfl⟩
    have hnx : nxF m D k x.1 = b9 := by rw [hb9.out, hsm.out, hdi2.out, hdk2.out, hi.out]; unfold nxF; rw [Bool.eq_iff_iff, decide_eq_true_iff, beq_iff_eq]
    have hadd : IntKind.i64.wrap (x.1.2 + di) = sm := by rw [hsm.out]; exact IntWalk.i64_in _ (by omega)
    have hnn := hn.out
    have kn : (k : Int) < (n : Int) := by omega
    have kp : (0 : Int) ≤ (k : Int) := by omega
    have ik : (i : Int) < (n : Int) := by have := hpi.2.1; omega
    have ip : (0 : Int) ≤ (i : Int) := by omega
    have ck := fun w => asidx_b m s l c (posn m k) k w hf (idx_posn hf hk).2 (hid (idx_posn hf hk).1.symm)
    have cq := fun w => asidx_b m s l c x.1.1 i w hf hin hi
    have hmx : Tryz.prog.follows .mixedOrders = true := by kernel_rfl
    clear hnn hdi hw
    refine wpIn_block (wpIn_seq ?_)
    refine round_held (S := fun w' => Below Z.heap.size Z w') hmx (by kernel_rfl) (fun ⟨_, _, h⟩ => h) ?_
    show wpAnyH _ _ _ _ _ _ _ _ Z.drew
    have hS0 := (Below.refl Z.heap.size Z).drew
    refine reg_tk (i := 0) (v := .int .i64 x.1.2) (some 15) rfl (fun w' hS => by (skip); go_simp) hS0 ?_
    try simp only [Act.put, List.setIfInBounds_toArray, List.set_cons_zero, List.set_cons_succ]
    refine reg_tk (i := 1) (v := .slice (some ⟨rb, 0, none⟩) n n) (some 16) rfl (fun w' hS => by (have q0 := (u5.below hS).cell 0); go_simp) hS0 ?_
    try simp only [Act.put, List.setIfInBounds_toArray, List.set_cons_zero, List.set_cons_succ]
    refine reg_tk (i := 2) (v := .agg #[.int .i64 m.w, .int .i64 m.h, s, l, .int .i64 c]) (some 17) rfl (fun w' hS => by (have q0 := (u8.below hS).cell 0; have q1 := (u8.below hS).cell 1; have q2 := (u8.below hS).cell 2; have q3 := (u8.below hS).cell 3; have q4 := (u8.below hS).cell 4); go_simp) hS0 ?_
    try simp only [Act.put, List.setIfInBounds_toArray, List.set_cons_zero, List.set_cons_succ]
    refine reg_tk (i := 3) (v := .agg #[.int .i64 x.1.1.1, .int .i64 x.1.1.2]) (some 18) rfl (fun w' hS => by (have q0 := (uq.below hS).cell 0; have q1 := (uq.below hS).cell 1); go_simp) hS0 ?_
    try simp only [Act.put, List.setIfInBounds_toArray, List.set_cons_zero, List.set_cons_succ]
    refine reg_tk (i := 8) (v := .slice (some ⟨rb, 0, none⟩) n n) (some 23) rfl (fun w' hS => by (have q0 := (u5.below hS).cell 0); go_simp) hS0 ?_
    try simp only [Act.put, List.setIfInBounds_toArray, List.set_cons_zero, List.set_cons_succ]
    refine reg_tk (i := 9) (v := .agg #[.int .i64 m.w, .int .i64 m.h, s, l, .int .i64 c]) (some 24) rfl (fun w' hS => by (have q0 := (u8.below hS).cell 0; have q1 := (u8.below hS).cell 1; have q2 := (u8.below hS).cell 2; have q3 := (u8.below hS).cell 3; have q4 := (u8.below hS).cell 4); go_simp) hS0 ?_
    try simp only [Act.put, List.setIfInBounds_toArray, List.set_cons_zero, List.set_cons_succ]
    refine reg_tk (i := 10) (v := .agg #[.int .i64 (posn m k).1, .int .i64 (posn m k).2]) (some 25) rfl (fun w' hS => by (have q0 := (u9.below hS).cell 0; have q1 := (u9.below hS).cell 1); go_simp) hS0 ?_
    try simp only [Act.put, List.setIfInBounds_toArray, List.set_cons_zero, List.set_cons_succ]
    refine held_one (i := 4) (by kernel_rfl) rfl (fun K hQ => ?_)
    go_simp
    ((with_reducible refine (cq _).mono ?_); rintro e w1 ⟨rfl, hb1⟩)
    have hS1 := below_call hS0 hb1
    clear hb1
    refine hQ.out _ _ hS1 ?_
    clear hQ
    try simp only [Act.put, List.setIfInBounds_toArray, List.set_cons_zero, List.set_cons_succ]
    refine reg_tk (i := 5) (v := .pointer (some ⟨rb, i, none⟩)) (some 20) rfl (fun w' hS => by (skip); go_simp) hS1 ?_
    try simp only [Act.put, List.setIfInBounds_toArray, List.set_cons_zero, List.set_cons_succ]
    refine reg_tk (i := 6) (v := .int .i64 di) (some 21) rfl (fun w' hS => by (have q0 := (ud.below hS).cell i; rw [diE] at q0); go_simp) hS1 ?_
    try simp only [Act.put, List.setIfInBounds_toArray, List.set_cons_zero, List.set_cons_succ]
    refine reg_tk (i := 7) (v := .int .i64 sm) (some 22) rfl (fun w' hS => by (have z9 := hadd); go_simp) hS1 ?_
    try simp only [Act.put, List.setIfInBounds_toArray, List.set_cons_zero, List.set_cons_succ]
    refine held_one (i := 11) (by kernel_rfl) rfl (fun K hQ => ?_)
    go_simp
    ((with_reducible refine (ck _).mono ?_); rintro e w2 ⟨rfl, hb2⟩)
    have hS2 := below_call hS1 hb2
    clear hb2
    refine hQ.out _ _ hS2 ?_
    clear hQ
    try simp only [Act.put, List.setIfInBounds_toArray, List.set_cons_zero, List.set_cons_succ]
    refine reg_tk (i := 12) (v := .pointer (some ⟨rb, k, none⟩)) (some 27) rfl (fun w' hS => by (skip); go_simp) hS2 ?_
    try simp only [Act.put, List.setIfInBounds_toArray, List.set_cons_zero, List.set_cons_succ]
    refine reg_tk (i := 13) (v := .int .i64 dk) (some 28) rfl (fun w' hS => by (have q0 := (ud.below hS).cell k; rw [dkE] at q0); go_simp) hS2 ?_
    try simp only [Act.put, List.setIfInBounds_toArray, List.set_cons_zero, List.set_cons_succ]
    refine reg_tk (i := 14) (v := .bool b9) (some 29) rfl (fun w' hS => by (have z9 := hb9.out.symm); go_simp) hS2 ?_
    try simp only [Act.put, List.setIfInBounds_toArray, List.set_cons_zero, List.set_cons_succ]
    refine wpAnyH_done (by kernel_rfl) ?_ _
    show Exit.then _ _ Exit.normal _ _
    clear ck cq dkE diE hS0 hS1 kn kp ik ip hadd
    have v2 := below_call u2 hS2
    have v3 := u3.below hS2
    have v4 := u4.below hS2
    have v5 := u5.below hS2
    have v6 := u6.below hS2
    have v7 := u7.below hS2
    have v8 := u8.below hS2
    have v9 := u9.below hS2
    have vq := uq.below hS2
    have hks : KpS W.heap.size g5 Z w2 := ⟨hS2.mono u2.size, hS2.block _ u3.lt, hS2.block _ u4.lt⟩
    have hkf : KeepsFrom Y.heap.size Z w2 := ⟨hS2.size, fun j o _ hj _ => (hS2.block j (Array.getElem?_eq_some_iff.1 hj).1).trans hj⟩
    cases b9 with
    | false =>
      have keep : ∀ a, ownPostG Y.heap.size (KpS W.heap.size g5) (fun pre Z => NxMiss m D k (pre.map (·.1)) ∧ Below W.heap.size W Z ∧ Blk Z g5 (grdL m s l c) 124 ∧ Blk Z (g5 + 1) (ptL (posn m k)) 29 ∧ Blk Z b2 [.slice (some ⟨rb, 0, none⟩) n n] 79 ∧ Blk Z b3 [.int .i64 0, .int .i64 0] 29 ∧ Blk Z b4 [.bool false] 4 ∧ Blk Z b0 (grdL m s l c) 124 ∧ Blk Z b1 (ptL (posn m k)) 29) (fun cd pre Z => cd = .ret ∧ Below W.heap.size W Z ∧ NxHit m D k (pre.map (·.1)) b3 b4 Z) (pre ++ [x]) Z .normal a w2 := fun _ =>
        ⟨hkf, hks, by rw [List.map_append]; exact u1.snoc hnx, v2, v3, v4, v5, v6, v7, v8, v9⟩
      clear hkf hks u1 hnx
      gi_wp2
      all_goals exact keep _
    | true =>
      obtain ⟨_, _, _, _⟩ := vq.two
      obtain ⟨_, _, _, _⟩ := v6.two
      obtain ⟨_, _⟩ := v7.one
      have hhit := u1.hit hnx
      clear u1 hnx
      gi_wp2
      have w6 := ((v6.put2 (.int .i64 x.1.1.1) (.int .i64 x.1.1.2)).far (c := b4) (i := 0) (.bool true) k34)
      have w7 := ((v7.far (c := b3) (i := 0) (.int .i64 x.1.1.1) (fun h => k34 h.symm)).far (c := b3) (i := 1) (.int .i64 x.1.1.2) (fun h => k34 h.symm)).set 0 (.bool true)
      have wB := ((v2.setCell (p := ⟨b3, 0, none⟩) k3 (.int .i64 x.1.1.1)).setCell (p := ⟨b3, 1, none⟩) k3 (.int .i64 x.1.1.2)).setCell (p := ⟨b4, 0, none⟩) k4 (.bool true)
      refine ⟨hkf.trans (((KeepsOthers.setCell _ _ _).trans ((KeepsOthers.setCell _ _ _).trans (KeepsOthers.setCell _ _ _))).from _), rfl, wB, x.1, ?_, w6, w7⟩
      rw [List.map_append]; exact hhit
  case done =>
    rintro D1 xs Z hD1 hxs ⟨u1, u2, u3, u4, u5, u6, u7, u8, u9⟩ hK
    obtain ⟨_, _, _, _⟩ := u6.two
    obtain ⟨_, _⟩ := u7.one
    have hnone : nextG (nb m bl c) D k = none := by rw [next_nbp bl c D hk, ← hxs]; unfold NxMiss at u1; rw [u1]; rfl
    gi_wp2
    have v6 := ((u6.put2 (.int .i64 0) (.int .i64 0)).far (c := b4) (i := 0) (.bool false) k34)
    have v7 := ((u7.far (c := b3) (i := 0) (.int .i64 0) (fun h => k34 h.symm)).far (c := b3) (i := 1) (.int .i64 0) (fun h => k34 h.symm)).set 0 (.bool false)
    have hb := ((u2.setCell (p := ⟨b3, 0, none⟩) k3 (.int .i64 0)).setCell (p := ⟨b3, 1, none⟩) k3 (.int .i64 0)).setCell (p := ⟨b4, 0, none⟩) k4 (.bool false)
    have hK' := (KeepsOthers.trans (KeepsOthers.setCell Z ⟨b3, 0, none⟩ (.int .i64 0)) (KeepsOthers.trans (KeepsOthers.setCell _ ⟨b3, 1, none⟩ (.int .i64 0)) (KeepsOthers.setCell _ ⟨b4, 0, none⟩ (.bool false)))).same D1 _ hK rfl
    generalize ((Z.setCell ⟨b3, 0, none⟩ (.int .i64 0)).setCell ⟨b3, 1, none⟩ (.int .i64 0)).setCell ⟨b4, 0, none⟩ (.bool false) = Z2 at *
    refine ⟨by simp, .inl ⟨_, _, rfl, run_takeDeferred hK', ?_⟩⟩
    have c6 := (asblk_turn v6 (grownBy_putObj' Z2 D1 (.deferred none)) (fun r e => by cases e; exact ⟨_, hK', rfl⟩))
    have c7 := (asblk_turn v7 (grownBy_putObj' Z2 D1 (.deferred none)) (fun r e => by cases e; exact ⟨_, hK', rfl⟩)).cell 0
    have c60 := c6.cell 0
    have c61 := c6.cell 1
    refine ⟨.tuple #[.agg #[.int .i64 0, .int .i64 0], .bool false], ?_, hb.trans (belowK_b (w := Y) k5 Z2 D1 _ _ hD1 hK' rfl rfl), .inl ⟨hnone, rfl⟩⟩
    simp [results, Tryz.results126, go_sem, c60, c61, c7]
  case stop =>
    rintro D1 cd pre Z hD1 hpre ⟨rfl, u2, y, hy, u6, u7⟩ hK
    have hsome := find_pre hpre hy
    have hyin := List.mem_of_find?_eq_some hsome
    have hpi := posn_idx hf (nbp_in hyin).1
    have hnx : nextG (nb m bl c) D k = some (idx m y.1, y.2) := by rw [next_nbp bl c D hk, hsome]; rfl
    gi_wp2
    refine ⟨by simp, .inl ⟨_, _, rfl, run_takeDeferred hK, ?_⟩⟩
    have c6 := (asblk_turn u6 (grownBy_putObj' Z D1 (.deferred none)) (fun r e => by cases e; exact ⟨_, hK, rfl⟩))
    have c7 := (asblk_turn u7 (grownBy_putObj' Z D1 (.deferred none)) (fun r e => by cases e; exact ⟨_, hK, rfl⟩)).cell 0
    have c60 := c6.cell 0
    have c61 := c6.cell 1
    refine ⟨.tuple #[.agg #[.int .i64 y.1.1, .int .i64 y.1.2], .bool true], ?_, u2.trans (belowK_b (w := Y) k5 Z D1 _ _ hD1 hK rfl rfl), .inr ⟨_, _, hnx, hpi.2.1, by rw [hpi.1]⟩⟩
    simp [results, Tryz.results126, go_sem, c60, c61, c7]

end

section
open Go.RowKit Go.Lib

/-- How far the position in a box is, read off the world. -/
def farAt (m : M3) (D : List Int) (b : Nat) (W : World) : Nat := match W.cell? ⟨b, 0, none⟩, W.cell? ⟨b, 1, none⟩ with | some (.int _ x), some (.int _ y) => (ga D (idx m (x, y))).toNat | _, _ => 0
def DescP (m : M3) (path : List Nat) (W : World) (e : Ending) (w' : World) : Prop := ∃ v', e = .returned v' ∧ w'.ownsRow W.heap.size 29 2 v' path.length (pls m path) ∧ Below W.heap.size W w'
theorem own_same {w w' : World} {B : Nat} {e : TypeId} {size n : Nat} {v : Value} {xs : List Value} (h : w.ownsRow B e size v n xs) (hs : ∀ b, v.ownBlock = some b → w'.heap[b]? = w.heap[b]?) : w'.ownsRow B e size v n xs := by
  refine ⟨h.1, ?_⟩
  rcases h.2 with hn | ⟨g, cap, cur, rfl, hB, hh, rest⟩
  · exact .inl hn
  · refine .inr ⟨g, cap, cur, rfl, hB, ?_, rest⟩
    rw [hs g rfl]; exact hh

set_option maxRecDepth 100000 in
set_option maxHeartbeats 8000000 in
theorem asdesc_b (m : M3) (s : Value) (bl : List Bool) (l : Value) (c : Int) (k b rb n : Nat) (D : List Int) (W : World) (hG : Gd W m s bl l) (hf : formedv m = true) (hk : k < m.cs.length) (hbn : b < m.cs.length) (hn : Hid (m.cs.length = n)) (hD : Blk W rb (ints D) 3)
    (hd : IsDist (nb m bl c) m.cs.length b D) (hk0 : 0 ≤ ga D k) (hDb : ∀ q, -1 ≤ ga D q ∧ ga D q ≤ 30000) :
    Calls Tryz.prog 76 #[.agg #[.int .i64 m.w, .int .i64 m.h, s, l, .int .i64 c], .agg #[.int .i64 (posn m k).1, .int .i64 (posn m k).2], .slice (some ⟨rb, 0, none⟩) n n] W (DescP m (pathG (nb m bl c) D k) W) := by
  obtain ⟨i1, hj0, hy0, hy1, hy2⟩ := info_cut infoPosA
  have ok := nb_ok hf bl c
  obtain ⟨P, hP⟩ : ∃ P, Hid (P = pathG (nb m bl c) D k) := ⟨_, hid rfl⟩
  have hPl : P.length ≤ 30001 := by
    have h1 := (path_run ok hbn hd (ga D k).toNat k hk0 (by omega)).2.2
    have := (hDb k).2
    rw [hP.out]; omega
  have hK := (((Keep.nil W).alloc [.int .i64 m.w, .int .i64 m.h, s, l, .int .i64 c] 124).alloc [.int .i64 (posn m k).1, .int .i64 (posn m k).2] 29)
  simp only [World.size_alloc] at hK
  obtain ⟨X, hX⟩ : ∃ X, X = ((W.alloc (.cells [Value.int .i64 m.w, .int .i64 m.h, s, l, .int .i64 c].toArray 124)).alloc (.cells [Value.int .i64 (posn m k).1, .int .i64 (posn m k).2].toArray 29)) := ⟨_, rfl⟩
  have hsz : X.heap.size = W.heap.size + 2 := by rw [hX]; simp
  rw [← hX] at hK
  rw [← hP.out]
  go_enter Tryz.func76, Tryz.ntmps76
  go_upto_region 1 with fail
  rw [← hX]
  clear hX
  obtain ⟨b1, h1⟩ : ∃ b1, b1 = W.heap.size + 1 := ⟨_, rfl⟩
  obtain ⟨b0, h0⟩ : ∃ b0, b0 = W.heap.size := ⟨_, rfl⟩
  have z0 : Blk X b0 (grdL m s l c) 124 := (hK.blks (W.heap.size, grdL m s l c, 124) (by simp)).at h0.symm
  have z1 : Blk X b1 (ptL (posn m k)) 29 := (hK.blks (W.heap.size + 1, ptL (posn m k), 29) (by simp)).at h1.symm
  have hWX := hK.old
  rw [← h1, ← h0]
  have k01 : W.heap.size ≤ b0 ∧ b0 < b1 ∧ b1 < X.heap.size := by omega
  clear hK h0 h1 hsz
  have q0 := z1.cell 0
  have q1 := z1.cell 1
  simp only [List.getElem?_cons_zero, List.getElem?_cons_succ] at q0 q1
  go_upto_region 2 with fail
  have hb := (Below.refl X.heap.size X).alloc (Nat.le_refl _) (.cells [Value.int .i64 (posn m k).1, .int .i64 (posn m k).2].toArray 29)
  have hown : (X.alloc (.cells [Value.int .i64 (posn m k).1, .int .i64 (posn m k).2].toArray 29)).ownsRow X.heap.size 29 2 (.slice (some ⟨X.heap.size, 0, none⟩) 1 1) 1 [.int .i64 (posn m k).1, .int .i64 (posn m k).2] := World.ownsRow_lit X _ 1 (Nat.le_refl _) (by unfold maxLen; omega) rfl
  have z0' := z0.below hb
  have z1' := z1.below hb
  have hW1 := below_call hWX hb
  generalize X.alloc (.cells [Value.int .i64 (posn m k).1, .int .i64 (posn m k).2].toArray 29) = V at *
  have hXs : X.heap.size ≤ V.heap.size := hb.size
  generalize X.heap.size = B at *
  clear z0 z1 hb hWX q0 q1
  go_loopw [7] (fun v7 wr => ∃ (pre : List Nat) (q : Nat), wr.ownsRow B 29 2 v7 (pre.length + 1) (pls m (pre ++ [q])) ∧ Blk wr b0 (grdL m s l c) 124 ∧ Blk wr b1 (ptL (posn m q)) 29 ∧ Below W.heap.size W wr ∧ B ≤ wr.heap.size ∧ q < m.cs.length ∧ 0 ≤ ga D q ∧ P = pre ++ pathG (nb m bl c) D q) (fun _ wr => farAt m D b1 wr)
  case atStart => exact ⟨[], k, hown, z0', z1', hW1, hXs, hk, hk0, by rw [hP.out]; rfl⟩
  case round =>
    clear hown z0' z1' hW1 hXs
    obtain ⟨pre, q, hown, z0, z1, hW, hBs, hq, hq0, hPq⟩ := hrel
    replace hPq := hid hPq
    have cn := asnext_b m s bl l c q rb n D wr (hG.below hW) hf hq hn (hD.below hW) hd.len hDb
    have q0 := z0.cell 0
    have q1 := z0.cell 1
    have q2 := z0.cell 2
    have q3 := z0.cell 3
    have q4 := z0.cell 4
    have p0 := z1.cell 0
    have p1 := z1.cell 1
    have hfar : farAt m D b1 wr = (ga D q).toNat := by unfold farAt; rw [p0, p1]; show (ga D (idx m (posn m q))).toNat = _; rw [(idx_posn hf hq).1]
    have z1f := z1.frozen
    cases hnx : nextG (nb m bl c) D q with
    | none =>
      have cn' : Calls Tryz.prog 126 #[.agg #[.int .i64 m.w, .int .i64 m.h, s, l, .int .i64 c], .agg #[.int .i64 (posn m q).1, .int .i64 (posn m q).2], .slice (some ⟨rb, 0, none⟩) n n] wr fun e w' => e = .returned (.tuple #[.agg #[.int .i64 0, .int .i64 0], .bool false]) ∧ Below wr.heap.size wr w' :=
        cn.mono fun e w' ⟨h1, h2⟩ => by
          rcases h2 with ⟨_, h2⟩ | ⟨_, _, h2, _⟩
          · exact ⟨h2, h1⟩
          · rw [hnx] at h2; cases h2
      have hlast : pre ++ [q] = P := by
        rw [hPq.out]
        congr 1
        by_cases e : q = b
        · rw [e, path_goal ok hbn hd]
        · obtain ⟨_, _, h2, _⟩ := next_there ok hbn hd hq0 e
          rw [hnx] at h2; cases h2
      have hlen : P.length = pre.length + 1 := by rw [← hlast, List.length_append]; rfl
      clear cn hnx hPq
      go_wp2_with (go_at_call 126; refine cn'.mono ?_; rintro e w1 ⟨rfl, hb1⟩)
      go_ret
      have hb2 := hb1.alloc hb1.size (.cells [Value.int .i64 0, .int .i64 0].toArray 29)
      refine ⟨_, rfl, ?_, below_call hW hb2⟩
      rw [hlen, ← hlast]
      exact own_base (own_below hown hb2) (by omega)
    | some y =>
      obtain ⟨q', wt⟩ := y
      obtain ⟨s1, s2, s3⟩ := path_step ok hbn hd hq0 hnx
      have hq' : q' < m.cs.length := (ok.lt _ _ _ (next_some hnx).1).2
      have cn' : Calls Tryz.prog 126 #[.agg #[.int .i64 m.w, .int .i64 m.h, s, l, .int .i64 c], .agg #[.int .i64 (posn m q).1, .int .i64 (posn m q).2], .slice (some ⟨rb, 0, none⟩) n n] wr fun e w' => e = .returned (.tuple #[.agg #[.int .i64 (posn m q').1, .int .i64 (posn m q').2], .bool true]) ∧ Below wr.heap.size wr w' :=
        cn.mono fun e w' ⟨h1, h2⟩ => by
          rcases h2 with ⟨h2, _⟩ | ⟨_, _, h2, _, h3⟩
          · rw [hnx] at h2; cases h2
          · rw [hnx] at h2
            injection h2 with h2
            injection h2 with h2 _
            subst h2
            exact ⟨h3, h1⟩
      have hPn := hid (show P = (pre ++ [q]) ++ pathG (nb m bl c) D q' by rw [hPq.out, s1, List.append_assoc]; rfl)
      have hPlen : pre.length + 2 ≤ P.length := by
        obtain ⟨t, ht⟩ := path_head (nb := nb m bl c) D q'
        rw [hPn.out, ht, List.length_append, List.length_append]; simp; omega
      clear cn hnx hPq
      go_upto_region 5 with (go_at_call 126; refine cn'.mono ?_; rintro e w1 ⟨rfl, hb1⟩)
      have hb2 := hb1.alloc hb1.size (.cells [Value.int .i64 (posn m q').1, .int .i64 (posn m q').2].toArray 29)
      have zq := Blk.new w1 (ptL (posn m q')) 29
      have y0 := z0.below hb2
      have y1 := z1.below hb2
      have hown2 := own_below hown hb2
      have hW2 := below_call hW hb2
      have hvl : ∀ g, u7.ownBlock = some g → B ≤ g ∧ g < w1.heap.size := fun g hg => by have := hown.lt g hg; have := hb1.size; omega
      have hBs2 := hb2.size
      generalize w1.alloc (.cells [Value.int .i64 (posn m q').1, .int .i64 (posn m q').2].toArray 29) = Z1 at *
      generalize w1.heap.size = Bq at *
      obtain ⟨X2, hX2⟩ : ∃ X2, X2 = Z1.alloc (.cells [Value.int .i64 (posn m q').1, .int .i64 (posn m q').2].toArray 29) := ⟨_, rfl⟩
      have hX2s : X2.heap.size = Z1.heap.size + 1 := by rw [hX2]; simp
      have hb3 : Below Z1.heap.size Z1 X2 := by rw [hX2]; exact (Below.refl _ _).alloc (Nat.le_refl _) _
      obtain ⟨v', W', hrun, hown3, hg, hwh⟩ := app_where (P := Tryz.prog) X2 B 51 51 29 i1 (.agg #[.int .i64 0, .int .i64 0]) 2 16 Tryz.underlying51 hj0 hy0 hy1 hy2 rfl (by decide) u7 _ _ (own_below hown2 hb3) ⟨Z1.heap.size, 0, none⟩ 1 [.int .i64 (posn m q').1, .int .i64 (posn m q').2] rfl
        (by rw [hX2]; exact cells_new) (posCells _ _) (by unfold maxLen; omega) (by omega) (by omega)
      have hnv : ∀ g, g < B ∨ g = Bq → ∀ j, u7.ownBlock = some j → g ≠ j := fun g hg j hj => by have := hvl j hj; omega
      have yq := (zq.below hb3).grown hg (hnv _ (.inr rfl))
      have yb0 := (y0.below hb3).grown hg (hnv _ (.inl (by omega)))
      have yb1 := (y1.below hb3).grown hg (hnv _ (.inl (by omega)))
      have hW3 : Below W.heap.size W W' := (below_call hW2 hb3).grown hg (by have := hW2.size; omega) (fun g hg => by have := hvl g hg; omega)
      have hfin : (((W'.setCell ⟨b1, 0, none⟩ (.int .i64 (posn m q').1)).setCell ⟨b1, 1, none⟩ (.int .i64 (posn m q').2))).ownsRow B 29 2 v' ((pre ++ [q]).length + 1) (pls m ((pre ++ [q]) ++ [q'])) := by
        have h1 := hown3
        rw [pls_snoc] at h1
        rw [List.length_append]
        exact ownsRow_setCell_below (ownsRow_setCell_below h1 (a := ⟨b1, 0, none⟩) (show b1 < B by omega) _) (a := ⟨b1, 1, none⟩) (show b1 < B by omega) _
      have f0 : Blk ((W'.setCell ⟨b1, 0, none⟩ (.int .i64 (posn m q').1)).setCell ⟨b1, 1, none⟩ (.int .i64 (posn m q').2)) b0 (grdL m s l c) 124 := (yb0.far _ (by omega)).far _ (by omega)
      have f1 : Blk ((W'.setCell ⟨b1, 0, none⟩ (.int .i64 (posn m q').1)).setCell ⟨b1, 1, none⟩ (.int .i64 (posn m q').2)) b1 (ptL (posn m q')) 29 := yb1.put2 _ _
      have f2 : Below W.heap.size W ((W'.setCell ⟨b1, 0, none⟩ (.int .i64 (posn m q').1)).setCell ⟨b1, 1, none⟩ (.int .i64 (posn m q').2)) := (hW3.setCell (p := ⟨b1, 0, none⟩) (show W.heap.size ≤ b1 by omega) _).setCell (p := ⟨b1, 1, none⟩) (show W.heap.size ≤ b1 by omega) _
      have f3 : B ≤ ((W'.setCell ⟨b1, 0, none⟩ (.int .i64 (posn m q').1)).setCell ⟨b1, 1, none⟩ (.int .i64 (posn m q').2)).heap.size := by have := hg.size; simp [World.setCell]; omega
      have hfar2 : farAt m D b1 ((W'.setCell ⟨b1, 0, none⟩ (.int .i64 (posn m q').1)).setCell ⟨b1, 1, none⟩ (.int .i64 (posn m q').2)) = (ga D q').toNat := by
        unfold farAt; rw [f1.cell 0, f1.cell 1]; show (ga D (idx m (posn m q'))).toNat = _; rw [(idx_posn hf hq').1]
      obtain ⟨_, _, _, _⟩ := zq.two
      obtain ⟨_, _, _, _⟩ := yq.two
      obtain ⟨_, _, _, _⟩ := yb1.two
      clear hown hown2 hown3 hg hwh hnv hvl yb0 y0 y1 z0 z1 hW hW2 hW3 hb2 hb3 hb1 zq yq yb1 hj0 hy0 hy1 hy2 hPlen s1 hBs2
      go_wp2_with (at_builtin; rw [← hX2]; refine wpList_append_run rfl (.tmp 22) (.tmp 24) 51 rfl _ _ _ W' rfl rfl hrun ?_)
      go_roundw
      case rel => exact ⟨pre ++ [q], q', hfin, f0, f1, f2, f3, hq', s2, hPn.out⟩
      case measure => rw [hfar, hfar2]; omega

end

section
open Go.RowKit Go.Lib Go.Shelf

attribute [local go_sem] Oper.semAt_some
section
variable {P : Program} {F : Fence} {n : Nat} {rest : List Oper} {ops : Array Oper} {o : Oper} {a : Act} {w : World} {Q : Exit → Act → World → Prop}
/-- An append within a fence, by its run. -/
theorem wpListIn_append_run (hg : o.guard = none) (s x : Operand) (t : TypeId) (ho : o.op = .call { callee := .builtin .append, args := #[s, x], argTypes := #[t, t] }) (v y v' : Value) (w' : World) (hs : a.eval s = v) (hx : a.eval x = y)
    (hrun : (Builtin.append_ #[t, t] o.type #[v, y]).run P w = .ok v' w') (h : wpListIn F n P ops Q rest (a.put o.dst v') w') : wpListIn F n P ops Q (o :: rest) a w := by
  refine wpListIn_plain hg fun K hK => ?_
  refine ⟨?_, ?_⟩
  · simp [Oper.about, ho, resolve, Target.leads, Sem.run_pure]
  · rw [Oper.semAt_plain F _ _ (by rw [ho]; intro c hc'; cases hc')]
    unfold execOp
    simp only [ho, resolve, invoke, builtin, Sem.run_bind, Sem.run_pure, Result.andThen_ok, List.map_toArray, List.map_cons, List.map_nil, hs, hx, hrun]
    exact hK _ _ h
theorem wpIn_onlyN {x : Code} (h : x.wpIn F n P (onlyN (Q .normal)) a w) : x.wpIn F n P Q a w :=
  wpIn_mono h (fun e a w q => by cases e <;> first | exact q | exact q.elim)
end
/-- The marks of the loops over functions that a frame has run. -/
def marks (ds : List Nat) : List Deferred := ds.map fun D => { target := .collected D, args := #[] }
/-- Cells stay; what lies below B stays. -/
structure CSame (B : Nat) (w w' : World) : Prop where
  old : Below B w w'
  same : ∀ (b : Nat) (o : Obj), w.heap[b]? = some o → o.isCells = true → w'.heap[b]? = some o
theorem leaves_marks {P : Program} {n B : Nat} {fn : Func} {tmps : Array Value} {R : Ending → World → Prop} (v : Value) (hres : ∀ w, (results fn tmps).run P w = .ok v w) : ∀ (ds : List Nat) (w : World), ds.Nodup → (∀ D ∈ ds, B ≤ D ∧ w.heap[D]? = some (.deferred (some []))) → (∀ w', CSame B w w' → R (.returned v) w') →
    LeavesInM Fence.wide n P fn tmps R (marks ds) .returning w
  | [], w, _, _, hR => ⟨v, hres w, hR w ⟨Below.refl _ _, fun _ _ h _ => h⟩⟩
  | D :: ds, w, hnd, hds, hR => by
    have hD := hds D List.mem_cons_self
    have hn := List.nodup_cons.1 hnd
    refine ⟨by simp, .inl ⟨D, _, rfl, run_takeDeferred hD.2, ?_⟩⟩
    show LeavesInM Fence.wide n P fn tmps R (marks ds) .returning _
    refine leaves_marks (B := B) v hres ds _ hn.2 (fun E hE => ?_) (fun w' hw' => hR w' ?_)
    · have := hds E (List.mem_cons_of_mem _ hE)
      exact ⟨this.1, (World.putObj_heap_other (fun e => hn.1 (by rw [← e]; exact hE))).trans this.2⟩
    · have hb : Below B w (w.putObj D (.deferred none)) := (Below.refl B w).grown (grownBy_putObj' w D _) (by have := (Array.getElem?_eq_some_iff.1 hD.2).1; omega) (fun k e => by cases e; exact hD.1)
      refine ⟨hb.trans hw'.old, fun b o hb ho => hw'.same b o ?_ ho⟩
      rw [World.putObj_heap_other (fun e => by rw [e, hD.2] at hb; injection hb with hb; subst hb; cases ho)]
      exact hb
/-- How many cells have no region yet. -/
def cM1 (R : List Int) : Nat := R.countP (fun r => r == -1)
theorem cM1_set {R : List Int} {i : Nat} {v : Int} (hi : i < R.length) (h : ga R i = -1) (hv : v ≠ -1) : cM1 (R.set i v) + 1 = cM1 R := by
  unfold cM1
  rw [List.countP_set]
  have e : R[i] = -1 := by rw [← ga_at hi]; exact h
  have hp : 0 < List.countP (fun r => r == -1) R := List.countP_pos_iff.2 ⟨R[i], List.getElem_mem hi, by rw [e]; rfl⟩
  rw [e, if_pos (by rfl), if_neg (by simpa using hv)]
  · omega
  · exact hi
/-- The memory of a filling: the stack and the regions. -/
structure FillS (Z : World) (m : M3) (bl : List Bool) (c : Int) (i rb b8 B : Nat) (R0 : List Int) (v : Value) (F : List Nat) (R : List Int) (pe : Nat → Prop) : Prop where
  box : Blk Z b8 [v] 51
  row : Z.ownsRow B 29 2 v F.length (pls m F)
  reg : Blk Z rb (ints R) 3
  fil : Fill (nb m bl c) m.cs.length i R0 R F pe
def Fx (rb b8 c2 : Nat) (v : Value) (b : Nat) : Prop := b = rb ∨ b = b8 ∨ b = c2 ∨ v.ownBlock = some b
/-- A loop's measure, read off the world. -/
def isM1 : Value → Bool | .int _ n => n == -1 | _ => false
def fillMu (rb b8 : Nat) (W : World) : Nat :=
  2 * (match W.heap[rb]? with | some (.cells cur _ _) => cur.toList.countP isM1 | _ => 0) + (match W.cell? ⟨b8, 0, none⟩ with | some (.slice _ n _) => n | _ => 0)
theorem ints_count (R : List Int) : (ints R).countP isM1 = cM1 R := by
  unfold ints cM1; rw [List.countP_map]; rfl
theorem FillS.mu {Z : World} {m : M3} {bl : List Bool} {c : Int} {i rb b8 B : Nat} {R0 : List Int} {v : Value} {F : List Nat} {R : List Int} {pe : Nat → Prop} (h : FillS Z m bl c i rb b8 B R0 v F R pe) : fillMu rb b8 Z = 2 * cM1 R + F.length := by
  unfold fillMu
  have h1 := h.reg
  unfold Blk at h1
  have h2 := h.box.cell 0
  simp only [List.getElem?_cons_zero] at h2
  rw [h1, h2]
  dsimp only
  rw [ints_count]
  rcases h.row.2 with ⟨e, e2⟩ | ⟨g, cap, cur, e, _⟩
  · rw [e, e2]
  · rw [e]

theorem blk_ne {X : World} {a b : Nat} {xs ys : List Value} {t t' : TypeId} (h : Blk X a xs t) (k : Blk X b ys t') (ne : t ≠ t') : a ≠ b := fun e => by
  subst e
  unfold Blk at h k
  rw [h] at k
  injection k with k
  injection k with _ k
  exact ne k
theorem own_ne {X : World} {B b size n : Nat} {e t : TypeId} {v : Value} {xs ys : List Value} (h : X.ownsRow B e size v n xs) (k : Blk X b ys t) (ne : e ≠ t) : v.ownBlock ≠ some b := fun eq => by
  obtain ⟨cur, hc⟩ := own_type h eq
  unfold Blk at k
  rw [hc] at k
  injection k with k
  injection k with _ k
  exact ne k
theorem own_same2 {X Y : World} {B size n : Nat} {e : TypeId} {v : Value} {xs : List Value} (h : X.ownsRow B e size v n xs) (hs : ∀ b, v.ownBlock = some b → Y.heap[b]? = X.heap[b]?) : Y.ownsRow B e size v n xs := by
  refine ⟨h.1, h.2.imp id ?_⟩
  rintro ⟨g, cap, cur, rfl, hB, hh, rest⟩
  exact ⟨g, cap, cur, rfl, hB, (hs g rfl).trans hh, rest⟩
theorem own_turn {X Y : World} {B size n : Nat} {e : TypeId} {v : Value} {xs : List Value} {row : Option Nat} (h : X.ownsRow B e size v n xs) (hg : X.grownBy Y row) (hr : ∀ r, row = some r → ∃ o : Obj, X.heap[r]? = some o ∧ o.isCells = false) : Y.ownsRow B e size v n xs :=
  own_same2 h fun b hb => by
    obtain ⟨cur, hc⟩ := own_type h hb
    refine hg.block b (Array.getElem?_eq_some_iff.1 hc).1 fun e2 => ?_
    obtain ⟨o, ho, hn⟩ := hr b e2.symm
    rw [hc] at ho
    injection ho with ho
    subst ho
    cases hn
theorem pls_last (m : M3) (F : List Nat) (p : Nat) : (pls m (F ++ [p]))[F.length * 2]? = some (.int .i64 (posn m p).1) ∧ (pls m (F ++ [p]))[F.length * 2 + 1]? = some (.int .i64 (posn m p).2) := by
  rw [← pls_snoc]
  constructor
  · rw [List.getElem?_append_right (by rw [pls_len]; exact Nat.le_refl _), pls_len, Nat.sub_self]; rfl
  · rw [List.getElem?_append_right (by rw [pls_len]; omega), pls_len, Nat.add_sub_cancel_left]; rfl
section
variable {X Y : World} {m : M3} {bl : List Bool} {c : Int} {i rb b8 B : Nat} {R0 : List Int} {v : Value} {F : List Nat} {R : List Int} {pe : Nat → Prop}
/-- What a round over the steps keeps. -/
def FillI (m : M3) (bl : List Bool) (c : Int) (i rb b8 B : Nat) (R0 R : List Int) (k p : Nat) (vK : Value) (ds : List Nat) (Y : World) (l : List (Nat × Int)) (Z : World) : Prop :=
  ∃ (v' : Value) (F' : List Nat) (R' : List Int), FillS Z m bl c i rb b8 B R0 v' F' R' (fun q => q = p) ∧ Foot (Fx rb b8 rb vK) Y (Fx rb b8 rb v') Z ∧ cM1 R' + F'.length = cM1 R + k ∧ cM1 R' ≤ cM1 R ∧ (∀ y, y ∈ l → ga R' y.1 ≠ -1) ∧ ga R' p = i ∧ ∀ D, D ∈ ds → Z.heap[D]? = some (.deferred (some []))
theorem FillS.below (h : FillS X m bl c i rb b8 B R0 v F R pe) (hb : Below X.heap.size X Y) : FillS Y m bl c i rb b8 B R0 v F R pe :=
  ⟨h.box.below hb, own_below h.row hb, h.reg.below hb, h.fil⟩
theorem FillS.turn (h : FillS X m bl c i rb b8 B R0 v F R pe) {row : Option Nat} (hg : X.grownBy Y row) (hr : ∀ r, row = some r → ∃ o : Obj, X.heap[r]? = some o ∧ o.isCells = false) : FillS Y m bl c i rb b8 B R0 v F R pe :=
  ⟨asblk_turn h.box hg hr, own_turn h.row hg hr, asblk_turn h.reg hg hr, h.fil⟩
theorem FillS.fx (h : FillS X m bl c i rb b8 B R0 v F R pe) {c2 : Nat} {ys : List Value} {tt : TypeId} (hc : Blk X c2 ys tt) {b : Nat} (hb : Fx rb b8 c2 v b) : ∃ cur t f, X.heap[b]? = some (.cells cur t f) := by
  rcases hb with rfl | rfl | rfl | hb
  · exact ⟨_, _, _, h.reg⟩
  · exact ⟨_, _, _, h.box⟩
  · exact ⟨_, _, _, hc⟩
  · obtain ⟨cur, hh⟩ := own_type h.row hb; exact ⟨_, _, _, hh⟩
theorem FillS.fx_lt (h : FillS X m bl c i rb b8 B R0 v F R pe) {c2 : Nat} {ys : List Value} {tt : TypeId} (hc : Blk X c2 ys tt) {b : Nat} (hb : Fx rb b8 c2 v b) : b < X.heap.size := by
  obtain ⟨_, _, _, hh⟩ := h.fx hc hb
  exact (Array.getElem?_eq_some_iff.1 hh).1
theorem FillS.keeps (h : FillS X m bl c i rb b8 B R0 v F R pe) {c2 : Nat} {ys : List Value} {tt : TypeId} (hc : Blk X c2 ys tt) {A : Nat → Prop} (hf : Foot (Fx rb b8 c2 v) X A Y) (C : Nat) : KeepsFrom C X Y :=
  ⟨hf.size, fun k o _ hk ho => by
    rw [hf.same k (Array.getElem?_eq_some_iff.1 hk).1 (fun hx => ?_)]
    · exact hk
    · obtain ⟨cur, t, f, hh⟩ := h.fx hc hx
      rw [hh] at hk
      injection hk with hk
      subst hk
      cases ho⟩
/-- A region's next cell is put on the stack: where it stands then. -/
theorem FillS.push {V W : World} {q : Nat} {v' : Value} (h : FillS X m bl c i rb b8 B R0 v F R pe) (hb : Below X.heap.size X Y) (hV : V = (Y.setCell ⟨rb, q, none⟩ (.int .i64 i)).alloc (.cells [Value.int .i64 (posn m q).1, .int .i64 (posn m q).2].toArray 29))
    (c2 : Nat) (hg : V.grownBy W v.ownBlock) (hown : W.ownsRow B 29 2 v' (F.length + 1) (pls m F ++ [.int .i64 (posn m q).1, .int .i64 (posn m q).2])) (hv' : ∀ b, v'.ownBlock = some b → v.ownBlock = some b ∨ V.heap.size ≤ b)
    (hfil : Fill (nb m bl c) m.cs.length i R0 (R.set q i) (F ++ [q]) pe) :
    Blk W b8 [v] 51 ∧ FillS (W.setCell ⟨b8, 0, none⟩ v') m bl c i rb b8 B R0 v' (F ++ [q]) (R.set q i) pe ∧ Foot (Fx rb b8 c2 v) X (Fx rb b8 c2 v') (W.setCell ⟨b8, 0, none⟩ v') := by
  have hrb8 : rb ≠ b8 := blk_ne h.reg h.box (by decide)
  have hvb : v.ownBlock ≠ some b8 := own_ne h.row h.box (by decide)
  have hvr : v.ownBlock ≠ some rb := own_ne h.row h.reg (by decide)
  have hYs := hb.size
  have hVs : V.heap.size = Y.heap.size + 1 := by rw [hV]; simp [World.setCell]
  have k8 := h.box.lt
  have kr := h.reg.lt
  have b8V : Blk V b8 [v] 51 := by rw [hV]; exact ((h.box.below hb).far _ (fun e => hrb8 e.symm)).alloc _
  have rbV : Blk V rb (ints (R.set q i)) 3 := by rw [hV, ← ints_set]; exact ((h.reg.below hb).set q _).alloc _
  have same : ∀ {b : Nat} {xs : List Value} {t : TypeId}, Blk V b xs t → v.ownBlock ≠ some b → Blk W b xs t := fun {b xs t} hx hne => by
    have hl := hx.lt
    unfold Blk at hx ⊢
    rw [hg.block b hl (fun e => hne e.symm)]; exact hx
  have b8W := same b8V hvb
  have rbW := same rbV hvr
  refine ⟨b8W, ⟨b8W.set 0 v', ?_, rbW.far _ hrb8, hfil⟩, ?_⟩
  · have hl : (F ++ [q]).length = F.length + 1 := by simp
    rw [hl, ← pls_snoc]
    have hne : v'.ownBlock ≠ some b8 := own_ne hown b8W (by decide)
    exact own_same2 hown fun b hb' => Below.heap_setCell W ⟨b8, 0, none⟩ _ b (fun e => hne (by rw [hb']; exact congrArg some e))
  · have f1 : Foot (Fx rb b8 c2 v) X (Fx rb b8 c2 v) V := by
      rw [hV]
      exact (Foot.of_below hb).trans ((Foot.set ⟨rb, q, none⟩ _ (.inl rfl)).trans (Foot.alloc _))
    have f2 : Foot (Fx rb b8 c2 v) V (Fx rb b8 c2 v') W := Foot.grown hg (fun k hk => .inr (.inr (.inr hk))) (fun b hb' => by
      rcases hb' with e | e | e | e
      · exact .inl (.inl e)
      · exact .inl (.inr (.inl e))
      · exact .inl (.inr (.inr (.inl e)))
      · exact (hv' b e).imp (fun e => .inr (.inr (.inr e))) id)
    exact f1.trans (f2.trans (Foot.set ⟨b8, 0, none⟩ _ (.inr (.inl rfl))))
end

end

end Go.Proofs.YtpgchjhfhndaaaaGreatDoor
