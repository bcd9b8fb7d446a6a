/-
  astar as landed at 35fbd81: the cost of a step from one cell to another.
-/
import Derived.Test.YtbdgpldhfemejaaDoorAsB
namespace Go.Proofs.YtbdgpldhfemejaaDoor
open Go.RowKit Go.Lib Go.Shelf

attribute [local go_sem] Oper.semAt_some

/-- The cost of the step from p to q, if there is one. -/
def stepC (m : M3) (bl : List Bool) (c : Int) (p q : Pt) : Option Int := ((nbp m bl c p).find? fun x => decide (x.1 = q)).map (·.2)
/-- A block, behind a turn of what is no cells. -/
theorem asblk_turn {X Y : World} {b : Nat} {vs : List Value} {t : TypeId} {row : Option Nat} (h : Blk X b vs t) (hg : X.grownBy Y row) (hr : ∀ r, row = some r → ∃ o : Obj, X.heap[r]? = some o ∧ o.isCells = false) : Blk Y b vs t := by
  refine h.grown hg fun k hk e => ?_
  subst e
  obtain ⟨o, ho, hc⟩ := hr b hk
  unfold Blk at h
  rw [h] at ho
  injection ho with ho
  subst ho
  cases hc
theorem asbelow_turn {B C : Nat} {w X Y : World} {row : Option Nat} (h : Below B w X) (hg : X.grownBy Y row) (hB : B ≤ X.heap.size) (hC : B ≤ C) (hr : ∀ r, row = some r → C ≤ r ∧ ∃ o : Obj, X.heap[r]? = some o ∧ o.isCells = false) : Below B w Y :=
  h.grown hg hB (fun k hk => Nat.le_trans hC (hr k hk).1)
theorem find_pre {α : Type} {f : α → Bool} {l l' : List α} {x : α} (h : l <+: l') (hf : l.find? f = some x) : l'.find? f = some x := by
  obtain ⟨t, rfl⟩ := h
  rw [List.find?_append, hf]; rfl
theorem find_miss {α : Type} {f : α → Bool} {l : List α} {x : α} (h : l.find? f = none) (hx : f x = false) : (l ++ [x]).find? f = none := by
  rw [List.find?_append, h]; simp [hx]
theorem find_hit {α : Type} {f : α → Bool} {l : List α} {x : α} (h : l.find? f = none) (hx : f x = true) : (l ++ [x]).find? f = some x := by
  rw [List.find?_append, h]; simp [hx]

/-- No step of these leads to q. -/
def StpMiss (q : Pt) (l : List (Pt × Int)) : Prop := l.find? (fun x => decide (x.1 = q)) = none
theorem StpMiss.snoc {q : Pt} {l : List (Pt × Int)} {x : Pt × Int} (h : StpMiss q l) (hx : x.1 ≠ q) : StpMiss q (l ++ [x]) := by
  unfold StpMiss at *; exact find_miss h (decide_eq_false hx)
theorem StpMiss.hit {q : Pt} {l : List (Pt × Int)} {x : Pt × Int} (h : StpMiss q l) (hx : x.1 = q) : (l ++ [x]).find? (fun x => decide (x.1 = q)) = some x := by
  unfold StpMiss at h; exact find_hit h (decide_eq_true hx)
/-- The step has been found: its cost lies in the results. -/
def StpHit (q : Pt) (l : List (Pt × Int)) (b3 b4 : Nat) (Z : World) : Prop := ∃ y, l.find? (fun x => decide (x.1 = q)) = some y ∧ Blk Z b3 [.int .i64 y.2] 3 ∧ Blk Z b4 [.bool true] 4

set_option maxRecDepth 100000 in
set_option maxHeartbeats 4000000 in
theorem ascost_b (m : M3) (s : Value) (bl : List Bool) (l : Value) (c : Int) (p q : Pt) (k : Int) (b : Bool) (W : World) (hG : Gd W m s bl l) (e : Hid ((k, b) = match stepC m bl c p q with | some w => (w, true) | none => (0, false))) :
    Calls Tryd.prog 36 #[.agg #[.int .i64 m.w, .int .i64 m.h, s, l, .int .i64 c], .agg #[.int .i64 p.1, .int .i64 p.2], .agg #[.int .i64 q.1, .int .i64 q.2]] W fun e w' => e = .returned (.tuple #[.int .i64 k, .bool b]) ∧ Below W.heap.size W w' := by
  refine callsIn_wide (n := 9).1 ?_
  refine callsIn_of_wp_marks Tryd.func36 rfl trivial ?_ rfl
  simp only [Tryd.ntmps36, List.size_toArray, List.length_cons, List.length_nil, Nat.reduceAdd, Nat.reduceSub, Array.replicate_succ, Array.replicate_zero, List.push_toArray, List.append_toArray, List.nil_append, List.cons_append]
  have hK := (((((Keep.nil W).alloc [.int .i64 m.w, .int .i64 m.h, s, l, .int .i64 c] 46).alloc [.int .i64 p.1, .int .i64 p.2] 27).alloc [.int .i64 q.1, .int .i64 q.2] 27).alloc [.int .i64 0] 3).alloc [.bool false] 4
  simp only [World.size_alloc] at hK
  gi_wp2
  refine ⟨trivial, ?_⟩
  obtain ⟨X, hX⟩ : ∃ X, X = ((((W.alloc (.cells [Value.int .i64 m.w, .int .i64 m.h, s, l, .int .i64 c].toArray 46)).alloc (.cells [Value.int .i64 p.1, .int .i64 p.2].toArray 27)).alloc (.cells [Value.int .i64 q.1, .int .i64 q.2].toArray 27)).alloc (.cells [Value.int .i64 0].toArray 3)).alloc (.cells [Value.bool false].toArray 4) := ⟨_, rfl⟩
  have hsz : X.heap.size = W.heap.size + 5 := by rw [hX]; simp
  rw [← hX] at hK ⊢
  clear hX
  ((with_reducible refine (callsIn_wide (n := 8).2 (assteps_b m s l c p.1 p.2 X)).mono ?_); rintro e1 w1 ⟨rfl, rfl⟩)
  have hK2 := (hK.alloc [.int .i64 m.w, .int .i64 m.h, s, l, .int .i64 c] 46).alloc [.int .i64 p.1, .int .i64 p.2] 27
  simp only [World.size_alloc, hsz] at hK2
  obtain ⟨Y, hY⟩ : ∃ Y, Y = (X.alloc (.cells [Value.int .i64 m.w, .int .i64 m.h, s, l, .int .i64 c].toArray 46)).alloc (.cells [Value.int .i64 p.1, .int .i64 p.2].toArray 27) := ⟨_, rfl⟩
  have hsY : Y.heap.size = W.heap.size + 7 := by rw [hY]; simp; omega
  rw [← hY] at hK2 ⊢
  clear hY hK
  rw [hsz]
  gi_wp2
  obtain ⟨g5, h5⟩ : ∃ g5, g5 = W.heap.size + 5 := ⟨_, rfl⟩
  obtain ⟨b4, h4⟩ : ∃ b4, b4 = W.heap.size + 1 + 1 + 1 + 1 := ⟨_, rfl⟩
  obtain ⟨b3, h3⟩ : ∃ b3, b3 = W.heap.size + 1 + 1 + 1 := ⟨_, rfl⟩
  obtain ⟨b2, h2⟩ : ∃ b2, b2 = W.heap.size + 1 + 1 := ⟨_, rfl⟩
  have bG : Blk Y g5 (grdL m s l c) 46 := (hK2.blks (W.heap.size + 5, grdL m s l c, 46) (by simp)).at (by omega)
  have bP : Blk Y (g5 + 1) (ptL p) 27 := (hK2.blks (W.heap.size + 5 + 1, ptL p, 27) (by simp)).at (by omega)
  have bQ : Blk Y b2 (ptL q) 27 := (hK2.blks (W.heap.size + 1 + 1, ptL q, 27) (by simp)).at (by omega)
  have bN : Blk Y b3 [.int .i64 0] 3 := (hK2.blks (W.heap.size + 1 + 1 + 1, [.int .i64 0], 3) (by simp)).at (by omega)
  have bB : Blk Y b4 [.bool false] 4 := (hK2.blks (W.heap.size + 1 + 1 + 1 + 1, [.bool false], 4) (by simp)).at (by omega)
  have hWY := hK2.old
  clear hK2
  rw [← h5, ← h4, ← h3, ← h2]
  have k3 : W.heap.size ≤ b3 := by omega
  have k4 : W.heap.size ≤ b4 := by omega
  have k34 : b3 ≠ b4 := by omega
  have k5 : W.heap.size ≤ Y.heap.size := by omega
  have k6 : g5 + 1 < Y.heap.size := by omega
  have k7 : b3 ≠ g5 ∧ b3 ≠ g5 + 1 ∧ b4 ≠ g5 ∧ b4 ≠ g5 + 1 := by omega
  clear h2 h3 h4 h5 hsz hsY
  refine wpIn_rangeFunc_ownH (α := Stp m bl c p) rfl (by omega) (gf := 77) (lb := #[.pointer (some ⟨g5, 0, none⟩), .pointer (some ⟨g5 + 1, 0, none⟩)]) rfl trivial (enters_of Tryd.func77 (by kernel_rfl) rfl)
    (assteps_stops m s bl l c p W Y g5 8 hG hWY bG bP) KpS.trans (KpS.turn k5 k6) (Below.refl _ _) (fun _ => rfl)
    (fun pre Z => StpMiss q (pre.map (·.1)) ∧ Below W.heap.size W Z ∧ Blk Z g5 (grdL m s l c) 46 ∧ Blk Z (g5 + 1) (ptL p) 27 ∧ Blk Z b2 (ptL q) 27 ∧ Blk Z b3 [.int .i64 0] 3 ∧ Blk Z b4 [.bool false] 4)
    (fun cd pre Z => cd = .ret ∧ Below W.heap.size W Z ∧ StpHit q (pre.map (·.1)) b3 b4 Z)
    ?hI ?hIx ?h0 (fun x a' Z => ∃ Bq, Blk Z Bq (ptL x.1.1) 27 ∧ a' = { tmps := #[.agg #[.int .i64 m.w, .int .i64 m.h, s, l, .int .i64 c], .agg #[.int .i64 p.1, .int .i64 p.2], .agg #[.int .i64 q.1, .int .i64 q.2], .pointer (some ⟨W.heap.size, 0, none⟩), .pointer (some ⟨W.heap.size + 1, 0, none⟩), .pointer (some ⟨b2, 0, none⟩), .pointer (some ⟨b3, 0, none⟩), .pointer (some ⟨b4, 0, none⟩), .pointer (some ⟨Bq, 0, none⟩), .int .i64 x.1.2, .agg #[.int .i64 m.w, .int .i64 m.h, s, l, .int .i64 c], .agg #[.int .i64 p.1, .int .i64 p.2], .func (.func 77) #[] #[.pointer (some ⟨g5, 0, none⟩), .pointer (some ⟨g5 + 1, 0, none⟩)], .agg #[.int .i64 x.1.1.1, .int .i64 x.1.1.2], .int .i64 x.1.2, undef, undef, undef, undef], defers := [] }) ?hAx ?assign ?body ?done ?stop
  case hI =>
    rintro pre A B row ⟨u1, u2, u3, u4, u5, u6, u7⟩ hg hr
    have hr2 := fun r e => (hr r e).2
    have := u2.size
    exact ⟨u1, asbelow_turn u2 hg this k5 hr, asblk_turn u3 hg hr2, asblk_turn u4 hg hr2, asblk_turn u5 hg hr2, asblk_turn u6 hg hr2, asblk_turn u7 hg hr2⟩
  case hIx =>
    rintro cd pre A B row ⟨u1, u2, y, u3, u4, u5⟩ hg hr
    have hr2 := fun r e => (hr r e).2
    have := u2.size
    exact ⟨u1, asbelow_turn u2 hg this k5 hr, y, u3, asblk_turn u4 hg hr2, asblk_turn u5 hg hr2⟩
  case h0 => exact ⟨rfl, hWY, bG, bP, bQ, bN, bB⟩
  case hAx =>
    rintro x a' _ A B row ⟨Bq, u1, u2⟩ hg hr
    exact ⟨Bq, asblk_turn u1 hg (fun r e => (hr r e).2), u2⟩
  case assign =>
    rintro ll pre x Z K ⟨u1, u2, u3, u4, u5, u6, u7⟩ hK
    have hZ := (Below.refl Z.heap.size Z).alloc (Nat.le_refl _) (.cells [Value.int .i64 x.1.1.1, .int .i64 x.1.1.2].toArray 27)
    gi_wp2
    exact hK _ _ ((KeepsOthers.alloc _ _).from _) ⟨hZ.mono u2.size, hZ.block _ u3.lt, hZ.block _ u4.lt⟩ ⟨u1, below_call u2 hZ, u3.below hZ, u4.below hZ, u5.below hZ, u6.below hZ, u7.below hZ⟩ ⟨_, Blk.new Z _ _, rfl⟩
  case body =>
    rintro ll pre x a' Z - - ⟨u1, u2, u3, u4, u5, u6, u7⟩ ⟨Bq, uq, rfl⟩ -
    obtain ⟨_, _, _, _⟩ := uq.two
    obtain ⟨_, _, _, _⟩ := u5.two
    obtain ⟨_, _⟩ := u6.one
    obtain ⟨_, _⟩ := u7.one
    have keep : x.1.1 ≠ q → ∀ a, ownPostG Y.heap.size (KpS W.heap.size g5) (fun pre Z => StpMiss q (pre.map (·.1)) ∧ Below W.heap.size W Z ∧ Blk Z g5 (grdL m s l c) 46 ∧ Blk Z (g5 + 1) (ptL p) 27 ∧ Blk Z b2 (ptL q) 27 ∧ Blk Z b3 [.int .i64 0] 3 ∧ Blk Z b4 [.bool false] 4)
        (fun cd pre Z => cd = .ret ∧ Below W.heap.size W Z ∧ StpHit q (pre.map (·.1)) b3 b4 Z) (pre ++ [x]) Z .normal a Z := fun hne _ =>
      ⟨KeepsFrom.refl _ _, KpS.refl _ _ _, by rw [List.map_append]; exact u1.snoc hne, u2, u3, u4, u5, u6, u7⟩
    by_cases e1 : x.1.1.1 = q.1
    · by_cases e2 : x.1.1.2 = q.2
      · have z1 : (x.1.1.1 == q.1) = true := beq_iff_eq.2 e1
        have z2 : (x.1.1.2 == q.2) = true := beq_iff_eq.2 e2
        have hq : x.1.1 = q := Prod.ext e1 e2
        clear e1 e2
        gi_wp2
        refine ⟨((KeepsOthers.setCell _ _ _).trans (KeepsOthers.setCell _ _ _)).from _, rfl, (u2.setCell (p := ⟨b3, 0, none⟩) k3 _).setCell (p := ⟨b4, 0, none⟩) k4 _, x.1, ?_, (u6.set 0 _).far _ k34, (u7.far _ (fun h => k34 h.symm)).set 0 _⟩
        rw [List.map_append]
        exact u1.hit hq
      · have z1 : (x.1.1.1 == q.1) = true := beq_iff_eq.2 e1
        have z2 : (x.1.1.2 == q.2) = false := beq_eq_false_iff_ne.2 e2
        have hq := keep (fun h => e2 (by rw [h]))
        clear e1 keep
        gi_wp2
        all_goals exact hq _
    · have z1 : (x.1.1.1 == q.1) = false := beq_eq_false_iff_ne.2 e1
      have hq := keep (fun h => e1 (by rw [h]))
      clear keep
      gi_wp2
      all_goals exact hq _
  case done =>
    rintro D xs Z hD hxs ⟨u1, u2, u3, u4, u5, u6, u7⟩ hK
    obtain ⟨_, _⟩ := u6.one
    obtain ⟨_, _⟩ := u7.one
    obtain ⟨rfl, rfl⟩ : k = 0 ∧ b = false := by
      have e' := e.out
      rw [hxs] at u1
      unfold StpMiss at u1
      unfold stepC at e'
      rw [u1] at e'
      exact ⟨congrArg Prod.fst e', congrArg Prod.snd e'⟩
    gi_wp2
    have hK' := (KeepsOthers.trans (KeepsOthers.setCell Z ⟨b3, 0, none⟩ (.int .i64 0)) (KeepsOthers.setCell _ ⟨b4, 0, none⟩ (.bool false))).same D _ hK rfl
    have v6 := (u6.set 0 (.int .i64 0)).far (c := b4) (i := 0) (.bool false) k34
    have v7 := (u7.far (c := b3) (i := 0) (.int .i64 0) (fun h => k34 h.symm)).set 0 (.bool false)
    have hb := (u2.setCell (p := ⟨b3, 0, none⟩) k3 (.int .i64 0)).setCell (p := ⟨b4, 0, none⟩) k4 (.bool false)
    generalize (Z.setCell ⟨b3, 0, none⟩ (.int .i64 0)).setCell ⟨b4, 0, none⟩ (.bool false) = Z2 at *
    refine ⟨by simp, .inl ⟨_, _, rfl, run_takeDeferred hK', ?_⟩⟩
    have c6 := (asblk_turn v6 (grownBy_putObj' Z2 D (.deferred none)) (fun r e => by cases e; exact ⟨_, hK', rfl⟩)).cell 0
    have c7 := (asblk_turn v7 (grownBy_putObj' Z2 D (.deferred none)) (fun r e => by cases e; exact ⟨_, hK', rfl⟩)).cell 0
    refine ⟨.tuple #[.int .i64 0, .bool false], ?_, rfl, hb.trans (belowK_b (w := Y) k5 Z2 D _ _ hD hK' rfl rfl)⟩
    simp [results, Tryd.results36, go_sem, c6, c7]
  case stop =>
    rintro D cd pre Z hD hpre ⟨rfl, u2, y, hy, u6, u7⟩ hK
    obtain ⟨rfl, rfl⟩ : k = y.2 ∧ b = true := by
      have e' := e.out
      unfold stepC at e'
      rw [find_pre hpre hy] at e'
      exact ⟨congrArg Prod.fst e', congrArg Prod.snd e'⟩
    gi_wp2
    refine ⟨by simp, .inl ⟨_, _, rfl, run_takeDeferred hK, ?_⟩⟩
    have c6 := (asblk_turn u6 (grownBy_putObj' Z D (.deferred none)) (fun r e => by cases e; exact ⟨_, hK, rfl⟩)).cell 0
    have c7 := (asblk_turn u7 (grownBy_putObj' Z D (.deferred none)) (fun r e => by cases e; exact ⟨_, hK, rfl⟩)).cell 0
    refine ⟨.tuple #[.int .i64 y.2, .bool true], ?_, rfl, u2.trans (belowK_b (w := Y) k5 Z D _ _ hD hK rfl rfl)⟩
    simp [results, Tryd.results36, go_sem, c6, c7]

end Go.Proofs.YtbdgpldhfemejaaDoor
