/-
  What the functions of cluster answer: the cells of a border, the entrances of a run.
-/
import Derived.Test.YtpgchjhfhndaaaaGreatDoorPureAs
import Derived.RangeFuncBox
import Derived.RangeFuncNested
import Derived.Lib.BufferWrite
import Derived.Test.YtpgchjhfhndaaaaGreatDoorClLandQ
import Derived.Test.YtpgchjhfhndaaaaGreatDoorClRefP
import Derived.Stop.RegionWithIn
import Derived.BigRegion
namespace Go.Proofs.YtpgchjhfhndaaaaGreatDoor

section
open Go.RowKit Go.Lib Go.Shelf

/-- What may turn between two of the body's rounds: what is no cells, and cells of type T. -/
def Loose (T : TypeId) (o : Obj) : Prop := o.isCells = false ∨ ∃ c f, o = .cells c T f
def OwnT {β : Type} (T : TypeId) (B : Nat) (I : β → World → Prop) : Prop :=
  ∀ s W W' row, I s W → W.grownBy W' row → (∀ r, row = some r → B ≤ r ∧ ∃ o : Obj, W.heap[r]? = some o ∧ Loose T o) → I s W'
/-- What the iterator itself may turn: a walk over a map, cells of type T. -/
def Turns (T : TypeId) (o : Obj) : Prop := o.isWalk = true ∨ ∃ c f, o = .cells c T f
def TurnT {β : Type} (T : TypeId) (B : Nat) (J : β → World → Prop) : Prop :=
  ∀ s W W' row, J s W → W.grownBy W' row → (∀ r, row = some r → B ≤ r ∧ ∃ o : Obj, W.heap[r]? = some o ∧ Turns T o) → J s W'
theorem OwnT.put {β : Type} {T : TypeId} {B : Nat} {I : β → World → Prop} (h : OwnT T B I) {s : β} {W : World} {l : Nat} {o : Obj} (o' : Obj) (hs : I s W) (hB : B ≤ l) (hl : W.heap[l]? = some o) (ho : o.isCells = false) : I s (W.putObj l o') :=
  h s W _ (some l) hs (grownBy_putObj' W l o') (fun r e => by cases e; exact ⟨hB, o, hl, .inl ho⟩)
theorem OwnT.grow {β : Type} {T : TypeId} {B : Nat} {I : β → World → Prop} (h : OwnT T B I) {s : β} {W W' : World} (hs : I s W) (hb : Below W.heap.size W W') : I s W' :=
  h s W W' none hs (below_grown hb) (fun _ e => by cases e)
/-- The iterator's contract: whatever the caller keeps (J), so it lets the iterator's own cells turn; the rounds go on. -/
def SeqT {α : Type} (T : TypeId) (F : Fence) (n : Nat) (P : Program) (g : Nat) (lb : Array Value) (encs : α → Array Value) (Kp : World → World → Prop) (S : List α → Prop) (N : Nat) (w : World) : Prop :=
  ∀ (l : Nat) (J : List α → World → Prop) (W : World), Below w.heap.size w W → TurnT T W.heap.size J →
    (∀ pre x W1, J pre W1 → pre.length < N → YieldAt F (n - 1) P l (encs x) W1 fun e W' => e = .returned (.bool true) ∧ J (pre ++ [x]) W' ∧ Kp W1 W') →
    J [] W → CallsIn F n P g (#[.func (.yield l) #[] #[]] ++ lb) W fun e W' => (∃ v, e = .returned v) ∧ ∃ xs, S xs ∧ J xs W'

/-- How a round's body ends. -/
def goesOn {α : Type} (B : Nat) (Kp : World → World → Prop) (I : List α → World → Prop) (xs : List α) (W : World) : Exit → Act → World → Prop
  | .normal, _, W' => KeepsFrom B W W' ∧ Kp W W' ∧ I xs W'
  | _, _, _ => False
theorem goesOn_out {α : Type} {B : Nat} {Kp : World → World → Prop} {I : List α → World → Prop} {xs : List α} {W : World} : ¬ LetsOut (goesOn B Kp I xs W) := fun ⟨_, _, k⟩ => k

/-- An object that does not turn stays. -/
theorem turns_keep {T : TypeId} {W W' : World} {row : Option Nat} (hg : W.grownBy W' row) (hr : ∀ r, row = some r → ∃ o : Obj, W.heap[r]? = some o ∧ Turns T o) {k : Nat} {o : Obj} (hk : W.heap[k]? = some o) (h1 : o.isWalk = false) (h2 : o.isCells = false) : W'.heap[k]? = some o := by
  refine (hg.block k (Array.getElem?_eq_some_iff.1 hk).1 (fun e => ?_)).trans hk
  obtain ⟨o', ho', h⟩ := hr k e.symm
  rw [hk] at ho'
  injection ho' with ho'
  subst ho'
  rcases h with h | ⟨c, f, rfl⟩
  · rw [h1] at h; cases h
  · cases h2
theorem turns_loose {T : TypeId} {o : Obj} (h : Turns T o) : Loose T o := h.imp Obj.not_cells_of_walk id

variable {F : Fence} {n : Nat} {P : Program}
theorem range_own_cells {α : Type} {g : Operand} {ps : Array Tmp} {assign body : Code} {Q : Exit → Act → World → Prop} {a : Act} {w : World} (T : TypeId)
    (hro : F.round = none) (h1 : 1 ≤ n) {gf : Nat} {lb : Array Value} (hg : a.eval g = .func (.func gf) #[] lb) (hFg : F.fn gf) (eg : ∀ args w, (callFunc gf args).run P w = .ok (.enter gf args) w)
    {encs : α → Array Value} {Kp : World → World → Prop} {S : List α → Prop} {N : Nat} {w0 : World} (hseq : SeqT T F (n - 1) P gf lb encs Kp S N w0)
    (hKt : ∀ {A B C : World}, Kp A B → Kp B C → Kp A C) (hKb : ∀ (W : World) (l : Nat) (o o' : Obj), w.heap.size ≤ l → W.heap[l]? = some o → o.isCells = false → o.isWalk = false → Kp W (W.putObj l o'))
    (hb0 : Below w0.heap.size w0 w) (hps : ∀ x, (encs x).size = ps.size)
    (I : List α → World → Prop) (hI : OwnT T w.heap.size I) (h0 : I [] w) (Ax : α → Act → World → Prop) (hAx : ∀ x a' W l o o', Ax x a' W → w.heap.size ≤ l → W.heap[l]? = some o → o.isCells = false → Ax x a' (W.putObj l o'))
    (hassign : ∀ (l : Nat) (pre : List α) (x : α) (W : World) (K : Act → World → Prop), I pre W → (∀ a' W', KeepsFrom w.heap.size W W' → Kp W W' → I pre W' → Ax x a' W' → K a' W') →
      assign.wpIn (F.inRound l) (n - 1 - 1) P (Exit.then K (fun _ _ _ => False)) { tmps := (ps.zip (encs x)).foldl (fun t (p, v) => t.setIfInBounds p v) a.tmps, defers := [] } W)
    (hbody : ∀ (l : Nat) (pre : List α) (x : α) (a' : Act) (W : World), I pre W → Ax x a' W → pre.length < N → body.wpIn (F.inRound l) (n - 1 - 1) P (goesOn w.heap.size Kp I (pre ++ [x]) W) a' W)
    (hdone : ∀ (D : Nat) (xs : List α) (W : World), w.heap.size ≤ D → S xs → I xs W → W.heap[D]? = some (.deferred (some [])) → Q .normal { a with defers := { target := .collected D, args := #[] } :: a.defers } W) :
    (Code.rangeFunc g ps assign body).wpIn F n P Q a w := by
  refine wpIn_rangeFunc fun fn hfn => ?_
  rw [hro]
  obtain ⟨rec, hrec⟩ : ∃ rec : LoopState → Loop, rec = fun st => { state := st, pending := none, fn, tmps := a.tmps, params := ps, assign, body, defers := w.heap.size } := ⟨_, rfl⟩
  obtain ⟨V, hV⟩ : ∃ V, V = (w.alloc (.deferred (some []))).alloc (.loop (rec .ready)) := ⟨_, rfl⟩
  have hbV : Below w.heap.size w V := by rw [hV]; exact ((Below.refl _ w).alloc (Nat.le_refl _) _).alloc (by simp) _
  have hVs : V.heap.size = w.heap.size + 2 := by rw [hV]; simp
  have hVl : V.heap[w.heap.size + 1]? = some (.loop (rec .ready)) := by
    rw [hV]; have := World.alloc_heap_new (w.alloc (.deferred (some []))) (.loop (rec .ready)); rwa [World.size_alloc] at this
  have hVd : V.heap[w.heap.size]? = some (.deferred (some [])) := by
    rw [hV]; exact (Below.heap_alloc _ _ _ (by simp)).trans (World.alloc_heap_new w _)
  have henter := run_enterLoop_outer (P := P) (w := w) fn a.tmps ps assign body
  refine ⟨w.heap.size + 1, [{ target := .collected w.heap.size, args := #[] }], V, { target := .fn (.func gf) lb, args := #[.func (.yield (w.heap.size + 1)) #[] #[]] }, V, gf,
    #[.func (.yield (w.heap.size + 1)) #[] #[]] ++ lb, V, by rw [hV, hrec]; exact henter, by simp only [resolve, hg]; simp [go_sem], fun f' hf' => by simp [Target.leads] at hf'; subst hf'; exact hFg, by simp [invoke, go_sem, eg], fun _ => h1, ?_⟩
  clear henter
  obtain ⟨J, hJ⟩ : ∃ J : List α → World → Prop, J = fun pre W => I pre W ∧ W.heap[w.heap.size + 1]? = some (.loop (rec .ready)) ∧ W.heap[w.heap.size]? = some (.deferred (some [])) := ⟨_, rfl⟩
  have hJT : TurnT T V.heap.size J := by
    rw [hJ]
    rintro s A B row ⟨u1, u2, u3⟩ hgr hr
    refine ⟨hI s A B row u1 hgr (fun r e => ?_), turns_keep hgr (fun r e => (hr r e).2) u2 rfl rfl, turns_keep hgr (fun r e => (hr r e).2) u3 rfl rfl⟩
    obtain ⟨k1, o, k2, k3⟩ := hr r e
    exact ⟨by omega, o, k2, turns_loose k3⟩
  refine (hseq (w.heap.size + 1) J V (hb0.trans (hbV.mono hb0.size)) hJT ?_ (by rw [hJ]; exact ⟨hI.grow h0 hbV, hVl, hVd⟩)).mono ?_
  · -- a round
    intro pre x W hj hlen
    rw [hJ] at hj
    obtain ⟨u1, u2, u3⟩ := hj
    have hy := run_yield (P := P) (args := encs x) u2 (by rw [hrec]; exact hps x)
    rw [hrec] at hy
    refine ⟨fn, _, assign, body, hy, roundIn_of_wpIn hfn (hassign _ pre x W _ u1 fun a' Wa k1 k2 k3 k4 => ?_)⟩
    clear hy u1
    replace u2 := k1.same _ _ (by omega) u2 rfl
    replace u3 := k1.same _ _ (Nat.le_refl _) u3 rfl
    have hlt : w.heap.size + 1 < Wa.heap.size := (Array.getElem?_eq_some_iff.1 u2).1
    refine ⟨_, run_beginRound u2 (by rw [hrec]), ?_⟩
    obtain ⟨Wb, hWb⟩ : ∃ Wb, Wb = Wa.putObj (w.heap.size + 1) (.loop { rec .ready with state := .busy }) := ⟨_, rfl⟩
    rw [← hWb]
    have v2 : Wb.heap[w.heap.size + 1]? = some (.loop { rec .ready with state := .busy }) := by rw [hWb]; exact World.putObj_heap_same hlt
    have v3 : Wb.heap[w.heap.size]? = some (.deferred (some [])) := by rw [hWb]; exact (World.putObj_heap_other (by omega)).trans u3
    have kb : Kp Wa Wb := by rw [hWb]; exact hKb _ _ _ _ (by omega) u2 rfl rfl
    have ib : I pre Wb := by rw [hWb]; exact hI.put _ k3 (by omega) u2 rfl
    have ab : Ax x a' Wb := by rw [hWb]; exact hAx x a' _ _ _ _ k4 (by omega) u2 rfl
    refine wpIn_mono (hbody _ pre x a' Wb ib ab hlen) ?_
    intro e a3 W3 hp
    cases e with
    | normal =>
      obtain ⟨q1, q2, q3⟩ := hp
      have w2 := q1.same _ _ (by omega) v2 rfl
      have w3 := q1.same _ _ (Nat.le_refl _) v3 rfl
      have hend := run_endRound (P := P) none w2
      rw [hJ]
      refine ⟨_, _, hend, rfl, ⟨hI.put _ q3 (by omega) w2 rfl, ?_, (World.putObj_heap_other (by omega)).trans w3⟩, hKt k2 (hKt (hKt kb q2) (hKb _ _ _ _ (by omega) w2 rfl rfl))⟩
      rw [World.putObj_heap_same (Array.getElem?_eq_some_iff.1 w2).1, hrec]
      rfl
    | ret => exact hp.elim
    | exit id => exact hp.elim
    | goto t => exact hp.elim
    | panic ch => exact hp.elim
    | outgrown => exact hp.elim
  · -- behind the iterator
    rintro e W2 ⟨⟨v, rfl⟩, xs, hS, hj⟩
    rw [hJ] at hj
    obtain ⟨u1, u2, u3⟩ := hj
    have hend := run_endLoop (P := P) u2 (by rw [hrec]; simp)
    have hpe : (rec .ready).pending = none := by rw [hrec]
    rw [hpe] at hend
    refine ⟨none, _, hend, ?_⟩
    exact hdone _ xs _ (Nat.le_refl _) hS (hI.put _ u1 (by omega) u2 rfl) ((World.putObj_heap_other (by omega)).trans u3)

end

section
open Go.RowKit Go.Lib

theorem clcells_b (o : B5) (W : World) :
    Calls Tryz.prog 134 #[.agg #[.int .i64 o.p.1, .int .i64 o.p.2, .int .i64 o.n, .int .i64 o.ac, .int .i64 o.al]] W fun e w' =>
      e = .returned (.func (.func 174) #[] #[.pointer (some ⟨W.heap.size, 0, none⟩)]) ∧ w' = W.alloc (.cells ([.int .i64 o.p.1, .int .i64 o.p.2, .int .i64 o.n, .int .i64 o.ac, .int .i64 o.al] : List Value).toArray 136) := by
  have hmf : ∀ (fn : Fn) (first cap : Array Value) (w : World), (Instr.makeFunc fn first cap).run Tryz.prog w = .ok (.func fn first cap) w := fun _ _ _ _ => rfl
  go_enter Tryz.func134, Tryz.ntmps134
  go_wp2_with fail
  go_ret
  exact ⟨rfl, rfl⟩

set_option maxRecDepth 100000 in
set_option maxHeartbeats 4000000 in
theorem clposs_b (m : M3) (s : Value) (bl : List Bool) (lp : Option Addr) (ln lk : Nat) (c : Int) (km kb kc : Nat) (p : Pt) (d : Int) (b : Bool) (W : World) (hE : EnvT W) (hh : HighAt m) (hr : RowAt W s m.cs) (hl : BitsAt W (.slice lp ln lk) bl)
    (zm : Blk W km [.int .i64 m.w, .int .i64 m.h, s] 24) (zl : Blk W kb [.slice lp ln lk] 25) (zc : Blk W kc [.int .i64 c] 3) (e : Hid (b = mayv m bl c p.1 p.2 d)) :
    Calls Tryz.prog 132 #[.agg #[.int .i64 p.1, .int .i64 p.2], .int .i64 d, .pointer (some ⟨km, 0, none⟩), .pointer (some ⟨kb, 0, none⟩), .pointer (some ⟨kc, 0, none⟩)] W fun e w' => e = .returned (.bool b) ∧ Below W.heap.size W w' := by
  obtain ⟨k, hk⟩ : ∃ k, Hid (k = costv m bl c p.1 p.2 d) := ⟨_, hid rfl⟩
  have hT := Held1.start W [.int .i64 p.1, .int .i64 p.2] 29
  obtain ⟨k0, ek⟩ : ∃ k0, Hid (k0 = W.heap.size) := ⟨_, hid rfl⟩
  go_enter Tryz.func132, Tryz.ntmps132
  go_upto_region 1 with fail
  obtain ⟨X, hX⟩ : ∃ X, X = W.alloc (.cells [Value.int .i64 p.1, .int .i64 p.2].toArray 29) := ⟨_, rfl⟩
  rw [← hX] at hT ⊢
  clear hX
  have zp := hT.l.at ek.out.symm
  have hW := hT.old
  rw [← ek.out]
  clear hT
  replace zm := zm.below hW
  replace zl := zl.below hW
  replace zc := zc.below hW
  have m0 := zm.cell 0
  have m1 := zm.cell 1
  have m2 := zm.cell 2
  have l0 := zl.cell 0
  have c0 := zc.cell 0
  have p0 := zp.cell 0
  have p1 := zp.cell 1
  simp only [List.getElem?_cons_zero, List.getElem?_cons_succ] at m0 m1 m2 l0 c0 p0 p1
  go_wp2_with fail
  ((with_reducible refine (dcost_b m s bl (.slice lp ln lk) c p.1 p.2 d b k X (hE.keep hW) hh (hr.below hW) (hl.below hW) e hk).mono ?_); rintro e w1 ⟨rfl, hb1⟩)
  go_wp2_with fail
  go_ret
  exact ⟨rfl, below_call hW hb1⟩

end

section
open Go.RowKit Go.Lib Go.Shelf

attribute [local go_sem] Oper.semAt_some
def bpos (o : B5) : Nat → Pt
  | 0 => o.p
  | k + 1 => (stx (bpos o k).1 o.al, sty (bpos o k).2 o.al)
def bcell (o : B5) (k : Nat) : Pt × Pt := (bpos o k, (stx (bpos o k).1 o.ac, sty (bpos o k).2 o.ac))
def bcells (o : B5) (n : Nat) : List (Pt × Pt) := (List.range n).map (bcell o)
theorem bcells_succ (o : B5) (n : Nat) : bcells o (n + 1) = bcells o n ++ [bcell o n] := by unfold bcells; rw [List.range_succ, List.map_append]; rfl
theorem bcells_len (o : B5) (n : Nat) : (bcells o n).length = n := by unfold bcells; rw [List.length_map, List.length_range]
/-- What a pair of cells is handed as. -/
abbrev encP (x : Pt × Pt) : Array Value := #[.agg #[.int .i64 x.1.1, .int .i64 x.1.2], .agg #[.int .i64 x.2.1, .int .i64 x.2.2]]
/-- What a round keeps: all below B, the iterator's box, every position. -/
structure KpB (B G : Nat) (W W' : World) : Prop where
  old : Below B W W'
  g : W'.heap[G]? = W.heap[G]?
  t : ∀ (k : Nat) (c : Array Value) (f : Nat × Nat), W.heap[k]? = some (.cells c 29 f) → W'.heap[k]? = W.heap[k]?
theorem KpB.trans {B G : Nat} {X Y Z : World} (h : KpB B G X Y) (k : KpB B G Y Z) : KpB B G X Z := ⟨h.old.trans k.old, k.g.trans h.g, fun i c f hi => (k.t i c f ((h.t i c f hi).trans hi)).trans (h.t i c f hi)⟩
theorem KpB.refl (B G : Nat) (W : World) : KpB B G W W := ⟨Below.refl _ _, rfl, fun _ _ _ _ => rfl⟩
theorem KpB.turn {B G : Nat} {w : World} (hB : B ≤ w.heap.size) (hG : G < w.heap.size) (W : World) (l : Nat) (o o' : Obj) (hl : w.heap.size ≤ l) (h : W.heap[l]? = some o) (h1 : o.isCells = false) (h2 : o.isWalk = false) : KpB B G W (W.putObj l o') :=
  ⟨belowK_b hB W l o o' hl h h1 h2, (grownBy_putObj' W l o').block G (by have := (Array.getElem?_eq_some_iff.1 h).1; omega) (fun e => by injection e with e; omega),
    fun k c f hk => (grownBy_putObj' W l o').block k (Array.getElem?_eq_some_iff.1 hk).1 (fun e => by injection e with e; subst e; rw [h] at hk; injection hk with hk; subst hk; cases h1)⟩
theorem blk_keep {B G b : Nat} {W W' : World} {vs : List Value} (h : KpB B G W W') (z : Blk W b vs 29) : Blk W' b vs 29 := (h.t b _ _ z).trans z

set_option maxRecDepth 100000 in
set_option maxHeartbeats 4000000 in
theorem clcells_seq (o : B5) (nn : Nat) (hnn : Hid (o.n = nn)) (h8 : nn ≤ 8) (V W0 : World) (G n : Nat) (hE : EnvT V) (hV : Below V.heap.size V W0) (_hVG : V.heap.size ≤ G) (hg : Blk W0 G [.int .i64 o.p.1, .int .i64 o.p.2, .int .i64 o.n, .int .i64 o.ac, .int .i64 o.al] 136) :
    SeqT 29 Fence.wide n Tryz.prog 174 #[.pointer (some ⟨G, 0, none⟩)] encP (KpB V.heap.size G) (fun xs => xs = bcells o nn) 8 W0 := fun ll J W hW hJ hY h0 => by
  have hgW := hg.below hW
  have hVW := below_call hV hW
  have hGlt := hgW.lt
  clear hg hV hW
  obtain ⟨kp, ekp⟩ : ∃ kp, Hid (kp = W.heap.size) := ⟨_, hid rfl⟩
  have hb0 := (Below.refl W.heap.size W).alloc (Nat.le_refl _) (.cells [Value.int .i64 o.p.1, .int .i64 o.p.2].toArray 29)
  have zp := (Blk.new W [.int .i64 o.p.1, .int .i64 o.p.2] 29).at ekp.out.symm
  have hgW1 := hgW.below hb0
  have hVW1 := below_call hVW hb0
  have hJ0 := hJ _ _ _ none h0 (below_grown hb0) (fun _ e => by cases e)
  have g0 := hgW.cell 0
  have g1 := hgW.cell 1
  have g2 := hgW1.cell 2
  simp only [List.getElem?_cons_zero, List.getElem?_cons_succ] at g0 g1 g2
  have hkG : kp ≠ G := by rw [ekp.out]; omega
  have hVk : V.heap.size ≤ kp := by rw [ekp.out]; exact hVW.size
  refine callsIn_of_wp Tryz.func174 rfl trivial ?_ rfl
  simp only [Tryz.ntmps174, List.size_toArray, List.length_cons, List.length_nil, Nat.reduceAdd, Nat.reduceSub, Array.replicate_succ, Array.replicate_zero, List.push_toArray, List.append_toArray, List.nil_append, List.cons_append]
  gi_wp2
  gi_loopw [8] (fun d wr => ∃ (k : Nat) (pre : List (Pt × Pt)), d = .int .i64 k ∧ k ≤ nn ∧ pre = bcells o k ∧ J pre wr ∧ Below V.heap.size V wr ∧ Blk wr G [.int .i64 o.p.1, .int .i64 o.p.2, .int .i64 o.n, .int .i64 o.ac, .int .i64 o.al] 136 ∧ Blk wr kp (ptL (bpos o k)) 29)
    (fun d _ => nn - (intOf d).toNat)
  case atStart => exact ⟨0, [], rfl, by omega, rfl, hJ0, hVW1, hgW1, zp⟩
  case round =>
    clear hJ0 hVW1 hgW1 zp h0 g0 g1 g2 hb0
    obtain ⟨k, pre, rfl, hk, hpre, hJs, hVw, hgw, hpw⟩ := hrel
    by_cases hlt : k < nn
    · have z1 : decide ((k : Int) < o.n) = true := decide_eq_true (by rw [hnn.out]; omega)
      obtain ⟨p, hp⟩ : ∃ p, Hid (p = bpos o k) := ⟨_, hid rfl⟩
      rw [← hp.out] at hpw
      obtain ⟨qx, hqx⟩ : ∃ q, Hid (q = stx p.1 o.ac) := ⟨_, hid rfl⟩
      obtain ⟨qy, hqy⟩ : ∃ q, Hid (q = sty p.2 o.ac) := ⟨_, hid rfl⟩
      have p0 := hpw.cell 0
      have p1 := hpw.cell 1
      have u2 := hgw.cell 3
      simp only [List.getElem?_cons_zero, List.getElem?_cons_succ] at p0 p1 u2
      have hVd : Below V.heap.size V wr.drew := hVw.drew
      have hgd : Blk wr.drew G [.int .i64 o.p.1, .int .i64 o.p.2, .int .i64 o.n, .int .i64 o.ac, .int .i64 o.al] 136 := hgw
      have hpd : Blk wr.drew kp (ptL p) 29 := hpw
      have hJd := hJ _ _ _ none hJs (below_grown (Below.refl wr.heap.size wr).drew) (fun _ e => by cases e)
      have hlen : pre.length < 8 := by rw [hpre, bcells_len]; omega
      have hs := callsIn_wide (n := n - 1).2 (dstepq_b p.1 p.2 o.ac qx qy wr.drew (hE.keep hVd) hqx hqy)
      rw [← ekp.out]
      gi_wp2
      gi_region_with (first
        | ((refine ⟨trivial, wide_no, ?_⟩); (with_reducible refine hs.mono ?_); (rintro e w1 ⟨rfl, hb1⟩); (have hVw1 := below_call hVd hb1); (have hgw1 := hgd.below hb1); (have hpw1 := hpd.below hb1); (have hJ1 := hJ _ _ _ none hJd (below_grown hb1) (fun _ e => by cases e));
            (have q0 := hpw1.cell 0); (have q1 := hpw1.cell 1); (simp only [List.getElem?_cons_zero, List.getElem?_cons_succ] at q0 q1); (obtain ⟨fn, tmps, assign, body, hy, hR⟩ := hY pre (p, (qx, qy)) w1 hJ1 hlen); (dsimp only [encP] at hy))
        | ((refine ⟨wide_no, ?_⟩); (with_reducible refine hR.mono ?_); (rintro e W' ⟨rfl, hJ', hk'⟩)))
      all_goals
        have hVw2 := hVw1.trans hk'.old
        have hgw2 : Blk W' G [.int .i64 o.p.1, .int .i64 o.p.2, .int .i64 o.n, .int .i64 o.ac, .int .i64 o.al] 136 := hk'.g.trans hgw1
        have hpw2 := blk_keep hk' hpw1
        clear hs hVd hgd hpd hJd hVw1 hgw1 hpw1 hJ1 q0 q1 hy hR p0 p1 u2 hgw hpw hJs hVw hk'
        obtain ⟨rx, hrx⟩ : ∃ q, Hid (q = stx p.1 o.al) := ⟨_, hid rfl⟩
        obtain ⟨ry, hry⟩ : ∃ q, Hid (q = sty p.2 o.al) := ⟨_, hid rfl⟩
        have p0 := hpw2.cell 0
        have p1 := hpw2.cell 1
        have u2 := hgw2.cell 4
        simp only [List.getElem?_cons_zero, List.getElem?_cons_succ] at p0 p1 u2
        have hs := callsIn_wide (n := n - 1).2 (dstepq_b p.1 p.2 o.al rx ry W' (hE.keep hVw2) hrx hry)
        gi_wp2
        refine ⟨trivial, wide_no, ?_⟩
        ((with_reducible refine hs.mono ?_); rintro e w5 ⟨rfl, hb5⟩)
        have hVw5 := below_call hVw2 hb5
        have hgw5 := hgw2.below hb5
        have hpw5 := hpw2.below hb5
        have hJ5 := hJ _ _ _ none hJ' (below_grown hb5) (fun _ e => by cases e)
        clear hs p0 p1 u2 hVw2 hgw2 hpw2 hJ' hb5
        obtain ⟨_, _, _, _⟩ := hpw5.two
        have hkl : W.heap.size ≤ kp := by rw [ekp.out]; exact Nat.le_refl _
        have hJ6 := hJ _ _ _ (some kp) hJ5 (grownBy_setCell w5 kp 0 (.int .i64 rx)) (fun r e => by injection e with e; subst e; exact ⟨hkl, _, hpw5, .inr ⟨_, _, rfl⟩⟩)
        have hpw6 := hpw5.set 0 (.int .i64 rx)
        have hJ7 := hJ _ _ _ (some kp) hJ6 (grownBy_setCell _ kp 1 (.int .i64 ry)) (fun r e => by injection e with e; subst e; exact ⟨hkl, _, hpw6, .inr ⟨_, _, rfl⟩⟩)
        have hpw7 := hpw5.put2 (.int .i64 rx) (.int .i64 ry)
        have hgw7 := (hgw5.far (c := kp) (i := 0) (.int .i64 rx) (fun h => hkG h.symm)).far (c := kp) (i := 1) (.int .i64 ry) (fun h => hkG h.symm)
        have hVw7 := (hVw5.setCell (p := ⟨kp, 0, none⟩) hVk (.int .i64 rx)).setCell (p := ⟨kp, 1, none⟩) hVk (.int .i64 ry)
        have hnb : bpos o (k + 1) = (rx, ry) := by rw [hrx.out, hry.out, hp.out]; rfl
        have hnc : pre ++ [(p, (qx, qy))] = bcells o (k + 1) := by rw [bcells_succ, ← hpre, hqx.out, hqy.out, hp.out]; rfl
        replace hnb := hid hnb
        replace hnc := hid hnc
        gi_wp2
        go_roundw
        case rel => exact ⟨k + 1, pre ++ [(p, (qx, qy))], by simp, by omega, hnc.out, hJ7, hVw7, hgw7, by rw [hnb.out]; exact hpw7⟩
        case measure => simp [intOf]; omega
    · obtain rfl : nn = k := by omega
      have z1 : decide ((nn : Int) < o.n) = false := decide_eq_false (by rw [hnn.out]; omega)
      gi_wp2
      go_end0
      exact ⟨⟨_, rfl⟩, pre, hpre, hJs⟩

end

section
open Go.RowKit Go.Lib

/-- Pairs of cells, and how they lie. -/
abbrev PP := Pt × Pt
def flat2 (L : List PP) : List Pt := L.flatMap fun x => [x.1, x.2]
def qcells (L : List PP) : List Value := pcells (flat2 L)
theorem flat2_len (L : List PP) : (flat2 L).length = 2 * L.length := by
  induction L with
  | nil => rfl
  | cons x L ih => rw [show flat2 (x :: L) = x.1 :: x.2 :: flat2 L from rfl, List.length_cons, List.length_cons, List.length_cons, ih]; omega
theorem flat2_at : ∀ (L : List PP) (i : Nat) (h : i < L.length), ∃ (h1 : 2 * i < (flat2 L).length) (h2 : 2 * i + 1 < (flat2 L).length), (flat2 L)[2 * i]'h1 = (L[i]'h).1 ∧ (flat2 L)[2 * i + 1]'h2 = (L[i]'h).2
  | [], i, h => absurd h (Nat.not_lt_zero _)
  | x :: L, 0, h => ⟨by rw [flat2_len]; simp, by rw [flat2_len]; simp; omega, rfl, rfl⟩
  | x :: L, i + 1, h => by
    obtain ⟨h1, h2, e1, e2⟩ := flat2_at L i (by simpa using h)
    refine ⟨by rw [flat2_len]; simp at h ⊢; omega, by rw [flat2_len]; simp at h ⊢; omega, ?_, ?_⟩
    · rw [List.getElem_cons_succ, ← e1]; rfl
    · rw [List.getElem_cons_succ, ← e2]; rfl
theorem qcells_at (L : List PP) (i : Nat) (h : i < L.length) : (qcells L)[i * 4]? = some (.int .i64 (L[i]'h).1.1) ∧ (qcells L)[i * 4 + 1]? = some (.int .i64 (L[i]'h).1.2) ∧ (qcells L)[i * 4 + 2]? = some (.int .i64 (L[i]'h).2.1) ∧ (qcells L)[i * 4 + 3]? = some (.int .i64 (L[i]'h).2.2) := by
  obtain ⟨h1, h2, e1, e2⟩ := flat2_at L i h
  obtain ⟨a, b⟩ := pcells_at (flat2 L) (2 * i) h1
  obtain ⟨c, d⟩ := pcells_at (flat2 L) (2 * i + 1) h2
  rw [e1] at a b
  rw [e2] at c d
  unfold qcells
  refine ⟨by rw [show i * 4 = 2 * (2 * i) by omega]; exact a, by rw [show i * 4 = 2 * (2 * i) by omega]; exact b, by rw [show i * 4 + 2 = 2 * (2 * i + 1) by omega]; exact c, by rw [show i * 4 + 3 = 2 * (2 * i + 1) + 1 by omega]; exact d⟩
theorem own_lit {w : World} {B k n : Nat} {e : TypeId} (zs : List Value) (hz : zs.length = n * k) (hB : B ≤ w.heap.size) (hn : n ≤ 1000) : (w.alloc (.cells zs.toArray e)).ownsRow B e k (.slice (some ⟨w.heap.size, 0, none⟩) n n) n zs :=
  ⟨hz, .inr ⟨w.heap.size, n, zs.toArray, rfl, hB, (Blk.new w zs e :), Nat.le_refl _, by unfold maxLen; omega, by simp [hz], by simp [← hz]⟩⟩
/-- The entrances of a run. -/
def pickv (R : List PP) : List PP := if R.length < 6 then (R[(R.length - 1) / 2]?).toList else R[0]?.toList ++ R[R.length - 1]?.toList

set_option maxRecDepth 100000 in
set_option maxHeartbeats 4000000 in
theorem clentr_b (R : List PP) (v : Value) (n B : Nat) (W : World) (hn : R.length = n) (h1 : 1 ≤ n) (h8 : n ≤ 8) (ho : W.ownsRow B 30 4 v n (qcells R)) :
    Calls Tryz.prog 86 #[v] W fun e w' => ∃ u, e = .returned u ∧ w'.ownsRow W.heap.size 30 4 u (pickv R).length (qcells (pickv R)) ∧ Below W.heap.size W w' := by
  obtain ⟨g, cap, rfl⟩ := own_some ho h1
  obtain ⟨l, hl⟩ : ∃ l, Hid (n = l + 1) := ⟨n - 1, hid (by omega)⟩
  have hl0 : l < n ∧ n < l + 2 := by rw [hl.out]; omega
  have hbs : ∀ (a b c d : Value) (w : World), (Instr.buildSlice 75 1 #[(0, .agg #[a, b, c, d])]).run Tryz.prog w = .ok (.slice (some ⟨w.heap.size, 0, none⟩) 1 1) (w.alloc (.cells #[a, b, c, d] 30)) := fun a b c d w => by kernel_rfl
  have s1 : IntKind.i64.wrap ((n : Int) - 1) = (l : Int) := by rw [IntWalk.i64_in _ (by omega)]; omega
  by_cases h6 : n < 6
  · have z1 : decide ((n : Int) < 6) = true := decide_eq_true (by omega)
    obtain ⟨h, hh⟩ : ∃ h, Hid (h = l / 2) := ⟨_, hid rfl⟩
    have hhl : h ≤ l := by rw [hh.out]; omega
    have s2 : (l : Int).tdiv 2 = (h : Int) := by rw [Int.tdiv_eq_ediv_of_nonneg (by omega), hh.out]; omega
    have s3 : wrap64 (h : Int) = (h : Int) := IntWalk.wrap64_in _ (by omega)
    have s4 : IntKind.i64.wrap (h : Int) = (h : Int) := IntWalk.i64_in _ (by omega)
    have i0 : (0 : Int) ≤ (h : Int) := by omega
    have i1 : (h : Int) < (n : Int) := by omega
    have hr : h < R.length := by omega
    obtain ⟨q0, q1, q2, q3⟩ := qcells_at R h hr
    obtain ⟨x, hx⟩ : ∃ x, Hid (x = R[h]'hr) := ⟨_, hid rfl⟩
    rw [← hx.out] at q0 q1 q2 q3
    have c0 := ho.cellAt (h * 4) (by omega)
    have c1 := ho.cellAt (h * 4 + 1) (by omega)
    have c2 := ho.cellAt (h * 4 + 2) (by omega)
    have c3 := ho.cellAt (h * 4 + 3) (by omega)
    rw [q0] at c0
    rw [q1] at c1
    rw [q2] at c2
    rw [q3] at c3
    have hpk : pickv R = [x] := by
      unfold pickv
      rw [hn, if_pos h6, show (n - 1) / 2 = h by rw [hh.out, hl.out]; rfl, List.getElem?_eq_getElem hr, ← hx.out]
      rfl
    clear q0 q1 q2 q3 hx hr
    replace hpk := hid hpk
    replace hn := hid hn
    go_enter Tryz.func86, Tryz.ntmps86
    go_wp2_with fail
    go_ret
    refine ⟨_, rfl, ?_, (Below.refl _ _).alloc (Nat.le_refl _) _⟩
    rw [hpk.out]
    exact own_lit (qcells [x]) rfl (Nat.le_refl _) (by omega)
  · have z1 : decide ((n : Int) < 6) = false := decide_eq_false (by omega)
    have i0 : (0 : Int) ≤ (l : Int) := by omega
    have i1 : (l : Int) < (n : Int) := by omega
    have i2 : (0 : Int) < (n : Int) := by omega
    have hr : l < R.length := by omega
    have hr0 : 0 < R.length := by omega
    obtain ⟨q0, q1, q2, q3⟩ := qcells_at R l hr
    obtain ⟨r0, r1, r2, r3⟩ := qcells_at R 0 hr0
    obtain ⟨x, hx⟩ : ∃ x, Hid (x = R[0]'hr0) := ⟨_, hid rfl⟩
    obtain ⟨y, hy⟩ : ∃ y, Hid (y = R[l]'hr) := ⟨_, hid rfl⟩
    rw [← hy.out] at q0 q1 q2 q3
    rw [← hx.out] at r0 r1 r2 r3
    have c0 := ho.cellAt (l * 4) (by omega)
    have c1 := ho.cellAt (l * 4 + 1) (by omega)
    have c2 := ho.cellAt (l * 4 + 2) (by omega)
    have c3 := ho.cellAt (l * 4 + 3) (by omega)
    have d0 := ho.cellAt 0 (by omega)
    have d1 := ho.cellAt 1 (by omega)
    have d2 := ho.cellAt 2 (by omega)
    have d3 := ho.cellAt 3 (by omega)
    rw [q0] at c0
    rw [q1] at c1
    rw [q2] at c2
    rw [q3] at c3
    simp only [Nat.zero_mul, Nat.zero_add] at r0 r1 r2 r3
    rw [r0] at d0
    rw [r1] at d1
    rw [r2] at d2
    rw [r3] at d3
    have hpk : pickv R = [x, y] := by
      unfold pickv
      rw [hn, if_neg h6, show n - 1 = l by omega, List.getElem?_eq_getElem hr, List.getElem?_eq_getElem hr0, ← hx.out, ← hy.out]
      rfl
    clear q0 q1 q2 q3 r0 r1 r2 r3 hx hy hr hr0
    replace hpk := hid hpk
    replace hn := hid hn
    go_enter Tryz.func86, Tryz.ntmps86
    go_wp2_with fail
    go_region
    all_goals
      go_wp2_with fail
      go_ret
      refine ⟨_, rfl, ?_, ((Below.refl _ _).drew).alloc (Nat.le_refl _) _⟩
      rw [hpk.out]
      exact own_lit (w := W.drew) (qcells [x, y]) rfl (Nat.le_refl _) (by omega)

end

end Go.Proofs.YtpgchjhfhndaaaaGreatDoor
