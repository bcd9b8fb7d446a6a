/-
  astar as landed at 35fbd81: a region is filled.
-/
import Derived.Test.YtbdgpldhfemejaaDoorAsI
import Derived.Test.YtbdgpldhfemejaaDoorAsPath
namespace Go.Proofs.YtbdgpldhfemejaaDoor
open Go.RowKit Go.Lib Go.Shelf

attribute [local go_sem] Oper.semAt_some

section
variable {P : Program} {F : Fence} {n : Nat} {rest : List Oper} {ops : Array Oper} {o : Oper} {a : Act} {w : World} {Q : Exit → Act → World → Prop}
/-- An append within a fence, by its run. -/
theorem wpListIn_append_run (hg : o.guard = none) (s x : Operand) (t : TypeId) (ho : o.op = .call { callee := .builtin .append, args := #[s, x], argTypes := #[t, t] }) (v y v' : Value) (w' : World) (hs : a.eval s = v) (hx : a.eval x = y)
    (hrun : (Builtin.append_ #[t, t] o.type #[v, y]).run P w = .ok v' w') (h : wpListIn F n P ops Q rest (a.put o.dst v') w') : wpListIn F n P ops Q (o :: rest) a w := by
  refine wpListIn_plain hg fun K hK => ?_
  refine ⟨?_, ?_⟩
  · simp [Oper.about, ho, resolve, Target.leads, Sem.run_pure]
  · rw [Oper.semAt_plain F _ _ (by rw [ho]; intro c hc'; cases hc')]
    unfold execOp
    simp only [ho, resolve, invoke, builtin, Sem.run_bind, Sem.run_pure, Result.andThen_ok, List.map_toArray, List.map_cons, List.map_nil, hs, hx, hrun]
    exact hK _ _ h
theorem wpIn_onlyN {x : Code} (h : x.wpIn F n P (onlyN (Q .normal)) a w) : x.wpIn F n P Q a w :=
  wpIn_mono h (fun e a w q => by cases e <;> first | exact q | exact q.elim)
end
/-- The marks of the loops over functions that a frame has run. -/
def marks (ds : List Nat) : List Deferred := ds.map fun D => { target := .collected D, args := #[] }
/-- Cells stay; what lies below B stays. -/
structure CSame (B : Nat) (w w' : World) : Prop where
  old : Below B w w'
  same : ∀ (b : Nat) (o : Obj), w.heap[b]? = some o → o.isCells = true → w'.heap[b]? = some o
theorem leaves_marks {P : Program} {n B : Nat} {fn : Func} {tmps : Array Value} {R : Ending → World → Prop} (v : Value) (hres : ∀ w, (results fn tmps).run P w = .ok v w) : ∀ (ds : List Nat) (w : World), ds.Nodup → (∀ D ∈ ds, B ≤ D ∧ w.heap[D]? = some (.deferred (some []))) → (∀ w', CSame B w w' → R (.returned v) w') →
    LeavesInM Fence.wide n P fn tmps R (marks ds) .returning w
  | [], w, _, _, hR => ⟨v, hres w, hR w ⟨Below.refl _ _, fun _ _ h _ => h⟩⟩
  | D :: ds, w, hnd, hds, hR => by
    have hD := hds D List.mem_cons_self
    have hn := List.nodup_cons.1 hnd
    refine ⟨by simp, .inl ⟨D, _, rfl, run_takeDeferred hD.2, ?_⟩⟩
    show LeavesInM Fence.wide n P fn tmps R (marks ds) .returning _
    refine leaves_marks (B := B) v hres ds _ hn.2 (fun E hE => ?_) (fun w' hw' => hR w' ?_)
    · have := hds E (List.mem_cons_of_mem _ hE)
      exact ⟨this.1, (World.putObj_heap_other (fun e => hn.1 (by rw [← e]; exact hE))).trans this.2⟩
    · have hb : Below B w (w.putObj D (.deferred none)) := (Below.refl B w).grown (grownBy_putObj' w D _) (by have := (Array.getElem?_eq_some_iff.1 hD.2).1; omega) (fun k e => by cases e; exact hD.1)
      refine ⟨hb.trans hw'.old, fun b o hb ho => hw'.same b o ?_ ho⟩
      rw [World.putObj_heap_other (fun e => by rw [e, hD.2] at hb; injection hb with hb; subst hb; cases ho)]
      exact hb
/-- How many cells have no region yet. -/
def cM1 (R : List Int) : Nat := R.countP (fun r => r == -1)
theorem cM1_set {R : List Int} {i : Nat} {v : Int} (hi : i < R.length) (h : ga R i = -1) (hv : v ≠ -1) : cM1 (R.set i v) + 1 = cM1 R := by
  unfold cM1
  rw [List.countP_set]
  have e : R[i] = -1 := by rw [← ga_at hi]; exact h
  have hp : 0 < List.countP (fun r => r == -1) R := List.countP_pos_iff.2 ⟨R[i], List.getElem_mem hi, by rw [e]; rfl⟩
  rw [e, if_pos (by rfl), if_neg (by simpa using hv)]
  · omega
  · exact hi
/-- The memory of a filling: the stack and the regions. -/
structure FillS (Z : World) (m : M3) (bl : List Bool) (c : Int) (i rb b8 B : Nat) (R0 : List Int) (v : Value) (F : List Nat) (R : List Int) (pe : Nat → Prop) : Prop where
  box : Blk Z b8 [v] 32
  row : Z.ownsRow B 27 2 v F.length (pls m F)
  reg : Blk Z rb (ints R) 3
  fil : Fill (nb m bl c) m.cs.length i R0 R F pe
def Fx (rb b8 c2 : Nat) (v : Value) (b : Nat) : Prop := b = rb ∨ b = b8 ∨ b = c2 ∨ v.ownBlock = some b
/-- A loop's measure, read off the world. -/
def isM1 : Value → Bool | .int _ n => n == -1 | _ => false
def fillMu (rb b8 : Nat) (W : World) : Nat :=
  2 * (match W.heap[rb]? with | some (.cells cur _ _) => cur.toList.countP isM1 | _ => 0) + (match W.cell? ⟨b8, 0, none⟩ with | some (.slice _ n _) => n | _ => 0)
theorem ints_count (R : List Int) : (ints R).countP isM1 = cM1 R := by
  unfold ints cM1; rw [List.countP_map]; rfl
theorem FillS.mu {Z : World} {m : M3} {bl : List Bool} {c : Int} {i rb b8 B : Nat} {R0 : List Int} {v : Value} {F : List Nat} {R : List Int} {pe : Nat → Prop} (h : FillS Z m bl c i rb b8 B R0 v F R pe) : fillMu rb b8 Z = 2 * cM1 R + F.length := by
  unfold fillMu
  have h1 := h.reg
  unfold Blk at h1
  have h2 := h.box.cell 0
  simp only [List.getElem?_cons_zero] at h2
  rw [h1, h2]
  dsimp only
  rw [ints_count]
  rcases h.row.2 with ⟨e, e2⟩ | ⟨g, cap, cur, e, _⟩
  · rw [e, e2]
  · rw [e]

theorem blk_ne {X : World} {a b : Nat} {xs ys : List Value} {t t' : TypeId} (h : Blk X a xs t) (k : Blk X b ys t') (ne : t ≠ t') : a ≠ b := fun e => by
  subst e
  unfold Blk at h k
  rw [h] at k
  injection k with k
  injection k with _ k
  exact ne k
theorem own_ne {X : World} {B b size n : Nat} {e t : TypeId} {v : Value} {xs ys : List Value} (h : X.ownsRow B e size v n xs) (k : Blk X b ys t) (ne : e ≠ t) : v.ownBlock ≠ some b := fun eq => by
  obtain ⟨cur, hc⟩ := own_type h eq
  unfold Blk at k
  rw [hc] at k
  injection k with k
  injection k with _ k
  exact ne k
theorem own_same2 {X Y : World} {B size n : Nat} {e : TypeId} {v : Value} {xs : List Value} (h : X.ownsRow B e size v n xs) (hs : ∀ b, v.ownBlock = some b → Y.heap[b]? = X.heap[b]?) : Y.ownsRow B e size v n xs := by
  refine ⟨h.1, h.2.imp id ?_⟩
  rintro ⟨g, cap, cur, rfl, hB, hh, rest⟩
  exact ⟨g, cap, cur, rfl, hB, (hs g rfl).trans hh, rest⟩
theorem own_turn {X Y : World} {B size n : Nat} {e : TypeId} {v : Value} {xs : List Value} {row : Option Nat} (h : X.ownsRow B e size v n xs) (hg : X.grownBy Y row) (hr : ∀ r, row = some r → ∃ o : Obj, X.heap[r]? = some o ∧ o.isCells = false) : Y.ownsRow B e size v n xs :=
  own_same2 h fun b hb => by
    obtain ⟨cur, hc⟩ := own_type h hb
    refine hg.block b (Array.getElem?_eq_some_iff.1 hc).1 fun e2 => ?_
    obtain ⟨o, ho, hn⟩ := hr b e2.symm
    rw [hc] at ho
    injection ho with ho
    subst ho
    cases hn
theorem pls_last (m : M3) (F : List Nat) (p : Nat) : (pls m (F ++ [p]))[F.length * 2]? = some (.int .i64 (posn m p).1) ∧ (pls m (F ++ [p]))[F.length * 2 + 1]? = some (.int .i64 (posn m p).2) := by
  rw [← pls_snoc]
  constructor
  · rw [List.getElem?_append_right (by rw [pls_len]; exact Nat.le_refl _), pls_len, Nat.sub_self]; rfl
  · rw [List.getElem?_append_right (by rw [pls_len]; omega), pls_len, Nat.add_sub_cancel_left]; rfl
section
variable {X Y : World} {m : M3} {bl : List Bool} {c : Int} {i rb b8 B : Nat} {R0 : List Int} {v : Value} {F : List Nat} {R : List Int} {pe : Nat → Prop}
/-- What a round over the steps keeps. -/
def FillI (m : M3) (bl : List Bool) (c : Int) (i rb b8 B : Nat) (R0 R : List Int) (k p : Nat) (vK : Value) (ds : List Nat) (Y : World) (l : List (Nat × Int)) (Z : World) : Prop :=
  ∃ (v' : Value) (F' : List Nat) (R' : List Int), FillS Z m bl c i rb b8 B R0 v' F' R' (fun q => q = p) ∧ Foot (Fx rb b8 rb vK) Y (Fx rb b8 rb v') Z ∧ cM1 R' + F'.length = cM1 R + k ∧ cM1 R' ≤ cM1 R ∧ (∀ y, y ∈ l → ga R' y.1 ≠ -1) ∧ ga R' p = i ∧ ∀ D, D ∈ ds → Z.heap[D]? = some (.deferred (some []))
theorem FillS.below (h : FillS X m bl c i rb b8 B R0 v F R pe) (hb : Below X.heap.size X Y) : FillS Y m bl c i rb b8 B R0 v F R pe :=
  ⟨h.box.below hb, own_below h.row hb, h.reg.below hb, h.fil⟩
theorem FillS.turn (h : FillS X m bl c i rb b8 B R0 v F R pe) {row : Option Nat} (hg : X.grownBy Y row) (hr : ∀ r, row = some r → ∃ o : Obj, X.heap[r]? = some o ∧ o.isCells = false) : FillS Y m bl c i rb b8 B R0 v F R pe :=
  ⟨asblk_turn h.box hg hr, own_turn h.row hg hr, asblk_turn h.reg hg hr, h.fil⟩
theorem FillS.fx (h : FillS X m bl c i rb b8 B R0 v F R pe) {c2 : Nat} {ys : List Value} {tt : TypeId} (hc : Blk X c2 ys tt) {b : Nat} (hb : Fx rb b8 c2 v b) : ∃ cur t f, X.heap[b]? = some (.cells cur t f) := by
  rcases hb with rfl | rfl | rfl | hb
  · exact ⟨_, _, _, h.reg⟩
  · exact ⟨_, _, _, h.box⟩
  · exact ⟨_, _, _, hc⟩
  · obtain ⟨cur, hh⟩ := own_type h.row hb; exact ⟨_, _, _, hh⟩
theorem FillS.fx_lt (h : FillS X m bl c i rb b8 B R0 v F R pe) {c2 : Nat} {ys : List Value} {tt : TypeId} (hc : Blk X c2 ys tt) {b : Nat} (hb : Fx rb b8 c2 v b) : b < X.heap.size := by
  obtain ⟨_, _, _, hh⟩ := h.fx hc hb
  exact (Array.getElem?_eq_some_iff.1 hh).1
theorem FillS.keeps (h : FillS X m bl c i rb b8 B R0 v F R pe) {c2 : Nat} {ys : List Value} {tt : TypeId} (hc : Blk X c2 ys tt) {A : Nat → Prop} (hf : Foot (Fx rb b8 c2 v) X A Y) (C : Nat) : KeepsFrom C X Y :=
  ⟨hf.size, fun k o _ hk ho => by
    rw [hf.same k (Array.getElem?_eq_some_iff.1 hk).1 (fun hx => ?_)]
    · exact hk
    · obtain ⟨cur, t, f, hh⟩ := h.fx hc hx
      rw [hh] at hk
      injection hk with hk
      subst hk
      cases ho⟩
/-- A region's next cell is put on the stack: where it stands then. -/
theorem FillS.push {V W : World} {q : Nat} {v' : Value} (h : FillS X m bl c i rb b8 B R0 v F R pe) (hb : Below X.heap.size X Y) (hV : V = (Y.setCell ⟨rb, q, none⟩ (.int .i64 i)).alloc (.cells [Value.int .i64 (posn m q).1, .int .i64 (posn m q).2].toArray 27))
    (c2 : Nat) (hg : V.grownBy W v.ownBlock) (hown : W.ownsRow B 27 2 v' (F.length + 1) (pls m F ++ [.int .i64 (posn m q).1, .int .i64 (posn m q).2])) (hv' : ∀ b, v'.ownBlock = some b → v.ownBlock = some b ∨ V.heap.size ≤ b)
    (hfil : Fill (nb m bl c) m.cs.length i R0 (R.set q i) (F ++ [q]) pe) :
    Blk W b8 [v] 32 ∧ FillS (W.setCell ⟨b8, 0, none⟩ v') m bl c i rb b8 B R0 v' (F ++ [q]) (R.set q i) pe ∧ Foot (Fx rb b8 c2 v) X (Fx rb b8 c2 v') (W.setCell ⟨b8, 0, none⟩ v') := by
  have hrb8 : rb ≠ b8 := blk_ne h.reg h.box (by decide)
  have hvb : v.ownBlock ≠ some b8 := own_ne h.row h.box (by decide)
  have hvr : v.ownBlock ≠ some rb := own_ne h.row h.reg (by decide)
  have hYs := hb.size
  have hVs : V.heap.size = Y.heap.size + 1 := by rw [hV]; simp [World.setCell]
  have k8 := h.box.lt
  have kr := h.reg.lt
  have b8V : Blk V b8 [v] 32 := by rw [hV]; exact ((h.box.below hb).far _ (fun e => hrb8 e.symm)).alloc _
  have rbV : Blk V rb (ints (R.set q i)) 3 := by rw [hV, ← ints_set]; exact ((h.reg.below hb).set q _).alloc _
  have same : ∀ {b : Nat} {xs : List Value} {t : TypeId}, Blk V b xs t → v.ownBlock ≠ some b → Blk W b xs t := fun {b xs t} hx hne => by
    have hl := hx.lt
    unfold Blk at hx ⊢
    rw [hg.block b hl (fun e => hne e.symm)]; exact hx
  have b8W := same b8V hvb
  have rbW := same rbV hvr
  refine ⟨b8W, ⟨b8W.set 0 v', ?_, rbW.far _ hrb8, hfil⟩, ?_⟩
  · have hl : (F ++ [q]).length = F.length + 1 := by simp
    rw [hl, ← pls_snoc]
    have hne : v'.ownBlock ≠ some b8 := own_ne hown b8W (by decide)
    exact own_same2 hown fun b hb' => Below.heap_setCell W ⟨b8, 0, none⟩ _ b (fun e => hne (by rw [hb']; exact congrArg some e))
  · have f1 : Foot (Fx rb b8 c2 v) X (Fx rb b8 c2 v) V := by
      rw [hV]
      exact (Foot.of_below hb).trans ((Foot.set ⟨rb, q, none⟩ _ (.inl rfl)).trans (Foot.alloc _))
    have f2 : Foot (Fx rb b8 c2 v) V (Fx rb b8 c2 v') W := Foot.grown hg (fun k hk => .inr (.inr (.inr hk))) (fun b hb' => by
      rcases hb' with e | e | e | e
      · exact .inl (.inl e)
      · exact .inl (.inr (.inl e))
      · exact .inl (.inr (.inr (.inl e)))
      · exact (hv' b e).imp (fun e => .inr (.inr (.inr e))) id)
    exact f1.trans (f2.trans (Foot.set ⟨b8, 0, none⟩ _ (.inr (.inl rfl))))
end

end Go.Proofs.YtbdgpldhfemejaaDoor
