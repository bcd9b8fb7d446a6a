/-
  A round of a range over a function, at the widest fence: its regions are walked as anywhere. No program is named here.
-/
import Derived.RangeFuncNested
import Derived.RangeFuncBound
import Derived.RangeFuncCalls
import Derived.RangeFuncLeaves
import Derived.Shelf.Abstract
import Derived.Shelf.RegionOpen
import Derived.WalkKit
import Derived.OwnWalkIn
import Derived.TacticsInMore
import Derived.LoopNIn
import Derived.LoopIn
import Derived.OrdersHeld
import Derived.Lib.Walk
namespace Go.Proofs.YtbdgpldhfemejaaDoor
open Go.RowKit Go.Lib Go.Shelf

theorem wide_no {p : Prop} (h : Fence.wide.depth.isSome = true) : p := by simp [Fence.wide] at h
abbrev Wr (l : Nat) : Fence := Fence.wide.inRound l
section
variable {l n : Nat} {P : Program} {ops : Array Oper} {Q : Exit → Act → World → Prop}
theorem asupon_round {o : Oper} {a : Act} {K : Act → World → Prop} {r : Result Next} (h : o.upon P a K Q r) : o.uponIn (Wr l) n P a K Q r := by
  cases r with
  | ok x w' =>
    cases x with
    | value v => exact h
    | skip => exact h
    | defer d => exact h
    | enter f args => exact ⟨fun hd => by simp [Fence.wide] at hd, CallsIn.inRound l (callsIn_wide.2 h)⟩
    | row row args =>
      refine ⟨fun hd => by simp [Fence.wide] at hd, fun c cs _ => ?_⟩
      obtain ⟨v, w1, r, s⟩ := h c cs
      exact ⟨v, w1, r, stepsIn_wide.2 s⟩
    | _ => exact h.elim
  | halt x w' =>
    cases x <;> first | exact h | exact h.elim
def noDefer (o : Oper) : Bool := match o.op with | .defer _ => false | _ => true
theorem noDefer_of {o : Oper} (h : noDefer o = true) : ∀ c, o.op ≠ .defer c := fun c e => by unfold noDefer at h; rw [e] at h; exact Bool.false_ne_true h
theorem wp_round {o : Oper} {a : Act} {w : World} {K : Act → World → Prop} (hp : noDefer o = true) (h : o.wp P a w K Q) : o.wpIn (Wr l) n P a w K Q := by
  refine ⟨fun _ _ => trivial, ?_⟩
  rw [Oper.semAt_eq _ _ _ (noDefer_of hp)]
  exact asupon_round h
theorem ops_round (hp : ∀ o ∈ ops, noDefer o = true) (hout : ¬ LetsOut Q) : ∀ (L : List Nat) (a : Act) (w : World), wpOps P ops Q L a w → wpOpsIn (Wr l) n P ops Q L a w
  | [], _, _, h => h
  | i :: L, a, w, h => by
    rw [wpOps_cons] at h
    rw [wpOpsIn_cons]
    unfold wpOp at h
    unfold wpOpIn
    cases ho : ops[i]? with
    | none => rw [ho] at h; exact ops_round hp hout L a w h
    | some o =>
      rw [ho] at h
      dsimp only at h ⊢
      have hpo : noDefer o = true := hp o (Array.mem_of_getElem? ho)
      split
      · next hw =>
        rw [if_pos hw] at h
        rcases h with h | h
        · exact Oper.wpIn_mono (fun a w h => ops_round hp hout L a w h) (wp_round hpo h)
        · exact absurd h.2 hout
      · next hw =>
        rw [if_neg hw] at h
        exact ⟨fun _ _ => trivial, ops_round hp hout L _ w h⟩
/-- A region of a round, walked as anywhere: in its order; in whatever order. -/
theorem round_list {id : Nat} {a : Act} {w : World} (hp : ops.all noDefer = true) (hout : ¬ LetsOut Q) (h : wpList P ops Q ops.toList a w) : (Code.region id ops false).wpIn (Wr l) n P Q a w :=
  wpIn_region (ops_round (fun o ho => (Array.all_eq_true_iff_forall_mem).1 hp o ho) hout _ a w (by rw [List.range_eq_range', ← Array.length_toList, wpOps_eq_wpList ops.toList 0 (by simp)]; exact h))
theorem round_held {id : Nat} {a : Act} {w : World} {S : World → Prop} (hm : P.follows .mixedOrders = true) (hp : ops.all noDefer = true) (hout : ¬ LetsOut Q)
    (h : wpAnyH P .any ops Q S ops.size (Array.replicate ops.size false) a { w with drawn := w.drawn + 1 }) : (Code.region id ops true).wpIn (Wr l) n P Q a w :=
  wpIn_region_draw fun t => by
    simp only [Region.schedule, hm, Bool.true_or, if_true]
    exact ops_round (fun o ho => (Array.all_eq_true_iff_forall_mem).1 hp o ho) hout _ a _ (wpAny_sound ops.size t _ a _ (wpAny_of_held _ _ _ _ h))
end
/-- A region outside of rounds, at the widest fence. -/
theorem wide_region {n : Nat} {P : Program} {c : Code} {Q : Exit → Act → World → Prop} {a : Act} {w : World} (h : c.wp P Q a w) : c.wpIn Fence.wide n P Q a w := wpIn_wide.2 h
theorem then_out {K : Act → World → Prop} {Q : Exit → Act → World → Prop} (h : ¬ LetsOut Q) : ¬ LetsOut (Exit.then K Q) := fun ⟨a, w, k⟩ => h ⟨a, w, k⟩
theorem ownG_out {α : Type} {B : Nat} {Kp : World → World → Prop} {I : List α → World → Prop} {Ix : Code → List α → World → Prop} {xs : List α} {W : World} : ¬ LetsOut (ownPostG B Kp I Ix xs W) := fun ⟨_, _, k⟩ => k

/-- What a call that only makes memory is to an iterator's own facts. -/
theorem below_grown {w w' : World} (h : Below w.heap.size w w') : w.grownBy w' none := ⟨h.os, h.tape, h.output, h.size, fun k hk _ => h.block k hk⟩

/-! ### what a call writes: blocks of its own -/
/-- From w, where the call's own blocks were those of A, to w', where they are those of A'. -/
structure Foot (A : Nat → Prop) (w : World) (A' : Nat → Prop) (w' : World) : Prop where
  os : w'.os = w.os
  tape : w'.tape = w.tape
  output : w'.output = w.output
  size : w.heap.size ≤ w'.heap.size
  same : ∀ b, b < w.heap.size → ¬ A b → w'.heap[b]? = w.heap[b]?
  from_ : ∀ b, A' b → A b ∨ w.heap.size ≤ b
section
variable {A A' A'' : Nat → Prop} {w w' w'' : World}
theorem Foot.refl (A : Nat → Prop) (w : World) : Foot A w A w := ⟨rfl, rfl, rfl, Nat.le_refl _, fun _ _ _ => rfl, fun _ h => .inl h⟩
theorem Foot.trans (h : Foot A w A' w') (k : Foot A' w' A'' w'') : Foot A w A'' w'' :=
  ⟨k.os.trans h.os, k.tape.trans h.tape, k.output.trans h.output, Nat.le_trans h.size k.size,
    fun b hb hA => (k.same b (Nat.lt_of_lt_of_le hb h.size) (fun hA' => (h.from_ b hA').elim hA (fun hge => by omega))).trans (h.same b hb hA),
    fun b hA'' => (k.from_ b hA'').elim (fun hA' => h.from_ b hA') (fun hge => .inr (Nat.le_trans h.size hge))⟩
theorem Foot.below {B : Nat} (h : Foot A w A' w') (hA : ∀ b, A b → B ≤ b) (hB : B ≤ w.heap.size) : Below B w w' :=
  ⟨h.os, h.tape, h.output, h.size, fun k hk => h.same k (by omega) (fun a => by have := hA k a; omega)⟩
theorem Foot.of_below (h : Below w.heap.size w w') : Foot A w A w' := ⟨h.os, h.tape, h.output, h.size, fun b hb _ => h.block b hb, fun _ ha => .inl ha⟩
theorem Foot.alloc (o : Obj) : Foot A w A (w.alloc o) := Foot.of_below ((Below.refl _ _).alloc (Nat.le_refl _) o)
theorem Foot.drew : Foot A w A w.drew := ⟨rfl, rfl, rfl, Nat.le_refl _, fun _ _ _ => rfl, fun _ h => .inl h⟩
theorem Foot.set (a : Addr) (v : Value) (h : A a.block) : Foot A w A (w.setCell a v) :=
  ⟨rfl, rfl, rfl, by simp [World.setCell], fun b _ hA => Below.heap_setCell w a v b (fun e => hA (e ▸ h)), fun _ ha => .inl ha⟩
theorem Foot.grown {row : Option Nat} (hg : w.grownBy w' row) (hr : ∀ k, row = some k → A k) (hf : ∀ b, A' b → A b ∨ w.heap.size ≤ b) : Foot A w A' w' :=
  ⟨hg.os, hg.tape, hg.output, hg.size, fun b hb hA => hg.block b hb (fun e => hA (hr b e.symm)), hf⟩
theorem Foot.wider {C C' : Nat → Prop} (h : Foot A w A' w') (hA : ∀ b, A b → C b) (hC : ∀ b, C' b → (A' b ∨ C b) ∨ w.heap.size ≤ b) : Foot C w C' w' :=
  ⟨h.os, h.tape, h.output, h.size, fun b hb hc => h.same b hb (fun a => hc (hA b a)), fun b hb => (hC b hb).elim (fun k => k.elim (fun k => (h.from_ b k).imp (hA b) id) .inl) .inr⟩
end

end Go.Proofs.YtbdgpldhfemejaaDoor
