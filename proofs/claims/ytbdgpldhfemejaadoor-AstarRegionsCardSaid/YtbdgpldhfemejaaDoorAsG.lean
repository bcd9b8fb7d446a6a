/-
  astar as landed at 35fbd81: what a round of the search keeps: the frontier and what it writes, seen from a loop over the steps.
-/
import Derived.Test.YtbdgpldhfemejaaDoorAsE
import Derived.Test.YtbdgpldhfemejaaDoorAsF
namespace Go.Proofs.YtbdgpldhfemejaaDoor
open Go.RowKit Go.Lib Go.Shelf

theorem Foot.turn {A A' : Nat → Prop} {w X Y : World} {row : Option Nat} (h : Foot A w A' X) (hg : X.grownBy Y row) (hr : ∀ r, row = some r → w.heap.size ≤ r) : Foot A w A' Y :=
  ⟨hg.os.trans h.os, hg.tape.trans h.tape, hg.output.trans h.output, Nat.le_trans h.size hg.size,
    fun b hb hA => (hg.block b (Nat.lt_of_lt_of_le hb h.size) (fun e => by have := hr b e.symm; omega)).trans (h.same b hb hA), h.from_⟩
/-- A frontier's blocks hold cells. -/
theorem Fr.cells {W : World} {m : M3} {B F : Nat} {v : Value} {vs : List Value} {L : List (List Nat)} {cnt : Int} (h : Fr W m B F v vs L cnt) {b : Nat} (hb : Fb F v vs b) : ∃ cur t f, W.heap[b]? = some (.cells cur t f) := by
  rcases hb with rfl | hb | ⟨u, hu, hb⟩
  · exact ⟨_, _, _, h.blk⟩
  · obtain ⟨cur, hc⟩ := own_type h.row hb; exact ⟨_, _, _, hc⟩
  · obtain ⟨i, hi, e⟩ := List.mem_iff_getElem.1 hu
    obtain ⟨cur, hc⟩ := own_type (h.each i u (by rw [List.getElem?_eq_getElem hi, e])) hb; exact ⟨_, _, _, hc⟩
theorem Fr.turn {X Y : World} {m : M3} {B F : Nat} {v : Value} {vs : List Value} {L : List (List Nat)} {cnt : Int} {row : Option Nat} (h : Fr X m B F v vs L cnt) (hg : X.grownBy Y row) (hr : ∀ r, row = some r → ∃ o : Obj, X.heap[r]? = some o ∧ o.isCells = false) : Fr Y m B F v vs L cnt :=
  h.kept fun b hb => hg.block b (h.fb_lt hb).1 fun e => by
    obtain ⟨o, ho, hc⟩ := hr b e.symm
    obtain ⟨cur, t, f, hx⟩ := h.cells hb
    rw [hx] at ho
    injection ho with ho
    subst ho
    cases hc
/-- A frontier is told by its memory: which rows it has. -/
theorem Fr.uniq {W : World} {m : M3} {B F : Nat} {v v2 : Value} {vs vs2 : List Value} {L L2 : List (List Nat)} {cnt cnt2 : Int} (h : Fr W m B F v vs L cnt) (k : Fr W m B F v2 vs2 L2 cnt2) : v = v2 ∧ vs = vs2 := by
  have e0 : v = v2 := by
    have h0 := h.blk.cell 0
    have k0 := k.blk.cell 0
    simp only [List.getElem?_cons_zero] at h0 k0
    rw [h0] at k0
    injection k0
  subst e0
  refine ⟨rfl, ?_⟩
  rcases h.row.2 with ⟨e1, n1⟩ | ⟨g, cap, cur, e1, _, hh, _, _, _, t1⟩
  · rcases k.row.2 with ⟨_, n2⟩ | ⟨g2, cap2, cur2, e2, _⟩
    · rw [List.eq_nil_of_length_eq_zero n1, List.eq_nil_of_length_eq_zero n2]
    · rw [e1] at e2; cases e2
  · rcases k.row.2 with ⟨e2, _⟩ | ⟨g2, cap2, cur2, e2, _, hh2, _, _, _, t2⟩
    · rw [e1] at e2; cases e2
    · rw [e1] at e2
      injection e2 with e3 e4 _
      injection e3 with e3
      injection e3 with e3
      subst e3
      rw [hh] at hh2
      injection hh2 with hh2
      injection hh2 with hh2
      subst hh2
      rw [e4] at t1
      exact t1.symm.trans t2
/-- The blocks that the search writes: the costs' and the frontier's. -/
def Ex (cb F : Nat) (v : Value) (vs : List Value) (b : Nat) : Prop := b = cb ∨ Fb F v vs b
theorem Ex.ge {W : World} {m : M3} {B F cb : Nat} {v : Value} {vs : List Value} {L : List (List Nat)} {cnt : Int} (h : Fr W m B F v vs L cnt) {V : Nat} (h1 : V ≤ cb) (h2 : V ≤ F) {b : Nat} (hb : Ex cb F v vs b) : V ≤ b := by
  rcases hb with rfl | hb
  · exact h1
  · have := h.low
    rcases (h.fb_lt hb).2 with rfl | k
    · exact h2
    · omega
theorem Ex.keeps {X Y : World} {m : M3} {B F cb : Nat} {v v' : Value} {vs vs' : List Value} {L : List (List Nat)} {cnt : Int} (h : Fr X m B F v vs L cnt) {cs : List Value} {t : TypeId} (hc : Blk X cb cs t) (hf : Foot (Ex cb F v vs) X (Ex cb F v' vs') Y) (C : Nat) : KeepsFrom C X Y :=
  ⟨hf.size, fun k o _ hk ho => by
    have hlt := (Array.getElem?_eq_some_iff.1 hk).1
    rw [hf.same k hlt (fun hx => ?_)]
    · exact hk
    · rcases hx with rfl | hx
      · unfold Blk at hc
        rw [hc] at hk
        injection hk with hk
        subst hk
        cases ho
      · obtain ⟨cur, t, f, hx⟩ := h.cells hx
        rw [hx] at hk
        injection hk with hk
        subst hk
        cases ho⟩
/-- The cells that a list of steps leads to, by number. -/
def idxs (m : M3) {bl : List Bool} {c : Int} {p : Pt} (l : List (Stp m bl c p)) : List (Nat × Int) := l.map fun x => (idx m x.1.1, x.1.2)
theorem idxs_snoc (m : M3) {bl : List Bool} {c : Int} {p : Pt} (l : List (Stp m bl c p)) (x : Stp m bl c p) : idxs m (l ++ [x]) = idxs m l ++ [(idx m x.1.1, x.1.2)] := by
  unfold idxs; rw [List.map_append]; rfl
theorem idxs_all {m : M3} (_hf : formedv m = true) {bl : List Bool} {c : Int} {k : Nat} (hk : k < m.cs.length) (l : List (Stp m bl c (posn m k))) (h : l.map (·.1) = nbp m bl c (posn m k)) : idxs m l = nb m bl c k := by
  unfold nb
  rw [if_pos hk, ← h, List.map_map]; rfl
theorem idxs_mem {m : M3} (_hf : formedv m = true) {bl : List Bool} {c : Int} {k : Nat} (hk : k < m.cs.length) (x : Stp m bl c (posn m k)) : (idx m x.1.1, x.1.2) ∈ nb m bl c k := mem_nb.2 ⟨hk, x.1, x.2, rfl, rfl⟩

end Go.Proofs.YtbdgpldhfemejaaDoor
