/-
  Boxes: a struct of two cells in a block of the call's own, known whole: read, stored into, kept behind calls that only make memory. No program is named here.
-/
import Derived.WalkKit
import Derived.WalkSpells
import Derived.OneCell
import Derived.Lib.Hide
import Derived.Laws.Rows
import Derived.Test.YtkjibjamkjdeaaaDoorMem
namespace Go.Proofs.YtkjibjamkjdeaaaDoor
open Go.RowKit

/-- Block b holds the two cells u and v. -/
def Box (w : World) (b : Nat) (u v : Value) (t : TypeId) : Prop := w.heap[b]? = some (.cells #[u, v] t (0, 0))

theorem Box.cells {w : World} {b : Nat} {u v : Value} {t : TypeId} (h : Box w b u v t) :
    w.cell? ⟨b, 0, none⟩ = some u ∧ w.cell? ⟨b, 1, none⟩ = some v ∧ w.frozen? ⟨b, 0, none⟩ = false ∧ w.frozen? ⟨b, 1, none⟩ = false := by
  unfold Box at h
  refine ⟨?_, ?_, ?_, ?_⟩
  · simp [World.cell?, h]
  · simp [World.cell?, h]
  · simp [World.frozen?, h]
  · simp [World.frozen?, h]
theorem Box.lt {w : World} {b : Nat} {u v : Value} {t : TypeId} (h : Box w b u v t) : b < w.heap.size := by
  unfold Box at h
  exact (Array.getElem?_eq_some_iff.1 h).1
theorem Box.below {w w' : World} {b : Nat} {u v : Value} {t : TypeId} (h : Box w b u v t) (hb : Below w.heap.size w w') : Box w' b u v t := by
  unfold Box
  rw [hb.block b h.lt]
  exact h
theorem Box.new (w : World) (u v : Value) (t : TypeId) : Box (w.alloc (.cells #[u, v] t)) w.heap.size u v t := by
  show (w.heap.push _)[w.heap.size]? = _
  simp
theorem Box.alloc {w : World} {b : Nat} {u v : Value} {t : TypeId} (h : Box w b u v t) (o : Obj) : Box (w.alloc o) b u v t := by
  have := h.lt
  show (w.heap.push o)[b]? = _
  rw [Array.getElem?_push_lt this]
  exact (Array.getElem?_eq_some_iff.1 h).2 ▸ rfl
theorem Box.drew {w : World} {b : Nat} {u v : Value} {t : TypeId} (h : Box w b u v t) : Box w.drew b u v t := h
theorem Box.set0 {w : World} {b : Nat} {u v : Value} {t : TypeId} (h : Box w b u v t) (x : Value) : Box (w.setCell ⟨b, 0, none⟩ x) b x v t := by
  have := heap_setCell_same w b 0 _ _ x h
  simpa [Box] using this
theorem Box.set1 {w : World} {b : Nat} {u v : Value} {t : TypeId} (h : Box w b u v t) (x : Value) : Box (w.setCell ⟨b, 1, none⟩ x) b u x t := by
  have := heap_setCell_same w b 1 _ _ x h
  simpa [Box] using this
theorem Box.other {w : World} {b : Nat} {u v : Value} {t : TypeId} (h : Box w b u v t) (a : Addr) (x : Value) (ne : b ≠ a.block) : Box (w.setCell a x) b u v t := by
  unfold Box at *
  rw [Below.heap_setCell w a x b ne]
  exact h
/-- What a region that draws holds of a box, at its beginning .. -/
theorem hv_start {w W : World} {b : Nat} {u v : Value} {t : TypeId} (h : Box W b u v t) (hb : Below w.heap.size w W) :
    W.drew.cell? ⟨b, 0, none⟩ = some u ∧ W.drew.cell? ⟨b, 1, none⟩ = some v ∧ Box W.drew b u v t ∧ Below w.heap.size w W.drew :=
  ⟨h.cells.1, h.cells.2.1, h, hb.drew⟩
/-- .. and behind a call that only makes memory. -/
theorem hv_call {w W w1 : World} {b : Nat} {u v : Value} {t : TypeId} (h : W.cell? ⟨b, 0, none⟩ = some u ∧ W.cell? ⟨b, 1, none⟩ = some v ∧ Box W b u v t ∧ Below w.heap.size w W) (hb : Below W.heap.size W w1) :
    w1.cell? ⟨b, 0, none⟩ = some u ∧ w1.cell? ⟨b, 1, none⟩ = some v ∧ Box w1 b u v t ∧ Below w.heap.size w w1 :=
  ⟨(h.2.2.1.below hb).cells.1, (h.2.2.1.below hb).cells.2.1, h.2.2.1.below hb, below_call h.2.2.2 hb⟩
/-- The same of two boxes, the first below the second. -/
theorem hv2_start {w W : World} {b c : Nat} {u v x y : Value} {t s : TypeId} (h : Box W b u v t) (k : Box W c x y s) (hb : Below w.heap.size w W) :
    W.drew.cell? ⟨b, 0, none⟩ = some u ∧ W.drew.cell? ⟨b, 1, none⟩ = some v ∧ W.drew.cell? ⟨c, 0, none⟩ = some x ∧ W.drew.cell? ⟨c, 1, none⟩ = some y ∧ Box W.drew b u v t ∧ Box W.drew c x y s ∧ Below w.heap.size w W.drew :=
  ⟨h.cells.1, h.cells.2.1, k.cells.1, k.cells.2.1, h, k, hb.drew⟩
theorem hv2_call {w W w1 : World} {b c : Nat} {u v x y : Value} {t s : TypeId} (h : W.cell? ⟨b, 0, none⟩ = some u ∧ W.cell? ⟨b, 1, none⟩ = some v ∧ W.cell? ⟨c, 0, none⟩ = some x ∧ W.cell? ⟨c, 1, none⟩ = some y ∧ Box W b u v t ∧ Box W c x y s ∧ Below w.heap.size w W)
    (hb : Below W.heap.size W w1) : w1.cell? ⟨b, 0, none⟩ = some u ∧ w1.cell? ⟨b, 1, none⟩ = some v ∧ w1.cell? ⟨c, 0, none⟩ = some x ∧ w1.cell? ⟨c, 1, none⟩ = some y ∧ Box w1 b u v t ∧ Box w1 c x y s ∧ Below w.heap.size w w1 := by
  obtain ⟨-, -, -, -, h1, h2, h3⟩ := h
  exact ⟨(h1.below hb).cells.1, (h1.below hb).cells.2.1, (h2.below hb).cells.1, (h2.below hb).cells.2.1, h1.below hb, h2.below hb, below_call h3 hb⟩

end Go.Proofs.YtkjibjamkjdeaaaDoor
