/-
  Blocks of cells that the call itself made, known whole: read, stored into, kept behind calls that only make memory. No program is named here.
-/
import Derived.WalkKit
import Derived.WalkSpells
import Derived.OneCell
import Derived.Deep.Draws
import Derived.Lib.Hide
import Derived.Laws.Rows
import Derived.Laws.AppendOwn
import Derived.Laws.OwnMore
namespace Go.Proofs.YtbdgpldhfemejaaDoor
open Go.RowKit

/-- Block b holds these cells. -/
def Blk (w : World) (b : Nat) (vs : List Value) (t : TypeId) : Prop := w.heap[b]? = some (.cells vs.toArray t (0, 0))

section
variable {w w' : World} {b : Nat} {vs : List Value} {t : TypeId}
theorem Blk.lt (h : Blk w b vs t) : b < w.heap.size := by
  unfold Blk at h
  exact (Array.getElem?_eq_some_iff.1 h).1
theorem Blk.cell (h : Blk w b vs t) (i : Nat) : w.cell? ⟨b, i, none⟩ = vs[i]? := by
  unfold Blk at h
  simp [World.cell?, h]
theorem Blk.frozen (h : Blk w b vs t) (i : Nat) : w.frozen? ⟨b, i, none⟩ = false := by
  unfold Blk at h
  simp [World.frozen?, h]
theorem Blk.below (h : Blk w b vs t) (hb : Below w.heap.size w w') : Blk w' b vs t := by
  unfold Blk
  rw [hb.block b h.lt]
  exact h
/-- .. and behind any work that left what is below B alone. -/
theorem Blk.under {B : Nat} (h : Blk w b vs t) (hb : Below B w w') (lt : b < B) : Blk w' b vs t := by
  unfold Blk
  rw [hb.block b lt]
  exact h
theorem Blk.new (w : World) (vs : List Value) (t : TypeId) : Blk (w.alloc (.cells vs.toArray t)) w.heap.size vs t := by
  show (w.heap.push _)[w.heap.size]? = _
  simp
theorem Blk.alloc (h : Blk w b vs t) (o : Obj) : Blk (w.alloc o) b vs t := by
  have := h.lt
  show (w.heap.push o)[b]? = _
  rw [Array.getElem?_push_lt this]
  exact (Array.getElem?_eq_some_iff.1 h).2 ▸ rfl
theorem Blk.drew (h : Blk w b vs t) : Blk w.drew b vs t := h
theorem Blk.drewN (h : Blk w b vs t) (n : Nat) : Blk (w.drewN n) b vs t := h
theorem Blk.set (h : Blk w b vs t) (i : Nat) (x : Value) : Blk (w.setCell ⟨b, i, none⟩ x) b (vs.set i x) t := by
  have := heap_setCell_same w b i _ _ x h
  unfold Blk
  rw [this]
  simp
theorem Blk.other (h : Blk w b vs t) (a : Addr) (x : Value) (ne : b ≠ a.block) : Blk (w.setCell a x) b vs t := by
  unfold Blk at *
  rw [Below.heap_setCell w a x b ne]
  exact h
theorem Blk.far (h : Blk w b vs t) {c i : Nat} (x : Value) (ne : b ≠ c) : Blk (w.setCell ⟨c, i, none⟩ x) b vs t := h.other _ x ne
theorem Blk.at (h : Blk w b vs t) {c : Nat} (e : b = c) : Blk w c vs t := e ▸ h
end

/-- The cells of a block of one, two, three, four. -/
theorem Blk.one {w : World} {b : Nat} {p : Value} {t : TypeId} (h : Blk w b [p] t) :
    w.cell? ⟨b, 0, none⟩ = some p ∧ w.frozen? ⟨b, 0, none⟩ = false := ⟨h.cell 0, h.frozen 0⟩
theorem Blk.two {w : World} {b : Nat} {p q : Value} {t : TypeId} (h : Blk w b [p, q] t) :
    w.cell? ⟨b, 0, none⟩ = some p ∧ w.cell? ⟨b, 1, none⟩ = some q ∧ w.frozen? ⟨b, 0, none⟩ = false ∧ w.frozen? ⟨b, 1, none⟩ = false :=
  ⟨h.cell 0, h.cell 1, h.frozen 0, h.frozen 1⟩
theorem Blk.three {w : World} {b : Nat} {p q r : Value} {t : TypeId} (h : Blk w b [p, q, r] t) :
    w.cell? ⟨b, 0, none⟩ = some p ∧ w.cell? ⟨b, 1, none⟩ = some q ∧ w.cell? ⟨b, 2, none⟩ = some r ∧ w.frozen? ⟨b, 0, none⟩ = false ∧ w.frozen? ⟨b, 1, none⟩ = false ∧ w.frozen? ⟨b, 2, none⟩ = false :=
  ⟨h.cell 0, h.cell 1, h.cell 2, h.frozen 0, h.frozen 1, h.frozen 2⟩
theorem Blk.four {w : World} {b : Nat} {p q r s : Value} {t : TypeId} (h : Blk w b [p, q, r, s] t) :
    w.cell? ⟨b, 0, none⟩ = some p ∧ w.cell? ⟨b, 1, none⟩ = some q ∧ w.cell? ⟨b, 2, none⟩ = some r ∧ w.cell? ⟨b, 3, none⟩ = some s ∧
    w.frozen? ⟨b, 0, none⟩ = false ∧ w.frozen? ⟨b, 1, none⟩ = false ∧ w.frozen? ⟨b, 2, none⟩ = false ∧ w.frozen? ⟨b, 3, none⟩ = false :=
  ⟨h.cell 0, h.cell 1, h.cell 2, h.cell 3, h.frozen 0, h.frozen 1, h.frozen 2, h.frozen 3⟩

/-- A number of int. -/
def I64 (n : Int) : Prop := -9223372036854775808 ≤ n ∧ n ≤ 9223372036854775807
/-- A call that only makes memory, behind work that left what was below B as it was. -/
theorem below_call {w W w1 : World} (h : Below w.heap.size w W) (hb : Below W.heap.size W w1) : Below w.heap.size w w1 := h.trans (hb.mono h.size)
theorem below_past {w W w1 : World} (h : Below w.heap.size w W) (hb : Below W.heap.size W w1) : Below w.heap.size w w1 := below_call h hb
theorem below_many {B : Nat} {w W : World} (h : Below B w W) (n : Nat) : Below B w (W.drewN n) := by
  induction n with
  | zero => exact h
  | succ n ih => exact ih.drew
theorem ret_bit {a b : Bool} (h : a = b) : Ending.returned (.bool a) = .returned (.bool b) := by rw [h]

theorem Blk.grown {w w' : World} {b : Nat} {vs : List Value} {t : TypeId} {row : Option Nat} (h : Blk w b vs t) (hg : w.grownBy w' row) (ne : ∀ k, row = some k → b ≠ k) : Blk w' b vs t := by
  unfold Blk
  rw [hg.block b h.lt (fun e => ne b e.symm rfl)]
  exact h
theorem own_base {w : World} {B C : Nat} {e : TypeId} {k : Nat} {v : Value} {n : Nat} {xs : List Value} (h : w.ownsRow B e k v n xs) (hc : C ≤ B) : w.ownsRow C e k v n xs := by
  refine ⟨h.1, ?_⟩
  rcases h.2 with hn | ⟨g, cap, cur, rfl, hb, rest⟩
  · exact .inl hn
  · exact .inr ⟨g, cap, cur, rfl, Nat.le_trans hc hb, rest⟩
theorem own_to {w : World} {B : Nat} {e : TypeId} {k : Nat} {v : Value} {n m : Nat} {xs ys : List Value} (h : w.ownsRow B e k v n xs) (hn : n = m) (hx : xs = ys) : w.ownsRow B e k v m ys := by subst hn; subst hx; exact h
theorem own_not {w : World} {B : Nat} {e : TypeId} {k : Nat} {v : Value} {n : Nat} {xs : List Value} (h : w.ownsRow B e k v n xs) {b : Nat} (lt : b < B) : ∀ j, v.ownBlock = some j → b ≠ j := fun j hj => by
  have := (h.lt j hj).1
  omega
/-- A row that the call owns, behind a call that only makes memory. -/
theorem own_below {w w' : World} {B : Nat} {e : TypeId} {k : Nat} {v : Value} {n : Nat} {xs : List Value} (h : w.ownsRow B e k v n xs) (hb : Below w.heap.size w w') : w'.ownsRow B e k v n xs := by
  refine ⟨h.1, ?_⟩
  rcases h.2 with hn | ⟨g, cap, cur, rfl, hB, hgg, rest⟩
  · exact .inl hn
  · refine .inr ⟨g, cap, cur, rfl, hB, ?_, rest⟩
    rw [hb.block g (Array.getElem?_eq_some_iff.1 hgg).1]
    exact hgg
/-- The cells of a block just made, as a list. -/
theorem cells_new {w : World} {vs : List Value} {t : TypeId} : ∀ j u, vs[j]? = some u → (w.alloc (.cells vs.toArray t)).cell? ((⟨w.heap.size, 0, none⟩ : Addr).add j) = some u := by
  intro j u hj
  have hadd : (⟨w.heap.size, 0, none⟩ : Addr).add j = ⟨w.heap.size, j, none⟩ := by unfold Addr.add; split <;> simp_all
  rw [hadd, (Blk.new w vs t).cell j]
  exact hj
/-- Behind one append of what was just made. -/
theorem below_push {w0 wr w1 : World} {B C k n : Nat} {v : Value} {xs : List Value} {t : TypeId} {o : Obj} (hB : B ≤ wr.heap.size) (hb : Below B w0 wr) (hown : wr.ownsRow C t k v n xs) (hC : B ≤ C) (hg : (wr.alloc o).grownBy w1 v.ownBlock) : Below B w0 w1 :=
  (hb.alloc hB o).grown hg (by have := hB; simp; omega) (fun k hk => Nat.le_trans hC (hown.lt k hk).1)
theorem info_cut {P : Program} {t : TypeId} {z : Value} {s b : Nat} (h : (P.info? t).map (fun i => (i.zero, i.size, i.bytes)) = some (some z, s, b)) : ∃ i, P.info? t = some i ∧ i.zero = some z ∧ i.size = s ∧ i.bytes = b := by
  cases hi : P.info? t with
  | none => rw [hi] at h; simp at h
  | some i =>
    rw [hi] at h
    simp at h
    exact ⟨i, rfl, h.1, h.2.1, h.2.2⟩

/-- Two blocks held beside each other, behind work that left what was below alone. -/
structure Held2 (w W : World) (b c : Nat) (us vs : List Value) (t s : TypeId) : Prop where
  l : Blk W b us t
  r : Blk W c vs s
  old : Below w.heap.size w W
/-- One block held. -/
structure Held1 (w W : World) (b : Nat) (us : List Value) (t : TypeId) : Prop where
  l : Blk W b us t
  old : Below w.heap.size w W
theorem Held2.call {w W w1 : World} {b c : Nat} {us vs : List Value} {t s : TypeId} (h : Held2 w W b c us vs t s) (hb : Below W.heap.size W w1) : Held2 w w1 b c us vs t s :=
  ⟨h.l.below hb, h.r.below hb, below_call h.old hb⟩
theorem Held1.call {w W w1 : World} {b : Nat} {us : List Value} {t : TypeId} (h : Held1 w W b us t) (hb : Below W.heap.size W w1) : Held1 w w1 b us t :=
  ⟨h.l.below hb, below_call h.old hb⟩
theorem Held2.drew {w W : World} {b c : Nat} {us vs : List Value} {t s : TypeId} (h : Held2 w W b c us vs t s) : Held2 w W.drew b c us vs t s := ⟨h.l, h.r, h.old.drew⟩
theorem Held1.drew {w W : World} {b : Nat} {us : List Value} {t : TypeId} (h : Held1 w W b us t) : Held1 w W.drew b us t := ⟨h.l, h.old.drew⟩
theorem Held2.alloc {w W : World} {b c : Nat} {us vs : List Value} {t s : TypeId} (h : Held2 w W b c us vs t s) (o : Obj) : Held2 w (W.alloc o) b c us vs t s := ⟨h.l.alloc o, h.r.alloc o, h.old.alloc h.old.size o⟩
theorem Held1.alloc {w W : World} {b : Nat} {us : List Value} {t : TypeId} (h : Held1 w W b us t) (o : Obj) : Held1 w (W.alloc o) b us t := ⟨h.l.alloc o, h.old.alloc h.old.size o⟩
/-- The two blocks that a call with two structs begins with; the one of a call with one. -/
theorem Held2.start (w : World) (us vs : List Value) (t s : TypeId) : Held2 w ((w.alloc (.cells us.toArray t)).alloc (.cells vs.toArray s)) w.heap.size (w.heap.size + 1) us vs t s :=
  ⟨(Blk.new w us t).alloc _, (Blk.new (w.alloc (.cells us.toArray t)) vs s).at (World.size_alloc _ _), ((Below.refl _ _).alloc (Nat.le_refl _) _).alloc (by simp) _⟩
theorem Held1.start (w : World) (us : List Value) (t : TypeId) : Held1 w (w.alloc (.cells us.toArray t)) w.heap.size us t :=
  ⟨Blk.new w us t, (Below.refl _ _).alloc (Nat.le_refl _) _⟩
/-- The cells, and the blocks: what a region that draws holds; the same behind a call. -/
theorem Held1.cells2 {w W : World} {b : Nat} {p q : Value} {t : TypeId} (h : Held1 w W b [p, q] t) :
    W.cell? ⟨b, 0, none⟩ = some p ∧ W.cell? ⟨b, 1, none⟩ = some q ∧ Held1 w W b [p, q] t := ⟨h.l.cell 0, h.l.cell 1, h⟩
theorem Held1.cells4 {w W : World} {b : Nat} {p q x y : Value} {t : TypeId} (h : Held1 w W b [p, q, x, y] t) :
    W.cell? ⟨b, 0, none⟩ = some p ∧ W.cell? ⟨b, 1, none⟩ = some q ∧ W.cell? ⟨b, 2, none⟩ = some x ∧ W.cell? ⟨b, 3, none⟩ = some y ∧ Held1 w W b [p, q, x, y] t := ⟨h.l.cell 0, h.l.cell 1, h.l.cell 2, h.l.cell 3, h⟩
theorem Held2.cells22 {w W : World} {b c : Nat} {p q u v : Value} {t s : TypeId} (h : Held2 w W b c [p, q] [u, v] t s) :
    W.cell? ⟨b, 0, none⟩ = some p ∧ W.cell? ⟨b, 1, none⟩ = some q ∧ W.cell? ⟨c, 0, none⟩ = some u ∧ W.cell? ⟨c, 1, none⟩ = some v ∧ Held2 w W b c [p, q] [u, v] t s :=
  ⟨h.l.cell 0, h.l.cell 1, h.r.cell 0, h.r.cell 1, h⟩
theorem Held2.cells42 {w W : World} {b c : Nat} {p q x y u v : Value} {t s : TypeId} (h : Held2 w W b c [p, q, x, y] [u, v] t s) :
    W.cell? ⟨b, 0, none⟩ = some p ∧ W.cell? ⟨b, 1, none⟩ = some q ∧ W.cell? ⟨b, 2, none⟩ = some x ∧ W.cell? ⟨b, 3, none⟩ = some y ∧ W.cell? ⟨c, 0, none⟩ = some u ∧ W.cell? ⟨c, 1, none⟩ = some v ∧ Held2 w W b c [p, q, x, y] [u, v] t s :=
  ⟨h.l.cell 0, h.l.cell 1, h.l.cell 2, h.l.cell 3, h.r.cell 0, h.r.cell 1, h⟩
theorem Held2.cells44 {w W : World} {b c : Nat} {p q x y u v m n : Value} {t s : TypeId} (h : Held2 w W b c [p, q, x, y] [u, v, m, n] t s) :
    W.cell? ⟨b, 0, none⟩ = some p ∧ W.cell? ⟨b, 1, none⟩ = some q ∧ W.cell? ⟨b, 2, none⟩ = some x ∧ W.cell? ⟨b, 3, none⟩ = some y ∧ W.cell? ⟨c, 0, none⟩ = some u ∧ W.cell? ⟨c, 1, none⟩ = some v ∧ W.cell? ⟨c, 2, none⟩ = some m ∧ W.cell? ⟨c, 3, none⟩ = some n ∧ Held2 w W b c [p, q, x, y] [u, v, m, n] t s :=
  ⟨h.l.cell 0, h.l.cell 1, h.l.cell 2, h.l.cell 3, h.r.cell 0, h.r.cell 1, h.r.cell 2, h.r.cell 3, h⟩
theorem Held1.call2 {w W w1 : World} {b : Nat} {p q : Value} {t : TypeId} (hb : Below W.heap.size W w1) (h : W.cell? ⟨b, 0, none⟩ = some p ∧ W.cell? ⟨b, 1, none⟩ = some q ∧ Held1 w W b [p, q] t) : w1.cell? ⟨b, 0, none⟩ = some p ∧ w1.cell? ⟨b, 1, none⟩ = some q ∧ Held1 w w1 b [p, q] t := (h.2.2.call hb).cells2
theorem Held1.call4 {w W w1 : World} {b : Nat} {p q x y : Value} {t : TypeId} (hb : Below W.heap.size W w1) (h : W.cell? ⟨b, 0, none⟩ = some p ∧ W.cell? ⟨b, 1, none⟩ = some q ∧ W.cell? ⟨b, 2, none⟩ = some x ∧ W.cell? ⟨b, 3, none⟩ = some y ∧ Held1 w W b [p, q, x, y] t) : w1.cell? ⟨b, 0, none⟩ = some p ∧ w1.cell? ⟨b, 1, none⟩ = some q ∧ w1.cell? ⟨b, 2, none⟩ = some x ∧ w1.cell? ⟨b, 3, none⟩ = some y ∧ Held1 w w1 b [p, q, x, y] t := (h.2.2.2.2.call hb).cells4
theorem Held2.call22 {w W w1 : World} {b c : Nat} {p q u v : Value} {t s : TypeId} (hb : Below W.heap.size W w1) (h : W.cell? ⟨b, 0, none⟩ = some p ∧ W.cell? ⟨b, 1, none⟩ = some q ∧ W.cell? ⟨c, 0, none⟩ = some u ∧ W.cell? ⟨c, 1, none⟩ = some v ∧ Held2 w W b c [p, q] [u, v] t s) : w1.cell? ⟨b, 0, none⟩ = some p ∧ w1.cell? ⟨b, 1, none⟩ = some q ∧ w1.cell? ⟨c, 0, none⟩ = some u ∧ w1.cell? ⟨c, 1, none⟩ = some v ∧ Held2 w w1 b c [p, q] [u, v] t s := (h.2.2.2.2.call hb).cells22
theorem Held2.call42 {w W w1 : World} {b c : Nat} {p q x y u v : Value} {t s : TypeId} (hb : Below W.heap.size W w1) (h : W.cell? ⟨b, 0, none⟩ = some p ∧ W.cell? ⟨b, 1, none⟩ = some q ∧ W.cell? ⟨b, 2, none⟩ = some x ∧ W.cell? ⟨b, 3, none⟩ = some y ∧ W.cell? ⟨c, 0, none⟩ = some u ∧ W.cell? ⟨c, 1, none⟩ = some v ∧ Held2 w W b c [p, q, x, y] [u, v] t s) : w1.cell? ⟨b, 0, none⟩ = some p ∧ w1.cell? ⟨b, 1, none⟩ = some q ∧ w1.cell? ⟨b, 2, none⟩ = some x ∧ w1.cell? ⟨b, 3, none⟩ = some y ∧ w1.cell? ⟨c, 0, none⟩ = some u ∧ w1.cell? ⟨c, 1, none⟩ = some v ∧ Held2 w w1 b c [p, q, x, y] [u, v] t s := (h.2.2.2.2.2.2.call hb).cells42
theorem Held2.call44 {w W w1 : World} {b c : Nat} {p q x y u v m n : Value} {t s : TypeId} (hb : Below W.heap.size W w1) (h : W.cell? ⟨b, 0, none⟩ = some p ∧ W.cell? ⟨b, 1, none⟩ = some q ∧ W.cell? ⟨b, 2, none⟩ = some x ∧ W.cell? ⟨b, 3, none⟩ = some y ∧ W.cell? ⟨c, 0, none⟩ = some u ∧ W.cell? ⟨c, 1, none⟩ = some v ∧ W.cell? ⟨c, 2, none⟩ = some m ∧ W.cell? ⟨c, 3, none⟩ = some n ∧ Held2 w W b c [p, q, x, y] [u, v, m, n] t s) : w1.cell? ⟨b, 0, none⟩ = some p ∧ w1.cell? ⟨b, 1, none⟩ = some q ∧ w1.cell? ⟨b, 2, none⟩ = some x ∧ w1.cell? ⟨b, 3, none⟩ = some y ∧ w1.cell? ⟨c, 0, none⟩ = some u ∧ w1.cell? ⟨c, 1, none⟩ = some v ∧ w1.cell? ⟨c, 2, none⟩ = some m ∧ w1.cell? ⟨c, 3, none⟩ = some n ∧ Held2 w w1 b c [p, q, x, y] [u, v, m, n] t s := (h.2.2.2.2.2.2.2.2.call hb).cells44
/-- Two blocks made behind each other, in either order. -/
theorem Held2.pair {w W : World} (us vs : List Value) (t s : TypeId) (h : Below w.heap.size w W) : Held2 w ((W.alloc (.cells us.toArray t)).alloc (.cells vs.toArray s)) W.heap.size (W.heap.size + 1) us vs t s :=
  ⟨(Blk.new W us t).alloc _, (Blk.new (W.alloc (.cells us.toArray t)) vs s).at (World.size_alloc _ _), (h.alloc h.size _).alloc (by have := h.size; simp; omega) _⟩
theorem Held2.pair2 {w W : World} (us vs : List Value) (t s : TypeId) (h : Below w.heap.size w W) : Held2 w ((W.alloc (.cells vs.toArray s)).alloc (.cells us.toArray t)) (W.heap.size + 1) W.heap.size us vs t s :=
  ⟨(Blk.new (W.alloc (.cells vs.toArray s)) us t).at (World.size_alloc _ _), (Blk.new W vs s).alloc _, (h.alloc h.size _).alloc (by have := h.size; simp; omega) _⟩
/-- Blocks held, behind work that left what was below alone: each by its number, its cells and its type. -/
structure Keep (w W : World) (L : List (Nat × List Value × TypeId)) : Prop where
  blks : ∀ e ∈ L, Blk W e.1 e.2.1 e.2.2
  old : Below w.heap.size w W
theorem Keep.call {w W w1 : World} {L : List (Nat × List Value × TypeId)} (hb : Below W.heap.size W w1) (h : Keep w W L) : Keep w w1 L := ⟨fun e he => (h.blks e he).below hb, below_call h.old hb⟩
theorem Keep.drew {w W : World} {L : List (Nat × List Value × TypeId)} (h : Keep w W L) : Keep w W.drew L := ⟨fun e he => h.blks e he, h.old.drew⟩
theorem Keep.alloc {w W : World} {L : List (Nat × List Value × TypeId)} (vs : List Value) (t : TypeId) (h : Keep w W L) : Keep w (W.alloc (.cells vs.toArray t)) ((W.heap.size, vs, t) :: L) :=
  ⟨fun e he => by
    rcases List.mem_cons.1 he with rfl | he
    · exact Blk.new W vs t
    · exact (h.blks e he).alloc _, h.old.alloc h.old.size _⟩
theorem Keep.alloc2 {w W : World} {L : List (Nat × List Value × TypeId)} (vs us : List Value) (t s : TypeId) (h : Keep w W L) : Keep w ((W.alloc (.cells vs.toArray t)).alloc (.cells us.toArray s)) ((W.heap.size + 1, us, s) :: (W.heap.size, vs, t) :: L) := by
  have := (h.alloc vs t).alloc us s
  rw [World.size_alloc] at this
  exact this
theorem Keep.other {w W : World} {L : List (Nat × List Value × TypeId)} (o : Obj) (h : Keep w W L) : Keep w (W.alloc o) L :=
  ⟨fun e he => (h.blks e he).alloc _, h.old.alloc h.old.size _⟩
theorem Keep.tail {w W : World} {L : List (Nat × List Value × TypeId)} {e : Nat × List Value × TypeId} (h : Keep w W (e :: L)) : Keep w W L := ⟨fun f hf => h.blks f (List.mem_cons_of_mem _ hf), h.old⟩
theorem Keep.nil (w : World) : Keep w w [] := ⟨fun e he => by simp at he, Below.refl _ _⟩
/-- What the walk asks of a block that is held. -/
theorem Blk.seen {W : World} {b : Nat} {vs : List Value} {t : TypeId} (h : Blk W b vs t) :
    (∀ i, W.cell? ⟨b, i, none⟩ = vs[i]?) ∧ (∀ i, W.frozen? ⟨b, i, none⟩ = false) ∧
    (∀ o i, (W.alloc o).cell? ⟨b, i, none⟩ = vs[i]?) ∧ (∀ o i, (W.alloc o).frozen? ⟨b, i, none⟩ = false) ∧
    (∀ o p i, ((W.alloc o).alloc p).cell? ⟨b, i, none⟩ = vs[i]?) ∧ (∀ o p i, ((W.alloc o).alloc p).frozen? ⟨b, i, none⟩ = false) ∧ W.heap.size ≠ b ∧ b ≠ W.heap.size :=
  ⟨h.cell, h.frozen, fun o => (h.alloc o).cell, fun o => (h.alloc o).frozen, fun o p => ((h.alloc o).alloc p).cell, fun o p => ((h.alloc o).alloc p).frozen, by have := h.lt; omega, by have := h.lt; omega⟩
/-- The same of two cells, one by one. -/
theorem Blk.seen2 {W : World} {b : Nat} {p q : Value} {t : TypeId} (h : Blk W b [p, q] t) :
    W.cell? ⟨b, 0, none⟩ = some p ∧ W.cell? ⟨b, 1, none⟩ = some q ∧ W.frozen? ⟨b, 0, none⟩ = false ∧ W.frozen? ⟨b, 1, none⟩ = false ∧
    (∀ o, (W.alloc o).cell? ⟨b, 0, none⟩ = some p) ∧ (∀ o, (W.alloc o).cell? ⟨b, 1, none⟩ = some q) ∧ (∀ o, (W.alloc o).frozen? ⟨b, 0, none⟩ = false) ∧ (∀ o, (W.alloc o).frozen? ⟨b, 1, none⟩ = false) ∧ W.heap.size ≠ b :=
  ⟨h.cell 0, h.cell 1, h.frozen 0, h.frozen 1, fun o => (h.alloc o).cell 0, fun o => (h.alloc o).cell 1, fun o => (h.alloc o).frozen 0, fun o => (h.alloc o).frozen 1, by have := h.lt; omega⟩
theorem Blk.seen4 {W : World} {b : Nat} {p q r s : Value} {t : TypeId} (h : Blk W b [p, q, r, s] t) :
    (W.cell? ⟨b, 0, none⟩ = some p ∧ W.cell? ⟨b, 1, none⟩ = some q ∧ W.cell? ⟨b, 2, none⟩ = some r ∧ W.cell? ⟨b, 3, none⟩ = some s) ∧ (∀ i, W.frozen? ⟨b, i, none⟩ = false) ∧
    ((∀ o, (W.alloc o).cell? ⟨b, 0, none⟩ = some p) ∧ (∀ o, (W.alloc o).cell? ⟨b, 1, none⟩ = some q) ∧ (∀ o, (W.alloc o).cell? ⟨b, 2, none⟩ = some r) ∧ (∀ o, (W.alloc o).cell? ⟨b, 3, none⟩ = some s)) ∧ (∀ o i, (W.alloc o).frozen? ⟨b, i, none⟩ = false) ∧ W.heap.size ≠ b :=
  ⟨⟨h.cell 0, h.cell 1, h.cell 2, h.cell 3⟩, h.frozen, ⟨fun o => (h.alloc o).cell 0, fun o => (h.alloc o).cell 1, fun o => (h.alloc o).cell 2, fun o => (h.alloc o).cell 3⟩, fun o => (h.alloc o).frozen, by have := h.lt; omega⟩
theorem Blk.ne {W : World} {b : Nat} {vs : List Value} {t : TypeId} (h : Blk W b vs t) : W.heap.size ≠ b ∧ b ≠ W.heap.size := by have := h.lt; omega
theorem Keep.one {w W : World} {b : Nat} {us : List Value} {t : TypeId} (h : Keep w W [(b, us, t)]) : Blk W b us t := h.blks (b, us, t) (by simp)
theorem Keep.two {w W : World} {b c : Nat} {us vs : List Value} {t s : TypeId} (h : Keep w W [(b, us, t), (c, vs, s)]) : Blk W b us t ∧ Blk W c vs s :=
  ⟨h.blks (b, us, t) (by simp), h.blks (c, vs, s) (by simp)⟩
theorem Keep.three {w W : World} {b c d : Nat} {us vs xs : List Value} {t s r : TypeId} (h : Keep w W [(b, us, t), (c, vs, s), (d, xs, r)]) : Blk W b us t ∧ Blk W c vs s ∧ Blk W d xs r :=
  ⟨h.blks (b, us, t) (by simp), h.blks (c, vs, s) (by simp), h.blks (d, xs, r) (by simp)⟩
theorem Keep.four {w W : World} {b c d e : Nat} {us vs xs ys : List Value} {t s r q : TypeId} (h : Keep w W [(b, us, t), (c, vs, s), (d, xs, r), (e, ys, q)]) : Blk W b us t ∧ Blk W c vs s ∧ Blk W d xs r ∧ Blk W e ys q :=
  ⟨h.blks (b, us, t) (by simp), h.blks (c, vs, s) (by simp), h.blks (d, xs, r) (by simp), h.blks (e, ys, q) (by simp)⟩
/-- The cells of two blocks that were there at W, behind work that left what was there alone; of one block. -/
theorem low4 {W w' : World} {b : Nat} {p q x y : Value} {t : TypeId} (hl : Blk W b [p, q, x, y] t) (h : Below W.heap.size W w') :
    w'.cell? ⟨b, 0, none⟩ = some p ∧ w'.cell? ⟨b, 1, none⟩ = some q ∧ w'.cell? ⟨b, 2, none⟩ = some x ∧ w'.cell? ⟨b, 3, none⟩ = some y :=
  ⟨(hl.below h).cell 0, (hl.below h).cell 1, (hl.below h).cell 2, (hl.below h).cell 3⟩
theorem low44 {W w' : World} {b c : Nat} {p q x y u v m n : Value} {t s : TypeId} (hl : Blk W b [p, q, x, y] t) (hr : Blk W c [u, v, m, n] s) (h : Below W.heap.size W w') :
    w'.cell? ⟨b, 0, none⟩ = some p ∧ w'.cell? ⟨b, 1, none⟩ = some q ∧ w'.cell? ⟨b, 2, none⟩ = some x ∧ w'.cell? ⟨b, 3, none⟩ = some y ∧ w'.cell? ⟨c, 0, none⟩ = some u ∧ w'.cell? ⟨c, 1, none⟩ = some v ∧ w'.cell? ⟨c, 2, none⟩ = some m ∧ w'.cell? ⟨c, 3, none⟩ = some n :=
  ⟨(hl.below h).cell 0, (hl.below h).cell 1, (hl.below h).cell 2, (hl.below h).cell 3, (hr.below h).cell 0, (hr.below h).cell 1, (hr.below h).cell 2, (hr.below h).cell 3⟩
theorem low22 {W w' : World} {b c : Nat} {p q u v : Value} {t s : TypeId} (hl : Blk W b [p, q] t) (hr : Blk W c [u, v] s) (h : Below W.heap.size W w') :
    w'.cell? ⟨b, 0, none⟩ = some p ∧ w'.cell? ⟨b, 1, none⟩ = some q ∧ w'.cell? ⟨c, 0, none⟩ = some u ∧ w'.cell? ⟨c, 1, none⟩ = some v ∧ Below W.heap.size W w' :=
  ⟨(hl.below h).cell 0, (hl.below h).cell 1, (hr.below h).cell 0, (hr.below h).cell 1, h⟩
theorem low42 {W w' : World} {b c : Nat} {p q x y u v : Value} {t s : TypeId} (hl : Blk W b [p, q, x, y] t) (hr : Blk W c [u, v] s) (h : Below W.heap.size W w') :
    w'.cell? ⟨b, 0, none⟩ = some p ∧ w'.cell? ⟨b, 1, none⟩ = some q ∧ w'.cell? ⟨b, 2, none⟩ = some x ∧ w'.cell? ⟨b, 3, none⟩ = some y ∧ w'.cell? ⟨c, 0, none⟩ = some u ∧ w'.cell? ⟨c, 1, none⟩ = some v ∧ Below W.heap.size W w' :=
  ⟨(hl.below h).cell 0, (hl.below h).cell 1, (hl.below h).cell 2, (hl.below h).cell 3, (hr.below h).cell 0, (hr.below h).cell 1, h⟩
theorem Blk.put2 {W : World} {b : Nat} {p q : Value} {t : TypeId} (h : Blk W b [p, q] t) (x y : Value) : Blk ((W.setCell ⟨b, 0, none⟩ x).setCell ⟨b, 1, none⟩ y) b [x, y] t := (h.set 0 x).set 1 y
theorem Blk.put4 {W : World} {b : Nat} {p q r s : Value} {t : TypeId} (h : Blk W b [p, q, r, s] t) (x y u v : Value) : Blk ((((W.setCell ⟨b, 0, none⟩ x).setCell ⟨b, 1, none⟩ y).setCell ⟨b, 2, none⟩ u).setCell ⟨b, 3, none⟩ v) b [x, y, u, v] t := (((h.set 0 x).set 1 y).set 2 u).set 3 v

end Go.Proofs.YtbdgpldhfemejaaDoor
