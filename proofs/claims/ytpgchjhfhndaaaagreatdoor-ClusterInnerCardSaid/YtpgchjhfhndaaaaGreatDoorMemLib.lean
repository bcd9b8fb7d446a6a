/-
  Blocks of cells, rows and structs in memory. No program is named here.
-/
import Derived.WalkKit
import Derived.WalkSpells
import Derived.OneCell
import Derived.Deep.Draws
import Derived.Lib.Hide
import Derived.Laws.Rows
import Derived.Laws.AppendOwn
import Derived.Laws.OwnMore
import Derived.Laws.Tables
import Derived.Shelf.SlicesQ.Load
import Derived.Deep.Upon
import Derived.Deep.AppendSrc
import Derived.Deep.RegionHeld3
namespace Go.Proofs.YtpgchjhfhndaaaaGreatDoor

section
open Go.RowKit

/-- Block b holds these cells. -/
def Blk (w : World) (b : Nat) (vs : List Value) (t : TypeId) : Prop := w.heap[b]? = some (.cells vs.toArray t (0, 0))

section
variable {w w' : World} {b : Nat} {vs : List Value} {t : TypeId}
theorem Blk.lt (h : Blk w b vs t) : b < w.heap.size := by
  unfold Blk at h
  exact (Array.getElem?_eq_some_iff.1 h).1
theorem Blk.cell (h : Blk w b vs t) (i : Nat) : w.cell? ⟨b, i, none⟩ = vs[i]? := by
  unfold Blk at h
  simp [World.cell?, h]
theorem Blk.frozen (h : Blk w b vs t) (i : Nat) : w.frozen? ⟨b, i, none⟩ = false := by
  unfold Blk at h
  simp [World.frozen?, h]
theorem Blk.below (h : Blk w b vs t) (hb : Below w.heap.size w w') : Blk w' b vs t := by
  unfold Blk
  rw [hb.block b h.lt]
  exact h
/-- .. and behind any work that left what is below B alone. -/
theorem Blk.under {B : Nat} (h : Blk w b vs t) (hb : Below B w w') (lt : b < B) : Blk w' b vs t := by
  unfold Blk
  rw [hb.block b lt]
  exact h
theorem Blk.new (w : World) (vs : List Value) (t : TypeId) : Blk (w.alloc (.cells vs.toArray t)) w.heap.size vs t := by
  show (w.heap.push _)[w.heap.size]? = _
  simp
theorem Blk.alloc (h : Blk w b vs t) (o : Obj) : Blk (w.alloc o) b vs t := by
  have := h.lt
  show (w.heap.push o)[b]? = _
  rw [Array.getElem?_push_lt this]
  exact (Array.getElem?_eq_some_iff.1 h).2 ▸ rfl
theorem Blk.drew (h : Blk w b vs t) : Blk w.drew b vs t := h
theorem Blk.drewN (h : Blk w b vs t) (n : Nat) : Blk (w.drewN n) b vs t := h
theorem Blk.set (h : Blk w b vs t) (i : Nat) (x : Value) : Blk (w.setCell ⟨b, i, none⟩ x) b (vs.set i x) t := by
  have := heap_setCell_same w b i _ _ x h
  unfold Blk
  rw [this]
  simp
theorem Blk.other (h : Blk w b vs t) (a : Addr) (x : Value) (ne : b ≠ a.block) : Blk (w.setCell a x) b vs t := by
  unfold Blk at *
  rw [Below.heap_setCell w a x b ne]
  exact h
theorem Blk.far (h : Blk w b vs t) {c i : Nat} (x : Value) (ne : b ≠ c) : Blk (w.setCell ⟨c, i, none⟩ x) b vs t := h.other _ x ne
theorem Blk.at (h : Blk w b vs t) {c : Nat} (e : b = c) : Blk w c vs t := e ▸ h
end

/-- The cells of a block of one, two, three, four. -/
theorem Blk.one {w : World} {b : Nat} {p : Value} {t : TypeId} (h : Blk w b [p] t) :
    w.cell? ⟨b, 0, none⟩ = some p ∧ w.frozen? ⟨b, 0, none⟩ = false := ⟨h.cell 0, h.frozen 0⟩
theorem Blk.two {w : World} {b : Nat} {p q : Value} {t : TypeId} (h : Blk w b [p, q] t) :
    w.cell? ⟨b, 0, none⟩ = some p ∧ w.cell? ⟨b, 1, none⟩ = some q ∧ w.frozen? ⟨b, 0, none⟩ = false ∧ w.frozen? ⟨b, 1, none⟩ = false :=
  ⟨h.cell 0, h.cell 1, h.frozen 0, h.frozen 1⟩
theorem Blk.three {w : World} {b : Nat} {p q r : Value} {t : TypeId} (h : Blk w b [p, q, r] t) :
    w.cell? ⟨b, 0, none⟩ = some p ∧ w.cell? ⟨b, 1, none⟩ = some q ∧ w.cell? ⟨b, 2, none⟩ = some r ∧ w.frozen? ⟨b, 0, none⟩ = false ∧ w.frozen? ⟨b, 1, none⟩ = false ∧ w.frozen? ⟨b, 2, none⟩ = false :=
  ⟨h.cell 0, h.cell 1, h.cell 2, h.frozen 0, h.frozen 1, h.frozen 2⟩
theorem Blk.four {w : World} {b : Nat} {p q r s : Value} {t : TypeId} (h : Blk w b [p, q, r, s] t) :
    w.cell? ⟨b, 0, none⟩ = some p ∧ w.cell? ⟨b, 1, none⟩ = some q ∧ w.cell? ⟨b, 2, none⟩ = some r ∧ w.cell? ⟨b, 3, none⟩ = some s ∧
    w.frozen? ⟨b, 0, none⟩ = false ∧ w.frozen? ⟨b, 1, none⟩ = false ∧ w.frozen? ⟨b, 2, none⟩ = false ∧ w.frozen? ⟨b, 3, none⟩ = false :=
  ⟨h.cell 0, h.cell 1, h.cell 2, h.cell 3, h.frozen 0, h.frozen 1, h.frozen 2, h.frozen 3⟩

/-- A number of int. -/
def I64 (n : Int) : Prop := -9223372036854775808 ≤ n ∧ n ≤ 9223372036854775807
/-- A call that only makes memory, behind work that left what was below B as it was. -/
theorem below_call {w W w1 : World} (h : Below w.heap.size w W) (hb : Below W.heap.size W w1) : Below w.heap.size w w1 := h.trans (hb.mono h.size)
theorem below_past {w W w1 : World} (h : Below w.heap.size w W) (hb : Below W.heap.size W w1) : Below w.heap.size w w1 := below_call h hb
theorem below_many {B : Nat} {w W : World} (h : Below B w W) (n : Nat) : Below B w (W.drewN n) := by
  induction n with
  | zero => exact h
  | succ n ih => exact ih.drew
theorem ret_bit {a b : Bool} (h : a = b) : Ending.returned (.bool a) = .returned (.bool b) := by rw [h]

theorem Blk.grown {w w' : World} {b : Nat} {vs : List Value} {t : TypeId} {row : Option Nat} (h : Blk w b vs t) (hg : w.grownBy w' row) (ne : ∀ k, row = some k → b ≠ k) : Blk w' b vs t := by
  unfold Blk
  rw [hg.block b h.lt (fun e => ne b e.symm rfl)]
  exact h
theorem own_base {w : World} {B C : Nat} {e : TypeId} {k : Nat} {v : Value} {n : Nat} {xs : List Value} (h : w.ownsRow B e k v n xs) (hc : C ≤ B) : w.ownsRow C e k v n xs := by
  refine ⟨h.1, ?_⟩
  rcases h.2 with hn | ⟨g, cap, cur, rfl, hb, rest⟩
  · exact .inl hn
  · exact .inr ⟨g, cap, cur, rfl, Nat.le_trans hc hb, rest⟩
theorem own_to {w : World} {B : Nat} {e : TypeId} {k : Nat} {v : Value} {n m : Nat} {xs ys : List Value} (h : w.ownsRow B e k v n xs) (hn : n = m) (hx : xs = ys) : w.ownsRow B e k v m ys := by subst hn; subst hx; exact h
theorem own_not {w : World} {B : Nat} {e : TypeId} {k : Nat} {v : Value} {n : Nat} {xs : List Value} (h : w.ownsRow B e k v n xs) {b : Nat} (lt : b < B) : ∀ j, v.ownBlock = some j → b ≠ j := fun j hj => by
  have := (h.lt j hj).1
  omega
/-- A row that the call owns, behind a call that only makes memory. -/
theorem own_below {w w' : World} {B : Nat} {e : TypeId} {k : Nat} {v : Value} {n : Nat} {xs : List Value} (h : w.ownsRow B e k v n xs) (hb : Below w.heap.size w w') : w'.ownsRow B e k v n xs := by
  refine ⟨h.1, ?_⟩
  rcases h.2 with hn | ⟨g, cap, cur, rfl, hB, hgg, rest⟩
  · exact .inl hn
  · refine .inr ⟨g, cap, cur, rfl, hB, ?_, rest⟩
    rw [hb.block g (Array.getElem?_eq_some_iff.1 hgg).1]
    exact hgg
/-- The cells of a block just made, as a list. -/
theorem cells_new {w : World} {vs : List Value} {t : TypeId} : ∀ j u, vs[j]? = some u → (w.alloc (.cells vs.toArray t)).cell? ((⟨w.heap.size, 0, none⟩ : Addr).add j) = some u := by
  intro j u hj
  have hadd : (⟨w.heap.size, 0, none⟩ : Addr).add j = ⟨w.heap.size, j, none⟩ := by unfold Addr.add; split <;> simp_all
  rw [hadd, (Blk.new w vs t).cell j]
  exact hj
/-- Behind one append of what was just made. -/
theorem below_push {w0 wr w1 : World} {B C k n : Nat} {v : Value} {xs : List Value} {t : TypeId} {o : Obj} (hB : B ≤ wr.heap.size) (hb : Below B w0 wr) (hown : wr.ownsRow C t k v n xs) (hC : B ≤ C) (hg : (wr.alloc o).grownBy w1 v.ownBlock) : Below B w0 w1 :=
  (hb.alloc hB o).grown hg (by have := hB; simp; omega) (fun k hk => Nat.le_trans hC (hown.lt k hk).1)
theorem info_cut {P : Program} {t : TypeId} {z : Value} {s b : Nat} (h : (P.info? t).map (fun i => (i.zero, i.size, i.bytes)) = some (some z, s, b)) : ∃ i, P.info? t = some i ∧ i.zero = some z ∧ i.size = s ∧ i.bytes = b := by
  cases hi : P.info? t with
  | none => rw [hi] at h; simp at h
  | some i =>
    rw [hi] at h
    simp at h
    exact ⟨i, rfl, h.1, h.2.1, h.2.2⟩

/-- Two blocks held beside each other, behind work that left what was below alone. -/
structure Held2 (w W : World) (b c : Nat) (us vs : List Value) (t s : TypeId) : Prop where
  l : Blk W b us t
  r : Blk W c vs s
  old : Below w.heap.size w W
/-- One block held. -/
structure Held1 (w W : World) (b : Nat) (us : List Value) (t : TypeId) : Prop where
  l : Blk W b us t
  old : Below w.heap.size w W
theorem Held2.call {w W w1 : World} {b c : Nat} {us vs : List Value} {t s : TypeId} (h : Held2 w W b c us vs t s) (hb : Below W.heap.size W w1) : Held2 w w1 b c us vs t s :=
  ⟨h.l.below hb, h.r.below hb, below_call h.old hb⟩
theorem Held1.call {w W w1 : World} {b : Nat} {us : List Value} {t : TypeId} (h : Held1 w W b us t) (hb : Below W.heap.size W w1) : Held1 w w1 b us t :=
  ⟨h.l.below hb, below_call h.old hb⟩
theorem Held2.drew {w W : World} {b c : Nat} {us vs : List Value} {t s : TypeId} (h : Held2 w W b c us vs t s) : Held2 w W.drew b c us vs t s := ⟨h.l, h.r, h.old.drew⟩
theorem Held1.drew {w W : World} {b : Nat} {us : List Value} {t : TypeId} (h : Held1 w W b us t) : Held1 w W.drew b us t := ⟨h.l, h.old.drew⟩
theorem Held2.alloc {w W : World} {b c : Nat} {us vs : List Value} {t s : TypeId} (h : Held2 w W b c us vs t s) (o : Obj) : Held2 w (W.alloc o) b c us vs t s := ⟨h.l.alloc o, h.r.alloc o, h.old.alloc h.old.size o⟩
theorem Held1.alloc {w W : World} {b : Nat} {us : List Value} {t : TypeId} (h : Held1 w W b us t) (o : Obj) : Held1 w (W.alloc o) b us t := ⟨h.l.alloc o, h.old.alloc h.old.size o⟩
/-- The two blocks that a call with two structs begins with; the one of a call with one. -/
theorem Held2.start (w : World) (us vs : List Value) (t s : TypeId) : Held2 w ((w.alloc (.cells us.toArray t)).alloc (.cells vs.toArray s)) w.heap.size (w.heap.size + 1) us vs t s :=
  ⟨(Blk.new w us t).alloc _, (Blk.new (w.alloc (.cells us.toArray t)) vs s).at (World.size_alloc _ _), ((Below.refl _ _).alloc (Nat.le_refl _) _).alloc (by simp) _⟩
theorem Held1.start (w : World) (us : List Value) (t : TypeId) : Held1 w (w.alloc (.cells us.toArray t)) w.heap.size us t :=
  ⟨Blk.new w us t, (Below.refl _ _).alloc (Nat.le_refl _) _⟩
/-- The cells, and the blocks: what a region that draws holds; the same behind a call. -/
theorem Held1.cells2 {w W : World} {b : Nat} {p q : Value} {t : TypeId} (h : Held1 w W b [p, q] t) :
    W.cell? ⟨b, 0, none⟩ = some p ∧ W.cell? ⟨b, 1, none⟩ = some q ∧ Held1 w W b [p, q] t := ⟨h.l.cell 0, h.l.cell 1, h⟩
theorem Held1.cells4 {w W : World} {b : Nat} {p q x y : Value} {t : TypeId} (h : Held1 w W b [p, q, x, y] t) :
    W.cell? ⟨b, 0, none⟩ = some p ∧ W.cell? ⟨b, 1, none⟩ = some q ∧ W.cell? ⟨b, 2, none⟩ = some x ∧ W.cell? ⟨b, 3, none⟩ = some y ∧ Held1 w W b [p, q, x, y] t := ⟨h.l.cell 0, h.l.cell 1, h.l.cell 2, h.l.cell 3, h⟩
theorem Held2.cells22 {w W : World} {b c : Nat} {p q u v : Value} {t s : TypeId} (h : Held2 w W b c [p, q] [u, v] t s) :
    W.cell? ⟨b, 0, none⟩ = some p ∧ W.cell? ⟨b, 1, none⟩ = some q ∧ W.cell? ⟨c, 0, none⟩ = some u ∧ W.cell? ⟨c, 1, none⟩ = some v ∧ Held2 w W b c [p, q] [u, v] t s :=
  ⟨h.l.cell 0, h.l.cell 1, h.r.cell 0, h.r.cell 1, h⟩
theorem Held2.cells42 {w W : World} {b c : Nat} {p q x y u v : Value} {t s : TypeId} (h : Held2 w W b c [p, q, x, y] [u, v] t s) :
    W.cell? ⟨b, 0, none⟩ = some p ∧ W.cell? ⟨b, 1, none⟩ = some q ∧ W.cell? ⟨b, 2, none⟩ = some x ∧ W.cell? ⟨b, 3, none⟩ = some y ∧ W.cell? ⟨c, 0, none⟩ = some u ∧ W.cell? ⟨c, 1, none⟩ = some v ∧ Held2 w W b c [p, q, x, y] [u, v] t s :=
  ⟨h.l.cell 0, h.l.cell 1, h.l.cell 2, h.l.cell 3, h.r.cell 0, h.r.cell 1, h⟩
theorem Held2.cells44 {w W : World} {b c : Nat} {p q x y u v m n : Value} {t s : TypeId} (h : Held2 w W b c [p, q, x, y] [u, v, m, n] t s) :
    W.cell? ⟨b, 0, none⟩ = some p ∧ W.cell? ⟨b, 1, none⟩ = some q ∧ W.cell? ⟨b, 2, none⟩ = some x ∧ W.cell? ⟨b, 3, none⟩ = some y ∧ W.cell? ⟨c, 0, none⟩ = some u ∧ W.cell? ⟨c, 1, none⟩ = some v ∧ W.cell? ⟨c, 2, none⟩ = some m ∧ W.cell? ⟨c, 3, none⟩ = some n ∧ Held2 w W b c [p, q, x, y] [u, v, m, n] t s :=
  ⟨h.l.cell 0, h.l.cell 1, h.l.cell 2, h.l.cell 3, h.r.cell 0, h.r.cell 1, h.r.cell 2, h.r.cell 3, h⟩
theorem Held1.call2 {w W w1 : World} {b : Nat} {p q : Value} {t : TypeId} (hb : Below W.heap.size W w1) (h : W.cell? ⟨b, 0, none⟩ = some p ∧ W.cell? ⟨b, 1, none⟩ = some q ∧ Held1 w W b [p, q] t) : w1.cell? ⟨b, 0, none⟩ = some p ∧ w1.cell? ⟨b, 1, none⟩ = some q ∧ Held1 w w1 b [p, q] t := (h.2.2.call hb).cells2
theorem Held1.call4 {w W w1 : World} {b : Nat} {p q x y : Value} {t : TypeId} (hb : Below W.heap.size W w1) (h : W.cell? ⟨b, 0, none⟩ = some p ∧ W.cell? ⟨b, 1, none⟩ = some q ∧ W.cell? ⟨b, 2, none⟩ = some x ∧ W.cell? ⟨b, 3, none⟩ = some y ∧ Held1 w W b [p, q, x, y] t) : w1.cell? ⟨b, 0, none⟩ = some p ∧ w1.cell? ⟨b, 1, none⟩ = some q ∧ w1.cell? ⟨b, 2, none⟩ = some x ∧ w1.cell? ⟨b, 3, none⟩ = some y ∧ Held1 w w1 b [p, q, x, y] t := (h.2.2.2.2.call hb).cells4
theorem Held2.call22 {w W w1 : World} {b c : Nat} {p q u v : Value} {t s : TypeId} (hb : Below W.heap.size W w1) (h : W.cell? ⟨b, 0, none⟩ = some p ∧ W.cell? ⟨b, 1, none⟩ = some q ∧ W.cell? ⟨c, 0, none⟩ = some u ∧ W.cell? ⟨c, 1, none⟩ = some v ∧ Held2 w W b c [p, q] [u, v] t s) : w1.cell? ⟨b, 0, none⟩ = some p ∧ w1.cell? ⟨b, 1, none⟩ = some q ∧ w1.cell? ⟨c, 0, none⟩ = some u ∧ w1.cell? ⟨c, 1, none⟩ = some v ∧ Held2 w w1 b c [p, q] [u, v] t s := (h.2.2.2.2.call hb).cells22
theorem Held2.call42 {w W w1 : World} {b c : Nat} {p q x y u v : Value} {t s : TypeId} (hb : Below W.heap.size W w1) (h : W.cell? ⟨b, 0, none⟩ = some p ∧ W.cell? ⟨b, 1, none⟩ = some q ∧ W.cell? ⟨b, 2, none⟩ = some x ∧ W.cell? ⟨b, 3, none⟩ = some y ∧ W.cell? ⟨c, 0, none⟩ = some u ∧ W.cell? ⟨c, 1, none⟩ = some v ∧ Held2 w W b c [p, q, x, y] [u, v] t s) : w1.cell? ⟨b, 0, none⟩ = some p ∧ w1.cell? ⟨b, 1, none⟩ = some q ∧ w1.cell? ⟨b, 2, none⟩ = some x ∧ w1.cell? ⟨b, 3, none⟩ = some y ∧ w1.cell? ⟨c, 0, none⟩ = some u ∧ w1.cell? ⟨c, 1, none⟩ = some v ∧ Held2 w w1 b c [p, q, x, y] [u, v] t s := (h.2.2.2.2.2.2.call hb).cells42
theorem Held2.call44 {w W w1 : World} {b c : Nat} {p q x y u v m n : Value} {t s : TypeId} (hb : Below W.heap.size W w1) (h : W.cell? ⟨b, 0, none⟩ = some p ∧ W.cell? ⟨b, 1, none⟩ = some q ∧ W.cell? ⟨b, 2, none⟩ = some x ∧ W.cell? ⟨b, 3, none⟩ = some y ∧ W.cell? ⟨c, 0, none⟩ = some u ∧ W.cell? ⟨c, 1, none⟩ = some v ∧ W.cell? ⟨c, 2, none⟩ = some m ∧ W.cell? ⟨c, 3, none⟩ = some n ∧ Held2 w W b c [p, q, x, y] [u, v, m, n] t s) : w1.cell? ⟨b, 0, none⟩ = some p ∧ w1.cell? ⟨b, 1, none⟩ = some q ∧ w1.cell? ⟨b, 2, none⟩ = some x ∧ w1.cell? ⟨b, 3, none⟩ = some y ∧ w1.cell? ⟨c, 0, none⟩ = some u ∧ w1.cell? ⟨c, 1, none⟩ = some v ∧ w1.cell? ⟨c, 2, none⟩ = some m ∧ w1.cell? ⟨c, 3, none⟩ = some n ∧ Held2 w w1 b c [p, q, x, y] [u, v, m, n] t s := (h.2.2.2.2.2.2.2.2.call hb).cells44
/-- Two blocks made behind each other, in either order. -/
theorem Held2.pair {w W : World} (us vs : List Value) (t s : TypeId) (h : Below w.heap.size w W) : Held2 w ((W.alloc (.cells us.toArray t)).alloc (.cells vs.toArray s)) W.heap.size (W.heap.size + 1) us vs t s :=
  ⟨(Blk.new W us t).alloc _, (Blk.new (W.alloc (.cells us.toArray t)) vs s).at (World.size_alloc _ _), (h.alloc h.size _).alloc (by have := h.size; simp; omega) _⟩
theorem Held2.pair2 {w W : World} (us vs : List Value) (t s : TypeId) (h : Below w.heap.size w W) : Held2 w ((W.alloc (.cells vs.toArray s)).alloc (.cells us.toArray t)) (W.heap.size + 1) W.heap.size us vs t s :=
  ⟨(Blk.new (W.alloc (.cells vs.toArray s)) us t).at (World.size_alloc _ _), (Blk.new W vs s).alloc _, (h.alloc h.size _).alloc (by have := h.size; simp; omega) _⟩
/-- Blocks held, behind work that left what was below alone: each by its number, its cells and its type. -/
structure Keep (w W : World) (L : List (Nat × List Value × TypeId)) : Prop where
  blks : ∀ e ∈ L, Blk W e.1 e.2.1 e.2.2
  old : Below w.heap.size w W
theorem Keep.call {w W w1 : World} {L : List (Nat × List Value × TypeId)} (hb : Below W.heap.size W w1) (h : Keep w W L) : Keep w w1 L := ⟨fun e he => (h.blks e he).below hb, below_call h.old hb⟩
theorem Keep.drew {w W : World} {L : List (Nat × List Value × TypeId)} (h : Keep w W L) : Keep w W.drew L := ⟨fun e he => h.blks e he, h.old.drew⟩
theorem Keep.alloc {w W : World} {L : List (Nat × List Value × TypeId)} (vs : List Value) (t : TypeId) (h : Keep w W L) : Keep w (W.alloc (.cells vs.toArray t)) ((W.heap.size, vs, t) :: L) :=
  ⟨fun e he => by
    rcases List.mem_cons.1 he with rfl | he
    · exact Blk.new W vs t
    · exact (h.blks e he).alloc _, h.old.alloc h.old.size _⟩
theorem Keep.alloc2 {w W : World} {L : List (Nat × List Value × TypeId)} (vs us : List Value) (t s : TypeId) (h : Keep w W L) : Keep w ((W.alloc (.cells vs.toArray t)).alloc (.cells us.toArray s)) ((W.heap.size + 1, us, s) :: (W.heap.size, vs, t) :: L) := by
  have := (h.alloc vs t).alloc us s
  rw [World.size_alloc] at this
  exact this
theorem Keep.other {w W : World} {L : List (Nat × List Value × TypeId)} (o : Obj) (h : Keep w W L) : Keep w (W.alloc o) L :=
  ⟨fun e he => (h.blks e he).alloc _, h.old.alloc h.old.size _⟩
theorem Keep.tail {w W : World} {L : List (Nat × List Value × TypeId)} {e : Nat × List Value × TypeId} (h : Keep w W (e :: L)) : Keep w W L := ⟨fun f hf => h.blks f (List.mem_cons_of_mem _ hf), h.old⟩
theorem Keep.nil (w : World) : Keep w w [] := ⟨fun e he => by simp at he, Below.refl _ _⟩
/-- What the walk asks of a block that is held. -/
theorem Blk.seen {W : World} {b : Nat} {vs : List Value} {t : TypeId} (h : Blk W b vs t) :
    (∀ i, W.cell? ⟨b, i, none⟩ = vs[i]?) ∧ (∀ i, W.frozen? ⟨b, i, none⟩ = false) ∧
    (∀ o i, (W.alloc o).cell? ⟨b, i, none⟩ = vs[i]?) ∧ (∀ o i, (W.alloc o).frozen? ⟨b, i, none⟩ = false) ∧
    (∀ o p i, ((W.alloc o).alloc p).cell? ⟨b, i, none⟩ = vs[i]?) ∧ (∀ o p i, ((W.alloc o).alloc p).frozen? ⟨b, i, none⟩ = false) ∧ W.heap.size ≠ b ∧ b ≠ W.heap.size :=
  ⟨h.cell, h.frozen, fun o => (h.alloc o).cell, fun o => (h.alloc o).frozen, fun o p => ((h.alloc o).alloc p).cell, fun o p => ((h.alloc o).alloc p).frozen, by have := h.lt; omega, by have := h.lt; omega⟩
/-- The same of two cells, one by one. -/
theorem Blk.seen2 {W : World} {b : Nat} {p q : Value} {t : TypeId} (h : Blk W b [p, q] t) :
    W.cell? ⟨b, 0, none⟩ = some p ∧ W.cell? ⟨b, 1, none⟩ = some q ∧ W.frozen? ⟨b, 0, none⟩ = false ∧ W.frozen? ⟨b, 1, none⟩ = false ∧
    (∀ o, (W.alloc o).cell? ⟨b, 0, none⟩ = some p) ∧ (∀ o, (W.alloc o).cell? ⟨b, 1, none⟩ = some q) ∧ (∀ o, (W.alloc o).frozen? ⟨b, 0, none⟩ = false) ∧ (∀ o, (W.alloc o).frozen? ⟨b, 1, none⟩ = false) ∧ W.heap.size ≠ b :=
  ⟨h.cell 0, h.cell 1, h.frozen 0, h.frozen 1, fun o => (h.alloc o).cell 0, fun o => (h.alloc o).cell 1, fun o => (h.alloc o).frozen 0, fun o => (h.alloc o).frozen 1, by have := h.lt; omega⟩
theorem Blk.seen4 {W : World} {b : Nat} {p q r s : Value} {t : TypeId} (h : Blk W b [p, q, r, s] t) :
    (W.cell? ⟨b, 0, none⟩ = some p ∧ W.cell? ⟨b, 1, none⟩ = some q ∧ W.cell? ⟨b, 2, none⟩ = some r ∧ W.cell? ⟨b, 3, none⟩ = some s) ∧ (∀ i, W.frozen? ⟨b, i, none⟩ = false) ∧
    ((∀ o, (W.alloc o).cell? ⟨b, 0, none⟩ = some p) ∧ (∀ o, (W.alloc o).cell? ⟨b, 1, none⟩ = some q) ∧ (∀ o, (W.alloc o).cell? ⟨b, 2, none⟩ = some r) ∧ (∀ o, (W.alloc o).cell? ⟨b, 3, none⟩ = some s)) ∧ (∀ o i, (W.alloc o).frozen? ⟨b, i, none⟩ = false) ∧ W.heap.size ≠ b :=
  ⟨⟨h.cell 0, h.cell 1, h.cell 2, h.cell 3⟩, h.frozen, ⟨fun o => (h.alloc o).cell 0, fun o => (h.alloc o).cell 1, fun o => (h.alloc o).cell 2, fun o => (h.alloc o).cell 3⟩, fun o => (h.alloc o).frozen, by have := h.lt; omega⟩
theorem Blk.ne {W : World} {b : Nat} {vs : List Value} {t : TypeId} (h : Blk W b vs t) : W.heap.size ≠ b ∧ b ≠ W.heap.size := by have := h.lt; omega
theorem Keep.one {w W : World} {b : Nat} {us : List Value} {t : TypeId} (h : Keep w W [(b, us, t)]) : Blk W b us t := h.blks (b, us, t) (by simp)
theorem Keep.two {w W : World} {b c : Nat} {us vs : List Value} {t s : TypeId} (h : Keep w W [(b, us, t), (c, vs, s)]) : Blk W b us t ∧ Blk W c vs s :=
  ⟨h.blks (b, us, t) (by simp), h.blks (c, vs, s) (by simp)⟩
theorem Keep.three {w W : World} {b c d : Nat} {us vs xs : List Value} {t s r : TypeId} (h : Keep w W [(b, us, t), (c, vs, s), (d, xs, r)]) : Blk W b us t ∧ Blk W c vs s ∧ Blk W d xs r :=
  ⟨h.blks (b, us, t) (by simp), h.blks (c, vs, s) (by simp), h.blks (d, xs, r) (by simp)⟩
theorem Keep.four {w W : World} {b c d e : Nat} {us vs xs ys : List Value} {t s r q : TypeId} (h : Keep w W [(b, us, t), (c, vs, s), (d, xs, r), (e, ys, q)]) : Blk W b us t ∧ Blk W c vs s ∧ Blk W d xs r ∧ Blk W e ys q :=
  ⟨h.blks (b, us, t) (by simp), h.blks (c, vs, s) (by simp), h.blks (d, xs, r) (by simp), h.blks (e, ys, q) (by simp)⟩
/-- The cells of two blocks that were there at W, behind work that left what was there alone; of one block. -/
theorem low4 {W w' : World} {b : Nat} {p q x y : Value} {t : TypeId} (hl : Blk W b [p, q, x, y] t) (h : Below W.heap.size W w') :
    w'.cell? ⟨b, 0, none⟩ = some p ∧ w'.cell? ⟨b, 1, none⟩ = some q ∧ w'.cell? ⟨b, 2, none⟩ = some x ∧ w'.cell? ⟨b, 3, none⟩ = some y :=
  ⟨(hl.below h).cell 0, (hl.below h).cell 1, (hl.below h).cell 2, (hl.below h).cell 3⟩
theorem low44 {W w' : World} {b c : Nat} {p q x y u v m n : Value} {t s : TypeId} (hl : Blk W b [p, q, x, y] t) (hr : Blk W c [u, v, m, n] s) (h : Below W.heap.size W w') :
    w'.cell? ⟨b, 0, none⟩ = some p ∧ w'.cell? ⟨b, 1, none⟩ = some q ∧ w'.cell? ⟨b, 2, none⟩ = some x ∧ w'.cell? ⟨b, 3, none⟩ = some y ∧ w'.cell? ⟨c, 0, none⟩ = some u ∧ w'.cell? ⟨c, 1, none⟩ = some v ∧ w'.cell? ⟨c, 2, none⟩ = some m ∧ w'.cell? ⟨c, 3, none⟩ = some n :=
  ⟨(hl.below h).cell 0, (hl.below h).cell 1, (hl.below h).cell 2, (hl.below h).cell 3, (hr.below h).cell 0, (hr.below h).cell 1, (hr.below h).cell 2, (hr.below h).cell 3⟩
theorem low22 {W w' : World} {b c : Nat} {p q u v : Value} {t s : TypeId} (hl : Blk W b [p, q] t) (hr : Blk W c [u, v] s) (h : Below W.heap.size W w') :
    w'.cell? ⟨b, 0, none⟩ = some p ∧ w'.cell? ⟨b, 1, none⟩ = some q ∧ w'.cell? ⟨c, 0, none⟩ = some u ∧ w'.cell? ⟨c, 1, none⟩ = some v ∧ Below W.heap.size W w' :=
  ⟨(hl.below h).cell 0, (hl.below h).cell 1, (hr.below h).cell 0, (hr.below h).cell 1, h⟩
theorem low42 {W w' : World} {b c : Nat} {p q x y u v : Value} {t s : TypeId} (hl : Blk W b [p, q, x, y] t) (hr : Blk W c [u, v] s) (h : Below W.heap.size W w') :
    w'.cell? ⟨b, 0, none⟩ = some p ∧ w'.cell? ⟨b, 1, none⟩ = some q ∧ w'.cell? ⟨b, 2, none⟩ = some x ∧ w'.cell? ⟨b, 3, none⟩ = some y ∧ w'.cell? ⟨c, 0, none⟩ = some u ∧ w'.cell? ⟨c, 1, none⟩ = some v ∧ Below W.heap.size W w' :=
  ⟨(hl.below h).cell 0, (hl.below h).cell 1, (hl.below h).cell 2, (hl.below h).cell 3, (hr.below h).cell 0, (hr.below h).cell 1, h⟩
theorem Blk.put2 {W : World} {b : Nat} {p q : Value} {t : TypeId} (h : Blk W b [p, q] t) (x y : Value) : Blk ((W.setCell ⟨b, 0, none⟩ x).setCell ⟨b, 1, none⟩ y) b [x, y] t := (h.set 0 x).set 1 y
theorem Blk.put4 {W : World} {b : Nat} {p q r s : Value} {t : TypeId} (h : Blk W b [p, q, r, s] t) (x y u v : Value) : Blk ((((W.setCell ⟨b, 0, none⟩ x).setCell ⟨b, 1, none⟩ y).setCell ⟨b, 2, none⟩ u).setCell ⟨b, 3, none⟩ v) b [x, y, u, v] t := (((h.set 0 x).set 1 y).set 2 u).set 3 v

end

section
open Go.RowKit

section
variable {P : Program} {W w w' : World} {b c : Nat} {us vs xs : List Value} {t s : TypeId}
theorem setRow_other (W : World) (b : Nat) (x : Array Value) {k : Nat} (ne : k ≠ b) : (W.setRow b x).heap[k]? = W.heap[k]? := by
  unfold World.setRow
  simp only [Array.getElem?_modify]
  rw [if_neg (fun e => ne e.symm)]
theorem setRow_size (W : World) (b : Nat) (x : Array Value) : (W.setRow b x).heap.size = W.heap.size := by
  unfold World.setRow
  exact Array.size_modify
theorem Blk.put (h : Blk W b us t) (vs : List Value) : Blk (W.setRow b vs.toArray) b vs t := setRow_heap W b _ _ _ _ h
theorem Blk.putFar (h : Blk W c us t) (x : Array Value) (ne : c ≠ b) : Blk (W.setRow b x) c us t := by
  unfold Blk at *
  rw [setRow_other W b x ne]
  exact h
theorem below_setRow {B : Nat} (h : Below B w W) (hb : B ≤ b) (x : Array Value) : Below B w (W.setRow b x) :=
  ⟨h.os, h.tape, h.output, by rw [setRow_size]; exact h.size, fun k hk => (setRow_other W b x (by omega)).trans (h.block k hk)⟩
theorem add_off (b n j : Nat) : (⟨b, n, none⟩ : Addr).add j = ⟨b, n + j, none⟩ := by unfold Addr.add; split <;> simp_all
theorem Blk.stores (h : Blk W b us t) (hl : vs.length = us.length) (h1 : ∀ v ∈ vs, v.oneCell' = true) :
    Sem.run P (storeCells ⟨b, 0, none⟩ vs 0) W = .ok () (W.setRow b vs.toArray) := by
  have := run_storeCells_from (P := P) b t vs 0 us.toArray W h (by simp [hl]) h1
  simpa using this
theorem Blk.loads (h : Blk W b us t) {k : Nat} (hl : us.length = k) : Sem.run P (loadCellsFrom ⟨b, 0, none⟩ 0 k #[]) W = .ok us.toArray W :=
  run_loadCellsFrom_list P W _ us k hl (fun j v hj => by rw [add_off, Nat.zero_add, h.cell j]; exact hj)
end

section
variable {P : Program} {rest : List Oper} {ops : Array Oper} {o : Oper} {a : Act} {w : World} {Q : Exit → Act → World → Prop}
theorem wpList_load_agg (hg : o.guard = none) (t : TypeId) (p : Operand) (ho : o.op = .load t p) (ad : Addr) (hp : a.eval p = .pointer (some ad)) {k : Nat} (agg : ∀ w, (isAgg t).run P w = .ok true w) (sz : ∀ w, (Go.sizeOf t).run P w = .ok k w) (vs : List Value)
    (hl : Sem.run P (loadCellsFrom ad 0 k #[]) w = .ok vs.toArray w) (h : wpList P ops Q rest (a.put o.dst (.agg vs.toArray)) w) : wpList P ops Q (o :: rest) a w :=
  wpList_plain hg fun K hK => by
    unfold Oper.wp execOp
    simp only [ho, Instr.loadAt, hp, Instr.sureAddr, loadVar, loadCells, Sem.run_bind, Sem.run_pure, Result.andThen_ok, agg, sz, hl, if_true]
    exact hK _ _ h
/-- .. where its guard holds. -/
theorem wpList_load_agg' (t : TypeId) (p : Operand) (ho : o.op = .load t p) (hw : Region.wanted o (yielded ops a.tmps) = true) (ad : Addr) (hp : a.eval p = .pointer (some ad)) {k : Nat} (agg : ∀ w, (isAgg t).run P w = .ok true w) (sz : ∀ w, (Go.sizeOf t).run P w = .ok k w) (vs : List Value)
    (hl : Sem.run P (loadCellsFrom ad 0 k #[]) w = .ok vs.toArray w) (h : wpList P ops Q rest (a.put o.dst (.agg vs.toArray)) w) : wpList P ops Q (o :: rest) a w :=
  wpList_step fun K hK => by
    rw [if_pos hw]
    unfold Oper.wp execOp
    simp only [ho, Instr.loadAt, hp, Instr.sureAddr, loadVar, loadCells, Sem.run_bind, Sem.run_pure, Result.andThen_ok, agg, sz, hl, if_true]
    exact hK _ _ h
theorem wpList_store_agg (hg : o.guard = none) (t : TypeId) (p x : Operand) (ho : o.op = .store t p x) (hd : o.dst = none) (b : Nat) (hp : a.eval p = .pointer (some ⟨b, 0, none⟩)) {k : Nat} (sz : ∀ w, (Go.sizeOf t).run P w = .ok k w) (vs : List Value) (hx : a.eval x = .agg vs.toArray) (hk : vs.length = k)
    {us : List Value} {s : TypeId} (hB : Blk w b us s) (hl : us.length = k) (h1 : ∀ v ∈ vs, v.oneCell' = true) (h : wpList P ops Q rest a (w.setRow b vs.toArray)) : wpList P ops Q (o :: rest) a w :=
  wpList_plain hg fun K hK => by
    have hst := hB.stores (P := P) (hk.trans hl.symm) h1
    unfold Oper.wp execOp
    simp only [ho, Instr.storeAt, hp, hx, Instr.sureAddr, storeVar, Value.cells, Sem.run_bind, Sem.run_pure, Result.andThen_ok, sz]
    simp [hk, hst, Result.andThen]
    refine hK _ _ ?_
    rw [hd]
    exact h
theorem wpList_alloc_agg (hg : o.guard = none) (t : TypeId) (ho : o.op = .alloc t) (d : Option Tmp) (hd : o.dst = d) (zs : List Value) (hz : ∀ w, (zeroValue t).run P w = .ok (.agg zs.toArray) w)
    (h : wpList P ops Q rest (a.put d (.pointer (some ⟨w.heap.size, 0, none⟩))) (w.alloc (.cells zs.toArray t))) : wpList P ops Q (o :: rest) a w :=
  wpList_plain hg fun K hK => by
    subst hd
    unfold Oper.wp execOp
    simp only [ho, Instr.alloc, newVar, newRow, Value.cells, Sem.run_bind, Sem.run_pure, Result.andThen_ok, hz]
    simp only [run_newObj, Result.andThen_ok]
    exact hK _ _ h
end

section
variable {P : Program} {rest : List Oper} {ops : Array Oper} {o : Oper} {a : Act} {w : World} {Q : Exit → Act → World → Prop}
theorem alloc_setRow (w : World) (us vs : List Value) (t : TypeId) : (w.alloc (.cells us.toArray t)).setRow w.heap.size vs.toArray = w.alloc (.cells vs.toArray t) := by
  unfold World.setRow World.alloc
  congr 1
  apply Array.ext
  · simp
  · intro k h1 h2
    simp only [Array.getElem_modify]
    by_cases e : w.heap.size = k
    · subst e
      simp
    · simp only [if_neg e]
      simp only [Array.size_push] at h2
      rw [Array.getElem_push_lt (show k < w.heap.size by omega), Array.getElem_push_lt (show k < w.heap.size by omega)]
/-- .. into the block just made. -/
theorem wpList_store_new (hg : o.guard = none) (t : TypeId) (p x : Operand) (ho : o.op = .store t p x) (hd : o.dst = none) {k : Nat} (sz : ∀ w, (Go.sizeOf t).run P w = .ok k w) (vs us : List Value) (s : TypeId) (hp : a.eval p = .pointer (some ⟨w.heap.size, 0, none⟩)) (hx : a.eval x = .agg vs.toArray) (hk : vs.length = k)
    (hl : us.length = k) (h1 : ∀ v ∈ vs, v.oneCell' = true) (h : wpList P ops Q rest a (w.alloc (.cells vs.toArray s))) : wpList P ops Q (o :: rest) a (w.alloc (.cells us.toArray s)) :=
  wpList_store_agg hg t p x ho hd w.heap.size hp sz vs hx hk (Blk.new w us s) hl h1 (by rw [alloc_setRow]; exact h)
/-- A struct's value 'T{}'. -/
theorem wpList_zero_agg (hg : o.guard = none) (t : TypeId) (ho : o.op = .build t #[]) (zs : List Value) (hz : ∀ w, Sem.run P (Instr.build t #[]) w = .ok (.agg zs.toArray) w)
    (h : wpList P ops Q rest (a.put o.dst (.agg zs.toArray)) w) : wpList P ops Q (o :: rest) a w :=
  wpList_plain hg fun K hK => by
    unfold Oper.wp execOp
    simp only [ho, Array.map_empty, Sem.run_bind, Sem.run_pure, Result.andThen_ok, hz]
    exact hK _ _ h
end

section
variable {P : Program} {w : World} {fn : Func} {tmps : Array Value}
/-- What a function hands back: a struct and a value; a struct. -/
theorem results_agg_two {c j : Nat} {t : TypeId} (hf : fn.results = #[.cell c t, .tmp j]) {b : Nat} (hp : tmps.getD c undef = .pointer (some ⟨b, 0, none⟩)) {x : Value} (hx : tmps.getD j undef = x) {k : Nat} (agg : ∀ w, (isAgg t).run P w = .ok true w) (sz : ∀ w, (Go.sizeOf t).run P w = .ok k w)
    {vs : List Value} {s : TypeId} (hB : Blk w b vs s) (hl : vs.length = k) : (results fn tmps).run P w = .ok (.tuple #[.agg vs.toArray, x]) w := by
  unfold results
  rw [hf]
  rw [Array.getD_eq_getD_getElem?] at hp hx
  simp [hp, hx, asAddr, loadVar, loadCells, agg, sz, hB.loads (P := P) hl, Result.andThen]
theorem results_agg_one {c : Nat} {t : TypeId} (hf : fn.results = #[.cell c t]) {b : Nat} (hp : tmps.getD c undef = .pointer (some ⟨b, 0, none⟩)) {k : Nat} (agg : ∀ w, (isAgg t).run P w = .ok true w) (sz : ∀ w, (Go.sizeOf t).run P w = .ok k w)
    {vs : List Value} {s : TypeId} (hB : Blk w b vs s) (hl : vs.length = k) : (results fn tmps).run P w = .ok (.agg vs.toArray) w := by
  unfold results
  rw [hf]
  rw [Array.getD_eq_getD_getElem?] at hp
  simp [hp, asAddr, loadVar, loadCells, agg, sz, hB.loads (P := P) hl, Result.andThen]
end

end

section
open Go.RowKit

section
variable {P : Program} {w : World} {e : TypeId} {k n m : Nat} {v u : Value} {xs ys : List Value} {B C : Nat}
theorem run_append_rows (t ty : TypeId) (i : TypeInfo) (z : Value) (size bytes : Nat) (ht : P.underlying t = some (.slice e)) (hi : P.info? e = some i) (hz : i.zero = some z)
    (hsize : i.size = size) (hby : i.bytes = bytes) (hzs : z.cells.size = size) (hsz : 0 < size) (hown : w.ownsRow B e size v n xs) (hu : w.ownsRow C e size u m ys) (h1 : ∀ y ∈ ys, y.oneCell' = true)
    (h63 : n + m ≤ maxLen) (hbytes : (n + m) * bytes ≤ 140737488355328) (hB : B ≤ w.heap.size) :
    ∃ v' w', (Builtin.append_ #[t, t] ty #[v, u]).run P w = .ok v' w' ∧ w'.ownsRow B e size v' (n + m) (xs ++ ys) ∧ w.grownBy w' v.ownBlock := by
  rcases id hu.2 with ⟨rfl, rfl⟩ | ⟨g, cap, cur, rfl, -, -, -, -, -, -⟩
  · have hy : ys = [] := List.eq_nil_of_length_eq_zero (by rw [hu.1, Nat.zero_mul])
    subst hy
    rcases id hown.2 with ⟨rfl, rfl⟩ | ⟨g, cap, cur, rfl, -, -, hle, -, -, -⟩
    · exact ⟨_, w, run_append_nothing w t t ty e i ht hi none 0 0 (Nat.le_refl _) _ (Src.ofNil w ht 0), by rw [List.append_nil]; exact hown, ⟨rfl, rfl, rfl, Nat.le_refl _, fun _ _ _ => rfl⟩⟩
    · exact ⟨_, w, run_append_nothing w t t ty e i ht hi _ n cap hle _ (Src.ofNil w ht 0), by rw [List.append_nil]; exact hown, ⟨rfl, rfl, rfl, Nat.le_refl _, fun _ _ _ => rfl⟩⟩
  · obtain ⟨v', w', h, ho, hg, -⟩ := run_append_own (P := P) w B t ty e i z size bytes ht hi hz hsize hby hzs hsz v n xs hown ⟨g, 0, none⟩ m cap ys hu.1 (hu.cells rfl) h1 h63 hbytes hB
    exact ⟨v', w', h, ho, hg⟩
/-- A row, behind an append to another one. -/
theorem own_kept {w' : World} {row : Option Nat} (h : w.ownsRow B e k v n xs) (hg : w.grownBy w' row) (hne : ∀ j, row = some j → j < B) : w'.ownsRow B e k v n xs :=
  h.kept hg (by
    cases ho : v.ownBlock with
    | none => exact .inl rfl
    | some j =>
      right
      intro e2
      have := (h.lt j ho).1
      have := hne j e2.symm
      omega)
end

/-- A row just made lies apart from those of before. -/
theorem own_apart {w w1 : World} {v u : Value} {B k n k2 m : Nat} {e e3 : TypeId} {xs ys : List Value} (h : w.ownsRow B e k v n xs) (h2 : w1.ownsRow (w.heap.size + 1) e3 k2 u m ys) : v.ownBlock = none ∨ v.ownBlock ≠ u.ownBlock := by
  cases ho : v.ownBlock with
  | none => exact .inl rfl
  | some j =>
    right
    intro e4
    have := (h.lt j ho).2
    have := (h2.lt j e4.symm).1
    omega
theorem own_apart' {w w1 : World} {v u : Value} {B k n k2 m : Nat} {e e3 : TypeId} {xs ys : List Value} (h : w.ownsRow B e k v n xs) (h2 : w1.ownsRow (w.heap.size + 1) e3 k2 u m ys) : u.ownBlock = none ∨ u.ownBlock ≠ v.ownBlock := by
  cases ho : u.ownBlock with
  | none => exact .inl rfl
  | some j =>
    right
    intro e4
    have := (h.lt j e4.symm).2
    have := (h2.lt j ho).1
    omega
section
variable {P : Program} {rest : List Oper} {ops : Array Oper} {o : Oper} {a : Act} {w : World} {Q : Exit → Act → World → Prop}
/-- An append, by its run. -/
theorem wpList_append_run (hg : o.guard = none) (s x : Operand) (t : TypeId) (ho : o.op = .call { callee := .builtin .append, args := #[s, x], argTypes := #[t, t] }) (v y v' : Value) (w' : World) (hs : a.eval s = v) (hx : a.eval x = y)
    (hrun : (Builtin.append_ #[t, t] o.type #[v, y]).run P w = .ok v' w') (h : wpList P ops Q rest (a.put o.dst v') w') : wpList P ops Q (o :: rest) a w :=
  wpList_plain hg fun K hK => by
    unfold Oper.wp execOp
    simp only [ho, resolve, invoke, builtin, Sem.run_bind, Sem.run_pure, Result.andThen_ok, List.map_toArray, List.map_cons, List.map_nil, hs, hx, hrun]
    exact hK _ _ h
end
section
variable {P : Program} {ops : Array Oper} {Q : Exit → Act → World → Prop}
/-- .. as one step of a region. -/
theorem step_app_run {o : Oper} {a : Act} {w w' : World} {K : Act → World → Prop} {E : Prop} (hg : o.guard = none) (s x : Operand) (t : TypeId) (hop : o.op = Op.call { callee := Callee.builtin Builtin.append, args := #[s, x], argTypes := #[t, t] })
    (v y v' : Value) (hs : a.eval s = v) (hx : a.eval x = y) (hrun : (Builtin.append_ #[t, t] o.type #[v, y]).run P w = .ok v' w') (hK : K (a.put o.dst v') w') :
    if Region.wanted o (yielded ops a.tmps) = true then Oper.wp P o a w K Q else E := by
  have hw : Region.wanted o (yielded ops a.tmps) = true := by simp [Region.wanted, hg]
  rw [if_pos hw]
  unfold Oper.wp
  simp [execOp, hop, resolve, invoke, builtin, hs, hx, hrun, Result.andThen]
  exact hK
end

end

end Go.Proofs.YtpgchjhfhndaaaaGreatDoor
