/-
  Loads and stores of whole structs, as one step of a walk each: the cells as a list that no walk looks into. No program is named here.
-/
import Derived.Test.YtbdgpldhfemejaaDoorMem
import Derived.Laws.Tables
import Derived.Shelf.SlicesQ.Load
namespace Go.Proofs.YtbdgpldhfemejaaDoor
open Go.RowKit

section
variable {P : Program} {W w w' : World} {b c : Nat} {us vs xs : List Value} {t s : TypeId}
theorem setRow_other (W : World) (b : Nat) (x : Array Value) {k : Nat} (ne : k ≠ b) : (W.setRow b x).heap[k]? = W.heap[k]? := by
  unfold World.setRow
  simp only [Array.getElem?_modify]
  rw [if_neg (fun e => ne e.symm)]
theorem setRow_size (W : World) (b : Nat) (x : Array Value) : (W.setRow b x).heap.size = W.heap.size := by
  unfold World.setRow
  exact Array.size_modify
theorem Blk.put (h : Blk W b us t) (vs : List Value) : Blk (W.setRow b vs.toArray) b vs t := setRow_heap W b _ _ _ _ h
theorem Blk.putFar (h : Blk W c us t) (x : Array Value) (ne : c ≠ b) : Blk (W.setRow b x) c us t := by
  unfold Blk at *
  rw [setRow_other W b x ne]
  exact h
theorem below_setRow {B : Nat} (h : Below B w W) (hb : B ≤ b) (x : Array Value) : Below B w (W.setRow b x) :=
  ⟨h.os, h.tape, h.output, by rw [setRow_size]; exact h.size, fun k hk => (setRow_other W b x (by omega)).trans (h.block k hk)⟩
theorem add_off (b n j : Nat) : (⟨b, n, none⟩ : Addr).add j = ⟨b, n + j, none⟩ := by unfold Addr.add; split <;> simp_all
theorem Blk.stores (h : Blk W b us t) (hl : vs.length = us.length) (h1 : ∀ v ∈ vs, v.oneCell' = true) :
    Sem.run P (storeCells ⟨b, 0, none⟩ vs 0) W = .ok () (W.setRow b vs.toArray) := by
  have := run_storeCells_from (P := P) b t vs 0 us.toArray W h (by simp [hl]) h1
  simpa using this
theorem Blk.loads (h : Blk W b us t) {k : Nat} (hl : us.length = k) : Sem.run P (loadCellsFrom ⟨b, 0, none⟩ 0 k #[]) W = .ok us.toArray W :=
  run_loadCellsFrom_list P W _ us k hl (fun j v hj => by rw [add_off, Nat.zero_add, h.cell j]; exact hj)
end

section
variable {P : Program} {rest : List Oper} {ops : Array Oper} {o : Oper} {a : Act} {w : World} {Q : Exit → Act → World → Prop}
theorem wpList_load_agg (hg : o.guard = none) (t : TypeId) (p : Operand) (ho : o.op = .load t p) (ad : Addr) (hp : a.eval p = .pointer (some ad)) {k : Nat} (agg : ∀ w, (isAgg t).run P w = .ok true w) (sz : ∀ w, (Go.sizeOf t).run P w = .ok k w) (vs : List Value)
    (hl : Sem.run P (loadCellsFrom ad 0 k #[]) w = .ok vs.toArray w) (h : wpList P ops Q rest (a.put o.dst (.agg vs.toArray)) w) : wpList P ops Q (o :: rest) a w :=
  wpList_plain hg fun K hK => by
    unfold Oper.wp execOp
    simp only [ho, Instr.loadAt, hp, Instr.sureAddr, loadVar, loadCells, Sem.run_bind, Sem.run_pure, Result.andThen_ok, agg, sz, hl, if_true]
    exact hK _ _ h
/-- .. where its guard holds. -/
theorem wpList_load_agg' (t : TypeId) (p : Operand) (ho : o.op = .load t p) (hw : Region.wanted o (yielded ops a.tmps) = true) (ad : Addr) (hp : a.eval p = .pointer (some ad)) {k : Nat} (agg : ∀ w, (isAgg t).run P w = .ok true w) (sz : ∀ w, (Go.sizeOf t).run P w = .ok k w) (vs : List Value)
    (hl : Sem.run P (loadCellsFrom ad 0 k #[]) w = .ok vs.toArray w) (h : wpList P ops Q rest (a.put o.dst (.agg vs.toArray)) w) : wpList P ops Q (o :: rest) a w :=
  wpList_step fun K hK => by
    rw [if_pos hw]
    unfold Oper.wp execOp
    simp only [ho, Instr.loadAt, hp, Instr.sureAddr, loadVar, loadCells, Sem.run_bind, Sem.run_pure, Result.andThen_ok, agg, sz, hl, if_true]
    exact hK _ _ h
theorem wpList_store_agg (hg : o.guard = none) (t : TypeId) (p x : Operand) (ho : o.op = .store t p x) (hd : o.dst = none) (b : Nat) (hp : a.eval p = .pointer (some ⟨b, 0, none⟩)) {k : Nat} (sz : ∀ w, (Go.sizeOf t).run P w = .ok k w) (vs : List Value) (hx : a.eval x = .agg vs.toArray) (hk : vs.length = k)
    {us : List Value} {s : TypeId} (hB : Blk w b us s) (hl : us.length = k) (h1 : ∀ v ∈ vs, v.oneCell' = true) (h : wpList P ops Q rest a (w.setRow b vs.toArray)) : wpList P ops Q (o :: rest) a w :=
  wpList_plain hg fun K hK => by
    have hst := hB.stores (P := P) (hk.trans hl.symm) h1
    unfold Oper.wp execOp
    simp only [ho, Instr.storeAt, hp, hx, Instr.sureAddr, storeVar, Value.cells, Sem.run_bind, Sem.run_pure, Result.andThen_ok, sz]
    simp [hk, hst, Result.andThen]
    refine hK _ _ ?_
    rw [hd]
    exact h
theorem wpList_alloc_agg (hg : o.guard = none) (t : TypeId) (ho : o.op = .alloc t) (d : Option Tmp) (hd : o.dst = d) (zs : List Value) (hz : ∀ w, (zeroValue t).run P w = .ok (.agg zs.toArray) w)
    (h : wpList P ops Q rest (a.put d (.pointer (some ⟨w.heap.size, 0, none⟩))) (w.alloc (.cells zs.toArray t))) : wpList P ops Q (o :: rest) a w :=
  wpList_plain hg fun K hK => by
    subst hd
    unfold Oper.wp execOp
    simp only [ho, Instr.alloc, newVar, newRow, Value.cells, Sem.run_bind, Sem.run_pure, Result.andThen_ok, hz]
    simp only [run_newObj, Result.andThen_ok]
    exact hK _ _ h
end

section
variable {P : Program} {rest : List Oper} {ops : Array Oper} {o : Oper} {a : Act} {w : World} {Q : Exit → Act → World → Prop}
theorem alloc_setRow (w : World) (us vs : List Value) (t : TypeId) : (w.alloc (.cells us.toArray t)).setRow w.heap.size vs.toArray = w.alloc (.cells vs.toArray t) := by
  unfold World.setRow World.alloc
  congr 1
  apply Array.ext
  · simp
  · intro k h1 h2
    simp only [Array.getElem_modify]
    by_cases e : w.heap.size = k
    · subst e
      simp
    · simp only [if_neg e]
      simp only [Array.size_push] at h2
      rw [Array.getElem_push_lt (show k < w.heap.size by omega), Array.getElem_push_lt (show k < w.heap.size by omega)]
/-- .. into the block just made. -/
theorem wpList_store_new (hg : o.guard = none) (t : TypeId) (p x : Operand) (ho : o.op = .store t p x) (hd : o.dst = none) {k : Nat} (sz : ∀ w, (Go.sizeOf t).run P w = .ok k w) (vs us : List Value) (s : TypeId) (hp : a.eval p = .pointer (some ⟨w.heap.size, 0, none⟩)) (hx : a.eval x = .agg vs.toArray) (hk : vs.length = k)
    (hl : us.length = k) (h1 : ∀ v ∈ vs, v.oneCell' = true) (h : wpList P ops Q rest a (w.alloc (.cells vs.toArray s))) : wpList P ops Q (o :: rest) a (w.alloc (.cells us.toArray s)) :=
  wpList_store_agg hg t p x ho hd w.heap.size hp sz vs hx hk (Blk.new w us s) hl h1 (by rw [alloc_setRow]; exact h)
/-- A struct's value 'T{}'. -/
theorem wpList_zero_agg (hg : o.guard = none) (t : TypeId) (ho : o.op = .build t #[]) (zs : List Value) (hz : ∀ w, Sem.run P (Instr.build t #[]) w = .ok (.agg zs.toArray) w)
    (h : wpList P ops Q rest (a.put o.dst (.agg zs.toArray)) w) : wpList P ops Q (o :: rest) a w :=
  wpList_plain hg fun K hK => by
    unfold Oper.wp execOp
    simp only [ho, Array.map_empty, Sem.run_bind, Sem.run_pure, Result.andThen_ok, hz]
    exact hK _ _ h
end

section
variable {P : Program} {w : World} {fn : Func} {tmps : Array Value}
/-- What a function hands back: a struct and a value; a struct. -/
theorem results_agg_two {c j : Nat} {t : TypeId} (hf : fn.results = #[.cell c t, .tmp j]) {b : Nat} (hp : tmps.getD c undef = .pointer (some ⟨b, 0, none⟩)) {x : Value} (hx : tmps.getD j undef = x) {k : Nat} (agg : ∀ w, (isAgg t).run P w = .ok true w) (sz : ∀ w, (Go.sizeOf t).run P w = .ok k w)
    {vs : List Value} {s : TypeId} (hB : Blk w b vs s) (hl : vs.length = k) : (results fn tmps).run P w = .ok (.tuple #[.agg vs.toArray, x]) w := by
  unfold results
  rw [hf]
  rw [Array.getD_eq_getD_getElem?] at hp hx
  simp [hp, hx, asAddr, loadVar, loadCells, agg, sz, hB.loads (P := P) hl, Result.andThen]
theorem results_agg_one {c : Nat} {t : TypeId} (hf : fn.results = #[.cell c t]) {b : Nat} (hp : tmps.getD c undef = .pointer (some ⟨b, 0, none⟩)) {k : Nat} (agg : ∀ w, (isAgg t).run P w = .ok true w) (sz : ∀ w, (Go.sizeOf t).run P w = .ok k w)
    {vs : List Value} {s : TypeId} (hB : Blk w b vs s) (hl : vs.length = k) : (results fn tmps).run P w = .ok (.agg vs.toArray) w := by
  unfold results
  rw [hf]
  rw [Array.getD_eq_getD_getElem?] at hp
  simp [hp, asAddr, loadVar, loadCells, agg, sz, hB.loads (P := P) hl, Result.andThen]
end

end Go.Proofs.YtbdgpldhfemejaaDoor
