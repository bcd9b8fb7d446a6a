/-
  Rectangles, lists of them, and a place with a class among a law's arguments, opened.
-/
import Derived.Test.YtoodnblhjopnlaaDoorLiftT
import Derived.Test.YtoodnblhjopnlaaDoorOcG
namespace Go.Proofs.YtoodnblhjopnlaaDoor
open Go.ChangeShapes Go.WideShapes Go.ChangeAt Go.RowKit Go.Joins Go.Deep

theorem cells4O : Tryd.prog.cellsOf 33 = 4 := by kernel_rfl
section
variable {H : Type} {enc : TypeId × Value → H}
set_option maxRecDepth 100000 in
/-- Four cells that read as a rectangle. -/
theorem rec_cells {W : World} {base : Nat} {sp : Nat → Bool} {held : Bool} {m : Nat} {cs : List Value} {y : DataW H × List MemPlace} (h : DataW.trod enc Tryd.prog W base sp held m 33 cs = some y) :
    ∃ c : R4, cs = [.int .i64 c.x, .int .i64 c.y, .int .i64 c.w, .int .i64 c.h] ∧ I64 c.x ∧ I64 c.y ∧ I64 c.w ∧ I64 c.h := by
  obtain ⟨y0, y1, y2, y3, n, _, hl, h0, h1, h2, h3⟩ := trod_struct4 Tryd.underlying33 h
  rw [cells4O] at hl
  obtain ⟨u, v, w, x, rfl⟩ := list_4 cs hl
  have h0' : DataW.trod enc Tryd.prog W base sp held n 3 [u] = some y0 := by simpa [cells1] using h0
  have h1' : DataW.trod enc Tryd.prog W base sp held n 3 [v] = some y1 := by simpa [cells1] using h1
  have h2' : DataW.trod enc Tryd.prog W base sp held n 3 [w] = some y2 := by simpa [cells1] using h2
  have h3' : DataW.trod enc Tryd.prog W base sp held n 3 [x] = some y3 := by simpa [cells1] using h3
  obtain ⟨a, ea, ia⟩ := num_cell h0'
  obtain ⟨b, eb, ib⟩ := num_cell h1'
  obtain ⟨c, ec, ic⟩ := num_cell h2'
  obtain ⟨d, ed, id⟩ := num_cell h3'
  injection ea with ea
  injection eb with eb
  injection ec with ec
  injection ed with ed
  exact ⟨⟨a, b, c, d⟩, by rw [ea, eb, ec, ed], ia, ib, ic, id⟩
set_option maxRecDepth 100000 in
theorem open_rectO {W : World} {r : Reach} {b0 base : Nat} {sp : Nat → Bool} {held : Bool} {v : Value} {d : DataW H} {p : List MemPlace} (hv : Value.okWide Tryd.prog W r b0 33 v) (h : DataW.Trod enc Tryd.prog W base sp held 33 v d p) :
    ∃ c : R4, v = .agg #[.int .i64 c.x, .int .i64 c.y, .int .i64 c.w, .int .i64 c.h] := by
  obtain ⟨cs, rfl, hl⟩ := struct_agg Tryd.underlying33 hv
  rw [cells4O] at hl
  obtain ⟨u, x, y, z, e⟩ := list_4 cs.toList hl
  rw [agg_of e] at h ⊢
  obtain ⟨fuel, hf⟩ := h
  obtain ⟨c, ec, -⟩ := rec_cells hf
  simp [Value.cells] at ec
  obtain ⟨rfl, rfl, rfl, rfl⟩ := ec
  exact ⟨c, rfl⟩
set_option maxRecDepth 100000 in
theorem open_recs {W : World} {r : Reach} {b0 base : Nat} {sp : Nat → Bool} {held : Bool} {v : Value} {d : DataW H} {p : List MemPlace} (hv : Value.okWide Tryd.prog W r b0 25 v) (h : DataW.Trod enc Tryd.prog W base sp held 25 v d p) :
    ∃ l : List R4, RecsAt W v l := by
  obtain ⟨fuel, hf⟩ := h
  obtain ⟨s, hs⟩ : ∃ s, v.cells.toList = [s] ∧ v = s := by
    simp only [Value.okWide, Tryd.underlying25, Cell.okWide, Cell.ok] at hv
    split at hv <;> simp_all [Value.cells]
  obtain ⟨e1, rfl⟩ := hs
  rw [e1] at hf
  rcases open_slice Tryd.underlying25 hf with ⟨e, _⟩ | ⟨a, len, cap, m, n, D, Pl, e, _, hlc, hcm, hm, _, hx⟩
  · injection e with e
    subst e
    exact ⟨[], ⟨none, 0, rfl, Nat.zero_le _, fun h => by simp at h⟩⟩
  · injection e with e
    subst e
    rw [cells4O] at hx
    have hml : len ≤ m := by rw [hm]; split <;> omega
    haveI : Inhabited R4 := ⟨R4.zero⟩
    obtain ⟨V, hV⟩ := choose_lt (α := R4) (n := len) (p := fun i c => W.cell? (a.add (i * 4)) = some (.int .i64 c.x) ∧ W.cell? (a.add (i * 4 + 1)) = some (.int .i64 c.y) ∧ W.cell? (a.add (i * 4 + 2)) = some (.int .i64 c.w) ∧ W.cell? (a.add (i * 4 + 3)) = some (.int .i64 c.h)) (fun i hi => by
      obtain ⟨cs', h1, h2⟩ := hx i (by omega)
      obtain ⟨c, rfl, -⟩ := rec_cells h2
      obtain ⟨_, _, hg⟩ := World.cells?_some h1
      have g0 := hg 0 (by decide)
      have g1 := hg 1 (by decide)
      have g2 := hg 2 (by decide)
      have g3 := hg 3 (by decide)
      rw [add_add] at g0 g1 g2 g3
      exact ⟨c, g0, g1, g2, g3⟩)
    refine ⟨(List.range len).map V, ⟨some a, cap, by simp, by simp; omega, fun h1 => ?_⟩⟩
    have h0 : 0 < len := by simp at h1; omega
    obtain ⟨g, o, sp'⟩ := a
    have hs : sp' = none := by simpa [Addr.add] using World.cell?_spot (hV 0 h0).1
    subst hs
    have hadd : ∀ j, (⟨g, o, none⟩ : Addr).add j = ⟨g, o + j, none⟩ := fun j => by unfold Addr.add; split <;> simp_all
    have hg0 := (hV 0 h0).1
    rw [hadd] at hg0
    refine ⟨g, o, rfl, World.block_lt_of_cell? W _ hg0, fun i hi => ?_⟩
    have hi' : i < len := by simpa using hi
    obtain ⟨a0, a1, a2, a3⟩ := hV i hi'
    simp only [List.getElem_map, List.getElem_range]
    rw [hadd] at a0 a1 a2 a3
    exact ⟨a0, by rw [Nat.add_assoc]; exact a1, by rw [Nat.add_assoc]; exact a2, by rw [Nat.add_assoc]; exact a3⟩
end

end Go.Proofs.YtoodnblhjopnlaaDoor
