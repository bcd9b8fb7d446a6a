/-
  A place with a class among a law's arguments, opened.
-/
import Derived.Test.YtoodnblhjopnlaaDoorLiftO
namespace Go.Proofs.YtoodnblhjopnlaaDoor
open Go.ChangeShapes Go.WideShapes Go.ChangeAt Go.RowKit Go.Joins Go.Deep

theorem cells3O : Tryd.prog.cellsOf 44 = 3 := by kernel_rfl
section
variable {H : Type} {enc : TypeId × Value → H}
set_option maxRecDepth 100000 in
theorem open_fromO {W : World} {r : Reach} {b0 base : Nat} {sp : Nat → Bool} {held : Bool} {v : Value} {d : DataW H} {p : List MemPlace} (hv : Value.okWide Tryd.prog W r b0 44 v) (h : DataW.Trod enc Tryd.prog W base sp held 44 v d p) :
    ∃ (q : Int) (f : Int × Int), v = .agg #[.int .i64 q, .int .i64 f.1, .int .i64 f.2] := by
  obtain ⟨cs, rfl, hl⟩ := struct_agg Tryd.underlying44 hv
  rw [cells3O] at hl
  obtain ⟨u, y, z, e⟩ := list_3 cs.toList hl
  rw [agg_of e] at h ⊢
  obtain ⟨fuel, hf⟩ := h
  obtain ⟨y0, y2, n, _, _, h0, h2⟩ := trod_struct2 Tryd.underlying44 hf
  have h0' : DataW.trod enc Tryd.prog W base sp held n 3 [u] = some y0 := by simpa [cells1, Value.cells] using h0
  obtain ⟨a, ea, -⟩ := num_cell h0'
  have h2' : DataW.trod enc Tryd.prog W base sp held n 42 [y, z] = some y2 := by simpa [cells2, Value.cells] using h2
  obtain ⟨c, g, ec, -, -⟩ := pos_cells h2'
  simp at ea ec
  obtain ⟨rfl, rfl⟩ := ec
  subst ea
  exact ⟨a, (c, g), rfl⟩
end

end Go.Proofs.YtoodnblhjopnlaaDoor
