/-
  Rules among a law's arguments, opened: their numbers, the capacities of their lists, their bulk; what is asked of a field.
-/
import Derived.Test.YtnjcdmjaecgblaaGreatDoorZD00
namespace Go.Proofs.YtnjcdmjaecgblaaGreatDoor
section
open Go.ChangeShapes Go.WideShapes Go.ChangeAt Go.RowKit Go.Joins Go.Deep
section
variable {H : Type} {enc : TypeId × Value → H}
theorem cellsAsk : Tryz.prog.cellsOf 33 = 3 := by kernel_rfl
set_option maxRecDepth 100000 in
theorem open_ask {W : World} {r : Reach} {b0 base : Nat} {sp : Nat → Bool} {held : Bool} {v : Value} {d : DataW H} {p : List MemPlace} (hv : Value.okWide Tryz.prog W r b0 33 v) (h : DataW.Trod enc Tryz.prog W base sp held 33 v d p) :
 ∃ (k : Int) (a b : ByteArray), v = .agg #[.int .i64 k, .string a, .string b] := by
 obtain ⟨cs, rfl, hl0⟩ := okWide_struct Tryz.underlying33 hv
 have hl : cs.toList.length = 3 := by rw [← cellsAsk]; simpa using hl0
 obtain ⟨u, x, y, e⟩ := list_n3 cs.toList hl
 obtain rfl : cs = #[u, x, y] := by rw [← Array.toArray_toList (xs := cs), e]
 obtain ⟨fuel, hf⟩ := h
 obtain ⟨y0, y1, y2, n, hd, _, h0, h1, h2⟩ := trod_struct3 Tryz.underlying33 hf
 have h0' : DataW.trod enc Tryz.prog W base sp held n 3 [u] = some y0 := by simpa [cellI9, Value.cells] using h0
 have h1' : DataW.trod enc Tryz.prog W base sp held n 9 [x] = some y1 := by simpa [cellS9, Value.cells] using h1
 have h2' : DataW.trod enc Tryz.prog W base sp held n 9 [y] = some y2 := by simpa [cellS9, Value.cells] using h2
 obtain ⟨k, e0, _⟩ := num_cellU h0'
 obtain ⟨a, e1⟩ := str_cell h1'
 obtain ⟨b, e2⟩ := str_cell h2'
 injection e0 with e0
 injection e1 with e1
 injection e2 with e2
 subst e0 e1 e2
 exact ⟨k, a, b, rfl⟩
end
end

end Go.Proofs.YtnjcdmjaecgblaaGreatDoor
