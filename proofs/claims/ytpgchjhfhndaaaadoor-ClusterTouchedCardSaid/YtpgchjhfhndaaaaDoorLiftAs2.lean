/-
  A list of positions among a law's arguments, opened.
-/
import Derived.Test.YtpgchjhfhndaaaaDoorLiftT
import Derived.Test.YtpgchjhfhndaaaaDoorAsLandR
namespace Go.Proofs.YtpgchjhfhndaaaaDoor
open Go.ChangeShapes Go.WideShapes Go.ChangeAt Go.RowKit Go.Joins Go.Deep

section
variable {H : Type} {enc : TypeId × Value → H}
set_option maxRecDepth 100000 in
theorem open_poss {W : World} {r : Reach} {b0 base : Nat} {sp : Nat → Bool} {held : Bool} {v : Value} {d : DataW H} {p : List MemPlace} (hv : Value.okWide Tryd.prog W r b0 43 v) (h : DataW.Trod enc Tryd.prog W base sp held 43 v d p) :
    ∃ l : List Pt, PsAt W v l := by
  obtain ⟨fuel, hf⟩ := h
  obtain ⟨s, hs⟩ : ∃ s, v.cells.toList = [s] ∧ v = s := by
    simp only [Value.okWide, Tryd.underlying43, Cell.okWide, Cell.ok] at hv
    split at hv <;> simp_all [Value.cells]
  obtain ⟨e1, rfl⟩ := hs
  rw [e1] at hf
  rcases open_slice Tryd.underlying43 hf with ⟨e, _⟩ | ⟨a, len, cap, m, n, D, Pl, e, _, hlc, hcm, hm, _, hx⟩
  · injection e with e
    subst e
    exact ⟨[], ⟨none, 0, rfl, Nat.zero_le _, Nat.zero_le _, fun h => by simp at h⟩⟩
  · injection e with e
    subst e
    rw [cells2] at hx
    have hml : len ≤ m := by rw [hm]; split <;> omega
    obtain ⟨V, hV⟩ := choose_lt (α := Pt) (n := len) (p := fun i c => W.cell? (a.add (i * 2)) = some (.int .i64 c.1) ∧ W.cell? (a.add (i * 2 + 1)) = some (.int .i64 c.2)) (fun i hi => by
      obtain ⟨cs', h1, h2⟩ := hx i (by omega)
      obtain ⟨x, y, rfl, -⟩ := pos_cells h2
      obtain ⟨_, _, hg⟩ := World.cells?_some h1
      have g0 := hg 0 (by decide)
      have g1 := hg 1 (by decide)
      rw [add_add] at g0 g1
      exact ⟨(x, y), g0, g1⟩)
    refine ⟨(List.range len).map V, ⟨some a, cap, by simp, by simp; omega, by simp; omega, fun h1 => ?_⟩⟩
    have h0 : 0 < len := by simp at h1; omega
    obtain ⟨g, o, sp'⟩ := a
    have hs : sp' = none := by simpa [Addr.add] using World.cell?_spot (hV 0 h0).1
    subst hs
    have hadd : ∀ j, (⟨g, o, none⟩ : Addr).add j = ⟨g, o + j, none⟩ := fun j => by unfold Addr.add; split <;> simp_all
    have hg0 := (hV 0 h0).1
    rw [hadd] at hg0
    refine ⟨g, o, rfl, World.block_lt_of_cell? W _ hg0, fun i hi => ?_⟩
    have hi' : i < len := by simpa using hi
    obtain ⟨a0, a1⟩ := hV i hi'
    simp only [List.getElem_map, List.getElem_range]
    rw [hadd] at a0 a1
    exact ⟨a0, by rw [Nat.add_assoc]; exact a1⟩
end

end Go.Proofs.YtpgchjhfhndaaaaDoor
