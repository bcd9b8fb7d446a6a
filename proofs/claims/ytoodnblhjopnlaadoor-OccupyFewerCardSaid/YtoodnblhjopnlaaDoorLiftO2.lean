/-
  A list of rectangles among a law's arguments, opened with what bounds its capacity.
-/
import Derived.Test.YtoodnblhjopnlaaDoorLiftO
namespace Go.Proofs.YtoodnblhjopnlaaDoor
open Go.ChangeShapes Go.WideShapes Go.ChangeAt Go.RowKit Go.Joins Go.Deep
section
variable {H : Type} {enc : TypeId × Value → H}
theorem open_capsO {W : World} {r : Reach} {b0 base : Nat} {sp : Nat → Bool} {held : Bool} {v : Value} {d : DataW H} {p : List MemPlace} (hv : Value.okWide Tryd.prog W r b0 25 v) (h : DataW.Trod enc Tryd.prog W base sp held 25 v d p) :
    ∀ q n c, v = .slice q n c → n ≤ c ∧ c ≤ maxLen := by
  intro q n c hq
  subst hq
  obtain ⟨fuel, hf⟩ := h
  simp only [Value.cells] at hf
  rcases open_slice Tryd.underlying25 hf with ⟨e, _⟩ | ⟨a, len, cap, m, n', D, Pl, e, _, hlc, hcm, _⟩
  · simp at e
    obtain ⟨-, rfl, rfl⟩ := e
    exact ⟨Nat.le_refl _, Nat.zero_le _⟩
  · simp at e
    obtain ⟨-, rfl, rfl⟩ := e
    exact ⟨hlc, hcm⟩
theorem open_recsC {W : World} {r : Reach} {b0 base : Nat} {sp : Nat → Bool} {held : Bool} {v : Value} {d : DataW H} {p : List MemPlace} (hv : Value.okWide Tryd.prog W r b0 25 v) (h : DataW.Trod enc Tryd.prog W base sp held 25 v d p) :
    ∃ l : List R4, RecsAt W v l ∧ ∀ q n c, v = .slice q n c → n ≤ c ∧ c ≤ maxLen := by
  obtain ⟨l, hl⟩ := open_recs hv h
  exact ⟨l, hl, open_capsO hv h⟩
end

end Go.Proofs.YtoodnblhjopnlaaDoor
