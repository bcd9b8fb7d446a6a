/-
  What the reference of terrain answers: steps.
-/
import Derived.Test.YtlcbkeieejmmbaaDoorTerRefA
namespace Go.Proofs.YtlcbkeieejmmbaaDoor

section
open Go.RowKit Go.Lib

/-- A slice of bools that can be read. -/
def BitsAt (W : World) (s : Value) (bl : List Bool) : Prop :=
  ∃ p c, s = .slice p bl.length c ∧ bl.length ≤ maxLen ∧ (1 ≤ bl.length → ∃ g o, p = some ⟨g, o, none⟩ ∧ ∀ i, (h : i < bl.length) → W.cell? ⟨g, o + i, none⟩ = some (.bool (bl[i]'h)))
theorem BitsAt.below {W w' : World} {s : Value} {bl : List Bool} (h : BitsAt W s bl) (hb : Below W.heap.size W w') : BitsAt w' s bl := by
  obtain ⟨p, c, rfl, hm, hc⟩ := h
  refine ⟨p, c, rfl, hm, fun h1 => ?_⟩
  obtain ⟨g, o, rfl, hi⟩ := hc h1
  refine ⟨g, o, rfl, fun i hi' => ?_⟩
  have a := hi i hi'
  exact (hb.cell (p := ⟨g, o + i, none⟩) (World.block_lt_of_cell? W _ a)).trans a
theorem pass_inside {m : M3} {c x y : Int} (h : passv m c x y = true) : insidev m x y = true := by
  cases hi : insidev m x y with
  | true => rfl
  | false => unfold passv at h; rw [hi] at h; simp at h

end

section
open Go.RowKit Go.Lib

/-- The heights of a map are numbers of 64 bits. -/
def HighAt (m : M3) : Prop := ∀ c ∈ m.cs, I64 c.h
theorem HighAt.get {m : M3} (h : HighAt m) (x y : Int) : I64 (getv m x y).h := by
  unfold getv
  split
  · next hi =>
    obtain ⟨n, hn, _, e⟩ := get_at hi
    unfold getv at e
    rw [if_pos hi] at e
    rw [e]
    exact h _ (List.getElem_mem hn)
  · exact ⟨by decide, by decide⟩

end

end Go.Proofs.YtlcbkeieejmmbaaDoor
