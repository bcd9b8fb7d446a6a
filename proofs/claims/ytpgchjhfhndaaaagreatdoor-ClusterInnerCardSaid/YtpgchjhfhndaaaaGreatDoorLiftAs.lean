/-
  A case of astar's laws among a law's arguments, opened: a map, what is blocked, a class, three cells.
-/
import Derived.Test.YtpgchjhfhndaaaaGreatDoorLiftT
namespace Go.Proofs.YtpgchjhfhndaaaaGreatDoor
open Go.ChangeShapes Go.WideShapes Go.ChangeAt Go.RowKit Go.Joins Go.Deep

theorem cellsBitsA : Tryz.prog.cellsOf 25 = 1 := by kernel_rfl
theorem list_11 {α : Type} (l : List α) (h : l.length = 11) : ∃ a b c d e f g i j k m, l = [a, b, c, d, e, f, g, i, j, k, m] := by
  match l, h with
  | [a, b, c, d, e, f, g, i, j, k, m], _ => exact ⟨a, b, c, d, e, f, g, i, j, k, m, rfl⟩
section
variable {H : Type} {enc : TypeId × Value → H}
set_option maxRecDepth 100000 in
theorem map_cellsA {W : World} {base : Nat} {sp : Nat → Bool} {held : Bool} {m : Nat} {cs : List Value} {y : DataW H × List MemPlace} (hf : DataW.trod enc Tryz.prog W base sp held m 24 cs = some y) :
    ∃ (m : M3) (s : Value), cs = [.int .i64 m.w, .int .i64 m.h, s] ∧ RowAt W s m.cs ∧ MapNum m := by
  obtain ⟨y0, y1, y2, n, _, hl, h0, h1, h2⟩ := trod_struct3 Tryz.underlying24 hf
  rw [cellsM] at hl
  obtain ⟨u, x, y, rfl⟩ := list_3 cs hl
  have h0' : DataW.trod enc Tryz.prog W base sp held n 3 [u] = some y0 := by simpa [cells1, Value.cells] using h0
  have h1' : DataW.trod enc Tryz.prog W base sp held n 3 [x] = some y1 := by simpa [cells1, Value.cells] using h1
  obtain ⟨a, ea, ia⟩ := num_cell h0'
  obtain ⟨b, eb, ib⟩ := num_cell h1'
  have h2' : DataW.trod enc Tryz.prog W base sp held n 22 [y] = some y2 := by simpa [cellsS, Value.cells] using h2
  obtain ⟨s, l, es, hr, hn⟩ := cells_row h2'
  injection ea with ea
  injection eb with eb
  injection es with es
  subst ea eb es
  exact ⟨⟨a, b, l⟩, y, rfl, hr, ⟨ia, ib, hn⟩⟩
theorem bits_row {W : World} {base : Nat} {sp : Nat → Bool} {held : Bool} {m : Nat} {v : Value} {y : DataW H × List MemPlace} (hf : DataW.trod enc Tryz.prog W base sp held m 25 [v] = some y) :
    ∃ bl : List Bool, BitsAt W v bl := by
  rcases open_slice1 Tryz.underlying25 cellsB hf with ⟨e, _⟩ | ⟨a, len, cap, m, n, V, D, Pl, e, _, hlc, hcm, hm, _, hx⟩
  · injection e with e
    subst e
    exact ⟨[], ⟨none, 0, rfl, Nat.zero_le _, fun h => by simp at h⟩⟩
  · injection e with e
    subst e
    have hml : len ≤ m := by rw [hm]; split <;> omega
    obtain ⟨F, hF⟩ := choose_lt (α := Bool) (n := len) (p := fun i c => W.cell? (a.add i) = some (.bool c)) (fun i hi => by
      obtain ⟨h1, h2⟩ := hx i (by omega)
      obtain ⟨b, eb, _⟩ := DataW.trod_bool Tryz.underlying4 h2
      injection eb with eb
      exact ⟨b, by rw [h1, eb]⟩)
    refine ⟨(List.range len).map F, ⟨some a, cap, by simp, by simp; omega, fun h1 => ?_⟩⟩
    have h0 : 0 < len := by simp at h1; omega
    obtain ⟨g, o, sp'⟩ := a
    have hs : sp' = none := by simpa [Addr.add] using World.cell?_spot (hF 0 h0)
    subst hs
    refine ⟨g, o, rfl, fun i hi => ?_⟩
    have hi' : i < len := by simpa using hi
    have a0 := hF i hi'
    simp only [List.getElem_map, List.getElem_range]
    rwa [show (⟨g, o, none⟩ : Addr).add i = ⟨g, o + i, none⟩ by unfold Addr.add; split <;> simp_all] at a0
end

end Go.Proofs.YtpgchjhfhndaaaaGreatDoor
