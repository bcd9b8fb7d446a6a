/-
  A field of layer 15's laws (a map, what is blocked, a class) and an array of two cells among a law's arguments, opened.
-/
import Derived.Test.YtpgchjhfhndaaaaGreatDoorLiftT
import Derived.Test.YtpgchjhfhndaaaaGreatDoorLiftAs
import Derived.Test.YtpgchjhfhndaaaaGreatDoorAsLandR
namespace Go.Proofs.YtpgchjhfhndaaaaGreatDoor
open Go.ChangeShapes Go.WideShapes Go.ChangeAt Go.RowKit Go.Joins Go.Deep

theorem cellsFld15 : Tryz.prog.cellsOf 27 = 5 := by kernel_rfl
theorem list_5f {α : Type} (l : List α) (h : l.length = 5) : ∃ a b c d e, l = [a, b, c, d, e] := by
  match l, h with
  | [a, b, c, d, e], _ => exact ⟨a, b, c, d, e, rfl⟩
section
variable {H : Type} {enc : TypeId × Value → H}
set_option maxRecDepth 100000 in
theorem open_fld15 {W : World} {r : Reach} {b0 base : Nat} {sp : Nat → Bool} {held : Bool} {v : Value} {d : DataW H} {p : List MemPlace} (hv : Value.okWide Tryz.prog W r b0 27 v) (h : DataW.Trod enc Tryz.prog W base sp held 27 v d p) :
    ∃ (m : M3) (s : Value) (bl : List Bool) (l : Value) (c : Int), v = .agg #[.int .i64 m.w, .int .i64 m.h, s, l, .int .i64 c] ∧ RowAt W s m.cs ∧ MapNum m ∧ BitsAt W l bl := by
  obtain ⟨cs, rfl, hl⟩ := struct_agg Tryz.underlying27 hv
  rw [cellsFld15] at hl
  obtain ⟨v0, v1, v2, v3, v4, e⟩ := list_5f cs.toList hl
  rw [agg_of e] at h ⊢
  obtain ⟨fuel, hf⟩ := h
  obtain ⟨xs, n, _, _, _, hlen, hx⟩ := DataW.trod_struct Tryz.underlying27 hf
  match xs, hlen with
  | [y0, y1, y2], _ =>
    have h0 := hx 0 _ rfl
    have h1 := hx 1 _ rfl
    have h2 := hx 2 _ rfl
    have g0 : DataW.trod enc Tryz.prog W base sp held n 24 [v0, v1, v2] = some y0 := by simpa [cellsM, Value.cells] using h0
    have g1 : DataW.trod enc Tryz.prog W base sp held n 25 [v3] = some y1 := by simpa [cellsM, cellsBitsA, Value.cells] using h1
    have g2 : DataW.trod enc Tryz.prog W base sp held n 3 [v4] = some y2 := by simpa [cellsM, cellsBitsA, cells1, Value.cells] using h2
    obtain ⟨m, s, em, hr, hn⟩ := map_cellsA g0
    obtain ⟨bl, hb⟩ := bits_row g1
    obtain ⟨c, ec, -⟩ := num_cell g2
    simp at em ec
    obtain ⟨rfl, rfl, rfl⟩ := em
    subst ec
    exact ⟨m, v2, bl, v3, c, rfl, hr, hn, hb⟩
theorem cellsTwo15 : Tryz.prog.cellsOf 30 = 4 := by kernel_rfl
theorem list_4f {α : Type} (l : List α) (h : l.length = 4) : ∃ a b c d, l = [a, b, c, d] := by
  match l, h with
  | [a, b, c, d], _ => exact ⟨a, b, c, d, rfl⟩
theorem list_2f {α : Type} (l : List α) (h : l.length = 2) : ∃ a b, l = [a, b] := by
  match l, h with
  | [a, b], _ => exact ⟨a, b, rfl⟩
set_option maxRecDepth 100000 in
theorem open_two15 {W : World} {r : Reach} {b0 : Nat} {base : Nat} {sp : Nat → Bool} {held : Bool} {v : Value} {d : DataW H} {p : List MemPlace} (hv : Value.okWide Tryz.prog W r b0 30 v) (h : DataW.Trod enc Tryz.prog W base sp held 30 v d p) :
    ∃ a b : Int × Int, v = .agg #[.int .i64 a.1, .int .i64 a.2, .int .i64 b.1, .int .i64 b.2] := by
  have hu : Tryz.prog.underlying 30 = some (.array 2 29) := Tryz.underlying30
  obtain ⟨cs, rfl, hs⟩ : ∃ cs : Array Value, v = .agg cs ∧ cs.size = Tryz.prog.cellsOf 30 := by
    simp only [Value.okWide, hu] at hv
    obtain ⟨cs, h1, h2, _⟩ := hv
    exact ⟨cs, h1, h2⟩
  rw [cellsTwo15] at hs
  obtain ⟨u0, u1, u2, u3, hl⟩ := list_4f cs.toList (by simpa using hs)
  rw [agg_of hl] at h ⊢
  obtain ⟨fuel, hf⟩ := h
  obtain ⟨xs, m, _, hx, _, hn, ha⟩ := DataW.trod_array hu hf
  obtain ⟨y0, y1, rfl⟩ := list_2f xs hn
  have h0 := ha 0 (by decide)
  have h1 := ha 1 (by decide)
  rw [cells2] at h0 h1
  have h0' : DataW.trod enc Tryz.prog W base sp held m 29 [u0, u1] = some y0 := h0
  have h1' : DataW.trod enc Tryz.prog W base sp held m 29 [u2, u3] = some y1 := h1
  obtain ⟨x1, x2, ex, -⟩ := pos_cells h0'
  obtain ⟨z1, z2, ez, -⟩ := pos_cells h1'
  simp at ex ez
  obtain ⟨rfl, rfl⟩ := ex
  obtain ⟨rfl, rfl⟩ := ez
  exact ⟨(x1, x2), (z1, z2), rfl⟩
end

end Go.Proofs.YtpgchjhfhndaaaaGreatDoor
