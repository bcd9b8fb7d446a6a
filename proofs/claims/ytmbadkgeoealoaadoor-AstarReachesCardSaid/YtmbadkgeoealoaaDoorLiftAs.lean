/-
  A case of astar's laws among a law's arguments, opened: a map, what is blocked, a class, three cells.
-/
import Derived.Test.YtmbadkgeoealoaaDoorLiftT
namespace Go.Proofs.YtmbadkgeoealoaaDoor
open Go.ChangeShapes Go.WideShapes Go.ChangeAt Go.RowKit Go.Joins Go.Deep

theorem cellsCaseA : Tryd.prog.cellsOf 29 = 11 := by kernel_rfl
theorem cellsBitsA : Tryd.prog.cellsOf 25 = 1 := by kernel_rfl
theorem list_11 {α : Type} (l : List α) (h : l.length = 11) : ∃ a b c d e f g i j k m, l = [a, b, c, d, e, f, g, i, j, k, m] := by
  match l, h with
  | [a, b, c, d, e, f, g, i, j, k, m], _ => exact ⟨a, b, c, d, e, f, g, i, j, k, m, rfl⟩
section
variable {H : Type} {enc : TypeId × Value → H}
set_option maxRecDepth 100000 in
theorem map_cellsA {W : World} {base : Nat} {sp : Nat → Bool} {held : Bool} {m : Nat} {cs : List Value} {y : DataW H × List MemPlace} (hf : DataW.trod enc Tryd.prog W base sp held m 24 cs = some y) :
    ∃ (m : M3) (s : Value), cs = [.int .i64 m.w, .int .i64 m.h, s] ∧ RowAt W s m.cs ∧ MapNum m := by
  obtain ⟨y0, y1, y2, n, _, hl, h0, h1, h2⟩ := trod_struct3 Tryd.underlying24 hf
  rw [cellsM] at hl
  obtain ⟨u, x, y, rfl⟩ := list_3 cs hl
  have h0' : DataW.trod enc Tryd.prog W base sp held n 3 [u] = some y0 := by simpa [cells1, Value.cells] using h0
  have h1' : DataW.trod enc Tryd.prog W base sp held n 3 [x] = some y1 := by simpa [cells1, Value.cells] using h1
  obtain ⟨a, ea, ia⟩ := num_cell h0'
  obtain ⟨b, eb, ib⟩ := num_cell h1'
  have h2' : DataW.trod enc Tryd.prog W base sp held n 22 [y] = some y2 := by simpa [cellsS, Value.cells] using h2
  obtain ⟨s, l, es, hr, hn⟩ := cells_row h2'
  injection ea with ea
  injection eb with eb
  injection es with es
  subst ea eb es
  exact ⟨⟨a, b, l⟩, y, rfl, hr, ⟨ia, ib, hn⟩⟩
theorem bits_row {W : World} {base : Nat} {sp : Nat → Bool} {held : Bool} {m : Nat} {v : Value} {y : DataW H × List MemPlace} (hf : DataW.trod enc Tryd.prog W base sp held m 25 [v] = some y) :
    ∃ bl : List Bool, BitsAt W v bl := by
  rcases open_slice1 Tryd.underlying25 cellsB hf with ⟨e, _⟩ | ⟨a, len, cap, m, n, V, D, Pl, e, _, hlc, hcm, hm, _, hx⟩
  · injection e with e
    subst e
    exact ⟨[], ⟨none, 0, rfl, Nat.zero_le _, fun h => by simp at h⟩⟩
  · injection e with e
    subst e
    have hml : len ≤ m := by rw [hm]; split <;> omega
    obtain ⟨F, hF⟩ := choose_lt (α := Bool) (n := len) (p := fun i c => W.cell? (a.add i) = some (.bool c)) (fun i hi => by
      obtain ⟨h1, h2⟩ := hx i (by omega)
      obtain ⟨b, eb, _⟩ := DataW.trod_bool Tryd.underlying4 h2
      injection eb with eb
      exact ⟨b, by rw [h1, eb]⟩)
    refine ⟨(List.range len).map F, ⟨some a, cap, by simp, by simp; omega, fun h1 => ?_⟩⟩
    have h0 : 0 < len := by simp at h1; omega
    obtain ⟨g, o, sp'⟩ := a
    have hs : sp' = none := by simpa [Addr.add] using World.cell?_spot (hF 0 h0)
    subst hs
    refine ⟨g, o, rfl, fun i hi => ?_⟩
    have hi' : i < len := by simpa using hi
    have a0 := hF i hi'
    simp only [List.getElem_map, List.getElem_range]
    rwa [show (⟨g, o, none⟩ : Addr).add i = ⟨g, o + i, none⟩ by unfold Addr.add; split <;> simp_all] at a0
set_option maxRecDepth 100000 in
theorem open_case {W : World} {r : Reach} {b0 base : Nat} {sp : Nat → Bool} {held : Bool} {v : Value} {d : DataW H} {p : List MemPlace} (hv : Value.okWide Tryd.prog W r b0 29 v) (h : DataW.Trod enc Tryd.prog W base sp held 29 v d p) :
    ∃ (m : M3) (s : Value) (bl : List Bool) (l : Value) (c : Int) (x y z : Int × Int), v = .agg #[.int .i64 m.w, .int .i64 m.h, s, l, .int .i64 c, .int .i64 x.1, .int .i64 x.2, .int .i64 y.1, .int .i64 y.2, .int .i64 z.1, .int .i64 z.2] ∧ RowAt W s m.cs ∧ MapNum m ∧ BitsAt W l bl := by
  obtain ⟨cs, rfl, hl⟩ := struct_agg Tryd.underlying29 hv
  rw [cellsCaseA] at hl
  obtain ⟨v0, v1, v2, v3, v4, v5, v6, v7, v8, v9, v10, e⟩ := list_11 cs.toList hl
  rw [agg_of e] at h ⊢
  obtain ⟨fuel, hf⟩ := h
  obtain ⟨xs, n, _, _, _, hlen, hx⟩ := DataW.trod_struct Tryd.underlying29 hf
  match xs, hlen with
  | [y0, y1, y2, y3, y4, y5], _ =>
    have h0 := hx 0 _ rfl
    have h1 := hx 1 _ rfl
    have h2 := hx 2 _ rfl
    have h3 := hx 3 _ rfl
    have h4 := hx 4 _ rfl
    have h5 := hx 5 _ rfl
    have g0 : DataW.trod enc Tryd.prog W base sp held n 24 [v0, v1, v2] = some y0 := by simpa [cellsM, Value.cells] using h0
    have g1 : DataW.trod enc Tryd.prog W base sp held n 25 [v3] = some y1 := by simpa [cellsBitsA, Value.cells] using h1
    have g2 : DataW.trod enc Tryd.prog W base sp held n 3 [v4] = some y2 := by simpa [cells1, Value.cells] using h2
    have g3 : DataW.trod enc Tryd.prog W base sp held n 27 [v5, v6] = some y3 := by simpa [cells2, Value.cells] using h3
    have g4 : DataW.trod enc Tryd.prog W base sp held n 27 [v7, v8] = some y4 := by simpa [cells2, Value.cells] using h4
    have g5 : DataW.trod enc Tryd.prog W base sp held n 27 [v9, v10] = some y5 := by simpa [cells2, Value.cells] using h5
    obtain ⟨m, s, em, hr, hn⟩ := map_cellsA g0
    obtain ⟨bl, hb⟩ := bits_row g1
    obtain ⟨c, ec, -⟩ := num_cell g2
    obtain ⟨x1, x2, ex, -⟩ := pos_cells g3
    obtain ⟨y1, y2, ey, -⟩ := pos_cells g4
    obtain ⟨z1, z2, ez, -⟩ := pos_cells g5
    simp at em ec ex ey ez
    obtain ⟨rfl, rfl, rfl⟩ := em
    subst ec
    obtain ⟨rfl, rfl⟩ := ex
    obtain ⟨rfl, rfl⟩ := ey
    obtain ⟨rfl, rfl⟩ := ez
    exact ⟨m, v2, bl, v3, c, (x1, x2), (y1, y2), (z1, z2), rfl, hr, hn, hb⟩
end

end Go.Proofs.YtmbadkgeoealoaaDoor
