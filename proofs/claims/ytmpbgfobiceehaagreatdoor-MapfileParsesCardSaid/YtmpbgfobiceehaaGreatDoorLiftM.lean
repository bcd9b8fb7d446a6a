/-
  Map files among a law's arguments, opened.
-/
import Derived.Test.YtmpbgfobiceehaaGreatDoorLiftT
import Derived.Test.YtmpbgfobiceehaaGreatDoorMapMir
namespace Go.Proofs.YtmpbgfobiceehaaGreatDoor
open Go.ChangeShapes Go.WideShapes Go.ChangeAt Go.RowKit Go.Joins Go.Deep

theorem cellsP : Tryz.prog.cellsOf 25 = 1 := by kernel_rfl
theorem cellsStr : Tryz.prog.cellsOf 9 = 1 := by kernel_rfl
theorem cellsF : Tryz.prog.cellsOf 27 = 5 := by kernel_rfl

section
variable {H : Type} {enc : TypeId × Value → H}
theorem list_5 {α : Type} (l : List α) (h : l.length = 5) : ∃ a b c d e, l = [a, b, c, d, e] := by
  match l, h with
  | [a, b, c, d, e], _ => exact ⟨a, b, c, d, e, rfl⟩
theorem cells_cap {W : World} {base : Nat} {sp : Nat → Bool} {held : Bool} {m : Nat} {s : Value} {y : DataW H × List MemPlace} (h : DataW.trod enc Tryz.prog W base sp held m 22 [s] = some y) : CapOk s := by
  rcases open_slice Tryz.underlying22 h with ⟨e, _⟩ | ⟨a, len, cap, m, n, D, Pl, e, _, hlc, hcm, _⟩
  · injection e with e _
    subst e
    exact cap_nil
  · injection e with e _
    subst e
    intro p n c e
    injection e with _ e2 e3
    subst e2 e3
    exact ⟨hlc, hcm⟩
set_option maxRecDepth 100000 in
/-- A slice of positions that can be read. -/
theorem poss_row {W : World} {base : Nat} {sp : Nat → Bool} {held : Bool} {m : Nat} {cs : List Value} {y : DataW H × List MemPlace} (h : DataW.trod enc Tryz.prog W base sp held m 25 cs = some y) :
    ∃ (s : Value) (l : List (Int × Int)), cs = [s] ∧ PosAt W s l := by
  rcases open_slice Tryz.underlying25 h with ⟨rfl, _⟩ | ⟨a, len, cap, m, n, D, Pl, rfl, _, hlc, hcm, hm, _, hx⟩
  · exact ⟨_, [], rfl, pos_nil W⟩
  · rw [cells2] at hx
    have hml : len ≤ m := by rw [hm]; split <;> omega
    obtain ⟨V, hV⟩ := choose_lt (α := Int × Int) (n := len) (p := fun i c => W.cell? (a.add (i * 2)) = some (.int .i64 c.1) ∧ W.cell? (a.add (i * 2 + 1)) = some (.int .i64 c.2)) (fun i hi => by
      obtain ⟨cs', h1, h2⟩ := hx i (by omega)
      obtain ⟨x, y, rfl, _, _⟩ := pos_cells h2
      obtain ⟨_, _, hg⟩ := World.cells?_some h1
      have g0 := hg 0 (by decide)
      have g1 := hg 1 (by decide)
      rw [add_add] at g0 g1
      exact ⟨(x, y), g0, g1⟩)
    refine ⟨_, (List.range len).map V, rfl, ⟨some a, cap, by simp, by simp; exact ⟨hlc, hcm⟩, fun h1 => ?_⟩⟩
    have h0 : 0 < len := by simp at h1; omega
    obtain ⟨g, o, sp'⟩ := a
    have hs : sp' = none := by simpa [Addr.add] using World.cell?_spot (hV 0 h0).1
    subst hs
    refine ⟨g, o, rfl, fun i hi => ?_⟩
    have hi' : i < len := by simpa using hi
    obtain ⟨a0, a1⟩ := hV i hi'
    simp only [List.getElem_map, List.getElem_range]
    have hadd : ∀ j, (⟨g, o, none⟩ : Addr).add j = ⟨g, o + j, none⟩ := fun j => by unfold Addr.add; split <;> simp_all
    rw [hadd] at a0 a1
    exact ⟨a0, by rw [Nat.add_assoc]; exact a1⟩
set_option maxRecDepth 100000 in
theorem map_cells {W : World} {base : Nat} {sp : Nat → Bool} {held : Bool} {m : Nat} {cs : List Value} {y : DataW H × List MemPlace} (h : DataW.trod enc Tryz.prog W base sp held m 24 cs = some y) :
    ∃ (m : M3) (s : Value), cs = [.int .i64 m.w, .int .i64 m.h, s] ∧ RowAt W s m.cs ∧ CapOk s ∧ MapNum m := by
  obtain ⟨y0, y1, y2, n, _, hl, h0, h1, h2⟩ := trod_struct3 Tryz.underlying24 h
  rw [cellsM] at hl
  obtain ⟨u, x, z, rfl⟩ := list_3 cs hl
  have h0' : DataW.trod enc Tryz.prog W base sp held n 3 [u] = some y0 := by simpa [cells1] using h0
  have h1' : DataW.trod enc Tryz.prog W base sp held n 3 [x] = some y1 := by simpa [cells1] using h1
  have h2' : DataW.trod enc Tryz.prog W base sp held n 22 [z] = some y2 := by simpa [cellsS, cells1] using h2
  obtain ⟨a, ea, ia⟩ := num_cell h0'
  obtain ⟨b, eb, ib⟩ := num_cell h1'
  have hc := cells_cap h2'
  obtain ⟨s, l, es, hr, hn⟩ := cells_row h2'
  injection ea with ea
  injection eb with eb
  injection es with es
  subst ea eb es
  exact ⟨⟨a, b, l⟩, _, rfl, hr, hc, ⟨ia, ib, hn⟩⟩
set_option maxRecDepth 100000 in
/-- A map file. -/
theorem open_file {W : World} {r : Reach} {b0 base : Nat} {sp : Nat → Bool} {held : Bool} {v : Value} {d : DataW H} {p : List MemPlace} (hv : Value.okWide Tryz.prog W r b0 27 v) (h : DataW.Trod enc Tryz.prog W base sp held 27 v d p) :
    ∃ (f : F3) (sc ss : Value), v = .agg #[.string (bs f.name), .int .i64 f.m.w, .int .i64 f.m.h, sc, ss] ∧ RowAt W sc f.m.cs ∧ PosAt W ss f.st ∧ CapOk sc ∧ MapNum f.m ∧ f.name.length ≤ maxLen := by
  obtain ⟨cs, rfl, hl⟩ := struct_agg Tryz.underlying27 hv
  rw [cellsF] at hl
  obtain ⟨u, x, y, z, t, e⟩ := list_5 cs.toList hl
  rw [agg_of e] at h ⊢
  obtain ⟨fuel, hf⟩ := h
  obtain ⟨y0, y1, y2, n, _, _, h0, h1, h2⟩ := trod_struct3 Tryz.underlying27 hf
  have h0' : DataW.trod enc Tryz.prog W base sp held n 9 [u] = some y0 := by simpa [cellsStr, Value.cells] using h0
  have h1' : DataW.trod enc Tryz.prog W base sp held n 24 [x, y, z] = some y1 := by simpa [cellsStr, cellsM, Value.cells] using h1
  have h2' : DataW.trod enc Tryz.prog W base sp held n 25 [t] = some y2 := by simpa [cellsStr, cellsM, cellsP, Value.cells] using h2
  obtain ⟨s, es, _, hsz⟩ := DataW.trod_string Tryz.underlying9 h0'
  obtain ⟨m, sc, em, hr, hc, hn⟩ := map_cells h1'
  obtain ⟨ss, st, ep, hp⟩ := poss_row h2'
  injection es with es
  injection em with e1 em
  injection em with e2 em
  injection em with e3 _
  injection ep with ep
  subst es e1 e2 e3 ep
  refine ⟨⟨s.data.toList, m, st⟩, _, _, by rw [bs_of], hr, hp, hc, hn, ?_⟩
  show s.data.toList.length ≤ maxLen
  rw [← Lib.size_eq]
  exact hsz
end

end Go.Proofs.YtmpbgfobiceehaaGreatDoor
