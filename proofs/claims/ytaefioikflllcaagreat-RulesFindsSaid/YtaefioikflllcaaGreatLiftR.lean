/-
  Rules, unit types, weapons, technologies, slices of strings among a law's arguments, opened.
-/
import Derived.Test.YtaefioikflllcaaGreatLifts
import Derived.Test.YtaefioikflllcaaGreatRulRefP
import Derived.Deep.Slices
import Derived.Deep.Strs
import Derived.Lib.SmallJoins
namespace Go.Proofs.YtaefioikflllcaaGreat
open Go.ChangeShapes Go.WideShapes Go.ChangeAt Go.RowKit Go.Joins Go.Deep

theorem cellI9 : Tryz.prog.cellsOf 3 = 1 := by kernel_rfl
theorem cellB9 : Tryz.prog.cellsOf 4 = 1 := by kernel_rfl
theorem cellS9 : Tryz.prog.cellsOf 9 = 1 := by kernel_rfl
theorem cellsSs : Tryz.prog.cellsOf 32 = 1 := by kernel_rfl
theorem cells19 : Tryz.prog.cellsOf 34 = 19 := by kernel_rfl
theorem cells6 : Tryz.prog.cellsOf 38 = 6 := by kernel_rfl
theorem cells8 : Tryz.prog.cellsOf 42 = 8 := by kernel_rfl
theorem cellsR : Tryz.prog.cellsOf 28 = 3 := by kernel_rfl
theorem cellsUs : Tryz.prog.cellsOf 24 = 1 := by kernel_rfl
theorem cellsWs : Tryz.prog.cellsOf 25 = 1 := by kernel_rfl
theorem cellsTs : Tryz.prog.cellsOf 26 = 1 := by kernel_rfl
theorem add_0 (g o j : Nat) : (⟨g, o, none⟩ : Addr).add j = ⟨g, o + j, none⟩ := by unfold Addr.add; split <;> simp_all

section
variable {H : Type} {enc : TypeId × Value → H}
theorem num_cell9 {W : World} {base : Nat} {sp : Nat → Bool} {held : Bool} {m : Nat} {cs : List Value} {y : DataW H × List MemPlace} (h : DataW.trod enc Tryz.prog W base sp held m 3 cs = some y) : ∃ a, cs = [.int .i64 a] := by
  obtain ⟨a, e, _, _⟩ := DataW.trod_int Tryz.underlying3 h
  exact ⟨a, e⟩
theorem str_cell {W : World} {base : Nat} {sp : Nat → Bool} {held : Bool} {m : Nat} {cs : List Value} {y : DataW H × List MemPlace} (h : DataW.trod enc Tryz.prog W base sp held m 9 cs = some y) : ∃ a, cs = [.string a] := by
  obtain ⟨a, e, _, _⟩ := DataW.trod_string Tryz.underlying9 h
  exact ⟨a, e⟩
theorem boo_cell {W : World} {base : Nat} {sp : Nat → Bool} {held : Bool} {m : Nat} {cs : List Value} {y : DataW H × List MemPlace} (h : DataW.trod enc Tryz.prog W base sp held m 4 cs = some y) : ∃ a, cs = [.bool a] := by
  obtain ⟨a, e, _⟩ := DataW.trod_bool Tryz.underlying4 h
  exact ⟨a, e⟩
set_option maxRecDepth 100000 in
/-- A slice of strings that can be read. -/
theorem strs_cell {W : World} {base : Nat} {sp : Nat → Bool} {held : Bool} {m : Nat} {cs : List Value} {y : DataW H × List MemPlace} (h : DataW.trod enc Tryz.prog W base sp held m 32 cs = some y) : ∃ (s : Value) (l : List ByteArray), cs = [s] ∧ StrSl W s l := by
  rcases open_strs Tryz.underlying32 Tryz.underlying9 cellS9 h with ⟨rfl, _⟩ | ⟨a, len, cap, m, S, rfl, _, hlc, hcm, hm, _, hx⟩
  · exact ⟨_, [], rfl, none, 0, rfl, Nat.zero_le _, fun h => by simp at h⟩
  · have hml : len ≤ m := by rw [hm]; split <;> omega
    refine ⟨_, (List.range len).map S, rfl, some a, cap, by simp, by simp; omega, fun h1 => ?_⟩
    have h0 : 0 < len := by simp at h1; omega
    obtain ⟨g, o, sp'⟩ := a
    have hs : sp' = none := by simpa [Addr.add] using World.cell?_spot (hx 0 (by omega)).1
    subst hs
    refine ⟨g, o, rfl, fun i hi => ?_⟩
    have hi' : i < len := by simpa using hi
    have a0 := (hx i (by omega)).1
    rw [add_0] at a0
    simpa using a0
theorem list_n19 {α : Type} (l : List α) (h : l.length = 19) : ∃ a0 a1 a2 a3 a4 a5 a6 a7 a8 a9 a10 a11 a12 a13 a14 a15 a16 a17 a18, l = [a0, a1, a2, a3, a4, a5, a6, a7, a8, a9, a10, a11, a12, a13, a14, a15, a16, a17, a18] := by
  match l, h with
  | [a0, a1, a2, a3, a4, a5, a6, a7, a8, a9, a10, a11, a12, a13, a14, a15, a16, a17, a18], _ => exact ⟨a0, a1, a2, a3, a4, a5, a6, a7, a8, a9, a10, a11, a12, a13, a14, a15, a16, a17, a18, rfl⟩
set_option maxRecDepth 100000 in
theorem unit_cells {W : World} {base : Nat} {sp : Nat → Bool} {held : Bool} {m : Nat} {cs : List Value} {y : DataW H × List MemPlace} (h : DataW.trod enc Tryz.prog W base sp held m 34 cs = some y) :
    ∃ x : U9, ∃ vs : List Value, cs = vs ∧ vs.length = 19 ∧ ∀ g o, CellsAt W g o vs → UAt W g o x := by
  obtain ⟨xs, n, _, _, hl, hlen, hf⟩ := DataW.trod_struct Tryz.underlying34 h
  rw [cells19] at hl
  obtain ⟨a0, a1, a2, a3, a4, a5, a6, a7, a8, a9, a10, a11, a12, a13, a14, a15, a16, a17, a18, rfl⟩ := list_n19 cs hl
  obtain ⟨y0, y1, y2, y3, y4, y5, y6, y7, y8, y9, y10, y11, y12, y13, y14, y15, y16, y17, y18, rfl⟩ := list_n19 xs hlen
  have h0 : DataW.trod enc Tryz.prog W base sp held n 9 [a0] = some y0 := by simpa [cellS9] using hf 0 _ rfl
  have h1 : DataW.trod enc Tryz.prog W base sp held n 4 [a1] = some y1 := by simpa [cellB9] using hf 1 _ rfl
  have h2 : DataW.trod enc Tryz.prog W base sp held n 4 [a2] = some y2 := by simpa [cellB9] using hf 2 _ rfl
  have h3 : DataW.trod enc Tryz.prog W base sp held n 3 [a3] = some y3 := by simpa [cellI9] using hf 3 _ rfl
  have h4 : DataW.trod enc Tryz.prog W base sp held n 3 [a4] = some y4 := by simpa [cellI9] using hf 4 _ rfl
  have h5 : DataW.trod enc Tryz.prog W base sp held n 3 [a5] = some y5 := by simpa [cellI9] using hf 5 _ rfl
  have h6 : DataW.trod enc Tryz.prog W base sp held n 3 [a6] = some y6 := by simpa [cellI9] using hf 6 _ rfl
  have h7 : DataW.trod enc Tryz.prog W base sp held n 3 [a7] = some y7 := by simpa [cellI9] using hf 7 _ rfl
  have h8 : DataW.trod enc Tryz.prog W base sp held n 3 [a8] = some y8 := by simpa [cellI9] using hf 8 _ rfl
  have h9 : DataW.trod enc Tryz.prog W base sp held n 3 [a9] = some y9 := by simpa [cellI9] using hf 9 _ rfl
  have h10 : DataW.trod enc Tryz.prog W base sp held n 3 [a10] = some y10 := by simpa [cellI9] using hf 10 _ rfl
  have h11 : DataW.trod enc Tryz.prog W base sp held n 3 [a11] = some y11 := by simpa [cellI9] using hf 11 _ rfl
  have h12 : DataW.trod enc Tryz.prog W base sp held n 9 [a12] = some y12 := by simpa [cellS9] using hf 12 _ rfl
  have h13 : DataW.trod enc Tryz.prog W base sp held n 3 [a13] = some y13 := by simpa [cellI9] using hf 13 _ rfl
  have h14 : DataW.trod enc Tryz.prog W base sp held n 3 [a14] = some y14 := by simpa [cellI9] using hf 14 _ rfl
  have h15 : DataW.trod enc Tryz.prog W base sp held n 3 [a15] = some y15 := by simpa [cellI9] using hf 15 _ rfl
  have h16 : DataW.trod enc Tryz.prog W base sp held n 32 [a16] = some y16 := by simpa [cellsSs] using hf 16 _ rfl
  have h17 : DataW.trod enc Tryz.prog W base sp held n 32 [a17] = some y17 := by simpa [cellsSs] using hf 17 _ rfl
  have h18 : DataW.trod enc Tryz.prog W base sp held n 32 [a18] = some y18 := by simpa [cellsSs] using hf 18 _ rfl
  obtain ⟨x0, e0⟩ := str_cell h0
  injection e0 with e0
  subst e0
  obtain ⟨x1, e1⟩ := boo_cell h1
  injection e1 with e1
  subst e1
  obtain ⟨x2, e2⟩ := boo_cell h2
  injection e2 with e2
  subst e2
  obtain ⟨x3, e3⟩ := num_cell9 h3
  injection e3 with e3
  subst e3
  obtain ⟨x4, e4⟩ := num_cell9 h4
  injection e4 with e4
  subst e4
  obtain ⟨x5, e5⟩ := num_cell9 h5
  injection e5 with e5
  subst e5
  obtain ⟨x6, e6⟩ := num_cell9 h6
  injection e6 with e6
  subst e6
  obtain ⟨x7, e7⟩ := num_cell9 h7
  injection e7 with e7
  subst e7
  obtain ⟨x8, e8⟩ := num_cell9 h8
  injection e8 with e8
  subst e8
  obtain ⟨x9, e9⟩ := num_cell9 h9
  injection e9 with e9
  subst e9
  obtain ⟨x10, e10⟩ := num_cell9 h10
  injection e10 with e10
  subst e10
  obtain ⟨x11, e11⟩ := num_cell9 h11
  injection e11 with e11
  subst e11
  obtain ⟨x12, e12⟩ := str_cell h12
  injection e12 with e12
  subst e12
  obtain ⟨x13, e13⟩ := num_cell9 h13
  injection e13 with e13
  subst e13
  obtain ⟨x14, e14⟩ := num_cell9 h14
  injection e14 with e14
  subst e14
  obtain ⟨x15, e15⟩ := num_cell9 h15
  injection e15 with e15
  subst e15
  obtain ⟨s16, x16, e16, q16⟩ := strs_cell h16
  injection e16 with e16
  subst e16
  obtain ⟨s17, x17, e17, q17⟩ := strs_cell h17
  injection e17 with e17
  subst e17
  obtain ⟨s18, x18, e18, q18⟩ := strs_cell h18
  injection e18 with e18
  subst e18
  exact ⟨⟨x0, x1, x2, x3, x4, x5, x6, x7, x8, x9, x10, x11, x12, x13, x14, x15, x16, x17, x18⟩, _, rfl, rfl, fun g o hc => ⟨_, _, _, hc, q16, q17, q18⟩⟩
theorem list_n6 {α : Type} (l : List α) (h : l.length = 6) : ∃ a0 a1 a2 a3 a4 a5, l = [a0, a1, a2, a3, a4, a5] := by
  match l, h with
  | [a0, a1, a2, a3, a4, a5], _ => exact ⟨a0, a1, a2, a3, a4, a5, rfl⟩
set_option maxRecDepth 100000 in
theorem weap_cells {W : World} {base : Nat} {sp : Nat → Bool} {held : Bool} {m : Nat} {cs : List Value} {y : DataW H × List MemPlace} (h : DataW.trod enc Tryz.prog W base sp held m 38 cs = some y) :
    ∃ x : W9, ∃ vs : List Value, cs = vs ∧ vs.length = 6 ∧ ∀ g o, CellsAt W g o vs → WAt W g o x := by
  obtain ⟨xs, n, _, _, hl, hlen, hf⟩ := DataW.trod_struct Tryz.underlying38 h
  rw [cells6] at hl
  obtain ⟨a0, a1, a2, a3, a4, a5, rfl⟩ := list_n6 cs hl
  obtain ⟨y0, y1, y2, y3, y4, y5, rfl⟩ := list_n6 xs hlen
  have h0 : DataW.trod enc Tryz.prog W base sp held n 9 [a0] = some y0 := by simpa [cellS9] using hf 0 _ rfl
  have h1 : DataW.trod enc Tryz.prog W base sp held n 3 [a1] = some y1 := by simpa [cellI9] using hf 1 _ rfl
  have h2 : DataW.trod enc Tryz.prog W base sp held n 3 [a2] = some y2 := by simpa [cellI9] using hf 2 _ rfl
  have h3 : DataW.trod enc Tryz.prog W base sp held n 3 [a3] = some y3 := by simpa [cellI9] using hf 3 _ rfl
  have h4 : DataW.trod enc Tryz.prog W base sp held n 3 [a4] = some y4 := by simpa [cellI9] using hf 4 _ rfl
  have h5 : DataW.trod enc Tryz.prog W base sp held n 3 [a5] = some y5 := by simpa [cellI9] using hf 5 _ rfl
  obtain ⟨x0, e0⟩ := str_cell h0
  injection e0 with e0
  subst e0
  obtain ⟨x1, e1⟩ := num_cell9 h1
  injection e1 with e1
  subst e1
  obtain ⟨x2, e2⟩ := num_cell9 h2
  injection e2 with e2
  subst e2
  obtain ⟨x3, e3⟩ := num_cell9 h3
  injection e3 with e3
  subst e3
  obtain ⟨x4, e4⟩ := num_cell9 h4
  injection e4 with e4
  subst e4
  obtain ⟨x5, e5⟩ := num_cell9 h5
  injection e5 with e5
  subst e5
  exact ⟨⟨x0, x1, x2, x3, x4, x5⟩, _, rfl, rfl, fun g o hc => hc⟩
theorem list_n8 {α : Type} (l : List α) (h : l.length = 8) : ∃ a0 a1 a2 a3 a4 a5 a6 a7, l = [a0, a1, a2, a3, a4, a5, a6, a7] := by
  match l, h with
  | [a0, a1, a2, a3, a4, a5, a6, a7], _ => exact ⟨a0, a1, a2, a3, a4, a5, a6, a7, rfl⟩
set_option maxRecDepth 100000 in
theorem tech_cells {W : World} {base : Nat} {sp : Nat → Bool} {held : Bool} {m : Nat} {cs : List Value} {y : DataW H × List MemPlace} (h : DataW.trod enc Tryz.prog W base sp held m 42 cs = some y) :
    ∃ x : T9, ∃ vs : List Value, cs = vs ∧ vs.length = 8 ∧ ∀ g o, CellsAt W g o vs → TAt W g o x := by
  obtain ⟨xs, n, _, _, hl, hlen, hf⟩ := DataW.trod_struct Tryz.underlying42 h
  rw [cells8] at hl
  obtain ⟨a0, a1, a2, a3, a4, a5, a6, a7, rfl⟩ := list_n8 cs hl
  obtain ⟨y0, y1, y2, y3, y4, y5, y6, y7, rfl⟩ := list_n8 xs hlen
  have h0 : DataW.trod enc Tryz.prog W base sp held n 9 [a0] = some y0 := by simpa [cellS9] using hf 0 _ rfl
  have h1 : DataW.trod enc Tryz.prog W base sp held n 32 [a1] = some y1 := by simpa [cellsSs] using hf 1 _ rfl
  have h2 : DataW.trod enc Tryz.prog W base sp held n 3 [a2] = some y2 := by simpa [cellI9] using hf 2 _ rfl
  have h3 : DataW.trod enc Tryz.prog W base sp held n 3 [a3] = some y3 := by simpa [cellI9] using hf 3 _ rfl
  have h4 : DataW.trod enc Tryz.prog W base sp held n 3 [a4] = some y4 := by simpa [cellI9] using hf 4 _ rfl
  have h5 : DataW.trod enc Tryz.prog W base sp held n 9 [a5] = some y5 := by simpa [cellS9] using hf 5 _ rfl
  have h6 : DataW.trod enc Tryz.prog W base sp held n 3 [a6] = some y6 := by simpa [cellI9] using hf 6 _ rfl
  have h7 : DataW.trod enc Tryz.prog W base sp held n 3 [a7] = some y7 := by simpa [cellI9] using hf 7 _ rfl
  obtain ⟨x0, e0⟩ := str_cell h0
  injection e0 with e0
  subst e0
  obtain ⟨s1, x1, e1, q1⟩ := strs_cell h1
  injection e1 with e1
  subst e1
  obtain ⟨x2, e2⟩ := num_cell9 h2
  injection e2 with e2
  subst e2
  obtain ⟨x3, e3⟩ := num_cell9 h3
  injection e3 with e3
  subst e3
  obtain ⟨x4, e4⟩ := num_cell9 h4
  injection e4 with e4
  subst e4
  obtain ⟨x5, e5⟩ := str_cell h5
  injection e5 with e5
  subst e5
  obtain ⟨x6, e6⟩ := num_cell9 h6
  injection e6 with e6
  subst e6
  obtain ⟨x7, e7⟩ := num_cell9 h7
  injection e7 with e7
  subst e7
  exact ⟨⟨x0, x1, x2, x3, x4, x5, x6, x7⟩, _, rfl, rfl, fun g o hc => ⟨_, hc, q1⟩⟩
set_option maxRecDepth 100000 in
theorem units_row {W : World} {base : Nat} {sp : Nat → Bool} {held : Bool} {m : Nat} {cs : List Value} {y : DataW H × List MemPlace} (h : DataW.trod enc Tryz.prog W base sp held m 24 cs = some y) :
    ∃ (s : Value) (l : List U9), cs = [s] ∧ SlAt UAt 19 W s l ∧ ∀ p n c, s = .slice p n c → n ≤ c := by
  rcases open_slice Tryz.underlying24 h with ⟨rfl, _⟩ | ⟨a, len, cap, m, n, D, Pl, rfl, _, hlc, hcm, hm, _, hx⟩
  · exact ⟨_, [], rfl, ⟨none, 0, rfl, Nat.zero_le _, fun h => by simp at h⟩, fun p n c e => by injection e with _ e1 e2; omega⟩
  · rw [cells19] at hx
    have hml : len ≤ m := by rw [hm]; split <;> omega
    haveI : Inhabited U9 := ⟨U9.zero⟩
    obtain ⟨V, hV⟩ := choose_lt (α := U9) (n := len) (p := fun i c => ∃ vs : List Value, vs.length = 19 ∧ (∀ j v, vs[j]? = some v → W.cell? (a.add (i * 19 + j)) = some v) ∧ ∀ g o, CellsAt W g o vs → UAt W g o c) (fun i hi => by
      obtain ⟨cs', h1, h2⟩ := hx i (by omega)
      obtain ⟨c, vs, rfl, hvl, hk⟩ := unit_cells h2
      obtain ⟨_, _, hg⟩ := World.cells?_some h1
      refine ⟨c, cs', hvl, fun j v hj => ?_, hk⟩
      have hjl : j < 19 := by rw [← hvl]; exact (List.getElem?_eq_some_iff.1 hj).1
      have g0 := hg j hjl
      rw [add_add] at g0
      exact g0.trans hj)
    refine ⟨_, (List.range len).map V, rfl, ⟨some a, cap, by simp, by simp; omega, fun h1 => ?_⟩, fun p n c e => by injection e with _ e1 e2; omega⟩
    have h0 : 0 < len := by simp at h1; omega
    obtain ⟨g, o, sp'⟩ := a
    have hs : sp' = none := by
      obtain ⟨vs, hvl, hc, -⟩ := hV 0 h0
      obtain ⟨v, hv⟩ : ∃ v, vs[0]? = some v := ⟨vs[0]'(by omega), List.getElem?_eq_getElem _⟩
      simpa [Addr.add] using World.cell?_spot (hc 0 v hv)
    subst hs
    refine ⟨g, o, rfl, fun i hi => ?_⟩
    have hi' : i < len := by simpa using hi
    obtain ⟨vs, -, hc, hk⟩ := hV i hi'
    simp only [List.getElem_map, List.getElem_range]
    refine hk _ _ fun j v hj => ?_
    have a0 := hc j v hj
    rw [add_0] at a0
    rw [Nat.add_assoc]
    exact a0
set_option maxRecDepth 100000 in
theorem weaps_row {W : World} {base : Nat} {sp : Nat → Bool} {held : Bool} {m : Nat} {cs : List Value} {y : DataW H × List MemPlace} (h : DataW.trod enc Tryz.prog W base sp held m 25 cs = some y) :
    ∃ (s : Value) (l : List W9), cs = [s] ∧ SlAt WAt 6 W s l ∧ ∀ p n c, s = .slice p n c → n ≤ c := by
  rcases open_slice Tryz.underlying25 h with ⟨rfl, _⟩ | ⟨a, len, cap, m, n, D, Pl, rfl, _, hlc, hcm, hm, _, hx⟩
  · exact ⟨_, [], rfl, ⟨none, 0, rfl, Nat.zero_le _, fun h => by simp at h⟩, fun p n c e => by injection e with _ e1 e2; omega⟩
  · rw [cells6] at hx
    have hml : len ≤ m := by rw [hm]; split <;> omega
    haveI : Inhabited W9 := ⟨W9.zero⟩
    obtain ⟨V, hV⟩ := choose_lt (α := W9) (n := len) (p := fun i c => ∃ vs : List Value, vs.length = 6 ∧ (∀ j v, vs[j]? = some v → W.cell? (a.add (i * 6 + j)) = some v) ∧ ∀ g o, CellsAt W g o vs → WAt W g o c) (fun i hi => by
      obtain ⟨cs', h1, h2⟩ := hx i (by omega)
      obtain ⟨c, vs, rfl, hvl, hk⟩ := weap_cells h2
      obtain ⟨_, _, hg⟩ := World.cells?_some h1
      refine ⟨c, cs', hvl, fun j v hj => ?_, hk⟩
      have hjl : j < 6 := by rw [← hvl]; exact (List.getElem?_eq_some_iff.1 hj).1
      have g0 := hg j hjl
      rw [add_add] at g0
      exact g0.trans hj)
    refine ⟨_, (List.range len).map V, rfl, ⟨some a, cap, by simp, by simp; omega, fun h1 => ?_⟩, fun p n c e => by injection e with _ e1 e2; omega⟩
    have h0 : 0 < len := by simp at h1; omega
    obtain ⟨g, o, sp'⟩ := a
    have hs : sp' = none := by
      obtain ⟨vs, hvl, hc, -⟩ := hV 0 h0
      obtain ⟨v, hv⟩ : ∃ v, vs[0]? = some v := ⟨vs[0]'(by omega), List.getElem?_eq_getElem _⟩
      simpa [Addr.add] using World.cell?_spot (hc 0 v hv)
    subst hs
    refine ⟨g, o, rfl, fun i hi => ?_⟩
    have hi' : i < len := by simpa using hi
    obtain ⟨vs, -, hc, hk⟩ := hV i hi'
    simp only [List.getElem_map, List.getElem_range]
    refine hk _ _ fun j v hj => ?_
    have a0 := hc j v hj
    rw [add_0] at a0
    rw [Nat.add_assoc]
    exact a0
set_option maxRecDepth 100000 in
theorem techs_row {W : World} {base : Nat} {sp : Nat → Bool} {held : Bool} {m : Nat} {cs : List Value} {y : DataW H × List MemPlace} (h : DataW.trod enc Tryz.prog W base sp held m 26 cs = some y) :
    ∃ (s : Value) (l : List T9), cs = [s] ∧ SlAt TAt 8 W s l ∧ ∀ p n c, s = .slice p n c → n ≤ c := by
  rcases open_slice Tryz.underlying26 h with ⟨rfl, _⟩ | ⟨a, len, cap, m, n, D, Pl, rfl, _, hlc, hcm, hm, _, hx⟩
  · exact ⟨_, [], rfl, ⟨none, 0, rfl, Nat.zero_le _, fun h => by simp at h⟩, fun p n c e => by injection e with _ e1 e2; omega⟩
  · rw [cells8] at hx
    have hml : len ≤ m := by rw [hm]; split <;> omega
    haveI : Inhabited T9 := ⟨T9.zero⟩
    obtain ⟨V, hV⟩ := choose_lt (α := T9) (n := len) (p := fun i c => ∃ vs : List Value, vs.length = 8 ∧ (∀ j v, vs[j]? = some v → W.cell? (a.add (i * 8 + j)) = some v) ∧ ∀ g o, CellsAt W g o vs → TAt W g o c) (fun i hi => by
      obtain ⟨cs', h1, h2⟩ := hx i (by omega)
      obtain ⟨c, vs, rfl, hvl, hk⟩ := tech_cells h2
      obtain ⟨_, _, hg⟩ := World.cells?_some h1
      refine ⟨c, cs', hvl, fun j v hj => ?_, hk⟩
      have hjl : j < 8 := by rw [← hvl]; exact (List.getElem?_eq_some_iff.1 hj).1
      have g0 := hg j hjl
      rw [add_add] at g0
      exact g0.trans hj)
    refine ⟨_, (List.range len).map V, rfl, ⟨some a, cap, by simp, by simp; omega, fun h1 => ?_⟩, fun p n c e => by injection e with _ e1 e2; omega⟩
    have h0 : 0 < len := by simp at h1; omega
    obtain ⟨g, o, sp'⟩ := a
    have hs : sp' = none := by
      obtain ⟨vs, hvl, hc, -⟩ := hV 0 h0
      obtain ⟨v, hv⟩ : ∃ v, vs[0]? = some v := ⟨vs[0]'(by omega), List.getElem?_eq_getElem _⟩
      simpa [Addr.add] using World.cell?_spot (hc 0 v hv)
    subst hs
    refine ⟨g, o, rfl, fun i hi => ?_⟩
    have hi' : i < len := by simpa using hi
    obtain ⟨vs, -, hc, hk⟩ := hV i hi'
    simp only [List.getElem_map, List.getElem_range]
    refine hk _ _ fun j v hj => ?_
    have a0 := hc j v hj
    rw [add_0] at a0
    rw [Nat.add_assoc]
    exact a0
theorem list_n3 {α : Type} (l : List α) (h : l.length = 3) : ∃ a0 a1 a2, l = [a0, a1, a2] := by
  match l, h with
  | [a0, a1, a2], _ => exact ⟨a0, a1, a2, rfl⟩
set_option maxRecDepth 100000 in
/-- Rules. -/
theorem open_rules {W : World} {r : Reach} {b0 base : Nat} {sp : Nat → Bool} {held : Bool} {v : Value} {d : DataW H} {p : List MemPlace} (hv : Value.okWide Tryz.prog W r b0 28 v) (h : DataW.Trod enc Tryz.prog W base sp held 28 v d p) :
    ∃ (x : R9) (su sw st : Value), v = .agg #[su, sw, st] ∧ RAt W su sw st x ∧ ∀ p n c, st = .slice p n c → n ≤ c := by
  obtain ⟨cs, rfl, hl0⟩ := okWide_struct Tryz.underlying28 hv
  have hl : cs.toList.length = 3 := by rw [← cellsR]; simpa using hl0
  obtain ⟨u, x, y, e⟩ := list_n3 cs.toList hl
  obtain rfl : cs = #[u, x, y] := by rw [← Array.toArray_toList (xs := cs), e]
  obtain ⟨fuel, hf⟩ := h
  obtain ⟨y0, y1, y2, n, _, _, h0, h1, h2⟩ := trod_struct3 Tryz.underlying28 hf
  have h0' : DataW.trod enc Tryz.prog W base sp held n 24 [u] = some y0 := by simpa [cellsUs, Value.cells] using h0
  have h1' : DataW.trod enc Tryz.prog W base sp held n 25 [x] = some y1 := by simpa [cellsWs, Value.cells] using h1
  have h2' : DataW.trod enc Tryz.prog W base sp held n 26 [y] = some y2 := by simpa [cellsTs, Value.cells] using h2
  obtain ⟨su, us, e0, hu, -⟩ := units_row h0'
  obtain ⟨sw, ws, e1, hw, -⟩ := weaps_row h1'
  obtain ⟨st, ts, e2, ht, hcp⟩ := techs_row h2'
  injection e0 with e0
  injection e1 with e1
  injection e2 with e2
  subst e0 e1 e2
  exact ⟨⟨us, ws, ts⟩, _, _, _, rfl, ⟨hu, hw, ht⟩, hcp⟩
end

end Go.Proofs.YtaefioikflllcaaGreat
