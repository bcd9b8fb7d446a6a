/-
  Maps of terrain, cells, ways and bools among a law's arguments, opened.
-/
import Derived.Test.YtpgchjhfhndaaaaGreatDoorLifts
import Derived.Test.YtpgchjhfhndaaaaGreatDoorTerLaws
import Derived.Deep.Slices
import Derived.Deep.Strs
import Derived.Lib.SmallJoins
namespace Go.Proofs.YtpgchjhfhndaaaaGreatDoor
open Go.ChangeShapes Go.WideShapes Go.ChangeAt Go.RowKit Go.Joins Go.Deep

theorem cells1 : Tryz.prog.cellsOf 3 = 1 := by kernel_rfl
theorem cells2 : Tryz.prog.cellsOf 29 = 2 := by kernel_rfl
theorem cells3 : Tryz.prog.cellsOf 53 = 3 := by kernel_rfl
theorem cellsM : Tryz.prog.cellsOf 24 = 3 := by kernel_rfl
theorem cellsS : Tryz.prog.cellsOf 22 = 1 := by kernel_rfl
theorem cellsB : Tryz.prog.cellsOf 4 = 1 := by kernel_rfl

section
variable {H : Type} {enc : TypeId × Value → H}
theorem list_one {α : Type} (l : List α) (h : l.length = 1) : ∃ a, l = [a] := by
  match l, h with
  | [a], _ => exact ⟨a, rfl⟩
theorem list_2 {α : Type} (l : List α) (h : l.length = 2) : ∃ a b, l = [a, b] := by
  match l, h with
  | [a, b], _ => exact ⟨a, b, rfl⟩
theorem list_3 {α : Type} (l : List α) (h : l.length = 3) : ∃ a b c, l = [a, b, c] := by
  match l, h with
  | [a, b, c], _ => exact ⟨a, b, c, rfl⟩
theorem list_4 {α : Type} (l : List α) (h : l.length = 4) : ∃ a b c d, l = [a, b, c, d] := by
  match l, h with
  | [a, b, c, d], _ => exact ⟨a, b, c, d, rfl⟩
/-- A number among the cells. -/
theorem num_cell {W : World} {base : Nat} {sp : Nat → Bool} {held : Bool} {m : Nat} {cs : List Value} {y : DataW H × List MemPlace} (h : DataW.trod enc Tryz.prog W base sp held m 3 cs = some y) : ∃ a, cs = [.int .i64 a] ∧ I64 a := by
  obtain ⟨a, e, _, w⟩ := DataW.trod_int Tryz.underlying3 h
  exact ⟨a, e, wf_i64 w⟩
set_option maxRecDepth 100000 in
/-- Three cells that read as a cell of the terrain. -/
theorem cell_cells {W : World} {base : Nat} {sp : Nat → Bool} {held : Bool} {m : Nat} {cs : List Value} {y : DataW H × List MemPlace} (h : DataW.trod enc Tryz.prog W base sp held m 53 cs = some y) :
    ∃ c : C3, cs = [.int .i64 c.k, .int .i64 c.h, .int .i64 c.a] ∧ I64 c.k ∧ I64 c.h ∧ I64 c.a := by
  obtain ⟨y0, y1, y2, n, _, hl, h0, h1, h2⟩ := trod_struct3 Tryz.underlying53 h
  rw [cells3] at hl
  obtain ⟨u, v, w, rfl⟩ := list_3 cs hl
  have h0' : DataW.trod enc Tryz.prog W base sp held n 3 [u] = some y0 := by simpa [cells1] using h0
  have h1' : DataW.trod enc Tryz.prog W base sp held n 3 [v] = some y1 := by simpa [cells1] using h1
  have h2' : DataW.trod enc Tryz.prog W base sp held n 3 [w] = some y2 := by simpa [cells1] using h2
  obtain ⟨a, ea, ia⟩ := num_cell h0'
  obtain ⟨b, eb, ib⟩ := num_cell h1'
  obtain ⟨c, ec, ic⟩ := num_cell h2'
  injection ea with ea
  injection eb with eb
  injection ec with ec
  exact ⟨⟨a, b, c⟩, by rw [ea, eb, ec], ia, ib, ic⟩
set_option maxRecDepth 100000 in
theorem struct_agg {W : World} {r : Reach} {b0 : Nat} {t : TypeId} {fs : Array Field} {v : Value} (hu : Tryz.prog.underlying t = some (.struct fs)) (hv : Value.okWide Tryz.prog W r b0 t v) : ∃ cs : Array Value, v = .agg cs ∧ cs.toList.length = Tryz.prog.cellsOf t := by
  obtain ⟨cs, rfl, h⟩ := okWide_struct hu hv
  exact ⟨cs, rfl, by simpa using h⟩
theorem agg_of {cs : Array Value} {l : List Value} (h : cs.toList = l) : Value.agg cs = .agg l.toArray := by rw [← h]

set_option maxRecDepth 100000 in
/-- A slice of cells that can be read. -/
theorem cells_row {W : World} {base : Nat} {sp : Nat → Bool} {held : Bool} {m : Nat} {cs : List Value} {y : DataW H × List MemPlace} (h : DataW.trod enc Tryz.prog W base sp held m 22 cs = some y) :
    ∃ (s : Value) (l : List C3), cs = [s] ∧ RowAt W s l ∧ ∀ c ∈ l, I64 c.k ∧ I64 c.h ∧ I64 c.a := by
  rcases open_slice Tryz.underlying22 h with ⟨rfl, _⟩ | ⟨a, len, cap, m, n, D, Pl, rfl, _, hlc, hcm, hm, _, hx⟩
  · exact ⟨_, [], rfl, ⟨none, 0, rfl, Nat.zero_le _, fun h => by simp at h⟩, fun c hc => by simp at hc⟩
  · rw [cells3] at hx
    have hml : len ≤ m := by rw [hm]; split <;> omega
    haveI : Inhabited C3 := ⟨C3.zero⟩
    obtain ⟨V, hV⟩ := choose_lt (α := C3) (n := len) (p := fun i c => (W.cell? (a.add (i * 3)) = some (.int .i64 c.k) ∧ W.cell? (a.add (i * 3 + 1)) = some (.int .i64 c.h) ∧ W.cell? (a.add (i * 3 + 2)) = some (.int .i64 c.a)) ∧ I64 c.k ∧ I64 c.h ∧ I64 c.a) (fun i hi => by
      obtain ⟨cs', h1, h2⟩ := hx i (by omega)
      obtain ⟨c, rfl, i1, i2, i3⟩ := cell_cells h2
      obtain ⟨_, _, hg⟩ := World.cells?_some h1
      have g0 := hg 0 (by decide)
      have g1 := hg 1 (by decide)
      have g2 := hg 2 (by decide)
      rw [add_add] at g0 g1 g2
      exact ⟨c, ⟨g0, g1, g2⟩, i1, i2, i3⟩)
    refine ⟨_, (List.range len).map V, rfl, ⟨some a, cap, by simp, by simp; omega, fun h1 => ?_⟩, fun c hc => ?_⟩
    · have h0 : 0 < len := by simp at h1; omega
      obtain ⟨g, o, sp'⟩ := a
      have hs : sp' = none := by simpa [Addr.add] using World.cell?_spot (hV 0 h0).1.1
      subst hs
      refine ⟨g, o, rfl, fun i hi => ?_⟩
      have hi' : i < len := by simpa using hi
      obtain ⟨⟨a0, a1, a2⟩, _⟩ := hV i hi'
      simp only [List.getElem_map, List.getElem_range]
      have hadd : ∀ j, (⟨g, o, none⟩ : Addr).add j = ⟨g, o + j, none⟩ := fun j => by unfold Addr.add; split <;> simp_all
      rw [hadd] at a0 a1 a2
      exact ⟨a0, by rw [Nat.add_assoc]; exact a1, by rw [Nat.add_assoc]; exact a2⟩
    · obtain ⟨i, hi, rfl⟩ := List.mem_map.1 hc
      exact (hV i (List.mem_range.1 hi)).2
set_option maxRecDepth 100000 in
/-- A map. -/
theorem open_map {W : World} {r : Reach} {b0 base : Nat} {sp : Nat → Bool} {held : Bool} {v : Value} {d : DataW H} {p : List MemPlace} (hv : Value.okWide Tryz.prog W r b0 24 v) (h : DataW.Trod enc Tryz.prog W base sp held 24 v d p) :
    ∃ (m : M3) (s : Value), v = .agg #[.int .i64 m.w, .int .i64 m.h, s] ∧ RowAt W s m.cs ∧ MapNum m := by
  obtain ⟨cs, rfl, hl⟩ := struct_agg Tryz.underlying24 hv
  rw [cellsM] at hl
  obtain ⟨u, x, y, e⟩ := list_3 cs.toList hl
  rw [agg_of e] at h ⊢
  obtain ⟨fuel, hf⟩ := h
  obtain ⟨y0, y1, y2, n, _, _, h0, h1, h2⟩ := trod_struct3 Tryz.underlying24 hf
  have h0' : DataW.trod enc Tryz.prog W base sp held n 3 [u] = some y0 := by simpa [cells1, Value.cells] using h0
  have h1' : DataW.trod enc Tryz.prog W base sp held n 3 [x] = some y1 := by simpa [cells1, Value.cells] using h1
  obtain ⟨a, ea, ia⟩ := num_cell h0'
  obtain ⟨b, eb, ib⟩ := num_cell h1'
  have h2' : DataW.trod enc Tryz.prog W base sp held n 22 [y] = some y2 := by simpa [cellsS, Value.cells] using h2
  obtain ⟨s, l, es, hr, hn⟩ := cells_row h2'
  injection ea with ea
  injection eb with eb
  injection es with es
  subst ea eb es
  exact ⟨⟨a, b, l⟩, y, rfl, hr, ⟨ia, ib, hn⟩⟩
set_option maxRecDepth 100000 in
theorem open_cell {W : World} {r : Reach} {b0 base : Nat} {sp : Nat → Bool} {held : Bool} {v : Value} {d : DataW H} {p : List MemPlace} (hv : Value.okWide Tryz.prog W r b0 53 v) (h : DataW.Trod enc Tryz.prog W base sp held 53 v d p) :
    ∃ c : C3, v = .agg #[.int .i64 c.k, .int .i64 c.h, .int .i64 c.a] ∧ I64 c.k ∧ I64 c.h ∧ I64 c.a := by
  obtain ⟨cs, rfl, hl⟩ := struct_agg Tryz.underlying53 hv
  rw [cells3] at hl
  obtain ⟨u, x, y, e⟩ := list_3 cs.toList hl
  rw [agg_of e] at h ⊢
  obtain ⟨fuel, hf⟩ := h
  obtain ⟨c, ec, i⟩ := cell_cells hf
  simp [Value.cells] at ec
  obtain ⟨rfl, rfl, rfl⟩ := ec
  exact ⟨c, rfl, i⟩
set_option maxRecDepth 100000 in
theorem pos_cells {W : World} {base : Nat} {sp : Nat → Bool} {held : Bool} {m : Nat} {cs : List Value} {y : DataW H × List MemPlace} (h : DataW.trod enc Tryz.prog W base sp held m 29 cs = some y) :
    ∃ a b, cs = [.int .i64 a, .int .i64 b] ∧ I64 a ∧ I64 b := by
  obtain ⟨y0, y1, n, _, hl, h0, h1⟩ := trod_struct2 Tryz.underlying29 h
  rw [cells2] at hl
  obtain ⟨u, v, rfl⟩ := list_2 cs hl
  have h0' : DataW.trod enc Tryz.prog W base sp held n 3 [u] = some y0 := by simpa [cells1] using h0
  have h1' : DataW.trod enc Tryz.prog W base sp held n 3 [v] = some y1 := by simpa [cells1] using h1
  obtain ⟨a, ea, ia⟩ := num_cell h0'
  obtain ⟨b, eb, ib⟩ := num_cell h1'
  injection ea with ea
  injection eb with eb
  exact ⟨a, b, by rw [ea, eb], ia, ib⟩
set_option maxRecDepth 100000 in
theorem open_pos {W : World} {r : Reach} {b0 base : Nat} {sp : Nat → Bool} {held : Bool} {v : Value} {d : DataW H} {p : List MemPlace} (hv : Value.okWide Tryz.prog W r b0 29 v) (h : DataW.Trod enc Tryz.prog W base sp held 29 v d p) :
    ∃ a b, v = .agg #[.int .i64 a, .int .i64 b] ∧ I64 a ∧ I64 b := by
  obtain ⟨cs, rfl, hl⟩ := struct_agg Tryz.underlying29 hv
  rw [cells2] at hl
  obtain ⟨u, x, e⟩ := list_2 cs.toList hl
  rw [agg_of e] at h ⊢
  obtain ⟨fuel, hf⟩ := h
  obtain ⟨a, b, ec, i⟩ := pos_cells hf
  simp [Value.cells] at ec
  obtain ⟨rfl, rfl⟩ := ec
  exact ⟨a, b, rfl, i⟩
set_option maxRecDepth 100000 in
theorem open_bits {W : World} {r : Reach} {b0 base : Nat} {sp : Nat → Bool} {held : Bool} {v : Value} {d : DataW H} {p : List MemPlace} (hv : Value.okWide Tryz.prog W r b0 25 v) (h : DataW.Trod enc Tryz.prog W base sp held 25 v d p) :
    ∃ bl : List Bool, BitsAt W v bl := by
  obtain ⟨fuel, hf⟩ := h
  obtain ⟨s, hs⟩ : ∃ s, v.cells.toList = [s] ∧ v = s := by
    simp only [Value.okWide, Tryz.underlying25, Cell.okWide, Cell.ok] at hv
    split at hv <;> simp_all [Value.cells]
  obtain ⟨e1, rfl⟩ := hs
  rw [e1] at hf
  rcases open_slice1 Tryz.underlying25 cellsB hf with ⟨e, _⟩ | ⟨a, len, cap, m, n, V, D, Pl, e, _, hlc, hcm, hm, _, hx⟩
  · injection e with e
    subst e
    exact ⟨[], ⟨none, 0, rfl, Nat.zero_le _, fun h => by simp at h⟩⟩
  · injection e with e
    subst e
    have hml : len ≤ m := by rw [hm]; split <;> omega
    obtain ⟨F, hF⟩ := choose_lt (α := Bool) (n := len) (p := fun i c => W.cell? (a.add i) = some (.bool c)) (fun i hi => by
      obtain ⟨h1, h2⟩ := hx i (by omega)
      obtain ⟨b, eb, _⟩ := DataW.trod_bool Tryz.underlying4 h2
      injection eb with eb
      exact ⟨b, by rw [h1, eb]⟩)
    refine ⟨(List.range len).map F, ⟨some a, cap, by simp, by simp; omega, fun h1 => ?_⟩⟩
    have h0 : 0 < len := by simp at h1; omega
    obtain ⟨g, o, sp'⟩ := a
    have hs : sp' = none := by simpa [Addr.add] using World.cell?_spot (hF 0 h0)
    subst hs
    refine ⟨g, o, rfl, fun i hi => ?_⟩
    have hi' : i < len := by simpa using hi
    have a0 := hF i hi'
    simp only [List.getElem_map, List.getElem_range]
    have hadd : ∀ j, (⟨g, o, none⟩ : Addr).add j = ⟨g, o + j, none⟩ := fun j => by unfold Addr.add; split <;> simp_all
    rw [hadd] at a0
    exact a0
end

end Go.Proofs.YtpgchjhfhndaaaaGreatDoor
