/-
  Cells, rectangles and arrays of them among a law's arguments, opened and shut.
-/
import Derived.Test.YtipfiggifnfljaaDoorLiftP
import Derived.Lib.SmallJoins
namespace Go.Proofs.YtipfiggifnfljaaDoor
open Go.ChangeShapes Go.WideShapes Go.ChangeAt Go.RowKit Go.Joins

theorem cellsPos : Tryd.prog.cellsOf 23 = 2 := by kernel_rfl
theorem cellsRect : Tryd.prog.cellsOf 36 = 4 := by kernel_rfl
theorem cellsInt : Tryd.prog.cellsOf 3 = 1 := by kernel_rfl
theorem cellsTwo : Tryd.prog.cellsOf 37 = 2 := by kernel_rfl
theorem cellsThree : Tryd.prog.cellsOf 43 = 6 := by kernel_rfl

section
variable {H : Type} {enc : TypeId × Value → H}

theorem int_reads (W : World) (sp : Nat → Bool) {a : Int} (wa : (Lit.int .i64 a).wf = true) : ∃ n, DataW.trod enc Tryd.prog W 0 sp true n 3 [.int .i64 a] = some (.lit (.int .i64 a), []) :=
  ⟨1, by simp [DataW.trod, Tryd.underlying3, wa]⟩
/-- A cell reads as its two numbers, a rectangle as its four. -/
theorem pos_reads (W : World) (sp : Nat → Bool) {a b : Int} (wa : (Lit.int .i64 a).wf = true) (wb : (Lit.int .i64 b).wf = true) :
    DataW.Trod enc Tryd.prog W 0 sp true 23 (.agg #[.int .i64 a, .int .i64 b]) (.agg [.lit (.int .i64 a), .lit (.int .i64 b)]) [] :=
  shut_agg2 (y0 := (.lit (.int .i64 a), [])) (y1 := (.lit (.int .i64 b), [])) Tryd.underlying23 (by kernel_rfl) cellsPos (int_reads W sp wa) (int_reads W sp wb)
theorem rect_reads (W : World) (sp : Nat → Bool) {a b c d : Int} (wa : (Lit.int .i64 a).wf = true) (wb : (Lit.int .i64 b).wf = true) (wc : (Lit.int .i64 c).wf = true) (wd : (Lit.int .i64 d).wf = true) :
    DataW.Trod enc Tryd.prog W 0 sp true 36 (.agg #[.int .i64 a, .int .i64 b, .int .i64 c, .int .i64 d]) (.agg [.lit (.int .i64 a), .lit (.int .i64 b), .lit (.int .i64 c), .lit (.int .i64 d)]) [] :=
  shut_agg4 (y0 := (.lit (.int .i64 a), [])) (y1 := (.lit (.int .i64 b), [])) (y2 := (.lit (.int .i64 c), [])) (y3 := (.lit (.int .i64 d), [])) Tryd.underlying36 (by kernel_rfl) cellsRect
    (int_reads W sp wa) (int_reads W sp wb) (int_reads W sp wc) (int_reads W sp wd)

theorem arr_agg {W : World} {r : Reach} {b0 : Nat} {t e : TypeId} {n : Nat} {v : Value} (hu : Tryd.prog.underlying t = some (.array n e)) (hv : Value.okWide Tryd.prog W r b0 t v) : ∃ cs : Array Value, v = .agg cs ∧ cs.size = Tryd.prog.cellsOf t := by
  simp only [Value.okWide, hu] at hv
  obtain ⟨cs, h1, h2, _⟩ := hv
  exact ⟨cs, h1, h2⟩
theorem list_two {α : Type} (l : List α) (h : l.length = 2) : ∃ a b, l = [a, b] := by
  match l, h with
  | [a, b], _ => exact ⟨a, b, rfl⟩
theorem list_three {α : Type} (l : List α) (h : l.length = 3) : ∃ a b c, l = [a, b, c] := by
  match l, h with
  | [a, b, c], _ => exact ⟨a, b, c, rfl⟩
theorem list_six {α : Type} (l : List α) (h : l.length = 6) : ∃ a b c d e f, l = [a, b, c, d, e, f] := by
  match l, h with
  | [a, b, c, d, e, f], _ => exact ⟨a, b, c, d, e, f, rfl⟩
theorem agg_list {cs : Array Value} {l : List Value} (h : cs.toList = l) : Value.agg cs = .agg l.toArray := by rw [← h]
/-- An array of two ints, opened and shut. -/
theorem open_two {W : World} {r : Reach} {b0 : Nat} {base : Nat} {sp : Nat → Bool} {held : Bool} {v : Value} {d : DataW H} {p : List MemPlace} (hv : Value.okWide Tryd.prog W r b0 37 v) (h : DataW.Trod enc Tryd.prog W base sp held 37 v d p) :
    ∃ a b, v = .agg #[.int .i64 a, .int .i64 b] ∧ d = .agg [.lit (.int .i64 a), .lit (.int .i64 b)] ∧ p = [] ∧ (Lit.int .i64 a).wf = true ∧ (Lit.int .i64 b).wf = true := by
  obtain ⟨cs, rfl, hs⟩ := arr_agg Tryd.underlying37 hv
  rw [cellsTwo] at hs
  obtain ⟨u, x, hl⟩ := list_two cs.toList (by simpa using hs)
  rw [agg_list hl] at h ⊢
  obtain ⟨fuel, hf⟩ := h
  obtain ⟨xs, m, _, hx, _, hn, ha⟩ := DataW.trod_array Tryd.underlying37 hf
  obtain ⟨y0, y1, rfl⟩ := list_two xs hn
  have h0 := ha 0 (by decide)
  have h1 := ha 1 (by decide)
  rw [cellsInt] at h0 h1
  have h0' : DataW.trod enc Tryd.prog W base sp held m 3 [u] = some y0 := h0
  have h1' : DataW.trod enc Tryd.prog W base sp held m 3 [x] = some y1 := h1
  obtain ⟨a, ea, rfl, wa⟩ := DataW.trod_int Tryd.underlying3 h0'
  obtain ⟨b, eb, rfl, wb⟩ := DataW.trod_int Tryd.underlying3 h1'
  injection ea with ea
  injection eb with eb
  subst ea eb
  injection hx with hd hp
  exact ⟨a, b, rfl, hd, hp, wa, wb⟩
theorem two_reads (W : World) (sp : Nat → Bool) {a b : Int} (wa : (Lit.int .i64 a).wf = true) (wb : (Lit.int .i64 b).wf = true) :
    DataW.Trod enc Tryd.prog W 0 sp true 37 (.agg #[.int .i64 a, .int .i64 b]) (.agg [.lit (.int .i64 a), .lit (.int .i64 b)]) [] :=
  ⟨2, by simp [DataW.trod, Tryd.underlying37, Tryd.underlying3, wa, wb, cellsTwo, cellsInt, Value.cells, List.range_succ]⟩

/-- Two cells that read as a cell of the grid. -/
theorem pos_cells {W : World} {base : Nat} {sp : Nat → Bool} {held : Bool} {m : Nat} {u x : Value} {y : DataW H × List MemPlace} (h : DataW.trod enc Tryd.prog W base sp held m 23 [u, x] = some y) :
    ∃ a b, u = .int .i64 a ∧ x = .int .i64 b ∧ y = (.agg [.lit (.int .i64 a), .lit (.int .i64 b)], []) ∧ (Lit.int .i64 a).wf = true ∧ (Lit.int .i64 b).wf = true := by
  obtain ⟨y0, y1, n, rfl, _, h0, h1⟩ := trod_struct2 Tryd.underlying23 h
  have h0' : DataW.trod enc Tryd.prog W base sp held n 3 [u] = some y0 := by rw [← h0]; simp [cellsInt]
  have h1' : DataW.trod enc Tryd.prog W base sp held n 3 [x] = some y1 := by rw [← h1]; simp [cellsInt]
  obtain ⟨a, ea, rfl, wa⟩ := DataW.trod_int Tryd.underlying3 h0'
  obtain ⟨b, eb, rfl, wb⟩ := DataW.trod_int Tryd.underlying3 h1'
  injection ea with ea
  injection eb with eb
  exact ⟨a, b, ea, eb, rfl, wa, wb⟩
/-- An array of three cells, opened and shut. -/
theorem open_three {W : World} {r : Reach} {b0 : Nat} {base : Nat} {sp : Nat → Bool} {held : Bool} {v : Value} {d : DataW H} {p : List MemPlace} (hv : Value.okWide Tryd.prog W r b0 43 v) (h : DataW.Trod enc Tryd.prog W base sp held 43 v d p) :
    ∃ a b c e f g, v = .agg #[.int .i64 a, .int .i64 b, .int .i64 c, .int .i64 e, .int .i64 f, .int .i64 g] ∧
      d = .agg [.agg [.lit (.int .i64 a), .lit (.int .i64 b)], .agg [.lit (.int .i64 c), .lit (.int .i64 e)], .agg [.lit (.int .i64 f), .lit (.int .i64 g)]] ∧ p = [] ∧
      (Lit.int .i64 a).wf = true ∧ (Lit.int .i64 b).wf = true ∧ (Lit.int .i64 c).wf = true ∧ (Lit.int .i64 e).wf = true ∧ (Lit.int .i64 f).wf = true ∧ (Lit.int .i64 g).wf = true := by
  obtain ⟨cs, rfl, hs⟩ := arr_agg Tryd.underlying43 hv
  rw [cellsThree] at hs
  obtain ⟨u0, u1, u2, u3, u4, u5, hl⟩ := list_six cs.toList (by simpa using hs)
  rw [agg_list hl] at h ⊢
  obtain ⟨fuel, hf⟩ := h
  obtain ⟨xs, m, _, hx, _, hn, ha⟩ := DataW.trod_array Tryd.underlying43 hf
  obtain ⟨y0, y1, y2, rfl⟩ := list_three xs hn
  have h0 := ha 0 (by decide)
  have h1 := ha 1 (by decide)
  have h2 := ha 2 (by decide)
  rw [cellsPos] at h0 h1 h2
  have h0' : DataW.trod enc Tryd.prog W base sp held m 23 [u0, u1] = some y0 := h0
  have h1' : DataW.trod enc Tryd.prog W base sp held m 23 [u2, u3] = some y1 := h1
  have h2' : DataW.trod enc Tryd.prog W base sp held m 23 [u4, u5] = some y2 := h2
  obtain ⟨a, b, rfl, rfl, rfl, wa, wb⟩ := pos_cells h0'
  obtain ⟨c, e, rfl, rfl, rfl, wc, we⟩ := pos_cells h1'
  obtain ⟨f, g, rfl, rfl, rfl, wf, wg⟩ := pos_cells h2'
  injection hx with hd hp
  exact ⟨a, b, c, e, f, g, rfl, hd, hp, wa, wb, wc, we, wf, wg⟩
theorem three_reads (W : World) (sp : Nat → Bool) {a b c e f g : Int} (wa : (Lit.int .i64 a).wf = true) (wb : (Lit.int .i64 b).wf = true) (wc : (Lit.int .i64 c).wf = true) (we : (Lit.int .i64 e).wf = true) (wf : (Lit.int .i64 f).wf = true) (wg : (Lit.int .i64 g).wf = true) :
    DataW.Trod enc Tryd.prog W 0 sp true 43 (.agg #[.int .i64 a, .int .i64 b, .int .i64 c, .int .i64 e, .int .i64 f, .int .i64 g]) (.agg [.agg [.lit (.int .i64 a), .lit (.int .i64 b)], .agg [.lit (.int .i64 c), .lit (.int .i64 e)], .agg [.lit (.int .i64 f), .lit (.int .i64 g)]]) [] :=
  ⟨3, by simp [DataW.trod, Tryd.underlying43, Tryd.underlying23, Tryd.underlying3, wa, wb, wc, we, wf, wg, cellsThree, cellsPos, cellsInt, Value.cells, List.range_succ]⟩

/-- A cell, a rectangle among a law's arguments, opened. -/
theorem open_pos {W : World} {r : Reach} {b0 base : Nat} {v : Value} {d : DataW H} {p : List MemPlace} (hv : Value.okWide Tryd.prog W r b0 23 v) (h : DataW.Trod enc Tryd.prog W base (fun _ => true) true 23 v d p) :
    ∃ a b, v = .agg #[.int .i64 a, .int .i64 b] ∧ (Lit.int .i64 a).wf = true ∧ (Lit.int .i64 b).wf = true := by
  obtain ⟨_, _, _, _, _, rfl, _, _, hy, hz⟩ := open_agg2 Tryd.underlying23 (by kernel_rfl) cellsPos hv h
  obtain ⟨x, ex, _, wx⟩ := DataW.trod_int Tryd.underlying3 hy
  obtain ⟨y, ey, _, wy⟩ := DataW.trod_int Tryd.underlying3 hz
  simp at ex ey
  subst ex ey
  exact ⟨x, y, rfl, wx, wy⟩
theorem open_rect {W : World} {r : Reach} {b0 base : Nat} {v : Value} {d : DataW H} {p : List MemPlace} (hv : Value.okWide Tryd.prog W r b0 36 v) (h : DataW.Trod enc Tryd.prog W base (fun _ => true) true 36 v d p) :
    ∃ a b c e, v = .agg #[.int .i64 a, .int .i64 b, .int .i64 c, .int .i64 e] ∧ (Lit.int .i64 a).wf = true ∧ (Lit.int .i64 b).wf = true ∧ (Lit.int .i64 c).wf = true ∧ (Lit.int .i64 e).wf = true := by
  obtain ⟨_, _, _, _, _, _, _, _, _, rfl, _, _, hy, hz, hq, hr⟩ := open_agg4 Tryd.underlying36 (by kernel_rfl) cellsRect hv h
  obtain ⟨x, ex, _, wx⟩ := DataW.trod_int Tryd.underlying3 hy
  obtain ⟨y, ey, _, wy⟩ := DataW.trod_int Tryd.underlying3 hz
  obtain ⟨u, eu, _, wu⟩ := DataW.trod_int Tryd.underlying3 hq
  obtain ⟨q, eq, _, wq⟩ := DataW.trod_int Tryd.underlying3 hr
  simp at ex ey eu eq
  subst ex ey eu eq
  exact ⟨x, y, u, q, rfl, wx, wy, wu, wq⟩

end

end Go.Proofs.YtipfiggifnfljaaDoor
