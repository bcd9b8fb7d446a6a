/-
  An array of three cells among a law's arguments, opened.
-/
import Derived.Test.YtlcbkeieejmmbaaDoorLiftT
import Derived.Lib.SmallJoins
namespace Go.Proofs.YtlcbkeieejmmbaaDoor
open Go.ChangeShapes Go.WideShapes Go.ChangeAt Go.RowKit Go.Joins

theorem cellsTri : Tryd.prog.cellsOf 27 = 6 := by kernel_rfl
section
variable {H : Type} {enc : TypeId × Value → H}
theorem arr_agg9 {W : World} {r : Reach} {b0 : Nat} {t e : TypeId} {n : Nat} {v : Value} (hu : Tryd.prog.underlying t = some (.array n e)) (hv : Value.okWide Tryd.prog W r b0 t v) : ∃ cs : Array Value, v = .agg cs ∧ cs.size = Tryd.prog.cellsOf t := by
  simp only [Value.okWide, hu] at hv
  obtain ⟨cs, h1, h2, _⟩ := hv
  exact ⟨cs, h1, h2⟩
theorem list_6 {α : Type} (l : List α) (h : l.length = 6) : ∃ a b c d e f, l = [a, b, c, d, e, f] := by
  match l, h with
  | [a, b, c, d, e, f], _ => exact ⟨a, b, c, d, e, f, rfl⟩
/-- Two cells that read as a cell of the grid. -/
theorem pos_cells9 {W : World} {base : Nat} {sp : Nat → Bool} {held : Bool} {m : Nat} {u x : Value} {y : DataW H × List MemPlace} (h : DataW.trod enc Tryd.prog W base sp held m 26 [u, x] = some y) :
    ∃ a b, u = .int .i64 a ∧ x = .int .i64 b ∧ y = (.agg [.lit (.int .i64 a), .lit (.int .i64 b)], []) ∧ (Lit.int .i64 a).wf = true ∧ (Lit.int .i64 b).wf = true := by
  obtain ⟨y0, y1, n, rfl, _, h0, h1⟩ := trod_struct2 Tryd.underlying26 h
  have h0' : DataW.trod enc Tryd.prog W base sp held n 3 [u] = some y0 := by rw [← h0]; simp [cells1]
  have h1' : DataW.trod enc Tryd.prog W base sp held n 3 [x] = some y1 := by rw [← h1]; simp [cells1]
  obtain ⟨a, ea, rfl, wa⟩ := DataW.trod_int Tryd.underlying3 h0'
  obtain ⟨b, eb, rfl, wb⟩ := DataW.trod_int Tryd.underlying3 h1'
  injection ea with ea
  injection eb with eb
  exact ⟨a, b, ea, eb, rfl, wa, wb⟩
theorem open_three9 {W : World} {r : Reach} {b0 : Nat} {base : Nat} {sp : Nat → Bool} {held : Bool} {v : Value} {d : DataW H} {p : List MemPlace} (hv : Value.okWide Tryd.prog W r b0 27 v) (h : DataW.Trod enc Tryd.prog W base sp held 27 v d p) :
    ∃ a b c e f g, v = .agg #[.int .i64 a, .int .i64 b, .int .i64 c, .int .i64 e, .int .i64 f, .int .i64 g] := by
  obtain ⟨cs, rfl, hs⟩ := arr_agg9 Tryd.underlying27 hv
  rw [cellsTri] at hs
  obtain ⟨u0, u1, u2, u3, u4, u5, hl⟩ := list_6 cs.toList (by simpa using hs)
  rw [agg_of hl] at h ⊢
  obtain ⟨fuel, hf⟩ := h
  obtain ⟨xs, m, _, hx, _, hn, ha⟩ := DataW.trod_array Tryd.underlying27 hf
  obtain ⟨y0, y1, y2, rfl⟩ := list_3 xs hn
  have h0 := ha 0 (by decide)
  have h1 := ha 1 (by decide)
  have h2 := ha 2 (by decide)
  rw [cells2] at h0 h1 h2
  have h0' : DataW.trod enc Tryd.prog W base sp held m 26 [u0, u1] = some y0 := h0
  have h1' : DataW.trod enc Tryd.prog W base sp held m 26 [u2, u3] = some y1 := h1
  have h2' : DataW.trod enc Tryd.prog W base sp held m 26 [u4, u5] = some y2 := h2
  obtain ⟨a, b, rfl, rfl, rfl, -, -⟩ := pos_cells9 h0'
  obtain ⟨c, e, rfl, rfl, rfl, -, -⟩ := pos_cells9 h1'
  obtain ⟨f, g, rfl, rfl, rfl, -, -⟩ := pos_cells9 h2'
  exact ⟨a, b, c, e, f, g, rfl⟩
end

end Go.Proofs.YtlcbkeieejmmbaaDoor
