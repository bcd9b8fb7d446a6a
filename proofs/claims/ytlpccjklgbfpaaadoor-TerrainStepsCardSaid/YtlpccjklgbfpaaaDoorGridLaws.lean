/-
  What the functions of grid are held to; the chapter's examples.
-/
import Derived.Test.YtlpccjklgbfpaaaDoorGridH
namespace Go.Proofs.YtlpccjklgbfpaaaDoor
open Go.RowKit Go.Lib

theorem same_below {e a : Ending} {w w' : World} (h : e = a ∧ w = w') : e = a ∧ Below w.heap.size w w' := ⟨h.1, h.2 ▸ Below.refl _ _⟩
theorem sval_n (w h : Int) (b : Bool) (W : World) (e : Hid (b = validv w h)) : Calls Tryd.prog 62 #[.int .i64 w, .int .i64 h] W fun e w' => e = .returned (.bool b) ∧ Below W.heap.size W w' := by
  rw [e.out]; exact (rvalid_any w h W).mono fun _ _ => same_below
theorem sin_n (w h x y : Int) (b : Bool) (W : World) (e : Hid (b = inv w h x y)) : Calls Tryd.prog 55 #[.int .i64 w, .int .i64 h, .agg #[.int .i64 x, .int .i64 y]] W fun e w' => e = .returned (.bool b) ∧ Below W.heap.size W w' := by
  rw [e.out]; exact rin_any w h x y W
theorem sindex_n (w x y n : Int) (W : World) (e : Hid (n = indexv w x y)) : Calls Tryd.prog 34 #[.int .i64 w, .agg #[.int .i64 x, .int .i64 y]] W fun e w' => e = .returned (.int .i64 n) ∧ Below W.heap.size W w' := by
  rw [e.out]; exact rindex_any w x y W
theorem sstep_n (x y d u v : Int) (W : World) (e : Hid (u = stx x d ∧ v = sty y d)) : Calls Tryd.prog 25 #[.agg #[.int .i64 x, .int .i64 y], .int .i64 d] W fun e w' => e = .returned (.agg #[.int .i64 u, .int .i64 v]) ∧ Below W.heap.size W w' := by
  rw [e.out.1, e.out.2]; exact rstep_any x y d W
theorem neiv_len (w h x y : Int) : (neiv w h x y).length ≤ 8 := by
  unfold neiv
  split
  · exact neiGo_len w h x y 8 0
  · simp
/-- A small number. -/
theorem small {n : Int} (h : -1000000 ≤ n ∧ n ≤ 1000000) : I64 n := by unfold I64; omega
theorem owns_at {w : World} {B : Nat} {v : Value} {l : List (Int × Int)} (h : w.ownsRow B 26 2 v l.length (pcells l)) (h0 : 1 ≤ l.length) : ∃ g cap, v = .slice (some ⟨g, 0, none⟩) l.length cap ∧ g < w.heap.size := by
  rcases h.2 with ⟨_, e⟩ | ⟨g, cap, cur, rfl, _, hg, _⟩
  · omega
  · exact ⟨g, cap, rfl, (Array.getElem?_eq_some_iff.1 hg).1⟩
theorem ex_clip : clipv 4 4 ⟨-1, 2, 3, 9⟩ = ⟨0, 2, 2, 2⟩ := by
  unfold clipv common R4.nrm nr
  dsimp only
  rw [if_neg (by omega), if_neg (by omega)]
  simp only [R4.mk.injEq]
  omega
theorem Held1.env2 {w W : World} {b : Nat} {p q : Value} {t : TypeId} (h : W.cell? ⟨b, 0, none⟩ = some p ∧ W.cell? ⟨b, 1, none⟩ = some q ∧ Held1 w W b [p, q] t) : Below w.heap.size w W := h.2.2.old
theorem Held2.env22 {w W : World} {b c : Nat} {p q u v : Value} {t s : TypeId} (h : W.cell? ⟨b, 0, none⟩ = some p ∧ W.cell? ⟨b, 1, none⟩ = some q ∧ W.cell? ⟨c, 0, none⟩ = some u ∧ W.cell? ⟨c, 1, none⟩ = some v ∧ Held2 w W b c [p, q] [u, v] t s) : Below w.heap.size w W := h.2.2.2.2.old
end Go.Proofs.YtlpccjklgbfpaaaDoor
