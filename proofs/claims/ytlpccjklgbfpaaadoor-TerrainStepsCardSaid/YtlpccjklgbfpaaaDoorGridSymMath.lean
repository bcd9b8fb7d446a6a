/-
  Distances are symmetrical and satisfy the triangle inequality; opposite steps. No program is named here.
-/
import Derived.Test.YtlpccjklgbfpaaaDoorGridMath
namespace Go.Proofs.YtlpccjklgbfpaaaDoor
open Go.RowKit Go.Lib

theorem abs_sub (a b : Int) : absv (a - b) = absv (b - a) := by unfold absv; omega
theorem oct_symm (x y u v : Int) : octv x y u v = octv u v x y := by
  unfold octv; rw [abs_sub (nr x), abs_sub (nr y)]
theorem cheb_symm (x y u v : Int) : chebv x y u v = chebv u v x y := by
  unfold chebv; rw [abs_sub (nr x), abs_sub (nr y)]
theorem abs_tri (a b c : Int) : absv (a - c) ≤ absv (a - b) + absv (b - c) ∧ 0 ≤ absv (a - c) := by unfold absv; omega
theorem oct_gen (a b c d e f : Int) (_a0 : 0 ≤ a) (_b0 : 0 ≤ b) (_c0 : 0 ≤ c) (_d0 : 0 ≤ d) (_e0 : 0 ≤ e) (_f0 : 0 ≤ f) (h1 : e ≤ a + c) (h2 : f ≤ b + d) :
    14 * min e f + 10 * (max e f - min e f) ≤ 14 * min a b + 10 * (max a b - min a b) + (14 * min c d + 10 * (max c d - min c d)) := by omega
theorem oct_tri (x y p q u v : Int) : octv x y u v ≤ octv x y p q + octv p q u v := by
  unfold octv
  have h1 := abs_tri (nr x) (nr p) (nr u)
  have h2 := abs_tri (nr y) (nr q) (nr v)
  exact oct_gen _ _ _ _ _ _ (abs_tri _ (nr p) _).2 (abs_tri _ (nr q) _).2 (abs_tri _ (nr p) _).2 (abs_tri _ (nr q) _).2 h1.2 h2.2 h1.1 h2.1
theorem cheb_tri (x y p q u v : Int) : chebv x y u v ≤ chebv x y p q + chebv p q u v := by
  unfold chebv
  have h1 := abs_tri (nr x) (nr p) (nr u)
  have h2 := abs_tri (nr y) (nr q) (nr v)
  omega
theorem oct_bd (x y u v : Int) : 0 ≤ octv x y u v ∧ octv x y u v ≤ 58720256 := by
  unfold octv
  have a := nr_bd x; have b := nr_bd y; have c := nr_bd u; have d := nr_bd v
  have h1 : 0 ≤ absv (nr x - nr u) ∧ absv (nr x - nr u) ≤ 2097152 := by unfold absv; omega
  have h2 : 0 ≤ absv (nr y - nr v) ∧ absv (nr y - nr v) ≤ 2097152 := by unfold absv; omega
  omega
theorem cheb_bd (x y u v : Int) : 0 ≤ chebv x y u v ∧ chebv x y u v ≤ 2097152 := by
  unfold chebv
  have a := nr_bd x; have b := nr_bd y; have c := nr_bd u; have d := nr_bd v
  have h1 : 0 ≤ absv (nr x - nr u) ∧ absv (nr x - nr u) ≤ 2097152 := by unfold absv; omega
  have h2 : 0 ≤ absv (nr y - nr v) ∧ absv (nr y - nr v) ≤ 2097152 := by unfold absv; omega
  omega
/-- A coordinate of the law. -/
def Co (n : Int) : Prop := -1000 ≤ n ∧ n ≤ 1000
theorem co_nr {n : Int} (h : Co n) : nr n = n := nr_in (by have := h.1; omega) (by have := h.2; omega)
theorem oct_zero {x y u v : Int} (hx : Co x) (hy : Co y) (hu : Co u) (hv : Co v) : octv x y u v = 0 ↔ x = u ∧ y = v := by
  unfold octv absv
  rw [co_nr hx, co_nr hy, co_nr hu, co_nr hv]
  omega
theorem dir_cases {d : Int} (h : 0 ≤ d ∧ d ≤ 7) : d = 0 ∨ d = 1 ∨ d = 2 ∨ d = 3 ∨ d = 4 ∨ d = 5 ∨ d = 6 ∨ d = 7 := by omega
theorem sh_all {d : Int} (h : 0 ≤ d ∧ d ≤ 7) : (-1 ≤ shx d ∧ shx d ≤ 1 ∧ -1 ≤ shy d ∧ shy d ≤ 1) ∧ shx ((d + 4) % 8) = -shx d ∧ shy ((d + 4) % 8) = -shy d ∧ max (absv (shx d)) (absv (shy d)) = 1 ∧ absv (shx d) + absv (shy d) = 1 + d % 2 := by
  rcases dir_cases h with rfl | rfl | rfl | rfl | rfl | rfl | rfl | rfl <;> decide
theorem step_there {x y d : Int} (hx : Co x) (hy : Co y) (h : 0 ≤ d ∧ d ≤ 7) :
    stx (stx x d) ((d + 4) % 8) = x ∧ sty (sty y d) ((d + 4) % 8) = y ∧ octv x y (stx x d) (sty y d) = 10 + d % 2 * 4 ∧ chebv x y (stx x d) (sty y d) = 1 ∧ -2000 ≤ stx x d ∧ stx x d ≤ 2000 ∧ -2000 ≤ sty y d ∧ sty y d ≤ 2000 := by
  obtain ⟨⟨s1, s2, s3, s4⟩, s5, s6, s7, s8⟩ := sh_all h
  have n1 : ¬ (d < 0 ∨ 7 < d) := by omega
  have n2 : ¬ ((d + 4) % 8 < 0 ∨ 7 < (d + 4) % 8) := by omega
  have ex : stx x d = x + shx d := by unfold stx; rw [if_neg n1, co_nr hx]
  have ey : sty y d = y + shy d := by unfold sty; rw [if_neg n1, co_nr hy]
  obtain ⟨x0, x1⟩ := hx
  obtain ⟨y0, y1⟩ := hy
  have nx : nr (x + shx d) = x + shx d := nr_in (by omega) (by omega)
  have ny : nr (y + shy d) = y + shy d := nr_in (by omega) (by omega)
  have mx : nr x = x := nr_in (by omega) (by omega)
  have my : nr y = y := nr_in (by omega) (by omega)
  have a1 : absv (x - (x + shx d)) = absv (shx d) := by unfold absv; omega
  have a2 : absv (y - (y + shy d)) = absv (shy d) := by unfold absv; omega
  rw [ex, ey]
  refine ⟨?_, ?_, ?_, ?_, by omega, by omega, by omega, by omega⟩
  · unfold stx; rw [if_neg n2, nx, s5]; omega
  · unfold sty; rw [if_neg n2, ny, s6]; omega
  · unfold octv; rw [mx, my, nx, ny, a1, a2]; omega
  · unfold chebv; rw [mx, my, nx, ny, a1, a2]; exact s7

end Go.Proofs.YtlpccjklgbfpaaaDoor
