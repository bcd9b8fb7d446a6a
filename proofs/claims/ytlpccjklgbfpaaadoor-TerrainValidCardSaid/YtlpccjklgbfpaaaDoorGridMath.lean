/-
  The numbers of layer 6: cells, directions, distances, rectangles. No program is named here.
-/
import Derived.WalkKit
import Derived.IntWalk
import Derived.WalkSpells
import Derived.Lib.Hide
namespace Go.Proofs.YtlpccjklgbfpaaaDoor
open Go.RowKit Go.Lib

/-- The nearest number from -2^20 to 2^20. -/
def nr (n : Int) : Int := max (-1048576) (min n 1048576)
theorem nr_bd (n : Int) : -1048576 ≤ nr n ∧ nr n ≤ 1048576 := by unfold nr; omega
theorem nr_in {n : Int} (h : -1048576 ≤ n) (h2 : n ≤ 1048576) : nr n = n := by unfold nr; omega
theorem nr_mul (x u : Int) : -1099511627776 ≤ nr x * nr u ∧ nr x * nr u ≤ 1099511627776 := by
  have h1 := nr_bd x
  have h2 := nr_bd u
  generalize nr x = a at *
  generalize nr u = b at *
  have e : (a * b).natAbs = a.natAbs * b.natAbs := Int.natAbs_mul a b
  have h : a.natAbs * b.natAbs ≤ 1048576 * 1048576 := Nat.mul_le_mul (by omega) (by omega)
  rw [← e] at h
  generalize a * b = c at *
  omega
def absv (n : Int) : Int := max n (-n)
def validv (w h : Int) : Bool := decide (1 ≤ w ∧ w ≤ 32 ∧ 1 ≤ h ∧ h ≤ 32)
def inv (w h x y : Int) : Bool := decide (0 ≤ x ∧ x < w ∧ 0 ≤ y ∧ y < h)
def indexv (w x y : Int) : Int := nr y * nr w + nr x
def atx (w i : Int) : Int := if w < 1 ∨ i < 0 then 0 else i % w
def aty (w i : Int) : Int := if w < 1 ∨ i < 0 then 0 else i / w
/-- The displacement of a direction. -/
def shx (d : Int) : Int := if d = 0 ∨ d = 1 ∨ d = 7 then 1 else if d = 3 ∨ d = 4 ∨ d = 5 then -1 else 0
def shy (d : Int) : Int := if d = 1 ∨ d = 2 ∨ d = 3 then 1 else if d = 5 ∨ d = 6 ∨ d = 7 then -1 else 0
def stx (x d : Int) : Int := if d < 0 ∨ 7 < d then x else nr x + shx d
def sty (y d : Int) : Int := if d < 0 ∨ 7 < d then y else nr y + shy d
/-- The neighbors from the direction d on, k of them asked. -/
def neiGo (w h x y : Int) : Nat → Nat → List (Int × Int)
  | 0, _ => []
  | k + 1, d => if inv w h (stx x d) (sty y d) = true then (stx x d, sty y d) :: neiGo w h x y k (d + 1) else neiGo w h x y k (d + 1)
def neiv (w h x y : Int) : List (Int × Int) := if validv w h = true then neiGo w h x y 8 0 else []
def octv (x y u v : Int) : Int :=
  14 * min (absv (nr x - nr u)) (absv (nr y - nr v)) + 10 * (max (absv (nr x - nr u)) (absv (nr y - nr v)) - min (absv (nr x - nr u)) (absv (nr y - nr v)))
def chebv (x y u v : Int) : Int := max (absv (nr x - nr u)) (absv (nr y - nr v))

/-- A rectangle: X, Y, W, H. -/
structure R4 where
  x : Int
  y : Int
  w : Int
  h : Int
def R4.nrm (r : R4) : R4 := ⟨nr r.x, nr r.y, nr r.w, nr r.h⟩
def R4.val (r : R4) : Value := .agg #[.int .i64 r.x, .int .i64 r.y, .int .i64 r.w, .int .i64 r.h]
def R4.zero : R4 := ⟨0, 0, 0, 0⟩
/-- The common cells of two rectangles that lie within the limits. -/
def common (a b : R4) : R4 :=
  if a.w < 1 ∨ a.h < 1 ∨ b.w < 1 ∨ b.h < 1 then R4.zero else
  if min (a.x + a.w) (b.x + b.w) - max a.x b.x < 1 ∨ min (a.y + a.h) (b.y + b.h) - max a.y b.y < 1 then R4.zero else
  ⟨max a.x b.x, max a.y b.y, min (a.x + a.w) (b.x + b.w) - max a.x b.x, min (a.y + a.h) (b.y + b.h) - max a.y b.y⟩
def insv (r : R4) (x y : Int) : Bool := decide (r.nrm.x ≤ nr x ∧ nr x < r.nrm.x + r.nrm.w ∧ r.nrm.y ≤ nr y ∧ nr y < r.nrm.y + r.nrm.h)
def clipv (w h : Int) (r : R4) : R4 := common (R4.nrm ⟨0, 0, w, h⟩) r.nrm
def meetv (a b : R4) : Bool := decide (0 < (common a.nrm b.nrm).w)
/-- The cells of a row of a rectangle, and of all rows. -/
def rowGo (x y : Int) : Nat → Nat → List (Int × Int)
  | 0, _ => []
  | k + 1, i => (x + i, y) :: rowGo x y k (i + 1)
def rowsGo (x y : Int) (w : Nat) : Nat → Nat → List (Int × Int)
  | 0, _ => []
  | k + 1, j => rowGo x (y + j) w 0 ++ rowsGo x y w k (j + 1)
def cellsv (r : R4) : List (Int × Int) :=
  if r.nrm.w < 1 ∨ r.nrm.h < 1 ∨ 1024 < r.nrm.w * r.nrm.h then [] else rowsGo r.nrm.x r.nrm.y r.nrm.w.toNat r.nrm.h.toNat 0

/-- A list of cells, as memory holds it. -/
def pcells (l : List (Int × Int)) : List Value := l.flatMap fun p => [.int .i64 p.1, .int .i64 p.2]
theorem pcells_nil : pcells [] = [] := rfl
theorem pcells_snoc (l : List (Int × Int)) (x y : Int) : pcells l ++ [.int .i64 x, .int .i64 y] = pcells (l ++ [(x, y)]) := by
  unfold pcells; rw [List.flatMap_append]; rfl
theorem pcells_len (l : List (Int × Int)) : (pcells l).length = l.length * 2 := by
  induction l with
  | nil => rfl
  | cons p l ih => 
    show ([Value.int .i64 p.1, Value.int .i64 p.2] ++ pcells l).length = _
    rw [List.length_append, ih, List.length_cons]; simp; omega
theorem pcells_at (l : List (Int × Int)) (i : Nat) (h : i < l.length) : (pcells l)[2 * i]? = some (.int .i64 (l[i]'h).1) ∧ (pcells l)[2 * i + 1]? = some (.int .i64 (l[i]'h).2) := by
  induction l generalizing i with
  | nil => simp at h
  | cons p l ih =>
    cases i with
    | zero => exact ⟨rfl, rfl⟩
    | succ i =>
      have e := ih i (by simpa using h)
      exact e

end Go.Proofs.YtlpccjklgbfpaaaDoor
