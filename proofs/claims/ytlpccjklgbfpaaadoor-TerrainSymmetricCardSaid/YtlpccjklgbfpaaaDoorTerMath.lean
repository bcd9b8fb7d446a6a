/-
  The numbers of layer 7: maps of cells, what is passable, steps and their costs. No program is named here.
-/
import Derived.Test.YtlpccjklgbfpaaaDoorGridMath
namespace Go.Proofs.YtlpccjklgbfpaaaDoor
open Go.RowKit Go.Lib

/-- A cell of the terrain, and a map of them. -/
structure C3 where
  k : Int
  h : Int
  a : Int
deriving DecidableEq
def C3.zero : C3 := ⟨0, 0, 0⟩
def C3.val (c : C3) : Value := .agg #[.int .i64 c.k, .int .i64 c.h, .int .i64 c.a]
structure M3 where
  w : Int
  h : Int
  cs : List C3
def formedv (m : M3) : Bool := validv m.w m.h && decide ((m.cs.length : Int) = m.w * m.h)
def insidev (m : M3) (x y : Int) : Bool := formedv m && inv m.w m.h x y
def validc (c : C3) : Bool :=
  decide (1 ≤ c.k ∧ c.k ≤ 5 ∧ 0 ≤ c.h ∧ c.h ≤ 3 ∧ 0 ≤ c.a ∧ c.a ≤ 1000000) && (decide (0 < c.a) == decide (c.k = 4 ∨ c.k = 5))
def validm (m : M3) : Bool := formedv m && m.cs.all validc
/-- The cell at a position, the zero cell where there is none. -/
def getv (m : M3) (x y : Int) : C3 := if insidev m x y = true then m.cs.getD (indexv m.w x y).toNat C3.zero else C3.zero
def withv (m : M3) (x y : Int) (c : C3) : M3 := ⟨m.w, m.h, m.cs.set (indexv m.w x y).toNat c⟩
def passv (m : M3) (q x y : Int) : Bool :=
  if q = 1 then insidev m x y && decide ((getv m x y).k = 1 ∨ (getv m x y).k = 5) else
  if q = 2 then insidev m x y && decide ((getv m x y).k = 1 ∨ (getv m x y).k = 5 ∨ (getv m x y).k = 2) else
  if q = 3 then insidev m x y else false
def opaquev (m : M3) (x y : Int) : Bool := !insidev m x y || decide ((getv m x y).k = 3 ∨ (getv m x y).k = 4)
def openv (m : M3) (b : List Bool) (q x y : Int) : Bool := passv m q x y && (decide (q = 3) || !(b.getD (indexv m.w x y).toNat false))
/-- The difference of two heights, 2 where it is more than 1. -/
def risev (g h : Int) : Int := if max g h = min g h then 0 else if max g h - 1 = min g h then 1 else 2
def nearv (m : M3) (b : List Bool) (q x y u v : Int) : Bool :=
  openv m b q x y && openv m b q u v && (decide (q = 3) || decide (risev (getv m x y).h (getv m u v).h < 2))
/-- Is a step possible, and at which cost? -/
def mayv (m : M3) (b : List Bool) (q x y d : Int) : Bool :=
  decide (0 ≤ d ∧ d ≤ 7) && nearv m b q x y (stx x d) (sty y d) &&
    (decide (d % 2 = 0) || decide (q = 3) || (nearv m b q x y x (sty y d) && nearv m b q x (sty y d) (stx x d) (sty y d) && nearv m b q x y (stx x d) y && nearv m b q (stx x d) y (stx x d) (sty y d)))
def costv (m : M3) (b : List Bool) (q x y d : Int) : Int :=
  if mayv m b q x y d = true then (if d % 2 = 1 then 14 else 10) + (if q ≠ 3 ∧ risev (getv m x y).h (getv m (stx x d) (sty y d)).h = 1 then 5 else 0) else 0
def samev (a b : M3) : Bool := decide (a.w = b.w ∧ a.h = b.h ∧ a.cs = b.cs)
/-- A map with another cell; with less at a cell. -/
def M3.zero : M3 := ⟨0, 0, []⟩
def setv (m : M3) (x y : Int) (c : C3) : M3 × Int :=
  if validm m = true ∧ validc c = true then (if insidev m x y = true then (withv m x y c, 0) else (M3.zero, 8)) else (M3.zero, 1)
def lessv (c : C3) (n : Int) : C3 := ⟨if c.a - min n c.a = 0 then 1 else c.k, c.h, c.a - min n c.a⟩
def takev (m : M3) (x y n : Int) : M3 × Int × Int :=
  if validm m = true ∧ 1 ≤ n then (if insidev m x y = true ∧ (getv m x y).a ≠ 0 then (withv m x y (lessv (getv m x y) n), min n (getv m x y).a, 0) else (M3.zero, 0, 8)) else (M3.zero, 0, 1)

/-- Cells as memory holds them. -/
def ccells (l : List C3) : List Value := l.flatMap fun c => [.int .i64 c.k, .int .i64 c.h, .int .i64 c.a]
theorem ccells_len (l : List C3) : (ccells l).length = l.length * 3 := by
  induction l with
  | nil => rfl
  | cons p l ih =>
    show ([Value.int .i64 p.k, Value.int .i64 p.h, Value.int .i64 p.a] ++ ccells l).length = _
    rw [List.length_append, ih, List.length_cons]; simp; omega
theorem ccells_at (l : List C3) (i : Nat) (h : i < l.length) : (ccells l)[i * 3]? = some (.int .i64 (l[i]'h).k) ∧ (ccells l)[i * 3 + 1]? = some (.int .i64 (l[i]'h).h) ∧ (ccells l)[i * 3 + 2]? = some (.int .i64 (l[i]'h).a) := by
  induction l generalizing i with
  | nil => simp at h
  | cons p l ih =>
    cases i with
    | zero => exact ⟨rfl, rfl, rfl⟩
    | succ i =>
      have e := ih i (by simpa using h)
      rw [Nat.succ_mul]
      exact e
theorem ccells_snoc (l : List C3) (c : C3) : ccells l ++ [.int .i64 c.k, .int .i64 c.h, .int .i64 c.a] = ccells (l ++ [c]) := by
  unfold ccells; rw [List.flatMap_append]; rfl
/-- Where a position inside lies. -/
theorem inside_at {m : M3} {x y : Int} (h : insidev m x y = true) :
    ∃ (X Y a b : Nat), m.w = X ∧ m.h = Y ∧ x = a ∧ y = b ∧ a < X ∧ b < Y ∧ X ≤ 32 ∧ Y ≤ 32 ∧ m.cs.length = X * Y ∧ indexv m.w x y = ((b * X + a : Nat) : Int) ∧ b * X + a < m.cs.length := by
  unfold insidev formedv validv inv at h
  rw [Bool.and_eq_true, Bool.and_eq_true, decide_eq_true_iff, decide_eq_true_iff, decide_eq_true_iff] at h
  obtain ⟨⟨⟨w1, w2, h1, h2⟩, hl⟩, x0, x1, y0, y1⟩ := h
  obtain ⟨X, hX⟩ := Int.eq_ofNat_of_zero_le (show 0 ≤ m.w by omega)
  obtain ⟨Y, hY⟩ := Int.eq_ofNat_of_zero_le (show 0 ≤ m.h by omega)
  obtain ⟨a, rfl⟩ := Int.eq_ofNat_of_zero_le x0
  obtain ⟨b, rfl⟩ := Int.eq_ofNat_of_zero_le y0
  rw [hX, hY, ← Int.natCast_mul] at hl
  have hl' : m.cs.length = X * Y := by omega
  have hb : b < Y := by omega
  have ha : a < X := by omega
  have hm : (b + 1) * X ≤ Y * X := Nat.mul_le_mul_right X hb
  rw [Nat.succ_mul, Nat.mul_comm Y X] at hm
  refine ⟨X, Y, a, b, hX, hY, rfl, rfl, ha, hb, by omega, by omega, hl', ?_, by omega⟩
  unfold indexv
  rw [hX, nr_in (n := (b : Int)) (by omega) (by omega), nr_in (n := (a : Int)) (by omega) (by omega), nr_in (n := (X : Int)) (by omega) (by omega), ← Int.natCast_mul, ← Int.natCast_add]

end Go.Proofs.YtlpccjklgbfpaaaDoor
