/-
  The numbers of grid and terrain.
-/
import Derived.WalkKit
import Derived.IntWalk
import Derived.WalkSpells
import Derived.Lib.Hide
namespace Go.Proofs.YtpgchjhfhndaaaaGreatDoor

section
open Go.RowKit Go.Lib

/-- The nearest number from -2^20 to 2^20. -/
def nr (n : Int) : Int := max (-1048576) (min n 1048576)
theorem nr_bd (n : Int) : -1048576 ≤ nr n ∧ nr n ≤ 1048576 := by unfold nr; omega
theorem nr_in {n : Int} (h : -1048576 ≤ n) (h2 : n ≤ 1048576) : nr n = n := by unfold nr; omega
theorem nr_mul (x u : Int) : -1099511627776 ≤ nr x * nr u ∧ nr x * nr u ≤ 1099511627776 := by
  have h1 := nr_bd x
  have h2 := nr_bd u
  generalize nr x = a at *
  generalize nr u = b at *
  have e : (a * b).natAbs = a.natAbs * b.natAbs := Int.natAbs_mul a b
  have h : a.natAbs * b.natAbs ≤ 1048576 * 1048576 := Nat.mul_le_mul (by omega) (by omega)
  rw [← e] at h
  generalize a * b = c at *
  omega
def absv (n : Int) : Int := max n (-n)
def validv (w h : Int) : Bool := decide (1 ≤ w ∧ w ≤ 32 ∧ 1 ≤ h ∧ h ≤ 32)
def inv (w h x y : Int) : Bool := decide (0 ≤ x ∧ x < w ∧ 0 ≤ y ∧ y < h)
def indexv (w x y : Int) : Int := nr y * nr w + nr x
def atx (w i : Int) : Int := if w < 1 ∨ i < 0 then 0 else i % w
def aty (w i : Int) : Int := if w < 1 ∨ i < 0 then 0 else i / w
/-- The displacement of a direction. -/
def shx (d : Int) : Int := if d = 0 ∨ d = 1 ∨ d = 7 then 1 else if d = 3 ∨ d = 4 ∨ d = 5 then -1 else 0
def shy (d : Int) : Int := if d = 1 ∨ d = 2 ∨ d = 3 then 1 else if d = 5 ∨ d = 6 ∨ d = 7 then -1 else 0
def stx (x d : Int) : Int := if d < 0 ∨ 7 < d then x else nr x + shx d
def sty (y d : Int) : Int := if d < 0 ∨ 7 < d then y else nr y + shy d
/-- The neighbors from the direction d on, k of them asked. -/
def neiGo (w h x y : Int) : Nat → Nat → List (Int × Int)
  | 0, _ => []
  | k + 1, d => if inv w h (stx x d) (sty y d) = true then (stx x d, sty y d) :: neiGo w h x y k (d + 1) else neiGo w h x y k (d + 1)
def neiv (w h x y : Int) : List (Int × Int) := if validv w h = true then neiGo w h x y 8 0 else []
def octv (x y u v : Int) : Int :=
  14 * min (absv (nr x - nr u)) (absv (nr y - nr v)) + 10 * (max (absv (nr x - nr u)) (absv (nr y - nr v)) - min (absv (nr x - nr u)) (absv (nr y - nr v)))
def chebv (x y u v : Int) : Int := max (absv (nr x - nr u)) (absv (nr y - nr v))

/-- A rectangle: X, Y, W, H. -/
structure R4 where
  x : Int
  y : Int
  w : Int
  h : Int
def R4.nrm (r : R4) : R4 := ⟨nr r.x, nr r.y, nr r.w, nr r.h⟩
def R4.val (r : R4) : Value := .agg #[.int .i64 r.x, .int .i64 r.y, .int .i64 r.w, .int .i64 r.h]
def R4.zero : R4 := ⟨0, 0, 0, 0⟩
/-- The common cells of two rectangles that lie within the limits. -/
def common (a b : R4) : R4 :=
  if a.w < 1 ∨ a.h < 1 ∨ b.w < 1 ∨ b.h < 1 then R4.zero else
  if min (a.x + a.w) (b.x + b.w) - max a.x b.x < 1 ∨ min (a.y + a.h) (b.y + b.h) - max a.y b.y < 1 then R4.zero else
  ⟨max a.x b.x, max a.y b.y, min (a.x + a.w) (b.x + b.w) - max a.x b.x, min (a.y + a.h) (b.y + b.h) - max a.y b.y⟩
def insv (r : R4) (x y : Int) : Bool := decide (r.nrm.x ≤ nr x ∧ nr x < r.nrm.x + r.nrm.w ∧ r.nrm.y ≤ nr y ∧ nr y < r.nrm.y + r.nrm.h)
def clipv (w h : Int) (r : R4) : R4 := common (R4.nrm ⟨0, 0, w, h⟩) r.nrm
def meetv (a b : R4) : Bool := decide (0 < (common a.nrm b.nrm).w)
/-- The cells of a row of a rectangle, and of all rows. -/
def rowGo (x y : Int) : Nat → Nat → List (Int × Int)
  | 0, _ => []
  | k + 1, i => (x + i, y) :: rowGo x y k (i + 1)
def rowsGo (x y : Int) (w : Nat) : Nat → Nat → List (Int × Int)
  | 0, _ => []
  | k + 1, j => rowGo x (y + j) w 0 ++ rowsGo x y w k (j + 1)
def cellsv (r : R4) : List (Int × Int) :=
  if r.nrm.w < 1 ∨ r.nrm.h < 1 ∨ 1024 < r.nrm.w * r.nrm.h then [] else rowsGo r.nrm.x r.nrm.y r.nrm.w.toNat r.nrm.h.toNat 0

/-- A list of cells, as memory holds it. -/
def pcells (l : List (Int × Int)) : List Value := l.flatMap fun p => [.int .i64 p.1, .int .i64 p.2]
theorem pcells_nil : pcells [] = [] := rfl
theorem pcells_snoc (l : List (Int × Int)) (x y : Int) : pcells l ++ [.int .i64 x, .int .i64 y] = pcells (l ++ [(x, y)]) := by
  unfold pcells; rw [List.flatMap_append]; rfl
theorem pcells_len (l : List (Int × Int)) : (pcells l).length = l.length * 2 := by
  induction l with
  | nil => rfl
  | cons p l ih => 
    show ([Value.int .i64 p.1, Value.int .i64 p.2] ++ pcells l).length = _
    rw [List.length_append, ih, List.length_cons]; simp; omega
theorem pcells_at (l : List (Int × Int)) (i : Nat) (h : i < l.length) : (pcells l)[2 * i]? = some (.int .i64 (l[i]'h).1) ∧ (pcells l)[2 * i + 1]? = some (.int .i64 (l[i]'h).2) := by
  induction l generalizing i with
  | nil => simp at h
  | cons p l ih =>
    cases i with
    | zero => exact ⟨rfl, rfl⟩
    | succ i =>
      have e := ih i (by simpa using h)
      exact e

end

section
open Go.RowKit Go.Lib

theorem abs_sub (a b : Int) : absv (a - b) = absv (b - a) := by unfold absv; omega
theorem oct_symm (x y u v : Int) : octv x y u v = octv u v x y := by
  unfold octv; rw [abs_sub (nr x), abs_sub (nr y)]
theorem cheb_symm (x y u v : Int) : chebv x y u v = chebv u v x y := by
  unfold chebv; rw [abs_sub (nr x), abs_sub (nr y)]
theorem abs_tri (a b c : Int) : absv (a - c) ≤ absv (a - b) + absv (b - c) ∧ 0 ≤ absv (a - c) := by unfold absv; omega
theorem oct_gen (a b c d e f : Int) (_a0 : 0 ≤ a) (_b0 : 0 ≤ b) (_c0 : 0 ≤ c) (_d0 : 0 ≤ d) (_e0 : 0 ≤ e) (_f0 : 0 ≤ f) (h1 : e ≤ a + c) (h2 : f ≤ b + d) :
    14 * min e f + 10 * (max e f - min e f) ≤ 14 * min a b + 10 * (max a b - min a b) + (14 * min c d + 10 * (max c d - min c d)) := by omega
theorem oct_tri (x y p q u v : Int) : octv x y u v ≤ octv x y p q + octv p q u v := by
  unfold octv
  have h1 := abs_tri (nr x) (nr p) (nr u)
  have h2 := abs_tri (nr y) (nr q) (nr v)
  exact oct_gen _ _ _ _ _ _ (abs_tri _ (nr p) _).2 (abs_tri _ (nr q) _).2 (abs_tri _ (nr p) _).2 (abs_tri _ (nr q) _).2 h1.2 h2.2 h1.1 h2.1
theorem cheb_tri (x y p q u v : Int) : chebv x y u v ≤ chebv x y p q + chebv p q u v := by
  unfold chebv
  have h1 := abs_tri (nr x) (nr p) (nr u)
  have h2 := abs_tri (nr y) (nr q) (nr v)
  omega
theorem oct_bd (x y u v : Int) : 0 ≤ octv x y u v ∧ octv x y u v ≤ 58720256 := by
  unfold octv
  have a := nr_bd x; have b := nr_bd y; have c := nr_bd u; have d := nr_bd v
  have h1 : 0 ≤ absv (nr x - nr u) ∧ absv (nr x - nr u) ≤ 2097152 := by unfold absv; omega
  have h2 : 0 ≤ absv (nr y - nr v) ∧ absv (nr y - nr v) ≤ 2097152 := by unfold absv; omega
  omega
theorem cheb_bd (x y u v : Int) : 0 ≤ chebv x y u v ∧ chebv x y u v ≤ 2097152 := by
  unfold chebv
  have a := nr_bd x; have b := nr_bd y; have c := nr_bd u; have d := nr_bd v
  have h1 : 0 ≤ absv (nr x - nr u) ∧ absv (nr x - nr u) ≤ 2097152 := by unfold absv; omega
  have h2 : 0 ≤ absv (nr y - nr v) ∧ absv (nr y - nr v) ≤ 2097152 := by unfold absv; omega
  omega
/-- A coordinate of the law. -/
def Co (n : Int) : Prop := -1000 ≤ n ∧ n ≤ 1000
theorem co_nr {n : Int} (h : Co n) : nr n = n := nr_in (by have := h.1; omega) (by have := h.2; omega)
theorem oct_zero {x y u v : Int} (hx : Co x) (hy : Co y) (hu : Co u) (hv : Co v) : octv x y u v = 0 ↔ x = u ∧ y = v := by
  unfold octv absv
  rw [co_nr hx, co_nr hy, co_nr hu, co_nr hv]
  omega
theorem dir_cases {d : Int} (h : 0 ≤ d ∧ d ≤ 7) : d = 0 ∨ d = 1 ∨ d = 2 ∨ d = 3 ∨ d = 4 ∨ d = 5 ∨ d = 6 ∨ d = 7 := by omega
theorem sh_all {d : Int} (h : 0 ≤ d ∧ d ≤ 7) : (-1 ≤ shx d ∧ shx d ≤ 1 ∧ -1 ≤ shy d ∧ shy d ≤ 1) ∧ shx ((d + 4) % 8) = -shx d ∧ shy ((d + 4) % 8) = -shy d ∧ max (absv (shx d)) (absv (shy d)) = 1 ∧ absv (shx d) + absv (shy d) = 1 + d % 2 := by
  rcases dir_cases h with rfl | rfl | rfl | rfl | rfl | rfl | rfl | rfl <;> decide
theorem step_there {x y d : Int} (hx : Co x) (hy : Co y) (h : 0 ≤ d ∧ d ≤ 7) :
    stx (stx x d) ((d + 4) % 8) = x ∧ sty (sty y d) ((d + 4) % 8) = y ∧ octv x y (stx x d) (sty y d) = 10 + d % 2 * 4 ∧ chebv x y (stx x d) (sty y d) = 1 ∧ -2000 ≤ stx x d ∧ stx x d ≤ 2000 ∧ -2000 ≤ sty y d ∧ sty y d ≤ 2000 := by
  obtain ⟨⟨s1, s2, s3, s4⟩, s5, s6, s7, s8⟩ := sh_all h
  have n1 : ¬ (d < 0 ∨ 7 < d) := by omega
  have n2 : ¬ ((d + 4) % 8 < 0 ∨ 7 < (d + 4) % 8) := by omega
  have ex : stx x d = x + shx d := by unfold stx; rw [if_neg n1, co_nr hx]
  have ey : sty y d = y + shy d := by unfold sty; rw [if_neg n1, co_nr hy]
  obtain ⟨x0, x1⟩ := hx
  obtain ⟨y0, y1⟩ := hy
  have nx : nr (x + shx d) = x + shx d := nr_in (by omega) (by omega)
  have ny : nr (y + shy d) = y + shy d := nr_in (by omega) (by omega)
  have mx : nr x = x := nr_in (by omega) (by omega)
  have my : nr y = y := nr_in (by omega) (by omega)
  have a1 : absv (x - (x + shx d)) = absv (shx d) := by unfold absv; omega
  have a2 : absv (y - (y + shy d)) = absv (shy d) := by unfold absv; omega
  rw [ex, ey]
  refine ⟨?_, ?_, ?_, ?_, by omega, by omega, by omega, by omega⟩
  · unfold stx; rw [if_neg n2, nx, s5]; omega
  · unfold sty; rw [if_neg n2, ny, s6]; omega
  · unfold octv; rw [mx, my, nx, ny, a1, a2]; omega
  · unfold chebv; rw [mx, my, nx, ny, a1, a2]; exact s7

end

section
open Go.RowKit Go.Lib

/-- A cell of the terrain, and a map of them. -/
structure C3 where
  k : Int
  h : Int
  a : Int
deriving DecidableEq
def C3.zero : C3 := ⟨0, 0, 0⟩
def C3.val (c : C3) : Value := .agg #[.int .i64 c.k, .int .i64 c.h, .int .i64 c.a]
structure M3 where
  w : Int
  h : Int
  cs : List C3
def formedv (m : M3) : Bool := validv m.w m.h && decide ((m.cs.length : Int) = m.w * m.h)
def insidev (m : M3) (x y : Int) : Bool := formedv m && inv m.w m.h x y
def validc (c : C3) : Bool :=
  decide (1 ≤ c.k ∧ c.k ≤ 5 ∧ 0 ≤ c.h ∧ c.h ≤ 3 ∧ 0 ≤ c.a ∧ c.a ≤ 1000000) && (decide (0 < c.a) == decide (c.k = 4 ∨ c.k = 5))
def validm (m : M3) : Bool := formedv m && m.cs.all validc
/-- The cell at a position, the zero cell where there is none. -/
def getv (m : M3) (x y : Int) : C3 := if insidev m x y = true then m.cs.getD (indexv m.w x y).toNat C3.zero else C3.zero
def withv (m : M3) (x y : Int) (c : C3) : M3 := ⟨m.w, m.h, m.cs.set (indexv m.w x y).toNat c⟩
def passv (m : M3) (q x y : Int) : Bool :=
  if q = 1 then insidev m x y && decide ((getv m x y).k = 1 ∨ (getv m x y).k = 5) else
  if q = 2 then insidev m x y && decide ((getv m x y).k = 1 ∨ (getv m x y).k = 5 ∨ (getv m x y).k = 2) else
  if q = 3 then insidev m x y else false
def opaquev (m : M3) (x y : Int) : Bool := !insidev m x y || decide ((getv m x y).k = 3 ∨ (getv m x y).k = 4)
def openv (m : M3) (b : List Bool) (q x y : Int) : Bool := passv m q x y && (decide (q = 3) || !(b.getD (indexv m.w x y).toNat false))
/-- The difference of two heights, 2 where it is more than 1. -/
def risev (g h : Int) : Int := if max g h = min g h then 0 else if max g h - 1 = min g h then 1 else 2
def nearv (m : M3) (b : List Bool) (q x y u v : Int) : Bool :=
  openv m b q x y && openv m b q u v && (decide (q = 3) || decide (risev (getv m x y).h (getv m u v).h < 2))
/-- Is a step possible, and at which cost? -/
def mayv (m : M3) (b : List Bool) (q x y d : Int) : Bool :=
  decide (0 ≤ d ∧ d ≤ 7) && nearv m b q x y (stx x d) (sty y d) &&
    (decide (d % 2 = 0) || decide (q = 3) || (nearv m b q x y x (sty y d) && nearv m b q x (sty y d) (stx x d) (sty y d) && nearv m b q x y (stx x d) y && nearv m b q (stx x d) y (stx x d) (sty y d)))
def costv (m : M3) (b : List Bool) (q x y d : Int) : Int :=
  if mayv m b q x y d = true then (if d % 2 = 1 then 14 else 10) + (if q ≠ 3 ∧ risev (getv m x y).h (getv m (stx x d) (sty y d)).h = 1 then 5 else 0) else 0
def samev (a b : M3) : Bool := decide (a.w = b.w ∧ a.h = b.h ∧ a.cs = b.cs)
/-- A map with another cell; with less at a cell. -/
def M3.zero : M3 := ⟨0, 0, []⟩
def setv (m : M3) (x y : Int) (c : C3) : M3 × Int :=
  if validm m = true ∧ validc c = true then (if insidev m x y = true then (withv m x y c, 0) else (M3.zero, 8)) else (M3.zero, 1)
def lessv (c : C3) (n : Int) : C3 := ⟨if c.a - min n c.a = 0 then 1 else c.k, c.h, c.a - min n c.a⟩
def takev (m : M3) (x y n : Int) : M3 × Int × Int :=
  if validm m = true ∧ 1 ≤ n then (if insidev m x y = true ∧ (getv m x y).a ≠ 0 then (withv m x y (lessv (getv m x y) n), min n (getv m x y).a, 0) else (M3.zero, 0, 8)) else (M3.zero, 0, 1)

/-- Cells as memory holds them. -/
def ccells (l : List C3) : List Value := l.flatMap fun c => [.int .i64 c.k, .int .i64 c.h, .int .i64 c.a]
theorem ccells_len (l : List C3) : (ccells l).length = l.length * 3 := by
  induction l with
  | nil => rfl
  | cons p l ih =>
    show ([Value.int .i64 p.k, Value.int .i64 p.h, Value.int .i64 p.a] ++ ccells l).length = _
    rw [List.length_append, ih, List.length_cons]; simp; omega
theorem ccells_at (l : List C3) (i : Nat) (h : i < l.length) : (ccells l)[i * 3]? = some (.int .i64 (l[i]'h).k) ∧ (ccells l)[i * 3 + 1]? = some (.int .i64 (l[i]'h).h) ∧ (ccells l)[i * 3 + 2]? = some (.int .i64 (l[i]'h).a) := by
  induction l generalizing i with
  | nil => simp at h
  | cons p l ih =>
    cases i with
    | zero => exact ⟨rfl, rfl, rfl⟩
    | succ i =>
      have e := ih i (by simpa using h)
      rw [Nat.succ_mul]
      exact e
theorem ccells_snoc (l : List C3) (c : C3) : ccells l ++ [.int .i64 c.k, .int .i64 c.h, .int .i64 c.a] = ccells (l ++ [c]) := by
  unfold ccells; rw [List.flatMap_append]; rfl
/-- Where a position inside lies. -/
theorem inside_at {m : M3} {x y : Int} (h : insidev m x y = true) :
    ∃ (X Y a b : Nat), m.w = X ∧ m.h = Y ∧ x = a ∧ y = b ∧ a < X ∧ b < Y ∧ X ≤ 32 ∧ Y ≤ 32 ∧ m.cs.length = X * Y ∧ indexv m.w x y = ((b * X + a : Nat) : Int) ∧ b * X + a < m.cs.length := by
  unfold insidev formedv validv inv at h
  rw [Bool.and_eq_true, Bool.and_eq_true, decide_eq_true_iff, decide_eq_true_iff, decide_eq_true_iff] at h
  obtain ⟨⟨⟨w1, w2, h1, h2⟩, hl⟩, x0, x1, y0, y1⟩ := h
  obtain ⟨X, hX⟩ := Int.eq_ofNat_of_zero_le (show 0 ≤ m.w by omega)
  obtain ⟨Y, hY⟩ := Int.eq_ofNat_of_zero_le (show 0 ≤ m.h by omega)
  obtain ⟨a, rfl⟩ := Int.eq_ofNat_of_zero_le x0
  obtain ⟨b, rfl⟩ := Int.eq_ofNat_of_zero_le y0
  rw [hX, hY, ← Int.natCast_mul] at hl
  have hl' : m.cs.length = X * Y := by omega
  have hb : b < Y := by omega
  have ha : a < X := by omega
  have hm : (b + 1) * X ≤ Y * X := Nat.mul_le_mul_right X hb
  rw [Nat.succ_mul, Nat.mul_comm Y X] at hm
  refine ⟨X, Y, a, b, hX, hY, rfl, rfl, ha, hb, by omega, by omega, hl', ?_, by omega⟩
  unfold indexv
  rw [hX, nr_in (n := (b : Int)) (by omega) (by omega), nr_in (n := (a : Int)) (by omega) (by omega), nr_in (n := (X : Int)) (by omega) (by omega), ← Int.natCast_mul, ← Int.natCast_add]

end

section
open Go.RowKit Go.Lib

theorem rise_sym (g h : Int) : risev g h = risev h g := by unfold risev; rw [Int.max_comm, Int.min_comm]
theorem near_sym (m : M3) (b : List Bool) (q x y u v : Int) : nearv m b q x y u v = nearv m b q u v x y := by
  unfold nearv; rw [rise_sym, Bool.and_comm (openv m b q x y)]
theorem open_inside {m : M3} {b : List Bool} {q x y : Int} (h : openv m b q x y = true) : insidev m x y = true := by
  unfold openv at h
  rw [Bool.and_eq_true] at h
  have h := h.1
  unfold passv at h
  cases hi : insidev m x y with
  | true => rfl
  | false => rw [hi] at h; simp at h
theorem inside_in {m : M3} {x y : Int} (h : insidev m x y = true) : inv m.w m.h x y = true ∧ (0 ≤ x ∧ x ≤ 31) ∧ (0 ≤ y ∧ y ≤ 31) := by
  have h2 := h
  unfold insidev at h
  rw [Bool.and_eq_true] at h
  obtain ⟨X, Y, a, b, e1, e2, e3, e4, ha, hb, hX, hY, _⟩ := inside_at h2
  exact ⟨h.2, ⟨by omega, by omega⟩, ⟨by omega, by omega⟩⟩
theorem near_in {m : M3} {b : List Bool} {q x y u v : Int} (h : nearv m b q x y u v = true) : insidev m x y = true ∧ insidev m u v = true := by
  unfold nearv at h
  rw [Bool.and_eq_true, Bool.and_eq_true] at h
  exact ⟨open_inside h.1.1, open_inside h.1.2⟩
theorem may_near {m : M3} {b : List Bool} {q x y d : Int} (h : mayv m b q x y d = true) : nearv m b q x y (stx x d) (sty y d) = true := by
  unfold mayv at h
  rw [Bool.and_eq_true, Bool.and_eq_true] at h
  exact h.1.2
theorem co_of {n : Int} (h : 0 ≤ n ∧ n ≤ 31) : Co n := ⟨by omega, by omega⟩

theorem may_dir {m : M3} {b : List Bool} {q x y d : Int} (hd : 0 ≤ d ∧ d ≤ 7) (h : mayv m b q x y d = true) :
    mayv m b q (stx x d) (sty y d) ((d + 4) % 8) = true ∧ costv m b q (stx x d) (sty y d) ((d + 4) % 8) = costv m b q x y d ∧ stx (stx x d) ((d + 4) % 8) = x ∧ sty (sty y d) ((d + 4) % 8) = y := by
  have hn := may_near h
  obtain ⟨h1, _⟩ := near_in hn
  obtain ⟨_, hx, hy⟩ := inside_in h1
  obtain ⟨bx, hby, _⟩ := step_there (co_of hx) (co_of hy) hd
  have hm : mayv m b q (stx x d) (sty y d) ((d + 4) % 8) = true := by
    unfold mayv at h ⊢
    rw [bx, hby]
    rw [Bool.and_eq_true, Bool.and_eq_true] at h ⊢
    obtain ⟨⟨_, _⟩, h3⟩ := h
    refine ⟨⟨decide_eq_true (by omega), by rw [near_sym]; exact hn⟩, ?_⟩
    rw [Bool.or_eq_true, Bool.or_eq_true, Bool.and_eq_true, Bool.and_eq_true, Bool.and_eq_true] at h3 ⊢
    rcases h3 with (h3 | h3) | ⟨⟨⟨a, c⟩, e⟩, g⟩
    · exact .inl (.inl (decide_eq_true (by have := of_decide_eq_true h3; omega)))
    · exact .inl (.inr h3)
    · refine .inr ⟨⟨⟨?_, ?_⟩, ?_⟩, ?_⟩
      · rw [near_sym]; exact g
      · rw [near_sym]; exact e
      · rw [near_sym]; exact c
      · rw [near_sym]; exact a
  refine ⟨hm, ?_, bx, hby⟩
  unfold costv
  rw [if_pos hm, if_pos h, bx, hby, rise_sym, show (d + 4) % 8 % 2 = d % 2 by omega]
theorem may_both (m : M3) (b : List Bool) (q x y d : Int) (hd : 0 ≤ d ∧ d ≤ 7) :
    mayv m b q (stx x d) (sty y d) ((d + 4) % 8) = mayv m b q x y d ∧ costv m b q (stx x d) (sty y d) ((d + 4) % 8) = costv m b q x y d := by
  cases h : mayv m b q x y d with
  | true => have := may_dir hd h; exact ⟨this.1, this.2.1⟩
  | false =>
    have hm : mayv m b q (stx x d) (sty y d) ((d + 4) % 8) = false := by
      cases h2 : mayv m b q (stx x d) (sty y d) ((d + 4) % 8) with
      | false => rfl
      | true =>
        exfalso
        have hd2 : 0 ≤ (d + 4) % 8 ∧ (d + 4) % 8 ≤ 7 := by omega
        have h3 := may_dir hd2 h2
        obtain ⟨i1, i2⟩ := near_in (may_near h2)
        obtain ⟨_, hx1, hy1⟩ := inside_in i1
        obtain ⟨_, hx2, hy2⟩ := inside_in i2
        obtain ⟨_, s5, s6, _⟩ := sh_all hd
        have n1 : ¬ (d < 0 ∨ 7 < d) := by omega
        have n2 : ¬ ((d + 4) % 8 < 0 ∨ 7 < (d + 4) % 8) := by omega
        have ex : stx x d = nr x + shx d := by unfold stx; rw [if_neg n1]
        have ey : sty y d = nr y + shy d := by unfold sty; rw [if_neg n1]
        have ex2 : stx (stx x d) ((d + 4) % 8) = nr (stx x d) + shx ((d + 4) % 8) := by rw [stx, if_neg n2]
        have ey2 : sty (sty y d) ((d + 4) % 8) = nr (sty y d) + shy ((d + 4) % 8) := by rw [sty, if_neg n2]
        rw [nr_in (n := stx x d) (by omega) (by omega), s5] at ex2
        rw [nr_in (n := sty y d) (by omega) (by omega), s6] at ey2
        have kx : nr x = stx (stx x d) ((d + 4) % 8) := by omega
        have ky : nr y = sty (sty y d) ((d + 4) % 8) := by omega
        have lx : x = stx (stx x d) ((d + 4) % 8) := by rw [← kx]; rw [← kx] at hx2; unfold nr at hx2 ⊢; omega
        have ly : y = sty (sty y d) ((d + 4) % 8) := by rw [← ky]; rw [← ky] at hy2; unfold nr at hy2 ⊢; omega
        have h4 := h3.1
        rw [← lx, ← ly, show ((d + 4) % 8 + 4) % 8 = d by omega, h] at h4
        exact Bool.false_ne_true h4
    refine ⟨hm, ?_⟩
    unfold costv
    rw [if_neg (by rw [hm]; simp), if_neg (by rw [h]; simp)]
theorem may_in {m : M3} {b : List Bool} {q x y d : Int} (h : mayv m b q x y d = true) : inv m.w m.h (stx x d) (sty y d) = true ∧ inv m.w m.h x y = true := by
  obtain ⟨h1, h2⟩ := near_in (may_near h)
  exact ⟨(inside_in h2).1, (inside_in h1).1⟩

theorem pass12 {m : M3} {x y : Int} (h : passv m 1 x y = true) : passv m 2 x y = true := by
  unfold passv at *
  rw [if_pos rfl, Bool.and_eq_true, decide_eq_true_iff] at h
  rw [if_neg (by decide), if_pos rfl, Bool.and_eq_true, decide_eq_true_iff]
  exact ⟨h.1, by rcases h.2 with a | a <;> simp [a]⟩
theorem pass23 {m : M3} {x y : Int} (h : passv m 2 x y = true) : passv m 3 x y = true := by
  unfold passv at *
  rw [if_neg (by decide), if_pos rfl, Bool.and_eq_true] at h
  rw [if_neg (by decide), if_neg (by decide), if_pos rfl]
  exact h.1
theorem open12 {m : M3} {b : List Bool} {x y : Int} (h : openv m b 1 x y = true) : openv m b 2 x y = true := by
  unfold openv at *
  rw [Bool.and_eq_true] at *
  exact ⟨pass12 h.1, by simpa using h.2⟩
theorem open23 {m : M3} {b : List Bool} {x y : Int} (h : openv m b 2 x y = true) : openv m b 3 x y = true := by
  unfold openv at *
  rw [Bool.and_eq_true] at *
  exact ⟨pass23 h.1, by simp⟩
theorem near12 {m : M3} {b : List Bool} {x y u v : Int} (h : nearv m b 1 x y u v = true) : nearv m b 2 x y u v = true := by
  unfold nearv at *
  rw [Bool.and_eq_true, Bool.and_eq_true] at *
  exact ⟨⟨open12 h.1.1, open12 h.1.2⟩, by simpa using h.2⟩
theorem near23 {m : M3} {b : List Bool} {x y u v : Int} (h : nearv m b 2 x y u v = true) : nearv m b 3 x y u v = true := by
  unfold nearv at *
  rw [Bool.and_eq_true, Bool.and_eq_true] at *
  exact ⟨⟨open23 h.1.1, open23 h.1.2⟩, by simp⟩
theorem may12 {m : M3} {b : List Bool} {x y d : Int} (h : mayv m b 1 x y d = true) : mayv m b 2 x y d = true ∧ costv m b 1 x y d = costv m b 2 x y d := by
  have h2 : mayv m b 2 x y d = true := by
    unfold mayv at *
    rw [Bool.and_eq_true, Bool.and_eq_true] at *
    refine ⟨⟨h.1.1, near12 h.1.2⟩, ?_⟩
    have h3 := h.2
    rw [Bool.or_eq_true, Bool.or_eq_true, Bool.and_eq_true, Bool.and_eq_true, Bool.and_eq_true] at h3 ⊢
    rcases h3 with (h3 | h3) | ⟨⟨⟨a, c⟩, e⟩, g⟩
    · exact .inl (.inl h3)
    · exact absurd (of_decide_eq_true h3) (by decide)
    · exact .inr ⟨⟨⟨near12 a, near12 c⟩, near12 e⟩, near12 g⟩
  refine ⟨h2, ?_⟩
  unfold costv
  rw [if_pos h, if_pos h2]
  simp
theorem may23 {m : M3} {b : List Bool} {x y d : Int} (h : mayv m b 2 x y d = true) : mayv m b 3 x y d = true ∧ costv m b 3 x y d ≤ costv m b 2 x y d := by
  have h2 : mayv m b 3 x y d = true := by
    unfold mayv at *
    rw [Bool.and_eq_true, Bool.and_eq_true] at *
    refine ⟨⟨h.1.1, near23 h.1.2⟩, by simp⟩
  refine ⟨h2, ?_⟩
  unfold costv
  rw [if_pos h, if_pos h2, if_neg (show ¬ ((3 : Int) ≠ 3 ∧ _) from fun h => h.1 rfl)]
  split <;> split <;> omega

end

end Go.Proofs.YtpgchjhfhndaaaaGreatDoor
