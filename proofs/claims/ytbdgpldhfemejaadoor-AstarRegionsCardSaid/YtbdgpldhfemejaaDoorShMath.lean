/-
  Line of sight: which cells a line meets, what blocks it, what is seen. No program is named here.
-/
import Derived.Test.YtbdgpldhfemejaaDoorNumsG
namespace Go.Proofs.YtbdgpldhfemejaaDoor
open Go.RowKit Go.Lib

def btwv (e n : Int) : Bool := decide (min 0 e ≤ n ∧ n ≤ max 0 e)
/-- Does the line from (0, 0) to (d, e) meet the open square of (p, q)? -/
def hitv (d e p q : Int) : Bool := btwv d p && btwv e q && decide (2 * absv (d * q - e * p) < absv d + absv e)
def hidev (m : M3) (p q l : Int) : Bool := opaquev m p q || decide (l < (getv m p q).h)
def upv (m : M3) (x y u v : Int) : Int := max (getv m x y).h (getv m u v).h
/-- Does (p, q) block the line from (x, y) to (u, v)? -/
def blkv (m : M3) (x y u v p q : Int) : Bool :=
  (!decide (p = x ∧ q = y)) && (!decide (p = u ∧ q = v)) && hitv (u - x) (v - y) (p - x) (q - y) && hidev m p q (upv m x y u v)
def seesv (m : M3) (x y u v : Int) : Bool :=
  (List.range (max y v - min y v + 1).toNat).all fun j => (List.range (max x u - min x u + 1).toNat).all fun i => !blkv m x y u v (min x u + i) (min y v + j)
def blocksv (m : M3) (x y u v p q : Int) : Bool := validm m && inv m.w m.h x y && inv m.w m.h u v && inv m.w m.h p q && blkv m x y u v p q
def lookv (m : M3) (x y u v : Int) : Bool := validm m && inv m.w m.h x y && inv m.w m.h u v && seesv m x y u v
/-- Is the cell of an index visible from (x, y)? -/
def visat (m : M3) (x y r : Int) (high : Bool) (i : Nat) : Bool :=
  decide ((atx m.w i - x) * (atx m.w i - x) + (aty m.w i - y) * (aty m.w i - y) ≤ r * r) && (high || seesv m x y (atx m.w i) (aty m.w i))
def visv (m : M3) (x y r : Int) (high : Bool) : List Bool :=
  if validm m = true ∧ inv m.w m.h x y = true ∧ 0 ≤ r then (List.range (m.w * m.h).toNat).map (visat m x y (min r 32) high) else []
def unionv (a b : List Bool) : List Bool := (List.range (max a.length b.length)).map fun i => a.getD i false || b.getD i false

theorem hit_box {d e p q : Int} (h : hitv d e p q = true) : min 0 d ≤ p ∧ p ≤ max 0 d ∧ min 0 e ≤ q ∧ q ≤ max 0 e ∧ 2 * absv (d * q - e * p) < absv d + absv e := by
  unfold hitv btwv at h
  simp only [Bool.and_eq_true, decide_eq_true_iff] at h
  exact ⟨h.1.1.1, h.1.1.2, h.1.2.1, h.1.2.2, h.2⟩
theorem hit_of {d e p q : Int} (h : min 0 d ≤ p ∧ p ≤ max 0 d ∧ min 0 e ≤ q ∧ q ≤ max 0 e ∧ 2 * absv (d * q - e * p) < absv d + absv e) : hitv d e p q = true := by
  unfold hitv btwv
  simp only [Bool.and_eq_true, decide_eq_true_iff]
  exact ⟨⟨⟨h.1, h.2.1⟩, h.2.2.1, h.2.2.2.1⟩, h.2.2.2.2⟩
theorem blk_parts {m : M3} {x y u v p q : Int} (h : blkv m x y u v p q = true) : ¬ (p = x ∧ q = y) ∧ ¬ (p = u ∧ q = v) ∧ hitv (u - x) (v - y) (p - x) (q - y) = true ∧ hidev m p q (upv m x y u v) = true := by
  unfold blkv at h
  simp only [Bool.and_eq_true, Bool.not_eq_true', decide_eq_false_iff_not] at h
  exact ⟨h.1.1.1, h.1.1.2, h.1.2, h.2⟩
theorem blk_of {m : M3} {x y u v p q : Int} (h1 : ¬ (p = x ∧ q = y)) (h2 : ¬ (p = u ∧ q = v)) (h3 : hitv (u - x) (v - y) (p - x) (q - y) = true) (h4 : hidev m p q (upv m x y u v) = true) : blkv m x y u v p q = true := by
  unfold blkv
  simp only [Bool.and_eq_true, Bool.not_eq_true', decide_eq_false_iff_not]
  exact ⟨⟨⟨h1, h2⟩, h3⟩, h4⟩
theorem blk_box {m : M3} {x y u v p q : Int} (h : blkv m x y u v p q = true) : min x u ≤ p ∧ p ≤ max x u ∧ min y v ≤ q ∧ q ≤ max y v := by
  have := hit_box (blk_parts h).2.2.1
  omega
theorem sees_box {m : M3} {x y u v : Int} (h : ∀ p q, min x u ≤ p → p ≤ max x u → min y v ≤ q → q ≤ max y v → blkv m x y u v p q = false) : seesv m x y u v = true := by
  unfold seesv
  rw [List.all_eq_true]
  intro j hj
  rw [List.all_eq_true]
  intro i hi
  have hj := List.mem_range.1 hj
  have hi := List.mem_range.1 hi
  rw [h _ _ (by omega) (by omega) (by omega) (by omega)]
  rfl
theorem sees_not {m : M3} {x y u v : Int} (h : seesv m x y u v = true) (p q : Int) : blkv m x y u v p q = false := by
  cases hb : blkv m x y u v p q with
  | false => rfl
  | true =>
    obtain ⟨h1, h2, h3, h4⟩ := blk_box hb
    unfold seesv at h
    rw [List.all_eq_true] at h
    have hj := h (q - min y v).toNat (List.mem_range.2 (by omega))
    rw [List.all_eq_true] at hj
    have hi := hj (p - min x u).toNat (List.mem_range.2 (by omega))
    rw [show min x u + ((p - min x u).toNat : Int) = p by omega, show min y v + ((q - min y v).toNat : Int) = q by omega, hb] at hi
    cases hi
theorem sees_iff (m : M3) (x y u v : Int) : seesv m x y u v = true ↔ ∀ p q, blkv m x y u v p q = false := ⟨fun h p q => sees_not h p q, fun h => sees_box fun p q _ _ _ _ => h p q⟩
theorem sees_false {m : M3} {x y u v p q : Int} (h : blkv m x y u v p q = true) : seesv m x y u v = false := by
  cases hs : seesv m x y u v with
  | false => rfl
  | true => have := sees_not hs p q; rw [h] at this; cases this

/-- The reference's own way to ask whether a line meets a square. -/
def crossv (px py qx qy x y : Int) : Int := (qx - px) * (y - py) - (qy - py) * (x - px)
theorem hit_ref (x y u v p q : Int) :
    hitv (u - x) (v - y) (p - x) (q - y) =
      (!(decide (max (2 * x + 1) (2 * u + 1) ≤ 2 * p) || decide (2 * p + 2 ≤ min (2 * x + 1) (2 * u + 1)) || decide (max (2 * y + 1) (2 * v + 1) ≤ 2 * q) || decide (2 * q + 2 ≤ min (2 * y + 1) (2 * v + 1))) &&
        ((decide (crossv (2 * x + 1) (2 * y + 1) (2 * u + 1) (2 * v + 1) (2 * p) (2 * q) < 0) || decide (crossv (2 * x + 1) (2 * y + 1) (2 * u + 1) (2 * v + 1) (2 * p + 2) (2 * q) < 0) || decide (crossv (2 * x + 1) (2 * y + 1) (2 * u + 1) (2 * v + 1) (2 * p) (2 * q + 2) < 0) || decide (crossv (2 * x + 1) (2 * y + 1) (2 * u + 1) (2 * v + 1) (2 * p + 2) (2 * q + 2) < 0)) &&
         (decide (0 < crossv (2 * x + 1) (2 * y + 1) (2 * u + 1) (2 * v + 1) (2 * p) (2 * q)) || decide (0 < crossv (2 * x + 1) (2 * y + 1) (2 * u + 1) (2 * v + 1) (2 * p + 2) (2 * q)) || decide (0 < crossv (2 * x + 1) (2 * y + 1) (2 * u + 1) (2 * v + 1) (2 * p) (2 * q + 2)) || decide (0 < crossv (2 * x + 1) (2 * y + 1) (2 * u + 1) (2 * v + 1) (2 * p + 2) (2 * q + 2))))) := by
  obtain ⟨d, hd⟩ : ∃ d, d = u - x := ⟨_, rfl⟩
  obtain ⟨e, he⟩ : ∃ e, e = v - y := ⟨_, rfl⟩
  obtain ⟨a, ha⟩ : ∃ a, a = p - x := ⟨_, rfl⟩
  obtain ⟨b, hb⟩ : ∃ b, b = q - y := ⟨_, rfl⟩
  have s (i j : Int) : crossv (2 * x + 1) (2 * y + 1) (2 * u + 1) (2 * v + 1) (2 * p + i) (2 * q + j) = 4 * (d * b - e * a) + 2 * d * (j - 1) - 2 * e * (i - 1) := by
    unfold crossv
    rw [show 2 * u + 1 - (2 * x + 1) = 2 * d by omega, show 2 * v + 1 - (2 * y + 1) = 2 * e by omega, show 2 * q + j - (2 * y + 1) = 2 * b + (j - 1) by omega, show 2 * p + i - (2 * x + 1) = 2 * a + (i - 1) by omega]
    rw [Int.mul_add, Int.mul_add, show 2 * d * (2 * b) = 4 * (d * b) by rw [Int.mul_assoc, Int.mul_left_comm d 2 b, ← Int.mul_assoc]; rfl, show 2 * e * (2 * a) = 4 * (e * a) by rw [Int.mul_assoc, Int.mul_left_comm e 2 a, ← Int.mul_assoc]; rfl]
    omega
  have s00 := s 0 0
  have s20 := s 2 0
  have s02 := s 0 2
  have s22 := s 2 2
  rw [Int.add_zero, Int.add_zero] at s00
  rw [Int.add_zero] at s20 s02
  rw [s00, s20, s02, s22, ← hd, ← he, ← ha, ← hb]
  unfold hitv btwv absv
  generalize hK : d * b - e * a = K
  rw [Bool.eq_iff_iff]
  simp only [Bool.and_eq_true, Bool.or_eq_true, Bool.not_eq_true', Bool.or_eq_false_iff, decide_eq_true_iff, decide_eq_false_iff_not]
  clear s00 s20 s02 s22 s hK
  omega

theorem hit_turn (d e p q : Int) : hitv (-d) (-e) (p - d) (q - e) = hitv d e p q := by
  have h1 : -d * (q - e) - -e * (p - d) = -(d * q - e * p) := by
    rw [Int.neg_mul, Int.neg_mul, Int.mul_sub, Int.mul_sub, Int.mul_comm e d]; omega
  unfold hitv btwv
  rw [h1, Bool.eq_iff_iff]
  generalize d * q - e * p = K
  simp only [Bool.and_eq_true, decide_eq_true_iff]
  unfold absv
  omega
theorem blk_turn (m : M3) (x y u v p q : Int) : blkv m u v x y p q = blkv m x y u v p q := by
  have h := hit_turn (u - x) (v - y) (p - x) (q - y)
  rw [show -(u - x) = x - u by omega, show -(v - y) = y - v by omega, show p - x - (u - x) = p - u by omega, show q - y - (v - y) = q - v by omega] at h
  have hu : upv m u v x y = upv m x y u v := by unfold upv; omega
  unfold blkv
  rw [h, hu, Bool.and_comm (!decide (p = u ∧ q = v))]
theorem sees_turn (m : M3) (x y u v : Int) : seesv m u v x y = seesv m x y u v := by
  rw [Bool.eq_iff_iff, sees_iff, sees_iff]
  exact forall_congr' fun p => forall_congr' fun q => by rw [blk_turn]
theorem look_turn (m : M3) (x y u v : Int) : lookv m u v x y = lookv m x y u v := by
  unfold lookv
  rw [sees_turn]
  cases validm m <;> cases inv m.w m.h x y <;> cases inv m.w m.h u v <;> rfl
theorem blocks_turn (m : M3) (x y u v p q : Int) : blocksv m u v x y p q = blocksv m x y u v p q := by
  unfold blocksv
  rw [blk_turn]
  cases validm m <;> cases inv m.w m.h x y <;> cases inv m.w m.h u v <;> rfl
theorem blocks_look {m : M3} {x y u v p q : Int} (h : blocksv m x y u v p q = true) : lookv m x y u v = false := by
  unfold blocksv at h
  simp only [Bool.and_eq_true] at h
  unfold lookv
  rw [sees_false h.2, Bool.and_false]
theorem sees_self (m : M3) (x y : Int) : seesv m x y x y = true := by
  refine sees_box fun p q h1 h2 h3 h4 => ?_
  unfold blkv
  rw [decide_eq_true (show p = x ∧ q = y by omega)]
  rfl

/-- How an octant lies: the displacements along and across it; a displacement may be none where the line needs none. -/
def Ori (a b c d x y : Int) : Prop :=
  (b = 0 ∧ c = 0 ∧ (a = 1 ∨ a = -1 ∨ (a = 0 ∧ x = 0)) ∧ (d = 1 ∨ d = -1 ∨ (d = 0 ∧ y = 0))) ∨ (a = 0 ∧ d = 0 ∧ (b = 1 ∨ b = -1 ∨ (b = 0 ∧ x = 0)) ∧ (c = 1 ∨ c = -1 ∨ (c = 0 ∧ y = 0)))
theorem hit_place {a b c d x y i j : Int} (h : Ori a b c d x y) (h0 : 0 ≤ y) (h1 : y ≤ x) (hh : hitv x y i j = true) : hitv (x * a + y * c) (x * b + y * d) (i * a + j * c) (i * b + j * d) = true := by
  have hb := hit_box hh
  refine hit_of ?_
  obtain ⟨b1, b2, b3, b4, b5⟩ := hb
  unfold absv at *
  rcases h with ⟨rfl, rfl, ha, hd⟩ | ⟨rfl, rfl, hb, hc⟩
  · rcases ha with rfl | rfl | ⟨rfl, rfl⟩ <;> rcases hd with rfl | rfl | ⟨rfl, rfl⟩ <;> simp only [Int.mul_zero, Int.mul_one, Int.zero_mul, Int.add_zero, Int.zero_add, Int.mul_neg, Int.neg_mul, Int.neg_neg] at * <;> omega
  · rcases hb with rfl | rfl | ⟨rfl, rfl⟩ <;> rcases hc with rfl | rfl | ⟨rfl, rfl⟩ <;> simp only [Int.mul_zero, Int.mul_one, Int.zero_mul, Int.add_zero, Int.zero_add, Int.mul_neg, Int.neg_mul, Int.neg_neg] at * <;> omega
theorem hit_back {a b c d x y p q : Int} (h : Ori a b c d x y) (h0 : 0 ≤ y) (h1 : y ≤ x) (hh : hitv (x * a + y * c) (x * b + y * d) p q = true) : ∃ i j, p = i * a + j * c ∧ q = i * b + j * d ∧ hitv x y i j = true := by
  have hb := hit_box hh
  obtain ⟨b1, b2, b3, b4, b5⟩ := hb
  refine ⟨p * a + q * b, p * c + q * d, ?_, ?_, hit_of ?_⟩
  all_goals
    unfold absv at *
    rcases h with ⟨rfl, rfl, ha, hd⟩ | ⟨rfl, rfl, hb, hc⟩
    · rcases ha with rfl | rfl | ⟨rfl, rfl⟩ <;> rcases hd with rfl | rfl | ⟨rfl, rfl⟩ <;> simp only [Int.mul_zero, Int.mul_one, Int.zero_mul, Int.add_zero, Int.zero_add, Int.mul_neg, Int.neg_mul, Int.neg_neg] at * <;> omega
    · rcases hb with rfl | rfl | ⟨rfl, rfl⟩ <;> rcases hc with rfl | rfl | ⟨rfl, rfl⟩ <;> simp only [Int.mul_zero, Int.mul_one, Int.zero_mul, Int.add_zero, Int.zero_add, Int.mul_neg, Int.neg_mul, Int.neg_neg] at * <;> omega
theorem lt_of_scaled {x a b : Int} (hx : 0 < x) (h : x * a < x * b) : a < b := Int.lt_of_mul_lt_mul_left h (Int.le_of_lt hx)
/-- Between its ends a line in an octant meets no squares of a column but two. -/
theorem hit_rows {x y i j : Int} (h0 : 0 ≤ y) (h1 : y ≤ x) (hh : hitv x y i j = true) (n0 : ¬ (i = 0 ∧ j = 0)) (n1 : ¬ (i = x ∧ j = y)) : 1 ≤ i ∧ i < x ∧ (j = i * y / x ∨ j = i * y / x + 1) := by
  obtain ⟨b1, b2, b3, b4, b5⟩ := hit_box hh
  unfold absv at b5
  have hx : 0 < x := by omega
  have hi : i ≠ 0 := by
    rintro rfl
    rw [Int.mul_zero] at b5
    have : x * j < x * 1 := by rw [Int.mul_one]; omega
    have := lt_of_scaled hx this
    omega
  have hi2 : i ≠ x := by
    rintro rfl
    rw [Int.mul_comm y i] at b5
    have e1 := Int.mul_add i j 1
    have e2 := Int.mul_add i y 1
    have l1 : i * j < i * (y + 1) := by omega
    have l2 : i * y < i * (j + 1) := by omega
    have := lt_of_scaled hx l1
    have := lt_of_scaled hx l2
    omega
  refine ⟨by omega, by omega, ?_⟩
  have e0 := Int.mul_ediv_add_emod (i * y) x
  have e1 := Int.emod_nonneg (i * y) (by omega : x ≠ 0)
  have e2 := Int.emod_lt_of_pos (i * y) hx
  generalize i * y / x = k at *
  generalize i * y % x = r at *
  rw [Int.mul_comm y i] at b5
  have f1 := Int.mul_add x k 2
  have f2 := Int.mul_add x j 1
  have l1 : x * j < x * (k + 2) := by omega
  have l2 : x * k < x * (j + 1) := by omega
  have := lt_of_scaled hx l1
  have := lt_of_scaled hx l2
  omega
/-- What a column asks. -/
def colv (m : M3) (f g a b c d x y l i j : Int) : Bool := hitv x y i j && hidev m (f + i * a + j * c) (g + i * b + j * d) l
theorem col_inside {m : M3} {f g a b c d x y i j : Int} (h : Ori a b c d x y) (h0 : 0 ≤ y) (h1 : y ≤ x) (hf : inv m.w m.h f g = true) (ht : inv m.w m.h (f + x * a + y * c) (g + x * b + y * d) = true) (hh : hitv x y i j = true) : inv m.w m.h (f + i * a + j * c) (g + i * b + j * d) = true := by
  have hb := hit_box (hit_place h h0 h1 hh)
  unfold inv at *
  rw [decide_eq_true_iff] at *
  omega
theorem unb_yes {m : M3} {f g a b c d x y : Int} (h : Ori a b c d x y) (h0 : 0 ≤ y) (h1 : y ≤ x)
    (hc : ∀ i, 1 ≤ i → i < x → colv m f g a b c d x y (upv m f g (f + x * a + y * c) (g + x * b + y * d)) i (i * y / x) = false ∧ colv m f g a b c d x y (upv m f g (f + x * a + y * c) (g + x * b + y * d)) i (i * y / x + 1) = false) :
    seesv m f g (f + x * a + y * c) (g + x * b + y * d) = true := by
  rw [sees_iff]
  intro p q
  cases hb : blkv m f g (f + x * a + y * c) (g + x * b + y * d) p q with
  | false => rfl
  | true =>
    exfalso
    obtain ⟨n0, n1, h3, h4⟩ := blk_parts hb
    rw [show f + x * a + y * c - f = x * a + y * c by omega, show g + x * b + y * d - g = x * b + y * d by omega] at h3
    obtain ⟨i, j, hp, hq, hij⟩ := hit_back h h0 h1 h3
    obtain rfl : p = f + i * a + j * c := by omega
    obtain rfl : q = g + i * b + j * d := by omega
    obtain ⟨i1, i2, hj⟩ := hit_rows h0 h1 hij (fun ⟨e1, e2⟩ => n0 (by subst e1; subst e2; constructor <;> omega)) (fun ⟨e1, e2⟩ => n1 (by subst e1; subst e2; constructor <;> omega))
    obtain ⟨c1, c2⟩ := hc i i1 i2
    unfold colv at c1 c2
    rcases hj with rfl | rfl
    · rw [hij, h4] at c1; cases c1
    · rw [hij, h4] at c2; cases c2
theorem ori_far {a b c d x y i j : Int} (h : Ori a b c d x y) (_h0 : 0 ≤ y) (hh : hitv x y i j = true) (e1 : i * a + j * c = 0) (e2 : i * b + j * d = 0) : i = 0 := by
  have hb := hit_box hh
  rcases h with ⟨rfl, rfl, ha, hd⟩ | ⟨rfl, rfl, hb, hc⟩
  · rcases ha with rfl | rfl | ⟨rfl, rfl⟩ <;> omega
  · rcases hb with rfl | rfl | ⟨rfl, rfl⟩ <;> omega
theorem ori_end {a b c d x y i j : Int} (h : Ori a b c d x y) (e1 : i * a + j * c = x * a + y * c) (e2 : i * b + j * d = x * b + y * d) (hh : hitv x y i j = true) (_h0 : 0 ≤ y) (h1 : y ≤ x) : i = x := by
  have hb := hit_box hh
  rcases h with ⟨rfl, rfl, ha, hd⟩ | ⟨rfl, rfl, hb, hc⟩
  · rcases ha with rfl | rfl | ⟨rfl, rfl⟩ <;> omega
  · rcases hb with rfl | rfl | ⟨rfl, rfl⟩ <;> omega
theorem unb_no {m : M3} {f g a b c d x y i j : Int} (h : Ori a b c d x y) (h0 : 0 ≤ y) (h1 : y ≤ x) (i1 : 1 ≤ i) (i2 : i < x)
    (hc : colv m f g a b c d x y (upv m f g (f + x * a + y * c) (g + x * b + y * d)) i j = true) : seesv m f g (f + x * a + y * c) (g + x * b + y * d) = false := by
  unfold colv at hc
  rw [Bool.and_eq_true] at hc
  have hp := hit_place h h0 h1 hc.1
  refine sees_false (blk_of ?_ ?_ ?_ hc.2)
  · rintro ⟨e1, e2⟩
    have := ori_far h h0 hc.1 (by omega) (by omega)
    omega
  · rintro ⟨e1, e2⟩
    have := ori_end h (by omega) (by omega) hc.1 h0 h1
    omega
  · rw [show f + x * a + y * c - f = x * a + y * c by omega, show g + x * b + y * d - g = x * b + y * d by omega, show f + i * a + j * c - f = i * a + j * c by omega, show g + i * b + j * d - g = i * b + j * d by omega]
    exact hp

end Go.Proofs.YtbdgpldhfemejaaDoor
