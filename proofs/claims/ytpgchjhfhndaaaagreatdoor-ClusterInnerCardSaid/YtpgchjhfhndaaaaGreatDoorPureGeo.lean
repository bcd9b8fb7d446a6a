/-
  Rectangles, cells and lines of sight as numbers; sorting that keeps order. No program is named here.
-/
import Derived.Test.YtpgchjhfhndaaaaGreatDoorNumsG
import Derived.Sort.WalkA
namespace Go.Proofs.YtpgchjhfhndaaaaGreatDoor

section
open Go.RowKit Go.Lib

theorem at_nat (X i : Nat) (h : 1 ≤ X) : atx X i = ((i % X : Nat) : Int) ∧ aty X i = ((i / X : Nat) : Int) := by
  unfold atx aty
  rw [if_neg (by omega), if_neg (by omega)]
  exact ⟨by rw [Int.natCast_emod], by rw [Int.natCast_ediv]⟩
theorem nr_nat {n : Nat} (h : n ≤ 1000000) : nr (n : Int) = n := nr_in (by omega) (by omega)
/-- The cell with the index i. -/
theorem cell_pick (X Y i : Nat) (h1 : 1 ≤ X) (h2 : X ≤ 32) (h3 : Y ≤ 32) (h : i < X * Y) :
    ∃ a b : Nat, Hid ((a : Int) = atx X i ∧ (b : Int) = aty X i) ∧ Hid (true = inv X Y a b) ∧ Hid ((i : Int) = indexv X a b) ∧ a < X ∧ b < Y ∧ i = X * b + a := by
  have e := at_nat X i h1
  have ha : i % X < X := Nat.mod_lt _ h1
  have hb : i / X < Y := Nat.div_lt_of_lt_mul h
  have hi : i = X * (i / X) + i % X := (Nat.div_add_mod i X).symm
  generalize i % X = a at *
  generalize i / X = b at *
  refine ⟨a, b, hid ⟨e.1.symm, e.2.symm⟩, hid ?_, hid ?_, ha, hb, hi⟩
  · unfold inv
    exact (decide_eq_true (by omega)).symm
  · unfold indexv
    rw [nr_nat (by omega), nr_nat (by omega), nr_nat (by omega), ← Int.natCast_mul, ← Int.natCast_add]
    congr 1
    rw [Nat.mul_comm]; exact hi
/-- The index of a cell inside. -/
theorem index_pick (X Y : Nat) (x y : Int) (h1 : 1 ≤ X) (h2 : X ≤ 32) (h3 : Y ≤ 32) (h : inv X Y x y = true) :
    ∃ n : Nat, Hid ((n : Int) = indexv X x y) ∧ n < X * Y ∧ Hid (x = atx X n ∧ y = aty X n) := by
  unfold inv at h
  have h' := of_decide_eq_true h
  obtain ⟨a, rfl⟩ := Int.eq_ofNat_of_zero_le h'.1
  obtain ⟨b, rfl⟩ := Int.eq_ofNat_of_zero_le h'.2.2.1
  have ha : a < X := by omega
  have hb : b < Y := by omega
  have hm : X * (b + 1) ≤ X * Y := Nat.mul_le_mul_left X hb
  rw [Nat.mul_succ] at hm
  refine ⟨X * b + a, hid ?_, by omega, hid ?_⟩
  · unfold indexv
    rw [nr_nat (by omega), nr_nat (by omega), nr_nat (by omega), ← Int.natCast_mul, ← Int.natCast_add, Nat.mul_comm]
  · have e := at_nat X (X * b + a) h1
    rw [e.1, e.2]
    rw [Nat.mul_add_mod, Nat.mod_eq_of_lt ha, Nat.mul_add_div (by omega), Nat.div_eq_of_lt ha]
    exact ⟨rfl, by simp⟩

/-- How many of the first n numbers have f. -/
def cnt (f : Nat → Bool) : Nat → Nat
  | 0 => 0
  | n + 1 => cnt f n + if f n then 1 else 0
theorem cnt_le (f : Nat → Bool) (n : Nat) : cnt f n ≤ n := by
  induction n with
  | zero => exact Nat.le_refl _
  | succ n ih => unfold cnt; split <;> omega
theorem cnt_row (f : Nat → Bool) (X j a m : Nat) (q : Bool) (hf : ∀ k, k < X → f (X * j + k) = (decide (a ≤ k ∧ k < a + m) && q)) (k : Nat) (hk : k ≤ X) :
    cnt f (X * j + k) = cnt f (X * j) + if q then min k (a + m) - min k a else 0 := by
  induction k with
  | zero => simp
  | succ k ih =>
    have e := hf k (by omega)
    rw [← Nat.add_assoc, cnt, ih (by omega), e]
    cases q with
    | false => simp
    | true =>
      rw [Bool.and_true]
      simp only [if_true, decide_eq_true_eq]
      split <;> omega
theorem cnt_rows (f : Nat → Bool) (X Y a m b t : Nat) (hm : a + m ≤ X) (hf : ∀ j k, j < Y → k < X → f (X * j + k) = (decide (a ≤ k ∧ k < a + m) && decide (b ≤ j ∧ j < b + t))) (j : Nat) (hj : j ≤ Y) :
    cnt f (X * j) = (min j (b + t) - min j b) * m := by
  induction j with
  | zero => simp [cnt]
  | succ j ih =>
    rw [Nat.mul_succ, cnt_row f X j a m _ (fun k hk => hf j k (by omega) hk) X (Nat.le_refl _), ih (by omega)]
    by_cases h : b ≤ j ∧ j < b + t
    · rw [decide_eq_true h, if_pos rfl, show min (j + 1) (b + t) - min (j + 1) b = (min j (b + t) - min j b) + 1 by omega, Nat.succ_mul]
      omega
    · rw [decide_eq_false h, if_neg (by simp), show min (j + 1) (b + t) - min (j + 1) b = min j (b + t) - min j b by omega]
      omega

end

section
open Go.RowKit Go.Lib

theorem rowGo_size (x y : Int) (k i : Nat) : (rowGo x y k i).length = k := by
  induction k generalizing i with
  | zero => rfl
  | succ k ih => simp [rowGo, ih]
theorem rowsGo_size (x y : Int) (w k j : Nat) : (rowsGo x y w k j).length = k * w := by
  induction k generalizing j with
  | zero => simp [rowsGo]
  | succ k ih => rw [rowsGo, List.length_append, rowGo_size, ih, Nat.succ_mul]; omega
theorem dec_and (p q : Prop) [Decidable p] [Decidable q] : (decide p && decide q) = decide (p ∧ q) := by
  by_cases h : p <;> by_cases k : q <;> simp [h, k]
theorem clip_pick (X Y : Nat) (r : R4) (X1 : 1 ≤ X) (X2 : X ≤ 32) (Y1 : 1 ≤ Y) (Y2 : Y ≤ 32) :
    ∃ a m b t : Nat, a + m ≤ X ∧ b + t ≤ Y ∧ (∀ j k : Nat, j < Y → k < X → insv r k j = (decide (a ≤ k ∧ k < a + m) && decide (b ≤ j ∧ j < b + t))) ∧
      (∀ j k : Nat, j < Y → k < X → insv (clipv X Y r) k j = (decide (a ≤ k ∧ k < a + m) && decide (b ≤ j ∧ j < b + t))) ∧ (cellsv (clipv X Y r)).length = t * m ∧
      (-100 ≤ (clipv X Y r).x ∧ (clipv X Y r).x ≤ 100 ∧ -100 ≤ (clipv X Y r).y ∧ (clipv X Y r).y ≤ 100 ∧ -100 ≤ (clipv X Y r).w ∧ (clipv X Y r).w ≤ 100 ∧ -100 ≤ (clipv X Y r).h ∧ (clipv X Y r).h ≤ 100) := by
  obtain ⟨rx, ry, rw', rh⟩ := r
  have bx := nr_bd rx; have by' := nr_bd ry; have bw := nr_bd rw'; have bh := nr_bd rh
  have nX : nr (X : Int) = X := nr_nat (by omega)
  have nY : nr (Y : Int) = Y := nr_nat (by omega)
  have n0 : nr 0 = 0 := by decide
  have hc : clipv X Y ⟨rx, ry, rw', rh⟩ = common ⟨0, 0, X, Y⟩ ⟨nr rx, nr ry, nr rw', nr rh⟩ := by
    unfold clipv R4.nrm; dsimp only; rw [nX, nY, n0]
  have hi : ∀ j k : Nat, j < Y → k < X → insv ⟨rx, ry, rw', rh⟩ k j = decide (nr rx ≤ k ∧ (k : Int) < nr rx + nr rw' ∧ nr ry ≤ j ∧ (j : Int) < nr ry + nr rh) := by
    intro j k hj hk
    unfold insv R4.nrm
    dsimp only
    rw [nr_nat (show j ≤ 1000000 by omega), nr_nat (show k ≤ 1000000 by omega)]
  rw [hc]
  generalize nr rx = x at *
  generalize nr ry = y at *
  generalize nr rw' = u at *
  generalize nr rh = v at *
  by_cases hz : common ⟨0, 0, X, Y⟩ ⟨x, y, u, v⟩ = R4.zero
  · rw [hz]
    refine ⟨0, 0, 0, 0, by omega, by omega, ?_, ?_, ?_, by decide⟩
    · intro j k hj hk
      rw [hi j k hj hk]
      have h0 : ¬ 0 < (common ⟨0, 0, X, Y⟩ ⟨x, y, u, v⟩).w := by rw [hz]; decide
      rw [dec_and]
      refine decide_eq_decide.2 ⟨fun h => ?_, fun h => by omega⟩
      exfalso
      have g1 : ¬ ((X : Int) < 1 ∨ (Y : Int) < 1 ∨ u < 1 ∨ v < 1) := by omega
      have g2 : ¬ (min (0 + (X : Int)) (x + u) - max 0 x < 1 ∨ min (0 + (Y : Int)) (y + v) - max 0 y < 1) := by omega
      rw [show common ⟨0, 0, X, Y⟩ ⟨x, y, u, v⟩ = ⟨max 0 x, max 0 y, min (0 + (X : Int)) (x + u) - max 0 x, min (0 + (Y : Int)) (y + v) - max 0 y⟩ from (if_neg g1).trans (if_neg g2)] at h0
      dsimp only at h0
      omega
    · intro j k hj hk
      rw [dec_and]
      refine decide_eq_decide.2 ⟨fun h => ?_, fun h => by omega⟩
      exfalso
      have e : R4.zero.nrm = R4.zero := by unfold R4.nrm R4.zero; rw [n0]
      rw [e] at h
      have h2 := h.2.1
      have h1 := h.1
      unfold R4.zero at h1 h2
      dsimp only at h1 h2
      omega
    · decide
  · have h1 : ¬ ((X : Int) < 1 ∨ (Y : Int) < 1 ∨ u < 1 ∨ v < 1) := fun h => hz (if_pos h)
    have h2 : ¬ (min (0 + (X : Int)) (x + u) - max 0 x < 1 ∨ min (0 + (Y : Int)) (y + v) - max 0 y < 1) := fun h => hz ((if_neg h1).trans (if_pos h))
    have he : common ⟨0, 0, X, Y⟩ ⟨x, y, u, v⟩ = ⟨max 0 x, max 0 y, min (0 + (X : Int)) (x + u) - max 0 x, min (0 + (Y : Int)) (y + v) - max 0 y⟩ := (if_neg h1).trans (if_neg h2)
    rw [he]
    obtain ⟨a, ha⟩ := Int.eq_ofNat_of_zero_le (show 0 ≤ max 0 x by omega)
    obtain ⟨b, hb⟩ := Int.eq_ofNat_of_zero_le (show 0 ≤ max 0 y by omega)
    obtain ⟨m, hm⟩ := Int.eq_ofNat_of_zero_le (show 0 ≤ min (0 + (X : Int)) (x + u) - max 0 x by omega)
    obtain ⟨t, ht⟩ := Int.eq_ofNat_of_zero_le (show 0 ≤ min (0 + (Y : Int)) (y + v) - max 0 y by omega)
    rw [hm, ht, ha, hb]
    have na : nr (a : Int) = a := nr_nat (by omega)
    have nb : nr (b : Int) = b := nr_nat (by omega)
    have nm : nr (m : Int) = m := nr_nat (by omega)
    have nt : nr (t : Int) = t := nr_nat (by omega)
    refine ⟨a, m, b, t, by omega, by omega, ?_, ?_, ?_, by dsimp only; omega⟩
    · intro j k hj hk
      rw [hi j k hj hk, dec_and]
      exact decide_eq_decide.2 (by omega)
    · intro j k hj hk
      unfold insv R4.nrm
      dsimp only
      rw [nr_nat (show j ≤ 1000000 by omega), nr_nat (show k ≤ 1000000 by omega), na, nb, nm, nt, dec_and]
      exact decide_eq_decide.2 (by omega)
    · unfold cellsv R4.nrm
      dsimp only
      rw [na, nb, nm, nt]
      have hmt : m * t ≤ 32 * 32 := Nat.mul_le_mul (by omega) (by omega)
      have e : (m : Int) * t = ((m * t : Nat) : Int) := by simp
      rw [if_neg (by rw [e]; omega), rowsGo_size, Int.toNat_natCast, Int.toNat_natCast]
/-- Of the cells of a grid as many lie in a rectangle as its clipped one has cells. -/
theorem clip_count (X Y : Nat) (r : R4) (X1 : 1 ≤ X) (X2 : X ≤ 32) (Y1 : 1 ≤ Y) (Y2 : Y ≤ 32) :
    cnt (fun i => insv r (i % X : Nat) (i / X : Nat)) (X * Y) = (cellsv (clipv X Y r)).length := by
  obtain ⟨a, m, b, t, h1, h2, h3, -, h5, -⟩ := clip_pick X Y r X1 X2 Y1 Y2
  rw [h5, cnt_rows _ X Y a m b t h1 ?_ Y (Nat.le_refl _)]
  · congr 1; omega
  · intro j k hj hk
    rw [Nat.mul_add_mod, Nat.mod_eq_of_lt hk, Nat.mul_add_div (by omega), Nat.div_eq_of_lt hk, Nat.add_zero]
    exact h3 j k hj hk
theorem clip_same (X Y : Nat) (r : R4) (X1 : 1 ≤ X) (X2 : X ≤ 32) (Y1 : 1 ≤ Y) (Y2 : Y ≤ 32) (a b : Nat) (ha : a < X) (hb : b < Y) : insv (clipv X Y r) a b = insv r a b := by
  obtain ⟨_, _, _, _, _, _, h3, h4, _, _⟩ := clip_pick X Y r X1 X2 Y1 Y2
  rw [h3 b a hb ha, h4 b a hb ha]

end

section
open Go.RowKit Go.Lib

theorem common_pos (a b : R4) : 0 < (common a b).w ↔ ¬ (a.w < 1 ∨ a.h < 1 ∨ b.w < 1 ∨ b.h < 1) ∧ ¬ (min (a.x + a.w) (b.x + b.w) - max a.x b.x < 1 ∨ min (a.y + a.h) (b.y + b.h) - max a.y b.y < 1) := by
  unfold common
  by_cases h : a.w < 1 ∨ a.h < 1 ∨ b.w < 1 ∨ b.h < 1
  · rw [if_pos h]
    exact ⟨fun e => absurd e (by decide), fun e => absurd h e.1⟩
  · rw [if_neg h]
    by_cases k : min (a.x + a.w) (b.x + b.w) - max a.x b.x < 1 ∨ min (a.y + a.h) (b.y + b.h) - max a.y b.y < 1
    · rw [if_pos k]
      exact ⟨fun e => absurd e (by decide), fun e => absurd k e.2⟩
    · rw [if_neg k]
      exact ⟨fun _ => ⟨h, k⟩, fun _ => by show 0 < min _ _ - max _ _; omega⟩
theorem meet_comm (a b : R4) : meetv a b = meetv b a := by
  unfold meetv
  rw [Bool.eq_iff_iff, decide_eq_true_iff, decide_eq_true_iff, common_pos, common_pos]
  generalize a.nrm = p
  generalize b.nrm = q
  omega
theorem mem_row (x y : Int) (k i : Nat) (p : Int × Int) : p ∈ rowGo x y k i ↔ ∃ m, i ≤ m ∧ m < i + k ∧ p = (x + m, y) := by
  induction k generalizing i with
  | zero =>
    simp only [rowGo, List.not_mem_nil, false_iff]
    rintro ⟨m, h1, h2, _⟩
    omega
  | succ k ih =>
    rw [rowGo, List.mem_cons, ih]
    constructor
    · rintro (rfl | ⟨m, h1, h2, rfl⟩)
      · exact ⟨i, by omega, by omega, rfl⟩
      · exact ⟨m, by omega, by omega, rfl⟩
    · rintro ⟨m, h1, h2, rfl⟩
      by_cases e : m = i
      · left; rw [e]
      · right; exact ⟨m, by omega, by omega, rfl⟩
theorem mem_rows (x y : Int) (w k j : Nat) (p : Int × Int) : p ∈ rowsGo x y w k j ↔ ∃ m n : Nat, m < w ∧ j ≤ n ∧ n < j + k ∧ p = (x + m, y + n) := by
  induction k generalizing j with
  | zero =>
    simp only [rowsGo, List.not_mem_nil, false_iff]
    rintro ⟨m, n, _, h1, h2, _⟩
    omega
  | succ k ih =>
    rw [rowsGo, List.mem_append, ih, mem_row]
    constructor
    · rintro (⟨m, h1, h2, rfl⟩ | ⟨m, n, h0, h1, h2, rfl⟩)
      · exact ⟨m, j, by omega, by omega, by omega, rfl⟩
      · exact ⟨m, n, h0, by omega, by omega, rfl⟩
    · rintro ⟨m, n, h0, h1, h2, rfl⟩
      by_cases e : n = j
      · left; subst e; exact ⟨m, by omega, by omega, rfl⟩
      · right; exact ⟨m, n, h0, by omega, by omega, rfl⟩
/-- Of a rectangle with few cells and another one: they meet exactly if a cell of the first is in the second. -/
theorem meet_any (x y u v : Int) (a b : Nat) (r : R4) (hu : nr u = a) (hv : nr v = b) (a1 : 1 ≤ a) (b1 : 1 ≤ b) :
    (rowsGo (nr x) (nr y) a b 0).any (fun p => insv r p.1 p.2) = meetv ⟨x, y, u, v⟩ r := by
  have bx := nr_bd x; have by' := nr_bd y
  have rx := nr_bd r.x; have ry := nr_bd r.y; have rw' := nr_bd r.w; have rh := nr_bd r.h
  rw [Bool.eq_iff_iff, List.any_eq_true, meetv, decide_eq_true_iff, common_pos]
  unfold insv R4.nrm
  simp only [decide_eq_true_eq, hu, hv]
  constructor
  · rintro ⟨p, hp, h1, h2, h3, h4⟩
    obtain ⟨m, n, hm, -, hn, rfl⟩ := (mem_rows _ _ _ _ _ _).1 hp
    dsimp only at h1 h2 h3 h4
    have e1 : nr (nr x + m) = min (nr x + m) 1048576 := by unfold nr; unfold nr at bx; omega
    have e2 : nr (nr y + n) = min (nr y + n) 1048576 := by unfold nr; unfold nr at by'; omega
    rw [e1] at h1 h2
    rw [e2] at h3 h4
    generalize nr x = X at *
    generalize nr y = Y at *
    generalize nr r.x = P at *
    generalize nr r.y = Q at *
    generalize nr r.w = M at *
    generalize nr r.h = N at *
    omega
  · rintro ⟨h1, h2⟩
    generalize hX : nr x = X at *
    generalize hY : nr y = Y at *
    generalize hP : nr r.x = P at *
    generalize hQ : nr r.y = Q at *
    generalize nr r.w = M at *
    generalize nr r.h = N at *
    obtain ⟨m, hm⟩ := Int.eq_ofNat_of_zero_le (show 0 ≤ max X P - X by omega)
    obtain ⟨n, hn⟩ := Int.eq_ofNat_of_zero_le (show 0 ≤ max Y Q - Y by omega)
    refine ⟨(X + m, Y + n), (mem_rows _ _ _ _ _ _).2 ⟨m, n, by omega, by omega, by omega, rfl⟩, ?_⟩
    dsimp only
    have e1 : nr (X + m) = X + m := nr_in (by omega) (by omega)
    have e2 : nr (Y + n) = Y + n := nr_in (by omega) (by omega)
    rw [e1, e2]
    omega

end

section
open Go.RowKit Go.Lib

def btwv (e n : Int) : Bool := decide (min 0 e ≤ n ∧ n ≤ max 0 e)
/-- Does the line from (0, 0) to (d, e) meet the open square of (p, q)? -/
def hitv (d e p q : Int) : Bool := btwv d p && btwv e q && decide (2 * absv (d * q - e * p) < absv d + absv e)
def hidev (m : M3) (p q l : Int) : Bool := opaquev m p q || decide (l < (getv m p q).h)
def upv (m : M3) (x y u v : Int) : Int := max (getv m x y).h (getv m u v).h
/-- Does (p, q) block the line from (x, y) to (u, v)? -/
def blkv (m : M3) (x y u v p q : Int) : Bool :=
  (!decide (p = x ∧ q = y)) && (!decide (p = u ∧ q = v)) && hitv (u - x) (v - y) (p - x) (q - y) && hidev m p q (upv m x y u v)
def seesv (m : M3) (x y u v : Int) : Bool :=
  (List.range (max y v - min y v + 1).toNat).all fun j => (List.range (max x u - min x u + 1).toNat).all fun i => !blkv m x y u v (min x u + i) (min y v + j)
def blocksv (m : M3) (x y u v p q : Int) : Bool := validm m && inv m.w m.h x y && inv m.w m.h u v && inv m.w m.h p q && blkv m x y u v p q
def lookv (m : M3) (x y u v : Int) : Bool := validm m && inv m.w m.h x y && inv m.w m.h u v && seesv m x y u v
/-- Is the cell of an index visible from (x, y)? -/
def visat (m : M3) (x y r : Int) (high : Bool) (i : Nat) : Bool :=
  decide ((atx m.w i - x) * (atx m.w i - x) + (aty m.w i - y) * (aty m.w i - y) ≤ r * r) && (high || seesv m x y (atx m.w i) (aty m.w i))
def visv (m : M3) (x y r : Int) (high : Bool) : List Bool :=
  if validm m = true ∧ inv m.w m.h x y = true ∧ 0 ≤ r then (List.range (m.w * m.h).toNat).map (visat m x y (min r 32) high) else []
def unionv (a b : List Bool) : List Bool := (List.range (max a.length b.length)).map fun i => a.getD i false || b.getD i false

theorem hit_box {d e p q : Int} (h : hitv d e p q = true) : min 0 d ≤ p ∧ p ≤ max 0 d ∧ min 0 e ≤ q ∧ q ≤ max 0 e ∧ 2 * absv (d * q - e * p) < absv d + absv e := by
  unfold hitv btwv at h
  simp only [Bool.and_eq_true, decide_eq_true_iff] at h
  exact ⟨h.1.1.1, h.1.1.2, h.1.2.1, h.1.2.2, h.2⟩
theorem hit_of {d e p q : Int} (h : min 0 d ≤ p ∧ p ≤ max 0 d ∧ min 0 e ≤ q ∧ q ≤ max 0 e ∧ 2 * absv (d * q - e * p) < absv d + absv e) : hitv d e p q = true := by
  unfold hitv btwv
  simp only [Bool.and_eq_true, decide_eq_true_iff]
  exact ⟨⟨⟨h.1, h.2.1⟩, h.2.2.1, h.2.2.2.1⟩, h.2.2.2.2⟩
theorem blk_parts {m : M3} {x y u v p q : Int} (h : blkv m x y u v p q = true) : ¬ (p = x ∧ q = y) ∧ ¬ (p = u ∧ q = v) ∧ hitv (u - x) (v - y) (p - x) (q - y) = true ∧ hidev m p q (upv m x y u v) = true := by
  unfold blkv at h
  simp only [Bool.and_eq_true, Bool.not_eq_true', decide_eq_false_iff_not] at h
  exact ⟨h.1.1.1, h.1.1.2, h.1.2, h.2⟩
theorem blk_of {m : M3} {x y u v p q : Int} (h1 : ¬ (p = x ∧ q = y)) (h2 : ¬ (p = u ∧ q = v)) (h3 : hitv (u - x) (v - y) (p - x) (q - y) = true) (h4 : hidev m p q (upv m x y u v) = true) : blkv m x y u v p q = true := by
  unfold blkv
  simp only [Bool.and_eq_true, Bool.not_eq_true', decide_eq_false_iff_not]
  exact ⟨⟨⟨h1, h2⟩, h3⟩, h4⟩
theorem blk_box {m : M3} {x y u v p q : Int} (h : blkv m x y u v p q = true) : min x u ≤ p ∧ p ≤ max x u ∧ min y v ≤ q ∧ q ≤ max y v := by
  have := hit_box (blk_parts h).2.2.1
  omega
theorem sees_box {m : M3} {x y u v : Int} (h : ∀ p q, min x u ≤ p → p ≤ max x u → min y v ≤ q → q ≤ max y v → blkv m x y u v p q = false) : seesv m x y u v = true := by
  unfold seesv
  rw [List.all_eq_true]
  intro j hj
  rw [List.all_eq_true]
  intro i hi
  have hj := List.mem_range.1 hj
  have hi := List.mem_range.1 hi
  rw [h _ _ (by omega) (by omega) (by omega) (by omega)]
  rfl
theorem sees_not {m : M3} {x y u v : Int} (h : seesv m x y u v = true) (p q : Int) : blkv m x y u v p q = false := by
  cases hb : blkv m x y u v p q with
  | false => rfl
  | true =>
    obtain ⟨h1, h2, h3, h4⟩ := blk_box hb
    unfold seesv at h
    rw [List.all_eq_true] at h
    have hj := h (q - min y v).toNat (List.mem_range.2 (by omega))
    rw [List.all_eq_true] at hj
    have hi := hj (p - min x u).toNat (List.mem_range.2 (by omega))
    rw [show min x u + ((p - min x u).toNat : Int) = p by omega, show min y v + ((q - min y v).toNat : Int) = q by omega, hb] at hi
    cases hi
theorem sees_iff (m : M3) (x y u v : Int) : seesv m x y u v = true ↔ ∀ p q, blkv m x y u v p q = false := ⟨fun h p q => sees_not h p q, fun h => sees_box fun p q _ _ _ _ => h p q⟩
theorem sees_false {m : M3} {x y u v p q : Int} (h : blkv m x y u v p q = true) : seesv m x y u v = false := by
  cases hs : seesv m x y u v with
  | false => rfl
  | true => have := sees_not hs p q; rw [h] at this; cases this

/-- The reference's own way to ask whether a line meets a square. -/
def crossv (px py qx qy x y : Int) : Int := (qx - px) * (y - py) - (qy - py) * (x - px)
theorem hit_ref (x y u v p q : Int) :
    hitv (u - x) (v - y) (p - x) (q - y) =
      (!(decide (max (2 * x + 1) (2 * u + 1) ≤ 2 * p) || decide (2 * p + 2 ≤ min (2 * x + 1) (2 * u + 1)) || decide (max (2 * y + 1) (2 * v + 1) ≤ 2 * q) || decide (2 * q + 2 ≤ min (2 * y + 1) (2 * v + 1))) &&
        ((decide (crossv (2 * x + 1) (2 * y + 1) (2 * u + 1) (2 * v + 1) (2 * p) (2 * q) < 0) || decide (crossv (2 * x + 1) (2 * y + 1) (2 * u + 1) (2 * v + 1) (2 * p + 2) (2 * q) < 0) || decide (crossv (2 * x + 1) (2 * y + 1) (2 * u + 1) (2 * v + 1) (2 * p) (2 * q + 2) < 0) || decide (crossv (2 * x + 1) (2 * y + 1) (2 * u + 1) (2 * v + 1) (2 * p + 2) (2 * q + 2) < 0)) &&
         (decide (0 < crossv (2 * x + 1) (2 * y + 1) (2 * u + 1) (2 * v + 1) (2 * p) (2 * q)) || decide (0 < crossv (2 * x + 1) (2 * y + 1) (2 * u + 1) (2 * v + 1) (2 * p + 2) (2 * q)) || decide (0 < crossv (2 * x + 1) (2 * y + 1) (2 * u + 1) (2 * v + 1) (2 * p) (2 * q + 2)) || decide (0 < crossv (2 * x + 1) (2 * y + 1) (2 * u + 1) (2 * v + 1) (2 * p + 2) (2 * q + 2))))) := by
  obtain ⟨d, hd⟩ : ∃ d, d = u - x := ⟨_, rfl⟩
  obtain ⟨e, he⟩ : ∃ e, e = v - y := ⟨_, rfl⟩
  obtain ⟨a, ha⟩ : ∃ a, a = p - x := ⟨_, rfl⟩
  obtain ⟨b, hb⟩ : ∃ b, b = q - y := ⟨_, rfl⟩
  have s (i j : Int) : crossv (2 * x + 1) (2 * y + 1) (2 * u + 1) (2 * v + 1) (2 * p + i) (2 * q + j) = 4 * (d * b - e * a) + 2 * d * (j - 1) - 2 * e * (i - 1) := by
    unfold crossv
    rw [show 2 * u + 1 - (2 * x + 1) = 2 * d by omega, show 2 * v + 1 - (2 * y + 1) = 2 * e by omega, show 2 * q + j - (2 * y + 1) = 2 * b + (j - 1) by omega, show 2 * p + i - (2 * x + 1) = 2 * a + (i - 1) by omega]
    rw [Int.mul_add, Int.mul_add, show 2 * d * (2 * b) = 4 * (d * b) by rw [Int.mul_assoc, Int.mul_left_comm d 2 b, ← Int.mul_assoc]; rfl, show 2 * e * (2 * a) = 4 * (e * a) by rw [Int.mul_assoc, Int.mul_left_comm e 2 a, ← Int.mul_assoc]; rfl]
    omega
  have s00 := s 0 0
  have s20 := s 2 0
  have s02 := s 0 2
  have s22 := s 2 2
  rw [Int.add_zero, Int.add_zero] at s00
  rw [Int.add_zero] at s20 s02
  rw [s00, s20, s02, s22, ← hd, ← he, ← ha, ← hb]
  unfold hitv btwv absv
  generalize hK : d * b - e * a = K
  rw [Bool.eq_iff_iff]
  simp only [Bool.and_eq_true, Bool.or_eq_true, Bool.not_eq_true', Bool.or_eq_false_iff, decide_eq_true_iff, decide_eq_false_iff_not]
  clear s00 s20 s02 s22 s hK
  omega

theorem hit_turn (d e p q : Int) : hitv (-d) (-e) (p - d) (q - e) = hitv d e p q := by
  have h1 : -d * (q - e) - -e * (p - d) = -(d * q - e * p) := by
    rw [Int.neg_mul, Int.neg_mul, Int.mul_sub, Int.mul_sub, Int.mul_comm e d]; omega
  unfold hitv btwv
  rw [h1, Bool.eq_iff_iff]
  generalize d * q - e * p = K
  simp only [Bool.and_eq_true, decide_eq_true_iff]
  unfold absv
  omega
theorem blk_turn (m : M3) (x y u v p q : Int) : blkv m u v x y p q = blkv m x y u v p q := by
  have h := hit_turn (u - x) (v - y) (p - x) (q - y)
  rw [show -(u - x) = x - u by omega, show -(v - y) = y - v by omega, show p - x - (u - x) = p - u by omega, show q - y - (v - y) = q - v by omega] at h
  have hu : upv m u v x y = upv m x y u v := by unfold upv; omega
  unfold blkv
  rw [h, hu, Bool.and_comm (!decide (p = u ∧ q = v))]
theorem sees_turn (m : M3) (x y u v : Int) : seesv m u v x y = seesv m x y u v := by
  rw [Bool.eq_iff_iff, sees_iff, sees_iff]
  exact forall_congr' fun p => forall_congr' fun q => by rw [blk_turn]
theorem look_turn (m : M3) (x y u v : Int) : lookv m u v x y = lookv m x y u v := by
  unfold lookv
  rw [sees_turn]
  cases validm m <;> cases inv m.w m.h x y <;> cases inv m.w m.h u v <;> rfl
theorem blocks_turn (m : M3) (x y u v p q : Int) : blocksv m u v x y p q = blocksv m x y u v p q := by
  unfold blocksv
  rw [blk_turn]
  cases validm m <;> cases inv m.w m.h x y <;> cases inv m.w m.h u v <;> rfl
theorem blocks_look {m : M3} {x y u v p q : Int} (h : blocksv m x y u v p q = true) : lookv m x y u v = false := by
  unfold blocksv at h
  simp only [Bool.and_eq_true] at h
  unfold lookv
  rw [sees_false h.2, Bool.and_false]
theorem sees_self (m : M3) (x y : Int) : seesv m x y x y = true := by
  refine sees_box fun p q h1 h2 h3 h4 => ?_
  unfold blkv
  rw [decide_eq_true (show p = x ∧ q = y by omega)]
  rfl

/-- How an octant lies: the displacements along and across it; a displacement may be none where the line needs none. -/
def Ori (a b c d x y : Int) : Prop :=
  (b = 0 ∧ c = 0 ∧ (a = 1 ∨ a = -1 ∨ (a = 0 ∧ x = 0)) ∧ (d = 1 ∨ d = -1 ∨ (d = 0 ∧ y = 0))) ∨ (a = 0 ∧ d = 0 ∧ (b = 1 ∨ b = -1 ∨ (b = 0 ∧ x = 0)) ∧ (c = 1 ∨ c = -1 ∨ (c = 0 ∧ y = 0)))
theorem hit_place {a b c d x y i j : Int} (h : Ori a b c d x y) (h0 : 0 ≤ y) (h1 : y ≤ x) (hh : hitv x y i j = true) : hitv (x * a + y * c) (x * b + y * d) (i * a + j * c) (i * b + j * d) = true := by
  have hb := hit_box hh
  refine hit_of ?_
  obtain ⟨b1, b2, b3, b4, b5⟩ := hb
  unfold absv at *
  rcases h with ⟨rfl, rfl, ha, hd⟩ | ⟨rfl, rfl, hb, hc⟩
  · rcases ha with rfl | rfl | ⟨rfl, rfl⟩ <;> rcases hd with rfl | rfl | ⟨rfl, rfl⟩ <;> simp only [Int.mul_zero, Int.mul_one, Int.zero_mul, Int.add_zero, Int.zero_add, Int.mul_neg, Int.neg_mul, Int.neg_neg] at * <;> omega
  · rcases hb with rfl | rfl | ⟨rfl, rfl⟩ <;> rcases hc with rfl | rfl | ⟨rfl, rfl⟩ <;> simp only [Int.mul_zero, Int.mul_one, Int.zero_mul, Int.add_zero, Int.zero_add, Int.mul_neg, Int.neg_mul, Int.neg_neg] at * <;> omega
theorem hit_back {a b c d x y p q : Int} (h : Ori a b c d x y) (h0 : 0 ≤ y) (h1 : y ≤ x) (hh : hitv (x * a + y * c) (x * b + y * d) p q = true) : ∃ i j, p = i * a + j * c ∧ q = i * b + j * d ∧ hitv x y i j = true := by
  have hb := hit_box hh
  obtain ⟨b1, b2, b3, b4, b5⟩ := hb
  refine ⟨p * a + q * b, p * c + q * d, ?_, ?_, hit_of ?_⟩
  all_goals
    unfold absv at *
    rcases h with ⟨rfl, rfl, ha, hd⟩ | ⟨rfl, rfl, hb, hc⟩
    · rcases ha with rfl | rfl | ⟨rfl, rfl⟩ <;> rcases hd with rfl | rfl | ⟨rfl, rfl⟩ <;> simp only [Int.mul_zero, Int.mul_one, Int.zero_mul, Int.add_zero, Int.zero_add, Int.mul_neg, Int.neg_mul, Int.neg_neg] at * <;> omega
    · rcases hb with rfl | rfl | ⟨rfl, rfl⟩ <;> rcases hc with rfl | rfl | ⟨rfl, rfl⟩ <;> simp only [Int.mul_zero, Int.mul_one, Int.zero_mul, Int.add_zero, Int.zero_add, Int.mul_neg, Int.neg_mul, Int.neg_neg] at * <;> omega
theorem lt_of_scaled {x a b : Int} (hx : 0 < x) (h : x * a < x * b) : a < b := Int.lt_of_mul_lt_mul_left h (Int.le_of_lt hx)
/-- Between its ends a line in an octant meets no squares of a column but two. -/
theorem hit_rows {x y i j : Int} (h0 : 0 ≤ y) (h1 : y ≤ x) (hh : hitv x y i j = true) (n0 : ¬ (i = 0 ∧ j = 0)) (n1 : ¬ (i = x ∧ j = y)) : 1 ≤ i ∧ i < x ∧ (j = i * y / x ∨ j = i * y / x + 1) := by
  obtain ⟨b1, b2, b3, b4, b5⟩ := hit_box hh
  unfold absv at b5
  have hx : 0 < x := by omega
  have hi : i ≠ 0 := by
    rintro rfl
    rw [Int.mul_zero] at b5
    have : x * j < x * 1 := by rw [Int.mul_one]; omega
    have := lt_of_scaled hx this
    omega
  have hi2 : i ≠ x := by
    rintro rfl
    rw [Int.mul_comm y i] at b5
    have e1 := Int.mul_add i j 1
    have e2 := Int.mul_add i y 1
    have l1 : i * j < i * (y + 1) := by omega
    have l2 : i * y < i * (j + 1) := by omega
    have := lt_of_scaled hx l1
    have := lt_of_scaled hx l2
    omega
  refine ⟨by omega, by omega, ?_⟩
  have e0 := Int.mul_ediv_add_emod (i * y) x
  have e1 := Int.emod_nonneg (i * y) (by omega : x ≠ 0)
  have e2 := Int.emod_lt_of_pos (i * y) hx
  generalize i * y / x = k at *
  generalize i * y % x = r at *
  rw [Int.mul_comm y i] at b5
  have f1 := Int.mul_add x k 2
  have f2 := Int.mul_add x j 1
  have l1 : x * j < x * (k + 2) := by omega
  have l2 : x * k < x * (j + 1) := by omega
  have := lt_of_scaled hx l1
  have := lt_of_scaled hx l2
  omega
/-- What a column asks. -/
def colv (m : M3) (f g a b c d x y l i j : Int) : Bool := hitv x y i j && hidev m (f + i * a + j * c) (g + i * b + j * d) l
theorem col_inside {m : M3} {f g a b c d x y i j : Int} (h : Ori a b c d x y) (h0 : 0 ≤ y) (h1 : y ≤ x) (hf : inv m.w m.h f g = true) (ht : inv m.w m.h (f + x * a + y * c) (g + x * b + y * d) = true) (hh : hitv x y i j = true) : inv m.w m.h (f + i * a + j * c) (g + i * b + j * d) = true := by
  have hb := hit_box (hit_place h h0 h1 hh)
  unfold inv at *
  rw [decide_eq_true_iff] at *
  omega
theorem unb_yes {m : M3} {f g a b c d x y : Int} (h : Ori a b c d x y) (h0 : 0 ≤ y) (h1 : y ≤ x)
    (hc : ∀ i, 1 ≤ i → i < x → colv m f g a b c d x y (upv m f g (f + x * a + y * c) (g + x * b + y * d)) i (i * y / x) = false ∧ colv m f g a b c d x y (upv m f g (f + x * a + y * c) (g + x * b + y * d)) i (i * y / x + 1) = false) :
    seesv m f g (f + x * a + y * c) (g + x * b + y * d) = true := by
  rw [sees_iff]
  intro p q
  cases hb : blkv m f g (f + x * a + y * c) (g + x * b + y * d) p q with
  | false => rfl
  | true =>
    exfalso
    obtain ⟨n0, n1, h3, h4⟩ := blk_parts hb
    rw [show f + x * a + y * c - f = x * a + y * c by omega, show g + x * b + y * d - g = x * b + y * d by omega] at h3
    obtain ⟨i, j, hp, hq, hij⟩ := hit_back h h0 h1 h3
    obtain rfl : p = f + i * a + j * c := by omega
    obtain rfl : q = g + i * b + j * d := by omega
    obtain ⟨i1, i2, hj⟩ := hit_rows h0 h1 hij (fun ⟨e1, e2⟩ => n0 (by subst e1; subst e2; constructor <;> omega)) (fun ⟨e1, e2⟩ => n1 (by subst e1; subst e2; constructor <;> omega))
    obtain ⟨c1, c2⟩ := hc i i1 i2
    unfold colv at c1 c2
    rcases hj with rfl | rfl
    · rw [hij, h4] at c1; cases c1
    · rw [hij, h4] at c2; cases c2
theorem ori_far {a b c d x y i j : Int} (h : Ori a b c d x y) (_h0 : 0 ≤ y) (hh : hitv x y i j = true) (e1 : i * a + j * c = 0) (e2 : i * b + j * d = 0) : i = 0 := by
  have hb := hit_box hh
  rcases h with ⟨rfl, rfl, ha, hd⟩ | ⟨rfl, rfl, hb, hc⟩
  · rcases ha with rfl | rfl | ⟨rfl, rfl⟩ <;> omega
  · rcases hb with rfl | rfl | ⟨rfl, rfl⟩ <;> omega
theorem ori_end {a b c d x y i j : Int} (h : Ori a b c d x y) (e1 : i * a + j * c = x * a + y * c) (e2 : i * b + j * d = x * b + y * d) (hh : hitv x y i j = true) (_h0 : 0 ≤ y) (h1 : y ≤ x) : i = x := by
  have hb := hit_box hh
  rcases h with ⟨rfl, rfl, ha, hd⟩ | ⟨rfl, rfl, hb, hc⟩
  · rcases ha with rfl | rfl | ⟨rfl, rfl⟩ <;> omega
  · rcases hb with rfl | rfl | ⟨rfl, rfl⟩ <;> omega
theorem unb_no {m : M3} {f g a b c d x y i j : Int} (h : Ori a b c d x y) (h0 : 0 ≤ y) (h1 : y ≤ x) (i1 : 1 ≤ i) (i2 : i < x)
    (hc : colv m f g a b c d x y (upv m f g (f + x * a + y * c) (g + x * b + y * d)) i j = true) : seesv m f g (f + x * a + y * c) (g + x * b + y * d) = false := by
  unfold colv at hc
  rw [Bool.and_eq_true] at hc
  have hp := hit_place h h0 h1 hc.1
  refine sees_false (blk_of ?_ ?_ ?_ hc.2)
  · rintro ⟨e1, e2⟩
    have := ori_far h h0 hc.1 (by omega) (by omega)
    omega
  · rintro ⟨e1, e2⟩
    have := ori_end h (by omega) (by omega) hc.1 h0 h1
    omega
  · rw [show f + x * a + y * c - f = x * a + y * c by omega, show g + x * b + y * d - g = x * b + y * d by omega, show f + i * a + j * c - f = i * a + j * c by omega, show g + i * b + j * d - g = i * b + j * d by omega]
    exact hp

end

section
open Go.RowKit Go.Lib

/-- What an octant shows, by the cells' indexes. -/
def Octs (m : M3) (f g a b c d R : Int) (high : Bool) (n : Nat) : Prop :=
  ∃ s t : Int, 0 ≤ t ∧ t ≤ s ∧ s ≤ R ∧ s * s + t * t ≤ R * R ∧ inv m.w m.h (f + s * a + t * c) (g + s * b + t * d) = true ∧
    (high || seesv m f g (f + s * a + t * c) (g + s * b + t * d)) = true ∧ indexv m.w (f + s * a + t * c) (g + s * b + t * d) = n
/-- The displacements along and across the eight octants. -/
def eight : List (Int × Int × Int × Int) := [(1, 0, 0, 1), (1, 0, 0, -1), (0, 1, -1, 0), (0, 1, 1, 0), (-1, 0, 0, -1), (-1, 0, 0, 1), (0, -1, 1, 0), (0, -1, -1, 0)]
theorem eight_unit {o : Int × Int × Int × Int} (h : o ∈ eight) : (o.2.1 = 0 ∧ o.2.2.1 = 0 ∧ (o.1 = 1 ∨ o.1 = -1) ∧ (o.2.2.2 = 1 ∨ o.2.2.2 = -1)) ∨ (o.1 = 0 ∧ o.2.2.2 = 0 ∧ (o.2.1 = 1 ∨ o.2.1 = -1) ∧ (o.2.2.1 = 1 ∨ o.2.2.1 = -1)) := by
  unfold eight at h
  simp only [List.mem_cons, List.not_mem_nil, or_false] at h
  rcases h with rfl | rfl | rfl | rfl | rfl | rfl | rfl | rfl <;> decide
theorem eight_ori {o : Int × Int × Int × Int} (h : o ∈ eight) (x y : Int) : Ori o.1 o.2.1 o.2.2.1 o.2.2.2 x y := by
  rcases eight_unit h with ⟨h1, h2, h3, h4⟩ | ⟨h1, h2, h3, h4⟩
  · exact .inl ⟨h1, h2, h3.imp_right .inl, h4.imp_right .inl⟩
  · exact .inr ⟨h1, h2, h3.imp_right .inl, h4.imp_right .inl⟩
theorem formed_num {m : M3} (h : formedv m = true) : ∃ X Y : Nat, m.w = X ∧ m.h = Y ∧ 1 ≤ X ∧ X ≤ 32 ∧ 1 ≤ Y ∧ Y ≤ 32 ∧ m.cs.length = X * Y ∧ (m.w * m.h).toNat = X * Y := by
  unfold formedv validv at h
  rw [Bool.and_eq_true, decide_eq_true_iff, decide_eq_true_iff] at h
  obtain ⟨⟨w1, w2, h1, h2⟩, hl⟩ := h
  obtain ⟨X, hX⟩ := Int.eq_ofNat_of_zero_le (show 0 ≤ m.w by omega)
  obtain ⟨Y, hY⟩ := Int.eq_ofNat_of_zero_le (show 0 ≤ m.h by omega)
  rw [hX, hY, ← Int.natCast_mul] at hl
  refine ⟨X, Y, hX, hY, by omega, by omega, by omega, by omega, by omega, ?_⟩
  rw [hX, hY, ← Int.natCast_mul, Int.toNat_natCast]
theorem sq_le {s R : Int} (hs : 0 ≤ s) (hR : 0 ≤ R) (h : s * s ≤ R * R) : s ≤ R := by
  rcases Int.lt_or_le R s with h1 | h1
  · exfalso
    have h2 : R * R ≤ R * s := Int.mul_le_mul_of_nonneg_left (Int.le_of_lt h1) hR
    have h3 : R * s < s * s := Int.mul_lt_mul_of_pos_right h1 (by omega)
    omega
  · exact h1
theorem sq_mono {s R : Int} (hs : 0 ≤ s) (h : s ≤ R) : s * s ≤ R * R := Int.mul_le_mul h h hs (Int.le_trans hs h)
theorem sq_neg (n : Int) : -n * -n = n * n := by rw [Int.neg_mul, Int.mul_neg, Int.neg_neg]
theorem sq0 (n : Int) : 0 ≤ n * n := by
  rcases Int.le_total 0 n with h | h
  · exact Int.mul_nonneg h h
  · rw [← sq_neg]; exact Int.mul_nonneg (by omega) (by omega)
theorem octs_sound {m : M3} {f g R : Int} {high : Bool} {n : Nat} {o : Int × Int × Int × Int} (hf : formedv m = true) (ho : o ∈ eight) (h : Octs m f g o.1 o.2.1 o.2.2.1 o.2.2.2 R high n) : n < m.cs.length ∧ visat m f g R high n = true := by
  obtain ⟨X, Y, hX, hY, x1, x2, y1, y2, hl, _⟩ := formed_num hf
  obtain ⟨s, t, t0, ts, sR, hr, hi, hs, hn⟩ := h
  rw [hX, hY] at hi
  obtain ⟨k, hk, hk2, hat⟩ := index_pick X Y _ _ x1 x2 y2 hi
  rw [hX] at hn
  obtain rfl : n = k := by have := hk.out; omega
  refine ⟨by omega, ?_⟩
  unfold visat
  rw [hX, ← hat.out.1, ← hat.out.2, hs, Bool.and_true, decide_eq_true_iff]
  rw [show f + s * o.1 + t * o.2.2.1 - f = s * o.1 + t * o.2.2.1 by omega, show g + s * o.2.1 + t * o.2.2.2 - g = s * o.2.1 + t * o.2.2.2 by omega]
  rcases eight_unit ho with ⟨h1, h2, h3, h4⟩ | ⟨h1, h2, h3, h4⟩
  · rw [h1, h2]
    rcases h3 with h3 | h3 <;> rcases h4 with h4 | h4 <;> rw [h3, h4] <;> simp only [Int.mul_zero, Int.mul_one, Int.add_zero, Int.zero_add, Int.mul_neg, Int.neg_mul, Int.neg_neg] <;> exact hr
  · rw [h1, h2]
    rcases h3 with h3 | h3 <;> rcases h4 with h4 | h4 <;> rw [h3, h4] <;> simp only [Int.mul_zero, Int.mul_one, Int.add_zero, Int.zero_add, Int.mul_neg, Int.neg_mul, Int.neg_neg] <;> omega
theorem octs_all {m : M3} {f g R : Int} {high : Bool} {n : Nat} (hf : formedv m = true) (hR : 0 ≤ R) (hn : n < m.cs.length) (h : visat m f g R high n = true) : ∃ o ∈ eight, Octs m f g o.1 o.2.1 o.2.2.1 o.2.2.2 R high n := by
  obtain ⟨X, Y, hX, hY, x1, x2, y1, y2, hl, _⟩ := formed_num hf
  obtain ⟨a, b, hab, hin, hix, _⟩ := cell_pick X Y n x1 x2 y2 (by omega)
  unfold visat at h
  rw [hX, ← hab.out.1, ← hab.out.2, Bool.and_eq_true, decide_eq_true_iff] at h
  obtain ⟨hd, hs⟩ := h
  obtain ⟨p, hp⟩ : ∃ p : Int, p = a - f := ⟨_, rfl⟩
  obtain ⟨q, hq⟩ : ∃ q : Int, q = b - g := ⟨_, rfl⟩
  rw [← hp, ← hq] at hd
  have np := sq_neg p
  have nq := sq_neg q
  have p0 : 0 ≤ p * p := sq0 p
  have q0 : 0 ≤ q * q := sq0 q
  have key : ∀ (s t : Int) (o : Int × Int × Int × Int), o ∈ eight → 0 ≤ t → t ≤ s → s * s + t * t = p * p + q * q → s * o.1 + t * o.2.2.1 = p → s * o.2.1 + t * o.2.2.2 = q → ∃ o ∈ eight, Octs m f g o.1 o.2.1 o.2.2.1 o.2.2.2 R high n := by
    intro s t o ho t0 ts e1 e2 e3
    have t1 : 0 ≤ t * t := sq0 t
    refine ⟨o, ho, s, t, t0, ts, sq_le (by omega) hR (by omega), by omega, ?_⟩
    rw [show f + s * o.1 + t * o.2.2.1 = a by omega, show g + s * o.2.1 + t * o.2.2.2 = b by omega, hX, hY]
    exact ⟨hin.out.symm, hs, hix.out.symm⟩
  by_cases hx : 0 ≤ p
  · by_cases hy : 0 ≤ q
    · by_cases hl : q ≤ p
      · exact key p q (1, 0, 0, 1) (by decide) hy hl rfl (by simp) (by simp)
      · exact key q p (0, 1, 1, 0) (by decide) hx (by omega) (by omega) (by simp) (by simp)
    · by_cases hl : -q ≤ p
      · exact key p (-q) (1, 0, 0, -1) (by decide) (by omega) hl (by omega) (by simp) (by simp)
      · exact key (-q) p (0, -1, 1, 0) (by decide) hx (by omega) (by omega) (by simp) (by simp)
  · by_cases hy : 0 ≤ q
    · by_cases hl : q ≤ -p
      · exact key (-p) q (-1, 0, 0, 1) (by decide) hy hl (by omega) (by simp) (by simp)
      · exact key q (-p) (0, 1, -1, 0) (by decide) (by omega) (by omega) (by omega) (by simp) (by simp)
    · by_cases hl : -q ≤ -p
      · exact key (-p) (-q) (-1, 0, 0, -1) (by decide) (by omega) hl (by omega) (by simp) (by simp)
      · exact key (-q) (-p) (0, -1, -1, 0) (by decide) (by omega) (by omega) (by omega) (by simp) (by simp)
theorem formed_of {m : M3} (h : validm m = true) : formedv m = true := by
  unfold validm at h
  exact (Bool.and_eq_true _ _ ▸ h).1
/-- A list that holds what the octants show. -/
theorem vis_of {m : M3} {f g r : Int} {high : Bool} {L : List Bool} (hv : validm m = true) (hi : inv m.w m.h f g = true) (hr : 0 ≤ r) (hl : L.length = m.cs.length)
    (h : ∀ n, (hn : n < L.length) → (L[n]'hn = true ↔ ∃ o ∈ eight, Octs m f g o.1 o.2.1 o.2.2.1 o.2.2.2 (min r 32) high n)) : L = visv m f g r high := by
  have hf := formed_of hv
  obtain ⟨X, Y, hX, hY, x1, x2, y1, y2, hlen, hn⟩ := formed_num hf
  unfold visv
  rw [if_pos ⟨hv, hi, hr⟩]
  apply List.ext_getElem
  · rw [List.length_map, List.length_range]; omega
  · intro n h1 h2
    rw [List.getElem_map, List.getElem_range, Bool.eq_iff_iff, h n h1]
    constructor
    · rintro ⟨o, ho, hO⟩
      exact (octs_sound hf ho hO).2
    · intro hV
      exact octs_all hf (by omega) (by omega) hV
theorem vis_len {m : M3} {f g r : Int} {high : Bool} (hv : validm m = true) (hi : inv m.w m.h f g = true) (hr : 0 ≤ r) : (visv m f g r high).length = m.cs.length := by
  obtain ⟨X, Y, hX, hY, x1, x2, y1, y2, hlen, hn⟩ := formed_num (formed_of hv)
  unfold visv
  rw [if_pos ⟨hv, hi, hr⟩, List.length_map, List.length_range]
  omega
theorem vis_small (m : M3) (f g r : Int) (high : Bool) : (visv m f g r high).length ≤ 1024 := by
  by_cases h : validm m = true ∧ inv m.w m.h f g = true ∧ 0 ≤ r
  · obtain ⟨X, Y, hX, hY, x1, x2, y1, y2, hlen, hn⟩ := formed_num (formed_of h.1)
    rw [vis_len h.1 h.2.1 h.2.2, hlen]
    exact Nat.mul_le_mul x2 y2
  · unfold visv
    rw [if_neg h]
    exact Nat.zero_le _
theorem vis_get {m : M3} {f g r : Int} {high : Bool} {n : Nat} (hn : n < (visv m f g r high).length) : (visv m f g r high)[n]'hn = visat m f g (min r 32) high n := by
  by_cases h : validm m = true ∧ inv m.w m.h f g = true ∧ 0 ≤ r
  · have e : visv m f g r high = (List.range (m.w * m.h).toNat).map (visat m f g (min r 32) high) := by unfold visv; rw [if_pos h]
    simp only [e, List.getElem_map, List.getElem_range]
  · exfalso
    have e : visv m f g r high = [] := by unfold visv; rw [if_neg h]
    rw [e] at hn
    cases hn
theorem vis_none {m : M3} {f g r : Int} {high : Bool} (h : (visv m f g r high).length = 0) : ¬ (validm m = true ∧ inv m.w m.h f g = true ∧ 0 ≤ r) := by
  intro hh
  obtain ⟨X, Y, hX, hY, x1, x2, y1, y2, hlen, hn⟩ := formed_num (formed_of hh.1)
  rw [vis_len hh.1 hh.2.1 hh.2.2, hlen] at h
  have := Nat.mul_le_mul x1 y1
  omega
theorem vis_some {m : M3} {f g r : Int} {high : Bool} (h : (visv m f g r high).length ≠ 0) : validm m = true ∧ inv m.w m.h f g = true ∧ 0 ≤ r := by
  by_cases hh : validm m = true ∧ inv m.w m.h f g = true ∧ 0 ≤ r
  · exact hh
  · exfalso
    apply h
    unfold visv
    rw [if_neg hh]
    rfl
/-- What is at the index of a cell. -/
theorem vis_cell {m : M3} {f g r u v : Int} {high : Bool} (hv : validm m = true) (hi : inv m.w m.h f g = true) (hr : 0 ≤ r) (hu : inv m.w m.h u v = true) :
    ∃ n : Nat, ∃ hn : n < (visv m f g r high).length, Hid ((n : Int) = indexv m.w u v) ∧ (visv m f g r high)[n]'hn = (decide ((u - f) * (u - f) + (v - g) * (v - g) ≤ min r 32 * min r 32) && (high || seesv m f g u v)) := by
  obtain ⟨X, Y, hX, hY, x1, x2, y1, y2, hlen, _⟩ := formed_num (formed_of hv)
  rw [hX, hY] at hu
  obtain ⟨k, hk, hk2, hat⟩ := index_pick X Y u v x1 x2 y2 hu
  have hk3 : k < (visv m f g r high).length := by rw [vis_len hv hi hr, hlen]; exact hk2
  refine ⟨k, hk3, hid (by rw [hX]; exact hk.out), ?_⟩
  rw [vis_get hk3]
  unfold visat
  rw [hX, ← hat.out.1, ← hat.out.2]

theorem get_with {m : M3} {x y p q : Int} {c : C3} (hi : insidev m x y = true) (h : ¬ (p = x ∧ q = y)) : getv (withv m x y c) p q = getv m p q := by
  have hin : insidev (withv m x y c) p q = insidev m p q := by unfold insidev formedv withv; rw [List.length_set]
  unfold getv
  rw [hin]
  split
  · next h2 =>
    obtain ⟨X, Y, a, b, hX, hY, rfl, rfl, ha, hb, X2, Y2, hl, hix, hlt⟩ := inside_at hi
    obtain ⟨X', Y', a', b', hX', hY', rfl, rfl, ha', hb', _, _, _, hix', hlt'⟩ := inside_at h2
    obtain rfl : X = X' := by omega
    have hw : (withv m a b c).w = m.w := rfl
    rw [hw, hix']
    show ((m.cs.set (indexv m.w a b).toNat c).getD _ _) = _
    rw [hix, Int.toNat_natCast, Int.toNat_natCast, List.getD_eq_getElem?_getD, List.getD_eq_getElem?_getD, List.getElem?_set_ne]
    intro e
    apply h
    have e1 : (b * X + a) % X = (b' * X + a') % X := by rw [e]
    have e2 : (b * X + a) / X = (b' * X + a') / X := by rw [e]
    rw [Nat.mul_comm b, Nat.mul_comm b', Nat.mul_add_mod, Nat.mul_add_mod, Nat.mod_eq_of_lt ha, Nat.mod_eq_of_lt ha'] at e1
    rw [Nat.mul_comm b, Nat.mul_comm b', Nat.mul_add_div (by omega), Nat.mul_add_div (by omega), Nat.div_eq_of_lt ha, Nat.div_eq_of_lt ha'] at e2
    omega
  · rfl
theorem get_with_at {m : M3} {x y : Int} {q : C3} (h : insidev m x y = true) : getv (withv m x y q) x y = q := by
  have hin : insidev (withv m x y q) x y = true := by rw [← h]; unfold insidev formedv withv; rw [List.length_set]
  obtain ⟨X, Y, a, b, hX, hY, rfl, rfl, ha, hb, X2, Y2, hl, hix, hlt⟩ := inside_at h
  unfold getv
  rw [if_pos hin]
  show ((m.cs.set (indexv m.w a b).toNat q).getD (indexv m.w a b).toNat _) = _
  rw [hix, Int.toNat_natCast, List.getD_eq_getElem?_getD, List.getElem?_set_self hlt]
  rfl
theorem inside_with {m : M3} {x y p q : Int} {c : C3} : insidev (withv m x y c) p q = insidev m p q := by unfold insidev formedv withv; rw [List.length_set]
theorem valid_with {m : M3} {x y : Int} {q : C3} (h : validm m = true) (hq : validc q = true) : validm (withv m x y q) = true := by
  unfold validm at *
  rw [Bool.and_eq_true, List.all_eq_true] at *
  refine ⟨?_, fun c hc => ?_⟩
  · rw [← h.1]; unfold formedv withv; rw [List.length_set]
  · rcases List.mem_or_eq_of_mem_set hc with h1 | rfl
    · exact h.2 c h1
    · exact hq
theorem get_low {m : M3} {x y : Int} (h : validm m = true) : 0 ≤ (getv m x y).h := by
  unfold getv
  split
  · next hi =>
    obtain ⟨X, Y, a, b, hX, hY, rfl, rfl, ha, hb, X2, Y2, hl, hix, hlt⟩ := inside_at hi
    rw [hix, Int.toNat_natCast, List.getD_eq_getElem?_getD, List.getElem?_eq_getElem hlt]
    unfold validm at h
    rw [Bool.and_eq_true, List.all_eq_true] at h
    have := h.2 _ (List.getElem_mem hlt)
    unfold validc at this
    rw [Bool.and_eq_true, decide_eq_true_iff] at this
    exact this.1.2.2.1
  · exact Int.le_refl 0
/-- Lowering a cell hides nothing. -/
theorem sees_lower {m : M3} {x y u v p q : Int} (hv : validm m = true) (hi : inv m.w m.h p q = true) (n1 : ¬ (x = p ∧ y = q)) (n2 : ¬ (u = p ∧ v = q)) (h : lookv m x y u v = true) : lookv (withv m p q ⟨1, 0, 0⟩) x y u v = true := by
  have hin : insidev m p q = true := by unfold insidev; rw [formed_of hv, hi]; rfl
  unfold lookv at h ⊢
  simp only [Bool.and_eq_true] at h ⊢
  obtain ⟨⟨⟨_, h2⟩, h3⟩, h4⟩ := h
  refine ⟨⟨⟨valid_with hv (by decide), h2⟩, h3⟩, ?_⟩
  rw [sees_iff] at h4 ⊢
  intro i j
  cases hb : blkv (withv m p q ⟨1, 0, 0⟩) x y u v i j with
  | false => rfl
  | true =>
    exfalso
    obtain ⟨b1, b2, b3, b4⟩ := blk_parts hb
    unfold hidev upv opaquev at b4
    rw [get_with hin n1, get_with hin n2, inside_with] at b4
    by_cases e : i = p ∧ j = q
    · obtain ⟨rfl, rfl⟩ := e
      rw [get_with_at hin, hin] at b4
      have g1 := get_low (x := x) (y := y) hv
      have hm : ¬ (max (getv m x y).h (getv m u v).h < 0) := by omega
      dsimp only at b4
      rw [decide_eq_false hm] at b4
      exact absurd b4 (by decide)
    · rw [get_with hin e] at b4
      have := blk_of b1 b2 b3 (show hidev m i j (upv m x y u v) = true from b4)
      rw [h4] at this
      cases this

theorem union_len (a b : List Bool) : (unionv a b).length = max a.length b.length := by unfold unionv; simp
theorem union_get {a b : List Bool} {i : Nat} (h : i < (unionv a b).length) : (unionv a b)[i]'h = (a.getD i false || b.getD i false) := by unfold unionv; simp
theorem union_getD (a b : List Bool) (i : Nat) : (unionv a b).getD i false = (a.getD i false || b.getD i false) := by
  by_cases h : i < (unionv a b).length
  · rw [List.getD_eq_getElem?_getD, List.getElem?_eq_getElem h, Option.getD_some, union_get h]
  · have h2 := union_len a b
    rw [List.getD_eq_getElem?_getD, List.getElem?_eq_none (by omega), List.getD_eq_getElem?_getD, List.getElem?_eq_none (by omega), List.getD_eq_getElem?_getD, List.getElem?_eq_none (by omega)]
    rfl
theorem union_comm (a b : List Bool) : unionv b a = unionv a b := by
  apply List.ext_getElem
  · rw [union_len, union_len]; omega
  · intro i h1 h2
    rw [union_get, union_get, Bool.or_comm]
theorem union_again (a b : List Bool) : unionv (unionv a b) a = unionv a b := by
  apply List.ext_getElem
  · rw [union_len, union_len]; omega
  · intro i h1 h2
    rw [union_get, union_get, union_getD]
    cases a.getD i false <;> cases b.getD i false <;> rfl

end

section

section
variable {α : Type} (lt : α → α → Bool)
/-- Put behind the last that is not greater (the list from its end). -/
def insS (x : α) : List α → List α
  | [] => [x]
  | y :: l => if lt x y = true then y :: insS x l else x :: y :: l
def putS (l : List α) (x : α) : List α := (insS lt x l.reverse).reverse
/-- What one element after the other, put in, makes of a list. -/
def mergS (u v : List α) : List α := v.foldl (putS lt) u
theorem insS_app {x : α} : ∀ {a b : List α}, (∀ y ∈ a, lt x y = true) → insS lt x (a ++ b) = a ++ insS lt x b
  | [], b, _ => rfl
  | y :: a, b, h => by
    rw [List.cons_append, insS, if_pos (h y (List.mem_cons_self ..)), insS_app fun z hz => h z (List.mem_cons_of_mem _ hz)]
    rfl
theorem insS_stop {x : α} : ∀ {a b : List α}, (∀ y ∈ b, lt x y = false) → insS lt x (a ++ b) = insS lt x a ++ b
  | [], [], _ => rfl
  | [], y :: b, h => by
    show insS lt x (y :: b) = [x] ++ (y :: b)
    rw [insS, if_neg (by rw [h y (List.mem_cons_self ..)]; decide)]
    rfl
  | y :: a, b, h => by
    rw [List.cons_append, insS, insS]
    split
    · rw [insS_stop h]
      rfl
    · rfl
theorem putS_left {x : α} {a b : List α} (h : ∀ y ∈ b, lt x y = true) : putS lt (a ++ b) x = putS lt a x ++ b := by
  unfold putS
  rw [List.reverse_append, insS_app lt (fun y hy => h y (List.mem_reverse.1 hy)), List.reverse_append, List.reverse_reverse]
theorem putS_right {x : α} {a b : List α} (h : ∀ y ∈ a, lt x y = false) : putS lt (a ++ b) x = a ++ putS lt b x := by
  unfold putS
  rw [List.reverse_append, insS_stop lt (fun y hy => h y (List.mem_reverse.1 hy)), List.reverse_append, List.reverse_reverse]
theorem putS_end {x : α} {a : List α} (h : ∀ y ∈ a, lt x y = false) : putS lt a x = a ++ [x] := by
  have := putS_right (lt := lt) (b := []) h
  rw [List.append_nil] at this
  exact this
theorem mem_insS {x z : α} : ∀ {l : List α}, z ∈ insS lt x l ↔ z = x ∨ z ∈ l
  | [] => by simp [insS]
  | y :: l => by
    unfold insS
    split
    · rw [List.mem_cons, mem_insS (l := l), List.mem_cons]
      constructor
      · rintro (h | h | h)
        · exact .inr (.inl h)
        · exact .inl h
        · exact .inr (.inr h)
      · rintro (h | h | h)
        · exact .inr (.inl h)
        · exact .inl h
        · exact .inr (.inr h)
    · rw [List.mem_cons]
theorem mem_putS {x z : α} {l : List α} : z ∈ putS lt l x ↔ z = x ∨ z ∈ l := by
  unfold putS
  rw [List.mem_reverse, mem_insS, List.mem_reverse]
theorem mem_mergS {z : α} : ∀ {v u : List α}, z ∈ mergS lt u v ↔ z ∈ u ∨ z ∈ v
  | [], u => by simp [mergS]
  | x :: v, u => by
    unfold mergS
    rw [List.foldl_cons]
    have := mem_mergS (z := z) (v := v) (u := putS lt u x)
    unfold mergS at this
    rw [this, mem_putS, List.mem_cons]
    constructor
    · rintro ((h | h) | h)
      · exact .inr (.inl h)
      · exact .inl h
      · exact .inr (.inr h)
    · rintro (h | h | h)
      · exact .inl (.inr h)
      · exact .inl (.inl h)
      · exact .inr h
/-- Merging in two parts. -/
theorem mergS_left {u1 u2 : List α} : ∀ {v : List α}, (∀ x ∈ v, ∀ y ∈ u2, lt x y = true) → mergS lt (u1 ++ u2) v = mergS lt u1 v ++ u2
  | [], _ => rfl
  | x :: v, h => by
    unfold mergS
    rw [List.foldl_cons, List.foldl_cons, putS_left lt (h x (List.mem_cons_self ..))]
    exact mergS_left fun z hz => h z (List.mem_cons_of_mem _ hz)
theorem mergS_right {u1 u2 : List α} : ∀ {v : List α}, (∀ x ∈ v, ∀ y ∈ u1, lt x y = false) → mergS lt (u1 ++ u2) v = u1 ++ mergS lt u2 v
  | [], _ => rfl
  | x :: v, h => by
    unfold mergS
    rw [List.foldl_cons, List.foldl_cons, putS_right lt (h x (List.mem_cons_self ..))]
    exact mergS_right (u2 := putS lt u2 x) fun z hz => h z (List.mem_cons_of_mem _ hz)
theorem mergS_app (u v w : List α) : mergS lt u (v ++ w) = mergS lt (mergS lt u v) w := List.foldl_append
theorem mergS_parts {u1 u2 v1 v2 : List α} (h1 : ∀ x ∈ v1, ∀ y ∈ u2, lt x y = true) (h2 : ∀ x ∈ v2, ∀ y ∈ u1, lt x y = false) (h3 : ∀ x ∈ v2, ∀ y ∈ v1, lt x y = false) : mergS lt (u1 ++ u2) (v1 ++ v2) = mergS lt u1 v1 ++ mergS lt u2 v2 := by
  rw [mergS_app, mergS_left lt h1, mergS_right lt fun x hx y hy => ?_]
  rcases (mem_mergS lt).1 hy with hy | hy
  · exact h2 x hx y hy
  · exact h3 x hx y hy
/-- Sorted already. -/
def AscS (l : List α) : Prop := l.Pairwise fun x y => lt y x = false
theorem mergS_sorted : ∀ {v u : List α}, AscS lt (u ++ v) → mergS lt u v = u ++ v
  | [], u, _ => by rw [List.append_nil]; rfl
  | x :: v, u, h => by
    unfold mergS
    obtain ⟨-, -, h3⟩ := List.pairwise_append.1 h
    rw [List.foldl_cons, putS_end lt fun y hy => h3 y hy x (List.mem_cons_self ..)]
    have := mergS_sorted (v := v) (u := u ++ [x]) (by rw [List.append_assoc]; exact h)
    unfold mergS at this
    rw [this, List.append_assoc]
    rfl
theorem mergS_nil {v : List α} (h : AscS lt v) : mergS lt [] v = v := mergS_sorted lt (u := []) h
/-- One element, put into what is sorted: behind what is not greater. -/
theorem mergS_one {a b : List α} {x : α} (h1 : ∀ y ∈ a, lt x y = false) (h2 : ∀ y ∈ b, lt x y = true) : mergS lt (a ++ b) [x] = a ++ x :: b := by
  unfold mergS
  rw [List.foldl_cons, List.foldl_nil, putS_left lt h2, putS_end lt h1, List.append_assoc]
  rfl
/-- What is sorted, put to one element: what is less comes ahead. -/
theorem mergS_onto {a b : List α} {x : α} (h1 : ∀ y ∈ a, lt y x = true) (h2 : ∀ y ∈ b, lt y x = false) (hs : AscS lt (a ++ b)) : mergS lt [x] (a ++ b) = a ++ x :: b := by
  obtain ⟨s1, s2, s3⟩ := List.pairwise_append.1 hs
  have e := mergS_parts lt (u1 := []) (u2 := [x]) (v1 := a) (v2 := b) (fun z hz y hy => by rw [List.mem_singleton.1 hy]; exact h1 z hz) (fun _ _ y hy => absurd hy List.not_mem_nil) (fun z hz y hy => s3 y hy z hz)
  rw [List.nil_append] at e
  rw [e, mergS_nil lt s1]
  have e2 := mergS_sorted lt (u := [x]) (v := b) (List.pairwise_cons.2 ⟨h2, s2⟩)
  rw [e2]
  rfl
variable (irr : ∀ x y z : α, lt x y = false → lt y z = false → lt x z = false) (tot : ∀ x y : α, lt x y = true → lt y x = false)
include irr tot
theorem putS_asc {x : α} {l : List α} (h : AscS lt l) : AscS lt (putS lt l x) := by
  -- the list parted where x belongs
  have key : ∀ l : List α, l.Pairwise (fun y z => lt y z = false) → (insS lt x l).Pairwise (fun y z => lt y z = false) := fun l => by
    induction l with
    | nil => intro _; simp [insS]
    | cons y l ih =>
      intro h
      obtain ⟨h1, h2⟩ := List.pairwise_cons.1 h
      unfold insS
      split
      · rename_i hq
        refine List.pairwise_cons.2 ⟨fun z hz => ?_, ih h2⟩
        rcases (mem_insS lt).1 hz with rfl | hz
        · exact tot _ _ hq
        · exact h1 z hz
      · rename_i hq
        have hq := eq_false_of_ne_true hq
        refine List.pairwise_cons.2 ⟨fun z hz => ?_, h⟩
        rcases List.mem_cons.1 hz with rfl | hz
        · exact hq
        · exact irr _ _ _ hq (h1 z hz)
  unfold putS AscS
  rw [List.pairwise_reverse]
  refine key _ ?_
  rw [List.pairwise_reverse]
  exact h
theorem mergS_asc : ∀ {v u : List α}, AscS lt u → AscS lt (mergS lt u v)
  | [], _, h => h
  | x :: v, u, h => by
    have := mergS_asc (v := v) (putS_asc lt irr tot (x := x) h)
    exact this
theorem lt_transS {x y z : α} (h1 : lt x y = true) (h2 : lt y z = true) : lt x z = true := by
  cases hq : lt x z with
  | true => rfl
  | false =>
    rw [irr x z y hq (tot y z h2)] at h1
    cases h1
theorem partS (x : α) : ∀ {w : List α}, AscS lt w → ∃ p q, w = p ++ q ∧ (∀ z ∈ p, lt x z = false) ∧ ∀ z ∈ q, lt x z = true
  | [], _ => ⟨[], [], rfl, fun _ h => absurd h List.not_mem_nil, fun _ h => absurd h List.not_mem_nil⟩
  | y :: w, h => by
    have _h := tot
    obtain ⟨h1, h2⟩ := List.pairwise_cons.1 h
    cases hq : lt x y with
    | false =>
      obtain ⟨p, q, rfl, a, b⟩ := partS x h2
      refine ⟨y :: p, q, rfl, fun z hz => ?_, b⟩
      rcases List.mem_cons.1 hz with rfl | hz
      · exact hq
      · exact a z hz
    | true =>
      refine ⟨[], y :: w, rfl, fun _ h => absurd h List.not_mem_nil, fun z hz => ?_⟩
      rcases List.mem_cons.1 hz with rfl | hz
      · exact hq
      · cases hz2 : lt x z with
        | true => rfl
        | false =>
          rw [irr x z y hz2 (h1 z hz)] at hq
          cases hq
theorem putS_comm {x y : α} {w : List α} (hw : AscS lt w) (h : lt x y = true) : putS lt (putS lt w y) x = putS lt (putS lt w x) y := by
  obtain ⟨p, q, rfl, hp, hq⟩ := partS lt irr tot x hw
  have hyp : ∀ z ∈ p, lt y z = false := fun z hz => by
    cases hyz : lt y z with
    | false => rfl
    | true =>
      have := lt_transS lt irr tot h hyz
      rw [hp z hz] at this
      cases this
  rw [putS_right lt hyp, putS_left lt (fun z hz => ?_), putS_left lt hq, putS_end lt hp, putS_right lt (fun z hz => ?_)]
  · rcases List.mem_append.1 hz with hz | hz
    · exact hyp z hz
    · rw [List.mem_singleton.1 hz]
      exact tot x y h
  · rcases (mem_putS lt).1 hz with rfl | hz
    · exact h
    · exact hq z hz
theorem mergS_comm {x : α} : ∀ {v w : List α}, AscS lt w → (∀ y ∈ v, lt x y = true) → putS lt (mergS lt w v) x = mergS lt (putS lt w x) v
  | [], _, _, _ => rfl
  | y :: v, w, hw, h => by
    have := mergS_comm (v := v) (putS_asc lt irr tot (x := y) hw) fun z hz => h z (List.mem_cons_of_mem _ hz)
    unfold mergS at this ⊢
    rw [List.foldl_cons, List.foldl_cons, this, putS_comm lt irr tot hw (h y (List.mem_cons_self ..))]
theorem mergS_sort (b : List α) : ∀ u : List α, AscS lt u → mergS lt u (mergS lt [] b) = mergS lt u b := by
  have key : ∀ (r u : List α), AscS lt u → mergS lt u (mergS lt [] r.reverse) = mergS lt u r.reverse := fun r => by
    induction r with
    | nil => intro u _; rfl
    | cons x r ih =>
      intro u hu
      have hs : AscS lt (mergS lt [] r.reverse) := mergS_asc lt irr tot List.Pairwise.nil
      obtain ⟨p, q, e, hp, hq⟩ := partS lt irr tot x hs
      have e1 : mergS lt [] (x :: r).reverse = p ++ x :: q := by
        rw [List.reverse_cons, mergS_app, e]
        exact mergS_one lt hp hq
      rw [e1, List.reverse_cons, mergS_app lt u r.reverse, ← ih u hu, e, mergS_app lt u p, mergS_app lt u p]
      show mergS lt (putS lt (mergS lt u p) x) q = putS lt (mergS lt (mergS lt u p) q) x
      rw [mergS_comm lt irr tot (mergS_asc lt irr tot hu) hq]
  intro u hu
  have := key b.reverse u hu
  rwa [List.reverse_reverse] at this
/-- All of a list: its two halves sorted, and merged. -/
theorem mergS_halves (a b : List α) : mergS lt (mergS lt [] a) (mergS lt [] b) = mergS lt [] (a ++ b) := by
  rw [mergS_app, mergS_sort lt irr tot b _ (mergS_asc lt irr tot List.Pairwise.nil)]
end

end

section
open Go.Sort

section
variable {α : Type}
/-- The array's list. -/
abbrev Is (d : Array α) (l : List α) : Prop := d.toList = l
theorem Is.size {d : Array α} {l : List α} (h : Is d l) : d.size = l.length := by rw [← h, Array.length_toList]
theorem Is.get [Inhabited α] {d : Array α} {x : List α} {z : α} {y : List α} (h : Is d (x ++ z :: y)) {i : Nat} (hi : x.length = i) : d[i]! = z := by
  have hs := h.size
  have hlt : i < d.size := by rw [hs, List.length_append, List.length_cons]; omega
  rw [getElem!_pos d i hlt, ← Array.getElem_toList]
  have e : d.toList[i]'(by simpa using hlt) = (x ++ z :: y)[i]'(by rw [List.length_append, List.length_cons]; omega) := by congr 1
  rw [e, List.getElem_append_right (by omega)]
  simp [hi]
theorem swp_list [Inhabited α] {d : Array α} {x m y : List α} {p q : α} (h : Is d (x ++ p :: (m ++ q :: y))) {i j : Nat} (hi : x.length = i) (hj : i + 1 + m.length = j) : Is (swp d i j) (x ++ q :: (m ++ p :: y)) := by
  have hp : d[i]! = p := h.get hi
  have hq : d[j]! = q := Is.get (x := x ++ p :: m) (by rw [List.append_assoc]; exact h) (by rw [List.length_append, List.length_cons]; omega)
  show (swp d i j).toList = _
  unfold swp
  rw [hp, hq, Array.toList_setIfInBounds, Array.toList_setIfInBounds, h, ← hj, ← hi, List.set_append_right _ _ (Nat.le_refl _), Nat.sub_self, List.set_cons_zero, List.set_append_right _ _ (by omega), show x.length + 1 + m.length - x.length = m.length + 1 by omega, List.set_cons_succ, List.set_append_right _ _ (Nat.le_refl _), Nat.sub_self, List.set_cons_zero]
theorem swp_swap [Inhabited α] (d : Array α) {i j : Nat} (_hi : i < d.size) (hj : j < d.size) : swp d i j = swp d j i := by
  by_cases e : i = j
  · subst e; rfl
  · unfold swp
    apply Array.ext
    · simp
    · intro t h1 h2
      rw [Array.getElem_setIfInBounds, Array.getElem_setIfInBounds, Array.getElem_setIfInBounds, Array.getElem_setIfInBounds]
      all_goals first | (simpa using h1) | skip
      by_cases a : i = t <;> by_cases b : j = t <;> simp [a, b]
theorem swp_list' [Inhabited α] {d : Array α} {x m y : List α} {p q : α} (h : Is d (x ++ p :: (m ++ q :: y))) {i j : Nat} (hi : x.length = i) (hj : i + 1 + m.length = j) : Is (swp d j i) (x ++ q :: (m ++ p :: y)) := by
  have hs := h.size
  simp at hs
  rw [swp_swap d (by omega) (by omega)]
  exact swp_list h hi hj

variable (lt : α → α → Bool)
theorem insInner_list [Inhabited α] {a : Nat} {z : α} {x : List α} (ha : x.length = a) : ∀ (s : List α) (r : List α) (d : Array α), Is d (x ++ (s ++ z :: r)) → Is (insInner lt a (a + s.length) d) (x ++ (putS lt s z ++ r)) := by
  have key : ∀ (s r : List α) (d : Array α), Is d (x ++ (s.reverse ++ z :: r)) → Is (insInner lt a (a + s.length) d) (x ++ (putS lt s.reverse z ++ r)) := fun s => by
    induction s with
    | nil =>
      intro r d h
      rw [insInner_stop lt a _ d (.inl (by simp))]
      exact h
    | cons p s ih =>
      intro r d h
      rw [List.reverse_cons, List.append_assoc] at h
      have h0 : Is d ((x ++ s.reverse) ++ p :: ([] ++ z :: r)) := by rw [List.append_assoc]; exact h
      have hl : (x ++ s.reverse).length = a + s.length := by simp [ha]
      have hp : d[a + s.length]! = p := h0.get hl
      have hz : d[a + s.length + 1]! = z := Is.get (x := x ++ s.reverse ++ [p]) (by rw [List.append_assoc]; exact h0) (by rw [List.length_append, hl]; rfl)
      have e : a + (p :: s).length = a + s.length + 1 := by simp; omega
      rw [e]
      cases hlt : lt z p with
      | false =>
        rw [insInner_stop lt a _ d (.inr (by rw [hz, Nat.add_sub_cancel, hp, hlt]))]
        have ep : putS lt (p :: s).reverse z = s.reverse ++ [p, z] := by
          unfold putS
          rw [List.reverse_reverse, insS, if_neg (by rw [hlt]; decide)]
          simp
        rw [ep]
        show d.toList = _
        rw [h]
        simp
      | true =>
        rw [insInner_go lt a _ d (by omega) (by rw [hz, Nat.add_sub_cancel, hp, hlt]), Nat.add_sub_cancel]
        have h1 := swp_list' h0 hl rfl
        have h2 := ih (p :: r) (swp d (a + s.length + 1) (a + s.length)) (by rw [List.append_assoc] at h1; exact h1)
        have ep : putS lt (p :: s).reverse z = putS lt s.reverse z ++ [p] := by
          rw [List.reverse_cons]
          exact putS_left lt fun y hy => by rw [List.mem_singleton.1 hy]; exact hlt
        rw [ep, List.append_assoc]
        exact h2
  intro s r d h
  have := key s.reverse r d (by rw [List.reverse_reverse]; exact h)
  rwa [List.reverse_reverse, List.length_reverse] at this
theorem insOuter_list [Inhabited α] {a b : Nat} {x y : List α} (ha : x.length = a) : ∀ (r s : List α) (d : Array α), Is d (x ++ (s ++ (r ++ y))) → a + s.length + r.length = b → Is (insOuter lt a b (a + s.length) d) (x ++ (mergS lt s r ++ y))
  | [], s, d, h, hb => by
    rw [insOuter, if_neg (by simp at hb; omega)]
    exact h
  | z :: r, s, d, h, hb => by
    have hl := insInner_list lt ha s (r ++ y) d h
    simp only [List.length_cons] at hb
    rw [insOuter, if_pos (by omega)]
    have hn : (putS lt s z).length = s.length + 1 := by
      have : ∀ l : List α, (insS lt z l).length = l.length + 1 := fun l => by
        induction l with
        | nil => rfl
        | cons y l ih => unfold insS; split <;> simp [ih]
      unfold putS
      rw [List.length_reverse, this, List.length_reverse]
    have := insOuter_list (b := b) ha r (putS lt s z) _ hl (by rw [hn]; omega)
    rw [hn, ← Nat.add_assoc] at this
    have e : mergS lt s (z :: r) = mergS lt (putS lt s z) r := rfl
    rw [e]
    exact this
theorem insertion_list [Inhabited α] {a b : Nat} {x u y : List α} {d : Array α} (h : Is d (x ++ (u ++ y))) (ha : x.length = a) (hb : a + u.length = b) : Is (Sort.insertionSort lt d a b) (x ++ (mergS lt [] u ++ y)) := by
  unfold Sort.insertionSort
  match u with
  | [] =>
    rw [insOuter, if_neg (by simp at hb; omega)]
    exact h
  | z :: r =>
    have := insOuter_list lt (b := b) ha r [z] d h (by simp at hb ⊢; omega)
    exact this

theorem mergS_len : ∀ (v u : List α), (mergS lt u v).length = u.length + v.length
  | [], u => rfl
  | z :: v, u => by
    have hn : (putS lt u z).length = u.length + 1 := by
      have : ∀ l : List α, (insS lt z l).length = l.length + 1 := fun l => by
        induction l with
        | nil => rfl
        | cons y l ih => unfold insS; split <;> simp [ih]
      unfold putS
      rw [List.length_reverse, this, List.length_reverse]
    have e : mergS lt u (z :: v) = mergS lt (putS lt u z) v := rfl
    rw [e, mergS_len v, hn, List.length_cons]
    omega

def runsS (s : Nat) (l : List α) : List α :=
  if _h : s = 0 ∨ l.length ≤ s then mergS lt [] l else mergS lt [] (l.take s) ++ runsS s (l.drop s)
termination_by l.length
decreasing_by rw [List.length_drop]; omega
theorem runs_short {s : Nat} {l : List α} (h : l.length ≤ s) : runsS lt s l = mergS lt [] l := by rw [runsS, dif_pos (.inr h)]
theorem runs_more {s : Nat} {u r : List α} (h : u.length = s) (h0 : 0 < s) : runsS lt s (u ++ r) = mergS lt [] u ++ runsS lt s r := by
  by_cases hr : r = []
  · subst hr
    rw [List.append_nil, runs_short lt (by omega), runs_short lt (by simp)]
    show _ = _ ++ []
    rw [List.append_nil]
  · have : 0 < r.length := List.length_pos_iff.2 hr
    rw [runsS, dif_neg (by rw [List.length_append]; omega), ← h, List.take_left, List.drop_left]
theorem runs_len (s : Nat) : ∀ (n : Nat) (l : List α), l.length = n → (runsS lt s l).length = n := by
  intro n
  induction n using Nat.strongRecOn with
  | _ n ih =>
    intro l hl
    rw [runsS]
    split
    · rw [mergS_len]; simpa using hl
    · rw [List.length_append, mergS_len, ih (l.drop s).length (by rw [List.length_drop]; omega) _ rfl, List.length_nil, List.length_take, List.length_drop]
      omega
theorem parts2 (l : List α) {n : Nat} (h : n ≤ l.length) : ∃ u r, l = u ++ r ∧ u.length = n := ⟨l.take n, l.drop n, (List.take_append_drop n l).symm, by simp [h]⟩

/-- Two blocks of one length, their first i elements exchanged. -/
def swR (x A M B y : List α) (i : Nat) : List α := x ++ (B.take i ++ (A.drop i ++ (M ++ (A.take i ++ (B.drop i ++ y)))))
theorem swR_zero (x A M B y : List α) : swR x A M B y 0 = x ++ (A ++ (M ++ (B ++ y))) := by simp [swR]
theorem swR_end {x A M B y : List α} {n : Nat} (hA : A.length = n) (hB : B.length = n) : swR x A M B y n = x ++ (B ++ (M ++ (A ++ y))) := by
  unfold swR
  rw [List.take_of_length_le (by omega), List.take_of_length_le (by omega), List.drop_eq_nil_of_le (by omega), List.drop_eq_nil_of_le (by omega)]
  rfl
theorem swR_step [Inhabited α] {x A M B y : List α} {n i : Nat} {d : Array α} (h : Is d (swR x A M B y i)) (hA : A.length = n) (hB : B.length = n) (hi : i < n) {a b : Nat} (ha : x.length + i = a) (hb : x.length + n + M.length + i = b) : Is (swp d a b) (swR x A M B y (i + 1)) := by
  have e : ∀ (l : List α) (q : l.length = n), l.drop i = (l[i]'(by omega)) :: l.drop (i + 1) := fun l q => List.drop_eq_getElem_cons (by omega)
  have e2 : ∀ (l : List α) (q : l.length = n), l.take (i + 1) = l.take i ++ [l[i]'(by omega)] := fun l q => by rw [List.take_succ_eq_append_getElem (by omega)]
  unfold swR at h ⊢
  rw [e A hA, e B hB] at h
  rw [e2 A hA, e2 B hB]
  have h1 : Is d ((x ++ B.take i) ++ A[i]'(by omega) :: ((A.drop (i + 1) ++ (M ++ A.take i)) ++ B[i]'(by omega) :: (B.drop (i + 1) ++ y))) := by
    show d.toList = _
    rw [h]
    simp only [List.append_assoc, List.cons_append]
  have h2 := swp_list h1 (i := a) (j := b) (by rw [List.length_append, List.length_take]; omega) (by rw [List.length_append, List.length_append, List.length_take, List.length_drop]; omega)
  show (swp d a b).toList = _
  rw [h2]
  simp only [List.append_assoc, List.cons_append, List.nil_append]
/-- Rotating: what the blocks [P, U, V, Q] are to become. -/
structure RotG (d : Array α) (goal : List α) (m i j : Nat) (P U V Q : List α) : Prop where
  is : Is d (P ++ (U ++ (V ++ Q)))
  go : goal = P ++ (V ++ (U ++ Q))
  p : P.length + i = m
  u : U.length = i
  v : V.length = j
  i0 : 0 < i
  j0 : 0 < j
theorem RotG.end {d d' : Array α} {goal : List α} {m i : Nat} {P U V Q : List α} (h : RotG d goal m i i P U V Q) (h' : Is d' (P ++ (V ++ ([] ++ (U ++ Q))))) : Is d' goal := by
  rw [h.go]; exact h'
theorem RotG.more {d : Array α} {goal : List α} {m i j : Nat} {P U V Q : List α} (h : RotG d goal m i j P U V Q) (hij : j < i) : ∃ U1 U2, U = U1 ++ U2 ∧ U1.length = j ∧ Is d (P ++ (U1 ++ (U2 ++ (V ++ Q)))) ∧ ∀ d' : Array α, Is d' (P ++ (V ++ (U2 ++ (U1 ++ Q)))) → RotG d' goal m (i - j) j (P ++ V) U2 U1 Q := by
  obtain ⟨U1, U2, e, h1⟩ := parts2 U (n := j) (by rw [h.u]; omega)
  subst e
  have hu := h.u
  rw [List.length_append] at hu
  refine ⟨U1, U2, rfl, h1, ?_, fun d' h' => ⟨?_, ?_, ?_, by omega, h1, by omega, h.j0⟩⟩
  · have := h.is; rw [List.append_assoc] at this; exact this
  · show d'.toList = _; rw [h', List.append_assoc]
  · rw [h.go]; simp
  · have := h.p; rw [List.length_append, h.v]; omega
theorem RotG.less {d : Array α} {goal : List α} {m i j : Nat} {P U V Q : List α} (h : RotG d goal m i j P U V Q) (hij : i < j) : ∃ V1 V2, V = V1 ++ V2 ∧ V1.length = j - i ∧ V2.length = i ∧ Is d (P ++ (U ++ (V1 ++ (V2 ++ Q)))) ∧ ∀ d' : Array α, Is d' (P ++ (V2 ++ (V1 ++ (U ++ Q)))) → RotG d' goal m i (j - i) P V2 V1 (U ++ Q) := by
  obtain ⟨V1, V2, e, h1⟩ := parts2 V (n := j - i) (by rw [h.v]; omega)
  subst e
  have hv := h.v
  rw [List.length_append] at hv
  refine ⟨V1, V2, rfl, h1, by omega, ?_, fun d' h' => ⟨h', ?_, h.p, by omega, h1, h.i0, by omega⟩⟩
  · have := h.is; rw [List.append_assoc] at this; exact this
  · rw [h.go]; simp

variable (irr : ∀ x y z : α, lt x y = false → lt y z = false → lt x z = false)
theorem asc_app {a b : List α} (h : AscS lt (a ++ b)) : AscS lt a ∧ AscS lt b ∧ ∀ x ∈ a, ∀ y ∈ b, lt y x = false := List.pairwise_append.1 h
theorem parts_last (l : List α) : l = [] ∨ ∃ p z, l = p ++ [z] := by
  cases h : l.reverse with
  | nil => exact .inl (List.reverse_eq_nil_iff.1 h)
  | cons z p => exact .inr ⟨p.reverse, z, by rw [← List.reverse_reverse l, h, List.reverse_cons]⟩
include irr
theorem last_all {p : List α} {z w : α} (h : AscS lt (p ++ [z])) (hz : lt z w = true) : ∀ y ∈ p ++ [z], lt y w = true := fun y hy => by
  rcases List.mem_append.1 hy with hy | hy
  · have := (asc_app lt h).2.2 y hy z (List.mem_singleton.2 rfl)
    cases q : lt y w with
    | true => rfl
    | false => rw [irr z y w this q] at hz; cases hz
  · rw [List.mem_singleton.1 hy]; exact hz
theorem last_none {p : List α} {z w : α} (h : AscS lt (p ++ [z])) (hz : lt w z = false) : ∀ y ∈ p ++ [z], lt w y = false := fun y hy => by
  rcases List.mem_append.1 hy with hy | hy
  · exact irr w z y hz ((asc_app lt h).2.2 y hy z (List.mem_singleton.2 rfl))
  · rw [List.mem_singleton.1 hy]; exact hz
theorem head_none {q : List α} {z w : α} (h : AscS lt (z :: q)) (hz : lt z w = false) : ∀ y ∈ z :: q, lt y w = false := fun y hy => by
  rcases List.mem_cons.1 hy with rfl | hy
  · exact hz
  · exact irr y z w ((List.pairwise_cons.1 h).1 y hy) hz
theorem head_all {q : List α} {z w : α} (h : AscS lt (z :: q)) (hz : lt w z = true) : ∀ y ∈ z :: q, lt w y = true := fun y hy => by
  rcases List.mem_cons.1 hy with rfl | hy
  · exact hz
  · cases c : lt w y with
    | true => rfl
    | false => rw [irr w y z c ((List.pairwise_cons.1 h).1 y hy)] at hz; cases hz
theorem one_left [Inhabited α] {d : Array α} {x v y : List α} {z : α} {a m b i : Nat} (h : Is d (x ++ ([z] ++ (v ++ y)))) (ha : x.length = a) (hm : a + 1 = m) (hb : m + v.length = b) (hs : AscS lt v) (h1 : m ≤ i) (h2 : i ≤ b)
    (c1 : i = m ∨ lt d[i - 1]! d[a]! = true) (c2 : i = b ∨ lt d[i]! d[a]! = false) : ∃ v1 v2, v = v1 ++ v2 ∧ m + v1.length = i ∧ mergS lt [z] v = v1 ++ z :: v2 ∧ Is d (x ++ z :: (v1 ++ (v2 ++ y))) := by
  obtain ⟨v1, v2, e, hl⟩ := parts2 v (n := i - m) (by omega)
  subst e
  rw [List.length_append] at hb
  have h0 : Is d (x ++ z :: (v1 ++ (v2 ++ y))) := by show d.toList = _; rw [h]; simp
  have hz : d[a]! = z := h0.get ha
  refine ⟨v1, v2, rfl, by omega, mergS_onto lt ?_ ?_ hs, h0⟩
  · rcases parts_last v1 with rfl | ⟨p, s, rfl⟩
    · exact fun _ q => absurd q List.not_mem_nil
    · have hg : d[i - 1]! = s := Is.get (x := x ++ z :: p) (y := v2 ++ y) (by show d.toList = _; rw [h0]; simp) (by simp at hl ⊢; omega)
      rw [hz, hg] at c1
      refine last_all lt irr (asc_app lt hs).1 (c1.resolve_left ?_)
      simp at hl; omega
  · cases v2 with
    | nil => exact fun _ q => absurd q List.not_mem_nil
    | cons s p =>
      have hg : d[i]! = s := Is.get (x := x ++ z :: v1) (y := p ++ y) (by show d.toList = _; rw [h0]; simp) (by simp; omega)
      rw [hz, hg] at c2
      refine head_none lt irr (asc_app lt hs).2.1 (c2.resolve_left ?_)
      simp at hb; omega
theorem one_right [Inhabited α] {d : Array α} {x u y : List α} {z : α} {a m i : Nat} (h : Is d (x ++ (u ++ ([z] ++ y)))) (ha : x.length = a) (hm : a + u.length = m) (hs : AscS lt u) (h1 : a ≤ i) (h2 : i ≤ m)
    (c1 : i = a ∨ lt d[m]! d[i - 1]! = false) (c2 : i = m ∨ lt d[m]! d[i]! = true) : ∃ u1 u2, u = u1 ++ u2 ∧ a + u1.length = i ∧ mergS lt u [z] = u1 ++ z :: u2 ∧ Is d ((x ++ u1) ++ (u2 ++ z :: y)) := by
  obtain ⟨u1, u2, e, hl⟩ := parts2 u (n := i - a) (by omega)
  subst e
  rw [List.length_append] at hm
  have h0 : Is d ((x ++ u1) ++ (u2 ++ z :: y)) := by show d.toList = _; rw [h]; simp
  have hz : d[m]! = z := Is.get (x := x ++ (u1 ++ u2)) (y := y) (by show d.toList = _; rw [h]; simp) (by simp; omega)
  refine ⟨u1, u2, rfl, by omega, mergS_one lt ?_ ?_, h0⟩
  · rcases parts_last u1 with rfl | ⟨p, s, rfl⟩
    · exact fun _ q => absurd q List.not_mem_nil
    · have hg : d[i - 1]! = s := Is.get (x := x ++ p) (y := u2 ++ z :: y) (by show d.toList = _; rw [h0]; simp) (by simp at hl ⊢; omega)
      rw [hz, hg] at c1
      refine last_none lt irr (asc_app lt hs).1 (c1.resolve_left ?_)
      simp at hl; omega
  · cases u2 with
    | nil => exact fun _ q => absurd q List.not_mem_nil
    | cons s p =>
      have hg : d[i]! = s := Is.get (x := x ++ u1) (y := p ++ z :: y) (by show d.toList = _; rw [h0]; simp) (by simp; omega)
      rw [hz, hg] at c2
      refine head_all lt irr (asc_app lt hs).2.1 (c2.resolve_left ?_)
      simp at hm; omega
theorem sym_cut [Inhabited α] {d : Array α} {x u v y : List α} {a m b st en : Nat} (h : Is d (x ++ (u ++ (v ++ y)))) (ha : x.length = a) (hm : a + u.length = m) (hb : m + v.length = b) (hu : AscS lt u) (hv : AscS lt v)
    (h1 : a ≤ st) (h2 : st ≤ m) (h3 : m ≤ en) (h4 : en ≤ b) (c1 : en = m ∨ st = m ∨ lt d[en - 1]! d[st]! = true) (c2 : en = b ∨ st = a ∨ lt d[en]! d[st - 1]! = false) :
    ∃ u1 u2 v1 v2, u = u1 ++ u2 ∧ v = v1 ++ v2 ∧ a + u1.length = st ∧ m + v1.length = en ∧ mergS lt u v = mergS lt u1 v1 ++ mergS lt u2 v2 ∧ AscS lt u1 ∧ AscS lt u2 ∧ AscS lt v1 ∧ AscS lt v2 ∧ Is d ((x ++ u1) ++ (u2 ++ (v1 ++ (v2 ++ y)))) := by
  obtain ⟨u1, u2, e, hl⟩ := parts2 u (n := st - a) (by omega)
  subst e
  obtain ⟨v1, v2, e, hk⟩ := parts2 v (n := en - m) (by omega)
  subst e
  rw [List.length_append] at hm hb
  obtain ⟨au1, au2, -⟩ := asc_app lt hu
  obtain ⟨av1, av2, av⟩ := asc_app lt hv
  have h0 : Is d ((x ++ u1) ++ (u2 ++ (v1 ++ (v2 ++ y)))) := by show d.toList = _; rw [h]; simp
  refine ⟨u1, u2, v1, v2, rfl, rfl, by omega, by omega, mergS_parts lt ?_ ?_ fun p hp q hq => av q hq p hp, au1, au2, av1, av2, h0⟩
  · rcases parts_last v1 with rfl | ⟨p, s, rfl⟩
    · exact fun _ q => absurd q List.not_mem_nil
    · cases u2 with
      | nil => exact fun _ _ _ q => absurd q List.not_mem_nil
      | cons q r =>
        have e1 : d[en - 1]! = s := Is.get (x := x ++ (u1 ++ (q :: r ++ p))) (y := v2 ++ y) (by show d.toList = _; rw [h0]; simp) (by simp at hk hm ⊢; omega)
        have e2 : d[st]! = q := Is.get (x := x ++ u1) (y := r ++ (p ++ s :: (v2 ++ y))) (by show d.toList = _; rw [h0]; simp) (by simp; omega)
        rw [e1, e2] at c1
        have c3 : lt s q = true := by
          rcases c1 with c | c | c
          · simp at hk; omega
          · simp at hm; omega
          · exact c
        intro f hf g hg
        exact head_all lt irr au2 (last_all lt irr av1 c3 f hf) g hg
  · cases v2 with
    | nil => exact fun _ q => absurd q List.not_mem_nil
    | cons s r =>
      rcases parts_last u1 with rfl | ⟨p, q, rfl⟩
      · exact fun _ _ _ q => absurd q List.not_mem_nil
      · have e1 : d[en]! = s := Is.get (x := x ++ (p ++ (q :: (u2 ++ v1)))) (y := r ++ y) (by show d.toList = _; rw [h0]; simp) (by simp at hl hm ⊢; omega)
        have e2 : d[st - 1]! = q := Is.get (x := x ++ p) (y := u2 ++ (v1 ++ s :: (r ++ y))) (by show d.toList = _; rw [h0]; simp) (by simp at hl ⊢; omega)
        rw [e1, e2] at c2
        have c3 : lt s q = false := by
          rcases c2 with c | c | c
          · simp at hb; omega
          · simp at hl; omega
          · exact c
        intro f hf g hg
        exact last_none lt irr au1 (head_none lt irr av2 c3 f hf) g hg
end
theorem mergS_nil_left {α : Type} (lt : α → α → Bool) {v : List α} (h : AscS lt v) : mergS lt [] v = v := mergS_nil lt h
theorem mergS_nil_right {α : Type} (lt : α → α → Bool) (u : List α) : mergS lt u [] = u := rfl
theorem asc_merg {α : Type} (lt : α → α → Bool) (irr : ∀ p q r : α, lt p q = false → lt q r = false → lt p r = false) (tot : ∀ p q : α, lt p q = true → lt q p = false) (u : List α) : AscS lt (mergS lt [] u) := mergS_asc lt irr tot List.Pairwise.nil

end

section
open Go.RowKit Go.Lib

def blockedAt (m : M3) (l : List R4) (i : Nat) : Bool := l.any fun r => insv r (atx m.w i) (aty m.w i)
def blockedv (m : M3) (l : List R4) : List Bool := if formedv m = true then (List.range m.cs.length).map (blockedAt m l) else []
def withinv (m : M3) (r : R4) : Bool := formedv m && decide (1 ≤ r.w ∧ 1 ≤ r.h ∧ 0 ≤ r.x ∧ 0 ≤ r.y ∧ r.x + r.w ≤ m.w ∧ r.y + r.h ≤ m.h)
def blkat (m : M3) (b : List Bool) (x y : Int) : Bool := b.getD (indexv m.w x y).toNat false
def okv (m : M3) (b : List Bool) (h : Int) (p : Int × Int) : Bool := decide ((getv m p.1 p.2).k = 1) && decide ((getv m p.1 p.2).h = h) && !blkat m b p.1 p.2
def freev (m : M3) (b : List Bool) (r : R4) : Bool := withinv m r && (cellsv r).all (okv m b (getv m r.x r.y).h)
def fitsv (m : M3) (l : List R4) (r : R4) : Bool := freev m (blockedv m l) r
/-- The positions of a map, by index. -/
def allp (m : M3) : List (Int × Int) := if formedv m = true then (List.range m.cs.length).map fun (i : Nat) => (atx m.w i, aty m.w i) else []
def touchv (r : R4) (p : Int × Int) : Bool := (List.range 8).any fun (d : Nat) => insv r (stx p.1 d) (sty p.2 d)
def ringv (m : M3) (r : R4) : List (Int × Int) := (allp m).filter fun p => !insv r p.1 p.2 && touchv r p
def farv (f : Int × Int) (a b : Int × Int) : Bool := decide (octv a.1 a.2 f.1 f.2 < octv b.1 b.2 f.1 f.2)
def spotsv (m : M3) (b : List Bool) (q : Int) (f : Int × Int) : List (Int × Int) := mergS (farv f) [] ((allp m).filter fun p => openv m b q p.1 p.2)

theorem pos_at {m : M3} (hf : formedv m = true) {i : Nat} (hi : i < m.cs.length) : inv m.w m.h (atx m.w i) (aty m.w i) = true ∧ indexv m.w (atx m.w i) (aty m.w i) = i := by
  obtain ⟨X, Y, e1, e2, x1, x2, _, y2, hl, _⟩ := formed_num hf
  obtain ⟨a, b, h1, h2, h3, -⟩ := cell_pick X Y i x1 x2 y2 (by omega)
  rw [e1, e2, ← h1.out.1, ← h1.out.2]
  exact ⟨h2.out.symm, h3.out.symm⟩
theorem pos_of {m : M3} (hf : formedv m = true) {x y : Int} (h : inv m.w m.h x y = true) : ∃ n : Nat, n < m.cs.length ∧ indexv m.w x y = n ∧ x = atx m.w n ∧ y = aty m.w n := by
  obtain ⟨X, Y, e1, e2, x1, x2, _, y2, hl, _⟩ := formed_num hf
  rw [e1, e2] at h
  obtain ⟨n, h1, h2, h3⟩ := index_pick X Y x y x1 x2 y2 h
  rw [e1]
  exact ⟨n, by omega, h1.out.symm, h3.out.1, h3.out.2⟩
theorem all_len (m : M3) : (allp m).length = if formedv m = true then m.cs.length else 0 := by
  unfold allp; split <;> simp
theorem formed_len {m : M3} (hf : formedv m = true) : m.cs.length ≤ 1024 := by
  obtain ⟨X, Y, _, _, x1, x2, _, y2, hl, _⟩ := formed_num hf
  rw [hl]
  exact Nat.mul_le_mul x2 y2
theorem all_le (m : M3) : (allp m).length ≤ 1024 := by
  rw [all_len]
  split
  · exact formed_len (by assumption)
  · omega
theorem rowGo_map (x y : Int) : ∀ (k i : Nat), rowGo x y k i = (List.range k).map fun (t : Nat) => (x + ((i + t : Nat) : Int), y)
  | 0, _ => rfl
  | k + 1, i => by
    rw [rowGo, rowGo_map x y k (i + 1), List.range_succ_eq_map, List.map_cons, List.map_map]
    congr 1
    refine List.map_congr_left fun t _ => ?_
    show _ = (x + ((i + (t + 1) : Nat) : Int), y)
    rw [show i + 1 + t = i + (t + 1) by omega]
theorem rowsGo_map (x y : Int) (w : Nat) (hw : 0 < w) : ∀ (k j : Nat), rowsGo x y w k j = (List.range (k * w)).map fun (i : Nat) => (x + ((i % w : Nat) : Int), y + ((j + i / w : Nat) : Int))
  | 0, _ => by simp [rowsGo]
  | k + 1, j => by
    rw [rowsGo, rowGo_map, rowsGo_map x y w hw k (j + 1), Nat.succ_mul, Nat.add_comm (k * w) w, List.range_add, List.map_append, List.map_map]
    congr 1
    · refine List.map_congr_left fun t ht => ?_
      have := List.mem_range.1 ht
      rw [Nat.mod_eq_of_lt this, Nat.div_eq_of_lt this, Nat.zero_add, Nat.add_zero]
    · refine List.map_congr_left fun t ht => ?_
      show _ = (x + (((w + t) % w : Nat) : Int), y + ((j + (w + t) / w : Nat) : Int))
      rw [Nat.add_mod_left, Nat.add_div_left t hw, show j + 1 + t / w = j + (t / w).succ by omega]
theorem cells_all {m : M3} (hf : formedv m = true) : cellsv ⟨0, 0, m.w, m.h⟩ = allp m := by
  obtain ⟨X, Y, e1, e2, x1, x2, y1, y2, hl, _⟩ := formed_num hf
  unfold allp cellsv R4.nrm
  have hXY : X * Y ≤ 32 * 32 := Nat.mul_le_mul x2 y2
  dsimp only
  rw [e1, e2, nr_nat (show X ≤ 1000000 by omega), nr_nat (show Y ≤ 1000000 by omega), if_neg (by rw [← Int.natCast_mul]; omega), if_pos hf, show nr 0 = 0 from rfl, Int.toNat_natCast, Int.toNat_natCast, rowsGo_map 0 0 X x1, hl, Nat.mul_comm Y X]
  refine List.map_congr_left fun i _ => ?_
  rw [(at_nat X i x1).1, (at_nat X i x1).2, Int.zero_add, Int.zero_add, Nat.zero_add]

def markv (w : Int) (L : List Bool) (C : List (Int × Int)) : List Bool := C.foldl (fun L p => L.set (indexv w p.1 p.2).toNat true) L
def marksv (m : M3) (L : List Bool) (l : List R4) : List Bool := l.foldl (fun L r => markv m.w L (cellsv (clipv m.w m.h r))) L
theorem mark_snoc (w : Int) (L : List Bool) (C : List (Int × Int)) (p : Int × Int) : markv w L (C ++ [p]) = (markv w L C).set (indexv w p.1 p.2).toNat true := by
  unfold markv; rw [List.foldl_append]; rfl
theorem marks_snoc (m : M3) (L : List Bool) (l : List R4) (r : R4) : marksv m L (l ++ [r]) = markv m.w (marksv m L l) (cellsv (clipv m.w m.h r)) := by
  unfold marksv; rw [List.foldl_append]; rfl
theorem mark_len (w : Int) : ∀ (C : List (Int × Int)) (L : List Bool), (markv w L C).length = L.length
  | [], _ => rfl
  | p :: C, L => by
    have e : markv w L (p :: C) = markv w (L.set (indexv w p.1 p.2).toNat true) C := rfl
    rw [e, mark_len w C, List.length_set]
theorem marks_len (m : M3) : ∀ (l : List R4) (L : List Bool), (marksv m L l).length = L.length
  | [], _ => rfl
  | r :: l, L => by
    have e : marksv m L (r :: l) = marksv m (markv m.w L (cellsv (clipv m.w m.h r))) l := rfl
    rw [e, marks_len m l, mark_len]
theorem mark_get (w : Int) {n : Nat} : ∀ (C : List (Int × Int)) (L : List Bool), n < L.length → (markv w L C).getD n false = (L.getD n false || C.any fun p => decide ((indexv w p.1 p.2).toNat = n))
  | [], L, _ => by simp [markv]
  | p :: C, L, h => by
    have e : markv w L (p :: C) = markv w (L.set (indexv w p.1 p.2).toNat true) C := rfl
    rw [e, mark_get w C _ (by rw [List.length_set]; exact h), List.any_cons, List.getD_eq_getElem?_getD, List.getD_eq_getElem?_getD, List.getElem?_set]
    by_cases hk : (indexv w p.1 p.2).toNat = n
    · rw [if_pos hk, if_pos (by omega), decide_eq_true hk]; simp
    · rw [if_neg hk, decide_eq_false hk, Bool.false_or]
theorem clip_box (X Y : Nat) (r : R4) (X1 : 1 ≤ X) (X2 : X ≤ 32) (Y1 : 1 ≤ Y) (Y2 : Y ≤ 32) : clipv X Y r = R4.zero ∨ (0 ≤ (clipv X Y r).x ∧ 1 ≤ (clipv X Y r).w ∧ (clipv X Y r).x + (clipv X Y r).w ≤ X ∧ 0 ≤ (clipv X Y r).y ∧ 1 ≤ (clipv X Y r).h ∧ (clipv X Y r).y + (clipv X Y r).h ≤ Y) := by
  unfold clipv common R4.nrm
  dsimp only
  rw [nr_nat (show X ≤ 1000000 by omega), nr_nat (show Y ≤ 1000000 by omega), show nr 0 = 0 from rfl]
  split
  · exact .inl rfl
  · split
    · exact .inl rfl
    · refine .inr ?_
      dsimp only
      omega
theorem mem_cells {q : R4} (hx : 0 ≤ q.x) (hw : 1 ≤ q.w) (hxw : q.x + q.w ≤ 32) (hy : 0 ≤ q.y) (hh : 1 ≤ q.h) (hyh : q.y + q.h ≤ 32) (p : Int × Int) : p ∈ cellsv q ↔ q.x ≤ p.1 ∧ p.1 < q.x + q.w ∧ q.y ≤ p.2 ∧ p.2 < q.y + q.h := by
  obtain ⟨x, y, w, h⟩ := q
  dsimp only at *
  obtain ⟨a, rfl⟩ := Int.eq_ofNat_of_zero_le (show 0 ≤ w by omega)
  obtain ⟨b, rfl⟩ := Int.eq_ofNat_of_zero_le (show 0 ≤ h by omega)
  have hab : a * b ≤ 32 * 32 := Nat.mul_le_mul (by omega) (by omega)
  unfold cellsv R4.nrm
  dsimp only
  rw [nr_nat (show a ≤ 1000000 by omega), nr_nat (show b ≤ 1000000 by omega), nr_in (n := x) (by omega) (by omega), nr_in (n := y) (by omega) (by omega), if_neg (by rw [← Int.natCast_mul]; omega), Int.toNat_natCast, Int.toNat_natCast, mem_rows]
  constructor
  · rintro ⟨m, n, h1, -, h3, rfl⟩
    dsimp only
    omega
  · rintro ⟨h1, h2, h3, h4⟩
    refine ⟨(p.1 - x).toNat, (p.2 - y).toNat, by omega, by omega, by omega, ?_⟩
    apply Prod.ext
    · show p.1 = _; omega
    · show p.2 = _; omega
theorem ins_near {q : R4} {x y : Int} (hx : 0 ≤ q.x) (hw : 1 ≤ q.w) (hxw : q.x + q.w ≤ 32) (hy : 0 ≤ q.y) (hh : 1 ≤ q.h) (hyh : q.y + q.h ≤ 32) (h0 : 0 ≤ x) (h1 : x ≤ 32) (h2 : 0 ≤ y) (h3 : y ≤ 32) : insv q x y = decide (q.x ≤ x ∧ x < q.x + q.w ∧ q.y ≤ y ∧ y < q.y + q.h) := by
  unfold insv R4.nrm
  dsimp only
  rw [nr_in (n := q.x) (by omega) (by omega), nr_in (n := q.y) (by omega) (by omega), nr_in (n := q.w) (by omega) (by omega), nr_in (n := q.h) (by omega) (by omega), nr_in (n := x) (by omega) (by omega), nr_in (n := y) (by omega) (by omega)]
theorem ins_zero (x y : Int) : insv R4.zero x y = false := by
  unfold insv R4.nrm R4.zero
  dsimp only
  rw [show nr 0 = 0 from rfl]
  exact decide_eq_false (by omega)
theorem mem_clip {m : M3} (hf : formedv m = true) (r : R4) (p : Int × Int) : p ∈ cellsv (clipv m.w m.h r) ↔ inv m.w m.h p.1 p.2 = true ∧ insv r p.1 p.2 = true := by
  obtain ⟨X, Y, e1, e2, x1, x2, y1, y2, hl, _⟩ := formed_num hf
  rw [e1, e2]
  have hs : inv X Y p.1 p.2 = true → insv (clipv X Y r) p.1 p.2 = insv r p.1 p.2 := fun hi => by
    unfold inv at hi
    have h' := of_decide_eq_true hi
    obtain ⟨a, ha⟩ := Int.eq_ofNat_of_zero_le h'.1
    obtain ⟨b, hb⟩ := Int.eq_ofNat_of_zero_le h'.2.2.1
    rw [ha, hb]
    exact clip_same X Y r x1 x2 y1 y2 a b (by omega) (by omega)
  rcases clip_box X Y r x1 x2 y1 y2 with hz | ⟨b1, b2, b3, b4, b5, b6⟩
  · rw [hz] at hs ⊢
    have e : cellsv R4.zero = [] := by unfold cellsv R4.nrm R4.zero; dsimp only; rw [show nr 0 = 0 from rfl]; rfl
    rw [e]
    refine ⟨fun h => absurd h List.not_mem_nil, fun ⟨h1, h2⟩ => ?_⟩
    rw [← hs h1, ins_zero] at h2
    cases h2
  · rw [mem_cells b1 b2 (by omega) b4 b5 (by omega)]
    constructor
    · rintro ⟨h1, h2, h3, h4⟩
      have hi : inv X Y p.1 p.2 = true := by unfold inv; exact decide_eq_true (by omega)
      refine ⟨hi, ?_⟩
      rw [← hs hi, ins_near b1 b2 (by omega) b4 b5 (by omega) (by omega) (by omega) (by omega) (by omega)]
      exact decide_eq_true ⟨h1, h2, h3, h4⟩
    · rintro ⟨hi, h2⟩
      rw [← hs hi] at h2
      unfold inv at hi
      have h' := of_decide_eq_true hi
      rw [ins_near b1 b2 (by omega) b4 b5 (by omega) (by omega) (by omega) (by omega) (by omega)] at h2
      exact of_decide_eq_true h2
theorem clip_at {m : M3} (hf : formedv m = true) (r : R4) {n : Nat} (hn : n < m.cs.length) : ((cellsv (clipv m.w m.h r)).any fun p => decide ((indexv m.w p.1 p.2).toNat = n)) = insv r (atx m.w n) (aty m.w n) := by
  obtain ⟨hi, hx⟩ := pos_at hf hn
  rw [Bool.eq_iff_iff, List.any_eq_true]
  constructor
  · rintro ⟨p, hp, he⟩
    obtain ⟨h1, h2⟩ := (mem_clip hf r p).1 hp
    obtain ⟨k, hk, e, ex, ey⟩ := pos_of hf h1
    rw [e] at he
    have := of_decide_eq_true he
    obtain rfl : k = n := by omega
    rw [← ex, ← ey]; exact h2
  · intro h
    exact ⟨(atx m.w n, aty m.w n), (mem_clip hf r _).2 ⟨hi, h⟩, decide_eq_true (by dsimp only; rw [hx]; rfl)⟩
theorem marks_get {m : M3} (hf : formedv m = true) {n : Nat} (hn : n < m.cs.length) : ∀ (l : List R4) (L : List Bool), L.length = m.cs.length → (marksv m L l).getD n false = (L.getD n false || blockedAt m l n)
  | [], L, _ => by simp [marksv, blockedAt]
  | r :: l, L, h => by
    have e : marksv m L (r :: l) = marksv m (markv m.w L (cellsv (clipv m.w m.h r))) l := rfl
    rw [e, marks_get hf hn l _ (by rw [mark_len]; exact h), mark_get _ _ _ (by omega), clip_at hf r hn, Bool.or_assoc]
    rfl
theorem marks_blocked {m : M3} (hf : formedv m = true) (l : List R4) : marksv m (List.replicate m.cs.length false) l = blockedv m l := by
  unfold blockedv
  rw [if_pos hf]
  apply List.ext_getElem
  · rw [marks_len]; simp
  · intro n h1 h2
    have hn : n < m.cs.length := by simpa using h2
    have := marks_get hf hn l (List.replicate m.cs.length false) (by simp)
    rw [List.getD_eq_getElem?_getD, List.getElem?_eq_getElem h1] at this
    simp only [Option.getD_some] at this
    rw [this]
    simp [hn]
theorem blocked_at {m : M3} (hf : formedv m = true) (l : List R4) {x y : Int} (h : inv m.w m.h x y = true) : blkat m (blockedv m l) x y = l.any fun r => insv r x y := by
  obtain ⟨n, hn, e, ex, ey⟩ := pos_of hf h
  unfold blkat blockedv
  rw [if_pos hf, e, Int.toNat_natCast, List.getD_eq_getElem?_getD, List.getElem?_map, List.getElem?_range hn]
  show blockedAt m l n = _
  unfold blockedAt
  rw [← ex, ← ey]
theorem blocked_len (m : M3) (l : List R4) : (blockedv m l).length ≤ 1024 := by
  unfold blockedv
  split
  · rw [List.length_map, List.length_range]; exact formed_len (by assumption)
  · simp

theorem within_clip {m : M3} {r : R4} (hf : formedv m = true) : withinv m r = true ↔ r ≠ R4.zero ∧ clipv m.w m.h r = r := by
  obtain ⟨X, Y, e1, e2, x1, x2, y1, y2, hl, _⟩ := formed_num hf
  unfold withinv
  rw [hf, Bool.true_and, decide_eq_true_iff, e1, e2]
  obtain ⟨x, y, w, h⟩ := r
  dsimp only
  constructor
  · rintro ⟨a1, a2, a3, a4, a5, a6⟩
    refine ⟨fun e => ?_, ?_⟩
    · injection e with _ _ e3; omega
    · unfold clipv common R4.nrm
      dsimp only
      rw [nr_nat (show X ≤ 1000000 by omega), nr_nat (show Y ≤ 1000000 by omega), show nr 0 = 0 from rfl, nr_in (n := x) (by omega) (by omega), nr_in (n := y) (by omega) (by omega), nr_in (n := w) (by omega) (by omega), nr_in (n := h) (by omega) (by omega), if_neg (by omega), if_neg (by omega), R4.mk.injEq]
      omega
  · rintro ⟨hz, hc⟩
    have hb := clip_box X Y ⟨x, y, w, h⟩ x1 x2 y1 y2
    rw [hc] at hb
    rcases hb with hb | hb
    · exact absurd hb hz
    · dsimp only at hb; omega
theorem within_num {m : M3} {r : R4} (h : withinv m r = true) : formedv m = true ∧ 1 ≤ r.w ∧ 1 ≤ r.h ∧ 0 ≤ r.x ∧ 0 ≤ r.y ∧ r.x + r.w ≤ m.w ∧ r.y + r.h ≤ m.h ∧ m.w ≤ 32 ∧ m.h ≤ 32 := by
  unfold withinv at h
  rw [Bool.and_eq_true, decide_eq_true_iff] at h
  obtain ⟨X, Y, e1, e2, x1, x2, y1, y2, hl, _⟩ := formed_num h.1
  refine ⟨h.1, ?_⟩
  have := h.2
  omega
theorem within_inside {m : M3} {r : R4} (h : withinv m r = true) {p : Int × Int} : p ∈ cellsv r ↔ r.x ≤ p.1 ∧ p.1 < r.x + r.w ∧ r.y ≤ p.2 ∧ p.2 < r.y + r.h := by
  obtain ⟨_, h1, h2, h3, h4, h5, h6, h7, h8⟩ := within_num h
  exact mem_cells h3 h1 (by omega) h4 h2 (by omega) p
theorem within_in {m : M3} {r : R4} (h : withinv m r = true) {p : Int × Int} (hp : p ∈ cellsv r) : inv m.w m.h p.1 p.2 = true := by
  obtain ⟨_, h1, h2, h3, h4, h5, h6, h7, h8⟩ := within_num h
  have := (within_inside h).1 hp
  unfold inv
  exact decide_eq_true (by omega)

theorem fits_all {m : M3} {l : List R4} {r : R4} : fitsv m l r = true ↔ withinv m r = true ∧ ∀ p ∈ cellsv r, (getv m p.1 p.2).k = 1 ∧ (getv m p.1 p.2).h = (getv m r.x r.y).h ∧ ∀ q ∈ l, insv q p.1 p.2 = false := by
  unfold fitsv freev
  rw [Bool.and_eq_true, List.all_eq_true]
  refine and_congr_right fun hw => forall_congr' fun p => ?_
  refine ⟨fun h hp => ?_, fun h hp => ?_⟩
  · have h1 := h hp
    unfold okv at h1
    rw [blocked_at (within_num hw).1 l (within_in hw hp)] at h1
    simp only [Bool.and_eq_true, decide_eq_true_iff, Bool.not_eq_true', List.any_eq_false] at h1
    exact ⟨h1.1.1, h1.1.2, fun q hq => by have := h1.2 q hq; simpa using this⟩
  · obtain ⟨h1, h2, h3⟩ := h hp
    unfold okv
    rw [blocked_at (within_num hw).1 l (within_in hw hp)]
    simp only [Bool.and_eq_true, decide_eq_true_iff, Bool.not_eq_true', List.any_eq_false]
    exact ⟨⟨h1, h2⟩, fun q hq => by rw [h3 q hq]; simp⟩
theorem fits_fewer {m : M3} {l l' : List R4} {r : R4} (h : fitsv m l r = true) (hs : ∀ q ∈ l', q ∈ l) : fitsv m l' r = true := by
  rw [fits_all] at h ⊢
  exact ⟨h.1, fun p hp => ⟨(h.2 p hp).1, (h.2 p hp).2.1, fun q hq => (h.2 p hp).2.2 q (hs q hq)⟩⟩
theorem fits_meets {m : M3} {l : List R4} {r q : R4} (h : fitsv m l r = true) (hq : q ∈ l) : meetv r q = false := by
  rw [fits_all] at h
  obtain ⟨_, h1, h2, h3, h4, h5, h6, h7, h8⟩ := within_num h.1
  obtain ⟨x, y, w, t⟩ := r
  dsimp only at h1 h2 h3 h4 h5 h6
  obtain ⟨a, rfl⟩ := Int.eq_ofNat_of_zero_le (show 0 ≤ w by omega)
  obtain ⟨b, rfl⟩ := Int.eq_ofNat_of_zero_le (show 0 ≤ t by omega)
  have na : nr (a : Int) = a := nr_nat (by omega)
  have nb : nr (b : Int) = b := nr_nat (by omega)
  have hab : a * b ≤ 32 * 32 := Nat.mul_le_mul (by omega) (by omega)
  rw [← meet_any x y a b a b q na nb (by omega) (by omega)]
  have e : cellsv ⟨x, y, a, b⟩ = rowsGo (nr x) (nr y) a b 0 := by
    unfold cellsv R4.nrm
    dsimp only
    rw [na, nb, if_neg (by rw [← Int.natCast_mul]; omega), Int.toNat_natCast, Int.toNat_natCast]
  rw [← e]
  cases hm : (cellsv ⟨x, y, a, b⟩).any fun p => insv q p.1 p.2 with
  | false => rfl
  | true =>
    obtain ⟨p, hp, hi⟩ := List.any_eq_true.1 hm
    rw [(h.2 p hp).2.2 q hq] at hi
    cases hi

theorem oct_turn (a b c d : Int) : octv a b c d = octv c d a b := by
  unfold octv absv
  omega
theorem far_irr (f x y z : Int × Int) (h1 : farv f x y = false) (h2 : farv f y z = false) : farv f x z = false := by
  unfold farv at *
  rw [decide_eq_false_iff_not] at *
  omega
theorem far_tot (f x y : Int × Int) (h : farv f x y = true) : farv f y x = false := by
  unfold farv at *
  rw [decide_eq_true_iff] at h
  rw [decide_eq_false_iff_not]
  omega
theorem ocopen_inside {m : M3} {b : List Bool} {q x y : Int} (h : openv m b q x y = true) : insidev m x y = true := by
  unfold openv at h
  rw [Bool.and_eq_true] at h
  have := h.1
  unfold passv at this
  by_cases h1 : q = 1
  · rw [if_pos h1, Bool.and_eq_true] at this; exact this.1
  · rw [if_neg h1] at this
    by_cases h2 : q = 2
    · rw [if_pos h2, Bool.and_eq_true] at this; exact this.1
    · rw [if_neg h2] at this
      by_cases h3 : q = 3
      · rw [if_pos h3] at this; exact this
      · rw [if_neg h3] at this; cases this
/-- In the order of the distances, and of the places in a list where they are the same. -/
def lexv (f : Int × Int) (ix : Int × Int → Int) (a b : Int × Int) : Prop := octv a.1 a.2 f.1 f.2 < octv b.1 b.2 f.1 f.2 ∨ (octv a.1 a.2 f.1 f.2 = octv b.1 b.2 f.1 f.2 ∧ ix a < ix b)
theorem putS_lex {f : Int × Int} {ix : Int × Int → Int} {x : Int × Int} {s : List (Int × Int)} (hs : s.Pairwise (lexv f ix)) (hx : ∀ y ∈ s, ix y < ix x) : (putS (farv f) s x).Pairwise (lexv f ix) := by
  have key : ∀ l : List (Int × Int), l.Pairwise (fun a b => lexv f ix b a) → (∀ y ∈ l, ix y < ix x) → (insS (farv f) x l).Pairwise (fun a b => lexv f ix b a) := fun l => by
    induction l with
    | nil => intro _ _; simp [insS]
    | cons y l ih =>
      intro h hy
      obtain ⟨h1, h2⟩ := List.pairwise_cons.1 h
      unfold insS
      split
      · rename_i hq
        refine List.pairwise_cons.2 ⟨fun z hz => ?_, ih h2 fun z hz => hy z (List.mem_cons_of_mem _ hz)⟩
        rcases (mem_insS _).1 hz with rfl | hz
        · exact .inl (of_decide_eq_true hq)
        · exact h1 z hz
      · rename_i hq
        have hq : ¬ octv x.1 x.2 f.1 f.2 < octv y.1 y.2 f.1 f.2 := fun c => hq (decide_eq_true c)
        refine List.pairwise_cons.2 ⟨fun z hz => ?_, h⟩
        have hiy := hy z hz
        rcases List.mem_cons.1 hz with rfl | hz
        · unfold lexv; omega
        · have := h1 z hz
          unfold lexv at this ⊢
          omega
  unfold putS
  rw [List.pairwise_reverse]
  refine key _ ?_ fun y hy => hx y (List.mem_reverse.1 hy)
  rw [List.pairwise_reverse]
  exact hs
theorem merg_lex {f : Int × Int} {ix : Int × Int → Int} : ∀ (v u : List (Int × Int)), u.Pairwise (lexv f ix) → (v.Pairwise fun a b => ix a < ix b) → (∀ a ∈ u, ∀ b ∈ v, ix a < ix b) → (mergS (farv f) u v).Pairwise (lexv f ix)
  | [], _, h, _, _ => h
  | x :: v, u, h, hv, hu => by
    obtain ⟨h1, h2⟩ := List.pairwise_cons.1 hv
    have e : mergS (farv f) u (x :: v) = mergS (farv f) (putS (farv f) u x) v := rfl
    rw [e]
    refine merg_lex v _ (putS_lex h fun y hy => hu y hy x (List.mem_cons_self ..)) h2 fun a ha b hb => ?_
    rcases (mem_putS _).1 ha with rfl | ha
    · exact h1 b hb
    · exact hu a ha b (List.mem_cons_of_mem _ hb)
theorem all_order (m : M3) : (allp m).Pairwise fun a b => indexv m.w a.1 a.2 < indexv m.w b.1 b.2 := by
  unfold allp
  split
  · rename_i hf
    rw [List.pairwise_map]
    refine List.pairwise_iff_getElem.2 fun i j hi hj hij => ?_
    have hi' : i < m.cs.length := by simpa using hi
    have hj' : j < m.cs.length := by simpa using hj
    dsimp only
    rw [List.getElem_range, List.getElem_range, (pos_at hf hi').2, (pos_at hf hj').2]
    omega
  · exact List.Pairwise.nil
theorem spots_lex (m : M3) (b : List Bool) (q : Int) (f : Int × Int) : (spotsv m b q f).Pairwise (lexv f fun p => indexv m.w p.1 p.2) :=
  merg_lex _ _ List.Pairwise.nil ((all_order m).filter _) fun _ h => absurd h List.not_mem_nil
theorem spots_len (m : M3) (b : List Bool) (q : Int) (f : Int × Int) : (spotsv m b q f).length = ((allp m).filter fun p => openv m b q p.1 p.2).length := by
  unfold spotsv; rw [mergS_len]; simp
theorem filter_len (m : M3) (g : Int × Int → Bool) : ((allp m).filter g).length ≤ 1024 := Nat.le_trans (List.length_filter_le _ _) (all_le m)

end

end Go.Proofs.YtpgchjhfhndaaaaGreatDoor
