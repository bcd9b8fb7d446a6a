/-
  What a clipped rectangle contains. No program is named here.
-/
import Derived.Test.YtbdgpldhfemejaaDoorGridIdxMath
namespace Go.Proofs.YtbdgpldhfemejaaDoor
open Go.RowKit Go.Lib

theorem rowGo_size (x y : Int) (k i : Nat) : (rowGo x y k i).length = k := by
  induction k generalizing i with
  | zero => rfl
  | succ k ih => simp [rowGo, ih]
theorem rowsGo_size (x y : Int) (w k j : Nat) : (rowsGo x y w k j).length = k * w := by
  induction k generalizing j with
  | zero => simp [rowsGo]
  | succ k ih => rw [rowsGo, List.length_append, rowGo_size, ih, Nat.succ_mul]; omega
theorem dec_and (p q : Prop) [Decidable p] [Decidable q] : (decide p && decide q) = decide (p ∧ q) := by
  by_cases h : p <;> by_cases k : q <;> simp [h, k]
theorem clip_pick (X Y : Nat) (r : R4) (X1 : 1 ≤ X) (X2 : X ≤ 32) (Y1 : 1 ≤ Y) (Y2 : Y ≤ 32) :
    ∃ a m b t : Nat, a + m ≤ X ∧ b + t ≤ Y ∧ (∀ j k : Nat, j < Y → k < X → insv r k j = (decide (a ≤ k ∧ k < a + m) && decide (b ≤ j ∧ j < b + t))) ∧
      (∀ j k : Nat, j < Y → k < X → insv (clipv X Y r) k j = (decide (a ≤ k ∧ k < a + m) && decide (b ≤ j ∧ j < b + t))) ∧ (cellsv (clipv X Y r)).length = t * m ∧
      (-100 ≤ (clipv X Y r).x ∧ (clipv X Y r).x ≤ 100 ∧ -100 ≤ (clipv X Y r).y ∧ (clipv X Y r).y ≤ 100 ∧ -100 ≤ (clipv X Y r).w ∧ (clipv X Y r).w ≤ 100 ∧ -100 ≤ (clipv X Y r).h ∧ (clipv X Y r).h ≤ 100) := by
  obtain ⟨rx, ry, rw', rh⟩ := r
  have bx := nr_bd rx; have by' := nr_bd ry; have bw := nr_bd rw'; have bh := nr_bd rh
  have nX : nr (X : Int) = X := nr_nat (by omega)
  have nY : nr (Y : Int) = Y := nr_nat (by omega)
  have n0 : nr 0 = 0 := by decide
  have hc : clipv X Y ⟨rx, ry, rw', rh⟩ = common ⟨0, 0, X, Y⟩ ⟨nr rx, nr ry, nr rw', nr rh⟩ := by
    unfold clipv R4.nrm; dsimp only; rw [nX, nY, n0]
  have hi : ∀ j k : Nat, j < Y → k < X → insv ⟨rx, ry, rw', rh⟩ k j = decide (nr rx ≤ k ∧ (k : Int) < nr rx + nr rw' ∧ nr ry ≤ j ∧ (j : Int) < nr ry + nr rh) := by
    intro j k hj hk
    unfold insv R4.nrm
    dsimp only
    rw [nr_nat (show j ≤ 1000000 by omega), nr_nat (show k ≤ 1000000 by omega)]
  rw [hc]
  generalize nr rx = x at *
  generalize nr ry = y at *
  generalize nr rw' = u at *
  generalize nr rh = v at *
  by_cases hz : common ⟨0, 0, X, Y⟩ ⟨x, y, u, v⟩ = R4.zero
  · rw [hz]
    refine ⟨0, 0, 0, 0, by omega, by omega, ?_, ?_, ?_, by decide⟩
    · intro j k hj hk
      rw [hi j k hj hk]
      have h0 : ¬ 0 < (common ⟨0, 0, X, Y⟩ ⟨x, y, u, v⟩).w := by rw [hz]; decide
      rw [dec_and]
      refine decide_eq_decide.2 ⟨fun h => ?_, fun h => by omega⟩
      exfalso
      have g1 : ¬ ((X : Int) < 1 ∨ (Y : Int) < 1 ∨ u < 1 ∨ v < 1) := by omega
      have g2 : ¬ (min (0 + (X : Int)) (x + u) - max 0 x < 1 ∨ min (0 + (Y : Int)) (y + v) - max 0 y < 1) := by omega
      rw [show common ⟨0, 0, X, Y⟩ ⟨x, y, u, v⟩ = ⟨max 0 x, max 0 y, min (0 + (X : Int)) (x + u) - max 0 x, min (0 + (Y : Int)) (y + v) - max 0 y⟩ from (if_neg g1).trans (if_neg g2)] at h0
      dsimp only at h0
      omega
    · intro j k hj hk
      rw [dec_and]
      refine decide_eq_decide.2 ⟨fun h => ?_, fun h => by omega⟩
      exfalso
      have e : R4.zero.nrm = R4.zero := by unfold R4.nrm R4.zero; rw [n0]
      rw [e] at h
      have h2 := h.2.1
      have h1 := h.1
      unfold R4.zero at h1 h2
      dsimp only at h1 h2
      omega
    · decide
  · have h1 : ¬ ((X : Int) < 1 ∨ (Y : Int) < 1 ∨ u < 1 ∨ v < 1) := fun h => hz (if_pos h)
    have h2 : ¬ (min (0 + (X : Int)) (x + u) - max 0 x < 1 ∨ min (0 + (Y : Int)) (y + v) - max 0 y < 1) := fun h => hz ((if_neg h1).trans (if_pos h))
    have he : common ⟨0, 0, X, Y⟩ ⟨x, y, u, v⟩ = ⟨max 0 x, max 0 y, min (0 + (X : Int)) (x + u) - max 0 x, min (0 + (Y : Int)) (y + v) - max 0 y⟩ := (if_neg h1).trans (if_neg h2)
    rw [he]
    obtain ⟨a, ha⟩ := Int.eq_ofNat_of_zero_le (show 0 ≤ max 0 x by omega)
    obtain ⟨b, hb⟩ := Int.eq_ofNat_of_zero_le (show 0 ≤ max 0 y by omega)
    obtain ⟨m, hm⟩ := Int.eq_ofNat_of_zero_le (show 0 ≤ min (0 + (X : Int)) (x + u) - max 0 x by omega)
    obtain ⟨t, ht⟩ := Int.eq_ofNat_of_zero_le (show 0 ≤ min (0 + (Y : Int)) (y + v) - max 0 y by omega)
    rw [hm, ht, ha, hb]
    have na : nr (a : Int) = a := nr_nat (by omega)
    have nb : nr (b : Int) = b := nr_nat (by omega)
    have nm : nr (m : Int) = m := nr_nat (by omega)
    have nt : nr (t : Int) = t := nr_nat (by omega)
    refine ⟨a, m, b, t, by omega, by omega, ?_, ?_, ?_, by dsimp only; omega⟩
    · intro j k hj hk
      rw [hi j k hj hk, dec_and]
      exact decide_eq_decide.2 (by omega)
    · intro j k hj hk
      unfold insv R4.nrm
      dsimp only
      rw [nr_nat (show j ≤ 1000000 by omega), nr_nat (show k ≤ 1000000 by omega), na, nb, nm, nt, dec_and]
      exact decide_eq_decide.2 (by omega)
    · unfold cellsv R4.nrm
      dsimp only
      rw [na, nb, nm, nt]
      have hmt : m * t ≤ 32 * 32 := Nat.mul_le_mul (by omega) (by omega)
      have e : (m : Int) * t = ((m * t : Nat) : Int) := by simp
      rw [if_neg (by rw [e]; omega), rowsGo_size, Int.toNat_natCast, Int.toNat_natCast]
/-- Of the cells of a grid as many lie in a rectangle as its clipped one has cells. -/
theorem clip_count (X Y : Nat) (r : R4) (X1 : 1 ≤ X) (X2 : X ≤ 32) (Y1 : 1 ≤ Y) (Y2 : Y ≤ 32) :
    cnt (fun i => insv r (i % X : Nat) (i / X : Nat)) (X * Y) = (cellsv (clipv X Y r)).length := by
  obtain ⟨a, m, b, t, h1, h2, h3, -, h5, -⟩ := clip_pick X Y r X1 X2 Y1 Y2
  rw [h5, cnt_rows _ X Y a m b t h1 ?_ Y (Nat.le_refl _)]
  · congr 1; omega
  · intro j k hj hk
    rw [Nat.mul_add_mod, Nat.mod_eq_of_lt hk, Nat.mul_add_div (by omega), Nat.div_eq_of_lt hk, Nat.add_zero]
    exact h3 j k hj hk
theorem clip_same (X Y : Nat) (r : R4) (X1 : 1 ≤ X) (X2 : X ≤ 32) (Y1 : 1 ≤ Y) (Y2 : Y ≤ 32) (a b : Nat) (ha : a < X) (hb : b < Y) : insv (clipv X Y r) a b = insv r a b := by
  obtain ⟨_, _, _, _, _, _, h3, h4, _, _⟩ := clip_pick X Y r X1 X2 Y1 Y2
  rw [h3 b a hb ha, h4 b a hb ha]

end Go.Proofs.YtbdgpldhfemejaaDoor
