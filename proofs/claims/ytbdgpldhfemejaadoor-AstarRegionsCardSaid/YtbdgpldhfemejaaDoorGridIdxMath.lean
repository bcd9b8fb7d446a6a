/-
  Cells and their indexes; how many cells of a grid lie in a rectangle. No program is named here.
-/
import Derived.Test.YtbdgpldhfemejaaDoorNumsG
namespace Go.Proofs.YtbdgpldhfemejaaDoor
open Go.RowKit Go.Lib

theorem at_nat (X i : Nat) (h : 1 ≤ X) : atx X i = ((i % X : Nat) : Int) ∧ aty X i = ((i / X : Nat) : Int) := by
  unfold atx aty
  rw [if_neg (by omega), if_neg (by omega)]
  exact ⟨by rw [Int.natCast_emod], by rw [Int.natCast_ediv]⟩
theorem nr_nat {n : Nat} (h : n ≤ 1000000) : nr (n : Int) = n := nr_in (by omega) (by omega)
/-- The cell with the index i. -/
theorem cell_pick (X Y i : Nat) (h1 : 1 ≤ X) (h2 : X ≤ 32) (h3 : Y ≤ 32) (h : i < X * Y) :
    ∃ a b : Nat, Hid ((a : Int) = atx X i ∧ (b : Int) = aty X i) ∧ Hid (true = inv X Y a b) ∧ Hid ((i : Int) = indexv X a b) ∧ a < X ∧ b < Y ∧ i = X * b + a := by
  have e := at_nat X i h1
  have ha : i % X < X := Nat.mod_lt _ h1
  have hb : i / X < Y := Nat.div_lt_of_lt_mul h
  have hi : i = X * (i / X) + i % X := (Nat.div_add_mod i X).symm
  generalize i % X = a at *
  generalize i / X = b at *
  refine ⟨a, b, hid ⟨e.1.symm, e.2.symm⟩, hid ?_, hid ?_, ha, hb, hi⟩
  · unfold inv
    exact (decide_eq_true (by omega)).symm
  · unfold indexv
    rw [nr_nat (by omega), nr_nat (by omega), nr_nat (by omega), ← Int.natCast_mul, ← Int.natCast_add]
    congr 1
    rw [Nat.mul_comm]; exact hi
/-- The index of a cell inside. -/
theorem index_pick (X Y : Nat) (x y : Int) (h1 : 1 ≤ X) (h2 : X ≤ 32) (h3 : Y ≤ 32) (h : inv X Y x y = true) :
    ∃ n : Nat, Hid ((n : Int) = indexv X x y) ∧ n < X * Y ∧ Hid (x = atx X n ∧ y = aty X n) := by
  unfold inv at h
  have h' := of_decide_eq_true h
  obtain ⟨a, rfl⟩ := Int.eq_ofNat_of_zero_le h'.1
  obtain ⟨b, rfl⟩ := Int.eq_ofNat_of_zero_le h'.2.2.1
  have ha : a < X := by omega
  have hb : b < Y := by omega
  have hm : X * (b + 1) ≤ X * Y := Nat.mul_le_mul_left X hb
  rw [Nat.mul_succ] at hm
  refine ⟨X * b + a, hid ?_, by omega, hid ?_⟩
  · unfold indexv
    rw [nr_nat (by omega), nr_nat (by omega), nr_nat (by omega), ← Int.natCast_mul, ← Int.natCast_add, Nat.mul_comm]
  · have e := at_nat X (X * b + a) h1
    rw [e.1, e.2]
    rw [Nat.mul_add_mod, Nat.mod_eq_of_lt ha, Nat.mul_add_div (by omega), Nat.div_eq_of_lt ha]
    exact ⟨rfl, by simp⟩

/-- How many of the first n numbers have f. -/
def cnt (f : Nat → Bool) : Nat → Nat
  | 0 => 0
  | n + 1 => cnt f n + if f n then 1 else 0
theorem cnt_le (f : Nat → Bool) (n : Nat) : cnt f n ≤ n := by
  induction n with
  | zero => exact Nat.le_refl _
  | succ n ih => unfold cnt; split <;> omega
theorem cnt_row (f : Nat → Bool) (X j a m : Nat) (q : Bool) (hf : ∀ k, k < X → f (X * j + k) = (decide (a ≤ k ∧ k < a + m) && q)) (k : Nat) (hk : k ≤ X) :
    cnt f (X * j + k) = cnt f (X * j) + if q then min k (a + m) - min k a else 0 := by
  induction k with
  | zero => simp
  | succ k ih =>
    have e := hf k (by omega)
    rw [← Nat.add_assoc, cnt, ih (by omega), e]
    cases q with
    | false => simp
    | true =>
      rw [Bool.and_true]
      simp only [if_true, decide_eq_true_eq]
      split <;> omega
theorem cnt_rows (f : Nat → Bool) (X Y a m b t : Nat) (hm : a + m ≤ X) (hf : ∀ j k, j < Y → k < X → f (X * j + k) = (decide (a ≤ k ∧ k < a + m) && decide (b ≤ j ∧ j < b + t))) (j : Nat) (hj : j ≤ Y) :
    cnt f (X * j) = (min j (b + t) - min j b) * m := by
  induction j with
  | zero => simp [cnt]
  | succ j ih =>
    rw [Nat.mul_succ, cnt_row f X j a m _ (fun k hk => hf j k (by omega) hk) X (Nat.le_refl _), ih (by omega)]
    by_cases h : b ≤ j ∧ j < b + t
    · rw [decide_eq_true h, if_pos rfl, show min (j + 1) (b + t) - min (j + 1) b = (min j (b + t) - min j b) + 1 by omega, Nat.succ_mul]
      omega
    · rw [decide_eq_false h, if_neg (by simp), show min (j + 1) (b + t) - min (j + 1) b = min j (b + t) - min j b by omega]
      omega

end Go.Proofs.YtbdgpldhfemejaaDoor
