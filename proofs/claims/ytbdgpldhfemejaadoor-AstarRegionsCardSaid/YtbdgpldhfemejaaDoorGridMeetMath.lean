/-
  Which rectangles meet: those of which one has a cell in the other. No program is named here.
-/
import Derived.Test.YtbdgpldhfemejaaDoorNumsG
namespace Go.Proofs.YtbdgpldhfemejaaDoor
open Go.RowKit Go.Lib

theorem common_pos (a b : R4) : 0 < (common a b).w ↔ ¬ (a.w < 1 ∨ a.h < 1 ∨ b.w < 1 ∨ b.h < 1) ∧ ¬ (min (a.x + a.w) (b.x + b.w) - max a.x b.x < 1 ∨ min (a.y + a.h) (b.y + b.h) - max a.y b.y < 1) := by
  unfold common
  by_cases h : a.w < 1 ∨ a.h < 1 ∨ b.w < 1 ∨ b.h < 1
  · rw [if_pos h]
    exact ⟨fun e => absurd e (by decide), fun e => absurd h e.1⟩
  · rw [if_neg h]
    by_cases k : min (a.x + a.w) (b.x + b.w) - max a.x b.x < 1 ∨ min (a.y + a.h) (b.y + b.h) - max a.y b.y < 1
    · rw [if_pos k]
      exact ⟨fun e => absurd e (by decide), fun e => absurd k e.2⟩
    · rw [if_neg k]
      exact ⟨fun _ => ⟨h, k⟩, fun _ => by show 0 < min _ _ - max _ _; omega⟩
theorem meet_comm (a b : R4) : meetv a b = meetv b a := by
  unfold meetv
  rw [Bool.eq_iff_iff, decide_eq_true_iff, decide_eq_true_iff, common_pos, common_pos]
  generalize a.nrm = p
  generalize b.nrm = q
  omega
theorem mem_row (x y : Int) (k i : Nat) (p : Int × Int) : p ∈ rowGo x y k i ↔ ∃ m, i ≤ m ∧ m < i + k ∧ p = (x + m, y) := by
  induction k generalizing i with
  | zero =>
    simp only [rowGo, List.not_mem_nil, false_iff]
    rintro ⟨m, h1, h2, _⟩
    omega
  | succ k ih =>
    rw [rowGo, List.mem_cons, ih]
    constructor
    · rintro (rfl | ⟨m, h1, h2, rfl⟩)
      · exact ⟨i, by omega, by omega, rfl⟩
      · exact ⟨m, by omega, by omega, rfl⟩
    · rintro ⟨m, h1, h2, rfl⟩
      by_cases e : m = i
      · left; rw [e]
      · right; exact ⟨m, by omega, by omega, rfl⟩
theorem mem_rows (x y : Int) (w k j : Nat) (p : Int × Int) : p ∈ rowsGo x y w k j ↔ ∃ m n : Nat, m < w ∧ j ≤ n ∧ n < j + k ∧ p = (x + m, y + n) := by
  induction k generalizing j with
  | zero =>
    simp only [rowsGo, List.not_mem_nil, false_iff]
    rintro ⟨m, n, _, h1, h2, _⟩
    omega
  | succ k ih =>
    rw [rowsGo, List.mem_append, ih, mem_row]
    constructor
    · rintro (⟨m, h1, h2, rfl⟩ | ⟨m, n, h0, h1, h2, rfl⟩)
      · exact ⟨m, j, by omega, by omega, by omega, rfl⟩
      · exact ⟨m, n, h0, by omega, by omega, rfl⟩
    · rintro ⟨m, n, h0, h1, h2, rfl⟩
      by_cases e : n = j
      · left; subst e; exact ⟨m, by omega, by omega, rfl⟩
      · right; exact ⟨m, n, h0, by omega, by omega, rfl⟩
/-- Of a rectangle with few cells and another one: they meet exactly if a cell of the first is in the second. -/
theorem meet_any (x y u v : Int) (a b : Nat) (r : R4) (hu : nr u = a) (hv : nr v = b) (a1 : 1 ≤ a) (b1 : 1 ≤ b) :
    (rowsGo (nr x) (nr y) a b 0).any (fun p => insv r p.1 p.2) = meetv ⟨x, y, u, v⟩ r := by
  have bx := nr_bd x; have by' := nr_bd y
  have rx := nr_bd r.x; have ry := nr_bd r.y; have rw' := nr_bd r.w; have rh := nr_bd r.h
  rw [Bool.eq_iff_iff, List.any_eq_true, meetv, decide_eq_true_iff, common_pos]
  unfold insv R4.nrm
  simp only [decide_eq_true_eq, hu, hv]
  constructor
  · rintro ⟨p, hp, h1, h2, h3, h4⟩
    obtain ⟨m, n, hm, -, hn, rfl⟩ := (mem_rows _ _ _ _ _ _).1 hp
    dsimp only at h1 h2 h3 h4
    have e1 : nr (nr x + m) = min (nr x + m) 1048576 := by unfold nr; unfold nr at bx; omega
    have e2 : nr (nr y + n) = min (nr y + n) 1048576 := by unfold nr; unfold nr at by'; omega
    rw [e1] at h1 h2
    rw [e2] at h3 h4
    generalize nr x = X at *
    generalize nr y = Y at *
    generalize nr r.x = P at *
    generalize nr r.y = Q at *
    generalize nr r.w = M at *
    generalize nr r.h = N at *
    omega
  · rintro ⟨h1, h2⟩
    generalize hX : nr x = X at *
    generalize hY : nr y = Y at *
    generalize hP : nr r.x = P at *
    generalize hQ : nr r.y = Q at *
    generalize nr r.w = M at *
    generalize nr r.h = N at *
    obtain ⟨m, hm⟩ := Int.eq_ofNat_of_zero_le (show 0 ≤ max X P - X by omega)
    obtain ⟨n, hn⟩ := Int.eq_ofNat_of_zero_le (show 0 ≤ max Y Q - Y by omega)
    refine ⟨(X + m, Y + n), (mem_rows _ _ _ _ _ _).2 ⟨m, n, by omega, by omega, by omega, rfl⟩, ?_⟩
    dsimp only
    have e1 : nr (X + m) = X + m := nr_in (by omega) (by omega)
    have e2 : nr (Y + n) = Y + n := nr_in (by omega) (by omega)
    rw [e1, e2]
    omega

end Go.Proofs.YtbdgpldhfemejaaDoor
