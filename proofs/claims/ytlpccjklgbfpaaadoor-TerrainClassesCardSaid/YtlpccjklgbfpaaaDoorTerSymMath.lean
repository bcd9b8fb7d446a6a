/-
  A step and its opposite; movement classes. No program is named here.
-/
import Derived.Test.YtlpccjklgbfpaaaDoorTerMath
import Derived.Test.YtlpccjklgbfpaaaDoorGridSymMath
namespace Go.Proofs.YtlpccjklgbfpaaaDoor
open Go.RowKit Go.Lib

theorem rise_sym (g h : Int) : risev g h = risev h g := by unfold risev; rw [Int.max_comm, Int.min_comm]
theorem near_sym (m : M3) (b : List Bool) (q x y u v : Int) : nearv m b q x y u v = nearv m b q u v x y := by
  unfold nearv; rw [rise_sym, Bool.and_comm (openv m b q x y)]
theorem open_inside {m : M3} {b : List Bool} {q x y : Int} (h : openv m b q x y = true) : insidev m x y = true := by
  unfold openv at h
  rw [Bool.and_eq_true] at h
  have h := h.1
  unfold passv at h
  cases hi : insidev m x y with
  | true => rfl
  | false => rw [hi] at h; simp at h
theorem inside_in {m : M3} {x y : Int} (h : insidev m x y = true) : inv m.w m.h x y = true ∧ (0 ≤ x ∧ x ≤ 31) ∧ (0 ≤ y ∧ y ≤ 31) := by
  have h2 := h
  unfold insidev at h
  rw [Bool.and_eq_true] at h
  obtain ⟨X, Y, a, b, e1, e2, e3, e4, ha, hb, hX, hY, _⟩ := inside_at h2
  exact ⟨h.2, ⟨by omega, by omega⟩, ⟨by omega, by omega⟩⟩
theorem near_in {m : M3} {b : List Bool} {q x y u v : Int} (h : nearv m b q x y u v = true) : insidev m x y = true ∧ insidev m u v = true := by
  unfold nearv at h
  rw [Bool.and_eq_true, Bool.and_eq_true] at h
  exact ⟨open_inside h.1.1, open_inside h.1.2⟩
theorem may_near {m : M3} {b : List Bool} {q x y d : Int} (h : mayv m b q x y d = true) : nearv m b q x y (stx x d) (sty y d) = true := by
  unfold mayv at h
  rw [Bool.and_eq_true, Bool.and_eq_true] at h
  exact h.1.2
theorem co_of {n : Int} (h : 0 ≤ n ∧ n ≤ 31) : Co n := ⟨by omega, by omega⟩

theorem may_dir {m : M3} {b : List Bool} {q x y d : Int} (hd : 0 ≤ d ∧ d ≤ 7) (h : mayv m b q x y d = true) :
    mayv m b q (stx x d) (sty y d) ((d + 4) % 8) = true ∧ costv m b q (stx x d) (sty y d) ((d + 4) % 8) = costv m b q x y d ∧ stx (stx x d) ((d + 4) % 8) = x ∧ sty (sty y d) ((d + 4) % 8) = y := by
  have hn := may_near h
  obtain ⟨h1, _⟩ := near_in hn
  obtain ⟨_, hx, hy⟩ := inside_in h1
  obtain ⟨bx, hby, _⟩ := step_there (co_of hx) (co_of hy) hd
  have hm : mayv m b q (stx x d) (sty y d) ((d + 4) % 8) = true := by
    unfold mayv at h ⊢
    rw [bx, hby]
    rw [Bool.and_eq_true, Bool.and_eq_true] at h ⊢
    obtain ⟨⟨_, _⟩, h3⟩ := h
    refine ⟨⟨decide_eq_true (by omega), by rw [near_sym]; exact hn⟩, ?_⟩
    rw [Bool.or_eq_true, Bool.or_eq_true, Bool.and_eq_true, Bool.and_eq_true, Bool.and_eq_true] at h3 ⊢
    rcases h3 with (h3 | h3) | ⟨⟨⟨a, c⟩, e⟩, g⟩
    · exact .inl (.inl (decide_eq_true (by have := of_decide_eq_true h3; omega)))
    · exact .inl (.inr h3)
    · refine .inr ⟨⟨⟨?_, ?_⟩, ?_⟩, ?_⟩
      · rw [near_sym]; exact g
      · rw [near_sym]; exact e
      · rw [near_sym]; exact c
      · rw [near_sym]; exact a
  refine ⟨hm, ?_, bx, hby⟩
  unfold costv
  rw [if_pos hm, if_pos h, bx, hby, rise_sym, show (d + 4) % 8 % 2 = d % 2 by omega]
theorem may_both (m : M3) (b : List Bool) (q x y d : Int) (hd : 0 ≤ d ∧ d ≤ 7) :
    mayv m b q (stx x d) (sty y d) ((d + 4) % 8) = mayv m b q x y d ∧ costv m b q (stx x d) (sty y d) ((d + 4) % 8) = costv m b q x y d := by
  cases h : mayv m b q x y d with
  | true => have := may_dir hd h; exact ⟨this.1, this.2.1⟩
  | false =>
    have hm : mayv m b q (stx x d) (sty y d) ((d + 4) % 8) = false := by
      cases h2 : mayv m b q (stx x d) (sty y d) ((d + 4) % 8) with
      | false => rfl
      | true =>
        exfalso
        have hd2 : 0 ≤ (d + 4) % 8 ∧ (d + 4) % 8 ≤ 7 := by omega
        have h3 := may_dir hd2 h2
        obtain ⟨i1, i2⟩ := near_in (may_near h2)
        obtain ⟨_, hx1, hy1⟩ := inside_in i1
        obtain ⟨_, hx2, hy2⟩ := inside_in i2
        obtain ⟨_, s5, s6, _⟩ := sh_all hd
        have n1 : ¬ (d < 0 ∨ 7 < d) := by omega
        have n2 : ¬ ((d + 4) % 8 < 0 ∨ 7 < (d + 4) % 8) := by omega
        have ex : stx x d = nr x + shx d := by unfold stx; rw [if_neg n1]
        have ey : sty y d = nr y + shy d := by unfold sty; rw [if_neg n1]
        have ex2 : stx (stx x d) ((d + 4) % 8) = nr (stx x d) + shx ((d + 4) % 8) := by rw [stx, if_neg n2]
        have ey2 : sty (sty y d) ((d + 4) % 8) = nr (sty y d) + shy ((d + 4) % 8) := by rw [sty, if_neg n2]
        rw [nr_in (n := stx x d) (by omega) (by omega), s5] at ex2
        rw [nr_in (n := sty y d) (by omega) (by omega), s6] at ey2
        have kx : nr x = stx (stx x d) ((d + 4) % 8) := by omega
        have ky : nr y = sty (sty y d) ((d + 4) % 8) := by omega
        have lx : x = stx (stx x d) ((d + 4) % 8) := by rw [← kx]; rw [← kx] at hx2; unfold nr at hx2 ⊢; omega
        have ly : y = sty (sty y d) ((d + 4) % 8) := by rw [← ky]; rw [← ky] at hy2; unfold nr at hy2 ⊢; omega
        have h4 := h3.1
        rw [← lx, ← ly, show ((d + 4) % 8 + 4) % 8 = d by omega, h] at h4
        exact Bool.false_ne_true h4
    refine ⟨hm, ?_⟩
    unfold costv
    rw [if_neg (by rw [hm]; simp), if_neg (by rw [h]; simp)]
theorem may_in {m : M3} {b : List Bool} {q x y d : Int} (h : mayv m b q x y d = true) : inv m.w m.h (stx x d) (sty y d) = true ∧ inv m.w m.h x y = true := by
  obtain ⟨h1, h2⟩ := near_in (may_near h)
  exact ⟨(inside_in h2).1, (inside_in h1).1⟩

theorem pass12 {m : M3} {x y : Int} (h : passv m 1 x y = true) : passv m 2 x y = true := by
  unfold passv at *
  rw [if_pos rfl, Bool.and_eq_true, decide_eq_true_iff] at h
  rw [if_neg (by decide), if_pos rfl, Bool.and_eq_true, decide_eq_true_iff]
  exact ⟨h.1, by rcases h.2 with a | a <;> simp [a]⟩
theorem pass23 {m : M3} {x y : Int} (h : passv m 2 x y = true) : passv m 3 x y = true := by
  unfold passv at *
  rw [if_neg (by decide), if_pos rfl, Bool.and_eq_true] at h
  rw [if_neg (by decide), if_neg (by decide), if_pos rfl]
  exact h.1
theorem open12 {m : M3} {b : List Bool} {x y : Int} (h : openv m b 1 x y = true) : openv m b 2 x y = true := by
  unfold openv at *
  rw [Bool.and_eq_true] at *
  exact ⟨pass12 h.1, by simpa using h.2⟩
theorem open23 {m : M3} {b : List Bool} {x y : Int} (h : openv m b 2 x y = true) : openv m b 3 x y = true := by
  unfold openv at *
  rw [Bool.and_eq_true] at *
  exact ⟨pass23 h.1, by simp⟩
theorem near12 {m : M3} {b : List Bool} {x y u v : Int} (h : nearv m b 1 x y u v = true) : nearv m b 2 x y u v = true := by
  unfold nearv at *
  rw [Bool.and_eq_true, Bool.and_eq_true] at *
  exact ⟨⟨open12 h.1.1, open12 h.1.2⟩, by simpa using h.2⟩
theorem near23 {m : M3} {b : List Bool} {x y u v : Int} (h : nearv m b 2 x y u v = true) : nearv m b 3 x y u v = true := by
  unfold nearv at *
  rw [Bool.and_eq_true, Bool.and_eq_true] at *
  exact ⟨⟨open23 h.1.1, open23 h.1.2⟩, by simp⟩
theorem may12 {m : M3} {b : List Bool} {x y d : Int} (h : mayv m b 1 x y d = true) : mayv m b 2 x y d = true ∧ costv m b 1 x y d = costv m b 2 x y d := by
  have h2 : mayv m b 2 x y d = true := by
    unfold mayv at *
    rw [Bool.and_eq_true, Bool.and_eq_true] at *
    refine ⟨⟨h.1.1, near12 h.1.2⟩, ?_⟩
    have h3 := h.2
    rw [Bool.or_eq_true, Bool.or_eq_true, Bool.and_eq_true, Bool.and_eq_true, Bool.and_eq_true] at h3 ⊢
    rcases h3 with (h3 | h3) | ⟨⟨⟨a, c⟩, e⟩, g⟩
    · exact .inl (.inl h3)
    · exact absurd (of_decide_eq_true h3) (by decide)
    · exact .inr ⟨⟨⟨near12 a, near12 c⟩, near12 e⟩, near12 g⟩
  refine ⟨h2, ?_⟩
  unfold costv
  rw [if_pos h, if_pos h2]
  simp
theorem may23 {m : M3} {b : List Bool} {x y d : Int} (h : mayv m b 2 x y d = true) : mayv m b 3 x y d = true ∧ costv m b 3 x y d ≤ costv m b 2 x y d := by
  have h2 : mayv m b 3 x y d = true := by
    unfold mayv at *
    rw [Bool.and_eq_true, Bool.and_eq_true] at *
    refine ⟨⟨h.1.1, near23 h.1.2⟩, by simp⟩
  refine ⟨h2, ?_⟩
  unfold costv
  rw [if_pos h, if_pos h2, if_neg (show ¬ ((3 : Int) ≠ 3 ∧ _) from fun h => h.1 rfl)]
  split <;> split <;> omega

end Go.Proofs.YtlpccjklgbfpaaaDoor
