/-
  The octants around a cell together show what is visible; lowering a cell hides nothing; the union of two lists. No program is named here.
-/
import Derived.Test.YtbdgpldhfemejaaDoorShMath
import Derived.Test.YtbdgpldhfemejaaDoorGridIdxMath
namespace Go.Proofs.YtbdgpldhfemejaaDoor
open Go.RowKit Go.Lib

/-- What an octant shows, by the cells' indexes. -/
def Octs (m : M3) (f g a b c d R : Int) (high : Bool) (n : Nat) : Prop :=
  ∃ s t : Int, 0 ≤ t ∧ t ≤ s ∧ s ≤ R ∧ s * s + t * t ≤ R * R ∧ inv m.w m.h (f + s * a + t * c) (g + s * b + t * d) = true ∧
    (high || seesv m f g (f + s * a + t * c) (g + s * b + t * d)) = true ∧ indexv m.w (f + s * a + t * c) (g + s * b + t * d) = n
/-- The displacements along and across the eight octants. -/
def eight : List (Int × Int × Int × Int) := [(1, 0, 0, 1), (1, 0, 0, -1), (0, 1, -1, 0), (0, 1, 1, 0), (-1, 0, 0, -1), (-1, 0, 0, 1), (0, -1, 1, 0), (0, -1, -1, 0)]
theorem eight_unit {o : Int × Int × Int × Int} (h : o ∈ eight) : (o.2.1 = 0 ∧ o.2.2.1 = 0 ∧ (o.1 = 1 ∨ o.1 = -1) ∧ (o.2.2.2 = 1 ∨ o.2.2.2 = -1)) ∨ (o.1 = 0 ∧ o.2.2.2 = 0 ∧ (o.2.1 = 1 ∨ o.2.1 = -1) ∧ (o.2.2.1 = 1 ∨ o.2.2.1 = -1)) := by
  unfold eight at h
  simp only [List.mem_cons, List.not_mem_nil, or_false] at h
  rcases h with rfl | rfl | rfl | rfl | rfl | rfl | rfl | rfl <;> decide
theorem eight_ori {o : Int × Int × Int × Int} (h : o ∈ eight) (x y : Int) : Ori o.1 o.2.1 o.2.2.1 o.2.2.2 x y := by
  rcases eight_unit h with ⟨h1, h2, h3, h4⟩ | ⟨h1, h2, h3, h4⟩
  · exact .inl ⟨h1, h2, h3.imp_right .inl, h4.imp_right .inl⟩
  · exact .inr ⟨h1, h2, h3.imp_right .inl, h4.imp_right .inl⟩
theorem formed_num {m : M3} (h : formedv m = true) : ∃ X Y : Nat, m.w = X ∧ m.h = Y ∧ 1 ≤ X ∧ X ≤ 32 ∧ 1 ≤ Y ∧ Y ≤ 32 ∧ m.cs.length = X * Y ∧ (m.w * m.h).toNat = X * Y := by
  unfold formedv validv at h
  rw [Bool.and_eq_true, decide_eq_true_iff, decide_eq_true_iff] at h
  obtain ⟨⟨w1, w2, h1, h2⟩, hl⟩ := h
  obtain ⟨X, hX⟩ := Int.eq_ofNat_of_zero_le (show 0 ≤ m.w by omega)
  obtain ⟨Y, hY⟩ := Int.eq_ofNat_of_zero_le (show 0 ≤ m.h by omega)
  rw [hX, hY, ← Int.natCast_mul] at hl
  refine ⟨X, Y, hX, hY, by omega, by omega, by omega, by omega, by omega, ?_⟩
  rw [hX, hY, ← Int.natCast_mul, Int.toNat_natCast]
theorem sq_le {s R : Int} (hs : 0 ≤ s) (hR : 0 ≤ R) (h : s * s ≤ R * R) : s ≤ R := by
  rcases Int.lt_or_le R s with h1 | h1
  · exfalso
    have h2 : R * R ≤ R * s := Int.mul_le_mul_of_nonneg_left (Int.le_of_lt h1) hR
    have h3 : R * s < s * s := Int.mul_lt_mul_of_pos_right h1 (by omega)
    omega
  · exact h1
theorem sq_mono {s R : Int} (hs : 0 ≤ s) (h : s ≤ R) : s * s ≤ R * R := Int.mul_le_mul h h hs (Int.le_trans hs h)
theorem sq_neg (n : Int) : -n * -n = n * n := by rw [Int.neg_mul, Int.mul_neg, Int.neg_neg]
theorem sq0 (n : Int) : 0 ≤ n * n := by
  rcases Int.le_total 0 n with h | h
  · exact Int.mul_nonneg h h
  · rw [← sq_neg]; exact Int.mul_nonneg (by omega) (by omega)
theorem octs_sound {m : M3} {f g R : Int} {high : Bool} {n : Nat} {o : Int × Int × Int × Int} (hf : formedv m = true) (ho : o ∈ eight) (h : Octs m f g o.1 o.2.1 o.2.2.1 o.2.2.2 R high n) : n < m.cs.length ∧ visat m f g R high n = true := by
  obtain ⟨X, Y, hX, hY, x1, x2, y1, y2, hl, _⟩ := formed_num hf
  obtain ⟨s, t, t0, ts, sR, hr, hi, hs, hn⟩ := h
  rw [hX, hY] at hi
  obtain ⟨k, hk, hk2, hat⟩ := index_pick X Y _ _ x1 x2 y2 hi
  rw [hX] at hn
  obtain rfl : n = k := by have := hk.out; omega
  refine ⟨by omega, ?_⟩
  unfold visat
  rw [hX, ← hat.out.1, ← hat.out.2, hs, Bool.and_true, decide_eq_true_iff]
  rw [show f + s * o.1 + t * o.2.2.1 - f = s * o.1 + t * o.2.2.1 by omega, show g + s * o.2.1 + t * o.2.2.2 - g = s * o.2.1 + t * o.2.2.2 by omega]
  rcases eight_unit ho with ⟨h1, h2, h3, h4⟩ | ⟨h1, h2, h3, h4⟩
  · rw [h1, h2]
    rcases h3 with h3 | h3 <;> rcases h4 with h4 | h4 <;> rw [h3, h4] <;> simp only [Int.mul_zero, Int.mul_one, Int.add_zero, Int.zero_add, Int.mul_neg, Int.neg_mul, Int.neg_neg] <;> exact hr
  · rw [h1, h2]
    rcases h3 with h3 | h3 <;> rcases h4 with h4 | h4 <;> rw [h3, h4] <;> simp only [Int.mul_zero, Int.mul_one, Int.add_zero, Int.zero_add, Int.mul_neg, Int.neg_mul, Int.neg_neg] <;> omega
theorem octs_all {m : M3} {f g R : Int} {high : Bool} {n : Nat} (hf : formedv m = true) (hR : 0 ≤ R) (hn : n < m.cs.length) (h : visat m f g R high n = true) : ∃ o ∈ eight, Octs m f g o.1 o.2.1 o.2.2.1 o.2.2.2 R high n := by
  obtain ⟨X, Y, hX, hY, x1, x2, y1, y2, hl, _⟩ := formed_num hf
  obtain ⟨a, b, hab, hin, hix, _⟩ := cell_pick X Y n x1 x2 y2 (by omega)
  unfold visat at h
  rw [hX, ← hab.out.1, ← hab.out.2, Bool.and_eq_true, decide_eq_true_iff] at h
  obtain ⟨hd, hs⟩ := h
  obtain ⟨p, hp⟩ : ∃ p : Int, p = a - f := ⟨_, rfl⟩
  obtain ⟨q, hq⟩ : ∃ q : Int, q = b - g := ⟨_, rfl⟩
  rw [← hp, ← hq] at hd
  have np := sq_neg p
  have nq := sq_neg q
  have p0 : 0 ≤ p * p := sq0 p
  have q0 : 0 ≤ q * q := sq0 q
  have key : ∀ (s t : Int) (o : Int × Int × Int × Int), o ∈ eight → 0 ≤ t → t ≤ s → s * s + t * t = p * p + q * q → s * o.1 + t * o.2.2.1 = p → s * o.2.1 + t * o.2.2.2 = q → ∃ o ∈ eight, Octs m f g o.1 o.2.1 o.2.2.1 o.2.2.2 R high n := by
    intro s t o ho t0 ts e1 e2 e3
    have t1 : 0 ≤ t * t := sq0 t
    refine ⟨o, ho, s, t, t0, ts, sq_le (by omega) hR (by omega), by omega, ?_⟩
    rw [show f + s * o.1 + t * o.2.2.1 = a by omega, show g + s * o.2.1 + t * o.2.2.2 = b by omega, hX, hY]
    exact ⟨hin.out.symm, hs, hix.out.symm⟩
  by_cases hx : 0 ≤ p
  · by_cases hy : 0 ≤ q
    · by_cases hl : q ≤ p
      · exact key p q (1, 0, 0, 1) (by decide) hy hl rfl (by simp) (by simp)
      · exact key q p (0, 1, 1, 0) (by decide) hx (by omega) (by omega) (by simp) (by simp)
    · by_cases hl : -q ≤ p
      · exact key p (-q) (1, 0, 0, -1) (by decide) (by omega) hl (by omega) (by simp) (by simp)
      · exact key (-q) p (0, -1, 1, 0) (by decide) hx (by omega) (by omega) (by simp) (by simp)
  · by_cases hy : 0 ≤ q
    · by_cases hl : q ≤ -p
      · exact key (-p) q (-1, 0, 0, 1) (by decide) hy hl (by omega) (by simp) (by simp)
      · exact key q (-p) (0, 1, -1, 0) (by decide) (by omega) (by omega) (by omega) (by simp) (by simp)
    · by_cases hl : -q ≤ -p
      · exact key (-p) (-q) (-1, 0, 0, -1) (by decide) (by omega) hl (by omega) (by simp) (by simp)
      · exact key (-q) (-p) (0, -1, -1, 0) (by decide) (by omega) (by omega) (by omega) (by simp) (by simp)
theorem formed_of {m : M3} (h : validm m = true) : formedv m = true := by
  unfold validm at h
  exact (Bool.and_eq_true _ _ ▸ h).1
/-- A list that holds what the octants show. -/
theorem vis_of {m : M3} {f g r : Int} {high : Bool} {L : List Bool} (hv : validm m = true) (hi : inv m.w m.h f g = true) (hr : 0 ≤ r) (hl : L.length = m.cs.length)
    (h : ∀ n, (hn : n < L.length) → (L[n]'hn = true ↔ ∃ o ∈ eight, Octs m f g o.1 o.2.1 o.2.2.1 o.2.2.2 (min r 32) high n)) : L = visv m f g r high := by
  have hf := formed_of hv
  obtain ⟨X, Y, hX, hY, x1, x2, y1, y2, hlen, hn⟩ := formed_num hf
  unfold visv
  rw [if_pos ⟨hv, hi, hr⟩]
  apply List.ext_getElem
  · rw [List.length_map, List.length_range]; omega
  · intro n h1 h2
    rw [List.getElem_map, List.getElem_range, Bool.eq_iff_iff, h n h1]
    constructor
    · rintro ⟨o, ho, hO⟩
      exact (octs_sound hf ho hO).2
    · intro hV
      exact octs_all hf (by omega) (by omega) hV
theorem vis_len {m : M3} {f g r : Int} {high : Bool} (hv : validm m = true) (hi : inv m.w m.h f g = true) (hr : 0 ≤ r) : (visv m f g r high).length = m.cs.length := by
  obtain ⟨X, Y, hX, hY, x1, x2, y1, y2, hlen, hn⟩ := formed_num (formed_of hv)
  unfold visv
  rw [if_pos ⟨hv, hi, hr⟩, List.length_map, List.length_range]
  omega
theorem vis_small (m : M3) (f g r : Int) (high : Bool) : (visv m f g r high).length ≤ 1024 := by
  by_cases h : validm m = true ∧ inv m.w m.h f g = true ∧ 0 ≤ r
  · obtain ⟨X, Y, hX, hY, x1, x2, y1, y2, hlen, hn⟩ := formed_num (formed_of h.1)
    rw [vis_len h.1 h.2.1 h.2.2, hlen]
    exact Nat.mul_le_mul x2 y2
  · unfold visv
    rw [if_neg h]
    exact Nat.zero_le _
theorem vis_get {m : M3} {f g r : Int} {high : Bool} {n : Nat} (hn : n < (visv m f g r high).length) : (visv m f g r high)[n]'hn = visat m f g (min r 32) high n := by
  by_cases h : validm m = true ∧ inv m.w m.h f g = true ∧ 0 ≤ r
  · have e : visv m f g r high = (List.range (m.w * m.h).toNat).map (visat m f g (min r 32) high) := by unfold visv; rw [if_pos h]
    simp only [e, List.getElem_map, List.getElem_range]
  · exfalso
    have e : visv m f g r high = [] := by unfold visv; rw [if_neg h]
    rw [e] at hn
    cases hn
theorem vis_none {m : M3} {f g r : Int} {high : Bool} (h : (visv m f g r high).length = 0) : ¬ (validm m = true ∧ inv m.w m.h f g = true ∧ 0 ≤ r) := by
  intro hh
  obtain ⟨X, Y, hX, hY, x1, x2, y1, y2, hlen, hn⟩ := formed_num (formed_of hh.1)
  rw [vis_len hh.1 hh.2.1 hh.2.2, hlen] at h
  have := Nat.mul_le_mul x1 y1
  omega
theorem vis_some {m : M3} {f g r : Int} {high : Bool} (h : (visv m f g r high).length ≠ 0) : validm m = true ∧ inv m.w m.h f g = true ∧ 0 ≤ r := by
  by_cases hh : validm m = true ∧ inv m.w m.h f g = true ∧ 0 ≤ r
  · exact hh
  · exfalso
    apply h
    unfold visv
    rw [if_neg hh]
    rfl
/-- What is at the index of a cell. -/
theorem vis_cell {m : M3} {f g r u v : Int} {high : Bool} (hv : validm m = true) (hi : inv m.w m.h f g = true) (hr : 0 ≤ r) (hu : inv m.w m.h u v = true) :
    ∃ n : Nat, ∃ hn : n < (visv m f g r high).length, Hid ((n : Int) = indexv m.w u v) ∧ (visv m f g r high)[n]'hn = (decide ((u - f) * (u - f) + (v - g) * (v - g) ≤ min r 32 * min r 32) && (high || seesv m f g u v)) := by
  obtain ⟨X, Y, hX, hY, x1, x2, y1, y2, hlen, _⟩ := formed_num (formed_of hv)
  rw [hX, hY] at hu
  obtain ⟨k, hk, hk2, hat⟩ := index_pick X Y u v x1 x2 y2 hu
  have hk3 : k < (visv m f g r high).length := by rw [vis_len hv hi hr, hlen]; exact hk2
  refine ⟨k, hk3, hid (by rw [hX]; exact hk.out), ?_⟩
  rw [vis_get hk3]
  unfold visat
  rw [hX, ← hat.out.1, ← hat.out.2]

theorem get_with {m : M3} {x y p q : Int} {c : C3} (hi : insidev m x y = true) (h : ¬ (p = x ∧ q = y)) : getv (withv m x y c) p q = getv m p q := by
  have hin : insidev (withv m x y c) p q = insidev m p q := by unfold insidev formedv withv; rw [List.length_set]
  unfold getv
  rw [hin]
  split
  · next h2 =>
    obtain ⟨X, Y, a, b, hX, hY, rfl, rfl, ha, hb, X2, Y2, hl, hix, hlt⟩ := inside_at hi
    obtain ⟨X', Y', a', b', hX', hY', rfl, rfl, ha', hb', _, _, _, hix', hlt'⟩ := inside_at h2
    obtain rfl : X = X' := by omega
    have hw : (withv m a b c).w = m.w := rfl
    rw [hw, hix']
    show ((m.cs.set (indexv m.w a b).toNat c).getD _ _) = _
    rw [hix, Int.toNat_natCast, Int.toNat_natCast, List.getD_eq_getElem?_getD, List.getD_eq_getElem?_getD, List.getElem?_set_ne]
    intro e
    apply h
    have e1 : (b * X + a) % X = (b' * X + a') % X := by rw [e]
    have e2 : (b * X + a) / X = (b' * X + a') / X := by rw [e]
    rw [Nat.mul_comm b, Nat.mul_comm b', Nat.mul_add_mod, Nat.mul_add_mod, Nat.mod_eq_of_lt ha, Nat.mod_eq_of_lt ha'] at e1
    rw [Nat.mul_comm b, Nat.mul_comm b', Nat.mul_add_div (by omega), Nat.mul_add_div (by omega), Nat.div_eq_of_lt ha, Nat.div_eq_of_lt ha'] at e2
    omega
  · rfl
theorem get_with_at {m : M3} {x y : Int} {q : C3} (h : insidev m x y = true) : getv (withv m x y q) x y = q := by
  have hin : insidev (withv m x y q) x y = true := by rw [← h]; unfold insidev formedv withv; rw [List.length_set]
  obtain ⟨X, Y, a, b, hX, hY, rfl, rfl, ha, hb, X2, Y2, hl, hix, hlt⟩ := inside_at h
  unfold getv
  rw [if_pos hin]
  show ((m.cs.set (indexv m.w a b).toNat q).getD (indexv m.w a b).toNat _) = _
  rw [hix, Int.toNat_natCast, List.getD_eq_getElem?_getD, List.getElem?_set_self hlt]
  rfl
theorem inside_with {m : M3} {x y p q : Int} {c : C3} : insidev (withv m x y c) p q = insidev m p q := by unfold insidev formedv withv; rw [List.length_set]
theorem valid_with {m : M3} {x y : Int} {q : C3} (h : validm m = true) (hq : validc q = true) : validm (withv m x y q) = true := by
  unfold validm at *
  rw [Bool.and_eq_true, List.all_eq_true] at *
  refine ⟨?_, fun c hc => ?_⟩
  · rw [← h.1]; unfold formedv withv; rw [List.length_set]
  · rcases List.mem_or_eq_of_mem_set hc with h1 | rfl
    · exact h.2 c h1
    · exact hq
theorem get_low {m : M3} {x y : Int} (h : validm m = true) : 0 ≤ (getv m x y).h := by
  unfold getv
  split
  · next hi =>
    obtain ⟨X, Y, a, b, hX, hY, rfl, rfl, ha, hb, X2, Y2, hl, hix, hlt⟩ := inside_at hi
    rw [hix, Int.toNat_natCast, List.getD_eq_getElem?_getD, List.getElem?_eq_getElem hlt]
    unfold validm at h
    rw [Bool.and_eq_true, List.all_eq_true] at h
    have := h.2 _ (List.getElem_mem hlt)
    unfold validc at this
    rw [Bool.and_eq_true, decide_eq_true_iff] at this
    exact this.1.2.2.1
  · exact Int.le_refl 0
/-- Lowering a cell hides nothing. -/
theorem sees_lower {m : M3} {x y u v p q : Int} (hv : validm m = true) (hi : inv m.w m.h p q = true) (n1 : ¬ (x = p ∧ y = q)) (n2 : ¬ (u = p ∧ v = q)) (h : lookv m x y u v = true) : lookv (withv m p q ⟨1, 0, 0⟩) x y u v = true := by
  have hin : insidev m p q = true := by unfold insidev; rw [formed_of hv, hi]; rfl
  unfold lookv at h ⊢
  simp only [Bool.and_eq_true] at h ⊢
  obtain ⟨⟨⟨_, h2⟩, h3⟩, h4⟩ := h
  refine ⟨⟨⟨valid_with hv (by decide), h2⟩, h3⟩, ?_⟩
  rw [sees_iff] at h4 ⊢
  intro i j
  cases hb : blkv (withv m p q ⟨1, 0, 0⟩) x y u v i j with
  | false => rfl
  | true =>
    exfalso
    obtain ⟨b1, b2, b3, b4⟩ := blk_parts hb
    unfold hidev upv opaquev at b4
    rw [get_with hin n1, get_with hin n2, inside_with] at b4
    by_cases e : i = p ∧ j = q
    · obtain ⟨rfl, rfl⟩ := e
      rw [get_with_at hin, hin] at b4
      have g1 := get_low (x := x) (y := y) hv
      have hm : ¬ (max (getv m x y).h (getv m u v).h < 0) := by omega
      dsimp only at b4
      rw [decide_eq_false hm] at b4
      exact absurd b4 (by decide)
    · rw [get_with hin e] at b4
      have := blk_of b1 b2 b3 (show hidev m i j (upv m x y u v) = true from b4)
      rw [h4] at this
      cases this

theorem union_len (a b : List Bool) : (unionv a b).length = max a.length b.length := by unfold unionv; simp
theorem union_get {a b : List Bool} {i : Nat} (h : i < (unionv a b).length) : (unionv a b)[i]'h = (a.getD i false || b.getD i false) := by unfold unionv; simp
theorem union_getD (a b : List Bool) (i : Nat) : (unionv a b).getD i false = (a.getD i false || b.getD i false) := by
  by_cases h : i < (unionv a b).length
  · rw [List.getD_eq_getElem?_getD, List.getElem?_eq_getElem h, Option.getD_some, union_get h]
  · have h2 := union_len a b
    rw [List.getD_eq_getElem?_getD, List.getElem?_eq_none (by omega), List.getD_eq_getElem?_getD, List.getElem?_eq_none (by omega), List.getD_eq_getElem?_getD, List.getElem?_eq_none (by omega)]
    rfl
theorem union_comm (a b : List Bool) : unionv b a = unionv a b := by
  apply List.ext_getElem
  · rw [union_len, union_len]; omega
  · intro i h1 h2
    rw [union_get, union_get, Bool.or_comm]
theorem union_again (a b : List Bool) : unionv (unionv a b) a = unionv a b := by
  apply List.ext_getElem
  · rw [union_len, union_len]; omega
  · intro i h1 h2
    rw [union_get, union_get, union_getD]
    cases a.getD i false <;> cases b.getD i false <;> rfl

end Go.Proofs.YtbdgpldhfemejaaDoor
