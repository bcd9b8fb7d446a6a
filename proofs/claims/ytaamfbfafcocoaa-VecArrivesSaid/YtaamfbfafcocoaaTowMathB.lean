/-
  What the reference of vec answers. Practice.
-/
import Derived.Test.YtaamfbfafcocoaaProg
import Derived.WalkKit
import Derived.IntWalk
import Derived.WalkSpells
import Derived.WalkLawsBesides
import Derived.Deep.QuietTactic
import Derived.BigQuiet
import Derived.Lib.Hide
import Derived.Lib.Walk
import Derived.StillTailTactics
import Derived.Deep.RegionHeld3
import Derived.Test.YtaamfbfafcocoaaBox
import Derived.Test.YtaamfbfafcocoaaRefVec
import Derived.Test.YtaamfbfafcocoaaRefVecB
import Derived.Test.YtaamfbfafcocoaaRefVecC
import Derived.Test.YtaamfbfafcocoaaRefVecD
import Derived.Test.YtaamfbfafcocoaaRefVecE
import Derived.Test.YtaamfbfafcocoaaLawSums
import Derived.Test.YtaamfbfafcocoaaLawLengths
import Derived.Test.YtaamfbfafcocoaaLawParts
import Derived.Test.YtaamfbfafcocoaaLawToward
import Derived.Test.YtaamfbfafcocoaaTowMath
import Derived.Test.YtaamfbfafcocoaaRefSqrt
namespace Go.Proofs.Ytaamfbfafcocoaa
open Go.RowKit Go.Lib





theorem sq_less {c t : Int} (h : (0 ≤ c → 0 ≤ t ∧ t ≤ c) ∧ (c ≤ 0 → c ≤ t ∧ t ≤ 0)) (g : t ≠ 0) : (c - t) * (c - t) < c * c := by
  have key : ∀ a b : Int, 0 ≤ a → a < b → a * a < b * b := fun a b h0 h1 => by
    have h2 := Int.mul_le_mul_of_nonneg_left (show a ≤ b by omega) h0
    have h3 := Int.mul_lt_mul_of_pos_right h1 (show 0 < b by omega)
    omega
  rcases Int.le_total 0 c with k | k
  · have := h.1 k; exact key _ _ (by omega) (by omega)
  · have := h.2 k
    have m := key (-(c - t)) (-c) (by omega) (by omega)
    rw [Int.neg_mul_neg, Int.neg_mul_neg] at m
    exact m
theorem sq_zero {c : Int} (h : c * c = 0) : c = 0 := by
  rcases Int.mul_eq_zero.1 h with g | g <;> exact g
/-- A step stands still or leads nearer. -/
theorem tow_nearer {x y u v sp p q : Int} (h : TowAt x y u v sp p q) : (p = near x ∧ q = near y) ∨ farv p q u v < farv x y u v := by
  have hh := tow_says h
  have b1 := near_bd x; have b2 := near_bd y; have b3 := near_bd u; have b4 := near_bd v; have b5 := near_bd sp
  have far0 := farv_bd x y u v
  have gx0 := near_dsq x u; have gy0 := near_dsq y v
  have hd : farv x y u v = (near u - near x) * (near u - near x) + (near v - near y) * (near v - near y) := rfl
  rcases h with ⟨h0, hp, hq⟩ | ⟨h0, h1, hp, hq⟩ | ⟨h0, h1, n, hn, hp, hq⟩
  · exact Or.inl ⟨hp, hq⟩
  · subst hp hq
    by_cases z : farv x y u v = 0
    · rw [hd] at z
      have z1 := sq_zero (show (near u - near x) * (near u - near x) = 0 by omega)
      have z2 := sq_zero (show (near v - near y) * (near v - near y) = 0 by omega)
      exact Or.inl ⟨by omega, by omega⟩
    · right
      have : farv (near u) (near v) u v = 0 := by unfold farv; rw [near_near, near_near]; simp
      omega
  · obtain ⟨n0, n1, n2⟩ := hn
    have hsn : near sp ≤ n := by
      by_cases g : near sp ≤ n
      · exact g
      · have := rsq_mono (show 0 ≤ n by omega) (show n ≤ near sp by omega); omega
    have sx := share (near u - near x) (near sp) n (by omega) n0 hsn
    have sy := share (near v - near y) (near sp) n (by omega) n0 hsn
    have e : farv p q u v = (near u - p) * (near u - p) + (near v - q) * (near v - q) := by unfold farv; rw [hh.2.1, hh.2.2.1]
    rw [e, hd]
    have gx := sq_between ⟨sx.1, sx.2.1⟩
    have gy := sq_between ⟨sy.1, sy.2.1⟩
    have lx := sq_less ⟨sx.1, sx.2.1⟩
    have ly := sq_less ⟨sy.1, sy.2.1⟩
    generalize ((near u - near x) * near sp).tdiv n = t at *
    generalize ((near v - near y) * near sp).tdiv n = t' at *
    rw [hp, hq, show near u - (near x + t) = near u - near x - t by omega, show near v - (near y + t') = near v - near y - t' by omega]
    by_cases zt : t = 0
    · by_cases zt' : t' = 0
      · left; subst zt zt'; exact ⟨by omega, by omega⟩
      · right; have := ly zt'; omega
    · right; have := lx zt; omega

end Go.Proofs.Ytaamfbfafcocoaa
