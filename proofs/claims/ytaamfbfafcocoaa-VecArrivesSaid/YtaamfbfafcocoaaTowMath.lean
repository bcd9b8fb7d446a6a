/-
  What the reference of vec answers. Practice.
-/
import Derived.Test.YtaamfbfafcocoaaProg
import Derived.WalkKit
import Derived.IntWalk
import Derived.WalkSpells
import Derived.WalkLawsBesides
import Derived.Deep.QuietTactic
import Derived.BigQuiet
import Derived.Lib.Hide
import Derived.Lib.Walk
import Derived.StillTailTactics
import Derived.Deep.RegionHeld3
import Derived.Test.YtaamfbfafcocoaaBox
import Derived.Test.YtaamfbfafcocoaaRefVec
import Derived.Test.YtaamfbfafcocoaaRefVecB
import Derived.Test.YtaamfbfafcocoaaRefVecC
import Derived.Test.YtaamfbfafcocoaaRefVecD
import Derived.Test.YtaamfbfafcocoaaRefVecE
import Derived.Test.YtaamfbfafcocoaaLawSums
import Derived.Test.YtaamfbfafcocoaaLawLengths
import Derived.Test.YtaamfbfafcocoaaLawParts
import Derived.Test.YtaamfbfafcocoaaLawToward
import Derived.Test.YtaamfbfafcocoaaRefSqrt
namespace Go.Proofs.Ytaamfbfafcocoaa
open Go.RowKit Go.Lib





/-- The truncated share t = c*s/n of c lies between 0 and c, and t*n is not farther from zero than c*s. -/
theorem share (c s n : Int) (hs : 0 ≤ s) (hn : 1 ≤ n) (hsn : s ≤ n) :
    (0 ≤ c → 0 ≤ (c * s).tdiv n ∧ (c * s).tdiv n ≤ c) ∧ (c ≤ 0 → c ≤ (c * s).tdiv n ∧ (c * s).tdiv n ≤ 0) ∧ ((c * s).tdiv n * n) * ((c * s).tdiv n * n) ≤ (c * s) * (c * s) := by
  have hab := Int.natAbs_tdiv (c * s) n
  have e0 : (c * s).natAbs.div n.natAbs = (c * s).natAbs / n.natAbs := rfl
  rw [e0] at hab
  have h1 : (c * s).natAbs / n.natAbs * n.natAbs ≤ (c * s).natAbs := Nat.div_mul_le_self _ _
  rw [← hab] at h1
  have e1 : (c * s).natAbs = c.natAbs * s.natAbs := Int.natAbs_mul c s
  have h2 : c.natAbs * s.natAbs ≤ c.natAbs * n.natAbs := Nat.mul_le_mul_left _ (by omega)
  have h3 : ((c * s).tdiv n).natAbs ≤ c.natAbs := by
    have hn' : 0 < n.natAbs := by omega
    have : ((c * s).tdiv n).natAbs * n.natAbs ≤ c.natAbs * n.natAbs := by omega
    exact Nat.le_of_mul_le_mul_right this hn'
  refine ⟨fun hc => ?_, fun hc => ?_, ?_⟩
  · have : 0 ≤ (c * s).tdiv n := Int.tdiv_nonneg (Int.mul_nonneg hc hs) (by omega)
    omega
  · have hq : (-(c * s)).tdiv n = -((c * s).tdiv n) := Int.neg_tdiv _ _
    have hp : 0 ≤ -(c * s) := by
      have := Int.mul_nonneg (show 0 ≤ -c by omega) hs
      rw [Int.neg_mul] at this; exact this
    have : 0 ≤ (-(c * s)).tdiv n := Int.tdiv_nonneg hp (by omega)
    omega
  · have h4 : ((c * s).tdiv n * n).natAbs ≤ (c * s).natAbs := by rw [Int.natAbs_mul]; exact h1
    have h5 : (((c * s).tdiv n * n).natAbs : Int) * ((c * s).tdiv n * n).natAbs ≤ ((c * s).natAbs : Int) * (c * s).natAbs := rsq_mono (by omega) (by omega)
    rw [Int.natAbs_mul_self' , Int.natAbs_mul_self'] at h5
    exact h5
/-- A point between two nearest values is nearest. -/
theorem near_id {n : Int} (h0 : -1048576 ≤ n) (h1 : n ≤ 1048576) : near n = n := by unfold near; omega
theorem sq_between {c t : Int} (h : (0 ≤ c → 0 ≤ t ∧ t ≤ c) ∧ (c ≤ 0 → c ≤ t ∧ t ≤ 0)) : (c - t) * (c - t) ≤ c * c := by
  rcases Int.le_total 0 c with g | g
  · have := h.1 g; exact rsq_mono (by omega) (by omega)
  · have := h.2 g
    have k := rsq_mono (show 0 ≤ -(c - t) by omega) (show -(c - t) ≤ -c by omega)
    rw [Int.neg_mul_neg, Int.neg_mul_neg] at k
    exact k
/-- What the law says of a step. -/
theorem tow_says {x y u v sp p q : Int} (h : TowAt x y u v sp p q) :
    vld p q = true ∧ near p = p ∧ near q = q ∧ farv p q u v ≤ farv x y u v ∧ (near sp ≤ 0 → p = near x ∧ q = near y) ∧ (¬ near sp ≤ 0 → farv x y p q ≤ near sp * near sp ∧ (¬ near sp * near sp < farv x y u v → p = near u ∧ q = near v)) := by
  have b1 := near_bd x; have b2 := near_bd y; have b3 := near_bd u; have b4 := near_bd v; have b5 := near_bd sp
  have far0 := farv_bd x y u v
  rcases h with ⟨h0, hp, hq⟩ | ⟨h0, h1, hp, hq⟩ | ⟨h0, h1, n, hn, hp, hq⟩
  · subst hp hq
    refine ⟨vld_near _ _, near_near _, near_near _, ?_, fun _ => ⟨rfl, rfl⟩, fun g => absurd h0 g⟩
    unfold farv; rw [near_near, near_near]; exact Int.le_refl _
  · subst hp hq
    refine ⟨vld_near _ _, near_near _, near_near _, ?_, fun g => absurd g h0, fun _ => ⟨?_, fun _ => ⟨rfl, rfl⟩⟩⟩
    · have : farv (near u) (near v) u v = 0 := by unfold farv; rw [near_near, near_near]; simp
      omega
    · have : farv x y (near u) (near v) = farv x y u v := by unfold farv; rw [near_near, near_near]
      rw [this]; exact h1
  · obtain ⟨n0, n1, n2⟩ := hn
    have hsn : near sp ≤ n := by
      by_cases g : near sp ≤ n
      · exact g
      · have := rsq_mono (show 0 ≤ n by omega) (show n ≤ near sp by omega); omega
    have sx := share (near u - near x) (near sp) n (by omega) n0 hsn
    have sy := share (near v - near y) (near sp) n (by omega) n0 hsn
    have gx := sq_between ⟨sx.1, sx.2.1⟩
    have gy := sq_between ⟨sy.1, sy.2.1⟩
    have kx := sx.2.2; have ky := sy.2.2
    have hd : farv x y u v = (near u - near x) * (near u - near x) + (near v - near y) * (near v - near y) := rfl
    generalize ht : ((near u - near x) * near sp).tdiv n = t at *
    generalize ht' : ((near v - near y) * near sp).tdiv n = t' at *
    have bp : -1048576 ≤ p ∧ p ≤ 1048576 := by
      rcases Int.le_total 0 (near u - near x) with g | g
      · have := sx.1 g; omega
      · have := sx.2.1 g; omega
    have bq : -1048576 ≤ q ∧ q ≤ 1048576 := by
      rcases Int.le_total 0 (near v - near y) with g | g
      · have := sy.1 g; omega
      · have := sy.2.1 g; omega
    have np := near_id bp.1 bp.2
    have nq := near_id bq.1 bq.2
    refine ⟨by have := vld_near p q; rw [np, nq] at this; exact this, np, nq, ?_, fun g => absurd g h0, fun _ => ⟨?_, fun g => absurd (by omega) g⟩⟩
    · rw [hd]
      unfold farv
      rw [np, nq, hp, hq, show near u - (near x + t) = near u - near x - t by omega, show near v - (near y + t') = near v - near y - t' by omega]
      omega
    · have e : farv x y p q = t * t + t' * t' := by
        unfold farv
        rw [np, nq, hp, hq, show near x + t - near x = t by omega, show near y + t' - near y = t' by omega]
      rw [e]
      generalize near sp = s at *
      generalize near u - near x = c at *
      generalize near v - near y = c' at *
      have m1 : t * n * (t * n) = t * t * (n * n) := by rw [Int.mul_assoc, Int.mul_left_comm n t n, ← Int.mul_assoc]
      have m2 : t' * n * (t' * n) = t' * t' * (n * n) := by rw [Int.mul_assoc, Int.mul_left_comm n t' n, ← Int.mul_assoc]
      have m3 : c * s * (c * s) = c * c * (s * s) := by rw [Int.mul_assoc, Int.mul_left_comm s c s, ← Int.mul_assoc]
      have m4 : c' * s * (c' * s) = c' * c' * (s * s) := by rw [Int.mul_assoc, Int.mul_left_comm s c' s, ← Int.mul_assoc]
      rw [m1, m3] at kx
      rw [m2, m4] at ky
      have nn : 0 < n * n := Int.mul_pos (by omega) (by omega)
      have ss : 0 ≤ s * s := Int.mul_nonneg (by omega) (by omega)
      have k1 : (t * t + t' * t') * (n * n) ≤ (c * c + c' * c') * (s * s) := by rw [Int.add_mul, Int.add_mul]; omega
      have k2 : (c * c + c' * c') * (s * s) ≤ (n * n) * (s * s) := Int.mul_le_mul_of_nonneg_right (by omega) ss
      have k3 : (t * t + t' * t') * (n * n) ≤ (s * s) * (n * n) := by rw [Int.mul_comm (s * s)]; omega
      exact Int.le_of_mul_le_mul_right k3 nn

end Go.Proofs.Ytaamfbfafcocoaa
