/-
  What R01.Isqrt answers for all numbers that are not negative: the root, rounded down.
-/
import Derived.Test.YtaamfbfafcocoaaProg
import Derived.WalkKit
import Derived.IntWalk
import Derived.WalkSpells
import Derived.WalkLawsBesides
import Derived.Lib.Hide
import Derived.Lib.Walk
namespace Go.Proofs.Ytaamfbfafcocoaa
open Go.RowKit Go.Lib

/-- r is the root of n, rounded down. -/
def RRoot (n r : Int) : Prop := 0 ≤ r ∧ r * r ≤ n ∧ n < (r + 1) * (r + 1)
theorem rsq_mono {a b : Int} (h0 : 0 ≤ a) (h : a ≤ b) : a * a ≤ b * b := Int.mul_le_mul h h h0 (by omega)
theorem RRoot.same {n r s : Int} (h : RRoot n r) (k : RRoot n s) : r = s := by
  obtain ⟨h0, h1, h2⟩ := h
  obtain ⟨k0, k1, k2⟩ := k
  rcases Int.lt_trichotomy r s with g | g | g
  · have := rsq_mono (show 0 ≤ r + 1 by omega) (show r + 1 ≤ s by omega); omega
  · exact g
  · have := rsq_mono (show 0 ≤ s + 1 by omega) (show s + 1 ≤ r by omega); omega
/-- The state of the bitwise root: r so far, the next bit b, the width B still open. -/
def RSt (n r b B : Int) : Prop := 0 ≤ r ∧ 1 ≤ B ∧ r + B ≤ 4294967296 ∧ r * r ≤ n ∧ n < (r + B) * (r + B) ∧ ((b = 0 ∧ B = 1) ∨ ∃ j : Nat, j ≤ 31 ∧ b = ((2 ^ j : Nat) : Int) ∧ B = 2 * b)
theorem RSt.start {n : Int} (h0 : 0 ≤ n) (h1 : n ≤ 9223372036854775807) : RSt n 0 2147483648 4294967296 := by
  refine ⟨by omega, by omega, by omega, by omega, by omega, Or.inr ⟨31, by omega, by decide, by omega⟩⟩
theorem RSt.bd {n r b B : Int} (h : RSt n r b B) : 0 ≤ b ∧ b ≤ 2147483648 ∧ 0 ≤ r ∧ r ≤ 4294967295 := by
  obtain ⟨h0, h1, h2, -, -, h3⟩ := h
  rcases h3 with ⟨e, -⟩ | ⟨j, hj, e, -⟩
  · omega
  · have := Nat.pow_le_pow_right (show 0 < 2 by omega) hj
    have h5 : 2 ^ 31 = 2147483648 := by decide
    rw [h5] at this
    generalize 2 ^ j = K at *
    omega
theorem RSt.done {n r B : Int} (h : RSt n r 0 B) : RRoot n r := by
  obtain ⟨h0, h1, h2, h3, h4, h5⟩ := h
  rcases h5 with ⟨-, e⟩ | ⟨j, hj, e, -⟩
  · subst e; exact ⟨h0, h3, h4⟩
  · have := Nat.pow_pos (n := j) (show 0 < 2 by omega); omega
theorem RSt.next {n r b B : Int} (h : RSt n r b B) (hb : 0 < b) : (r + b) * (r + b) ≤ n → RSt n (r + b) (b / 2) b := by
  intro hs
  obtain ⟨h0, h1, h2, h3, h4, h5⟩ := h
  rcases h5 with ⟨e, -⟩ | ⟨j, hj, e, eB⟩
  · omega
  · subst eB
    refine ⟨by omega, by omega, by omega, hs, by rw [show r + b + b = r + 2 * b by omega]; exact h4, ?_⟩
    cases j with
    | zero => left; simp at e; omega
    | succ j => right; refine ⟨j, by omega, ?_, ?_⟩ <;> (rw [Nat.pow_succ] at e; omega)
theorem RSt.skip {n r b B : Int} (h : RSt n r b B) (hb : 0 < b) : ¬ (r + b) * (r + b) ≤ n → RSt n r (b / 2) b := by
  intro hs
  obtain ⟨h0, h1, h2, h3, h4, h5⟩ := h
  rcases h5 with ⟨e, -⟩ | ⟨j, hj, e, eB⟩
  · omega
  · subst eB
    refine ⟨by omega, by omega, by omega, h3, by omega, ?_⟩
    cases j with
    | zero => left; simp at e; omega
    | succ j => right; refine ⟨j, by omega, ?_, ?_⟩ <;> (rw [Nat.pow_succ] at e; omega)
/-- The test by division is the test by the square. -/
theorem quo_sq {n s : Int} (hs : 0 < s) : s ≤ n / s ↔ s * s ≤ n := by
  rw [Int.le_ediv_iff_mul_le hs]

set_option maxHeartbeats 1000000 in
theorem risqrt_any (n : Int) (w : World) (h0 : 0 ≤ n) (h1 : n ≤ 9223372036854775807) :
    Calls Try.prog 37 #[.int .i64 n] w fun e w' => ∃ r, RRoot n r ∧ e = .returned (.int .i64 r) ∧ w = w' := by
  have hSt := hid (RSt.start h0 h1)
  go_enter Try.func37, Try.ntmps37
  go_wp2_with fail
  go_loop [3, 4] (fun vr vb => ∃ r b : Int, vr = .int .i64 r ∧ vb = .int .i64 b ∧ 0 ≤ r ∧ r ≤ 4294967295 ∧ 0 ≤ b ∧ b ≤ 2147483648 ∧ Hid (∃ B, RSt n r b B)) (fun _ vb => (RowKit.intOf vb).toNat)
  case atStart => exact ⟨_, _, rfl, rfl, by omega, by omega, by omega, by omega, hid ⟨_, hSt.out⟩⟩
  case round =>
    obtain ⟨r, b, rfl, rfl, r0, r1, b0, b1, hA⟩ := hrel
    by_cases hb : b = 0
    · subst hb
      go_wp2_with fail
      go_ret
      exact ⟨r, hA.out.elim fun B h => h.done, rfl, rfl⟩
    · have hb' : 0 < b := by omega
      have hp : 0 < r + b := by omega
      have q0 : 0 ≤ n / (r + b) := Int.ediv_nonneg h0 (by omega)
      have q1 : n / (r + b) ≤ n := Int.ediv_le_self _ h0
      have hs0 : 0 < (r + b) * (r + b) := Int.mul_pos hp hp
      by_cases hq : (r + b) * (r + b) ≤ n
      · have hn : 0 < n := by omega
        have hl : r + b ≤ n / (r + b) := (quo_sq hp).2 hq
        have HN := hid (hA.out.elim fun B h => h.next hb' hq)
        clear hs0 hq
        have hr2 := hid HN.out.bd
        go_wp2_with fail
        go_round
        case rel => exact ⟨_, _, rfl, rfl, by omega, by have := hr2.out; omega, by omega, by omega, hid ⟨_, HN.out⟩⟩
        case measure => simp [RowKit.intOf]; omega
      · have hl : ¬ r + b ≤ n / (r + b) := fun h => hq ((quo_sq hp).1 h)
        have HN := hid (hA.out.elim fun B h => h.skip hb' hq)
        clear hs0 hq
        by_cases hn : 0 < n
        · go_wp2_with fail
          go_round
          case rel => exact ⟨_, _, rfl, rfl, by omega, by omega, by omega, by omega, hid ⟨_, HN.out⟩⟩
          case measure => simp [RowKit.intOf]; omega
        · go_wp2_with fail
          go_round
          case rel => exact ⟨_, _, rfl, rfl, by omega, by omega, by omega, by omega, hid ⟨_, HN.out⟩⟩
          case measure => simp [RowKit.intOf]; omega

end Go.Proofs.Ytaamfbfafcocoaa
