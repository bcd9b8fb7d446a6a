/-
  What num.Isqrt answers for all ints: 0 for negative ones, otherwise the greatest number whose square is not greater.
-/
import Derived.Test.YtaamfbfafcocoaaShelf
import Derived.Test.YtaamfbfafcocoaaKit
namespace Go.Proofs.Ytaamfbfafcocoaa
open Go.RowKit Go.Lib

theorem bitLenAux_lt : ∀ (f x : Nat), x < 2 ^ f → x < 2 ^ (Lib.bitLenAux f x) := by
  intro f
  induction f with
  | zero => intro x h; simpa [Lib.bitLenAux] using h
  | succ f ih =>
    intro x h
    unfold Lib.bitLenAux
    by_cases h0 : x = 0
    · subst h0; simp
    · have := ih (x / 2) (by rw [Nat.pow_succ] at h; omega)
      simp only [h0, if_false]
      rw [Nat.add_comm, Nat.pow_succ]
      omega
theorem bitLenAux_le : ∀ (f x : Nat), Lib.bitLenAux f x ≤ f := by
  intro f
  induction f with
  | zero => intro x; simp [Lib.bitLenAux]
  | succ f ih =>
    intro x
    unfold Lib.bitLenAux
    have := ih (x / 2)
    split <;> omega

/-- r is the root of n, rounded down. -/
def RootOf (n r : Int) : Prop := 0 ≤ r ∧ r * r ≤ n ∧ n < (r + 1) * (r + 1)

/-- The state of Newton's method: r is not below the root. -/
def Above (n r : Int) : Prop := n < (r + 1) * (r + 1)

theorem sq_mono {a b : Int} (h0 : 0 ≤ a) (h : a ≤ b) : a * a ≤ b * b := Int.mul_le_mul h h h0 (by omega)

theorem above_start {n : Int} {k L : Nat} (hn : n < ((2 ^ L : Nat) : Int)) (hk : L ≤ 2 * k) : Above n ((2 ^ k : Nat) : Int) := by
  have h1 : 2 ^ L ≤ 2 ^ (k + k) := Nat.pow_le_pow_right (by omega) (by omega)
  rw [Nat.pow_add] at h1
  have h0 : 0 < 2 ^ k := Nat.pow_pos (by omega)
  have h2 : ((2 ^ k * 2 ^ k : Nat) : Int) = ((2 ^ k : Nat) : Int) * ((2 ^ k : Nat) : Int) := Int.natCast_mul _ _
  generalize 2 ^ k = K at *
  have := sq_mono (show 0 ≤ (K : Int) by omega) (show (K : Int) ≤ K + 1 by omega)
  have h3 := sq_mono (show 0 ≤ (K : Int) + 1 by omega) (show (K : Int) + 1 ≤ K + 1 by omega)
  unfold Above
  have e : ((K : Int) + 1) * (K + 1) = K * K + (2 * K + 1) := by rw [Int.mul_add, Int.add_mul]; omega
  omega

theorem above_step {n r : Int} (hr : 1 ≤ r) (hn : 0 ≤ n) : Above n ((r + n / r) / 2) := by
  unfold Above
  have hq : n < (n / r + 1) * r := by
    have := Int.lt_ediv_add_one_mul_self n (show 0 < r by omega)
    exact this
  have hq0 : 0 ≤ n / r := Int.ediv_nonneg hn (by omega)
  generalize n / r = q at *
  generalize hs : (r + q) / 2 = s
  have h1 : r + q ≤ 2 * s + 1 := by omega
  have h2 := sq_mono (show 0 ≤ r + (q + 1) by omega) (show r + (q + 1) ≤ 2 * (s + 1) by omega)
  have h3 : 0 ≤ (r - (q + 1)) * (r - (q + 1)) := by
    rcases Int.le_total 0 (r - (q + 1)) with h | h
    · exact Int.mul_nonneg h h
    · exact Int.mul_nonneg_of_nonpos_of_nonpos h h
  have e1 : (r + (q + 1)) * (r + (q + 1)) = (r - (q + 1)) * (r - (q + 1)) + 4 * ((q + 1) * r) := by
    generalize q + 1 = u
    simp only [Int.mul_add, Int.add_mul, Int.mul_sub, Int.sub_mul, Int.mul_comm r u]
    omega
  have e2 : 2 * (s + 1) * (2 * (s + 1)) = 4 * ((s + 1) * (s + 1)) := by
    rw [Int.mul_assoc, Int.mul_left_comm (s + 1) 2 (s + 1)]; omega
  rw [e1, e2] at h2
  omega

theorem root_done {n r : Int} (hr : 1 ≤ r) (ha : Above n r) (hs : r ≤ (r + n / r) / 2) : RootOf n r := by
  refine ⟨by omega, ?_, ha⟩
  have h1 : r ≤ n / r := by omega
  have h2 := Int.mul_le_mul_of_nonneg_right h1 (show 0 ≤ r by omega)
  have h3 := Int.ediv_mul_le n (show r ≠ 0 by omega)
  omega

theorem quo_bound {n r : Int} (hn : 1 ≤ n) (hr : 1 ≤ r) (ha : Above n r) : 0 ≤ n / r ∧ n / r ≤ r + 2 := by
  refine ⟨Int.ediv_nonneg (by omega) (by omega), ?_⟩
  unfold Above at ha
  have h := Int.ediv_mul_le n (show r ≠ 0 by omega)
  by_cases hc : n / r ≤ r + 2
  · exact hc
  · exfalso
    have h2 := Int.mul_le_mul_of_nonneg_right (show r + 3 ≤ n / r by omega) (show 0 ≤ r by omega)
    have e1 : (r + 3) * r = r * r + 3 * r := by rw [Int.add_mul]
    have e2 : (r + 1) * (r + 1) = r * r + (2 * r + 1) := by rw [Int.mul_add, Int.add_mul]; omega
    omega

theorem next_pos {n r : Int} (hr : 1 ≤ r) (hn : 1 ≤ n) : 1 ≤ (r + n / r) / 2 := by
  have hq0 : 0 ≤ n / r := Int.ediv_nonneg (by omega) (by omega)
  by_cases h : r = 1
  · subst h; rw [Int.ediv_one] at *; omega
  · omega

theorem bits_start {n : Int} (h0 : 1 ≤ n) (h1 : n ≤ 9223372036854775807) : ∃ L : Nat, L = Lib.bitLen n.toNat ∧ L ≤ 64 ∧ n < ((2 ^ L : Nat) : Int) := by
  refine ⟨_, rfl, bitLenAux_le 64 _, ?_⟩
  have h : n.toNat < 2 ^ Lib.bitLen n.toNat := bitLenAux_lt 64 n.toNat (by omega)
  omega

def IsRoot (n : Int) (w : World) (e : Ending) (w' : World) : Prop := ∃ r : Int, RootOf n r ∧ e = .returned (.int .i64 r) ∧ w = w'

set_option maxHeartbeats 400000 in
theorem isqrt_low (n : Int) (w : World) (h : n ≤ 0) :
    Calls Try.prog 36 #[.int .i64 n] w fun e w' => e = .returned (.int .i64 0) ∧ w = w' := by
  go_enter Try.func36, Try.ntmps36
  go_wp2
  go_ret
  exact ⟨rfl, rfl⟩

set_option maxHeartbeats 400000 in
theorem isqrt_walk (n : Int) (w : World) (h0 : 1 ≤ n) (h1 : n ≤ 9223372036854775807) (L : Nat) (hL : L ≤ 64) (hK : Hid (1 ≤ wrap64 (2 ^ ((L + 1) / 2)) ∧ wrap64 (2 ^ ((L + 1) / 2)) ≤ 4294967296 ∧ Above n (wrap64 (2 ^ ((L + 1) / 2)))))
    (hb : Calls Try.prog 41 #[.int .u64 n] w fun e w' => e = .returned (.int .i64 L) ∧ w = w') :
    Calls Try.prog 36 #[.int .i64 n] w (IsRoot n w) := by
  go_enter Try.func36, Try.ntmps36
  go_wp2_with fail
  ((with_reducible refine hb.mono ?_); rintro e w' ⟨rfl, rfl⟩)
  go_wp2_with fail
  go_loop [3] (fun v => ∃ k : Int, v = .int .i64 k ∧ 1 ≤ k ∧ k ≤ 4294967296 ∧ Hid (Above n k)) (fun v => (RowKit.intOf v).toNat)
  case atStart => exact ⟨_, rfl, hK.out.1, hK.out.2.1, Lib.hid hK.out.2.2⟩
  case round =>
    obtain ⟨k, rfl, k0, k1, hA⟩ := hrel
    obtain ⟨q0, q1⟩ := quo_bound h0 k0 hA.out
    have HS := Lib.hid (above_step k0 (by omega) (n := n))
    have HD := Lib.hid (root_done k0 hA.out)
    have HP := Lib.hid (next_pos k0 h0)
    clear hK
    go_wp2_with fail
    · have hge : k ≤ (k + n / k) / 2 := by assumption
      go_ret
      exact ⟨k, HD.out hge, rfl, rfl⟩
    · have hlt : (k + n / k) / 2 < k := by assumption
      go_round
      case rel => exact ⟨_, rfl, HP.out, by omega, HS⟩
      case measure => simp [RowKit.intOf]; omega

/-- num.Isqrt of a number that is not below one. -/
theorem isqrt_any (n : Int) (w : World) (h0 : 1 ≤ n) (h1 : n ≤ 9223372036854775807) :
    Calls Try.prog 36 #[.int .i64 n] w (IsRoot n w) := by
  obtain ⟨L, eL, hL, hn⟩ := bits_start h0 h1
  refine isqrt_walk n w h0 h1 L hL (Lib.hid ?_) ((Try.bits_Len64 n w (by omega) (by omega)).mono fun e w' ⟨he, hw⟩ => ⟨by rw [he, eL], hw.symm⟩)
  have hk : (L + 1) / 2 ≤ 32 := by omega
  have h2 : 2 ^ ((L + 1) / 2) ≤ 2 ^ 32 := Nat.pow_le_pow_right (by omega) hk
  have h3 : 0 < 2 ^ ((L + 1) / 2) := Nat.pow_pos (by omega)
  have hA := above_start (k := (L + 1) / 2) hn (by omega)
  have e0 : ((2 ^ ((L + 1) / 2) : Nat) : Int) = 2 ^ ((L + 1) / 2) := by simp
  have h5 : 2 ^ 32 = 4294967296 := by decide
  rw [h5] at h2
  rw [← e0]
  generalize 2 ^ ((L + 1) / 2) = K at *
  have e : wrap64 (K : Int) = K := IntWalk.wrap64_in _ ⟨by omega, by omega⟩
  rw [e]
  exact ⟨by omega, by omega, hA⟩

end Go.Proofs.Ytaamfbfafcocoaa
