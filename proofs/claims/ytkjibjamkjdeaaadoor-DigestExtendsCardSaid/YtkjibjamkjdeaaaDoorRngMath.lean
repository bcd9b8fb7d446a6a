/-
  The numbers of layer 3: a step of the generator, its value, the first accepted value, the hash, the permutation. No program is named here.
-/
import Derived.WalkKit
import Derived.IntWalk
import Derived.WalkSpells
import Derived.Lib.Hide
import Derived.Laws.BitsAllLaws
namespace Go.Proofs.YtkjibjamkjdeaaaDoor
open Go.RowKit Go.Lib

/-- The state behind a step, and the value of a state. -/
def stepv (s : Int) : Int := IntKind.u64.wrap (s + 11400714819323198485)
def mixA (t : Int) : Int := IntKind.u64.wrap (bits .xor .u64 t (t / 1073741824) * 13787848793156543929)
def mixB (z : Int) : Int := IntKind.u64.wrap (bits .xor .u64 z (z / 134217728) * 10723151780598845931)
def mixv (t : Int) : Int := bits .xor .u64 (mixB (mixA t)) (mixB (mixA t) / 2147483648)

def U64 (a : Int) : Prop := 0 ≤ a ∧ a < 18446744073709551616
theorem wrap_u (a : Int) : U64 (IntKind.u64.wrap a) := by unfold U64; rw [IntKind.wrap_u64]; omega
theorem xor_u {a b : Int} (ha : U64 a) (hb : U64 b) : U64 (bits .xor .u64 a b) := by
  obtain ⟨a0, a1⟩ := ha
  obtain ⟨b0, b1⟩ := hb
  rw [u64_xor a b a0 a1 b0 b1]
  have h := Nat.xor_lt_two_pow (n := 64) (x := a.toNat) (y := b.toNat) (by omega) (by omega)
  unfold U64
  omega
theorem step_u (s : Int) : U64 (stepv s) := wrap_u _
theorem div_u {a : Int} (ha : U64 a) (k : Nat) : U64 (a / k) := by
  obtain ⟨a0, a1⟩ := ha
  have h := Int.ediv_nonneg a0 (show (0 : Int) ≤ k by omega)
  have h2 := Int.ediv_le_self (k : Int) a0
  exact ⟨h, by omega⟩
theorem mix_u (t : Int) : U64 (mixv t) := by
  unfold mixv
  exact xor_u (wrap_u _) (div_u (wrap_u _) 2147483648)
theorem mix_zero : mixv 0 = 0 := by decide

/-- How many steps lead from a state to the state 0. -/
def dist (s : Int) : Int := (-s * 17428512612931826493) % 18446744073709551616
theorem dist_zero_gen (s k g M m : Int) (h : k * g = 1 + M * m) (d : (-s * k) % M = 0) : s % M = 0 := by
  obtain ⟨q, hq⟩ := Int.dvd_of_emod_eq_zero d
  apply Int.emod_eq_zero_of_dvd
  refine ⟨-(q * g) - s * m, ?_⟩
  have e1 : s * k = -(M * q) := by rw [← hq, Int.neg_mul, Int.neg_neg]
  have e2 : s * (k * g) = -(M * (q * g)) := by rw [← Int.mul_assoc, e1, Int.neg_mul, Int.mul_assoc]
  rw [h, Int.mul_add, Int.mul_one] at e2
  rw [Int.mul_sub, Int.mul_neg]
  have e3 : s * (M * m) = M * (s * m) := Int.mul_left_comm s M m
  omega
theorem dist_zero {s : Int} (h : U64 s) (d : dist s = 0) : s = 0 := by
  have := dist_zero_gen s 17428512612931826493 11400714819323198485 18446744073709551616 10771413168148108919 (by decide) d
  obtain ⟨h0, h1⟩ := h
  omega
theorem dist_bd (s : Int) : 0 ≤ dist s ∧ dist s < 18446744073709551616 := by unfold dist; omega
theorem dist_step_gen (s k g M m : Int) (h : k * g = 1 + M * m) : (-((s + g) % M) * k) % M = (-s * k - 1) % M := by
  have e : (s + g) % M = s + g - M * ((s + g) / M) := Int.emod_def _ _
  generalize (s + g) / M = c at e
  rw [e]
  have e2 : -(s + g - M * c) * k = (-s * k - 1) + M * (c * k - m) := by
    have a1 : -(s + g - M * c) = -s + (-g + M * c) := by omega
    rw [a1, Int.add_mul, Int.add_mul, Int.neg_mul, Int.neg_mul, Int.mul_comm g k, h, Int.mul_sub, Int.mul_assoc]
    omega
  rw [e2, Int.add_mul_emod_self_left]
theorem dist_step {s : Int} (d : dist s ≠ 0) : dist (stepv s) = dist s - 1 := by
  unfold dist stepv at *
  rw [IntKind.wrap_u64, dist_step_gen s 17428512612931826493 11400714819323198485 18446744073709551616 10771413168148108919 (by decide)]
  generalize -s * 17428512612931826493 = X at *
  omega

/-- Is a value accepted? -/
def accv (v n : Int) : Bool := decide (v < 18446744073709551616 - 18446744073709551616 % n)
theorem acc_zero {n : Int} (h0 : 1 ≤ n) (h1 : n ≤ 9223372036854775807) : accv 0 n = true := by
  unfold accv
  have := Int.emod_lt_of_pos 18446744073709551616 (show 0 < n by omega)
  exact decide_eq_true (by omega)

def belowF : Nat → Int → Int → Int × Int
  | 0, s, n => (mixv (stepv s) % n, stepv s)
  | f + 1, s, n => if accv (mixv (stepv s)) n then (mixv (stepv s) % n, stepv s) else belowF f (stepv s) n
/-- The remainder of the first accepted value, and the state behind it. -/
def belowv (s n : Int) : Int × Int := belowF (dist (stepv s)).toNat s n
theorem below_acc {s n : Int} (h : accv (mixv (stepv s)) n = true) : belowv s n = (mixv (stepv s) % n, stepv s) := by
  unfold belowv
  cases (dist (stepv s)).toNat with
  | zero => rfl
  | succ f => unfold belowF; rw [if_pos h]
theorem below_rej {s n : Int} (h0 : 1 ≤ n) (h1 : n ≤ 9223372036854775807) (h : accv (mixv (stepv s)) n = false) : dist (stepv s) ≠ 0 ∧ belowv s n = belowv (stepv s) n := by
  have d : dist (stepv s) ≠ 0 := fun d => by
    rw [dist_zero (step_u s) d, mix_zero, acc_zero h0 h1] at h
    cases h
  refine ⟨d, ?_⟩
  have e := dist_step d
  have b := dist_bd (stepv s)
  unfold belowv
  obtain ⟨f, hf⟩ : ∃ f, (dist (stepv s)).toNat = f + 1 := ⟨(dist (stepv s)).toNat - 1, by omega⟩
  rw [hf, show (dist (stepv (stepv s))).toNat = f by omega]
  show (if accv (mixv (stepv s)) n = true then _ else belowF f (stepv s) n) = _
  rw [if_neg (by rw [h]; decide)]
/-- What is drawn, seen from behind a step. -/
def belowT (t n : Int) : Int × Int := if accv (mixv t) n then (mixv t % n, t) else belowv t n
theorem below_T {s n : Int} (h0 : 1 ≤ n) (h1 : n ≤ 9223372036854775807) : belowv s n = belowT (stepv s) n := by
  unfold belowT
  cases h : accv (mixv (stepv s)) n with
  | true => rw [if_pos rfl, below_acc h]
  | false => rw [if_neg (by decide), (below_rej h0 h1 h).2]
theorem T_acc {t n : Int} (h : accv (mixv t) n = true) : belowT t n = (mixv t % n, t) := by unfold belowT; rw [if_pos h]
theorem T_rej {t n : Int} (ht : U64 t) (h0 : 1 ≤ n) (h1 : n ≤ 9223372036854775807) (h : accv (mixv t) n = false) : dist t ≠ 0 ∧ dist (stepv t) < dist t ∧ belowT t n = belowT (stepv t) n := by
  have d : dist t ≠ 0 := fun d => by
    rw [dist_zero ht d, mix_zero, acc_zero h0 h1] at h
    cases h
  have e := dist_step d
  refine ⟨d, by omega, ?_⟩
  rw [← below_T h0 h1]
  unfold belowT
  rw [if_neg (by rw [h]; decide)]
theorem T_bd (n : Int) (h0 : 1 ≤ n) (h1 : n ≤ 9223372036854775807) : ∀ (k : Nat) (t : Int), U64 t → (dist t).toNat = k → 0 ≤ (belowT t n).1 ∧ (belowT t n).1 < n ∧ U64 (belowT t n).2 := by
  intro k
  induction k with
  | zero =>
    intro t ht hk
    have b := dist_bd t
    have z := dist_zero ht (by omega)
    have ha : accv (mixv t) n = true := by rw [z, mix_zero]; exact acc_zero h0 h1
    rw [T_acc ha]
    exact ⟨Int.emod_nonneg _ (by omega), Int.emod_lt_of_pos _ (by omega), ht⟩
  | succ k ih =>
    intro t ht hk
    cases ha : accv (mixv t) n with
    | true => rw [T_acc ha]; exact ⟨Int.emod_nonneg _ (by omega), Int.emod_lt_of_pos _ (by omega), ht⟩
    | false =>
      obtain ⟨d, _, e⟩ := T_rej ht h0 h1 ha
      rw [e]
      have := dist_step d
      exact ih _ (step_u t) (by omega)
theorem below_bd {s n : Int} (h0 : 1 ≤ n) (h1 : n ≤ 9223372036854775807) : 0 ≤ (belowv s n).1 ∧ (belowv s n).1 < n ∧ U64 (belowv s n).2 := by
  rw [below_T h0 h1]
  exact T_bd n h0 h1 _ _ (step_u s) rfl

/-- The hash of a list of bytes. -/
def hashv (l : List UInt8) : Int := l.foldl (fun h b => IntKind.u64.wrap (bits .xor .u64 h (b.toNat : Int) * 1099511628211)) 14695981039346656037
theorem hash_snoc (l : List UInt8) (b : UInt8) : hashv (l ++ [b]) = IntKind.u64.wrap (bits .xor .u64 (hashv l) (b.toNat : Int) * 1099511628211) := by
  unfold hashv; rw [List.foldl_append]; rfl
theorem hash_u (l : List UInt8) : U64 (hashv l) := by
  rcases List.eq_nil_or_concat l with h | ⟨m, b, h⟩
  · subst h; exact ⟨by decide, by decide⟩
  · subst h; rw [List.concat_eq_append, hash_snoc]; exact wrap_u _

end Go.Proofs.YtkjibjamkjdeaaaDoor
