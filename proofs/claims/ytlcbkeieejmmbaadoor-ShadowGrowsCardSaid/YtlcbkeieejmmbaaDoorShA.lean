/-
  shadow as landed at 4bd78af: numbers, displacements, the transformation of an octant's coordinates.
-/
import Derived.Test.YtlcbkeieejmmbaaDoorShOct
import Derived.Test.YtlcbkeieejmmbaaDoorTerLandQ
import Derived.Deep.RegionWith
import Derived.Deep.Cut
namespace Go.Proofs.YtlcbkeieejmmbaaDoor
open Go.RowKit Go.Lib

/-- A number that no product or sum here makes too great. -/
def Sm (n : Int) : Prop := -10000 ≤ n ∧ n ≤ 10000
theorem Sm.mul {a b : Int} (ha : Sm a) (hb : Sm b) : -100000000 ≤ a * b ∧ a * b ≤ 100000000 := by
  obtain ⟨a1, a2⟩ := ha
  obtain ⟨b1, b2⟩ := hb
  have e : (a * b).natAbs = a.natAbs * b.natAbs := Int.natAbs_mul a b
  have h : a.natAbs * b.natAbs ≤ 10000 * 10000 := Nat.mul_le_mul (by omega) (by omega)
  rw [← e] at h
  generalize a * b = c at *
  omega
def sgnv (n : Int) : Int := min (max n (-1)) 1
set_option maxHeartbeats 400000 in
theorem shsize_b (n : Int) (W : World) (h : -1000000000 ≤ n ∧ n ≤ 1000000000) : Calls Tryd.prog 34 #[.int .i64 n] W fun e w' => e = .returned (.int .i64 (absv n)) ∧ W = w' := by
  have e1 : IntKind.i64.wrap (-n) = -n := IntWalk.i64_in _ (by omega)
  go_enter Tryd.func34, Tryd.ntmps34
  go_wp2_with fail
  go_ret
  exact ⟨rfl, rfl⟩
set_option maxHeartbeats 400000 in
theorem shsign_b (n : Int) (W : World) : Calls Tryd.prog 33 #[.int .i64 n] W fun e w' => e = .returned (.int .i64 (sgnv n)) ∧ W = w' := by
  go_enter Tryd.func33, Tryd.ntmps33
  go_wp2_with fail
  go_ret
  exact ⟨rfl, rfl⟩
set_option maxHeartbeats 400000 in
theorem shbtw_b (e n : Int) (W : World) : Calls Tryd.prog 50 #[.int .i64 e, .int .i64 n] W fun r w' => r = .returned (.bool (btwv e n)) ∧ W = w' := by
  cases h1 : decide (min 0 e ≤ n) with
  | false =>
    have hv : btwv e n = false := by unfold btwv; rw [decide_eq_false_iff_not] at h1 ⊢; exact fun h => h1 h.1
    rw [hv]
    clear hv
    go_enter Tryd.func50, Tryd.ntmps50
    go_wp2_with fail
    go_ret
    exact ⟨rfl, rfl⟩
  | true =>
    have hv : btwv e n = decide (n ≤ max 0 e) := by unfold btwv; rw [decide_eq_true_iff] at h1; exact decide_eq_decide.2 ⟨fun h => h.2, fun h => ⟨h1, h⟩⟩
    rw [hv]
    clear hv
    go_enter Tryd.func50, Tryd.ntmps50
    go_wp2_with fail
    go_ret
    exact ⟨rfl, rfl⟩
set_option maxHeartbeats 1000000 in
theorem shminus_b (x y u v : Int) (W : World) (hx : Sm x) (hy : Sm y) (hu : Sm u) (hv : Sm v) :
    Calls Tryd.prog 28 #[.agg #[.int .i64 x, .int .i64 y], .agg #[.int .i64 u, .int .i64 v]] W fun e w' => e = .returned (.agg #[.int .i64 (x - u), .int .i64 (y - v)]) ∧ Below W.heap.size W w' := by
  unfold Sm at hx hy hu hv
  have e1 : IntKind.i64.wrap (x - u) = x - u := IntWalk.i64_in _ (by omega)
  have e2 : IntKind.i64.wrap (y - v) = y - v := IntWalk.i64_in _ (by omega)
  go_enter Tryd.func28, Tryd.ntmps28
  go_wp2_with fail
  refine bodyPost_ret (v := .agg #[.int .i64 (x - u), .int .i64 (y - v)]) (by simp [results, Tryd.results28, go_sem]) rfl ⟨rfl, ?_⟩
  exact (((Below.refl _ _).alloc (Nat.le_refl _) _).alloc (by simp) _).alloc (by simp; omega) _

end Go.Proofs.YtlcbkeieejmmbaaDoor
