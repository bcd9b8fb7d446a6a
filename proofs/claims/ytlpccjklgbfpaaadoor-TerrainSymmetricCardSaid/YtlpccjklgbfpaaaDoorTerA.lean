/-
  What the reference of terrain answers: formed maps, what is inside, valid cells.
-/
import Derived.Test.YtlpccjklgbfpaaaDoorGridS
import Derived.Test.YtlpccjklgbfpaaaDoorTerMath
namespace Go.Proofs.YtlpccjklgbfpaaaDoor
open Go.RowKit Go.Lib

/-- A slice of cells that can be read. -/
def RowAt (W : World) (s : Value) (cs : List C3) : Prop :=
  ∃ p c, s = .slice p cs.length c ∧ cs.length ≤ maxLen ∧ (1 ≤ cs.length → ∃ g o, p = some ⟨g, o, none⟩ ∧ ∀ i, (h : i < cs.length) →
    W.cell? ⟨g, o + i * 3, none⟩ = some (.int .i64 (cs[i]'h).k) ∧ W.cell? ⟨g, o + i * 3 + 1, none⟩ = some (.int .i64 (cs[i]'h).h) ∧ W.cell? ⟨g, o + i * 3 + 2, none⟩ = some (.int .i64 (cs[i]'h).a))
theorem RowAt.below {W w' : World} {s : Value} {cs : List C3} (h : RowAt W s cs) (hb : Below W.heap.size W w') : RowAt w' s cs := by
  obtain ⟨p, c, rfl, hm, hc⟩ := h
  refine ⟨p, c, rfl, hm, fun h1 => ?_⟩
  obtain ⟨g, o, rfl, hi⟩ := hc h1
  refine ⟨g, o, rfl, fun i hi' => ?_⟩
  obtain ⟨a, b, d⟩ := hi i hi'
  have k : g < W.heap.size := World.block_lt_of_cell? W _ a
  exact ⟨(hb.cell (p := ⟨g, o + i * 3, none⟩) k).trans a, (hb.cell (p := ⟨g, o + i * 3 + 1, none⟩) k).trans b, (hb.cell (p := ⟨g, o + i * 3 + 2, none⟩) k).trans d⟩
/-- A map, as its value and the memory behind it have it. -/
def mapV (m : M3) (s : Value) : Value := .agg #[.int .i64 m.w, .int .i64 m.h, s]

set_option maxHeartbeats 400000 in
theorem rvalidc_any (k h a : Int) (W : World) :
    Calls Tryd.prog 37 #[.agg #[.int .i64 k, .int .i64 h, .int .i64 a]] W fun e w' => e = .returned (.bool (validc ⟨k, h, a⟩)) ∧ Below W.heap.size W w' := by
  by_cases hc : 1 ≤ k ∧ k ≤ 5 ∧ 0 ≤ h ∧ h ≤ 3 ∧ 0 ≤ a ∧ a ≤ 1000000
  · have hv : validc ⟨k, h, a⟩ = (decide (0 < a) == decide (k = 4 ∨ k = 5)) := by unfold validc; rw [decide_eq_true hc, Bool.true_and]
    rw [hv]
    obtain ⟨k0, k1, h0, h1, a0, a1⟩ := hc
    have z1 : decide (k < 1) = false := decide_eq_false (by omega)
    have z2 : decide (5 < k) = false := decide_eq_false (by omega)
    have z3 : decide (h < 0) = false := decide_eq_false (by omega)
    have z4 : decide (3 < h) = false := decide_eq_false (by omega)
    have z5 : decide (a < 0) = false := decide_eq_false (by omega)
    have z6 : decide (1000000 < a) = false := decide_eq_false (by omega)
    by_cases k4 : k = 4
    · subst k4
      go_enter Tryd.func37, Tryd.ntmps37
      go_wp2_with fail
      go_ret
      exact ⟨ret_bit (by simp), (Below.refl _ _).alloc (Nat.le_refl _) _⟩
    · have y1 : (k == 4) = false := beq_eq_false_iff_ne.2 k4
      go_enter Tryd.func37, Tryd.ntmps37
      go_wp2_with fail
      go_ret
      exact ⟨ret_bit (by simp [k4]; rfl), (Below.refl _ _).alloc (Nat.le_refl _) _⟩
  · have hv : validc ⟨k, h, a⟩ = false := by unfold validc; rw [decide_eq_false hc, Bool.false_and]
    rw [hv]
    go_enter Tryd.func37, Tryd.ntmps37
    go_wp2
    all_goals first
      | (exfalso; omega)
      | (go_ret; exact ⟨rfl, (Below.refl _ _).alloc (Nat.le_refl _) _⟩)

set_option maxHeartbeats 1000000 in
theorem rformed_any (m : M3) (s : Value) (W : World) (hr : RowAt W s m.cs) :
    Calls Tryd.prog 41 #[mapV m s] W fun e w' => e = .returned (.bool (formedv m)) ∧ Below W.heap.size W w' := by
  obtain ⟨w, h, cs⟩ := m
  obtain ⟨p, c, rfl, hm, -⟩ := hr
  unfold maxLen at hm
  show Calls Tryd.prog 41 #[.agg #[.int .i64 w, .int .i64 h, .slice p cs.length c]] W _
  dsimp only at hm
  have hc := rvalid_any w h
  cases hv : validv w h with
  | true =>
    have hf : formedv ⟨w, h, cs⟩ = decide ((cs.length : Int) = w * h) := by unfold formedv; rw [hv, Bool.true_and]
    have hd := hv
    unfold validv at hd
    have hd := of_decide_eq_true hd
    obtain ⟨X, rfl⟩ := Int.eq_ofNat_of_zero_le (show 0 ≤ w by omega)
    obtain ⟨Y, rfl⟩ := Int.eq_ofNat_of_zero_le (show 0 ≤ h by omega)
    have hxy : X * Y ≤ 32 * 32 := Nat.mul_le_mul (by omega) (by omega)
    have e : (X : Int) * Y = ((X * Y : Nat) : Int) := by simp
    have ew : IntKind.i64.wrap ((X : Int) * Y) = (X : Int) * Y := IntWalk.i64_in _ (by rw [e]; omega)
    rw [hv] at hc
    rw [hf]
    clear e
    go_enter Tryd.func41, Tryd.ntmps41
    go_wp2_with fail
    ((with_reducible refine (hc _).mono ?_); rintro e w1 ⟨rfl, hw⟩)
    rw [← hw]
    clear hw
    go_wp2_with fail
    go_ret
    exact ⟨ret_bit (by rfl), (Below.refl _ _).alloc (Nat.le_refl _) _⟩
  | false =>
    have hf : formedv ⟨w, h, cs⟩ = false := by unfold formedv; rw [hv, Bool.false_and]
    rw [hv] at hc
    rw [hf]
    go_enter Tryd.func41, Tryd.ntmps41
    go_wp2_with fail
    ((with_reducible refine (hc _).mono ?_); rintro e w1 ⟨rfl, hw⟩)
    rw [← hw]
    clear hw
    go_wp2_with fail
    go_ret
    exact ⟨rfl, (Below.refl _ _).alloc (Nat.le_refl _) _⟩

theorem rin_b (w h x y : Int) (b : Bool) (W : World) (e : Hid (b = inv w h x y)) : Calls Tryd.prog 55 #[.int .i64 w, .int .i64 h, .agg #[.int .i64 x, .int .i64 y]] W fun e w' => e = .returned (.bool b) ∧ Below W.heap.size W w' := by
  rw [e.out]; exact rin_any w h x y W
set_option maxHeartbeats 1000000 in
theorem rinside_any (m : M3) (s : Value) (x y : Int) (W : World) (hr : RowAt W s m.cs) :
    Calls Tryd.prog 33 #[mapV m s, .agg #[.int .i64 x, .int .i64 y]] W fun e w' => e = .returned (.bool (insidev m x y)) ∧ Below W.heap.size W w' := by
  have hT := Held2.start W [.int .i64 m.w, .int .i64 m.h, s] [.int .i64 x, .int .i64 y] 24 26
  have hF := rformed_any m s _ (hr.below hT.old)
  have hI : insidev m x y = (formedv m && inv m.w m.h x y) := rfl
  rw [hI]
  clear hI
  unfold mapV at hF ⊢
  cases hf : formedv m with
  | true =>
    rw [hf] at hF
    rw [Bool.true_and]
    obtain ⟨b, hb⟩ : ∃ b, Hid (b = inv m.w m.h x y) := ⟨_, hid rfl⟩
    rw [← hb.out]
    go_enter Tryd.func33, Tryd.ntmps33
    go_wp2_with fail
    (refine hF.mono ?_; rintro e w1 ⟨rfl, hb1⟩)
    replace hT := hT.call hb1
    obtain ⟨_, _, _, _, _, _⟩ := hT.l.three
    obtain ⟨_, _, _, _⟩ := hT.r.two
    go_wp2_with fail
    ((with_reducible refine (rin_b m.w m.h x y b _ hb).mono ?_); rintro e w2 ⟨rfl, hb2⟩)
    go_wp2_with fail
    go_ret
    exact ⟨rfl, below_call hT.old hb2⟩
  | false =>
    rw [hf] at hF
    rw [Bool.false_and]
    go_enter Tryd.func33, Tryd.ntmps33
    go_wp2_with fail
    (refine hF.mono ?_; rintro e w1 ⟨rfl, hb1⟩)
    go_wp2_with fail
    go_ret
    exact ⟨rfl, below_call hT.old hb1⟩

end Go.Proofs.YtlpccjklgbfpaaaDoor
