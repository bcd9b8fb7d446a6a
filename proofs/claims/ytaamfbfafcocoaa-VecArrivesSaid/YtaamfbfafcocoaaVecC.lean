/-
  What Valid, Dot, Len2, Len of vec and its inner functions distance2 and rootUp answer.
-/
import Derived.Test.YtaamfbfafcocoaaProg
import Derived.WalkKit
import Derived.IntWalk
import Derived.WalkSpells
import Derived.WalkLawsBesides
import Derived.Deep.QuietTactic
import Derived.BigQuiet
import Derived.Lib.Hide
import Derived.Lib.Walk
import Derived.StillTailTactics
import Derived.Deep.RegionHeld3
import Derived.Deep.RegionWith
import Derived.Deep.Cut
import Derived.Test.YtaamfbfafcocoaaVecA
import Derived.Test.YtaamfbfafcocoaaRefVecE
import Derived.Test.YtaamfbfafcocoaaNumSqrt
namespace Go.Proofs.Ytaamfbfafcocoaa
open Go.RowKit Go.Lib

set_option maxHeartbeats 1000000 in
theorem vvalid_tt (x y : Int) (w : World) (h : Hid (x = near x ∧ y = near y)) :
    Calls Try.prog 15 #[.agg #[.int .i64 x, .int .i64 y]] w fun e w' => e = .returned (.bool true) ∧ Below w.heap.size w w' := by
  go_enter Try.func15, Try.ntmps15
  go_wp2_with fail
  have hS := hv_start (Box.new w (.int .i64 x) (.int .i64 y) 23) ((Below.refl w.heap.size w).alloc (Nat.le_refl _) _)
  go_region_held3 (fun w' => w'.cell? ⟨w.heap.size, 0, none⟩ = some (.int .i64 x) ∧ w'.cell? ⟨w.heap.size, 1, none⟩ = some (.int .i64 y) ∧ Box w' w.heap.size (.int .i64 x) (.int .i64 y) 23 ∧ Below w.heap.size w w') (first | exact hS | exact hv_call (by assumption) (by assumption) | assumption)
    (first | (go_at_call 35; with_reducible refine (vnearest_n _ _ _ _ _ h).mono ?_; rintro e w' ⟨rfl, hb⟩))
  rename_i hH
  obtain ⟨-, -, -, hH⟩ := hH
  go_wp2
  exact bodyPost_ret (v := .bool true) (by simp [results, Try.results15, go_sem]) rfl ⟨rfl, hH⟩
set_option maxHeartbeats 1000000 in
theorem vvalid_f (x y p q : Int) (w : World) (h : Hid (p = near x ∧ q = near y)) (n : ¬ x = p) :
    Calls Try.prog 15 #[.agg #[.int .i64 x, .int .i64 y]] w fun e w' => e = .returned (.bool false) ∧ Below w.heap.size w w' := by
  go_enter Try.func15, Try.ntmps15
  go_wp2_with fail
  have hS := hv_start (Box.new w (.int .i64 x) (.int .i64 y) 23) ((Below.refl w.heap.size w).alloc (Nat.le_refl _) _)
  have n' : decide (x = p) = false := by simp [n]
  have n2 : (x == p) = false := by simp [n]
  go_region_held3 (fun w' => w'.cell? ⟨w.heap.size, 0, none⟩ = some (.int .i64 x) ∧ w'.cell? ⟨w.heap.size, 1, none⟩ = some (.int .i64 y) ∧ Box w' w.heap.size (.int .i64 x) (.int .i64 y) 23 ∧ Below w.heap.size w w') (first | exact hS | exact hv_call (by assumption) (by assumption) | assumption)
    (first | (go_at_call 35; with_reducible refine (vnearest_n _ _ _ _ _ h).mono ?_; rintro e w' ⟨rfl, hb⟩))
  rename_i hH
  obtain ⟨-, -, -, hH⟩ := hH
  go_wp2
  exact bodyPost_ret (v := .bool false) (by simp [results, Try.results15, go_sem]) rfl ⟨rfl, hH⟩
set_option maxHeartbeats 1000000 in
theorem vvalid_tf (x y q : Int) (w : World) (h : Hid (x = near x ∧ q = near y)) (n : ¬ y = q) :
    Calls Try.prog 15 #[.agg #[.int .i64 x, .int .i64 y]] w fun e w' => e = .returned (.bool false) ∧ Below w.heap.size w w' := by
  go_enter Try.func15, Try.ntmps15
  go_wp2_with fail
  have hS := hv_start (Box.new w (.int .i64 x) (.int .i64 y) 23) ((Below.refl w.heap.size w).alloc (Nat.le_refl _) _)
  have n' : decide (y = q) = false := by simp [n]
  have n2 : (y == q) = false := by simp [n]
  go_region_held3 (fun w' => w'.cell? ⟨w.heap.size, 0, none⟩ = some (.int .i64 x) ∧ w'.cell? ⟨w.heap.size, 1, none⟩ = some (.int .i64 y) ∧ Box w' w.heap.size (.int .i64 x) (.int .i64 y) 23 ∧ Below w.heap.size w w') (first | exact hS | exact hv_call (by assumption) (by assumption) | assumption)
    (first | (go_at_call 35; with_reducible refine (vnearest_n _ _ _ _ _ h).mono ?_; rintro e w' ⟨rfl, hb⟩))
  rename_i hH
  obtain ⟨-, -, -, hH⟩ := hH
  go_wp2
  exact bodyPost_ret (v := .bool false) (by simp [results, Try.results15, go_sem]) rfl ⟨rfl, hH⟩
theorem vvalid_any (x y : Int) (w : World) :
    Calls Try.prog 15 #[.agg #[.int .i64 x, .int .i64 y]] w fun e w' => e = .returned (.bool (vld x y)) ∧ Below w.heap.size w w' := by
  by_cases hx : x = near x
  · by_cases hy : y = near y
    · have : vld x y = true := by unfold vld; rw [decide_eq_true hx, decide_eq_true hy]; rfl
      rw [this]; exact vvalid_tt x y w (hid ⟨hx, hy⟩)
    · have : vld x y = false := by unfold vld; rw [decide_eq_false hy, Bool.and_false]
      rw [this]; exact vvalid_tf x y _ w (hid ⟨hx, rfl⟩) hy
  · have : vld x y = false := by unfold vld; rw [decide_eq_false hx, Bool.false_and]
    rw [this]; exact vvalid_f x y _ _ w (hid ⟨rfl, rfl⟩) hx
/-- Blocks b and c are boxes, and what was there before is as it was. -/
def Two (w W : World) (b c : Nat) (p q u v : Value) (t : TypeId) : Prop := Box W b p q t ∧ Box W c u v t ∧ Below w.heap.size w W
theorem Two.call {w W w1 : World} {b c : Nat} {p q u v : Value} {t : TypeId} (h : Two w W b c p q u v t) (hb : Below W.heap.size W w1) : Two w w1 b c p q u v t :=
  ⟨h.1.below hb, h.2.1.below hb, below_call h.2.2 hb⟩
theorem Two.cells {w W : World} {b c : Nat} {p q u v : Value} {t : TypeId} (h : Two w W b c p q u v t) :
    W.cell? ⟨b, 0, none⟩ = some p ∧ W.cell? ⟨b, 1, none⟩ = some q ∧ W.cell? ⟨c, 0, none⟩ = some u ∧ W.cell? ⟨c, 1, none⟩ = some v ∧ W.frozen? ⟨b, 0, none⟩ = false ∧ W.frozen? ⟨b, 1, none⟩ = false ∧ W.frozen? ⟨c, 0, none⟩ = false ∧ W.frozen? ⟨c, 1, none⟩ = false :=
  ⟨h.1.cells.1, h.1.cells.2.1, h.2.1.cells.1, h.2.1.cells.2.1, h.1.cells.2.2.1, h.1.cells.2.2.2, h.2.1.cells.2.2.1, h.2.1.cells.2.2.2⟩
theorem Two.stored {w W : World} {b c : Nat} {p q u v p' q' u' v' : Value} {t : TypeId} (h : Two w W b c p q u v t) (n : b ≠ c) (hb : w.heap.size ≤ b) (hc : w.heap.size ≤ c) :
    Two w ((((W.setCell ⟨b, 0, none⟩ p').setCell ⟨b, 1, none⟩ q').setCell ⟨c, 0, none⟩ u').setCell ⟨c, 1, none⟩ v') b c p' q' u' v' t :=
  ⟨((((h.1.set0 p').set1 q').other ⟨c, 0, none⟩ u' n).other ⟨c, 1, none⟩ v' n),
   ((((h.2.1.other ⟨b, 0, none⟩ p' (Ne.symm n)).other ⟨b, 1, none⟩ q' (Ne.symm n)).set0 u').set1 v'),
   ((((h.2.2.setCell (p := ⟨b, 0, none⟩) hb p').setCell (p := ⟨b, 1, none⟩) hb q').setCell (p := ⟨c, 0, none⟩) hc u').setCell (p := ⟨c, 1, none⟩) hc v')⟩
theorem Two.turned {w W : World} {b c : Nat} {p q u v : Value} {t : TypeId} (h : Two w W b c p q u v t) : Two w W c b u v p q t := ⟨h.2.1, h.1, h.2.2⟩
theorem Two.stored2 {w W : World} {b c : Nat} {p q u v p' q' u' v' : Value} {t : TypeId} (h : Two w W b c p q u v t) (n : b ≠ c) (hb : w.heap.size ≤ b) (hc : w.heap.size ≤ c) :
    Two w ((((W.setCell ⟨c, 0, none⟩ u').setCell ⟨c, 1, none⟩ v').setCell ⟨b, 0, none⟩ p').setCell ⟨b, 1, none⟩ q') b c p' q' u' v' t :=
  (h.turned.stored (Ne.symm n) hc hb).turned

set_option maxHeartbeats 4000000 in
theorem vdot_any (x y u v : Int) (w : World) :
    Calls Try.prog 18 #[.agg #[.int .i64 x, .int .i64 y], .agg #[.int .i64 u, .int .i64 v]] w fun e w' => e = .returned (.int .i64 (near x * near u + near y * near v)) ∧ Below w.heap.size w w' := by
  have n12 : w.heap.size ≠ w.heap.size + 1 := by omega
  have g1 : w.heap.size ≤ w.heap.size := Nat.le_refl _
  have g2 : w.heap.size ≤ w.heap.size + 1 := by omega
  go_enter Try.func18, Try.ntmps18
  go_upto_region 1 with fail
  have B1 := (Box.new w (.int .i64 x) (.int .i64 y) 23).alloc (.cells #[.int .i64 u, .int .i64 v] 23)
  have B2 := Box.new (w.alloc (.cells #[.int .i64 x, .int .i64 y] 23)) (.int .i64 u) (.int .i64 v) 23
  rw [World.size_alloc] at B2
  have hL := ((Below.refl w.heap.size w).alloc (Nat.le_refl _) (.cells #[.int .i64 x, .int .i64 y] 23)).alloc (by simp) (.cells #[.int .i64 u, .int .i64 v] 23)
  generalize (w.alloc (.cells #[.int .i64 x, .int .i64 y] 23)).alloc (.cells #[.int .i64 u, .int .i64 v] 23) = W at *
  have hT : Two w W.drew w.heap.size (w.heap.size + 1) (.int .i64 x) (.int .i64 y) (.int .i64 u) (.int .i64 v) 23 := ⟨B1.drew, B2.drew, hL.drew⟩
  clear B1 B2 hL
  go_cut [] from 5 (fun wx => Two w wx w.heap.size (w.heap.size + 1) (.int .i64 (near x)) (.int .i64 (near y)) (.int .i64 (near u)) (.int .i64 (near v)) 23)
  case first =>
    obtain ⟨_, _, _, _, _, _, _, _⟩ := hT.cells
    go_region_with (first
      | (go_at_call 35; with_reducible refine (vnearest_any _ _ _).mono ?_; rintro e w' ⟨rfl, hb⟩; have hx := Two.call (by assumption) hb; clear hb; obtain ⟨_, _, _, _, _, _, _, _⟩ := hx.cells))
    all_goals
      go_wp2_with fail
      go_meet
      case rel => first | exact Two.stored (by assumption) n12 g1 g2 | exact Two.stored2 (by assumption) n12 g1 g2
  case rest =>
  clear hT
  obtain ⟨D1, D2, hL⟩ := hcut
  obtain ⟨c11, c12, f11, f12⟩ := D1.cells
  obtain ⟨c21, c22, f21, f22⟩ := D2.cells
  have bx := near_bd x; have by' := near_bd y; have bu := near_bd u; have bv := near_bd v
  have m1 := near_mul x u; have m2 := near_mul y v
  go_wp2_with fail
  trace_state
  refine bodyPost_ret (v := .int .i64 (near x * near u + near y * near v)) (by simp [results, Try.results18, go_sem]) rfl ⟨rfl, hL⟩
set_option maxHeartbeats 1000000 in
theorem vlen2_any (x y : Int) (w : World) :
    Calls Try.prog 20 #[.agg #[.int .i64 x, .int .i64 y]] w fun e w' => e = .returned (.int .i64 (near x * near x + near y * near y)) ∧ Below w.heap.size w w' := by
  go_enter Try.func20, Try.ntmps20
  go_wp2_with fail
  ((with_reducible refine (vdot_any x y x y _).mono ?_); rintro e w1 ⟨rfl, hb1⟩)
  go_wp2_with fail
  exact bodyPost_ret (v := .int .i64 (near x * near x + near y * near y)) (by simp [results, Try.results20, go_sem]) rfl ⟨rfl, below_call ((Below.refl w.heap.size w).alloc (Nat.le_refl _) _) hb1⟩

end Go.Proofs.Ytaamfbfafcocoaa
