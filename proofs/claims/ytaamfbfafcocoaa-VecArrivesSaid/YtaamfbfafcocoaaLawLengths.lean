/-
  What the reference of vec answers. Practice.
-/
import Derived.Test.YtaamfbfafcocoaaProg
import Derived.WalkKit
import Derived.IntWalk
import Derived.WalkSpells
import Derived.WalkLawsBesides
import Derived.Deep.QuietTactic
import Derived.BigQuiet
import Derived.Lib.Hide
import Derived.Lib.Walk
import Derived.StillTailTactics
import Derived.Deep.RegionHeld3
import Derived.Test.YtaamfbfafcocoaaBox
import Derived.Test.YtaamfbfafcocoaaRefVec
import Derived.Test.YtaamfbfafcocoaaRefVecB
import Derived.Test.YtaamfbfafcocoaaRefVecC
import Derived.Test.YtaamfbfafcocoaaRefVecD
import Derived.Test.YtaamfbfafcocoaaRefVecE
import Derived.Test.YtaamfbfafcocoaaLawSums
import Derived.Test.YtaamfbfafcocoaaRefSqrt
namespace Go.Proofs.Ytaamfbfafcocoaa
open Go.RowKit Go.Lib





/-- What Dot, Len2, Len, Side of vec are held to. -/
structure VecLengthsHave : Prop where
  dot : ∀ (x y u v : Int) (w : World), Calls Try.prog 18 #[.agg #[.int .i64 x, .int .i64 y], .agg #[.int .i64 u, .int .i64 v]] w fun e w' => e = .returned (.int .i64 (near x * near u + near y * near v)) ∧ Below w.heap.size w w'
  len2 : ∀ (x y : Int) (w : World), Calls Try.prog 20 #[.agg #[.int .i64 x, .int .i64 y]] w fun e w' => e = .returned (.int .i64 (near x * near x + near y * near y)) ∧ Below w.heap.size w w'
  len : ∀ (x y : Int) (w : World), Calls Try.prog 22 #[.agg #[.int .i64 x, .int .i64 y]] w fun e w' => ∃ r, RRoot (near x * near x + near y * near y) r ∧ e = .returned (.int .i64 r) ∧ Below w.heap.size w w'
  side : ∀ (x y : Int) (w : World), Calls Try.prog 13 #[.agg #[.int .i64 x, .int .i64 y]] w fun e w' => e = .returned (.agg #[.int .i64 (-near y), .int .i64 (near x)]) ∧ Below w.heap.size w w'
  alive : ∀ w : World, Calls Try.prog 17 #[] w fun e w' => e = .returned (.bool true) ∧ Below w.heap.size w w'

theorem VecLengthsHave.len_n (H : VecLengthsHave) (x y r : Int) (w : World) (h : Hid (RRoot (near x * near x + near y * near y) r)) :
    Calls Try.prog 22 #[.agg #[.int .i64 x, .int .i64 y]] w fun e w' => e = .returned (.int .i64 r) ∧ Below w.heap.size w w' := by
  refine (H.len x y w).mono ?_
  rintro e w' ⟨s, hs, rfl, hb⟩
  rw [hs.same h.out]
  exact ⟨rfl, hb⟩
theorem rlen_n (x y r : Int) (w : World) (h : Hid (RRoot (near x * near x + near y * near y) r)) :
    Calls Try.prog 23 #[.agg #[.int .i64 x, .int .i64 y]] w fun e w' => e = .returned (.int .i64 r) ∧ Below w.heap.size w w' := by
  refine (rlen_any x y w).mono ?_
  rintro e w' ⟨s, hs, rfl, hb⟩
  rw [hs.same h.out]
  exact ⟨rfl, hb⟩
theorem VecLengthsHave.dot_n (H : VecLengthsHave) (x y u v d : Int) (w : World) (h : Hid (d = near x * near u + near y * near v)) :
    Calls Try.prog 18 #[.agg #[.int .i64 x, .int .i64 y], .agg #[.int .i64 u, .int .i64 v]] w fun e w' => e = .returned (.int .i64 d) ∧ Below w.heap.size w w' := by rw [h.out]; exact H.dot x y u v w
theorem rdot_n (x y u v d : Int) (w : World) (h : Hid (d = near x * near u + near y * near v)) :
    Calls Try.prog 19 #[.agg #[.int .i64 x, .int .i64 y], .agg #[.int .i64 u, .int .i64 v]] w fun e w' => e = .returned (.int .i64 d) ∧ Below w.heap.size w w' := by rw [h.out]; exact rdot_any x y u v w
theorem VecLengthsHave.len2_n (H : VecLengthsHave) (x y d : Int) (w : World) (h : Hid (d = near x * near x + near y * near y)) :
    Calls Try.prog 20 #[.agg #[.int .i64 x, .int .i64 y]] w fun e w' => e = .returned (.int .i64 d) ∧ Below w.heap.size w w' := by rw [h.out]; exact H.len2 x y w
theorem rlen2_n (x y d : Int) (w : World) (h : Hid (d = near x * near x + near y * near y)) :
    Calls Try.prog 21 #[.agg #[.int .i64 x, .int .i64 y]] w fun e w' => e = .returned (.int .i64 d) ∧ Below w.heap.size w w' := by rw [h.out]; exact rlen2_any x y w
/-- There is a root. -/
theorem root_some (n : Nat) : ∃ r : Nat, r * r ≤ n ∧ n < (r + 1) * (r + 1) := by
  induction n with
  | zero => exact ⟨0, by omega, by omega⟩
  | succ n ih =>
    obtain ⟨r, h1, h2⟩ := ih
    by_cases h : n + 1 < (r + 1) * (r + 1)
    · exact ⟨r, by omega, h⟩
    · refine ⟨r + 1, by omega, ?_⟩
      have e : (r + 1 + 1) * (r + 1 + 1) = (r + 1) * (r + 1) + (2 * (r + 1) + 1) := by
        generalize r + 1 = t; rw [Nat.add_mul, Nat.mul_add]; omega
      omega
theorem rroot_some (n : Int) (h : 0 ≤ n) : ∃ r, RRoot n r := by
  obtain ⟨r, h1, h2⟩ := root_some n.toNat
  refine ⟨r, by omega, ?_, ?_⟩
  · have : ((r * r : Nat) : Int) ≤ n := by omega
    rw [Int.natCast_mul] at this; exact this
  · have : n < (((r + 1) * (r + 1) : Nat) : Int) := by omega
    rw [Int.natCast_mul] at this; simpa using this

set_option maxHeartbeats 2000000 in
theorem law_lengths (H : VecLengthsHave) (x y u v : Int) (w : World) :
    Calls Try.prog 4 #[.agg #[.int .i64 x, .int .i64 y], .agg #[.int .i64 u, .int .i64 v]] w fun e w' => e = .returned (.bool true) ∧ Below w.heap.size w w' := by
  obtain ⟨r, hr⟩ := rroot_some _ (len2_bd x y).1
  obtain ⟨d, hd⟩ : ∃ d, Hid (d = near x * near u + near y * near v) := ⟨_, hid rfl⟩
  obtain ⟨l, hl⟩ : ∃ l, Hid (l = near x * near x + near y * near y) := ⟨_, hid rfl⟩
  have hr := hid hr
  have ql : r * r ≤ l ∧ l < (r + 1) * (r + 1) ∧ 0 ≤ l ∧ l ≤ 2199023255552 ∧ 0 ≤ r := by
    have := len2_bd x y
    rw [hl.out]; exact ⟨hr.out.2.1, hr.out.2.2, this.1, this.2, hr.out.1⟩
  have hdz : Hid (0 = near x * near (-near y) + near y * near (near x)) := by
    apply hid
    have h1 : near (-near y) = -near y := by unfold near; omega
    rw [h1, near_near, Int.mul_neg, Int.mul_comm (near y)]
    omega
  have hls : Hid (l = near (-near y) * near (-near y) + near (near x) * near (near x)) := by
    apply hid
    have h1 : near (-near y) = -near y := by unfold near; omega
    rw [h1, near_near, hl.out, Int.neg_mul_neg]
    omega
  go_enter Try.func4, Try.ntmps4
  go_wp2_with fail
  have hS := hv2_start ((Box.new w (.int .i64 x) (.int .i64 y) 23).alloc (.cells #[.int .i64 u, .int .i64 v] 23)) (Box.new (w.alloc (.cells #[.int .i64 x, .int .i64 y] 23)) (.int .i64 u) (.int .i64 v) 23) (((Below.refl w.heap.size w).alloc (Nat.le_refl _) _).alloc (by simp) _)
  rw [World.size_alloc] at hS
  go_region_held3 (fun w' => w'.cell? ⟨w.heap.size, 0, none⟩ = some (.int .i64 x) ∧ w'.cell? ⟨w.heap.size, 1, none⟩ = some (.int .i64 y) ∧ w'.cell? ⟨w.heap.size + 1, 0, none⟩ = some (.int .i64 u) ∧ w'.cell? ⟨w.heap.size + 1, 1, none⟩ = some (.int .i64 v) ∧ Box w' w.heap.size (.int .i64 x) (.int .i64 y) 23 ∧ Box w' (w.heap.size + 1) (.int .i64 u) (.int .i64 v) 23 ∧ Below w.heap.size w w') (first | exact hS | exact hv2_call (by assumption) (by assumption) | assumption)
    (first
      | (go_at_call 18; refine (H.dot_n _ _ _ _ _ _ hd).mono ?_; rintro e w' ⟨rfl, hb⟩)
      | (go_at_call 20; refine (H.len2_n _ _ _ _ hl).mono ?_; rintro e w' ⟨rfl, hb⟩)
      | (go_at_call 22; refine (H.len_n _ _ _ _ hr).mono ?_; rintro e w' ⟨rfl, hb⟩)
      | (go_at_call 19; refine (rdot_n _ _ _ _ _ _ hd).mono ?_; rintro e w' ⟨rfl, hb⟩)
      | (go_at_call 21; refine (rlen2_n _ _ _ _ hl).mono ?_; rintro e w' ⟨rfl, hb⟩)
      | (go_at_call 23; refine (rlen_n _ _ _ _ hr).mono ?_; rintro e w' ⟨rfl, hb⟩))
  rename_i hH
  obtain ⟨c11, c12, c21, c22, B1, B2, hL⟩ := hH
  clear hS
  go_wp2_with fail
  ((with_reducible refine (H.side x y _).mono ?_); rintro e w1 ⟨rfl, hb1⟩)
  replace B1 := (B1.below hb1).alloc (.cells #[.int .i64 (-near y), .int .i64 (near x)] 23)
  replace hL := (below_call hL hb1).alloc (below_call hL hb1).size (.cells #[.int .i64 (-near y), .int .i64 (near x)] 23)
  have B5 := Box.new w1 (.int .i64 (-near y)) (.int .i64 (near x)) 23
  clear c11 c12 c21 c22 B2
  obtain ⟨c11, c12, -, -⟩ := B1.cells; obtain ⟨c51, c52, -, -⟩ := B5.cells
  go_wp2_with fail
  ((with_reducible refine (H.len_n _ _ _ _ hr).mono ?_); rintro e w2 ⟨rfl, hb2⟩)
  replace B1 := B1.below hb2; replace B5 := B5.below hb2; replace hL := below_call hL hb2
  clear c11 c12 c51 c52
  obtain ⟨c11, c12, -, -⟩ := B1.cells; obtain ⟨c51, c52, -, -⟩ := B5.cells
  go_wp2_with fail
  have br : r ≤ 1482910 := by
    by_cases q : r ≤ 1482910
    · exact q
    · have := rsq_mono (show (0 : Int) ≤ 1482911 by omega) (show 1482911 ≤ r by omega); omega
  have q1 : (r + 1) * (r + 1) ≤ 2199027000000 := by
    have := rsq_mono (show 0 ≤ r + 1 by omega) (show r + 1 ≤ 1482911 by omega); omega
  have e1 : IntKind.i64.wrap (r * r) = r * r := IntWalk.i64_in _ (by have := Int.mul_nonneg ql.2.2.2.2 ql.2.2.2.2; omega)
  have e2 : IntKind.i64.wrap (r + 1) = r + 1 := IntWalk.i64_in _ (by omega)
  have e3 : IntKind.i64.wrap ((r + 1) * (r + 1)) = (r + 1) * (r + 1) := IntWalk.i64_in _ (by omega)
  have d1 : r * r ≤ l := ql.1
  have d2 : l < (r + 1) * (r + 1) := ql.2.1
  have g1 : decide (r * r ≤ l) = true := decide_eq_true d1
  have g2 : decide (l < (r + 1) * (r + 1)) = true := decide_eq_true d2
  have hS := hv2_start B1 B5 hL
  clear c11 c12 c51 c52 ql q1
  go_region_held3 (fun w' => w'.cell? ⟨w.heap.size, 0, none⟩ = some (.int .i64 x) ∧ w'.cell? ⟨w.heap.size, 1, none⟩ = some (.int .i64 y) ∧ w'.cell? ⟨w1.heap.size, 0, none⟩ = some (.int .i64 (-near y)) ∧ w'.cell? ⟨w1.heap.size, 1, none⟩ = some (.int .i64 (near x)) ∧ Box w' w.heap.size (.int .i64 x) (.int .i64 y) 23 ∧ Box w' w1.heap.size (.int .i64 (-near y)) (.int .i64 (near x)) 23 ∧ Below w.heap.size w w') (first | exact hS | exact hv2_call (by assumption) (by assumption) | assumption)
    (first
      | (go_at_call 18; refine (H.dot_n _ _ _ _ _ _ hdz).mono ?_; rintro e w' ⟨rfl, hb⟩)
      | (go_at_call 20; refine (H.len2_n _ _ _ _ hls).mono ?_; rintro e w' ⟨rfl, hb⟩)
      | (go_at_call 20; refine (H.len2_n _ _ _ _ hl).mono ?_; rintro e w' ⟨rfl, hb⟩)
      | (go_at_call 17; refine (H.alive _).mono ?_; rintro e w' ⟨rfl, hb⟩))
  rename_i hH
  obtain ⟨-, -, -, -, -, -, hL⟩ := hH
  go_wp2_with fail
  exact bodyPost_ret (v := .bool true) (by simp [results, Try.results4, go_sem]) rfl ⟨rfl, hL⟩

end Go.Proofs.Ytaamfbfafcocoaa
