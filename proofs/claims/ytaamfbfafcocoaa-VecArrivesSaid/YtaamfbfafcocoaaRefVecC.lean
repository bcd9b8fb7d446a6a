/-
  What the reference of vec answers. Practice.
-/
import Derived.Test.YtaamfbfafcocoaaProg
import Derived.WalkKit
import Derived.IntWalk
import Derived.WalkSpells
import Derived.WalkLawsBesides
import Derived.Deep.QuietTactic
import Derived.BigQuiet
import Derived.Lib.Hide
import Derived.Lib.Walk
import Derived.StillTailTactics
import Derived.Deep.RegionHeld3
import Derived.Test.YtaamfbfafcocoaaBox
import Derived.Test.YtaamfbfafcocoaaRefVec
import Derived.Test.YtaamfbfafcocoaaRefVecB
namespace Go.Proofs.Ytaamfbfafcocoaa
open Go.RowKit Go.Lib



/-- The square distance of the nearest values. -/
def farv (x y u v : Int) : Int := (near u - near x) * (near u - near x) + (near v - near y) * (near v - near y)
/-- The square of a difference of two nearest values. -/
theorem near_dsq (x u : Int) : 0 ≤ (near u - near x) * (near u - near x) ∧ (near u - near x) * (near u - near x) ≤ 4398046511104 := by
  have h1 := near_bd x
  have h2 := near_bd u
  generalize near x = a at *
  generalize near u = b at *
  have hc : (b - a).natAbs ≤ 2097152 := by omega
  generalize b - a = c at *
  have e : (c * c).natAbs = c.natAbs * c.natAbs := Int.natAbs_mul c c
  have h : c.natAbs * c.natAbs ≤ 2097152 * 2097152 := Nat.mul_le_mul hc hc
  have p : 0 ≤ c * c := by rcases Int.le_total 0 c with hc' | hc'; exact Int.mul_nonneg hc' hc'; exact Int.mul_nonneg_of_nonpos_of_nonpos hc' hc'
  rw [← e] at h
  generalize c * c = d at *
  omega
set_option maxHeartbeats 1000000 in
theorem rfar_any (x y u v : Int) (w : World) :
    Calls Try.prog 30 #[.agg #[.int .i64 x, .int .i64 y], .agg #[.int .i64 u, .int .i64 v]] w fun e w' => e = .returned (.int .i64 (farv x y u v)) ∧ Below w.heap.size w w' := by
  go_enter Try.func30, Try.ntmps30
  go_wp2_with fail
  ((with_reducible refine (rnearvec_any x y _).mono ?_); rintro e w1 ⟨rfl, hb1⟩)
  have A1 := (Box.new w (.int .i64 x) (.int .i64 y) 23).alloc (.cells #[.int .i64 u, .int .i64 v] 23)
  have A2 := Box.new (w.alloc (.cells #[.int .i64 x, .int .i64 y] 23)) (.int .i64 u) (.int .i64 v) 23
  have B1 := A1.below hb1
  have B2 : Box w1 (w.heap.size + 1) (.int .i64 u) (.int .i64 v) 23 := by have := A2.below hb1; simpa using this
  clear A1 A2
  obtain ⟨c11, c12, f11, f12⟩ := B1.cells
  obtain ⟨c21, c22, f21, f22⟩ := B2.cells
  replace B1 := (B1.set0 (.int .i64 (near x))).set1 (.int .i64 (near y))
  replace B2 := (B2.other ⟨w.heap.size, 0, none⟩ (.int .i64 (near x)) (by simp)).other ⟨w.heap.size, 1, none⟩ (.int .i64 (near y)) (by simp)
  go_wp2_with fail
  ((with_reducible refine (rnearvec_any u v _).mono ?_); rintro e w2 ⟨rfl, hb2⟩)
  replace B1 := B1.below hb2
  replace B2 := B2.below hb2
  clear c11 c12 f11 f12 c21 c22 f21 f22
  obtain ⟨c11, c12, f11, f12⟩ := B1.cells
  obtain ⟨c21, c22, f21, f22⟩ := B2.cells
  have bx := near_bd x; have by' := near_bd y; have bu := near_bd u; have bv := near_bd v
  have m1 := near_dsq x u; have m2 := near_dsq y v
  go_wp2_with fail
  refine bodyPost_ret (v := .int .i64 (farv x y u v)) (by simp [results, Try.results30, go_sem, farv]) rfl ⟨rfl, ?_⟩
  have h0 := ((Below.refl w.heap.size w).alloc (Nat.le_refl _) (.cells #[.int .i64 x, .int .i64 y] 23)).alloc (by simp) (.cells #[.int .i64 u, .int .i64 v] 23)
  have h1 := ((below_call h0 hb1).setCell (p := ⟨w.heap.size, 0, none⟩) (Nat.le_refl _) (.int .i64 (near x))).setCell (p := ⟨w.heap.size, 1, none⟩) (Nat.le_refl _) (.int .i64 (near y))
  exact ((below_call h1 hb2).setCell (p := ⟨w.heap.size + 1, 0, none⟩) (by simp) (.int .i64 (near u))).setCell (p := ⟨w.heap.size + 1, 1, none⟩) (by simp) (.int .i64 (near v))

set_option maxHeartbeats 1000000 in
theorem rlen2_any (x y : Int) (w : World) :
    Calls Try.prog 21 #[.agg #[.int .i64 x, .int .i64 y]] w fun e w' => e = .returned (.int .i64 (near x * near x + near y * near y)) ∧ Below w.heap.size w w' := by
  go_enter Try.func21, Try.ntmps21
  go_wp2_with fail
  ((with_reducible refine (rdot_any x y x y _).mono ?_); rintro e w1 ⟨rfl, hb1⟩)
  go_wp2_with fail
  exact bodyPost_ret (v := .int .i64 (near x * near x + near y * near y)) (by simp [results, Try.results21, go_sem]) rfl ⟨rfl, below_call ((Below.refl w.heap.size w).alloc (Nat.le_refl _) _) hb1⟩
theorem sq_bd (n : Int) (h : -1048576 ≤ n ∧ n ≤ 1048576) : 0 ≤ n * n ∧ n * n ≤ 1099511627776 := by
  have hc : n.natAbs ≤ 1048576 := by omega
  have e : (n * n).natAbs = n.natAbs * n.natAbs := Int.natAbs_mul n n
  have h : n.natAbs * n.natAbs ≤ 1048576 * 1048576 := Nat.mul_le_mul hc hc
  have p : 0 ≤ n * n := by rcases Int.le_total 0 n with hc' | hc'; exact Int.mul_nonneg hc' hc'; exact Int.mul_nonneg_of_nonpos_of_nonpos hc' hc'
  rw [← e] at h
  generalize n * n = d at *
  omega
theorem rfar_n (x y u v d : Int) (w : World) (h : Hid (d = farv x y u v)) :
    Calls Try.prog 30 #[.agg #[.int .i64 x, .int .i64 y], .agg #[.int .i64 u, .int .i64 v]] w fun e w' => e = .returned (.int .i64 d) ∧ Below w.heap.size w w' := by
  rw [h.out]; exact rfar_any x y u v w
theorem farv_bd (x y u v : Int) : 0 ≤ farv x y u v ∧ farv x y u v ≤ 8796093022208 := by
  have h1 := near_dsq x u; have h2 := near_dsq y v
  unfold farv
  omega
set_option maxHeartbeats 1000000 in
theorem rwithin_tt (x y u v r n d : Int) (w : World) (hn : Hid (n = near r)) (hd : Hid (d = farv x y u v)) (h0 : 0 ≤ n) (h1 : d ≤ n * n) :
    Calls Try.prog 29 #[.agg #[.int .i64 x, .int .i64 y], .agg #[.int .i64 u, .int .i64 v], .int .i64 r] w fun e w' => e = .returned (.bool true) ∧ Below w.heap.size w w' := by
  have bn : -1048576 ≤ n ∧ n ≤ 1048576 := by rw [hn.out]; exact near_bd r
  have bd : 0 ≤ d ∧ d ≤ 8796093022208 := by rw [hd.out]; exact farv_bd x y u v
  have bq := sq_bd n bn
  have hm : IntKind.i64.wrap (n * n) = n * n := IntWalk.i64_in _ (by omega)
  have g0 : decide (0 ≤ n) = true := decide_eq_true h0
  have g1 : decide (d ≤ n * n) = true := decide_eq_true h1
  go_enter Try.func29, Try.ntmps29
  go_wp2_with fail
  ((with_reducible refine (rnear_n r n _ hn).mono ?_); rintro e w1 ⟨rfl, hw⟩)
  rw [← hw]
  clear hw
  go_wp2_with fail
  ((with_reducible refine (rfar_n x y u v d _ hd).mono ?_); rintro e w1 ⟨rfl, hb1⟩)
  go_wp2_with fail
  exact bodyPost_ret (v := .bool true) (by simp [results, Try.results29, go_sem]) rfl ⟨rfl, below_call (((Below.refl w.heap.size w).alloc (Nat.le_refl _) _).alloc (by simp) _) hb1⟩
set_option maxHeartbeats 1000000 in
theorem rwithin_tf (x y u v r n d : Int) (w : World) (hn : Hid (n = near r)) (hd : Hid (d = farv x y u v)) (h0 : 0 ≤ n) (h1 : ¬ d ≤ n * n) :
    Calls Try.prog 29 #[.agg #[.int .i64 x, .int .i64 y], .agg #[.int .i64 u, .int .i64 v], .int .i64 r] w fun e w' => e = .returned (.bool false) ∧ Below w.heap.size w w' := by
  have bn : -1048576 ≤ n ∧ n ≤ 1048576 := by rw [hn.out]; exact near_bd r
  have bd : 0 ≤ d ∧ d ≤ 8796093022208 := by rw [hd.out]; exact farv_bd x y u v
  have bq := sq_bd n bn
  have hm : IntKind.i64.wrap (n * n) = n * n := IntWalk.i64_in _ (by omega)
  have g0 : decide (0 ≤ n) = true := decide_eq_true h0
  have g1 : decide (d ≤ n * n) = false := decide_eq_false h1
  go_enter Try.func29, Try.ntmps29
  go_wp2_with fail
  ((with_reducible refine (rnear_n r n _ hn).mono ?_); rintro e w1 ⟨rfl, hw⟩)
  rw [← hw]
  clear hw
  go_wp2_with fail
  ((with_reducible refine (rfar_n x y u v d _ hd).mono ?_); rintro e w1 ⟨rfl, hb1⟩)
  go_wp2_with fail
  exact bodyPost_ret (v := .bool false) (by simp [results, Try.results29, go_sem]) rfl ⟨rfl, below_call (((Below.refl w.heap.size w).alloc (Nat.le_refl _) _).alloc (by simp) _) hb1⟩
set_option maxHeartbeats 1000000 in
theorem rwithin_neg (x y u v r n d : Int) (w : World) (hn : Hid (n = near r)) (hd : Hid (d = farv x y u v)) (h0 : ¬ 0 ≤ n) :
    Calls Try.prog 29 #[.agg #[.int .i64 x, .int .i64 y], .agg #[.int .i64 u, .int .i64 v], .int .i64 r] w fun e w' => e = .returned (.bool false) ∧ Below w.heap.size w w' := by
  have bn : -1048576 ≤ n ∧ n ≤ 1048576 := by rw [hn.out]; exact near_bd r
  have bd : 0 ≤ d ∧ d ≤ 8796093022208 := by rw [hd.out]; exact farv_bd x y u v
  have bq := sq_bd n bn
  have hm : IntKind.i64.wrap (n * n) = n * n := IntWalk.i64_in _ (by omega)
  have g0 : decide (0 ≤ n) = false := decide_eq_false h0
  go_enter Try.func29, Try.ntmps29
  go_wp2_with fail
  ((with_reducible refine (rnear_n r n _ hn).mono ?_); rintro e w1 ⟨rfl, hw⟩)
  rw [← hw]
  clear hw
  go_wp2_with fail
  exact bodyPost_ret (v := .bool false) (by simp [results, Try.results29, go_sem]) rfl ⟨rfl, ((Below.refl w.heap.size w).alloc (Nat.le_refl _) _).alloc (by simp) _⟩
/-- Is the goal within reach? -/
def wthn (x y u v r : Int) : Bool := decide (0 ≤ near r) && decide (farv x y u v ≤ near r * near r)
theorem rwithin_any (x y u v r : Int) (w : World) :
    Calls Try.prog 29 #[.agg #[.int .i64 x, .int .i64 y], .agg #[.int .i64 u, .int .i64 v], .int .i64 r] w fun e w' => e = .returned (.bool (wthn x y u v r)) ∧ Below w.heap.size w w' := by
  by_cases h0 : 0 ≤ near r
  · by_cases h1 : farv x y u v ≤ near r * near r
    · have : wthn x y u v r = true := by unfold wthn; rw [decide_eq_true h0, decide_eq_true h1]; rfl
      rw [this]; exact rwithin_tt x y u v r _ _ w (hid rfl) (hid rfl) h0 h1
    · have : wthn x y u v r = false := by unfold wthn; rw [decide_eq_false h1, Bool.and_false]
      rw [this]; exact rwithin_tf x y u v r _ _ w (hid rfl) (hid rfl) h0 h1
  · have : wthn x y u v r = false := by unfold wthn; rw [decide_eq_false h0, Bool.false_and]
    rw [this]; exact rwithin_neg x y u v r _ _ w (hid rfl) (hid rfl) h0

end Go.Proofs.Ytaamfbfafcocoaa
