/-
  What Toward of vec answers.
-/
import Derived.Test.YtaamfbfafcocoaaProg
import Derived.WalkKit
import Derived.IntWalk
import Derived.WalkSpells
import Derived.WalkLawsBesides
import Derived.Deep.QuietTactic
import Derived.BigQuiet
import Derived.Lib.Hide
import Derived.Lib.Walk
import Derived.StillTailTactics
import Derived.Deep.RegionHeld3
import Derived.Deep.RegionWith
import Derived.Deep.Cut
import Derived.Test.YtaamfbfafcocoaaVecD
import Derived.Test.YtaamfbfafcocoaaLawToward
namespace Go.Proofs.Ytaamfbfafcocoaa
open Go.RowKit Go.Lib

/-- Two, and a third box behind them. -/
def Three (w W : World) (b c d : Nat) (p q u v r s : Value) (t : TypeId) : Prop := Two w W b c p q u v t ∧ Box W d r s t
theorem Three.call {w W w1 : World} {b c d : Nat} {p q u v r s : Value} {t : TypeId} (h : Three w W b c d p q u v r s t) (hb : Below W.heap.size W w1) : Three w w1 b c d p q u v r s t :=
  ⟨h.1.call hb, h.2.below hb⟩
theorem Three.cells {w W : World} {b c d : Nat} {p q u v r s : Value} {t : TypeId} (h : Three w W b c d p q u v r s t) :
    W.cell? ⟨b, 0, none⟩ = some p ∧ W.cell? ⟨b, 1, none⟩ = some q ∧ W.cell? ⟨c, 0, none⟩ = some u ∧ W.cell? ⟨c, 1, none⟩ = some v ∧ W.frozen? ⟨b, 0, none⟩ = false ∧ W.frozen? ⟨b, 1, none⟩ = false ∧ W.frozen? ⟨c, 0, none⟩ = false ∧ W.frozen? ⟨c, 1, none⟩ = false := h.1.cells
theorem Three.stored {w W : World} {b c d : Nat} {p q u v p' q' u' v' r s : Value} {t : TypeId} (h : Three w W b c d p q u v r s t) (n : b ≠ c) (nb : d ≠ b) (nc : d ≠ c) (hb : w.heap.size ≤ b) (hc : w.heap.size ≤ c) :
    Three w ((((W.setCell ⟨b, 0, none⟩ p').setCell ⟨b, 1, none⟩ q').setCell ⟨c, 0, none⟩ u').setCell ⟨c, 1, none⟩ v') b c d p' q' u' v' r s t :=
  ⟨h.1.stored n hb hc, (((h.2.other ⟨b, 0, none⟩ p' nb).other ⟨b, 1, none⟩ q' nb).other ⟨c, 0, none⟩ u' nc).other ⟨c, 1, none⟩ v' nc⟩
theorem Three.stored2 {w W : World} {b c d : Nat} {p q u v p' q' u' v' r s : Value} {t : TypeId} (h : Three w W b c d p q u v r s t) (n : b ≠ c) (nb : d ≠ b) (nc : d ≠ c) (hb : w.heap.size ≤ b) (hc : w.heap.size ≤ c) :
    Three w ((((W.setCell ⟨c, 0, none⟩ u').setCell ⟨c, 1, none⟩ v').setCell ⟨b, 0, none⟩ p').setCell ⟨b, 1, none⟩ q') b c d p' q' u' v' r s t :=
  ⟨h.1.stored2 n hb hc, (((h.2.other ⟨c, 0, none⟩ u' nc).other ⟨c, 1, none⟩ v' nc).other ⟨b, 0, none⟩ p' nb).other ⟨b, 1, none⟩ q' nb⟩

/-- A step is within the bounds of an int's arithmetic, whatever is drawn. -/
theorem tow_near (x y u v sp s p q : Int) (hs : Hid (s = near sp)) (h : (s ≤ 0 ∧ p = near x ∧ q = near y) ∨ (¬ s ≤ 0 ∧ farv x y u v ≤ s * s ∧ p = near u ∧ q = near v) ∨
    (¬ s ≤ 0 ∧ ¬ farv x y u v ≤ s * s ∧ ∃ n, CRoot (farv x y u v) n ∧ p = near x + ((near u - near x) * s).tdiv n ∧ q = near y + ((near v - near y) * s).tdiv n)) : TowAt x y u v sp p q := by
  rw [hs.out] at h; exact h

set_option maxHeartbeats 16000000 in
theorem vtoward_any (x y u v sp : Int) (w : World) :
    Calls Try.prog 26 #[.agg #[.int .i64 x, .int .i64 y], .agg #[.int .i64 u, .int .i64 v], .int .i64 sp] w fun e w' => ∃ p q, TowAt x y u v sp p q ∧ e = .returned (.agg #[.int .i64 p, .int .i64 q]) ∧ Below w.heap.size w w' := by
  obtain ⟨s, hs⟩ : ∃ s, Hid (s = near sp) := ⟨_, hid rfl⟩
  obtain ⟨d, hd⟩ : ∃ d, Hid (d = farv x y u v) := ⟨_, hid rfl⟩
  have bs : -1048576 ≤ s ∧ s ≤ 1048576 := by rw [hs.out]; exact near_bd sp
  have bq := sq_bd s bs
  have bd : 0 ≤ d ∧ d ≤ 8796093022208 := by rw [hd.out]; exact farv_bd _ _ _ _
  have n12 : w.heap.size ≠ w.heap.size + 1 := by omega
  have n31 : w.heap.size + 1 + 1 ≠ w.heap.size := by omega
  have n32 : w.heap.size + 1 + 1 ≠ w.heap.size + 1 := by omega
  have g1 : w.heap.size ≤ w.heap.size := Nat.le_refl _
  have g2 : w.heap.size ≤ w.heap.size + 1 := by omega
  go_enter Try.func26, Try.ntmps26
  go_upto_region 1 with fail
  have B1 := ((Box.new w (.int .i64 x) (.int .i64 y) 23).alloc (.cells #[.int .i64 u, .int .i64 v] 23)).alloc (.cells #[.int .i64 0, .int .i64 0] 23)
  have A2 := (Box.new (w.alloc (.cells #[.int .i64 x, .int .i64 y] 23)) (.int .i64 u) (.int .i64 v) 23).alloc (.cells #[.int .i64 0, .int .i64 0] 23)
  rw [World.size_alloc] at A2
  have A3 := Box.new ((w.alloc (.cells #[.int .i64 x, .int .i64 y] 23)).alloc (.cells #[.int .i64 u, .int .i64 v] 23)) (.int .i64 0) (.int .i64 0) 23
  rw [World.size_alloc, World.size_alloc] at A3
  have hL := (((Below.refl w.heap.size w).alloc (Nat.le_refl _) (.cells #[.int .i64 x, .int .i64 y] 23)).alloc (by simp) (.cells #[.int .i64 u, .int .i64 v] 23)).alloc (by simp; omega) (.cells #[.int .i64 0, .int .i64 0] 23)
  generalize (((w.alloc (.cells #[.int .i64 x, .int .i64 y] 23)).alloc (.cells #[.int .i64 u, .int .i64 v] 23)).alloc (.cells #[.int .i64 0, .int .i64 0] 23)) = W at *
  have hT : Three w W.drew w.heap.size (w.heap.size + 1) (w.heap.size + 1 + 1) (.int .i64 x) (.int .i64 y) (.int .i64 u) (.int .i64 v) (.int .i64 0) (.int .i64 0) 23 := ⟨⟨B1.drew, A2.drew, hL.drew⟩, A3.drew⟩
  clear B1 A2 A3 hL
  go_cut [2] from 9 (fun s2 wx => s2 = .int .i64 s ∧ Three w wx w.heap.size (w.heap.size + 1) (w.heap.size + 1 + 1) (.int .i64 (near x)) (.int .i64 (near y)) (.int .i64 (near u)) (.int .i64 (near v)) (.int .i64 0) (.int .i64 0) 23)
  case first =>
    obtain ⟨_, _, _, _, _, _, _, _⟩ := hT.cells
    go_region_with (first
      | (go_at_call 35; with_reducible refine (vnearest_any _ _ _).mono ?_; rintro e w' ⟨rfl, hb⟩; have hx := Three.call (by assumption) hb; clear hb; obtain ⟨_, _, _, _, _, _, _, _⟩ := hx.cells)
      | (go_at_call 38; with_reducible refine (vnear_n sp s _ hs).mono ?_; rintro e w' ⟨rfl, hw⟩; rw [← hw]; clear hw))
    all_goals
      go_wp2_with fail
      go_meet
      case rel => first | exact ⟨rfl, Three.stored (by assumption) n12 n31 n32 g1 g2⟩ | exact ⟨rfl, Three.stored2 (by assumption) n12 n31 n32 g1 g2⟩
  case rest =>
  clear hT
  obtain ⟨rfl, ⟨B1, B2, h2⟩, B3⟩ := hcut
  obtain ⟨c11, c12, f11, f12⟩ := B1.cells
  obtain ⟨c21, c22, f21, f22⟩ := B2.cells
  obtain ⟨c31, c32, f31, f32⟩ := B3.cells
  by_cases h0 : s ≤ 0
  · go_wp2_with fail
    clear c31 c32 f31 f32
    replace B3 := B3.set0 (.int .i64 (near x))
    clear c11 c12 f11 f12 c21 c22 f21 f22
    replace B3 := B3.set1 (.int .i64 (near y))
    obtain ⟨c31, c32, -, -⟩ := B3.cells
    refine bodyPost_ret (v := .agg #[.int .i64 (near x), .int .i64 (near y)]) (by simp [results, Try.results26, go_sem, c31, c32]) rfl ⟨_, _, tow_near _ _ _ _ _ _ _ _ hs (Or.inl ⟨h0, rfl, rfl⟩), rfl, ?_⟩
    exact (h2.setCell (p := ⟨w.heap.size + 1 + 1, 0, none⟩) (by show w.heap.size ≤ w.heap.size + 1 + 1; omega) _).setCell (p := ⟨w.heap.size + 1 + 1, 1, none⟩) (by show w.heap.size ≤ w.heap.size + 1 + 1; omega) _
  · go_wp2_with fail
    ((with_reducible refine (vdist_n x y u v d _ hd).mono ?_); rintro e w4 ⟨rfl, hb4⟩)
    replace B1 := B1.below hb4
    replace B2 := B2.below hb4
    replace B3 := B3.below hb4
    replace h2 := below_call h2 hb4
    clear c11 c12 f11 f12 c21 c22 f21 f22 c31 c32 f31 f32 hb4
    obtain ⟨c11, c12, f11, f12⟩ := B1.cells
    obtain ⟨c21, c22, f21, f22⟩ := B2.cells
    obtain ⟨c31, c32, f31, f32⟩ := B3.cells
    by_cases h1 : d ≤ s * s
    · go_wp2_with fail
      clear c31 c32 f31 f32
      replace B3 := B3.set0 (.int .i64 (near u))
      clear c11 c12 f11 f12 c21 c22 f21 f22
      replace B3 := B3.set1 (.int .i64 (near v))
      obtain ⟨c31, c32, -, -⟩ := B3.cells
      refine bodyPost_ret (v := .agg #[.int .i64 (near u), .int .i64 (near v)]) (by simp [results, Try.results26, go_sem, c31, c32]) rfl ⟨_, _, tow_near _ _ _ _ _ _ _ _ hs (Or.inr (Or.inl ⟨by omega, by rw [← hd.out]; exact h1, rfl, rfl⟩)), rfl, ?_⟩
      exact (h2.setCell (p := ⟨w.heap.size + 1 + 1, 0, none⟩) (by show w.heap.size ≤ w.heap.size + 1 + 1; omega) _).setCell (p := ⟨w.heap.size + 1 + 1, 1, none⟩) (by show w.heap.size ≤ w.heap.size + 1 + 1; omega) _
    · have s1 := sq_bd s bs
      have d2 : 2 ≤ d := by
        have : 1 * 1 ≤ s * s := rsq_mono (by omega) (by omega)
        omega
      go_wp2_with fail
      ((with_reducible refine (vroot_any d _ d2 bd.2).mono ?_); rintro e w5 ⟨n, hc, rfl, hw5⟩)
      rw [← hw5]
      clear hw5
      have hn := hid (show 1 ≤ n ∧ n ≤ 4194305 by
        obtain ⟨k0, k1, k2⟩ := hc
        refine ⟨k0, ?_⟩
        by_cases k : n ≤ 4194305
        · exact k
        · have := rsq_mono (show (0 : Int) ≤ 4194305 by omega) (show 4194305 ≤ n - 1 by omega); omega)
      replace hc := hid hc
      go_wp2_with fail
      have g1' := step_bd x u s bs; have g2' := step_bd y v s bs
      have bx := near_bd x; have by' := near_bd y; have bu := near_bd u; have bv := near_bd v
      have t1 := tdiv_bd2 _ n g1'; have t2 := tdiv_bd2 _ n g2'
      have hz : (n == 0) = false := by have := hn.out; simp; omega
      have hz' : ¬ n = 0 := by have := hn.out; omega
      have e1 : IntKind.i64.wrap (near u - near x) = near u - near x := IntWalk.i64_in _ (by omega)
      have e2 : IntKind.i64.wrap (near v - near y) = near v - near y := IntWalk.i64_in _ (by omega)
      have e3 : IntKind.i64.wrap ((near u - near x) * s) = (near u - near x) * s := IntWalk.i64_in _ (by omega)
      have e4 : IntKind.i64.wrap ((near v - near y) * s) = (near v - near y) * s := IntWalk.i64_in _ (by omega)
      have e5 : IntKind.i64.wrap (((near u - near x) * s).tdiv n) = ((near u - near x) * s).tdiv n := IntWalk.i64_in _ (by omega)
      have e6 : IntKind.i64.wrap (((near v - near y) * s).tdiv n) = ((near v - near y) * s).tdiv n := IntWalk.i64_in _ (by omega)
      have e7 : IntKind.i64.wrap (near x + ((near u - near x) * s).tdiv n) = near x + ((near u - near x) * s).tdiv n := IntWalk.i64_in _ (by omega)
      have e8 : IntKind.i64.wrap (near y + ((near v - near y) * s).tdiv n) = near y + ((near v - near y) * s).tdiv n := IntWalk.i64_in _ (by omega)
      go_still_tail 25, (by kernel_rfl)
      change wpList _ _ _ _ _ w4.drew
      replace B3 := B3.drew
      replace h2 := h2.drew
      clear c11 c12 f11 f12 c21 c22 f21 f22 c31 c32 f31 f32 e1 e2 e3 e4 e5 e6 e7 e8 B1 B2
      generalize w4.drew = W4 at *
      obtain ⟨c31, c32, f31, f32⟩ := B3.cells
      go_wp2_with fail
      clear c31 c32 f31 f32
      replace B3 := B3.set0 (.int .i64 (near x + ((near u - near x) * s).tdiv n))
      skip
      replace B3 := B3.set1 (.int .i64 (near y + ((near v - near y) * s).tdiv n))
      obtain ⟨c31, c32, -, -⟩ := B3.cells
      refine bodyPost_ret (v := .agg #[.int .i64 (near x + ((near u - near x) * s).tdiv n), .int .i64 (near y + ((near v - near y) * s).tdiv n)]) (by simp [results, Try.results26, go_sem, c31, c32]) rfl ⟨_, _, tow_near _ _ _ _ _ _ _ _ hs (Or.inr (Or.inr ⟨by omega, by rw [← hd.out]; omega, n, by rw [← hd.out]; exact hc.out, rfl, rfl⟩)), rfl, ?_⟩
      exact (h2.setCell (p := ⟨w.heap.size + 1 + 1, 0, none⟩) (by show w.heap.size ≤ w.heap.size + 1 + 1; omega) _).setCell (p := ⟨w.heap.size + 1 + 1, 1, none⟩) (by show w.heap.size ≤ w.heap.size + 1 + 1; omega) _

end Go.Proofs.Ytaamfbfafcocoaa
