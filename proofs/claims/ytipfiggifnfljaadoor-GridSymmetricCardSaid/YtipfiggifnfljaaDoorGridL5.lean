/-
  Laws of grid: symmetry.
-/
import Derived.Test.YtipfiggifnfljaaDoorGridLaws
import Derived.Test.YtipfiggifnfljaaDoorGridSymMath
import Derived.Deep.Cut
namespace Go.Proofs.YtipfiggifnfljaaDoor
open Go.RowKit Go.Lib

theorem Blk.six {w : World} {b : Nat} {p q r s u v : Value} {t : TypeId} (h : Blk w b [p, q, r, s, u, v] t) :
    w.cell? ⟨b, 0, none⟩ = some p ∧ w.cell? ⟨b, 1, none⟩ = some q ∧ w.cell? ⟨b, 2, none⟩ = some r ∧ w.cell? ⟨b, 3, none⟩ = some s ∧ w.cell? ⟨b, 4, none⟩ = some u ∧ w.cell? ⟨b, 5, none⟩ = some v :=
  ⟨h.cell 0, h.cell 1, h.cell 2, h.cell 3, h.cell 4, h.cell 5⟩
/-- The cell with the number i. -/
def cx (a c e : Int) (i : Nat) : Int := if i = 0 then a else if i = 1 then c else e
theorem far_cases {x y : Int} (h : ¬ (Co x ∧ Co y)) : x < -1000 ∨ 1000 < x ∨ y < -1000 ∨ 1000 < y := by unfold Co at h; omega
theorem step_pick {x y d : Int} (hx : Co x) (hy : Co y) (h : 0 ≤ d ∧ d ≤ 7) :
    ∃ u v, Hid (u = stx x d ∧ v = sty y d) ∧ Hid (x = stx u ((d + 4) % 8) ∧ y = sty v ((d + 4) % 8)) ∧ Hid (10 + d % 2 * 4 = octv x y u v) ∧ Hid (1 = chebv x y u v) ∧ -2000 ≤ u ∧ u ≤ 2000 ∧ -2000 ≤ v ∧ v ≤ 2000 := by
  obtain ⟨s1, s2, s3, s4, s5, s6, s7, s8⟩ := step_there hx hy h
  exact ⟨_, _, hid ⟨rfl, rfl⟩, hid ⟨s1.symm, s2.symm⟩, hid s3.symm, hid s4.symm, s5, s6, s7, s8⟩
set_option maxRecDepth 100000 in
set_option maxHeartbeats 4000000 in
theorem law_sym {E : World → Prop} (H : GridHave E) (a b c d e f r : Int) (w : World) (hE : E w) (r0 : 0 ≤ r) (_r1 : r < 256) :
    Calls Tryd.prog 8 #[.agg #[.int .i64 a, .int .i64 b, .int .i64 c, .int .i64 d, .int .i64 e, .int .i64 f], .int .u8 r] w fun e w' => e = .returned (.bool true) ∧ Below w.heap.size w w' := by
  go_enter Tryd.func8, Tryd.ntmps8
  go_wp2_with fail
  have B := Blk.new w [.int .i64 a, .int .i64 b, .int .i64 c, .int .i64 d, .int .i64 e, .int .i64 f] 43
  have hL := (Below.refl w.heap.size w).alloc (Nat.le_refl _) (.cells [Value.int .i64 a, .int .i64 b, .int .i64 c, .int .i64 d, .int .i64 e, .int .i64 f].toArray 43)
  generalize w.alloc (.cells [Value.int .i64 a, .int .i64 b, .int .i64 c, .int .i64 d, .int .i64 e, .int .i64 f].toArray 43) = W at *
  have hcell : ∀ i : Nat, i < 3 → W.cell? ⟨w.heap.size, i * 2, none⟩ = some (.int .i64 (cx a c e i)) ∧ W.cell? ⟨w.heap.size, i * 2 + 1, none⟩ = some (.int .i64 (cx b d f i)) := by
    intro i hi
    obtain rfl | rfl | rfl : i = 0 ∨ i = 1 ∨ i = 2 := by omega
    · exact ⟨B.cell 0, B.cell 1⟩
    · exact ⟨B.cell 2, B.cell 3⟩
    · exact ⟨B.cell 4, B.cell 5⟩
  go_loopw [5] (fun vi wr => ∃ i : Nat, vi = .int .i64 i ∧ i ≤ 3 ∧ wr = W ∧ ∀ j, j < i → Co (cx a c e j) ∧ Co (cx b d f j)) (fun vi _ => 3 - (RowKit.intOf vi).toNat)
  case atStart => exact ⟨0, rfl, by omega, rfl, fun j h => by omega⟩
  case round =>
    obtain ⟨i, rfl, hi, rfl, hG⟩ := hrel
    by_cases hlt : i < 3
    · have d1 : (i : Int) < 3 := by omega
      obtain ⟨k1, k2⟩ := hcell i hlt
      obtain ⟨x, hx⟩ : ∃ x, cx a c e i = x := ⟨_, rfl⟩
      obtain ⟨y, hy⟩ : ∃ y, cx b d f i = y := ⟨_, rfl⟩
      rw [hx] at k1
      rw [hy] at k2
      clear hcell B
      by_cases hc : Co x ∧ Co y
      · obtain ⟨⟨x0, x1⟩, ⟨y0, y1⟩⟩ := hc
        have z1 : decide (x < -1000) = false := decide_eq_false (by omega)
        have z2 : decide (1000 < x) = false := decide_eq_false (by omega)
        have z3 : decide (y < -1000) = false := decide_eq_false (by omega)
        have z4 : decide (1000 < y) = false := decide_eq_false (by omega)
        go_wp2_with fail
        go_roundw
        case rel => exact ⟨i + 1, by go_num, by omega, trivial, fun j hj => by
          by_cases e : j < i
          · exact hG j e
          · obtain rfl : j = i := by omega
            rw [hx, hy]; exact ⟨⟨x0, x1⟩, ⟨y0, y1⟩⟩⟩
        case measure => simp [RowKit.intOf]; omega
      · have hf := far_cases hc
        clear hc hG hx hy
        by_cases f1 : x < -1000
        · have z1 : decide (x < -1000) = true := decide_eq_true f1
          go_wp2_with fail
          ((with_reducible refine (awake_any H _ (H.keep hE hL)).mono ?_); rintro e w5 ⟨rfl, hb⟩)
          go_wp2_with fail
          go_ret
          exact ⟨rfl, below_call hL hb⟩
        · have z1 : decide (x < -1000) = false := decide_eq_false f1
          by_cases f2 : 1000 < x
          · have z2 : decide (1000 < x) = true := decide_eq_true f2
            go_wp2_with fail
            ((with_reducible refine (awake_any H _ (H.keep hE hL)).mono ?_); rintro e w5 ⟨rfl, hb⟩)
            go_wp2_with fail
            go_ret
            exact ⟨rfl, below_call hL hb⟩
          · have z2 : decide (1000 < x) = false := decide_eq_false f2
            by_cases f3 : y < -1000
            · have z3 : decide (y < -1000) = true := decide_eq_true f3
              go_wp2_with fail
              ((with_reducible refine (awake_any H _ (H.keep hE hL)).mono ?_); rintro e w5 ⟨rfl, hb⟩)
              go_wp2_with fail
              go_ret
              exact ⟨rfl, below_call hL hb⟩
            · have z3 : decide (y < -1000) = false := decide_eq_false f3
              have z4 : decide (1000 < y) = true := decide_eq_true (by omega)
              go_wp2_with fail
              ((with_reducible refine (awake_any H _ (H.keep hE hL)).mono ?_); rintro e w5 ⟨rfl, hb⟩)
              go_wp2_with fail
              go_ret
              exact ⟨rfl, below_call hL hb⟩
    · obtain rfl : i = 3 := by omega
      obtain ⟨c0, c1⟩ := hG 0 (by omega)
      obtain ⟨c2, c3⟩ := hG 1 (by omega)
      obtain ⟨c4, c5⟩ := hG 2 (by omega)
      clear hG hcell
      change Co a at c0
      change Co b at c1
      change Co c at c2
      change Co d at c3
      change Co e at c4
      change Co f at c5
      obtain ⟨dd, hdd⟩ : ∃ dd, r.tmod 8 = dd := ⟨_, rfl⟩
      have hdd2 : r % 8 = dd := by rw [← hdd, Int.tmod_eq_emod_of_nonneg r0]
      have d0 : 0 ≤ dd := by omega
      have d7 : dd ≤ 7 := by omega
      have hdw : IntKind.i64.wrap dd = dd := IntWalk.i64_in _ (by omega)
      go_upto_region 6 with fail
      go_cut [6, 7, 8, 9] from 10 (fun s6 s7 s8 s9 wx => ∃ ga gb gc : Nat, s6 = .pointer (some ⟨ga, 0, none⟩) ∧ s7 = .pointer (some ⟨gb, 0, none⟩) ∧ s8 = .pointer (some ⟨gc, 0, none⟩) ∧ s9 = .int .i64 dd ∧ Blk wx ga [.int .i64 a, .int .i64 b] 23 ∧ Blk wx gb [.int .i64 c, .int .i64 d] 23 ∧ Blk wx gc [.int .i64 e, .int .i64 f] 23 ∧ Below wr.heap.size wr wx)
      case first =>
        go_region_held3 (fun w' => w'.cell? ⟨w.heap.size, 0, none⟩ = some (.int .i64 a) ∧ w'.cell? ⟨w.heap.size, 1, none⟩ = some (.int .i64 b) ∧ w'.cell? ⟨w.heap.size, 2, none⟩ = some (.int .i64 c) ∧ w'.cell? ⟨w.heap.size, 3, none⟩ = some (.int .i64 d) ∧ w'.cell? ⟨w.heap.size, 4, none⟩ = some (.int .i64 e) ∧ w'.cell? ⟨w.heap.size, 5, none⟩ = some (.int .i64 f))
          (first
            | (refine (B.below (w' := _) ?_).six; with_reducible (repeat (first | assumption | exact Below.refl _ _ | refine Below.drew ?_ | refine Below.alloc ?_ ?_ _)) <;> first | omega | (simp; done) | (simp; omega)))
          (fail)
        all_goals
          go_wp2_with fail
          go_meet
          case rel =>
            with_reducible
              refine ⟨_, _, _, rfl, rfl, rfl, rfl, ?_, ?_, ?_, ?_⟩
              · repeat (first
                  | exact Blk.new _ _ _
                  | exact (Blk.new _ _ _).at (World.size_alloc _ _)
                  | exact (Blk.new _ _ _).at ((World.size_alloc _ _).trans (congrArg (· + 1) (World.size_alloc _ _)))
                  | refine Blk.drew ?_
                  | refine Blk.alloc ?_ _)
              · repeat (first
                  | exact Blk.new _ _ _
                  | exact (Blk.new _ _ _).at (World.size_alloc _ _)
                  | exact (Blk.new _ _ _).at ((World.size_alloc _ _).trans (congrArg (· + 1) (World.size_alloc _ _)))
                  | refine Blk.drew ?_
                  | refine Blk.alloc ?_ _)
              · repeat (first
                  | exact Blk.new _ _ _
                  | exact (Blk.new _ _ _).at (World.size_alloc _ _)
                  | exact (Blk.new _ _ _).at ((World.size_alloc _ _).trans (congrArg (· + 1) (World.size_alloc _ _)))
                  | refine Blk.drew ?_
                  | refine Blk.alloc ?_ _)
              · (repeat (first | assumption | exact Below.refl _ _ | refine Below.drew ?_ | refine Below.alloc ?_ ?_ _)) <;> first | omega | (simp; done) | (simp; omega)
      case rest =>
      clear hdd hdd2 hdw B
      obtain ⟨ga, gb, gc, rfl, rfl, rfl, rfl, Ba, Bb, Bc, hV⟩ := hcut
      replace hL := below_call hL hV
      clear hV
      obtain ⟨sx, sy, e1, q3, q1, q2, s5, s6, s7, s8⟩ := step_pick c0 c1 ⟨d0, d7⟩
      have ci {n : Int} (h : Co n) : I64 n := small ⟨by have := h.1; omega, by have := h.2; omega⟩
      obtain ⟨_, _, -, -⟩ := Ba.two
      go_wp2_with fail
      ((with_reducible refine (H.step a b dd sx sy _ (H.keep hE hL) (ci c0) (ci c1) (small (by omega)) e1).mono ?_); rintro ee w1 ⟨rfl, hb⟩)
      replace Ba := (Ba.below hb).alloc (.cells [Value.int .i64 sx, .int .i64 sy].toArray 23)
      replace Bb := (Bb.below hb).alloc (.cells [Value.int .i64 sx, .int .i64 sy].toArray 23)
      replace Bc := (Bc.below hb).alloc (.cells [Value.int .i64 sx, .int .i64 sy].toArray 23)
      replace hL := below_call hL hb
      replace hL := hL.alloc hL.size (.cells [Value.int .i64 sx, .int .i64 sy].toArray 23)
      have Bs := Blk.new w1 [.int .i64 sx, .int .i64 sy] 23
      clear hb
      go_upto_region 9 with fail
      generalize w1.alloc (.cells [Value.int .i64 sx, .int .i64 sy].toArray 23) = V at *
      generalize w1.heap.size = gs at *
      obtain ⟨n1, f1⟩ : ∃ n, Hid (n = octv a b c d) := ⟨_, hid rfl⟩
      have f1' : Hid (n1 = octv c d a b) := hid (by rw [f1.out, oct_symm])
      obtain ⟨m1, f2⟩ : ∃ n, Hid (n = chebv a b c d) := ⟨_, hid rfl⟩
      have f2' : Hid (m1 = chebv c d a b) := hid (by rw [f2.out, cheb_symm])
      obtain ⟨n2, f3⟩ : ∃ n, Hid (n = octv a b e f) := ⟨_, hid rfl⟩
      obtain ⟨n3, f4⟩ : ∃ n, Hid (n = octv c d e f) := ⟨_, hid rfl⟩
      obtain ⟨m2, f5⟩ : ∃ n, Hid (n = chebv a b e f) := ⟨_, hid rfl⟩
      obtain ⟨m3, f6⟩ : ∃ n, Hid (n = chebv c d e f) := ⟨_, hid rfl⟩
      have g1 : n2 ≤ n1 + n3 := by rw [f1.out, f3.out, f4.out]; exact oct_tri a b c d e f
      have g2 : m2 ≤ m1 + m3 := by rw [f2.out, f5.out, f6.out]; exact cheb_tri a b c d e f
      have g3 : 0 ≤ n1 ∧ n1 ≤ 58720256 := by rw [f1.out]; exact oct_bd a b c d
      have g4 : 0 ≤ n3 ∧ n3 ≤ 58720256 := by rw [f4.out]; exact oct_bd c d e f
      have g5 : 0 ≤ m1 ∧ m1 ≤ 2097152 := by rw [f2.out]; exact cheb_bd a b c d
      have g6 : 0 ≤ m3 ∧ m3 ≤ 2097152 := by rw [f6.out]; exact cheb_bd c d e f
      have g7 : n1 = 0 ↔ a = c ∧ b = d := by rw [f1.out]; exact oct_zero c0 c1 c2 c3
      have v1 : IntKind.i64.wrap (n1 + n3) = n1 + n3 := IntWalk.i64_in _ (by omega)
      have v2 : IntKind.i64.wrap (m1 + m3) = m1 + m3 := IntWalk.i64_in _ (by omega)
      have z1 : (n1 != n1) = false := by simp
      have z2 : (m1 != m1) = false := by simp
      have z3 : decide (n1 + n3 < n2) = false := decide_eq_false (by omega)
      have z4 : decide (m1 + m3 < m2) = false := decide_eq_false (by omega)
      have hq := (Below.refl V.heap.size V).drew
      go_region_held3 (fun w' => w'.cell? ⟨ga, 0, none⟩ = some (.int .i64 a) ∧ w'.cell? ⟨ga, 1, none⟩ = some (.int .i64 b) ∧ w'.cell? ⟨gb, 0, none⟩ = some (.int .i64 c) ∧ w'.cell? ⟨gb, 1, none⟩ = some (.int .i64 d) ∧ w'.cell? ⟨gc, 0, none⟩ = some (.int .i64 e) ∧ w'.cell? ⟨gc, 1, none⟩ = some (.int .i64 f))
        (first | exact ⟨(Ba.below hq).cell 0, (Ba.below hq).cell 1, (Bb.below hq).cell 0, (Bb.below hq).cell 1, (Bc.below hq).cell 0, (Bc.below hq).cell 1⟩)
        (first
            | (go_at_call 25; with_reducible refine (H.oct a b c d n1 _ (ci c0) (ci c1) (ci c2) (ci c3) f1).mono ?_; rintro ee w' ⟨rfl, hb⟩; replace hq := below_call hq hb; clear hb)
            | (go_at_call 25; with_reducible refine (H.oct c d a b n1 _ (ci c2) (ci c3) (ci c0) (ci c1) f1').mono ?_; rintro ee w' ⟨rfl, hb⟩; replace hq := below_call hq hb; clear hb)
            | (go_at_call 25; with_reducible refine (H.oct a b e f n2 _ (ci c0) (ci c1) (ci c4) (ci c5) f3).mono ?_; rintro ee w' ⟨rfl, hb⟩; replace hq := below_call hq hb; clear hb)
            | (go_at_call 25; with_reducible refine (H.oct c d e f n3 _ (ci c2) (ci c3) (ci c4) (ci c5) f4).mono ?_; rintro ee w' ⟨rfl, hb⟩; replace hq := below_call hq hb; clear hb)
            | (go_at_call 27; with_reducible refine (H.cheb a b c d m1 _ (ci c0) (ci c1) (ci c2) (ci c3) f2).mono ?_; rintro ee w' ⟨rfl, hb⟩; replace hq := below_call hq hb; clear hb)
            | (go_at_call 27; with_reducible refine (H.cheb c d a b m1 _ (ci c2) (ci c3) (ci c0) (ci c1) f2').mono ?_; rintro ee w' ⟨rfl, hb⟩; replace hq := below_call hq hb; clear hb)
            | (go_at_call 27; with_reducible refine (H.cheb a b e f m2 _ (ci c0) (ci c1) (ci c4) (ci c5) f5).mono ?_; rintro ee w' ⟨rfl, hb⟩; replace hq := below_call hq hb; clear hb)
            | (go_at_call 27; with_reducible refine (H.cheb c d e f m3 _ (ci c2) (ci c3) (ci c4) (ci c5) f6).mono ?_; rintro ee w' ⟨rfl, hb⟩; replace hq := below_call hq hb; clear hb))
      replace Ba := Ba.below hq
      replace Bb := Bb.below hq
      replace Bs := Bs.below hq
      replace hL := below_call hL hq
      clear hq Bc z1 z2 z3 z4 v1 v2 g1 g2 g4 g5 g6 f1' f2' f2 f3 f4 f5 f6
      go_upto_region 11 with fail
      clear c4 c5
      obtain ⟨k, hk⟩ : ∃ k, (dd + 4).tmod 8 = k := ⟨_, rfl⟩
      have hk2 : (dd + 4) % 8 = k := by rw [← hk, Int.tmod_eq_emod_of_nonneg (by omega)]
      have v1 : IntKind.i64.wrap (dd + 4) = dd + 4 := IntWalk.i64_in _ (by omega)
      rw [hk2] at q3
      have hq := (Below.refl _ _ : Below w'.heap.size w' w').drew
      by_cases h1 : a = c
      · by_cases h2 : b = d
        · subst h1 h2
          obtain rfl : n1 = 0 := g7.2 ⟨rfl, rfl⟩
          clear g7
          go_region_held3 (fun w' => w'.cell? ⟨ga, 0, none⟩ = some (.int .i64 a) ∧ w'.cell? ⟨ga, 1, none⟩ = some (.int .i64 b) ∧ w'.cell? ⟨gb, 0, none⟩ = some (.int .i64 a) ∧ w'.cell? ⟨gb, 1, none⟩ = some (.int .i64 b) ∧ w'.cell? ⟨gs, 0, none⟩ = some (.int .i64 sx) ∧ w'.cell? ⟨gs, 1, none⟩ = some (.int .i64 sy))
            (first | exact ⟨(Ba.below hq).cell 0, (Ba.below hq).cell 1, (Bb.below hq).cell 0, (Bb.below hq).cell 1, (Bs.below hq).cell 0, (Bs.below hq).cell 1⟩)
            (first
              | (go_at_call 20; with_reducible refine (H.step sx sy k a b _ (H.keep hE (below_call hL hq)) (small (by omega)) (small (by omega)) (small (by omega)) q3).mono ?_; rintro ee w' ⟨rfl, hb⟩; replace hq := below_call hq hb; clear hb)
              | (go_at_call 25; with_reducible refine (H.oct a b sx sy _ _ (ci c0) (ci c1) (small (by omega)) (small (by omega)) q1).mono ?_; rintro ee w' ⟨rfl, hb⟩; replace hq := below_call hq hb; clear hb)
              | (go_at_call 27; with_reducible refine (H.cheb a b sx sy 1 _ (ci c0) (ci c1) (small (by omega)) (small (by omega)) q2).mono ?_; rintro ee w' ⟨rfl, hb⟩; replace hq := below_call hq hb; clear hb)
              | (go_at_call 25; with_reducible refine (H.oct a b a b 0 _ (ci c0) (ci c1) (ci c0) (ci c1) f1).mono ?_; rintro ee w' ⟨rfl, hb⟩; replace hq := below_call hq hb; clear hb)
              | (go_at_call 19; with_reducible refine (awake_any H _ (H.keep hE (below_call hL hq))).mono ?_; rintro ee w' ⟨rfl, hb⟩; replace hq := below_call hq hb; clear hb))
          go_wp2_with fail
          go_ret
          exact ⟨rfl, below_call hL hq⟩
        · subst h1
          have z1 : (n1 == 0) = false := beq_eq_false_iff_ne.2 (fun h => h2 (g7.1 h).2)
          have z2 : (b == d) = false := beq_eq_false_iff_ne.2 h2
          clear g7
          go_region_held3 (fun w' => w'.cell? ⟨ga, 0, none⟩ = some (.int .i64 a) ∧ w'.cell? ⟨ga, 1, none⟩ = some (.int .i64 b) ∧ w'.cell? ⟨gb, 0, none⟩ = some (.int .i64 a) ∧ w'.cell? ⟨gb, 1, none⟩ = some (.int .i64 d) ∧ w'.cell? ⟨gs, 0, none⟩ = some (.int .i64 sx) ∧ w'.cell? ⟨gs, 1, none⟩ = some (.int .i64 sy))
            (first | exact ⟨(Ba.below hq).cell 0, (Ba.below hq).cell 1, (Bb.below hq).cell 0, (Bb.below hq).cell 1, (Bs.below hq).cell 0, (Bs.below hq).cell 1⟩)
            (first
              | (go_at_call 20; with_reducible refine (H.step sx sy k a b _ (H.keep hE (below_call hL hq)) (small (by omega)) (small (by omega)) (small (by omega)) q3).mono ?_; rintro ee w' ⟨rfl, hb⟩; replace hq := below_call hq hb; clear hb)
              | (go_at_call 25; with_reducible refine (H.oct a b sx sy _ _ (ci c0) (ci c1) (small (by omega)) (small (by omega)) q1).mono ?_; rintro ee w' ⟨rfl, hb⟩; replace hq := below_call hq hb; clear hb)
              | (go_at_call 27; with_reducible refine (H.cheb a b sx sy 1 _ (ci c0) (ci c1) (small (by omega)) (small (by omega)) q2).mono ?_; rintro ee w' ⟨rfl, hb⟩; replace hq := below_call hq hb; clear hb)
              | (go_at_call 25; with_reducible refine (H.oct a b a d n1 _ (ci c0) (ci c1) (ci c0) (ci c3) f1).mono ?_; rintro ee w' ⟨rfl, hb⟩; replace hq := below_call hq hb; clear hb)
              | (go_at_call 19; with_reducible refine (awake_any H _ (H.keep hE (below_call hL hq))).mono ?_; rintro ee w' ⟨rfl, hb⟩; replace hq := below_call hq hb; clear hb))
          go_wp2_with fail
          go_ret
          exact ⟨rfl, below_call hL hq⟩
      · have z1 : (n1 == 0) = false := beq_eq_false_iff_ne.2 (fun h => h1 (g7.1 h).1)
        have z2 : (a == c) = false := beq_eq_false_iff_ne.2 h1
        clear g7
        go_region_held3 (fun w' => w'.cell? ⟨ga, 0, none⟩ = some (.int .i64 a) ∧ w'.cell? ⟨ga, 1, none⟩ = some (.int .i64 b) ∧ w'.cell? ⟨gb, 0, none⟩ = some (.int .i64 c) ∧ w'.cell? ⟨gb, 1, none⟩ = some (.int .i64 d) ∧ w'.cell? ⟨gs, 0, none⟩ = some (.int .i64 sx) ∧ w'.cell? ⟨gs, 1, none⟩ = some (.int .i64 sy))
          (first | exact ⟨(Ba.below hq).cell 0, (Ba.below hq).cell 1, (Bb.below hq).cell 0, (Bb.below hq).cell 1, (Bs.below hq).cell 0, (Bs.below hq).cell 1⟩)
          (first
            | (go_at_call 20; with_reducible refine (H.step sx sy k a b _ (H.keep hE (below_call hL hq)) (small (by omega)) (small (by omega)) (small (by omega)) q3).mono ?_; rintro ee w' ⟨rfl, hb⟩; replace hq := below_call hq hb; clear hb)
            | (go_at_call 25; with_reducible refine (H.oct a b sx sy _ _ (ci c0) (ci c1) (small (by omega)) (small (by omega)) q1).mono ?_; rintro ee w' ⟨rfl, hb⟩; replace hq := below_call hq hb; clear hb)
            | (go_at_call 27; with_reducible refine (H.cheb a b sx sy 1 _ (ci c0) (ci c1) (small (by omega)) (small (by omega)) q2).mono ?_; rintro ee w' ⟨rfl, hb⟩; replace hq := below_call hq hb; clear hb)
            | (go_at_call 25; with_reducible refine (H.oct a b c d n1 _ (ci c0) (ci c1) (ci c2) (ci c3) f1).mono ?_; rintro ee w' ⟨rfl, hb⟩; replace hq := below_call hq hb; clear hb)
            | (go_at_call 19; with_reducible refine (awake_any H _ (H.keep hE (below_call hL hq))).mono ?_; rintro ee w' ⟨rfl, hb⟩; replace hq := below_call hq hb; clear hb))
        go_wp2_with fail
        go_ret
        exact ⟨rfl, below_call hL hq⟩

end Go.Proofs.YtipfiggifnfljaaDoor
