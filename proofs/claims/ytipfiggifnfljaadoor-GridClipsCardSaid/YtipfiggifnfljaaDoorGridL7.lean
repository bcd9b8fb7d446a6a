/-
  Laws of grid: clipped rectangles.
-/
import Derived.Test.YtipfiggifnfljaaDoorGridLaws
import Derived.Test.YtipfiggifnfljaaDoorGridClipMath
import Derived.Deep.Cut
namespace Go.Proofs.YtipfiggifnfljaaDoor
open Go.RowKit Go.Lib

theorem cell_mod {X a b i : Nat} (h : i = X * b + a) (ha : a < X) : i % X = a ∧ i / X = b := by
  subst h
  rw [Nat.mul_add_mod, Nat.mod_eq_of_lt ha, Nat.mul_add_div (by omega), Nat.div_eq_of_lt ha]
  exact ⟨rfl, by simp⟩
set_option maxRecDepth 100000 in
set_option maxHeartbeats 4000000 in
theorem law_clips {E : World → Prop} (H : GridHave E) (g h x y u v : Int) (w : World) (hE : E w) (g0 : 0 ≤ g) (g1 : g < 256) (h0 : 0 ≤ h) (h1 : h < 256) (ix : I64 x) (iy : I64 y) (iu : I64 u) (iv : I64 v) :
    Calls Tryd.prog 10 #[.int .u8 g, .int .u8 h, .agg #[.int .i64 x, .int .i64 y, .int .i64 u, .int .i64 v]] w fun e w' => e = .returned (.bool true) ∧ Below w.heap.size w w' := by
  obtain ⟨X, hX⟩ := Int.eq_ofNat_of_zero_le (show 0 ≤ g % 32 + 1 by omega)
  obtain ⟨Y, hY⟩ := Int.eq_ofNat_of_zero_le (show 0 ≤ h % 32 + 1 by omega)
  have X1 : 1 ≤ X := by omega
  have X2 : X ≤ 32 := by omega
  have Y1 : 1 ≤ Y := by omega
  have Y2 : Y ≤ 32 := by omega
  have N1 : X * Y ≤ 32 * 32 := Nat.mul_le_mul X2 Y2
  have hcell := fun i => cell_pick X Y i X1 X2 Y2
  have hsame := clip_same X Y ⟨x, y, u, v⟩ X1 X2 Y1 Y2
  have hcount := clip_count X Y ⟨x, y, u, v⟩ X1 X2 Y1 Y2
  obtain ⟨-, -, -, -, -, -, -, -, -, k1, k2, k3, k4, k5, k6, k7, k8⟩ := clip_pick X Y ⟨x, y, u, v⟩ X1 X2 Y1 Y2
  obtain ⟨c1, c2, c3, c4, e0⟩ : ∃ a b c d, Hid (clipv X Y ⟨x, y, u, v⟩ = ⟨a, b, c, d⟩) := ⟨_, _, _, _, hid rfl⟩
  rw [e0.out] at hsame hcount k1 k2 k3 k4 k5 k6 k7 k8
  dsimp only at k1 k2 k3 k4 k5 k6 k7 k8
  have ic1 : I64 c1 := small (by omega)
  have ic2 : I64 c2 := small (by omega)
  have ic3 : I64 c3 := small (by omega)
  have ic4 : I64 c4 := small (by omega)
  obtain ⟨L, eL⟩ : ∃ L, Hid (cellsv ⟨c1, c2, c3, c4⟩ = L) := ⟨_, hid rfl⟩
  rw [eL.out] at hcount
  have hcnt := hid hcount
  have hm : (X : Int) * Y = ((X * Y : Nat) : Int) := by simp
  clear hcount k1 k2 k3 k4 k5 k6 k7 k8
  generalize X * Y = N at *
  have hw2 : IntKind.i64.wrap (N : Int) = N := IntWalk.i64_in _ (by omega)
  have iX : I64 X := small (by omega)
  have iY : I64 Y := small (by omega)
  go_enter Tryd.func10, Tryd.ntmps10
  go_upto_region 2 with fail
  have hT1 := Held1.start w [.int .i64 x, .int .i64 y, .int .i64 u, .int .i64 v] 36
  clear hX hY
  generalize w.alloc (.cells [Value.int .i64 x, .int .i64 y, .int .i64 u, .int .i64 v].toArray 36) = W at *
  obtain ⟨_, _, _, _, -⟩ := hT1.cells4
  go_wp2_with fail
  ((with_reducible refine (H.clip X Y x y u v c1 c2 c3 c4 _ iX iY ix iy iu iv e0).mono ?_); rintro e w1 ⟨rfl, hb⟩)
  replace hT1 := (hT1.call hb).alloc (.cells [Value.int .i64 c1, .int .i64 c2, .int .i64 c3, .int .i64 c4].toArray 36)
  have hT : Held2 w (w1.alloc (.cells [Value.int .i64 c1, .int .i64 c2, .int .i64 c3, .int .i64 c4].toArray 36)) w.heap.size w1.heap.size [.int .i64 x, .int .i64 y, .int .i64 u, .int .i64 v] [.int .i64 c1, .int .i64 c2, .int .i64 c3, .int .i64 c4] 36 36 := ⟨hT1.l, Blk.new w1 _ _, hT1.old⟩
  clear hT1 hb
  go_wp2_with fail
  generalize w1.alloc (.cells [Value.int .i64 c1, .int .i64 c2, .int .i64 c3, .int .i64 c4].toArray 36) = V at *
  generalize w1.heap.size = gc at *
  go_loopw [10, 11] (fun vn vi wr => ∃ i n : Nat, vn = .int .i64 n ∧ vi = .int .i64 i ∧ i ≤ N ∧ n ≤ i ∧ Held2 w wr w.heap.size gc [.int .i64 x, .int .i64 y, .int .i64 u, .int .i64 v] [.int .i64 c1, .int .i64 c2, .int .i64 c3, .int .i64 c4] 36 36 ∧ Hid (n = cnt (fun i => insv ⟨x, y, u, v⟩ (i % X : Nat) (i / X : Nat)) i)) (fun _ vi _ => N - (RowKit.intOf vi).toNat)
  case atStart => exact ⟨0, 0, rfl, rfl, by omega, by omega, hT, hid rfl⟩
  case round =>
    clear hT
    obtain ⟨i, n, rfl, rfl, hi, hn, hT, hF⟩ := hrel
    by_cases hlt : i < N
    · have d1 : (i : Int) < N := by omega
      obtain ⟨a, b, e1, -, -, ha, hb', hab⟩ := hcell i hlt
      have hmod := cell_mod hab ha
      have ia : I64 a := small (by omega)
      have ib : I64 b := small (by omega)
      have ii : I64 i := small (by omega)
      obtain ⟨bb, e2⟩ : ∃ q, Hid (q = insv ⟨x, y, u, v⟩ a b) := ⟨_, hid rfl⟩
      have e3 : Hid (bb = insv ⟨c1, c2, c3, c4⟩ a b) := hid (by rw [hsame a b ha hb', e2.out])
      have hN : Hid ((n + if bb then 1 else 0) = cnt (fun i => insv ⟨x, y, u, v⟩ (i % X : Nat) (i / X : Nat)) (i + 1)) := hid (by
        rw [cnt, ← hF.out, hmod.1, hmod.2, ← e2.out])
      have z1 : (bb != bb) = false := by simp
      have hS := hT.drew.cells44
      clear hcell hsame hF hcnt hmod hab
      go_wp2_with fail
      go_region_held3 (fun w' => w'.cell? ⟨w.heap.size, 0, none⟩ = some (.int .i64 x) ∧ w'.cell? ⟨w.heap.size, 1, none⟩ = some (.int .i64 y) ∧ w'.cell? ⟨w.heap.size, 2, none⟩ = some (.int .i64 u) ∧ w'.cell? ⟨w.heap.size, 3, none⟩ = some (.int .i64 v) ∧ w'.cell? ⟨gc, 0, none⟩ = some (.int .i64 c1) ∧ w'.cell? ⟨gc, 1, none⟩ = some (.int .i64 c2) ∧ w'.cell? ⟨gc, 2, none⟩ = some (.int .i64 c3) ∧ w'.cell? ⟨gc, 3, none⟩ = some (.int .i64 c4) ∧ Held2 w w' w.heap.size gc [.int .i64 x, .int .i64 y, .int .i64 u, .int .i64 v] [.int .i64 c1, .int .i64 c2, .int .i64 c3, .int .i64 c4] 36 36)
        (first | exact hS | exact Held2.call44 (by assumption) (by assumption) | assumption)
        (first
          | (go_at_call 17; with_reducible refine (H.at_ X i a b _ iX ii e1).mono ?_; rintro e w' ⟨rfl, hb⟩)
          | (go_at_call 29; with_reducible refine (H.inside x y u v a b bb _ ix iy iu iv ia ib e2).mono ?_; rintro e w' ⟨rfl, hb⟩))
      rename_i hH
      have hT2 := hH.2.2.2.2.2.2.2.2
      have hS2 := hT2.drew.cells44
      clear hS hH hT
      cases bb with
      | true =>
        go_wp2_with fail
        go_region_held3 (fun w' => w'.cell? ⟨w.heap.size, 0, none⟩ = some (.int .i64 x) ∧ w'.cell? ⟨w.heap.size, 1, none⟩ = some (.int .i64 y) ∧ w'.cell? ⟨w.heap.size, 2, none⟩ = some (.int .i64 u) ∧ w'.cell? ⟨w.heap.size, 3, none⟩ = some (.int .i64 v) ∧ w'.cell? ⟨gc, 0, none⟩ = some (.int .i64 c1) ∧ w'.cell? ⟨gc, 1, none⟩ = some (.int .i64 c2) ∧ w'.cell? ⟨gc, 2, none⟩ = some (.int .i64 c3) ∧ w'.cell? ⟨gc, 3, none⟩ = some (.int .i64 c4) ∧ Held2 w w' w.heap.size gc [.int .i64 x, .int .i64 y, .int .i64 u, .int .i64 v] [.int .i64 c1, .int .i64 c2, .int .i64 c3, .int .i64 c4] 36 36)
          (first | exact hS2 | exact Held2.call44 (by assumption) (by assumption) | assumption)
          (first
            | (go_at_call 17; with_reducible refine (H.at_ X i a b _ iX ii e1).mono ?_; rintro e w' ⟨rfl, hb⟩)
            | (go_at_call 29; with_reducible refine (H.inside x y u v a b true _ ix iy iu iv ia ib e2).mono ?_; rintro e w' ⟨rfl, hb⟩)
            | (go_at_call 29; with_reducible refine (H.inside c1 c2 c3 c4 a b true _ ic1 ic2 ic3 ic4 ia ib e3).mono ?_; rintro e w' ⟨rfl, hb⟩))
        rename_i hH
        have hT3 := hH.2.2.2.2.2.2.2.2
        clear hS2 hH hT2
        go_wp2_with fail
        go_roundw
        case rel => exact ⟨i + 1, n + 1, by go_num, by go_num, by omega, by omega, hT3, hN⟩
        case measure => simp [RowKit.intOf]; omega
      | false =>
        go_wp2_with fail
        go_region_held3 (fun w' => w'.cell? ⟨w.heap.size, 0, none⟩ = some (.int .i64 x) ∧ w'.cell? ⟨w.heap.size, 1, none⟩ = some (.int .i64 y) ∧ w'.cell? ⟨w.heap.size, 2, none⟩ = some (.int .i64 u) ∧ w'.cell? ⟨w.heap.size, 3, none⟩ = some (.int .i64 v) ∧ w'.cell? ⟨gc, 0, none⟩ = some (.int .i64 c1) ∧ w'.cell? ⟨gc, 1, none⟩ = some (.int .i64 c2) ∧ w'.cell? ⟨gc, 2, none⟩ = some (.int .i64 c3) ∧ w'.cell? ⟨gc, 3, none⟩ = some (.int .i64 c4) ∧ Held2 w w' w.heap.size gc [.int .i64 x, .int .i64 y, .int .i64 u, .int .i64 v] [.int .i64 c1, .int .i64 c2, .int .i64 c3, .int .i64 c4] 36 36)
          (first | exact hS2 | exact Held2.call44 (by assumption) (by assumption) | assumption)
          (first
            | (go_at_call 17; with_reducible refine (H.at_ X i a b _ iX ii e1).mono ?_; rintro e w' ⟨rfl, hb⟩)
            | (go_at_call 29; with_reducible refine (H.inside x y u v a b false _ ix iy iu iv ia ib e2).mono ?_; rintro e w' ⟨rfl, hb⟩)
            | (go_at_call 29; with_reducible refine (H.inside c1 c2 c3 c4 a b false _ ic1 ic2 ic3 ic4 ia ib e3).mono ?_; rintro e w' ⟨rfl, hb⟩))
        rename_i hH
        have hT3 := hH.2.2.2.2.2.2.2.2
        clear hS2 hH hT2
        go_wp2_with fail
        go_roundw
        case rel => exact ⟨i + 1, n, by go_num, rfl, by omega, by omega, hT3, hN⟩
        case measure => simp [RowKit.intOf]; omega
    · obtain rfl : i = N := by omega
      have hl : L.length = n := by rw [← hcnt.out, ← hF.out]
      clear hcell hsame hF hcnt
      obtain ⟨_, _, _, _, -, -, -, -⟩ := hT.r.four
      go_wp2_with fail
      ((with_reducible refine (H.cells c1 c2 c3 c4 L _ ic1 ic2 ic3 ic4 eL).mono ?_); rintro e w2 ⟨s, rfl, o1, hb⟩)
      replace hT := hT.call hb
      clear hb
      obtain ⟨q, c, rfl⟩ : ∃ p c, s = .slice p L.length c := by
        rcases o1.2 with ⟨rfl, e⟩ | ⟨g, cap, cur, rfl, _⟩
        · exact ⟨_, _, by rw [e]⟩
        · exact ⟨_, _, rfl⟩
      rw [hl]
      clear o1
      go_wp2_with fail
      ((with_reducible refine (awake_any H _ (H.keep hE hT.old)).mono ?_); rintro e w3 ⟨rfl, hb⟩)
      replace hT := hT.call hb
      go_wp2_with fail
      go_ret
      exact ⟨rfl, hT.old⟩

end Go.Proofs.YtipfiggifnfljaaDoor
