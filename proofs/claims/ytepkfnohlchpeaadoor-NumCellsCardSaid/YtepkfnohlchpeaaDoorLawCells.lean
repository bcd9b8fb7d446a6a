/-
  NumCells answers true for all ints.
-/
import Derived.Test.YtepkfnohlchpeaaDoorLawDivides
namespace Go.Proofs.YtepkfnohlchpeaaDoor
open Go.RowKit Go.Lib

theorem rcell_n (x : Int) (w : World) (ha0 : -9223372036854775808 ≤ x) (ha1 : x ≤ 9223372036854775807) :
    Calls Tryd.prog 19 #[.int .i64 x] w fun e w' => e = .returned (.int .i64 (x / 256)) ∧ Below w.heap.size w w' :=
  (rcell_any x w ha0 ha1).mono fun e w' ⟨he, n, hw⟩ => ⟨he, by rw [hw]; exact drewN_below n⟩
theorem center_n (x C : Int) (w : World) (ha0 : -9223372036854775808 ≤ x) (ha1 : x ≤ 9223372036854775807) (hC : Hid (C = centerv x)) :
    Calls Tryd.prog 20 #[.int .i64 x] w fun e w' => e = .returned (.int .i64 C) ∧ w = w' := by
  rw [hC.out]; exact center_any x w ha0 ha1
theorem rcenter_n (x C : Int) (w : World) (ha0 : -9223372036854775808 ≤ x) (ha1 : x ≤ 9223372036854775807) (hC : Hid (C = centerv x)) :
    Calls Tryd.prog 21 #[.int .i64 x] w fun e w' => e = .returned (.int .i64 C) ∧ w = w' := by
  rw [hC.out]; exact rcenter_any x w ha0 ha1

set_option maxHeartbeats 2000000 in
theorem cells_gtr (x y C1 C2 D : Int) (w : World) (hE : Hid (Env w)) (hx0 : -9223372036854775808 ≤ x) (hx1 : x ≤ 9223372036854775807) (h1 : Hid (C1 = centerv x)) (h2 : Hid (C2 = centerv (x / 256))) (h3 : Hid (D = centerv (x / 512)))
    (hD : D / 256 = x / 512) (hxy : y < x) :
    Calls Tryd.prog 7 #[.int .i64 x, .int .i64 y] w fun e w' => e = .returned (.bool true) ∧ Below w.heap.size w w' := by
  go_enter Tryd.func7, Tryd.ntmps7
  go_wp2_with fail
  ((with_reducible refine (cell_any x _).mono ?_); rintro e w' ⟨rfl, rfl⟩)
  go_wp2_with fail
  ((with_reducible refine (rcell_n x _ hx0 hx1).mono ?_); rintro e w1 ⟨rfl, hb1⟩)
  have HB := Lib.hid hb1
  have HE := Lib.hid (hE.out.below hb1 hE.out.big)
  clear hb1
  go_wp2_with fail
  ((with_reducible refine (center_n x C1 _ hx0 hx1 h1).mono ?_); rintro e w' ⟨rfl, rfl⟩)
  go_wp2_with fail
  ((with_reducible refine (rcenter_n x C1 _ hx0 hx1 h1).mono ?_); rintro e w' ⟨rfl, rfl⟩)
  go_wp2_with fail
  ((with_reducible refine (center_n (x / 256) C2 _ (by omega) (by omega) h2).mono ?_); rintro e w' ⟨rfl, rfl⟩)
  go_wp2_with fail
  ((with_reducible refine (rcenter_n (x / 256) C2 _ (by omega) (by omega) h2).mono ?_); rintro e w' ⟨rfl, rfl⟩)
  go_wp2_with fail
  ((with_reducible refine (center_n (x / 512) D _ (by omega) (by omega) h3).mono ?_); rintro e w' ⟨rfl, rfl⟩)
  go_wp2_with fail
  ((with_reducible refine (cell_any D _).mono ?_); rintro e w' ⟨rfl, rfl⟩)
  go_wp2_with fail
  ((with_reducible refine (awake_any _ HE).mono ?_); rintro e w2 ⟨rfl, hb2⟩)
  have HB2 := Lib.hid (HB.out.trans (hb2.mono HB.out.size))
  clear hb2
  go_wp2_with fail
  go_ret
  exact ⟨rfl, HB2.out⟩

set_option maxHeartbeats 2000000 in
theorem cells_leq (x y C1 C2 D : Int) (w : World) (hE : Hid (Env w)) (hx0 : -9223372036854775808 ≤ x) (hx1 : x ≤ 9223372036854775807) (h1 : Hid (C1 = centerv x)) (h2 : Hid (C2 = centerv (x / 256))) (h3 : Hid (D = centerv (x / 512)))
    (hD : D / 256 = x / 512) (hxy : x ≤ y) (hq : decide (x / 256 ≤ y / 256) = true) :
    Calls Tryd.prog 7 #[.int .i64 x, .int .i64 y] w fun e w' => e = .returned (.bool true) ∧ Below w.heap.size w w' := by
  go_enter Tryd.func7, Tryd.ntmps7
  go_wp2_with fail
  ((with_reducible refine (cell_any x _).mono ?_); rintro e w' ⟨rfl, rfl⟩)
  go_wp2_with fail
  ((with_reducible refine (rcell_n x _ hx0 hx1).mono ?_); rintro e w1 ⟨rfl, hb1⟩)
  have HB := Lib.hid hb1
  have HE := Lib.hid (hE.out.below hb1 hE.out.big)
  clear hb1
  go_wp2_with fail
  ((with_reducible refine (center_n x C1 _ hx0 hx1 h1).mono ?_); rintro e w' ⟨rfl, rfl⟩)
  go_wp2_with fail
  ((with_reducible refine (rcenter_n x C1 _ hx0 hx1 h1).mono ?_); rintro e w' ⟨rfl, rfl⟩)
  go_wp2_with fail
  ((with_reducible refine (center_n (x / 256) C2 _ (by omega) (by omega) h2).mono ?_); rintro e w' ⟨rfl, rfl⟩)
  go_wp2_with fail
  ((with_reducible refine (rcenter_n (x / 256) C2 _ (by omega) (by omega) h2).mono ?_); rintro e w' ⟨rfl, rfl⟩)
  go_wp2_with fail
  ((with_reducible refine (cell_any x _).mono ?_); rintro e w' ⟨rfl, rfl⟩)
  go_wp2_with fail
  ((with_reducible refine (cell_any y _).mono ?_); rintro e w' ⟨rfl, rfl⟩)
  go_wp2_with fail
  ((with_reducible refine (center_n (x / 512) D _ (by omega) (by omega) h3).mono ?_); rintro e w' ⟨rfl, rfl⟩)
  go_wp2_with fail
  ((with_reducible refine (cell_any D _).mono ?_); rintro e w' ⟨rfl, rfl⟩)
  go_wp2_with fail
  ((with_reducible refine (awake_any _ HE).mono ?_); rintro e w2 ⟨rfl, hb2⟩)
  have HB2 := Lib.hid (HB.out.trans (hb2.mono HB.out.size))
  clear hb2
  go_wp2_with fail
  go_ret
  exact ⟨rfl, HB2.out⟩

theorem cells_any (x y : Int) (w : World) (hE : Env w) (hx0 : -9223372036854775808 ≤ x) (hx1 : x ≤ 9223372036854775807) (_hy0 : -9223372036854775808 ≤ y) (_hy1 : y ≤ 9223372036854775807) :
    Calls Tryd.prog 7 #[.int .i64 x, .int .i64 y] w fun e w' => e = .returned (.bool true) ∧ Below w.heap.size w w' := by
  have hD : centerv (x / 512) / 256 = x / 512 := by
    rw [← centerv_in (x := x / 512) (by omega) (by omega)]; omega
  by_cases h : y < x
  · exact cells_gtr x y _ _ _ w (Lib.hid hE) hx0 hx1 (Lib.hid rfl) (Lib.hid rfl) (Lib.hid rfl) hD h
  · exact cells_leq x y _ _ _ w (Lib.hid hE) hx0 hx1 (Lib.hid rfl) (Lib.hid rfl) (Lib.hid rfl) hD (by omega) (decide_eq_true (by omega))

end Go.Proofs.YtepkfnohlchpeaaDoor
