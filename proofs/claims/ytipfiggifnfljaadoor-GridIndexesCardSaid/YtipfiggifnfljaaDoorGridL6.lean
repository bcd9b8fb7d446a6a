/-
  Laws of grid: indexes.
-/
import Derived.Test.YtipfiggifnfljaaDoorGridLaws
import Derived.Test.YtipfiggifnfljaaDoorGridIdxMath
import Derived.Deep.Cut
namespace Go.Proofs.YtipfiggifnfljaaDoor
open Go.RowKit Go.Lib

set_option maxRecDepth 100000 in
set_option maxHeartbeats 4000000 in
theorem law_indexes {E : World → Prop} (H : GridHave E) (g h x y : Int) (w : World) (hE : E w) (g0 : 0 ≤ g) (g1 : g < 256) (h0 : 0 ≤ h) (h1 : h < 256) (ix : I64 x) (iy : I64 y) :
    Calls Tryd.prog 9 #[.int .u8 g, .int .u8 h, .agg #[.int .i64 x, .int .i64 y]] w fun e w' => e = .returned (.bool true) ∧ Below w.heap.size w w' := by
  obtain ⟨X, hX⟩ := Int.eq_ofNat_of_zero_le (show 0 ≤ g % 32 + 1 by omega)
  obtain ⟨Y, hY⟩ := Int.eq_ofNat_of_zero_le (show 0 ≤ h % 32 + 1 by omega)
  have X1 : 1 ≤ X := by omega
  have X2 : X ≤ 32 := by omega
  have Y1 : 1 ≤ Y := by omega
  have Y2 : Y ≤ 32 := by omega
  have N1 : X * Y ≤ 32 * 32 := Nat.mul_le_mul X2 Y2
  have hcell := fun i => cell_pick X Y i X1 X2 Y2
  have hidx := index_pick X Y x y X1 X2 Y2
  have hm : (X : Int) * Y = ((X * Y : Nat) : Int) := by simp
  generalize X * Y = N at *
  have hw2 : IntKind.i64.wrap (N : Int) = N := IntWalk.i64_in _ (by omega)
  have iX : I64 X := small (by omega)
  have iY : I64 Y := small (by omega)
  have hw : IntKind.i64.wrap ((X : Int) * Y) = (X : Int) * Y := IntWalk.i64_in _ (by rw [hm]; omega)
  go_enter Tryd.func9, Tryd.ntmps9
  go_upto_region 2 with fail
  have hT := Held1.start w [.int .i64 x, .int .i64 y] 23
  clear hX hY
  generalize w.alloc (.cells [Value.int .i64 x, .int .i64 y].toArray 23) = W at *
  go_wp2_with fail
  go_loopw [9] (fun vi wr => ∃ i : Nat, vi = .int .i64 i ∧ i ≤ N ∧ Held1 w wr w.heap.size [.int .i64 x, .int .i64 y] 23) (fun vi _ => N - (RowKit.intOf vi).toNat)
  case atStart => exact ⟨0, rfl, by omega, hT⟩
  case round =>
    clear hT
    obtain ⟨i, rfl, hi, hT⟩ := hrel
    by_cases hlt : i < N
    · have d1 : (i : Int) < N := by omega
      obtain ⟨a, b, e1, e2, e3, ha, hb', -⟩ := hcell i hlt
      have ia : I64 a := small (by omega)
      have ib : I64 b := small (by omega)
      have z1 : ((i : Int) != i) = false := by simp
      clear hcell hidx
      go_wp2_with fail
      ((with_reducible refine (H.at_ X i a b _ iX (small (by omega)) e1).mono ?_); rintro e w1 ⟨rfl, hb⟩)
      replace hT := (hT.call hb).alloc (.cells [Value.int .i64 a, .int .i64 b].toArray 23)
      have B := Blk.new w1 [.int .i64 a, .int .i64 b] 23
      clear hb
      obtain ⟨_, _, -, -⟩ := B.two
      go_wp2_with fail
      ((with_reducible refine (H.inn X Y a b true _ iX iY ia ib e2).mono ?_); rintro e w2 ⟨rfl, hb⟩)
      replace hT := hT.call hb
      replace B := B.below hb
      clear hb
      obtain ⟨_, _, -, -⟩ := B.two
      go_wp2_with fail
      ((with_reducible refine (H.index X a b i _ iX ia ib e3).mono ?_); rintro e w3 ⟨rfl, hb⟩)
      replace hT := hT.call hb
      clear hb B
      go_wp2_with fail
      go_roundw
      case rel => exact ⟨i + 1, by go_num, by omega, hT⟩
      case measure => simp [RowKit.intOf]; omega
    · obtain rfl : i = N := by omega
      clear hcell
      obtain ⟨bo, e1⟩ : ∃ b, Hid (b = inv X Y x y) := ⟨_, hid rfl⟩
      obtain ⟨_, _, -, -⟩ := hT.l.two
      cases bo with
      | false =>
        go_wp2_with fail
        ((with_reducible refine (H.inn X Y x y false _ iX iY ix iy e1).mono ?_); rintro e w1 ⟨rfl, hb⟩)
        replace hT := hT.call hb
        clear hb
        go_wp2_with fail
        ((with_reducible refine (awake_any H _ (H.keep hE hT.old)).mono ?_); rintro e w2 ⟨rfl, hb⟩)
        replace hT := hT.call hb
        go_wp2_with fail
        go_ret
        exact ⟨rfl, hT.old⟩
      | true =>
        obtain ⟨n, e2, hn, e3⟩ := hidx e1.out.symm
        go_wp2_with fail
        ((with_reducible refine (H.inn X Y x y true _ iX iY ix iy e1).mono ?_); rintro e w1 ⟨rfl, hb⟩)
        replace hT := hT.call hb
        clear hb
        obtain ⟨_, _, -, -⟩ := hT.l.two
        go_wp2_with fail
        ((with_reducible refine (H.index X x y n _ iX ix iy e2).mono ?_); rintro e w2 ⟨rfl, hb⟩)
        replace hT := hT.call hb
        clear hb
        have z1 : decide ((0 : Int) ≤ n) = true := decide_eq_true (by omega)
        have z2 : decide ((n : Int) < i) = true := decide_eq_true (by omega)
        have z3 : decide (n < i) = true := decide_eq_true (by omega)
        have z4 : n < i := by omega
        have hS := hT.drew.cells2
        go_wp2_with fail
        go_region_held3 (fun w' => w'.cell? ⟨w.heap.size, 0, none⟩ = some (.int .i64 x) ∧ w'.cell? ⟨w.heap.size, 1, none⟩ = some (.int .i64 y) ∧ Held1 w w' w.heap.size [.int .i64 x, .int .i64 y] 23)
          (first | exact hS | exact Held1.call2 (by assumption) (by assumption) | assumption)
          (first
            | (go_at_call 17; with_reducible refine (H.at_ X n x y _ iX (small (by omega)) e3).mono ?_; rintro e w' ⟨rfl, hb⟩)
            | (go_at_call 19; with_reducible refine (awake_any H _ (H.keep hE (Held1.env2 (by assumption)))).mono ?_; rintro e w' ⟨rfl, hb⟩))
        rename_i hH
        go_wp2_with fail
        go_ret
        exact ⟨rfl, hH.2.2.old⟩

end Go.Proofs.YtipfiggifnfljaaDoor
