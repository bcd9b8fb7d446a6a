/-
  Laws of grid: steps.
-/
import Derived.Test.YtipfiggifnfljaaDoorGridLaws
namespace Go.Proofs.YtipfiggifnfljaaDoor
open Go.RowKit Go.Lib

set_option maxRecDepth 100000 in
set_option maxHeartbeats 4000000 in
theorem law_steps {E : World → Prop} (H : GridHave E) (w h x y : Int) (W : World) (hE : E W) (iw : I64 w) (ih : I64 h) (ix : I64 x) (iy : I64 y) :
    Calls Tryd.prog 4 #[.int .i64 w, .int .i64 h, .agg #[.int .i64 x, .int .i64 y]] W fun e w' => e = .returned (.bool true) ∧ Below W.heap.size W w' := by
  obtain ⟨x1, y1, e1⟩ : ∃ a b, Hid (a = stx x w ∧ b = sty y w) := ⟨_, _, hid ⟨rfl, rfl⟩⟩
  obtain ⟨L, e2⟩ : ∃ L, Hid (neiv w h x y = L) := ⟨_, hid rfl⟩
  have hm : L.length ≤ maxLen := by have := neiv_len w h x y; rw [e2.out] at this; unfold maxLen; omega
  go_enter Tryd.func4, Tryd.ntmps4
  go_wp2_with fail
  have hT := Held1.start W [.int .i64 x, .int .i64 y] 23
  go_loopw [7] (fun vd wr => ∃ k : Nat, vd = .int .i64 ((k : Int) - 1) ∧ k ≤ 10 ∧ Held1 W wr W.heap.size [.int .i64 x, .int .i64 y] 23) (fun vd _ => (9 - RowKit.intOf vd).toNat)
  case atStart => exact ⟨0, rfl, by omega, hT⟩
  case round =>
    clear hT
    obtain ⟨k, rfl, hk, hT⟩ := hrel
    have hS := hT.drew.cells2
    by_cases hlt : k < 10
    · have d1 : (k : Int) - 1 ≤ 8 := by omega
      obtain ⟨x2, y2, e3⟩ : ∃ a b, Hid (a = stx x ((k : Int) - 1) ∧ b = sty y ((k : Int) - 1)) := ⟨_, _, hid ⟨rfl, rfl⟩⟩
      have id : I64 ((k : Int) - 1) := small (by omega)
      go_wp2_with fail
      go_region_held3 (fun w' => w'.cell? ⟨W.heap.size, 0, none⟩ = some (.int .i64 x) ∧ w'.cell? ⟨W.heap.size, 1, none⟩ = some (.int .i64 y) ∧ Held1 W w' W.heap.size [.int .i64 x, .int .i64 y] 23)
        (first | exact hS | exact Held1.call2 (by assumption) (by assumption) | assumption)
        (first
          | (go_at_call 20; with_reducible refine (H.step x y _ x2 y2 _ (H.keep hE (Held1.env2 (by assumption))) ix iy id e3).mono ?_; rintro e w' ⟨rfl, hb⟩)
          | (go_at_call 21; with_reducible refine (sstep_n x y _ x2 y2 _ e3).mono ?_; rintro e w' ⟨rfl, hb⟩))
      rename_i hH
      replace hH := hH.2.2
      clear hS hT
      go_wp2_with fail
      go_roundw
      case rel => exact ⟨k + 1, by go_num, by omega, hH⟩
      case measure => simp [RowKit.intOf]; omega
    · obtain rfl : k = 10 := by omega
      go_wp2_with fail
      go_region_held3 (fun w' => w'.cell? ⟨W.heap.size, 0, none⟩ = some (.int .i64 x) ∧ w'.cell? ⟨W.heap.size, 1, none⟩ = some (.int .i64 y) ∧ Held1 W w' W.heap.size [.int .i64 x, .int .i64 y] 23)
        (first | exact hS | exact Held1.call2 (by assumption) (by assumption) | assumption)
        (first
          | (go_at_call 20; with_reducible refine (H.step x y w x1 y1 _ (H.keep hE (Held1.env2 (by assumption))) ix iy iw e1).mono ?_; rintro e w' ⟨rfl, hb⟩)
          | (go_at_call 21; with_reducible refine (sstep_n x y w x1 y1 _ e1).mono ?_; rintro e w' ⟨rfl, hb⟩)
          | (go_at_call 23; with_reducible refine (H.nei w h x y L _ (H.keep hE (Held1.env2 (by assumption))) iw ih ix iy e2).mono ?_; rintro e w' ⟨s1, rfl, o1, hb⟩)
          | (go_at_call 24; with_reducible refine (snei_n w h x y L _ e2).mono ?_; rintro e w' ⟨s2, rfl, o2, hb⟩; have o3 := own_below o1 hb)
          | (go_at_call 22; with_reducible refine (rsame_t _ L _ _ _ _ hm o3 o2).mono ?_; rintro e w' ⟨rfl, hb⟩)
          | (go_at_call 19; with_reducible refine (awake_any H _ (H.keep hE (Held1.env2 (by assumption)))).mono ?_; rintro e w' ⟨rfl, hb⟩))
      rename_i hH
      go_wp2_with fail
      go_ret
      exact ⟨rfl, hH.2.2.old⟩

end Go.Proofs.YtipfiggifnfljaaDoor
