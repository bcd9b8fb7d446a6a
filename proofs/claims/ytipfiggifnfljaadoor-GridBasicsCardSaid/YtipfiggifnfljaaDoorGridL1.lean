/-
  Laws of grid: basics, distances.
-/
import Derived.Test.YtipfiggifnfljaaDoorGridLaws
namespace Go.Proofs.YtipfiggifnfljaaDoor
open Go.RowKit Go.Lib

set_option maxRecDepth 100000 in
set_option maxHeartbeats 4000000 in
theorem law_basics {E : World → Prop} (H : GridHave E) (w h x y : Int) (W : World) (hE : E W) (iw : I64 w) (ih : I64 h) (ix : I64 x) (iy : I64 y) :
    Calls Tryd.prog 3 #[.int .i64 w, .int .i64 h, .agg #[.int .i64 x, .int .i64 y]] W fun e w' => e = .returned (.bool true) ∧ Below W.heap.size W w' := by
  obtain ⟨b1, e1⟩ : ∃ b, Hid (b = validv w h) := ⟨_, hid rfl⟩
  obtain ⟨b2, e2⟩ : ∃ b, Hid (b = inv w h x y) := ⟨_, hid rfl⟩
  obtain ⟨n3, e3⟩ : ∃ n, Hid (n = indexv w x y) := ⟨_, hid rfl⟩
  obtain ⟨x4, y4, e4⟩ : ∃ a b, Hid (a = atx w h ∧ b = aty w h) := ⟨_, _, hid ⟨rfl, rfl⟩⟩
  obtain ⟨x5, y5, e5⟩ : ∃ a b, Hid (a = atx h x ∧ b = aty h x) := ⟨_, _, hid ⟨rfl, rfl⟩⟩
  go_enter Tryd.func3, Tryd.ntmps3
  go_wp2_with fail
  have hS := (Held1.start W [.int .i64 x, .int .i64 y] 23).drew.cells2
  go_region_held3 (fun w' => w'.cell? ⟨W.heap.size, 0, none⟩ = some (.int .i64 x) ∧ w'.cell? ⟨W.heap.size, 1, none⟩ = some (.int .i64 y) ∧ Held1 W w' W.heap.size [.int .i64 x, .int .i64 y] 23)
    (first | exact hS | exact Held1.call2 (by assumption) (by assumption) | assumption)
    (first
      | (go_at_call 11; with_reducible refine (H.valid w h b1 _ iw ih e1).mono ?_; rintro e w' ⟨rfl, hb⟩)
      | (go_at_call 12; with_reducible refine (sval_n w h b1 _ e1).mono ?_; rintro e w' ⟨rfl, hb⟩)
      | (go_at_call 13; with_reducible refine (H.inn w h x y b2 _ iw ih ix iy e2).mono ?_; rintro e w' ⟨rfl, hb⟩)
      | (go_at_call 14; with_reducible refine (sin_n w h x y b2 _ e2).mono ?_; rintro e w' ⟨rfl, hb⟩)
      | (go_at_call 15; with_reducible refine (H.index w x y n3 _ iw ix iy e3).mono ?_; rintro e w' ⟨rfl, hb⟩)
      | (go_at_call 16; with_reducible refine (sindex_n w x y n3 _ e3).mono ?_; rintro e w' ⟨rfl, hb⟩)
      | (go_at_call 17; with_reducible refine (H.at_ w h x4 y4 _ iw ih e4).mono ?_; rintro e w' ⟨rfl, hb⟩)
      | (go_at_call 17; with_reducible refine (H.at_ h x x5 y5 _ ih ix e5).mono ?_; rintro e w' ⟨rfl, hb⟩)
      | (go_at_call 18; with_reducible refine (sat_n w h x4 y4 _ ih e4).mono ?_; rintro e w' ⟨rfl, hb⟩)
      | (go_at_call 18; with_reducible refine (sat_n h x x5 y5 _ ix e5).mono ?_; rintro e w' ⟨rfl, hb⟩)
      | (go_at_call 19; with_reducible refine (awake_any H _ (H.keep hE (Held1.env2 (by assumption)))).mono ?_; rintro e w' ⟨rfl, hb⟩))
  rename_i hH
  go_wp2_with fail
  go_ret
  exact ⟨rfl, hH.2.2.old⟩

set_option maxRecDepth 100000 in
set_option maxHeartbeats 4000000 in
theorem law_distances {E : World → Prop} (H : GridHave E) (x y u v : Int) (W : World) (hE : E W) (ix : I64 x) (iy : I64 y) (iu : I64 u) (iv : I64 v) :
    Calls Tryd.prog 5 #[.agg #[.int .i64 x, .int .i64 y], .agg #[.int .i64 u, .int .i64 v]] W fun e w' => e = .returned (.bool true) ∧ Below W.heap.size W w' := by
  obtain ⟨n1, e1⟩ : ∃ n, Hid (n = octv x y u v) := ⟨_, hid rfl⟩
  obtain ⟨n2, e2⟩ : ∃ n, Hid (n = chebv x y u v) := ⟨_, hid rfl⟩
  go_enter Tryd.func5, Tryd.ntmps5
  go_wp2_with fail
  have hS := (Held2.start W [.int .i64 x, .int .i64 y] [.int .i64 u, .int .i64 v] 23 23).drew.cells22
  go_region_held3 (fun w' => w'.cell? ⟨W.heap.size, 0, none⟩ = some (.int .i64 x) ∧ w'.cell? ⟨W.heap.size, 1, none⟩ = some (.int .i64 y) ∧ w'.cell? ⟨W.heap.size + 1, 0, none⟩ = some (.int .i64 u) ∧ w'.cell? ⟨W.heap.size + 1, 1, none⟩ = some (.int .i64 v) ∧ Held2 W w' W.heap.size (W.heap.size + 1) [.int .i64 x, .int .i64 y] [.int .i64 u, .int .i64 v] 23 23)
    (first | exact hS | exact Held2.call22 (by assumption) (by assumption) | assumption)
    (first
      | (go_at_call 25; with_reducible refine (H.oct x y u v n1 _ ix iy iu iv e1).mono ?_; rintro e w' ⟨rfl, hb⟩)
      | (go_at_call 26; with_reducible refine (soct_n x y u v n1 _ e1).mono ?_; rintro e w' ⟨rfl, hb⟩)
      | (go_at_call 27; with_reducible refine (H.cheb x y u v n2 _ ix iy iu iv e2).mono ?_; rintro e w' ⟨rfl, hb⟩)
      | (go_at_call 28; with_reducible refine (scheb_n x y u v n2 _ e2).mono ?_; rintro e w' ⟨rfl, hb⟩)
      | (go_at_call 19; with_reducible refine (awake_any H _ (H.keep hE (Held2.env22 (by assumption)))).mono ?_; rintro e w' ⟨rfl, hb⟩))
  rename_i hH
  go_wp2_with fail
  go_ret
  exact ⟨rfl, hH.2.2.2.2.old⟩

end Go.Proofs.YtipfiggifnfljaaDoor
