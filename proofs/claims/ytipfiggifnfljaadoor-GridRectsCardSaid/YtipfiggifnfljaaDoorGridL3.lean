/-
  Laws of grid: rectangles.
-/
import Derived.Test.YtipfiggifnfljaaDoorGridLaws
namespace Go.Proofs.YtipfiggifnfljaaDoor
open Go.RowKit Go.Lib

theorem low422 {W w' : World} {b c d : Nat} {p q x y u v m n : Value} {t s r : TypeId} (hl : Blk W b [p, q, x, y] t) (hm : Blk W c [u, v] s) (hr : Blk W d [m, n] r) (h : Below W.heap.size W w') :
    w'.cell? ⟨b, 0, none⟩ = some p ∧ w'.cell? ⟨b, 1, none⟩ = some q ∧ w'.cell? ⟨b, 2, none⟩ = some x ∧ w'.cell? ⟨b, 3, none⟩ = some y ∧ w'.cell? ⟨c, 0, none⟩ = some u ∧ w'.cell? ⟨c, 1, none⟩ = some v ∧ w'.cell? ⟨d, 0, none⟩ = some m ∧ w'.cell? ⟨d, 1, none⟩ = some n :=
  ⟨(hl.below h).cell 0, (hl.below h).cell 1, (hl.below h).cell 2, (hl.below h).cell 3, (hm.below h).cell 0, (hm.below h).cell 1, (hr.below h).cell 0, (hr.below h).cell 1⟩
set_option maxRecDepth 100000 in
set_option maxHeartbeats 4000000 in
theorem law_rects {E : World → Prop} (H : GridHave E) (x y u v p q g h : Int) (w : World) (hE : E w) (ix : I64 x) (iy : I64 y) (iu : I64 u) (iv : I64 v) (ip : I64 p) (iq : I64 q) (ig : I64 g) (ih : I64 h) :
    Calls Tryd.prog 6 #[.agg #[.int .i64 x, .int .i64 y, .int .i64 u, .int .i64 v], .agg #[.int .i64 p, .int .i64 q], .agg #[.int .i64 g, .int .i64 h]] w fun e w' => e = .returned (.bool true) ∧ Below w.heap.size w w' := by
  obtain ⟨b1, e1⟩ : ∃ b, Hid (b = insv ⟨x, y, u, v⟩ p q) := ⟨_, hid rfl⟩
  obtain ⟨c1, c2, c3, c4, e2⟩ : ∃ a b c d, Hid (clipv g h ⟨x, y, u, v⟩ = ⟨a, b, c, d⟩) := ⟨_, _, _, _, hid rfl⟩
  obtain ⟨L, e3⟩ : ∃ L, Hid (cellsv ⟨x, y, u, v⟩ = L) := ⟨_, hid rfl⟩
  have hm : L.length ≤ maxLen := by have := cellsv_len ⟨x, y, u, v⟩; rw [e3.out] at this; unfold maxLen; omega
  go_enter Tryd.func6, Tryd.ntmps6
  go_upto_region 1 with fail
  have B1 := ((Blk.new w [.int .i64 x, .int .i64 y, .int .i64 u, .int .i64 v] 36).alloc (.cells [Value.int .i64 p, .int .i64 q].toArray 23)).alloc (.cells [Value.int .i64 g, .int .i64 h].toArray 37)
  have B2 := ((Blk.new (w.alloc (.cells [Value.int .i64 x, .int .i64 y, .int .i64 u, .int .i64 v].toArray 36)) [.int .i64 p, .int .i64 q] 23).at (World.size_alloc _ _)).alloc (.cells [Value.int .i64 g, .int .i64 h].toArray 37)
  have B3 := (Blk.new ((w.alloc (.cells [Value.int .i64 x, .int .i64 y, .int .i64 u, .int .i64 v].toArray 36)).alloc (.cells [Value.int .i64 p, .int .i64 q].toArray 23)) [.int .i64 g, .int .i64 h] 37).at ((World.size_alloc _ _).trans (congrArg (· + 1) (World.size_alloc _ _)))
  have hL := (((Below.refl w.heap.size w).alloc (Nat.le_refl _) (.cells [Value.int .i64 x, .int .i64 y, .int .i64 u, .int .i64 v].toArray 36)).alloc (by simp) (.cells [Value.int .i64 p, .int .i64 q].toArray 23)).alloc (by simp; omega) (.cells [Value.int .i64 g, .int .i64 h].toArray 37)
  generalize (((w.alloc (.cells [Value.int .i64 x, .int .i64 y, .int .i64 u, .int .i64 v].toArray 36)).alloc (.cells [Value.int .i64 p, .int .i64 q].toArray 23)).alloc (.cells [Value.int .i64 g, .int .i64 h].toArray 37)) = W at *
  have hq := (Below.refl W.heap.size W).drew
  go_region_held3 (fun w' => w'.cell? ⟨w.heap.size, 0, none⟩ = some (.int .i64 x) ∧ w'.cell? ⟨w.heap.size, 1, none⟩ = some (.int .i64 y) ∧ w'.cell? ⟨w.heap.size, 2, none⟩ = some (.int .i64 u) ∧ w'.cell? ⟨w.heap.size, 3, none⟩ = some (.int .i64 v) ∧ w'.cell? ⟨w.heap.size + 1, 0, none⟩ = some (.int .i64 p) ∧ w'.cell? ⟨w.heap.size + 1, 1, none⟩ = some (.int .i64 q) ∧ w'.cell? ⟨w.heap.size + 1 + 1, 0, none⟩ = some (.int .i64 g) ∧ w'.cell? ⟨w.heap.size + 1 + 1, 1, none⟩ = some (.int .i64 h))
    (first | exact low422 B1 B2 B3 (by assumption))
    (first
      | (go_at_call 29; with_reducible refine (H.inside x y u v p q b1 _ ix iy iu iv ip iq e1).mono ?_; rintro e w' ⟨rfl, hb⟩; replace hq := below_call hq hb; clear hb)
      | (go_at_call 30; with_reducible refine (sins_n x y u v p q b1 _ e1).mono ?_; rintro e w' ⟨rfl, hb⟩; replace hq := below_call hq hb; clear hb)
      | (go_at_call 31; with_reducible refine (H.clip g h x y u v c1 c2 c3 c4 _ ig ih ix iy iu iv e2).mono ?_; rintro e w' ⟨rfl, hb⟩; replace hq := below_call hq hb; clear hb)
      | (go_at_call 32; with_reducible refine (sclip_n g h x y u v c1 c2 c3 c4 _ e2).mono ?_; rintro e w' ⟨rfl, hb⟩; replace hq := below_call hq hb; clear hb)
      | (go_at_call 33; with_reducible refine (H.cells x y u v L _ ix iy iu iv e3).mono ?_; rintro e w' ⟨s1, rfl, o1, hb⟩; replace hq := below_call hq hb; clear hb)
      | (go_at_call 34; with_reducible refine (scells_n x y u v L _ e3).mono ?_; rintro e w' ⟨s2, rfl, o2, hb⟩; have o3 := own_below o1 hb; replace hq := below_call hq hb; clear hb)
      | (go_at_call 22; with_reducible refine (rsame_t _ L _ _ _ _ hm o3 o2).mono ?_; rintro e w' ⟨rfl, hb⟩; replace hq := below_call hq hb; clear hb)
      | (go_at_call 19; with_reducible refine (awake_any H _ (H.keep hE (below_call hL hq))).mono ?_; rintro e w' ⟨rfl, hb⟩; replace hq := below_call hq hb; clear hb))
  go_wp2_with fail
  go_ret
  exact ⟨rfl, below_call hL hq⟩

end Go.Proofs.YtipfiggifnfljaaDoor
