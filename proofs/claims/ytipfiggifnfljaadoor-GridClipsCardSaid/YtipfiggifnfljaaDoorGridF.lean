/-
  What the reference of grid answers: Clip, Meet.
-/
import Derived.Test.YtipfiggifnfljaaDoorGridE
namespace Go.Proofs.YtipfiggifnfljaaDoor
open Go.RowKit Go.Lib

theorem nr_near (n : Int) : Near (nr n) := nr_bd n
theorem common_eta (a b : R4) : (common a b).val = .agg #[.int .i64 (common a b).x, .int .i64 (common a b).y, .int .i64 (common a b).w, .int .i64 (common a b).h] := rfl
theorem rect_w (a b c d : Int) (W : World) : (Instr.field 36 (.agg #[.int .i64 a, .int .i64 b, .int .i64 c, .int .i64 d]) 2).run Tryd.prog W = .ok (.int .i64 c) W := by kernel_rfl
set_option maxHeartbeats 2000000 in
theorem rmeet_x (x y u v p q m n : Int) (w : World) :
    Calls Tryd.prog 36 #[.agg #[.int .i64 x, .int .i64 y, .int .i64 u, .int .i64 v], .agg #[.int .i64 p, .int .i64 q, .int .i64 m, .int .i64 n]] w fun e w' => e = .returned (.bool (meetv ⟨x, y, u, v⟩ ⟨p, q, m, n⟩)) ∧ Below w.heap.size w w' := by
  obtain ⟨c1, c2, c3, c4, hc⟩ : ∃ c1 c2 c3 c4, common ⟨nr x, nr y, nr u, nr v⟩ ⟨nr p, nr q, nr m, nr n⟩ = ⟨c1, c2, c3, c4⟩ := ⟨_, _, _, _, rfl⟩
  have hm : meetv ⟨x, y, u, v⟩ ⟨p, q, m, n⟩ = decide (0 < c3) := by unfold meetv R4.nrm; rw [hc]
  have hk : ∀ W, Calls Tryd.prog 48 #[.agg #[.int .i64 (nr x), .int .i64 (nr y), .int .i64 (nr u), .int .i64 (nr v)], .agg #[.int .i64 (nr p), .int .i64 (nr q), .int .i64 (nr m), .int .i64 (nr n)]] W fun e w' => e = .returned (.agg #[.int .i64 c1, .int .i64 c2, .int .i64 c3, .int .i64 c4]) ∧ Below W.heap.size W w' := fun W => by
    have h := rcommon_x (nr x) (nr y) (nr u) (nr v) (nr p) (nr q) (nr m) (nr n) W (nr_near _) (nr_near _) (nr_near _) (nr_near _) (nr_near _) (nr_near _) (nr_near _) (nr_near _)
    rw [hc] at h
    exact h
  have hf := rect_w c1 c2 c3 c4
  rw [hm]
  clear hm hc
  go_enter Tryd.func36, Tryd.ntmps36
  go_upto_region 1 with fail
  have hl := (Blk.new w [.int .i64 x, .int .i64 y, .int .i64 u, .int .i64 v] 36).alloc (.cells [Value.int .i64 p, .int .i64 q, .int .i64 m, .int .i64 n].toArray 36)
  have hr := (Blk.new (w.alloc (.cells [Value.int .i64 x, .int .i64 y, .int .i64 u, .int .i64 v].toArray 36)) [.int .i64 p, .int .i64 q, .int .i64 m, .int .i64 n] 36).at (World.size_alloc _ _)
  have hL := ((Below.refl w.heap.size w).alloc (Nat.le_refl _) (.cells [Value.int .i64 x, .int .i64 y, .int .i64 u, .int .i64 v].toArray 36)).alloc (by simp) (.cells [Value.int .i64 p, .int .i64 q, .int .i64 m, .int .i64 n].toArray 36)
  generalize (w.alloc (.cells [Value.int .i64 x, .int .i64 y, .int .i64 u, .int .i64 v].toArray 36)).alloc (.cells [Value.int .i64 p, .int .i64 q, .int .i64 m, .int .i64 n].toArray 36) = W at *
  have hq := (Below.refl W.heap.size W).drew
  go_region_held3 (fun w' => w'.cell? ⟨w.heap.size, 0, none⟩ = some (.int .i64 x) ∧ w'.cell? ⟨w.heap.size, 1, none⟩ = some (.int .i64 y) ∧ w'.cell? ⟨w.heap.size, 2, none⟩ = some (.int .i64 u) ∧ w'.cell? ⟨w.heap.size, 3, none⟩ = some (.int .i64 v) ∧ w'.cell? ⟨w.heap.size + 1, 0, none⟩ = some (.int .i64 p) ∧ w'.cell? ⟨w.heap.size + 1, 1, none⟩ = some (.int .i64 q) ∧ w'.cell? ⟨w.heap.size + 1, 2, none⟩ = some (.int .i64 m) ∧ w'.cell? ⟨w.heap.size + 1, 3, none⟩ = some (.int .i64 n))
    (first | exact low44 hl hr (by assumption))
    (first
      | (go_at_call 46; with_reducible refine (rrect_x _ _ _ _ _).mono ?_; rintro e w' ⟨rfl, hb⟩; replace hq := below_call hq hb; clear hb)
      | (go_at_call 48; with_reducible refine (hk _).mono ?_; rintro e w' ⟨rfl, hb⟩; replace hq := below_call hq hb; clear hb))
  go_wp2
  go_ret
  exact ⟨rfl, below_call hL hq⟩

set_option maxHeartbeats 2000000 in
theorem rclip_x (g h p q m n : Int) (w : World) :
    Calls Tryd.prog 32 #[.int .i64 g, .int .i64 h, .agg #[.int .i64 p, .int .i64 q, .int .i64 m, .int .i64 n]] w fun e w' => e = .returned (clipv g h ⟨p, q, m, n⟩).val ∧ Below w.heap.size w w' := by
  obtain ⟨c1, c2, c3, c4, hc⟩ : ∃ c1 c2 c3 c4, clipv g h ⟨p, q, m, n⟩ = ⟨c1, c2, c3, c4⟩ := ⟨_, _, _, _, rfl⟩
  have hk : ∀ W, Calls Tryd.prog 48 #[.agg #[.int .i64 (nr 0), .int .i64 (nr 0), .int .i64 (nr g), .int .i64 (nr h)], .agg #[.int .i64 (nr p), .int .i64 (nr q), .int .i64 (nr m), .int .i64 (nr n)]] W fun e w' => e = .returned (.agg #[.int .i64 c1, .int .i64 c2, .int .i64 c3, .int .i64 c4]) ∧ Below W.heap.size W w' := fun W => by
    have hh := rcommon_x (nr 0) (nr 0) (nr g) (nr h) (nr p) (nr q) (nr m) (nr n) W (nr_near _) (nr_near _) (nr_near _) (nr_near _) (nr_near _) (nr_near _) (nr_near _) (nr_near _)
    rw [show common ⟨nr 0, nr 0, nr g, nr h⟩ ⟨nr p, nr q, nr m, nr n⟩ = ⟨c1, c2, c3, c4⟩ from hc] at hh
    exact hh
  rw [hc]
  show Calls _ _ _ _ fun e w' => e = .returned (.agg #[.int .i64 c1, .int .i64 c2, .int .i64 c3, .int .i64 c4]) ∧ Below w.heap.size w w'
  clear hc
  go_enter Tryd.func32, Tryd.ntmps32
  go_upto_region 1 with fail
  have hl := (Blk.new w [.int .i64 p, .int .i64 q, .int .i64 m, .int .i64 n] 36).alloc (.cells [Value.int .i64 0, .int .i64 0, .int .i64 0, .int .i64 0].toArray 36)
  have hr := (Blk.new (w.alloc (.cells [Value.int .i64 p, .int .i64 q, .int .i64 m, .int .i64 n].toArray 36)) [.int .i64 0, .int .i64 0, .int .i64 0, .int .i64 0] 36).at (World.size_alloc _ _)
  have hL := ((Below.refl w.heap.size w).alloc (Nat.le_refl _) (.cells [Value.int .i64 p, .int .i64 q, .int .i64 m, .int .i64 n].toArray 36)).alloc (by simp) (.cells [Value.int .i64 0, .int .i64 0, .int .i64 0, .int .i64 0].toArray 36)
  generalize (w.alloc (.cells [Value.int .i64 p, .int .i64 q, .int .i64 m, .int .i64 n].toArray 36)).alloc (.cells [Value.int .i64 0, .int .i64 0, .int .i64 0, .int .i64 0].toArray 36) = W at *
  have hq := (Below.refl W.heap.size W).drew
  go_region_held3 (fun w' => w'.cell? ⟨w.heap.size, 0, none⟩ = some (.int .i64 p) ∧ w'.cell? ⟨w.heap.size, 1, none⟩ = some (.int .i64 q) ∧ w'.cell? ⟨w.heap.size, 2, none⟩ = some (.int .i64 m) ∧ w'.cell? ⟨w.heap.size, 3, none⟩ = some (.int .i64 n))
    (first | exact low4 hl (by assumption) | exact low4 (((((hl.below hq).far _ (by omega)).far _ (by omega)).far _ (by omega)).far _ (by omega)) (Below.refl _ _) | go_keep)
    (first
      | (go_at_call 46; with_reducible refine (rrect_x _ _ _ _ _).mono ?_; rintro e w' ⟨rfl, hb⟩; replace hq := below_call hq hb; clear hb)
      | (go_at_call 48; with_reducible refine (hk _).mono ?_; rintro e w' ⟨rfl, hb⟩; replace hq := below_call hq hb; clear hb; have hs := hr.below hq; obtain ⟨_, _, _, _, _, _, _, _⟩ := hs.four))
  go_wp2
  have D := ((hs.put4 (.int .i64 c1) (.int .i64 c2) (.int .i64 c3) (.int .i64 c4)).four)
  obtain ⟨_, _, _, _, -, -, -, -⟩ := D
  refine bodyPost_ret (v := .agg #[.int .i64 c1, .int .i64 c2, .int .i64 c3, .int .i64 c4]) (by simp [results, Tryd.results32, go_sem, *]) rfl ⟨rfl, ?_⟩
  have hz := hL.size
  exact ((((below_call hL hq).setCell (by simp) _).setCell (by simp) _).setCell (by simp) _).setCell (by simp) _

end Go.Proofs.YtipfiggifnfljaaDoor
