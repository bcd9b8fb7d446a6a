/-
  What the reference of grid answers: a rectangle and a cell.
-/
import Derived.Test.YtipfiggifnfljaaDoorGridC
namespace Go.Proofs.YtipfiggifnfljaaDoor
open Go.RowKit Go.Lib

set_option maxHeartbeats 4000000 in
theorem rins_x (X Y V H u v : Int) (w : World) :
    Calls Tryd.prog 30 #[.agg #[.int .i64 X, .int .i64 Y, .int .i64 V, .int .i64 H], .agg #[.int .i64 u, .int .i64 v]] w fun e w' => e = .returned (.bool (insv ⟨X, Y, V, H⟩ u v)) ∧ Below w.heap.size w w' := by
  go_enter Tryd.func30, Tryd.ntmps30
  go_upto_region 1 with fail
  have hl := (Blk.new w [.int .i64 X, .int .i64 Y, .int .i64 V, .int .i64 H] 36).alloc (.cells [Value.int .i64 u, .int .i64 v].toArray 23)
  have hr := (Blk.new (w.alloc (.cells [Value.int .i64 X, .int .i64 Y, .int .i64 V, .int .i64 H].toArray 36)) [.int .i64 u, .int .i64 v] 23).at (World.size_alloc _ _)
  have hL := ((Below.refl w.heap.size w).alloc (Nat.le_refl _) (.cells [Value.int .i64 X, .int .i64 Y, .int .i64 V, .int .i64 H].toArray 36)).alloc (by simp) (.cells [Value.int .i64 u, .int .i64 v].toArray 23)
  generalize (w.alloc (.cells [Value.int .i64 X, .int .i64 Y, .int .i64 V, .int .i64 H].toArray 36)).alloc (.cells [Value.int .i64 u, .int .i64 v].toArray 23) = W at *
  have hq := (Below.refl W.heap.size W).drew
  have hd : W.drew.heap.size = W.heap.size := rfl
  go_cut [5, 6] from 7 (fun s5 s6 wx => ∃ b c : Nat, s5 = .pointer (some ⟨b, 0, none⟩) ∧ s6 = .pointer (some ⟨c, 0, none⟩) ∧ Blk wx b [.int .i64 (nr X), .int .i64 (nr Y), .int .i64 (nr V), .int .i64 (nr H)] 36 ∧ Blk wx c [.int .i64 (nr u), .int .i64 (nr v)] 23 ∧ Below W.heap.size W wx)
  case first =>
    go_region_held3 (fun w' => w'.cell? ⟨w.heap.size, 0, none⟩ = some (.int .i64 X) ∧ w'.cell? ⟨w.heap.size, 1, none⟩ = some (.int .i64 Y) ∧ w'.cell? ⟨w.heap.size, 2, none⟩ = some (.int .i64 V) ∧ w'.cell? ⟨w.heap.size, 3, none⟩ = some (.int .i64 H) ∧ w'.cell? ⟨w.heap.size + 1, 0, none⟩ = some (.int .i64 u) ∧ w'.cell? ⟨w.heap.size + 1, 1, none⟩ = some (.int .i64 v) ∧ Below W.heap.size W w')
      (first
        | (refine low42 hl hr ?_; with_reducible first | assumption | ((repeat (first | assumption | exact Below.refl _ _ | refine Below.drew ?_ | refine Below.alloc ?_ ?_ _ | refine Below.setCell ?_ ?_ _)) <;> first | omega | (simp; omega) | (simp; done))))
      (first
      | (go_at_call 46; with_reducible refine (rrect_x X Y V H _).mono ?_; rintro e w' ⟨rfl, hb⟩
         with_reducible
           try (first | have n1 := ((Blk.new _ _ _).at (World.size_alloc _ _)).below hb | have n1 := (Blk.new _ _ _).below hb | have n1 := ((Blk.new _ _ _).drew.at (World.size_alloc _ _)).below hb | have n1 := (Blk.new _ _ _).drew.below hb)
           try (first | have n2 := ((Blk.new _ _ _).alloc _).below hb | have n2 := ((Blk.new _ _ _).alloc _).drew.below hb)
           first
             | have hq := below_call hq hb
             | have hq := below_call ((Below.refl W.heap.size W).alloc (Nat.le_refl _) _).drew hb
             | have hq := below_call (((Below.refl W.heap.size W).alloc (Nat.le_refl _) _).alloc (by simp) _).drew hb
         clear hb
         have hz := hq.size
         try (have v1 := n1.ne; obtain ⟨_, _⟩ := v1)
         try (have v1 := n2.ne; obtain ⟨_, _⟩ := v1))
      | (go_at_call 40; with_reducible refine (rpos_any u v _).mono ?_; rintro e w' ⟨rfl, hb⟩
         with_reducible
           try (first | have m1 := n1.below hb | have m1 := (n1.alloc _).below hb)
           try (first | have m2 := n2.below hb | have m2 := (n2.alloc _).below hb)
           try (first | have m3 := ((Blk.new _ _ _).at (World.size_alloc _ _)).below hb | have m3 := (Blk.new _ _ _).below hb)
           try (have m4 := ((Blk.new _ _ _).alloc _).below hb)
           first
             | have hq := below_call hq hb
             | have hq := below_call (hq.alloc hq.size _) hb
             | have hq := below_call ((hq.alloc hq.size _).alloc (by have := hq.size; simp; omega) _) hb
         clear hb
         have hz := hq.size
         try (first | (have v1 := m1.seen2; obtain ⟨_, _, _, _, _, _, _, _, _⟩ := v1) | (have v1 := m1.seen4; obtain ⟨⟨_, _, _, _⟩, _, ⟨_, _, _, _⟩, _, _⟩ := v1))
         try (first | (have v2 := m2.seen2; obtain ⟨_, _, _, _, _, _, _, _, _⟩ := v2) | (have v2 := m2.seen4; obtain ⟨⟨_, _, _, _⟩, _, ⟨_, _, _, _⟩, _, _⟩ := v2))
         try (first | (have v3 := m3.seen2; obtain ⟨_, _, _, _, _, _, _, _, _⟩ := v3) | (have v3 := m3.seen4; obtain ⟨⟨_, _, _, _⟩, _, ⟨_, _, _, _⟩, _, _⟩ := v3))
         try (first | (have v4 := m4.seen2; obtain ⟨_, _, _, _, _, _, _, _, _⟩ := v4) | (have v4 := m4.seen4; obtain ⟨⟨_, _, _, _⟩, _, ⟨_, _, _, _⟩, _, _⟩ := v4))))
    all_goals
      go_wp2_with fail
      go_meet
      case rel =>
        with_reducible
          refine ⟨_, _, rfl, rfl, ?_, ?_, ?_⟩
          · repeat (first
              | assumption
              | exact Blk.new _ _ _
              | exact (Blk.new _ _ _).at (World.size_alloc _ _)
              | refine Blk.put4 (p := .int .i64 0) (q := .int .i64 0) (r := .int .i64 0) (s := .int .i64 0) ?_ _ _ _ _
              | refine Blk.put2 (p := .int .i64 0) (q := .int .i64 0) ?_ _ _
              | refine Blk.far ?_ _ (by omega)
              | refine Blk.alloc ?_ _)
          · repeat (first
              | assumption
              | exact Blk.new _ _ _
              | exact (Blk.new _ _ _).at (World.size_alloc _ _)
              | refine Blk.put4 (p := .int .i64 0) (q := .int .i64 0) (r := .int .i64 0) (s := .int .i64 0) ?_ _ _ _ _
              | refine Blk.put2 (p := .int .i64 0) (q := .int .i64 0) ?_ _ _
              | refine Blk.far ?_ _ (by omega)
              | refine Blk.alloc ?_ _)
          · (repeat (first | assumption | refine Below.alloc ?_ ?_ _ | refine Below.setCell ?_ ?_ _)) <;> first | omega | (simp; done) | (simp; omega)
  case rest =>
  obtain ⟨b, c, rfl, rfl, Bp, Bq, hq2⟩ := hcut
  clear hq
  have b1 := nr_bd X
  have b2 := nr_bd Y
  have b3 := nr_bd V
  have b4 := nr_bd H
  obtain ⟨_, _, _, _, _, _, _, _⟩ := Bp.four
  obtain ⟨_, _, _, _⟩ := Bq.two
  go_wp2
  all_goals (go_ret; exact ⟨ret_bit (by unfold insv R4.nrm; dsimp only; first | exact (decide_eq_false (by omega)).symm | exact decide_eq_decide.2 (by omega)), below_call hL hq2⟩)

end Go.Proofs.YtipfiggifnfljaaDoor
