/-
  What the reference of grid answers: distances.
-/
import Derived.Deep.Cut
import Derived.Test.YtipfiggifnfljaaDoorGridB
namespace Go.Proofs.YtipfiggifnfljaaDoor
open Go.RowKit Go.Lib

theorem dif_bd (a b : Int) : -4194304 ≤ nr a - nr b ∧ nr a - nr b ≤ 4194304 := by
  have := nr_bd a; have := nr_bd b; omega
theorem abs_bd {n : Int} (h : -4194304 ≤ n ∧ n ≤ 4194304) : 0 ≤ absv n ∧ absv n ≤ 4194304 := by unfold absv; omega
set_option maxHeartbeats 2000000 in
theorem roct_any (x y u v : Int) (w : World) :
    Calls Tryd.prog 26 #[.agg #[.int .i64 x, .int .i64 y], .agg #[.int .i64 u, .int .i64 v]] w fun e w' => e = .returned (.int .i64 (octv x y u v)) ∧ Below w.heap.size w w' := by
  go_enter Tryd.func26, Tryd.ntmps26
  go_upto_region 1 with fail
  have hl := (Blk.new w [.int .i64 x, .int .i64 y] 23).alloc (.cells [Value.int .i64 u, .int .i64 v].toArray 23)
  have hr := (Blk.new (w.alloc (.cells [Value.int .i64 x, .int .i64 y].toArray 23)) [.int .i64 u, .int .i64 v] 23).at (World.size_alloc _ _)
  have hL := ((Below.refl w.heap.size w).alloc (Nat.le_refl _) (.cells [Value.int .i64 x, .int .i64 y].toArray 23)).alloc (by simp) (.cells [Value.int .i64 u, .int .i64 v].toArray 23)
  generalize (w.alloc (.cells [Value.int .i64 x, .int .i64 y].toArray 23)).alloc (.cells [Value.int .i64 u, .int .i64 v].toArray 23) = W at *
  have hq := (Below.refl W.heap.size W).drew
  have hd : W.drew.heap.size = W.heap.size := rfl
  go_cut [5, 6] from 7 (fun s5 s6 wx => ∃ b c : Nat, s5 = .pointer (some ⟨b, 0, none⟩) ∧ s6 = .pointer (some ⟨c, 0, none⟩) ∧ Blk wx b [.int .i64 (nr x), .int .i64 (nr y)] 23 ∧ Blk wx c [.int .i64 (nr u), .int .i64 (nr v)] 23 ∧ Below W.heap.size W wx)
  case first =>
    go_region_held3 (fun w' => w'.cell? ⟨w.heap.size, 0, none⟩ = some (.int .i64 x) ∧ w'.cell? ⟨w.heap.size, 1, none⟩ = some (.int .i64 y) ∧ w'.cell? ⟨w.heap.size + 1, 0, none⟩ = some (.int .i64 u) ∧ w'.cell? ⟨w.heap.size + 1, 1, none⟩ = some (.int .i64 v) ∧ Below W.heap.size W w')
      (first
        | (refine low22 hl hr ?_; with_reducible first | assumption | ((repeat (first | assumption | exact Below.refl _ _ | refine Below.drew ?_ | refine Below.alloc ?_ ?_ _ | refine Below.setCell ?_ ?_ _)) <;> first | omega | (simp; omega) | (simp; done))))
      (first
      | (go_at_call 40; with_reducible refine (rpos_any x y _).mono ?_; rintro e w' ⟨rfl, hb⟩
         with_reducible
           try (first | have n1 := ((Blk.new _ _ _).at (World.size_alloc _ _)).below hb | have n1 := (Blk.new _ _ _).below hb | have n1 := ((Blk.new _ _ _).drew.at (World.size_alloc _ _)).below hb | have n1 := (Blk.new _ _ _).drew.below hb)
           try (first | have n2 := ((Blk.new _ _ _).alloc _).below hb | have n2 := ((Blk.new _ _ _).alloc _).drew.below hb)
           first
             | have hq := below_call hq hb
             | have hq := below_call ((Below.refl W.heap.size W).alloc (Nat.le_refl _) _).drew hb
             | have hq := below_call (((Below.refl W.heap.size W).alloc (Nat.le_refl _) _).alloc (by simp) _).drew hb
         clear hb
         have hz := hq.size
         try (have v1 := n1.ne; obtain ⟨_, _⟩ := v1)
         try (have v1 := n2.ne; obtain ⟨_, _⟩ := v1))
      | (go_at_call 40; with_reducible refine (rpos_any u v _).mono ?_; rintro e w' ⟨rfl, hb⟩
         with_reducible
           try (first | have m1 := n1.below hb | have m1 := (n1.alloc _).below hb)
           try (first | have m2 := n2.below hb | have m2 := (n2.alloc _).below hb)
           try (first | have m3 := ((Blk.new _ _ _).at (World.size_alloc _ _)).below hb | have m3 := (Blk.new _ _ _).below hb)
           try (have m4 := ((Blk.new _ _ _).alloc _).below hb)
           first
             | have hq := below_call hq hb
             | have hq := below_call (hq.alloc hq.size _) hb
             | have hq := below_call ((hq.alloc hq.size _).alloc (by have := hq.size; simp; omega) _) hb
         clear hb
         have hz := hq.size
         try (have v1 := m1.seen2; obtain ⟨_, _, _, _, _, _, _, _, _⟩ := v1)
         try (have v2 := m2.seen2; obtain ⟨_, _, _, _, _, _, _, _, _⟩ := v2)
         try (have v3 := m3.seen2; obtain ⟨_, _, _, _, _, _, _, _, _⟩ := v3)
         try (have v4 := m4.seen2; obtain ⟨_, _, _, _, _, _, _, _, _⟩ := v4)))
    all_goals
      go_wp2_with fail
      go_meet
      case rel =>
        with_reducible
          refine ⟨_, _, rfl, rfl, ?_, ?_, ?_⟩
          · repeat (first
              | assumption
              | exact Blk.new _ _ _
              | exact (Blk.new _ _ _).at (World.size_alloc _ _)
              | refine Blk.put2 (p := .int .i64 0) (q := .int .i64 0) ?_ _ _
              | refine Blk.far ?_ _ (by omega)
              | refine Blk.alloc ?_ _)
          · repeat (first
              | assumption
              | exact Blk.new _ _ _
              | exact (Blk.new _ _ _).at (World.size_alloc _ _)
              | refine Blk.put2 (p := .int .i64 0) (q := .int .i64 0) ?_ _ _
              | refine Blk.far ?_ _ (by omega)
              | refine Blk.alloc ?_ _)
          · (repeat (first | assumption | refine Below.alloc ?_ ?_ _ | refine Below.setCell ?_ ?_ _)) <;> first | omega | (simp; done) | (simp; omega)
  case rest =>
  obtain ⟨b, c, rfl, rfl, Bp, Bq, hq2⟩ := hcut
  clear hq
  have d1 := dif_bd x u
  have d2 := dif_bd y v
  have v1 : IntKind.i64.wrap (nr x - nr u) = nr x - nr u := IntWalk.i64_in _ (by omega)
  have v2 : IntKind.i64.wrap (nr y - nr v) = nr y - nr v := IntWalk.i64_in _ (by omega)
  have a1 := abs_bd d1
  have a2 := abs_bd d2
  obtain ⟨_, _, _, _⟩ := Bp.two
  obtain ⟨_, _, _, _⟩ := Bq.two
  go_wp2_with fail
  go_region_held3 (fun w' => w'.cell? ⟨b, 0, none⟩ = some (.int .i64 (nr x)) ∧ w'.cell? ⟨b, 1, none⟩ = some (.int .i64 (nr y)) ∧ w'.cell? ⟨c, 0, none⟩ = some (.int .i64 (nr u)) ∧ w'.cell? ⟨c, 1, none⟩ = some (.int .i64 (nr v))) (go_keep)
    (first
      | (go_at_call 44; with_reducible refine (rabs_any _ _ d1).mono ?_; rintro e w' ⟨rfl, rfl⟩)
      | (go_at_call 44; with_reducible refine (rabs_any _ _ d2).mono ?_; rintro e w' ⟨rfl, rfl⟩))
  go_wp2
  go_ret
  exact ⟨rfl, below_call hL hq2.drew⟩

set_option maxHeartbeats 2000000 in
theorem rcheb_any (x y u v : Int) (w : World) :
    Calls Tryd.prog 28 #[.agg #[.int .i64 x, .int .i64 y], .agg #[.int .i64 u, .int .i64 v]] w fun e w' => e = .returned (.int .i64 (chebv x y u v)) ∧ Below w.heap.size w w' := by
  go_enter Tryd.func28, Tryd.ntmps28
  go_upto_region 1 with fail
  have hl := (Blk.new w [.int .i64 x, .int .i64 y] 23).alloc (.cells [Value.int .i64 u, .int .i64 v].toArray 23)
  have hr := (Blk.new (w.alloc (.cells [Value.int .i64 x, .int .i64 y].toArray 23)) [.int .i64 u, .int .i64 v] 23).at (World.size_alloc _ _)
  have hL := ((Below.refl w.heap.size w).alloc (Nat.le_refl _) (.cells [Value.int .i64 x, .int .i64 y].toArray 23)).alloc (by simp) (.cells [Value.int .i64 u, .int .i64 v].toArray 23)
  generalize (w.alloc (.cells [Value.int .i64 x, .int .i64 y].toArray 23)).alloc (.cells [Value.int .i64 u, .int .i64 v].toArray 23) = W at *
  have hq := (Below.refl W.heap.size W).drew
  have hd : W.drew.heap.size = W.heap.size := rfl
  go_cut [5, 6] from 7 (fun s5 s6 wx => ∃ b c : Nat, s5 = .pointer (some ⟨b, 0, none⟩) ∧ s6 = .pointer (some ⟨c, 0, none⟩) ∧ Blk wx b [.int .i64 (nr x), .int .i64 (nr y)] 23 ∧ Blk wx c [.int .i64 (nr u), .int .i64 (nr v)] 23 ∧ Below W.heap.size W wx)
  case first =>
    go_region_held3 (fun w' => w'.cell? ⟨w.heap.size, 0, none⟩ = some (.int .i64 x) ∧ w'.cell? ⟨w.heap.size, 1, none⟩ = some (.int .i64 y) ∧ w'.cell? ⟨w.heap.size + 1, 0, none⟩ = some (.int .i64 u) ∧ w'.cell? ⟨w.heap.size + 1, 1, none⟩ = some (.int .i64 v) ∧ Below W.heap.size W w')
      (first
        | (refine low22 hl hr ?_; with_reducible first | assumption | ((repeat (first | assumption | exact Below.refl _ _ | refine Below.drew ?_ | refine Below.alloc ?_ ?_ _ | refine Below.setCell ?_ ?_ _)) <;> first | omega | (simp; omega) | (simp; done))))
      (first
      | (go_at_call 40; with_reducible refine (rpos_any x y _).mono ?_; rintro e w' ⟨rfl, hb⟩
         with_reducible
           try (first | have n1 := ((Blk.new _ _ _).at (World.size_alloc _ _)).below hb | have n1 := (Blk.new _ _ _).below hb | have n1 := ((Blk.new _ _ _).drew.at (World.size_alloc _ _)).below hb | have n1 := (Blk.new _ _ _).drew.below hb)
           try (first | have n2 := ((Blk.new _ _ _).alloc _).below hb | have n2 := ((Blk.new _ _ _).alloc _).drew.below hb)
           first
             | have hq := below_call hq hb
             | have hq := below_call ((Below.refl W.heap.size W).alloc (Nat.le_refl _) _).drew hb
             | have hq := below_call (((Below.refl W.heap.size W).alloc (Nat.le_refl _) _).alloc (by simp) _).drew hb
         clear hb
         have hz := hq.size
         try (have v1 := n1.ne; obtain ⟨_, _⟩ := v1)
         try (have v1 := n2.ne; obtain ⟨_, _⟩ := v1))
      | (go_at_call 40; with_reducible refine (rpos_any u v _).mono ?_; rintro e w' ⟨rfl, hb⟩
         with_reducible
           try (first | have m1 := n1.below hb | have m1 := (n1.alloc _).below hb)
           try (first | have m2 := n2.below hb | have m2 := (n2.alloc _).below hb)
           try (first | have m3 := ((Blk.new _ _ _).at (World.size_alloc _ _)).below hb | have m3 := (Blk.new _ _ _).below hb)
           try (have m4 := ((Blk.new _ _ _).alloc _).below hb)
           first
             | have hq := below_call hq hb
             | have hq := below_call (hq.alloc hq.size _) hb
             | have hq := below_call ((hq.alloc hq.size _).alloc (by have := hq.size; simp; omega) _) hb
         clear hb
         have hz := hq.size
         try (have v1 := m1.seen2; obtain ⟨_, _, _, _, _, _, _, _, _⟩ := v1)
         try (have v2 := m2.seen2; obtain ⟨_, _, _, _, _, _, _, _, _⟩ := v2)
         try (have v3 := m3.seen2; obtain ⟨_, _, _, _, _, _, _, _, _⟩ := v3)
         try (have v4 := m4.seen2; obtain ⟨_, _, _, _, _, _, _, _, _⟩ := v4)))
    all_goals
      go_wp2_with fail
      go_meet
      case rel =>
        with_reducible
          refine ⟨_, _, rfl, rfl, ?_, ?_, ?_⟩
          · repeat (first
              | assumption
              | exact Blk.new _ _ _
              | exact (Blk.new _ _ _).at (World.size_alloc _ _)
              | refine Blk.put2 (p := .int .i64 0) (q := .int .i64 0) ?_ _ _
              | refine Blk.far ?_ _ (by omega)
              | refine Blk.alloc ?_ _)
          · repeat (first
              | assumption
              | exact Blk.new _ _ _
              | exact (Blk.new _ _ _).at (World.size_alloc _ _)
              | refine Blk.put2 (p := .int .i64 0) (q := .int .i64 0) ?_ _ _
              | refine Blk.far ?_ _ (by omega)
              | refine Blk.alloc ?_ _)
          · (repeat (first | assumption | refine Below.alloc ?_ ?_ _ | refine Below.setCell ?_ ?_ _)) <;> first | omega | (simp; done) | (simp; omega)
  case rest =>
  obtain ⟨b, c, rfl, rfl, Bp, Bq, hq2⟩ := hcut
  clear hq
  have d1 := dif_bd x u
  have d2 := dif_bd y v
  have v1 : IntKind.i64.wrap (nr x - nr u) = nr x - nr u := IntWalk.i64_in _ (by omega)
  have v2 : IntKind.i64.wrap (nr y - nr v) = nr y - nr v := IntWalk.i64_in _ (by omega)
  have a1 := abs_bd d1
  have a2 := abs_bd d2
  obtain ⟨_, _, _, _⟩ := Bp.two
  obtain ⟨_, _, _, _⟩ := Bq.two
  go_wp2_with fail
  go_region_held3 (fun w' => w'.cell? ⟨b, 0, none⟩ = some (.int .i64 (nr x)) ∧ w'.cell? ⟨b, 1, none⟩ = some (.int .i64 (nr y)) ∧ w'.cell? ⟨c, 0, none⟩ = some (.int .i64 (nr u)) ∧ w'.cell? ⟨c, 1, none⟩ = some (.int .i64 (nr v))) (go_keep)
    (first
      | (go_at_call 44; with_reducible refine (rabs_any _ _ d1).mono ?_; rintro e w' ⟨rfl, rfl⟩)
      | (go_at_call 44; with_reducible refine (rabs_any _ _ d2).mono ?_; rintro e w' ⟨rfl, rfl⟩))
  go_wp2
  go_ret
  exact ⟨rfl, below_call hL hq2.drew⟩

end Go.Proofs.YtipfiggifnfljaaDoor
