/-
  What the reference of grid answers: the common cells of rectangles, Clip, Meet.
-/
import Derived.Test.YtipfiggifnfljaaDoorGridD
namespace Go.Proofs.YtipfiggifnfljaaDoor
open Go.RowKit Go.Lib

theorem common_none {a b : R4} (h : a.w < 1 ∨ a.h < 1 ∨ b.w < 1 ∨ b.h < 1) : common a b = R4.zero := if_pos h
set_option maxHeartbeats 2000000 in
theorem rcommon_none (x y u v p q m n : Int) (w : World) (h : u < 1 ∨ v < 1 ∨ m < 1 ∨ n < 1) :
    Calls Tryd.prog 48 #[.agg #[.int .i64 x, .int .i64 y, .int .i64 u, .int .i64 v], .agg #[.int .i64 p, .int .i64 q, .int .i64 m, .int .i64 n]] w fun e w' => e = .returned (.agg #[.int .i64 0, .int .i64 0, .int .i64 0, .int .i64 0]) ∧ Below w.heap.size w w' := by
  go_enter Tryd.func48, Tryd.ntmps48
  go_wp2
  all_goals first
    | (exfalso; omega)
    | (refine bodyPost_ret (v := .agg #[.int .i64 0, .int .i64 0, .int .i64 0, .int .i64 0]) (by simp [results, Tryd.results48, go_sem]) rfl ⟨rfl, ?_⟩
       exact (((Below.refl _ _).alloc (Nat.le_refl _) _).alloc (by simp) _).alloc (by simp; omega) _)
def Near (n : Int) : Prop := -1048576 ≤ n ∧ n ≤ 1048576
set_option maxHeartbeats 4000000 in
theorem rcommon_some (x y u v p q m n : Int) (w : World) (hx : Near x) (hy : Near y) (hu : Near u) (hv : Near v) (hp : Near p) (hq : Near q) (hm : Near m) (hn : Near n)
    (h : ¬ (u < 1 ∨ v < 1 ∨ m < 1 ∨ n < 1)) :
    Calls Tryd.prog 48 #[.agg #[.int .i64 x, .int .i64 y, .int .i64 u, .int .i64 v], .agg #[.int .i64 p, .int .i64 q, .int .i64 m, .int .i64 n]] w fun e w' => e = .returned (common ⟨x, y, u, v⟩ ⟨p, q, m, n⟩).val ∧ Below w.heap.size w w' := by
  obtain ⟨x0, x1⟩ := hx; obtain ⟨y0, y1⟩ := hy; obtain ⟨u0, u1⟩ := hu; obtain ⟨v0, v1⟩ := hv
  obtain ⟨p0, p1⟩ := hp; obtain ⟨q0, q1⟩ := hq; obtain ⟨m0, m1⟩ := hm; obtain ⟨n0, n1⟩ := hn
  have z1 : decide (u < 1) = false := decide_eq_false (by omega)
  have z2 : decide (v < 1) = false := decide_eq_false (by omega)
  have z3 : decide (m < 1) = false := decide_eq_false (by omega)
  have z4 : decide (n < 1) = false := decide_eq_false (by omega)
  have e1 : IntKind.i64.wrap (x + u) = x + u := IntWalk.i64_in _ (by omega)
  have e2 : IntKind.i64.wrap (y + v) = y + v := IntWalk.i64_in _ (by omega)
  have e3 : IntKind.i64.wrap (p + m) = p + m := IntWalk.i64_in _ (by omega)
  have e4 : IntKind.i64.wrap (q + n) = q + n := IntWalk.i64_in _ (by omega)
  have e5 : IntKind.i64.wrap (min (x + u) (p + m) - max x p) = min (x + u) (p + m) - max x p := IntWalk.i64_in _ (by omega)
  have e6 : IntKind.i64.wrap (min (y + v) (q + n) - max y q) = min (y + v) (q + n) - max y q := IntWalk.i64_in _ (by omega)
  have hc : common ⟨x, y, u, v⟩ ⟨p, q, m, n⟩ = if min (x + u) (p + m) - max x p < 1 ∨ min (y + v) (q + n) - max y q < 1 then R4.zero else ⟨max x p, max y q, min (x + u) (p + m) - max x p, min (y + v) (q + n) - max y q⟩ := if_neg h
  go_enter Tryd.func48, Tryd.ntmps48
  go_wp2_with fail
  have B1 := ((Blk.new w [.int .i64 x, .int .i64 y, .int .i64 u, .int .i64 v] 36).alloc (.cells [Value.int .i64 p, .int .i64 q, .int .i64 m, .int .i64 n].toArray 36)).alloc (.cells [Value.int .i64 0, .int .i64 0, .int .i64 0, .int .i64 0].toArray 36)
  have B2 := ((Blk.new (w.alloc (.cells [Value.int .i64 x, .int .i64 y, .int .i64 u, .int .i64 v].toArray 36)) [.int .i64 p, .int .i64 q, .int .i64 m, .int .i64 n] 36).at (World.size_alloc _ _)).alloc (.cells [Value.int .i64 0, .int .i64 0, .int .i64 0, .int .i64 0].toArray 36)
  have hL := (((Below.refl w.heap.size w).alloc (Nat.le_refl _) (.cells [Value.int .i64 x, .int .i64 y, .int .i64 u, .int .i64 v].toArray 36)).alloc (by simp) (.cells [Value.int .i64 p, .int .i64 q, .int .i64 m, .int .i64 n].toArray 36)).alloc (by simp; omega) (.cells [Value.int .i64 0, .int .i64 0, .int .i64 0, .int .i64 0].toArray 36)
  have B3 := (Blk.new ((w.alloc (.cells [Value.int .i64 x, .int .i64 y, .int .i64 u, .int .i64 v].toArray 36)).alloc (.cells [Value.int .i64 p, .int .i64 q, .int .i64 m, .int .i64 n].toArray 36)) [.int .i64 0, .int .i64 0, .int .i64 0, .int .i64 0] 36).at ((World.size_alloc _ _).trans (congrArg (· + 1) (World.size_alloc _ _)))
  generalize (((w.alloc (.cells [Value.int .i64 x, .int .i64 y, .int .i64 u, .int .i64 v].toArray 36)).alloc (.cells [Value.int .i64 p, .int .i64 q, .int .i64 m, .int .i64 n].toArray 36)).alloc (.cells [Value.int .i64 0, .int .i64 0, .int .i64 0, .int .i64 0].toArray 36)) = W at *
  obtain ⟨_, _, _, _, _, _, _, _⟩ := B1.four
  obtain ⟨_, _, _, _, _, _, _, _⟩ := B2.four
  obtain ⟨_, _, _, _, _, _, _, _⟩ := B3.four
  go_quiet (fail)
  go_wp2_with fail
  go_quiet (fail)
  have D : ∀ (k : Nat) (r1 r2 r3 r4 : Value) (i : Nat), (((((W.drewN k).setCell ⟨w.heap.size + 1 + 1, 0, none⟩ r1).setCell ⟨w.heap.size + 1 + 1, 1, none⟩ r2).setCell ⟨w.heap.size + 1 + 1, 2, none⟩ r3).setCell ⟨w.heap.size + 1 + 1, 3, none⟩ r4).cell? ⟨w.heap.size + 1 + 1, i, none⟩ = [r1, r2, r3, r4][i]? := fun k r1 r2 r3 r4 i => ((B3.drewN k).put4 r1 r2 r3 r4).cell i
  have hz := hL.size
  have g : w.heap.size ≤ w.heap.size + 1 + 1 := by omega
  have E : ∀ (k : Nat) (r1 r2 r3 r4 : Value), Below w.heap.size w (((((W.drewN k).setCell ⟨w.heap.size + 1 + 1, 0, none⟩ r1).setCell ⟨w.heap.size + 1 + 1, 1, none⟩ r2).setCell ⟨w.heap.size + 1 + 1, 2, none⟩ r3).setCell ⟨w.heap.size + 1 + 1, 3, none⟩ r4) := fun k r1 r2 r3 r4 => ((((below_many hL k).setCell (p := ⟨w.heap.size + 1 + 1, 0, none⟩) g r1).setCell (p := ⟨w.heap.size + 1 + 1, 1, none⟩) g r2).setCell (p := ⟨w.heap.size + 1 + 1, 2, none⟩) g r3).setCell (p := ⟨w.heap.size + 1 + 1, 3, none⟩) g r4
  clear hL
  by_cases c1 : min (x + u) (p + m) - max x p < 1
  · replace hc := hc.trans (if_pos (Or.inl c1))
    go_wp2
    refine bodyPost_ret (v := .agg #[.int .i64 0, .int .i64 0, .int .i64 0, .int .i64 0]) (by simp [results, Tryd.results48, go_sem, D]) rfl ⟨by first | rfl | (rw [hc]; rfl), E _ _ _ _ _⟩
  · by_cases c2 : min (y + v) (q + n) - max y q < 1
    · replace hc := hc.trans (if_pos (Or.inr c2))
      have y1' : decide (min (x + u) (p + m) - max x p < 1) = false := decide_eq_false c1
      go_wp2
      refine bodyPost_ret (v := .agg #[.int .i64 0, .int .i64 0, .int .i64 0, .int .i64 0]) (by simp [results, Tryd.results48, go_sem, D]) rfl ⟨by first | rfl | (rw [hc]; rfl), E _ _ _ _ _⟩
    · replace hc := hc.trans (if_neg (by omega))
      have y1' : decide (min (x + u) (p + m) - max x p < 1) = false := decide_eq_false c1
      have y2' : decide (min (y + v) (q + n) - max y q < 1) = false := decide_eq_false c2
      go_wp2
      refine bodyPost_ret (v := .agg #[.int .i64 (max x p), .int .i64 (max y q), .int .i64 (min (x + u) (p + m) - max x p), .int .i64 (min (y + v) (q + n) - max y q)]) (by simp [results, Tryd.results48, go_sem, D]) rfl ⟨by first | rfl | (rw [hc]; rfl), E _ _ _ _ _⟩

theorem rcommon_x (x y u v p q m n : Int) (w : World) (hx : Near x) (hy : Near y) (hu : Near u) (hv : Near v) (hp : Near p) (hq : Near q) (hm : Near m) (hn : Near n) :
    Calls Tryd.prog 48 #[.agg #[.int .i64 x, .int .i64 y, .int .i64 u, .int .i64 v], .agg #[.int .i64 p, .int .i64 q, .int .i64 m, .int .i64 n]] w fun e w' => e = .returned (common ⟨x, y, u, v⟩ ⟨p, q, m, n⟩).val ∧ Below w.heap.size w w' := by
  by_cases h : u < 1 ∨ v < 1 ∨ m < 1 ∨ n < 1
  · rw [common_none (a := ⟨x, y, u, v⟩) (b := ⟨p, q, m, n⟩) h]
    exact rcommon_none x y u v p q m n w h
  · exact rcommon_some x y u v p q m n w hx hy hu hv hp hq hm hn h

end Go.Proofs.YtipfiggifnfljaaDoor
