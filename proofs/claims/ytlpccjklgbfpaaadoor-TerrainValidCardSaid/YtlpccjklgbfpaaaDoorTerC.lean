/-
  What the reference of terrain answers: the cell of a position.
-/
import Derived.Test.YtlpccjklgbfpaaaDoorTerB
import Derived.Deep.Cut
namespace Go.Proofs.YtlpccjklgbfpaaaDoor
open Go.RowKit Go.Lib

theorem get_keep {W w' : World} {B b c g i : Nat} {u v s p q x y z : Value} {t r : TypeId} (hl : Blk W b [u, v, s] t) (hr : Blk W c [p, q] r) (a1 : W.cell? ⟨g, i, none⟩ = some x) (a2 : W.cell? ⟨g, i + 1, none⟩ = some y) (a3 : W.cell? ⟨g, i + 2, none⟩ = some z)
    (lb : b < B) (lc : c < B) (lg : g < B) (h : Below B W w') :
    w'.cell? ⟨b, 0, none⟩ = some u ∧ w'.cell? ⟨b, 1, none⟩ = some v ∧ w'.cell? ⟨b, 2, none⟩ = some s ∧ w'.cell? ⟨c, 0, none⟩ = some p ∧ w'.cell? ⟨c, 1, none⟩ = some q ∧ w'.cell? ⟨g, i, none⟩ = some x ∧ w'.cell? ⟨g, i + 1, none⟩ = some y ∧ w'.cell? ⟨g, i + 2, none⟩ = some z :=
  ⟨(hl.under h lb).cell 0, (hl.under h lb).cell 1, (hl.under h lb).cell 2, (hr.under h lc).cell 0, (hr.under h lc).cell 1, (h.cell (p := ⟨g, i, none⟩) lg).trans a1, (h.cell (p := ⟨g, i + 1, none⟩) lg).trans a2, (h.cell (p := ⟨g, i + 2, none⟩) lg).trans a3⟩
theorem rindex_b (w x y n : Int) (W : World) (e : Hid (n = indexv w x y)) : Calls Tryd.prog 34 #[.int .i64 w, .agg #[.int .i64 x, .int .i64 y]] W fun e w' => e = .returned (.int .i64 n) ∧ Below W.heap.size W w' := by
  rw [e.out]; exact rindex_any w x y W
theorem rinside_b (m : M3) (s : Value) (x y : Int) (b : Bool) (W : World) (hr : RowAt W s m.cs) (e : Hid (b = insidev m x y)) :
    Calls Tryd.prog 33 #[.agg #[.int .i64 m.w, .int .i64 m.h, s], .agg #[.int .i64 x, .int .i64 y]] W fun e w' => e = .returned (.bool b) ∧ Below W.heap.size W w' := by
  rw [e.out]; exact rinside_any m s x y W hr
set_option maxHeartbeats 2000000 in
theorem rget_no (m : M3) (s : Value) (x y : Int) (W : World) (hr : RowAt W s m.cs) (e : Hid (false = insidev m x y)) :
    Calls Tryd.prog 13 #[.agg #[.int .i64 m.w, .int .i64 m.h, s], .agg #[.int .i64 x, .int .i64 y]] W fun e w' => e = .returned (.tuple #[.agg #[.int .i64 0, .int .i64 0, .int .i64 0], .bool false]) ∧ Below W.heap.size W w' := by
  have hT := (Held2.start W [.int .i64 m.w, .int .i64 m.h, s] [.int .i64 x, .int .i64 y] 24 26).alloc (.cells [Value.int .i64 0, .int .i64 0, .int .i64 0].toArray 28)
  have hB := (Blk.new ((W.alloc (.cells [Value.int .i64 m.w, .int .i64 m.h, s].toArray 24)).alloc (.cells [Value.int .i64 x, .int .i64 y].toArray 26)) [.int .i64 0, .int .i64 0, .int .i64 0] 28).at ((World.size_alloc _ _).trans (congrArg (· + 1) (World.size_alloc _ _)))
  go_enter Tryd.func13, Tryd.ntmps13
  go_wp2_with fail
  ((with_reducible refine (rinside_b m s x y false _ (hr.below hT.old) e).mono ?_); rintro e w1 ⟨rfl, hb⟩)
  replace hT := hT.call hb
  replace hB := hB.below hb
  obtain ⟨_, _, _, _, _, _⟩ := hB.three
  go_wp2_with fail
  have hB2 := ((hB.set 0 (.int .i64 0)).set 1 (.int .i64 0)).set 2 (.int .i64 0)
  obtain ⟨_, _, _, -, -, -⟩ := hB2.three
  refine bodyPost_ret (v := .tuple #[.agg #[.int .i64 0, .int .i64 0, .int .i64 0], .bool false]) (by simp [results, Tryd.results13, go_sem, *]) rfl ⟨rfl, ?_⟩
  exact ((hT.old.setCell (by simp; omega) _).setCell (by simp; omega) _).setCell (by simp; omega) _

/-- The cell at a position inside. -/
theorem get_at {m : M3} {x y : Int} (h : insidev m x y = true) : ∃ n : Nat, ∃ hn : n < m.cs.length, Hid ((n : Int) = indexv m.w x y) ∧ getv m x y = m.cs[n]'hn := by
  obtain ⟨X, Y, a, b, _, _, _, _, _, _, _, _, _, hi, hl⟩ := inside_at h
  refine ⟨b * X + a, hl, hid hi.symm, ?_⟩
  unfold getv
  rw [if_pos h, hi, Int.toNat_natCast, List.getD_eq_getElem?_getD, List.getElem?_eq_getElem hl]
  rfl
set_option maxHeartbeats 2000000 in
theorem rget_yes (m : M3) (s : Value) (x y : Int) (q : C3) (W : World) (hr : RowAt W s m.cs) (e : Hid (true = insidev m x y)) (hq : Hid (q = getv m x y)) :
    Calls Tryd.prog 13 #[.agg #[.int .i64 m.w, .int .i64 m.h, s], .agg #[.int .i64 x, .int .i64 y]] W fun e w' => e = .returned (.tuple #[.agg #[.int .i64 q.k, .int .i64 q.h, .int .i64 q.a], .bool true]) ∧ Below W.heap.size W w' := by
  obtain ⟨n, hn, hix, hg⟩ := get_at e.out.symm
  obtain ⟨p, c, rfl, hm, hc⟩ := id hr
  obtain ⟨g, o, rfl, hat⟩ := hc (by omega)
  obtain ⟨a1, a2, a3⟩ := hat n hn
  rw [← hg, ← hq.out] at a1 a2 a3
  have n1 : (0 : Int) ≤ n := by omega
  have n2 : (n : Int) < m.cs.length := by omega
  have hk : g < W.heap.size := World.block_lt_of_cell? W _ a1
  clear hat hc hg hq
  have hl := (Blk.new W [.int .i64 m.w, .int .i64 m.h, .slice (some ⟨g, o, none⟩) m.cs.length c] 24).alloc (.cells [Value.int .i64 x, .int .i64 y].toArray 26)
  have hr2 := (Blk.new (W.alloc (.cells [Value.int .i64 m.w, .int .i64 m.h, .slice (some ⟨g, o, none⟩) m.cs.length c].toArray 24)) [.int .i64 x, .int .i64 y] 26).at (World.size_alloc _ _)
  have hB := (Blk.new ((W.alloc (.cells [Value.int .i64 m.w, .int .i64 m.h, .slice (some ⟨g, o, none⟩) m.cs.length c].toArray 24)).alloc (.cells [Value.int .i64 x, .int .i64 y].toArray 26)) [.int .i64 0, .int .i64 0, .int .i64 0] 28).at ((World.size_alloc _ _).trans (congrArg (· + 1) (World.size_alloc _ _)))
  have hL := (((Below.refl W.heap.size W).alloc (Nat.le_refl _) (.cells [Value.int .i64 m.w, .int .i64 m.h, .slice (some ⟨g, o, none⟩) m.cs.length c].toArray 24)).alloc (by simp) (.cells [Value.int .i64 x, .int .i64 y].toArray 26)).alloc (by simp; omega) (.cells [Value.int .i64 0, .int .i64 0, .int .i64 0].toArray 28)
  replace hl := hl.alloc (.cells [Value.int .i64 0, .int .i64 0, .int .i64 0].toArray 28)
  replace hr2 := hr2.alloc (.cells [Value.int .i64 0, .int .i64 0, .int .i64 0].toArray 28)
  rw [← hL.cell (p := ⟨g, _, none⟩) hk] at a1 a2 a3
  have hr3 := hr.below hL
  go_enter Tryd.func13, Tryd.ntmps13
  go_wp2_with fail
  generalize ((W.alloc (.cells [Value.int .i64 m.w, .int .i64 m.h, .slice (some ⟨g, o, none⟩) m.cs.length c].toArray 24)).alloc (.cells [Value.int .i64 x, .int .i64 y].toArray 26)).alloc (.cells [Value.int .i64 0, .int .i64 0, .int .i64 0].toArray 28) = V at *
  ((with_reducible refine (rinside_b m _ x y true _ hr3 e).mono ?_); rintro e w1 ⟨rfl, hb⟩)
  have hq := hb.mono (Nat.le_of_lt hB.lt)
  have hL2 := below_call hL hb
  have hB2 := hB.below hb
  clear hb
  obtain ⟨_, _, _, _, _, _, _, _⟩ := get_keep hl hr2 a1 a2 a3 (by omega) (by omega) (show g < W.heap.size + 1 + 1 by omega) hq
  replace hq := hq.drew
  replace hL2 := hL2.drew
  replace hB2 := hB2.drew
  obtain ⟨_, _, _, _, _, _⟩ := hB2.three
  go_wp2_with fail
  go_region_held3 (fun w' => w'.cell? ⟨W.heap.size, 0, none⟩ = some (.int .i64 m.w) ∧ w'.cell? ⟨W.heap.size, 1, none⟩ = some (.int .i64 m.h) ∧ w'.cell? ⟨W.heap.size, 2, none⟩ = some (.slice (some ⟨g, o, none⟩) m.cs.length c) ∧ w'.cell? ⟨W.heap.size + 1, 0, none⟩ = some (.int .i64 x) ∧ w'.cell? ⟨W.heap.size + 1, 1, none⟩ = some (.int .i64 y) ∧ w'.cell? ⟨g, o + n * 3, none⟩ = some (.int .i64 q.k) ∧ w'.cell? ⟨g, o + n * 3 + 1, none⟩ = some (.int .i64 q.h) ∧ w'.cell? ⟨g, o + n * 3 + 2, none⟩ = some (.int .i64 q.a))
    (first | exact get_keep hl hr2 a1 a2 a3 (by omega) (by omega) (show g < W.heap.size + 1 + 1 by omega) hq | exact get_keep hl hr2 a1 a2 a3 (by omega) (by omega) (show g < W.heap.size + 1 + 1 by omega) (((hq.setCell (by simp) _).setCell (by simp) _).setCell (by simp) _))
    (first | (go_at_call 34; with_reducible refine (rindex_b _ x y n _ hix).mono ?_; rintro e w' ⟨rfl, hb⟩; replace hq := hq.trans (hb.mono (by have := hB2.lt; omega)); replace hL2 := below_call hL2 hb; replace hB2 := hB2.below hb; clear hb; obtain ⟨_, _, _, _, _, _⟩ := hB2.three))
  go_wp2
  have hB3 := ((hB2.set 0 (.int .i64 q.k)).set 1 (.int .i64 q.h)).set 2 (.int .i64 q.a)
  obtain ⟨_, _, _, -, -, -⟩ := hB3.three
  refine bodyPost_ret (v := .tuple #[.agg #[.int .i64 q.k, .int .i64 q.h, .int .i64 q.a], .bool true]) (by simp [results, Tryd.results13, go_sem, *]) rfl ⟨rfl, ?_⟩
  exact ((hL2.setCell (by simp; omega) _).setCell (by simp; omega) _).setCell (by simp; omega) _

end Go.Proofs.YtlpccjklgbfpaaaDoor
