/-
  What Add and Sub of vec answer, for all vectors.
-/
import Derived.Test.YtaamfbfafcocoaaProg
import Derived.WalkKit
import Derived.WalkSpells
import Derived.WalkLawsBesides
import Derived.Deep.QuietTactic
import Derived.BigQuiet
import Derived.Lib.Hide
import Derived.Lib.Walk
import Derived.LoopN
import Derived.StillTailTactics
import Derived.Deep.RegionHeld3
import Derived.Deep.RegionWith
import Derived.Test.YtaamfbfafcocoaaVecA
namespace Go.Proofs.Ytaamfbfafcocoaa
open Go.RowKit Go.Lib

/-- Block b holds the four cells p, q, u and v: a slice of two vectors. -/
def Quad (w : World) (b : Nat) (p q u v : Value) (t : TypeId) : Prop := w.heap[b]? = some (.cells #[p, q, u, v] t (0, 0))
theorem Quad.cells {w : World} {b : Nat} {p q u v : Value} {t : TypeId} (h : Quad w b p q u v t) :
    w.cell? ⟨b, 0, none⟩ = some p ∧ w.cell? ⟨b, 1, none⟩ = some q ∧ w.cell? ⟨b, 2, none⟩ = some u ∧ w.cell? ⟨b, 3, none⟩ = some v := by
  unfold Quad at h
  refine ⟨?_, ?_, ?_, ?_⟩ <;> simp [World.cell?, h]
theorem Quad.lt {w : World} {b : Nat} {p q u v : Value} {t : TypeId} (h : Quad w b p q u v t) : b < w.heap.size := by
  unfold Quad at h
  exact (Array.getElem?_eq_some_iff.1 h).1
theorem Quad.below {w w' : World} {b : Nat} {p q u v : Value} {t : TypeId} (h : Quad w b p q u v t) (hb : Below w.heap.size w w') : Quad w' b p q u v t := by
  unfold Quad
  rw [hb.block b h.lt]
  exact h
theorem Quad.new (w : World) (p q u v : Value) (t : TypeId) : Quad (w.alloc (.cells #[p, q, u, v] t)) w.heap.size p q u v t := by
  show (w.heap.push _)[w.heap.size]? = _
  simp
theorem Quad.alloc {w : World} {b : Nat} {p q u v : Value} {t : TypeId} (h : Quad w b p q u v t) (o : Obj) : Quad (w.alloc o) b p q u v t := by
  have := h.lt
  show (w.heap.push o)[b]? = _
  rw [Array.getElem?_push_lt this]
  exact (Array.getElem?_eq_some_iff.1 h).2 ▸ rfl
theorem Quad.other {w : World} {b : Nat} {p q u v : Value} {t : TypeId} (h : Quad w b p q u v t) (a : Addr) (x : Value) (ne : b ≠ a.block) : Quad (w.setCell a x) b p q u v t := by
  unfold Quad at *
  rw [Below.heap_setCell w a x b ne]
  exact h

set_option maxHeartbeats 2000000 in
theorem vsum_two (x y u v : Int) (g : Nat) (w : World) (q : Quad w g (.int .i64 x) (.int .i64 y) (.int .i64 u) (.int .i64 v) 23) :
    Calls Try.prog 33 #[.slice (some ⟨g, 0, none⟩) 2 2] w fun e w' => e = .returned (.agg #[.int .i64 (near (near x + near u)), .int .i64 (near (near y + near v))]) ∧ Below w.heap.size w w' := by
  go_enter Try.func33, Try.ntmps33
  have Q1 := (q.alloc (.cells #[.int .i64 0, .int .i64 0] 23)).alloc (.cells #[.int .i64 0, .int .i64 0] 23)
  obtain ⟨q0, q1, q2, q3⟩ := Q1.cells
  go_wp2_with fail
  refine wp_loop_rounds 3 ?_
  rw [rounds_succ]
  go_wp2_with fail
  ((with_reducible refine (vnearest_any x y _).mono ?_); rintro e w1 ⟨rfl, hb1⟩)
  have s1 : (w.alloc (.cells #[.int .i64 0, .int .i64 0] 23)).heap.size = w.heap.size + 1 := by simp
  have s2 : ((w.alloc (.cells #[.int .i64 0, .int .i64 0] 23)).alloc (.cells #[.int .i64 0, .int .i64 0] 23)).heap.size = w.heap.size + 1 + 1 := by simp
  have A2 := (Box.new (w.alloc (.cells #[.int .i64 0, .int .i64 0] 23)) (.int .i64 0) (.int .i64 0) 23).alloc (.cells #[.int .i64 x, .int .i64 y] 23)
  have A3 := Box.new ((w.alloc (.cells #[.int .i64 0, .int .i64 0] 23)).alloc (.cells #[.int .i64 0, .int .i64 0] 23)) (.int .i64 x) (.int .i64 y) 23
  rw [s1] at A2
  rw [s2] at A3
  have B1 := (((Box.new w (.int .i64 0) (.int .i64 0) 23).alloc (.cells #[.int .i64 0, .int .i64 0] 23)).alloc (.cells #[.int .i64 x, .int .i64 y] 23)).below hb1
  have B2 := A2.below hb1
  have B3 := A3.below hb1
  have Q2 := (Q1.alloc (.cells #[.int .i64 x, .int .i64 y] 23)).below hb1
  have hL := below_call ((((Below.refl w.heap.size w).alloc (Nat.le_refl _) (.cells #[.int .i64 0, .int .i64 0] 23)).alloc (by simp) (.cells #[.int .i64 0, .int .i64 0] 23)).alloc (by simp; omega) (.cells #[.int .i64 x, .int .i64 y] 23)) hb1
  clear A2 A3 Q1 q0 q1 q2 q3 hb1 s1 s2
  have bx := near_bd x; have by' := near_bd y; have bu := near_bd u; have bv := near_bd v
  obtain ⟨c21, c22, f21, f22⟩ := B2.cells
  obtain ⟨c31, c32, f31, f32⟩ := B3.cells
  go_wp2_with fail
  have n12 : w.heap.size ≠ w.heap.size + 1 := by omega
  have n13 : w.heap.size ≠ w.heap.size + 1 + 1 := by omega
  have n23 : w.heap.size + 1 ≠ w.heap.size + 1 + 1 := by omega
  have ng := q.lt
  replace B1 := (((B1.other ⟨w.heap.size + 1 + 1, 0, none⟩ (.int .i64 (near x)) n13).other ⟨w.heap.size + 1 + 1, 1, none⟩ (.int .i64 (near y)) n13).other ⟨w.heap.size + 1, 0, none⟩ (.int .i64 (near x)) n12).other ⟨w.heap.size + 1, 1, none⟩ (.int .i64 (near y)) n12
  replace B2 := (((B2.other ⟨w.heap.size + 1 + 1, 0, none⟩ (.int .i64 (near x)) n23).other ⟨w.heap.size + 1 + 1, 1, none⟩ (.int .i64 (near y)) n23).set0 (.int .i64 (near x))).set1 (.int .i64 (near y))
  replace Q2 := (((Q2.other ⟨w.heap.size + 1 + 1, 0, none⟩ (.int .i64 (near x)) (by show g ≠ w.heap.size + 1 + 1; omega)).other ⟨w.heap.size + 1 + 1, 1, none⟩ (.int .i64 (near y)) (by show g ≠ w.heap.size + 1 + 1; omega)).other ⟨w.heap.size + 1, 0, none⟩ (.int .i64 (near x)) (by show g ≠ w.heap.size + 1; omega)).other ⟨w.heap.size + 1, 1, none⟩ (.int .i64 (near y)) (by show g ≠ w.heap.size + 1; omega)
  replace hL := (((hL.setCell (p := ⟨w.heap.size + 1 + 1, 0, none⟩) (by show w.heap.size ≤ w.heap.size + 1 + 1; omega) (.int .i64 (near x))).setCell (p := ⟨w.heap.size + 1 + 1, 1, none⟩) (by show w.heap.size ≤ w.heap.size + 1 + 1; omega) (.int .i64 (near y))).setCell (p := ⟨w.heap.size + 1, 0, none⟩) (by show w.heap.size ≤ w.heap.size + 1; omega) (.int .i64 (near x))).setCell (p := ⟨w.heap.size + 1, 1, none⟩) (by show w.heap.size ≤ w.heap.size + 1; omega) (.int .i64 (near y))
  clear c21 c22 f21 f22 c31 c32 f31 f32 B3
  generalize (((w1.setCell ⟨w.heap.size + 1 + 1, 0, none⟩ (.int .i64 (near x))).setCell ⟨w.heap.size + 1 + 1, 1, none⟩ (.int .i64 (near y))).setCell ⟨w.heap.size + 1, 0, none⟩ (.int .i64 (near x))).setCell ⟨w.heap.size + 1, 1, none⟩ (.int .i64 (near y)) = W1 at *
  obtain ⟨q0, q1, q2, q3⟩ := Q2.cells
  rw [rounds_succ]
  go_wp2_with fail
  ((with_reducible refine (vnearest_any u v _).mono ?_); rintro e w2 ⟨rfl, hb2⟩)
  have k2 := B2.lt
  have B3 := (Box.new W1 (.int .i64 u) (.int .i64 v) 23).below hb2
  replace B1 := (B1.alloc (.cells #[.int .i64 u, .int .i64 v] 23)).below hb2
  replace B2 := (B2.alloc (.cells #[.int .i64 u, .int .i64 v] 23)).below hb2
  replace hL := below_call (hL.alloc hL.size (.cells #[.int .i64 u, .int .i64 v] 23)) hb2
  clear Q2 q0 q1 q2 q3 hb2
  obtain ⟨c21, c22, f21, f22⟩ := B2.cells
  obtain ⟨c31, c32, f31, f32⟩ := B3.cells
  go_wp2_with fail
  have h2u : W1.heap.size ≠ w.heap.size + 1 := by omega
  have h1u : W1.heap.size ≠ w.heap.size := by omega
  replace B1 := (((B1.other ⟨W1.heap.size, 0, none⟩ (.int .i64 (near u)) (Ne.symm h1u)).other ⟨W1.heap.size, 1, none⟩ (.int .i64 (near v)) (Ne.symm h1u)).other ⟨w.heap.size + 1, 0, none⟩ (.int .i64 (near x + near u)) n12).other ⟨w.heap.size + 1, 1, none⟩ (.int .i64 (near y + near v)) n12
  replace B2 := (((B2.other ⟨W1.heap.size, 0, none⟩ (.int .i64 (near u)) (Ne.symm h2u)).other ⟨W1.heap.size, 1, none⟩ (.int .i64 (near v)) (Ne.symm h2u)).set0 (.int .i64 (near x + near u))).set1 (.int .i64 (near y + near v))
  replace hL := (((hL.setCell (p := ⟨W1.heap.size, 0, none⟩) (by show w.heap.size ≤ W1.heap.size; omega) (.int .i64 (near u))).setCell (p := ⟨W1.heap.size, 1, none⟩) (by show w.heap.size ≤ W1.heap.size; omega) (.int .i64 (near v))).setCell (p := ⟨w.heap.size + 1, 0, none⟩) (by show w.heap.size ≤ w.heap.size + 1; omega) (.int .i64 (near x + near u))).setCell (p := ⟨w.heap.size + 1, 1, none⟩) (by show w.heap.size ≤ w.heap.size + 1; omega) (.int .i64 (near y + near v))
  clear c21 c22 f21 f22 c31 c32 f31 f32 B3
  generalize (((w2.setCell ⟨W1.heap.size, 0, none⟩ (.int .i64 (near u))).setCell ⟨W1.heap.size, 1, none⟩ (.int .i64 (near v))).setCell ⟨w.heap.size + 1, 0, none⟩ (.int .i64 (near x + near u))).setCell ⟨w.heap.size + 1, 1, none⟩ (.int .i64 (near y + near v)) = W2 at *
  obtain ⟨c21, c22, f21, f22⟩ := B2.cells
  rw [rounds_succ]
  go_wp2_with fail
  ((with_reducible refine (vnearest_any (near x + near u) (near y + near v) _).mono ?_); rintro e w3 ⟨rfl, hb3⟩)
  replace B1 := B1.below hb3
  replace hL := below_call hL hb3
  clear c21 c22 f21 f22 hb3
  obtain ⟨c11, c12, f11, f12⟩ := B1.cells
  go_wp2_with fail
  replace B1 := B1.set0 (.int .i64 (near (near x + near u)))
  clear c11 c12 f11 f12
  obtain ⟨c30, -, -, -⟩ := B1.cells
  replace B1 := B1.set1 (.int .i64 (near (near y + near v)))
  obtain ⟨c31, c32, -, -⟩ := B1.cells
  refine bodyPost_ret (v := .agg #[.int .i64 (near (near x + near u)), .int .i64 (near (near y + near v))]) (by simp [results, Try.results33, go_sem, c31, c32]) rfl ⟨rfl, ?_⟩
  exact (hL.setCell (p := ⟨w.heap.size, 0, none⟩) (Nat.le_refl _) _).setCell (p := ⟨w.heap.size, 1, none⟩) (Nat.le_refl _) _

set_option maxHeartbeats 2000000 in
theorem vadd_any (x y u v : Int) (w : World) :
    Calls Try.prog 9 #[.agg #[.int .i64 x, .int .i64 y], .agg #[.int .i64 u, .int .i64 v]] w fun e w' => e = .returned (.agg #[.int .i64 (near (near x + near u)), .int .i64 (near (near y + near v))]) ∧ Below w.heap.size w w' := by
  go_enter Try.func9, Try.ntmps9
  go_wp2_with fail
  have s2 : ((w.alloc (.cells #[.int .i64 x, .int .i64 y] 23)).alloc (.cells #[.int .i64 u, .int .i64 v] 23)).heap.size = w.heap.size + 1 + 1 := by simp
  have s3 : (((w.alloc (.cells #[.int .i64 x, .int .i64 y] 23)).alloc (.cells #[.int .i64 u, .int .i64 v] 23)).alloc (.cells #[.int .i64 0, .int .i64 0] 23)).heap.size = w.heap.size + 1 + 1 + 1 := by simp
  have Q := Quad.new (((w.alloc (.cells #[.int .i64 x, .int .i64 y] 23)).alloc (.cells #[.int .i64 u, .int .i64 v] 23)).alloc (.cells #[.int .i64 0, .int .i64 0] 23)) (.int .i64 x) (.int .i64 y) (.int .i64 u) (.int .i64 v) 23
  have B := Box.new ((w.alloc (.cells #[.int .i64 x, .int .i64 y] 23)).alloc (.cells #[.int .i64 u, .int .i64 v] 23)) (.int .i64 0) (.int .i64 0) 23
  have hL := (((Below.refl w.heap.size w).alloc (Nat.le_refl _) (.cells #[.int .i64 x, .int .i64 y] 23)).alloc (by simp) (.cells #[.int .i64 u, .int .i64 v] 23)).alloc (by simp; omega) (.cells #[.int .i64 0, .int .i64 0] 23)
  replace hL := hL.alloc hL.size (.cells #[.int .i64 x, .int .i64 y, .int .i64 u, .int .i64 v] 23)
  rw [s3] at Q
  rw [s2] at B
  ((with_reducible refine (vsum_two x y u v _ _ Q).mono ?_); rintro e w1 ⟨rfl, hb1⟩)
  replace B := (B.alloc (.cells #[.int .i64 x, .int .i64 y, .int .i64 u, .int .i64 v] 23)).below hb1
  replace hL := below_call hL hb1
  clear Q s2 s3 hb1
  obtain ⟨c11, c12, f11, f12⟩ := B.cells
  go_wp2_with fail
  replace B := B.set0 (.int .i64 (near (near x + near u)))
  clear c11 c12 f11 f12
  obtain ⟨c30, -, -, -⟩ := B.cells
  replace B := B.set1 (.int .i64 (near (near y + near v)))
  obtain ⟨c31, c32, -, -⟩ := B.cells
  refine bodyPost_ret (v := .agg #[.int .i64 (near (near x + near u)), .int .i64 (near (near y + near v))]) (by simp [results, Try.results9, go_sem, c31, c32]) rfl ⟨rfl, ?_⟩
  exact (hL.setCell (p := ⟨w.heap.size + 1 + 1, 0, none⟩) (by show w.heap.size ≤ w.heap.size + 1 + 1; omega) _).setCell (p := ⟨w.heap.size + 1 + 1, 1, none⟩) (by show w.heap.size ≤ w.heap.size + 1 + 1; omega) _

theorem near_minus (a b : Int) : near (near a + near (-near b)) = near (near a - near b) := by unfold near; omega
set_option maxHeartbeats 2000000 in
theorem vsub_any (x y u v : Int) (w : World) :
    Calls Try.prog 11 #[.agg #[.int .i64 x, .int .i64 y], .agg #[.int .i64 u, .int .i64 v]] w fun e w' => e = .returned (.agg #[.int .i64 (near (near x - near u)), .int .i64 (near (near y - near v))]) ∧ Below w.heap.size w w' := by
  rw [← near_minus x u, ← near_minus y v]
  go_enter Try.func11, Try.ntmps11
  go_wp2_with fail
  have B1 := ((Box.new w (.int .i64 x) (.int .i64 y) 23).alloc (.cells #[.int .i64 u, .int .i64 v] 23)).alloc (.cells #[.int .i64 0, .int .i64 0] 23)
  have A2 := (Box.new (w.alloc (.cells #[.int .i64 x, .int .i64 y] 23)) (.int .i64 u) (.int .i64 v) 23).alloc (.cells #[.int .i64 0, .int .i64 0] 23)
  have B2 : Box (((w.alloc (.cells #[.int .i64 x, .int .i64 y] 23)).alloc (.cells #[.int .i64 u, .int .i64 v] 23)).alloc (.cells #[.int .i64 0, .int .i64 0] 23)) (w.heap.size + 1) (.int .i64 u) (.int .i64 v) 23 := by simpa using A2
  have A3 := Box.new ((w.alloc (.cells #[.int .i64 x, .int .i64 y] 23)).alloc (.cells #[.int .i64 u, .int .i64 v] 23)) (.int .i64 0) (.int .i64 0) 23
  have B3 : Box (((w.alloc (.cells #[.int .i64 x, .int .i64 y] 23)).alloc (.cells #[.int .i64 u, .int .i64 v] 23)).alloc (.cells #[.int .i64 0, .int .i64 0] 23)) (w.heap.size + 1 + 1) (.int .i64 0) (.int .i64 0) 23 := by simpa using A3
  have hL := (((Below.refl w.heap.size w).alloc (Nat.le_refl _) (.cells #[.int .i64 x, .int .i64 y] 23)).alloc (by simp) (.cells #[.int .i64 u, .int .i64 v] 23)).alloc (by simp; omega) (.cells #[.int .i64 0, .int .i64 0] 23)
  clear A2 A3
  generalize (((w.alloc (.cells #[.int .i64 x, .int .i64 y] 23)).alloc (.cells #[.int .i64 u, .int .i64 v] 23)).alloc (.cells #[.int .i64 0, .int .i64 0] 23)) = W at *
  replace B1 := B1.drew
  replace B2 := B2.drew
  replace B3 := B3.drew
  replace hL := hL.drew
  obtain ⟨c11, c12, f11, f12⟩ := B1.cells
  obtain ⟨c21, c22, f21, f22⟩ := B2.cells
  go_region_with (first
    | (go_at_call 34; with_reducible refine (vopposite_any _ _ _).mono ?_; rintro e w1 ⟨rfl, hb1⟩; have D1 := B1.below hb1; have D3 := (B3.below hb1).alloc (.cells #[.int .i64 x, .int .i64 y, .int .i64 (-near u), .int .i64 (-near v)] 23); have hM := below_call hL hb1; replace hM := hM.alloc hM.size (.cells #[.int .i64 x, .int .i64 y, .int .i64 (-near u), .int .i64 (-near v)] 23); obtain ⟨e11, e12, -, -⟩ := D1.cells)
    | (go_at_call 33; with_reducible refine (vsum_two _ _ _ _ _ _ (Quad.new _ _ _ _ _ _)).mono ?_; rintro e w2 ⟨rfl, hb2⟩; have E3 := D3.below hb2; have hN := below_call hM hb2; obtain ⟨d11, d12, g11, g12⟩ := E3.cells))
  all_goals
    go_wp2_with fail
    clear d11 d12 g11 g12
    have F3 := E3.set0 (.int .i64 (near (near x + near (-near u))))
    obtain ⟨c30, -, -, -⟩ := F3.cells
    replace F3 := F3.set1 (.int .i64 (near (near y + near (-near v))))
    obtain ⟨c31, c32, -, -⟩ := F3.cells
    refine bodyPost_ret (v := .agg #[.int .i64 (near (near x + near (-near u))), .int .i64 (near (near y + near (-near v)))]) (by simp [results, Try.results11, go_sem, c31, c32]) rfl ⟨rfl, ?_⟩
    exact (hN.setCell (p := ⟨w.heap.size + 1 + 1, 0, none⟩) (by show w.heap.size ≤ w.heap.size + 1 + 1; omega) _).setCell (p := ⟨w.heap.size + 1 + 1, 1, none⟩) (by show w.heap.size ≤ w.heap.size + 1 + 1; omega) _

end Go.Proofs.Ytaamfbfafcocoaa
