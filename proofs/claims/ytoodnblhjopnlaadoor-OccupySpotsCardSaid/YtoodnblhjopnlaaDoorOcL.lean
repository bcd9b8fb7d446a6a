/-
  The laws of occupy: a map of ground; the chapter's examples hold.
-/
import Derived.Test.YtoodnblhjopnlaaDoorOcH
import Derived.Test.YtoodnblhjopnlaaDoorTerHaveAll
import Derived.Test.YtoodnblhjopnlaaDoorTerRefH
namespace Go.Proofs.YtoodnblhjopnlaaDoor
open Go.RowKit Go.Lib

/-- The map of the examples. -/
def ocflatM : M3 := ⟨3, 3, List.replicate 9 ⟨1, 0, 0⟩⟩
theorem infoCelO : (Tryd.prog.info? 57).map (fun i => (i.zero, i.size, i.bytes)) = some (some (.agg #[.int .i64 0, .int .i64 0, .int .i64 0]), 3, 24) := by kernel_rfl
def fcells (i : Nat) : List Value := ccells (List.replicate i ⟨1, 0, 0⟩)
theorem fcells_next (i : Nat) : fcells i ++ [.int .i64 1, .int .i64 0, .int .i64 0] = fcells (i + 1) := by
  unfold fcells
  have e := ccells_snoc (List.replicate i ⟨1, 0, 0⟩) ⟨1, 0, 0⟩
  rw [List.replicate_succ']
  exact e
theorem ints_loneO (a b c : Int) : ∀ u ∈ [Value.int .i64 a, .int .i64 b, .int .i64 c], u.oneCell' = true := by
  intro u hu
  simp only [List.mem_cons, List.not_mem_nil, or_false] at hu
  rcases hu with rfl | rfl | rfl <;> rfl
set_option maxRecDepth 100000 in
set_option maxHeartbeats 8000000 in
theorem flat_b (W : World) :
    Calls Tryd.prog 31 #[.int .i64 3, .int .i64 3] W fun e w' => ∃ s, e = .returned (.agg #[.int .i64 3, .int .i64 3, s]) ∧ RowAt w' s ocflatM.cs ∧ Below W.heap.size W w' := by
  obtain ⟨i0, hi0, hz0, hz1, hz2⟩ := info_cut infoCelO
  have hK := ((Keep.nil W).alloc [.int .i64 0, .int .i64 0, .slice none 0 0] 24).alloc [.int .i64 3, .int .i64 3, .slice none 0 0] 24
  simp only [World.size_alloc] at hK
  go_enter Tryd.func31, Tryd.ntmps31
  go_upto_region 2 with fail
  generalize (W.alloc (.cells [Value.int .i64 0, .int .i64 0, .slice none 0 0].toArray 24)).alloc (.cells [Value.int .i64 3, .int .i64 3, .slice none 0 0].toArray 24) = V at *
  obtain ⟨hM0, hR0⟩ := hK.two
  have hold := hK.old
  clear hK
  go_wp2_with fail
  go_loopw [6] (fun vi wr => ∃ (i : Nat) (v : Value), vi = .int .i64 i ∧ i ≤ 9 ∧ wr.ownsRow (W.heap.size + 1 + 1) 57 3 v i (fcells i) ∧ Blk wr (W.heap.size + 1) [.int .i64 3, .int .i64 3, v] 24 ∧ Blk wr W.heap.size [.int .i64 0, .int .i64 0, .slice none 0 0] 24 ∧ Below W.heap.size W wr) (fun vi _ => 9 - (RowKit.intOf vi).toNat)
  case atStart => exact ⟨0, .slice none 0 0, rfl, by omega, World.ownsRow_nil _ _ _ _, hM0, hR0, hold⟩
  case round =>
    clear hM0 hR0 hold
    obtain ⟨i, v, rfl, hi, hown, hM, hR, hL⟩ := hrel
    obtain ⟨_, _, _, _, _, _⟩ := hM.three
    obtain ⟨_, _, _, _, _, _⟩ := hR.three
    have hMl := hM.lt
    by_cases hlt : i < 9
    · have z1 : decide ((i : Int) < 9) = true := decide_eq_true (by omega)
      have hBs := hM.lt
      have hzz := hL.size
      go_wp2_with (at_builtin; refine wpList_append_own _ rfl _ _ 22 rfl (W.heap.size + 1 + 1) 57 i0 (.agg #[.int .i64 0, .int .i64 0, .int .i64 0]) 3 24 Tryd.underlying22 hi0 hz0 hz1 hz2 rfl (by decide) _ _ _ rfl (hown.alloc _) ⟨wr.heap.size, 0, none⟩ 1 1 [.int .i64 1, .int .i64 0, .int .i64 0] rfl rfl cells_new (ints_loneO 1 0 0) (by unfold maxLen; omega) (by omega) (by simp; omega) ?_)
      intro v' w9 hown' hg' _
      have hM9 := (hM.alloc (.cells [Value.int .i64 1, .int .i64 0, .int .i64 0].toArray 57)).grown hg' (own_not hown (by omega))
      have hR9 := (hR.alloc (.cells [Value.int .i64 1, .int .i64 0, .int .i64 0].toArray 57)).grown hg' (own_not hown (by omega))
      have hL9 := (hL.alloc hL.size (.cells [Value.int .i64 1, .int .i64 0, .int .i64 0].toArray 57)).grown hg' (by simp; omega) (fun j hj => by have := (hown.lt j hj).1; omega)
      have hown9 := own_to hown' (m := i + 1) rfl (fcells_next i)
      obtain ⟨g9, c9, rfl⟩ := own_some hown9 (by omega)
      obtain ⟨_, _, _, _, _, _⟩ := hM9.three
      clear hown' hg' hown hM hR hL
      go_wp2_with fail
      go_roundw
      case rel => exact ⟨i + 1, _, by go_num, by omega, own_other hown9 ⟨W.heap.size + 1, 2, none⟩ _ (fun j hj => by have := (hown9.lt j hj).1; show j ≠ W.heap.size + 1; omega), hM9.set 2 _, hR9.far _ (by omega), hL9.setCell (by show W.heap.size ≤ W.heap.size + 1; omega) _⟩
      case measure => simp [RowKit.intOf]; omega
    · obtain rfl : i = 9 := by omega
      have z1 : decide (((9 : Nat) : Int) < 9) = false := by decide
      obtain ⟨g, cap, rfl⟩ := own_some hown (by decide)
      have hgl := (hown.lt g rfl).1
      have hR2 := ((hR.set 0 (.int .i64 3)).set 1 (.int .i64 3)).set 2 (.slice (some ⟨g, 0, none⟩) 9 cap)
      have hown2 := own_other (own_other (own_other hown ⟨W.heap.size, 0, none⟩ (.int .i64 3) (fun j hj => by have := (hown.lt j hj).1; show j ≠ W.heap.size; omega)) ⟨W.heap.size, 1, none⟩ (.int .i64 3) (fun j hj => by have := (hown.lt j hj).1; show j ≠ W.heap.size; omega)) ⟨W.heap.size, 2, none⟩ (.slice (some ⟨g, 0, none⟩) 9 cap) (fun j hj => by have := (hown.lt j hj).1; show j ≠ W.heap.size; omega)
      have hrow2 := RowAt.own (l := ocflatM.cs) (cap := cap) (g := g) hown2 (by unfold maxLen; decide)
      have hL2 := ((hL.setCell (p := ⟨W.heap.size, 0, none⟩) (Nat.le_refl _) (.int .i64 3)).setCell (p := ⟨W.heap.size, 1, none⟩) (Nat.le_refl _) (.int .i64 3)).setCell (p := ⟨W.heap.size, 2, none⟩) (Nat.le_refl _) (.slice (some ⟨g, 0, none⟩) 9 cap)
      go_wp2_with fail
      obtain ⟨_, _, _, -, -, -⟩ := hR2.three
      refine bodyPost_ret (v := .agg #[.int .i64 3, .int .i64 3, .slice (some ⟨g, 0, none⟩) 9 cap]) (by simp [results, Tryd.results31, go_sem, *]) rfl ⟨_, rfl, hrow2, hL2⟩

end Go.Proofs.YtoodnblhjopnlaaDoor
