/-
  The laws of shadow: the chapter's examples.
-/
import Derived.Test.YtlcbkeieejmmbaaDoorShP
import Derived.Test.YtlcbkeieejmmbaaDoorTerHaveAll
import Derived.Test.YtlcbkeieejmmbaaDoorTerRefH
namespace Go.Proofs.YtlcbkeieejmmbaaDoor
open Go.RowKit Go.Lib

/-- The map of the examples: a rock beside the corner. -/
def rockC (i : Nat) : C3 := if i = 1 then ⟨3, 0, 0⟩ else ⟨1, 0, 0⟩
def rockM : M3 := ⟨3, 3, (List.range 9).map rockC⟩
theorem infoCel : (Tryd.prog.info? 46).map (fun i => (i.zero, i.size, i.bytes)) = some (some (.agg #[.int .i64 0, .int .i64 0, .int .i64 0]), 3, 24) := by kernel_rfl
theorem rock_next (i : Nat) : ccells ((List.range i).map rockC) ++ [.int .i64 (rockC i).k, .int .i64 (rockC i).h, .int .i64 (rockC i).a] = ccells ((List.range (i + 1)).map rockC) := by
  rw [ccells_snoc, List.range_succ, List.map_append]; rfl
def rcells (i : Nat) : List Value := ccells ((List.range i).map rockC)
theorem rcells_next (i : Nat) (k : Int) (h : (rockC i).k = k) : rcells i ++ [.int .i64 k, .int .i64 0, .int .i64 0] = rcells (i + 1) := by
  have e := rock_next i
  have h1 : (rockC i).h = 0 := by unfold rockC; split <;> rfl
  have h2 : (rockC i).a = 0 := by unfold rockC; split <;> rfl
  rw [h, h1, h2] at e
  exact e
theorem ints_lone3 (a b c : Int) : ∀ u ∈ [Value.int .i64 a, .int .i64 b, .int .i64 c], u.oneCell' = true := by
  intro u hu
  simp only [List.mem_cons, List.not_mem_nil, or_false] at hu
  rcases hu with rfl | rfl | rfl <;> rfl
set_option maxRecDepth 100000 in
set_option maxHeartbeats 8000000 in
theorem field_b (W : World) :
    Calls Tryd.prog 25 #[.int .i64 3, .int .i64 3, .agg #[.int .i64 1, .int .i64 0]] W fun e w' => ∃ s, e = .returned (.agg #[.int .i64 3, .int .i64 3, s]) ∧ RowAt w' s rockM.cs ∧ Below W.heap.size W w' := by
  obtain ⟨i0, hi0, hz0, hz1, hz2⟩ := info_cut infoCel
  have hK := (((Keep.nil W).alloc [.int .i64 1, .int .i64 0] 26).alloc [.int .i64 0, .int .i64 0, .slice none 0 0] 24).alloc [.int .i64 3, .int .i64 3, .slice none 0 0] 24
  simp only [World.size_alloc] at hK
  go_enter Tryd.func25, Tryd.ntmps25
  go_upto_region 2 with fail
  generalize ((W.alloc (.cells [Value.int .i64 1, .int .i64 0].toArray 26)).alloc (.cells [Value.int .i64 0, .int .i64 0, .slice none 0 0].toArray 24)).alloc (.cells [Value.int .i64 3, .int .i64 3, .slice none 0 0].toArray 24) = V at *
  obtain ⟨hM0, hR0, hP0⟩ := hK.three
  have hold := hK.old
  clear hK
  go_wp2_with fail
  go_loopw [8] (fun vi wr => ∃ (i : Nat) (v : Value), vi = .int .i64 i ∧ i ≤ 9 ∧ wr.ownsRow (W.heap.size + 1 + 1 + 1) 46 3 v i (rcells i) ∧ Blk wr (W.heap.size + 1 + 1) [.int .i64 3, .int .i64 3, v] 24 ∧ Blk wr (W.heap.size + 1) [.int .i64 0, .int .i64 0, .slice none 0 0] 24 ∧ Blk wr W.heap.size [.int .i64 1, .int .i64 0] 26 ∧ Below W.heap.size W wr) (fun vi _ => 9 - (RowKit.intOf vi).toNat)
  case atStart => exact ⟨0, .slice none 0 0, rfl, by omega, World.ownsRow_nil _ _ _ _, hM0, hR0, hP0, hold⟩
  case round =>
    clear hM0 hR0 hP0 hold
    obtain ⟨i, v, rfl, hi, hown, hM, hR, hP, hL⟩ := hrel
    obtain ⟨_, _, _, _, _, _⟩ := hM.three
    obtain ⟨_, _, _, _, _, _⟩ := hR.three
    obtain ⟨_, _, _, _⟩ := hP.two
    have hMl := hM.lt
    by_cases hlt : i < 9
    · have z1 : decide ((i : Int) < 9) = true := decide_eq_true (by omega)
      have wi : IntKind.i64.wrap ((i : Int) + 1) = (i : Int) + 1 := IntWalk.i64_in _ (by omega)
      obtain ⟨a, ha⟩ : ∃ a, a = atx 3 i := ⟨_, rfl⟩
      obtain ⟨b, hb0⟩ : ∃ b, b = aty 3 i := ⟨_, rfl⟩
      have cat := fun w => sat_n 3 i a b w ⟨by omega, by omega⟩ (hid ⟨ha, hb0⟩)
      have hx : Hid (decide (a = 1 ∧ b = 0) = decide (i = 1)) := hid (by
        rw [ha, hb0]
        rcases (show i = 0 ∨ i = 1 ∨ i = 2 ∨ i = 3 ∨ i = 4 ∨ i = 5 ∨ i = 6 ∨ i = 7 ∨ i = 8 by omega) with rfl | rfl | rfl | rfl | rfl | rfl | rfl | rfl | rfl <;> decide)
      obtain ⟨t, ht⟩ : ∃ t, Hid (decide (i = 1) = t) := ⟨_, hid rfl⟩
      rw [ht.out] at hx
      have qe := fun w => (eqP a b 1 0 w).trans (by rw [hx.out])
      have hrow := fun j hj => (hown.lt j hj).2
      have hC := Blk.new wr [.int .i64 1, .int .i64 0, .int .i64 0] 46
      have hA := (Below.refl wr.heap.size wr).alloc (Nat.le_refl _) (.cells [Value.int .i64 1, .int .i64 0, .int .i64 0].toArray 46)
      replace hown := own_below hown hA
      replace hM := hM.below hA
      replace hR := hR.below hA
      replace hP := hP.below hA
      replace hL := below_call hL hA
      clear hA ha hb0 hx
      go_upto_region 6 with fail
      generalize wr.alloc (.cells [Value.int .i64 1, .int .i64 0, .int .i64 0].toArray 46) = X at *
      generalize wr.heap.size = n at *
      have hq := (Below.refl X.heap.size X).drew
      have hk := fun (w' : World) (hb : Below X.heap.size X w') => And.intro ((hP.below hb).cell 0) ((hP.below hb).cell 1)
      obtain ⟨_, _⟩ := hk _ hq
      go_region_held3 (fun w' => w'.cell? ⟨W.heap.size, 0, none⟩ = some (.int .i64 1) ∧ w'.cell? ⟨W.heap.size, 1, none⟩ = some (.int .i64 0)) (exact hk _ hq)
        (first | (go_at_call 23; with_reducible refine (cat _).mono ?_; rintro e w' ⟨rfl, hb⟩; replace hq := below_call hq hb; clear hb))
      replace hown := own_below hown hq
      replace hM := hM.below hq
      replace hR := hR.below hq
      replace hP := hP.below hq
      replace hC := hC.below hq
      replace hL := below_call hL hq
      clear hq hk cat qe
      obtain ⟨_, _, _, _, _, _⟩ := hM.three
      obtain ⟨_, _, _, _, _, _⟩ := hC.three
      cases t with
      | true =>
        have hkk : Hid ((rockC i).k = 3) := hid (by unfold rockC; rw [if_pos (of_decide_eq_true ht.out)])
        go_upto_region 8 with fail
        replace hown := own_other hown ⟨n, 0, none⟩ (.int .i64 3) (fun j hj => by have := hrow j hj; show j ≠ n; omega)
        replace hM := hM.far (c := n) (i := 0) (.int .i64 3) (by omega)
        replace hR := hR.far (c := n) (i := 0) (.int .i64 3) (by omega)
        replace hP := hP.far (c := n) (i := 0) (.int .i64 3) (by omega)
        replace hC := hC.set 0 (.int .i64 3)
        replace hL := hL.setCell (p := ⟨n, 0, none⟩) (by show W.heap.size ≤ n; omega) (.int .i64 3)
        generalize World.setCell _ ⟨n, 0, none⟩ (.int .i64 3) = Y at *
        simp only [List.set_cons_zero] at hC
        obtain ⟨_, _, _, _, _, _⟩ := hM.three
        obtain ⟨_, _, _, _, _, _⟩ := hC.three
        have hBs := hM.lt
        have hzz := hL.size
        go_wp2_with (at_builtin; refine wpList_append_own _ rfl _ _ 22 rfl (W.heap.size + 1 + 1 + 1) 46 i0 (.agg #[.int .i64 0, .int .i64 0, .int .i64 0]) 3 24 Tryd.underlying22 hi0 hz0 hz1 hz2 rfl (by decide) _ _ _ rfl (hown.alloc _) ⟨Y.heap.size, 0, none⟩ 1 1 [.int .i64 3, .int .i64 0, .int .i64 0] rfl rfl cells_new (ints_lone3 3 0 0) (by unfold maxLen; omega) (by omega) (by simp; omega) ?_)
        intro v' w9 hown' hg' _
        have hM9 := (hM.alloc (.cells [Value.int .i64 3, .int .i64 0, .int .i64 0].toArray 46)).grown hg' (own_not hown (by omega))
        have hR9 := (hR.alloc (.cells [Value.int .i64 3, .int .i64 0, .int .i64 0].toArray 46)).grown hg' (own_not hown (by omega))
        have hP9 := (hP.alloc (.cells [Value.int .i64 3, .int .i64 0, .int .i64 0].toArray 46)).grown hg' (own_not hown (by omega))
        have hL9 := (hL.alloc hL.size (.cells [Value.int .i64 3, .int .i64 0, .int .i64 0].toArray 46)).grown hg' (by simp; omega) (fun j hj => by have := (hown.lt j hj).1; omega)
        have hown9 := own_to hown' (m := i + 1) rfl (rcells_next i 3 hkk.out)
        obtain ⟨g9, c9, rfl⟩ := own_some hown9 (by omega)
        obtain ⟨_, _, _, _, _, _⟩ := hM9.three
        clear hown' hg' hown hM hR hP hL hC
        go_wp2_with fail
        go_roundw
        case rel => exact ⟨i + 1, _, by go_num, by omega, own_other hown9 ⟨W.heap.size + 1 + 1, 2, none⟩ _ (fun j hj => by have := (hown9.lt j hj).1; show j ≠ W.heap.size + 1 + 1; omega), hM9.set 2 _, hR9.far _ (by omega), hP9.far _ (by omega), hL9.setCell (by show W.heap.size ≤ W.heap.size + 1 + 1; omega) _⟩
        case measure => simp [RowKit.intOf]; omega
      | false =>
        have hkk : Hid ((rockC i).k = 1) := hid (by unfold rockC; rw [if_neg (of_decide_eq_false ht.out)])
        go_upto_region 8 with fail
        generalize w' = Y at *
        obtain ⟨_, _, _, _, _, _⟩ := hM.three
        obtain ⟨_, _, _, _, _, _⟩ := hC.three
        have hBs := hM.lt
        have hzz := hL.size
        go_wp2_with (at_builtin; refine wpList_append_own _ rfl _ _ 22 rfl (W.heap.size + 1 + 1 + 1) 46 i0 (.agg #[.int .i64 0, .int .i64 0, .int .i64 0]) 3 24 Tryd.underlying22 hi0 hz0 hz1 hz2 rfl (by decide) _ _ _ rfl (hown.alloc _) ⟨Y.heap.size, 0, none⟩ 1 1 [.int .i64 1, .int .i64 0, .int .i64 0] rfl rfl cells_new (ints_lone3 1 0 0) (by unfold maxLen; omega) (by omega) (by simp; omega) ?_)
        intro v' w9 hown' hg' _
        have hM9 := (hM.alloc (.cells [Value.int .i64 1, .int .i64 0, .int .i64 0].toArray 46)).grown hg' (own_not hown (by omega))
        have hR9 := (hR.alloc (.cells [Value.int .i64 1, .int .i64 0, .int .i64 0].toArray 46)).grown hg' (own_not hown (by omega))
        have hP9 := (hP.alloc (.cells [Value.int .i64 1, .int .i64 0, .int .i64 0].toArray 46)).grown hg' (own_not hown (by omega))
        have hL9 := (hL.alloc hL.size (.cells [Value.int .i64 1, .int .i64 0, .int .i64 0].toArray 46)).grown hg' (by simp; omega) (fun j hj => by have := (hown.lt j hj).1; omega)
        have hown9 := own_to hown' (m := i + 1) rfl (rcells_next i 1 hkk.out)
        obtain ⟨g9, c9, rfl⟩ := own_some hown9 (by omega)
        obtain ⟨_, _, _, _, _, _⟩ := hM9.three
        clear hown' hg' hown hM hR hP hL hC
        go_wp2_with fail
        go_roundw
        case rel => exact ⟨i + 1, _, by go_num, by omega, own_other hown9 ⟨W.heap.size + 1 + 1, 2, none⟩ _ (fun j hj => by have := (hown9.lt j hj).1; show j ≠ W.heap.size + 1 + 1; omega), hM9.set 2 _, hR9.far _ (by omega), hP9.far _ (by omega), hL9.setCell (by show W.heap.size ≤ W.heap.size + 1 + 1; omega) _⟩
        case measure => simp [RowKit.intOf]; omega
    · obtain rfl : i = 9 := by omega
      have z1 : decide (((9 : Nat) : Int) < 9) = false := by decide
      obtain ⟨g, cap, rfl⟩ := own_some hown (by decide)
      have hrow := RowAt.own (l := rockM.cs) (cap := cap) (g := g) hown (by unfold maxLen; decide)
      have hgl := (hown.lt g rfl).1
      obtain ⟨_, _, _, _, _, _⟩ := hM.three
      obtain ⟨_, _, _, _, _, _⟩ := hR.three
      have hR2 := ((hR.set 0 (.int .i64 3)).set 1 (.int .i64 3)).set 2 (.slice (some ⟨g, 0, none⟩) 9 cap)
      have hown2 := own_other (own_other (own_other hown ⟨W.heap.size + 1, 0, none⟩ (.int .i64 3) (fun j hj => by have := (hown.lt j hj).1; show j ≠ W.heap.size + 1; omega)) ⟨W.heap.size + 1, 1, none⟩ (.int .i64 3) (fun j hj => by have := (hown.lt j hj).1; show j ≠ W.heap.size + 1; omega)) ⟨W.heap.size + 1, 2, none⟩ (.slice (some ⟨g, 0, none⟩) 9 cap) (fun j hj => by have := (hown.lt j hj).1; show j ≠ W.heap.size + 1; omega)
      have hrow2 := RowAt.own (l := rockM.cs) (cap := cap) (g := g) hown2 (by unfold maxLen; decide)
      have hL2 := ((hL.setCell (p := ⟨W.heap.size + 1, 0, none⟩) (by show W.heap.size ≤ W.heap.size + 1; omega) (.int .i64 3)).setCell (p := ⟨W.heap.size + 1, 1, none⟩) (by show W.heap.size ≤ W.heap.size + 1; omega) (.int .i64 3)).setCell (p := ⟨W.heap.size + 1, 2, none⟩) (by show W.heap.size ≤ W.heap.size + 1; omega) (.slice (some ⟨g, 0, none⟩) 9 cap)
      go_wp2_with fail
      obtain ⟨_, _, _, -, -, -⟩ := hR2.three
      refine bodyPost_ret (v := .agg #[.int .i64 3, .int .i64 3, .slice (some ⟨g, 0, none⟩) 9 cap]) (by simp [results, Tryd.results25, go_sem, *]) rfl ⟨_, rfl, hrow2, hL2⟩

end Go.Proofs.YtlcbkeieejmmbaaDoor
