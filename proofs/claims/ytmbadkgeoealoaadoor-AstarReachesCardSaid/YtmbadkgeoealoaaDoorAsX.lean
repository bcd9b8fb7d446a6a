/-
  What the reference of astar answers: classes, what is inside, what is free, what a step costs.
-/
import Derived.Test.YtmbadkgeoealoaaDoorAsLandR
import Derived.Test.YtmbadkgeoealoaaDoorTerRefB
import Derived.Test.YtmbadkgeoealoaaDoorTerRefH
namespace Go.Proofs.YtmbadkgeoealoaaDoor
open Go.RowKit Go.Lib

set_option maxHeartbeats 1000000 in
theorem r14class_b (c : Int) (b : Bool) (W : World) (e : Hid (b = classv c)) : Calls Tryd.prog 52 #[.int .i64 c] W fun e w' => e = .returned (.bool b) ∧ Below W.heap.size W w' := by
  rw [e.out]
  clear e
  go_enter Tryd.func52, Tryd.ntmps52
  go_wp2
  all_goals (go_ret; exact ⟨ret_bit (by unfold classv; first | exact (decide_eq_false (by omega)).symm | exact decide_eq_decide.2 (by omega)), Below.refl _ _⟩)

set_option maxHeartbeats 1000000 in
theorem r14inside_b (m : M3) (s : Value) (p : Pt) (b : Bool) (W : World) (e : Hid (b = insp m p)) : Calls Tryd.prog 53 #[.agg #[.int .i64 m.w, .int .i64 m.h, s], .agg #[.int .i64 p.1, .int .i64 p.2]] W fun e w' => e = .returned (.bool b) ∧ Below W.heap.size W w' := by
  rw [e.out]
  clear e
  have hT := Held2.start W [.int .i64 m.w, .int .i64 m.h, s] [.int .i64 p.1, .int .i64 p.2] 24 27
  have hL := hT.old
  go_enter Tryd.func53, Tryd.ntmps53
  go_wp2
  all_goals (go_ret; exact ⟨ret_bit (by unfold insp inv; first | exact (decide_eq_false (by omega)).symm | exact decide_eq_decide.2 (by omega)), hL⟩)

/-- The number of a cell that is passable, as the reference works it out. -/
theorem r14idx {m : M3} {x y : Int} (h : insidev m x y = true) : ∃ n : Nat, n < m.cs.length ∧ Hid ((n : Int) = indexv m.w x y) ∧ IntKind.i64.wrap (y * m.w) = y * m.w ∧ IntKind.i64.wrap (y * m.w + x) = (n : Int) := by
  obtain ⟨X, Y, a, b, e1, _, rfl, rfl, h1, h2, h3, h4, _, hi, hl⟩ := inside_at h
  have hm : b * X ≤ 32 * 32 := Nat.mul_le_mul (by omega) h3
  have ec : (b : Int) * m.w = ((b * X : Nat) : Int) := by rw [e1]; simp
  refine ⟨b * X + a, hl, hid hi.symm, ?_, ?_⟩
  · rw [ec]; exact IntWalk.i64_in _ (by omega)
  · rw [ec, IntWalk.i64_in _ (by omega)]; simp

set_option maxHeartbeats 2000000 in
theorem r14free_b (m : M3) (s : Value) (bl : List Bool) (l : Value) (c : Int) (p : Pt) (b : Bool) (W : World) (hr : RowAt W s m.cs) (hl : BitsAt W l bl) (e : Hid (b = openv m bl c p.1 p.2)) :
    Calls Tryd.prog 54 #[.agg #[.int .i64 m.w, .int .i64 m.h, s], l, .int .i64 c, .agg #[.int .i64 p.1, .int .i64 p.2]] W fun e w' => e = .returned (.bool b) ∧ Below W.heap.size W w' := by
  obtain ⟨x, y⟩ := p
  dsimp only at e ⊢
  obtain ⟨i, hi⟩ : ∃ i, Hid (i = passv m c x y) := ⟨_, hid rfl⟩
  have hb : b = (i && (decide (c = 3) || !(bl.getD (indexv m.w x y).toNat false))) := by rw [e.out, hi.out]; rfl
  clear e
  have hT := Held2.start W [.int .i64 m.w, .int .i64 m.h, s] [.int .i64 x, .int .i64 y] 24 27
  have hr' := hr.below hT.old
  cases i with
  | false =>
    subst hb
    go_enter Tryd.func54, Tryd.ntmps54
    go_wp2_with fail
    ((with_reducible refine (rpass_b m s c x y false _ hr' hi).mono ?_); rintro e w1 ⟨rfl, hb1⟩)
    go_wp2_with fail
    go_ret
    exact ⟨rfl, hT.old.trans (hb1.mono hT.old.size)⟩
  | true =>
    obtain ⟨n, hlt, hix, n3, n4⟩ := r14idx (pass_inside hi.out.symm)
    rw [← hix.out, Int.toNat_natCast, Bool.true_and] at hb
    have hl' := (hl.below hT.old)
    obtain ⟨p, k, rfl, hk, -⟩ := id hl
    go_enter Tryd.func54, Tryd.ntmps54
    go_wp2_with fail
    ((with_reducible refine (rpass_b m s c x y true _ hr' hi).mono ?_); rintro e w1 ⟨rfl, hb1⟩)
    have hT1 := hT.call hb1
    replace hl' := hl'.below hb1
    obtain ⟨_, _, _, _, _, _⟩ := hT1.l.three
    obtain ⟨_, _, _, _⟩ := hT1.r.two
    unfold maxLen at hk
    clear hix
    by_cases c3 : c = 3
    · subst c3
      go_wp2_with fail
      go_ret
      exact ⟨ret_bit (by rw [hb]; rfl), hT1.old⟩
    · have z3 : (c == 3) = false := beq_eq_false_iff_ne.2 c3
      rw [decide_eq_false c3, Bool.false_or] at hb
      by_cases hnl : n < bl.length
      · obtain ⟨p', k', e', -, hc⟩ := hl'
        obtain ⟨g, o, rfl, hat⟩ := hc (by omega)
        obtain ⟨rfl, -, rfl⟩ : p = some ⟨g, o, none⟩ ∧ True ∧ k = k' := by injection e' with e1 _ e2; exact ⟨e1, trivial, e2⟩
        have h1 := hat n hnl
        obtain ⟨v, hv⟩ : ∃ v, v = bl[n]'hnl := ⟨_, rfl⟩
        rw [← hv] at h1
        have hb' : b = !v := by rw [hb, hv, List.getD_eq_getElem?_getD, List.getElem?_eq_getElem hnl]; rfl
        have g1 : decide ((bl.length : Int) ≤ (n : Int)) = false := decide_eq_false (by omega)
        have n1 : (0 : Int) ≤ n := by omega
        have n2 : (n : Int) < bl.length := by omega
        clear hat hc hb
        go_wp2_with fail
        go_ret
        exact ⟨ret_bit (by rw [hb', hv, decide_eq_false (by omega), Bool.false_or]), hT1.old⟩
      · have hb' : b = true := by rw [hb, List.getD_eq_getElem?_getD, List.getElem?_eq_none (by omega)]; rfl
        have g1 : decide ((bl.length : Int) ≤ (n : Int)) = true := decide_eq_true (by omega)
        go_wp2_with fail
        go_ret
        exact ⟨ret_bit hb'.symm, hT1.old⟩

set_option maxHeartbeats 1000000 in
theorem r14beside_b (p : Pt) (d qx qy : Int) (W : World) (e : Hid (qx = stx p.1 d)) (e' : Hid (qy = sty p.2 d)) : Calls Tryd.prog 55 #[.agg #[.int .i64 p.1, .int .i64 p.2], .int .i64 d] W fun e w' => e = .returned (.agg #[.int .i64 qx, .int .i64 qy]) ∧ Below W.heap.size W w' := by
  have hT := (Held1.start W [.int .i64 p.1, .int .i64 p.2] 27).alloc (.cells [Value.int .i64 0, .int .i64 0].toArray 27)
  have hB := (Blk.new (W.alloc (.cells [Value.int .i64 p.1, .int .i64 p.2].toArray 27)) [.int .i64 0, .int .i64 0] 27).at (World.size_alloc _ _)
  go_enter Tryd.func55, Tryd.ntmps55
  go_wp2_with fail
  ((with_reducible refine (rstepq_b p.1 p.2 d qx qy _ e e').mono ?_); rintro e w1 ⟨rfl, hb1⟩)
  replace hT := hT.call hb1
  replace hB := hB.below hb1
  obtain ⟨_, _, _, _⟩ := hB.two
  go_wp2_with fail
  have hB2 := hB.put2 (.int .i64 qx) (.int .i64 qy)
  obtain ⟨_, _, -, -⟩ := hB2.two
  refine bodyPost_ret (v := .agg #[.int .i64 qx, .int .i64 qy]) (by simp [results, Tryd.results55, go_sem, *]) rfl ⟨rfl, ?_⟩
  exact ((hT.old.setCell (by simp) _).setCell (by simp) _)

/-- What the directions below d and the next one come to. -/
theorem nbGo_next (m : M3) (bl : List Bool) (c : Int) (p : Pt) (d : Nat) : nbGo m bl c p (d + 1) = nbGo m bl c p d ++ if mayv m bl c p.1 p.2 d = true then [((stx p.1 d, sty p.2 d), costv m bl c p.1 p.2 d)] else [] := nbGo_succ m bl c p d

end Go.Proofs.YtmbadkgeoealoaaDoor
