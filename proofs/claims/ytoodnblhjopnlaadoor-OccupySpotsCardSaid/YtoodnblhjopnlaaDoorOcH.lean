/-
  occupy as landed at 785be24: free rectangles, what fits.
-/
import Derived.Test.YtoodnblhjopnlaaDoorOcG
namespace Go.Proofs.YtoodnblhjopnlaaDoor
open Go.RowKit Go.Lib

theorem all_next {α : Type} (g : α → Bool) (l : List α) {i : Nat} (h : i < l.length) : (l.take (i + 1)).all g = ((l.take i).all g && g (l[i]'h)) := by
  rw [List.take_succ_eq_append_getElem h, List.all_append]
  simp
theorem all_stop {α : Type} {g : α → Bool} {l : List α} {i : Nat} (h : i < l.length) (hf : g (l[i]'h) = false) : l.all g = false := by
  rw [List.all_eq_false]
  exact ⟨l[i]'h, List.getElem_mem h, by rw [hf]; decide⟩
set_option maxHeartbeats 8000000 in
set_option maxRecDepth 100000 in
theorem ocfree_b (m : M3) (s : Value) (bl : List Bool) (sb : Value) (r : R4) (b : Bool) (W : World) (hr : RowAt W s m.cs) (hl : BitsAt W sb bl) (e : Hid (b = freev m bl r)) :
    Calls Tryd.prog 14 #[.agg #[.int .i64 m.w, .int .i64 m.h, s], sb, .agg #[.int .i64 r.x, .int .i64 r.y, .int .i64 r.w, .int .i64 r.h]] W fun e w' => e = .returned (.bool b) ∧ Below W.heap.size W w' := by
  obtain ⟨z, hz⟩ : ∃ z, Hid (z = withinv m r) := ⟨_, hid rfl⟩
  have cw := fun (w : World) (hb : Below W.heap.size W w) => ocwithin_b m s r z w (hr.below hb) hz
  have hT := Held2.start W [.int .i64 m.w, .int .i64 m.h, s] [.int .i64 r.x, .int .i64 r.y, .int .i64 r.w, .int .i64 r.h] 24 33
  have hb0 := e.out
  unfold freev at hb0
  rw [← hz.out] at hb0
  clear e
  obtain ⟨_, _, _, _, _, _⟩ := hT.l.three; obtain ⟨_, _, _, _, _, _, _, _⟩ := hT.r.four
  cases z with
  | false =>
    subst hb0
    go_enter Tryd.func14, Tryd.ntmps14
    go_wp2_with (go_at_call 37; with_reducible refine (cw _ hT.old).mono ?_; rintro e w1 ⟨rfl, hb⟩)
    go_ret
    exact ⟨rfl, below_call hT.old hb⟩
  | true =>
    rw [Bool.true_and] at hb0
    have hw := hz.out.symm
    have hf := (within_num hw).1
    obtain ⟨C, hC⟩ : ∃ C, Hid (cellsv r = C) := ⟨_, hid rfl⟩
    have hin : Hid (∀ j (h : j < C.length), insidev m (C[j]'h).1 (C[j]'h).2 = true) := hid (fun j h => by
      unfold insidev
      rw [hf, Bool.true_and]
      exact within_in hw (by rw [hC.out]; exact List.getElem_mem h))
    have hCl : C.length ≤ 1024 := by rw [← hC.out]; exact cellsv_len _
    obtain ⟨q0, hq0⟩ : ∃ q, Hid (q = getv m r.x r.y) := ⟨_, hid rfl⟩
    obtain ⟨t0, ht0⟩ : ∃ t, Hid (t = insidev m r.x r.y) := ⟨_, hid rfl⟩
    have cg0 := fun (w : World) (hb : Below W.heap.size W w) => dget_b m s r.x r.y q0 t0 w (hr.below hb) ht0 hq0
    have cg := fun (x y : Int) (q : C3) (t : Bool) (w : World) (hb : Below W.heap.size W w) (e : Hid (t = insidev m x y)) (hq : Hid (q = getv m x y)) => dget_b m s x y q t w (hr.below hb) e hq
    have cb := fun (x y : Int) (k : Bool) (w : World) (hb : Below W.heap.size W w) (hi : insidev m x y = true) (e : Hid (k = blkat m bl x y)) => ocblk_b m s bl sb x y k w (hl.below hb) hi e
    have cl := fun (w : World) => dcells_x r.x r.y r.w r.h w C (hid hC.out)
    rw [hC.out, ← hq0.out] at hb0
    obtain ⟨k0, h0, a0⟩ := q0
    dsimp only at hb0 cg0
    have hb1 := hid hb0
    clear hq0 ht0 hw hf hC hz hb0
    go_enter Tryd.func14, Tryd.ntmps14
    go_upto_region 4 with (first
      | (go_at_call 37; with_reducible refine (cw _ hT.old).mono ?_; rintro e w1 ⟨rfl, hb⟩; replace hT := hT.call hb; clear hb; obtain ⟨_, _, _, _, _, _⟩ := hT.l.three; obtain ⟨_, _, _, _, _, _, _, _⟩ := hT.r.four)
      | (go_at_call 38; with_reducible refine (cg0 _ hT.old).mono ?_; rintro e w2 ⟨rfl, hb⟩; replace hT := hT.call hb; clear hb))
    have hQ := Blk.new w2 [.int .i64 k0, .int .i64 h0, .int .i64 a0] 57
    have hal := (Below.refl w2.heap.size w2).alloc (Nat.le_refl _) (.cells [Value.int .i64 k0, .int .i64 h0, .int .i64 a0].toArray 57)
    replace hT := hT.call hal
    clear hal cg0 cw
    generalize w2.alloc (.cells [Value.int .i64 k0, .int .i64 h0, .int .i64 a0].toArray 57) = X at *
    generalize w2.heap.size = bq at *
    obtain ⟨_, _, _, _, _, _⟩ := hT.l.three; obtain ⟨_, _, _, _, _, _, _, _⟩ := hT.r.four
    go_wp2_with (go_at_call 33; with_reducible refine (cl _).mono ?_; rintro e V ⟨v, rfl, hown, hb⟩; replace hT := hT.call hb; replace hQ := hQ.below hb; have hP := PosAt.any hown rfl (by unfold maxLen; omega); obtain ⟨p0, c0, rfl⟩ := hP.len; clear hown hb)
    clear cl
    go_loopw [30] (fun vi wr => ∃ i : Nat, vi = .int .i64 i ∧ i ≤ C.length ∧ Below V.heap.size V wr ∧ Hid ((C.take i).all (okv m bl h0) = true)) (fun vi _ => C.length - (RowKit.intOf vi).toNat)
    case atStart => exact ⟨0, rfl, by omega, Below.refl _ _, hid rfl⟩
    case round =>
      obtain ⟨i, rfl, hi, hV, hI⟩ := hrel
      replace hT := hT.call hV
      replace hQ := hQ.below hV
      by_cases hlt : i < C.length
      · have d1 : (i : Int) < C.length := by omega
        have d0 : (0 : Int) ≤ i := by omega
        obtain ⟨g, o, rfl, hg, q0, q1⟩ := hP.at hlt
        rw [← hV.cell (p := ⟨g, o + i * 2, none⟩) hg] at q0
        rw [← hV.cell (p := ⟨g, o + i * 2 + 1, none⟩) hg] at q1
        have hN := all_next (okv m bl h0) C hlt
        have hS := fun (h : okv m bl h0 (C[i]'hlt) = false) => all_stop hlt h
        rw [hI.out, Bool.true_and] at hN
        have hinj := hin.out i hlt
        generalize C[i]'hlt = p at *
        obtain ⟨x, y⟩ := p
        dsimp only at hinj q0 q1
        obtain ⟨q, hq⟩ : ∃ q, Hid (q = getv m x y) := ⟨_, hid rfl⟩
        obtain ⟨k, hk⟩ : ∃ k, Hid (k = blkat m bl x y) := ⟨_, hid rfl⟩
        have hok : okv m bl h0 (x, y) = (decide (q.k = 1) && decide (q.h = h0) && !k) := by unfold okv; rw [hq.out, hk.out]
        have c1 := fun (w : World) (hb : Below W.heap.size W w) => cg x y q true w hb (hid hinj.symm) hq
        have c2 := fun (w : World) (hb : Below W.heap.size W w) => cb x y k w hb hinj hk
        obtain ⟨kk, hh, aa⟩ := q
        dsimp only at hok c1
        rw [hok] at hN hS
        have hN' := hid hN
        have hS' := hid hS
        clear cg cb hinj hq hk hI hok hN hS
        have hX := Blk.new wr [.int .i64 x, .int .i64 y] 42
        have hal := (Below.refl wr.heap.size wr).alloc (Nat.le_refl _) (.cells [Value.int .i64 x, .int .i64 y].toArray 42)
        replace hT := hT.call hal
        replace hQ := hQ.below hal
        replace hV := below_call hV hal
        clear hal
        go_upto_region 7 with fail
        generalize wr.alloc (.cells [Value.int .i64 x, .int .i64 y].toArray 42) = Y at *
        generalize wr.heap.size = bx at *
        clear q0 q1
        obtain ⟨_, _, _, _, _, _⟩ := hT.l.three; obtain ⟨_, _, _, _, _, _, _, _⟩ := hT.r.four
        obtain ⟨_, _, _, _⟩ := hX.two
        go_upto_region 8 with (go_at_call 38; with_reducible refine (c1 _ hT.old).mono ?_; rintro e w5 ⟨rfl, hb⟩; replace hT := hT.call hb; replace hQ := hQ.below hb; replace hX := hX.below hb; replace hV := below_call hV hb; clear hb)
        have hZ := Blk.new w5 [.int .i64 kk, .int .i64 hh, .int .i64 aa] 57
        have hal := (Below.refl w5.heap.size w5).alloc (Nat.le_refl _) (.cells [Value.int .i64 kk, .int .i64 hh, .int .i64 aa].toArray 57)
        replace hT := hT.call hal
        replace hQ := hQ.below hal
        replace hX := hX.below hal
        replace hV := below_call hV hal
        clear hal c1
        generalize w5.alloc (.cells [Value.int .i64 kk, .int .i64 hh, .int .i64 aa].toArray 57) = Z at *
        generalize w5.heap.size = bz at *
        obtain ⟨_, _, _, _, _, _⟩ := hT.l.three; obtain ⟨_, _, _, _, _, _, _, _⟩ := hT.r.four
        obtain ⟨_, _, _, _⟩ := hX.two
        obtain ⟨_, _, _, _, _, _⟩ := hQ.three
        obtain ⟨_, _, _, _, _, _⟩ := hZ.three
        by_cases e1 : kk = 1
        · subst e1
          by_cases e2 : hh = h0
          · subst e2
            have z2 : (hh == hh) = true := by simp
            cases k with
            | true =>
              have hb9 : b = false := by rw [hb1.out]; exact hS'.out (by simp)
              subst hb9
              go_wp2_with (go_at_call 39; with_reducible refine (c2 _ hT.old).mono ?_; rintro e w6 ⟨rfl, hb⟩)
              go_ret
              exact ⟨rfl, below_call hT.old hb⟩
            | false =>
              have hN9 := hid (hN'.out.trans (show (decide _ && decide _ && !false) = true by simp))
              clear hN' hS'
              go_wp2_with (go_at_call 39; with_reducible refine (c2 _ hT.old).mono ?_; rintro e w6 ⟨rfl, hb⟩; replace hV := below_call hV hb; clear hb)
              go_roundw
              case rel => exact ⟨i + 1, by go_num, by omega, hV, hN9⟩
              case measure => simp [RowKit.intOf]; omega
          · have z2 : (hh == h0) = false := beq_eq_false_iff_ne.2 e2
            have hb9 : b = false := by rw [hb1.out]; exact hS'.out (by rw [decide_eq_false e2]; simp)
            subst hb9
            clear hN' hS' hb1
            go_wp2_with fail
            go_ret
            exact ⟨rfl, hT.old⟩
        · have z1 : (kk == 1) = false := beq_eq_false_iff_ne.2 e1
          have hb9 : b = false := by rw [hb1.out]; exact hS'.out (by rw [decide_eq_false e1]; simp)
          subst hb9
          clear hN' hS' hb1
          go_wp2_with fail
          go_ret
          exact ⟨rfl, hT.old⟩
      · obtain rfl : i = C.length := by omega
        have hb9 : b = true := by rw [hb1.out]; have := hI.out; rwa [List.take_length] at this
        subst hb9
        go_wp2_with fail
        go_ret
        exact ⟨rfl, hT.old⟩
set_option maxHeartbeats 4000000 in
set_option maxRecDepth 100000 in
theorem ocfits_b (m : M3) (s : Value) (l : List R4) (sl : Value) (r : R4) (b : Bool) (W : World) (hr : RowAt W s m.cs) (hl : RecsAt W sl l) (e : Hid (b = fitsv m l r)) :
    Calls Tryd.prog 16 #[.agg #[.int .i64 m.w, .int .i64 m.h, s], sl, .agg #[.int .i64 r.x, .int .i64 r.y, .int .i64 r.w, .int .i64 r.h]] W fun e w' => e = .returned (.bool b) ∧ Below W.heap.size W w' := by
  have c1 := fun (w : World) (hb : Below W.heap.size W w) => ocblocked_b m s l sl _ w (hr.below hb) (hl.below hb) (hid rfl)
  have c2 := fun (v : Value) (w : World) (hb : Below W.heap.size W w) (hv : BitsAt w v (blockedv m l)) => ocfree_b m s (blockedv m l) v r b w (hr.below hb) hv e
  have hT := Held2.start W [.int .i64 m.w, .int .i64 m.h, s] [.int .i64 r.x, .int .i64 r.y, .int .i64 r.w, .int .i64 r.h] 24 33
  clear e hr hl
  go_enter Tryd.func16, Tryd.ntmps16
  go_upto_region 1 with fail
  generalize (W.alloc (.cells [Value.int .i64 m.w, .int .i64 m.h, s].toArray 24)).alloc (.cells [Value.int .i64 r.x, .int .i64 r.y, .int .i64 r.w, .int .i64 r.h].toArray 33) = V at *
  have hk := fun (w' : World) (hb : Below V.heap.size V w') => And.intro ((hT.l.below hb).cell 0) (And.intro ((hT.l.below hb).cell 1) (And.intro ((hT.l.below hb).cell 2) (And.intro ((hT.r.below hb).cell 0) (And.intro ((hT.r.below hb).cell 1) (And.intro ((hT.r.below hb).cell 2) ((hT.r.below hb).cell 3))))))
  have hq := (Below.refl V.heap.size V).drew
  have hW := hT.old
  obtain ⟨_, _, _, _, _, _, _⟩ := hk _ hq
  go_region_held3 (fun w' => w'.cell? ⟨W.heap.size, 0, none⟩ = some (.int .i64 m.w) ∧ w'.cell? ⟨W.heap.size, 1, none⟩ = some (.int .i64 m.h) ∧ w'.cell? ⟨W.heap.size, 2, none⟩ = some s ∧ w'.cell? ⟨W.heap.size + 1, 0, none⟩ = some (.int .i64 r.x) ∧ w'.cell? ⟨W.heap.size + 1, 1, none⟩ = some (.int .i64 r.y) ∧ w'.cell? ⟨W.heap.size + 1, 2, none⟩ = some (.int .i64 r.w) ∧ w'.cell? ⟨W.heap.size + 1, 3, none⟩ = some (.int .i64 r.h))
    (exact hk _ hq)
    (first
      | (go_at_call 12; with_reducible refine (c1 _ (below_call hW hq)).mono ?_; rintro e w' ⟨v, rfl, hv, hb⟩; replace hq := below_call hq hb; clear hb)
      | (go_at_call 14; with_reducible refine (c2 _ _ (below_call hW hq) hv).mono ?_; rintro e w' ⟨rfl, hb⟩; replace hq := below_call hq hb; clear hb))
  go_wp2
  go_ret
  exact ⟨rfl, below_call hW hq⟩

end Go.Proofs.YtoodnblhjopnlaaDoor
