/-
  occupy as landed at 785be24: the ring around a rectangle; the spots.
-/
import Derived.Test.YtoodnblhjopnlaaDoorOcE
namespace Go.Proofs.YtoodnblhjopnlaaDoor
open Go.RowKit Go.Lib

theorem PosAt.at {W : World} {p : Option Addr} {n c i : Nat} {l : List (Int × Int)} (h : PosAt W (.slice p n c) l) (hi : i < l.length) : ∃ g o, p = some ⟨g, o, none⟩ ∧ g < W.heap.size ∧ W.cell? ⟨g, o + i * 2, none⟩ = some (.int .i64 (l[i]'hi).1) ∧ W.cell? ⟨g, o + i * 2 + 1, none⟩ = some (.int .i64 (l[i]'hi).2) := by
  obtain ⟨p', c', e, -, hat⟩ := h
  injection e with e1 _ _
  subst e1
  obtain ⟨g, o, hp, hg, hc⟩ := hat (by omega)
  exact ⟨g, o, hp, hg, hc i hi⟩
theorem filter_next {α : Type} (g : α → Bool) (l : List α) {i : Nat} (h : i < l.length) : (l.take (i + 1)).filter g = (l.take i).filter g ++ if g (l[i]'h) = true then [l[i]'h] else [] := by
  rw [List.take_succ_eq_append_getElem h, List.filter_append, List.filter_cons]
  rfl
set_option maxHeartbeats 8000000 in
set_option maxRecDepth 100000 in
theorem ocring_b (m : M3) (s : Value) (r : R4) (L : List (Int × Int)) (W : World) (hE : EnvG W) (hr : RowAt W s m.cs) (e : Hid (ringv m r = L)) :
    Calls Tryd.prog 22 #[.agg #[.int .i64 m.w, .int .i64 m.h, s], .agg #[.int .i64 r.x, .int .i64 r.y, .int .i64 r.w, .int .i64 r.h]] W fun e w' => ∃ v, e = .returned v ∧ w'.ownsRow W.heap.size 42 2 v L.length (pcells L) ∧ Below W.heap.size W w' := by
  obtain ⟨i0, hi0, hz0, hz1, hz2⟩ := info_cut infoPos
  obtain ⟨A, hA⟩ : ∃ A, Hid (allp m = A) := ⟨_, hid rfl⟩
  have hAl : A.length ≤ 1024 := by rw [← hA.out]; exact all_le m
  have cpos := fun (w : World) (hb : Below W.heap.size W w) => ocpos_b m s A w (hr.below hb) hA
  have hLL : Hid (A.filter (fun p => !insv r p.1 p.2 && touchv r p) = L) := hid (by rw [← e.out, ← hA.out]; rfl)
  have hT := Held2.start W [.int .i64 m.w, .int .i64 m.h, s] [.int .i64 r.x, .int .i64 r.y, .int .i64 r.w, .int .i64 r.h] 24 33
  have cin := fun (x y : Int) (z : Bool) (w : World) (e : Hid (z = insv r x y)) => doins_b r.x r.y r.w r.h x y z w e
  have cbo := fun (x y : Int) (z : Bool) (w : World) (hb : Below W.heap.size W w) (e : Hid (z = touchv r (x, y))) => ocbord_b r x y z w (hE.keep hb) e
  clear e hr hE
  obtain ⟨_, _, _, _, _, _⟩ := hT.l.three; obtain ⟨_, _, _, _, _, _, _, _⟩ := hT.r.four
  go_enter Tryd.func22, Tryd.ntmps22
  go_wp2_with (go_at_call 45; with_reducible refine (cpos _ hT.old).mono ?_; rintro e V ⟨v, rfl, hown, hb⟩; have hP := PosAt.any hown rfl (by unfold maxLen; omega); obtain ⟨p0, c0, rfl⟩ := hP.len; replace hT := hT.call hb; clear hown hb)
  have hT0 := hT.old.size
  clear cpos
  go_loopw [5, 11] (fun vs vi wr => ∃ (i : Nat) (l : List (Int × Int)), vi = .int .i64 i ∧ i ≤ A.length ∧ l.length ≤ i ∧ wr.ownsRow V.heap.size 42 2 vs l.length (pcells l) ∧ Below V.heap.size V wr ∧ Hid (l = (A.take i).filter (fun p => !insv r p.1 p.2 && touchv r p))) (fun _ vi _ => A.length - (RowKit.intOf vi).toNat)
  case atStart => exact ⟨0, [], rfl, by omega, by simp, World.ownsRow_nil _ _ _ _, Below.refl _ _, hid (by simp)⟩
  case round =>
    obtain ⟨i, l, rfl, hi, hli, hown, hV, hI⟩ := hrel
    replace hT := hT.call hV
    by_cases hlt : i < A.length
    · have d1 : (i : Int) < A.length := by omega
      have d0 : (0 : Int) ≤ i := by omega
      obtain ⟨g, o, rfl, hg, hc0, hc1⟩ := hP.at hlt
      rw [← hV.cell (p := ⟨g, o + i * 2, none⟩) hg] at hc0
      rw [← hV.cell (p := ⟨g, o + i * 2 + 1, none⟩) hg] at hc1
      have hN := filter_next (fun p => !insv r p.1 p.2 && touchv r p) A hlt
      rw [← hI.out] at hN
      obtain ⟨x, y, hxy⟩ : ∃ x y, A[i]'hlt = (x, y) := ⟨_, _, rfl⟩
      rw [hxy] at hN hc0 hc1
      dsimp only at hN hc0 hc1
      obtain ⟨z1, hz1'⟩ : ∃ z, Hid (z = insv r x y) := ⟨_, hid rfl⟩
      obtain ⟨z2, hz2'⟩ : ∃ z, Hid (z = touchv r (x, y)) := ⟨_, hid rfl⟩
      rw [← hz1'.out, ← hz2'.out] at hN
      have c1 := fun (w : World) => cin x y z1 w hz1'
      have c2 := fun (w : World) (hb : Below W.heap.size W w) => cbo x y z2 w hb hz2'
      clear cin cbo hz1' hz2' hxy hI
      have hX := Blk.new wr [.int .i64 x, .int .i64 y] 42
      have hal := (Below.refl wr.heap.size wr).alloc (Nat.le_refl _) (.cells [Value.int .i64 x, .int .i64 y].toArray 42)
      replace hown := own_below hown hal
      replace hT := hT.call hal
      replace hV := below_call hV hal
      clear hal
      go_upto_region 5 with fail
      generalize wr.alloc (.cells [Value.int .i64 x, .int .i64 y].toArray 42) = X at *
      generalize wr.heap.size = bx at *
      clear hc0 hc1
      obtain ⟨_, _, _, _, _, _⟩ := hT.l.three; obtain ⟨_, _, _, _, _, _, _, _⟩ := hT.r.four
      obtain ⟨_, _, _, _⟩ := hX.two
      cases z1 with
      | true =>
        go_wp2_with (first | (go_at_call 42; with_reducible refine (c1 _).mono ?_; rintro e w8 ⟨rfl, hb⟩; replace hown := own_below hown hb; replace hX := hX.below hb; replace hT := hT.call hb; replace hV := below_call hV hb; clear hb; obtain ⟨_, _, _, _, _, _⟩ := hT.l.three; obtain ⟨_, _, _, _, _, _, _, _⟩ := hT.r.four; obtain ⟨_, _, _, _⟩ := hX.two))
        go_roundw
        case rel => exact ⟨i + 1, l, by go_num, by omega, by omega, hown, hV, hid (by rw [hN]; simp)⟩
        case measure => simp [RowKit.intOf]; omega
      | false =>
        cases z2 with
        | false =>
          go_wp2_with (first | (go_at_call 42; with_reducible refine (c1 _).mono ?_; rintro e w8 ⟨rfl, hb⟩; replace hown := own_below hown hb; replace hX := hX.below hb; replace hT := hT.call hb; replace hV := below_call hV hb; clear hb; obtain ⟨_, _, _, _, _, _⟩ := hT.l.three; obtain ⟨_, _, _, _, _, _, _, _⟩ := hT.r.four; obtain ⟨_, _, _, _⟩ := hX.two) | (go_at_call 46; with_reducible refine (c2 _ hT.old).mono ?_; rintro e w9 ⟨rfl, hb⟩; replace hown := own_below hown hb; replace hX := hX.below hb; replace hT := hT.call hb; replace hV := below_call hV hb; clear hb; obtain ⟨_, _, _, _, _, _⟩ := hT.l.three; obtain ⟨_, _, _, _, _, _, _, _⟩ := hT.r.four; obtain ⟨_, _, _, _⟩ := hX.two))
          go_roundw
          case rel => exact ⟨i + 1, l, by go_num, by omega, by omega, hown, hV, hid (by rw [hN]; simp)⟩
          case measure => simp [RowKit.intOf]; omega
        | true =>
          go_upto_region 6 with (first | (go_at_call 42; with_reducible refine (c1 _).mono ?_; rintro e w8 ⟨rfl, hb⟩; replace hown := own_below hown hb; replace hX := hX.below hb; replace hT := hT.call hb; replace hV := below_call hV hb; clear hb; obtain ⟨_, _, _, _, _, _⟩ := hT.l.three; obtain ⟨_, _, _, _, _, _, _, _⟩ := hT.r.four; obtain ⟨_, _, _, _⟩ := hX.two) | (go_at_call 46; with_reducible refine (c2 _ hT.old).mono ?_; rintro e w9 ⟨rfl, hb⟩; replace hown := own_below hown hb; replace hX := hX.below hb; replace hT := hT.call hb; replace hV := below_call hV hb; clear hb; obtain ⟨_, _, _, _, _, _⟩ := hT.l.three; obtain ⟨_, _, _, _, _, _, _, _⟩ := hT.r.four; obtain ⟨_, _, _, _⟩ := hX.two))
          have hzz := hX.lt
          have hsv := hV.size
          generalize hYe : w9 = Y at *
          go_wp2_with (at_builtin; refine wpList_append_own _ rfl _ _ 39 rfl V.heap.size 42 i0 (.agg #[.int .i64 0, .int .i64 0]) 2 16 Tryd.underlying39 hi0 hz0 hz1 hz2 rfl (by decide) _ _ _ rfl (hown.alloc _) ⟨Y.heap.size, 0, none⟩ 1 1 [.int .i64 x, .int .i64 y] rfl rfl cells_new ints_lone (by unfold maxLen; omega) (by omega) (by simp; omega) ?_)
          intro v' w' hown' hg' _
          have hb' := below_push (t := 42) hV.size hV hown (Nat.le_refl _) hg'
          have hown2 := own_to hown' (m := (l ++ [(x, y)]).length) (ys := pcells (l ++ [(x, y)])) (by simp) (pcells_snoc l x y)
          clear hg' hown hV hown' hX hT
          go_wp2_with fail
          go_roundw
          case rel => exact ⟨i + 1, _, by go_num, by omega, by simp; omega, hown2, hb', hid (by rw [hN]; simp)⟩
          case measure => simp [RowKit.intOf]; omega
    · obtain rfl : i = A.length := by omega
      have hl9 : Hid (l = A.filter (fun p => !insv r p.1 p.2 && touchv r p)) := hid (by have := hI.out; rwa [List.take_length] at this)
      have hlL : l = L := hl9.out.trans hLL.out
      subst hlL
      go_wp2_with fail
      go_ret
      exact ⟨_, rfl, own_base hown hT0, hT.old⟩
set_option maxHeartbeats 8000000 in
set_option maxRecDepth 100000 in
theorem ocspots_b (m : M3) (s : Value) (bl : List Bool) (sb : Value) (q : Int) (f : Int × Int) (L : List (Int × Int)) (W : World) (hE : EnvT W) (hr : RowAt W s m.cs) (hl : BitsAt W sb bl) (e : Hid (spotsv m bl q f = L)) :
    Calls Tryd.prog 24 #[.agg #[.int .i64 m.w, .int .i64 m.h, s], sb, .int .i64 q, .agg #[.int .i64 f.1, .int .i64 f.2]] W fun e w' => ∃ v, e = .returned v ∧ w'.ownsRow W.heap.size 42 2 v L.length (pcells L) ∧ Below W.heap.size W w' := by
  obtain ⟨i0, hi0, hz0, hz1, hz2⟩ := info_cut infoPos
  obtain ⟨A, hA⟩ : ∃ A, Hid (allp m = A) := ⟨_, hid rfl⟩
  have hAl : A.length ≤ 1024 := by rw [← hA.out]; exact all_le m
  have cpos := fun (w : World) (hb : Below W.heap.size W w) => ocpos_b m s A w (hr.below hb) hA
  have hLL : Hid (mergS (farv f) [] (A.filter (fun p => openv m bl q p.1 p.2)) = L) := hid (by rw [← e.out, ← hA.out]; rfl)
  have hT := Held2.start W [.int .i64 m.w, .int .i64 m.h, s] [.int .i64 f.1, .int .i64 f.2] 24 42
  have cop := fun (x y : Int) (z : Bool) (w : World) (hb : Below W.heap.size W w) (e : Hid (z = openv m bl q x y)) => ocopen_b m s bl sb q x y z w (hE.keep hb) (hr.below hb) (hl.below hb) e
  clear e hr hE hl
  obtain ⟨_, _, _, _, _, _⟩ := hT.l.three; obtain ⟨_, _, _, _⟩ := hT.r.two
  go_enter Tryd.func24, Tryd.ntmps24
  go_wp2_with (go_at_call 45; with_reducible refine (cpos _ hT.old).mono ?_; rintro e V ⟨v, rfl, hown, hb⟩; have hP := PosAt.any hown rfl (by unfold maxLen; omega); obtain ⟨p0, c0, rfl⟩ := hP.len; replace hT := hT.call hb; clear hown hb)
  have hT0 := hT.old.size
  clear cpos
  go_loopw [9, 15] (fun vs vi wr => ∃ (i : Nat) (l : List (Int × Int)), vi = .int .i64 i ∧ i ≤ A.length ∧ l.length ≤ i ∧ wr.ownsRow V.heap.size 42 2 vs l.length (pcells l) ∧ Below V.heap.size V wr ∧ Hid (l = (A.take i).filter (fun p => openv m bl q p.1 p.2))) (fun _ vi _ => A.length - (RowKit.intOf vi).toNat)
  case atStart => exact ⟨0, [], rfl, by omega, by simp, World.ownsRow_nil _ _ _ _, Below.refl _ _, hid (by simp)⟩
  case round =>
    obtain ⟨i, l, rfl, hi, hli, hown, hV, hI⟩ := hrel
    replace hT := hT.call hV
    by_cases hlt : i < A.length
    · have d1 : (i : Int) < A.length := by omega
      have d0 : (0 : Int) ≤ i := by omega
      obtain ⟨g, o, rfl, hg, hc0, hc1⟩ := hP.at hlt
      rw [← hV.cell (p := ⟨g, o + i * 2, none⟩) hg] at hc0
      rw [← hV.cell (p := ⟨g, o + i * 2 + 1, none⟩) hg] at hc1
      have hN := filter_next (fun p => openv m bl q p.1 p.2) A hlt
      rw [← hI.out] at hN
      obtain ⟨x, y, hxy⟩ : ∃ x y, A[i]'hlt = (x, y) := ⟨_, _, rfl⟩
      rw [hxy] at hN hc0 hc1
      dsimp only at hN hc0 hc1
      obtain ⟨z, hz'⟩ : ∃ z, Hid (z = openv m bl q x y) := ⟨_, hid rfl⟩
      rw [← hz'.out] at hN
      have c1 := fun (w : World) (hb : Below W.heap.size W w) => cop x y z w hb hz'
      clear cop hz' hxy hI
      have hX := Blk.new wr [.int .i64 x, .int .i64 y] 42
      have hal := (Below.refl wr.heap.size wr).alloc (Nat.le_refl _) (.cells [Value.int .i64 x, .int .i64 y].toArray 42)
      replace hown := own_below hown hal
      replace hT := hT.call hal
      replace hV := below_call hV hal
      clear hal
      go_upto_region 5 with fail
      generalize wr.alloc (.cells [Value.int .i64 x, .int .i64 y].toArray 42) = X at *
      generalize wr.heap.size = bx at *
      clear hc0 hc1
      obtain ⟨_, _, _, _, _, _⟩ := hT.l.three; obtain ⟨_, _, _, _⟩ := hT.r.two
      obtain ⟨_, _, _, _⟩ := hX.two
      cases z with
      | false =>
        go_wp2_with (first | (go_at_call 48; with_reducible refine (c1 _ hT.old).mono ?_; rintro e w9 ⟨rfl, hb⟩; replace hown := own_below hown hb; replace hX := hX.below hb; replace hT := hT.call hb; replace hV := below_call hV hb; clear hb; obtain ⟨_, _, _, _, _, _⟩ := hT.l.three; obtain ⟨_, _, _, _⟩ := hT.r.two; obtain ⟨_, _, _, _⟩ := hX.two))
        go_roundw
        case rel => exact ⟨i + 1, l, by go_num, by omega, by omega, hown, hV, hid (by rw [hN]; simp)⟩
        case measure => simp [RowKit.intOf]; omega
      | true =>
        go_upto_region 6 with (first | (go_at_call 48; with_reducible refine (c1 _ hT.old).mono ?_; rintro e w9 ⟨rfl, hb⟩; replace hown := own_below hown hb; replace hX := hX.below hb; replace hT := hT.call hb; replace hV := below_call hV hb; clear hb; obtain ⟨_, _, _, _, _, _⟩ := hT.l.three; obtain ⟨_, _, _, _⟩ := hT.r.two; obtain ⟨_, _, _, _⟩ := hX.two))
        have hzz := hX.lt
        have hsv := hV.size
        generalize hYe : w9 = Y at *
        go_wp2_with (at_builtin; refine wpList_append_own _ rfl _ _ 39 rfl V.heap.size 42 i0 (.agg #[.int .i64 0, .int .i64 0]) 2 16 Tryd.underlying39 hi0 hz0 hz1 hz2 rfl (by decide) _ _ _ rfl (hown.alloc _) ⟨Y.heap.size, 0, none⟩ 1 1 [.int .i64 x, .int .i64 y] rfl rfl cells_new ints_lone (by unfold maxLen; omega) (by omega) (by simp; omega) ?_)
        intro v' w' hown' hg' _
        have hb' := below_push (t := 42) hV.size hV hown (Nat.le_refl _) hg'
        have hown2 := own_to hown' (m := (l ++ [(x, y)]).length) (ys := pcells (l ++ [(x, y)])) (by simp) (pcells_snoc l x y)
        clear hg' hown hV hown' hX hT
        go_wp2_with fail
        go_roundw
        case rel => exact ⟨i + 1, _, by go_num, by omega, by simp; omega, hown2, hb', hid (by rw [hN]; simp)⟩
        case measure => simp [RowKit.intOf]; omega
    · obtain rfl : i = A.length := by omega
      have hl9 : Hid (l = A.filter (fun p => openv m bl q p.1 p.2)) := hid (by have := hI.out; rwa [List.take_length] at this)
      have hlL : mergS (farv f) [] l = L := by rw [hl9.out]; exact hLL.out
      have hll : L.length = l.length := by rw [← hlL, mergS_len]; simp
      have cn := ocnear_b f u9 l wr (PosAt.any hown rfl (by unfold maxLen; omega)) (by omega)
      rw [hlL, ← hll] at cn
      clear hI hl9 hlL hll
      obtain ⟨_, _, _, _, _, _⟩ := hT.l.three; obtain ⟨_, _, _, _⟩ := hT.r.two
      go_wp2_with (go_at_call 49; refine cn.mono ?_; rintro e w9 ⟨v9, rfl, hown9, hb9⟩)
      go_ret
      exact ⟨_, rfl, own_base hown9 hT.old.size, below_call hT.old hb9⟩

end Go.Proofs.YtoodnblhjopnlaaDoor
