/-
  What the reference of occupy answers: Ring.
-/
import Derived.Test.YtoodnblhjopnlaaDoorOcRa
namespace Go.Proofs.YtoodnblhjopnlaaDoor
open Go.RowKit Go.Lib

theorem allp_at {m : M3} (hf : formedv m = true) {i : Nat} (hi : i < (allp m).length) : (allp m)[i]'hi = (atx m.w i, aty m.w i) := by
  have h9 := hi
  unfold allp at h9 ⊢
  simp only [if_pos hf, List.getElem_map, List.getElem_range]
theorem allp_len {m : M3} (hf : formedv m = true) : (allp m).length = m.cs.length := by rw [all_len, if_pos hf]
theorem allp_none {m : M3} (hf : formedv m = false) : allp m = [] := by unfold allp; rw [if_neg (by rw [hf]; decide)]
theorem formed_mul {m : M3} (hf : formedv m = true) : IntKind.i64.wrap (m.w * m.h) = (m.cs.length : Int) := by
  have hn := formed_len hf
  obtain ⟨X, Y, e1, e2, x1, x2, y1, y2, hl, -⟩ := formed_num hf
  rw [e1, e2, hl, ← Int.natCast_mul]
  exact IntWalk.i64_in _ (by omega)
set_option maxHeartbeats 8000000 in
set_option maxRecDepth 100000 in
theorem rring_b (m : M3) (s : Value) (r : R4) (L : List (Int × Int)) (W : World) (hr : RowAt W s m.cs) (e : Hid (ringv m r = L)) :
    Calls Tryd.prog 23 #[.agg #[.int .i64 m.w, .int .i64 m.h, s], .agg #[.int .i64 r.x, .int .i64 r.y, .int .i64 r.w, .int .i64 r.h]] W fun e w' => ∃ v, e = .returned v ∧ w'.ownsRow W.heap.size 42 2 v L.length (pcells L) ∧ Below W.heap.size W w' := by
  obtain ⟨i0, hi0, hz0, hz1, hz2⟩ := info_cut infoPos
  obtain ⟨z, hz⟩ : ∃ z, Hid (z = formedv m) := ⟨_, hid rfl⟩
  have cf := fun (w : World) (hb : Below W.heap.size W w) => rformed_b m s z w (hr.below hb) hz
  have hT := Held2.start W [.int .i64 m.w, .int .i64 m.h, s] [.int .i64 r.x, .int .i64 r.y, .int .i64 r.w, .int .i64 r.h] 24 33
  obtain ⟨_, _, _, _, _, _⟩ := hT.l.three; obtain ⟨_, _, _, _, _, _, _, _⟩ := hT.r.four
  cases z with
  | false =>
    have hL : L = [] := by rw [← e.out]; unfold ringv; rw [allp_none hz.out.symm]; rfl
    subst hL
    go_enter Tryd.func23, Tryd.ntmps23
    go_wp2_with (go_at_call 26; with_reducible refine (cf _ hT.old).mono ?_; rintro e w1 ⟨rfl, hb⟩)
    go_ret
    exact ⟨_, rfl, World.ownsRow_nil _ _ _ _, below_call hT.old hb⟩
  | true =>
    have hf := hz.out.symm
    obtain ⟨A, hA⟩ : ∃ A, Hid (allp m = A) := ⟨_, hid rfl⟩
    have hAl : A.length ≤ 1024 := by rw [← hA.out]; exact all_le m
    have hAt : Hid (∀ i (h : i < A.length), A[i]'h = (atx m.w i, aty m.w i)) := hid (by rw [← hA.out]; exact fun i h => allp_at hf h)
    have hmul : IntKind.i64.wrap (m.w * m.h) = (A.length : Int) := by rw [← hA.out, allp_len hf]; exact formed_mul hf
    have hLL : Hid (A.filter (fun p => !insv r p.1 p.2 && touchv r p) = L) := hid (by rw [← e.out, ← hA.out]; rfl)
    have cs := fun (x y d u v : Int) (w : World) (e : Hid (u = stx x d ∧ v = sty y d)) => sstep_n x y d u v w e
    have ci := fun (u v : Int) (z : Bool) (w : World) (e : Hid (z = insv r u v)) => sins_n r.x r.y r.w r.h u v z w e
    clear e hr hz hf hA
    go_enter Tryd.func23, Tryd.ntmps23
    go_wp2_with (go_at_call 26; with_reducible refine (cf _ hT.old).mono ?_; rintro e V ⟨rfl, hb⟩; replace hT := hT.call hb; clear hb; obtain ⟨_, _, _, _, _, _⟩ := hT.l.three; obtain ⟨_, _, _, _, _, _, _, _⟩ := hT.r.four)
    clear cf
    have hT0 := hT.old.size
    go_loopw [5, 6] (fun vs vi wr => ∃ (i : Nat) (l : List (Int × Int)), vi = .int .i64 i ∧ i ≤ A.length ∧ l.length ≤ i ∧ wr.ownsRow V.heap.size 42 2 vs l.length (pcells l) ∧ Below V.heap.size V wr ∧ Hid (l = (A.take i).filter (fun p => !insv r p.1 p.2 && touchv r p))) (fun _ vi _ => A.length - (RowKit.intOf vi).toNat)
    case atStart => exact ⟨0, [], rfl, by omega, by simp, World.ownsRow_nil _ _ _ _, Below.refl _ _, hid (by simp)⟩
    case round =>
      obtain ⟨i, l, rfl, hi, hli, hown, hV, hI⟩ := hrel
      replace hT := hT.call hV
      obtain ⟨_, _, _, _, _, _⟩ := hT.l.three; obtain ⟨_, _, _, _, _, _, _, _⟩ := hT.r.four
      by_cases hlt : i < A.length
      · have d1 : (i : Int) < A.length := by omega
        have hN := filter_next (fun p => !insv r p.1 p.2 && touchv r p) A hlt
        rw [← hI.out, hAt.out i hlt] at hN
        obtain ⟨x, y, hxy⟩ : ∃ x y, Hid (x = atx m.w i ∧ y = aty m.w i) := ⟨_, _, hid ⟨rfl, rfl⟩⟩
        rw [← hxy.out.1, ← hxy.out.2] at hN
        have cat := fun (w : World) => sat_n m.w i x y w ⟨by omega, by omega⟩ hxy
        obtain ⟨z1, hz1'⟩ : ∃ z, Hid (z = insv r x y) := ⟨_, hid rfl⟩
        have cin := fun (w : World) => ci x y z1 w hz1'
        have hNz : Hid (∀ t, t = touchv r (x, y) → (A.take (i + 1)).filter (fun p => !insv r p.1 p.2 && touchv r p) = l ++ if (!z1 && t) = true then [(x, y)] else []) := hid (fun t ht => by rw [hN, hz1'.out, ht])
        clear hxy hI hN
        go_upto_region 8 with (go_at_call 36; with_reducible refine (cat _).mono ?_; rintro e w3 ⟨rfl, hb⟩; replace hown := own_below hown hb; replace hT := hT.call hb; replace hV := below_call hV hb; clear hb)
        have hX := Blk.new w3 [.int .i64 x, .int .i64 y] 42
        have hal := (Below.refl w3.heap.size w3).alloc (Nat.le_refl _) (.cells [Value.int .i64 x, .int .i64 y].toArray 42)
        replace hown := own_below hown hal
        replace hT := hT.call hal
        replace hV := below_call hV hal
        clear hal cat
        generalize w3.alloc (.cells [Value.int .i64 x, .int .i64 y].toArray 42) = X at *
        generalize w3.heap.size = bx at *
        have I0 : Hid (false = (List.range 0).any fun (d : Nat) => insv r (stx x d) (sty y d)) := hid rfl
        go_wp2_with fail
        go_loopw [8, 9] (fun vt vd wr => ∃ (d : Nat) (t : Bool), vt = .bool t ∧ vd = .int .i64 d ∧ d ≤ 8 ∧ wr.ownsRow V.heap.size 42 2 u5 l.length (pcells l) ∧ Below V.heap.size V wr ∧ Blk wr bx [.int .i64 x, .int .i64 y] 42 ∧ Held2 W wr W.heap.size (W.heap.size + 1) [.int .i64 m.w, .int .i64 m.h, s] [.int .i64 r.x, .int .i64 r.y, .int .i64 r.w, .int .i64 r.h] 24 33 ∧ Hid (t = (List.range d).any fun (d : Nat) => insv r (stx x d) (sty y d))) (fun _ vd _ => 8 - (RowKit.intOf vd).toNat)
        case atStart => exact ⟨0, false, rfl, rfl, by omega, hown, hV, hX, hT, I0⟩
        case round =>
          clear hown hV hX I0 hT
          obtain ⟨d, t, rfl, rfl, hd, hown, hV, hX, hT, hI⟩ := hrel
          obtain ⟨_, _, _, _, _, _⟩ := hT.l.three; obtain ⟨_, _, _, _, _, _, _, _⟩ := hT.r.four
          obtain ⟨_, _, _, _⟩ := hX.two
          by_cases hlt2 : d < 8
          · have d2 : (d : Int) < 8 := by omega
            cases t with
            | true =>
              have hN9 : Hid (true = (List.range (d + 1)).any fun (d : Nat) => insv r (stx x d) (sty y d)) := hid (by rw [List.range_succ, List.any_append, ← hI.out]; rfl)
              clear hI
              go_upto_region 12 with fail
              go_quiet (fail)
              rename_i nq
              have hb := below_many (Below.refl wr.heap.size wr) nq
              replace hown := own_below hown hb
              replace hV := below_call hV hb
              replace hX := hX.below hb
              replace hT := hT.call hb
              clear hb
              go_wp2_with fail
              go_roundw
              case rel => exact ⟨d + 1, true, rfl, by go_num, by omega, hown, hV, hX, hT, hN9⟩
              case measure => simp [RowKit.intOf]; omega
            | false =>
              obtain ⟨u, v, huv⟩ : ∃ u v, Hid (u = stx x d ∧ v = sty y d) := ⟨_, _, hid ⟨rfl, rfl⟩⟩
              obtain ⟨z, hz⟩ : ∃ z, Hid (z = insv r u v) := ⟨_, hid rfl⟩
              have hN9 : Hid (z = (List.range (d + 1)).any fun (d : Nat) => insv r (stx x d) (sty y d)) := hid (by
                rw [List.range_succ, List.any_append, ← hI.out, Bool.false_or, List.any_cons, List.any_nil, Bool.or_false, hz.out, huv.out.1, huv.out.2])
              have c1 := fun (w : World) => cs x y d u v w huv
              have c2 := fun (w : World) => ci u v z w hz
              have hk := fun (w' : World) (hb : Below wr.heap.size wr w') => And.intro ((hX.below hb).cell 0) (And.intro ((hX.below hb).cell 1) (And.intro ((hT.r.below hb).cell 0) (And.intro ((hT.r.below hb).cell 1) (And.intro ((hT.r.below hb).cell 2) ((hT.r.below hb).cell 3)))))
              have hq := (Below.refl wr.heap.size wr).drew
              obtain ⟨_, _, _, _, _, _⟩ := hk _ hq
              clear cs ci hI hz huv
              go_upto_region 12 with fail
              go_region_held3 (fun w' => w'.cell? ⟨bx, 0, none⟩ = some (.int .i64 x) ∧ w'.cell? ⟨bx, 1, none⟩ = some (.int .i64 y) ∧ w'.cell? ⟨W.heap.size + 1, 0, none⟩ = some (.int .i64 r.x) ∧ w'.cell? ⟨W.heap.size + 1, 1, none⟩ = some (.int .i64 r.y) ∧ w'.cell? ⟨W.heap.size + 1, 2, none⟩ = some (.int .i64 r.w) ∧ w'.cell? ⟨W.heap.size + 1, 3, none⟩ = some (.int .i64 r.h))
                (exact hk _ hq)
                (first
                  | (go_at_call 47; with_reducible refine (c1 _).mono ?_; rintro e w' ⟨rfl, hb⟩; replace hq := below_call hq hb; clear hb)
                  | (go_at_call 35; with_reducible refine (c2 _).mono ?_; rintro e w' ⟨rfl, hb⟩; replace hq := below_call hq hb; clear hb))
              replace hown := own_below hown hq
              replace hV := below_call hV hq
              replace hX := hX.below hq
              replace hT := hT.call hq
              clear hq hk c1 c2
              go_wp2_with fail
              go_roundw
              case rel => exact ⟨d + 1, z, rfl, by go_num, by omega, hown, hV, hX, hT, hN9⟩
              case measure => simp [RowKit.intOf]; omega
          · obtain rfl : d = 8 := by omega
            have hN := hid (hNz.out t hI.out)
            clear hNz hI cs ci
            cases t with
            | false =>
              go_wp2_with fail
              go_roundw
              case rel => exact ⟨i + 1, l, by go_num, by omega, by omega, hown, hV, hid (by rw [hN.out]; simp)⟩
              case measure => simp [RowKit.intOf]; omega
            | true =>
              cases z1 with
              | true =>
                go_wp2_with (go_at_call 35; with_reducible refine (cin _).mono ?_; rintro e w8 ⟨rfl, hb⟩; replace hown := own_below hown hb; replace hV := below_call hV hb; clear hb)
                go_roundw
                case rel => exact ⟨i + 1, l, by go_num, by omega, by omega, hown, hV, hid (by rw [hN.out]; simp)⟩
                case measure => simp [RowKit.intOf]; omega
              | false =>
                go_upto_region 14 with (go_at_call 35; with_reducible refine (cin _).mono ?_; rintro e Y ⟨rfl, hb⟩; replace hown := own_below hown hb; replace hX := hX.below hb; replace hV := below_call hV hb; clear hb)
                obtain ⟨_, _, _, _⟩ := hX.two
                have hzz := hX.lt
                have hsv := hV.size
                go_wp2_with (at_builtin; refine wpList_append_own _ rfl _ _ 39 rfl V.heap.size 42 i0 (.agg #[.int .i64 0, .int .i64 0]) 2 16 Tryd.underlying39 hi0 hz0 hz1 hz2 rfl (by decide) _ _ _ rfl (hown.alloc _) ⟨Y.heap.size, 0, none⟩ 1 1 [.int .i64 x, .int .i64 y] rfl rfl cells_new ints_lone (by unfold maxLen; omega) (by omega) (by simp; omega) ?_)
                intro v' w' hown' hg' _
                have hb' := below_push (t := 42) hV.size hV hown (Nat.le_refl _) hg'
                have hown2 := own_to hown' (m := (l ++ [(x, y)]).length) (ys := pcells (l ++ [(x, y)])) (by simp) (pcells_snoc l x y)
                clear hg' hown hV hown' hX hT
                go_wp2_with fail
                go_roundw
                case rel => exact ⟨i + 1, _, by go_num, by omega, by simp; omega, hown2, hb', hid (by rw [hN.out]; simp)⟩
                case measure => simp [RowKit.intOf]; omega
      · obtain rfl : i = A.length := by omega
        have hl9 : l = L := by have := hI.out; rw [List.take_length] at this; exact this.trans hLL.out
        subst hl9
        go_wp2_with fail
        go_ret
        exact ⟨_, rfl, own_base hown hT0, hT.old⟩

end Go.Proofs.YtoodnblhjopnlaaDoor
