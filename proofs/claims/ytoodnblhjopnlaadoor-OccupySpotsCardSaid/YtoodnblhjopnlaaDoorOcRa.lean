/-
  What the reference of occupy answers: Within, Blocked.
-/
import Derived.Test.YtoodnblhjopnlaaDoorOcH
import Derived.Test.YtoodnblhjopnlaaDoorTerRefB
namespace Go.Proofs.YtoodnblhjopnlaaDoor
open Go.RowKit Go.Lib

theorem rformed_b (m : M3) (s : Value) (b : Bool) (W : World) (hr : RowAt W s m.cs) (e : Hid (b = formedv m)) :
    Calls Tryd.prog 26 #[.agg #[.int .i64 m.w, .int .i64 m.h, s]] W fun e w' => e = .returned (.bool b) ∧ Below W.heap.size W w' := by
  rw [e.out]; exact rformed_any m s W hr
set_option maxHeartbeats 8000000 in
set_option maxRecDepth 100000 in
theorem rwithin_b (m : M3) (s : Value) (r : R4) (b : Bool) (W : World) (hr : RowAt W s m.cs) (e : Hid (b = withinv m r)) :
    Calls Tryd.prog 18 #[.agg #[.int .i64 m.w, .int .i64 m.h, s], .agg #[.int .i64 r.x, .int .i64 r.y, .int .i64 r.w, .int .i64 r.h]] W fun e w' => e = .returned (.bool b) ∧ Below W.heap.size W w' := by
  obtain ⟨z, hz⟩ : ∃ z, Hid (z = formedv m) := ⟨_, hid rfl⟩
  have cf := fun (w : World) (hb : Below W.heap.size W w) => rformed_b m s z w (hr.below hb) hz
  have hT := Held2.start W [.int .i64 m.w, .int .i64 m.h, s] [.int .i64 r.x, .int .i64 r.y, .int .i64 r.w, .int .i64 r.h] 24 33
  have hb0 := e.out
  unfold withinv at hb0
  rw [← hz.out] at hb0
  clear e
  obtain ⟨_, _, _, _, _, _⟩ := hT.l.three; obtain ⟨_, _, _, _, _, _, _, _⟩ := hT.r.four
  cases z with
  | false =>
    subst hb0
    go_enter Tryd.func18, Tryd.ntmps18
    go_wp2_with (go_at_call 26; with_reducible refine (cf _ hT.old).mono ?_; rintro e w1 ⟨rfl, hb⟩)
    go_ret
    exact ⟨rfl, below_call hT.old hb⟩
  | true =>
    rw [Bool.true_and] at hb0
    have hmb : 1 ≤ m.w ∧ m.w ≤ 32 ∧ 1 ≤ m.h ∧ m.h ≤ 32 := by
      obtain ⟨X, Y, e1, e2, x1, x2, y1, y2, -, -⟩ := formed_num hz.out.symm
      omega
    obtain ⟨m1, m2, m3, m4⟩ := hmb
    clear hz hr
    replace hb0 := hid hb0
    by_cases h0 : 1 ≤ r.w
    · have d0 : decide (1 ≤ r.w) = true := decide_eq_true h0
      by_cases h1 : 1 ≤ r.h
      · have d1 : decide (1 ≤ r.h) = true := decide_eq_true h1
        by_cases h2 : 0 ≤ r.x
        · have d2 : decide (0 ≤ r.x) = true := decide_eq_true h2
          by_cases h3 : 0 ≤ r.y
          · have d3 : decide (0 ≤ r.y) = true := decide_eq_true h3
            by_cases h4 : r.w ≤ m.w
            · have d4 : decide (r.w ≤ m.w) = true := decide_eq_true h4
              by_cases h5 : r.h ≤ m.h
              · have d5 : decide (r.h ≤ m.h) = true := decide_eq_true h5
                have w1 : IntKind.i64.wrap (m.w - r.w) = m.w - r.w := IntWalk.i64_in _ (by omega)
                by_cases h6 : r.x ≤ m.w - r.w
                · have d6 : decide (r.x ≤ m.w - r.w) = true := decide_eq_true h6
                  have w2 : IntKind.i64.wrap (m.h - r.h) = m.h - r.h := IntWalk.i64_in _ (by omega)
                  by_cases h7 : r.y ≤ m.h - r.h
                  · have d7 : decide (r.y ≤ m.h - r.h) = true := decide_eq_true h7
                    have hb9 : b = true := by rw [hb0.out]; exact decide_eq_true (by omega)
                    subst hb9
                    go_enter Tryd.func18, Tryd.ntmps18
                    go_wp2_with (go_at_call 26; with_reducible refine (cf _ hT.old).mono ?_; rintro e w1 ⟨rfl, hb⟩; replace hT := hT.call hb; clear hb; obtain ⟨_, _, _, _, _, _⟩ := hT.l.three; obtain ⟨_, _, _, _, _, _, _, _⟩ := hT.r.four)
                    go_ret
                    exact ⟨rfl, hT.old⟩
                  · have d7 : decide (r.y ≤ m.h - r.h) = false := decide_eq_false h7
                    have hb9 : b = false := by rw [hb0.out]; exact decide_eq_false (by omega)
                    subst hb9
                    go_enter Tryd.func18, Tryd.ntmps18
                    go_wp2_with (go_at_call 26; with_reducible refine (cf _ hT.old).mono ?_; rintro e w1 ⟨rfl, hb⟩; replace hT := hT.call hb; clear hb; obtain ⟨_, _, _, _, _, _⟩ := hT.l.three; obtain ⟨_, _, _, _, _, _, _, _⟩ := hT.r.four)
                    go_ret
                    exact ⟨rfl, hT.old⟩
                · have d6 : decide (r.x ≤ m.w - r.w) = false := decide_eq_false h6
                  have hb9 : b = false := by rw [hb0.out]; exact decide_eq_false (by omega)
                  subst hb9
                  go_enter Tryd.func18, Tryd.ntmps18
                  go_wp2_with (go_at_call 26; with_reducible refine (cf _ hT.old).mono ?_; rintro e w1 ⟨rfl, hb⟩; replace hT := hT.call hb; clear hb; obtain ⟨_, _, _, _, _, _⟩ := hT.l.three; obtain ⟨_, _, _, _, _, _, _, _⟩ := hT.r.four)
                  go_ret
                  exact ⟨rfl, hT.old⟩
              · have d5 : decide (r.h ≤ m.h) = false := decide_eq_false h5
                have hb9 : b = false := by rw [hb0.out]; exact decide_eq_false (by omega)
                subst hb9
                go_enter Tryd.func18, Tryd.ntmps18
                go_wp2_with (go_at_call 26; with_reducible refine (cf _ hT.old).mono ?_; rintro e w1 ⟨rfl, hb⟩; replace hT := hT.call hb; clear hb; obtain ⟨_, _, _, _, _, _⟩ := hT.l.three; obtain ⟨_, _, _, _, _, _, _, _⟩ := hT.r.four)
                go_ret
                exact ⟨rfl, hT.old⟩
            · have d4 : decide (r.w ≤ m.w) = false := decide_eq_false h4
              have hb9 : b = false := by rw [hb0.out]; exact decide_eq_false (by omega)
              subst hb9
              go_enter Tryd.func18, Tryd.ntmps18
              go_wp2_with (go_at_call 26; with_reducible refine (cf _ hT.old).mono ?_; rintro e w1 ⟨rfl, hb⟩; replace hT := hT.call hb; clear hb; obtain ⟨_, _, _, _, _, _⟩ := hT.l.three; obtain ⟨_, _, _, _, _, _, _, _⟩ := hT.r.four)
              go_ret
              exact ⟨rfl, hT.old⟩
          · have d3 : decide (0 ≤ r.y) = false := decide_eq_false h3
            have hb9 : b = false := by rw [hb0.out]; exact decide_eq_false (by omega)
            subst hb9
            go_enter Tryd.func18, Tryd.ntmps18
            go_wp2_with (go_at_call 26; with_reducible refine (cf _ hT.old).mono ?_; rintro e w1 ⟨rfl, hb⟩; replace hT := hT.call hb; clear hb; obtain ⟨_, _, _, _, _, _⟩ := hT.l.three; obtain ⟨_, _, _, _, _, _, _, _⟩ := hT.r.four)
            go_ret
            exact ⟨rfl, hT.old⟩
        · have d2 : decide (0 ≤ r.x) = false := decide_eq_false h2
          have hb9 : b = false := by rw [hb0.out]; exact decide_eq_false (by omega)
          subst hb9
          go_enter Tryd.func18, Tryd.ntmps18
          go_wp2_with (go_at_call 26; with_reducible refine (cf _ hT.old).mono ?_; rintro e w1 ⟨rfl, hb⟩; replace hT := hT.call hb; clear hb; obtain ⟨_, _, _, _, _, _⟩ := hT.l.three; obtain ⟨_, _, _, _, _, _, _, _⟩ := hT.r.four)
          go_ret
          exact ⟨rfl, hT.old⟩
      · have d1 : decide (1 ≤ r.h) = false := decide_eq_false h1
        have hb9 : b = false := by rw [hb0.out]; exact decide_eq_false (by omega)
        subst hb9
        go_enter Tryd.func18, Tryd.ntmps18
        go_wp2_with (go_at_call 26; with_reducible refine (cf _ hT.old).mono ?_; rintro e w1 ⟨rfl, hb⟩; replace hT := hT.call hb; clear hb; obtain ⟨_, _, _, _, _, _⟩ := hT.l.three; obtain ⟨_, _, _, _, _, _, _, _⟩ := hT.r.four)
        go_ret
        exact ⟨rfl, hT.old⟩
    · have d0 : decide (1 ≤ r.w) = false := decide_eq_false h0
      have hb9 : b = false := by rw [hb0.out]; exact decide_eq_false (by omega)
      subst hb9
      go_enter Tryd.func18, Tryd.ntmps18
      go_wp2_with (go_at_call 26; with_reducible refine (cf _ hT.old).mono ?_; rintro e w1 ⟨rfl, hb⟩; replace hT := hT.call hb; clear hb; obtain ⟨_, _, _, _, _, _⟩ := hT.l.three; obtain ⟨_, _, _, _, _, _, _, _⟩ := hT.r.four)
      go_ret
      exact ⟨rfl, hT.old⟩
/-- The row while the reference marks: the cells ahead of i, and i's by the first k rectangles. -/
def refrow (m : M3) (l : List R4) (i k : Nat) : List Bool := ((List.range i).map (blockedAt m l) ++ List.replicate (m.cs.length - i) false).set i ((l.take k).any fun r => insv r (atx m.w i) (aty m.w i))
theorem refrow_len (m : M3) (l : List R4) {i : Nat} (k : Nat) (hi : i ≤ m.cs.length) : (refrow m l i k).length = m.cs.length := by
  unfold refrow; simp; omega
theorem refrow_zero (m : M3) (l : List R4) : refrow m l 0 0 = List.replicate m.cs.length false := by
  unfold refrow
  simp
theorem refrow_true {m : M3} {l : List R4} {i k : Nat} (hk : k < l.length) (h : insv (l[k]'hk) (atx m.w i) (aty m.w i) = true) : (refrow m l i k).set i true = refrow m l i (k + 1) := by
  unfold refrow
  rw [List.set_set, List.take_succ_eq_append_getElem hk, List.any_append]
  simp [h]
theorem refrow_skip {m : M3} {l : List R4} {i k : Nat} (hk : k < l.length) (h : insv (l[k]'hk) (atx m.w i) (aty m.w i) = false) : refrow m l i k = refrow m l i (k + 1) := by
  unfold refrow
  rw [List.take_succ_eq_append_getElem hk, List.any_append]
  simp [h]
theorem refrow_next {m : M3} {l : List R4} {i : Nat} (hi : i < m.cs.length) : refrow m l i l.length = refrow m l (i + 1) 0 := by
  unfold refrow
  rw [List.take_length]
  apply List.ext_getElem?
  intro n
  rw [List.getElem?_set, List.getElem?_set]
  by_cases e1 : i = n
  · subst e1
    rw [if_pos rfl, if_pos (by simp; omega), if_neg (by omega), List.getElem?_append_left (by simp), List.getElem?_map, List.getElem?_range (by omega)]
    rfl
  · rw [if_neg e1]
    by_cases e2 : i + 1 = n
    · subst e2
      rw [if_pos rfl, List.getElem?_append_right (by simp), List.length_map, List.length_range]
      by_cases e3 : i + 1 < m.cs.length
      · rw [if_pos (by simp; omega), List.getElem?_replicate, if_pos (by omega)]
        simp
      · rw [if_neg (by simp; omega), List.getElem?_replicate, if_neg (by omega)]
    · rw [if_neg e2]
      by_cases e3 : n < i
      · rw [List.getElem?_append_left (by simp; omega), List.getElem?_append_left (by simp; omega), List.getElem?_map, List.getElem?_map, List.getElem?_range e3, List.getElem?_range (by omega)]
      · rw [List.getElem?_append_right (by simp; omega), List.getElem?_append_right (by simp; omega), List.length_map, List.length_range, List.length_map, List.length_range, List.getElem?_replicate, List.getElem?_replicate]
        by_cases e4 : n < m.cs.length
        · rw [if_pos (by omega), if_pos (by omega)]
        · rw [if_neg (by omega), if_neg (by omega)]
theorem refrow_end {m : M3} (hf : formedv m = true) (l : List R4) : refrow m l m.cs.length 0 = blockedv m l := by
  unfold refrow blockedv
  rw [if_pos hf, Nat.sub_self, List.replicate_zero, List.append_nil, List.set_eq_of_length_le (by simp)]
set_option maxHeartbeats 8000000 in
set_option maxRecDepth 100000 in
theorem rblocked_b (m : M3) (s : Value) (l : List R4) (sl : Value) (L : List Bool) (W : World) (hr : RowAt W s m.cs) (hl : RecsAt W sl l) (e : Hid (blockedv m l = L)) :
    Calls Tryd.prog 13 #[.agg #[.int .i64 m.w, .int .i64 m.h, s], sl] W fun e w' => ∃ v, e = .returned v ∧ BitsAt w' v L ∧ Below W.heap.size W w' := by
  obtain ⟨z, hz⟩ : ∃ z, Hid (z = formedv m) := ⟨_, hid rfl⟩
  have cf := fun (w : World) (hb : Below W.heap.size W w) => rformed_b m s z w (hr.below hb) hz
  obtain ⟨pl, kl, rfl⟩ := hl.len
  have hB := Blk.new W [.int .i64 m.w, .int .i64 m.h, s] 24
  have hA := (Below.refl W.heap.size W).alloc (Nat.le_refl _) (.cells [Value.int .i64 m.w, .int .i64 m.h, s].toArray 24)
  have hlm : l.length ≤ maxLen := hl.choose_spec.choose_spec.2.1
  unfold maxLen at hlm
  obtain ⟨_, _, _, _, _, _⟩ := hB.three
  cases z with
  | false =>
    have hL : L = [] := by rw [← e.out]; unfold blockedv; rw [if_neg (by rw [← hz.out]; decide)]
    subst hL
    go_enter Tryd.func13, Tryd.ntmps13
    go_wp2_with (go_at_call 26; with_reducible refine (cf _ hA).mono ?_; rintro e w1 ⟨rfl, hb⟩)
    go_ret
    exact ⟨_, rfl, BitsAt.nilO _, below_call hA hb⟩
  | true =>
    have hf := hz.out.symm
    have hn := formed_len hf
    have hmul : IntKind.i64.wrap (m.w * m.h) = (m.cs.length : Int) := by
      obtain ⟨X, Y, e1, e2, x1, x2, y1, y2, hl, -⟩ := formed_num hf
      rw [e1, e2, hl, ← Int.natCast_mul]
      exact IntWalk.i64_in _ (by omega)
    have hLL : Hid (refrow m l m.cs.length 0 = L) := hid (by rw [refrow_end hf]; exact e.out)
    obtain ⟨i0, hi0, hz0, hz1, hz2⟩ := info_cut ocinfoBoo
    clear e
    go_enter Tryd.func13, Tryd.ntmps13
    go_upto_region 3 with (go_at_call 26; with_reducible refine (cf _ hA).mono ?_; rintro e w1 ⟨rfl, hb⟩; replace hB := hB.below hb; replace hA := below_call hA hb; clear hb)
    have hwl := hB.lt
    obtain ⟨_, _, _, _, _, _⟩ := hB.three
    obtain ⟨w2, hmk, hown, hg2⟩ := run_make_full w1 w1.heap.size 29 4 i0 (.bool false) 1 Tryd.underlying29 hi0 hz0 hz1 .i64 .i64 m.cs.length (by rw [hz2]; omega) (by unfold maxLen; omega) (Nat.le_refl _)
    have hb2 : Below w1.heap.size w1 w2 := (Below.refl w1.heap.size w1).grown hg2 (Nat.le_refl _) (fun k h => by cases h)
    replace hown := own_to hown (m := m.cs.length) (ys := (List.replicate m.cs.length false).map .bool) rfl (by rw [Nat.mul_one, List.map_replicate]; exact toList_madeCells_one (.bool false) m.cs.length)
    have hG := ocown_blk hown
    replace hB := hB.below hb2
    replace hA := below_call hA hb2
    obtain ⟨G, hGe⟩ : ∃ G, G = w1.heap.size := ⟨_, rfl⟩
    have hWG : W.heap.size < G := by omega
    rw [← hGe] at hmk hG
    rw [← refrow_zero m l] at hG
    clear hown hg2 hi0 hz0 hz1 hz2 hwl hb2 hGe
    obtain ⟨_, _, _, _, _, _⟩ := hB.three
    go_wp2_with fail
    clear hmk
    go_loopw [6] (fun vi wr => ∃ i : Nat, vi = .int .i64 i ∧ i ≤ m.cs.length ∧ Blk wr G ((refrow m l i 0).map .bool) 4 ∧ Blk wr W.heap.size [.int .i64 m.w, .int .i64 m.h, s] 24 ∧ Below W.heap.size W wr) (fun vi _ => m.cs.length - (RowKit.intOf vi).toNat)
    case atStart => exact ⟨0, rfl, by omega, hG, hB, hA⟩
    case round =>
      clear hG hB hA
      obtain ⟨i, rfl, hi, hG, hB, hA⟩ := hrel
      by_cases hlt : i < m.cs.length
      · have d1 : (i : Int) < m.cs.length := by omega
        have d0 : (0 : Int) ≤ i := by omega
        obtain ⟨x, y, hxy⟩ : ∃ x y, Hid (x = atx m.w i ∧ y = aty m.w i) := ⟨_, _, hid ⟨rfl, rfl⟩⟩
        have cat := fun (w : World) => sat_n m.w i x y w ⟨by omega, by omega⟩ hxy
        go_wp2_with fail
        go_loopw [7] (fun vk wr => ∃ k : Nat, vk = .int .i64 k ∧ k ≤ l.length ∧ Blk wr G ((refrow m l i k).map .bool) 4 ∧ Blk wr W.heap.size [.int .i64 m.w, .int .i64 m.h, s] 24 ∧ Below W.heap.size W wr) (fun vk _ => l.length - (RowKit.intOf vk).toNat)
        case atStart => exact ⟨0, rfl, by omega, hG, hB, hA⟩
        case round =>
          clear hG hB hA
          obtain ⟨k, rfl, hk, hG, hB, hA⟩ := hrel
          by_cases hlt2 : k < l.length
          · have d2 : (k : Int) < l.length := by omega
            have d3 : (0 : Int) ≤ k := by omega
            obtain ⟨g, o, rfl, hg, q0, q1, q2, q3⟩ := (hl.below hA).at hlt2
            have hT1 := fun h => hid (refrow_true (m := m) (i := i) hlt2 h)
            have hT2 := fun h => hid (refrow_skip (m := m) (i := i) hlt2 h)
            have hrl := refrow_len m l k (Nat.le_of_lt hlt)
            rw [← hxy.out.1, ← hxy.out.2] at hT1 hT2
            generalize l[k]'hlt2 = r at *
            obtain ⟨z, hz9⟩ : ∃ z, Hid (z = insv r x y) := ⟨_, hid rfl⟩
            have cin := fun (w : World) => sins_n r.x r.y r.w r.h x y z w hz9
            have hgG : g < W.heap.size := by
              obtain ⟨g', o', e', hg', -⟩ := hl.at hlt2
              injection e' with e'
              injection e' with e'
              omega
            have hkp := fun (w' : World) (hb : Below wr.heap.size wr w') => And.intro ((hB.below hb).cell 0) (And.intro ((hb.cell (p := ⟨g, o + k * 4, none⟩) hg).trans q0) (And.intro ((hb.cell (p := ⟨g, o + k * 4 + 1, none⟩) hg).trans q1) (And.intro ((hb.cell (p := ⟨g, o + k * 4 + 2, none⟩) hg).trans q2) ((hb.cell (p := ⟨g, o + k * 4 + 3, none⟩) hg).trans q3))))
            have hq := (Below.refl wr.heap.size wr).drew
            obtain ⟨_, _, _, _, _⟩ := hkp _ hq
            clear q0 q1 q2 q3
            go_upto_region 10 with fail
            go_region_held3 (fun w' => w'.cell? ⟨W.heap.size, 0, none⟩ = some (.int .i64 m.w) ∧ w'.cell? ⟨g, o + k * 4, none⟩ = some (.int .i64 r.x) ∧ w'.cell? ⟨g, o + k * 4 + 1, none⟩ = some (.int .i64 r.y) ∧ w'.cell? ⟨g, o + k * 4 + 2, none⟩ = some (.int .i64 r.w) ∧ w'.cell? ⟨g, o + k * 4 + 3, none⟩ = some (.int .i64 r.h))
              (exact hkp _ hq)
              (first
                | (go_at_call 36; with_reducible refine (cat _).mono ?_; rintro e w' ⟨rfl, hb⟩; replace hq := below_call hq hb; clear hb)
                | (go_at_call 35; with_reducible refine (cin _).mono ?_; rintro e w' ⟨rfl, hb⟩; replace hq := below_call hq hb; clear hb))
            replace hG := hG.below hq
            replace hB := hB.below hq
            replace hA := below_call hA hq
            clear hkp hq cin
            cases z with
            | true =>
              have hrt := hT1 hz9.out.symm
              have u1 := (hG.cell i).trans (show ((refrow m l i k).map Value.bool)[i]? = some (.bool ((refrow m l i k)[i]'(by omega))) by rw [List.getElem?_map, List.getElem?_eq_getElem (by omega)]; rfl)
              have u2 := hG.frozen i
              have hG5 := hG.set i (.bool true)
              rw [bools_set2, hrt.out] at hG5
              have hB5 := hB.far (c := G) (i := i) (.bool true) (by omega)
              have hA5 := hA.setCell (p := ⟨G, i, none⟩) (by show W.heap.size ≤ G; omega) (.bool true)
              clear hG hB hA hT1 hT2 hz9 hxy hrt
              go_wp2_with fail
              go_roundw
              case rel => exact ⟨k + 1, by go_num, by omega, hG5, hB5, hA5⟩
              case measure => simp [RowKit.intOf]; omega
            | false =>
              have hrt := hT2 hz9.out.symm
              rw [hrt.out] at hG
              clear hT1 hT2 hz9 hxy hrt hrl
              go_wp2_with fail
              go_roundw
              case rel => exact ⟨k + 1, by go_num, by omega, hG, hB, hA⟩
              case measure => simp [RowKit.intOf]; omega
          · obtain rfl : k = l.length := by omega
            rw [refrow_next hlt] at hG
            clear cat hxy
            go_wp2_with fail
            go_roundw
            case rel => exact ⟨i + 1, by go_num, by omega, hG, hB, hA⟩
            case measure => simp [RowKit.intOf]; omega
      · obtain rfl : i = m.cs.length := by omega
        have hlL : L.length = m.cs.length := by rw [← hLL.out]; exact refrow_len m l 0 (Nat.le_refl _)
        rw [hLL.out] at hG
        go_wp2_with fail
        go_ret
        exact ⟨_, rfl, BitsAt.blkO hG hlL (by unfold maxLen; omega), hA⟩

end Go.Proofs.YtoodnblhjopnlaaDoor
