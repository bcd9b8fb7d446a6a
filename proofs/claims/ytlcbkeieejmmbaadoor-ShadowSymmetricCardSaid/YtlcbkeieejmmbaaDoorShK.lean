/-
  shadow as landed at 4bd78af: Union.
-/
import Derived.Test.YtlcbkeieejmmbaaDoorShJ
import Derived.Laws.CopyOwn
namespace Go.Proofs.YtlcbkeieejmmbaaDoor
open Go.RowKit Go.Lib

theorem own_blk {w : World} {B g n : Nat} {e : TypeId} {xs : List Value} (h : w.ownsRow B e 1 (.slice (some ⟨g, 0, none⟩) n n) n xs) : Blk w g xs e := by
  rcases h.2 with ⟨h', _⟩ | ⟨g', cap', cur, h', _, hg, _, _, hcs, htake⟩
  · simp at h'
  · simp only [Value.slice.injEq, Option.some.injEq, Addr.mk.injEq, and_true, true_and] at h'
    obtain ⟨rfl, rfl⟩ := h'
    rw [List.take_of_length_le (by rw [Array.length_toList]; omega)] at htake
    subst htake
    unfold Blk
    rw [Array.toArray_toList]
    exact hg
theorem BitsAt.blk9 {W : World} {b n : Nat} {e : TypeId} {l : List Bool} (h : Blk W b (l.map .bool) e) (hn : l.length = n) (hm : n ≤ maxLen) : BitsAt W (.slice (some ⟨b, 0, none⟩) n n) l := by
  subst hn
  refine ⟨_, _, rfl, hm, fun _ => ⟨b, 0, rfl, fun i hi => ?_⟩⟩
  rw [Nat.zero_add, h.cell, List.getElem?_map, List.getElem?_eq_getElem hi]
  rfl
def upart (a b : List Bool) (i : Nat) : List Bool := (List.range a.length).map fun n => a.getD n false || (decide (n < i) && b.getD n false)
theorem upart_len (a b : List Bool) (i : Nat) : (upart a b i).length = a.length := by unfold upart; simp
theorem upart_get {a b : List Bool} {i n : Nat} (h : n < (upart a b i).length) : (upart a b i)[n]'h = (a.getD n false || (decide (n < i) && b.getD n false)) := by unfold upart; simp
theorem upart_zero (a b : List Bool) : upart a b 0 = a := by
  apply List.ext_getElem
  · exact upart_len a b 0
  · intro i h1 h2
    rw [upart_get, List.getD_eq_getElem?_getD, List.getElem?_eq_getElem h2, decide_eq_false (Nat.not_lt_zero i), Bool.false_and, Bool.or_false]
    rfl
theorem upart_all (a b : List Bool) (h : b.length ≤ a.length) : upart a b b.length = unionv a b := by
  unfold upart unionv
  rw [show max a.length b.length = a.length by omega]
  apply List.map_congr_left
  intro n hn
  by_cases e : n < b.length
  · rw [decide_eq_true e, Bool.true_and]
  · rw [decide_eq_false e, Bool.false_and, List.getD_eq_getElem?_getD (l := b), List.getElem?_eq_none (by omega)]
    rfl
theorem upart_at (a b : List Bool) (i : Nat) (h : i < a.length) : ((upart a b i).map Value.bool)[i]? = some (.bool (a.getD i false)) := by
  unfold upart
  rw [List.getElem?_map, List.getElem?_map, List.getElem?_range h]
  simp
theorem upart_set (a b : List Bool) (i : Nat) (_h : i < a.length) : ((upart a b i).map Value.bool).set i (.bool (a.getD i false || b.getD i false)) = (upart a b (i + 1)).map Value.bool := by
  rw [bools_set]
  congr 1
  apply List.ext_getElem
  · rw [List.length_set, upart_len, upart_len]
  · intro n h1 h2
    rw [List.getElem_set]
    by_cases e : i = n
    · subst e
      rw [if_pos rfl, upart_get, decide_eq_true (show i < i + 1 by omega), Bool.true_and]
    · rw [if_neg e, upart_get, upart_get, show decide (n < i) = decide (n < i + 1) from decide_eq_decide.2 (by omega)]
theorem splice_all {α : Type} (L cs : List α) (h : cs.length = L.length) : splice L 0 cs = cs := by
  unfold splice
  rw [List.take_zero, List.nil_append, Nat.zero_add, List.drop_of_length_le (by omega), List.append_nil]
theorem bools_lone (l : List Bool) : ∀ u ∈ l.map Value.bool, u.oneCell' = true := by
  intro u hu
  obtain ⟨b, _, rfl⟩ := List.mem_map.1 hu
  rfl
theorem sizeBoo : (Tryd.prog.info? 4).map (·.size) = some 1 := by kernel_rfl
/-- 'copy' of a whole list of bits over a row of as many. -/
theorem copy_bits (w : World) (g c2 n : Nat) (p2 : Option Addr) (l : List Bool) (cur : List Value) (hl : l.length = n) (hG : Blk w g cur 4) (hc : cur.length = n)
    (hat : 1 ≤ n → ∃ h o, p2 = some ⟨h, o, none⟩ ∧ ∀ i, (hi : i < l.length) → w.cell? ⟨h, o + i, none⟩ = some (.bool (l[i]'hi))) :
    ∃ w3, (Builtin.copy_ #[33, 33] 3 #[.slice (some ⟨g, 0, none⟩) n n, .slice p2 n c2]).run Tryd.prog w = .ok (.int .i64 n) w3 ∧ Blk w3 g (l.map .bool) 4 ∧ ∀ {B : Nat} {w0 : World}, Below B w0 w → B ≤ g → Below B w0 w3 := by
  subst hl
  by_cases h0 : l.length = 0
  · have hcu : cur = [] := List.eq_nil_of_length_eq_zero (by omega)
    have hln : l = [] := List.eq_nil_of_length_eq_zero h0
    subst hcu
    subst hln
    exact ⟨w, run_copy_none (P := Tryd.prog) w 33 33 3 4 _ p2 _ _ _ _ Tryd.underlying33 sizeBoo (Nat.min_self _), hG, fun hb _ => hb⟩
  · obtain ⟨h, o, rfl, ha⟩ := hat (by omega)
    have hr := run_copy_row (P := Tryd.prog) w 33 33 3 4 g 0 l.length l.length ⟨h, o, none⟩ l.length c2 cur.toArray 4 (l.map .bool) Tryd.underlying33 sizeBoo hG (by rw [List.length_map]; exact (Nat.min_self _).symm)
      (fun j v hj => by
        have hjl : j < l.length := by
          have := (List.getElem?_eq_some_iff.1 hj).1
          simpa using this
        rw [List.getElem?_map, List.getElem?_eq_getElem hjl] at hj
        rw [Addr.add_lit, ha j hjl]
        exact hj) (by simp; omega) (bools_lone l)
    have e : (cur.toArray.toList.take 0 ++ l.map Value.bool ++ cur.toArray.toList.drop (0 + (l.map Value.bool).length)) = l.map Value.bool := by
      rw [List.take_zero, List.nil_append, List.drop_of_length_le (by simp; omega), List.append_nil]
    rw [e, List.length_map] at hr
    exact ⟨_, hr, setRow_heap w g _ _ _ _ hG, fun hb hg => below_setRow hb hg _⟩
set_option maxRecDepth 100000 in
set_option maxHeartbeats 4000000 in
theorem shunion1_b (a b : List Bool) (sa sb : Value) (W : World) (ha : BitsAt W sa a) (hb : BitsAt W sb b) (la : a.length ≤ 20000) (lb : b.length ≤ 20000) (hlt : a.length < b.length) :
    Calls Tryd.prog 18 #[sa, sb] W fun e w' => ∃ v, e = .returned v ∧ BitsAt w' v (unionv a b) ∧ Below W.heap.size W w' := by
  obtain ⟨p1, c1, rfl, -, ha'⟩ := ha
  obtain ⟨p2, c2, rfl, -, hb'⟩ := hb
  have z1 : decide ((a.length : Int) < b.length) = true := decide_eq_true (by omega)
  obtain ⟨i0, hi0, hz0, hz1, hz2⟩ := info_cut infoBoo
  obtain ⟨w2, hmk, hown, hg2⟩ := run_make_full W W.heap.size 33 4 i0 (.bool false) 1 Tryd.underlying33 hi0 hz0 hz1 .i64 .i64 b.length (by rw [hz2]; omega) (by unfold maxLen; omega) (Nat.le_refl _)
  have hb2 : Below W.heap.size W w2 := (Below.refl W.heap.size W).grown hg2 (Nat.le_refl _) (fun k h => by cases h)
  replace hown := own_to hown (m := b.length) (ys := (List.replicate b.length false).map .bool) rfl (by rw [Nat.mul_one, List.map_replicate]; exact toList_madeCells_one (.bool false) b.length)
  have hG := own_blk hown
  clear hown hg2 hi0 hz0 hz1 hz2
  obtain ⟨w3, hcopy, hw3, hbk⟩ := copy_bits w2 W.heap.size c2 b.length p2 b _ rfl hG (by simp) (fun h1 => by
    obtain ⟨g, o, hp, hat⟩ := hb' h1
    exact ⟨g, o, hp, fun i hi => (hb2.cell (p := ⟨g, o + i, none⟩) (World.block_lt_of_cell? W _ (hat i hi))).trans (hat i hi)⟩)
  have hb3 := hbk hb2 (Nat.le_refl _)
  clear hbk hG
  have hbS := ha'
  go_enter Tryd.func18, Tryd.ntmps18
  go_wp2_with fail
  clear hmk hcopy hb2
  go_loopw [23] (fun vi wr => ∃ i : Nat, vi = .int .i64 i ∧ i ≤ a.length ∧ Blk wr W.heap.size ((upart b a i).map .bool) 4 ∧ Below W.heap.size W wr) (fun vi _ => a.length - (RowKit.intOf vi).toNat)
  case atStart => exact ⟨0, rfl, by omega, by rw [upart_zero]; exact hw3, hb3⟩
  case round =>
    clear hw3 hb3
    obtain ⟨i, rfl, hi, hB, hL⟩ := hrel
    by_cases hls : i < a.length
    · have d1 : (i : Int) < a.length := by omega
      have d0 : (0 : Int) ≤ i := by omega
      have d2 : (i : Int) < b.length := by omega
      obtain ⟨g, o, rfl, hat⟩ := hbS (by omega)
      have hc := hat i hls
      rw [← hL.cell (p := ⟨g, o + i, none⟩) (World.block_lt_of_cell? W _ hc)] at hc
      have hu := (hB.cell i).trans (upart_at b a i (by omega))
      have hf := hB.frozen i
      have hset := upart_set b a i (by omega)
      have hgd : a.getD i false = a[i]'hls := by rw [List.getD_eq_getElem?_getD, List.getElem?_eq_getElem hls]; rfl
      rw [← hgd] at hc
      obtain ⟨u, hu'⟩ : ∃ u, Hid (u = b.getD i false) := ⟨_, hid rfl⟩
      obtain ⟨v, hv'⟩ : ∃ v, Hid (v = a.getD i false) := ⟨_, hid rfl⟩
      rw [← hu'.out] at hu hset
      rw [← hv'.out] at hc hset
      have hB2 := hB.set i (.bool (u || v))
      rw [hset] at hB2
      have hL2 := hL.setCell (p := ⟨W.heap.size, i, none⟩) (Nat.le_refl _) (.bool (u || v))
      clear hset hB hL hat hgd hu' hv' hbS ha' hb'
      cases u with
      | true =>
        go_wp2_with fail
        go_roundw
        case rel => exact ⟨i + 1, by go_num, by omega, hB2, hL2⟩
        case measure => simp [RowKit.intOf]; omega
      | false =>
        go_wp2_with fail
        go_roundw
        case rel => exact ⟨i + 1, by go_num, by omega, by simpa using hB2, by simpa using hL2⟩
        case measure => simp [RowKit.intOf]; omega
    · obtain rfl : i = a.length := by omega
      have d1 : ¬ (a.length : Int) < a.length := by omega
      have hR := BitsAt.blk9 (n := b.length) hB (upart_len _ _ _) (by unfold maxLen; omega)
      rw [upart_all b a (by omega), union_comm] at hR
      go_wp2_with fail
      go_ret
      exact ⟨_, rfl, hR, hL⟩
set_option maxRecDepth 100000 in
set_option maxHeartbeats 4000000 in
theorem shunion2_b (a b : List Bool) (sa sb : Value) (W : World) (ha : BitsAt W sa a) (hb : BitsAt W sb b) (la : a.length ≤ 20000) (lb : b.length ≤ 20000) (hlt : ¬ a.length < b.length) :
    Calls Tryd.prog 18 #[sa, sb] W fun e w' => ∃ v, e = .returned v ∧ BitsAt w' v (unionv a b) ∧ Below W.heap.size W w' := by
  obtain ⟨p1, c1, rfl, -, ha'⟩ := ha
  obtain ⟨p2, c2, rfl, -, hb'⟩ := hb
  have z1 : decide ((a.length : Int) < b.length) = false := decide_eq_false (by omega)
  obtain ⟨i0, hi0, hz0, hz1, hz2⟩ := info_cut infoBoo
  obtain ⟨w2, hmk, hown, hg2⟩ := run_make_full W W.heap.size 33 4 i0 (.bool false) 1 Tryd.underlying33 hi0 hz0 hz1 .i64 .i64 a.length (by rw [hz2]; omega) (by unfold maxLen; omega) (Nat.le_refl _)
  have hb2 : Below W.heap.size W w2 := (Below.refl W.heap.size W).grown hg2 (Nat.le_refl _) (fun k h => by cases h)
  replace hown := own_to hown (m := a.length) (ys := (List.replicate a.length false).map .bool) rfl (by rw [Nat.mul_one, List.map_replicate]; exact toList_madeCells_one (.bool false) a.length)
  have hG := own_blk hown
  clear hown hg2 hi0 hz0 hz1 hz2
  obtain ⟨w3, hcopy, hw3, hbk⟩ := copy_bits w2 W.heap.size c1 a.length p1 a _ rfl hG (by simp) (fun h1 => by
    obtain ⟨g, o, hp, hat⟩ := ha' h1
    exact ⟨g, o, hp, fun i hi => (hb2.cell (p := ⟨g, o + i, none⟩) (World.block_lt_of_cell? W _ (hat i hi))).trans (hat i hi)⟩)
  have hb3 := hbk hb2 (Nat.le_refl _)
  clear hbk hG
  have hbS := hb'
  go_enter Tryd.func18, Tryd.ntmps18
  go_wp2_with fail
  clear hmk hcopy hb2
  go_loopw [23] (fun vi wr => ∃ i : Nat, vi = .int .i64 i ∧ i ≤ b.length ∧ Blk wr W.heap.size ((upart a b i).map .bool) 4 ∧ Below W.heap.size W wr) (fun vi _ => b.length - (RowKit.intOf vi).toNat)
  case atStart => exact ⟨0, rfl, by omega, by rw [upart_zero]; exact hw3, hb3⟩
  case round =>
    clear hw3 hb3
    obtain ⟨i, rfl, hi, hB, hL⟩ := hrel
    by_cases hls : i < b.length
    · have d1 : (i : Int) < b.length := by omega
      have d0 : (0 : Int) ≤ i := by omega
      have d2 : (i : Int) < a.length := by omega
      obtain ⟨g, o, rfl, hat⟩ := hbS (by omega)
      have hc := hat i hls
      rw [← hL.cell (p := ⟨g, o + i, none⟩) (World.block_lt_of_cell? W _ hc)] at hc
      have hu := (hB.cell i).trans (upart_at a b i (by omega))
      have hf := hB.frozen i
      have hset := upart_set a b i (by omega)
      have hgd : b.getD i false = b[i]'hls := by rw [List.getD_eq_getElem?_getD, List.getElem?_eq_getElem hls]; rfl
      rw [← hgd] at hc
      obtain ⟨u, hu'⟩ : ∃ u, Hid (u = a.getD i false) := ⟨_, hid rfl⟩
      obtain ⟨v, hv'⟩ : ∃ v, Hid (v = b.getD i false) := ⟨_, hid rfl⟩
      rw [← hu'.out] at hu hset
      rw [← hv'.out] at hc hset
      have hB2 := hB.set i (.bool (u || v))
      rw [hset] at hB2
      have hL2 := hL.setCell (p := ⟨W.heap.size, i, none⟩) (Nat.le_refl _) (.bool (u || v))
      clear hset hB hL hat hgd hu' hv' hbS ha' hb'
      cases u with
      | true =>
        go_wp2_with fail
        go_roundw
        case rel => exact ⟨i + 1, by go_num, by omega, hB2, hL2⟩
        case measure => simp [RowKit.intOf]; omega
      | false =>
        go_wp2_with fail
        go_roundw
        case rel => exact ⟨i + 1, by go_num, by omega, by simpa using hB2, by simpa using hL2⟩
        case measure => simp [RowKit.intOf]; omega
    · obtain rfl : i = b.length := by omega
      have d1 : ¬ (b.length : Int) < b.length := by omega
      have hR := BitsAt.blk9 (n := a.length) hB (upart_len _ _ _) (by unfold maxLen; omega)
      rw [upart_all a b (by omega)] at hR
      go_wp2_with fail
      go_ret
      exact ⟨_, rfl, hR, hL⟩
theorem shunion_b (a b : List Bool) (sa sb : Value) (W : World) (ha : BitsAt W sa a) (hb : BitsAt W sb b) (la : a.length ≤ 20000) (lb : b.length ≤ 20000) :
    Calls Tryd.prog 18 #[sa, sb] W fun e w' => ∃ v, e = .returned v ∧ BitsAt w' v (unionv a b) ∧ Below W.heap.size W w' := by
  by_cases h : a.length < b.length
  · exact shunion1_b a b sa sb W ha hb la lb h
  · exact shunion2_b a b sa sb W ha hb la lb h

end Go.Proofs.YtlcbkeieejmmbaaDoor
