/-
  What the reference of ruletext answers: Print; The laws of ruletext; The reference of ruletext, as the laws ask it: Print.
-/
import Derived.Test.YtnjcdmjaecgblaaGreatDoorZI03
import Derived.Test.YtnjcdmjaecgblaaGreatDoorZL00
namespace Go.Proofs.YtnjcdmjaecgblaaGreatDoor
section
open Go.RowKit Go.Lib
theorem cat_join (a b : List (List UInt8)) : toB (joinT a) ++ toB (joinT b) = toB (joinT (a ++ b)) := by rw [cat_toB, join_app]
theorem linesU_pre (l : List U9) (i : Nat) : ∃ m, linesU l = linesU (l.take i) ++ m := ⟨linesU (l.drop i), by rw [← linesU_app, List.take_append_drop]⟩
theorem linesW_pre (l : List W9) (i : Nat) : ∃ m, linesW l = linesW (l.take i) ++ m := ⟨linesW (l.drop i), by rw [← linesW_app, List.take_append_drop]⟩
theorem linesT_pre (l : List T9) (i : Nat) : ∃ m, linesT l = linesT (l.take i) ++ m := ⟨linesT (l.drop i), by rw [← linesT_app, List.take_append_drop]⟩
set_option maxHeartbeats 8000000 in
set_option maxRecDepth 100000 in
theorem r10print_b (su sw st : Value) (r : R9) (W : World) (hR : RAt W su sw st r) (hu : r.us.length ≤ 1000) (hw : r.ws.length ≤ 1000) (ht : r.ts.length ≤ 1000) :
 Calls Tryz.prog 21 #[.agg #[su, sw, st]] W (PrintPost r W) := by
 have hR0 := hid hR
 obtain ⟨n, hn⟩ : ∃ n, Hid (n = valv r) := ⟨_, hid rfl⟩
 obtain ⟨p, c, rfl, hm, hat⟩ := hR.u
 obtain ⟨p1, c1, rfl, hm1, hat1⟩ := hR.w
 obtain ⟨p2, c2, rfl, hm2, hat2⟩ := hR.t
 have hB := Blk.new W [.slice p r.us.length c, .slice p1 r.ws.length c1, .slice p2 r.ts.length c2] 31
 have hL := (Below.refl W.heap.size W).alloc (Nat.le_refl _) (.cells [.slice p r.us.length c, .slice p1 r.ws.length c1, .slice p2 r.ts.length c2].toArray 31)
 unfold maxLen at hm hm1 hm2
 clear hR
 go_enter Tryz.func21, Tryz.ntmps21
 go_upto_region 1 with fail
 generalize W.alloc (.cells [.slice p r.us.length c, .slice p1 r.ws.length c1, .slice p2 r.ts.length c2].toArray 31) = V at *
 obtain ⟨_, _, _, _, _, _⟩ := hB.three
 go_wp2_with fail
 ((with_reducible refine (r9val_b _ _ _ r n _ (hR0.out.below hL) hu hw ht hn).mono ?_); rintro e w1 ⟨rfl, hb⟩)
 replace hB := hB.below hb
 replace hL := below_call hL hb
 clear hb
 by_cases hz : n = 0
 rotate_left
 · have z1 : (n != 0) = true := by simpa using hz
   have hp := hid (show printv10 r = ([], n) by unfold printv10; rw [if_neg (by rw [← hn.out]; exact hz), hn.out])
   clear hat hat1 hat2 hn hz
   go_wp2_with fail
   first | go_ret2 | go_ret
   exact ⟨by rw [hp.out]; rfl, hL⟩
 subst hz
 have hv0 := hn.out.symm
 have hp := hid (show printv10 r = (joinT (rulesL r), 0) by unfold printv10; rw [if_pos hv0])
 have hI := hid (valid_ints hv0)
 have hS9 := hid (valid_short hv0)
 have htot := rules_len hv0
 obtain ⟨nu, nw, nt⟩ := named_at (val_zero hv0).2.1
 have hU := hid fun i (hi : i < r.us.length) => name_len (nu _ (List.mem_map_of_mem (List.getElem_mem hi)))
 have hW9 := hid fun i (hi : i < r.ws.length) => name_len (nw _ (List.mem_map_of_mem (List.getElem_mem hi)))
 have hT := hid fun i (hi : i < r.ts.length) => name_len (nt _ (List.mem_map_of_mem (List.getElem_mem hi)))
 rw [rulesL_eq] at htot
 replace htot := hid htot
 replace hp := hid hp.out
 obtain ⟨m1, m2, m3⟩ := names_len r
 replace m1 := hid m1
 replace m2 := hid m2
 replace m3 := hid m3
 clear hn hv0 nu nw nt
 go_wp2_with fail
 go_loopw [5, 6] (fun vs vi wr => ∃ (i : Nat) (y : ByteArray), vs = .string y ∧ vi = .int .i64 i ∧ i ≤ r.us.length ∧ Blk wr W.heap.size [.slice p r.us.length c, .slice p1 r.ws.length c1, .slice p2 r.ts.length c2] 31 ∧ Below W.heap.size W wr ∧ Hid (y = toB (joinT (linesU (r.us.take i))))) (fun _ vi _ => r.us.length - (RowKit.intOf vi).toNat)
 case atStart => exact ⟨0, _, rfl, rfl, by omega, hB, hL, hid rfl⟩
 case round =>
  clear hB hL
  obtain ⟨i, y, rfl, rfl, hi, hB, hL, hA⟩ := hrel
  obtain ⟨_, _, _, _, _, _⟩ := hB.three
  by_cases hlt : i < r.us.length
  · have d1 : (i : Int) < r.us.length := by omega
    have d0 : (0 : Int) ≤ i := by omega
    obtain ⟨g, o, rfl, hc⟩ := hat (by omega)
    obtain ⟨vs, hU9, hcs⟩ := (hc i hlt).ul
    have hnm := hU9.name
    clear hU9
    have k1 := (hL.cell (p := ⟨g, o + i * 19, none⟩) (World.block_lt_of_cell? W _ (hcs 0 _ hnm))).trans (hcs 0 _ hnm)
    have hk := World.block_lt_of_cell? wr _ k1
    have hnl := hU.out i hlt
    have hxe : toB (joinT (linesU (r.us.take (i + 1)))) = y ++ toB (joinT (elemL 1 (r.us[i]'hlt).nm (valueK r 1 i))) := by
     rw [hA.out, valueU hlt, cat_join, linesU_take hlt]
    have hxs : (toB (joinT (linesU (r.us.take (i + 1))))).size ≤ 32768 := by
     rw [size_toB]
     obtain ⟨m, hm9⟩ := linesU_pre r.us (i + 1)
     have h9 := htot.out
     rw [hm9] at h9
     have h8 := join_pre (linesU (r.us.take (i + 1))) (m ++ linesW r.ws ++ linesT r.ts)
     simp only [List.append_assoc] at h8 h9 ⊢
     omega
    have hcl := hid fun (W1 : World) (h : Below W.heap.size W W1) => r10lines_b _ _ _ r 1 (r.us[i]'hlt).nm i W W1 hR0.out h hI.out hS9.out (by omega) (by rw [m1.out]; exact hlt) (by rw [← rt_size, ← Lib.toList_data]; omega)
    obtain ⟨nm, hnm2⟩ : ∃ nm, (r.us[i]'hlt).nm = nm := ⟨_, rfl⟩
    rw [hnm2] at k1 hxe hcl
    obtain ⟨tl, htl⟩ : ∃ t, toB (joinT (elemL 1 nm (valueK r 1 i))) = t := ⟨_, rfl⟩
    rw [htl] at hxe hcl
    obtain ⟨x, hx⟩ : ∃ x, toB (joinT (linesU (r.us.take (i + 1)))) = x := ⟨_, rfl⟩
    rw [hx] at hxe hxs
    have hys : y.size + tl.size ≤ 10000000 := by rw [hxe, ByteArray.size_append] at hxs; omega
    have r1 := rt_cat (P := Tryz.prog) hxe hys
    replace hx := hid hx.symm
    clear hA hxe hxs hys htl hnm2 hc hcs hnm hnl
    go_upto_region 8 with fail
    have hmx : Tryz.prog.follows .mixedOrders = true := by kernel_rfl
    refine wp_region_held (S := fun w' => Below wr.heap.size wr w') hmx ?_
    show wpAnyH _ _ _ _ _ _ _ _ wr.drew
    have hS0 := (Below.refl wr.heap.size wr).drew
    refine reg_tk (i := 0) (v := .string y) (some 21) rfl (fun w' hS => by skip; go_simp) hS0 ?_
    simp only [Act.put, List.setIfInBounds_toArray, List.set_cons_zero, List.set_cons_succ]
    refine reg_tk (i := 1) (v := .agg #[.slice (some ⟨g, o, none⟩) r.us.length c, .slice p1 r.ws.length c1, .slice p2 r.ts.length c2]) (some 22) rfl (fun w' hS => by (obtain ⟨_, _, _, _, _, _⟩ := (hB.below hS).three); go_simp) hS0 ?_
    simp only [Act.put, List.setIfInBounds_toArray, List.set_cons_zero, List.set_cons_succ]
    refine reg_tk (i := 2) (v := .pointer (some ⟨W.heap.size, 0, none⟩)) (some 23) rfl (fun w' hS => by skip; go_simp) hS0 ?_
    simp only [Act.put, List.setIfInBounds_toArray, List.set_cons_zero, List.set_cons_succ]
    refine reg_tk (i := 3) (v := .slice (some ⟨g, o, none⟩) r.us.length c) (some 24) rfl (fun w' hS => by (obtain ⟨_, _, _, _, _, _⟩ := (hB.below hS).three); go_simp) hS0 ?_
    simp only [Act.put, List.setIfInBounds_toArray, List.set_cons_zero, List.set_cons_succ]
    refine reg_tk (i := 4) (v := .int .i64 i) (some 25) rfl (fun w' hS => by skip; go_simp) hS0 ?_
    simp only [Act.put, List.setIfInBounds_toArray, List.set_cons_zero, List.set_cons_succ]
    refine reg_tk (i := 5) (v := .pointer (some ⟨g, o + i * 19, none⟩)) (some 26) rfl (fun w' hS => by skip; go_simp) hS0 ?_
    simp only [Act.put, List.setIfInBounds_toArray, List.set_cons_zero, List.set_cons_succ]
    refine reg_tk (i := 6) (v := .pointer (some ⟨g, o + i * 19, none⟩)) (some 27) rfl (fun w' hS => by skip; go_simp) hS0 ?_
    simp only [Act.put, List.setIfInBounds_toArray, List.set_cons_zero, List.set_cons_succ]
    refine reg_tk (i := 7) (v := .string nm) (some 28) rfl (fun w' hS => by (have := (hS.cell (p := ⟨g, o + i * 19, none⟩) hk).trans k1); go_simp) hS0 ?_
    simp only [Act.put, List.setIfInBounds_toArray, List.set_cons_zero, List.set_cons_succ]
    refine reg_tk (i := 8) (v := .int .i64 i) (some 29) rfl (fun w' hS => by skip; go_simp) hS0 ?_
    simp only [Act.put, List.setIfInBounds_toArray, List.set_cons_zero, List.set_cons_succ]
    refine held_one (i := 9) (by kernel_rfl) rfl (fun K hQ => ?_)
    go_simp
    (with_reducible refine (hcl.out _ (hL.trans (hS0.mono hL.size))).mono ?_)
    rintro e w3 ⟨rfl, hb⟩
    have hS1 := below_call hS0 hb
    clear hb
    refine hQ.out _ _ hS1 ?_
    clear hQ
    try simp only [Act.put, List.setIfInBounds_toArray, List.set_cons_zero, List.set_cons_succ]
    refine reg_tk (i := 10) (v := .string x) (some 31) rfl (fun w' hS => by have r9 := r1 w'; go_simp) hS1 ?_
    simp only [Act.put, List.setIfInBounds_toArray, List.set_cons_zero, List.set_cons_succ]
    refine reg_tk (i := 11) (v := .string x) (some 5) rfl (fun w' hS => by skip; go_simp) hS1 ?_
    simp only [Act.put, List.setIfInBounds_toArray, List.set_cons_zero, List.set_cons_succ]
    refine wpAnyH_done (by kernel_rfl) ?_ _
    replace hB := hB.below hS1
    replace hL := below_call hL hS1
    clear hS0 hS1 r1 k1 hk
    go_wp2_with fail
    go_roundw
    case rel => exact ⟨i + 1, x, rfl, by go_num, by omega, hB, hL, hx⟩
    case measure => simp [RowKit.intOf]; omega
  · obtain rfl : i = r.us.length := by omega
    have d1 : ¬ (r.us.length : Int) < r.us.length := by omega
    have hyy := hid (show y = toB (joinT (linesU r.us ++ linesW (r.ws.take 0))) by rw [hA.out, List.take_length, List.take_zero, show linesW [] = [] from rfl, List.append_nil])
    clear hA hlt hi
    go_wp2_with fail
    clear d1
    go_loopw [5, 7] (fun vs vi wr => ∃ (i : Nat) (y : ByteArray), vs = .string y ∧ vi = .int .i64 i ∧ i ≤ r.ws.length ∧ Blk wr W.heap.size [.slice p r.us.length c, .slice p1 r.ws.length c1, .slice p2 r.ts.length c2] 31 ∧ Below W.heap.size W wr ∧ Hid (y = toB (joinT (linesU r.us ++ linesW (r.ws.take i))))) (fun _ vi _ => r.ws.length - (RowKit.intOf vi).toNat)
    case atStart => exact ⟨0, _, rfl, rfl, by omega, hB, hL, hyy⟩
    case round =>
     clear hB hL
     obtain ⟨i, y, rfl, rfl, hi, hB, hL, hA⟩ := hrel
     obtain ⟨_, _, _, _, _, _⟩ := hB.three
     by_cases hlt : i < r.ws.length
     · have d1 : (i : Int) < r.ws.length := by omega
       have d0 : (0 : Int) ≤ i := by omega
       obtain ⟨g, o, rfl, hc⟩ := hat1 (by omega)
       have hcs := hc i hlt
       have hnm : (wCells (r.ws[i]'hlt))[0]? = some (.string (r.ws[i]'hlt).nm) := rfl
       have k1 := (hL.cell (p := ⟨g, o + i * 6, none⟩) (World.block_lt_of_cell? W _ (hcs 0 _ hnm))).trans (hcs 0 _ hnm)
       have hk := World.block_lt_of_cell? wr _ k1
       have hnl := hW9.out i hlt
       have hxe : toB (joinT (linesU r.us ++ linesW (r.ws.take (i + 1)))) = y ++ toB (joinT (elemL 2 (r.ws[i]'hlt).nm (valueK r 2 i))) := by
        rw [hA.out, valueW hlt, cat_join, linesW_take hlt]
        simp only [List.append_assoc]
       have hxs : (toB (joinT (linesU r.us ++ linesW (r.ws.take (i + 1))))).size ≤ 32768 := by
        rw [size_toB]
        obtain ⟨m, hm9⟩ := linesW_pre r.ws (i + 1)
        have h9 := htot.out
        rw [hm9] at h9
        have h8 := join_pre (linesU r.us ++ linesW (r.ws.take (i + 1))) (m ++ linesT r.ts)
        simp only [List.append_assoc] at h8 h9 ⊢
        omega
       have hcl := hid fun (W1 : World) (h : Below W.heap.size W W1) => r10lines_b _ _ _ r 2 (r.ws[i]'hlt).nm i W W1 hR0.out h hI.out hS9.out (by omega) (by rw [m2.out]; exact hlt) (by rw [← rt_size, ← Lib.toList_data]; omega)
       obtain ⟨nm, hnm2⟩ : ∃ nm, (r.ws[i]'hlt).nm = nm := ⟨_, rfl⟩
       rw [hnm2] at k1 hxe hcl
       obtain ⟨tl, htl⟩ : ∃ t, toB (joinT (elemL 2 nm (valueK r 2 i))) = t := ⟨_, rfl⟩
       rw [htl] at hxe hcl
       obtain ⟨x, hx⟩ : ∃ x, toB (joinT (linesU r.us ++ linesW (r.ws.take (i + 1)))) = x := ⟨_, rfl⟩
       rw [hx] at hxe hxs
       have hys : y.size + tl.size ≤ 10000000 := by rw [hxe, ByteArray.size_append] at hxs; omega
       have r1 := rt_cat (P := Tryz.prog) hxe hys
       replace hx := hid hx.symm
       clear hA hxe hxs hys htl hnm2 hc hcs hnm hnl
       go_upto_region 12 with fail
       have hmx : Tryz.prog.follows .mixedOrders = true := by kernel_rfl
       refine wp_region_held (S := fun w' => Below wr.heap.size wr w') hmx ?_
       show wpAnyH _ _ _ _ _ _ _ _ wr.drew
       have hS0 := (Below.refl wr.heap.size wr).drew
       refine reg_tk (i := 0) (v := .string y) (some 39) rfl (fun w' hS => by skip; go_simp) hS0 ?_
       simp only [Act.put, List.setIfInBounds_toArray, List.set_cons_zero, List.set_cons_succ]
       refine reg_tk (i := 1) (v := .agg #[.slice p r.us.length c, .slice (some ⟨g, o, none⟩) r.ws.length c1, .slice p2 r.ts.length c2]) (some 40) rfl (fun w' hS => by (obtain ⟨_, _, _, _, _, _⟩ := (hB.below hS).three); go_simp) hS0 ?_
       simp only [Act.put, List.setIfInBounds_toArray, List.set_cons_zero, List.set_cons_succ]
       refine reg_tk (i := 2) (v := .pointer (some ⟨W.heap.size, 1, none⟩)) (some 41) rfl (fun w' hS => by skip; go_simp) hS0 ?_
       simp only [Act.put, List.setIfInBounds_toArray, List.set_cons_zero, List.set_cons_succ]
       refine reg_tk (i := 3) (v := .slice (some ⟨g, o, none⟩) r.ws.length c1) (some 42) rfl (fun w' hS => by (obtain ⟨_, _, _, _, _, _⟩ := (hB.below hS).three); go_simp) hS0 ?_
       simp only [Act.put, List.setIfInBounds_toArray, List.set_cons_zero, List.set_cons_succ]
       refine reg_tk (i := 4) (v := .int .i64 i) (some 43) rfl (fun w' hS => by skip; go_simp) hS0 ?_
       simp only [Act.put, List.setIfInBounds_toArray, List.set_cons_zero, List.set_cons_succ]
       refine reg_tk (i := 5) (v := .pointer (some ⟨g, o + i * 6, none⟩)) (some 44) rfl (fun w' hS => by skip; go_simp) hS0 ?_
       simp only [Act.put, List.setIfInBounds_toArray, List.set_cons_zero, List.set_cons_succ]
       refine reg_tk (i := 6) (v := .pointer (some ⟨g, o + i * 6, none⟩)) (some 45) rfl (fun w' hS => by skip; go_simp) hS0 ?_
       simp only [Act.put, List.setIfInBounds_toArray, List.set_cons_zero, List.set_cons_succ]
       refine reg_tk (i := 7) (v := .string nm) (some 46) rfl (fun w' hS => by (have := (hS.cell (p := ⟨g, o + i * 6, none⟩) hk).trans k1); go_simp) hS0 ?_
       simp only [Act.put, List.setIfInBounds_toArray, List.set_cons_zero, List.set_cons_succ]
       refine reg_tk (i := 8) (v := .int .i64 i) (some 47) rfl (fun w' hS => by skip; go_simp) hS0 ?_
       simp only [Act.put, List.setIfInBounds_toArray, List.set_cons_zero, List.set_cons_succ]
       refine held_one (i := 9) (by kernel_rfl) rfl (fun K hQ => ?_)
       go_simp
       (with_reducible refine (hcl.out _ (hL.trans (hS0.mono hL.size))).mono ?_)
       rintro e w3 ⟨rfl, hb⟩
       have hS1 := below_call hS0 hb
       clear hb
       refine hQ.out _ _ hS1 ?_
       clear hQ
       try simp only [Act.put, List.setIfInBounds_toArray, List.set_cons_zero, List.set_cons_succ]
       refine reg_tk (i := 10) (v := .string x) (some 49) rfl (fun w' hS => by have r9 := r1 w'; go_simp) hS1 ?_
       simp only [Act.put, List.setIfInBounds_toArray, List.set_cons_zero, List.set_cons_succ]
       refine reg_tk (i := 11) (v := .string x) (some 5) rfl (fun w' hS => by skip; go_simp) hS1 ?_
       simp only [Act.put, List.setIfInBounds_toArray, List.set_cons_zero, List.set_cons_succ]
       refine wpAnyH_done (by kernel_rfl) ?_ _
       replace hB := hB.below hS1
       replace hL := below_call hL hS1
       clear hS0 hS1 r1 k1 hk
       go_wp2_with fail
       go_roundw
       case rel => exact ⟨i + 1, x, rfl, by go_num, by omega, hB, hL, hx⟩
       case measure => simp [RowKit.intOf]; omega
     · obtain rfl : i = r.ws.length := by omega
       have d1 : ¬ (r.ws.length : Int) < r.ws.length := by omega
       have hyy := hid (show y = toB (joinT (linesU r.us ++ linesW r.ws ++ linesT (r.ts.take 0))) by rw [hA.out, List.take_length, List.take_zero, show linesT [] = [] from rfl, List.append_nil])
       clear hA hlt hi
       go_wp2_with fail
       clear d1
       go_loopw [5, 8] (fun vs vi wr => ∃ (i : Nat) (y : ByteArray), vs = .string y ∧ vi = .int .i64 i ∧ i ≤ r.ts.length ∧ Blk wr W.heap.size [.slice p r.us.length c, .slice p1 r.ws.length c1, .slice p2 r.ts.length c2] 31 ∧ Below W.heap.size W wr ∧ Hid (y = toB (joinT (linesU r.us ++ linesW r.ws ++ linesT (r.ts.take i))))) (fun _ vi _ => r.ts.length - (RowKit.intOf vi).toNat)
       case atStart => exact ⟨0, _, rfl, rfl, by omega, hB, hL, hyy⟩
       case round =>
        clear hB hL
        obtain ⟨i, y, rfl, rfl, hi, hB, hL, hA⟩ := hrel
        obtain ⟨_, _, _, _, _, _⟩ := hB.three
        by_cases hlt : i < r.ts.length
        · have d1 : (i : Int) < r.ts.length := by omega
          have d0 : (0 : Int) ≤ i := by omega
          obtain ⟨g, o, rfl, hc⟩ := hat2 (by omega)
          obtain ⟨vs, hU9, hcs⟩ := (hc i hlt).tl
          have hnm := hU9.name
          clear hU9
          have k1 := (hL.cell (p := ⟨g, o + i * 8, none⟩) (World.block_lt_of_cell? W _ (hcs 0 _ hnm))).trans (hcs 0 _ hnm)
          have hk := World.block_lt_of_cell? wr _ k1
          have hnl := hT.out i hlt
          have hxe : toB (joinT (linesU r.us ++ linesW r.ws ++ linesT (r.ts.take (i + 1)))) = y ++ toB (joinT (elemL 3 (r.ts[i]'hlt).nm (valueK r 3 i))) := by
           rw [hA.out, valueT hlt, cat_join, linesT_take hlt]
           simp only [List.append_assoc]
          have hxs : (toB (joinT (linesU r.us ++ linesW r.ws ++ linesT (r.ts.take (i + 1))))).size ≤ 32768 := by
           rw [size_toB]
           obtain ⟨m, hm9⟩ := linesT_pre r.ts (i + 1)
           have h9 := htot.out
           rw [hm9] at h9
           have h8 := join_pre (linesU r.us ++ linesW r.ws ++ linesT (r.ts.take (i + 1))) (m )
           simp only [List.append_assoc] at h8 h9 ⊢
           omega
          have hcl := hid fun (W1 : World) (h : Below W.heap.size W W1) => r10lines_b _ _ _ r 3 (r.ts[i]'hlt).nm i W W1 hR0.out h hI.out hS9.out (by omega) (by rw [m3.out]; exact hlt) (by rw [← rt_size, ← Lib.toList_data]; omega)
          obtain ⟨nm, hnm2⟩ : ∃ nm, (r.ts[i]'hlt).nm = nm := ⟨_, rfl⟩
          rw [hnm2] at k1 hxe hcl
          obtain ⟨tl, htl⟩ : ∃ t, toB (joinT (elemL 3 nm (valueK r 3 i))) = t := ⟨_, rfl⟩
          rw [htl] at hxe hcl
          obtain ⟨x, hx⟩ : ∃ x, toB (joinT (linesU r.us ++ linesW r.ws ++ linesT (r.ts.take (i + 1)))) = x := ⟨_, rfl⟩
          rw [hx] at hxe hxs
          have hys : y.size + tl.size ≤ 10000000 := by rw [hxe, ByteArray.size_append] at hxs; omega
          have r1 := rt_cat (P := Tryz.prog) hxe hys
          replace hx := hid hx.symm
          clear hA hxe hxs hys htl hnm2 hc hcs hnm hnl
          go_upto_region 16 with fail
          have hmx : Tryz.prog.follows .mixedOrders = true := by kernel_rfl
          refine wp_region_held (S := fun w' => Below wr.heap.size wr w') hmx ?_
          show wpAnyH _ _ _ _ _ _ _ _ wr.drew
          have hS0 := (Below.refl wr.heap.size wr).drew
          refine reg_tk (i := 0) (v := .string y) (some 57) rfl (fun w' hS => by skip; go_simp) hS0 ?_
          simp only [Act.put, List.setIfInBounds_toArray, List.set_cons_zero, List.set_cons_succ]
          refine reg_tk (i := 1) (v := .agg #[.slice p r.us.length c, .slice p1 r.ws.length c1, .slice (some ⟨g, o, none⟩) r.ts.length c2]) (some 58) rfl (fun w' hS => by (obtain ⟨_, _, _, _, _, _⟩ := (hB.below hS).three); go_simp) hS0 ?_
          simp only [Act.put, List.setIfInBounds_toArray, List.set_cons_zero, List.set_cons_succ]
          refine reg_tk (i := 2) (v := .pointer (some ⟨W.heap.size, 2, none⟩)) (some 59) rfl (fun w' hS => by skip; go_simp) hS0 ?_
          simp only [Act.put, List.setIfInBounds_toArray, List.set_cons_zero, List.set_cons_succ]
          refine reg_tk (i := 3) (v := .slice (some ⟨g, o, none⟩) r.ts.length c2) (some 60) rfl (fun w' hS => by (obtain ⟨_, _, _, _, _, _⟩ := (hB.below hS).three); go_simp) hS0 ?_
          simp only [Act.put, List.setIfInBounds_toArray, List.set_cons_zero, List.set_cons_succ]
          refine reg_tk (i := 4) (v := .int .i64 i) (some 61) rfl (fun w' hS => by skip; go_simp) hS0 ?_
          simp only [Act.put, List.setIfInBounds_toArray, List.set_cons_zero, List.set_cons_succ]
          refine reg_tk (i := 5) (v := .pointer (some ⟨g, o + i * 8, none⟩)) (some 62) rfl (fun w' hS => by skip; go_simp) hS0 ?_
          simp only [Act.put, List.setIfInBounds_toArray, List.set_cons_zero, List.set_cons_succ]
          refine reg_tk (i := 6) (v := .pointer (some ⟨g, o + i * 8, none⟩)) (some 63) rfl (fun w' hS => by skip; go_simp) hS0 ?_
          simp only [Act.put, List.setIfInBounds_toArray, List.set_cons_zero, List.set_cons_succ]
          refine reg_tk (i := 7) (v := .string nm) (some 64) rfl (fun w' hS => by (have := (hS.cell (p := ⟨g, o + i * 8, none⟩) hk).trans k1); go_simp) hS0 ?_
          simp only [Act.put, List.setIfInBounds_toArray, List.set_cons_zero, List.set_cons_succ]
          refine reg_tk (i := 8) (v := .int .i64 i) (some 65) rfl (fun w' hS => by skip; go_simp) hS0 ?_
          simp only [Act.put, List.setIfInBounds_toArray, List.set_cons_zero, List.set_cons_succ]
          refine held_one (i := 9) (by kernel_rfl) rfl (fun K hQ => ?_)
          go_simp
          (with_reducible refine (hcl.out _ (hL.trans (hS0.mono hL.size))).mono ?_)
          rintro e w3 ⟨rfl, hb⟩
          have hS1 := below_call hS0 hb
          clear hb
          refine hQ.out _ _ hS1 ?_
          clear hQ
          try simp only [Act.put, List.setIfInBounds_toArray, List.set_cons_zero, List.set_cons_succ]
          refine reg_tk (i := 10) (v := .string x) (some 67) rfl (fun w' hS => by have r9 := r1 w'; go_simp) hS1 ?_
          simp only [Act.put, List.setIfInBounds_toArray, List.set_cons_zero, List.set_cons_succ]
          refine reg_tk (i := 11) (v := .string x) (some 5) rfl (fun w' hS => by skip; go_simp) hS1 ?_
          simp only [Act.put, List.setIfInBounds_toArray, List.set_cons_zero, List.set_cons_succ]
          refine wpAnyH_done (by kernel_rfl) ?_ _
          replace hB := hB.below hS1
          replace hL := below_call hL hS1
          clear hS0 hS1 r1 k1 hk
          go_wp2_with fail
          go_roundw
          case rel => exact ⟨i + 1, x, rfl, by go_num, by omega, hB, hL, hx⟩
          case measure => simp [RowKit.intOf]; omega
        · obtain rfl : i = r.ts.length := by omega
          have d1 : ¬ (r.ts.length : Int) < r.ts.length := by omega
          have hyy := hid (show y = toB (joinT (rulesL r)) by rw [hA.out, List.take_length]; rfl)
          clear hA hat hat1 hat2
          go_wp2_with fail
          first | go_ret2 | go_ret
          exact ⟨by rw [hp.out]; exact congrArg (fun z => Ending.returned (.tuple #[.string z, .int .i64 0])) hyy.out, hL⟩
end
section
open Go.RowKit Go.Lib
section
variable {E : World → Prop} (H : RtHave E)
include H
set_option maxHeartbeats 8000000 in
set_option maxRecDepth 100000 in
theorem law10_round (su sw st : Value) (r : R9) (W : World) (hE : E W) (hrp : RPrintP) (hre : RSameP) (hR : RAt W su sw st r) (hC : CapR W su st) (hF : FewL 1048576 r) :
 Calls Tryz.prog 7 #[.agg #[su, sw, st]] W fun e w' => e = .returned (.bool true) ∧ Below W.heap.size W w' := by
 have hR0 := hid hR
 have hC0 := hid hC
 obtain ⟨p, c, rfl, hm, -⟩ := hR.u
 obtain ⟨p1, c1, rfl, hm1, -⟩ := hR.w
 obtain ⟨p2, c2, rfl, hm2, -⟩ := hR.t
 clear hm hm1 hm2
 have hB := Blk.new W [.slice p r.us.length c, .slice p1 r.ws.length c1, .slice p2 r.ts.length c2] 31
 have hL := (Below.refl W.heap.size W).alloc (Nat.le_refl _) (.cells ([.slice p r.us.length c, .slice p1 r.ws.length c1, .slice p2 r.ts.length c2] : List Value).toArray 31)
 obtain ⟨q, hq⟩ : ∃ q, Hid (q = hugev r) := ⟨_, hid rfl⟩
 obtain ⟨t, er, ht⟩ : ∃ t er, Hid (t = toB (printv10 r).1 ∧ er = (printv10 r).2) := ⟨_, _, hid ⟨rfl, rfl⟩⟩
 clear hR hC
 go_enter Tryz.func7, Tryz.ntmps7
 go_upto_region 1 with fail
 generalize (W.alloc (.cells ([.slice p r.us.length c, .slice p1 r.ws.length c1, .slice p2 r.ts.length c2] : List Value).toArray 31)) = V at *
 obtain ⟨_, _, _, _, _, _⟩ := hB.three
 go_wp2_with fail
 ((with_reducible refine (lhuge_b _ _ _ r q _ (hR0.out.below hL) hq).mono ?_); rintro e w1 ⟨rfl, hb⟩)
 replace hB := hB.below hb
 replace hL := below_call hL hb
 clear hb
 cases q with
 | true =>
  obtain ⟨_, _, _, _, _, _⟩ := hB.three
  go_wp2_with fail
  ((with_reducible refine (awake10_b H _ (H.keep hE hL)).mono ?_); rintro e w2 ⟨rfl, hb⟩)
  replace hB := hB.below hb
  replace hL := below_call hL hb
  clear hb
  go_wp2_with fail
  go_ret
  exact ⟨rfl, hL⟩
 | false =>
  obtain ⟨lu, lw, lt, hS⟩ := small_huge hq.out.symm hF
  have hF9 : FewL 100000 r := ⟨fun u hu => by have := hS.few.1 u hu; omega, fun t ht => by have := hS.few.2 t ht; omega⟩
  have z2 : (er != er) = false := bne_self_eq_false er
  obtain ⟨⟨R, ln, g⟩, hp⟩ : ∃ x, Hid (x = parsev10 t.toList) := ⟨_, hid rfl⟩
  have hcase : (er = 0 ∧ R = r ∧ ln = 0 ∧ g = 0) ∨ er ≠ 0 := by
   by_cases hv : valv r = 0
   · left
     have h1 := ht.out.1
     have h2 := ht.out.2
     unfold printv10 at h1 h2
     rw [if_pos hv] at h1 h2
     have h3 := hp.out
     rw [h1, toB_list, parse_print10 hv] at h3
     injection h3 with h3 h4
     injection h4 with h4 h5
     exact ⟨h2, h3, h4, h5⟩
   · right
     have h2 := ht.out.2
     unfold printv10 at h2
     rw [if_neg hv] at h2
     rw [h2]
     exact hv
  obtain ⟨_, _, _, _, _, _⟩ := hB.three
  go_wp2_with fail
  ((with_reducible refine (H.print _ _ _ r t er _ (H.keep hE hL) (hR0.out.below hL) (hC0.out.below hR0.out hL) (by omega) (by omega) (by omega) hF9 ht).mono ?_); rintro e w3 ⟨rfl, hb⟩)
  replace hB := hB.below hb
  replace hL := below_call hL hb
  clear hb
  obtain ⟨_, _, _, _, _, _⟩ := hB.three
  go_wp2_with fail
  ((with_reducible refine (hrp _ _ _ r t er _ (hR0.out.below hL) (by omega) (by omega) (by omega) ht).mono ?_); rintro e w4 ⟨rfl, hb⟩)
  replace hB := hB.below hb
  replace hL := below_call hL hb
  clear hb
  obtain ⟨_, _, _, _, _, _⟩ := hB.three
  go_wp2_with fail
  ((with_reducible refine (H.parse t R ln g _ (H.keep hE hL) hp).mono ?_); rintro e w5 ⟨tu, tw, tt, rfl, hN, -, hb⟩)
  replace hB := hB.below hb
  replace hL := below_call hL hb
  clear hb
  obtain ⟨a0, d0, rfl, -, -⟩ := hN.u
  obtain ⟨a1, d1, rfl, -, -⟩ := hN.w
  obtain ⟨a2, d2, rfl, -, -⟩ := hN.t
  have h7 := Blk.new w5 [.slice a0 R.us.length d0, .slice a1 R.ws.length d1, .slice a2 R.ts.length d2] 31
  have hbx := (Below.refl w5.heap.size w5).alloc (Nat.le_refl _) (.cells ([.slice a0 R.us.length d0, .slice a1 R.ws.length d1, .slice a2 R.ts.length d2] : List Value).toArray 31)
  replace hB := hB.alloc (.cells ([.slice a0 R.us.length d0, .slice a1 R.ws.length d1, .slice a2 R.ts.length d2] : List Value).toArray 31)
  replace hN := hN.below hbx
  replace hL := hL.alloc hL.size (.cells ([.slice a0 R.us.length d0, .slice a1 R.ws.length d1, .slice a2 R.ts.length d2] : List Value).toArray 31)
  obtain ⟨_, _, _, _, _, _⟩ := hB.three
  obtain ⟨_, _, _, _, _, _⟩ := h7.three
  go_upto_region 8 with fail
  generalize w5.alloc (.cells ([.slice a0 R.us.length d0, .slice a1 R.ws.length d1, .slice a2 R.ts.length d2] : List Value).toArray 31) = V7 at *
  generalize w5.heap.size = b7 at *
  clear hbx
  obtain ⟨_, _, _, _, _, _⟩ := hB.three
  obtain ⟨_, _, _, _, _, _⟩ := h7.three
  rcases hcase with ⟨rfl, rfl, rfl, rfl⟩ | h1
  · go_wp2_with (first | (with_reducible refine wpList_load_agg' 31 _ rfl (by with_unfolding_all rfl) ⟨b7, 0, none⟩ (by with_unfolding_all rfl) Tryz.isAgg31 Tryz.sizeOf31 _ (h7.loads rfl) ?_) | (with_reducible refine wpList_load_agg' 31 _ rfl (by with_unfolding_all rfl) ⟨W.heap.size, 0, none⟩ (by with_unfolding_all rfl) Tryz.isAgg31 Tryz.sizeOf31 [.slice p r.us.length c, .slice p1 r.ws.length c1, .slice p2 r.ts.length c2] (hB.loads rfl) ?_))
    ((with_reducible refine (hre _ _ _ _ _ _ _ _ true _ _ hN (hR0.out.below hL) (Below.refl _ _) (hid (decide_eq_true rfl).symm)).mono ?_); rintro e w6 ⟨rfl, hb⟩)
    replace hB := hB.below hb
    replace h7 := h7.below hb
    replace hL := below_call hL hb
    replace hN := hN.below hb
    clear hb
    go_wp2_with fail
    ((with_reducible refine (awake10_b H _ (H.keep hE hL)).mono ?_); rintro e w7 ⟨rfl, hb⟩)
    replace hB := hB.below hb
    replace h7 := h7.below hb
    replace hL := below_call hL hb
    clear hb
    go_wp2_with fail
    go_ret
    exact ⟨rfl, hL⟩
  · have z1 : (er != 0) = true := bne_iff_ne.2 h1
    go_wp2_with fail
    ((with_reducible refine (awake10_b H _ (H.keep hE hL)).mono ?_); rintro e w6 ⟨rfl, hb⟩)
    replace hB := hB.below hb
    replace h7 := h7.below hb
    replace hL := below_call hL hb
    replace hN := hN.below hb
    clear hb
    go_wp2_with fail
    go_ret
    exact ⟨rfl, hL⟩
end
end
section
open Go.RowKit Go.Lib
theorem rprint_have : RPrintP := fun su sw st r t er W hR hu hw ht hp => (r10print_b su sw st r W hR hu hw ht).mono fun e w' h => by
 obtain ⟨rfl, rfl⟩ := hp.out
 exact h
end

end Go.Proofs.YtnjcdmjaecgblaaGreatDoor
