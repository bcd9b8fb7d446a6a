/-
  ruletext as landed at a382b96: an element added; Rules whose lists are small. No program is named here.
-/
import Derived.Test.YtnjcdmjaecgblaaGreatDoorZA13
import Derived.Test.YtnjcdmjaecgblaaGreatDoorZA14
import Derived.Great.Walk
namespace Go.Proofs.YtnjcdmjaecgblaaGreatDoor
section
open Go.RowKit Go.Lib
def AddP (B b : Nat) (s : ByteArray) (n : Int) (k : Nat) (r : R9) (W : World) (e : Ending) (w' : World) : Prop := ∃ su sw st v g m c i, e = .returned v ∧ SliceK su sw st k = .slice (some ⟨g, 0, none⟩) m c ∧ (namesK r k).length = i + 1 ∧ lastK r k = i ∧ Elem w' v k g (i * cellsK k) ∧ Rdr w' b s n k su sw st ∧ Rwb w' B su sw st r ∧ Below B W w'
theorem newU_build (nm : ByteArray) : ∀ w, Sem.run Tryz.prog (Instr.build 53 #[(0, .string nm)]) w = .ok (.agg (uCells { U9.zero with nm := nm } (.slice none 0 0) (.slice none 0 0) (.slice none 0 0)).toArray) w := fun w => by kernel_rfl
theorem newU_slice (nm : ByteArray) : Tryz.prog.builtSlice 53 1 [(0, .agg (uCells { U9.zero with nm := nm } (.slice none 0 0) (.slice none 0 0) (.slice none 0 0)).toArray)] = some (uCells { U9.zero with nm := nm } (.slice none 0 0) (.slice none 0 0) (.slice none 0 0)).toArray := by kernel_rfl
theorem newU_lone (nm : ByteArray) : ∀ v ∈ (uCells { U9.zero with nm := nm } (.slice none 0 0) (.slice none 0 0) (.slice none 0 0)), v.oneCell' = true := by
 intro v hv
 simp only [uCells, List.mem_cons, List.not_mem_nil, or_false] at hv
 rcases hv with rfl | rfl | rfl | rfl | rfl | rfl | rfl | rfl | rfl | rfl | rfl | rfl | rfl | rfl | rfl | rfl | rfl | rfl | rfl <;> rfl
theorem newU_cap (nm : ByteArray) : ∀ v ∈ (uCells { U9.zero with nm := nm } (.slice none 0 0) (.slice none 0 0) (.slice none 0 0)), CapV v := by
 intro v hv
 simp only [uCells, List.mem_cons, List.not_mem_nil, or_false] at hv
 rcases hv with rfl | rfl | rfl | rfl | rfl | rfl | rfl | rfl | rfl | rfl | rfl | rfl | rfl | rfl | rfl | rfl | rfl | rfl | rfl <;> first | exact cap_nil | exact cap_no (by intros; intro q; cases q)
theorem newW_build (nm : ByteArray) : ∀ w, Sem.run Tryz.prog (Instr.build 51 #[(0, .string nm)]) w = .ok (.agg (wCells { W9.zero with nm := nm }).toArray) w := fun w => by kernel_rfl
theorem newW_slice (nm : ByteArray) : Tryz.prog.builtSlice 51 1 [(0, .agg (wCells { W9.zero with nm := nm }).toArray)] = some (wCells { W9.zero with nm := nm }).toArray := by kernel_rfl
theorem newW_lone (nm : ByteArray) : ∀ v ∈ (wCells { W9.zero with nm := nm }), v.oneCell' = true := by
 intro v hv
 simp only [wCells, List.mem_cons, List.not_mem_nil, or_false] at hv
 rcases hv with rfl | rfl | rfl | rfl | rfl | rfl <;> rfl
theorem newT_build (nm : ByteArray) : ∀ w, Sem.run Tryz.prog (Instr.build 56 #[(0, .string nm)]) w = .ok (.agg (tCells { T9.zero with nm := nm } (.slice none 0 0)).toArray) w := fun w => by kernel_rfl
theorem newT_slice (nm : ByteArray) : Tryz.prog.builtSlice 56 1 [(0, .agg (tCells { T9.zero with nm := nm } (.slice none 0 0)).toArray)] = some (tCells { T9.zero with nm := nm } (.slice none 0 0)).toArray := by kernel_rfl
theorem newT_lone (nm : ByteArray) : ∀ v ∈ (tCells { T9.zero with nm := nm } (.slice none 0 0)), v.oneCell' = true := by
 intro v hv
 simp only [tCells, List.mem_cons, List.not_mem_nil, or_false] at hv
 rcases hv with rfl | rfl | rfl | rfl | rfl | rfl | rfl | rfl <;> rfl
theorem newT_cap (nm : ByteArray) : ∀ v ∈ (tCells { T9.zero with nm := nm } (.slice none 0 0)), CapV v := by
 intro v hv
 simp only [tCells, List.mem_cons, List.not_mem_nil, or_false] at hv
 rcases hv with rfl | rfl | rfl | rfl | rfl | rfl | rfl | rfl <;> first | exact cap_nil | exact cap_no (by intros; intro q; cases q)
set_option maxHeartbeats 8000000 in
set_option maxRecDepth 100000 in
theorem dadd1_b (B b : Nat) (s nm : ByteArray) (n : Int) (su sw st : Value) (r : R9) (W : World) (h : Rdr W b s n 1 su sw st) (hR : Rwb W B su sw st r) (hB : B ≤ b) (hu : r.us.length ≤ 9000) (hw : r.ws.length ≤ 9000) (ht : r.ts.length ≤ 9000) :
 Calls Tryz.prog 108 #[.pointer (some ⟨b, 0, none⟩), .string nm] W (AddP B b s n 1 { r with us := r.us ++ [{ U9.zero with nm := nm }] } W) := by
 obtain ⟨q0, k0, q1, k1, q2, k2, cu, cw, ct, rfl, rfl, rfl, a, b9, c, d, e, f⟩ := hR
 obtain ⟨i0, hi, hz0, hz1, hz2⟩ := info_cut9 infoU9
 have hbl := Blk.lt h
 have hL := (Below.refl W.heap.size W).alloc (Nat.le_refl _) (.cells eZero.toArray 64)
 have hX := Blk.new W eZero 64
 have hRd : Rdr (W.alloc (.cells eZero.toArray 64)) b s n 1 _ _ _ := Blk.alloc h (.cells eZero.toArray 64)
 have a1 := own_below a ((Below.refl W.heap.size W).alloc (Nat.le_refl _) (.cells eZero.toArray 64))
 have b1 := own_below b9 ((Below.refl W.heap.size W).alloc (Nat.le_refl _) (.cells eZero.toArray 64))
 have c1 := own_below c ((Below.refl W.heap.size W).alloc (Nat.le_refl _) (.cells eZero.toArray 64))
 have d1 : ∀ j (h : j < r.us.length), UB (W.alloc (.cells eZero.toArray 64)) (cu j) (r.us[j]'h) ∧ ∀ v ∈ cu j, CapV v := fun j h => ⟨(d j h).1.below ((Below.refl W.heap.size W).alloc (Nat.le_refl _) _), (d j h).2⟩
 have f1 : ∀ j (h : j < r.ts.length), TB (W.alloc (.cells eZero.toArray 64)) (ct j) (r.ts[j]'h) ∧ ∀ v ∈ ct j, CapV v := fun j h => ⟨(f j h).1.below ((Below.refl W.heap.size W).alloc (Nat.le_refl _) _), (f j h).2⟩
 have e1 := e
 have hxl : W.heap.size < (W.alloc (.cells eZero.toArray 64)).heap.size := by simp
 have hbu := newU_build nm
 have hbs := newU_slice nm
 clear a b9 c d e f h
 go_enter Tryz.func108, Tryz.ntmps108
 go_upto_region 1 with (with_reducible refine wpList_alloc_agg rfl 64 rfl _ rfl eZero zeroEl ?_)
 generalize W.alloc (.cells eZero.toArray 64) = V at *
 obtain ⟨_, _, _, _, _, _, k6⟩ := hRd.cells
 have hsz := V.size_alloc (.cells (uCells { U9.zero with nm := nm } (.slice none 0 0) (.slice none 0 0) (.slice none 0 0)).toArray 53)
 have hD := (Below.refl V.heap.size V).alloc (Nat.le_refl _) (.cells (uCells { U9.zero with nm := nm } (.slice none 0 0) (.slice none 0 0) (.slice none 0 0)).toArray 53)
 have hN := Blk.new V (uCells { U9.zero with nm := nm } (.slice none 0 0) (.slice none 0 0) (.slice none 0 0)) 53
 have hl9 := newU_lone nm
 have hcl9 : (uCells { U9.zero with nm := nm } (.slice none 0 0) (.slice none 0 0) (.slice none 0 0)).length = 1 * 19 := rfl
 have hBV : B ≤ V.heap.size := by omega
 have hBW : B ≤ W.heap.size := by omega
 have ha1 := a1.alloc (.cells (uCells { U9.zero with nm := nm } (.slice none 0 0) (.slice none 0 0) (.slice none 0 0)).toArray 53)
 have hLV := (hL.mono hBW).alloc hBV (.cells (uCells { U9.zero with nm := nm } (.slice none 0 0) (.slice none 0 0) (.slice none 0 0)).toArray 53)
 go_wp2_with (first
  | (with_reducible refine wpList_buildSliceTo rfl 27 53 1 _ rfl V.heap.size rfl (some 19) rfl Tryz.underlying27 (uCells { U9.zero with nm := nm } (.slice none 0 0) (.slice none 0 0) (.slice none 0 0)).toArray (by with_unfolding_all exact hbs) ?_)
  | (at_builtin; refine wpList_append_own _ rfl _ _ 27 rfl B 53 i0 (.agg uZero.toArray) 19 208 Tryz.underlying27 hi hz0 hz1 hz2 rfl (by decide) _ _ _ rfl ha1 ⟨V.heap.size, 0, none⟩ 1 1 (uCells { U9.zero with nm := nm } (.slice none 0 0) (.slice none 0 0) (.slice none 0 0)) rfl hcl9 cells_new hl9 (by unfold maxLen; omega) (by omega) (by first | (simp; done) | (simp; omega)) ?_))
 intro v' X hown hg _
 obtain ⟨g, c9, rfl⟩ : ∃ g c9, v' = .slice (some ⟨g, 0, none⟩) (r.us.length + 1) c9 := by
  rcases hown.2 with ⟨-, q⟩ | ⟨g, cap, cur, q, -⟩
  · omega
  · exact ⟨g, cap, q⟩
 have hbt : ButT 53 V X := (ButT.call hD).trans (ButT.grown ha1 hg)
 have hRdX : Rdr X b s n 1 _ _ _ := hbt.blk hRd (by decide)
 have hXX := hbt.blk hX (by decide)
 have hLX := hLV.grown hg (by simp; omega) (fun k hk => (ha1.lt k hk).1)
 have hR2 := Rwb.addU a1 b1 c1 d1 e1 f1 hbt hown ⟨_, _, _, rfl, sb_nil _, sb_nil _, sb_nil _⟩ (newU_cap nm)
 obtain ⟨_, _, _, _, _, _, k6'⟩ := hRdX.cells
 have f9 := k6' 3
 have hRd2 := Blk.set hRdX 3 (.slice (some ⟨g, 0, none⟩) (r.us.length + 1) c9)
 simp only [List.set_cons_zero, List.set_cons_succ] at hRd2
 have hb2 := ButT.set hRdX 3 (.slice (some ⟨g, 0, none⟩) (r.us.length + 1) c9)
 replace hR2 := hR2.but hb2 (by decide) (by decide) (by decide) (by decide)
 replace hXX := hb2.blk hXX (by decide)
 replace hLX := hLX.setCell (p := ⟨b, 3, none⟩) hB (.slice (some ⟨g, 0, none⟩) (r.us.length + 1) c9)
 clear hb2 hRdX hbt hg hown ha1 hLV hD hN hX hRd a1 b1 c1 d1 e1 f1 hbu hbs hL k6 k6'
 go_upto_region 8 with fail
 generalize hXQ : X.setCell ⟨b, 3, none⟩ (.slice (some ⟨g, 0, none⟩) (r.us.length + 1) c9) = Y at *
 clear hXQ
 have hmx : Tryz.prog.follows .mixedOrders = true := by kernel_rfl
 refine wp_region_held (S := fun w' => ButT 64 Y.drew w') hmx ?_
 show wpAnyH _ _ _ _ _ _ _ _ Y.drew
 have hDY := (Below.refl Y.heap.size Y).drew
 have hRd : Rdr Y.drew b s n 1 _ _ _ := Blk.below hRd2 hDY
 have hX := hXX.below hDY
 replace hR2 := hR2.below hDY
 replace hLX : Below B W Y.drew := hLX.drew
 clear hDY hRd2 hXX
 generalize Y.drew = wd at *
 have hS0 := ButT.refl 64 wd
 have hln : (namesK { r with us := r.us ++ [{ U9.zero with nm := nm }] } 1).length = r.us.length + 1 := by
  rw [(names_len { r with us := r.us ++ [{ U9.zero with nm := nm }] }).1]
  simp
 have hRA := (hR2.rat (by first | omega | (simp; omega)) (by first | omega | (simp; omega)) (by first | omega | (simp; omega))).1
 refine reg_tk (i := 0) (v := .pointer (some ⟨b, 0, none⟩)) (some 54) rfl (fun w' hS => by go_simp) hS0 ?_
 simp only [Act.put, List.setIfInBounds_toArray, List.set_cons_zero, List.set_cons_succ]
 refine reg_tk (i := 1) (v := .pointer (some ⟨b, 0, none⟩)) (some 55) rfl (fun w' hS => by go_simp) hS0 ?_
 simp only [Act.put, List.setIfInBounds_toArray, List.set_cons_zero, List.set_cons_succ]
 refine reg_tk (i := 2) (v := .pointer (some ⟨b, 3, none⟩)) (some 56) rfl (fun w' hS => by go_simp) hS0 ?_
 simp only [Act.put, List.setIfInBounds_toArray, List.set_cons_zero, List.set_cons_succ]
 refine reg_tk (i := 3) (v := .agg #[.slice (some ⟨g, 0, none⟩) (r.us.length + 1) c9, .slice q1 r.ws.length k1, .slice q2 r.ts.length k2]) (some 57) rfl (fun w' hS => by obtain ⟨_, _, c2, c3, c4, c5, c6⟩ := Rdr.cells (w := w') (b := b) (s := s) (n := n) (k := 1) (su := .slice (some ⟨g, 0, none⟩) (r.us.length + 1) c9) (sw := .slice q1 r.ws.length k1) (st := .slice q2 r.ts.length k2) (hS.blk hRd (by decide)); go_simp) hS0 ?_
 simp only [Act.put, List.setIfInBounds_toArray, List.set_cons_zero, List.set_cons_succ]
 refine reg_tk (i := 4) (v := .pointer (some ⟨b, 0, none⟩)) (some 58) rfl (fun w' hS => by go_simp) hS0 ?_
 simp only [Act.put, List.setIfInBounds_toArray, List.set_cons_zero, List.set_cons_succ]
 refine reg_tk (i := 5) (v := .pointer (some ⟨b, 0, none⟩)) (some 59) rfl (fun w' hS => by go_simp) hS0 ?_
 simp only [Act.put, List.setIfInBounds_toArray, List.set_cons_zero, List.set_cons_succ]
 refine reg_tk (i := 6) (v := .pointer (some ⟨b, 2, none⟩)) (some 60) rfl (fun w' hS => by go_simp) hS0 ?_
 simp only [Act.put, List.setIfInBounds_toArray, List.set_cons_zero, List.set_cons_succ]
 refine reg_tk (i := 7) (v := .int .i64 1) (some 61) rfl (fun w' hS => by obtain ⟨_, _, c2, c3, c4, c5, c6⟩ := Rdr.cells (w := w') (b := b) (s := s) (n := n) (k := 1) (su := .slice (some ⟨g, 0, none⟩) (r.us.length + 1) c9) (sw := .slice q1 r.ws.length k1) (st := .slice q2 r.ts.length k2) (hS.blk hRd (by decide)); go_simp) hS0 ?_
 simp only [Act.put, List.setIfInBounds_toArray, List.set_cons_zero, List.set_cons_succ]
 refine reg_tk (i := 8) (v := .pointer (some ⟨b, 0, none⟩)) (some 62) rfl (fun w' hS => by go_simp) hS0 ?_
 simp only [Act.put, List.setIfInBounds_toArray, List.set_cons_zero, List.set_cons_succ]
 refine reg_tk (i := 9) (v := .pointer (some ⟨b, 0, none⟩)) (some 63) rfl (fun w' hS => by go_simp) hS0 ?_
 simp only [Act.put, List.setIfInBounds_toArray, List.set_cons_zero, List.set_cons_succ]
 refine reg_tk (i := 10) (v := .pointer (some ⟨b, 3, none⟩)) (some 64) rfl (fun w' hS => by go_simp) hS0 ?_
 simp only [Act.put, List.setIfInBounds_toArray, List.set_cons_zero, List.set_cons_succ]
 refine reg_tk (i := 11) (v := .agg #[.slice (some ⟨g, 0, none⟩) (r.us.length + 1) c9, .slice q1 r.ws.length k1, .slice q2 r.ts.length k2]) (some 65) rfl (fun w' hS => by obtain ⟨_, _, c2, c3, c4, c5, c6⟩ := Rdr.cells (w := w') (b := b) (s := s) (n := n) (k := 1) (su := .slice (some ⟨g, 0, none⟩) (r.us.length + 1) c9) (sw := .slice q1 r.ws.length k1) (st := .slice q2 r.ts.length k2) (hS.blk hRd (by decide)); go_simp) hS0 ?_
 simp only [Act.put, List.setIfInBounds_toArray, List.set_cons_zero, List.set_cons_succ]
 refine reg_tk (i := 12) (v := .pointer (some ⟨b, 0, none⟩)) (some 66) rfl (fun w' hS => by go_simp) hS0 ?_
 simp only [Act.put, List.setIfInBounds_toArray, List.set_cons_zero, List.set_cons_succ]
 refine reg_tk (i := 13) (v := .pointer (some ⟨b, 0, none⟩)) (some 67) rfl (fun w' hS => by go_simp) hS0 ?_
 simp only [Act.put, List.setIfInBounds_toArray, List.set_cons_zero, List.set_cons_succ]
 refine reg_tk (i := 14) (v := .pointer (some ⟨b, 2, none⟩)) (some 68) rfl (fun w' hS => by go_simp) hS0 ?_
 simp only [Act.put, List.setIfInBounds_toArray, List.set_cons_zero, List.set_cons_succ]
 refine reg_tk (i := 15) (v := .int .i64 1) (some 69) rfl (fun w' hS => by obtain ⟨_, _, c2, c3, c4, c5, c6⟩ := Rdr.cells (w := w') (b := b) (s := s) (n := n) (k := 1) (su := .slice (some ⟨g, 0, none⟩) (r.us.length + 1) c9) (sw := .slice q1 r.ws.length k1) (st := .slice q2 r.ts.length k2) (hS.blk hRd (by decide)); go_simp) hS0 ?_
 simp only [Act.put, List.setIfInBounds_toArray, List.set_cons_zero, List.set_cons_succ]
 refine held_one (i := 16) (by kernel_rfl) rfl (fun K hQ => ?_)
 go_simp
 (with_reducible refine (dnames_b _ _ _ { r with us := r.us ++ [{ U9.zero with nm := nm }] } 1 wd _ hRA (Below.refl _ _) (by first | omega | (simp; omega)) (by first | omega | (simp; omega)) (by first | omega | (simp; omega))).mono ?_)
 rintro e w2 ⟨v, rfl, -, hv9, hb⟩
 have hS1 : ButT 64 wd w2 := ButT.call hb
 obtain ⟨pn, cn, rfl, -⟩ := id hv9
 refine hQ.out _ _ hS1 ?_
 clear hQ
 try simp only
 rw [hln]
 refine reg_tk (i := 17) (v := .int .i64 ((r.us.length + 1 : Nat) : Int)) (some 71) rfl (fun w' hS => by go_simp) hS1 ?_
 simp only [Act.put, List.setIfInBounds_toArray, List.set_cons_zero, List.set_cons_succ]
 refine reg_tk (i := 18) (v := .int .i64 (r.us.length : Int)) (some 72) rfl (fun w' hS => by have e9 : (((r.us.length + 1 : Nat) : Int) - 1) = r.us.length := (by omega); have e8 : IntKind.i64.wrap (r.us.length : Int) = r.us.length := IntWalk.i64_in _ (by omega); go_simp) hS1 ?_
 simp only [Act.put, List.setIfInBounds_toArray, List.set_cons_zero, List.set_cons_succ]
 refine held_one (i := 19) (by kernel_rfl) rfl (fun K hQ => ?_)
 go_simp
 (with_reducible refine (datK_b _ _ _ 1 g 0 (r.us.length + 1) c9 r.us.length w2 (by omega) rfl (by omega) (by unfold maxLen; omega)).mono ?_)
 rintro e w3 ⟨v, rfl, hEl, hb3⟩
 have hS2 := hS1.trans (ButT.call hb3)
 obtain ⟨vs, rfl, hvl, hlo⟩ := hEl.lone
 refine hQ.out _ _ hS2 ?_
 clear hQ
 try simp only [Act.put, List.setIfInBounds_toArray, List.set_cons_zero, List.set_cons_succ]
 have hXw : Blk w3 W.heap.size eZero 64 := (hX.below hb).below hb3
 rw [Nat.zero_add] at hEl
 refine held_one (i := 20) (by kernel_rfl) rfl (fun K hQ => ?_)
 refine step_store_agg rfl 64 (.tmp 4) (.tmp 73) rfl rfl W.heap.size rfl Tryz.sizeOf64 vs rfl hvl hXw rfl hlo ?_
 have hrow := ButT.row hXw vs.toArray
 have hS3 := hS2.trans hrow
 refine hQ.out _ _ hS3 ?_
 clear hQ
 refine wpAnyH_done (by kernel_rfl) ?_ _
 try show Exit.then _ _ Exit.normal _ _
 go_wp2_with fail
 refine bodyPost_ret (results_agg_one rfl rfl Tryz.isAgg64 Tryz.sizeOf64 (hXw.put vs) hvl) rfl ?_
 exact ⟨_, _, _, _, g, _, c9, r.us.length, rfl, rfl, hln, by show (r.us ++ [_]).length - 1 = _; simp, hEl.moves hXw (fun c hc => setRow_other _ _ _ hc), hrow.blk ((Blk.below hRd hb).below hb3) (by decide), ((hR2.below hb).below hb3).but hrow (by decide) (by decide) (by decide) (by decide), below_setRow ((hLX.trans (hb.mono (Nat.le_trans hBW hLX.size))).trans (hb3.mono (Nat.le_trans (Nat.le_trans hBW hLX.size) hb.size))) hBW vs.toArray⟩
set_option maxHeartbeats 8000000 in
set_option maxRecDepth 100000 in
theorem dadd2_b (B b : Nat) (s nm : ByteArray) (n : Int) (su sw st : Value) (r : R9) (W : World) (h : Rdr W b s n 2 su sw st) (hR : Rwb W B su sw st r) (hB : B ≤ b) (hu : r.us.length ≤ 9000) (hw : r.ws.length ≤ 9000) (ht : r.ts.length ≤ 9000) :
 Calls Tryz.prog 108 #[.pointer (some ⟨b, 0, none⟩), .string nm] W (AddP B b s n 2 { r with ws := r.ws ++ [{ W9.zero with nm := nm }] } W) := by
 obtain ⟨q0, k0, q1, k1, q2, k2, cu, cw, ct, rfl, rfl, rfl, a, b9, c, d, e, f⟩ := hR
 obtain ⟨i0, hi, hz0, hz1, hz2⟩ := info_cut9 infoW9
 have hbl := Blk.lt h
 have hL := (Below.refl W.heap.size W).alloc (Nat.le_refl _) (.cells eZero.toArray 64)
 have hX := Blk.new W eZero 64
 have hRd : Rdr (W.alloc (.cells eZero.toArray 64)) b s n 2 _ _ _ := Blk.alloc h (.cells eZero.toArray 64)
 have a1 := own_below a ((Below.refl W.heap.size W).alloc (Nat.le_refl _) (.cells eZero.toArray 64))
 have b1 := own_below b9 ((Below.refl W.heap.size W).alloc (Nat.le_refl _) (.cells eZero.toArray 64))
 have c1 := own_below c ((Below.refl W.heap.size W).alloc (Nat.le_refl _) (.cells eZero.toArray 64))
 have d1 : ∀ j (h : j < r.us.length), UB (W.alloc (.cells eZero.toArray 64)) (cu j) (r.us[j]'h) ∧ ∀ v ∈ cu j, CapV v := fun j h => ⟨(d j h).1.below ((Below.refl W.heap.size W).alloc (Nat.le_refl _) _), (d j h).2⟩
 have f1 : ∀ j (h : j < r.ts.length), TB (W.alloc (.cells eZero.toArray 64)) (ct j) (r.ts[j]'h) ∧ ∀ v ∈ ct j, CapV v := fun j h => ⟨(f j h).1.below ((Below.refl W.heap.size W).alloc (Nat.le_refl _) _), (f j h).2⟩
 have e1 := e
 have hxl : W.heap.size < (W.alloc (.cells eZero.toArray 64)).heap.size := by simp
 have hbu := newW_build nm
 have hbs := newW_slice nm
 clear a b9 c d e f h
 go_enter Tryz.func108, Tryz.ntmps108
 go_upto_region 1 with (with_reducible refine wpList_alloc_agg rfl 64 rfl _ rfl eZero zeroEl ?_)
 generalize W.alloc (.cells eZero.toArray 64) = V at *
 obtain ⟨_, _, _, _, _, _, k6⟩ := hRd.cells
 have hsz := V.size_alloc (.cells (wCells { W9.zero with nm := nm }).toArray 51)
 have hD := (Below.refl V.heap.size V).alloc (Nat.le_refl _) (.cells (wCells { W9.zero with nm := nm }).toArray 51)
 have hN := Blk.new V (wCells { W9.zero with nm := nm }) 51
 have hl9 := newW_lone nm
 have hcl9 : (wCells { W9.zero with nm := nm }).length = 1 * 6 := rfl
 have hBV : B ≤ V.heap.size := by omega
 have hBW : B ≤ W.heap.size := by omega
 have ha1 := b1.alloc (.cells (wCells { W9.zero with nm := nm }).toArray 51)
 have hLV := (hL.mono hBW).alloc hBV (.cells (wCells { W9.zero with nm := nm }).toArray 51)
 go_wp2_with (first
  | (with_reducible refine wpList_buildSliceTo rfl 28 51 1 _ rfl V.heap.size rfl (some 34) rfl Tryz.underlying28 (wCells { W9.zero with nm := nm }).toArray (by with_unfolding_all exact hbs) ?_)
  | (at_builtin; refine wpList_append_own _ rfl _ _ 28 rfl B 51 i0 (.agg wZero.toArray) 6 56 Tryz.underlying28 hi hz0 hz1 hz2 rfl (by decide) _ _ _ rfl ha1 ⟨V.heap.size, 0, none⟩ 1 1 (wCells { W9.zero with nm := nm }) rfl hcl9 cells_new hl9 (by unfold maxLen; omega) (by omega) (by first | (simp; done) | (simp; omega)) ?_))
 intro v' X hown hg _
 obtain ⟨g, c9, rfl⟩ : ∃ g c9, v' = .slice (some ⟨g, 0, none⟩) (r.ws.length + 1) c9 := by
  rcases hown.2 with ⟨-, q⟩ | ⟨g, cap, cur, q, -⟩
  · omega
  · exact ⟨g, cap, q⟩
 have hbt : ButT 51 V X := (ButT.call hD).trans (ButT.grown ha1 hg)
 have hRdX : Rdr X b s n 2 _ _ _ := hbt.blk hRd (by decide)
 have hXX := hbt.blk hX (by decide)
 have hLX := hLV.grown hg (by simp; omega) (fun k hk => (ha1.lt k hk).1)
 have hR2 := Rwb.addW a1 b1 c1 d1 e1 f1 hbt hown rfl
 obtain ⟨_, _, _, _, _, _, k6'⟩ := hRdX.cells
 have f9 := k6' 4
 have hRd2 := Blk.set hRdX 4 (.slice (some ⟨g, 0, none⟩) (r.ws.length + 1) c9)
 simp only [List.set_cons_zero, List.set_cons_succ] at hRd2
 have hb2 := ButT.set hRdX 4 (.slice (some ⟨g, 0, none⟩) (r.ws.length + 1) c9)
 replace hR2 := hR2.but hb2 (by decide) (by decide) (by decide) (by decide)
 replace hXX := hb2.blk hXX (by decide)
 replace hLX := hLX.setCell (p := ⟨b, 4, none⟩) hB (.slice (some ⟨g, 0, none⟩) (r.ws.length + 1) c9)
 clear hb2 hRdX hbt hg hown ha1 hLV hD hN hX hRd a1 b1 c1 d1 e1 f1 hbu hbs hL k6 k6'
 go_upto_region 8 with fail
 generalize hXQ : X.setCell ⟨b, 4, none⟩ (.slice (some ⟨g, 0, none⟩) (r.ws.length + 1) c9) = Y at *
 clear hXQ
 have hmx : Tryz.prog.follows .mixedOrders = true := by kernel_rfl
 refine wp_region_held (S := fun w' => ButT 64 Y.drew w') hmx ?_
 show wpAnyH _ _ _ _ _ _ _ _ Y.drew
 have hDY := (Below.refl Y.heap.size Y).drew
 have hRd : Rdr Y.drew b s n 2 _ _ _ := Blk.below hRd2 hDY
 have hX := hXX.below hDY
 replace hR2 := hR2.below hDY
 replace hLX : Below B W Y.drew := hLX.drew
 clear hDY hRd2 hXX
 generalize Y.drew = wd at *
 have hS0 := ButT.refl 64 wd
 have hln : (namesK { r with ws := r.ws ++ [{ W9.zero with nm := nm }] } 2).length = r.ws.length + 1 := by
  rw [(names_len { r with ws := r.ws ++ [{ W9.zero with nm := nm }] }).2.1]
  simp
 have hRA := (hR2.rat (by first | omega | (simp; omega)) (by first | omega | (simp; omega)) (by first | omega | (simp; omega))).1
 refine reg_tk (i := 0) (v := .pointer (some ⟨b, 0, none⟩)) (some 54) rfl (fun w' hS => by go_simp) hS0 ?_
 simp only [Act.put, List.setIfInBounds_toArray, List.set_cons_zero, List.set_cons_succ]
 refine reg_tk (i := 1) (v := .pointer (some ⟨b, 0, none⟩)) (some 55) rfl (fun w' hS => by go_simp) hS0 ?_
 simp only [Act.put, List.setIfInBounds_toArray, List.set_cons_zero, List.set_cons_succ]
 refine reg_tk (i := 2) (v := .pointer (some ⟨b, 3, none⟩)) (some 56) rfl (fun w' hS => by go_simp) hS0 ?_
 simp only [Act.put, List.setIfInBounds_toArray, List.set_cons_zero, List.set_cons_succ]
 refine reg_tk (i := 3) (v := .agg #[.slice q0 r.us.length k0, .slice (some ⟨g, 0, none⟩) (r.ws.length + 1) c9, .slice q2 r.ts.length k2]) (some 57) rfl (fun w' hS => by obtain ⟨_, _, c2, c3, c4, c5, c6⟩ := Rdr.cells (w := w') (b := b) (s := s) (n := n) (k := 2) (su := .slice q0 r.us.length k0) (sw := .slice (some ⟨g, 0, none⟩) (r.ws.length + 1) c9) (st := .slice q2 r.ts.length k2) (hS.blk hRd (by decide)); go_simp) hS0 ?_
 simp only [Act.put, List.setIfInBounds_toArray, List.set_cons_zero, List.set_cons_succ]
 refine reg_tk (i := 4) (v := .pointer (some ⟨b, 0, none⟩)) (some 58) rfl (fun w' hS => by go_simp) hS0 ?_
 simp only [Act.put, List.setIfInBounds_toArray, List.set_cons_zero, List.set_cons_succ]
 refine reg_tk (i := 5) (v := .pointer (some ⟨b, 0, none⟩)) (some 59) rfl (fun w' hS => by go_simp) hS0 ?_
 simp only [Act.put, List.setIfInBounds_toArray, List.set_cons_zero, List.set_cons_succ]
 refine reg_tk (i := 6) (v := .pointer (some ⟨b, 2, none⟩)) (some 60) rfl (fun w' hS => by go_simp) hS0 ?_
 simp only [Act.put, List.setIfInBounds_toArray, List.set_cons_zero, List.set_cons_succ]
 refine reg_tk (i := 7) (v := .int .i64 2) (some 61) rfl (fun w' hS => by obtain ⟨_, _, c2, c3, c4, c5, c6⟩ := Rdr.cells (w := w') (b := b) (s := s) (n := n) (k := 2) (su := .slice q0 r.us.length k0) (sw := .slice (some ⟨g, 0, none⟩) (r.ws.length + 1) c9) (st := .slice q2 r.ts.length k2) (hS.blk hRd (by decide)); go_simp) hS0 ?_
 simp only [Act.put, List.setIfInBounds_toArray, List.set_cons_zero, List.set_cons_succ]
 refine reg_tk (i := 8) (v := .pointer (some ⟨b, 0, none⟩)) (some 62) rfl (fun w' hS => by go_simp) hS0 ?_
 simp only [Act.put, List.setIfInBounds_toArray, List.set_cons_zero, List.set_cons_succ]
 refine reg_tk (i := 9) (v := .pointer (some ⟨b, 0, none⟩)) (some 63) rfl (fun w' hS => by go_simp) hS0 ?_
 simp only [Act.put, List.setIfInBounds_toArray, List.set_cons_zero, List.set_cons_succ]
 refine reg_tk (i := 10) (v := .pointer (some ⟨b, 3, none⟩)) (some 64) rfl (fun w' hS => by go_simp) hS0 ?_
 simp only [Act.put, List.setIfInBounds_toArray, List.set_cons_zero, List.set_cons_succ]
 refine reg_tk (i := 11) (v := .agg #[.slice q0 r.us.length k0, .slice (some ⟨g, 0, none⟩) (r.ws.length + 1) c9, .slice q2 r.ts.length k2]) (some 65) rfl (fun w' hS => by obtain ⟨_, _, c2, c3, c4, c5, c6⟩ := Rdr.cells (w := w') (b := b) (s := s) (n := n) (k := 2) (su := .slice q0 r.us.length k0) (sw := .slice (some ⟨g, 0, none⟩) (r.ws.length + 1) c9) (st := .slice q2 r.ts.length k2) (hS.blk hRd (by decide)); go_simp) hS0 ?_
 simp only [Act.put, List.setIfInBounds_toArray, List.set_cons_zero, List.set_cons_succ]
 refine reg_tk (i := 12) (v := .pointer (some ⟨b, 0, none⟩)) (some 66) rfl (fun w' hS => by go_simp) hS0 ?_
 simp only [Act.put, List.setIfInBounds_toArray, List.set_cons_zero, List.set_cons_succ]
 refine reg_tk (i := 13) (v := .pointer (some ⟨b, 0, none⟩)) (some 67) rfl (fun w' hS => by go_simp) hS0 ?_
 simp only [Act.put, List.setIfInBounds_toArray, List.set_cons_zero, List.set_cons_succ]
 refine reg_tk (i := 14) (v := .pointer (some ⟨b, 2, none⟩)) (some 68) rfl (fun w' hS => by go_simp) hS0 ?_
 simp only [Act.put, List.setIfInBounds_toArray, List.set_cons_zero, List.set_cons_succ]
 refine reg_tk (i := 15) (v := .int .i64 2) (some 69) rfl (fun w' hS => by obtain ⟨_, _, c2, c3, c4, c5, c6⟩ := Rdr.cells (w := w') (b := b) (s := s) (n := n) (k := 2) (su := .slice q0 r.us.length k0) (sw := .slice (some ⟨g, 0, none⟩) (r.ws.length + 1) c9) (st := .slice q2 r.ts.length k2) (hS.blk hRd (by decide)); go_simp) hS0 ?_
 simp only [Act.put, List.setIfInBounds_toArray, List.set_cons_zero, List.set_cons_succ]
 refine held_one (i := 16) (by kernel_rfl) rfl (fun K hQ => ?_)
 go_simp
 (with_reducible refine (dnames_b _ _ _ { r with ws := r.ws ++ [{ W9.zero with nm := nm }] } 2 wd _ hRA (Below.refl _ _) (by first | omega | (simp; omega)) (by first | omega | (simp; omega)) (by first | omega | (simp; omega))).mono ?_)
 rintro e w2 ⟨v, rfl, -, hv9, hb⟩
 have hS1 : ButT 64 wd w2 := ButT.call hb
 obtain ⟨pn, cn, rfl, -⟩ := id hv9
 refine hQ.out _ _ hS1 ?_
 clear hQ
 try simp only
 rw [hln]
 refine reg_tk (i := 17) (v := .int .i64 ((r.ws.length + 1 : Nat) : Int)) (some 71) rfl (fun w' hS => by go_simp) hS1 ?_
 simp only [Act.put, List.setIfInBounds_toArray, List.set_cons_zero, List.set_cons_succ]
 refine reg_tk (i := 18) (v := .int .i64 (r.ws.length : Int)) (some 72) rfl (fun w' hS => by have e9 : (((r.ws.length + 1 : Nat) : Int) - 1) = r.ws.length := (by omega); have e8 : IntKind.i64.wrap (r.ws.length : Int) = r.ws.length := IntWalk.i64_in _ (by omega); go_simp) hS1 ?_
 simp only [Act.put, List.setIfInBounds_toArray, List.set_cons_zero, List.set_cons_succ]
 refine held_one (i := 19) (by kernel_rfl) rfl (fun K hQ => ?_)
 go_simp
 (with_reducible refine (datK_b _ _ _ 2 g 0 (r.ws.length + 1) c9 r.ws.length w2 (by omega) rfl (by omega) (by unfold maxLen; omega)).mono ?_)
 rintro e w3 ⟨v, rfl, hEl, hb3⟩
 have hS2 := hS1.trans (ButT.call hb3)
 obtain ⟨vs, rfl, hvl, hlo⟩ := hEl.lone
 refine hQ.out _ _ hS2 ?_
 clear hQ
 try simp only [Act.put, List.setIfInBounds_toArray, List.set_cons_zero, List.set_cons_succ]
 have hXw : Blk w3 W.heap.size eZero 64 := (hX.below hb).below hb3
 rw [Nat.zero_add] at hEl
 refine held_one (i := 20) (by kernel_rfl) rfl (fun K hQ => ?_)
 refine step_store_agg rfl 64 (.tmp 4) (.tmp 73) rfl rfl W.heap.size rfl Tryz.sizeOf64 vs rfl hvl hXw rfl hlo ?_
 have hrow := ButT.row hXw vs.toArray
 have hS3 := hS2.trans hrow
 refine hQ.out _ _ hS3 ?_
 clear hQ
 refine wpAnyH_done (by kernel_rfl) ?_ _
 try show Exit.then _ _ Exit.normal _ _
 go_wp2_with fail
 refine bodyPost_ret (results_agg_one rfl rfl Tryz.isAgg64 Tryz.sizeOf64 (hXw.put vs) hvl) rfl ?_
 exact ⟨_, _, _, _, g, _, c9, r.ws.length, rfl, rfl, hln, by show (r.ws ++ [_]).length - 1 = _; simp, hEl.moves hXw (fun c hc => setRow_other _ _ _ hc), hrow.blk ((Blk.below hRd hb).below hb3) (by decide), ((hR2.below hb).below hb3).but hrow (by decide) (by decide) (by decide) (by decide), below_setRow ((hLX.trans (hb.mono (Nat.le_trans hBW hLX.size))).trans (hb3.mono (Nat.le_trans (Nat.le_trans hBW hLX.size) hb.size))) hBW vs.toArray⟩
set_option maxHeartbeats 8000000 in
set_option maxRecDepth 100000 in
theorem dadd3_b (B b : Nat) (s nm : ByteArray) (n : Int) (su sw st : Value) (r : R9) (W : World) (h : Rdr W b s n 3 su sw st) (hR : Rwb W B su sw st r) (hB : B ≤ b) (hu : r.us.length ≤ 9000) (hw : r.ws.length ≤ 9000) (ht : r.ts.length ≤ 9000) :
 Calls Tryz.prog 108 #[.pointer (some ⟨b, 0, none⟩), .string nm] W (AddP B b s n 3 { r with ts := r.ts ++ [{ T9.zero with nm := nm }] } W) := by
 obtain ⟨q0, k0, q1, k1, q2, k2, cu, cw, ct, rfl, rfl, rfl, a, b9, c, d, e, f⟩ := hR
 obtain ⟨i0, hi, hz0, hz1, hz2⟩ := info_cut9 infoT9
 have hbl := Blk.lt h
 have hL := (Below.refl W.heap.size W).alloc (Nat.le_refl _) (.cells eZero.toArray 64)
 have hX := Blk.new W eZero 64
 have hRd : Rdr (W.alloc (.cells eZero.toArray 64)) b s n 3 _ _ _ := Blk.alloc h (.cells eZero.toArray 64)
 have a1 := own_below a ((Below.refl W.heap.size W).alloc (Nat.le_refl _) (.cells eZero.toArray 64))
 have b1 := own_below b9 ((Below.refl W.heap.size W).alloc (Nat.le_refl _) (.cells eZero.toArray 64))
 have c1 := own_below c ((Below.refl W.heap.size W).alloc (Nat.le_refl _) (.cells eZero.toArray 64))
 have d1 : ∀ j (h : j < r.us.length), UB (W.alloc (.cells eZero.toArray 64)) (cu j) (r.us[j]'h) ∧ ∀ v ∈ cu j, CapV v := fun j h => ⟨(d j h).1.below ((Below.refl W.heap.size W).alloc (Nat.le_refl _) _), (d j h).2⟩
 have f1 : ∀ j (h : j < r.ts.length), TB (W.alloc (.cells eZero.toArray 64)) (ct j) (r.ts[j]'h) ∧ ∀ v ∈ ct j, CapV v := fun j h => ⟨(f j h).1.below ((Below.refl W.heap.size W).alloc (Nat.le_refl _) _), (f j h).2⟩
 have e1 := e
 have hxl : W.heap.size < (W.alloc (.cells eZero.toArray 64)).heap.size := by simp
 have hbu := newT_build nm
 have hbs := newT_slice nm
 clear a b9 c d e f h
 go_enter Tryz.func108, Tryz.ntmps108
 go_upto_region 1 with (with_reducible refine wpList_alloc_agg rfl 64 rfl _ rfl eZero zeroEl ?_)
 generalize W.alloc (.cells eZero.toArray 64) = V at *
 obtain ⟨_, _, _, _, _, _, k6⟩ := hRd.cells
 have hsz := V.size_alloc (.cells (tCells { T9.zero with nm := nm } (.slice none 0 0)).toArray 56)
 have hD := (Below.refl V.heap.size V).alloc (Nat.le_refl _) (.cells (tCells { T9.zero with nm := nm } (.slice none 0 0)).toArray 56)
 have hN := Blk.new V (tCells { T9.zero with nm := nm } (.slice none 0 0)) 56
 have hl9 := newT_lone nm
 have hcl9 : (tCells { T9.zero with nm := nm } (.slice none 0 0)).length = 1 * 8 := rfl
 have hBV : B ≤ V.heap.size := by omega
 have hBW : B ≤ W.heap.size := by omega
 have ha1 := c1.alloc (.cells (tCells { T9.zero with nm := nm } (.slice none 0 0)).toArray 56)
 have hLV := (hL.mono hBW).alloc hBV (.cells (tCells { T9.zero with nm := nm } (.slice none 0 0)).toArray 56)
 go_wp2_with (first
  | (with_reducible refine wpList_buildSliceTo rfl 29 56 1 _ rfl V.heap.size rfl (some 49) rfl Tryz.underlying29 (tCells { T9.zero with nm := nm } (.slice none 0 0)).toArray (by with_unfolding_all exact hbs) ?_)
  | (at_builtin; refine wpList_append_own _ rfl _ _ 29 rfl B 56 i0 (.agg tZero.toArray) 8 96 Tryz.underlying29 hi hz0 hz1 hz2 rfl (by decide) _ _ _ rfl ha1 ⟨V.heap.size, 0, none⟩ 1 1 (tCells { T9.zero with nm := nm } (.slice none 0 0)) rfl hcl9 cells_new hl9 (by unfold maxLen; omega) (by omega) (by first | (simp; done) | (simp; omega)) ?_))
 intro v' X hown hg _
 obtain ⟨g, c9, rfl⟩ : ∃ g c9, v' = .slice (some ⟨g, 0, none⟩) (r.ts.length + 1) c9 := by
  rcases hown.2 with ⟨-, q⟩ | ⟨g, cap, cur, q, -⟩
  · omega
  · exact ⟨g, cap, q⟩
 have hbt : ButT 56 V X := (ButT.call hD).trans (ButT.grown ha1 hg)
 have hRdX : Rdr X b s n 3 _ _ _ := hbt.blk hRd (by decide)
 have hXX := hbt.blk hX (by decide)
 have hLX := hLV.grown hg (by simp; omega) (fun k hk => (ha1.lt k hk).1)
 have hR2 := Rwb.addT a1 b1 c1 d1 e1 f1 hbt hown ⟨_, rfl, sb_nil _⟩ (newT_cap nm)
 obtain ⟨_, _, _, _, _, _, k6'⟩ := hRdX.cells
 have f9 := k6' 5
 have hRd2 := Blk.set hRdX 5 (.slice (some ⟨g, 0, none⟩) (r.ts.length + 1) c9)
 simp only [List.set_cons_zero, List.set_cons_succ] at hRd2
 have hb2 := ButT.set hRdX 5 (.slice (some ⟨g, 0, none⟩) (r.ts.length + 1) c9)
 replace hR2 := hR2.but hb2 (by decide) (by decide) (by decide) (by decide)
 replace hXX := hb2.blk hXX (by decide)
 replace hLX := hLX.setCell (p := ⟨b, 5, none⟩) hB (.slice (some ⟨g, 0, none⟩) (r.ts.length + 1) c9)
 clear hb2 hRdX hbt hg hown ha1 hLV hD hN hX hRd a1 b1 c1 d1 e1 f1 hbu hbs hL k6 k6'
 go_upto_region 8 with fail
 generalize hXQ : X.setCell ⟨b, 5, none⟩ (.slice (some ⟨g, 0, none⟩) (r.ts.length + 1) c9) = Y at *
 clear hXQ
 have hmx : Tryz.prog.follows .mixedOrders = true := by kernel_rfl
 refine wp_region_held (S := fun w' => ButT 64 Y.drew w') hmx ?_
 show wpAnyH _ _ _ _ _ _ _ _ Y.drew
 have hDY := (Below.refl Y.heap.size Y).drew
 have hRd : Rdr Y.drew b s n 3 _ _ _ := Blk.below hRd2 hDY
 have hX := hXX.below hDY
 replace hR2 := hR2.below hDY
 replace hLX : Below B W Y.drew := hLX.drew
 clear hDY hRd2 hXX
 generalize Y.drew = wd at *
 have hS0 := ButT.refl 64 wd
 have hln : (namesK { r with ts := r.ts ++ [{ T9.zero with nm := nm }] } 3).length = r.ts.length + 1 := by
  rw [(names_len { r with ts := r.ts ++ [{ T9.zero with nm := nm }] }).2.2]
  simp
 have hRA := (hR2.rat (by first | omega | (simp; omega)) (by first | omega | (simp; omega)) (by first | omega | (simp; omega))).1
 refine reg_tk (i := 0) (v := .pointer (some ⟨b, 0, none⟩)) (some 54) rfl (fun w' hS => by go_simp) hS0 ?_
 simp only [Act.put, List.setIfInBounds_toArray, List.set_cons_zero, List.set_cons_succ]
 refine reg_tk (i := 1) (v := .pointer (some ⟨b, 0, none⟩)) (some 55) rfl (fun w' hS => by go_simp) hS0 ?_
 simp only [Act.put, List.setIfInBounds_toArray, List.set_cons_zero, List.set_cons_succ]
 refine reg_tk (i := 2) (v := .pointer (some ⟨b, 3, none⟩)) (some 56) rfl (fun w' hS => by go_simp) hS0 ?_
 simp only [Act.put, List.setIfInBounds_toArray, List.set_cons_zero, List.set_cons_succ]
 refine reg_tk (i := 3) (v := .agg #[.slice q0 r.us.length k0, .slice q1 r.ws.length k1, .slice (some ⟨g, 0, none⟩) (r.ts.length + 1) c9]) (some 57) rfl (fun w' hS => by obtain ⟨_, _, c2, c3, c4, c5, c6⟩ := Rdr.cells (w := w') (b := b) (s := s) (n := n) (k := 3) (su := .slice q0 r.us.length k0) (sw := .slice q1 r.ws.length k1) (st := .slice (some ⟨g, 0, none⟩) (r.ts.length + 1) c9) (hS.blk hRd (by decide)); go_simp) hS0 ?_
 simp only [Act.put, List.setIfInBounds_toArray, List.set_cons_zero, List.set_cons_succ]
 refine reg_tk (i := 4) (v := .pointer (some ⟨b, 0, none⟩)) (some 58) rfl (fun w' hS => by go_simp) hS0 ?_
 simp only [Act.put, List.setIfInBounds_toArray, List.set_cons_zero, List.set_cons_succ]
 refine reg_tk (i := 5) (v := .pointer (some ⟨b, 0, none⟩)) (some 59) rfl (fun w' hS => by go_simp) hS0 ?_
 simp only [Act.put, List.setIfInBounds_toArray, List.set_cons_zero, List.set_cons_succ]
 refine reg_tk (i := 6) (v := .pointer (some ⟨b, 2, none⟩)) (some 60) rfl (fun w' hS => by go_simp) hS0 ?_
 simp only [Act.put, List.setIfInBounds_toArray, List.set_cons_zero, List.set_cons_succ]
 refine reg_tk (i := 7) (v := .int .i64 3) (some 61) rfl (fun w' hS => by obtain ⟨_, _, c2, c3, c4, c5, c6⟩ := Rdr.cells (w := w') (b := b) (s := s) (n := n) (k := 3) (su := .slice q0 r.us.length k0) (sw := .slice q1 r.ws.length k1) (st := .slice (some ⟨g, 0, none⟩) (r.ts.length + 1) c9) (hS.blk hRd (by decide)); go_simp) hS0 ?_
 simp only [Act.put, List.setIfInBounds_toArray, List.set_cons_zero, List.set_cons_succ]
 refine reg_tk (i := 8) (v := .pointer (some ⟨b, 0, none⟩)) (some 62) rfl (fun w' hS => by go_simp) hS0 ?_
 simp only [Act.put, List.setIfInBounds_toArray, List.set_cons_zero, List.set_cons_succ]
 refine reg_tk (i := 9) (v := .pointer (some ⟨b, 0, none⟩)) (some 63) rfl (fun w' hS => by go_simp) hS0 ?_
 simp only [Act.put, List.setIfInBounds_toArray, List.set_cons_zero, List.set_cons_succ]
 refine reg_tk (i := 10) (v := .pointer (some ⟨b, 3, none⟩)) (some 64) rfl (fun w' hS => by go_simp) hS0 ?_
 simp only [Act.put, List.setIfInBounds_toArray, List.set_cons_zero, List.set_cons_succ]
 refine reg_tk (i := 11) (v := .agg #[.slice q0 r.us.length k0, .slice q1 r.ws.length k1, .slice (some ⟨g, 0, none⟩) (r.ts.length + 1) c9]) (some 65) rfl (fun w' hS => by obtain ⟨_, _, c2, c3, c4, c5, c6⟩ := Rdr.cells (w := w') (b := b) (s := s) (n := n) (k := 3) (su := .slice q0 r.us.length k0) (sw := .slice q1 r.ws.length k1) (st := .slice (some ⟨g, 0, none⟩) (r.ts.length + 1) c9) (hS.blk hRd (by decide)); go_simp) hS0 ?_
 simp only [Act.put, List.setIfInBounds_toArray, List.set_cons_zero, List.set_cons_succ]
 refine reg_tk (i := 12) (v := .pointer (some ⟨b, 0, none⟩)) (some 66) rfl (fun w' hS => by go_simp) hS0 ?_
 simp only [Act.put, List.setIfInBounds_toArray, List.set_cons_zero, List.set_cons_succ]
 refine reg_tk (i := 13) (v := .pointer (some ⟨b, 0, none⟩)) (some 67) rfl (fun w' hS => by go_simp) hS0 ?_
 simp only [Act.put, List.setIfInBounds_toArray, List.set_cons_zero, List.set_cons_succ]
 refine reg_tk (i := 14) (v := .pointer (some ⟨b, 2, none⟩)) (some 68) rfl (fun w' hS => by go_simp) hS0 ?_
 simp only [Act.put, List.setIfInBounds_toArray, List.set_cons_zero, List.set_cons_succ]
 refine reg_tk (i := 15) (v := .int .i64 3) (some 69) rfl (fun w' hS => by obtain ⟨_, _, c2, c3, c4, c5, c6⟩ := Rdr.cells (w := w') (b := b) (s := s) (n := n) (k := 3) (su := .slice q0 r.us.length k0) (sw := .slice q1 r.ws.length k1) (st := .slice (some ⟨g, 0, none⟩) (r.ts.length + 1) c9) (hS.blk hRd (by decide)); go_simp) hS0 ?_
 simp only [Act.put, List.setIfInBounds_toArray, List.set_cons_zero, List.set_cons_succ]
 refine held_one (i := 16) (by kernel_rfl) rfl (fun K hQ => ?_)
 go_simp
 (with_reducible refine (dnames_b _ _ _ { r with ts := r.ts ++ [{ T9.zero with nm := nm }] } 3 wd _ hRA (Below.refl _ _) (by first | omega | (simp; omega)) (by first | omega | (simp; omega)) (by first | omega | (simp; omega))).mono ?_)
 rintro e w2 ⟨v, rfl, -, hv9, hb⟩
 have hS1 : ButT 64 wd w2 := ButT.call hb
 obtain ⟨pn, cn, rfl, -⟩ := id hv9
 refine hQ.out _ _ hS1 ?_
 clear hQ
 try simp only
 rw [hln]
 refine reg_tk (i := 17) (v := .int .i64 ((r.ts.length + 1 : Nat) : Int)) (some 71) rfl (fun w' hS => by go_simp) hS1 ?_
 simp only [Act.put, List.setIfInBounds_toArray, List.set_cons_zero, List.set_cons_succ]
 refine reg_tk (i := 18) (v := .int .i64 (r.ts.length : Int)) (some 72) rfl (fun w' hS => by have e9 : (((r.ts.length + 1 : Nat) : Int) - 1) = r.ts.length := (by omega); have e8 : IntKind.i64.wrap (r.ts.length : Int) = r.ts.length := IntWalk.i64_in _ (by omega); go_simp) hS1 ?_
 simp only [Act.put, List.setIfInBounds_toArray, List.set_cons_zero, List.set_cons_succ]
 refine held_one (i := 19) (by kernel_rfl) rfl (fun K hQ => ?_)
 go_simp
 (with_reducible refine (datK_b _ _ _ 3 g 0 (r.ts.length + 1) c9 r.ts.length w2 (by omega) rfl (by omega) (by unfold maxLen; omega)).mono ?_)
 rintro e w3 ⟨v, rfl, hEl, hb3⟩
 have hS2 := hS1.trans (ButT.call hb3)
 obtain ⟨vs, rfl, hvl, hlo⟩ := hEl.lone
 refine hQ.out _ _ hS2 ?_
 clear hQ
 try simp only [Act.put, List.setIfInBounds_toArray, List.set_cons_zero, List.set_cons_succ]
 have hXw : Blk w3 W.heap.size eZero 64 := (hX.below hb).below hb3
 rw [Nat.zero_add] at hEl
 refine held_one (i := 20) (by kernel_rfl) rfl (fun K hQ => ?_)
 refine step_store_agg rfl 64 (.tmp 4) (.tmp 73) rfl rfl W.heap.size rfl Tryz.sizeOf64 vs rfl hvl hXw rfl hlo ?_
 have hrow := ButT.row hXw vs.toArray
 have hS3 := hS2.trans hrow
 refine hQ.out _ _ hS3 ?_
 clear hQ
 refine wpAnyH_done (by kernel_rfl) ?_ _
 try show Exit.then _ _ Exit.normal _ _
 go_wp2_with fail
 refine bodyPost_ret (results_agg_one rfl rfl Tryz.isAgg64 Tryz.sizeOf64 (hXw.put vs) hvl) rfl ?_
 exact ⟨_, _, _, _, g, _, c9, r.ts.length, rfl, rfl, hln, by show (r.ts ++ [_]).length - 1 = _; simp, hEl.moves hXw (fun c hc => setRow_other _ _ _ hc), hrow.blk ((Blk.below hRd hb).below hb3) (by decide), ((hR2.below hb).below hb3).but hrow (by decide) (by decide) (by decide) (by decide), below_setRow ((hLX.trans (hb.mono (Nat.le_trans hBW hLX.size))).trans (hb3.mono (Nat.le_trans (Nat.le_trans hBW hLX.size) hb.size))) hBW vs.toArray⟩
end
section
open Go.RowKit Go.Lib
structure SmR (r : R9) : Prop where
 u : ∀ u ∈ r.us, u.needs.length ≤ 100000 ∧ u.trains.length ≤ 100000 ∧ u.ress.length ≤ 100000
 t : ∀ t ∈ r.ts, t.needs.length ≤ 100000
theorem SmR.zero : SmR R9.zero := ⟨fun _ h => absurd h List.not_mem_nil, fun _ h => absurd h List.not_mem_nil⟩
theorem parts_count (c : UInt8) : ∀ (n : Nat) (s : List UInt8), s.length ≤ n → (parts c s).length ≤ s.length + 1
 | 0, s, h => by
  rw [List.eq_nil_of_length_eq_zero (Nat.le_zero.1 h)]
  exact Nat.le_refl 1
 | n + 1, s, h => by
  rw [parts_cut]
  split
  · rename_i e
    have h1 := cutC_len s e
    have h2 := parts_count c n (cutC c s).2.1 (by omega)
    rw [List.length_cons]
    omega
  · simp
theorem read_small {t : Int} {s : List UInt8} {v : V10} (h : readv t s = some v) : v.l.length ≤ s.length + 1 := by
 unfold readv at h
 split at h
 · obtain ⟨n, -, e⟩ := Option.map_eq_some_iff.1 h
   rw [← e]; simp
 · split at h
   · split at h
     · injection h with h; rw [← h]; simp
     · split at h
       · injection h with h; rw [← h]; simp [V10.zero]
       · cases h
   · split at h
     · split at h
       · injection h with h; rw [← h]; simp [V10.zero]
       · split at h
         · injection h with h; rw [← h]; simp
         · cases h
     · split at h
       · injection h with h; rw [← h]; simp [V10.zero]
       · obtain ⟨l, hl, e⟩ := Option.map_eq_some_iff.1 h
         rw [← e]
         unfold listv at hl
         split at hl
         · injection hl with hl
           rw [← hl]
           simp only [List.length_map]
           exact parts_count 44 _ s (Nat.le_refl _)
         · cases hl
theorem ite_both {α : Type} {P : α → Prop} {c : Prop} [Decidable c] {a b : α} (ha : P a) (hb : P b) : P (if c then a else b) := by
 split
 · exact ha
 · exact hb
def LsU (u : U9) : Prop := u.needs.length ≤ 100000 ∧ u.trains.length ≤ 100000 ∧ u.ress.length ≤ 100000
def LsT (u : T9) : Prop := u.needs.length ≤ 100000
theorem withU_small (u : U9) (f : ByteArray) (v : V10) (h : LsU u) (hv : v.l.length ≤ 100000) : LsU (withUv u f v) := by
 unfold withUv
 repeat' (refine ite_both (P := LsU) ?_ ?_)
 all_goals first | exact h | exact ⟨hv, h.2.1, h.2.2⟩ | exact ⟨h.1, hv, h.2.2⟩ | exact ⟨h.1, h.2.1, hv⟩
theorem withT_small (u : T9) (f : ByteArray) (v : V10) (h : LsT u) (hv : v.l.length ≤ 100000) : LsT (withTv u f v) := by
 unfold withTv
 repeat' (refine ite_both (P := LsT) ?_ ?_)
 all_goals first | exact h | exact hv
theorem mem_modify {α : Type} {l : List α} {i : Nat} {F : α → α} {x : α} (h : x ∈ l.modify i F) : x ∈ l ∨ ∃ y ∈ l, x = F y := by
 obtain ⟨j, hj, rfl⟩ := List.getElem_of_mem h
 rw [List.length_modify] at hj
 rw [List.getElem_modify]
 split
 · exact .inr ⟨_, List.getElem_mem hj, rfl⟩
 · exact .inl (List.getElem_mem hj)
theorem SmR.new {r : R9} (h : SmR r) (k : Int) (nm : List UInt8) : SmR (newK r k nm) := by
 unfold newK
 split
 · refine ⟨fun u hu => ?_, h.t⟩
   rcases List.mem_append.1 hu with q | q
   · exact h.u u q
   · rw [List.mem_singleton.1 q]; exact ⟨Nat.zero_le _, Nat.zero_le _, Nat.zero_le _⟩
 · split
   · exact ⟨h.u, h.t⟩
   · split
     · refine ⟨h.u, fun u hu => ?_⟩
       rcases List.mem_append.1 hu with q | q
       · exact h.t u q
       · rw [List.mem_singleton.1 q]; exact Nat.zero_le _
     · exact h
theorem SmR.set {r : R9} (h : SmR r) (k : Int) (i : Nat) (f : ByteArray) {v : V10} (hv : v.l.length ≤ 100000) : SmR (setK10 r k i f v) := by
 unfold setK10
 split
 · refine ⟨fun u hu => ?_, h.t⟩
   rcases mem_modify hu with q | ⟨y, q, rfl⟩
   · exact h.u u q
   · exact withU_small y f v (h.u y q) hv
 · split
   · exact ⟨h.u, h.t⟩
   · split
     · refine ⟨h.u, fun u hu => ?_⟩
       rcases mem_modify hu with q | ⟨y, q, rfl⟩
       · exact h.t u q
       · exact withT_small y f v (h.t y q) hv
     · exact h
end

end Go.Proofs.YtnjcdmjaecgblaaGreatDoor
