/-
  The laws of ruletext: Huge.
-/
import Derived.Test.YtnjcdmjaecgblaaGreatDoorZD00
namespace Go.Proofs.YtnjcdmjaecgblaaGreatDoor
section
open Go.RowKit Go.Lib
section
variable {P : Program} {Q : Exit → Act → World → Prop} {K : Act → World → Prop} {o : Oper} {a : Act} {w : World}
theorem wp_build_to (d : Option Tmp) (t e : TypeId) (len : Nat) (parts : Array (Nat × Operand)) (ho : o.op = .buildSlice t len parts) (hd : o.dst = d) (hu : P.underlying t = some (.slice e)) (cells : Array Value)
 (hf : P.builtSlice e len (parts.map fun (i, x) => (i, a.eval x)).toList = some cells)
 (h : K (a.put d (.slice (some ⟨w.heap.size, 0, none⟩) len len)) (w.alloc (.cells cells e))) : o.wp P a w K Q := by
 subst hd
 unfold Program.builtSlice at hf
 cases hie : P.info? e with
 | none => simp [hie] at hf
 | some ie =>
  simp only [hie] at hf
  cases hz : ie.zero with
  | none => simp [hz] at hf
  | some z =>
   simp only [hz] at hf
   by_cases hc : len * ie.size > 2 ^ 24 ∨ len * ie.size = 0
   · simp [hc] at hf
   · rw [if_neg hc] at hf
     exact wp_buildSlice t e len parts ho cells ie z hu hie hz (fun h' => hc (Or.inl h')) (fun h' => hc (Or.inr h')) hf h
def putsL (a : Act) (l : List (Nat × Value)) : Act := l.foldl (fun a x => a.put (some x.1) x.2) a
end
theorem wrap_leftL (n : Int) : IntKind.i64.wrap n = wrap64 n := by rw [IntKind.wrap_i64]; unfold wrap64; rfl
theorem built2 (x y : ByteArray) : Tryz.prog.builtSlice 9 2 [(0, .string x), (1, .string y)] = some #[.string x, .string y] := by kernel_rfl
theorem built1 (x : ByteArray) : Tryz.prog.builtSlice 9 1 [(0, .string x)] = some #[.string x] := by kernel_rfl
theorem strs_new (w : World) (l : List ByteArray) (h : l.length ≤ 2) : StrSl (w.alloc (.cells (l.map Value.string).toArray 9)) (.slice (some ⟨w.heap.size, 0, none⟩) l.length l.length) l := by
 refine ⟨_, _, rfl, by unfold maxLen; omega, fun _ => ⟨_, 0, rfl, fun i hi => ?_⟩⟩
 rw [Nat.zero_add]
 refine ((Blk.new w (l.map Value.string) 9).cell i).trans ?_
 rw [List.getElem?_map, List.getElem?_eq_getElem hi]
 rfl
theorem sum_take {α : Type} (f : α → Nat) {l : List α} {i : Nat} (h : i < l.length) : ((l.take (i + 1)).map f).sum = ((l.take i).map f).sum + f (l[i]'h) := by
 rw [List.take_succ_eq_append_getElem h, List.map_append, List.sum_append]
 simp
theorem sum4 (S a b c d : Nat) : wrap64 (wrap64 (S : Int) + wrap64 (wrap64 (wrap64 (wrap64 (a : Int) + wrap64 (b : Int)) + wrap64 (c : Int)) + wrap64 (d : Int))) = wrap64 ((S + (a + b + c + d) : Nat) : Int) := by
 have e1 : wrap64 (wrap64 (a : Int) + wrap64 (b : Int)) = wrap64 (a + b) := wrap_wrap2 _ _
 have e2 : wrap64 (wrap64 ((a : Int) + b) + wrap64 (c : Int)) = wrap64 (a + b + c) := wrap_wrap2 _ _
 have e3 : wrap64 (wrap64 ((a : Int) + b + c) + wrap64 (d : Int)) = wrap64 (a + b + c + d) := wrap_wrap2 _ _
 rw [e1, e2, e3, wrap_wrap2]
 congr 1
theorem sum2 (S a b : Nat) : wrap64 (wrap64 (S : Int) + wrap64 (wrap64 (a : Int) + wrap64 (b : Int))) = wrap64 ((S + (a + b) : Nat) : Int) := by
 unfold wrap64
 omega
theorem sum1 (S a : Nat) : wrap64 (wrap64 (S : Int) + wrap64 (a : Int)) = wrap64 ((S + a : Nat) : Int) := by
 unfold wrap64
 omega
structure HgU (l : List ByteArray) (x6 x9 x10 x13 x14 x17 x18 x19 x20 : Int) (b5 b6 b9 b10 b13 b14 b17 b18 b19 b20 : Bool) (v5 v6 v9 v10 v13 v14 v17 v18 v19 v20 : Value) (w : World) : Prop where
 z5 : b5 = true → ∃ h, v5 = .slice (some ⟨h, 0, none⟩) 2 2 ∧ StrSl w v5 l
 z6 : b6 = true → v6 = .int .i64 x6
 z9 : b9 = true → v9 = .int .i64 x9
 z10 : b10 = true → v10 = .int .i64 x10
 z13 : b13 = true → v13 = .int .i64 x13
 z14 : b14 = true → v14 = .int .i64 x14
 z17 : b17 = true → v17 = .int .i64 x17
 z18 : b18 = true → v18 = .int .i64 x18
 z19 : b19 = true → v19 = .int .i64 x19
 z20 : b20 = true → v20 = .int .i64 x20
theorem HgU.below {l : List ByteArray} {x6 x9 x10 x13 x14 x17 x18 x19 x20 : Int} {b5 b6 b9 b10 b13 b14 b17 b18 b19 b20 : Bool} {v5 v6 v9 v10 v13 v14 v17 v18 v19 v20 : Value} {w w' : World} (h : HgU l x6 x9 x10 x13 x14 x17 x18 x19 x20 b5 b6 b9 b10 b13 b14 b17 b18 b19 b20 v5 v6 v9 v10 v13 v14 v17 v18 v19 v20 w) (hb : Below w.heap.size w w') : HgU l x6 x9 x10 x13 x14 x17 x18 x19 x20 b5 b6 b9 b10 b13 b14 b17 b18 b19 b20 v5 v6 v9 v10 v13 v14 v17 v18 v19 v20 w' :=
 ⟨fun e => let ⟨g, e1, q⟩ := h.z5 e; ⟨g, e1, q.below hb⟩, h.z6, h.z9, h.z10, h.z13, h.z14, h.z17, h.z18, h.z19, h.z20⟩
structure HgT (l : List ByteArray) (x14 x21 x22 x23 x24 : Int) (b13 b14 b21 b22 b23 b24 : Bool) (v13 v14 v21 v22 v23 v24 : Value) (w : World) : Prop where
 z13 : b13 = true → ∃ h, v13 = .slice (some ⟨h, 0, none⟩) 2 2 ∧ StrSl w v13 l
 z14 : b14 = true → v14 = .int .i64 x14
 z21 : b21 = true → v21 = .int .i64 x21
 z22 : b22 = true → v22 = .int .i64 x22
 z23 : b23 = true → v23 = .int .i64 x23
 z24 : b24 = true → v24 = .int .i64 x24
theorem HgT.below {l : List ByteArray} {x14 x21 x22 x23 x24 : Int} {b13 b14 b21 b22 b23 b24 : Bool} {v13 v14 v21 v22 v23 v24 : Value} {w w' : World} (h : HgT l x14 x21 x22 x23 x24 b13 b14 b21 b22 b23 b24 v13 v14 v21 v22 v23 v24 w) (hb : Below w.heap.size w w') : HgT l x14 x21 x22 x23 x24 b13 b14 b21 b22 b23 b24 v13 v14 v21 v22 v23 v24 w' :=
 ⟨fun e => let ⟨g, e1, q⟩ := h.z13 e; ⟨g, e1, q.below hb⟩, h.z14, h.z21, h.z22, h.z23, h.z24⟩
set_option maxHeartbeats 8000000 in
set_option maxRecDepth 100000 in
theorem lhuge_b (su sw st : Value) (r : R9) (b : Bool) (W : World) (hR : RAt W su sw st r) (e : Hid (b = hugev r)) :
 Calls Tryz.prog 13 #[.agg #[su, sw, st]] W fun e w' => e = .returned (.bool b) ∧ Below W.heap.size W w' := by
 obtain ⟨p, c, rfl, hm, hat⟩ := hR.u
 obtain ⟨p1, c1, rfl, hm1, hat1⟩ := hR.w
 obtain ⟨p2, c2, rfl, hm2, hat2⟩ := hR.t
 have hB := Blk.new W [.slice p r.us.length c, .slice p1 r.ws.length c1, .slice p2 r.ts.length c2] 31
 have hL := (Below.refl W.heap.size W).alloc (Nat.le_refl _) (.cells [.slice p r.us.length c, .slice p1 r.ws.length c1, .slice p2 r.ts.length c2].toArray 31)
 unfold maxLen at hm hm1 hm2
 clear hR
 by_cases h1 : 100 < r.us.length
 · have hb : b = true := by rw [e.out]; unfold hugev; rw [if_pos (.inl h1)]
   have d1 : decide ((100 : Int) < r.us.length) = true := decide_eq_true (by omega)
   subst hb
   clear e hat hat1 hat2
   go_enter Tryz.func13, Tryz.ntmps13
   obtain ⟨_, _, _, _, _, _⟩ := hB.three
   go_wp2_with fail
   go_ret
   exact ⟨rfl, hL⟩
 have d1 : decide ((100 : Int) < r.us.length) = false := decide_eq_false (by omega)
 by_cases h2 : 100 < r.ws.length
 · have hb : b = true := by rw [e.out]; unfold hugev; rw [if_pos (.inr (.inl h2))]
   have d2 : decide ((100 : Int) < r.ws.length) = true := decide_eq_true (by omega)
   subst hb
   clear e hat hat1 hat2
   go_enter Tryz.func13, Tryz.ntmps13
   obtain ⟨_, _, _, _, _, _⟩ := hB.three
   go_wp2_with fail
   go_ret
   exact ⟨rfl, hL⟩
 have d2 : decide ((100 : Int) < r.ws.length) = false := decide_eq_false (by omega)
 by_cases h3 : 100 < r.ts.length
 · have hb : b = true := by rw [e.out]; unfold hugev; rw [if_pos (.inr (.inr h3))]
   have d3 : decide ((100 : Int) < r.ts.length) = true := decide_eq_true (by omega)
   subst hb
   clear e hat hat1 hat2
   go_enter Tryz.func13, Tryz.ntmps13
   obtain ⟨_, _, _, _, _, _⟩ := hB.three
   go_wp2_with fail
   go_ret
   exact ⟨rfl, hL⟩
 have d3 : decide ((100 : Int) < r.ts.length) = false := decide_eq_false (by omega)
 replace e := hid (show b = decide ((20000 : Int) < wrap64 (sumR r : Nat)) by rw [e.out]; unfold hugev; rw [if_neg (by omega)])
 go_enter Tryz.func13, Tryz.ntmps13
 obtain ⟨_, _, _, _, _, _⟩ := hB.three
 go_wp2_with fail
 generalize W.alloc (.cells [.slice p r.us.length c, .slice p1 r.ws.length c1, .slice p2 r.ts.length c2].toArray 31) = V0 at *
 obtain ⟨bx, hbx⟩ : ∃ bx, W.heap.size = bx := ⟨_, rfl⟩
 rw [hbx] at hB
 simp only [hbx]
 clear d1 d2 d3
 go_loopw [3, 4] (fun v3 v4 wr => ∃ (i : Nat) (n : Int), v3 = .int .i64 n ∧ v4 = .int .i64 i ∧ i ≤ r.us.length ∧ Blk wr bx [.slice p r.us.length c, .slice p1 r.ws.length c1, .slice p2 r.ts.length c2] 31 ∧ Below W.heap.size W wr ∧ Hid (n = wrap64 ((((r.us.take i).map sumU).sum : Nat) : Int))) (fun _ v4 _ => r.us.length - (RowKit.intOf v4).toNat)
 case atStart => exact ⟨0, 0, rfl, rfl, by omega, hB, hL, hid (show (0 : Int) = wrap64 0 by unfold wrap64; omega)⟩
 case round =>
  clear hB hL
  obtain ⟨i, n, rfl, rfl, hi, hB, hL, hA⟩ := hrel
  obtain ⟨_, _, _, _, _, _⟩ := hB.three
  by_cases hlt : i < r.us.length
  · have d1 : (i : Int) < r.us.length := by omega
    have d0 : (0 : Int) ≤ i := by omega
    obtain ⟨g, o, rfl, hc⟩ := hat (by omega)
    obtain ⟨vs, hU, hcs⟩ := (hc i hlt).ul
    have kl := hid ((hcs.below' (hcs.lt' hU.name) hL).loads (P := Tryz.prog) hU.len)
    have hlen := hU.len
    have hlone := hU.lone
    have HS := hid (sum_take sumU hlt)
    obtain ⟨sn, st9, sr, hvs, s1, s2, s3⟩ := hU
    obtain ⟨u, hu⟩ : ∃ u, r.us[i]'hlt = u := ⟨_, rfl⟩
    rw [hu] at HS hvs s1 s2 s3
    have hZ := Blk.new wr vs 53
    have hZL := (Below.refl wr.heap.size wr).alloc (Nat.le_refl _) (.cells vs.toArray 53)
    have hB2 := hB.alloc (.cells vs.toArray 53)
    have hL2 := hL.alloc hL.size (.cells vs.toArray 53)
    have kn := s1.below hL2
    have kt := s2.below hL2
    have kr := s3.below hL2
    clear hat hc hcs s1 s2 s3 hu hB hL hZL
    go_upto_region 8 with (first | (with_reducible refine wpList_load_agg rfl 53 _ rfl ⟨g, o + i * 19, none⟩ (by with_unfolding_all rfl) Tryz.isAgg53 Tryz.sizeOf53 vs kl.out ?_) | (with_reducible refine wpList_alloc_agg rfl 53 rfl _ rfl uZero zeroU ?_) | (with_reducible refine wpList_store_new rfl 53 _ _ rfl rfl Tryz.sizeOf53 vs uZero 53 (by with_unfolding_all rfl) (by with_unfolding_all rfl) hlen rfl hlone ?_))
    clear kl
    generalize wr.alloc (.cells vs.toArray 53) = V at *
    generalize wr.heap.size = hu at *
    have hU5 : ∀ w', Below V.heap.size V w' → w'.cell? ⟨hu, 0, none⟩ = some (.string u.nm) ∧ w'.cell? ⟨hu, 12, none⟩ = some (.string u.wpn) ∧ w'.cell? ⟨hu, 16, none⟩ = some sn ∧ w'.cell? ⟨hu, 17, none⟩ = some st9 ∧ w'.cell? ⟨hu, 18, none⟩ = some sr := fun w' hS => by
     have q := hZ.below hS
     rw [hvs] at q
     exact ⟨q.cell 0, q.cell 12, q.cell 16, q.cell 17, q.cell 18⟩
    clear hZ hvs hlen hlone
    have hmx : Tryz.prog.follows .mixedOrders = true := by kernel_rfl
    refine wp_region_held (S := fun w' => Below V.heap.size V w') hmx ?_
    show wpAnyH _ _ _ _ _ _ _ _ V.drew
    have hS0 := (Below.refl V.heap.size V).drew
    refine reg_tk (i := 0) (v := .int .i64 n) (some 36) rfl (fun w' hS => by skip; go_simp) hS0 ?_
    simp only [Act.put, List.setIfInBounds_toArray, List.set_cons_zero, List.set_cons_succ]
    refine reg_tk (i := 1) (v := .pointer (some ⟨hu, 0, none⟩)) (some 37) rfl (fun w' hS => by skip; go_simp) hS0 ?_
    simp only [Act.put, List.setIfInBounds_toArray, List.set_cons_zero, List.set_cons_succ]
    refine reg_tk (i := 2) (v := .string u.nm) (some 38) rfl (fun w' hS => by obtain ⟨_, _, _, _, _⟩ := hU5 w' hS; go_simp) hS0 ?_
    simp only [Act.put, List.setIfInBounds_toArray, List.set_cons_zero, List.set_cons_succ]
    refine reg_tk (i := 3) (v := .pointer (some ⟨hu, 12, none⟩)) (some 39) rfl (fun w' hS => by skip; go_simp) hS0 ?_
    simp only [Act.put, List.setIfInBounds_toArray, List.set_cons_zero, List.set_cons_succ]
    refine reg_tk (i := 4) (v := .string u.wpn) (some 40) rfl (fun w' hS => by obtain ⟨_, _, _, _, _⟩ := hU5 w' hS; go_simp) hS0 ?_
    simp only [Act.put, List.setIfInBounds_toArray, List.set_cons_zero, List.set_cons_succ]
    refine reg_tk (i := 7) (v := .pointer (some ⟨hu, 16, none⟩)) (some 43) rfl (fun w' hS => by skip; go_simp) hS0 ?_
    simp only [Act.put, List.setIfInBounds_toArray, List.set_cons_zero, List.set_cons_succ]
    refine reg_tk (i := 8) (v := sn) (some 44) rfl (fun w' hS => by obtain ⟨_, _, _, _, _⟩ := hU5 w' hS; go_simp) hS0 ?_
    simp only [Act.put, List.setIfInBounds_toArray, List.set_cons_zero, List.set_cons_succ]
    refine reg_tk (i := 11) (v := .pointer (some ⟨hu, 17, none⟩)) (some 47) rfl (fun w' hS => by skip; go_simp) hS0 ?_
    simp only [Act.put, List.setIfInBounds_toArray, List.set_cons_zero, List.set_cons_succ]
    refine reg_tk (i := 12) (v := st9) (some 48) rfl (fun w' hS => by obtain ⟨_, _, _, _, _⟩ := hU5 w' hS; go_simp) hS0 ?_
    simp only [Act.put, List.setIfInBounds_toArray, List.set_cons_zero, List.set_cons_succ]
    refine reg_tk (i := 15) (v := .pointer (some ⟨hu, 18, none⟩)) (some 51) rfl (fun w' hS => by skip; go_simp) hS0 ?_
    simp only [Act.put, List.setIfInBounds_toArray, List.set_cons_zero, List.set_cons_succ]
    refine reg_tk (i := 16) (v := sr) (some 52) rfl (fun w' hS => by obtain ⟨_, _, _, _, _⟩ := hU5 w' hS; go_simp) hS0 ?_
    simp only [Act.put, List.setIfInBounds_toArray, List.set_cons_zero, List.set_cons_succ]
    refine wpAnyH_from (I := fun a0 listed a w => ∃ b5 b6 b9 b10 b13 b14 b17 b18 b19 b20 v5 v6 v9 v10 v13 v14 v17 v18 v19 v20, listed = #[true, true, true, true, true, b5, b6, true, true, b9, b10, true, true, b13, b14, true, true, b17, b18, b19, b20] ∧ a = putsL a0 [(41, v5), (42, v6), (45, v9), (46, v10), (49, v13), (50, v14), (53, v17), (54, v18), (55, v19), (3, v20)] ∧ Below V.heap.size V w ∧ HgU [u.nm, u.wpn] (wrap64 ((namesS [u.nm, u.wpn] : Nat))) (wrap64 ((namesS u.needs : Nat))) (wrap64 (wrap64 ((namesS [u.nm, u.wpn] : Nat)) + wrap64 ((namesS u.needs : Nat)))) (wrap64 ((namesS u.trains : Nat))) (wrap64 (wrap64 (wrap64 ((namesS [u.nm, u.wpn] : Nat)) + wrap64 ((namesS u.needs : Nat))) + wrap64 ((namesS u.trains : Nat)))) (wrap64 ((namesS u.ress : Nat))) (wrap64 (wrap64 (wrap64 (wrap64 ((namesS [u.nm, u.wpn] : Nat)) + wrap64 ((namesS u.needs : Nat))) + wrap64 ((namesS u.trains : Nat))) + wrap64 ((namesS u.ress : Nat)))) (wrap64 (n + wrap64 (wrap64 (wrap64 (wrap64 ((namesS [u.nm, u.wpn] : Nat)) + wrap64 ((namesS u.needs : Nat))) + wrap64 ((namesS u.trains : Nat))) + wrap64 ((namesS u.ress : Nat))))) (wrap64 (n + wrap64 (wrap64 (wrap64 (wrap64 ((namesS [u.nm, u.wpn] : Nat)) + wrap64 ((namesS u.needs : Nat))) + wrap64 ((namesS u.trains : Nat))) + wrap64 ((namesS u.ress : Nat))))) b5 b6 b9 b10 b13 b14 b17 b18 b19 b20 v5 v6 v9 v10 v13 v14 v17 v18 v19 v20 w) (by decide) rfl ?_ ?_ ?_
    · exact ⟨false, false, false, false, false, false, false, false, false, false, u41, u42, u45, u46, u49, u50, u53, u54, u55, .int .i64 n, rfl, by first | simp only [putsL, List.foldl, Act.put, List.setIfInBounds_toArray, List.set_cons_zero, List.set_cons_succ] | rfl, hS0, by constructor <;> (intro h; cases h)⟩
    · intro listed a' w i hsz hI hi
      obtain ⟨b5, b6, b9, b10, b13, b14, b17, b18, b19, b20, v5, v6, v9, v10, v13, v14, v17, v18, v19, v20, rfl, rfl, hS, hF⟩ := hI
      have hun := (mem_ready.1 hi).1
      obtain ⟨_, o, ho, -⟩ := mem_ready.1 hi
      have hi15 : i < 21 := (Array.getElem?_eq_some_iff.1 ho).1
      clear ho
      have hnot : i ≠ 0 ∧ i ≠ 1 ∧ i ≠ 2 ∧ i ≠ 3 ∧ i ≠ 4 ∧ i ≠ 7 ∧ i ≠ 8 ∧ i ≠ 11 ∧ i ≠ 12 ∧ i ≠ 15 ∧ i ≠ 16 := by refine ⟨?_, ?_, ?_, ?_, ?_, ?_, ?_, ?_, ?_, ?_, ?_⟩ <;> (rintro rfl; cases hun)
      have hwhich : i = 5 ∨ i = 6 ∨ i = 9 ∨ i = 10 ∨ i = 13 ∨ i = 14 ∨ i = 17 ∨ i = 18 ∨ i = 19 ∨ i = 20 := by omega
      clear hi15 hnot
      simp only [putsL, List.foldl, Act.put, List.setIfInBounds_toArray, List.set_cons_zero, List.set_cons_succ]
      rcases hwhich with rfl | rfl | rfl | rfl | rfl | rfl | rfl | rfl | rfl | rfl
      · obtain rfl : b5 = false := hun
        refine wpOp_go rfl rfl (fun K' hK => ?_)
        have hb := (Below.refl w.heap.size w).alloc (Nat.le_refl _) (.cells #[.string u.nm, .string u.wpn] 9)
        refine wp_build_to (some 41) 23 9 2 _ rfl rfl Tryz.underlying23 #[.string u.nm, .string u.wpn] (by with_unfolding_all exact built2 u.nm u.wpn) ?_
        refine hK _ _ ⟨below_call hS hb, ?_⟩
        exact ⟨true, b6, b9, b10, b13, b14, b17, b18, b19, b20, .slice (some ⟨w.heap.size, 0, none⟩) 2 2, v6, v9, v10, v13, v14, v17, v18, v19, v20, rfl, by first | simp only [Act.put, List.setIfInBounds_toArray, List.set_cons_zero, List.set_cons_succ] | rfl, below_call hS hb, ⟨fun _ => ⟨_, rfl, strs_new w [u.nm, u.wpn] (Nat.le_refl _)⟩, (hF.below hb).z6, (hF.below hb).z9, (hF.below hb).z10, (hF.below hb).z13, (hF.below hb).z14, (hF.below hb).z17, (hF.below hb).z18, (hF.below hb).z19, (hF.below hb).z20⟩⟩
      · obtain rfl : b6 = false := hun
        have d5 : b5 = true := ready_on 5 hi (by kernel_rfl)
        subst d5
        obtain ⟨h5, rfl, s5⟩ := hF.z5 rfl
        refine wpOp_go rfl rfl (fun K' hK => ?_)
        go_simp
        (with_reducible refine (lnames_b _ [u.nm, u.wpn] _ w s5 (hid rfl)).mono ?_)
        rintro e w1 ⟨rfl, hb⟩
        refine hK _ _ ⟨below_call hS hb, ?_⟩
        exact ⟨true, true, b9, b10, b13, b14, b17, b18, b19, b20, .slice (some ⟨h5, 0, none⟩) 2 2, .int .i64 (wrap64 ((namesS [u.nm, u.wpn] : Nat))), v9, v10, v13, v14, v17, v18, v19, v20, rfl, by first | simp only | rfl, below_call hS hb, ⟨(hF.below hb).z5, fun _ => rfl, (hF.below hb).z9, (hF.below hb).z10, (hF.below hb).z13, (hF.below hb).z14, (hF.below hb).z17, (hF.below hb).z18, (hF.below hb).z19, (hF.below hb).z20⟩⟩
      · obtain rfl : b9 = false := hun
        refine wpOp_go rfl rfl (fun K' hK => ?_)
        go_simp
        (with_reducible refine (lnames_b _ u.needs _ w (kn.below hS) (hid rfl)).mono ?_)
        rintro e w1 ⟨rfl, hb⟩
        refine hK _ _ ⟨below_call hS hb, ?_⟩
        exact ⟨b5, b6, true, b10, b13, b14, b17, b18, b19, b20, v5, v6, .int .i64 (wrap64 ((namesS u.needs : Nat))), v10, v13, v14, v17, v18, v19, v20, rfl, by first | simp only | rfl, below_call hS hb, ⟨(hF.below hb).z5, (hF.below hb).z6, fun _ => rfl, (hF.below hb).z10, (hF.below hb).z13, (hF.below hb).z14, (hF.below hb).z17, (hF.below hb).z18, (hF.below hb).z19, (hF.below hb).z20⟩⟩
      · obtain rfl : b10 = false := hun
        have d6 : b6 = true := ready_on 6 hi (by kernel_rfl)
        subst d6
        have d9 : b9 = true := ready_on 9 hi (by kernel_rfl)
        subst d9
        obtain rfl := hF.z6 rfl
        obtain rfl := hF.z9 rfl
        refine wpOp_go rfl rfl (fun K' hK => ?_)
        go_simp
        try simp only [wrap_leftL]
        refine hK _ _ ⟨hS, ?_⟩
        exact ⟨b5, true, true, true, b13, b14, b17, b18, b19, b20, v5, .int .i64 (wrap64 ((namesS [u.nm, u.wpn] : Nat))), .int .i64 (wrap64 ((namesS u.needs : Nat))), .int .i64 (wrap64 (wrap64 ((namesS [u.nm, u.wpn] : Nat)) + wrap64 ((namesS u.needs : Nat)))), v13, v14, v17, v18, v19, v20, rfl, by first | simp only | rfl, hS, ⟨hF.z5, hF.z6, hF.z9, fun _ => rfl, hF.z13, hF.z14, hF.z17, hF.z18, hF.z19, hF.z20⟩⟩
      · obtain rfl : b13 = false := hun
        refine wpOp_go rfl rfl (fun K' hK => ?_)
        go_simp
        (with_reducible refine (lnames_b _ u.trains _ w (kt.below hS) (hid rfl)).mono ?_)
        rintro e w1 ⟨rfl, hb⟩
        refine hK _ _ ⟨below_call hS hb, ?_⟩
        exact ⟨b5, b6, b9, b10, true, b14, b17, b18, b19, b20, v5, v6, v9, v10, .int .i64 (wrap64 ((namesS u.trains : Nat))), v14, v17, v18, v19, v20, rfl, by first | simp only | rfl, below_call hS hb, ⟨(hF.below hb).z5, (hF.below hb).z6, (hF.below hb).z9, (hF.below hb).z10, fun _ => rfl, (hF.below hb).z14, (hF.below hb).z17, (hF.below hb).z18, (hF.below hb).z19, (hF.below hb).z20⟩⟩
      · obtain rfl : b14 = false := hun
        have d10 : b10 = true := ready_on 10 hi (by kernel_rfl)
        subst d10
        have d13 : b13 = true := ready_on 13 hi (by kernel_rfl)
        subst d13
        obtain rfl := hF.z10 rfl
        obtain rfl := hF.z13 rfl
        refine wpOp_go rfl rfl (fun K' hK => ?_)
        go_simp
        try simp only [wrap_leftL]
        refine hK _ _ ⟨hS, ?_⟩
        exact ⟨b5, b6, b9, true, true, true, b17, b18, b19, b20, v5, v6, v9, .int .i64 (wrap64 (wrap64 ((namesS [u.nm, u.wpn] : Nat)) + wrap64 ((namesS u.needs : Nat)))), .int .i64 (wrap64 ((namesS u.trains : Nat))), .int .i64 (wrap64 (wrap64 (wrap64 ((namesS [u.nm, u.wpn] : Nat)) + wrap64 ((namesS u.needs : Nat))) + wrap64 ((namesS u.trains : Nat)))), v17, v18, v19, v20, rfl, by first | simp only | rfl, hS, ⟨hF.z5, hF.z6, hF.z9, hF.z10, hF.z13, fun _ => rfl, hF.z17, hF.z18, hF.z19, hF.z20⟩⟩
      · obtain rfl : b17 = false := hun
        refine wpOp_go rfl rfl (fun K' hK => ?_)
        go_simp
        (with_reducible refine (lnames_b _ u.ress _ w (kr.below hS) (hid rfl)).mono ?_)
        rintro e w1 ⟨rfl, hb⟩
        refine hK _ _ ⟨below_call hS hb, ?_⟩
        exact ⟨b5, b6, b9, b10, b13, b14, true, b18, b19, b20, v5, v6, v9, v10, v13, v14, .int .i64 (wrap64 ((namesS u.ress : Nat))), v18, v19, v20, rfl, by first | simp only | rfl, below_call hS hb, ⟨(hF.below hb).z5, (hF.below hb).z6, (hF.below hb).z9, (hF.below hb).z10, (hF.below hb).z13, (hF.below hb).z14, fun _ => rfl, (hF.below hb).z18, (hF.below hb).z19, (hF.below hb).z20⟩⟩
      · obtain rfl : b18 = false := hun
        have d14 : b14 = true := ready_on 14 hi (by kernel_rfl)
        subst d14
        have d17 : b17 = true := ready_on 17 hi (by kernel_rfl)
        subst d17
        obtain rfl := hF.z14 rfl
        obtain rfl := hF.z17 rfl
        refine wpOp_go rfl rfl (fun K' hK => ?_)
        go_simp
        try simp only [wrap_leftL]
        refine hK _ _ ⟨hS, ?_⟩
        exact ⟨b5, b6, b9, b10, b13, true, true, true, b19, b20, v5, v6, v9, v10, v13, .int .i64 (wrap64 (wrap64 (wrap64 ((namesS [u.nm, u.wpn] : Nat)) + wrap64 ((namesS u.needs : Nat))) + wrap64 ((namesS u.trains : Nat)))), .int .i64 (wrap64 ((namesS u.ress : Nat))), .int .i64 (wrap64 (wrap64 (wrap64 (wrap64 ((namesS [u.nm, u.wpn] : Nat)) + wrap64 ((namesS u.needs : Nat))) + wrap64 ((namesS u.trains : Nat))) + wrap64 ((namesS u.ress : Nat)))), v19, v20, rfl, by first | simp only | rfl, hS, ⟨hF.z5, hF.z6, hF.z9, hF.z10, hF.z13, hF.z14, hF.z17, fun _ => rfl, hF.z19, hF.z20⟩⟩
      · obtain rfl : b19 = false := hun
        have d18 : b18 = true := ready_on 18 hi (by kernel_rfl)
        subst d18
        obtain rfl := hF.z18 rfl
        refine wpOp_go rfl rfl (fun K' hK => ?_)
        go_simp
        try simp only [wrap_leftL]
        refine hK _ _ ⟨hS, ?_⟩
        exact ⟨b5, b6, b9, b10, b13, b14, b17, true, true, b20, v5, v6, v9, v10, v13, v14, v17, .int .i64 (wrap64 (wrap64 (wrap64 (wrap64 ((namesS [u.nm, u.wpn] : Nat)) + wrap64 ((namesS u.needs : Nat))) + wrap64 ((namesS u.trains : Nat))) + wrap64 ((namesS u.ress : Nat)))), .int .i64 (wrap64 (n + wrap64 (wrap64 (wrap64 (wrap64 ((namesS [u.nm, u.wpn] : Nat)) + wrap64 ((namesS u.needs : Nat))) + wrap64 ((namesS u.trains : Nat))) + wrap64 ((namesS u.ress : Nat))))), v20, rfl, by first | simp only | rfl, hS, ⟨hF.z5, hF.z6, hF.z9, hF.z10, hF.z13, hF.z14, hF.z17, hF.z18, fun _ => rfl, hF.z20⟩⟩
      · obtain rfl : b20 = false := hun
        have d19 : b19 = true := ready_on 19 hi (by kernel_rfl)
        subst d19
        obtain rfl := hF.z19 rfl
        refine wpOp_go rfl rfl (fun K' hK => ?_)
        go_simp
        try simp only [wrap_leftL]
        refine hK _ _ ⟨hS, ?_⟩
        exact ⟨b5, b6, b9, b10, b13, b14, b17, b18, true, true, v5, v6, v9, v10, v13, v14, v17, v18, .int .i64 (wrap64 (n + wrap64 (wrap64 (wrap64 (wrap64 ((namesS [u.nm, u.wpn] : Nat)) + wrap64 ((namesS u.needs : Nat))) + wrap64 ((namesS u.trains : Nat))) + wrap64 ((namesS u.ress : Nat))))), .int .i64 (wrap64 (n + wrap64 (wrap64 (wrap64 (wrap64 ((namesS [u.nm, u.wpn] : Nat)) + wrap64 ((namesS u.needs : Nat))) + wrap64 ((namesS u.trains : Nat))) + wrap64 ((namesS u.ress : Nat))))), rfl, by first | simp only | rfl, hS, ⟨hF.z5, hF.z6, hF.z9, hF.z10, hF.z13, hF.z14, hF.z17, hF.z18, hF.z19, fun _ => rfl⟩⟩
    · intro listed a' w hI hr
      obtain ⟨b5, b6, b9, b10, b13, b14, b17, b18, b19, b20, v5, v6, v9, v10, v13, v14, v17, v18, v19, v20, rfl, rfl, hS, hF⟩ := hI
      have e5 : b5 = true := ready_end 5 hr (by kernel_rfl)
      subst e5
      have e6 : b6 = true := ready_end 6 hr (by kernel_rfl)
      subst e6
      have e9 : b9 = true := ready_end 9 hr (by kernel_rfl)
      subst e9
      have e10 : b10 = true := ready_end 10 hr (by kernel_rfl)
      subst e10
      have e13 : b13 = true := ready_end 13 hr (by kernel_rfl)
      subst e13
      have e14 : b14 = true := ready_end 14 hr (by kernel_rfl)
      subst e14
      have e17 : b17 = true := ready_end 17 hr (by kernel_rfl)
      subst e17
      have e18 : b18 = true := ready_end 18 hr (by kernel_rfl)
      subst e18
      have e19 : b19 = true := ready_end 19 hr (by kernel_rfl)
      subst e19
      have e20 : b20 = true := ready_end 20 hr (by kernel_rfl)
      subst e20
      obtain rfl := hF.z20 rfl
      try show Exit.then _ _ Exit.normal _ _
      simp only [putsL, List.foldl, Act.put, List.setIfInBounds_toArray, List.set_cons_zero, List.set_cons_succ]
      have hL3 := hL2.trans (hS.mono hL2.size)
      have hB3 := hB2.below hS
      go_wp2_with fail
      go_roundw
      case rel => exact ⟨i + 1, _, rfl, by go_num, by omega, hB3, hL3, hid (by rw [HS.out, hA.out, sum4]; rfl)⟩
      case measure => simp [RowKit.intOf]; omega

  · obtain rfl : i = r.us.length := by omega
    have d1 : ¬ (r.us.length : Int) < r.us.length := by omega
    have ha := hA.out
    rw [List.take_length] at ha
    replace ha := hid ha
    clear hat hA
    go_wp2_with fail
    clear d1
    go_loopw [3, 6] (fun v3 v6 wr => ∃ (i : Nat) (n : Int), v3 = .int .i64 n ∧ v6 = .int .i64 i ∧ i ≤ r.ws.length ∧ Blk wr bx [.slice p r.us.length c, .slice p1 r.ws.length c1, .slice p2 r.ts.length c2] 31 ∧ Below W.heap.size W wr ∧ Hid (n = wrap64 (((r.us.map sumU).sum + ((r.ws.take i).map sumW).sum : Nat) : Int))) (fun _ v6 _ => r.ws.length - (RowKit.intOf v6).toNat)
    case atStart => exact ⟨0, n, rfl, rfl, by omega, hB, hL, hid ha.out⟩
    case round =>
     clear hB hL ha
     obtain ⟨j, m, rfl, rfl, hj, hB, hL, hA⟩ := hrel
     obtain ⟨_, _, _, _, _, _⟩ := hB.three
     by_cases hlt : j < r.ws.length
     · have d1 : (j : Int) < r.ws.length := by omega
       have d0 : (0 : Int) ≤ j := by omega
       obtain ⟨g, o, rfl, hc⟩ := hat1 (by omega)
       have hcs := hc j hlt
       have HS := hid (sum_take sumW hlt)
       obtain ⟨u, hu⟩ : ∃ u, r.ws[j]'hlt = u := ⟨_, rfl⟩
       rw [hu] at HS hcs
       have k0 : wr.cell? ⟨g, o + j * 6, none⟩ = some (.string u.nm) := (WAt.below hcs hL) 0 _ rfl
       have hsn : StrSl (wr.alloc (.cells #[.string u.nm] 9)) (.slice (some ⟨wr.heap.size, 0, none⟩) 1 1) [u.nm] := strs_new wr [u.nm] (by simp)
       have hB2 := hB.alloc (.cells #[.string u.nm] 9)
       have hL2 := hL.alloc hL.size (.cells #[.string u.nm] 9)
       clear hat1 hc hcs hu hB hL
       go_wp2_with (with_reducible refine wpList_buildSliceTo rfl 23 9 1 _ rfl wr.heap.size rfl (some 70) rfl Tryz.underlying23 #[.string u.nm] (by with_unfolding_all exact built1 u.nm) ?_)
       ((with_reducible refine (lnames_b _ [u.nm] _ _ hsn (hid rfl)).mono ?_); rintro e w1 ⟨rfl, hb⟩)
       replace hB2 := hB2.below hb
       replace hL2 := below_call hL2 hb
       clear hsn k0 hb
       go_wp2_with fail
       go_roundw
       case rel => exact ⟨j + 1, _, rfl, by go_num, by omega, hB2, hL2, hid (by rw [HS.out, hA.out, ← Nat.add_assoc]; exact sum1 _ _)⟩
       case measure => simp [RowKit.intOf]; omega
     · obtain rfl : j = r.ws.length := by omega
       have d1 : ¬ (r.ws.length : Int) < r.ws.length := by omega
       have ha := hA.out
       rw [List.take_length] at ha
       replace ha := hid ha
       clear hat1 hA
       go_wp2_with fail
       clear d1
       go_loopw [3, 7] (fun v3 v7 wr => ∃ (i : Nat) (n : Int), v3 = .int .i64 n ∧ v7 = .int .i64 i ∧ i ≤ r.ts.length ∧ Blk wr bx [.slice p r.us.length c, .slice p1 r.ws.length c1, .slice p2 r.ts.length c2] 31 ∧ Below W.heap.size W wr ∧ Hid (n = wrap64 (((r.us.map sumU).sum + (r.ws.map sumW).sum + ((r.ts.take i).map sumT).sum : Nat) : Int))) (fun _ v7 _ => r.ts.length - (RowKit.intOf v7).toNat)
       case atStart => exact ⟨0, m, rfl, rfl, by omega, hB, hL, hid ha.out⟩
       case round =>
        clear hB hL ha
        obtain ⟨j, n, rfl, rfl, hj, hB, hL, hA⟩ := hrel
        obtain ⟨_, _, _, _, _, _⟩ := hB.three
        by_cases hlt : j < r.ts.length
        · have d1 : (j : Int) < r.ts.length := by omega
          have d0 : (0 : Int) ≤ j := by omega
          obtain ⟨g, o, rfl, hc⟩ := hat2 (by omega)
          obtain ⟨sn, hcs, s1⟩ := hc j hlt
          have HS := hid (sum_take sumT hlt)
          obtain ⟨u, hu⟩ : ∃ u, r.ts[j]'hlt = u := ⟨_, rfl⟩
          rw [hu] at HS hcs s1
          have kn := s1.below hL
          replace hcs := hcs.below hL
          clear hat2 hc s1 hu
          go_upto_region 16 with fail
          generalize wr = V at *
          have hT3 : ∀ w', Below V.heap.size V w' → w'.cell? ⟨g, o + j * 8, none⟩ = some (.string u.nm) ∧ w'.cell? ⟨g, o + j * 8 + 5, none⟩ = some (.string u.un) ∧ w'.cell? ⟨g, o + j * 8 + 1, none⟩ = some sn := fun w' hS => by
           have q := hcs.below hS
           exact ⟨q 0 _ rfl, q 5 _ rfl, q 1 _ rfl⟩
          clear hcs
          have hmx : Tryz.prog.follows .mixedOrders = true := by kernel_rfl
          refine wp_region_held (S := fun w' => Below V.heap.size V w') hmx ?_
          show wpAnyH _ _ _ _ _ _ _ _ V.drew
          have hS0 := (Below.refl V.heap.size V).drew
          refine reg_tk (i := 0) (v := .int .i64 n) (some 80) rfl (fun w' hS => by skip; go_simp) hS0 ?_
          simp only [Act.put, List.setIfInBounds_toArray, List.set_cons_zero, List.set_cons_succ]
          refine reg_tk (i := 1) (v := .pointer (some ⟨bx, 2, none⟩)) (some 81) rfl (fun w' hS => by skip; go_simp) hS0 ?_
          simp only [Act.put, List.setIfInBounds_toArray, List.set_cons_zero, List.set_cons_succ]
          refine reg_tk (i := 2) (v := .slice (some ⟨g, o, none⟩) r.ts.length c2) (some 82) rfl (fun w' hS => by obtain ⟨_, _, _, _, _, _⟩ := (hB.below hS).three; go_simp) hS0 ?_
          simp only [Act.put, List.setIfInBounds_toArray, List.set_cons_zero, List.set_cons_succ]
          refine reg_tk (i := 3) (v := .int .i64 j) (some 83) rfl (fun w' hS => by skip; go_simp) hS0 ?_
          simp only [Act.put, List.setIfInBounds_toArray, List.set_cons_zero, List.set_cons_succ]
          refine reg_tk (i := 4) (v := .pointer (some ⟨g, o + j * 8, none⟩)) (some 84) rfl (fun w' hS => by skip; go_simp) hS0 ?_
          simp only [Act.put, List.setIfInBounds_toArray, List.set_cons_zero, List.set_cons_succ]
          refine reg_tk (i := 5) (v := .pointer (some ⟨g, o + j * 8 + 0, none⟩)) (some 85) rfl (fun w' hS => by skip; go_simp) hS0 ?_
          simp only [Act.put, List.setIfInBounds_toArray, List.set_cons_zero, List.set_cons_succ]
          refine reg_tk (i := 6) (v := .string u.nm) (some 86) rfl (fun w' hS => by obtain ⟨_, _, _⟩ := hT3 w' hS; go_simp) hS0 ?_
          simp only [Act.put, List.setIfInBounds_toArray, List.set_cons_zero, List.set_cons_succ]
          refine reg_tk (i := 7) (v := .pointer (some ⟨bx, 2, none⟩)) (some 87) rfl (fun w' hS => by skip; go_simp) hS0 ?_
          simp only [Act.put, List.setIfInBounds_toArray, List.set_cons_zero, List.set_cons_succ]
          refine reg_tk (i := 8) (v := .slice (some ⟨g, o, none⟩) r.ts.length c2) (some 88) rfl (fun w' hS => by obtain ⟨_, _, _, _, _, _⟩ := (hB.below hS).three; go_simp) hS0 ?_
          simp only [Act.put, List.setIfInBounds_toArray, List.set_cons_zero, List.set_cons_succ]
          refine reg_tk (i := 9) (v := .int .i64 j) (some 89) rfl (fun w' hS => by skip; go_simp) hS0 ?_
          simp only [Act.put, List.setIfInBounds_toArray, List.set_cons_zero, List.set_cons_succ]
          refine reg_tk (i := 10) (v := .pointer (some ⟨g, o + j * 8, none⟩)) (some 90) rfl (fun w' hS => by skip; go_simp) hS0 ?_
          simp only [Act.put, List.setIfInBounds_toArray, List.set_cons_zero, List.set_cons_succ]
          refine reg_tk (i := 11) (v := .pointer (some ⟨g, o + j * 8 + 5, none⟩)) (some 91) rfl (fun w' hS => by skip; go_simp) hS0 ?_
          simp only [Act.put, List.setIfInBounds_toArray, List.set_cons_zero, List.set_cons_succ]
          refine reg_tk (i := 12) (v := .string u.un) (some 92) rfl (fun w' hS => by obtain ⟨_, _, _⟩ := hT3 w' hS; go_simp) hS0 ?_
          simp only [Act.put, List.setIfInBounds_toArray, List.set_cons_zero, List.set_cons_succ]
          refine reg_tk (i := 15) (v := .pointer (some ⟨bx, 2, none⟩)) (some 95) rfl (fun w' hS => by skip; go_simp) hS0 ?_
          simp only [Act.put, List.setIfInBounds_toArray, List.set_cons_zero, List.set_cons_succ]
          refine reg_tk (i := 16) (v := .slice (some ⟨g, o, none⟩) r.ts.length c2) (some 96) rfl (fun w' hS => by obtain ⟨_, _, _, _, _, _⟩ := (hB.below hS).three; go_simp) hS0 ?_
          simp only [Act.put, List.setIfInBounds_toArray, List.set_cons_zero, List.set_cons_succ]
          refine reg_tk (i := 17) (v := .int .i64 j) (some 97) rfl (fun w' hS => by skip; go_simp) hS0 ?_
          simp only [Act.put, List.setIfInBounds_toArray, List.set_cons_zero, List.set_cons_succ]
          refine reg_tk (i := 18) (v := .pointer (some ⟨g, o + j * 8, none⟩)) (some 98) rfl (fun w' hS => by skip; go_simp) hS0 ?_
          simp only [Act.put, List.setIfInBounds_toArray, List.set_cons_zero, List.set_cons_succ]
          refine reg_tk (i := 19) (v := .pointer (some ⟨g, o + j * 8 + 1, none⟩)) (some 99) rfl (fun w' hS => by skip; go_simp) hS0 ?_
          simp only [Act.put, List.setIfInBounds_toArray, List.set_cons_zero, List.set_cons_succ]
          refine reg_tk (i := 20) (v := sn) (some 100) rfl (fun w' hS => by obtain ⟨_, _, _⟩ := hT3 w' hS; go_simp) hS0 ?_
          simp only [Act.put, List.setIfInBounds_toArray, List.set_cons_zero, List.set_cons_succ]
          refine wpAnyH_from (I := fun a0 listed a w => ∃ b13 b14 b21 b22 b23 b24 v13 v14 v21 v22 v23 v24, listed = #[true, true, true, true, true, true, true, true, true, true, true, true, true, b13, b14, true, true, true, true, true, true, b21, b22, b23, b24] ∧ a = putsL a0 [(93, v13), (94, v14), (101, v21), (102, v22), (103, v23), (3, v24)] ∧ Below V.heap.size V w ∧ HgT [u.nm, u.un] (wrap64 ((namesS [u.nm, u.un] : Nat))) (wrap64 ((namesS u.needs : Nat))) (wrap64 (wrap64 ((namesS [u.nm, u.un] : Nat)) + wrap64 ((namesS u.needs : Nat)))) (wrap64 (n + wrap64 (wrap64 ((namesS [u.nm, u.un] : Nat)) + wrap64 ((namesS u.needs : Nat))))) (wrap64 (n + wrap64 (wrap64 ((namesS [u.nm, u.un] : Nat)) + wrap64 ((namesS u.needs : Nat))))) b13 b14 b21 b22 b23 b24 v13 v14 v21 v22 v23 v24 w) (by decide) rfl ?_ ?_ ?_
          · exact ⟨false, false, false, false, false, false, u93, u94, u101, u102, u103, .int .i64 n, rfl, by first | simp only [putsL, List.foldl, Act.put, List.setIfInBounds_toArray, List.set_cons_zero, List.set_cons_succ] | rfl, hS0, by constructor <;> (intro h; cases h)⟩
          · intro listed a' w i hsz hI hi
            obtain ⟨b13, b14, b21, b22, b23, b24, v13, v14, v21, v22, v23, v24, rfl, rfl, hS, hF⟩ := hI
            have hun := (mem_ready.1 hi).1
            obtain ⟨_, o, ho, -⟩ := mem_ready.1 hi
            have hi15 : i < 25 := (Array.getElem?_eq_some_iff.1 ho).1
            clear ho
            have hnot : i ≠ 0 ∧ i ≠ 1 ∧ i ≠ 2 ∧ i ≠ 3 ∧ i ≠ 4 ∧ i ≠ 5 ∧ i ≠ 6 ∧ i ≠ 7 ∧ i ≠ 8 ∧ i ≠ 9 ∧ i ≠ 10 ∧ i ≠ 11 ∧ i ≠ 12 ∧ i ≠ 15 ∧ i ≠ 16 ∧ i ≠ 17 ∧ i ≠ 18 ∧ i ≠ 19 ∧ i ≠ 20 := by refine ⟨?_, ?_, ?_, ?_, ?_, ?_, ?_, ?_, ?_, ?_, ?_, ?_, ?_, ?_, ?_, ?_, ?_, ?_, ?_⟩ <;> (rintro rfl; cases hun)
            have hwhich : i = 13 ∨ i = 14 ∨ i = 21 ∨ i = 22 ∨ i = 23 ∨ i = 24 := by omega
            clear hi15 hnot
            simp only [putsL, List.foldl, Act.put, List.setIfInBounds_toArray, List.set_cons_zero, List.set_cons_succ]
            rcases hwhich with rfl | rfl | rfl | rfl | rfl | rfl
            · obtain rfl : b13 = false := hun
              refine wpOp_go rfl rfl (fun K' hK => ?_)
              have hb := (Below.refl w.heap.size w).alloc (Nat.le_refl _) (.cells #[.string u.nm, .string u.un] 9)
              refine wp_build_to (some 93) 23 9 2 _ rfl rfl Tryz.underlying23 #[.string u.nm, .string u.un] (by with_unfolding_all exact built2 u.nm u.un) ?_
              refine hK _ _ ⟨below_call hS hb, ?_⟩
              exact ⟨true, b14, b21, b22, b23, b24, .slice (some ⟨w.heap.size, 0, none⟩) 2 2, v14, v21, v22, v23, v24, rfl, by first | simp only [Act.put, List.setIfInBounds_toArray, List.set_cons_zero, List.set_cons_succ] | rfl, below_call hS hb, ⟨fun _ => ⟨_, rfl, strs_new w [u.nm, u.un] (Nat.le_refl _)⟩, (hF.below hb).z14, (hF.below hb).z21, (hF.below hb).z22, (hF.below hb).z23, (hF.below hb).z24⟩⟩
            · obtain rfl : b14 = false := hun
              have d13 : b13 = true := ready_on 13 hi (by kernel_rfl)
              subst d13
              obtain ⟨h13, rfl, s13⟩ := hF.z13 rfl
              refine wpOp_go rfl rfl (fun K' hK => ?_)
              go_simp
              (with_reducible refine (lnames_b _ [u.nm, u.un] _ w s13 (hid rfl)).mono ?_)
              rintro e w1 ⟨rfl, hb⟩
              refine hK _ _ ⟨below_call hS hb, ?_⟩
              exact ⟨true, true, b21, b22, b23, b24, .slice (some ⟨h13, 0, none⟩) 2 2, .int .i64 (wrap64 ((namesS [u.nm, u.un] : Nat))), v21, v22, v23, v24, rfl, by first | simp only [putsL, List.foldl, Act.put, List.setIfInBounds_toArray, List.set_cons_zero, List.set_cons_succ] | rfl, below_call hS hb, ⟨(hF.below hb).z13, fun _ => rfl, (hF.below hb).z21, (hF.below hb).z22, (hF.below hb).z23, (hF.below hb).z24⟩⟩
            · obtain rfl : b21 = false := hun
              refine wpOp_go rfl rfl (fun K' hK => ?_)
              go_simp
              (with_reducible refine (lnames_b _ u.needs _ w (kn.below hS) (hid rfl)).mono ?_)
              rintro e w1 ⟨rfl, hb⟩
              refine hK _ _ ⟨below_call hS hb, ?_⟩
              exact ⟨b13, b14, true, b22, b23, b24, v13, v14, .int .i64 (wrap64 ((namesS u.needs : Nat))), v22, v23, v24, rfl, by first | simp only [putsL, List.foldl, Act.put, List.setIfInBounds_toArray, List.set_cons_zero, List.set_cons_succ] | rfl, below_call hS hb, ⟨(hF.below hb).z13, (hF.below hb).z14, fun _ => rfl, (hF.below hb).z22, (hF.below hb).z23, (hF.below hb).z24⟩⟩
            · obtain rfl : b22 = false := hun
              have d14 : b14 = true := ready_on 14 hi (by kernel_rfl)
              subst d14
              have d21 : b21 = true := ready_on 21 hi (by kernel_rfl)
              subst d21
              obtain rfl := hF.z14 rfl
              obtain rfl := hF.z21 rfl
              refine wpOp_go rfl rfl (fun K' hK => ?_)
              go_simp
              try simp only [wrap_leftL]
              refine hK _ _ ⟨hS, ?_⟩
              exact ⟨b13, true, true, true, b23, b24, v13, .int .i64 (wrap64 ((namesS [u.nm, u.un] : Nat))), .int .i64 (wrap64 ((namesS u.needs : Nat))), .int .i64 (wrap64 (wrap64 ((namesS [u.nm, u.un] : Nat)) + wrap64 ((namesS u.needs : Nat)))), v23, v24, rfl, by first | simp only [putsL, List.foldl, Act.put, List.setIfInBounds_toArray, List.set_cons_zero, List.set_cons_succ] | rfl, hS, ⟨hF.z13, hF.z14, hF.z21, fun _ => rfl, hF.z23, hF.z24⟩⟩
            · obtain rfl : b23 = false := hun
              have d22 : b22 = true := ready_on 22 hi (by kernel_rfl)
              subst d22
              obtain rfl := hF.z22 rfl
              refine wpOp_go rfl rfl (fun K' hK => ?_)
              go_simp
              try simp only [wrap_leftL]
              refine hK _ _ ⟨hS, ?_⟩
              exact ⟨b13, b14, b21, true, true, b24, v13, v14, v21, .int .i64 (wrap64 (wrap64 ((namesS [u.nm, u.un] : Nat)) + wrap64 ((namesS u.needs : Nat)))), .int .i64 (wrap64 (n + wrap64 (wrap64 ((namesS [u.nm, u.un] : Nat)) + wrap64 ((namesS u.needs : Nat))))), v24, rfl, by first | simp only [putsL, List.foldl, Act.put, List.setIfInBounds_toArray, List.set_cons_zero, List.set_cons_succ] | rfl, hS, ⟨hF.z13, hF.z14, hF.z21, hF.z22, fun _ => rfl, hF.z24⟩⟩
            · obtain rfl : b24 = false := hun
              have d23 : b23 = true := ready_on 23 hi (by kernel_rfl)
              subst d23
              obtain rfl := hF.z23 rfl
              refine wpOp_go rfl rfl (fun K' hK => ?_)
              go_simp
              try simp only [wrap_leftL]
              refine hK _ _ ⟨hS, ?_⟩
              exact ⟨b13, b14, b21, b22, true, true, v13, v14, v21, v22, .int .i64 (wrap64 (n + wrap64 (wrap64 ((namesS [u.nm, u.un] : Nat)) + wrap64 ((namesS u.needs : Nat))))), .int .i64 (wrap64 (n + wrap64 (wrap64 ((namesS [u.nm, u.un] : Nat)) + wrap64 ((namesS u.needs : Nat))))), rfl, by first | simp only [putsL, List.foldl, Act.put, List.setIfInBounds_toArray, List.set_cons_zero, List.set_cons_succ] | rfl, hS, ⟨hF.z13, hF.z14, hF.z21, hF.z22, hF.z23, fun _ => rfl⟩⟩
          · intro listed a' w hI hr
            obtain ⟨b13, b14, b21, b22, b23, b24, v13, v14, v21, v22, v23, v24, rfl, rfl, hS, hF⟩ := hI
            have e13 : b13 = true := ready_end 13 hr (by kernel_rfl)
            subst e13
            have e14 : b14 = true := ready_end 14 hr (by kernel_rfl)
            subst e14
            have e21 : b21 = true := ready_end 21 hr (by kernel_rfl)
            subst e21
            have e22 : b22 = true := ready_end 22 hr (by kernel_rfl)
            subst e22
            have e23 : b23 = true := ready_end 23 hr (by kernel_rfl)
            subst e23
            have e24 : b24 = true := ready_end 24 hr (by kernel_rfl)
            subst e24
            obtain rfl := hF.z24 rfl
            try show Exit.then _ _ Exit.normal _ _
            simp only [putsL, List.foldl, Act.put, List.setIfInBounds_toArray, List.set_cons_zero, List.set_cons_succ]
            have hL3 := hL.trans (hS.mono hL.size)
            have hB3 := hB.below hS
            go_wp2_with fail
            go_roundw
            case rel => exact ⟨j + 1, _, rfl, by go_num, by omega, hB3, hL3, hid (by rw [HS.out, hA.out, ← Nat.add_assoc]; exact sum2 _ _ _)⟩
            case measure => simp [RowKit.intOf]; omega

        · obtain rfl : j = r.ts.length := by omega
          have d1 : ¬ (r.ts.length : Int) < r.ts.length := by omega
          have ha := hA.out
          rw [List.take_length] at ha
          have hb : b = decide ((20000 : Int) < n) := by rw [e.out, ha]; rfl
          subst hb
          clear hat2 hA ha e
          go_wp2_with fail
          go_ret
          exact ⟨rfl, by rw [← hbx]; exact hL⟩
end

end Go.Proofs.YtnjcdmjaecgblaaGreatDoor
