/-
  What the reference of ruletext answers: Set.
-/
import Derived.Test.YtnjcdmjaecgblaaGreatDoorZM02
namespace Go.Proofs.YtnjcdmjaecgblaaGreatDoor
section
open Go.RowKit Go.Lib
def puts (a : Act) (l : List (Nat × Value)) : Act := l.foldl (fun a x => a.put (some x.1) x.2) a
section
variable {P : Program} {Q : Exit → Act → World → Prop} {K : Act → World → Prop} {o : Oper} {a : Act} {w : World}
theorem wp_build0 (d : Option Tmp) (t e : TypeId) (ho : o.op = .buildSlice t 0 #[]) (hd : o.dst = d) {i : TypeInfo} (hu : P.underlying t = some (.slice e)) (hi : P.info? e = some i)
 (h : K (a.put d (.slice (some ⟨w.heap.size, 0, none⟩) 0 0)) (w.alloc (.cells #[] e))) : o.wp P a w K Q := by
 subst hd
 unfold Oper.wp execOp
 have hr : (Instr.buildSlice t 0 #[]).run P w = .ok (.slice (some ⟨w.heap.size, 0, none⟩) 0 0) (w.alloc (.cells #[] e)) := by
  simp [Instr.buildSlice, run_underlying hu, sizeOf, typeInfo, hi, newRow, Instr.fill]
  rw [Array.eq_empty_of_size_eq_zero (show (Array.map (fun _ : Nat => (default : Value)) (Array.range 0)).size = 0 by simp)]
 simp only [ho, List.map_toArray, List.map_nil, Sem.run_bind, hr, Result.andThen_ok]
 exact h
theorem wp_app_run (d : Option Tmp) (s x : Operand) (t ty : TypeId) (ho : o.op = .call { callee := .builtin .append, args := #[s, x], argTypes := #[t, t] }) (hd : o.dst = d) (ht : o.type = ty) (v y : Value) (hs : a.eval s = v) (hx : a.eval x = y) {v' : Value} {w' : World} (hr : (Builtin.append_ #[t, t] ty #[v, y]).run P w = .ok v' w')
 (h : K (a.put d v') w') : o.wp P a w K Q := by
 subst hd ht
 unfold Oper.wp execOp
 simp only [ho, resolve, invoke, builtin, Sem.run_bind, Sem.run_pure, Result.andThen_ok, List.map_toArray, List.map_cons, List.map_nil, hs, hx, hr]
 exact h
theorem wp_alloc_agg (d : Option Tmp) (t : TypeId) (ho : o.op = .alloc t) (hd : o.dst = d) (zs : List Value) (hz : ∀ w, (zeroValue t).run P w = .ok (.agg zs.toArray) w)
 (h : K (a.put d (.pointer (some ⟨w.heap.size, 0, none⟩))) (w.alloc (.cells zs.toArray t))) : o.wp P a w K Q := by
 subst hd
 unfold Oper.wp execOp
 simp only [ho, Instr.alloc, newVar, newRow, Value.cells, Sem.run_bind, Sem.run_pure, Result.andThen_ok, hz]
 simp only [run_newObj, Result.andThen_ok]
 exact h
end
theorem late_go {P : Program} {ops : Array Oper} {Q : Exit → Act → World → Prop} {md : Region.Mode} {S : World → Prop} {lt : Nat → Bool} {i : Nat} {o : Oper} {fuel : Nat} {listed : Array Bool} {a : Act} {w : World} (hr : Region.ready md ops listed = [i]) (ho : ops[i]? = some o) (hg : o.guard = none)
 (h : ∀ K' : Act → World → Prop, Shut (∀ a w, (lt i = false → S w) → wpAnyM P md ops Q S lt fuel (listed.setIfInBounds i true) a w → K' a w) → Oper.wp P o a w K' Q) : wpAnyM P md ops Q S lt (fuel + 1) listed a w :=
 late_one hr ho fun K' hK => by
  rw [if_pos (show Region.wanted o (yielded ops a.tmps) = true by unfold Region.wanted; rw [hg])]
  exact h K' hK
theorem blk_ne {w : World} {b c : Nat} {us vs : List Value} {s t : TypeId} (h : Blk w b us s) (h2 : Blk w c vs t) (ne : s ≠ t) : b ≠ c := fun e => by
 subst e
 unfold Blk at h h2
 rw [h] at h2
 injection h2 with h2
 injection h2 with _ h3
 exact ne h3
theorem blk_farPut {w : World} {b g o : Nat} {us vs : List Value} {t : TypeId} (h : Blk w b us t) (ne : b ≠ g) : Blk (putCells w g o vs) b us t := by
 unfold Blk at *
 rw [putCells_other ne]
 exact h
structure CpF (B nu nw nt : Nat) (lu lw lt : List Value) (b0 b3 b4 b7 b8 b11 b12 b13 : Bool) (v0 v3 v4 v7 v8 v11 v12 v13 : Value) (w : World) : Prop where
 z0 : b0 = true → ∃ g, v0 = .slice (some ⟨g, 0, none⟩) 0 0 ∧ w.ownsRow B 53 19 v0 0 []
 z3 : b3 = true → ∃ g c, v3 = .slice (some ⟨g, 0, none⟩) nu c ∧ w.ownsRow B 53 19 v3 nu lu
 z4 : b4 = true → ∃ g, v4 = .slice (some ⟨g, 0, none⟩) 0 0 ∧ w.ownsRow B 51 6 v4 0 []
 z7 : b7 = true → ∃ g c, v7 = .slice (some ⟨g, 0, none⟩) nw c ∧ w.ownsRow B 51 6 v7 nw lw
 z8 : b8 = true → ∃ g, v8 = .slice (some ⟨g, 0, none⟩) 0 0 ∧ w.ownsRow B 56 8 v8 0 []
 z11 : b11 = true → ∃ g c, v11 = .slice (some ⟨g, 0, none⟩) nt c ∧ w.ownsRow B 56 8 v11 nt lt
 z12 : b12 = true → b3 = true ∧ b7 = true ∧ b11 = true ∧ v12 = .agg #[v3, v7, v11]
 z13 : b13 = true → ∃ h, v13 = .pointer (some ⟨h, 0, none⟩) ∧ B ≤ h ∧ Blk w h [.slice none 0 0, .slice none 0 0, .slice none 0 0] 31
theorem CpF.below {B nu nw nt : Nat} {lu lw lt : List Value} {b0 b3 b4 b7 b8 b11 b12 b13 : Bool} {v0 v3 v4 v7 v8 v11 v12 v13 : Value} {w w' : World} (h : CpF B nu nw nt lu lw lt b0 b3 b4 b7 b8 b11 b12 b13 v0 v3 v4 v7 v8 v11 v12 v13 w) (hb : Below w.heap.size w w') : CpF B nu nw nt lu lw lt b0 b3 b4 b7 b8 b11 b12 b13 v0 v3 v4 v7 v8 v11 v12 v13 w' :=
 ⟨fun e => let ⟨g, e1, q⟩ := h.z0 e; ⟨g, e1, own_below q hb⟩, fun e => let ⟨g, c, e1, q⟩ := h.z3 e; ⟨g, c, e1, own_below q hb⟩, fun e => let ⟨g, e1, q⟩ := h.z4 e; ⟨g, e1, own_below q hb⟩, fun e => let ⟨g, c, e1, q⟩ := h.z7 e; ⟨g, c, e1, own_below q hb⟩,
  fun e => let ⟨g, e1, q⟩ := h.z8 e; ⟨g, e1, own_below q hb⟩, fun e => let ⟨g, c, e1, q⟩ := h.z11 e; ⟨g, c, e1, own_below q hb⟩, h.z12, fun e => let ⟨g, e1, hB, q⟩ := h.z13 e; ⟨g, e1, hB, q.below hb⟩⟩
theorem own_new0 {w : World} {B k : Nat} {e : TypeId} (hB : B ≤ w.heap.size) : (w.alloc (.cells #[] e)).ownsRow B e k (.slice (some ⟨w.heap.size, 0, none⟩) 0 0) 0 [] :=
 ⟨by simp, .inr ⟨w.heap.size, 0, #[], rfl, hB, (Blk.new w [] e :), Nat.le_refl _, by unfold maxLen; omega, by simp, by simp⟩⟩
def SetPost (r : R9) (k : Int) (nm f : ByteArray) (s : List UInt8) (w : World) (e : Ending) (w' : World) : Prop := ∃ su sw st, e = .returned (.tuple #[.agg #[su, sw, st], .int .i64 (setv10 r k nm f s).2]) ∧ RAt w' su sw st (setv10 r k nm f s).1 ∧ Below w.heap.size w w'
set_option maxHeartbeats 8000000 in
set_option maxRecDepth 100000 in
theorem r10set_b (su sw st : Value) (r : R9) (k : Int) (nm f s : ByteArray) (V0 W : World) (hR : RAt V0 su sw st r) (h0 : Below V0.heap.size V0 W) (hs : s.size ≤ 50000) (hu : r.us.length ≤ 10000) (hw : r.ws.length ≤ 10000) (ht : r.ts.length ≤ 10000) :
 Calls Tryz.prog 17 #[.agg #[su, sw, st], .int .i64 k, .string nm, .string f, .string s] W (SetPost r k nm f s.data.toList W) := by
 have hR0 := hid hR
 obtain ⟨csu, hru, hcu⟩ := hR.u.rowU
 obtain ⟨csw, hrw, hcw⟩ := hR.w.rowW
 obtain ⟨cst, hrt, hct⟩ := hR.t.rowT
 obtain ⟨p, c, rfl, hm, -⟩ := hR.u
 obtain ⟨p1, c1, rfl, hm1, -⟩ := hR.w
 obtain ⟨p2, c2, rfl, hm2, -⟩ := hR.t
 have hB := (Blk.new W [.slice p r.us.length c, .slice p1 r.ws.length c1, .slice p2 r.ts.length c2] 31).alloc (.cells [.slice none 0 0, .slice none 0 0, .slice none 0 0].toArray 31)
 have hY := (Blk.new (W.alloc (.cells [.slice p r.us.length c, .slice p1 r.ws.length c1, .slice p2 r.ts.length c2].toArray 31)) [.slice none 0 0, .slice none 0 0, .slice none 0 0] 31).at (World.size_alloc _ _)
 have hL := ((Below.refl W.heap.size W).alloc (Nat.le_refl _) (.cells [.slice p r.us.length c, .slice p1 r.ws.length c1, .slice p2 r.ts.length c2].toArray 31)).alloc (by simp) (.cells [.slice none 0 0, .slice none 0 0, .slice none 0 0].toArray 31)
 clear hR hm hm1 hm2
 obtain ⟨iu, hiu, hju⟩ := Option.map_eq_some_iff.1 infoU9
 obtain ⟨iw, hiw, hjw⟩ := Option.map_eq_some_iff.1 infoW9
 obtain ⟨it, hit, hjt⟩ := Option.map_eq_some_iff.1 infoT9
 injection hju with hu1 hju
 injection hju with hu2 hu3
 injection hjw with hw1 hjw
 injection hjw with hw2 hw3
 injection hjt with ht1 hjt
 injection hjt with ht2 ht3
 obtain ⟨t, htt⟩ : ∃ t, Hid (t = typev k f) := ⟨_, hid rfl⟩
 obtain ⟨n, hn⟩ : ∃ n, Hid (n = findv (namesK r k) nm) := ⟨_, hid rfl⟩
 have hG := hid (show setv10 r k nm f s.data.toList = if t = 0 then ((R9.zero, 1) : R9 × Int) else if n < 0 then (R9.zero, 8) else match readv t s.data.toList with
  | none => (R9.zero, 5)
  | some v => (setK10 r k n.toNat f v, 0) by unfold setv10; rw [htt.out, hn.out]; rfl)
 have su1 := hid (row_src hru (by decide) fun i hi => ⟨(hcu i hi).len, (hcu i hi).lone⟩)
 have sw1 := hid (row_src hrw (by decide) fun i hi => ⟨(hcw i hi).len, WL.lone (hcw i hi)⟩)
 have st1 := hid (row_src hrt (by decide) fun i hi => ⟨(hct i hi).len, (hct i hi).lone⟩)
 replace hcu := hid hcu
 replace hcw := hid hcw
 replace hct := hid hct
 clear hru hrw hrt
 go_enter Tryz.func17, Tryz.ntmps17
 go_upto_region 1 with fail
 generalize (W.alloc (.cells [.slice p r.us.length c, .slice p1 r.ws.length c1, .slice p2 r.ts.length c2].toArray 31)).alloc (.cells [.slice none 0 0, .slice none 0 0, .slice none 0 0].toArray 31) = V at *
 go_wp2_with fail
 ((with_reducible refine (r10type_b k f t _ htt).mono ?_); rintro e w1 ⟨rfl, hb⟩)
 replace hB := hB.below hb
 replace hY := hY.below hb
 replace hL := below_call hL hb
 clear hb
 by_cases h1 : t = 0
 · subst h1
   have hg := hid (show setv10 r k nm f s.data.toList = (R9.zero, 1) by rw [hG.out, if_pos rfl])
   obtain ⟨_, _, _, _, _, _⟩ := hY.three
   go_wp2_with fail
   refine bodyPost_ret (results_agg_two rfl rfl rfl Tryz.isAgg31 Tryz.sizeOf31 (((hY.set 0 _).set 1 _).set 2 _) rfl) rfl ?_
   exact ⟨_, _, _, by rw [hg.out]; rfl, by rw [hg.out]; exact zero_rules _, (((hL.setCell (Nat.le_succ _) _).setCell (Nat.le_succ _) _).setCell (Nat.le_succ _) _)⟩
 have z1 : (t == 0) = false := beq_eq_false_iff_ne.2 h1
 obtain ⟨_, _, _, _, _, _⟩ := hB.three
 go_wp2_with fail
 ((with_reducible refine (r10find_b _ _ _ r k nm n V0 _ hR0.out (h0.trans (hL.mono h0.size)) hn).mono ?_); rintro e w2 ⟨rfl, hb⟩)
 replace hB := hB.below hb
 replace hY := hY.below hb
 replace hL := below_call hL hb
 clear hb
 by_cases h2 : n < 0
 · have z2 : decide (n < 0) = true := decide_eq_true h2
   have hg := hid (show setv10 r k nm f s.data.toList = (R9.zero, 8) by rw [hG.out, if_neg h1, if_pos h2])
   obtain ⟨_, _, _, _, _, _⟩ := hY.three
   go_wp2_with fail
   refine bodyPost_ret (results_agg_two rfl rfl rfl Tryz.isAgg31 Tryz.sizeOf31 (((hY.set 0 _).set 1 _).set 2 _) rfl) rfl ?_
   exact ⟨_, _, _, by rw [hg.out]; rfl, by rw [hg.out]; exact zero_rules _, (((hL.setCell (Nat.le_succ _) _).setCell (Nat.le_succ _) _).setCell (Nat.le_succ _) _)⟩
 have z2 : decide (n < 0) = false := decide_eq_false h2
 go_wp2_with fail
 ((with_reducible refine (r10read_b t s _ hs).mono ?_); rintro e w3 ⟨vs, v, b, rfl, hv, hy, hno, hb⟩)
 replace hB := hB.below hb
 replace hY := hY.below hb
 replace hL := below_call hL hb
 clear hb
 obtain ⟨sl, rfl, hsb⟩ := hv
 have hsl := hsb.str
 clear hsb
 obtain ⟨ps, cs9, rfl, -⟩ := id hsl
 go_upto_region 8 with fail
 have hV : Blk (w3.alloc (Obj.cells #[Value.int IntKind.i64 v.n, Value.bool v.b, Value.string v.s, Value.slice ps v.l.length cs9] 72)) w3.heap.size [Value.int IntKind.i64 v.n, Value.bool v.b, Value.string v.s, Value.slice ps v.l.length cs9] 72 := Blk.new w3 [Value.int IntKind.i64 v.n, Value.bool v.b, Value.string v.s, Value.slice ps v.l.length cs9] 72
 replace hB : Blk (w3.alloc (Obj.cells #[Value.int IntKind.i64 v.n, Value.bool v.b, Value.string v.s, Value.slice ps v.l.length cs9] 72)) W.heap.size [.slice p r.us.length c, .slice p1 r.ws.length c1, .slice p2 r.ts.length c2] 31 := hB.alloc _
 replace hY : Blk (w3.alloc (Obj.cells #[Value.int IntKind.i64 v.n, Value.bool v.b, Value.string v.s, Value.slice ps v.l.length cs9] 72)) (W.heap.size + 1) [.slice none 0 0, .slice none 0 0, .slice none 0 0] 31 := hY.alloc _
 replace hsl : StrSl (w3.alloc (Obj.cells #[Value.int IntKind.i64 v.n, Value.bool v.b, Value.string v.s, Value.slice ps v.l.length cs9] 72)) (.slice ps v.l.length cs9) v.l := hsl.below ((Below.refl _ w3).alloc (Nat.le_refl _) _)
 have hL4 : Below W.heap.size W (w3.alloc (Obj.cells #[Value.int IntKind.i64 v.n, Value.bool v.b, Value.string v.s, Value.slice ps v.l.length cs9] 72)) := hL.alloc hL.size _
 generalize w3.alloc (Obj.cells #[Value.int IntKind.i64 v.n, Value.bool v.b, Value.string v.s, Value.slice ps v.l.length cs9] 72) = w4 at *
 cases b with
 | false =>
  have hg := hid (show setv10 r k nm f s.data.toList = (R9.zero, 5) by rw [hG.out, if_neg h1, if_neg (Int.not_lt.2 h2), hno rfl])
  obtain ⟨_, _, _, _, _, _⟩ := hY.three
  go_wp2_with fail
  refine bodyPost_ret (results_agg_two rfl rfl rfl Tryz.isAgg31 Tryz.sizeOf31 (((hY.set 0 _).set 1 _).set 2 _) rfl) rfl ?_
  exact ⟨_, _, _, by rw [hg.out]; rfl, by rw [hg.out]; exact zero_rules _, (((hL4.setCell (Nat.le_succ _) _).setCell (Nat.le_succ _) _).setCell (Nat.le_succ _) _)⟩
 | true =>
 go_upto_region 10 with fail
 have hmx : Tryz.prog.follows .mixedOrders = true := by kernel_rfl
 go_cut [16] from 39 to 52 (fun s16 wy => ∃ h q0 k0 q1 k1 q2 k2, s16 = .pointer (some ⟨h, 0, none⟩) ∧ w4.heap.size ≤ h ∧ Blk wy h [.slice q0 r.us.length k0, .slice q1 r.ws.length k1, .slice q2 r.ts.length k2] 31 ∧ wy.ownsRow w4.heap.size 53 19 (.slice q0 r.us.length k0) r.us.length (flatR csu r.us.length) ∧ wy.ownsRow w4.heap.size 51 6 (.slice q1 r.ws.length k1) r.ws.length (flatR csw r.ws.length) ∧ wy.ownsRow w4.heap.size 56 8 (.slice q2 r.ts.length k2) r.ts.length (flatR cst r.ts.length) ∧ Below w4.heap.size w4 wy)
 case first =>
  refine wp_region_held (S := fun w' => Below w4.heap.size w4 w') hmx ?_
  show wpAnyH _ _ _ _ _ _ _ _ w4.drew
  have hS0 := (Below.refl w4.heap.size w4).drew
  refine reg_tk (i := 1) (v := .pointer (some ⟨W.heap.size, 0, none⟩)) (some 40) rfl (fun w' hS => by skip; go_simp) hS0 ?_
  simp only [Act.put, List.setIfInBounds_toArray, List.set_cons_zero, List.set_cons_succ]
  refine reg_tk (i := 2) (v := .slice p r.us.length c) (some 41) rfl (fun w' hS => by (obtain ⟨_, _, _, _, _, _⟩ := (hB.below hS).three); go_simp) hS0 ?_
  simp only [Act.put, List.setIfInBounds_toArray, List.set_cons_zero, List.set_cons_succ]
  refine reg_tk (i := 5) (v := .pointer (some ⟨W.heap.size, 1, none⟩)) (some 44) rfl (fun w' hS => by skip; go_simp) hS0 ?_
  simp only [Act.put, List.setIfInBounds_toArray, List.set_cons_zero, List.set_cons_succ]
  refine reg_tk (i := 6) (v := .slice p1 r.ws.length c1) (some 45) rfl (fun w' hS => by (obtain ⟨_, _, _, _, _, _⟩ := (hB.below hS).three); go_simp) hS0 ?_
  simp only [Act.put, List.setIfInBounds_toArray, List.set_cons_zero, List.set_cons_succ]
  refine reg_tk (i := 9) (v := .pointer (some ⟨W.heap.size, 2, none⟩)) (some 48) rfl (fun w' hS => by skip; go_simp) hS0 ?_
  simp only [Act.put, List.setIfInBounds_toArray, List.set_cons_zero, List.set_cons_succ]
  refine reg_tk (i := 10) (v := .slice p2 r.ts.length c2) (some 49) rfl (fun w' hS => by (obtain ⟨_, _, _, _, _, _⟩ := (hB.below hS).three); go_simp) hS0 ?_
  simp only [Act.put, List.setIfInBounds_toArray, List.set_cons_zero, List.set_cons_succ]
  refine wpAnyH_from (I := fun a0 listed a w => ∃ b0 b3 b4 b7 b8 b11 b12 b13 b14 v0 v3 v4 v7 v8 v11 v12 v13, listed = #[b0, true, true, b3, b4, true, true, b7, b8, true, true, b11, b12, b13, b14] ∧ a = puts a0 [(39, v0), (42, v3), (43, v4), (46, v7), (47, v8), (50, v11), (51, v12), (16, v13)] ∧ Below w4.heap.size w4 w ∧ ((b14 = false ∧ CpF w4.heap.size r.us.length r.ws.length r.ts.length (flatR csu r.us.length) (flatR csw r.ws.length) (flatR cst r.ts.length) b0 b3 b4 b7 b8 b11 b12 b13 v0 v3 v4 v7 v8 v11 v12 v13 w) ∨ (b14 = true ∧ (b0 = true ∧ b3 = true ∧ b4 = true ∧ b7 = true ∧ b8 = true ∧ b11 = true ∧ b12 = true ∧ b13 = true) ∧ ∃ h q0 k0 q1 k1 q2 k2, v13 = .pointer (some ⟨h, 0, none⟩) ∧ w4.heap.size ≤ h ∧ Blk w h [.slice q0 r.us.length k0, .slice q1 r.ws.length k1, .slice q2 r.ts.length k2] 31 ∧ w.ownsRow w4.heap.size 53 19 (.slice q0 r.us.length k0) r.us.length (flatR csu r.us.length) ∧ w.ownsRow w4.heap.size 51 6 (.slice q1 r.ws.length k1) r.ws.length (flatR csw r.ws.length) ∧ w.ownsRow w4.heap.size 56 8 (.slice q2 r.ts.length k2) r.ts.length (flatR cst r.ts.length)))) (by decide) rfl ?_ ?_ ?_
  · exact ⟨false, false, false, false, false, false, false, false, false, undef, undef, undef, undef, undef, undef, undef, undef, rfl, by simp only [puts, List.foldl, Act.put, List.setIfInBounds_toArray, List.set_cons_zero, List.set_cons_succ], hS0, .inl ⟨rfl, by constructor <;> (intro h; cases h)⟩⟩
  · intro listed a' w i hsz hI hi
    obtain ⟨b0, b3, b4, b7, b8, b11, b12, b13, b14, v0, v3, v4, v7, v8, v11, v12, v13, rfl, rfl, hS, hF⟩ := hI
    have hun := (mem_ready.1 hi).1
    obtain ⟨_, o, ho, -⟩ := mem_ready.1 hi
    have hi15 : i < 15 := (Array.getElem?_eq_some_iff.1 ho).1
    clear ho
    have hnot : i ≠ 1 ∧ i ≠ 2 ∧ i ≠ 5 ∧ i ≠ 6 ∧ i ≠ 9 ∧ i ≠ 10 := by refine ⟨?_, ?_, ?_, ?_, ?_, ?_⟩ <;> (rintro rfl; cases hun)
    have hwhich : i = 0 ∨ i = 3 ∨ i = 4 ∨ i = 7 ∨ i = 8 ∨ i = 11 ∨ i = 12 ∨ i = 13 ∨ i = 14 := by omega
    clear hi15 hnot
    have hG9 : b14 = false ∧ CpF w4.heap.size r.us.length r.ws.length r.ts.length (flatR csu r.us.length) (flatR csw r.ws.length) (flatR cst r.ts.length) b0 b3 b4 b7 b8 b11 b12 b13 v0 v3 v4 v7 v8 v11 v12 v13 w := by
     rcases hF with hF | ⟨rfl, ⟨rfl, rfl, rfl, rfl, rfl, rfl, rfl, rfl⟩, -⟩
     · exact hF
     · exfalso
       rcases hwhich with rfl | rfl | rfl | rfl | rfl | rfl | rfl | rfl | rfl <;> cases hun
    clear hF
    obtain ⟨rfl, hF⟩ := hG9
    have hV := below_call (h0.trans (hL4.mono h0.size)) hS
    simp only [puts, List.foldl, Act.put, List.setIfInBounds_toArray, List.set_cons_zero, List.set_cons_succ]
    rcases hwhich with rfl | rfl | rfl | rfl | rfl | rfl | rfl | rfl | rfl
    · obtain rfl : b0 = false := hun
      refine wpOp_go rfl rfl (fun K' hK => ?_)
      have hb := (Below.refl w.heap.size w).alloc (Nat.le_refl _) (.cells #[] 53)
      refine wp_build0 (some 39) 27 53 rfl rfl Tryz.underlying27 hiu ?_
      refine hK _ _ ⟨below_call hS hb, ?_⟩
      exact ⟨true, b3, b4, b7, b8, b11, b12, b13, false, .slice (some ⟨w.heap.size, 0, none⟩) 0 0, v3, v4, v7, v8, v11, v12, v13, rfl, by simp only [Act.put, List.setIfInBounds_toArray, List.set_cons_zero, List.set_cons_succ], below_call hS hb, .inl ⟨rfl, ⟨fun _ => ⟨_, rfl, own_new0 hS.size⟩, (hF.below hb).z3, (hF.below hb).z4, (hF.below hb).z7, (hF.below hb).z8, (hF.below hb).z11, (hF.below hb).z12, (hF.below hb).z13⟩⟩⟩
    · obtain rfl : b3 = false := hun
      refine wpOp_go rfl rfl (fun K' hK => ?_)
      have d0 : b0 = true := ready_on 0 hi (by kernel_rfl)
      subst d0
      obtain ⟨g, rfl, q0⟩ := hF.z0 rfl
      obtain ⟨g', c', w', hr, hb, hown⟩ := app_new (P := Tryz.prog) (ty := 27) (c := c) Tryz.underlying27 hiu hu1 hu2 hu3 rfl (by decide) q0 (su1.out.below hV) (by omega) (by decide) hS.size
      refine wp_app_run (some 42) (.tmp 39) (.tmp 41) 27 27 rfl rfl rfl _ _ (by with_unfolding_all rfl) (by with_unfolding_all rfl) hr ?_
      refine hK _ _ ⟨below_call hS hb, ?_⟩
      exact ⟨true, true, b4, b7, b8, b11, b12, b13, false, .slice (some ⟨g, 0, none⟩) 0 0, (.slice (some ⟨g', 0, none⟩) r.us.length c'), v4, v7, v8, v11, v12, v13, rfl, by simp only [Act.put, List.setIfInBounds_toArray, List.set_cons_zero, List.set_cons_succ], below_call hS hb, .inl ⟨rfl, ⟨(hF.below hb).z0, fun _ => ⟨_, _, rfl, hown⟩, (hF.below hb).z4, (hF.below hb).z7, (hF.below hb).z8, (hF.below hb).z11, fun e => absurd (hF.z12 e).1 (by decide), (hF.below hb).z13⟩⟩⟩
    · obtain rfl : b4 = false := hun
      refine wpOp_go rfl rfl (fun K' hK => ?_)
      have hb := (Below.refl w.heap.size w).alloc (Nat.le_refl _) (.cells #[] 51)
      refine wp_build0 (some 43) 28 51 rfl rfl Tryz.underlying28 hiw ?_
      refine hK _ _ ⟨below_call hS hb, ?_⟩
      exact ⟨b0, b3, true, b7, b8, b11, b12, b13, false, v0, v3, .slice (some ⟨w.heap.size, 0, none⟩) 0 0, v7, v8, v11, v12, v13, rfl, by simp only [Act.put, List.setIfInBounds_toArray, List.set_cons_zero, List.set_cons_succ], below_call hS hb, .inl ⟨rfl, ⟨(hF.below hb).z0, (hF.below hb).z3, fun _ => ⟨_, rfl, own_new0 hS.size⟩, (hF.below hb).z7, (hF.below hb).z8, (hF.below hb).z11, (hF.below hb).z12, (hF.below hb).z13⟩⟩⟩
    · obtain rfl : b7 = false := hun
      refine wpOp_go rfl rfl (fun K' hK => ?_)
      have d4 : b4 = true := ready_on 4 hi (by kernel_rfl)
      subst d4
      obtain ⟨g, rfl, q0⟩ := hF.z4 rfl
      obtain ⟨g', c', w', hr, hb, hown⟩ := app_new (P := Tryz.prog) (ty := 28) (c := c1) Tryz.underlying28 hiw hw1 hw2 hw3 rfl (by decide) q0 (sw1.out.below hV) (by omega) (by decide) hS.size
      refine wp_app_run (some 46) (.tmp 43) (.tmp 45) 28 28 rfl rfl rfl _ _ (by with_unfolding_all rfl) (by with_unfolding_all rfl) hr ?_
      refine hK _ _ ⟨below_call hS hb, ?_⟩
      exact ⟨b0, b3, true, true, b8, b11, b12, b13, false, v0, v3, .slice (some ⟨g, 0, none⟩) 0 0, (.slice (some ⟨g', 0, none⟩) r.ws.length c'), v8, v11, v12, v13, rfl, by simp only [Act.put, List.setIfInBounds_toArray, List.set_cons_zero, List.set_cons_succ], below_call hS hb, .inl ⟨rfl, ⟨(hF.below hb).z0, (hF.below hb).z3, (hF.below hb).z4, fun _ => ⟨_, _, rfl, hown⟩, (hF.below hb).z8, (hF.below hb).z11, fun e => absurd (hF.z12 e).2.1 (by decide), (hF.below hb).z13⟩⟩⟩
    · obtain rfl : b8 = false := hun
      refine wpOp_go rfl rfl (fun K' hK => ?_)
      have hb := (Below.refl w.heap.size w).alloc (Nat.le_refl _) (.cells #[] 56)
      refine wp_build0 (some 47) 29 56 rfl rfl Tryz.underlying29 hit ?_
      refine hK _ _ ⟨below_call hS hb, ?_⟩
      exact ⟨b0, b3, b4, b7, true, b11, b12, b13, false, v0, v3, v4, v7, .slice (some ⟨w.heap.size, 0, none⟩) 0 0, v11, v12, v13, rfl, by simp only [Act.put, List.setIfInBounds_toArray, List.set_cons_zero, List.set_cons_succ], below_call hS hb, .inl ⟨rfl, ⟨(hF.below hb).z0, (hF.below hb).z3, (hF.below hb).z4, (hF.below hb).z7, fun _ => ⟨_, rfl, own_new0 hS.size⟩, (hF.below hb).z11, (hF.below hb).z12, (hF.below hb).z13⟩⟩⟩
    · obtain rfl : b11 = false := hun
      refine wpOp_go rfl rfl (fun K' hK => ?_)
      have d8 : b8 = true := ready_on 8 hi (by kernel_rfl)
      subst d8
      obtain ⟨g, rfl, q0⟩ := hF.z8 rfl
      obtain ⟨g', c', w', hr, hb, hown⟩ := app_new (P := Tryz.prog) (ty := 29) (c := c2) Tryz.underlying29 hit ht1 ht2 ht3 rfl (by decide) q0 (st1.out.below hV) (by omega) (by decide) hS.size
      refine wp_app_run (some 50) (.tmp 47) (.tmp 49) 29 29 rfl rfl rfl _ _ (by with_unfolding_all rfl) (by with_unfolding_all rfl) hr ?_
      refine hK _ _ ⟨below_call hS hb, ?_⟩
      exact ⟨b0, b3, b4, b7, true, true, b12, b13, false, v0, v3, v4, v7, .slice (some ⟨g, 0, none⟩) 0 0, (.slice (some ⟨g', 0, none⟩) r.ts.length c'), v12, v13, rfl, by simp only [Act.put, List.setIfInBounds_toArray, List.set_cons_zero, List.set_cons_succ], below_call hS hb, .inl ⟨rfl, ⟨(hF.below hb).z0, (hF.below hb).z3, (hF.below hb).z4, (hF.below hb).z7, (hF.below hb).z8, fun _ => ⟨_, _, rfl, hown⟩, fun e => absurd (hF.z12 e).2.2.1 (by decide), (hF.below hb).z13⟩⟩⟩
    · obtain rfl : b12 = false := hun
      refine wpOp_go rfl rfl (fun K' hK => ?_)
      have d3 : b3 = true := ready_on 3 hi (by kernel_rfl)
      subst d3
      have d7 : b7 = true := ready_on 7 hi (by kernel_rfl)
      subst d7
      have d11 : b11 = true := ready_on 11 hi (by kernel_rfl)
      subst d11
      obtain ⟨g3, c3, rfl, q3⟩ := hF.z3 rfl
      obtain ⟨g7, c7, rfl, q7⟩ := hF.z7 rfl
      obtain ⟨g11, c11, rfl, q11⟩ := hF.z11 rfl
      go_simp
      refine hK _ _ ⟨hS, ?_⟩
      exact ⟨b0, true, b4, true, b8, true, true, b13, false, v0, .slice (some ⟨g3, 0, none⟩) r.us.length c3, v4, .slice (some ⟨g7, 0, none⟩) r.ws.length c7, v8, .slice (some ⟨g11, 0, none⟩) r.ts.length c11, (.agg #[.slice (some ⟨g3, 0, none⟩) r.us.length c3, .slice (some ⟨g7, 0, none⟩) r.ws.length c7, .slice (some ⟨g11, 0, none⟩) r.ts.length c11]), v13, rfl, by simp only, hS, .inl ⟨rfl, ⟨hF.z0, hF.z3, hF.z4, hF.z7, hF.z8, hF.z11, fun _ => ⟨rfl, rfl, rfl, rfl⟩, hF.z13⟩⟩⟩
    · obtain rfl : b13 = false := hun
      refine wpOp_go rfl rfl (fun K' hK => ?_)
      have hb := (Below.refl w.heap.size w).alloc (Nat.le_refl _) (.cells [.slice none 0 0, .slice none 0 0, .slice none 0 0].toArray 31)
      refine wp_alloc_agg (some 16) 31 rfl rfl [.slice none 0 0, .slice none 0 0, .slice none 0 0] Tryz.zeroValue31 ?_
      refine hK _ _ ⟨below_call hS hb, ?_⟩
      exact ⟨b0, b3, b4, b7, b8, b11, b12, true, false, v0, v3, v4, v7, v8, v11, v12, .pointer (some ⟨w.heap.size, 0, none⟩), rfl, by simp only [Act.put, List.setIfInBounds_toArray, List.set_cons_zero, List.set_cons_succ], below_call hS hb, .inl ⟨rfl, ⟨(hF.below hb).z0, (hF.below hb).z3, (hF.below hb).z4, (hF.below hb).z7, (hF.below hb).z8, (hF.below hb).z11, (hF.below hb).z12, fun _ => ⟨_, rfl, hS.size, Blk.new w [.slice none 0 0, .slice none 0 0, .slice none 0 0] 31⟩⟩⟩⟩
    · refine wpOp_go rfl rfl (fun K' hK => ?_)
      have d0 : b0 = true := ready_on 0 hi (by kernel_rfl)
      subst d0
      have d3 : b3 = true := ready_on 3 hi (by kernel_rfl)
      subst d3
      have d4 : b4 = true := ready_on 4 hi (by kernel_rfl)
      subst d4
      have d7 : b7 = true := ready_on 7 hi (by kernel_rfl)
      subst d7
      have d8 : b8 = true := ready_on 8 hi (by kernel_rfl)
      subst d8
      have d11 : b11 = true := ready_on 11 hi (by kernel_rfl)
      subst d11
      have d12 : b12 = true := ready_on 12 hi (by kernel_rfl)
      subst d12
      have d13 : b13 = true := ready_on 13 hi (by kernel_rfl)
      subst d13
      obtain ⟨g3, c3, rfl, q3⟩ := hF.z3 rfl
      obtain ⟨g7, c7, rfl, q7⟩ := hF.z7 rfl
      obtain ⟨g11, c11, rfl, q11⟩ := hF.z11 rfl
      obtain ⟨h, rfl, hh, hH⟩ := hF.z13 rfl
      obtain ⟨-, -, -, rfl⟩ := hF.z12 rfl
      obtain ⟨_, _, _, _, _, _⟩ := hH.three
      obtain ⟨g0, rfl, -⟩ := hF.z0 rfl
      obtain ⟨g4, rfl, -⟩ := hF.z4 rfl
      obtain ⟨g8, rfl, -⟩ := hF.z8 rfl
      go_simp
      refine hK _ _ ⟨((hS.setCell hh _).setCell hh _).setCell hh _, ?_⟩
      exact ⟨true, true, true, true, true, true, true, true, true, .slice (some ⟨g0, 0, none⟩) 0 0, .slice (some ⟨g3, 0, none⟩) r.us.length c3, .slice (some ⟨g4, 0, none⟩) 0 0, .slice (some ⟨g7, 0, none⟩) r.ws.length c7, .slice (some ⟨g8, 0, none⟩) 0 0, .slice (some ⟨g11, 0, none⟩) r.ts.length c11, .agg #[.slice (some ⟨g3, 0, none⟩) r.us.length c3, .slice (some ⟨g7, 0, none⟩) r.ws.length c7, .slice (some ⟨g11, 0, none⟩) r.ts.length c11], .pointer (some ⟨h, 0, none⟩), rfl, by simp only, ((hS.setCell hh _).setCell hh _).setCell hh _, .inr ⟨rfl, ⟨rfl, rfl, rfl, rfl, rfl, rfl, rfl, rfl⟩, h, some ⟨g3, 0, none⟩, c3, some ⟨g7, 0, none⟩, c7, some ⟨g11, 0, none⟩, c11, rfl, hh, ((hH.set 0 _).set 1 _).set 2 _, (own_byType (own_byType (own_byType q3 hH (by decide) (fun k hk => Below.heap_setCell _ _ _ k hk)) (hH.set 0 _) (by decide) (fun k hk => Below.heap_setCell _ _ _ k hk)) ((hH.set 0 _).set 1 _) (by decide) (fun k hk => Below.heap_setCell _ _ _ k hk)), (own_byType (own_byType (own_byType q7 hH (by decide) (fun k hk => Below.heap_setCell _ _ _ k hk)) (hH.set 0 _) (by decide) (fun k hk => Below.heap_setCell _ _ _ k hk)) ((hH.set 0 _).set 1 _) (by decide) (fun k hk => Below.heap_setCell _ _ _ k hk)), (own_byType (own_byType (own_byType q11 hH (by decide) (fun k hk => Below.heap_setCell _ _ _ k hk)) (hH.set 0 _) (by decide) (fun k hk => Below.heap_setCell _ _ _ k hk)) ((hH.set 0 _).set 1 _) (by decide) (fun k hk => Below.heap_setCell _ _ _ k hk))⟩⟩
  · intro listed a' w hI hr
    obtain ⟨b0, b3, b4, b7, b8, b11, b12, b13, b14, v0, v3, v4, v7, v8, v11, v12, v13, rfl, rfl, hS, hF⟩ := hI
    rcases hF with ⟨rfl, hF⟩ | ⟨rfl, -, h, q0, k0, q1, k1, q2, k2, rfl, hh, hH, y1, y2, y3⟩
    · exfalso
      have e0 : b0 = true := ready_end 0 hr (by kernel_rfl)
      subst e0
      have e4 : b4 = true := ready_end 4 hr (by kernel_rfl)
      subst e4
      have e8 : b8 = true := ready_end 8 hr (by kernel_rfl)
      subst e8
      have e13 : b13 = true := ready_end 13 hr (by kernel_rfl)
      subst e13
      have e3 : b3 = true := ready_end 3 hr (by kernel_rfl)
      subst e3
      have e7 : b7 = true := ready_end 7 hr (by kernel_rfl)
      subst e7
      have e11 : b11 = true := ready_end 11 hr (by kernel_rfl)
      subst e11
      have e12 : b12 = true := ready_end 12 hr (by kernel_rfl)
      subst e12
      have e14 : false = true := ready_end 14 hr (by kernel_rfl)
      cases e14
    · show Exit.then _ _ Exit.normal _ _
      simp only [puts, List.foldl, Act.put, List.setIfInBounds_toArray, List.set_cons_zero, List.set_cons_succ]
      go_wp2_with fail
      go_meet
      case rel => exact ⟨h, q0, k0, q1, k1, q2, k2, rfl, hh, hH, y1, y2, y3, hS⟩
 case rest =>
  obtain ⟨h, q0, k0, q1, k1, q2, k2, rfl, hh, hH, y1, y2, y3, hc⟩ := hcut
  obtain ⟨n1, n2, n3⟩ := names_len r
  have hfk := (type_of (show ¬ typev k f = 0 by rw [← htt.out]; exact h1)).1
  have hlt : n.toNat < (namesK r k).length := by rw [hn.out]; exact findv_at (by rw [← hn.out]; omega)
  obtain ⟨i, rfl⟩ : ∃ i : Nat, n = i := ⟨n.toNat, by omega⟩
  rw [Int.toNat_natCast] at hlt
  have hg := hid (show setv10 r k nm f s.data.toList = (setK10 r k i f v, 0) by rw [hG.out, if_neg h1, if_neg (Int.not_lt.2 h2), hy rfl]; rfl)
  have hVw := below_call (h0.trans (hL4.mono h0.size)) hc
  replace hY := hY.below hc
  replace hV := hV.below hc
  have hV4 := h0.trans (hL4.mono h0.size)
  have hvl : VL w4 [Value.int IntKind.i64 v.n, Value.bool v.b, Value.string v.s, Value.slice ps v.l.length cs9] v := ⟨_, rfl, hsl⟩
  have hsz4 := hL4.size
  have hLc := below_call hL4 hc
  rcases kind_of hfk with rfl | rfl | rfl
  · rw [n1] at hlt
    have d0 : (0 : Int) ≤ i := by omega
    have d1 : (i : Int) < r.us.length := by omega
    obtain ⟨g, rfl⟩ := own_g y1 (by omega)
    have hrv := own_rowV y1 hu (fun j hj => (hcu.out j hj).len)
    obtain ⟨_, _, e9, -, hc9⟩ := hrv
    injection e9 with e91 _ e92
    subst e91 e92
    obtain ⟨g9, o9, e9, hg9, hi9⟩ := hc9 (by omega)
    injection e9 with e9
    injection e9 with e91 e92
    subst e91 e92
    have hcell := hi9 i hlt
    rw [Nat.zero_add] at hcell
    replace hcell := hid hcell
    clear hi9 hc9
    have z1 : (((1 : Int) == 1) = true) := rfl
    go_upto_region 13 with fail
    refine wp_region_any hmx (wpAny_of_late (lt := (fun x => x == 12)) (S := fun w' => Below wc.heap.size wc w') _ _ _ _ ?_)
    show wpAnyM _ _ _ _ _ _ _ _ _ wc.drew
    have hS0 := (Below.refl wc.heap.size wc).drew
    refine late_tk (lt := (fun x => x == 12)) (i := 0) (v := .pointer (some ⟨h, 0, none⟩)) (some 55) rfl (fun w' hS => by skip; go_simp) hS0 ?_
    simp only [Act.put, List.setIfInBounds_toArray, List.set_cons_zero, List.set_cons_succ]
    refine late_tk (lt := (fun x => x == 12)) (i := 1) (v := .slice (some ⟨g, 0, none⟩) r.us.length k0) (some 56) rfl (fun w' hS => by obtain ⟨_, _, _, _, _, _⟩ := (hH.below hS).three; go_simp) hS0 ?_
    simp only [Act.put, List.setIfInBounds_toArray, List.set_cons_zero, List.set_cons_succ]
    refine late_tk (lt := (fun x => x == 12)) (i := 2) (v := .int .i64 i) (some 57) rfl (fun w' hS => by skip; go_simp) hS0 ?_
    simp only [Act.put, List.setIfInBounds_toArray, List.set_cons_zero, List.set_cons_succ]
    refine late_tk (lt := (fun x => x == 12)) (i := 3) (v := .pointer (some ⟨h, 0, none⟩)) (some 58) rfl (fun w' hS => by skip; go_simp) hS0 ?_
    simp only [Act.put, List.setIfInBounds_toArray, List.set_cons_zero, List.set_cons_succ]
    refine late_tk (lt := (fun x => x == 12)) (i := 4) (v := .slice (some ⟨g, 0, none⟩) r.us.length k0) (some 59) rfl (fun w' hS => by obtain ⟨_, _, _, _, _, _⟩ := (hH.below hS).three; go_simp) hS0 ?_
    simp only [Act.put, List.setIfInBounds_toArray, List.set_cons_zero, List.set_cons_succ]
    refine late_tk (lt := (fun x => x == 12)) (i := 5) (v := .int .i64 i) (some 60) rfl (fun w' hS => by skip; go_simp) hS0 ?_
    simp only [Act.put, List.setIfInBounds_toArray, List.set_cons_zero, List.set_cons_succ]
    refine late_tk (lt := (fun x => x == 12)) (i := 6) (v := .pointer (some ⟨g, i * 19, none⟩)) (some 61) rfl (fun w' hS => by skip; go_simp) hS0 ?_
    simp only [Act.put, List.setIfInBounds_toArray, List.set_cons_zero, List.set_cons_succ]
    refine late_tk (lt := (fun x => x == 12)) (i := 7) (v := .agg (csu i).toArray) (some 62) rfl (fun w' hS => exec_load_agg 53 _ rfl ⟨g, i * 19, none⟩ (by with_unfolding_all rfl) Tryz.isAgg53 Tryz.sizeOf53 (csu i) ((hcell.out.1.below' hg9 hS).loads hcell.out.2)) hS0 ?_
    simp only [Act.put, List.setIfInBounds_toArray, List.set_cons_zero, List.set_cons_succ]
    refine late_tk (lt := (fun x => x == 12)) (i := 8) (v := .string f) (some 63) rfl (fun w' hS => by skip; go_simp) hS0 ?_
    simp only [Act.put, List.setIfInBounds_toArray, List.set_cons_zero, List.set_cons_succ]
    refine late_tk (lt := (fun x => x == 12)) (i := 9) (v := .agg [Value.int IntKind.i64 v.n, Value.bool v.b, Value.string v.s, Value.slice ps v.l.length cs9].toArray) (some 64) rfl (fun w' hS => exec_load_agg 72 _ rfl ⟨w3.heap.size, 0, none⟩ (by with_unfolding_all rfl) Tryz.isAgg72 Tryz.sizeOf72 [Value.int IntKind.i64 v.n, Value.bool v.b, Value.string v.s, Value.slice ps v.l.length cs9] ((hV.below hS).loads rfl)) hS0 ?_
    simp only [Act.put, List.setIfInBounds_toArray, List.set_cons_zero, List.set_cons_succ]
    refine late_one (i := 10) (by kernel_rfl) rfl (fun K hQ => ?_)
    go_simp
    (with_reducible refine (r10wiU_b (r.us[i]'hlt) (csu i) [Value.int IntKind.i64 v.n, Value.bool v.b, Value.string v.s, Value.slice ps v.l.length cs9] v f w4 _ ((hcu.out i hlt).below hV4) hvl hfk).mono ?_)
    rintro e w5 ⟨vs, rfl, hvs, hb⟩
    have hS1 := below_call hS0 hb
    refine hQ.out _ _ (fun _ => hS1) ?_
    clear hQ
    try simp only [Act.put, List.setIfInBounds_toArray, List.set_cons_zero, List.set_cons_succ]
    refine late_tk (lt := (fun x => x == 12)) (i := 11) (v := .pointer (some ⟨g, i * 19, none⟩)) (some 66) rfl (fun w' hS => by skip; go_simp) hS1 ?_
    simp only [Act.put, List.setIfInBounds_toArray, List.set_cons_zero, List.set_cons_succ]
    replace y1 := own_below y1 hS1
    replace y2 := own_below y2 hS1
    replace y3 := own_below y3 hS1
    replace hH := hH.below hS1
    replace hY := hY.below hS1
    replace hLc := below_call hLc hS1
    obtain ⟨cur, hcur, hcl, hgB⟩ := own_blk y1
    have hng := blk_ne hH hcur (by decide)
    have hni := Nat.mul_le_mul_right 19 (show i + 1 ≤ r.us.length by omega)
    rw [Nat.succ_mul] at hni
    refine late_go (i := 12) (by kernel_rfl) rfl rfl (fun K hQ => ?_)
    refine wp_store_in 53 (.tmp 66) (.tmp 65) rfl rfl g (i * 19) (by with_unfolding_all rfl) Tryz.sizeOf53 vs (by with_unfolding_all rfl) hvs.len hcur (by omega) hvs.lone ?_
    refine hQ.out _ _ (fun h => by cases h) ?_
    clear hQ
    try simp only [Act.put, List.setIfInBounds_toArray, List.set_cons_zero, List.set_cons_succ]
    refine late_done (by kernel_rfl) ?_ _
    have hcW := hc.trans (hS1.mono hc.size)
    have hX4 := below_putCells hgB vs (i * 19) hcW
    replace hLc := below_putCells (show W.heap.size ≤ g by omega) vs (i * 19) hLc
    replace hY := blk_farPut (o := i * 19) (vs := vs) hY (blk_ne hY hcur (by decide))
    replace hH := blk_farPut (o := i * 19) (vs := vs) hH hng
    replace y1 := own_putIn (vs := vs) (o := i * 19) y1 (by rw [hvs.len]; omega)
    rw [flatR_put (by decide) (fun j hj => (hcu.out j hj).len) hlt hvs.len] at y1
    replace y2 := own_byType y2 hcur (by decide) (fun k hk => putCells_other hk vs (i * 19) w5)
    replace y3 := own_byType y3 hcur (by decide) (fun k hk => putCells_other hk vs (i * 19) w5)
    generalize putCells w5 g (i * 19) vs = X at *
    clear hcur hcl hcell hV hvl hsl hS0 hS1 hb

    obtain ⟨_, _, _, _, _, _⟩ := hH.three
    obtain ⟨_, _, _, _, _, _⟩ := hY.three
    go_wp2_with fail
    refine bodyPost_ret (results_agg_two rfl rfl rfl Tryz.isAgg31 Tryz.sizeOf31 (((hY.set 0 _).set 1 _).set 2 _) rfl) rfl ?_
    have hfin := (((hLc.setCell (p := ⟨W.heap.size + 1, 0, none⟩) (Nat.le_succ _) (.slice (some ⟨g, 0, none⟩) r.us.length k0)).setCell (p := ⟨W.heap.size + 1, 1, none⟩) (Nat.le_succ _) (.slice q1 r.ws.length k1)).setCell (p := ⟨W.heap.size + 1, 2, none⟩) (Nat.le_succ _) (.slice q2 r.ts.length k2))
    refine ⟨_, _, _, by rw [hg.out]; rfl, ?_, hfin⟩
    rw [hg.out]
    exact ⟨slatU (own_rowV (own_byType (own_byType (own_byType y1 hY (by decide) (fun k hk => Below.heap_setCell _ _ _ k hk)) (hY.set 0 _) (by decide) (fun k hk => Below.heap_setCell _ _ _ k hk)) ((hY.set 0 _).set 1 _) (by decide) (fun k hk => Below.heap_setCell _ _ _ k hk)) hu (fun j hj => by split; exact hvs.len; exact (fun j hj => (hcu.out j hj).len) j hj)) _ (List.length_modify ..) (mod_all (R := UL _) (F := fun u => withUv u f v) hlt (fun j hj => (hcu.out j hj).below (h0.trans (hfin.mono h0.size))) ((((hvs.below hX4).setFar hY (by intro s hs; simp at hs) _).setFar (hY.set 0 _) (by intro s hs; simp at hs) _).setFar ((hY.set 0 _).set 1 _) (by intro s hs; simp at hs) _)), slatW (own_rowV (own_byType (own_byType (own_byType y2 hY (by decide) (fun k hk => Below.heap_setCell _ _ _ k hk)) (hY.set 0 _) (by decide) (fun k hk => Below.heap_setCell _ _ _ k hk)) ((hY.set 0 _).set 1 _) (by decide) (fun k hk => Below.heap_setCell _ _ _ k hk)) hw (fun j hj => (hcw.out j hj).len)) _ rfl (fun j hj => hcw.out j hj), slatT (own_rowV (own_byType (own_byType (own_byType y3 hY (by decide) (fun k hk => Below.heap_setCell _ _ _ k hk)) (hY.set 0 _) (by decide) (fun k hk => Below.heap_setCell _ _ _ k hk)) ((hY.set 0 _).set 1 _) (by decide) (fun k hk => Below.heap_setCell _ _ _ k hk)) ht (fun j hj => (hct.out j hj).len)) _ rfl (fun j hj => (hct.out j hj).below (h0.trans (hfin.mono h0.size)))⟩
  · rw [n2] at hlt
    have d0 : (0 : Int) ≤ i := by omega
    have d1 : (i : Int) < r.ws.length := by omega
    obtain ⟨g, rfl⟩ := own_g y2 (by omega)
    have hrv := own_rowV y2 hw (fun j hj => (hcw.out j hj).len)
    obtain ⟨_, _, e9, -, hc9⟩ := hrv
    injection e9 with e91 _ e92
    subst e91 e92
    obtain ⟨g9, o9, e9, hg9, hi9⟩ := hc9 (by omega)
    injection e9 with e9
    injection e9 with e91 e92
    subst e91 e92
    have hcell := hi9 i hlt
    rw [Nat.zero_add] at hcell
    replace hcell := hid hcell
    clear hi9 hc9
    have z1 : (((2 : Int) == 1) = false) := rfl
    have z2 : (((2 : Int) == 2) = true) := rfl
    go_upto_region 15 with fail
    refine wp_region_any hmx (wpAny_of_late (lt := (fun x => x == 12)) (S := fun w' => Below wc.heap.size wc w') _ _ _ _ ?_)
    show wpAnyM _ _ _ _ _ _ _ _ _ wc.drew
    have hS0 := (Below.refl wc.heap.size wc).drew
    refine late_tk (lt := (fun x => x == 12)) (i := 0) (v := .pointer (some ⟨h, 1, none⟩)) (some 69) rfl (fun w' hS => by skip; go_simp) hS0 ?_
    simp only [Act.put, List.setIfInBounds_toArray, List.set_cons_zero, List.set_cons_succ]
    refine late_tk (lt := (fun x => x == 12)) (i := 1) (v := .slice (some ⟨g, 0, none⟩) r.ws.length k1) (some 70) rfl (fun w' hS => by obtain ⟨_, _, _, _, _, _⟩ := (hH.below hS).three; go_simp) hS0 ?_
    simp only [Act.put, List.setIfInBounds_toArray, List.set_cons_zero, List.set_cons_succ]
    refine late_tk (lt := (fun x => x == 12)) (i := 2) (v := .int .i64 i) (some 71) rfl (fun w' hS => by skip; go_simp) hS0 ?_
    simp only [Act.put, List.setIfInBounds_toArray, List.set_cons_zero, List.set_cons_succ]
    refine late_tk (lt := (fun x => x == 12)) (i := 3) (v := .pointer (some ⟨h, 1, none⟩)) (some 72) rfl (fun w' hS => by skip; go_simp) hS0 ?_
    simp only [Act.put, List.setIfInBounds_toArray, List.set_cons_zero, List.set_cons_succ]
    refine late_tk (lt := (fun x => x == 12)) (i := 4) (v := .slice (some ⟨g, 0, none⟩) r.ws.length k1) (some 73) rfl (fun w' hS => by obtain ⟨_, _, _, _, _, _⟩ := (hH.below hS).three; go_simp) hS0 ?_
    simp only [Act.put, List.setIfInBounds_toArray, List.set_cons_zero, List.set_cons_succ]
    refine late_tk (lt := (fun x => x == 12)) (i := 5) (v := .int .i64 i) (some 74) rfl (fun w' hS => by skip; go_simp) hS0 ?_
    simp only [Act.put, List.setIfInBounds_toArray, List.set_cons_zero, List.set_cons_succ]
    refine late_tk (lt := (fun x => x == 12)) (i := 6) (v := .pointer (some ⟨g, i * 6, none⟩)) (some 75) rfl (fun w' hS => by skip; go_simp) hS0 ?_
    simp only [Act.put, List.setIfInBounds_toArray, List.set_cons_zero, List.set_cons_succ]
    refine late_tk (lt := (fun x => x == 12)) (i := 7) (v := .agg (csw i).toArray) (some 76) rfl (fun w' hS => exec_load_agg 51 _ rfl ⟨g, i * 6, none⟩ (by with_unfolding_all rfl) Tryz.isAgg51 Tryz.sizeOf51 (csw i) ((hcell.out.1.below' hg9 hS).loads hcell.out.2)) hS0 ?_
    simp only [Act.put, List.setIfInBounds_toArray, List.set_cons_zero, List.set_cons_succ]
    refine late_tk (lt := (fun x => x == 12)) (i := 8) (v := .string f) (some 77) rfl (fun w' hS => by skip; go_simp) hS0 ?_
    simp only [Act.put, List.setIfInBounds_toArray, List.set_cons_zero, List.set_cons_succ]
    refine late_tk (lt := (fun x => x == 12)) (i := 9) (v := .agg [Value.int IntKind.i64 v.n, Value.bool v.b, Value.string v.s, Value.slice ps v.l.length cs9].toArray) (some 78) rfl (fun w' hS => exec_load_agg 72 _ rfl ⟨w3.heap.size, 0, none⟩ (by with_unfolding_all rfl) Tryz.isAgg72 Tryz.sizeOf72 [Value.int IntKind.i64 v.n, Value.bool v.b, Value.string v.s, Value.slice ps v.l.length cs9] ((hV.below hS).loads rfl)) hS0 ?_
    simp only [Act.put, List.setIfInBounds_toArray, List.set_cons_zero, List.set_cons_succ]
    refine late_one (i := 10) (by kernel_rfl) rfl (fun K hQ => ?_)
    go_simp
    (with_reducible refine (r10wiW_b (r.ws[i]'hlt) (csw i) [Value.int IntKind.i64 v.n, Value.bool v.b, Value.string v.s, Value.slice ps v.l.length cs9] v f w4 _ (hcw.out i hlt) hvl hfk).mono ?_)
    rintro e w5 ⟨vs, rfl, hvs, hb⟩
    have hS1 := below_call hS0 hb
    refine hQ.out _ _ (fun _ => hS1) ?_
    clear hQ
    try simp only [Act.put, List.setIfInBounds_toArray, List.set_cons_zero, List.set_cons_succ]
    refine late_tk (lt := (fun x => x == 12)) (i := 11) (v := .pointer (some ⟨g, i * 6, none⟩)) (some 80) rfl (fun w' hS => by skip; go_simp) hS1 ?_
    simp only [Act.put, List.setIfInBounds_toArray, List.set_cons_zero, List.set_cons_succ]
    replace y1 := own_below y1 hS1
    replace y2 := own_below y2 hS1
    replace y3 := own_below y3 hS1
    replace hH := hH.below hS1
    replace hY := hY.below hS1
    replace hLc := below_call hLc hS1
    obtain ⟨cur, hcur, hcl, hgB⟩ := own_blk y2
    have hng := blk_ne hH hcur (by decide)
    have hni := Nat.mul_le_mul_right 6 (show i + 1 ≤ r.ws.length by omega)
    rw [Nat.succ_mul] at hni
    refine late_go (i := 12) (by kernel_rfl) rfl rfl (fun K hQ => ?_)
    refine wp_store_in 51 (.tmp 80) (.tmp 79) rfl rfl g (i * 6) (by with_unfolding_all rfl) Tryz.sizeOf51 vs (by with_unfolding_all rfl) hvs.len hcur (by omega) (WL.lone hvs) ?_
    refine hQ.out _ _ (fun h => by cases h) ?_
    clear hQ
    try simp only [Act.put, List.setIfInBounds_toArray, List.set_cons_zero, List.set_cons_succ]
    refine late_done (by kernel_rfl) ?_ _
    have hcW := hc.trans (hS1.mono hc.size)
    have hX4 := below_putCells hgB vs (i * 6) hcW
    replace hLc := below_putCells (show W.heap.size ≤ g by omega) vs (i * 6) hLc
    replace hY := blk_farPut (o := i * 6) (vs := vs) hY (blk_ne hY hcur (by decide))
    replace hH := blk_farPut (o := i * 6) (vs := vs) hH hng
    replace y1 := own_byType y1 hcur (by decide) (fun k hk => putCells_other hk vs (i * 6) w5)
    replace y2 := own_putIn (vs := vs) (o := i * 6) y2 (by rw [hvs.len]; omega)
    rw [flatR_put (by decide) (fun j hj => (hcw.out j hj).len) hlt hvs.len] at y2
    replace y3 := own_byType y3 hcur (by decide) (fun k hk => putCells_other hk vs (i * 6) w5)
    generalize putCells w5 g (i * 6) vs = X at *
    clear hcur hcl hcell hV hvl hsl hS0 hS1 hb

    obtain ⟨_, _, _, _, _, _⟩ := hH.three
    obtain ⟨_, _, _, _, _, _⟩ := hY.three
    go_wp2_with fail
    refine bodyPost_ret (results_agg_two rfl rfl rfl Tryz.isAgg31 Tryz.sizeOf31 (((hY.set 0 _).set 1 _).set 2 _) rfl) rfl ?_
    have hfin := (((hLc.setCell (p := ⟨W.heap.size + 1, 0, none⟩) (Nat.le_succ _) (.slice q0 r.us.length k0)).setCell (p := ⟨W.heap.size + 1, 1, none⟩) (Nat.le_succ _) (.slice (some ⟨g, 0, none⟩) r.ws.length k1)).setCell (p := ⟨W.heap.size + 1, 2, none⟩) (Nat.le_succ _) (.slice q2 r.ts.length k2))
    refine ⟨_, _, _, by rw [hg.out]; rfl, ?_, hfin⟩
    rw [hg.out]
    exact ⟨slatU (own_rowV (own_byType (own_byType (own_byType y1 hY (by decide) (fun k hk => Below.heap_setCell _ _ _ k hk)) (hY.set 0 _) (by decide) (fun k hk => Below.heap_setCell _ _ _ k hk)) ((hY.set 0 _).set 1 _) (by decide) (fun k hk => Below.heap_setCell _ _ _ k hk)) hu (fun j hj => (hcu.out j hj).len)) _ rfl (fun j hj => (hcu.out j hj).below (h0.trans (hfin.mono h0.size))), slatW (own_rowV (own_byType (own_byType (own_byType y2 hY (by decide) (fun k hk => Below.heap_setCell _ _ _ k hk)) (hY.set 0 _) (by decide) (fun k hk => Below.heap_setCell _ _ _ k hk)) ((hY.set 0 _).set 1 _) (by decide) (fun k hk => Below.heap_setCell _ _ _ k hk)) hw (fun j hj => by split; exact hvs.len; exact (fun j hj => (hcw.out j hj).len) j hj)) _ (List.length_modify ..) (mod_all (R := WL) (F := fun u => withWv u f v) hlt (fun j hj => hcw.out j hj) (hvs)), slatT (own_rowV (own_byType (own_byType (own_byType y3 hY (by decide) (fun k hk => Below.heap_setCell _ _ _ k hk)) (hY.set 0 _) (by decide) (fun k hk => Below.heap_setCell _ _ _ k hk)) ((hY.set 0 _).set 1 _) (by decide) (fun k hk => Below.heap_setCell _ _ _ k hk)) ht (fun j hj => (hct.out j hj).len)) _ rfl (fun j hj => (hct.out j hj).below (h0.trans (hfin.mono h0.size)))⟩
  · rw [n3] at hlt
    have d0 : (0 : Int) ≤ i := by omega
    have d1 : (i : Int) < r.ts.length := by omega
    obtain ⟨g, rfl⟩ := own_g y3 (by omega)
    have hrv := own_rowV y3 ht (fun j hj => (hct.out j hj).len)
    obtain ⟨_, _, e9, -, hc9⟩ := hrv
    injection e9 with e91 _ e92
    subst e91 e92
    obtain ⟨g9, o9, e9, hg9, hi9⟩ := hc9 (by omega)
    injection e9 with e9
    injection e9 with e91 e92
    subst e91 e92
    have hcell := hi9 i hlt
    rw [Nat.zero_add] at hcell
    replace hcell := hid hcell
    clear hi9 hc9
    have z1 : (((3 : Int) == 1) = false) := rfl
    have z2 : (((3 : Int) == 2) = false) := rfl
    have z3 : (((3 : Int) == 3) = true) := rfl
    go_upto_region 17 with fail
    refine wp_region_any hmx (wpAny_of_late (lt := (fun x => x == 12)) (S := fun w' => Below wc.heap.size wc w') _ _ _ _ ?_)
    show wpAnyM _ _ _ _ _ _ _ _ _ wc.drew
    have hS0 := (Below.refl wc.heap.size wc).drew
    refine late_tk (lt := (fun x => x == 12)) (i := 0) (v := .pointer (some ⟨h, 2, none⟩)) (some 83) rfl (fun w' hS => by skip; go_simp) hS0 ?_
    simp only [Act.put, List.setIfInBounds_toArray, List.set_cons_zero, List.set_cons_succ]
    refine late_tk (lt := (fun x => x == 12)) (i := 1) (v := .slice (some ⟨g, 0, none⟩) r.ts.length k2) (some 84) rfl (fun w' hS => by obtain ⟨_, _, _, _, _, _⟩ := (hH.below hS).three; go_simp) hS0 ?_
    simp only [Act.put, List.setIfInBounds_toArray, List.set_cons_zero, List.set_cons_succ]
    refine late_tk (lt := (fun x => x == 12)) (i := 2) (v := .int .i64 i) (some 85) rfl (fun w' hS => by skip; go_simp) hS0 ?_
    simp only [Act.put, List.setIfInBounds_toArray, List.set_cons_zero, List.set_cons_succ]
    refine late_tk (lt := (fun x => x == 12)) (i := 3) (v := .pointer (some ⟨h, 2, none⟩)) (some 86) rfl (fun w' hS => by skip; go_simp) hS0 ?_
    simp only [Act.put, List.setIfInBounds_toArray, List.set_cons_zero, List.set_cons_succ]
    refine late_tk (lt := (fun x => x == 12)) (i := 4) (v := .slice (some ⟨g, 0, none⟩) r.ts.length k2) (some 87) rfl (fun w' hS => by obtain ⟨_, _, _, _, _, _⟩ := (hH.below hS).three; go_simp) hS0 ?_
    simp only [Act.put, List.setIfInBounds_toArray, List.set_cons_zero, List.set_cons_succ]
    refine late_tk (lt := (fun x => x == 12)) (i := 5) (v := .int .i64 i) (some 88) rfl (fun w' hS => by skip; go_simp) hS0 ?_
    simp only [Act.put, List.setIfInBounds_toArray, List.set_cons_zero, List.set_cons_succ]
    refine late_tk (lt := (fun x => x == 12)) (i := 6) (v := .pointer (some ⟨g, i * 8, none⟩)) (some 89) rfl (fun w' hS => by skip; go_simp) hS0 ?_
    simp only [Act.put, List.setIfInBounds_toArray, List.set_cons_zero, List.set_cons_succ]
    refine late_tk (lt := (fun x => x == 12)) (i := 7) (v := .agg (cst i).toArray) (some 90) rfl (fun w' hS => exec_load_agg 56 _ rfl ⟨g, i * 8, none⟩ (by with_unfolding_all rfl) Tryz.isAgg56 Tryz.sizeOf56 (cst i) ((hcell.out.1.below' hg9 hS).loads hcell.out.2)) hS0 ?_
    simp only [Act.put, List.setIfInBounds_toArray, List.set_cons_zero, List.set_cons_succ]
    refine late_tk (lt := (fun x => x == 12)) (i := 8) (v := .string f) (some 91) rfl (fun w' hS => by skip; go_simp) hS0 ?_
    simp only [Act.put, List.setIfInBounds_toArray, List.set_cons_zero, List.set_cons_succ]
    refine late_tk (lt := (fun x => x == 12)) (i := 9) (v := .agg [Value.int IntKind.i64 v.n, Value.bool v.b, Value.string v.s, Value.slice ps v.l.length cs9].toArray) (some 92) rfl (fun w' hS => exec_load_agg 72 _ rfl ⟨w3.heap.size, 0, none⟩ (by with_unfolding_all rfl) Tryz.isAgg72 Tryz.sizeOf72 [Value.int IntKind.i64 v.n, Value.bool v.b, Value.string v.s, Value.slice ps v.l.length cs9] ((hV.below hS).loads rfl)) hS0 ?_
    simp only [Act.put, List.setIfInBounds_toArray, List.set_cons_zero, List.set_cons_succ]
    refine late_one (i := 10) (by kernel_rfl) rfl (fun K hQ => ?_)
    go_simp
    (with_reducible refine (r10wiT_b (r.ts[i]'hlt) (cst i) [Value.int IntKind.i64 v.n, Value.bool v.b, Value.string v.s, Value.slice ps v.l.length cs9] v f w4 _ ((hct.out i hlt).below hV4) hvl hfk).mono ?_)
    rintro e w5 ⟨vs, rfl, hvs, hb⟩
    have hS1 := below_call hS0 hb
    refine hQ.out _ _ (fun _ => hS1) ?_
    clear hQ
    try simp only [Act.put, List.setIfInBounds_toArray, List.set_cons_zero, List.set_cons_succ]
    refine late_tk (lt := (fun x => x == 12)) (i := 11) (v := .pointer (some ⟨g, i * 8, none⟩)) (some 94) rfl (fun w' hS => by skip; go_simp) hS1 ?_
    simp only [Act.put, List.setIfInBounds_toArray, List.set_cons_zero, List.set_cons_succ]
    replace y1 := own_below y1 hS1
    replace y2 := own_below y2 hS1
    replace y3 := own_below y3 hS1
    replace hH := hH.below hS1
    replace hY := hY.below hS1
    replace hLc := below_call hLc hS1
    obtain ⟨cur, hcur, hcl, hgB⟩ := own_blk y3
    have hng := blk_ne hH hcur (by decide)
    have hni := Nat.mul_le_mul_right 8 (show i + 1 ≤ r.ts.length by omega)
    rw [Nat.succ_mul] at hni
    refine late_go (i := 12) (by kernel_rfl) rfl rfl (fun K hQ => ?_)
    refine wp_store_in 56 (.tmp 94) (.tmp 93) rfl rfl g (i * 8) (by with_unfolding_all rfl) Tryz.sizeOf56 vs (by with_unfolding_all rfl) hvs.len hcur (by omega) hvs.lone ?_
    refine hQ.out _ _ (fun h => by cases h) ?_
    clear hQ
    try simp only [Act.put, List.setIfInBounds_toArray, List.set_cons_zero, List.set_cons_succ]
    refine late_done (by kernel_rfl) ?_ _
    have hcW := hc.trans (hS1.mono hc.size)
    have hX4 := below_putCells hgB vs (i * 8) hcW
    replace hLc := below_putCells (show W.heap.size ≤ g by omega) vs (i * 8) hLc
    replace hY := blk_farPut (o := i * 8) (vs := vs) hY (blk_ne hY hcur (by decide))
    replace hH := blk_farPut (o := i * 8) (vs := vs) hH hng
    replace y1 := own_byType y1 hcur (by decide) (fun k hk => putCells_other hk vs (i * 8) w5)
    replace y2 := own_byType y2 hcur (by decide) (fun k hk => putCells_other hk vs (i * 8) w5)
    replace y3 := own_putIn (vs := vs) (o := i * 8) y3 (by rw [hvs.len]; omega)
    rw [flatR_put (by decide) (fun j hj => (hct.out j hj).len) hlt hvs.len] at y3
    generalize putCells w5 g (i * 8) vs = X at *
    clear hcur hcl hcell hV hvl hsl hS0 hS1 hb

    obtain ⟨_, _, _, _, _, _⟩ := hH.three
    obtain ⟨_, _, _, _, _, _⟩ := hY.three
    go_wp2_with fail
    refine bodyPost_ret (results_agg_two rfl rfl rfl Tryz.isAgg31 Tryz.sizeOf31 (((hY.set 0 _).set 1 _).set 2 _) rfl) rfl ?_
    have hfin := (((hLc.setCell (p := ⟨W.heap.size + 1, 0, none⟩) (Nat.le_succ _) (.slice q0 r.us.length k0)).setCell (p := ⟨W.heap.size + 1, 1, none⟩) (Nat.le_succ _) (.slice q1 r.ws.length k1)).setCell (p := ⟨W.heap.size + 1, 2, none⟩) (Nat.le_succ _) (.slice (some ⟨g, 0, none⟩) r.ts.length k2))
    refine ⟨_, _, _, by rw [hg.out]; rfl, ?_, hfin⟩
    rw [hg.out]
    exact ⟨slatU (own_rowV (own_byType (own_byType (own_byType y1 hY (by decide) (fun k hk => Below.heap_setCell _ _ _ k hk)) (hY.set 0 _) (by decide) (fun k hk => Below.heap_setCell _ _ _ k hk)) ((hY.set 0 _).set 1 _) (by decide) (fun k hk => Below.heap_setCell _ _ _ k hk)) hu (fun j hj => (hcu.out j hj).len)) _ rfl (fun j hj => (hcu.out j hj).below (h0.trans (hfin.mono h0.size))), slatW (own_rowV (own_byType (own_byType (own_byType y2 hY (by decide) (fun k hk => Below.heap_setCell _ _ _ k hk)) (hY.set 0 _) (by decide) (fun k hk => Below.heap_setCell _ _ _ k hk)) ((hY.set 0 _).set 1 _) (by decide) (fun k hk => Below.heap_setCell _ _ _ k hk)) hw (fun j hj => (hcw.out j hj).len)) _ rfl (fun j hj => hcw.out j hj), slatT (own_rowV (own_byType (own_byType (own_byType y3 hY (by decide) (fun k hk => Below.heap_setCell _ _ _ k hk)) (hY.set 0 _) (by decide) (fun k hk => Below.heap_setCell _ _ _ k hk)) ((hY.set 0 _).set 1 _) (by decide) (fun k hk => Below.heap_setCell _ _ _ k hk)) ht (fun j hj => by split; exact hvs.len; exact (fun j hj => (hct.out j hj).len) j hj)) _ (List.length_modify ..) (mod_all (R := TL _) (F := fun u => withTv u f v) hlt (fun j hj => (hct.out j hj).below (h0.trans (hfin.mono h0.size))) ((((hvs.below hX4).setFar hY (by intro s hs; simp at hs) _).setFar (hY.set 0 _) (by intro s hs; simp at hs) _).setFar ((hY.set 0 _).set 1 _) (by intro s hs; simp at hs) _))⟩
end

end Go.Proofs.YtnjcdmjaecgblaaGreatDoor
