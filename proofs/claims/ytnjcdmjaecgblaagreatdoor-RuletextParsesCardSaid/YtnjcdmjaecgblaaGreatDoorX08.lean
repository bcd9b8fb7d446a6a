/-
  What the reference of rules answers: needs, the order, Validate, Same.
-/
import Derived.Test.YtnjcdmjaecgblaaGreatDoorX07
namespace Go.Proofs.YtnjcdmjaecgblaaGreatDoor
section
section
open Go.RowKit Go.Lib
theorem r9tech_c (su sw st : Value) (r : R9) (s : ByteArray) (ok : Bool) (u : T9) (V0 W : World) (hR : RAt V0 su sw st r) (h0 : Below V0.heap.size V0 W) (hok : Hid (ok = (techfv r s).isSome)) (hu : Hid (u = (techfv r s).getD T9.zero)) :
 Calls Tryz.prog 117 #[.agg #[su, sw, st], .string s] W fun e w' => ∃ vs, e = .returned (.tuple #[.agg vs.toArray, .bool ok]) ∧ TL V0 vs u ∧ Below W.heap.size W w' :=
 (r9tech_b su sw st r s V0 W hR h0).mono fun e w' ⟨vs, he, hU, hb⟩ => ⟨vs, by rw [he, hok.out], by rw [hu.out]; exact hU, hb⟩
theorem box16 {V0 : World} {vs : List Value} {u : U9} (w : World) (h : UL V0 vs u) : ∃ sn, (w.alloc (.cells vs.toArray 53)).cell? ⟨w.heap.size, 16, none⟩ = some sn ∧ StrSl V0 sn u.needs := by
 obtain ⟨sn, st, sr, rfl, h1, -, -⟩ := h
 exact ⟨sn, (Blk.new w _ _).cell 16, h1⟩
theorem tbox1 {V0 : World} {vs : List Value} {u : T9} (w : World) (h : TL V0 vs u) : ∃ sn, (w.alloc (.cells vs.toArray 56)).cell? ⟨w.heap.size, 1, none⟩ = some sn ∧ StrSl V0 sn u.needs := by
 obtain ⟨sn, rfl, h1⟩ := h
 exact ⟨sn, (Blk.new w _ _).cell 1, h1⟩
def SlPost (V0 : World) (l : List ByteArray) (w : World) (e : Ending) (w' : World) : Prop := ∃ v, e = .returned v ∧ StrSl V0 v l ∧ Below w.heap.size w w'
set_option maxHeartbeats 8000000 in
set_option maxRecDepth 100000 in
theorem r9needs_b (su sw st : Value) (r : R9) (s : ByteArray) (V0 W : World) (hR : RAt V0 su sw st r) (h0 : Below V0.heap.size V0 W) :
 Calls Tryz.prog 89 #[.agg #[su, sw, st], .string s] W (SlPost V0 (needsv r s) W) := by
 have hB := Blk.new W [su, sw, st] 31
 have hL := (Below.refl W.heap.size W).alloc (Nat.le_refl _) (.cells [su, sw, st].toArray 31)
 obtain ⟨ok, hok⟩ : ∃ q, Hid (q = (unitv r s).isSome) := ⟨_, hid rfl⟩
 obtain ⟨u, hu⟩ : ∃ q, Hid (q = (unitv r s).getD U9.zero) := ⟨_, hid rfl⟩
 obtain ⟨ok2, hok2⟩ : ∃ q, Hid (q = (techfv r s).isSome) := ⟨_, hid rfl⟩
 obtain ⟨t, ht⟩ : ∃ q, Hid (q = (techfv r s).getD T9.zero) := ⟨_, hid rfl⟩
 have hV := h0.trans (hL.mono h0.size)
 go_enter Tryz.func89, Tryz.ntmps89
 go_wp2_with fail
 generalize W.alloc (.cells [su, sw, st].toArray 31) = V at *
 ((with_reducible refine (r9unit_c _ _ _ r s ok u V0 _ hR hV hok hu).mono ?_); rintro e w1 ⟨vs, rfl, hUL, hb⟩)
 replace hV := hV.trans (hb.mono hV.size)
 replace hL := below_call hL hb
 replace hB := (hB.below hb).alloc (.cells vs.toArray 53)
 obtain ⟨sn, z16, hsn⟩ := box16 w1 hUL
 clear hb
 cases ok with
 | true =>
  have hN : needsv r s = u.needs := by
   unfold needsv
   cases h : unitv r s with
   | none => have := hok.out; rw [h] at this; cases this
   | some x => rw [hu.out, h]; rfl
  have hN' := hid hN
  clear hN hok hu hok2 ht
  go_wp2_with (first | (with_reducible refine wpList_alloc_agg rfl 53 rfl _ rfl uZero zeroU ?_) | (with_reducible refine wpList_store_new rfl 53 _ _ rfl rfl Tryz.sizeOf53 vs uZero 53 (by with_unfolding_all rfl) (by with_unfolding_all rfl) hUL.len rfl hUL.lone ?_))
  go_ret
  exact ⟨_, rfl, by rw [hN'.out]; exact hsn, hL.alloc hL.size _⟩
 | false =>
  have hN : needsv r s = t.needs := by
   unfold needsv
   cases h : unitv r s with
   | some x => have := hok.out; rw [h] at this; cases this
   | none => rw [ht.out]
  have hN' := hid hN
  obtain ⟨_, _, _, _, _, _⟩ := hB.three
  clear hN hok hu z16 hsn
  have hV2 := hV.alloc hV.size (.cells vs.toArray 53)
  have hL2 := hL.alloc hL.size (.cells vs.toArray 53)
  go_wp2_with (first | (with_reducible refine wpList_alloc_agg rfl 53 rfl _ rfl uZero zeroU ?_) | (with_reducible refine wpList_store_new rfl 53 _ _ rfl rfl Tryz.sizeOf53 vs uZero 53 (by with_unfolding_all rfl) (by with_unfolding_all rfl) hUL.len rfl hUL.lone ?_))
  ((with_reducible refine (r9tech_c _ _ _ r s ok2 t V0 _ hR hV2 hok2 ht).mono ?_); rintro e w2 ⟨ts, rfl, hTL, hb⟩)
  obtain ⟨tn, z1, hsn⟩ := tbox1 w2 hTL
  have hL3 := (below_call hL2 hb).alloc (below_call hL2 hb).size (.cells ts.toArray 56)
  clear hb hV2 hok2 ht
  go_wp2_with (first | (with_reducible refine wpList_alloc_agg rfl 56 rfl _ rfl tZero zeroT ?_) | (with_reducible refine wpList_store_new rfl 56 _ _ rfl rfl Tryz.sizeOf56 ts tZero 56 (by with_unfolding_all rfl) (by with_unfolding_all rfl) hTL.len rfl hTL.lone ?_))
  go_ret
  exact ⟨_, rfl, by rw [hN'.out]; exact hsn, hL3⟩
end
section
open Go.RowKit Go.Lib
theorem stepv_bool {r : R9} {out : List ByteArray} {x best : ByteArray} {b1 b2 : Bool} (h1 : b1 = hasv out x) (h2 : b2 = (needsv r x).all (hasv out)) : stepv r out x best = if (!b1 && b2 && (decide (best = ⟨#[]⟩) || ltS x best)) = true then x else best := by
 unfold stepv
 rw [h1, h2]
theorem step_yes {r : R9} {out l : List ByteArray} {x best B : ByteArray} {i : Nat} {c : Bool} (hi : i < l.length) (hx : l[i]'hi = x) (hS : stepv r out x best = if c = true then x else best) (hI : bestv r out (l.drop i) best = B) :
 bestv r out (l.drop (i + 1)) (if c = true then x else best) = B := by
 rw [List.drop_eq_getElem_cons hi, bestv_cons, hx, hS] at hI
 exact hI
set_option maxHeartbeats 8000000 in
set_option maxRecDepth 100000 in
theorem r9seq_b (su sw st : Value) (r : R9) (W : World) (hR : RAt W su sw st r) (hu : r.us.length ≤ 1000) (ht : r.ts.length ≤ 1000) :
 Calls Tryz.prog 49 #[.agg #[su, sw, st]] W fun e w' => ∃ v, e = .returned v ∧ StrSl w' v (seqv r) ∧ Below W.heap.size W w' := by
 have hR0 := hid hR
 obtain ⟨p, c, rfl, hm, hat⟩ := hR.u
 obtain ⟨p1, c1, rfl, hm1, hat1⟩ := hR.w
 obtain ⟨p2, c2, rfl, hm2, hat2⟩ := hR.t
 have hB := Blk.new W [.slice p r.us.length c, .slice p1 r.ws.length c1, .slice p2 r.ts.length c2] 31
 have hL := (Below.refl W.heap.size W).alloc (Nat.le_refl _) (.cells [.slice p r.us.length c, .slice p1 r.ws.length c1, .slice p2 r.ts.length c2].toArray 31)
 unfold maxLen at hm hm1 hm2
 have hR1 := hR.below hL
 clear hR
 go_enter Tryz.func49, Tryz.ntmps49
 go_wp2_with fail
 generalize W.alloc (.cells [.slice p r.us.length c, .slice p1 r.ws.length c1, .slice p2 r.ts.length c2].toArray 31) = V at *
 have hq := (Below.refl V.heap.size V).drew
 go_cut [3] from 4 (fun s3 wx => wx.ownsRow V.heap.size 9 1 s3 (r.us.length + r.ts.length) (strs (namesU r ++ namesT r)) ∧ Below V.heap.size V wx)
 case first =>
  go_region_held3 (fun w' => w'.cell? ⟨W.heap.size, 0, none⟩ = some (.slice p r.us.length c) ∧ w'.cell? ⟨W.heap.size, 1, none⟩ = some (.slice p1 r.ws.length c1) ∧ w'.cell? ⟨W.heap.size, 2, none⟩ = some (.slice p2 r.ts.length c2))
   (first | exact ⟨(hB.below (by assumption)).cell 0, (hB.below (by assumption)).cell 1, (hB.below (by assumption)).cell 2⟩)
   (first
    | (go_at_call 80; with_reducible refine (r9units_b _ _ _ r _ (hR1.below hq) hu).mono ?_; rintro e w1 ⟨v6, rfl, h6, hb⟩
       try replace h8 := own_below h8 hb
       replace h6 := own_base h6 (show V.heap.size ≤ _ by have := hq.size; omega)
       replace hq := below_call hq hb
       clear hb)
    | (go_at_call 44; with_reducible refine (r9techs_b _ _ _ r _ (hR1.below hq) ht).mono ?_; rintro e w1 ⟨v8, rfl, h8, hb⟩
       try replace h6 := own_below h6 hb
       replace h8 := own_base h8 (show V.heap.size ≤ _ by have := hq.size; omega)
       replace hq := below_call hq hb
       clear hb)
    | (obtain ⟨v9, w9, hrun, h9, hg⟩ := app_strs 23 h6 h8 (by omega) hq.size
       refine step_app_run (by rfl) (.tmp 8) (.tmp 10) 23 (by rfl) v6 v8 v9 (by rfl) (by rfl) hrun ?_
       replace hq := hq.grown hg hq.size (fun k hk => (h6.lt k hk).1)
       clear hg hrun h6 h8)
)
  all_goals
   go_wp2_with fail
   go_meet
   case rel => exact ⟨h9, hq⟩
 case rest =>
 clear hq hR1 hat hat1 hat2
 obtain ⟨h3, hq⟩ := hcut
 have hn : (allN r).length = r.us.length + r.ts.length := allN_len r
 have x3 : StrSl wc u3 (allN r) := own_strs h3 (by omega)
 replace hB := hB.below hq
 replace hL := below_call hL hq
 clear hq h3
 have hWc := hB.lt
 obtain ⟨pq, cq, rfl, hmq, hatq⟩ := id x3
 generalize hG : allN r = l at *
 replace hG := hid hG
 have hn' : l.length ≤ 2000 := by omega
 clear hn
 unfold maxLen at hmq
 go_wp2_with fail
 go_loopw [4] (fun vo wr => ∃ out, wr.ownsRow wc.heap.size 9 1 vo out.length (strs out) ∧ Blk wr W.heap.size [.slice p r.us.length c, .slice p1 r.ws.length c1, .slice p2 r.ts.length c2] 31 ∧ Below W.heap.size W wr ∧ Below wc.heap.size wc wr ∧ Hid (SeqI r out) ∧ Hid (seqLeft r out = seqv r)) (fun vo _ => 3000 - lenV vo)
 case atStart => exact ⟨[], World.ownsRow_nil _ _ _ _, hB, hL, Below.refl _ _, hid (SeqI.nil r), hid (seqLeft_nil r)⟩
 case round =>
  clear hB hL
  obtain ⟨out, hown, hB, hL, hX, hI, hS⟩ := hrel
  have hlo : out.length ≤ 2000 := by have := hI.out.len; omega
  have hLen := hid (own_len hown)
  go_wp2_with fail
  go_loopw [5, 6] (fun vb vi wq => ∃ (best : ByteArray) (i : Nat), vb = .string best ∧ vi = .int .i64 i ∧ i ≤ l.length ∧ wq.ownsRow wc.heap.size 9 1 u4 out.length (strs out) ∧ Blk wq W.heap.size [.slice p r.us.length c, .slice p1 r.ws.length c1, .slice p2 r.ts.length c2] 31 ∧ Below W.heap.size W wq ∧ Below wc.heap.size wc wq ∧ Hid (bestv r out (l.drop i) best = bestv r out l ⟨#[]⟩)) (fun _ vi _ => l.length - (RowKit.intOf vi).toNat)
  case atStart => exact ⟨⟨#[]⟩, 0, rfl, rfl, by omega, hown, hB, hL, hX, hid (by rw [List.drop_zero])⟩
  case round =>
   clear hB hL hX hown
   obtain ⟨best, i, rfl, rfl, hi, hown, hB, hL, hX, hBe⟩ := hrel
   by_cases hlt : i < l.length
   · have d1 : (i : Int) < l.length := by omega
     have d0 : (0 : Int) ≤ i := by omega
     obtain ⟨g, o, rfl, hc⟩ := hatq (by omega)
     have k1 := (hX.cell (p := ⟨g, o + i, none⟩) (World.block_lt_of_cell? wc _ (hc i hlt))).trans (hc i hlt)
     have hk := World.block_lt_of_cell? wr _ k1
     obtain ⟨x, hx⟩ : ∃ x, l[i]'hlt = x := ⟨_, rfl⟩
     rw [hx] at k1
     obtain ⟨b1, hb1⟩ : ∃ q, Hid (q = hasv out x) := ⟨_, hid rfl⟩
     obtain ⟨b2, hb2⟩ : ∃ q, Hid (q = (needsv r x).all (hasv out)) := ⟨_, hid rfl⟩
     have hSt := hid (stepv_bool (best := best) hb1.out hb2.out)
     have xo := own_strs hown (by omega)
     have HS := fun cnd (q : cnd = (!b1 && b2 && (decide (best = ⟨#[]⟩) || ltS x best))) => hid (step_yes (c := cnd) hlt hx (by rw [hSt.out, q]) hBe.out)
     have HS' := hid HS
     clear hx hBe hSt HS
     go_upto_region 7 with fail
     obtain ⟨cnd, hcnd⟩ : ∃ q, Hid (q = (!b1 && b2 && (decide (best = ⟨#[]⟩) || ltS x best))) := ⟨_, hid rfl⟩
     have HQ := HS'.out cnd hcnd.out
     clear HS'
     go_cut [46] from 12 to 50 (fun s46 wx => s46 = .bool cnd ∧ wx.ownsRow wc.heap.size 9 1 u4 out.length (strs out) ∧ Below wr.heap.size wr wx)
     case first =>
      have HQ2 := hid HQ
      clear HQ
      have hmx : Tryz.prog.follows .mixedOrders = true := by kernel_rfl
      refine wp_region_held (S := fun w' => Below wr.heap.size wr w') hmx ?_
      show wpAnyH _ _ _ _ _ _ _ _ wr.drew
      have hS0 := (Below.refl wr.heap.size wr).drew
      refine reg_tk (i := 0) (v := u4) _ rfl (fun w' hS => by skip; go_simp) hS0 ?_
      simp only [Act.put, List.setIfInBounds_toArray]
      refine reg_tk (i := 1) (v := .slice (some ⟨g, o, none⟩) l.length cq) _ rfl (fun w' hS => by skip; go_simp) hS0 ?_
      simp only [Act.put]
      refine reg_tk (i := 2) (v := .int .i64 i) _ rfl (fun w' hS => by skip; go_simp) hS0 ?_
      simp only [Act.put]
      refine reg_tk (i := 3) (v := .pointer (some ⟨g, o + i, none⟩)) _ rfl (fun w' hS => by skip; go_simp) hS0 ?_
      simp only [Act.put]
      refine reg_tk (i := 4) (v := .string x) _ rfl (fun w' hS => by (have := (hS.cell (p := ⟨g, o + i, none⟩) hk).trans k1); go_simp) hS0 ?_
      simp only [Act.put]
      refine held_one (i := 5) (by kernel_rfl) rfl (fun K hQ => ?_)
      go_simp
      (with_reducible refine (r9has_b out _ x _ _ (xo.below hS0) hb1).mono ?_)
      rintro e w2 ⟨rfl, rfl⟩
      refine hQ.out _ _ hS0 ?_
      clear hQ
      try simp only [Act.put, List.setIfInBounds_toArray, List.set_cons_zero, List.set_cons_succ]
      cases b1 with
      | true =>
       obtain rfl : cnd = false := hcnd.out
       refine reg_tk (i := 6) (v := .bool false) _ rfl (fun w' hS => by skip; go_simp) hS0 ?_
       simp only [Act.put, List.setIfInBounds_toArray]
       refine reg_tk (i := 7) (v := .bool false) _ rfl (fun w' hS => by skip; go_simp) hS0 ?_
       simp only [Act.put]
       refine reg_skip (i := 8) _ rfl rfl (by kernel_rfl) (by kernel_rfl) (by kernel_rfl) (fun _ _ _ h => h) (by kernel_rfl) hS0 ?_
       simp only [Act.put]
       refine reg_skip (i := 9) _ rfl rfl (by kernel_rfl) (by kernel_rfl) (by kernel_rfl) (fun _ _ _ h => h) (by kernel_rfl) hS0 ?_
       simp only [Act.put]
       refine reg_skip (i := 10) _ rfl rfl (by kernel_rfl) (by kernel_rfl) (by kernel_rfl) (fun _ _ _ h => h) (by kernel_rfl) hS0 ?_
       simp only [Act.put]
       refine reg_skip (i := 11) _ rfl rfl (by kernel_rfl) (by kernel_rfl) (by kernel_rfl) (fun _ _ _ h => h) (by kernel_rfl) hS0 ?_
       simp only [Act.put]
       refine reg_skip (i := 12) _ rfl rfl (by kernel_rfl) (by kernel_rfl) (by kernel_rfl) (fun _ _ _ h => h) (by kernel_rfl) hS0 ?_
       simp only [Act.put]
       refine reg_skip (i := 14) _ rfl rfl (by kernel_rfl) (by kernel_rfl) (by kernel_rfl) (fun _ _ _ h => h) (by kernel_rfl) hS0 ?_
       simp only [Act.put]
       refine held_one (i := 13) (by kernel_rfl) rfl (fun K hQ => ?_)
       go_simp
       refine hQ.out _ _ hS0 ?_
       clear hQ
       try simp only [Act.put, List.setIfInBounds_toArray, List.set_cons_zero, List.set_cons_succ]
       refine held_one (i := 15) (by kernel_rfl) rfl (fun K hQ => ?_)
       go_simp
       refine hQ.out _ _ hS0 ?_
       clear hQ
       try simp only [Act.put, List.setIfInBounds_toArray, List.set_cons_zero, List.set_cons_succ]
       refine reg_tk (i := 16) (v := .bool false) _ rfl (fun w' hS => by skip; go_simp) hS0 ?_
       simp only [Act.put, List.setIfInBounds_toArray]
       refine reg_tk (i := 17) (v := .bool false) _ rfl (fun w' hS => by skip; go_simp) hS0 ?_
       simp only [Act.put]
       refine reg_skip (i := 18) _ rfl rfl (by kernel_rfl) (by kernel_rfl) (by kernel_rfl) (fun _ _ _ h => h) (by kernel_rfl) hS0 ?_
       simp only [Act.put]
       refine reg_skip (i := 19) _ rfl rfl (by kernel_rfl) (by kernel_rfl) (by kernel_rfl) (fun _ _ _ h => h) (by kernel_rfl) hS0 ?_
       simp only [Act.put]
       refine reg_skip (i := 20) _ rfl rfl (by kernel_rfl) (by kernel_rfl) (by kernel_rfl) (fun _ _ _ h => h) (by kernel_rfl) hS0 ?_
       simp only [Act.put]
       refine reg_skip (i := 21) _ rfl rfl (by kernel_rfl) (by kernel_rfl) (by kernel_rfl) (fun _ _ _ h => h) (by kernel_rfl) hS0 ?_
       simp only [Act.put]
       refine reg_skip (i := 22) _ rfl rfl (by kernel_rfl) (by kernel_rfl) (by kernel_rfl) (fun _ _ _ h => h) (by kernel_rfl) hS0 ?_
       simp only [Act.put]
       refine reg_skip (i := 23) _ rfl rfl (by kernel_rfl) (by kernel_rfl) (by kernel_rfl) (fun _ _ _ h => h) (by kernel_rfl) hS0 ?_
       simp only [Act.put]
       refine reg_skip (i := 24) _ rfl rfl (by kernel_rfl) (by kernel_rfl) (by kernel_rfl) (fun _ _ _ h => h) (by kernel_rfl) hS0 ?_
       simp only [Act.put]
       refine reg_skip (i := 25) _ rfl rfl (by kernel_rfl) (by kernel_rfl) (by kernel_rfl) (fun _ _ _ h => h) (by kernel_rfl) hS0 ?_
       simp only [Act.put]
       refine reg_skip (i := 26) _ rfl rfl (by kernel_rfl) (by kernel_rfl) (by kernel_rfl) (fun _ _ _ h => h) (by kernel_rfl) hS0 ?_
       simp only [Act.put]
       refine reg_skip (i := 27) _ rfl rfl (by kernel_rfl) (by kernel_rfl) (by kernel_rfl) (fun _ _ _ h => h) (by kernel_rfl) hS0 ?_
       simp only [Act.put]
       refine reg_tk (i := 28) (v := .bool false) _ rfl (fun w' hS => by skip; go_simp) hS0 ?_
       simp only [Act.put]
       refine wpAnyH_done (by kernel_rfl) ?_ _
       show Exit.then _ _ Exit.normal _ _
       go_wp2_with fail
       go_meet
       case rel => exact ⟨rfl, own_below hown hS0, hS0⟩
      | false =>
      refine reg_tk (i := 6) (v := .bool true) _ rfl (fun w' hS => by skip; go_simp) hS0 ?_
      simp only [Act.put, List.setIfInBounds_toArray]
      refine reg_tk (i := 7) (v := .bool true) _ rfl (fun w' hS => by skip; go_simp) hS0 ?_
      simp only [Act.put]
      refine reg_tk (i := 8) (v := .agg #[.slice p r.us.length c, .slice p1 r.ws.length c1, .slice p2 r.ts.length c2]) _ rfl (fun w' hS => by (obtain ⟨_, _, _, _, _, _⟩ := (hB.below hS).three); go_simp) hS0 ?_
      simp only [Act.put]
      refine reg_tk (i := 9) (v := .slice (some ⟨g, o, none⟩) l.length cq) _ rfl (fun w' hS => by skip; go_simp) hS0 ?_
      simp only [Act.put]
      refine reg_tk (i := 10) (v := .int .i64 i) _ rfl (fun w' hS => by skip; go_simp) hS0 ?_
      simp only [Act.put]
      refine reg_tk (i := 11) (v := .pointer (some ⟨g, o + i, none⟩)) _ rfl (fun w' hS => by skip; go_simp) hS0 ?_
      simp only [Act.put]
      refine reg_tk (i := 12) (v := .string x) _ rfl (fun w' hS => by (have := (hS.cell (p := ⟨g, o + i, none⟩) hk).trans k1); go_simp) hS0 ?_
      simp only [Act.put]
      refine reg_tk (i := 14) (v := u4) _ rfl (fun w' hS => by skip; go_simp) hS0 ?_
      simp only [Act.put]
      refine held_one (i := 13) (by kernel_rfl) rfl (fun K hQ => ?_)
      go_simp
      (with_reducible refine (r9needs_b _ _ _ r x W _ hR0.out (hL.trans (hS0.mono hL.size))).mono ?_)
      rintro e w3 ⟨vn, rfl, hsn, hbn⟩
      have hS1 := below_call hS0 hbn
      refine hQ.out _ _ hS1 ?_
      clear hQ
      try simp only [Act.put, List.setIfInBounds_toArray, List.set_cons_zero, List.set_cons_succ]
      refine held_one (i := 15) (by kernel_rfl) rfl (fun K hQ => ?_)
      go_simp
      (with_reducible refine (r9all_b (needsv r x) out _ _ _ _ (hsn.below (hL.trans (hS1.mono hL.size))) (xo.below hS1) hb2).mono ?_)
      rintro e w4 ⟨rfl, rfl⟩
      refine hQ.out _ _ hS1 ?_
      clear hQ
      try simp only [Act.put, List.setIfInBounds_toArray, List.set_cons_zero, List.set_cons_succ]
      refine reg_tk (i := 16) (v := .bool b2) _ rfl (fun w' hS => by skip; go_simp) hS1 ?_
      simp only [Act.put, List.setIfInBounds_toArray]
      refine reg_tk (i := 17) (v := .bool b2) _ rfl (fun w' hS => by skip; go_simp) hS1 ?_
      simp only [Act.put]
      cases b2 with
      | false =>
       obtain rfl : cnd = false := hcnd.out
       refine reg_skip (i := 18) _ rfl rfl (by kernel_rfl) (by kernel_rfl) (by kernel_rfl) (fun _ _ _ h => h) (by kernel_rfl) hS1 ?_
       simp only [Act.put]
       refine reg_skip (i := 19) _ rfl rfl (by kernel_rfl) (by kernel_rfl) (by kernel_rfl) (fun _ _ _ h => h) (by kernel_rfl) hS1 ?_
       simp only [Act.put]
       refine reg_skip (i := 20) _ rfl rfl (by kernel_rfl) (by kernel_rfl) (by kernel_rfl) (fun _ _ _ h => h) (by kernel_rfl) hS1 ?_
       simp only [Act.put]
       refine reg_skip (i := 21) _ rfl rfl (by kernel_rfl) (by kernel_rfl) (by kernel_rfl) (fun _ _ _ h => h) (by kernel_rfl) hS1 ?_
       simp only [Act.put]
       refine reg_skip (i := 22) _ rfl rfl (by kernel_rfl) (by kernel_rfl) (by kernel_rfl) (fun _ _ _ h => h) (by kernel_rfl) hS1 ?_
       simp only [Act.put]
       refine reg_skip (i := 23) _ rfl rfl (by kernel_rfl) (by kernel_rfl) (by kernel_rfl) (fun _ _ _ h => h) (by kernel_rfl) hS1 ?_
       simp only [Act.put]
       refine reg_skip (i := 24) _ rfl rfl (by kernel_rfl) (by kernel_rfl) (by kernel_rfl) (fun _ _ _ h => h) (by kernel_rfl) hS1 ?_
       simp only [Act.put]
       refine reg_skip (i := 25) _ rfl rfl (by kernel_rfl) (by kernel_rfl) (by kernel_rfl) (fun _ _ _ h => h) (by kernel_rfl) hS1 ?_
       simp only [Act.put]
       refine reg_skip (i := 26) _ rfl rfl (by kernel_rfl) (by kernel_rfl) (by kernel_rfl) (fun _ _ _ h => h) (by kernel_rfl) hS1 ?_
       simp only [Act.put]
       refine reg_skip (i := 27) _ rfl rfl (by kernel_rfl) (by kernel_rfl) (by kernel_rfl) (fun _ _ _ h => h) (by kernel_rfl) hS1 ?_
       simp only [Act.put]
       refine reg_tk (i := 28) (v := .bool false) _ rfl (fun w' hS => by skip; go_simp) hS1 ?_
       simp only [Act.put]
       refine wpAnyH_done (by kernel_rfl) ?_ _
       show Exit.then _ _ Exit.normal _ _
       go_wp2_with fail
       go_meet
       case rel => exact ⟨rfl, own_below hown hS1, hS1⟩
      | true =>
      by_cases hbe : best = ⟨#[]⟩
      · subst hbe
        obtain rfl : cnd = true := by rw [hcnd.out]; simp
        refine reg_tk (i := 18) (v := .string ⟨#[]⟩) _ rfl (fun w' hS => by skip; go_simp) hS1 ?_
        simp only [Act.put]
        refine reg_tk (i := 19) (v := .bool true) _ rfl (fun w' hS => by skip; go_simp) hS1 ?_
        simp only [Act.put]
        refine reg_tk (i := 20) (v := .bool true) _ rfl (fun w' hS => by skip; go_simp) hS1 ?_
        simp only [Act.put]
        refine reg_skip (i := 21) _ rfl rfl (by kernel_rfl) (by kernel_rfl) (by kernel_rfl) (fun _ _ _ h => h) (by kernel_rfl) hS1 ?_
        simp only [Act.put]
        refine reg_skip (i := 22) _ rfl rfl (by kernel_rfl) (by kernel_rfl) (by kernel_rfl) (fun _ _ _ h => h) (by kernel_rfl) hS1 ?_
        simp only [Act.put]
        refine reg_skip (i := 23) _ rfl rfl (by kernel_rfl) (by kernel_rfl) (by kernel_rfl) (fun _ _ _ h => h) (by kernel_rfl) hS1 ?_
        simp only [Act.put]
        refine reg_skip (i := 24) _ rfl rfl (by kernel_rfl) (by kernel_rfl) (by kernel_rfl) (fun _ _ _ h => h) (by kernel_rfl) hS1 ?_
        simp only [Act.put]
        refine reg_skip (i := 25) _ rfl rfl (by kernel_rfl) (by kernel_rfl) (by kernel_rfl) (fun _ _ _ h => h) (by kernel_rfl) hS1 ?_
        simp only [Act.put]
        refine reg_skip (i := 26) _ rfl rfl (by kernel_rfl) (by kernel_rfl) (by kernel_rfl) (fun _ _ _ h => h) (by kernel_rfl) hS1 ?_
        simp only [Act.put]
        refine reg_tk (i := 27) (v := .bool true) _ rfl (fun w' hS => by skip; go_simp) hS1 ?_
        simp only [Act.put]
        refine reg_tk (i := 28) (v := .bool true) _ rfl (fun w' hS => by skip; go_simp) hS1 ?_
        simp only [Act.put]
        refine wpAnyH_done (by kernel_rfl) ?_ _
        show Exit.then _ _ Exit.normal _ _
        go_wp2_with fail
        go_meet
        case rel => exact ⟨rfl, own_below hown hS1, hS1⟩
      · have hne := ne_empty hbe
        have hd : decide (best = ⟨#[]⟩) = false := decide_eq_false hbe
        have hc : Op.bytesLess x.toList best.toList = cnd := by rw [hcnd.out, hd]; simp [ltS]
        obtain ⟨e1, e2, e3⟩ := hne
        clear hd hbe hcnd
        refine reg_tk (i := 18) (v := .string best) _ rfl (fun w' hS => by skip; go_simp) hS1 ?_
        simp only [Act.put]
        refine reg_tk (i := 19) (v := .bool false) _ rfl (fun w' hS => by skip; go_simp) hS1 ?_
        simp only [Act.put]
        refine reg_tk (i := 20) (v := .bool false) _ rfl (fun w' hS => by skip; go_simp) hS1 ?_
        simp only [Act.put]
        refine reg_tk (i := 21) (v := .slice (some ⟨g, o, none⟩) l.length cq) _ rfl (fun w' hS => by skip; go_simp) hS1 ?_
        simp only [Act.put]
        refine reg_tk (i := 22) (v := .int .i64 i) _ rfl (fun w' hS => by skip; go_simp) hS1 ?_
        simp only [Act.put]
        refine reg_tk (i := 23) (v := .pointer (some ⟨g, o + i, none⟩)) _ rfl (fun w' hS => by skip; go_simp) hS1 ?_
        simp only [Act.put]
        refine reg_tk (i := 24) (v := .string x) _ rfl (fun w' hS => by (have := (hS.cell (p := ⟨g, o + i, none⟩) hk).trans k1); go_simp) hS1 ?_
        simp only [Act.put]
        refine reg_tk (i := 25) (v := .string best) _ rfl (fun w' hS => by skip; go_simp) hS1 ?_
        simp only [Act.put]
        refine reg_tk (i := 26) (v := .bool cnd) _ rfl (fun w' hS => by skip; go_simp) hS1 ?_
        simp only [Act.put]
        refine reg_tk (i := 27) (v := .bool cnd) _ rfl (fun w' hS => by skip; go_simp) hS1 ?_
        simp only [Act.put]
        refine reg_tk (i := 28) (v := .bool cnd) _ rfl (fun w' hS => by skip; go_simp) hS1 ?_
        simp only [Act.put]
        refine wpAnyH_done (by kernel_rfl) ?_ _
        show Exit.then _ _ Exit.normal _ _
        go_wp2_with fail
        go_meet
        case rel => exact ⟨rfl, own_below hown hS1, hS1⟩
     case rest =>
     obtain ⟨rfl, hown2, hX1⟩ := hcut
     have k2 := (hX1.cell (p := ⟨g, o + i, none⟩) hk).trans k1
     replace hB := hB.below hX1
     replace hL := below_call hL hX1
     replace hX := below_call hX hX1
     clear hb1 hb2 xo hcnd hX1 k1 hk hown
     cases cnd with
     | true =>
      go_wp2_with fail
      go_roundw
      case rel => exact ⟨x, i + 1, rfl, by go_num, by omega, hown2, hB, hL, hX, HQ⟩
      case measure => simp [RowKit.intOf]; omega
     | false =>
      go_wp2_with fail
      go_roundw
      case rel => exact ⟨best, i + 1, rfl, by go_num, by omega, hown2, hB, hL, hX, HQ⟩
      case measure => simp [RowKit.intOf]; omega
   · obtain rfl : i = l.length := by omega
     have hbe := hBe.out
     rw [List.drop_length] at hbe
     have hbb : bestv r out (allN r) ⟨#[]⟩ = best := by rw [hG.out, ← hbe]; rfl
     have d1 : ¬ (l.length : Int) < l.length := by omega
     clear hBe hatq hbe
     by_cases hz : best = ⟨#[]⟩
     · have hfin := seqLeft_end hI.out (hbb.trans hz)
       have hres : seqv r = out := hS.out.symm.trans hfin
       have xo := own_strs hown (by omega)
       subst hz
       have hres' := hid hres
       clear hbb hfin hres hS hI hG
       go_wp2_with fail
       go_ret
       exact ⟨_, rfl, by rw [hres'.out]; exact xo, hL⟩
     · have hI2 := hid (hI.out.step hbb hz)
       have hS2 := hid ((seqLeft_step hI.out hbb hz).symm.trans hS.out)
       have hlo2 := hI2.out.len
       have hne := ne_empty hz
       obtain ⟨e1, e2, e3⟩ := hne
       obtain ⟨i0, hi0, hz0, hz1, hz2⟩ := info_cut9 infoStr9
       have hlt4 := hB.lt
       have hlen2 := hLen.out
       replace hlen2 := hid hlen2
       clear hbb hS hI hz hLen
       go_wp2_with (at_builtin; refine wpList_append_own _ rfl _ _ 23 rfl wc.heap.size 9 i0 (.string ⟨#[]⟩) 1 16 Tryz.underlying23 hi0 hz0 hz1 hz2 rfl (by decide) _ _ _ rfl (hown.alloc _) ⟨wr.heap.size, 0, none⟩ 1 1 [.string best] rfl rfl cells_new (str_lone9 _) (by unfold maxLen; omega) (by omega) (by have := hX.size; simp; omega) ?_)
       intro v' w' hown' hg' _
       have hb' := below_push (t := 9) hX.size hX hown (Nat.le_refl _) hg'
       have hb2' := below_push (t := 9) hL.size hL hown (by omega) hg'
       have hB' := (hB.alloc (.cells #[.string best] 9)).grown hg' (own_not hown hWc)
       have hown2 := own_to hown' (m := (out ++ [best]).length) (ys := strs (out ++ [best])) (by simp) (strs_snoc out best)
       have hlen3 := own_len hown2
       replace hlen3 := hid hlen3
       clear hg' hown hown' hB hL hX e1 e2 e3
       go_wp2_with fail
       go_roundw
       case rel => exact ⟨out ++ [best], hown2, hB', hb2', hb', hI2, hS2⟩
       case measure =>
        show 3000 - lenV _ < 3000 - lenV _
        rw [hlen3.out, hlen2.out]
        simp only [List.length_append, List.length_cons, List.length_nil] at hlo2 ⊢
        omega
end
section
open Go.RowKit Go.Lib
def dup1 (r : R9) (u : U9) : Bool := !hasv (namesT r) u.nm
theorem dupv_eq (r : R9) : dupv r = !r.us.all (dup1 r) := by
 unfold dupv dup1
 induction r.us with
 | nil => rfl
 | cons a l ih => simp only [List.any_cons, List.all_cons, ih, Bool.not_and, Bool.not_not]
def val2 (r : R9) : Int := if numsv r = false then 1 else if foundv r = false then 8 else if typedv r = false then 18 else if (seqv r).length < r.us.length + r.ts.length then 14 else 0
theorem valv_eq (r : R9) : valv r = if limv r = false then 2 else if namedv r = false then 6 else if ordv r = false then 13 else if r.us.all (dup1 r) = false then 7 else val2 r := by
 unfold valv
 rw [dupv_eq]
 cases r.us.all (dup1 r) <;> rfl
set_option maxHeartbeats 8000000 in
set_option maxRecDepth 100000 in
theorem r9val_b (su sw st : Value) (r : R9) (n : Int) (W : World) (hR : RAt W su sw st r) (hu : r.us.length ≤ 1000) (hw : r.ws.length ≤ 1000) (ht : r.ts.length ≤ 1000) (e : Hid (n = valv r)) :
 Calls Tryz.prog 19 #[.agg #[su, sw, st]] W fun e w' => e = .returned (.int .i64 n) ∧ Below W.heap.size W w' := by
 have hR0 := hid hR
 obtain ⟨q1, hq1⟩ : ∃ q, Hid (q = limv r) := ⟨_, hid rfl⟩
 obtain ⟨q2, hq2⟩ : ∃ q, Hid (q = namedv r) := ⟨_, hid rfl⟩
 obtain ⟨q3, hq3⟩ : ∃ q, Hid (q = ordv r) := ⟨_, hid rfl⟩
 obtain ⟨q5, hq5⟩ : ∃ q, Hid (q = numsv r) := ⟨_, hid rfl⟩
 obtain ⟨q6, hq6⟩ : ∃ q, Hid (q = foundv r) := ⟨_, hid rfl⟩
 obtain ⟨q7, hq7⟩ : ∃ q, Hid (q = typedv r) := ⟨_, hid rfl⟩
 replace e := hid (show n = if q1 = false then 2 else if q2 = false then 6 else if q3 = false then 13 else if r.us.all (dup1 r) = false then 7 else if q5 = false then 1 else if q6 = false then 8 else if q7 = false then 18 else if (seqv r).length < r.us.length + r.ts.length then 14 else 0 by
  rw [e.out, valv_eq, hq1.out, hq2.out, hq3.out, hq5.out, hq6.out, hq7.out]; rfl)
 obtain ⟨p, c, rfl, hm, hat⟩ := hR.u
 obtain ⟨p1, c1, rfl, hm1, hat1⟩ := hR.w
 obtain ⟨p2, c2, rfl, hm2, hat2⟩ := hR.t
 have hB := Blk.new W [.slice p r.us.length c, .slice p1 r.ws.length c1, .slice p2 r.ts.length c2] 31
 have hL := (Below.refl W.heap.size W).alloc (Nat.le_refl _) (.cells [.slice p r.us.length c, .slice p1 r.ws.length c1, .slice p2 r.ts.length c2].toArray 31)
 unfold maxLen at hm hm1 hm2
 have hR1 := hR.below hL
 clear hR
 go_enter Tryz.func19, Tryz.ntmps19
 go_wp2_with fail
 generalize W.alloc (.cells [.slice p r.us.length c, .slice p1 r.ws.length c1, .slice p2 r.ts.length c2].toArray 31) = V at *
 clear hR1 hat1 hat2
 obtain ⟨_, _, _, _, _, _⟩ := hB.three
 ((with_reducible refine (r9limits_b _ _ _ r q1 _ (hR0.out.below hL) hq1).mono ?_); rintro e w1 ⟨rfl, hb⟩)
 replace hB := hB.below hb
 replace hL := below_call hL hb
 obtain ⟨_, _, _, _, _, _⟩ := hB.three
 clear hb
 cases q1 with
 | false =>
  have hn : n = 2 := e.out.trans (by simp)
  subst hn
  clear e
  go_wp2_with fail
  go_ret
  exact ⟨rfl, hL⟩
 | true =>
 go_wp2_with fail
 ((with_reducible refine (r9named_b _ _ _ r q2 _ (hR0.out.below hL) hu hw ht hq2).mono ?_); rintro e w2 ⟨rfl, hb⟩)
 replace hB := hB.below hb
 replace hL := below_call hL hb
 obtain ⟨_, _, _, _, _, _⟩ := hB.three
 clear hb
 cases q2 with
 | false =>
  have hn : n = 6 := e.out.trans (by simp)
  subst hn
  clear e
  go_wp2_with fail
  go_ret
  exact ⟨rfl, hL⟩
 | true =>
 go_wp2_with fail
 ((with_reducible refine (r9ordered_b _ _ _ r q3 _ (hR0.out.below hL) hu hw ht hq3).mono ?_); rintro e w3 ⟨rfl, hb⟩)
 replace hB := hB.below hb
 replace hL := below_call hL hb
 obtain ⟨_, _, _, _, _, _⟩ := hB.three
 clear hb
 cases q3 with
 | false =>
  have hn : n = 13 := e.out.trans (by simp)
  subst hn
  clear e
  go_wp2_with fail
  go_ret
  exact ⟨rfl, hL⟩
 | true =>
 go_wp2_with fail
 ((with_reducible refine (r9techs_b _ _ _ r _ (hR0.out.below hL) ht).mono ?_); rintro e wt ⟨vt, rfl, h1, hb⟩)
 replace hB := hB.below hb
 replace hL := below_call hL hb
 have xt : StrSl wt vt (namesT r) := own_strs h1 (by omega)
 clear hb h1
 replace e := hid (show n = if r.us.all (dup1 r) = false then 7 else if q5 = false then 1 else if q6 = false then 8 else if q7 = false then 18 else if (seqv r).length < r.us.length + r.ts.length then 14 else 0 by rw [e.out]; rfl)
 go_wp2_with fail
 go_loop [4] (fun vi => ∃ i : Nat, vi = .int .i64 i ∧ i ≤ r.us.length ∧ Hid ((r.us.take i).all (dup1 r) = true)) (fun vi => r.us.length - (RowKit.intOf vi).toNat)
 case atStart => exact ⟨0, rfl, by omega, hid rfl⟩
 case round =>
  obtain ⟨i, rfl, hi, hA⟩ := hrel
  obtain ⟨_, _, _, _, _, _⟩ := hB.three
  by_cases hlt : i < r.us.length
  · have d1 : (i : Int) < r.us.length := by omega
    have d0 : (0 : Int) ≤ i := by omega
    obtain ⟨g, o, rfl, hc⟩ := hat (by omega)
    obtain ⟨vs, hU, hcs⟩ := (hc i hlt).ul
    have k0 := (hcs.below' (hcs.lt' hU.name) hL).first hU.name
    have HN := fun q => hid (allp_take (f := dup1 r) hlt hA.out q)
    have HY := fun q => hid (allp_no (f := dup1 r) hlt q)
    obtain ⟨u, hu⟩ : ∃ u, r.us[i]'hlt = u := ⟨_, rfl⟩
    rw [hu] at HN HY k0
    obtain ⟨q, hq⟩ : ∃ q, Hid (q = hasv (namesT r) u.nm) := ⟨_, hid rfl⟩
    have hF := hid (show dup1 r u = !q by rw [hq.out]; rfl)
    clear hu hat hc hU hA hcs
    go_wp2_with fail
    ((with_reducible refine (r9has_b (namesT r) _ u.nm q _ xt hq).mono ?_); rintro e w2 ⟨rfl, rfl⟩)
    cases q with
    | true =>
     have hn : n = 7 := by rw [e.out, (HY hF.out).out]; rfl
     subst hn
     clear e HN HY hF
     go_wp2_with fail
     go_ret
     exact ⟨rfl, hL⟩
    | false =>
     have HS := HN hF.out
     clear HN HY hF
     go_wp2_with fail
     go_round
     case rel => exact ⟨i + 1, by go_num, by omega, HS⟩
     case measure => simp [RowKit.intOf]; omega
  · obtain rfl : i = r.us.length := by omega
    have ha := hA.out
    rw [List.take_length] at ha
    have d1 : ¬ (r.us.length : Int) < r.us.length := by omega
    replace e := hid (show n = if q5 = false then 1 else if q6 = false then 8 else if q7 = false then 18 else if (seqv r).length < r.us.length + r.ts.length then 14 else 0 by rw [e.out, ha]; rfl)
    clear ha hA hat xt
    go_wp2_with fail
    clear d1
    ((with_reducible refine (r9numbers_b _ _ _ r q5 _ (hR0.out.below hL) hq5).mono ?_); rintro e w5 ⟨rfl, hb⟩)
    replace hB := hB.below hb
    replace hL := below_call hL hb
    obtain ⟨_, _, _, _, _, _⟩ := hB.three
    clear hb
    cases q5 with
    | false =>
     have hn : n = 1 := e.out.trans (by simp)
     subst hn
     clear e
     go_wp2_with fail
     go_ret
     exact ⟨rfl, hL⟩
    | true =>
    go_wp2_with fail
    ((with_reducible refine (r9found_b _ _ _ r q6 _ (hR0.out.below hL) hu hw ht hq6).mono ?_); rintro e w6 ⟨rfl, hb⟩)
    replace hB := hB.below hb
    replace hL := below_call hL hb
    obtain ⟨_, _, _, _, _, _⟩ := hB.three
    clear hb
    cases q6 with
    | false =>
     have hn : n = 8 := e.out.trans (by simp)
     subst hn
     clear e
     go_wp2_with fail
     go_ret
     exact ⟨rfl, hL⟩
    | true =>
    go_wp2_with fail
    ((with_reducible refine (r9typed_b _ _ _ r q7 _ (hR0.out.below hL) hq7).mono ?_); rintro e w7 ⟨rfl, hb⟩)
    replace hB := hB.below hb
    replace hL := below_call hL hb
    obtain ⟨_, _, _, _, _, _⟩ := hB.three
    clear hb
    cases q7 with
    | false =>
     have hn : n = 18 := e.out.trans (by simp)
     subst hn
     clear e
     go_wp2_with fail
     go_ret
     exact ⟨rfl, hL⟩
    | true =>
    go_upto_region 19 with fail
    have hq := (Below.refl w7.heap.size w7).drew
    obtain ⟨L, hLn⟩ : ∃ L, Hid (L = (seqv r).length) := ⟨_, hid rfl⟩
    replace e := hid (show n = if L < r.us.length + r.ts.length then 14 else 0 by rw [e.out, hLn.out]; simp)
    have hsum : IntKind.i64.wrap ((r.us.length : Int) + (r.ts.length : Int)) = (r.us.length : Int) + (r.ts.length : Int) := IntWalk.i64_in _ (by omega)
    go_cut [46] from 47 (fun s46 wx => s46 = .bool (decide (L < r.us.length + r.ts.length)) ∧ Below w7.heap.size w7 wx)
    case first =>
     go_region_held3 (fun w' => w'.cell? ⟨W.heap.size, 0, none⟩ = some (.slice p r.us.length c) ∧ w'.cell? ⟨W.heap.size, 1, none⟩ = some (.slice p1 r.ws.length c1) ∧ w'.cell? ⟨W.heap.size, 2, none⟩ = some (.slice p2 r.ts.length c2))
      (first | exact ⟨(hB.below (by assumption)).cell 0, (hB.below (by assumption)).cell 1, (hB.below (by assumption)).cell 2⟩)
      (first | (go_at_call 49; (with_reducible refine (r9seq_b _ _ _ r _ (hR0.out.below (below_call hL hq)) hu ht).mono ?_); rintro e w9 ⟨v, rfl, ⟨pz, cz, rfl, hmz, -⟩, hb⟩; replace hq := below_call hq hb; clear hb; rw [← hLn.out] at *))
     all_goals
      go_wp2_with fail
      go_meet
      case rel => first | exact ⟨rfl, hq⟩ | exact ⟨by congr 1; rw [decide_eq_decide]; omega, hq⟩
    case rest =>
    obtain ⟨rfl, hq2⟩ := hcut
    have hLf := below_call hL hq2
    by_cases hlt : L < r.us.length + r.ts.length
    · have hn : n = 14 := by rw [e.out, if_pos hlt]
      have hd : decide (L < r.us.length + r.ts.length) = true := decide_eq_true hlt
      rw [hd]
      subst hn
      clear e hd hlt
      go_wp2_with fail
      go_ret
      exact ⟨rfl, hLf⟩
    · have hn : n = 0 := by rw [e.out, if_neg hlt]
      have hd : decide (L < r.us.length + r.ts.length) = false := decide_eq_false hlt
      rw [hd]
      subst hn
      clear e hd hlt
      go_wp2_with fail
      go_ret
      exact ⟨rfl, hLf⟩
end
end

end Go.Proofs.YtnjcdmjaecgblaaGreatDoor
