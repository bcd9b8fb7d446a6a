/-
  What the reference of rules answers: needs, the order, Validate, Same.
-/
import Derived.Test.YtaefioikflllcaaGreatRulL
import Derived.Test.YtaefioikflllcaaGreatRulPure
import Derived.IntWalk
import Derived.Laws.StructEq
namespace Go.Proofs.YtaefioikflllcaaGreat

section
open Go.RowKit Go.Lib

theorem r9tech_c (su sw st : Value) (r : R9) (s : ByteArray) (ok : Bool) (u : T9) (V0 W : World) (hR : RAt V0 su sw st r) (h0 : Below V0.heap.size V0 W) (hok : Hid (ok = (techfv r s).isSome)) (hu : Hid (u = (techfv r s).getD T9.zero)) :
    Calls Tryz.prog 21 #[.agg #[su, sw, st], .string s] W fun e w' => ∃ vs, e = .returned (.tuple #[.agg vs.toArray, .bool ok]) ∧ TL V0 vs u ∧ Below W.heap.size W w' :=
  (r9tech_b su sw st r s V0 W hR h0).mono fun e w' ⟨vs, he, hU, hb⟩ => ⟨vs, by rw [he, hok.out], by rw [hu.out]; exact hU, hb⟩
theorem box16 {V0 : World} {vs : List Value} {u : U9} (w : World) (h : UL V0 vs u) : ∃ sn, (w.alloc (.cells vs.toArray 34)).cell? ⟨w.heap.size, 16, none⟩ = some sn ∧ StrSl V0 sn u.needs := by
  obtain ⟨sn, st, sr, rfl, h1, -, -⟩ := h
  exact ⟨sn, (Blk.new w _ _).cell 16, h1⟩
theorem tbox1 {V0 : World} {vs : List Value} {u : T9} (w : World) (h : TL V0 vs u) : ∃ sn, (w.alloc (.cells vs.toArray 42)).cell? ⟨w.heap.size, 1, none⟩ = some sn ∧ StrSl V0 sn u.needs := by
  obtain ⟨sn, rfl, h1⟩ := h
  exact ⟨sn, (Blk.new w _ _).cell 1, h1⟩
def SlPost (V0 : World) (l : List ByteArray) (w : World) (e : Ending) (w' : World) : Prop := ∃ v, e = .returned v ∧ StrSl V0 v l ∧ Below w.heap.size w w'

set_option maxHeartbeats 8000000 in
set_option maxRecDepth 100000 in
theorem r9needs_b (su sw st : Value) (r : R9) (s : ByteArray) (V0 W : World) (hR : RAt V0 su sw st r) (h0 : Below V0.heap.size V0 W) :
    Calls Tryz.prog 28 #[.agg #[su, sw, st], .string s] W (SlPost V0 (needsv r s) W) := by
  have hB := Blk.new W [su, sw, st] 28
  have hL := (Below.refl W.heap.size W).alloc (Nat.le_refl _) (.cells [su, sw, st].toArray 28)
  obtain ⟨ok, hok⟩ : ∃ q, Hid (q = (unitv r s).isSome) := ⟨_, hid rfl⟩
  obtain ⟨u, hu⟩ : ∃ q, Hid (q = (unitv r s).getD U9.zero) := ⟨_, hid rfl⟩
  obtain ⟨ok2, hok2⟩ : ∃ q, Hid (q = (techfv r s).isSome) := ⟨_, hid rfl⟩
  obtain ⟨t, ht⟩ : ∃ q, Hid (q = (techfv r s).getD T9.zero) := ⟨_, hid rfl⟩
  have hV := h0.trans (hL.mono h0.size)
  go_enter Tryz.func28, Tryz.ntmps28
  go_wp2_with fail
  generalize W.alloc (.cells [su, sw, st].toArray 28) = V at *
  ((with_reducible refine (r9unit_c _ _ _ r s ok u V0 _ hR hV hok hu).mono ?_); rintro e w1 ⟨vs, rfl, hUL, hb⟩)
  replace hV := hV.trans (hb.mono hV.size)
  replace hL := below_call hL hb
  replace hB := (hB.below hb).alloc (.cells vs.toArray 34)
  obtain ⟨sn, z16, hsn⟩ := box16 w1 hUL
  clear hb
  cases ok with
  | true =>
    have hN : needsv r s = u.needs := by
      unfold needsv
      cases h : unitv r s with
      | none => have := hok.out; rw [h] at this; cases this
      | some x => rw [hu.out, h]; rfl
    have hN' := hid hN
    clear hN hok hu hok2 ht
    go_wp2_with (first | (with_reducible refine wpList_alloc_agg rfl 34 rfl _ rfl uZero zeroU ?_) | (with_reducible refine wpList_store_new rfl 34 _ _ rfl rfl Tryz.sizeOf34 vs uZero 34 (by with_unfolding_all rfl) (by with_unfolding_all rfl) hUL.len rfl hUL.lone ?_))
    go_ret
    exact ⟨_, rfl, by rw [hN'.out]; exact hsn, hL.alloc hL.size _⟩
  | false =>
    have hN : needsv r s = t.needs := by
      unfold needsv
      cases h : unitv r s with
      | some x => have := hok.out; rw [h] at this; cases this
      | none => rw [ht.out]
    have hN' := hid hN
    obtain ⟨_, _, _, _, _, _⟩ := hB.three
    clear hN hok hu z16 hsn
    have hV2 := hV.alloc hV.size (.cells vs.toArray 34)
    have hL2 := hL.alloc hL.size (.cells vs.toArray 34)
    go_wp2_with (first | (with_reducible refine wpList_alloc_agg rfl 34 rfl _ rfl uZero zeroU ?_) | (with_reducible refine wpList_store_new rfl 34 _ _ rfl rfl Tryz.sizeOf34 vs uZero 34 (by with_unfolding_all rfl) (by with_unfolding_all rfl) hUL.len rfl hUL.lone ?_))
    ((with_reducible refine (r9tech_c _ _ _ r s ok2 t V0 _ hR hV2 hok2 ht).mono ?_); rintro e w2 ⟨ts, rfl, hTL, hb⟩)
    obtain ⟨tn, z1, hsn⟩ := tbox1 w2 hTL
    have hL3 := (below_call hL2 hb).alloc (below_call hL2 hb).size (.cells ts.toArray 42)
    clear hb hV2 hok2 ht
    go_wp2_with (first | (with_reducible refine wpList_alloc_agg rfl 42 rfl _ rfl tZero zeroT ?_) | (with_reducible refine wpList_store_new rfl 42 _ _ rfl rfl Tryz.sizeOf42 ts tZero 42 (by with_unfolding_all rfl) (by with_unfolding_all rfl) hTL.len rfl hTL.lone ?_))
    go_ret
    exact ⟨_, rfl, by rw [hN'.out]; exact hsn, hL3⟩

end

section
open Go.RowKit Go.Lib

def lenV : Value → Nat
  | .slice _ n _ => n
  | _ => 0
theorem own_len {w : World} {B k n : Nat} {e : TypeId} {v : Value} {xs : List Value} (h : w.ownsRow B e k v n xs) : lenV v = n := by
  rcases h.2 with ⟨rfl, rfl⟩ | ⟨g, cap, cur, rfl, -⟩ <;> rfl
theorem stepv_bool {r : R9} {out : List ByteArray} {x best : ByteArray} {b1 b2 : Bool} (h1 : b1 = hasv out x) (h2 : b2 = (needsv r x).all (hasv out)) : stepv r out x best = if (!b1 && b2 && (decide (best = ⟨#[]⟩) || ltS x best)) = true then x else best := by
  unfold stepv
  rw [h1, h2]
theorem step_yes {r : R9} {out l : List ByteArray} {x best B : ByteArray} {i : Nat} {c : Bool} (hi : i < l.length) (hx : l[i]'hi = x) (hS : stepv r out x best = if c = true then x else best) (hI : bestv r out (l.drop i) best = B) :
    bestv r out (l.drop (i + 1)) (if c = true then x else best) = B := by
  rw [List.drop_eq_getElem_cons hi, bestv_cons, hx, hS] at hI
  exact hI

set_option maxHeartbeats 8000000 in
set_option maxRecDepth 100000 in
theorem r9seq_b (su sw st : Value) (r : R9) (W : World) (hR : RAt W su sw st r) (hu : r.us.length ≤ 1000) (ht : r.ts.length ≤ 1000) :
    Calls Tryz.prog 49 #[.agg #[su, sw, st]] W fun e w' => ∃ v, e = .returned v ∧ StrSl w' v (seqv r) ∧ Below W.heap.size W w' := by
  have hR0 := hid hR
  obtain ⟨p, c, rfl, hm, hat⟩ := hR.u
  obtain ⟨p1, c1, rfl, hm1, hat1⟩ := hR.w
  obtain ⟨p2, c2, rfl, hm2, hat2⟩ := hR.t
  have hB := Blk.new W [.slice p r.us.length c, .slice p1 r.ws.length c1, .slice p2 r.ts.length c2] 28
  have hL := (Below.refl W.heap.size W).alloc (Nat.le_refl _) (.cells [.slice p r.us.length c, .slice p1 r.ws.length c1, .slice p2 r.ts.length c2].toArray 28)
  unfold maxLen at hm hm1 hm2
  have hR1 := hR.below hL
  clear hR
  go_enter Tryz.func49, Tryz.ntmps49
  go_wp2_with fail
  generalize W.alloc (.cells [.slice p r.us.length c, .slice p1 r.ws.length c1, .slice p2 r.ts.length c2].toArray 28) = V at *
  have hq := (Below.refl V.heap.size V).drew
  go_cut [3] from 4 (fun s3 wx => wx.ownsRow V.heap.size 9 1 s3 (r.us.length + r.ts.length) (strs (namesU r ++ namesT r)) ∧ Below V.heap.size V wx)
  case first =>
    go_region_held3 (fun w' => w'.cell? ⟨W.heap.size, 0, none⟩ = some (.slice p r.us.length c) ∧ w'.cell? ⟨W.heap.size, 1, none⟩ = some (.slice p1 r.ws.length c1) ∧ w'.cell? ⟨W.heap.size, 2, none⟩ = some (.slice p2 r.ts.length c2))
      (first | exact ⟨(hB.below (by assumption)).cell 0, (hB.below (by assumption)).cell 1, (hB.below (by assumption)).cell 2⟩)
      (first
        | (go_at_call 97; with_reducible refine (r9units_b _ _ _ r _ (hR1.below hq) hu).mono ?_; rintro e w1 ⟨v6, rfl, h6, hb⟩
           try replace h8 := own_below h8 hb
           replace h6 := own_base h6 (show V.heap.size ≤ _ by have := hq.size; omega)
           replace hq := below_call hq hb
           clear hb)
        | (go_at_call 45; with_reducible refine (r9techs_b _ _ _ r _ (hR1.below hq) ht).mono ?_; rintro e w1 ⟨v8, rfl, h8, hb⟩
           try replace h6 := own_below h6 hb
           replace h8 := own_base h8 (show V.heap.size ≤ _ by have := hq.size; omega)
           replace hq := below_call hq hb
           clear hb)
        | (obtain ⟨v9, w9, hrun, h9, hg⟩ := app_strs 32 h6 h8 (by omega) hq.size
           refine step_app_run (by rfl) (.tmp 8) (.tmp 10) 32 (by rfl) v6 v8 v9 (by rfl) (by rfl) hrun ?_
           replace hq := hq.grown hg hq.size (fun k hk => (h6.lt k hk).1)
           clear hg hrun h6 h8)
)
    all_goals
      go_wp2_with fail
      go_meet
      case rel => exact ⟨h9, hq⟩
  case rest =>
  clear hq hR1 hat hat1 hat2
  obtain ⟨h3, hq⟩ := hcut
  have hn : (allN r).length = r.us.length + r.ts.length := allN_len r
  have x3 : StrSl wc u3 (allN r) := own_strs h3 (by omega)
  replace hB := hB.below hq
  replace hL := below_call hL hq
  clear hq h3
  have hWc := hB.lt
  obtain ⟨pq, cq, rfl, hmq, hatq⟩ := id x3
  generalize hG : allN r = l at *
  replace hG := hid hG
  have hn' : l.length ≤ 2000 := by omega
  clear hn
  unfold maxLen at hmq
  go_wp2_with fail
  go_loopw [4] (fun vo wr => ∃ out, wr.ownsRow wc.heap.size 9 1 vo out.length (strs out) ∧ Blk wr W.heap.size [.slice p r.us.length c, .slice p1 r.ws.length c1, .slice p2 r.ts.length c2] 28 ∧ Below W.heap.size W wr ∧ Below wc.heap.size wc wr ∧ Hid (SeqI r out) ∧ Hid (seqLeft r out = seqv r)) (fun vo _ => 3000 - lenV vo)
  case atStart => exact ⟨[], World.ownsRow_nil _ _ _ _, hB, hL, Below.refl _ _, hid (SeqI.nil r), hid (seqLeft_nil r)⟩
  case round =>
    clear hB hL
    obtain ⟨out, hown, hB, hL, hX, hI, hS⟩ := hrel
    have hlo : out.length ≤ 2000 := by have := hI.out.len; omega
    have hLen := hid (own_len hown)
    go_wp2_with fail
    go_loopw [5, 6] (fun vb vi wq => ∃ (best : ByteArray) (i : Nat), vb = .string best ∧ vi = .int .i64 i ∧ i ≤ l.length ∧ wq.ownsRow wc.heap.size 9 1 u4 out.length (strs out) ∧ Blk wq W.heap.size [.slice p r.us.length c, .slice p1 r.ws.length c1, .slice p2 r.ts.length c2] 28 ∧ Below W.heap.size W wq ∧ Below wc.heap.size wc wq ∧ Hid (bestv r out (l.drop i) best = bestv r out l ⟨#[]⟩)) (fun _ vi _ => l.length - (RowKit.intOf vi).toNat)
    case atStart => exact ⟨⟨#[]⟩, 0, rfl, rfl, by omega, hown, hB, hL, hX, hid (by rw [List.drop_zero])⟩
    case round =>
      clear hB hL hX hown
      obtain ⟨best, i, rfl, rfl, hi, hown, hB, hL, hX, hBe⟩ := hrel
      by_cases hlt : i < l.length
      · have d1 : (i : Int) < l.length := by omega
        have d0 : (0 : Int) ≤ i := by omega
        obtain ⟨g, o, rfl, hc⟩ := hatq (by omega)
        have k1 := (hX.cell (p := ⟨g, o + i, none⟩) (World.block_lt_of_cell? wc _ (hc i hlt))).trans (hc i hlt)
        have hk := World.block_lt_of_cell? wr _ k1
        obtain ⟨x, hx⟩ : ∃ x, l[i]'hlt = x := ⟨_, rfl⟩
        rw [hx] at k1
        obtain ⟨b1, hb1⟩ : ∃ q, Hid (q = hasv out x) := ⟨_, hid rfl⟩
        obtain ⟨b2, hb2⟩ : ∃ q, Hid (q = (needsv r x).all (hasv out)) := ⟨_, hid rfl⟩
        have hSt := hid (stepv_bool (best := best) hb1.out hb2.out)
        have xo := own_strs hown (by omega)
        have HS := fun cnd (q : cnd = (!b1 && b2 && (decide (best = ⟨#[]⟩) || ltS x best))) => hid (step_yes (c := cnd) hlt hx (by rw [hSt.out, q]) hBe.out)
        have HS' := hid HS
        clear hx hBe hSt HS
        go_upto_region 7 with fail
        obtain ⟨cnd, hcnd⟩ : ∃ q, Hid (q = (!b1 && b2 && (decide (best = ⟨#[]⟩) || ltS x best))) := ⟨_, hid rfl⟩
        have HQ := HS'.out cnd hcnd.out
        clear HS'
        go_cut [46] from 12 to 50 (fun s46 wx => s46 = .bool cnd ∧ wx.ownsRow wc.heap.size 9 1 u4 out.length (strs out) ∧ Below wr.heap.size wr wx)
        case first =>
          have HQ2 := hid HQ
          clear HQ
          have hmx : Tryz.prog.follows .mixedOrders = true := by kernel_rfl
          refine wp_region_held (S := fun w' => Below wr.heap.size wr w') hmx ?_
          show wpAnyH _ _ _ _ _ _ _ _ wr.drew
          have hS0 := (Below.refl wr.heap.size wr).drew
          refine reg_take (i := 0) (v := u4) _ rfl rfl (by kernel_rfl) (by kernel_rfl) (by kernel_rfl) (fun _ _ _ h => h) (by kernel_rfl) (fun w' hS => by skip; go_simp) hS0 ?_
          simp only [Act.put, List.setIfInBounds_toArray]
          refine reg_take (i := 1) (v := .slice (some ⟨g, o, none⟩) l.length cq) _ rfl rfl (by kernel_rfl) (by kernel_rfl) (by kernel_rfl) (fun _ _ _ h => h) (by kernel_rfl) (fun w' hS => by skip; go_simp) hS0 ?_
          simp only [Act.put]
          refine reg_take (i := 2) (v := .int .i64 i) _ rfl rfl (by kernel_rfl) (by kernel_rfl) (by kernel_rfl) (fun _ _ _ h => h) (by kernel_rfl) (fun w' hS => by skip; go_simp) hS0 ?_
          simp only [Act.put]
          refine reg_take (i := 3) (v := .pointer (some ⟨g, o + i, none⟩)) _ rfl rfl (by kernel_rfl) (by kernel_rfl) (by kernel_rfl) (fun _ _ _ h => h) (by kernel_rfl) (fun w' hS => by skip; go_simp) hS0 ?_
          simp only [Act.put]
          refine reg_take (i := 4) (v := .string x) _ rfl rfl (by kernel_rfl) (by kernel_rfl) (by kernel_rfl) (fun _ _ _ h => h) (by kernel_rfl) (fun w' hS => by (have := (hS.cell (p := ⟨g, o + i, none⟩) hk).trans k1); go_simp) hS0 ?_
          simp only [Act.put]
          refine held_one (i := 5) (by kernel_rfl) rfl (fun K hQ => ?_)
          go_simp
          (with_reducible refine (r9has_b out _ x _ _ (xo.below hS0) hb1).mono ?_)
          rintro e w2 ⟨rfl, rfl⟩
          refine hQ.out _ _ hS0 ?_
          clear hQ
          try simp only [Act.put, List.setIfInBounds_toArray, List.set_cons_zero, List.set_cons_succ]
          cases b1 with
          | true =>
            obtain rfl : cnd = false := hcnd.out
            refine reg_take (i := 6) (v := .bool false) _ rfl rfl (by kernel_rfl) (by kernel_rfl) (by kernel_rfl) (fun _ _ _ h => h) (by kernel_rfl) (fun w' hS => by skip; go_simp) hS0 ?_
            simp only [Act.put, List.setIfInBounds_toArray]
            refine reg_take (i := 7) (v := .bool false) _ rfl rfl (by kernel_rfl) (by kernel_rfl) (by kernel_rfl) (fun _ _ _ h => h) (by kernel_rfl) (fun w' hS => by skip; go_simp) hS0 ?_
            simp only [Act.put]
            refine reg_skip (i := 8) _ rfl rfl (by kernel_rfl) (by kernel_rfl) (by kernel_rfl) (fun _ _ _ h => h) (by kernel_rfl) hS0 ?_
            simp only [Act.put]
            refine reg_skip (i := 9) _ rfl rfl (by kernel_rfl) (by kernel_rfl) (by kernel_rfl) (fun _ _ _ h => h) (by kernel_rfl) hS0 ?_
            simp only [Act.put]
            refine reg_skip (i := 10) _ rfl rfl (by kernel_rfl) (by kernel_rfl) (by kernel_rfl) (fun _ _ _ h => h) (by kernel_rfl) hS0 ?_
            simp only [Act.put]
            refine reg_skip (i := 11) _ rfl rfl (by kernel_rfl) (by kernel_rfl) (by kernel_rfl) (fun _ _ _ h => h) (by kernel_rfl) hS0 ?_
            simp only [Act.put]
            refine reg_skip (i := 12) _ rfl rfl (by kernel_rfl) (by kernel_rfl) (by kernel_rfl) (fun _ _ _ h => h) (by kernel_rfl) hS0 ?_
            simp only [Act.put]
            refine reg_skip (i := 14) _ rfl rfl (by kernel_rfl) (by kernel_rfl) (by kernel_rfl) (fun _ _ _ h => h) (by kernel_rfl) hS0 ?_
            simp only [Act.put]
            refine held_one (i := 13) (by kernel_rfl) rfl (fun K hQ => ?_)
            go_simp
            refine hQ.out _ _ hS0 ?_
            clear hQ
            try simp only [Act.put, List.setIfInBounds_toArray, List.set_cons_zero, List.set_cons_succ]
            refine held_one (i := 15) (by kernel_rfl) rfl (fun K hQ => ?_)
            go_simp
            refine hQ.out _ _ hS0 ?_
            clear hQ
            try simp only [Act.put, List.setIfInBounds_toArray, List.set_cons_zero, List.set_cons_succ]
            refine reg_take (i := 16) (v := .bool false) _ rfl rfl (by kernel_rfl) (by kernel_rfl) (by kernel_rfl) (fun _ _ _ h => h) (by kernel_rfl) (fun w' hS => by skip; go_simp) hS0 ?_
            simp only [Act.put, List.setIfInBounds_toArray]
            refine reg_take (i := 17) (v := .bool false) _ rfl rfl (by kernel_rfl) (by kernel_rfl) (by kernel_rfl) (fun _ _ _ h => h) (by kernel_rfl) (fun w' hS => by skip; go_simp) hS0 ?_
            simp only [Act.put]
            refine reg_skip (i := 18) _ rfl rfl (by kernel_rfl) (by kernel_rfl) (by kernel_rfl) (fun _ _ _ h => h) (by kernel_rfl) hS0 ?_
            simp only [Act.put]
            refine reg_skip (i := 19) _ rfl rfl (by kernel_rfl) (by kernel_rfl) (by kernel_rfl) (fun _ _ _ h => h) (by kernel_rfl) hS0 ?_
            simp only [Act.put]
            refine reg_skip (i := 20) _ rfl rfl (by kernel_rfl) (by kernel_rfl) (by kernel_rfl) (fun _ _ _ h => h) (by kernel_rfl) hS0 ?_
            simp only [Act.put]
            refine reg_skip (i := 21) _ rfl rfl (by kernel_rfl) (by kernel_rfl) (by kernel_rfl) (fun _ _ _ h => h) (by kernel_rfl) hS0 ?_
            simp only [Act.put]
            refine reg_skip (i := 22) _ rfl rfl (by kernel_rfl) (by kernel_rfl) (by kernel_rfl) (fun _ _ _ h => h) (by kernel_rfl) hS0 ?_
            simp only [Act.put]
            refine reg_skip (i := 23) _ rfl rfl (by kernel_rfl) (by kernel_rfl) (by kernel_rfl) (fun _ _ _ h => h) (by kernel_rfl) hS0 ?_
            simp only [Act.put]
            refine reg_skip (i := 24) _ rfl rfl (by kernel_rfl) (by kernel_rfl) (by kernel_rfl) (fun _ _ _ h => h) (by kernel_rfl) hS0 ?_
            simp only [Act.put]
            refine reg_skip (i := 25) _ rfl rfl (by kernel_rfl) (by kernel_rfl) (by kernel_rfl) (fun _ _ _ h => h) (by kernel_rfl) hS0 ?_
            simp only [Act.put]
            refine reg_skip (i := 26) _ rfl rfl (by kernel_rfl) (by kernel_rfl) (by kernel_rfl) (fun _ _ _ h => h) (by kernel_rfl) hS0 ?_
            simp only [Act.put]
            refine reg_skip (i := 27) _ rfl rfl (by kernel_rfl) (by kernel_rfl) (by kernel_rfl) (fun _ _ _ h => h) (by kernel_rfl) hS0 ?_
            simp only [Act.put]
            refine reg_take (i := 28) (v := .bool false) _ rfl rfl (by kernel_rfl) (by kernel_rfl) (by kernel_rfl) (fun _ _ _ h => h) (by kernel_rfl) (fun w' hS => by skip; go_simp) hS0 ?_
            simp only [Act.put]
            refine wpAnyH_done (by kernel_rfl) ?_ _
            show Exit.then _ _ Exit.normal _ _
            go_wp2_with fail
            go_meet
            case rel => exact ⟨rfl, own_below hown hS0, hS0⟩
          | false =>
          refine reg_take (i := 6) (v := .bool true) _ rfl rfl (by kernel_rfl) (by kernel_rfl) (by kernel_rfl) (fun _ _ _ h => h) (by kernel_rfl) (fun w' hS => by skip; go_simp) hS0 ?_
          simp only [Act.put, List.setIfInBounds_toArray]
          refine reg_take (i := 7) (v := .bool true) _ rfl rfl (by kernel_rfl) (by kernel_rfl) (by kernel_rfl) (fun _ _ _ h => h) (by kernel_rfl) (fun w' hS => by skip; go_simp) hS0 ?_
          simp only [Act.put]
          refine reg_take (i := 8) (v := .agg #[.slice p r.us.length c, .slice p1 r.ws.length c1, .slice p2 r.ts.length c2]) _ rfl rfl (by kernel_rfl) (by kernel_rfl) (by kernel_rfl) (fun _ _ _ h => h) (by kernel_rfl) (fun w' hS => by (obtain ⟨_, _, _, _, _, _⟩ := (hB.below hS).three); go_simp) hS0 ?_
          simp only [Act.put]
          refine reg_take (i := 9) (v := .slice (some ⟨g, o, none⟩) l.length cq) _ rfl rfl (by kernel_rfl) (by kernel_rfl) (by kernel_rfl) (fun _ _ _ h => h) (by kernel_rfl) (fun w' hS => by skip; go_simp) hS0 ?_
          simp only [Act.put]
          refine reg_take (i := 10) (v := .int .i64 i) _ rfl rfl (by kernel_rfl) (by kernel_rfl) (by kernel_rfl) (fun _ _ _ h => h) (by kernel_rfl) (fun w' hS => by skip; go_simp) hS0 ?_
          simp only [Act.put]
          refine reg_take (i := 11) (v := .pointer (some ⟨g, o + i, none⟩)) _ rfl rfl (by kernel_rfl) (by kernel_rfl) (by kernel_rfl) (fun _ _ _ h => h) (by kernel_rfl) (fun w' hS => by skip; go_simp) hS0 ?_
          simp only [Act.put]
          refine reg_take (i := 12) (v := .string x) _ rfl rfl (by kernel_rfl) (by kernel_rfl) (by kernel_rfl) (fun _ _ _ h => h) (by kernel_rfl) (fun w' hS => by (have := (hS.cell (p := ⟨g, o + i, none⟩) hk).trans k1); go_simp) hS0 ?_
          simp only [Act.put]
          refine reg_take (i := 14) (v := u4) _ rfl rfl (by kernel_rfl) (by kernel_rfl) (by kernel_rfl) (fun _ _ _ h => h) (by kernel_rfl) (fun w' hS => by skip; go_simp) hS0 ?_
          simp only [Act.put]
          refine held_one (i := 13) (by kernel_rfl) rfl (fun K hQ => ?_)
          go_simp
          (with_reducible refine (r9needs_b _ _ _ r x W _ hR0.out (hL.trans (hS0.mono hL.size))).mono ?_)
          rintro e w3 ⟨vn, rfl, hsn, hbn⟩
          have hS1 := below_call hS0 hbn
          refine hQ.out _ _ hS1 ?_
          clear hQ
          try simp only [Act.put, List.setIfInBounds_toArray, List.set_cons_zero, List.set_cons_succ]
          refine held_one (i := 15) (by kernel_rfl) rfl (fun K hQ => ?_)
          go_simp
          (with_reducible refine (r9all_b (needsv r x) out _ _ _ _ (hsn.below (hL.trans (hS1.mono hL.size))) (xo.below hS1) hb2).mono ?_)
          rintro e w4 ⟨rfl, rfl⟩
          refine hQ.out _ _ hS1 ?_
          clear hQ
          try simp only [Act.put, List.setIfInBounds_toArray, List.set_cons_zero, List.set_cons_succ]
          refine reg_take (i := 16) (v := .bool b2) _ rfl rfl (by kernel_rfl) (by kernel_rfl) (by kernel_rfl) (fun _ _ _ h => h) (by kernel_rfl) (fun w' hS => by skip; go_simp) hS1 ?_
          simp only [Act.put, List.setIfInBounds_toArray]
          refine reg_take (i := 17) (v := .bool b2) _ rfl rfl (by kernel_rfl) (by kernel_rfl) (by kernel_rfl) (fun _ _ _ h => h) (by kernel_rfl) (fun w' hS => by skip; go_simp) hS1 ?_
          simp only [Act.put]
          cases b2 with
          | false =>
            obtain rfl : cnd = false := hcnd.out
            refine reg_skip (i := 18) _ rfl rfl (by kernel_rfl) (by kernel_rfl) (by kernel_rfl) (fun _ _ _ h => h) (by kernel_rfl) hS1 ?_
            simp only [Act.put]
            refine reg_skip (i := 19) _ rfl rfl (by kernel_rfl) (by kernel_rfl) (by kernel_rfl) (fun _ _ _ h => h) (by kernel_rfl) hS1 ?_
            simp only [Act.put]
            refine reg_skip (i := 20) _ rfl rfl (by kernel_rfl) (by kernel_rfl) (by kernel_rfl) (fun _ _ _ h => h) (by kernel_rfl) hS1 ?_
            simp only [Act.put]
            refine reg_skip (i := 21) _ rfl rfl (by kernel_rfl) (by kernel_rfl) (by kernel_rfl) (fun _ _ _ h => h) (by kernel_rfl) hS1 ?_
            simp only [Act.put]
            refine reg_skip (i := 22) _ rfl rfl (by kernel_rfl) (by kernel_rfl) (by kernel_rfl) (fun _ _ _ h => h) (by kernel_rfl) hS1 ?_
            simp only [Act.put]
            refine reg_skip (i := 23) _ rfl rfl (by kernel_rfl) (by kernel_rfl) (by kernel_rfl) (fun _ _ _ h => h) (by kernel_rfl) hS1 ?_
            simp only [Act.put]
            refine reg_skip (i := 24) _ rfl rfl (by kernel_rfl) (by kernel_rfl) (by kernel_rfl) (fun _ _ _ h => h) (by kernel_rfl) hS1 ?_
            simp only [Act.put]
            refine reg_skip (i := 25) _ rfl rfl (by kernel_rfl) (by kernel_rfl) (by kernel_rfl) (fun _ _ _ h => h) (by kernel_rfl) hS1 ?_
            simp only [Act.put]
            refine reg_skip (i := 26) _ rfl rfl (by kernel_rfl) (by kernel_rfl) (by kernel_rfl) (fun _ _ _ h => h) (by kernel_rfl) hS1 ?_
            simp only [Act.put]
            refine reg_skip (i := 27) _ rfl rfl (by kernel_rfl) (by kernel_rfl) (by kernel_rfl) (fun _ _ _ h => h) (by kernel_rfl) hS1 ?_
            simp only [Act.put]
            refine reg_take (i := 28) (v := .bool false) _ rfl rfl (by kernel_rfl) (by kernel_rfl) (by kernel_rfl) (fun _ _ _ h => h) (by kernel_rfl) (fun w' hS => by skip; go_simp) hS1 ?_
            simp only [Act.put]
            refine wpAnyH_done (by kernel_rfl) ?_ _
            show Exit.then _ _ Exit.normal _ _
            go_wp2_with fail
            go_meet
            case rel => exact ⟨rfl, own_below hown hS1, hS1⟩
          | true =>
          by_cases hbe : best = ⟨#[]⟩
          · subst hbe
            obtain rfl : cnd = true := by rw [hcnd.out]; simp
            refine reg_take (i := 18) (v := .string ⟨#[]⟩) _ rfl rfl (by kernel_rfl) (by kernel_rfl) (by kernel_rfl) (fun _ _ _ h => h) (by kernel_rfl) (fun w' hS => by skip; go_simp) hS1 ?_
            simp only [Act.put]
            refine reg_take (i := 19) (v := .bool true) _ rfl rfl (by kernel_rfl) (by kernel_rfl) (by kernel_rfl) (fun _ _ _ h => h) (by kernel_rfl) (fun w' hS => by skip; go_simp) hS1 ?_
            simp only [Act.put]
            refine reg_take (i := 20) (v := .bool true) _ rfl rfl (by kernel_rfl) (by kernel_rfl) (by kernel_rfl) (fun _ _ _ h => h) (by kernel_rfl) (fun w' hS => by skip; go_simp) hS1 ?_
            simp only [Act.put]
            refine reg_skip (i := 21) _ rfl rfl (by kernel_rfl) (by kernel_rfl) (by kernel_rfl) (fun _ _ _ h => h) (by kernel_rfl) hS1 ?_
            simp only [Act.put]
            refine reg_skip (i := 22) _ rfl rfl (by kernel_rfl) (by kernel_rfl) (by kernel_rfl) (fun _ _ _ h => h) (by kernel_rfl) hS1 ?_
            simp only [Act.put]
            refine reg_skip (i := 23) _ rfl rfl (by kernel_rfl) (by kernel_rfl) (by kernel_rfl) (fun _ _ _ h => h) (by kernel_rfl) hS1 ?_
            simp only [Act.put]
            refine reg_skip (i := 24) _ rfl rfl (by kernel_rfl) (by kernel_rfl) (by kernel_rfl) (fun _ _ _ h => h) (by kernel_rfl) hS1 ?_
            simp only [Act.put]
            refine reg_skip (i := 25) _ rfl rfl (by kernel_rfl) (by kernel_rfl) (by kernel_rfl) (fun _ _ _ h => h) (by kernel_rfl) hS1 ?_
            simp only [Act.put]
            refine reg_skip (i := 26) _ rfl rfl (by kernel_rfl) (by kernel_rfl) (by kernel_rfl) (fun _ _ _ h => h) (by kernel_rfl) hS1 ?_
            simp only [Act.put]
            refine reg_take (i := 27) (v := .bool true) _ rfl rfl (by kernel_rfl) (by kernel_rfl) (by kernel_rfl) (fun _ _ _ h => h) (by kernel_rfl) (fun w' hS => by skip; go_simp) hS1 ?_
            simp only [Act.put]
            refine reg_take (i := 28) (v := .bool true) _ rfl rfl (by kernel_rfl) (by kernel_rfl) (by kernel_rfl) (fun _ _ _ h => h) (by kernel_rfl) (fun w' hS => by skip; go_simp) hS1 ?_
            simp only [Act.put]
            refine wpAnyH_done (by kernel_rfl) ?_ _
            show Exit.then _ _ Exit.normal _ _
            go_wp2_with fail
            go_meet
            case rel => exact ⟨rfl, own_below hown hS1, hS1⟩
          · have hne := ne_empty hbe
            have hd : decide (best = ⟨#[]⟩) = false := decide_eq_false hbe
            have hc : Op.bytesLess x.toList best.toList = cnd := by rw [hcnd.out, hd]; simp [ltS]
            obtain ⟨e1, e2, e3⟩ := hne
            clear hd hbe hcnd
            refine reg_take (i := 18) (v := .string best) _ rfl rfl (by kernel_rfl) (by kernel_rfl) (by kernel_rfl) (fun _ _ _ h => h) (by kernel_rfl) (fun w' hS => by skip; go_simp) hS1 ?_
            simp only [Act.put]
            refine reg_take (i := 19) (v := .bool false) _ rfl rfl (by kernel_rfl) (by kernel_rfl) (by kernel_rfl) (fun _ _ _ h => h) (by kernel_rfl) (fun w' hS => by skip; go_simp) hS1 ?_
            simp only [Act.put]
            refine reg_take (i := 20) (v := .bool false) _ rfl rfl (by kernel_rfl) (by kernel_rfl) (by kernel_rfl) (fun _ _ _ h => h) (by kernel_rfl) (fun w' hS => by skip; go_simp) hS1 ?_
            simp only [Act.put]
            refine reg_take (i := 21) (v := .slice (some ⟨g, o, none⟩) l.length cq) _ rfl rfl (by kernel_rfl) (by kernel_rfl) (by kernel_rfl) (fun _ _ _ h => h) (by kernel_rfl) (fun w' hS => by skip; go_simp) hS1 ?_
            simp only [Act.put]
            refine reg_take (i := 22) (v := .int .i64 i) _ rfl rfl (by kernel_rfl) (by kernel_rfl) (by kernel_rfl) (fun _ _ _ h => h) (by kernel_rfl) (fun w' hS => by skip; go_simp) hS1 ?_
            simp only [Act.put]
            refine reg_take (i := 23) (v := .pointer (some ⟨g, o + i, none⟩)) _ rfl rfl (by kernel_rfl) (by kernel_rfl) (by kernel_rfl) (fun _ _ _ h => h) (by kernel_rfl) (fun w' hS => by skip; go_simp) hS1 ?_
            simp only [Act.put]
            refine reg_take (i := 24) (v := .string x) _ rfl rfl (by kernel_rfl) (by kernel_rfl) (by kernel_rfl) (fun _ _ _ h => h) (by kernel_rfl) (fun w' hS => by (have := (hS.cell (p := ⟨g, o + i, none⟩) hk).trans k1); go_simp) hS1 ?_
            simp only [Act.put]
            refine reg_take (i := 25) (v := .string best) _ rfl rfl (by kernel_rfl) (by kernel_rfl) (by kernel_rfl) (fun _ _ _ h => h) (by kernel_rfl) (fun w' hS => by skip; go_simp) hS1 ?_
            simp only [Act.put]
            refine reg_take (i := 26) (v := .bool cnd) _ rfl rfl (by kernel_rfl) (by kernel_rfl) (by kernel_rfl) (fun _ _ _ h => h) (by kernel_rfl) (fun w' hS => by skip; go_simp) hS1 ?_
            simp only [Act.put]
            refine reg_take (i := 27) (v := .bool cnd) _ rfl rfl (by kernel_rfl) (by kernel_rfl) (by kernel_rfl) (fun _ _ _ h => h) (by kernel_rfl) (fun w' hS => by skip; go_simp) hS1 ?_
            simp only [Act.put]
            refine reg_take (i := 28) (v := .bool cnd) _ rfl rfl (by kernel_rfl) (by kernel_rfl) (by kernel_rfl) (fun _ _ _ h => h) (by kernel_rfl) (fun w' hS => by skip; go_simp) hS1 ?_
            simp only [Act.put]
            refine wpAnyH_done (by kernel_rfl) ?_ _
            show Exit.then _ _ Exit.normal _ _
            go_wp2_with fail
            go_meet
            case rel => exact ⟨rfl, own_below hown hS1, hS1⟩
        case rest =>
        obtain ⟨rfl, hown2, hX1⟩ := hcut
        have k2 := (hX1.cell (p := ⟨g, o + i, none⟩) hk).trans k1
        replace hB := hB.below hX1
        replace hL := below_call hL hX1
        replace hX := below_call hX hX1
        clear hb1 hb2 xo hcnd hX1 k1 hk hown
        cases cnd with
        | true =>
          go_wp2_with fail
          go_roundw
          case rel => exact ⟨x, i + 1, rfl, by go_num, by omega, hown2, hB, hL, hX, HQ⟩
          case measure => simp [RowKit.intOf]; omega
        | false =>
          go_wp2_with fail
          go_roundw
          case rel => exact ⟨best, i + 1, rfl, by go_num, by omega, hown2, hB, hL, hX, HQ⟩
          case measure => simp [RowKit.intOf]; omega
      · obtain rfl : i = l.length := by omega
        have hbe := hBe.out
        rw [List.drop_length] at hbe
        have hbb : bestv r out (allN r) ⟨#[]⟩ = best := by rw [hG.out, ← hbe]; rfl
        have d1 : ¬ (l.length : Int) < l.length := by omega
        clear hBe hatq hbe
        by_cases hz : best = ⟨#[]⟩
        · have hfin := seqLeft_end hI.out (hbb.trans hz)
          have hres : seqv r = out := hS.out.symm.trans hfin
          have xo := own_strs hown (by omega)
          subst hz
          have hres' := hid hres
          clear hbb hfin hres hS hI hG
          go_wp2_with fail
          go_ret
          exact ⟨_, rfl, by rw [hres'.out]; exact xo, hL⟩
        · have hI2 := hid (hI.out.step hbb hz)
          have hS2 := hid ((seqLeft_step hI.out hbb hz).symm.trans hS.out)
          have hlo2 := hI2.out.len
          have hne := ne_empty hz
          obtain ⟨e1, e2, e3⟩ := hne
          obtain ⟨i0, hi0, hz0, hz1, hz2⟩ := info_cut9 infoStr9
          have hlt4 := hB.lt
          have hlen2 := hLen.out
          replace hlen2 := hid hlen2
          clear hbb hS hI hz hLen
          go_wp2_with (at_builtin; refine wpList_append_own _ rfl _ _ 32 rfl wc.heap.size 9 i0 (.string ⟨#[]⟩) 1 16 Tryz.underlying32 hi0 hz0 hz1 hz2 rfl (by decide) _ _ _ rfl (hown.alloc _) ⟨wr.heap.size, 0, none⟩ 1 1 [.string best] rfl rfl cells_new (str_lone9 _) (by unfold maxLen; omega) (by omega) (by have := hX.size; simp; omega) ?_)
          intro v' w' hown' hg' _
          have hb' := below_push (t := 9) hX.size hX hown (Nat.le_refl _) hg'
          have hb2' := below_push (t := 9) hL.size hL hown (by omega) hg'
          have hB' := (hB.alloc (.cells #[.string best] 9)).grown hg' (own_not hown hWc)
          have hown2 := own_to hown' (m := (out ++ [best]).length) (ys := strs (out ++ [best])) (by simp) (strs_snoc out best)
          have hlen3 := own_len hown2
          replace hlen3 := hid hlen3
          clear hg' hown hown' hB hL hX e1 e2 e3
          go_wp2_with fail
          go_roundw
          case rel => exact ⟨out ++ [best], hown2, hB', hb2', hb', hI2, hS2⟩
          case measure =>
            show 3000 - lenV _ < 3000 - lenV _
            rw [hlen3.out, hlen2.out]
            simp only [List.length_append, List.length_cons, List.length_nil] at hlo2 ⊢
            omega

end

section
open Go.RowKit Go.Lib

def dup1 (r : R9) (u : U9) : Bool := !hasv (namesT r) u.nm
theorem dupv_eq (r : R9) : dupv r = !r.us.all (dup1 r) := by
  unfold dupv dup1
  induction r.us with
  | nil => rfl
  | cons a l ih => simp only [List.any_cons, List.all_cons, ih, Bool.not_and, Bool.not_not]
/-- The rest of the examination, from the shared names on. -/
def val2 (r : R9) : Int := if numsv r = false then 1 else if foundv r = false then 8 else if typedv r = false then 18 else if (seqv r).length < r.us.length + r.ts.length then 14 else 0
theorem valv_eq (r : R9) : valv r = if limv r = false then 2 else if namedv r = false then 6 else if ordv r = false then 13 else if r.us.all (dup1 r) = false then 7 else val2 r := by
  unfold valv
  rw [dupv_eq]
  cases r.us.all (dup1 r) <;> rfl

set_option maxHeartbeats 8000000 in
set_option maxRecDepth 100000 in
theorem r9val_b (su sw st : Value) (r : R9) (n : Int) (W : World) (hR : RAt W su sw st r) (hu : r.us.length ≤ 1000) (hw : r.ws.length ≤ 1000) (ht : r.ts.length ≤ 1000) (e : Hid (n = valv r)) :
    Calls Tryz.prog 15 #[.agg #[su, sw, st]] W fun e w' => e = .returned (.int .i64 n) ∧ Below W.heap.size W w' := by
  have hR0 := hid hR
  obtain ⟨q1, hq1⟩ : ∃ q, Hid (q = limv r) := ⟨_, hid rfl⟩
  obtain ⟨q2, hq2⟩ : ∃ q, Hid (q = namedv r) := ⟨_, hid rfl⟩
  obtain ⟨q3, hq3⟩ : ∃ q, Hid (q = ordv r) := ⟨_, hid rfl⟩
  obtain ⟨q5, hq5⟩ : ∃ q, Hid (q = numsv r) := ⟨_, hid rfl⟩
  obtain ⟨q6, hq6⟩ : ∃ q, Hid (q = foundv r) := ⟨_, hid rfl⟩
  obtain ⟨q7, hq7⟩ : ∃ q, Hid (q = typedv r) := ⟨_, hid rfl⟩
  replace e := hid (show n = if q1 = false then 2 else if q2 = false then 6 else if q3 = false then 13 else if r.us.all (dup1 r) = false then 7 else if q5 = false then 1 else if q6 = false then 8 else if q7 = false then 18 else if (seqv r).length < r.us.length + r.ts.length then 14 else 0 by
    rw [e.out, valv_eq, hq1.out, hq2.out, hq3.out, hq5.out, hq6.out, hq7.out]; rfl)
  obtain ⟨p, c, rfl, hm, hat⟩ := hR.u
  obtain ⟨p1, c1, rfl, hm1, hat1⟩ := hR.w
  obtain ⟨p2, c2, rfl, hm2, hat2⟩ := hR.t
  have hB := Blk.new W [.slice p r.us.length c, .slice p1 r.ws.length c1, .slice p2 r.ts.length c2] 28
  have hL := (Below.refl W.heap.size W).alloc (Nat.le_refl _) (.cells [.slice p r.us.length c, .slice p1 r.ws.length c1, .slice p2 r.ts.length c2].toArray 28)
  unfold maxLen at hm hm1 hm2
  have hR1 := hR.below hL
  clear hR
  go_enter Tryz.func15, Tryz.ntmps15
  go_wp2_with fail
  generalize W.alloc (.cells [.slice p r.us.length c, .slice p1 r.ws.length c1, .slice p2 r.ts.length c2].toArray 28) = V at *
  clear hR1 hat1 hat2
  obtain ⟨_, _, _, _, _, _⟩ := hB.three
  ((with_reducible refine (r9limits_b _ _ _ r q1 _ (hR0.out.below hL) hq1).mono ?_); rintro e w1 ⟨rfl, hb⟩)
  replace hB := hB.below hb
  replace hL := below_call hL hb
  obtain ⟨_, _, _, _, _, _⟩ := hB.three
  clear hb
  cases q1 with
  | false =>
    have hn : n = 2 := e.out.trans (by simp)
    subst hn
    clear e
    go_wp2_with fail
    go_ret
    exact ⟨rfl, hL⟩
  | true =>
  go_wp2_with fail
  ((with_reducible refine (r9named_b _ _ _ r q2 _ (hR0.out.below hL) hu hw ht hq2).mono ?_); rintro e w2 ⟨rfl, hb⟩)
  replace hB := hB.below hb
  replace hL := below_call hL hb
  obtain ⟨_, _, _, _, _, _⟩ := hB.three
  clear hb
  cases q2 with
  | false =>
    have hn : n = 6 := e.out.trans (by simp)
    subst hn
    clear e
    go_wp2_with fail
    go_ret
    exact ⟨rfl, hL⟩
  | true =>
  go_wp2_with fail
  ((with_reducible refine (r9ordered_b _ _ _ r q3 _ (hR0.out.below hL) hu hw ht hq3).mono ?_); rintro e w3 ⟨rfl, hb⟩)
  replace hB := hB.below hb
  replace hL := below_call hL hb
  obtain ⟨_, _, _, _, _, _⟩ := hB.three
  clear hb
  cases q3 with
  | false =>
    have hn : n = 13 := e.out.trans (by simp)
    subst hn
    clear e
    go_wp2_with fail
    go_ret
    exact ⟨rfl, hL⟩
  | true =>
  go_wp2_with fail
  ((with_reducible refine (r9techs_b _ _ _ r _ (hR0.out.below hL) ht).mono ?_); rintro e wt ⟨vt, rfl, h1, hb⟩)
  replace hB := hB.below hb
  replace hL := below_call hL hb
  have xt : StrSl wt vt (namesT r) := own_strs h1 (by omega)
  clear hb h1
  replace e := hid (show n = if r.us.all (dup1 r) = false then 7 else if q5 = false then 1 else if q6 = false then 8 else if q7 = false then 18 else if (seqv r).length < r.us.length + r.ts.length then 14 else 0 by rw [e.out]; rfl)
  go_wp2_with fail
  go_loop [4] (fun vi => ∃ i : Nat, vi = .int .i64 i ∧ i ≤ r.us.length ∧ Hid ((r.us.take i).all (dup1 r) = true)) (fun vi => r.us.length - (RowKit.intOf vi).toNat)
  case atStart => exact ⟨0, rfl, by omega, hid rfl⟩
  case round =>
    obtain ⟨i, rfl, hi, hA⟩ := hrel
    obtain ⟨_, _, _, _, _, _⟩ := hB.three
    by_cases hlt : i < r.us.length
    · have d1 : (i : Int) < r.us.length := by omega
      have d0 : (0 : Int) ≤ i := by omega
      obtain ⟨g, o, rfl, hc⟩ := hat (by omega)
      obtain ⟨vs, hU, hcs⟩ := (hc i hlt).ul
      have k0 := (hcs.below' (hcs.lt' hU.name) hL).first hU.name
      have HN := fun q => hid (allp_take (f := dup1 r) hlt hA.out q)
      have HY := fun q => hid (allp_no (f := dup1 r) hlt q)
      obtain ⟨u, hu⟩ : ∃ u, r.us[i]'hlt = u := ⟨_, rfl⟩
      rw [hu] at HN HY k0
      obtain ⟨q, hq⟩ : ∃ q, Hid (q = hasv (namesT r) u.nm) := ⟨_, hid rfl⟩
      have hF := hid (show dup1 r u = !q by rw [hq.out]; rfl)
      clear hu hat hc hU hA hcs
      go_wp2_with fail
      ((with_reducible refine (r9has_b (namesT r) _ u.nm q _ xt hq).mono ?_); rintro e w2 ⟨rfl, rfl⟩)
      cases q with
      | true =>
        have hn : n = 7 := by rw [e.out, (HY hF.out).out]; rfl
        subst hn
        clear e HN HY hF
        go_wp2_with fail
        go_ret
        exact ⟨rfl, hL⟩
      | false =>
        have HS := HN hF.out
        clear HN HY hF
        go_wp2_with fail
        go_round
        case rel => exact ⟨i + 1, by go_num, by omega, HS⟩
        case measure => simp [RowKit.intOf]; omega
    · obtain rfl : i = r.us.length := by omega
      have ha := hA.out
      rw [List.take_length] at ha
      have d1 : ¬ (r.us.length : Int) < r.us.length := by omega
      replace e := hid (show n = if q5 = false then 1 else if q6 = false then 8 else if q7 = false then 18 else if (seqv r).length < r.us.length + r.ts.length then 14 else 0 by rw [e.out, ha]; rfl)
      clear ha hA hat xt
      go_wp2_with fail
      clear d1
      ((with_reducible refine (r9numbers_b _ _ _ r q5 _ (hR0.out.below hL) hq5).mono ?_); rintro e w5 ⟨rfl, hb⟩)
      replace hB := hB.below hb
      replace hL := below_call hL hb
      obtain ⟨_, _, _, _, _, _⟩ := hB.three
      clear hb
      cases q5 with
      | false =>
        have hn : n = 1 := e.out.trans (by simp)
        subst hn
        clear e
        go_wp2_with fail
        go_ret
        exact ⟨rfl, hL⟩
      | true =>
      go_wp2_with fail
      ((with_reducible refine (r9found_b _ _ _ r q6 _ (hR0.out.below hL) hu hw ht hq6).mono ?_); rintro e w6 ⟨rfl, hb⟩)
      replace hB := hB.below hb
      replace hL := below_call hL hb
      obtain ⟨_, _, _, _, _, _⟩ := hB.three
      clear hb
      cases q6 with
      | false =>
        have hn : n = 8 := e.out.trans (by simp)
        subst hn
        clear e
        go_wp2_with fail
        go_ret
        exact ⟨rfl, hL⟩
      | true =>
      go_wp2_with fail
      ((with_reducible refine (r9typed_b _ _ _ r q7 _ (hR0.out.below hL) hq7).mono ?_); rintro e w7 ⟨rfl, hb⟩)
      replace hB := hB.below hb
      replace hL := below_call hL hb
      obtain ⟨_, _, _, _, _, _⟩ := hB.three
      clear hb
      cases q7 with
      | false =>
        have hn : n = 18 := e.out.trans (by simp)
        subst hn
        clear e
        go_wp2_with fail
        go_ret
        exact ⟨rfl, hL⟩
      | true =>
      go_upto_region 19 with fail
      have hq := (Below.refl w7.heap.size w7).drew
      obtain ⟨L, hLn⟩ : ∃ L, Hid (L = (seqv r).length) := ⟨_, hid rfl⟩
      replace e := hid (show n = if L < r.us.length + r.ts.length then 14 else 0 by rw [e.out, hLn.out]; simp)
      have hsum : IntKind.i64.wrap ((r.us.length : Int) + (r.ts.length : Int)) = (r.us.length : Int) + (r.ts.length : Int) := IntWalk.i64_in _ (by omega)
      go_cut [46] from 47 (fun s46 wx => s46 = .bool (decide (L < r.us.length + r.ts.length)) ∧ Below w7.heap.size w7 wx)
      case first =>
        go_region_held3 (fun w' => w'.cell? ⟨W.heap.size, 0, none⟩ = some (.slice p r.us.length c) ∧ w'.cell? ⟨W.heap.size, 1, none⟩ = some (.slice p1 r.ws.length c1) ∧ w'.cell? ⟨W.heap.size, 2, none⟩ = some (.slice p2 r.ts.length c2))
          (first | exact ⟨(hB.below (by assumption)).cell 0, (hB.below (by assumption)).cell 1, (hB.below (by assumption)).cell 2⟩)
          (first | (go_at_call 49; (with_reducible refine (r9seq_b _ _ _ r _ (hR0.out.below (below_call hL hq)) hu ht).mono ?_); rintro e w9 ⟨v, rfl, ⟨pz, cz, rfl, hmz, -⟩, hb⟩; replace hq := below_call hq hb; clear hb; rw [← hLn.out] at *))
        all_goals
          go_wp2_with fail
          go_meet
          case rel => first | exact ⟨rfl, hq⟩ | exact ⟨by congr 1; rw [decide_eq_decide]; omega, hq⟩
      case rest =>
      obtain ⟨rfl, hq2⟩ := hcut
      have hLf := below_call hL hq2
      by_cases hlt : L < r.us.length + r.ts.length
      · have hn : n = 14 := by rw [e.out, if_pos hlt]
        have hd : decide (L < r.us.length + r.ts.length) = true := decide_eq_true hlt
        rw [hd]
        subst hn
        clear e hd hlt
        go_wp2_with fail
        go_ret
        exact ⟨rfl, hLf⟩
      · have hn : n = 0 := by rw [e.out, if_neg hlt]
        have hd : decide (L < r.us.length + r.ts.length) = false := decide_eq_false hlt
        rw [hd]
        subst hn
        clear e hd hlt
        go_wp2_with fail
        go_ret
        exact ⟨rfl, hLf⟩

def OrdPost (l : List ByteArray) (n : Int) (w : World) (e : Ending) (w' : World) : Prop := ∃ v, e = .returned (.tuple #[v, .int .i64 n]) ∧ StrSl w' v l ∧ Below w.heap.size w w'

set_option maxHeartbeats 8000000 in
set_option maxRecDepth 100000 in
theorem r9order_b (su sw st : Value) (r : R9) (W : World) (hR : RAt W su sw st r) (hu : r.us.length ≤ 1000) (hw : r.ws.length ≤ 1000) (ht : r.ts.length ≤ 1000) :
    Calls Tryz.prog 25 #[.agg #[su, sw, st]] W (OrdPost (orderv r).1 (orderv r).2 W) := by
  have hR0 := hid hR
  obtain ⟨n, hn⟩ : ∃ n, Hid (n = valv r) := ⟨_, hid rfl⟩
  obtain ⟨p, c, rfl, hm, hat⟩ := hR.u
  obtain ⟨p1, c1, rfl, hm1, hat1⟩ := hR.w
  obtain ⟨p2, c2, rfl, hm2, hat2⟩ := hR.t
  have hB := Blk.new W [.slice p r.us.length c, .slice p1 r.ws.length c1, .slice p2 r.ts.length c2] 28
  have hL := (Below.refl W.heap.size W).alloc (Nat.le_refl _) (.cells [.slice p r.us.length c, .slice p1 r.ws.length c1, .slice p2 r.ts.length c2].toArray 28)
  unfold maxLen at hm hm1 hm2
  have hR1 := hR.below hL
  clear hR
  go_enter Tryz.func25, Tryz.ntmps25
  go_wp2_with fail
  generalize W.alloc (.cells [.slice p r.us.length c, .slice p1 r.ws.length c1, .slice p2 r.ts.length c2].toArray 28) = V at *
  clear hR1 hat hat1 hat2
  obtain ⟨_, _, _, _, _, _⟩ := hB.three
  ((with_reducible refine (r9val_b _ _ _ r n _ (hR0.out.below hL) hu hw ht hn).mono ?_); rintro e w1 ⟨rfl, hb⟩)
  replace hB := hB.below hb
  replace hL := below_call hL hb
  obtain ⟨_, _, _, _, _, _⟩ := hB.three
  clear hb
  by_cases h0 : n = 0
  · subst h0
    have hO : orderv r = (seqv r, 0) := by unfold orderv; rw [if_pos hn.out.symm]
    replace hO := hid hO
    clear hn
    go_wp2_with fail
    ((with_reducible refine (r9seq_b _ _ _ r _ (hR0.out.below hL) hu ht).mono ?_); rintro e w2 ⟨v, rfl, hs, hb⟩)
    have hLf := below_call hL hb
    clear hb
    go_wp2_with fail
    first | go_ret2 | go_ret
    exact ⟨v, by rw [hO.out]; rfl, by rw [hO.out]; exact hs, hLf⟩
  · have hO : orderv r = ([], n) := by unfold orderv; rw [if_neg (by rw [← hn.out]; exact h0), hn.out]
    have hd : (n != 0) = true := by simpa using h0
    replace hO := hid hO
    clear hn h0
    go_wp2_with fail
    first | go_ret2 | go_ret
    exact ⟨_, by rw [hO.out]; rfl, by rw [hO.out]; exact strSl_nil _, hL⟩

end

section
open Go.RowKit Go.Lib

theorem deq_int (a b : Int) : decide (a = b) = (a == b) := by
  by_cases h : a = b
  · subst h; simp
  · rw [decide_eq_false h]; exact (beq_eq_false_iff_ne.2 h).symm
theorem deq_str (a b : ByteArray) : decide (a = b) = (a.toList == b.toList) := by
  by_cases h : a = b
  · subst h; simp
  · rw [decide_eq_false h]; exact (ne_list h).1.symm
theorem deq_bool (a b : Bool) : decide (a = b) = (a == b) := by cases a <;> cases b <;> rfl
theorem U9_eq (u v : U9) : decide (u = v) = (decide (u.cls = v.cls) && decide (u.w = v.w) && decide (u.h = v.h) && decide (u.rad = v.rad) && decide (u.spd = v.spd) && decide (u.sgt = v.sgt) && decide (u.hp = v.hp) && decide (u.arm = v.arm) && decide (u.load = v.load) && decide (u.ore = v.ore) && decide (u.wood = v.wood) && decide (u.time = v.time) && decide (u.nm = v.nm) && decide (u.bld = v.bld) && decide (u.dep = v.dep) && decide (u.wpn = v.wpn) && decide (u.needs = v.needs) && decide (u.trains = v.trains) && decide (u.ress = v.ress)) := by
  rw [Bool.eq_iff_iff]
  simp only [Bool.and_eq_true, decide_eq_true_eq, and_assoc]
  cases u
  cases v
  simp only [U9.mk.injEq]
  try exact ⟨fun ⟨a0, a1, a2, a3, a4, a5, a6, a7, a8, a9, a10, a11, a12, a13, a14, a15, a16, a17, a18⟩ => ⟨a3, a4, a5, a6, a7, a8, a9, a10, a11, a13, a14, a15, a0, a1, a2, a12, a16, a17, a18⟩, fun ⟨a3, a4, a5, a6, a7, a8, a9, a10, a11, a13, a14, a15, a0, a1, a2, a12, a16, a17, a18⟩ => ⟨a0, a1, a2, a3, a4, a5, a6, a7, a8, a9, a10, a11, a12, a13, a14, a15, a16, a17, a18⟩⟩
theorem T9_eq (u v : T9) : decide (u = v) = (decide (u.nm = v.nm) && decide (u.needs = v.needs) && decide (u.ore = v.ore) && decide (u.wood = v.wood) && decide (u.time = v.time) && decide (u.un = v.un) && decide (u.stat = v.stat) && decide (u.amt = v.amt)) := by
  rw [Bool.eq_iff_iff]
  simp only [Bool.and_eq_true, decide_eq_true_eq, and_assoc]
  cases u
  cases v
  simp only [T9.mk.injEq]
  try exact ⟨fun ⟨a0, a1, a2, a3, a4, a5, a6, a7⟩ => ⟨a0, a1, a2, a3, a4, a5, a6, a7⟩, fun ⟨a0, a1, a2, a3, a4, a5, a6, a7⟩ => ⟨a0, a1, a2, a3, a4, a5, a6, a7⟩⟩

set_option maxHeartbeats 8000000 in
set_option maxRecDepth 100000 in
theorem r9samet_b (u v : T9) (us vs : List Value) (b : Bool) (V0 W : World) (hU : TL V0 us u) (hV : TL V0 vs v) (h0 : Below V0.heap.size V0 W) (e : Hid (b = decide (u = v))) :
    Calls Tryz.prog 23 #[.agg us.toArray, .agg vs.toArray] W fun e w' => e = .returned (.bool b) ∧ Below W.heap.size W w' := by
  have hB := (Blk.new W us 42).alloc (.cells vs.toArray 42)
  have hC := (Blk.new (W.alloc (.cells us.toArray 42)) vs 42).at (World.size_alloc _ _)
  have hL := ((Below.refl W.heap.size W).alloc (Nat.le_refl _) (.cells us.toArray 42)).alloc (by simp) (.cells vs.toArray 42)
  obtain ⟨pu0, cu0, hlu, su0⟩ := hU.lists
  obtain ⟨pv0, cv0, hlv, sv0⟩ := hV.lists
  replace hlu := hid hlu
  replace hlv := hid hlv
  have hV0 := h0.trans (hL.mono h0.size)
  clear hU hV
  go_enter Tryz.func23, Tryz.ntmps23
  go_upto_region 1 with fail
  generalize (W.alloc (.cells us.toArray 42)).alloc (.cells vs.toArray 42) = V at *
  obtain ⟨q0, h0⟩ : ∃ q, (u.nm.toList == v.nm.toList) = q := ⟨_, rfl⟩
  obtain ⟨q1, h1⟩ : ∃ q, Hid (q = decide (u.needs = v.needs)) := ⟨_, hid rfl⟩
  obtain ⟨q2, h2⟩ : ∃ q, (u.ore == v.ore) = q := ⟨_, rfl⟩
  obtain ⟨q3, h3⟩ : ∃ q, (u.wood == v.wood) = q := ⟨_, rfl⟩
  obtain ⟨q4, h4⟩ : ∃ q, (u.time == v.time) = q := ⟨_, rfl⟩
  obtain ⟨q5, h5⟩ : ∃ q, (u.un.toList == v.un.toList) = q := ⟨_, rfl⟩
  obtain ⟨q6, h6⟩ : ∃ q, (u.stat == v.stat) = q := ⟨_, rfl⟩
  obtain ⟨q7, h7⟩ : ∃ q, (u.amt == v.amt) = q := ⟨_, rfl⟩
  replace e := hid (show b = (q0 && q1 && q2 && q3 && q4 && q5 && q6 && q7) by rw [e.out, T9_eq, deq_str u.nm, h0, ← h1.out, deq_int u.ore, h2, deq_int u.wood, h3, deq_int u.time, h4, deq_str u.un, h5, deq_int u.stat, h6, deq_int u.amt, h7])
  have uf0 : V.cell? ⟨W.heap.size, 0, none⟩ = some (.string u.nm) := (hB.cell 0).trans (by rw [hlu.out]; rfl)
  have vf0 : V.cell? ⟨W.heap.size + 1, 0, none⟩ = some (.string v.nm) := (hC.cell 0).trans (by rw [hlv.out]; rfl)
  have uf1 : V.cell? ⟨W.heap.size, 1, none⟩ = some (.slice pu0 u.needs.length cu0) := (hB.cell 1).trans (by rw [hlu.out]; rfl)
  have vf1 : V.cell? ⟨W.heap.size + 1, 1, none⟩ = some (.slice pv0 v.needs.length cv0) := (hC.cell 1).trans (by rw [hlv.out]; rfl)
  have uf2 : V.cell? ⟨W.heap.size, 2, none⟩ = some (.int .i64 u.ore) := (hB.cell 2).trans (by rw [hlu.out]; rfl)
  have vf2 : V.cell? ⟨W.heap.size + 1, 2, none⟩ = some (.int .i64 v.ore) := (hC.cell 2).trans (by rw [hlv.out]; rfl)
  have uf3 : V.cell? ⟨W.heap.size, 3, none⟩ = some (.int .i64 u.wood) := (hB.cell 3).trans (by rw [hlu.out]; rfl)
  have vf3 : V.cell? ⟨W.heap.size + 1, 3, none⟩ = some (.int .i64 v.wood) := (hC.cell 3).trans (by rw [hlv.out]; rfl)
  have uf4 : V.cell? ⟨W.heap.size, 4, none⟩ = some (.int .i64 u.time) := (hB.cell 4).trans (by rw [hlu.out]; rfl)
  have vf4 : V.cell? ⟨W.heap.size + 1, 4, none⟩ = some (.int .i64 v.time) := (hC.cell 4).trans (by rw [hlv.out]; rfl)
  have uf5 : V.cell? ⟨W.heap.size, 5, none⟩ = some (.string u.un) := (hB.cell 5).trans (by rw [hlu.out]; rfl)
  have vf5 : V.cell? ⟨W.heap.size + 1, 5, none⟩ = some (.string v.un) := (hC.cell 5).trans (by rw [hlv.out]; rfl)
  have uf6 : V.cell? ⟨W.heap.size, 6, none⟩ = some (.int .i64 u.stat) := (hB.cell 6).trans (by rw [hlu.out]; rfl)
  have vf6 : V.cell? ⟨W.heap.size + 1, 6, none⟩ = some (.int .i64 v.stat) := (hC.cell 6).trans (by rw [hlv.out]; rfl)
  have uf7 : V.cell? ⟨W.heap.size, 7, none⟩ = some (.int .i64 u.amt) := (hB.cell 7).trans (by rw [hlu.out]; rfl)
  have vf7 : V.cell? ⟨W.heap.size + 1, 7, none⟩ = some (.int .i64 v.amt) := (hC.cell 7).trans (by rw [hlv.out]; rfl)
  go_wp2_with (first
    | (go_at_call 26; with_reducible refine (r9names_b u.needs v.needs (.slice pu0 u.needs.length cu0) (.slice pv0 v.needs.length cv0) q1 _ (su0.below hV0) (sv0.below hV0) h1).mono ?_; rintro e w0 ⟨rfl, hb⟩
       replace hV0 := hV0.trans (hb.mono hV0.size)
       replace hL := below_call hL hb
       replace uf2 := (hb.cell (p := ⟨W.heap.size, 2, none⟩) (hB.lt)).trans uf2
       replace uf3 := (hb.cell (p := ⟨W.heap.size, 3, none⟩) (hB.lt)).trans uf3
       replace uf4 := (hb.cell (p := ⟨W.heap.size, 4, none⟩) (hB.lt)).trans uf4
       replace uf5 := (hb.cell (p := ⟨W.heap.size, 5, none⟩) (hB.lt)).trans uf5
       replace uf6 := (hb.cell (p := ⟨W.heap.size, 6, none⟩) (hB.lt)).trans uf6
       replace uf7 := (hb.cell (p := ⟨W.heap.size, 7, none⟩) (hB.lt)).trans uf7
       replace vf2 := (hb.cell (p := ⟨W.heap.size + 1, 2, none⟩) (hC.lt)).trans vf2
       replace vf3 := (hb.cell (p := ⟨W.heap.size + 1, 3, none⟩) (hC.lt)).trans vf3
       replace vf4 := (hb.cell (p := ⟨W.heap.size + 1, 4, none⟩) (hC.lt)).trans vf4
       replace vf5 := (hb.cell (p := ⟨W.heap.size + 1, 5, none⟩) (hC.lt)).trans vf5
       replace vf6 := (hb.cell (p := ⟨W.heap.size + 1, 6, none⟩) (hC.lt)).trans vf6
       replace vf7 := (hb.cell (p := ⟨W.heap.size + 1, 7, none⟩) (hC.lt)).trans vf7
       replace hB := hB.below hb
       replace hC := hC.below hb
       clear hb))
  all_goals
    go_ret
    exact ⟨ret_bool (by rw [e.out]; simp only [Bool.false_and, Bool.and_false, Bool.true_and, Bool.and_self, *]), hL⟩

set_option maxHeartbeats 8000000 in
set_option maxRecDepth 100000 in
theorem r9sameu_b (u v : U9) (us vs : List Value) (b : Bool) (V0 W : World) (hU : UL V0 us u) (hV : UL V0 vs v) (h0 : Below V0.heap.size V0 W) (e : Hid (b = decide (u = v))) :
    Calls Tryz.prog 22 #[.agg us.toArray, .agg vs.toArray] W fun e w' => e = .returned (.bool b) ∧ Below W.heap.size W w' := by
  have hB := (Blk.new W us 34).alloc (.cells vs.toArray 34)
  have hC := (Blk.new (W.alloc (.cells us.toArray 34)) vs 34).at (World.size_alloc _ _)
  have hL := ((Below.refl W.heap.size W).alloc (Nat.le_refl _) (.cells us.toArray 34)).alloc (by simp) (.cells vs.toArray 34)
  obtain ⟨pu0, cu0, pu1, cu1, pu2, cu2, hlu, su0, su1, su2⟩ := hU.lists
  obtain ⟨pv0, cv0, pv1, cv1, pv2, cv2, hlv, sv0, sv1, sv2⟩ := hV.lists
  replace hlu := hid hlu
  replace hlv := hid hlv
  have hV0 := h0.trans (hL.mono h0.size)
  clear hU hV
  go_enter Tryz.func22, Tryz.ntmps22
  go_upto_region 1 with fail
  generalize (W.alloc (.cells us.toArray 34)).alloc (.cells vs.toArray 34) = V at *
  obtain ⟨q3, h3⟩ : ∃ q, (u.cls == v.cls) = q := ⟨_, rfl⟩
  obtain ⟨q4, h4⟩ : ∃ q, (u.w == v.w) = q := ⟨_, rfl⟩
  obtain ⟨q5, h5⟩ : ∃ q, (u.h == v.h) = q := ⟨_, rfl⟩
  obtain ⟨q6, h6⟩ : ∃ q, (u.rad == v.rad) = q := ⟨_, rfl⟩
  obtain ⟨q7, h7⟩ : ∃ q, (u.spd == v.spd) = q := ⟨_, rfl⟩
  obtain ⟨q8, h8⟩ : ∃ q, (u.sgt == v.sgt) = q := ⟨_, rfl⟩
  obtain ⟨q9, h9⟩ : ∃ q, (u.hp == v.hp) = q := ⟨_, rfl⟩
  obtain ⟨q10, h10⟩ : ∃ q, (u.arm == v.arm) = q := ⟨_, rfl⟩
  obtain ⟨q11, h11⟩ : ∃ q, (u.load == v.load) = q := ⟨_, rfl⟩
  obtain ⟨q13, h13⟩ : ∃ q, (u.ore == v.ore) = q := ⟨_, rfl⟩
  obtain ⟨q14, h14⟩ : ∃ q, (u.wood == v.wood) = q := ⟨_, rfl⟩
  obtain ⟨q15, h15⟩ : ∃ q, (u.time == v.time) = q := ⟨_, rfl⟩
  obtain ⟨q0, h0⟩ : ∃ q, (u.nm.toList == v.nm.toList) = q := ⟨_, rfl⟩
  obtain ⟨q1, h1⟩ : ∃ q, (u.bld == v.bld) = q := ⟨_, rfl⟩
  obtain ⟨q2, h2⟩ : ∃ q, (u.dep == v.dep) = q := ⟨_, rfl⟩
  obtain ⟨q12, h12⟩ : ∃ q, (u.wpn.toList == v.wpn.toList) = q := ⟨_, rfl⟩
  obtain ⟨q16, h16⟩ : ∃ q, Hid (q = decide (u.needs = v.needs)) := ⟨_, hid rfl⟩
  obtain ⟨q17, h17⟩ : ∃ q, Hid (q = decide (u.trains = v.trains)) := ⟨_, hid rfl⟩
  obtain ⟨q18, h18⟩ : ∃ q, Hid (q = decide (u.ress = v.ress)) := ⟨_, hid rfl⟩
  replace e := hid (show b = (q3 && q4 && q5 && q6 && q7 && q8 && q9 && q10 && q11 && q13 && q14 && q15 && q0 && q1 && q2 && q12 && q16 && q17 && q18) by rw [e.out, U9_eq, deq_int u.cls, h3, deq_int u.w, h4, deq_int u.h, h5, deq_int u.rad, h6, deq_int u.spd, h7, deq_int u.sgt, h8, deq_int u.hp, h9, deq_int u.arm, h10, deq_int u.load, h11, deq_int u.ore, h13, deq_int u.wood, h14, deq_int u.time, h15, deq_str u.nm, h0, deq_bool u.bld, h1, deq_bool u.dep, h2, deq_str u.wpn, h12, ← h16.out, ← h17.out, ← h18.out])
  obtain ⟨nb, hnb⟩ : ∃ q, Hid (q = (q3 && q4 && q5 && q6 && q7 && q8 && q9 && q10 && q11 && q13 && q14 && q15)) := ⟨_, hid rfl⟩
  replace e := hid (show b = (nb && q0 && q1 && q2 && q12 && q16 && q17 && q18) by rw [e.out, hnb.out]; try simp only [Bool.and_assoc])
  go_cut [5] from 6 (fun s5 wx => s5 = .bool nb ∧ V = wx)
  case first =>
    have uf3 : V.cell? ⟨W.heap.size, 3, none⟩ = some (.int .i64 u.cls) := (hB.cell 3).trans (by rw [hlu.out]; rfl)
    have vf3 : V.cell? ⟨W.heap.size + 1, 3, none⟩ = some (.int .i64 v.cls) := (hC.cell 3).trans (by rw [hlv.out]; rfl)
    have uf4 : V.cell? ⟨W.heap.size, 4, none⟩ = some (.int .i64 u.w) := (hB.cell 4).trans (by rw [hlu.out]; rfl)
    have vf4 : V.cell? ⟨W.heap.size + 1, 4, none⟩ = some (.int .i64 v.w) := (hC.cell 4).trans (by rw [hlv.out]; rfl)
    have uf5 : V.cell? ⟨W.heap.size, 5, none⟩ = some (.int .i64 u.h) := (hB.cell 5).trans (by rw [hlu.out]; rfl)
    have vf5 : V.cell? ⟨W.heap.size + 1, 5, none⟩ = some (.int .i64 v.h) := (hC.cell 5).trans (by rw [hlv.out]; rfl)
    have uf6 : V.cell? ⟨W.heap.size, 6, none⟩ = some (.int .i64 u.rad) := (hB.cell 6).trans (by rw [hlu.out]; rfl)
    have vf6 : V.cell? ⟨W.heap.size + 1, 6, none⟩ = some (.int .i64 v.rad) := (hC.cell 6).trans (by rw [hlv.out]; rfl)
    have uf7 : V.cell? ⟨W.heap.size, 7, none⟩ = some (.int .i64 u.spd) := (hB.cell 7).trans (by rw [hlu.out]; rfl)
    have vf7 : V.cell? ⟨W.heap.size + 1, 7, none⟩ = some (.int .i64 v.spd) := (hC.cell 7).trans (by rw [hlv.out]; rfl)
    have uf8 : V.cell? ⟨W.heap.size, 8, none⟩ = some (.int .i64 u.sgt) := (hB.cell 8).trans (by rw [hlu.out]; rfl)
    have vf8 : V.cell? ⟨W.heap.size + 1, 8, none⟩ = some (.int .i64 v.sgt) := (hC.cell 8).trans (by rw [hlv.out]; rfl)
    have uf9 : V.cell? ⟨W.heap.size, 9, none⟩ = some (.int .i64 u.hp) := (hB.cell 9).trans (by rw [hlu.out]; rfl)
    have vf9 : V.cell? ⟨W.heap.size + 1, 9, none⟩ = some (.int .i64 v.hp) := (hC.cell 9).trans (by rw [hlv.out]; rfl)
    have uf10 : V.cell? ⟨W.heap.size, 10, none⟩ = some (.int .i64 u.arm) := (hB.cell 10).trans (by rw [hlu.out]; rfl)
    have vf10 : V.cell? ⟨W.heap.size + 1, 10, none⟩ = some (.int .i64 v.arm) := (hC.cell 10).trans (by rw [hlv.out]; rfl)
    have uf11 : V.cell? ⟨W.heap.size, 11, none⟩ = some (.int .i64 u.load) := (hB.cell 11).trans (by rw [hlu.out]; rfl)
    have vf11 : V.cell? ⟨W.heap.size + 1, 11, none⟩ = some (.int .i64 v.load) := (hC.cell 11).trans (by rw [hlv.out]; rfl)
    have uf13 : V.cell? ⟨W.heap.size, 13, none⟩ = some (.int .i64 u.ore) := (hB.cell 13).trans (by rw [hlu.out]; rfl)
    have vf13 : V.cell? ⟨W.heap.size + 1, 13, none⟩ = some (.int .i64 v.ore) := (hC.cell 13).trans (by rw [hlv.out]; rfl)
    have uf14 : V.cell? ⟨W.heap.size, 14, none⟩ = some (.int .i64 u.wood) := (hB.cell 14).trans (by rw [hlu.out]; rfl)
    have vf14 : V.cell? ⟨W.heap.size + 1, 14, none⟩ = some (.int .i64 v.wood) := (hC.cell 14).trans (by rw [hlv.out]; rfl)
    have uf15 : V.cell? ⟨W.heap.size, 15, none⟩ = some (.int .i64 u.time) := (hB.cell 15).trans (by rw [hlu.out]; rfl)
    have vf15 : V.cell? ⟨W.heap.size + 1, 15, none⟩ = some (.int .i64 v.time) := (hC.cell 15).trans (by rw [hlv.out]; rfl)
    clear h0 h1 h2 h12 h16 h17 h18 e
    go_wp2_with fail
    all_goals
      go_meet
      case rel => exact ⟨by rw [hnb.out]; simp only [Bool.false_and, Bool.and_false, Bool.true_and, Bool.and_self, *], rfl⟩
  case rest =>
  clear hnb h3 h4 h5 h6 h7 h8 h9 h10 h11 h13 h14 h15
  obtain ⟨rfl, rfl⟩ := hcut
  have uf0 : V.cell? ⟨W.heap.size, 0, none⟩ = some (.string u.nm) := (hB.cell 0).trans (by rw [hlu.out]; rfl)
  have vf0 : V.cell? ⟨W.heap.size + 1, 0, none⟩ = some (.string v.nm) := (hC.cell 0).trans (by rw [hlv.out]; rfl)
  have uf1 : V.cell? ⟨W.heap.size, 1, none⟩ = some (.bool u.bld) := (hB.cell 1).trans (by rw [hlu.out]; rfl)
  have vf1 : V.cell? ⟨W.heap.size + 1, 1, none⟩ = some (.bool v.bld) := (hC.cell 1).trans (by rw [hlv.out]; rfl)
  have uf2 : V.cell? ⟨W.heap.size, 2, none⟩ = some (.bool u.dep) := (hB.cell 2).trans (by rw [hlu.out]; rfl)
  have vf2 : V.cell? ⟨W.heap.size + 1, 2, none⟩ = some (.bool v.dep) := (hC.cell 2).trans (by rw [hlv.out]; rfl)
  have uf12 : V.cell? ⟨W.heap.size, 12, none⟩ = some (.string u.wpn) := (hB.cell 12).trans (by rw [hlu.out]; rfl)
  have vf12 : V.cell? ⟨W.heap.size + 1, 12, none⟩ = some (.string v.wpn) := (hC.cell 12).trans (by rw [hlv.out]; rfl)
  have uf16 : V.cell? ⟨W.heap.size, 16, none⟩ = some (.slice pu0 u.needs.length cu0) := (hB.cell 16).trans (by rw [hlu.out]; rfl)
  have vf16 : V.cell? ⟨W.heap.size + 1, 16, none⟩ = some (.slice pv0 v.needs.length cv0) := (hC.cell 16).trans (by rw [hlv.out]; rfl)
  have uf17 : V.cell? ⟨W.heap.size, 17, none⟩ = some (.slice pu1 u.trains.length cu1) := (hB.cell 17).trans (by rw [hlu.out]; rfl)
  have vf17 : V.cell? ⟨W.heap.size + 1, 17, none⟩ = some (.slice pv1 v.trains.length cv1) := (hC.cell 17).trans (by rw [hlv.out]; rfl)
  have uf18 : V.cell? ⟨W.heap.size, 18, none⟩ = some (.slice pu2 u.ress.length cu2) := (hB.cell 18).trans (by rw [hlu.out]; rfl)
  have vf18 : V.cell? ⟨W.heap.size + 1, 18, none⟩ = some (.slice pv2 v.ress.length cv2) := (hC.cell 18).trans (by rw [hlv.out]; rfl)
  go_wp2_with (first
    | (go_at_call 26; with_reducible refine (r9names_b u.needs v.needs (.slice pu0 u.needs.length cu0) (.slice pv0 v.needs.length cv0) q16 _ (su0.below hV0) (sv0.below hV0) h16).mono ?_; rintro e w0 ⟨rfl, hb⟩
       replace hV0 := hV0.trans (hb.mono hV0.size)
       replace hL := below_call hL hb
       replace uf17 := (hb.cell (p := ⟨W.heap.size, 17, none⟩) (hB.lt)).trans uf17
       replace uf18 := (hb.cell (p := ⟨W.heap.size, 18, none⟩) (hB.lt)).trans uf18
       replace vf17 := (hb.cell (p := ⟨W.heap.size + 1, 17, none⟩) (hC.lt)).trans vf17
       replace vf18 := (hb.cell (p := ⟨W.heap.size + 1, 18, none⟩) (hC.lt)).trans vf18
       replace hB := hB.below hb
       replace hC := hC.below hb
       clear hb)
    | (go_at_call 26; with_reducible refine (r9names_b u.trains v.trains (.slice pu1 u.trains.length cu1) (.slice pv1 v.trains.length cv1) q17 _ (su1.below hV0) (sv1.below hV0) h17).mono ?_; rintro e w1 ⟨rfl, hb⟩
       replace hV0 := hV0.trans (hb.mono hV0.size)
       replace hL := below_call hL hb
       replace uf18 := (hb.cell (p := ⟨W.heap.size, 18, none⟩) (hB.lt)).trans uf18
       replace vf18 := (hb.cell (p := ⟨W.heap.size + 1, 18, none⟩) (hC.lt)).trans vf18
       replace hB := hB.below hb
       replace hC := hC.below hb
       clear hb)
    | (go_at_call 26; with_reducible refine (r9names_b u.ress v.ress (.slice pu2 u.ress.length cu2) (.slice pv2 v.ress.length cv2) q18 _ (su2.below hV0) (sv2.below hV0) h18).mono ?_; rintro e w2 ⟨rfl, hb⟩
       replace hV0 := hV0.trans (hb.mono hV0.size)
       replace hL := below_call hL hb
       replace hB := hB.below hb
       replace hC := hC.below hb
       clear hb))
  all_goals
    go_ret
    exact ⟨ret_bool (by rw [e.out]; simp only [Bool.false_and, Bool.and_false, Bool.true_and, Bool.and_self, *]), hL⟩

end

section
open Go.RowKit Go.Lib

theorem W9_eq (x y : W9) : decide (x = y) = ((x.nm.toList == y.nm.toList) && (x.rng == y.rng) && (x.dmg == y.dmg) && (x.cool == y.cool) && (x.spd == y.spd) && (x.spl == y.spl)) := by
  rw [← deq_str, ← deq_int, ← deq_int, ← deq_int, ← deq_int, ← deq_int, Bool.eq_iff_iff]
  simp only [Bool.and_eq_true, decide_eq_true_eq, and_assoc]
  cases x
  cases y
  simp only [W9.mk.injEq]
theorem eqW (x y : W9) (w : World) : (Op.equalIn 10000 38 (.agg (wCells x).toArray) (.agg (wCells y).toArray)).run Tryz.prog w = .ok (decide (x = y)) w := by
  have u3 := Tryz.underlying3
  have a3 := Tryz.isAgg3
  have z3 := Tryz.sizeOf3
  have u9 := Tryz.underlying9
  have a9 := Tryz.isAgg9
  have z9 := Tryz.sizeOf9
  have hS : Tryz.prog.underlying 38 = some (.struct (Tryz.prog.fieldsOf 38)) := by kernel_rfl
  have hp : Tryz.prog.stoodInHeld 38 = false := by kernel_rfl
  rw [W9_eq]
  simp only [wCells]
  rw [show (10000 : Nat) = 9999 + 1 from rfl, run_equalIn_struct w 9999 38 _ _ hS hp]
  simp only [Program.fieldsOf, Tryz.underlying38]
  go_simp
  by_cases h1 : x.nm.toList = y.nm.toList <;> by_cases h2 : x.rng = y.rng <;> by_cases h3 : x.dmg = y.dmg <;> by_cases h4 : x.cool = y.cool <;> by_cases h5 : x.spd = y.spd <;> by_cases h6 : x.spl = y.spl <;> simp [h1, h2, h3, h4, h5, h6]
theorem guardW (op : BinOp) (a b : Operand) (x y : Array Value) (w : World) : (eqGuard op 38 a b (.agg x) (.agg y)).run Tryz.prog w = .ok () w := run_eqGuard_agg w op 38 a b x y (by kernel_rfl)
theorem exec_neqW {o : Oper} {ρ : Operand → Value} {w : World} (p q : Operand) (t2 : TypeId) (ho : o.op = .binOp .neq 38 p q t2) {x y : W9} {xs ys : List Value} (hx : WL xs x) (hy : WL ys y) (hp : ρ p = .agg xs.toArray) (hq : ρ q = .agg ys.toArray) :
    (execOp ρ o).run Tryz.prog w = .ok (.value (.bool (!decide (x = y)))) w := by
  subst hx
  subst hy
  unfold execOp
  simp only [ho, hp, hq, Sem.run_bind, Sem.run_pure, Result.andThen_ok, guardW, run_neq_struct, eqW]
def same1 (u v : U9) : Bool := decide (u = v)
/-- Two lists, element by element. -/
theorem list_eq_of {α : Type} {l m : List α} (h : l.length = m.length) (ha : ∀ i, (h1 : i < l.length) → (h2 : i < m.length) → l[i]'h1 = m[i]'h2) : l = m := List.ext_getElem h ha
theorem take_eq {α : Type} {l m : List α} {i : Nat} (h1 : i < l.length) (h2 : i < m.length) (h : l.take i = m.take i) (e : l[i]'h1 = m[i]'h2) : l.take (i + 1) = m.take (i + 1) := by
  rw [List.take_succ_eq_append_getElem h1, List.take_succ_eq_append_getElem h2, h, e]
theorem ne_at {α : Type} {l m : List α} {i : Nat} (h1 : i < l.length) (h2 : i < m.length) (e : ¬ l[i]'h1 = m[i]'h2) : ¬ l = m := fun h => e (by subst h; rfl)

set_option maxHeartbeats 8000000 in
set_option maxRecDepth 100000 in
theorem r9same_b (su sw st tu tw tt : Value) (r s : R9) (b : Bool) (V0 W : World) (hR : RAt V0 su sw st r) (hS : RAt V0 tu tw tt s) (h0 : Below V0.heap.size V0 W) (e : Hid (b = decide (r = s))) :
    Calls Tryz.prog 30 #[.agg #[su, sw, st], .agg #[tu, tw, tt]] W fun e w' => e = .returned (.bool b) ∧ Below W.heap.size W w' := by
  obtain ⟨p, c, rfl, hm, hat⟩ := hR.u
  obtain ⟨p1, c1, rfl, hm1, hat1⟩ := hR.w
  obtain ⟨p2, c2, rfl, hm2, hat2⟩ := hR.t
  obtain ⟨p3, c3, rfl, hm3, hbt⟩ := hS.u
  obtain ⟨p4, c4, rfl, hm4, hbt1⟩ := hS.w
  obtain ⟨p5, c5, rfl, hm5, hbt2⟩ := hS.t
  have hB := (Blk.new W [.slice p r.us.length c, .slice p1 r.ws.length c1, .slice p2 r.ts.length c2] 28).alloc (.cells [.slice p3 s.us.length c3, .slice p4 s.ws.length c4, .slice p5 s.ts.length c5].toArray 28)
  have hC := (Blk.new (W.alloc (.cells [.slice p r.us.length c, .slice p1 r.ws.length c1, .slice p2 r.ts.length c2].toArray 28)) [.slice p3 s.us.length c3, .slice p4 s.ws.length c4, .slice p5 s.ts.length c5] 28).at (World.size_alloc _ _)
  have hL := ((Below.refl W.heap.size W).alloc (Nat.le_refl _) (.cells [.slice p r.us.length c, .slice p1 r.ws.length c1, .slice p2 r.ts.length c2].toArray 28)).alloc (by simp) (.cells [.slice p3 s.us.length c3, .slice p4 s.ws.length c4, .slice p5 s.ts.length c5].toArray 28)
  unfold maxLen at hm hm1 hm2 hm3 hm4 hm5
  clear hR hS
  have hNo : (¬ r.us.length = s.us.length ∨ ¬ r.ws.length = s.ws.length ∨ ¬ r.ts.length = s.ts.length) → b = false := fun h => by
    rw [e.out]; exact decide_eq_false fun e => by subst e; simp at h
  by_cases g1 : r.us.length = s.us.length ∧ r.ws.length = s.ws.length ∧ r.ts.length = s.ts.length
  rotate_left
  · obtain rfl : b = false := hNo (by omega)
    have z1 : ((r.us.length : Int) != (s.us.length : Int)) = true ∨ (((r.us.length : Int) != (s.us.length : Int)) = false ∧ ((r.ws.length : Int) != (s.ws.length : Int)) = true) ∨ (((r.us.length : Int) != (s.us.length : Int)) = false ∧ ((r.ws.length : Int) != (s.ws.length : Int)) = false ∧ ((r.ts.length : Int) != (s.ts.length : Int)) = true) := by
      by_cases h1 : r.us.length = s.us.length
      · by_cases h2 : r.ws.length = s.ws.length
        · right; right; refine ⟨by rw [h1]; simp, by rw [h2]; simp, ?_⟩
          simp only [bne_iff_ne, ne_eq]; omega
        · right; left; refine ⟨by rw [h1]; simp, ?_⟩
          simp only [bne_iff_ne, ne_eq]; omega
      · left; simp only [bne_iff_ne, ne_eq]; omega
    clear e hNo g1
    rcases z1 with z1 | ⟨z1, z2⟩ | ⟨z1, z2, z3⟩
    all_goals
      go_enter Tryz.func30, Tryz.ntmps30
      go_wp2_with fail
      go_ret
      exact ⟨rfl, hL⟩
  · obtain ⟨n1, n2, n3⟩ := g1
    have z1 : ((r.us.length : Int) != (s.us.length : Int)) = false := by rw [n1]; simp
    have z2 : ((r.ws.length : Int) != (s.ws.length : Int)) = false := by rw [n2]; simp
    have z3 : ((r.ts.length : Int) != (s.ts.length : Int)) = false := by rw [n3]; simp
    replace n1 := hid n1
    replace n2 := hid n2
    replace n3 := hid n3
    have hV0 := h0.trans (hL.mono h0.size)
    clear hNo
    go_enter Tryz.func30, Tryz.ntmps30
    go_wp2_with fail
    generalize (W.alloc (.cells [.slice p r.us.length c, .slice p1 r.ws.length c1, .slice p2 r.ts.length c2].toArray 28)).alloc (.cells [.slice p3 s.us.length c3, .slice p4 s.ws.length c4, .slice p5 s.ts.length c5].toArray 28) = V at *
    clear z1 z2 z3
    go_loopw [5] (fun vi wr => ∃ i : Nat, vi = .int .i64 i ∧ i ≤ r.us.length ∧ Blk wr W.heap.size [.slice p r.us.length c, .slice p1 r.ws.length c1, .slice p2 r.ts.length c2] 28 ∧ Blk wr (W.heap.size + 1) [.slice p3 s.us.length c3, .slice p4 s.ws.length c4, .slice p5 s.ts.length c5] 28 ∧ Below W.heap.size W wr ∧ Hid (r.us.take i = s.us.take i)) (fun vi _ => r.us.length - (RowKit.intOf vi).toNat)
    case atStart => exact ⟨0, rfl, by omega, hB, hC, hL, hid rfl⟩
    case round =>
      clear hB hC hL
      obtain ⟨i, rfl, hi, hB, hC, hL, hA⟩ := hrel
      obtain ⟨_, _, _, _, _, _⟩ := hB.three
      by_cases hlt : i < r.us.length
      · have hlt2 : i < s.us.length := by rw [← n1.out]; exact hlt
        have d1 : (i : Int) < r.us.length := by omega
        have d2 : (i : Int) < s.us.length := by omega
        have d0 : (0 : Int) ≤ i := by omega
        have hV := h0.trans (hL.mono h0.size)
        obtain ⟨g, o, rfl, hc⟩ := hat (by omega)
        obtain ⟨g2, o2, rfl, hc2⟩ := hbt (by omega)
        obtain ⟨vs, hU, hcs⟩ := (hc i hlt).ul
        obtain ⟨ws, hU2, hcs2⟩ := (hc2 i hlt2).ul
        have HN := fun q => hid (take_eq hlt hlt2 hA.out q)
        have HY := fun q => hid (ne_at hlt hlt2 q)
        obtain ⟨x, hx⟩ : ∃ x, r.us[i]'hlt = x := ⟨_, rfl⟩
        obtain ⟨y, hy⟩ : ∃ x, s.us[i]'hlt2 = x := ⟨_, rfl⟩
        rw [hx] at hU HN HY
        rw [hy] at hU2 HN HY
        obtain ⟨q, hq⟩ : ∃ q, Hid (q = decide (x = y)) := ⟨_, hid rfl⟩
        clear hx hy hc hc2 hat hbt hA
        go_upto_region 6 with fail
        go_cut [51] from 33 to 51 (fun s51 wx => s51 = .bool (!q) ∧ Below wr.heap.size wr wx)
        case first =>
          have hmx : Tryz.prog.follows .mixedOrders = true := by kernel_rfl
          refine wp_region_held (S := fun w' => Below wr.heap.size wr w') hmx ?_
          show wpAnyH _ _ _ _ _ _ _ _ wr.drew
          have hS0 := (Below.refl wr.heap.size wr).drew
          refine reg_take (i := 0) (v := .pointer (some ⟨W.heap.size, 0, none⟩)) (some 40) rfl rfl (by kernel_rfl) (by kernel_rfl) (by kernel_rfl) (fun _ _ _ h => h) (by kernel_rfl) (fun w' hS => by (obtain ⟨_, _, _, _, _, _⟩ := (hB.below hS).three; obtain ⟨_, _, _, _, _, _⟩ := (hC.below hS).three); go_simp) hS0 ?_
          simp only [Act.put, List.setIfInBounds_toArray, List.set_cons_zero, List.set_cons_succ]
          refine reg_take (i := 1) (v := .slice (some ⟨g, o, none⟩) r.us.length c) (some 41) rfl rfl (by kernel_rfl) (by kernel_rfl) (by kernel_rfl) (fun _ _ _ h => h) (by kernel_rfl) (fun w' hS => by (obtain ⟨_, _, _, _, _, _⟩ := (hB.below hS).three; obtain ⟨_, _, _, _, _, _⟩ := (hC.below hS).three); go_simp) hS0 ?_
          simp only [Act.put, List.setIfInBounds_toArray, List.set_cons_zero, List.set_cons_succ]
          refine reg_take (i := 2) (v := .int .i64 i) (some 42) rfl rfl (by kernel_rfl) (by kernel_rfl) (by kernel_rfl) (fun _ _ _ h => h) (by kernel_rfl) (fun w' hS => by (obtain ⟨_, _, _, _, _, _⟩ := (hB.below hS).three; obtain ⟨_, _, _, _, _, _⟩ := (hC.below hS).three); go_simp) hS0 ?_
          simp only [Act.put, List.setIfInBounds_toArray, List.set_cons_zero, List.set_cons_succ]
          refine reg_take (i := 3) (v := .pointer (some ⟨g, o + i * 19, none⟩)) (some 43) rfl rfl (by kernel_rfl) (by kernel_rfl) (by kernel_rfl) (fun _ _ _ h => h) (by kernel_rfl) (fun w' hS => by (obtain ⟨_, _, _, _, _, _⟩ := (hB.below hS).three; obtain ⟨_, _, _, _, _, _⟩ := (hC.below hS).three); go_simp) hS0 ?_
          simp only [Act.put, List.setIfInBounds_toArray, List.set_cons_zero, List.set_cons_succ]
          refine reg_take (i := 4) (v := .agg vs.toArray) (some 44) rfl rfl (by kernel_rfl) (by kernel_rfl) (by kernel_rfl) (fun _ _ _ h => h) (by kernel_rfl) (fun w' hS => exec_load_agg 34 _ rfl ⟨g, o + i * 19, none⟩ (by with_unfolding_all rfl) Tryz.isAgg34 Tryz.sizeOf34 vs ((hcs.below' (hcs.lt' hU.name) (hV.trans (hS.mono hV.size))).loads hU.len)) hS0 ?_
          simp only [Act.put, List.setIfInBounds_toArray, List.set_cons_zero, List.set_cons_succ]
          refine reg_take (i := 5) (v := .pointer (some ⟨W.heap.size + 1, 0, none⟩)) (some 45) rfl rfl (by kernel_rfl) (by kernel_rfl) (by kernel_rfl) (fun _ _ _ h => h) (by kernel_rfl) (fun w' hS => by (obtain ⟨_, _, _, _, _, _⟩ := (hB.below hS).three; obtain ⟨_, _, _, _, _, _⟩ := (hC.below hS).three); go_simp) hS0 ?_
          simp only [Act.put, List.setIfInBounds_toArray, List.set_cons_zero, List.set_cons_succ]
          refine reg_take (i := 6) (v := .slice (some ⟨g2, o2, none⟩) s.us.length c3) (some 46) rfl rfl (by kernel_rfl) (by kernel_rfl) (by kernel_rfl) (fun _ _ _ h => h) (by kernel_rfl) (fun w' hS => by (obtain ⟨_, _, _, _, _, _⟩ := (hB.below hS).three; obtain ⟨_, _, _, _, _, _⟩ := (hC.below hS).three); go_simp) hS0 ?_
          simp only [Act.put, List.setIfInBounds_toArray, List.set_cons_zero, List.set_cons_succ]
          refine reg_take (i := 7) (v := .int .i64 i) (some 47) rfl rfl (by kernel_rfl) (by kernel_rfl) (by kernel_rfl) (fun _ _ _ h => h) (by kernel_rfl) (fun w' hS => by (obtain ⟨_, _, _, _, _, _⟩ := (hB.below hS).three; obtain ⟨_, _, _, _, _, _⟩ := (hC.below hS).three); go_simp) hS0 ?_
          simp only [Act.put, List.setIfInBounds_toArray, List.set_cons_zero, List.set_cons_succ]
          refine reg_take (i := 8) (v := .pointer (some ⟨g2, o2 + i * 19, none⟩)) (some 48) rfl rfl (by kernel_rfl) (by kernel_rfl) (by kernel_rfl) (fun _ _ _ h => h) (by kernel_rfl) (fun w' hS => by (obtain ⟨_, _, _, _, _, _⟩ := (hB.below hS).three; obtain ⟨_, _, _, _, _, _⟩ := (hC.below hS).three); go_simp) hS0 ?_
          simp only [Act.put, List.setIfInBounds_toArray, List.set_cons_zero, List.set_cons_succ]
          refine reg_take (i := 9) (v := .agg ws.toArray) (some 49) rfl rfl (by kernel_rfl) (by kernel_rfl) (by kernel_rfl) (fun _ _ _ h => h) (by kernel_rfl) (fun w' hS => exec_load_agg 34 _ rfl ⟨g2, o2 + i * 19, none⟩ (by with_unfolding_all rfl) Tryz.isAgg34 Tryz.sizeOf34 ws ((hcs2.below' (hcs2.lt' hU2.name) (hV.trans (hS.mono hV.size))).loads hU2.len)) hS0 ?_
          simp only [Act.put, List.setIfInBounds_toArray, List.set_cons_zero, List.set_cons_succ]
          refine held_one (i := 10) (by kernel_rfl) rfl (fun K hQ => ?_)
          go_simp
          (with_reducible refine (r9sameu_b x y vs ws q V0 _ hU hU2 (hV.trans (hS0.mono hV.size)) hq).mono ?_)
          rintro e w1 ⟨rfl, hb⟩
          have hS1 := below_call hS0 hb
          refine hQ.out _ _ hS1 ?_
          clear hQ
          try simp only [Act.put, List.setIfInBounds_toArray, List.set_cons_zero, List.set_cons_succ]
          refine reg_take (i := 11) (v := .bool (!q)) (some 51) rfl rfl (by kernel_rfl) (by kernel_rfl) (by kernel_rfl) (fun _ _ _ h => h) (by kernel_rfl) (fun w' hS => by skip; go_simp) hS1 ?_
          simp only [Act.put, List.setIfInBounds_toArray, List.set_cons_zero, List.set_cons_succ]
          refine wpAnyH_done (by kernel_rfl) ?_ _
          show Exit.then _ _ Exit.normal _ _
          go_wp2_with fail
          go_meet
          case rel => exact ⟨rfl, hS1⟩
        case rest =>
        obtain ⟨rfl, hX⟩ := hcut
        replace hB := hB.below hX
        replace hC := hC.below hX
        replace hL := below_call hL hX
        clear hX hU hU2 hcs hcs2 hV
        cases q with
        | false =>
          obtain rfl : b = false := by rw [e.out]; exact decide_eq_false fun h => (HY (of_decide_eq_false hq.out.symm)).out (by rw [h])
          clear e HN HY hq
          go_wp2_with fail
          go_ret
          exact ⟨rfl, hL⟩
        | true =>
          have HS := HN (of_decide_eq_true hq.out.symm)
          clear HN HY hq
          go_wp2_with fail
          go_roundw
          case rel => exact ⟨i + 1, by go_num, by omega, hB, hC, hL, HS⟩
          case measure => simp [RowKit.intOf]; omega
      · obtain rfl : i = r.us.length := by omega
        have ha := hA.out
        rw [List.take_length, n1.out, List.take_length] at ha
        have d1 : ¬ (r.us.length : Int) < r.us.length := by omega
        replace ha := hid ha
        clear hat hbt hA
        have eU := ha
        clear ha
        go_wp2_with fail
        clear d1
        go_loopw [6] (fun vi wr => ∃ i : Nat, vi = .int .i64 i ∧ i ≤ r.ws.length ∧ Blk wr W.heap.size [.slice p r.us.length c, .slice p1 r.ws.length c1, .slice p2 r.ts.length c2] 28 ∧ Blk wr (W.heap.size + 1) [.slice p3 s.us.length c3, .slice p4 s.ws.length c4, .slice p5 s.ts.length c5] 28 ∧ Below W.heap.size W wr ∧ Hid (r.ws.take i = s.ws.take i)) (fun vi _ => r.ws.length - (RowKit.intOf vi).toNat)
        case atStart => exact ⟨0, rfl, by omega, hB, hC, hL, hid rfl⟩
        case round =>
          clear hB hC hL
          obtain ⟨i, rfl, hi, hB, hC, hL, hA⟩ := hrel
          obtain ⟨_, _, _, _, _, _⟩ := hB.three
          by_cases hlt : i < r.ws.length
          · have hlt2 : i < s.ws.length := by rw [← n2.out]; exact hlt
            have d1 : (i : Int) < r.ws.length := by omega
            have d2 : (i : Int) < s.ws.length := by omega
            have d0 : (0 : Int) ≤ i := by omega
            have hV := h0.trans (hL.mono h0.size)
            obtain ⟨g, o, rfl, hc⟩ := hat1 (by omega)
            obtain ⟨g2, o2, rfl, hc2⟩ := hbt1 (by omega)
            obtain ⟨vs, hU, hcs⟩ := (hc i hlt).wl
            obtain ⟨ws, hU2, hcs2⟩ := (hc2 i hlt2).wl
            have HN := fun q => hid (take_eq hlt hlt2 hA.out q)
            have HY := fun q => hid (ne_at hlt hlt2 q)
            obtain ⟨x, hx⟩ : ∃ x, r.ws[i]'hlt = x := ⟨_, rfl⟩
            obtain ⟨y, hy⟩ : ∃ x, s.ws[i]'hlt2 = x := ⟨_, rfl⟩
            rw [hx] at hU HN HY
            rw [hy] at hU2 HN HY
            obtain ⟨q, hq⟩ : ∃ q, Hid (q = decide (x = y)) := ⟨_, hid rfl⟩
            clear hx hy hc hc2 hat1 hbt1 hA
            go_upto_region 11 with fail
            go_cut [69] from 52 to 69 (fun s51 wx => s51 = .bool (!q) ∧ Below wr.heap.size wr wx)
            case first =>
              have hmx : Tryz.prog.follows .mixedOrders = true := by kernel_rfl
              refine wp_region_held (S := fun w' => Below wr.heap.size wr w') hmx ?_
              show wpAnyH _ _ _ _ _ _ _ _ wr.drew
              have hS0 := (Below.refl wr.heap.size wr).drew
              refine reg_take (i := 0) (v := .pointer (some ⟨W.heap.size, 1, none⟩)) (some 59) rfl rfl (by kernel_rfl) (by kernel_rfl) (by kernel_rfl) (fun _ _ _ h => h) (by kernel_rfl) (fun w' hS => by (obtain ⟨_, _, _, _, _, _⟩ := (hB.below hS).three; obtain ⟨_, _, _, _, _, _⟩ := (hC.below hS).three); go_simp) hS0 ?_
              simp only [Act.put, List.setIfInBounds_toArray, List.set_cons_zero, List.set_cons_succ]
              refine reg_take (i := 1) (v := .slice (some ⟨g, o, none⟩) r.ws.length c1) (some 60) rfl rfl (by kernel_rfl) (by kernel_rfl) (by kernel_rfl) (fun _ _ _ h => h) (by kernel_rfl) (fun w' hS => by (obtain ⟨_, _, _, _, _, _⟩ := (hB.below hS).three; obtain ⟨_, _, _, _, _, _⟩ := (hC.below hS).three); go_simp) hS0 ?_
              simp only [Act.put, List.setIfInBounds_toArray, List.set_cons_zero, List.set_cons_succ]
              refine reg_take (i := 2) (v := .int .i64 i) (some 61) rfl rfl (by kernel_rfl) (by kernel_rfl) (by kernel_rfl) (fun _ _ _ h => h) (by kernel_rfl) (fun w' hS => by (obtain ⟨_, _, _, _, _, _⟩ := (hB.below hS).three; obtain ⟨_, _, _, _, _, _⟩ := (hC.below hS).three); go_simp) hS0 ?_
              simp only [Act.put, List.setIfInBounds_toArray, List.set_cons_zero, List.set_cons_succ]
              refine reg_take (i := 3) (v := .pointer (some ⟨g, o + i * 6, none⟩)) (some 62) rfl rfl (by kernel_rfl) (by kernel_rfl) (by kernel_rfl) (fun _ _ _ h => h) (by kernel_rfl) (fun w' hS => by (obtain ⟨_, _, _, _, _, _⟩ := (hB.below hS).three; obtain ⟨_, _, _, _, _, _⟩ := (hC.below hS).three); go_simp) hS0 ?_
              simp only [Act.put, List.setIfInBounds_toArray, List.set_cons_zero, List.set_cons_succ]
              refine reg_take (i := 4) (v := .agg vs.toArray) (some 63) rfl rfl (by kernel_rfl) (by kernel_rfl) (by kernel_rfl) (fun _ _ _ h => h) (by kernel_rfl) (fun w' hS => exec_load_agg 38 _ rfl ⟨g, o + i * 6, none⟩ (by with_unfolding_all rfl) Tryz.isAgg38 Tryz.sizeOf38 vs ((hcs.below' (hcs.lt' hU.name) (hV.trans (hS.mono hV.size))).loads hU.len)) hS0 ?_
              simp only [Act.put, List.setIfInBounds_toArray, List.set_cons_zero, List.set_cons_succ]
              refine reg_take (i := 5) (v := .pointer (some ⟨W.heap.size + 1, 1, none⟩)) (some 64) rfl rfl (by kernel_rfl) (by kernel_rfl) (by kernel_rfl) (fun _ _ _ h => h) (by kernel_rfl) (fun w' hS => by (obtain ⟨_, _, _, _, _, _⟩ := (hB.below hS).three; obtain ⟨_, _, _, _, _, _⟩ := (hC.below hS).three); go_simp) hS0 ?_
              simp only [Act.put, List.setIfInBounds_toArray, List.set_cons_zero, List.set_cons_succ]
              refine reg_take (i := 6) (v := .slice (some ⟨g2, o2, none⟩) s.ws.length c4) (some 65) rfl rfl (by kernel_rfl) (by kernel_rfl) (by kernel_rfl) (fun _ _ _ h => h) (by kernel_rfl) (fun w' hS => by (obtain ⟨_, _, _, _, _, _⟩ := (hB.below hS).three; obtain ⟨_, _, _, _, _, _⟩ := (hC.below hS).three); go_simp) hS0 ?_
              simp only [Act.put, List.setIfInBounds_toArray, List.set_cons_zero, List.set_cons_succ]
              refine reg_take (i := 7) (v := .int .i64 i) (some 66) rfl rfl (by kernel_rfl) (by kernel_rfl) (by kernel_rfl) (fun _ _ _ h => h) (by kernel_rfl) (fun w' hS => by (obtain ⟨_, _, _, _, _, _⟩ := (hB.below hS).three; obtain ⟨_, _, _, _, _, _⟩ := (hC.below hS).three); go_simp) hS0 ?_
              simp only [Act.put, List.setIfInBounds_toArray, List.set_cons_zero, List.set_cons_succ]
              refine reg_take (i := 8) (v := .pointer (some ⟨g2, o2 + i * 6, none⟩)) (some 67) rfl rfl (by kernel_rfl) (by kernel_rfl) (by kernel_rfl) (fun _ _ _ h => h) (by kernel_rfl) (fun w' hS => by (obtain ⟨_, _, _, _, _, _⟩ := (hB.below hS).three; obtain ⟨_, _, _, _, _, _⟩ := (hC.below hS).three); go_simp) hS0 ?_
              simp only [Act.put, List.setIfInBounds_toArray, List.set_cons_zero, List.set_cons_succ]
              refine reg_take (i := 9) (v := .agg ws.toArray) (some 68) rfl rfl (by kernel_rfl) (by kernel_rfl) (by kernel_rfl) (fun _ _ _ h => h) (by kernel_rfl) (fun w' hS => exec_load_agg 38 _ rfl ⟨g2, o2 + i * 6, none⟩ (by with_unfolding_all rfl) Tryz.isAgg38 Tryz.sizeOf38 ws ((hcs2.below' (hcs2.lt' hU2.name) (hV.trans (hS.mono hV.size))).loads hU2.len)) hS0 ?_
              simp only [Act.put, List.setIfInBounds_toArray, List.set_cons_zero, List.set_cons_succ]
              refine reg_take (i := 10) (v := .bool (!q)) (some 69) rfl rfl (by kernel_rfl) (by kernel_rfl) (by kernel_rfl) (fun _ _ _ h => h) (by kernel_rfl) (fun w' hS => by rw [hq.out]; exact exec_neqW _ _ _ rfl hU hU2 rfl rfl) hS0 ?_
              simp only [Act.put, List.setIfInBounds_toArray, List.set_cons_zero, List.set_cons_succ]
              refine wpAnyH_done (by kernel_rfl) ?_ _
              show Exit.then _ _ Exit.normal _ _
              go_wp2_with fail
              go_meet
              case rel => exact ⟨rfl, hS0⟩
            case rest =>
            obtain ⟨rfl, hX⟩ := hcut
            replace hB := hB.below hX
            replace hC := hC.below hX
            replace hL := below_call hL hX
            clear hX hU hU2 hcs hcs2 hV
            cases q with
            | false =>
              obtain rfl : b = false := by rw [e.out]; exact decide_eq_false fun h => (HY (of_decide_eq_false hq.out.symm)).out (by rw [h])
              clear e HN HY hq
              go_wp2_with fail
              go_ret
              exact ⟨rfl, hL⟩
            | true =>
              have HS := HN (of_decide_eq_true hq.out.symm)
              clear HN HY hq
              go_wp2_with fail
              go_roundw
              case rel => exact ⟨i + 1, by go_num, by omega, hB, hC, hL, HS⟩
              case measure => simp [RowKit.intOf]; omega
          · obtain rfl : i = r.ws.length := by omega
            have ha := hA.out
            rw [List.take_length, n2.out, List.take_length] at ha
            have d1 : ¬ (r.ws.length : Int) < r.ws.length := by omega
            replace ha := hid ha
            clear hat1 hbt1 hA
            have eW := ha
            clear ha
            go_wp2_with fail
            clear d1
            go_loopw [7] (fun vi wr => ∃ i : Nat, vi = .int .i64 i ∧ i ≤ r.ts.length ∧ Blk wr W.heap.size [.slice p r.us.length c, .slice p1 r.ws.length c1, .slice p2 r.ts.length c2] 28 ∧ Blk wr (W.heap.size + 1) [.slice p3 s.us.length c3, .slice p4 s.ws.length c4, .slice p5 s.ts.length c5] 28 ∧ Below W.heap.size W wr ∧ Hid (r.ts.take i = s.ts.take i)) (fun vi _ => r.ts.length - (RowKit.intOf vi).toNat)
            case atStart => exact ⟨0, rfl, by omega, hB, hC, hL, hid rfl⟩
            case round =>
              clear hB hC hL
              obtain ⟨i, rfl, hi, hB, hC, hL, hA⟩ := hrel
              obtain ⟨_, _, _, _, _, _⟩ := hB.three
              by_cases hlt : i < r.ts.length
              · have hlt2 : i < s.ts.length := by rw [← n3.out]; exact hlt
                have d1 : (i : Int) < r.ts.length := by omega
                have d2 : (i : Int) < s.ts.length := by omega
                have d0 : (0 : Int) ≤ i := by omega
                have hV := h0.trans (hL.mono h0.size)
                obtain ⟨g, o, rfl, hc⟩ := hat2 (by omega)
                obtain ⟨g2, o2, rfl, hc2⟩ := hbt2 (by omega)
                obtain ⟨vs, hU, hcs⟩ := (hc i hlt).tl
                obtain ⟨ws, hU2, hcs2⟩ := (hc2 i hlt2).tl
                have HN := fun q => hid (take_eq hlt hlt2 hA.out q)
                have HY := fun q => hid (ne_at hlt hlt2 q)
                obtain ⟨x, hx⟩ : ∃ x, r.ts[i]'hlt = x := ⟨_, rfl⟩
                obtain ⟨y, hy⟩ : ∃ x, s.ts[i]'hlt2 = x := ⟨_, rfl⟩
                rw [hx] at hU HN HY
                rw [hy] at hU2 HN HY
                obtain ⟨q, hq⟩ : ∃ q, Hid (q = decide (x = y)) := ⟨_, hid rfl⟩
                clear hx hy hc hc2 hat2 hbt2 hA
                go_upto_region 16 with fail
                go_cut [88] from 70 to 88 (fun s51 wx => s51 = .bool (!q) ∧ Below wr.heap.size wr wx)
                case first =>
                  have hmx : Tryz.prog.follows .mixedOrders = true := by kernel_rfl
                  refine wp_region_held (S := fun w' => Below wr.heap.size wr w') hmx ?_
                  show wpAnyH _ _ _ _ _ _ _ _ wr.drew
                  have hS0 := (Below.refl wr.heap.size wr).drew
                  refine reg_take (i := 0) (v := .pointer (some ⟨W.heap.size, 2, none⟩)) (some 77) rfl rfl (by kernel_rfl) (by kernel_rfl) (by kernel_rfl) (fun _ _ _ h => h) (by kernel_rfl) (fun w' hS => by (obtain ⟨_, _, _, _, _, _⟩ := (hB.below hS).three; obtain ⟨_, _, _, _, _, _⟩ := (hC.below hS).three); go_simp) hS0 ?_
                  simp only [Act.put, List.setIfInBounds_toArray, List.set_cons_zero, List.set_cons_succ]
                  refine reg_take (i := 1) (v := .slice (some ⟨g, o, none⟩) r.ts.length c2) (some 78) rfl rfl (by kernel_rfl) (by kernel_rfl) (by kernel_rfl) (fun _ _ _ h => h) (by kernel_rfl) (fun w' hS => by (obtain ⟨_, _, _, _, _, _⟩ := (hB.below hS).three; obtain ⟨_, _, _, _, _, _⟩ := (hC.below hS).three); go_simp) hS0 ?_
                  simp only [Act.put, List.setIfInBounds_toArray, List.set_cons_zero, List.set_cons_succ]
                  refine reg_take (i := 2) (v := .int .i64 i) (some 79) rfl rfl (by kernel_rfl) (by kernel_rfl) (by kernel_rfl) (fun _ _ _ h => h) (by kernel_rfl) (fun w' hS => by (obtain ⟨_, _, _, _, _, _⟩ := (hB.below hS).three; obtain ⟨_, _, _, _, _, _⟩ := (hC.below hS).three); go_simp) hS0 ?_
                  simp only [Act.put, List.setIfInBounds_toArray, List.set_cons_zero, List.set_cons_succ]
                  refine reg_take (i := 3) (v := .pointer (some ⟨g, o + i * 8, none⟩)) (some 80) rfl rfl (by kernel_rfl) (by kernel_rfl) (by kernel_rfl) (fun _ _ _ h => h) (by kernel_rfl) (fun w' hS => by (obtain ⟨_, _, _, _, _, _⟩ := (hB.below hS).three; obtain ⟨_, _, _, _, _, _⟩ := (hC.below hS).three); go_simp) hS0 ?_
                  simp only [Act.put, List.setIfInBounds_toArray, List.set_cons_zero, List.set_cons_succ]
                  refine reg_take (i := 4) (v := .agg vs.toArray) (some 81) rfl rfl (by kernel_rfl) (by kernel_rfl) (by kernel_rfl) (fun _ _ _ h => h) (by kernel_rfl) (fun w' hS => exec_load_agg 42 _ rfl ⟨g, o + i * 8, none⟩ (by with_unfolding_all rfl) Tryz.isAgg42 Tryz.sizeOf42 vs ((hcs.below' (hcs.lt' hU.name) (hV.trans (hS.mono hV.size))).loads hU.len)) hS0 ?_
                  simp only [Act.put, List.setIfInBounds_toArray, List.set_cons_zero, List.set_cons_succ]
                  refine reg_take (i := 5) (v := .pointer (some ⟨W.heap.size + 1, 2, none⟩)) (some 82) rfl rfl (by kernel_rfl) (by kernel_rfl) (by kernel_rfl) (fun _ _ _ h => h) (by kernel_rfl) (fun w' hS => by (obtain ⟨_, _, _, _, _, _⟩ := (hB.below hS).three; obtain ⟨_, _, _, _, _, _⟩ := (hC.below hS).three); go_simp) hS0 ?_
                  simp only [Act.put, List.setIfInBounds_toArray, List.set_cons_zero, List.set_cons_succ]
                  refine reg_take (i := 6) (v := .slice (some ⟨g2, o2, none⟩) s.ts.length c5) (some 83) rfl rfl (by kernel_rfl) (by kernel_rfl) (by kernel_rfl) (fun _ _ _ h => h) (by kernel_rfl) (fun w' hS => by (obtain ⟨_, _, _, _, _, _⟩ := (hB.below hS).three; obtain ⟨_, _, _, _, _, _⟩ := (hC.below hS).three); go_simp) hS0 ?_
                  simp only [Act.put, List.setIfInBounds_toArray, List.set_cons_zero, List.set_cons_succ]
                  refine reg_take (i := 7) (v := .int .i64 i) (some 84) rfl rfl (by kernel_rfl) (by kernel_rfl) (by kernel_rfl) (fun _ _ _ h => h) (by kernel_rfl) (fun w' hS => by (obtain ⟨_, _, _, _, _, _⟩ := (hB.below hS).three; obtain ⟨_, _, _, _, _, _⟩ := (hC.below hS).three); go_simp) hS0 ?_
                  simp only [Act.put, List.setIfInBounds_toArray, List.set_cons_zero, List.set_cons_succ]
                  refine reg_take (i := 8) (v := .pointer (some ⟨g2, o2 + i * 8, none⟩)) (some 85) rfl rfl (by kernel_rfl) (by kernel_rfl) (by kernel_rfl) (fun _ _ _ h => h) (by kernel_rfl) (fun w' hS => by (obtain ⟨_, _, _, _, _, _⟩ := (hB.below hS).three; obtain ⟨_, _, _, _, _, _⟩ := (hC.below hS).three); go_simp) hS0 ?_
                  simp only [Act.put, List.setIfInBounds_toArray, List.set_cons_zero, List.set_cons_succ]
                  refine reg_take (i := 9) (v := .agg ws.toArray) (some 86) rfl rfl (by kernel_rfl) (by kernel_rfl) (by kernel_rfl) (fun _ _ _ h => h) (by kernel_rfl) (fun w' hS => exec_load_agg 42 _ rfl ⟨g2, o2 + i * 8, none⟩ (by with_unfolding_all rfl) Tryz.isAgg42 Tryz.sizeOf42 ws ((hcs2.below' (hcs2.lt' hU2.name) (hV.trans (hS.mono hV.size))).loads hU2.len)) hS0 ?_
                  simp only [Act.put, List.setIfInBounds_toArray, List.set_cons_zero, List.set_cons_succ]
                  refine held_one (i := 10) (by kernel_rfl) rfl (fun K hQ => ?_)
                  go_simp
                  (with_reducible refine (r9samet_b x y vs ws q V0 _ hU hU2 (hV.trans (hS0.mono hV.size)) hq).mono ?_)
                  rintro e w1 ⟨rfl, hb⟩
                  have hS1 := below_call hS0 hb
                  refine hQ.out _ _ hS1 ?_
                  clear hQ
                  try simp only [Act.put, List.setIfInBounds_toArray, List.set_cons_zero, List.set_cons_succ]
                  refine reg_take (i := 11) (v := .bool (!q)) (some 88) rfl rfl (by kernel_rfl) (by kernel_rfl) (by kernel_rfl) (fun _ _ _ h => h) (by kernel_rfl) (fun w' hS => by skip; go_simp) hS1 ?_
                  simp only [Act.put, List.setIfInBounds_toArray, List.set_cons_zero, List.set_cons_succ]
                  refine wpAnyH_done (by kernel_rfl) ?_ _
                  show Exit.then _ _ Exit.normal _ _
                  go_wp2_with fail
                  go_meet
                  case rel => exact ⟨rfl, hS1⟩
                case rest =>
                obtain ⟨rfl, hX⟩ := hcut
                replace hB := hB.below hX
                replace hC := hC.below hX
                replace hL := below_call hL hX
                clear hX hU hU2 hcs hcs2 hV
                cases q with
                | false =>
                  obtain rfl : b = false := by rw [e.out]; exact decide_eq_false fun h => (HY (of_decide_eq_false hq.out.symm)).out (by rw [h])
                  clear e HN HY hq
                  go_wp2_with fail
                  go_ret
                  exact ⟨rfl, hL⟩
                | true =>
                  have HS := HN (of_decide_eq_true hq.out.symm)
                  clear HN HY hq
                  go_wp2_with fail
                  go_roundw
                  case rel => exact ⟨i + 1, by go_num, by omega, hB, hC, hL, HS⟩
                  case measure => simp [RowKit.intOf]; omega
              · obtain rfl : i = r.ts.length := by omega
                have ha := hA.out
                rw [List.take_length, n3.out, List.take_length] at ha
                have d1 : ¬ (r.ts.length : Int) < r.ts.length := by omega
                replace ha := hid ha
                clear hat2 hbt2 hA
                obtain rfl : b = true := by
                  rw [e.out]
                  refine decide_eq_true ?_
                  cases r
                  cases s
                  simp only [R9.mk.injEq]
                  exact ⟨eU.out, eW.out, ha.out⟩
                clear e
                go_wp2_with fail
                go_ret
                exact ⟨rfl, hL⟩

end

end Go.Proofs.YtaefioikflllcaaGreat
