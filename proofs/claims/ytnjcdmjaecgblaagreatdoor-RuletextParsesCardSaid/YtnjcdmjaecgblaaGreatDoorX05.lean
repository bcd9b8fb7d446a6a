/-
  What the reference of rules answers: lists, numbers, names that are there.
-/
import Derived.Test.YtnjcdmjaecgblaaGreatDoorX01
import Derived.Test.YtnjcdmjaecgblaaGreatDoorX04
import Derived.Test.YtnjcdmjaecgblaaGreatDoorZA02
namespace Go.Proofs.YtnjcdmjaecgblaaGreatDoor
section
section
open Go.RowKit Go.Lib
theorem strs_app (l m : List ByteArray) : strs l ++ strs m = strs (l ++ m) := by unfold strs; rw [List.map_append]
theorem app_strs {w : World} {B C n m : Nat} {v u : Value} {l1 l2 : List ByteArray} (ty : TypeId) (h : w.ownsRow B 9 1 v n (strs l1)) (h2 : w.ownsRow C 9 1 u m (strs l2)) (hn : n + m ≤ 10000) (hB : B ≤ w.heap.size) :
 ∃ v' w', (Builtin.append_ #[23, 23] ty #[v, u]).run Tryz.prog w = .ok v' w' ∧ w'.ownsRow B 9 1 v' (n + m) (strs (l1 ++ l2)) ∧ w.grownBy w' v.ownBlock := by
 obtain ⟨i0, hi0, hz0, hz1, hz2⟩ := info_cut9 infoStr9
 rw [← strs_app]
 exact run_append_rows (P := Tryz.prog) 23 ty i0 (.string ⟨#[]⟩) 1 16 Tryz.underlying23 hi0 hz0 hz1 hz2 rfl (by decide) h h2 (strs_lone _) (by unfold maxLen; omega) (by omega) hB
set_option maxHeartbeats 4000000 in
set_option maxRecDepth 100000 in
theorem r9named_b (su sw st : Value) (r : R9) (b : Bool) (W : World) (hR : RAt W su sw st r) (hu : r.us.length ≤ 1000) (hw : r.ws.length ≤ 1000) (ht : r.ts.length ≤ 1000) (e : Hid (b = namedv r)) :
 Calls Tryz.prog 42 #[.agg #[su, sw, st]] W fun e w' => e = .returned (.bool b) ∧ Below W.heap.size W w' := by
 obtain ⟨p, c, rfl, -, -⟩ := hR.u
 obtain ⟨p1, c1, rfl, -, -⟩ := hR.w
 obtain ⟨p2, c2, rfl, -, -⟩ := hR.t
 have hB := Blk.new W [.slice p r.us.length c, .slice p1 r.ws.length c1, .slice p2 r.ts.length c2] 31
 have hL := (Below.refl W.heap.size W).alloc (Nat.le_refl _) (.cells [.slice p r.us.length c, .slice p1 r.ws.length c1, .slice p2 r.ts.length c2].toArray 31)
 have hR1 := hR.below hL
 clear hR
 go_enter Tryz.func42, Tryz.ntmps42
 go_wp2_with fail
 generalize W.alloc (.cells [.slice p r.us.length c, .slice p1 r.ws.length c1, .slice p2 r.ts.length c2].toArray 31) = V at *
 have hq := (Below.refl V.heap.size V).drew
 go_cut [3] from 4 (fun s3 wx => wx.ownsRow V.heap.size 9 1 s3 (r.us.length + r.ws.length + r.ts.length) (strs (namesU r ++ namesW r ++ namesT r)) ∧ Below V.heap.size V wx)
 case first =>
  go_region_held3 (fun w' => w'.cell? ⟨W.heap.size, 0, none⟩ = some (.slice p r.us.length c) ∧ w'.cell? ⟨W.heap.size, 1, none⟩ = some (.slice p1 r.ws.length c1) ∧ w'.cell? ⟨W.heap.size, 2, none⟩ = some (.slice p2 r.ts.length c2))
   (first | exact ⟨(hB.below (by assumption)).cell 0, (hB.below (by assumption)).cell 1, (hB.below (by assumption)).cell 2⟩)
   (first
    | (go_at_call 80; with_reducible refine (r9units_b _ _ _ r _ (hR1.below hq) hu).mono ?_; rintro e w1 ⟨v6, rfl, h6, hb⟩
       try have ne := own_apart h11 h6
       try replace h8 := own_below h8 hb
       try replace h11 := own_below h11 hb
       replace h6 := own_base h6 (show V.heap.size ≤ _ by have := hq.size; omega)
       replace hq := below_call hq hb
       clear hb)
    | (go_at_call 81; with_reducible refine (r9weapons_b _ _ _ r _ (hR1.below hq) hw).mono ?_; rintro e w1 ⟨v8, rfl, h8, hb⟩
       try replace h6 := own_below h6 hb
       try replace h11 := own_below h11 hb
       replace h8 := own_base h8 (show V.heap.size ≤ _ by have := hq.size; omega)
       replace hq := below_call hq hb
       clear hb)
    | (go_at_call 44; with_reducible refine (r9techs_b _ _ _ r _ (hR1.below hq) ht).mono ?_; rintro e w1 ⟨v11, rfl, h11, hb⟩
       try have ne := own_apart' h6 h11
       try replace h6 := own_below h6 hb
       try replace h8 := own_below h8 hb
       try replace h9 := own_below h9 hb
       replace h11 := own_base h11 (show V.heap.size ≤ _ by have := hq.size; omega)
       replace hq := below_call hq hb
       clear hb)
    | (obtain ⟨v9, w9, hrun, h9, hg⟩ := app_strs 23 h6 h8 (by omega) hq.size
       refine step_app_run (by rfl) (.tmp 6) (.tmp 8) 23 (by rfl) v6 v8 v9 (by rfl) (by rfl) hrun ?_
       try replace h11 := h11.kept hg (by first | assumption | exact ne)
       replace hq := hq.grown hg hq.size (fun k hk => (h6.lt k hk).1)
       clear hg hrun h6 h8)
    | (obtain ⟨v12, w9, hrun, h12, hg⟩ := app_strs 23 h9 h11 (by omega) hq.size
       refine step_app_run (by rfl) (.tmp 9) (.tmp 11) 23 (by rfl) v9 v11 v12 (by rfl) (by rfl) hrun ?_
       replace hq := hq.grown hg hq.size (fun k hk => (h9.lt k hk).1)
       clear hg hrun h9 h11))
  all_goals
   go_wp2_with fail
   go_meet
   case rel => exact ⟨h12, hq⟩
 case rest =>
 clear hq
 obtain ⟨ho, hq⟩ := hcut
 have hlen : (namesU r ++ namesW r ++ namesT r).length ≤ 3000 := by unfold namesU namesW namesT; simp; omega
 have hsl := own_strs ho (by omega)
 have hL2 := below_call hL hq
 have e' : Hid (b = (namesU r ++ namesW r ++ namesT r).all fun s => nameB s.data.toList) := hid e.out
 clear e hB hR1 hL ho hu hw ht hq
 generalize namesU r ++ namesW r ++ namesT r = l at *
 obtain ⟨q, cq, rfl, -, hat⟩ := hsl
 go_wp2_with fail
 go_loop [4] (fun vi => ∃ i : Nat, vi = .int .i64 i ∧ i ≤ l.length ∧ Hid ((l.take i).all (fun s => nameB s.data.toList) = true)) (fun vi => l.length - (RowKit.intOf vi).toNat)
 case atStart => exact ⟨0, rfl, by omega, hid rfl⟩
 case round =>
  obtain ⟨i, rfl, hi, hA⟩ := hrel
  by_cases hlt : i < l.length
  · have d1 : (i : Int) < l.length := by omega
    have d0 : (0 : Int) ≤ i := by omega
    obtain ⟨g, o, rfl, hc⟩ := hat (by omega)
    have k1 := hc i hlt
    have HN := fun q => hid (allp_take (f := fun s : ByteArray => nameB s.data.toList) hlt hA.out q)
    have HY := fun q => hid (allp_no (f := fun s : ByteArray => nameB s.data.toList) hlt q)
    obtain ⟨x, hx⟩ : ∃ x, l[i]'hlt = x := ⟨_, rfl⟩
    rw [hx] at k1 HN HY
    obtain ⟨bb, hbb⟩ : ∃ t, Hid (t = nameB x.data.toList) := ⟨_, hid rfl⟩
    have c1 := fun V => r9name_b x bb V hbb
    clear hat hc hx hA
    go_wp2_with fail
    ((with_reducible refine (c1 _).mono ?_); rintro e w1 ⟨rfl, rfl⟩)
    clear c1
    cases bb with
    | false =>
     have hb := e'.out.trans (HY hbb.out.symm).out
     subst hb
     clear e' HN HY hbb
     go_wp2_with fail
     go_ret
     exact ⟨rfl, hL2⟩
    | true =>
     have HS := HN hbb.out.symm
     clear HN HY hbb
     go_wp2_with fail
     go_round
     case rel => exact ⟨i + 1, by go_num, by omega, HS⟩
     case measure => simp [RowKit.intOf]; omega
  · obtain rfl : i = l.length := by omega
    have ha := hA.out
    rw [List.take_length] at ha
    have d1 : ¬ (l.length : Int) < l.length := by omega
    have hb := e'.out.trans ha
    subst hb
    clear e' ha hA hat
    go_wp2_with fail
    go_ret
    exact ⟨rfl, hL2⟩
end
section
open Go.RowKit Go.Lib
def asc1 (u : U9) : Bool := ascv u.needs && ascv u.trains && ascv u.ress
def asc2 (t : T9) : Bool := ascv t.needs
def asc0 (r : R9) : Bool := ascv (namesU r) && ascv (namesW r) && ascv (namesT r)
theorem ordv_eq (r : R9) : ordv r = (asc0 r && r.us.all asc1 && r.ts.all asc2) := rfl
theorem allb_take {α : Type} {f : α → Bool} {l : List α} {i : Nat} {a b : Bool} (hi : i < l.length) (h : b = (a && (l.take i).all f)) : (b && f (l[i]'hi)) = (a && (l.take (i + 1)).all f) := by
 rw [List.take_succ_eq_append_getElem hi, List.all_append, h]
 simp [Bool.and_assoc]
set_option maxHeartbeats 8000000 in
set_option maxRecDepth 100000 in
theorem r9ordered_b (su sw st : Value) (r : R9) (b : Bool) (W : World) (hR : RAt W su sw st r) (hu : r.us.length ≤ 1000) (hw : r.ws.length ≤ 1000) (ht : r.ts.length ≤ 1000) (e : Hid (b = ordv r)) :
 Calls Tryz.prog 43 #[.agg #[su, sw, st]] W fun e w' => e = .returned (.bool b) ∧ Below W.heap.size W w' := by
 obtain ⟨a, ha0⟩ : ∃ a, Hid (a = asc0 r) := ⟨_, hid rfl⟩
 replace e := hid (show b = (a && r.us.all asc1 && r.ts.all asc2) by rw [e.out, ordv_eq, ha0.out])
 obtain ⟨p, c, rfl, hm, hat⟩ := hR.u
 obtain ⟨p1, c1, rfl, hm1, hat1⟩ := hR.w
 obtain ⟨p2, c2, rfl, hm2, hat2⟩ := hR.t
 have hB := Blk.new W [.slice p r.us.length c, .slice p1 r.ws.length c1, .slice p2 r.ts.length c2] 31
 have hL := (Below.refl W.heap.size W).alloc (Nat.le_refl _) (.cells [.slice p r.us.length c, .slice p1 r.ws.length c1, .slice p2 r.ts.length c2].toArray 31)
 unfold maxLen at hm hm1 hm2
 have hR1 := hR.below hL
 clear hR
 go_enter Tryz.func43, Tryz.ntmps43
 go_upto_region 1 with fail
 generalize W.alloc (.cells [.slice p r.us.length c, .slice p1 r.ws.length c1, .slice p2 r.ts.length c2].toArray 31) = V at *
 obtain ⟨q1, hq1⟩ : ∃ q, Hid (q = ascv (namesU r)) := ⟨_, hid rfl⟩
 obtain ⟨q2, hq2⟩ : ∃ q, Hid (q = ascv (namesW r)) := ⟨_, hid rfl⟩
 obtain ⟨q3, hq3⟩ : ∃ q, Hid (q = ascv (namesT r)) := ⟨_, hid rfl⟩
 have hA : a = (q1 && q2 && q3) := by rw [ha0.out, hq1.out, hq2.out, hq3.out]; rfl
 have n1 : (namesU r).length = r.us.length := by unfold namesU; simp
 have n2 : (namesW r).length = r.ws.length := by unfold namesW; simp
 have n3 : (namesT r).length = r.ts.length := by unfold namesT; simp
 clear ha0
 have hL0 := Below.refl V.heap.size V
 go_cut [3] from 4 (fun s3 wx => s3 = .bool a ∧ Below V.heap.size V wx)
 case first =>
  obtain ⟨_, _, _, _, _, _⟩ := hB.three
  replace n1 := hid n1
  replace n2 := hid n2
  replace n3 := hid n3
  go_wp2_with fail
  ((with_reducible refine (r9units_b _ _ _ r _ hR1 hu).mono ?_); rintro e w1 ⟨v1, rfl, h1, hb⟩)
  have hL1 := below_call hL0 hb
  obtain ⟨_, _, _, _, _, _⟩ := (hB.below hL1).three
  have x1 := own_strs h1 (by omega)
  clear h1 hb
  go_wp2_with fail
  ((with_reducible refine (r9asc_b (namesU r) v1 q1 _ x1 hq1).mono ?_); rintro e w2 ⟨rfl, hb⟩)
  have hL2 := below_call hL1 hb
  obtain ⟨_, _, _, _, _, _⟩ := (hB.below hL2).three
  clear hb x1
  cases q1 with
  | false =>
   replace hA : a = false := hA
   subst hA
   go_wp2_with fail
   go_meet
   case rel => exact ⟨rfl, hL2⟩
  | true =>
  go_wp2_with fail
  ((with_reducible refine (r9weapons_b _ _ _ r _ (hR1.below hL2) hw).mono ?_); rintro e w3 ⟨v2, rfl, h1, hb⟩)
  have hL3 := below_call hL2 hb
  obtain ⟨_, _, _, _, _, _⟩ := (hB.below hL3).three
  have x1 := own_strs h1 (by omega)
  clear h1 hb
  go_wp2_with fail
  ((with_reducible refine (r9asc_b (namesW r) v2 q2 _ x1 hq2).mono ?_); rintro e w4 ⟨rfl, hb⟩)
  have hL4 := below_call hL3 hb
  obtain ⟨_, _, _, _, _, _⟩ := (hB.below hL4).three
  clear hb x1
  cases q2 with
  | false =>
   replace hA : a = false := hA
   subst hA
   go_wp2_with fail
   go_meet
   case rel => exact ⟨rfl, hL4⟩
  | true =>
  go_wp2_with fail
  ((with_reducible refine (r9techs_b _ _ _ r _ (hR1.below hL4) ht).mono ?_); rintro e w5 ⟨v3, rfl, h1, hb⟩)
  have hL5 := below_call hL4 hb
  obtain ⟨_, _, _, _, _, _⟩ := (hB.below hL5).three
  have x1 := own_strs h1 (by omega)
  clear h1 hb
  go_wp2_with fail
  ((with_reducible refine (r9asc_b (namesT r) v3 q3 _ x1 hq3).mono ?_); rintro e w6 ⟨rfl, hb⟩)
  have hL6 := below_call hL5 hb
  replace hA : a = q3 := hA
  subst hA
  go_wp2_with fail
  go_meet
  case rel => exact ⟨rfl, hL6⟩
 case rest =>
 clear hL0 hq1 hq2 hq3 hA n1 n2 n3
 obtain ⟨rfl, hL0⟩ := hcut
 have hB0 := hB.below hL0
 have hLL := below_call hL hL0
 clear hB hL hL0 hR1
 go_wp2_with fail
 go_loopw [3, 4] (fun vo vi wr => ∃ (i : Nat) (bo : Bool), vi = .int .i64 i ∧ vo = .bool bo ∧ i ≤ r.us.length ∧ Blk wr W.heap.size [.slice p r.us.length c, .slice p1 r.ws.length c1, .slice p2 r.ts.length c2] 31 ∧ Below W.heap.size W wr ∧ Hid (bo = (a && (r.us.take i).all asc1))) (fun _ vi _ => r.us.length - (RowKit.intOf vi).toNat)
 case atStart => exact ⟨0, a, rfl, rfl, by omega, hB0, hLL, hid (by simp)⟩
 case round =>
  clear hB0 hLL
  obtain ⟨i, bo, rfl, rfl, hi, hB, hL, hA⟩ := hrel
  obtain ⟨_, _, _, _, _, _⟩ := hB.three
  by_cases hlt : i < r.us.length
  · have d1 : (i : Int) < r.us.length := by omega
    have d0 : (0 : Int) ≤ i := by omega
    obtain ⟨g, o, rfl, hc⟩ := hat (by omega)
    obtain ⟨vs, hU, hcs⟩ := (hc i hlt).ul
    have kl := hid ((hcs.below' (hcs.lt' hU.name) hL).loads (P := Tryz.prog) hU.len)
    obtain ⟨pn, cn, pt, ct, pr, cr, hvs, s1, s2, s3⟩ := hU.lists
    have l1 := s1.small
    have l2 := s2.small
    have l3 := s3.small
    have HN := hid (allb_take (f := asc1) hlt hA.out)
    have HY := hA.out
    have hU' := hid hU
    obtain ⟨u, hu⟩ : ∃ u, r.us[i]'hlt = u := ⟨_, rfl⟩
    rw [hu] at HN hU' hvs s1 s2 s3 l1 l2 l3
    have hZ := Blk.new wr vs 53
    have v16 : vs[16]? = some (.slice pn u.needs.length cn) := by rw [hvs]; rfl
    have v17 : vs[17]? = some (.slice pt u.trains.length ct) := by rw [hvs]; rfl
    have v18 : vs[18]? = some (.slice pr u.ress.length cr) := by rw [hvs]; rfl
    have hB2 := hB.alloc (.cells vs.toArray 53)
    have hL2 := hL.alloc hL.size (.cells vs.toArray 53)
    obtain ⟨t1, ht1⟩ : ∃ q, Hid (q = ascv u.needs) := ⟨_, hid rfl⟩
    obtain ⟨t2, ht2⟩ : ∃ q, Hid (q = ascv u.trains) := ⟨_, hid rfl⟩
    obtain ⟨t3, ht3⟩ : ∃ q, Hid (q = ascv u.ress) := ⟨_, hid rfl⟩
    have HS : ∀ z, z = (bo && (t1 && t2 && t3)) → Hid (z = (a && (r.us.take (i + 1)).all asc1)) := fun z hz => hid (by rw [hz, ← HN.out, ht1.out, ht2.out, ht3.out]; rfl)
    have HS' := hid HS
    clear hu hat hc hU hA hcs hvs HN HY l1 l2 l3 HS
    have z16 : (wr.alloc (.cells vs.toArray 53)).cell? ⟨wr.heap.size, 16, none⟩ = some (.slice pn u.needs.length cn) := (hZ.cell 16).trans v16
    cases bo with
    | false =>
     have HQ := HS'.out false rfl
     clear HS' v16 v17 v18 z16
     go_wp2_with (first | (with_reducible refine wpList_load_agg rfl 53 _ rfl ⟨g, o + i * 19, none⟩ (by with_unfolding_all rfl) Tryz.isAgg53 Tryz.sizeOf53 vs kl.out ?_) | (with_reducible refine wpList_alloc_agg rfl 53 rfl _ rfl uZero zeroU ?_) | (with_reducible refine wpList_store_new rfl 53 _ _ rfl rfl Tryz.sizeOf53 vs uZero 53 (by with_unfolding_all rfl) (by with_unfolding_all rfl) hU'.out.len rfl hU'.out.lone ?_))
     go_roundw
     case rel => exact ⟨i + 1, false, by go_num, rfl, by omega, hB2, hL2, HQ⟩
     case measure => simp [RowKit.intOf]; omega
    | true =>
    go_wp2_with (first | (with_reducible refine wpList_load_agg rfl 53 _ rfl ⟨g, o + i * 19, none⟩ (by with_unfolding_all rfl) Tryz.isAgg53 Tryz.sizeOf53 vs kl.out ?_) | (with_reducible refine wpList_alloc_agg rfl 53 rfl _ rfl uZero zeroU ?_) | (with_reducible refine wpList_store_new rfl 53 _ _ rfl rfl Tryz.sizeOf53 vs uZero 53 (by with_unfolding_all rfl) (by with_unfolding_all rfl) hU'.out.len rfl hU'.out.lone ?_))
    ((with_reducible refine (r9asc_b u.needs _ t1 _ (s1.below hL2) ht1).mono ?_); rintro e w1 ⟨rfl, hb⟩)
    replace hZ := hZ.below hb
    replace hB2 := hB2.below hb
    replace hL2 := below_call hL2 hb
    have z17 : w1.cell? ⟨wr.heap.size, 17, none⟩ = some (.slice pt u.trains.length ct) := (hZ.cell 17).trans v17
    clear hb
    cases t1 with
    | false =>
     have HQ := HS'.out false rfl
     clear HS' v16 v17 v18 z16
     go_wp2_with fail
     go_roundw
     case rel => exact ⟨i + 1, false, by go_num, rfl, by omega, hB2, hL2, HQ⟩
     case measure => simp [RowKit.intOf]; omega
    | true =>
    go_wp2_with fail
    ((with_reducible refine (r9asc_b u.trains _ t2 _ (s2.below hL2) ht2).mono ?_); rintro e w2 ⟨rfl, hb⟩)
    replace hZ := hZ.below hb
    replace hB2 := hB2.below hb
    replace hL2 := below_call hL2 hb
    have z18 : w2.cell? ⟨wr.heap.size, 18, none⟩ = some (.slice pr u.ress.length cr) := (hZ.cell 18).trans v18
    clear hb
    cases t2 with
    | false =>
     have HQ := HS'.out false rfl
     clear HS' v16 v17 v18 z16 z17
     go_wp2_with fail
     go_roundw
     case rel => exact ⟨i + 1, false, by go_num, rfl, by omega, hB2, hL2, HQ⟩
     case measure => simp [RowKit.intOf]; omega
    | true =>
    go_wp2_with fail
    ((with_reducible refine (r9asc_b u.ress _ t3 _ (s3.below hL2) ht3).mono ?_); rintro e w3 ⟨rfl, hb⟩)
    replace hB2 := hB2.below hb
    replace hL2 := below_call hL2 hb
    have HQ := HS'.out t3 (by simp)
    clear HS' v16 v17 v18 z16 z17 z18 hb
    go_wp2_with fail
    go_roundw
    case rel => exact ⟨i + 1, t3, by go_num, rfl, by omega, hB2, hL2, HQ⟩
    case measure => simp [RowKit.intOf]; omega
  · obtain rfl : i = r.us.length := by omega
    have ha := hA.out
    rw [List.take_length] at ha
    have d1 : ¬ (r.us.length : Int) < r.us.length := by omega
    replace e := hid (show b = (bo && r.ts.all asc2) by rw [e.out, ha])
    clear hat ha hA
    go_wp2_with fail
    clear d1
    go_loopw [3, 6] (fun vo vi wr => ∃ (i : Nat) (bn : Bool), vi = .int .i64 i ∧ vo = .bool bn ∧ i ≤ r.ts.length ∧ Blk wr W.heap.size [.slice p r.us.length c, .slice p1 r.ws.length c1, .slice p2 r.ts.length c2] 31 ∧ Below W.heap.size W wr ∧ Hid (bn = (bo && (r.ts.take i).all asc2))) (fun _ vi _ => r.ts.length - (RowKit.intOf vi).toNat)
    case atStart => exact ⟨0, bo, rfl, rfl, by omega, hB, hL, hid (by simp)⟩
    case round =>
     clear hB hL
     obtain ⟨i, bn, rfl, rfl, hi, hB, hL, hA⟩ := hrel
     obtain ⟨_, _, _, _, _, _⟩ := hB.three
     by_cases hlt : i < r.ts.length
     · have d1 : (i : Int) < r.ts.length := by omega
       have d0 : (0 : Int) ≤ i := by omega
       obtain ⟨g, o, rfl, hc⟩ := hat2 (by omega)
       obtain ⟨vs, hU, hcs⟩ := (hc i hlt).tl
       obtain ⟨pn, cn, hvs, s1⟩ := hU.lists
       have k1 : wr.cell? ⟨g, o + i * 8 + 1, none⟩ = some (.slice pn (r.ts[i]'hlt).needs.length cn) := (hcs.below' (hcs.lt' hU.name) hL) 1 _ (by rw [hvs]; rfl)
       have HN := hid (allb_take (f := asc2) hlt hA.out)
       obtain ⟨u, hu⟩ : ∃ u, r.ts[i]'hlt = u := ⟨_, rfl⟩
       rw [hu] at HN k1 s1
       obtain ⟨t1, ht1⟩ : ∃ q, Hid (q = ascv u.needs) := ⟨_, hid rfl⟩
       clear hu hat2 hc hU hA hcs hvs
       cases bn with
       | false =>
        have HQ : Hid (false = (bo && (r.ts.take (i + 1)).all asc2)) := hid (by rw [← HN.out]; rfl)
        clear HN
        go_wp2_with fail
        go_roundw
        case rel => exact ⟨i + 1, false, by go_num, rfl, by omega, hB, hL, HQ⟩
        case measure => simp [RowKit.intOf]; omega
       | true =>
        go_wp2_with fail
        ((with_reducible refine (r9asc_b u.needs _ t1 _ (s1.below hL) ht1).mono ?_); rintro e w1 ⟨rfl, hb⟩)
        replace hB := hB.below hb
        replace hL := below_call hL hb
        have HQ : Hid (t1 = (bo && (r.ts.take (i + 1)).all asc2)) := hid (by rw [← HN.out, ht1.out]; rfl)
        clear HN ht1 hb k1
        go_wp2_with fail
        go_roundw
        case rel => exact ⟨i + 1, t1, by go_num, rfl, by omega, hB, hL, HQ⟩
        case measure => simp [RowKit.intOf]; omega
     · obtain rfl : i = r.ts.length := by omega
       have ha := hA.out
       rw [List.take_length] at ha
       have d1 : ¬ (r.ts.length : Int) < r.ts.length := by omega
       have hb := e.out.trans ha.symm
       subst hb
       clear e ha hA hat2
       go_wp2_with fail
       go_ret
       exact ⟨rfl, hL⟩
end
section
open Go.RowKit Go.Lib
theorem r9shaped_u (u : U9) (vs : List Value) (b : Bool) (W : World) (hU : UL W vs u) (e : Hid (b = shapev u)) :
 Calls Tryz.prog 83 #[.agg vs.toArray] W fun e w' => e = .returned (.bool b) ∧ Below W.heap.size W w' := by
 obtain ⟨sn, st, sr, rfl, -⟩ := hU
 exact r9shaped_b u sn st sr b W e
set_option maxHeartbeats 8000000 in
set_option maxRecDepth 100000 in
theorem r9numbers_b (su sw st : Value) (r : R9) (b : Bool) (W : World) (hR : RAt W su sw st r) (e : Hid (b = numsv r)) :
 Calls Tryz.prog 46 #[.agg #[su, sw, st]] W fun e w' => e = .returned (.bool b) ∧ Below W.heap.size W w' := by
 obtain ⟨p, c, rfl, hm, hat⟩ := hR.u
 obtain ⟨p1, c1, rfl, hm1, hat1⟩ := hR.w
 obtain ⟨p2, c2, rfl, hm2, hat2⟩ := hR.t
 have hB := Blk.new W [.slice p r.us.length c, .slice p1 r.ws.length c1, .slice p2 r.ts.length c2] 31
 have hL := (Below.refl W.heap.size W).alloc (Nat.le_refl _) (.cells [.slice p r.us.length c, .slice p1 r.ws.length c1, .slice p2 r.ts.length c2].toArray 31)
 unfold maxLen at hm hm1 hm2
 have hR1 := hR.below hL
 clear hR
 go_enter Tryz.func46, Tryz.ntmps46
 go_wp2_with fail
 generalize W.alloc (.cells [.slice p r.us.length c, .slice p1 r.ws.length c1, .slice p2 r.ts.length c2].toArray 31) = V at *
 clear hR1
 replace e := hid (show b = (r.us.all shapev && r.ws.all weapv && r.ts.all techv) from e.out)
 go_loopw [3, 4] (fun vo vi wr => ∃ (i : Nat) (bo : Bool), vi = .int .i64 i ∧ vo = .bool bo ∧ i ≤ r.us.length ∧ Blk wr W.heap.size [.slice p r.us.length c, .slice p1 r.ws.length c1, .slice p2 r.ts.length c2] 31 ∧ Below W.heap.size W wr ∧ Hid (bo = (true && (r.us.take i).all shapev))) (fun _ vi _ => r.us.length - (RowKit.intOf vi).toNat)
 case atStart => exact ⟨0, true, rfl, rfl, by omega, hB, hL, hid (by simp)⟩
 case round =>
  clear hB hL
  obtain ⟨i, bo, rfl, rfl, hi, hB, hL, hA⟩ := hrel
  obtain ⟨_, _, _, _, _, _⟩ := hB.three
  by_cases hlt : i < r.us.length
  · have d1 : (i : Int) < r.us.length := by omega
    have d0 : (0 : Int) ≤ i := by omega
    obtain ⟨g, o, rfl, hc⟩ := hat (by omega)
    obtain ⟨vs, hU, hcs⟩ := (hc i hlt).ul
    have kl := hid ((hcs.below' (hcs.lt' hU.name) hL).loads (P := Tryz.prog) hU.len)
    have HN := hid (allb_take (f := shapev) hlt hA.out)
    have hU' := hid (hU.below hL)
    obtain ⟨u, hu⟩ : ∃ u, r.us[i]'hlt = u := ⟨_, rfl⟩
    rw [hu] at HN hU'
    obtain ⟨t1, ht1⟩ : ∃ q, Hid (q = shapev u) := ⟨_, hid rfl⟩
    clear hu hat hc hU hA hcs
    cases bo with
    | false =>
     have HQ : Hid (false = (true && (r.us.take (i + 1)).all shapev)) := hid (by rw [← HN.out]; rfl)
     clear HN
     go_wp2_with fail
     go_roundw
     case rel => exact ⟨i + 1, false, by go_num, rfl, by omega, hB, hL, HQ⟩
     case measure => simp [RowKit.intOf]; omega
    | true =>
     go_wp2_with (with_reducible refine wpList_load_agg' 53 _ rfl (by with_unfolding_all rfl) ⟨g, o + i * 19, none⟩ (by with_unfolding_all rfl) Tryz.isAgg53 Tryz.sizeOf53 vs kl.out ?_)
     ((with_reducible refine (r9shaped_u u vs t1 _ hU'.out ht1).mono ?_); rintro e w1 ⟨rfl, hb⟩)
     replace hB := hB.below hb
     replace hL := below_call hL hb
     have HQ : Hid (t1 = (true && (r.us.take (i + 1)).all shapev)) := hid (by rw [← HN.out, ht1.out]; rfl)
     clear HN ht1 hb kl hU'
     go_wp2_with fail
     go_roundw
     case rel => exact ⟨i + 1, t1, by go_num, rfl, by omega, hB, hL, HQ⟩
     case measure => simp [RowKit.intOf]; omega
  · obtain rfl : i = r.us.length := by omega
    have ha := hA.out
    rw [List.take_length, Bool.true_and] at ha
    have d1 : ¬ (r.us.length : Int) < r.us.length := by omega
    replace e := hid (show b = (bo && r.ws.all weapv && r.ts.all techv) by rw [e.out, ha])
    clear hat ha hA
    go_wp2_with fail
    clear d1
    go_loopw [3, 5] (fun vo vi wr => ∃ (i : Nat) (bn : Bool), vi = .int .i64 i ∧ vo = .bool bn ∧ i ≤ r.ws.length ∧ Blk wr W.heap.size [.slice p r.us.length c, .slice p1 r.ws.length c1, .slice p2 r.ts.length c2] 31 ∧ Below W.heap.size W wr ∧ Hid (bn = (bo && (r.ws.take i).all weapv))) (fun _ vi _ => r.ws.length - (RowKit.intOf vi).toNat)
    case atStart => exact ⟨0, bo, rfl, rfl, by omega, hB, hL, hid (by simp)⟩
    case round =>
     clear hB hL
     obtain ⟨i, bn, rfl, rfl, hi, hB, hL, hA⟩ := hrel
     obtain ⟨_, _, _, _, _, _⟩ := hB.three
     by_cases hlt : i < r.ws.length
     · have d1 : (i : Int) < r.ws.length := by omega
       have d0 : (0 : Int) ≤ i := by omega
       obtain ⟨g, o, rfl, hc⟩ := hat1 (by omega)
       obtain ⟨vs, hU, hcs⟩ := (hc i hlt).wl
       have kl := hid ((hcs.below' (hcs.lt' hU.name) hL).loads (P := Tryz.prog) hU.len)
       have HN := hid (allb_take (f := weapv) hlt hA.out)
       obtain ⟨u, hu⟩ : ∃ u, r.ws[i]'hlt = u := ⟨_, rfl⟩
       rw [hu] at HN hU
       have hU' := hid hU
       have hZ := Blk.new wr vs 51
       obtain ⟨v1, v2, v3, v4, v5⟩ := hU.cells
       have z1 : (wr.alloc (.cells vs.toArray 51)).cell? ⟨wr.heap.size, 1, none⟩ = some (.int .i64 u.rng) := (hZ.cell 1).trans v1
       have z2 : (wr.alloc (.cells vs.toArray 51)).cell? ⟨wr.heap.size, 2, none⟩ = some (.int .i64 u.dmg) := (hZ.cell 2).trans v2
       have z3 : (wr.alloc (.cells vs.toArray 51)).cell? ⟨wr.heap.size, 3, none⟩ = some (.int .i64 u.cool) := (hZ.cell 3).trans v3
       have z4 : (wr.alloc (.cells vs.toArray 51)).cell? ⟨wr.heap.size, 4, none⟩ = some (.int .i64 u.spd) := (hZ.cell 4).trans v4
       have z5 : (wr.alloc (.cells vs.toArray 51)).cell? ⟨wr.heap.size, 5, none⟩ = some (.int .i64 u.spl) := (hZ.cell 5).trans v5
       obtain ⟨q0, hq0⟩ : ∃ q, Hid (q = rngv u.rng 0 8192) := ⟨_, hid rfl⟩
       have c0 := hid (fun V => r9within_b u.rng 0 8192 q0 V hq0)
       obtain ⟨q1, hq1⟩ : ∃ q, Hid (q = statv u.dmg) := ⟨_, hid rfl⟩
       have c1 := hid (fun V => r9stat_b u.dmg q1 V hq1)
       obtain ⟨q2, hq2⟩ : ∃ q, Hid (q = statv u.cool) := ⟨_, hid rfl⟩
       have c2 := hid (fun V => r9stat_b u.cool q2 V hq2)
       obtain ⟨q3, hq3⟩ : ∃ q, Hid (q = rngv u.spd 0 512) := ⟨_, hid rfl⟩
       have c3 := hid (fun V => r9within_b u.spd 0 512 q3 V hq3)
       obtain ⟨q4, hq4⟩ : ∃ q, Hid (q = rngv u.spl 0 1024) := ⟨_, hid rfl⟩
       have c4 := hid (fun V => r9within_b u.spl 0 1024 q4 V hq4)
       have hB2 := hB.alloc (.cells vs.toArray 51)
       have hL2 := hL.alloc hL.size (.cells vs.toArray 51)
       have HS : ∀ z, z = (bn && (q0 && q1 && q2 && q3 && q4)) → Hid (z = (bo && (r.ws.take (i + 1)).all weapv)) := fun z hz => hid (by rw [hz, ← HN.out, hq0.out, hq1.out, hq2.out, hq3.out, hq4.out]; rfl)
       have HS' := hid HS
       clear hu hat1 hc hU hA hcs HN HS hZ hq0 hq1 hq2 hq3 hq4 v1 v2 v3 v4 v5
       cases bn with
       | false =>
        have HQ := HS'.out false rfl
        clear HS'
        go_wp2_with (first | (with_reducible refine wpList_load_agg rfl 51 _ rfl ⟨g, o + i * 6, none⟩ (by with_unfolding_all rfl) Tryz.isAgg51 Tryz.sizeOf51 vs kl.out ?_) | (with_reducible refine wpList_alloc_agg rfl 51 rfl _ rfl wZero zeroW ?_) | (with_reducible refine wpList_store_new rfl 51 _ _ rfl rfl Tryz.sizeOf51 vs wZero 51 (by with_unfolding_all rfl) (by with_unfolding_all rfl) hU'.out.len rfl hU'.out.lone ?_))
        go_roundw
        case rel => exact ⟨i + 1, false, by go_num, rfl, by omega, hB2, hL2, HQ⟩
        case measure => simp [RowKit.intOf]; omega
       | true =>
       go_wp2_with (first | (with_reducible refine wpList_load_agg rfl 51 _ rfl ⟨g, o + i * 6, none⟩ (by with_unfolding_all rfl) Tryz.isAgg51 Tryz.sizeOf51 vs kl.out ?_) | (with_reducible refine wpList_alloc_agg rfl 51 rfl _ rfl wZero zeroW ?_) | (with_reducible refine wpList_store_new rfl 51 _ _ rfl rfl Tryz.sizeOf51 vs wZero 51 (by with_unfolding_all rfl) (by with_unfolding_all rfl) hU'.out.len rfl hU'.out.lone ?_))
       ((with_reducible refine (c0.out _).mono ?_); rintro e w1 ⟨rfl, rfl⟩)
       cases q0 with
       | false =>
        have HQ := HS'.out false (by simp)
        clear HS'
        go_wp2_with fail
        go_roundw
        case rel => exact ⟨i + 1, false, by go_num, rfl, by omega, hB2, hL2, HQ⟩
        case measure => simp [RowKit.intOf]; omega
       | true =>
       go_wp2_with fail
       ((with_reducible refine (c1.out _).mono ?_); rintro e w1 ⟨rfl, rfl⟩)
       cases q1 with
       | false =>
        have HQ := HS'.out false (by simp)
        clear HS'
        go_wp2_with fail
        go_roundw
        case rel => exact ⟨i + 1, false, by go_num, rfl, by omega, hB2, hL2, HQ⟩
        case measure => simp [RowKit.intOf]; omega
       | true =>
       go_wp2_with fail
       ((with_reducible refine (c2.out _).mono ?_); rintro e w1 ⟨rfl, rfl⟩)
       cases q2 with
       | false =>
        have HQ := HS'.out false (by simp)
        clear HS'
        go_wp2_with fail
        go_roundw
        case rel => exact ⟨i + 1, false, by go_num, rfl, by omega, hB2, hL2, HQ⟩
        case measure => simp [RowKit.intOf]; omega
       | true =>
       go_wp2_with fail
       ((with_reducible refine (c3.out _).mono ?_); rintro e w1 ⟨rfl, rfl⟩)
       cases q3 with
       | false =>
        have HQ := HS'.out false (by simp)
        clear HS'
        go_wp2_with fail
        go_roundw
        case rel => exact ⟨i + 1, false, by go_num, rfl, by omega, hB2, hL2, HQ⟩
        case measure => simp [RowKit.intOf]; omega
       | true =>
       go_wp2_with fail
       ((with_reducible refine (c4.out _).mono ?_); rintro e w1 ⟨rfl, rfl⟩)
       have HQ := HS'.out q4 (by simp)
       clear HS'
       go_wp2_with fail
       go_roundw
       case rel => exact ⟨i + 1, q4, by go_num, rfl, by omega, hB2, hL2, HQ⟩
       case measure => simp [RowKit.intOf]; omega
     · obtain rfl : i = r.ws.length := by omega
       have ha := hA.out
       rw [List.take_length] at ha
       have d1 : ¬ (r.ws.length : Int) < r.ws.length := by omega
       replace e := hid (show b = (bn && r.ts.all techv) by rw [e.out, ha])
       clear hat1 ha hA
       go_wp2_with fail
       clear d1
       go_loopw [3, 7] (fun vo vi wr => ∃ (i : Nat) (bm : Bool), vi = .int .i64 i ∧ vo = .bool bm ∧ i ≤ r.ts.length ∧ Blk wr W.heap.size [.slice p r.us.length c, .slice p1 r.ws.length c1, .slice p2 r.ts.length c2] 31 ∧ Below W.heap.size W wr ∧ Hid (bm = (bn && (r.ts.take i).all techv))) (fun _ vi _ => r.ts.length - (RowKit.intOf vi).toNat)
       case atStart => exact ⟨0, bn, rfl, rfl, by omega, hB, hL, hid (by simp)⟩
       case round =>
        clear hB hL
        obtain ⟨i, bm, rfl, rfl, hi, hB, hL, hA⟩ := hrel
        obtain ⟨_, _, _, _, _, _⟩ := hB.three
        by_cases hlt : i < r.ts.length
        · have d1 : (i : Int) < r.ts.length := by omega
          have d0 : (0 : Int) ≤ i := by omega
          obtain ⟨g, o, rfl, hc⟩ := hat2 (by omega)
          obtain ⟨vs, hU, hcs⟩ := (hc i hlt).tl
          have kl := hid ((hcs.below' (hcs.lt' hU.name) hL).loads (P := Tryz.prog) hU.len)
          have HN := hid (allb_take (f := techv) hlt hA.out)
          obtain ⟨u, hu⟩ : ∃ u, r.ts[i]'hlt = u := ⟨_, rfl⟩
          rw [hu] at HN hU
          have hU' := hid hU
          have hZ := Blk.new wr vs 56
          obtain ⟨v2, v3, v4, -, v6, v7⟩ := hU.cells
          have z2 : (wr.alloc (.cells vs.toArray 56)).cell? ⟨wr.heap.size, 2, none⟩ = some (.int .i64 u.ore) := (hZ.cell 2).trans v2
          have z3 : (wr.alloc (.cells vs.toArray 56)).cell? ⟨wr.heap.size, 3, none⟩ = some (.int .i64 u.wood) := (hZ.cell 3).trans v3
          have z4 : (wr.alloc (.cells vs.toArray 56)).cell? ⟨wr.heap.size, 4, none⟩ = some (.int .i64 u.time) := (hZ.cell 4).trans v4
          have z7 : (wr.alloc (.cells vs.toArray 56)).cell? ⟨wr.heap.size, 7, none⟩ = some (.int .i64 u.amt) := (hZ.cell 7).trans v7
          have z6 : (wr.alloc (.cells vs.toArray 56)).cell? ⟨wr.heap.size, 6, none⟩ = some (.int .i64 u.stat) := (hZ.cell 6).trans v6
          obtain ⟨q0, hq0⟩ : ∃ q, Hid (q = statv u.ore) := ⟨_, hid rfl⟩
          have c0 := hid (fun V => r9stat_b u.ore q0 V hq0)
          obtain ⟨q1, hq1⟩ : ∃ q, Hid (q = statv u.wood) := ⟨_, hid rfl⟩
          have c1 := hid (fun V => r9stat_b u.wood q1 V hq1)
          obtain ⟨q2, hq2⟩ : ∃ q, Hid (q = statv u.time) := ⟨_, hid rfl⟩
          have c2 := hid (fun V => r9stat_b u.time q2 V hq2)
          obtain ⟨q3, hq3⟩ : ∃ q, Hid (q = statv u.amt) := ⟨_, hid rfl⟩
          have c3 := hid (fun V => r9stat_b u.amt q3 V hq3)
          obtain ⟨q4, hq4⟩ : ∃ q, Hid (q = rngv u.stat 1 6) := ⟨_, hid rfl⟩
          have c4 := hid (fun V => r9within_b u.stat 1 6 q4 V hq4)
          have hB2 := hB.alloc (.cells vs.toArray 56)
          have hL2 := hL.alloc hL.size (.cells vs.toArray 56)
          have HS : ∀ z, z = (bm && (q0 && q1 && q2 && q3 && q4)) → Hid (z = (bn && (r.ts.take (i + 1)).all techv)) := fun z hz => hid (by rw [hz, ← HN.out, hq0.out, hq1.out, hq2.out, hq3.out, hq4.out]; rfl)
          have HS' := hid HS
          clear hu hat2 hc hU hA hcs HN HS hZ hq0 hq1 hq2 hq3 hq4 v2 v3 v4 v7 v6
          cases bm with
          | false =>
           have HQ := HS'.out false rfl
           clear HS'
           go_wp2_with (first | (with_reducible refine wpList_load_agg rfl 56 _ rfl ⟨g, o + i * 8, none⟩ (by with_unfolding_all rfl) Tryz.isAgg56 Tryz.sizeOf56 vs kl.out ?_) | (with_reducible refine wpList_alloc_agg rfl 56 rfl _ rfl tZero zeroT ?_) | (with_reducible refine wpList_store_new rfl 56 _ _ rfl rfl Tryz.sizeOf56 vs tZero 56 (by with_unfolding_all rfl) (by with_unfolding_all rfl) hU'.out.len rfl hU'.out.lone ?_))
           go_roundw
           case rel => exact ⟨i + 1, false, by go_num, rfl, by omega, hB2, hL2, HQ⟩
           case measure => simp [RowKit.intOf]; omega
          | true =>
          go_wp2_with (first | (with_reducible refine wpList_load_agg rfl 56 _ rfl ⟨g, o + i * 8, none⟩ (by with_unfolding_all rfl) Tryz.isAgg56 Tryz.sizeOf56 vs kl.out ?_) | (with_reducible refine wpList_alloc_agg rfl 56 rfl _ rfl tZero zeroT ?_) | (with_reducible refine wpList_store_new rfl 56 _ _ rfl rfl Tryz.sizeOf56 vs tZero 56 (by with_unfolding_all rfl) (by with_unfolding_all rfl) hU'.out.len rfl hU'.out.lone ?_))
          ((with_reducible refine (c0.out _).mono ?_); rintro e w1 ⟨rfl, rfl⟩)
          cases q0 with
          | false =>
           have HQ := HS'.out false (by simp)
           clear HS'
           go_wp2_with fail
           go_roundw
           case rel => exact ⟨i + 1, false, by go_num, rfl, by omega, hB2, hL2, HQ⟩
           case measure => simp [RowKit.intOf]; omega
          | true =>
          go_wp2_with fail
          ((with_reducible refine (c1.out _).mono ?_); rintro e w1 ⟨rfl, rfl⟩)
          cases q1 with
          | false =>
           have HQ := HS'.out false (by simp)
           clear HS'
           go_wp2_with fail
           go_roundw
           case rel => exact ⟨i + 1, false, by go_num, rfl, by omega, hB2, hL2, HQ⟩
           case measure => simp [RowKit.intOf]; omega
          | true =>
          go_wp2_with fail
          ((with_reducible refine (c2.out _).mono ?_); rintro e w1 ⟨rfl, rfl⟩)
          cases q2 with
          | false =>
           have HQ := HS'.out false (by simp)
           clear HS'
           go_wp2_with fail
           go_roundw
           case rel => exact ⟨i + 1, false, by go_num, rfl, by omega, hB2, hL2, HQ⟩
           case measure => simp [RowKit.intOf]; omega
          | true =>
          go_wp2_with fail
          ((with_reducible refine (c3.out _).mono ?_); rintro e w1 ⟨rfl, rfl⟩)
          cases q3 with
          | false =>
           have HQ := HS'.out false (by simp)
           clear HS'
           go_wp2_with fail
           go_roundw
           case rel => exact ⟨i + 1, false, by go_num, rfl, by omega, hB2, hL2, HQ⟩
           case measure => simp [RowKit.intOf]; omega
          | true =>
          go_wp2_with fail
          ((with_reducible refine (c4.out _).mono ?_); rintro e w1 ⟨rfl, rfl⟩)
          have HQ := HS'.out q4 (by simp)
          clear HS'
          go_wp2_with fail
          go_roundw
          case rel => exact ⟨i + 1, q4, by go_num, rfl, by omega, hB2, hL2, HQ⟩
          case measure => simp [RowKit.intOf]; omega
        · obtain rfl : i = r.ts.length := by omega
          have ha := hA.out
          rw [List.take_length] at ha
          have d1 : ¬ (r.ts.length : Int) < r.ts.length := by omega
          have hb := e.out.trans ha.symm
          subst hb
          clear e ha hA hat2
          go_wp2_with fail
          go_ret
          exact ⟨rfl, hL⟩
end
section
open Go.RowKit Go.Lib
theorem own_empty (w : World) (t : TypeId) : (w.alloc (.cells #[] t)).ownsRow w.heap.size t 1 (.slice (some ⟨w.heap.size, 0, none⟩) 0 0) 0 (strs []) := by
 refine ⟨rfl, .inr ⟨_, 0, #[], rfl, Nat.le_refl _, ?_, Nat.le_refl _, by unfold maxLen; omega, rfl, rfl⟩⟩
 have := Blk.new w [] t
 exact this
theorem own_far {w : World} {B k n g : Nat} {e : TypeId} {v : Value} {xs : List Value} {c : Nat} (h : w.ownsRow B e k v n xs) (m : Nat) (hg : w.heap.size ≤ g) : v.ownBlock = none ∨ v.ownBlock ≠ (Value.slice (some ⟨g, 0, none⟩) m c).ownBlock := by
 cases ho : v.ownBlock with
 | none => exact .inl rfl
 | some j =>
  right
  intro e4
  have := (h.lt j ho).2
  have e5 : j = g := by simpa [Value.ownBlock] using e4
  omega
set_option maxHeartbeats 8000000 in
set_option maxRecDepth 100000 in
theorem r9found_b (su sw st : Value) (r : R9) (b : Bool) (W : World) (hR : RAt W su sw st r) (hu : r.us.length ≤ 1000) (hw : r.ws.length ≤ 1000) (ht : r.ts.length ≤ 1000) (e : Hid (b = foundv r)) :
 Calls Tryz.prog 47 #[.agg #[su, sw, st]] W fun e w' => e = .returned (.bool b) ∧ Below W.heap.size W w' := by
 replace e := hid (e.out.trans (foundv_eq r))
 obtain ⟨p, c, rfl, hm, hat⟩ := hR.u
 obtain ⟨p1, c1, rfl, hm1, hat1⟩ := hR.w
 obtain ⟨p2, c2, rfl, hm2, hat2⟩ := hR.t
 have hB := Blk.new W [.slice p r.us.length c, .slice p1 r.ws.length c1, .slice p2 r.ts.length c2] 31
 have hL := (Below.refl W.heap.size W).alloc (Nat.le_refl _) (.cells [.slice p r.us.length c, .slice p1 r.ws.length c1, .slice p2 r.ts.length c2].toArray 31)
 unfold maxLen at hm hm1 hm2
 have hR1 := hR.below hL
 clear hR
 go_enter Tryz.func47, Tryz.ntmps47
 go_wp2_with fail
 generalize W.alloc (.cells [.slice p r.us.length c, .slice p1 r.ws.length c1, .slice p2 r.ts.length c2].toArray 31) = V at *
 have hq := (Below.refl V.heap.size V).drew
 go_cut [3, 4, 5] from 6 (fun s3 s4 s5 wx => wx.ownsRow V.heap.size 9 1 s3 r.us.length (strs (namesU r)) ∧ wx.ownsRow V.heap.size 9 1 s4 r.ws.length (strs (namesW r)) ∧ wx.ownsRow V.heap.size 9 1 s5 r.ts.length (strs (namesT r)) ∧ Below V.heap.size V wx)
 case first =>
  go_region_held3 (fun w' => w'.cell? ⟨W.heap.size, 0, none⟩ = some (.slice p r.us.length c) ∧ w'.cell? ⟨W.heap.size, 1, none⟩ = some (.slice p1 r.ws.length c1) ∧ w'.cell? ⟨W.heap.size, 2, none⟩ = some (.slice p2 r.ts.length c2))
   (first | exact ⟨(hB.below (by assumption)).cell 0, (hB.below (by assumption)).cell 1, (hB.below (by assumption)).cell 2⟩)
   (first
    | (go_at_call 80; with_reducible refine (r9units_b _ _ _ r _ (hR1.below hq) hu).mono ?_; rintro e w1 ⟨v6, rfl, h6, hb⟩
       try replace h8 := own_below h8 hb
       try replace h11 := own_below h11 hb
       replace h6 := own_base h6 (show V.heap.size ≤ _ by have := hq.size; omega)
       replace hq := below_call hq hb
       clear hb)
    | (go_at_call 81; with_reducible refine (r9weapons_b _ _ _ r _ (hR1.below hq) hw).mono ?_; rintro e w1 ⟨v8, rfl, h8, hb⟩
       try replace h6 := own_below h6 hb
       try replace h11 := own_below h11 hb
       replace h8 := own_base h8 (show V.heap.size ≤ _ by have := hq.size; omega)
       replace hq := below_call hq hb
       clear hb)
    | (go_at_call 44; with_reducible refine (r9techs_b _ _ _ r _ (hR1.below hq) ht).mono ?_; rintro e w1 ⟨v11, rfl, h11, hb⟩
       try replace h6 := own_below h6 hb
       try replace h8 := own_below h8 hb
       replace h11 := own_base h11 (show V.heap.size ≤ _ by have := hq.size; omega)
       replace hq := below_call hq hb
       clear hb)
)
  all_goals
   go_wp2_with fail
   go_meet
   case rel => exact ⟨h6, h8, h11, hq⟩
 case rest =>
 clear hq
 obtain ⟨h3, h4, h5, hq⟩ := hcut
 have x3 := own_strs h3 (by omega)
 have x4 := own_strs h4 (by omega)
 have x5 := own_strs h5 (by omega)
 replace hB := hB.below hq
 replace hL := below_call hL hq
 clear hq hR1 h4
 have hq0 := Below.refl wc.heap.size wc
 go_wp2_with (first
  | (at_builtin
     obtain ⟨v9, w9, hrun, h9, hg⟩ := app_strs 23 (own_empty wc 9) (own_below h3 ((Below.refl _ wc).alloc (Nat.le_refl _) (.cells #[] 9))) (by omega) (by simp)
     refine wpList_append_run rfl (.tmp 16) (.tmp 17) 23 rfl _ _ v9 w9 rfl rfl hrun ?_
     replace h5 := (own_below h5 ((Below.refl _ wc).alloc (Nat.le_refl _) (.cells #[] 9))).kept hg (by first | assumption | exact own_far h5 _ (Nat.le_refl _))
     replace hq0 := (hq0.alloc (Nat.le_refl _) (.cells #[] 9)).grown hg (by simp) (fun k hk => ((own_empty wc 9).lt k hk).1)
     clear hrun hg h3)
  | (at_builtin
     obtain ⟨v12, w12, hrun, h12, hg⟩ := app_strs 23 h9 h5 (by omega) hq0.size
     refine wpList_append_run rfl (.tmp 18) (.tmp 19) 23 rfl _ _ v12 w12 rfl rfl hrun ?_
     replace hq0 := hq0.grown hg hq0.size (fun k hk => (h9.lt k hk).1)
     clear hrun hg h9 h5))
 have x6 : StrSl w12 v12 (namesU r ++ namesT r) := own_strs h12 (by omega)
 replace x3 := x3.below hq0
 replace x4 := x4.below hq0
 replace x5 := x5.below hq0
 replace hB := hB.below hq0
 replace hL := below_call hL hq0
 clear h12 hq0 hu hw ht
 generalize w12 = X at *
 go_loopw [7] (fun vi wr => ∃ i : Nat, vi = .int .i64 i ∧ i ≤ r.us.length ∧ Blk wr W.heap.size [.slice p r.us.length c, .slice p1 r.ws.length c1, .slice p2 r.ts.length c2] 31 ∧ Below W.heap.size W wr ∧ Below X.heap.size X wr ∧ Hid ((r.us.take i).all (fnd1 r) = true)) (fun vi _ => r.us.length - (RowKit.intOf vi).toNat)
 case atStart => exact ⟨0, rfl, by omega, hB, hL, Below.refl _ _, hid rfl⟩
 case round =>
  clear hB hL
  obtain ⟨i, rfl, hi, hB, hL, hX, hA⟩ := hrel
  obtain ⟨_, _, _, _, _, _⟩ := hB.three
  by_cases hlt : i < r.us.length
  · have d1 : (i : Int) < r.us.length := by omega
    have d0 : (0 : Int) ≤ i := by omega
    obtain ⟨g, o, rfl, hc⟩ := hat (by omega)
    obtain ⟨vs, hU, hcs⟩ := (hc i hlt).ul
    have kl := hid ((hcs.below' (hcs.lt' hU.name) hL).loads (P := Tryz.prog) hU.len)
    obtain ⟨pn, cn, pt, ct, pr, cr, hvs, s1, s2, s3⟩ := hU.lists
    have l1 := s1.small
    have l2 := s2.small
    have l3 := s3.small
    have HN := fun q => hid (allp_take (f := fnd1 r) hlt hA.out q)
    have HY := fun q => hid (allp_no (f := fnd1 r) hlt q)
    have hU' := hid hU
    obtain ⟨u, hu⟩ : ∃ u, r.us[i]'hlt = u := ⟨_, rfl⟩
    rw [hu] at HN HY hU' hvs s1 s2 s3 l1 l2 l3
    have hZ := Blk.new wr vs 53
    have v12_ : vs[12]? = some (.string u.wpn) := by rw [hvs]; rfl
    have v16 : vs[16]? = some (.slice pn u.needs.length cn) := by rw [hvs]; rfl
    have v17 : vs[17]? = some (.slice pt u.trains.length ct) := by rw [hvs]; rfl
    have v18 : vs[18]? = some (.slice pr u.ress.length cr) := by rw [hvs]; rfl
    have hB2 := hB.alloc (.cells vs.toArray 53)
    have hL2 := hL.alloc hL.size (.cells vs.toArray 53)
    have z12 : (wr.alloc (.cells vs.toArray 53)).cell? ⟨wr.heap.size, 12, none⟩ = some (.string u.wpn) := (hZ.cell 12).trans v12_
    have z16 : (wr.alloc (.cells vs.toArray 53)).cell? ⟨wr.heap.size, 16, none⟩ = some (.slice pn u.needs.length cn) := (hZ.cell 16).trans v16
    have z17 : (wr.alloc (.cells vs.toArray 53)).cell? ⟨wr.heap.size, 17, none⟩ = some (.slice pt u.trains.length ct) := (hZ.cell 17).trans v17
    have z18 : (wr.alloc (.cells vs.toArray 53)).cell? ⟨wr.heap.size, 18, none⟩ = some (.slice pr u.ress.length cr) := (hZ.cell 18).trans v18
    have hX2 := hX.alloc hX.size (.cells vs.toArray 53)
    obtain ⟨q1, hq1⟩ : ∃ q, Hid (q = hasv (namesW r) u.wpn) := ⟨_, hid rfl⟩
    obtain ⟨q2, hq2⟩ : ∃ q, Hid (q = u.needs.all (hasv (namesU r ++ namesT r))) := ⟨_, hid rfl⟩
    obtain ⟨q3, hq3⟩ : ∃ q, Hid (q = u.trains.all (hasv (namesU r))) := ⟨_, hid rfl⟩
    obtain ⟨q4, hq4⟩ : ∃ q, Hid (q = u.ress.all (hasv (namesT r))) := ⟨_, hid rfl⟩
    have hF : fnd1 r u = ((decide (u.wpn = ⟨#[]⟩) || q1) && q2 && q3 && q4) := by rw [hq1.out, hq2.out, hq3.out, hq4.out]; rfl
    have c1 := hid (r9has_b (namesW r) u4 u.wpn q1 _ (x4.below hX2) hq1)
    have c2 := hid (r9all_b u.needs (namesU r ++ namesT r) _ _ q2 _ (s1.below hL2) (x6.below hX2) hq2)
    have c3 := hid (r9all_b u.trains (namesU r) _ _ q3 _ (s2.below hL2) (x3.below hX2) hq3)
    have c4 := hid (r9all_b u.ress (namesT r) _ _ q4 _ (s3.below hL2) (x5.below hX2) hq4)
    have hF' := hid hF
    clear hu hat hc hU hA hcs hvs l1 l2 l3 s1 s2 s3 hZ v12_ v16 v17 v18 hF hq1 hq2 hq3 hq4
    obtain ⟨x, hx⟩ : ∃ x, u.wpn = x := ⟨_, rfl⟩
    rw [hx] at z12 c1 hF'
    clear hx
    by_cases hx : x = ⟨#[]⟩
    · subst hx
      go_wp2_with (first | (with_reducible refine wpList_load_agg rfl 53 _ rfl ⟨g, o + i * 19, none⟩ (by with_unfolding_all rfl) Tryz.isAgg53 Tryz.sizeOf53 vs kl.out ?_) | (with_reducible refine wpList_alloc_agg rfl 53 rfl _ rfl uZero zeroU ?_) | (with_reducible refine wpList_store_new rfl 53 _ _ rfl rfl Tryz.sizeOf53 vs uZero 53 (by with_unfolding_all rfl) (by with_unfolding_all rfl) hU'.out.len rfl hU'.out.lone ?_))
      ((with_reducible refine c2.out.mono ?_); rintro e w1 ⟨rfl, rfl⟩)
      cases q2 with
      | false =>
       have hb : b = false := by rw [e.out, (HY (by rw [hF'.out]; simp [])).out]; rfl
       subst hb
       clear e HN HY hF'
       go_wp2_with fail
       go_ret
       exact ⟨rfl, hL2⟩
      | true =>
      go_wp2_with fail
      ((with_reducible refine c3.out.mono ?_); rintro e w1 ⟨rfl, rfl⟩)
      cases q3 with
      | false =>
       have hb : b = false := by rw [e.out, (HY (by rw [hF'.out]; simp [])).out]; rfl
       subst hb
       clear e HN HY hF'
       go_wp2_with fail
       go_ret
       exact ⟨rfl, hL2⟩
      | true =>
      go_wp2_with fail
      ((with_reducible refine c4.out.mono ?_); rintro e w1 ⟨rfl, rfl⟩)
      cases q4 with
      | false =>
       have hb : b = false := by rw [e.out, (HY (by rw [hF'.out]; simp [])).out]; rfl
       subst hb
       clear e HN HY hF'
       go_wp2_with fail
       go_ret
       exact ⟨rfl, hL2⟩
      | true =>
      have HS := HN (by rw [hF'.out]; simp [])
      clear HN HY hF'
      go_wp2_with fail
      go_roundw
      case rel => exact ⟨i + 1, by go_num, by omega, hB2, hL2, hX2, HS⟩
      case measure => simp [RowKit.intOf]; omega
    · have hne := ne_empty hx
      have hd : decide (x = ⟨#[]⟩) = false := decide_eq_false hx
      rw [hd] at hF'
      clear hx hd
      obtain ⟨e1, e2, e3⟩ := hne
      go_wp2_with (first | (with_reducible refine wpList_load_agg rfl 53 _ rfl ⟨g, o + i * 19, none⟩ (by with_unfolding_all rfl) Tryz.isAgg53 Tryz.sizeOf53 vs kl.out ?_) | (with_reducible refine wpList_alloc_agg rfl 53 rfl _ rfl uZero zeroU ?_) | (with_reducible refine wpList_store_new rfl 53 _ _ rfl rfl Tryz.sizeOf53 vs uZero 53 (by with_unfolding_all rfl) (by with_unfolding_all rfl) hU'.out.len rfl hU'.out.lone ?_))
      ((with_reducible refine c1.out.mono ?_); rintro e w1 ⟨rfl, rfl⟩)
      cases q1 with
      | false =>
       have hb : b = false := by rw [e.out, (HY (by rw [hF'.out]; simp [])).out]; rfl
       subst hb
       clear e HN HY hF'
       go_wp2_with fail
       go_ret
       exact ⟨rfl, hL2⟩
      | true =>
      go_wp2_with fail
      ((with_reducible refine c2.out.mono ?_); rintro e w1 ⟨rfl, rfl⟩)
      cases q2 with
      | false =>
       have hb : b = false := by rw [e.out, (HY (by rw [hF'.out]; simp [])).out]; rfl
       subst hb
       clear e HN HY hF'
       go_wp2_with fail
       go_ret
       exact ⟨rfl, hL2⟩
      | true =>
      go_wp2_with fail
      ((with_reducible refine c3.out.mono ?_); rintro e w1 ⟨rfl, rfl⟩)
      cases q3 with
      | false =>
       have hb : b = false := by rw [e.out, (HY (by rw [hF'.out]; simp [])).out]; rfl
       subst hb
       clear e HN HY hF'
       go_wp2_with fail
       go_ret
       exact ⟨rfl, hL2⟩
      | true =>
      go_wp2_with fail
      ((with_reducible refine c4.out.mono ?_); rintro e w1 ⟨rfl, rfl⟩)
      cases q4 with
      | false =>
       have hb : b = false := by rw [e.out, (HY (by rw [hF'.out]; simp [])).out]; rfl
       subst hb
       clear e HN HY hF'
       go_wp2_with fail
       go_ret
       exact ⟨rfl, hL2⟩
      | true =>
      have HS := HN (by rw [hF'.out]; simp [])
      clear HN HY hF'
      go_wp2_with fail
      go_roundw
      case rel => exact ⟨i + 1, by go_num, by omega, hB2, hL2, hX2, HS⟩
      case measure => simp [RowKit.intOf]; omega
  · obtain rfl : i = r.us.length := by omega
    have ha := hA.out
    rw [List.take_length] at ha
    have d1 : ¬ (r.us.length : Int) < r.us.length := by omega
    replace e := hid (show b = r.ts.all (fnd2 r) by rw [e.out, ha]; rfl)
    clear hat ha hA
    go_wp2_with fail
    clear d1
    go_loop [9] (fun vi => ∃ i : Nat, vi = .int .i64 i ∧ i ≤ r.ts.length ∧ Hid ((r.ts.take i).all (fnd2 r) = true)) (fun vi => r.ts.length - (RowKit.intOf vi).toNat)
    case atStart => exact ⟨0, rfl, by omega, hid rfl⟩
    case round =>
     obtain ⟨i, rfl, hi, hA⟩ := hrel
     obtain ⟨_, _, _, _, _, _⟩ := hB.three
     by_cases hlt : i < r.ts.length
     · have d1 : (i : Int) < r.ts.length := by omega
       have d0 : (0 : Int) ≤ i := by omega
       obtain ⟨g, o, rfl, hc⟩ := hat2 (by omega)
       obtain ⟨vs, hU, hcs⟩ := (hc i hlt).tl
       obtain ⟨pn, cn, hvs, s1⟩ := hU.lists
       have hcV := hcs.below' (hcs.lt' hU.name) hL
       have k1 : wr.cell? ⟨g, o + i * 8 + 1, none⟩ = some (.slice pn (r.ts[i]'hlt).needs.length cn) := hcV 1 _ (by rw [hvs]; rfl)
       have k5 := hcV 5 _ hU.cells.2.2.2.1
       have HN := fun q => hid (allp_take (f := fnd2 r) hlt hA.out q)
       have HY := fun q => hid (allp_no (f := fnd2 r) hlt q)
       obtain ⟨u, hu⟩ : ∃ u, r.ts[i]'hlt = u := ⟨_, rfl⟩
       rw [hu] at HN HY k1 k5 s1
       obtain ⟨q1, hq1⟩ : ∃ q, Hid (q = u.needs.all (hasv (namesU r ++ namesT r))) := ⟨_, hid rfl⟩
       obtain ⟨q2, hq2⟩ : ∃ q, Hid (q = hasv (namesU r) u.un) := ⟨_, hid rfl⟩
       have c1 := hid (r9all_b u.needs (namesU r ++ namesT r) _ _ q1 _ (s1.below hL) (x6.below hX) hq1)
       have c2 := hid (r9has_b (namesU r) _ u.un q2 _ (x3.below hX) hq2)
       have hF' := hid (show fnd2 r u = (q1 && q2) by rw [hq1.out, hq2.out]; rfl)
       clear hu hat2 hc hU hA hcs hvs hcV s1 hq1 hq2
       go_wp2_with fail
       ((with_reducible refine c1.out.mono ?_); rintro e w1 ⟨rfl, rfl⟩)
       cases q1 with
       | false =>
        have hb : b = false := by rw [e.out, (HY (by rw [hF'.out]; rfl)).out]
        subst hb
        clear e HN HY hF'
        go_wp2_with fail
        go_ret
        exact ⟨rfl, hL⟩
       | true =>
       go_wp2_with fail
       ((with_reducible refine c2.out.mono ?_); rintro e w1 ⟨rfl, rfl⟩)
       cases q2 with
       | false =>
        have hb : b = false := by rw [e.out, (HY (by rw [hF'.out]; rfl)).out]
        subst hb
        clear e HN HY hF'
        go_wp2_with fail
        go_ret
        exact ⟨rfl, hL⟩
       | true =>
        have HS := HN (by rw [hF'.out]; rfl)
        clear HN HY hF'
        go_wp2_with fail
        go_round
        case rel => exact ⟨i + 1, by go_num, by omega, HS⟩
        case measure => simp [RowKit.intOf]; omega
     · obtain rfl : i = r.ts.length := by omega
       have ha := hA.out
       rw [List.take_length] at ha
       have d1 : ¬ (r.ts.length : Int) < r.ts.length := by omega
       have hb := e.out.trans ha
       subst hb
       clear e ha hA hat2
       go_wp2_with fail
       go_ret
       exact ⟨rfl, hL⟩
end
section
open Go.RowKit Go.Lib
theorem r9unit_c (su sw st : Value) (r : R9) (s : ByteArray) (ok : Bool) (u : U9) (V0 W : World) (hR : RAt V0 su sw st r) (h0 : Below V0.heap.size V0 W) (hok : Hid (ok = (unitv r s).isSome)) (hu : Hid (u = (unitv r s).getD U9.zero)) :
 Calls Tryz.prog 88 #[.agg #[su, sw, st], .string s] W fun e w' => ∃ vs, e = .returned (.tuple #[.agg vs.toArray, .bool ok]) ∧ UL V0 vs u ∧ Below W.heap.size W w' :=
 (r9unit_b su sw st r s V0 W hR h0).mono fun e w' ⟨vs, he, hU, hb⟩ => ⟨vs, by rw [he, hok.out], by rw [hu.out]; exact hU, hb⟩
theorem need1_of {r : R9} {s : ByteArray} {ok : Bool} {u : U9} (hok : ok = (unitv r s).isSome) (hu : u = (unitv r s).getD U9.zero) : need1 r s = (!ok || u.bld) := by
 unfold need1
 cases h : unitv r s with
 | none => rw [hok, h]; rfl
 | some x => rw [hok, hu, h]; rfl
set_option maxHeartbeats 8000000 in
set_option maxRecDepth 100000 in
theorem r9needed_b (su sw st v : Value) (r : R9) (l : List ByteArray) (b : Bool) (V0 W : World) (hR : RAt V0 su sw st r) (h0 : Below V0.heap.size V0 W) (hl : StrSl V0 v l) (e : Hid (b = neededv r l)) :
 Calls Tryz.prog 87 #[.agg #[su, sw, st], v] W fun e w' => e = .returned (.bool b) ∧ Below W.heap.size W w' := by
 obtain ⟨q, cq, rfl, hm, hat⟩ := hl
 have hB := Blk.new W [su, sw, st] 31
 have hL := (Below.refl W.heap.size W).alloc (Nat.le_refl _) (.cells [su, sw, st].toArray 31)
 unfold maxLen at hm
 replace e := hid (show b = l.all (need1 r) from e.out)
 go_enter Tryz.func87, Tryz.ntmps87
 go_wp2_with fail
 generalize W.alloc (.cells [su, sw, st].toArray 31) = V at *
 go_loopw [5] (fun vi wr => ∃ i : Nat, vi = .int .i64 i ∧ i ≤ l.length ∧ Blk wr W.heap.size [su, sw, st] 31 ∧ Below W.heap.size W wr ∧ Hid ((l.take i).all (need1 r) = true)) (fun vi _ => l.length - (RowKit.intOf vi).toNat)
 case atStart => exact ⟨0, rfl, by omega, hB, hL, hid rfl⟩
 case round =>
  clear hB hL
  obtain ⟨i, rfl, hi, hB, hL, hA⟩ := hrel
  obtain ⟨_, _, _, _, _, _⟩ := hB.three
  by_cases hlt : i < l.length
  · have d1 : (i : Int) < l.length := by omega
    have d0 : (0 : Int) ≤ i := by omega
    obtain ⟨g, o, rfl, hc⟩ := hat (by omega)
    have hV := h0.trans (hL.mono h0.size)
    have k1 := (hV.cell (p := ⟨g, o + i, none⟩) (World.block_lt_of_cell? V0 _ (hc i hlt))).trans (hc i hlt)
    have hk := World.block_lt_of_cell? wr _ k1
    have HN := fun q => hid (allp_take (f := need1 r) hlt hA.out q)
    have HY := fun q => hid (allp_no (f := need1 r) hlt q)
    obtain ⟨x, hx⟩ : ∃ x, l[i]'hlt = x := ⟨_, rfl⟩
    rw [hx] at k1 HN HY
    obtain ⟨ok, hok⟩ : ∃ q, Hid (q = (unitv r x).isSome) := ⟨_, hid rfl⟩
    obtain ⟨u, hu⟩ : ∃ q, Hid (q = (unitv r x).getD U9.zero) := ⟨_, hid rfl⟩
    have hF := hid (need1_of hok.out hu.out)
    clear hx hat hc hA
    go_upto_region 4 with fail
    go_cut [6, 7] from 8 to 28 (fun s6 s7 wx => ∃ bx : Nat, s6 = .pointer (some ⟨bx, 0, none⟩) ∧ s7 = .bool ok ∧ wx.cell? ⟨bx, 1, none⟩ = some (.bool u.bld) ∧ Below wr.heap.size wr wx)
    case first =>
     have hmx : Tryz.prog.follows .mixedOrders = true := by kernel_rfl
     refine wp_region_held (S := fun w' => Below wr.heap.size wr w') hmx ?_
     show wpAnyH _ _ _ _ _ _ _ _ wr.drew
     have hS0 := (Below.refl wr.heap.size wr).drew
     refine reg_tk (i := 0) (v := .agg #[su, sw, st]) _ rfl (fun w' hS => by (obtain ⟨_, _, _, _, _, _⟩ := (hB.below hS).three; have := (hS.cell (p := ⟨g, o + i, none⟩) hk).trans k1); go_simp) hS0 ?_
     simp only [Act.put, List.setIfInBounds_toArray]
     refine reg_tk (i := 1) (v := .slice (some ⟨g, o, none⟩) l.length cq) _ rfl (fun w' hS => by (obtain ⟨_, _, _, _, _, _⟩ := (hB.below hS).three; have := (hS.cell (p := ⟨g, o + i, none⟩) hk).trans k1); go_simp) hS0 ?_
     simp only [Act.put]
     refine reg_tk (i := 2) (v := .int .i64 i) _ rfl (fun w' hS => by (obtain ⟨_, _, _, _, _, _⟩ := (hB.below hS).three; have := (hS.cell (p := ⟨g, o + i, none⟩) hk).trans k1); go_simp) hS0 ?_
     simp only [Act.put]
     refine reg_tk (i := 3) (v := .pointer (some ⟨g, o + i, none⟩)) _ rfl (fun w' hS => by (obtain ⟨_, _, _, _, _, _⟩ := (hB.below hS).three; have := (hS.cell (p := ⟨g, o + i, none⟩) hk).trans k1); go_simp) hS0 ?_
     simp only [Act.put]
     refine reg_tk (i := 4) (v := .string x) _ rfl (fun w' hS => by (obtain ⟨_, _, _, _, _, _⟩ := (hB.below hS).three; have := (hS.cell (p := ⟨g, o + i, none⟩) hk).trans k1); go_simp) hS0 ?_
     simp only [Act.put]
     refine held_two (i := 5) (k := 9) (by kernel_rfl) rfl rfl (fun K hQ => ?_) (fun K hQ => ?_)
     · go_simp
       (with_reducible refine (r9unit_c su sw st r x ok u V0 _ hR (hV.trans (hS0.mono hV.size)) hok hu).mono ?_)
       rintro e w1 ⟨vs, rfl, hUL, hb⟩
       have hS1 := below_call hS0 hb
       refine hQ.out _ _ hS1 ?_
       clear hQ
       try simp only [Act.put, List.setIfInBounds_toArray, List.set_cons_zero, List.set_cons_succ]
       refine reg_tk (i := 6) (v := .tuple #[.agg vs.toArray, .bool ok]) _ rfl (fun w' hS => by skip; go_simp) hS1 ?_
       simp only [Act.put, List.setIfInBounds_toArray]
       refine reg_tk (i := 7) (v := .agg vs.toArray) _ rfl (fun w' hS => by skip; go_simp) hS1 ?_
       simp only [Act.put]
       refine reg_tk (i := 8) (v := .bool ok) _ rfl (fun w' hS => by skip; go_simp) hS1 ?_
       simp only [Act.put]
       refine held_one (i := 9) (by kernel_rfl) rfl (fun K hQ => ?_)
       refine step_alloc_agg rfl 53 rfl uZero zeroU ?_
       have hS2 := hS1.alloc hS1.size (.cells uZero.toArray 53)
       refine hQ.out _ _ hS2 ?_
       clear hQ
       try simp only [Act.put]
       have hbox := Blk.new w1 uZero 53
       refine held_one (i := 10) (by kernel_rfl) rfl (fun K hQ => ?_)
       refine step_store_agg rfl 53 (.tmp 6) (.tmp 21) rfl rfl w1.heap.size rfl Tryz.sizeOf53 vs rfl hUL.len hbox rfl hUL.lone ?_
       have hw3 := below_setRow hS2 hS1.size vs.toArray
       refine hQ.out _ _ hw3 ?_
       clear hQ
       skip
       replace hbox := hbox.put vs
       refine reg_tk (i := 11) (v := .bool ok) _ rfl (fun w' hS => by skip; go_simp) hw3 ?_
       simp only [Act.put]
       refine wpAnyH_done (by kernel_rfl) ?_ _
       show Exit.then _ _ Exit.normal _ _
       go_wp2_with fail
       go_meet
       case rel => exact ⟨_, rfl, rfl, (hbox.cell 1).trans hUL.bld, hw3⟩
     · refine step_alloc_agg rfl 53 rfl uZero zeroU ?_
       have hS1 := hS0.alloc hS0.size (.cells uZero.toArray 53)
       have hbox := Blk.new wr.drew uZero 53
       refine hQ.out _ _ hS1 ?_
       clear hQ
       generalize wr.drew.alloc (.cells uZero.toArray 53) = wB at *
       try simp only [Act.put]
       refine held_one (i := 5) (by kernel_rfl) rfl (fun K hQ => ?_)
       go_simp
       (with_reducible refine (r9unit_c su sw st r x ok u V0 _ hR (hV.trans (hS1.mono hV.size)) hok hu).mono ?_)
       rintro e w1 ⟨vs, rfl, hUL, hb⟩
       replace hbox := hbox.below hb
       have hS2 := below_call hS1 hb
       refine hQ.out _ _ hS2 ?_
       clear hQ
       try simp only [Act.put, List.setIfInBounds_toArray, List.set_cons_zero, List.set_cons_succ]
       refine reg_tk (i := 6) (v := .tuple #[.agg vs.toArray, .bool ok]) _ rfl (fun w' hS => by skip; go_simp) hS2 ?_
       simp only [Act.put, List.setIfInBounds_toArray]
       refine reg_tk (i := 7) (v := .agg vs.toArray) _ rfl (fun w' hS => by skip; go_simp) hS2 ?_
       simp only [Act.put]
       refine reg_tk (i := 8) (v := .bool ok) _ rfl (fun w' hS => by skip; go_simp) hS2 ?_
       simp only [Act.put]
       refine held_one (i := 10) (by kernel_rfl) rfl (fun K hQ => ?_)
       refine step_store_agg rfl 53 (.tmp 6) (.tmp 21) rfl rfl wr.heap.size rfl Tryz.sizeOf53 vs rfl hUL.len hbox rfl hUL.lone ?_
       have hw3 := below_setRow hS2 (Nat.le_refl _) vs.toArray
       refine hQ.out _ _ hw3 ?_
       clear hQ
       replace hbox := hbox.put vs
       refine reg_tk (i := 11) (v := .bool ok) _ rfl (fun w' hS => by skip; go_simp) hw3 ?_
       simp only [Act.put]
       refine wpAnyH_done (by kernel_rfl) ?_ _
       show Exit.then _ _ Exit.normal _ _
       go_wp2_with fail
       go_meet
       case rel => exact ⟨_, rfl, rfl, (hbox.cell 1).trans hUL.bld, hw3⟩
    case rest =>
    obtain ⟨bx, rfl, rfl, hbx, hX⟩ := hcut
    obtain ⟨bl, hbl⟩ : ∃ q, u.bld = q := ⟨_, rfl⟩
    rw [hbl] at hbx hF
    replace hB := hB.below hX
    replace hL := below_call hL hX
    clear hbl hX k1 hk hV hok hu
    cases ok with
    | false =>
     have HS := HN (by rw [hF.out]; rfl)
     clear HN HY hF
     go_wp2_with fail
     go_roundw
     case rel => exact ⟨i + 1, by go_num, by omega, hB, hL, HS⟩
     case measure => simp [RowKit.intOf]; omega
    | true =>
    cases bl with
    | true =>
     have HS := HN (by rw [hF.out]; rfl)
     clear HN HY hF
     go_wp2_with fail
     go_roundw
     case rel => exact ⟨i + 1, by go_num, by omega, hB, hL, HS⟩
     case measure => simp [RowKit.intOf]; omega
    | false =>
     have hb := e.out.trans (HY (by rw [hF.out]; rfl)).out
     subst hb
     clear HN HY hF e
     go_wp2_with fail
     go_ret
     exact ⟨rfl, hL⟩
  · obtain rfl : i = l.length := by omega
    have ha := hA.out
    rw [List.take_length] at ha
    have d1 : ¬ (l.length : Int) < l.length := by omega
    have hb := e.out.trans ha
    subst hb
    clear e ha hA hat
    go_wp2_with fail
    go_ret
    exact ⟨rfl, hL⟩
end
end

end Go.Proofs.YtnjcdmjaecgblaaGreatDoor
