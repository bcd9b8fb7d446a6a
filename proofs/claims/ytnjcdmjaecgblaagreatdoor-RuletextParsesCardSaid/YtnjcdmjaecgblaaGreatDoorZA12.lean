/-
  What the functions of rules answer: items, names of the wrong kind.
-/
import Derived.Test.YtnjcdmjaecgblaaGreatDoorZA11
import Derived.Test.YtnjcdmjaecgblaaGreatDoorShelf
import Derived.Sort.Grow
import Derived.Deep.RegionLaw
import Derived.Laws.IdiomCopy
namespace Go.Proofs.YtnjcdmjaecgblaaGreatDoor
section
section
open Go.RowKit Go.Lib
def isU (r : R9) (s : ByteArray) : Bool := match unitv r s with
 | some u => !u.bld
 | none => false
def isB (r : R9) (s : ByteArray) : Bool := match unitv r s with
 | some u => u.bld
 | none => false
def wrg (r : R9) (b : Bool) (s : ByteArray) : Bool := if b then isB r s else isU r s
theorem isU_eq (r : R9) (s : ByteArray) : isU r s = ((unitv r s).isSome && !((unitv r s).getD U9.zero).bld) := by
 unfold isU
 cases unitv r s <;> rfl
theorem eg_isU : ∀ args w, (callFunc 149 args).run Tryz.prog w = .ok (.enter 149 args) w := enters_of Tryz.func149 (by kernel_rfl) rfl
set_option maxHeartbeats 8000000 in
set_option maxRecDepth 100000 in
theorem lisU_b (su sw st : Value) (r : R9) (s : ByteArray) (b : Nat) (V0 W : World) (hR : RAt V0 su sw st r) (h0 : Below V0.heap.size V0 W) (hB : Blk W b [su, sw, st] 31) (hsm : ∀ u ∈ r.us, u.needs.length ≤ 100000 ∧ u.trains.length ≤ 100000 ∧ u.ress.length ≤ 100000) :
 Calls Tryz.prog 149 #[.string s, .pointer (some ⟨b, 0, none⟩)] W fun e w' => e = .returned (.bool (isU r s)) ∧ Below W.heap.size W w' := by
 obtain ⟨ok, hok⟩ : ∃ q, Hid (q = (unitv r s).isSome) := ⟨_, hid rfl⟩
 obtain ⟨u, hu⟩ : ∃ q, Hid (q = (unitv r s).getD U9.zero) := ⟨_, hid rfl⟩
 obtain ⟨bl, hbl⟩ : ∃ q, u.bld = q := ⟨_, rfl⟩
 have hF : isU r s = (ok && !bl) := by rw [isU_eq, ← hok.out, ← hu.out, hbl]
 rw [hF]
 have hcon := lUnit_b su sw st r s V0 W hR h0 hsm
 obtain ⟨_, _, _, _, _, _⟩ := hB.three
 clear hF hR h0
 go_enter Tryz.func149, Tryz.ntmps149
 go_wp2_with fail
 ((with_reducible refine hcon.mono ?_); rintro e w1 ⟨vs, rfl, hUL, hb⟩)
 rw [← hok.out]
 rw [← hu.out] at hUL
 have hZ := Blk.new w1 vs 53
 have z1 := (hZ.cell 1).trans (hUL.bld.trans (by rw [hbl]))
 have hL2 := hb.alloc hb.size (.cells vs.toArray 53)
 have hU' := hid hUL
 clear hUL hZ hb hok hu hbl hcon
 go_upto_region 2 with (first | (with_reducible refine wpList_alloc_agg rfl 53 rfl _ rfl uZero zeroU ?_) | (with_reducible refine wpList_store_new rfl 53 _ _ rfl rfl Tryz.sizeOf53 vs uZero 53 (by with_unfolding_all rfl) (by with_unfolding_all rfl) hU'.out.len rfl hU'.out.lone ?_))
 generalize w1.alloc (.cells vs.toArray 53) = X at *
 cases ok
 all_goals
  go_wp2_with fail
  go_ret
  exact ⟨rfl, hL2⟩
theorem isB_eq (r : R9) (s : ByteArray) : isB r s = ((unitv r s).isSome && ((unitv r s).getD U9.zero).bld) := by
 unfold isB
 cases unitv r s <;> rfl
theorem eg_isB : ∀ args w, (callFunc 151 args).run Tryz.prog w = .ok (.enter 151 args) w := enters_of Tryz.func151 (by kernel_rfl) rfl
set_option maxHeartbeats 8000000 in
set_option maxRecDepth 100000 in
theorem lisB_b (su sw st : Value) (r : R9) (s : ByteArray) (b : Nat) (V0 W : World) (hR : RAt V0 su sw st r) (h0 : Below V0.heap.size V0 W) (hB : Blk W b [su, sw, st] 31) (hsm : ∀ u ∈ r.us, u.needs.length ≤ 100000 ∧ u.trains.length ≤ 100000 ∧ u.ress.length ≤ 100000) :
 Calls Tryz.prog 151 #[.string s, .pointer (some ⟨b, 0, none⟩)] W fun e w' => e = .returned (.bool (isB r s)) ∧ Below W.heap.size W w' := by
 obtain ⟨ok, hok⟩ : ∃ q, Hid (q = (unitv r s).isSome) := ⟨_, hid rfl⟩
 obtain ⟨u, hu⟩ : ∃ q, Hid (q = (unitv r s).getD U9.zero) := ⟨_, hid rfl⟩
 obtain ⟨bl, hbl⟩ : ∃ q, u.bld = q := ⟨_, rfl⟩
 have hF : isB r s = (ok && bl) := by rw [isB_eq, ← hok.out, ← hu.out, hbl]
 rw [hF]
 have hcon := lUnit_b su sw st r s V0 W hR h0 hsm
 obtain ⟨_, _, _, _, _, _⟩ := hB.three
 clear hF hR h0
 go_enter Tryz.func151, Tryz.ntmps151
 go_wp2_with fail
 ((with_reducible refine hcon.mono ?_); rintro e w1 ⟨vs, rfl, hUL, hb⟩)
 rw [← hok.out]
 rw [← hu.out] at hUL
 have hZ := Blk.new w1 vs 53
 have z1 := (hZ.cell 1).trans (hUL.bld.trans (by rw [hbl]))
 have hL2 := hb.alloc hb.size (.cells vs.toArray 53)
 have hU' := hid hUL
 clear hUL hZ hb hok hu hbl hcon
 go_upto_region 2 with (first | (with_reducible refine wpList_alloc_agg rfl 53 rfl _ rfl uZero zeroU ?_) | (with_reducible refine wpList_store_new rfl 53 _ _ rfl rfl Tryz.sizeOf53 vs uZero 53 (by with_unfolding_all rfl) (by with_unfolding_all rfl) hU'.out.len rfl hU'.out.lone ?_))
 generalize w1.alloc (.cells vs.toArray 53) = X at *
 cases ok
 all_goals
  go_wp2_with fail
  go_ret
  exact ⟨rfl, hL2⟩
abbrev J9 := ByteArray × Value × List ByteArray
def JOk (V : World) (l : List J9) : Prop := ∀ x ∈ l, StrSl V x.2.1 x.2.2
def flatJ (l : List J9) : List Value := l.flatMap fun x => [.string x.1, x.2.1]
def jit (l : List J9) : List I9 := l.map fun x => (x.1, x.2.2)
theorem flatJ_len : ∀ l : List J9, (flatJ l).length = l.length * 2
 | [] => rfl
 | a :: l => by
  have := flatJ_len l
  unfold flatJ at this ⊢
  rw [List.flatMap_cons, List.length_append, this]
  simp
  omega
theorem flatJ_app (l m : List J9) : flatJ l ++ flatJ m = flatJ (l ++ m) := by unfold flatJ; rw [List.flatMap_append]
theorem JOk.lone {V : World} {l : List J9} (h : JOk V l) : ∀ v ∈ flatJ l, v.oneCell' = true := by
 intro v hv
 unfold flatJ at hv
 obtain ⟨x, hm, hx⟩ := List.mem_flatMap.1 hv
 simp only [List.mem_cons, List.not_mem_nil, or_false] at hx
 rcases hx with rfl | rfl
 · rfl
 · exact (h x hm).lone
theorem flatJ_at : ∀ {l : List J9} {i : Nat} (h : i < l.length), ((flatJ l).drop (i * 2)).take 2 = [.string (l[i]'h).1, (l[i]'h).2.1]
 | a :: l, 0, _ => rfl
 | a :: l, i + 1, h => by
  have ih := flatJ_at (l := l) (i := i) (by simpa using h)
  rw [List.getElem_cons_succ, ← ih]
  unfold flatJ
  rw [List.flatMap_cons, show (i + 1) * 2 = [Value.string a.1, a.2.1].length + i * 2 by simp; omega, List.drop_length_add_append]
theorem JOk.snoc {V : World} {l : List J9} {x : J9} (h : JOk V l) (k : StrSl V x.2.1 x.2.2) : JOk V (l ++ [x]) := fun y hy => by
 rcases List.mem_append.1 hy with hy | hy
 · exact h y hy
 · rw [List.mem_singleton] at hy; rw [hy]; exact k
theorem JOk.below {V V' : World} {l : List J9} (h : JOk V l) (hb : Below V.heap.size V V') : JOk V' l := fun x hx => (h x hx).below hb
theorem infoI9 : (Tryz.prog.info? 175).map (fun i => (i.zero, i.size, i.bytes)) = some (some (.agg #[.string ⟨#[]⟩, .slice none 0 0]), 2, 40) := by kernel_rfl
def ItemsPost (r : R9) (V0 w : World) (e : Ending) (w' : World) : Prop := ∃ v l, e = .returned v ∧ w'.ownsRow (w.heap.size + 1) 175 2 v (r.us.length + r.ts.length) (flatJ l) ∧ JOk V0 l ∧ jit l = itemsv r ∧ Below w.heap.size w w'
theorem lone2 {a b : Value} (h1 : a.oneCell' = true) (h2 : b.oneCell' = true) : ∀ u ∈ ([a, b] : List Value), u.oneCell' = true := by
 intro u hu
 simp only [List.mem_cons, List.not_mem_nil, or_false] at hu
 rcases hu with rfl | rfl
 · exact h1
 · exact h2
set_option maxHeartbeats 8000000 in
set_option maxRecDepth 100000 in
theorem litems_b (su sw st : Value) (r : R9) (V0 W : World) (hR : RAt V0 su sw st r) (h0 : Below V0.heap.size V0 W) (hu : r.us.length ≤ 1000) (ht : r.ts.length ≤ 1000) :
 Calls Tryz.prog 153 #[.agg #[su, sw, st]] W (ItemsPost r V0 W) := by
 have hR0 := hid hR
 obtain ⟨i0, hi0, hz0, hz1, hz2⟩ := info_cut9 infoI9
 obtain ⟨p, c, rfl, hm, hat⟩ := hR.u
 obtain ⟨p1, c1, rfl, hm1, hat1⟩ := hR.w
 obtain ⟨p2, c2, rfl, hm2, hat2⟩ := hR.t
 have hB := Blk.new W [.slice p r.us.length c, .slice p1 r.ws.length c1, .slice p2 r.ts.length c2] 31
 have hL := (Below.refl W.heap.size W).alloc (Nat.le_refl _) (.cells [.slice p r.us.length c, .slice p1 r.ws.length c1, .slice p2 r.ts.length c2].toArray 31)
 unfold maxLen at hm hm1 hm2
 clear hR
 go_enter Tryz.func153, Tryz.ntmps153
 go_wp2_with fail
 generalize W.alloc (.cells [.slice p r.us.length c, .slice p1 r.ws.length c1, .slice p2 r.ts.length c2].toArray 31) = V at *
 clear hat1
 go_loopw [3, 11] (fun vo vi wr => ∃ (i : Nat) (l : List J9), vi = .int .i64 i ∧ i ≤ r.us.length ∧ wr.ownsRow (W.heap.size + 1) 175 2 vo (i) (flatJ l) ∧ Blk wr W.heap.size [.slice p r.us.length c, .slice p1 r.ws.length c1, .slice p2 r.ts.length c2] 31 ∧ Below W.heap.size W wr ∧ Hid (JOk V0 l) ∧ Hid (jit l = (r.us.take i).map (fun u => (u.nm, u.needs)))) (fun _ vi _ => r.us.length - (RowKit.intOf vi).toNat)
 case atStart => exact ⟨0, [], rfl, by omega, World.ownsRow_nil _ _ _ _, hB, hL, hid (fun x hx => by cases hx), hid rfl⟩
 case round =>
  clear hB hL
  obtain ⟨i, l, rfl, hi, hown, hB, hL, hJ, hI⟩ := hrel
  obtain ⟨_, _, _, _, _, _⟩ := hB.three
  by_cases hlt : i < r.us.length
  · have d1 : (i : Int) < r.us.length := by omega
    have d0 : (0 : Int) ≤ i := by omega
    have hV := h0.trans (hL.mono h0.size)
    obtain ⟨g, o, rfl, hc⟩ := hat (by omega)
    obtain ⟨vs, hU, hcs⟩ := (hc i hlt).ul
    have kl := hid ((hcs.below' (hcs.lt' hU.name) hV).loads (P := Tryz.prog) hU.len)
    obtain ⟨pn, cn, pt, ct, pr, cr, hvs, s1, s2, s3⟩ := hU.lists
    have hZ := Blk.new wr vs 53
    obtain ⟨x, hx⟩ : ∃ x, x = r.us[i]'hlt := ⟨_, rfl⟩
    rw [← hx] at hvs s1 hU
    have z0 := (hZ.cell 0).trans hU.name
    have z1 := (hZ.cell 16).trans (show vs[16]? = some (.slice pn x.needs.length cn) by rw [hvs]; rfl)
    have hJ2 := hid (hJ.out.snoc (x := (x.nm, .slice pn x.needs.length cn, x.needs)) s1)
    have hI2 := hid (show jit (l ++ [(x.nm, .slice pn x.needs.length cn, x.needs)]) = (r.us.take (i + 1)).map (fun u => (u.nm, u.needs)) by
     rw [List.take_succ_eq_append_getElem hlt, List.map_append, ← hI.out, ← hx]
     unfold jit
     rw [List.map_append]
     rfl)
    have hN := hid (flatJ_app l [(x.nm, .slice pn x.needs.length cn, x.needs)])
    have hU' := hid hU
    obtain ⟨nm, hnm⟩ : ∃ q, x.nm = q := ⟨_, rfl⟩
    obtain ⟨n1, hn1⟩ : ∃ n, x.needs.length = n := ⟨_, rfl⟩
    rw [hnm] at z0 hJ2 hI2 hN
    rw [hn1] at z1 hJ2 hI2 hN
    have hB2 := hB.alloc (.cells vs.toArray 53)
    have hL2 := hL.alloc hL.size (.cells vs.toArray 53)
    have hown1 := hown.alloc (.cells vs.toArray 53)
    clear hat hc hcs hU hJ hI hvs s1 s2 s3 hn1 hnm hZ hx
    go_upto_region 4 with fail
    go_cut [5] from 12 to 23 (fun s5 wx => s5 = .pointer (some ⟨wr.heap.size, 0, none⟩) ∧ wx = wr.alloc (.cells vs.toArray 53))
    case first =>
     go_wp2_with (first | (with_reducible refine wpList_load_agg rfl 53 _ rfl ⟨g, o + i * 19, none⟩ (by with_unfolding_all rfl) Tryz.isAgg53 Tryz.sizeOf53 vs kl.out ?_) | (with_reducible refine wpList_alloc_agg rfl 53 rfl _ rfl uZero zeroU ?_) | (with_reducible refine wpList_store_new rfl 53 _ _ rfl rfl Tryz.sizeOf53 vs uZero 53 (by with_unfolding_all rfl) (by with_unfolding_all rfl) hU'.out.len rfl hU'.out.lone ?_))
     go_meet
     case rel => exact ⟨rfl, rfl⟩
    case rest =>
    obtain ⟨rfl, rfl⟩ := hcut
    generalize hX : wr.alloc (.cells vs.toArray 53) = X at *
    have hWB := hL2.size
    clear hX hU' kl hown
    go_wp2_with (at_builtin; refine wpList_append_own _ rfl _ _ 173 rfl (W.heap.size + 1) 175 i0 (.agg #[.string ⟨#[]⟩, .slice none 0 0]) 2 40 Tryz.underlying173 hi0 hz0 hz1 hz2 rfl (by decide) _ _ _ rfl (hown1.alloc _) ⟨X.heap.size, 0, none⟩ 1 1 [.string nm, .slice pn n1 cn] rfl rfl cells_new (lone2 rfl rfl) (by unfold maxLen; omega) (by omega) (by first | (simp; done) | (simp; omega)) ?_)
    intro v' w' hown' hg' _
    have hb' := below_push (t := 175) hL2.size hL2 hown1 (by omega) hg'
    have hB' := (hB2.alloc (.cells #[.string nm, .slice pn n1 cn] 175)).grown hg' (own_not hown1 (by omega))
    clear hg' hown1 hL hL2 hB hB2 z1 z0
    go_wp2_with fail
    go_roundw
    case rel => exact ⟨i + 1, _, by go_num, by omega, own_to hown' (by omega) hN.out, hB', hb', hJ2, hI2⟩
    case measure => simp [RowKit.intOf]; omega
  · obtain rfl : i = r.us.length := by omega
    replace hI := hid (show jit l = r.us.map (fun u => (u.nm, u.needs)) ++ (r.ts.take 0).map (fun t => (t.nm, t.needs)) by rw [hI.out, List.take_length]; all_goals simp)
    have d1 : ¬ (r.us.length : Int) < r.us.length := by omega
    clear hat
    go_wp2_with fail
    clear d1
    go_loopw [3, 27] (fun vo vi wr => ∃ (i : Nat) (l : List J9), vi = .int .i64 i ∧ i ≤ r.ts.length ∧ wr.ownsRow (W.heap.size + 1) 175 2 vo (r.us.length + i) (flatJ l) ∧ Blk wr W.heap.size [.slice p r.us.length c, .slice p1 r.ws.length c1, .slice p2 r.ts.length c2] 31 ∧ Below W.heap.size W wr ∧ Hid (JOk V0 l) ∧ Hid (jit l = r.us.map (fun u => (u.nm, u.needs)) ++ (r.ts.take i).map (fun t => (t.nm, t.needs)))) (fun _ vi _ => r.ts.length - (RowKit.intOf vi).toNat)
    case atStart => exact ⟨0, l, rfl, by omega, hown, hB, hL, hJ, hI⟩
    case round =>
     clear hB hL hown hJ hI
     obtain ⟨i, l, rfl, hi, hown, hB, hL, hJ, hI⟩ := hrel
     obtain ⟨_, _, _, _, _, _⟩ := hB.three
     by_cases hlt : i < r.ts.length
     · have d1 : (i : Int) < r.ts.length := by omega
       have d0 : (0 : Int) ≤ i := by omega
       have hV := h0.trans (hL.mono h0.size)
       obtain ⟨g, o, rfl, hc⟩ := hat2 (by omega)
       obtain ⟨vs, hU, hcs⟩ := (hc i hlt).tl
       have kl := hid ((hcs.below' (hcs.lt' hU.name) hV).loads (P := Tryz.prog) hU.len)
       obtain ⟨pn, cn, hvs, s1⟩ := hU.lists
       have hZ := Blk.new wr vs 56
       obtain ⟨x, hx⟩ : ∃ x, x = r.ts[i]'hlt := ⟨_, rfl⟩
       rw [← hx] at hvs s1 hU
       have z0 := (hZ.cell 0).trans hU.name
       have z1 := (hZ.cell 1).trans (show vs[1]? = some (.slice pn x.needs.length cn) by rw [hvs]; rfl)
       have hJ2 := hid (hJ.out.snoc (x := (x.nm, .slice pn x.needs.length cn, x.needs)) s1)
       have hI2 := hid (show jit (l ++ [(x.nm, .slice pn x.needs.length cn, x.needs)]) = r.us.map (fun u => (u.nm, u.needs)) ++ (r.ts.take (i + 1)).map (fun t => (t.nm, t.needs)) by
        rw [List.take_succ_eq_append_getElem hlt, List.map_append, ← List.append_assoc, ← hI.out, ← hx]
        unfold jit
        rw [List.map_append]
        rfl)
       have hN := hid (flatJ_app l [(x.nm, .slice pn x.needs.length cn, x.needs)])
       have hU' := hid hU
       obtain ⟨nm, hnm⟩ : ∃ q, x.nm = q := ⟨_, rfl⟩
       obtain ⟨n1, hn1⟩ : ∃ n, x.needs.length = n := ⟨_, rfl⟩
       rw [hnm] at z0 hJ2 hI2 hN
       rw [hn1] at z1 hJ2 hI2 hN
       have hB2 := hB.alloc (.cells vs.toArray 56)
       have hL2 := hL.alloc hL.size (.cells vs.toArray 56)
       have hown1 := hown.alloc (.cells vs.toArray 56)
       clear hat2 hc hcs hU hJ hI hvs s1 hn1 hnm hZ hx
       go_upto_region 9 with fail
       go_cut [7] from 28 to 39 (fun s5 wx => s5 = .pointer (some ⟨wr.heap.size, 0, none⟩) ∧ wx = wr.alloc (.cells vs.toArray 56))
       case first =>
        go_wp2_with (first | (with_reducible refine wpList_load_agg rfl 56 _ rfl ⟨g, o + i * 8, none⟩ (by with_unfolding_all rfl) Tryz.isAgg56 Tryz.sizeOf56 vs kl.out ?_) | (with_reducible refine wpList_alloc_agg rfl 56 rfl _ rfl tZero zeroT ?_) | (with_reducible refine wpList_store_new rfl 56 _ _ rfl rfl Tryz.sizeOf56 vs tZero 56 (by with_unfolding_all rfl) (by with_unfolding_all rfl) hU'.out.len rfl hU'.out.lone ?_))
        go_meet
        case rel => exact ⟨rfl, rfl⟩
       case rest =>
       obtain ⟨rfl, rfl⟩ := hcut
       generalize hX : wr.alloc (.cells vs.toArray 56) = X at *
       have hWB := hL2.size
       clear hX hU' kl hown
       go_wp2_with (at_builtin; refine wpList_append_own _ rfl _ _ 173 rfl (W.heap.size + 1) 175 i0 (.agg #[.string ⟨#[]⟩, .slice none 0 0]) 2 40 Tryz.underlying173 hi0 hz0 hz1 hz2 rfl (by decide) _ _ _ rfl (hown1.alloc _) ⟨X.heap.size, 0, none⟩ 1 1 [.string nm, .slice pn n1 cn] rfl rfl cells_new (lone2 rfl rfl) (by unfold maxLen; omega) (by omega) (by first | (simp; done) | (simp; omega)) ?_)
       intro v' w' hown' hg' _
       have hb' := below_push (t := 175) hL2.size hL2 hown1 (by omega) hg'
       have hB' := (hB2.alloc (.cells #[.string nm, .slice pn n1 cn] 175)).grown hg' (own_not hown1 (by omega))
       clear hg' hown1 hL hL2 hB hB2 z1 z0
       go_wp2_with fail
       go_roundw
       case rel => exact ⟨i + 1, _, by go_num, by omega, own_to hown' (by omega) hN.out, hB', hb', hJ2, hI2⟩
       case measure => simp [RowKit.intOf]; omega
     · obtain rfl : i = r.ts.length := by omega
       replace hI := hid (show jit l = itemsv r by rw [hI.out, List.take_length]; rfl)
       have d1 : ¬ (r.ts.length : Int) < r.ts.length := by omega
       clear hat2
       go_wp2_with fail
       go_ret
       exact ⟨_, l, rfl, hown, hJ.out, hI.out, hL⟩
end
section
open Go.RowKit Go.Lib
theorem need1_isU (r : R9) (s : ByteArray) : need1 r s = !isU r s := by
 unfold need1 isU
 cases unitv r s <;> simp
theorem neededv_any (r : R9) (l : List ByteArray) : neededv r l = !l.any (isU r) := by
 rw [List.not_any_eq_all_not]
 show l.all (need1 r) = _
 congr 1
 funext s
 exact need1_isU r s
def bt1 (r : R9) (u : U9) : Bool := u.trains.any (wrg r u.bld) || (decide (0 < u.ress.length) && !u.bld)
theorem items_any (r : R9) (f : List ByteArray → Bool) : ((itemsv r).any fun x => f x.2) = (r.us.any (fun u => f u.needs) || r.ts.any fun t => f t.needs) := by
 unfold itemsv
 rw [List.any_append, List.any_map, List.any_map]
 rfl
theorem bt1_eq (r : R9) (hf : foundv r = true) (u : U9) (hu : u ∈ r.us) : bt1 r u = !((u.bld || u.ress.isEmpty) && u.trains.all fun s => ((unitv r s).getD U9.zero).bld != u.bld) := by
 unfold foundv at hf
 rw [Bool.and_eq_true, List.all_eq_true] at hf
 have k := hf.1 u hu
 simp only [Bool.and_eq_true] at k
 have ht := k.1.2
 have h1 : (u.trains.all fun s => ((unitv r s).getD U9.zero).bld != u.bld) = !u.trains.any (wrg r u.bld) := by
  rw [List.not_any_eq_all_not, Bool.eq_iff_iff, List.all_eq_true, List.all_eq_true]
  refine forall_congr' fun s => imp_congr_right fun hs => ?_
  have hm := hasv_iff.1 (List.all_eq_true.1 ht s hs)
  unfold namesU at hm
  obtain ⟨v, hv, rfl⟩ := List.mem_map.1 hm
  have hsome : ∃ w, unitv r v.nm = some w := by
   cases q : unitv r v.nm with
   | some w => exact ⟨w, rfl⟩
   | none =>
    unfold unitv at q
    rw [List.find?_eq_none] at q
    have := q v hv
    simp at this
  obtain ⟨w, hw⟩ := hsome
  unfold wrg isB isU
  rw [hw]
  cases u.bld <;> cases hb : w.bld <;> simp [hb]
 have h2 : decide (0 < u.ress.length) = !u.ress.isEmpty := by cases u.ress <;> simp
 rw [h1]
 unfold bt1
 rw [h2]
 cases u.bld <;> cases u.ress.isEmpty <;> cases u.trains.any (wrg r _) <;> rfl
theorem all_and {α : Type} (l : List α) (f g : α → Bool) : (l.all fun x => f x && g x) = (l.all f && l.all g) := by
 induction l with
 | nil => rfl
 | cons a l ih =>
  simp only [List.all_cons, ih]
  cases f a <;> cases g a <;> cases l.all f <;> cases l.all g <;> rfl
theorem all_mem {α : Type} {l : List α} {f g : α → Bool} (h : ∀ x ∈ l, f x = g x) : l.all f = l.all g := by
 rw [Bool.eq_iff_iff, List.all_eq_true, List.all_eq_true]
 exact forall_congr' fun x => imp_congr_right fun hx => by rw [h x hx]
theorem typedv_ls (r : R9) (hf : foundv r = true) : (!typedv r) = (!r.us.all (fun u => !bt1 r u) || (itemsv r).any fun x => x.2.any (isU r)) := by
 rw [show ((itemsv r).any fun x => x.2.any (isU r)) = _ from items_any r fun l => l.any (isU r)]
 unfold typedv
 have h1 : (r.us.all fun u => neededv r u.needs && (u.bld || u.ress.isEmpty) && u.trains.all fun s => ((unitv r s).getD U9.zero).bld != u.bld) = ((r.us.all fun u => neededv r u.needs) && r.us.all fun u => !bt1 r u) := by
  rw [← all_and]
  exact all_mem fun u hu => by rw [bt1_eq r hf u hu, Bool.not_not, Bool.and_assoc]
 have h2 : (r.us.all fun u => neededv r u.needs) = !(r.us.any fun u => u.needs.any (isU r)) := by
  rw [List.not_any_eq_all_not]
  exact all_mem fun u _ => neededv_any r u.needs
 have h3 : (r.ts.all fun u => neededv r u.needs) = !(r.ts.any fun u => u.needs.any (isU r)) := by
  rw [List.not_any_eq_all_not]
  exact all_mem fun u _ => neededv_any r u.needs
 rw [h1, h2, h3]
 cases (r.us.any fun u => u.needs.any (isU r)) <;> cases (r.ts.any fun u => u.needs.any (isU r)) <;> cases (r.us.all fun u => !bt1 r u) <;> rfl
theorem eg_it3 : ∀ args w, (callFunc 154 args).run Tryz.prog w = .ok (.enter 154 args) w := enters_of Tryz.func154 (by kernel_rfl) rfl
set_option maxHeartbeats 8000000 in
set_option maxRecDepth 100000 in
theorem lit3_b (su sw st : Value) (r : R9) (nm : ByteArray) (sn : Value) (needs : List ByteArray) (b b3 : Nat) (V0 W : World) (hR : RAt V0 su sw st r) (h0 : Below V0.heap.size V0 W) (hB : Blk W b [su, sw, st] 31) (h3 : Blk W b3 [.func (.func 149) #[] #[.pointer (some ⟨b, 0, none⟩)]] 48) (hn : StrSl V0 sn needs) (hsm : ∀ u ∈ r.us, u.needs.length ≤ 100000 ∧ u.trains.length ≤ 100000 ∧ u.ress.length ≤ 100000) :
 Calls Tryz.prog 154 #[.agg [.string nm, sn].toArray, .pointer (some ⟨b3, 0, none⟩)] W fun e w' => e = .returned (.bool (needs.any (isU r))) ∧ Below W.heap.size W w' := by
 obtain ⟨q, hq⟩ : ∃ q, Hid (q = needs.any (isU r)) := ⟨_, hid rfl⟩
 rw [← hq.out]
 have hT := Blk.new W [.string nm, sn] 175
 have hL := (Below.refl W.heap.size W).alloc (Nat.le_refl _) (.cells [.string nm, sn].toArray 175)
 have h02 := h0.trans (hL.mono h0.size)
 have c1 := lanyStr_b sn needs 149 #[.pointer (some ⟨b, 0, none⟩)] (isU r) q V0 _ hn h02 eg_isU (fun s w hw => lisU_b su sw st r s b V0 w hR (h02.trans (hw.mono h02.size)) ((hB.below hL).below hw) hsm) hq
 have f3 := (h3.below hL).one.1
 obtain ⟨_, _, _, _⟩ := hT.two
 clear hB h3 hn hR h0 h02 hq
 go_enter Tryz.func154, Tryz.ntmps154
 go_upto_region 1 with fail
 generalize W.alloc (.cells [.string nm, sn].toArray 175) = X at *
 go_wp2_with fail
 (refine c1.mono ?_; rintro e w1 ⟨rfl, hb⟩)
 go_wp2_with fail
 go_ret
 exact ⟨rfl, below_call hL hb⟩
set_option maxHeartbeats 8000000 in
set_option maxRecDepth 100000 in
theorem ltyp_b (su sw st : Value) (r : R9) (b : Bool) (V0 W : World) (hR : RAt V0 su sw st r) (h0 : Below V0.heap.size V0 W) (hu : r.us.length ≤ 1000) (ht : r.ts.length ≤ 1000) (hsm : ∀ u ∈ r.us, u.needs.length ≤ 100000 ∧ u.trains.length ≤ 100000 ∧ u.ress.length ≤ 100000) (hf : foundv r = true) (e : Hid (b = typedv r)) :
 Calls Tryz.prog 96 #[.agg #[su, sw, st]] W fun e w' => e = .returned (.bool (!b)) ∧ Below W.heap.size W w' := by
 have hR0 := hid hR
 obtain ⟨nb, hnb⟩ : ∃ q, Hid (q = !b) := ⟨_, hid rfl⟩
 rw [← hnb.out]
 replace e := hid (show nb = (!r.us.all (fun u => !bt1 r u) || (itemsv r).any fun x => x.2.any (isU r)) by rw [hnb.out, e.out, typedv_ls r hf])
 clear hnb hf
 obtain ⟨p, c, rfl, hm, hat⟩ := hR.u
 obtain ⟨p1, c1, rfl, hm1, hat1⟩ := hR.w
 obtain ⟨p2, c2, rfl, hm2, hat2⟩ := hR.t
 have hB := Blk.new W [.slice p r.us.length c, .slice p1 r.ws.length c1, .slice p2 r.ts.length c2] 31
 have hL := (Below.refl W.heap.size W).alloc (Nat.le_refl _) (.cells [.slice p r.us.length c, .slice p1 r.ws.length c1, .slice p2 r.ts.length c2].toArray 31)
 unfold maxLen at hm hm1 hm2
 clear hR
 go_enter Tryz.func96, Tryz.ntmps96
 go_upto_region 1 with fail
 generalize W.alloc (.cells [.slice p r.us.length c, .slice p1 r.ws.length c1, .slice p2 r.ts.length c2].toArray 31) = V at *
 clear hat1 hat2
 go_upto_region 2 with fail
 have h3 := Blk.new V [.func (.func 149) #[] #[.pointer (some ⟨W.heap.size, 0, none⟩)]] 48
 replace hB := hB.alloc (.cells [.func (.func 149) #[] #[.pointer (some ⟨W.heap.size, 0, none⟩)]].toArray 48)
 replace hL := hL.alloc hL.size (.cells [.func (.func 149) #[] #[.pointer (some ⟨W.heap.size, 0, none⟩)]].toArray 48)
 generalize hb3 : V.heap.size = b3 at *
 generalize V.alloc (.cells [.func (.func 149) #[] #[.pointer (some ⟨W.heap.size, 0, none⟩)]].toArray 48) = X3 at *
 clear hb3
 obtain ⟨_, _, _, _, _, _⟩ := hB.three
 go_wp2_with fail
 go_loopw [13] (fun vi wr => ∃ i : Nat, vi = .int .i64 i ∧ i ≤ r.us.length ∧ Blk wr W.heap.size [.slice p r.us.length c, .slice p1 r.ws.length c1, .slice p2 r.ts.length c2] 31 ∧ Blk wr b3 [.func (.func 149) #[] #[.pointer (some ⟨W.heap.size, 0, none⟩)]] 48 ∧ Below W.heap.size W wr ∧ Hid ((r.us.take i).all (fun u => !bt1 r u) = true)) (fun vi _ => r.us.length - (RowKit.intOf vi).toNat)
 case atStart => exact ⟨0, rfl, by omega, hB, h3, hL, hid rfl⟩
 case round =>
  clear hB h3 hL
  obtain ⟨i, rfl, hi, hB, h3, hL, hA⟩ := hrel
  by_cases hlt : i < r.us.length
  · have d1 : (i : Int) < r.us.length := by omega
    have d0 : (0 : Int) ≤ i := by omega
    have hV := h0.trans (hL.mono h0.size)
    obtain ⟨g, o, rfl, hc⟩ := hat (by omega)
    obtain ⟨vs, hU, hcs⟩ := (hc i hlt).ul
    have kl := hid ((hcs.below' (hcs.lt' hU.name) hV).loads (P := Tryz.prog) hU.len)
    obtain ⟨pn, cn, pt, ct, pr, cr, hvs, s1, s2, s3⟩ := hU.lists
    have HN := fun q => hid (allp_take (f := fun u => !bt1 r u) hlt hA.out q)
    have HY := fun q => hid (allp_no (f := fun u => !bt1 r u) hlt q)
    obtain ⟨u, hu⟩ : ∃ u, r.us[i]'hlt = u := ⟨_, rfl⟩
    rw [hu] at HN HY hvs s1 s2 s3 hU
    have hZ := Blk.new wr vs 53
    obtain ⟨bl, hbl⟩ : ∃ q, u.bld = q := ⟨_, rfl⟩
    obtain ⟨q1, hq1⟩ : ∃ q, Hid (q = u.trains.any (wrg r u.bld)) := ⟨_, hid rfl⟩
    obtain ⟨n3, hn3⟩ : ∃ n, u.ress.length = n := ⟨_, rfl⟩
    obtain ⟨q2, hq2⟩ : ∃ q, decide (0 < n3) = q := ⟨_, rfl⟩
    have hF := hid (show bt1 r u = (q1 || (q2 && !bl)) by
     unfold bt1
     rw [hq1.out, hbl, ← hq2, hn3])
    have z1 := (hZ.cell 1).trans (show vs[1]? = some (.bool bl) by rw [hvs, ← hbl]; rfl)
    have z17 := (hZ.cell 17).trans (show vs[17]? = some (.slice pt u.trains.length ct) by rw [hvs]; rfl)
    have z18 := (hZ.cell 18).trans (show vs[18]? = some (.slice pr u.ress.length cr) by rw [hvs]; rfl)
    have l3 := s3.small
    rw [hn3] at z18 l3
    have hB2 := hB.alloc (.cells vs.toArray 53)
    have h32 := h3.alloc (.cells vs.toArray 53)
    have hL2 := hL.alloc hL.size (.cells vs.toArray 53)
    have hzl := hZ.lt
    have hU' := hid hU
    have s2' := hid s2
    rw [hbl] at hq1
    clear hu hat hc hcs hU hA hvs s1 s2 s3 hZ hB h3 hbl hn3
    go_upto_region 5 with fail
    go_cut [6] from 15 to 36 (fun s6 wx => s6 = .pointer (some ⟨wr.heap.size, 0, none⟩) ∧ wx = wr.alloc (.cells vs.toArray 53))
    case first =>
     go_wp2_with (first | (with_reducible refine wpList_load_agg rfl 53 _ rfl ⟨g, o + i * 19, none⟩ (by with_unfolding_all rfl) Tryz.isAgg53 Tryz.sizeOf53 vs kl.out ?_) | (with_reducible refine wpList_alloc_agg rfl 53 rfl _ rfl uZero zeroU ?_) | (with_reducible refine wpList_store_new rfl 53 _ _ rfl rfl Tryz.sizeOf53 vs uZero 53 (by with_unfolding_all rfl) (by with_unfolding_all rfl) hU'.out.len rfl hU'.out.lone ?_))
     go_meet
     case rel => exact ⟨rfl, rfl⟩
    case rest =>
    obtain ⟨rfl, rfl⟩ := hcut
    generalize hbx : wr.heap.size = bx at *
    generalize wr.alloc (.cells vs.toArray 53) = Y at *
    obtain ⟨_, _, _, _, _, _⟩ := hB2.three
    have f3 := h32.one.1
    have hV2 := h0.trans (hL2.mono h0.size)
    cases bl
    all_goals
     first
     | (have c1 := lanyStr_b _ u.trains 149 #[.pointer (some ⟨W.heap.size, 0, none⟩)] (wrg r false) q1 V0 Y s2'.out hV2 eg_isU (fun s w hw => lisU_b _ _ _ r s W.heap.size V0 w hR0.out (hV2.trans (hw.mono hV2.size)) (hB2.below hw) hsm) hq1)
     | (have c1 := lanyStr_b _ u.trains 151 #[.pointer (some ⟨W.heap.size, 0, none⟩)] (wrg r true) q1 V0 Y s2'.out hV2 eg_isB (fun s w hw => lisB_b _ _ _ r s W.heap.size V0 w hR0.out (hV2.trans (hw.mono hV2.size)) (hB2.below hw) hsm) hq1)
     go_upto_region 9 with fail
     obtain ⟨bad, hbad⟩ : ∃ q, Hid (bt1 r u = q) := ⟨_, hid rfl⟩
     rw [hbad.out] at HN HY
     replace hF := hid (hbad.out.symm.trans hF.out)
     clear hbad
     go_cut [35] from 21 to 36 (fun s35 wx => s35 = .bool bad ∧ Below Y.heap.size Y wx)
     case first =>
      have hb0 := hF.out
      clear HN HY e hF
      go_wp2_with fail
      (refine c1.mono ?_; rintro e w1 ⟨rfl, hb⟩)
      have y1 := (hb.cell (p := ⟨bx, 1, none⟩) hzl).trans z1
      have y18 := (hb.cell (p := ⟨bx, 18, none⟩) hzl).trans z18
      clear z1 z17 z18 c1 hq1
      have hq3 : decide ((0 : Int) < n3) = q2 := by rw [← hq2]; exact decide_eq_decide.2 (by omega)
      cases q1
      all_goals
       cases q2
       all_goals
        simp only [Bool.true_or, Bool.false_or, Bool.and_false, Bool.not_true, Bool.not_false, Bool.and_true] at hb0
        subst hb0
        go_wp2_with fail
        go_meet
        case rel => exact ⟨rfl, hb⟩
     case rest =>
     obtain ⟨rfl, hb⟩ := hcut
     replace hB2 := hB2.below hb
     replace h32 := h32.below hb
     replace hL2 := below_call hL2 hb
     clear z1 z17 z18 hb hV2 hV hzl c1 f3 hq1 hq2 l3 hF
     cases bad with
     | true =>
      have he := e.out.trans (show _ = true by rw [(HY rfl).out]; rfl)
      subst he
      clear e HN HY
      go_wp2_with fail
      go_ret
      exact ⟨rfl, hL2⟩
     | false =>
      have HS := HN rfl
      clear HN HY
      go_wp2_with fail
      go_roundw
      case rel => exact ⟨i + 1, by go_num, by omega, hB2, h32, hL2, HS⟩
      case measure => simp [RowKit.intOf]; omega
  · obtain rfl : i = r.us.length := by omega
    have ha := hA.out
    rw [List.take_length] at ha
    rw [ha, Bool.not_true, Bool.false_or] at e
    have d1 : ¬ (r.us.length : Int) < r.us.length := by omega
    have hV := h0.trans (hL.mono h0.size)
    obtain ⟨_, _, _, _, _, _⟩ := hB.three
    clear hat ha hA
    go_wp2_with fail
    ((with_reducible refine (litems_b _ _ _ r V0 _ hR0.out hV hu ht).mono ?_); rintro e w1 ⟨v, l, rfl, hown, hJ, hI, hb⟩)
    replace hB := hB.below hb
    replace h3 := h3.below hb
    replace hL := below_call hL hb
    have hV3 := hV.trans (hb.mono hV.size)
    have hlen : l.length = r.us.length + r.ts.length := by rw [← items_len, ← hI]; unfold jit; simp
    have hr := own_row hown (by omega) (by decide)
    rw [← hlen] at hr
    have hcon := lanyI_b v l.length _ 154 #[.pointer (some ⟨b3, 0, none⟩)] (fun i => match l[i]? with | some x => x.2.2.any (isU r) | none => false) nb w1 w1 hr (Below.refl _ _) eg_it3 (fun i hi w hw => by
     rw [flatJ_at hi]
     simp only [List.getElem?_eq_getElem hi]
     exact lit3_b _ _ _ r _ _ _ W.heap.size b3 V0 w hR0.out (hV3.trans (hw.mono hV3.size)) (hB.below hw) (h3.below hw) (hJ _ (List.getElem_mem hi)) hsm) (hid (by
      rw [e.out, ← hI]
      unfold jit
      rw [List.any_map]
      exact (anyN_list (f := fun x : J9 => x.2.2.any (isU r)) fun i h => by simp only [List.getElem?_eq_getElem h]).symm))
    clear hown hJ hI hb hV hV3 hlen hr e
    go_wp2_with fail
    (refine hcon.mono ?_; rintro e w2 ⟨rfl, hb⟩)
    replace hL := below_call hL hb
    go_wp2_with fail
    go_ret
    exact ⟨rfl, hL⟩
end
section
open Go.RowKit Go.Lib
theorem eg_cont : ∀ args w, (callFunc 209 args).run Tryz.prog w = .ok (.enter 209 args) w := enters_of Tryz.func209 (by kernel_rfl) rfl
theorem lcont1_b (v : Value) (l : List ByteArray) (s : ByteArray) (b : Nat) (t : TypeId) (V0 W : World) (hl : StrSl V0 v l) (h0 : Below V0.heap.size V0 W) (hB : Blk W b [v] t) :
 Calls Tryz.prog 209 #[.string s, .pointer (some ⟨b, 0, none⟩)] W fun e w' => e = .returned (.bool (!hasv l s)) ∧ Below W.heap.size W w' := by
 obtain ⟨q, hq⟩ : ∃ q, Hid (q = hasv l s) := ⟨_, hid rfl⟩
 rw [← hq.out]
 have hcon := lhas_b v l s q V0 W hl h0 hq
 obtain ⟨p, c, rfl, -⟩ := hl
 have k0 := hB.one.1
 clear h0 hB hq
 go_enter Tryz.func209, Tryz.ntmps209
 go_wp2_with fail
 (refine hcon.mono ?_; rintro e w1 ⟨rfl, rfl⟩)
 go_wp2_with fail
 go_ret
 exact ⟨rfl, Below.refl _ _⟩
theorem lcont_b (v u : Value) (l m : List ByteArray) (b : Bool) (V0 W : World) (hl : StrSl V0 v l) (hm : StrSl V0 u m) (h0 : Below V0.heap.size V0 W) (e : Hid (b = m.all (hasv l))) :
 Calls Tryz.prog 184 #[v, u] W fun e w' => e = .returned (.bool b) ∧ Below W.heap.size W w' := by
 obtain ⟨p, c, rfl, -⟩ := id hl
 obtain ⟨p2, c2, rfl, -⟩ := id hm
 have hB := Blk.new W [.slice p l.length c] 23
 have hL := (Below.refl W.heap.size W).alloc (Nat.le_refl _) (.cells [.slice p l.length c].toArray 23)
 have h02 := h0.trans (hL.mono h0.size)
 obtain ⟨nb, hnb⟩ : ∃ q, Hid (q = m.any fun s => !hasv l s) := ⟨_, hid rfl⟩
 obtain rfl : b = !nb := by rw [e.out, hnb.out, any_not_all, Bool.not_not]
 have hcon := lanyStr_b _ m 209 #[.pointer (some ⟨W.heap.size, 0, none⟩)] (fun s => !hasv l s) nb V0 _ hm h02 eg_cont (fun s w hw => lcont1_b _ l s W.heap.size _ V0 w hl (h02.trans (hw.mono h02.size)) (hB.below hw)) hnb
 clear hl hm h0 h02 e hnb hB
 go_enter Tryz.func184, Tryz.ntmps184
 go_upto_region 1 with fail
 generalize W.alloc (.cells [.slice p l.length c].toArray 23) = X at *
 go_wp2_with fail
 (refine hcon.mono ?_; rintro e w1 ⟨rfl, hb⟩)
 go_wp2_with fail
 go_ret
 exact ⟨rfl, below_call hL hb⟩
theorem eg_av2 : ∀ args w, (callFunc 183 args).run Tryz.prog w = .ok (.enter 183 args) w := enters_of Tryz.func183 (by kernel_rfl) rfl
theorem lav2_b (v sn : Value) (l needs : List ByteArray) (nm : ByteArray) (b : Nat) (t : TypeId) (V0 W : World) (hl : StrSl V0 v l) (hn : StrSl V0 sn needs) (h0 : Below V0.heap.size V0 W) (hB : Blk W b [v] t) :
 Calls Tryz.prog 183 #[.agg [.string nm, sn].toArray, .pointer (some ⟨b, 0, none⟩)] W fun e w' => e = .returned (.bool (freev l (nm, needs))) ∧ Below W.heap.size W w' := by
 obtain ⟨q, hq⟩ : ∃ q, Hid (q = needs.all (hasv l)) := ⟨_, hid rfl⟩
 rw [show freev l (nm, needs) = q from hq.out.symm]
 have hT := Blk.new W [.string nm, sn] 175
 have hL := (Below.refl W.heap.size W).alloc (Nat.le_refl _) (.cells [.string nm, sn].toArray 175)
 have hB2 := (hB.below hL).one.1
 have hcon := lcont_b v sn l needs q V0 _ hl hn (h0.trans (hL.mono h0.size)) hq
 obtain ⟨p, c, rfl, -⟩ := hl
 obtain ⟨p2, c2, rfl, -⟩ := hn
 obtain ⟨_, _, _, _⟩ := hT.two
 clear h0 hB hq hT
 go_enter Tryz.func183, Tryz.ntmps183
 go_upto_region 1 with fail
 generalize W.alloc (.cells [.string nm, .slice p2 needs.length c2].toArray 175) = X at *
 go_wp2_with fail
 (refine hcon.mono ?_; rintro e w1 ⟨rfl, hb⟩)
 go_wp2_with fail
 go_ret
 exact ⟨rfl, below_call hL hb⟩
def cmpB (a b : ByteArray) : Int := Lib.compareBytes a.data.toList b.data.toList
theorem cmp_less : ∀ x y : List UInt8, decide (Lib.compareBytes x y < 0) = Op.bytesLess x y
 | [], [] => rfl
 | [], _ :: _ => rfl
 | _ :: _, [] => rfl
 | a :: x, b :: y => by
  have ih := cmp_less x y
  unfold Lib.compareBytes Op.bytesLess
  by_cases h1 : a < b
  · simp [h1]
  · by_cases h2 : b < a
    · have hne : ¬ a = b := fun e => by subst e; exact absurd h2 (UInt8.lt_irrefl _)
      simp [h1, h2, hne]
    · have e : a = b := UInt8.le_antisymm (UInt8.not_lt.1 h2) (UInt8.not_lt.1 h1)
      subst e
      simp [h1, ih]
theorem cmpB_less (a b : ByteArray) : decide (cmpB a b < 0) = ltS a b := by
 unfold cmpB ltS
 rw [cmp_less, Lib.toList_data, Lib.toList_data]
theorem eg_av1 : ∀ args w, (callFunc 181 args).run Tryz.prog w = .ok (.enter 181 args) w := enters_of Tryz.func181 (by kernel_rfl) rfl
theorem lav1_b (n1 n2 : ByteArray) (s1 s2 : Value) (W : World) :
 Calls Tryz.prog 181 #[.agg [.string n1, s1].toArray, .agg [.string n2, s2].toArray] W fun e w' => e = .returned (.int .i64 (cmpB n1 n2)) ∧ ∃ q os', w' = Sort.grow (W.drewN q) os' := by
 have hcon := fun w => Tryz.strings_Compare n1 n2 w
 obtain ⟨z, hz⟩ : ∃ z, cmpB n1 n2 = z := ⟨_, rfl⟩
 rw [hz]
 have hz2 : Lib.compareBytes n1.data.toList n2.data.toList = z := hz
 rw [hz2] at hcon
 have h1 := (Blk.new W [.string n1, s1] 175).alloc (.cells [.string n2, s2].toArray 175)
 have h2 := (Blk.new (W.alloc (.cells [.string n1, s1].toArray 175)) [.string n2, s2] 175).at (World.size_alloc _ _)
 obtain ⟨_, _, _, _⟩ := h1.two
 obtain ⟨_, _, _, _⟩ := h2.two
 have hX : (W.alloc (.cells [.string n1, s1].toArray 175)).alloc (.cells [.string n2, s2].toArray 175) = Sort.grow (W.drewN 0) #[.cells [.string n1, s1].toArray 175, .cells [.string n2, s2].toArray 175] := by
  rw [Sort.alloc_eq_grow, Sort.alloc_eq_grow, Sort.grow_grow]
  rfl
 replace hX := hid hX
 clear h1 h2 hz hz2
 go_enter Tryz.func181, Tryz.ntmps181
 go_upto_region 1 with fail
 generalize (W.alloc (.cells [.string n1, s1].toArray 175)).alloc (.cells [.string n2, s2].toArray 175) = X at *
 go_wp2_with fail
 (refine (hcon _).mono ?_; rintro e w1 ⟨rfl, rfl⟩)
 go_wp2_with fail
 go_ret
 exact ⟨rfl, 0, _, hX.out⟩
end
section
open Go.RowKit Go.Lib
def putL (cur : Array Value) : Nat → List Value → Array Value
 | _, [] => cur
 | o, v :: r => putL (cur.setIfInBounds o v) (o + 1) r
theorem putL_size : ∀ (vs : List Value) (o : Nat) (cur : Array Value), (putL cur o vs).size = cur.size
 | [], _, _ => rfl
 | v :: r, o, cur => by rw [putL, putL_size r]; simp
theorem putL_list : ∀ (vs : List Value) (o : Nat) (cur : Array Value), o + vs.length ≤ cur.size → (putL cur o vs).toList = cur.toList.take o ++ vs ++ cur.toList.drop (o + vs.length)
 | [], o, cur, _ => by simp [putL]
 | v :: r, o, cur, h => by
  have h' : o + 1 + r.length ≤ cur.size := by simp at h; omega
  rw [putL, putL_list r (o + 1) _ (by simpa using h'), Array.toList_setIfInBounds]
  have ho : o < cur.toList.length := by simp; omega
  rw [List.take_set, List.take_succ_eq_append_getElem ho, List.set_append_right _ _ (by simp; omega), List.length_take, Nat.min_eq_left (Nat.le_of_lt ho), Nat.sub_self, List.drop_set_of_lt (by omega)]
  simp only [List.set_cons_zero, List.length_cons, List.append_assoc, List.cons_append, List.nil_append]
  rw [show o + 1 + r.length = o + (r.length + 1) by omega]
theorem heap_setCells (b : Nat) (t : TypeId) : ∀ (vs : List Value) (o : Nat) (w : World) (cur : Array Value), w.heap[b]? = some (.cells cur t (0, 0)) → (w.setCells b o vs).heap[b]? = some (.cells (putL cur o vs) t (0, 0))
 | [], _, _, _, h => h
 | v :: r, o, w, cur, h => by
  rw [World.setCells, putL]
  exact heap_setCells b t r (o + 1) _ _ (heap_setCell_same w b o cur t v h)
theorem below_setCells {B b : Nat} {w0 : World} : ∀ (vs : List Value) (o : Nat) (w : World), Below B w0 w → B ≤ b → Below B w0 (w.setCells b o vs)
 | [], _, _, h, _ => h
 | v :: r, o, w, h, hb => by
  rw [World.setCells]
  exact below_setCells r (o + 1) _ (h.setCell (p := ⟨b, o, none⟩) hb v) hb
theorem heap_setCells_far {b k : Nat} (ne : k ≠ b) : ∀ (vs : List Value) (o : Nat) (w : World), (w.setCells b o vs).heap[k]? = w.heap[k]?
 | [], _, _ => rfl
 | v :: r, o, w => by
  rw [World.setCells, heap_setCells_far ne r]
  exact Below.heap_setCell w _ v k (by show k ≠ b; exact ne)
theorem run_clear1 {P : Program} (w : World) (t e ty : TypeId) (zs : List Value) (ht : P.underlying t = some (.slice e)) (hv : ∀ w, (zeroValue e).run P w = .ok (.agg zs.toArray) w) (hz : (Builtin.zeroCells zs.toArray 1).toList = zs) (h1 : ∀ v ∈ zs, v.oneCell' = true) (b o c : Nat)
 (hc : ∀ j, j < zs.length → (w.cell? ⟨b, o + j, none⟩).isSome = true) (hf : ∀ j, j < zs.length → w.frozen? ⟨b, o + j, none⟩ = false) :
 (Builtin.clear_ #[t] ty #[.slice (some ⟨b, o, none⟩) 1 c]).run P w = .ok (.tuple #[]) (w.setCells b o zs) := by
 have hst := run_storeCells_cells (P := P) b o zs 0 w (by simpa using hc) (by simpa using hf) h1
 simp only [Nat.add_zero] at hst
 simp [Builtin.clear_, run_underlying ht, hv, Value.cells, hz, hst]
theorem flatJ_take : ∀ (l : List J9) (i : Nat), flatJ (l.take i) = (flatJ l).take (i * 2)
 | [], i => by simp [flatJ]
 | a :: l, 0 => by simp [flatJ]
 | a :: l, i + 1 => by
  have ih := flatJ_take l i
  unfold flatJ at ih ⊢
  rw [List.take_succ_cons, List.flatMap_cons, List.flatMap_cons, ih, show (i + 1) * 2 = [Value.string a.1, a.2.1].length + i * 2 by simp; omega, List.take_length_add_append]
theorem flatJ_drop : ∀ (l : List J9) (i : Nat), flatJ (l.drop i) = (flatJ l).drop (i * 2)
 | [], i => by simp [flatJ]
 | a :: l, 0 => by simp [flatJ]
 | a :: l, i + 1 => by
  have ih := flatJ_drop l i
  unfold flatJ at ih ⊢
  rw [List.drop_succ_cons, List.flatMap_cons, ih, show (i + 1) * 2 = [Value.string a.1, a.2.1].length + i * 2 by simp; omega, List.drop_length_add_append]
def DelPost (B : Nat) (v0 : Value) (l : List J9) (i : Nat) (w : World) (e : Ending) (w' : World) : Prop := ∃ v, e = .returned v ∧ w'.ownsRow B 175 2 v (l.length - 1) (flatJ (l.eraseIdx i)) ∧ v.ownBlock = v0.ownBlock ∧ (∀ k, v0.ownBlock ≠ some k → w'.heap[k]? = w.heap[k]?) ∧ Below B w w'
set_option maxHeartbeats 8000000 in
set_option maxRecDepth 100000 in
theorem ldel_b (v : Value) (l : List J9) (i j B : Nat) (V0 W : World) (hown : W.ownsRow B 175 2 v l.length (flatJ l)) (hJ : JOk V0 l) (hi : i < l.length) (hj : j = i + 1) (hsm : l.length ≤ 10000) :
 Calls Tryz.prog 185 #[v, .int .i64 i, .int .i64 j] W (DelPost B v l i W) := by
 obtain ⟨i0, hi0, hz0, hz1, hz2⟩ := info_cut9 infoI9
 have hfl := flatJ_len l
 rcases id hown.2 with ⟨rfl, h0⟩ | ⟨g, cap, cur, rfl, hB, hg, hnc, hcm, hcs, htk⟩
 · omega
 have hil : i ≤ l.length := by omega
 have hjl : j ≤ l.length := by omega
 have hij : i ≤ j := by omega
 have hne : ¬ i = j := by omega
 have hic : i ≤ cap := by omega
 have hjc : j ≤ cap := by omega
 unfold maxLen at hcm
 have hcm2 : cap ≤ 9223372036854775807 := by omega
 obtain ⟨news, hnews⟩ : ∃ news, news = (flatJ l).drop (j * 2) := ⟨_, rfl⟩
 have hlen : news.length = (l.length - j) * 2 := by rw [hnews, List.length_drop, hfl]; omega
 have hcell : ∀ t, t < cur.size → W.drew.cell? ⟨g, t, none⟩ = cur[t]? := fun t _ => by
  show W.cell? _ = _
  simp [World.cell?, hg]
 have hfrz : ∀ (w : World) t, w.heap[g]? = some (.cells cur 175 (0, 0)) → w.frozen? ⟨g, t, none⟩ = false := fun w t hw => by simp [World.frozen?, hw]
 obtain ⟨A, hA, hsrc⟩ : ∃ A : Addr, (if cap = j then (some ⟨g, 0, none⟩ : Option Addr) else some ⟨g, j * 2, none⟩) = some A ∧ Hid (∀ t u, news[t]? = some u → W.drew.cell? (A.add t) = some u) := by
  by_cases h : cap = j
  · refine ⟨⟨g, 0, none⟩, by simp [h], hid fun t u hu => ?_⟩
    have := (List.getElem?_eq_some_iff.1 hu).1
    omega
  · refine ⟨⟨g, j * 2, none⟩, by simp [h], hid fun t u hu => ?_⟩
    have ht := (List.getElem?_eq_some_iff.1 hu).1
    rw [add_off, hcell _ (by omega)]
    rw [hnews, List.getElem?_drop, ← htk, List.getElem?_take_of_lt (by omega), Array.getElem?_toList] at hu
    exact hu
 have s2 : Hid (∀ u ∈ news, u.oneCell' = true) := hid fun u hu => by rw [hnews] at hu; exact hJ.lone u (List.mem_of_mem_drop hu)
 have s3 : Hid (∀ t, t < news.length → (W.drew.cell? ⟨g, 0 + i * 2 + t, none⟩).isSome = true ∧ W.drew.frozen? ⟨g, 0 + i * 2 + t, none⟩ = false) := hid fun t ht => by
  refine ⟨?_, hfrz W.drew _ hg⟩
  rw [hcell _ (by omega), Array.getElem?_eq_getElem (by omega)]
  rfl
 -- behind the append
 have hg1 := heap_setCells g 175 news (i * 2) W.drew cur hg
 have hL1 := below_setCells news (i * 2) W.drew ((Below.refl B W).drew) hB
 have hl1 := putL_list news (i * 2) cur (by omega)
 have hs1 := putL_size news (i * 2) cur
 obtain ⟨W1, hW1⟩ : ∃ W1, W1 = W.drew.setCells g (i * 2) news := ⟨_, rfl⟩
 rw [← hW1] at hg1 hL1
 replace hW1 := hid hW1
 generalize putL cur (i * 2) news = cur1 at *
 have hk1 : ∀ k, k ≠ g → W1.heap[k]? = W.heap[k]? := fun k hk => by rw [hW1.out]; exact heap_setCells_far hk news _ W.drew
 have e1 : l.length - (i + (l.length - j)) = 1 := by omega
 have hcl : ∀ ty, (Builtin.clear_ #[173] ty #[.slice (some ⟨g, (i + (l.length - j)) * 2, none⟩) (l.length - (i + (l.length - j))) (cap - (i + (l.length - j)))]).run Tryz.prog W1 = .ok (.tuple #[]) (W1.setCells g ((i + (l.length - j)) * 2) [.string ⟨#[]⟩, .slice none 0 0]) := fun ty => by
  rw [e1]
  refine run_clear1 W1 173 175 ty [.string ⟨#[]⟩, .slice none 0 0] Tryz.underlying173 Tryz.zeroValue175 (by kernel_rfl) (lone2 rfl rfl) g _ _ (fun k hk => ?_) (fun k hk => by simp [World.frozen?, hg1])
  have hk2 : k < 2 := hk
  rw [show W1.cell? ⟨g, (i + (l.length - j)) * 2 + k, none⟩ = cur1[(i + (l.length - j)) * 2 + k]? by simp [World.cell?, hg1], Array.getElem?_eq_getElem (by omega)]
  rfl
 have hg2 := heap_setCells g 175 [.string ⟨#[]⟩, .slice none 0 0] ((i + (l.length - j)) * 2) W1 cur1 hg1
 have hL2 := below_setCells [.string ⟨#[]⟩, .slice none 0 0] ((i + (l.length - j)) * 2) W1 hL1 hB
 have hl2 := putL_list [.string ⟨#[]⟩, .slice none 0 0] ((i + (l.length - j)) * 2) cur1 (by show _ + 2 ≤ _; omega)
 have hs2 := putL_size [.string ⟨#[]⟩, .slice none 0 0] ((i + (l.length - j)) * 2) cur1
 have hk2 : ∀ k, k ≠ g → (W1.setCells g ((i + (l.length - j)) * 2) [.string ⟨#[]⟩, .slice none 0 0]).heap[k]? = W.heap[k]? := fun k hk => (heap_setCells_far hk [.string ⟨#[]⟩, .slice none 0 0] _ W1).trans (hk1 k hk)
 generalize W1.setCells g ((i + (l.length - j)) * 2) [.string ⟨#[]⟩, .slice none 0 0] = W2 at *
 replace hk2 := hid hk2
 clear hk1
 have hfin : W2.ownsRow B 175 2 (.slice (some ⟨g, 0, none⟩) (i + (l.length - j)) cap) (l.length - 1) (flatJ (l.eraseIdx i)) := by
  have hE : flatJ (l.eraseIdx i) = (flatJ l).take (i * 2) ++ news := by
   rw [List.eraseIdx_eq_take_drop_succ, ← flatJ_app, flatJ_take, flatJ_drop, hnews, hj]
  refine ⟨by rw [hE, List.length_append, List.length_take, hfl, hlen]; omega, .inr ⟨g, cap, _, by congr 1; omega, hB, hg2, by omega, by unfold maxLen; omega, by rw [hs2, hs1, hcs], ?_⟩⟩
  rw [hl2, hE, List.append_assoc, List.take_append_of_le_length (by rw [List.length_take, hl1]; simp; omega), List.take_take, Nat.min_eq_left (by omega), hl1, List.take_append_of_le_length (by rw [List.length_append, List.length_take, hlen]; simp; omega), List.take_of_length_le (by rw [List.length_append, List.length_take, hlen]; omega), ← htk, List.take_take, Nat.min_eq_left (by omega)]
 replace hfin := hid hfin
 have hroom : i + (l.length - j) ≤ cap := by omega
 have hsl : i + (l.length - j) ≤ l.length := by omega
 clear hcell hfrz hg2 hl2 hs2 hl1 hs1 hg1 hnews htk hcs hg hfl hJ hown hL1 hj e1
 generalize hn : l.length = n at *
 replace hn := hid hn
 go_enter Tryz.func185, Tryz.ntmps185
 go_upto_region 5 with fail
 have hmx : Tryz.prog.follows .mixedOrders = true := by kernel_rfl
 refine wp_region_held (S := fun _ => True) hmx ?_
 show wpAnyH _ _ _ _ _ _ _ _ W.drew
 have hS0 : True := trivial
 refine reg_tk (i := 0) (v := .slice (some ⟨g, 0, none⟩) n cap) (some 20) rfl (fun w' hS => by skip; go_simp) hS0 ?_
 simp only [Act.put, List.setIfInBounds_toArray, List.set_cons_zero, List.set_cons_succ]
 refine reg_tk (i := 1) (v := .int .i64 i) (some 21) rfl (fun w' hS => by skip; go_simp) hS0 ?_
 simp only [Act.put, List.setIfInBounds_toArray, List.set_cons_zero, List.set_cons_succ]
 refine reg_tk (i := 2) (v := .slice (some ⟨g, 0, none⟩) i cap) (some 22) rfl (fun w' hS => by skip; go_simp) hS0 ?_
 simp only [Act.put, List.setIfInBounds_toArray, List.set_cons_zero, List.set_cons_succ]
 refine reg_tk (i := 3) (v := .slice (some ⟨g, 0, none⟩) n cap) (some 23) rfl (fun w' hS => by skip; go_simp) hS0 ?_
 simp only [Act.put, List.setIfInBounds_toArray, List.set_cons_zero, List.set_cons_succ]
 refine reg_tk (i := 4) (v := .int .i64 j) (some 24) rfl (fun w' hS => by skip; go_simp) hS0 ?_
 simp only [Act.put, List.setIfInBounds_toArray, List.set_cons_zero, List.set_cons_succ]
 refine reg_tk (i := 5) (v := .slice (some A) (n - j) (cap - j)) (some 25) rfl (fun w' hS => by skip; go_simp) hS0 ?_
 simp only [Act.put, List.setIfInBounds_toArray, List.set_cons_zero, List.set_cons_succ]
 refine held_one (i := 6) (by kernel_rfl) rfl (fun K hQ => ?_)
 refine step_append_room rfl (.tmp 22) (.tmp 25) 173 rfl 175 i0 2 Tryz.underlying173 hi0 hz1 g 0 i cap (by simp [Act.eval]) A (n - j) (cap - j) news (by simp [Act.eval]) hlen hsrc.out s2.out hroom s3.out ?_
 rw [Nat.zero_add, ← hW1.out]
 refine hQ.out _ _ trivial ?_
 clear hQ
 try simp only [Act.put, List.setIfInBounds_toArray]
 refine reg_tk (i := 7) (v := .slice (some ⟨g, 0, none⟩) (i + (n - j)) cap) (some 0) rfl (fun w' hS => by skip; go_simp) hS0 ?_
 simp only [Act.put]
 refine wpAnyH_done (by kernel_rfl) ?_ _
 show Exit.then _ _ Exit.normal _ _
 clear hsrc s2 s3 hW1 hlen hA
 go_wp2_with fail
 go_ret
 exact ⟨_, rfl, by rw [hn.out]; exact hfin.out, rfl, fun k hk => hk2.out k (fun e => hk (by rw [e]; rfl)), hL2⟩
end
end

end Go.Proofs.YtnjcdmjaecgblaaGreatDoor
