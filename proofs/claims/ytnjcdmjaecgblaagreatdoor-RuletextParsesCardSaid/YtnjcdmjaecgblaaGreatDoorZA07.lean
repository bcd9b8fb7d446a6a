/-
  ruletext as landed at a382b96: fields, the words of values; ruletext as landed at a382b96: the names of a kind, an element with an index, the first element with a name; What the walks of ruletext ask of package-level variables; numbers and pieces of texts; Decimal texts and strconv.Atoi. No program is named here; ruletext as landed at a382b96: lists and numbers, written and read.
-/
import Derived.Test.YtnjcdmjaecgblaaGreatDoorZA05
import Derived.Test.YtnjcdmjaecgblaaGreatDoorZA06
import Derived.Test.YtnjcdmjaecgblaaGreatDoorShelf
import Derived.Lib.AtoiErrMem
import Derived.Lib.LaidTab
import Derived.Lib.AtoiAllCases
import Derived.Lib.AppendIntMem
import Derived.WalkSmall
namespace Go.Proofs.YtnjcdmjaecgblaaGreatDoor
section
open Go.RowKit Go.Lib
set_option maxHeartbeats 4000000 in
set_option maxRecDepth 100000 in
theorem dfields_b (k : Int) (W : World) : Calls Tryz.prog 10 #[.int .i64 k] W (SlNew (fieldsv k) W) := by
 by_cases h1 : k = 1
 · subst h1
   rw [fieldsU]
   go_enter Tryz.func10, Tryz.ntmps10
   go_wp2_with fail
   go_ret
   exact ⟨_, rfl, strs_blk (l := [⟨#[98, 117, 105, 108, 100, 105, 110, 103]⟩, ⟨#[100, 101, 112, 111, 116]⟩, ⟨#[99, 108, 97, 115, 115]⟩, ⟨#[119]⟩, ⟨#[104]⟩, ⟨#[114, 97, 100, 105, 117, 115]⟩, ⟨#[115, 112, 101, 101, 100]⟩, ⟨#[115, 105, 103, 104, 116]⟩, ⟨#[104, 112]⟩, ⟨#[97, 114, 109, 111, 114]⟩, ⟨#[108, 111, 97, 100]⟩, ⟨#[119, 101, 97, 112, 111, 110]⟩, ⟨#[111, 114, 101]⟩, ⟨#[119, 111, 111, 100]⟩, ⟨#[116, 105, 109, 101]⟩, ⟨#[110, 101, 101, 100, 115]⟩, ⟨#[116, 114, 97, 105, 110, 115]⟩, ⟨#[114, 101, 115, 101, 97, 114, 99, 104, 101, 115]⟩]) (Blk.new W [.string ⟨#[98, 117, 105, 108, 100, 105, 110, 103]⟩, .string ⟨#[100, 101, 112, 111, 116]⟩, .string ⟨#[99, 108, 97, 115, 115]⟩, .string ⟨#[119]⟩, .string ⟨#[104]⟩, .string ⟨#[114, 97, 100, 105, 117, 115]⟩, .string ⟨#[115, 112, 101, 101, 100]⟩, .string ⟨#[115, 105, 103, 104, 116]⟩, .string ⟨#[104, 112]⟩, .string ⟨#[97, 114, 109, 111, 114]⟩, .string ⟨#[108, 111, 97, 100]⟩, .string ⟨#[119, 101, 97, 112, 111, 110]⟩, .string ⟨#[111, 114, 101]⟩, .string ⟨#[119, 111, 111, 100]⟩, .string ⟨#[116, 105, 109, 101]⟩, .string ⟨#[110, 101, 101, 100, 115]⟩, .string ⟨#[116, 114, 97, 105, 110, 115]⟩, .string ⟨#[114, 101, 115, 101, 97, 114, 99, 104, 101, 115]⟩] _) (by decide) 18, (Below.refl W.heap.size W).alloc (Nat.le_refl _) _⟩
 have z1 : (k == 1) = false := beq_eq_false_iff_ne.2 h1
 by_cases h2 : k = 2
 · subst h2
   rw [fieldsW]
   go_enter Tryz.func10, Tryz.ntmps10
   go_wp2_with fail
   go_ret
   exact ⟨_, rfl, strs_blk (l := [⟨#[114, 97, 110, 103, 101]⟩, ⟨#[100, 97, 109, 97, 103, 101]⟩, ⟨#[99, 111, 111, 108]⟩, ⟨#[115, 112, 101, 101, 100]⟩, ⟨#[115, 112, 108, 97, 115, 104]⟩]) (Blk.new W [.string ⟨#[114, 97, 110, 103, 101]⟩, .string ⟨#[100, 97, 109, 97, 103, 101]⟩, .string ⟨#[99, 111, 111, 108]⟩, .string ⟨#[115, 112, 101, 101, 100]⟩, .string ⟨#[115, 112, 108, 97, 115, 104]⟩] _) (by decide) 5, (Below.refl W.heap.size W).alloc (Nat.le_refl _) _⟩
 have z2 : (k == 2) = false := beq_eq_false_iff_ne.2 h2
 by_cases h3 : k = 3
 · subst h3
   rw [fieldsT]
   go_enter Tryz.func10, Tryz.ntmps10
   go_wp2_with fail
   go_ret
   exact ⟨_, rfl, strs_blk (l := [⟨#[110, 101, 101, 100, 115]⟩, ⟨#[111, 114, 101]⟩, ⟨#[119, 111, 111, 100]⟩, ⟨#[116, 105, 109, 101]⟩, ⟨#[117, 110, 105, 116]⟩, ⟨#[115, 116, 97, 116]⟩, ⟨#[97, 109, 111, 117, 110, 116]⟩]) (Blk.new W [.string ⟨#[110, 101, 101, 100, 115]⟩, .string ⟨#[111, 114, 101]⟩, .string ⟨#[119, 111, 111, 100]⟩, .string ⟨#[116, 105, 109, 101]⟩, .string ⟨#[117, 110, 105, 116]⟩, .string ⟨#[115, 116, 97, 116]⟩, .string ⟨#[97, 109, 111, 117, 110, 116]⟩] _) (by decide) 7, (Below.refl W.heap.size W).alloc (Nat.le_refl _) _⟩
 have z3 : (k == 3) = false := beq_eq_false_iff_ne.2 h3
 rw [show fieldsv k = [] by unfold fieldsv; rw [if_neg h1, if_neg h2, if_neg h3]]
 go_enter Tryz.func10, Tryz.ntmps10
 go_wp2_with fail
 go_ret
 exact ⟨_, rfl, strSl_nil W, Below.refl _ _⟩
theorem plS_findv (l : List ByteArray) (s : ByteArray) : plS l s = findv l s := by
 rcases idxN_is (fun i => match l[i]? with | some x => decide (x = s) | none => false) l.length with ⟨i, hi, e, h, hb⟩ | ⟨e, hb⟩
 · rw [show plS l s = i from e]
   unfold findv
   have e2 : l.findIdx? (fun x => decide (x = s)) = some i := by
    rw [List.findIdx?_eq_some_iff_getElem]
    simp only [List.getElem?_eq_getElem hi] at h
    refine ⟨hi, h, fun j hj => ?_⟩
    have := hb j hj
    simp only [List.getElem?_eq_getElem (show j < l.length by omega)] at this
    rw [this]
    simp
   rw [e2]
 · rw [show plS l s = -1 from e]
   unfold findv
   have e2 : l.findIdx? (fun x => decide (x = s)) = none := by
    rw [List.findIdx?_eq_none_iff]
    intro x hx
    obtain ⟨j, hj, rfl⟩ := List.getElem_of_mem hx
    have := hb j hj
    simp only [List.getElem?_eq_getElem hj] at this
    exact this
   rw [e2]
theorem dtyp_no {k : Int} {f : ByteArray} : hasv (fieldsv k) f = decide (¬ typev k f = 0) := by
 cases h : hasv (fieldsv k) f with
 | false => rw [type_miss h]; rfl
 | true =>
  have hm := hasv_iff.1 h
  have ht := type_in hm
  symm
  refine decide_eq_true ?_
  rw [ht]
  unfold sortv
  split
  · decide
  · split
    · decide
    · split <;> decide
set_option maxHeartbeats 4000000 in
theorem disfield_b (k : Int) (f : ByteArray) (b : Bool) (W : World) (e : Hid (b = hasv (fieldsv k) f)) :
 Calls Tryz.prog 26 #[.int .i64 k, .string f] W fun e w' => e = .returned (.bool b) ∧ Below W.heap.size W w' := by
 go_enter Tryz.func26, Tryz.ntmps26
 go_wp2_with fail
 ((with_reducible refine (dfields_b k _).mono ?_); rintro e w1 ⟨v, rfl, hv, hb⟩)
 obtain ⟨p, c, rfl, -⟩ := id hv
 go_wp2_with fail
 ((with_reducible refine (lhas_b _ (fieldsv k) f b w1 _ hv (Below.refl _ _) e).mono ?_); rintro e w2 ⟨rfl, rfl⟩)
 go_wp2_with fail
 go_ret
 exact ⟨rfl, hb⟩
theorem dl_cat {P : Program} {a b x : ByteArray} (h : x = a ++ b) (hs : a.size + b.size ≤ 10000000) (w : World) : (Op.stringOp .add a b).run P w = .ok (.string x) w := by
 rw [run_string_add_sum w a b (by omega), h]
theorem beg_cat (f : ByteArray) : (ByteArray.mk #[32] ++ f) ++ ByteArray.mk #[32] = toB (32 :: (f.toList ++ [32])) := by
 apply ByteArray.ext
 apply Array.toList_inj.1
 simp [toB, ByteArray.data_append, Lib.toList_data]
set_option maxHeartbeats 4000000 in
theorem dbegin_b (f x : ByteArray) (W : World) (hf : f.size ≤ 1000) (e : Hid (x = toB (32 :: (f.toList ++ [32])))) :
 Calls Tryz.prog 54 #[.string f] W fun e w' => e = .returned (.string x) ∧ W = w' := by
 obtain ⟨x1, e1⟩ : ∃ x, x = ByteArray.mk #[32] ++ f := ⟨_, rfl⟩
 have e2 : x = x1 ++ ByteArray.mk #[32] := by rw [e1, beg_cat]; exact e.out
 have m1 : x1.size ≤ 1001 := by rw [e1, ByteArray.size_append]; show 1 + f.size ≤ 1001; omega
 have r1 := dl_cat (P := Tryz.prog) e1 (by show 1 + _ ≤ _; omega)
 have r2 := dl_cat (P := Tryz.prog) e2 (by show _ + 1 ≤ _; omega)
 clear e e1 e2
 go_enter Tryz.func54, Tryz.ntmps54
 go_wp2_with fail
 go_ret
 exact ⟨rfl, rfl⟩
set_option maxHeartbeats 4000000 in
theorem dflagText_b (b : Bool) (t : ByteArray) (W : World) (e : Hid (t = toB (if b = true then yesB else noB))) : Calls Tryz.prog 61 #[.bool b] W fun e w' => e = .returned (.string t) ∧ W = w' := by
 rw [e.out]
 clear e
 cases b with
 | true =>
  go_enter Tryz.func61, Tryz.ntmps61
  go_wp2_with fail
  go_ret
  exact ⟨rfl, rfl⟩
 | false =>
  go_enter Tryz.func61, Tryz.ntmps61
  go_wp2_with fail
  go_ret
  exact ⟨rfl, rfl⟩
set_option maxHeartbeats 4000000 in
theorem dnameText_b (s t : ByteArray) (W : World) (e : Hid (t = toB (if s = ⟨#[]⟩ then dashB else s.toList))) : Calls Tryz.prog 62 #[.string s] W fun e w' => e = .returned (.string t) ∧ W = w' := by
 rw [e.out]
 clear e
 by_cases hd : s = ⟨#[]⟩
 · subst hd
   rw [if_pos rfl]
   go_enter Tryz.func62, Tryz.ntmps62
   go_wp2_with fail
   go_ret
   exact ⟨rfl, rfl⟩
 · obtain ⟨a1, a2⟩ := lit_two (l := []) hd
   rw [if_neg hd, list_toB]
   have a3 : (s.toList).isEmpty = false := by simpa using a2
   go_enter Tryz.func62, Tryz.ntmps62
   go_wp2_with fail
   go_ret
   exact ⟨rfl, rfl⟩
def readFv (s : List UInt8) : Option Bool := if s = yesB then some true else if s = noB then some false else none
def ReadFPost (s : List UInt8) (w : World) (e : Ending) (w' : World) : Prop := ∃ x b, e = .returned (.tuple #[.bool x, .bool b]) ∧ (b = true → readFv s = some x) ∧ (b = false → readFv s = none) ∧ w = w'
set_option maxHeartbeats 4000000 in
theorem dreadFlag_b (s : ByteArray) (W : World) : Calls Tryz.prog 73 #[.string s] W (ReadFPost s.toList W) := by
 by_cases h1 : s = ⟨#[121, 101, 115]⟩
 · subst h1
   have hr := hid (show readFv (ByteArray.mk #[121, 101, 115]).toList = some true by rw [Lib.toList_data]; rfl)
   go_enter Tryz.func73, Tryz.ntmps73
   go_wp2_with fail
   go_ret2
   exact ⟨_, _, rfl, fun _ => hr.out, fun q => (by cases q), rfl⟩
 · obtain ⟨a1, a2⟩ := lit_two (l := [121, 101, 115]) h1
   by_cases h2 : s = ⟨#[110, 111]⟩
   · subst h2
     have hr := hid (show readFv (ByteArray.mk #[110, 111]).toList = some false by rw [Lib.toList_data]; rfl)
     go_enter Tryz.func73, Tryz.ntmps73
     go_wp2_with fail
     go_ret2
     exact ⟨_, _, rfl, fun _ => hr.out, fun q => (by cases q), rfl⟩
   · obtain ⟨b1, b2⟩ := lit_two (l := [110, 111]) h2
     have hr := hid (show readFv s.toList = none by unfold readFv; rw [if_neg (show ¬ s.toList = yesB from a2), if_neg (show ¬ s.toList = noB from b2)])
     go_enter Tryz.func73, Tryz.ntmps73
     go_wp2_with fail
     go_ret2
     exact ⟨_, _, rfl, fun q => (by cases q), fun _ => hr.out, rfl⟩
def readNv (s : List UInt8) : Option (List UInt8) := if s = dashB then some [] else if nameB s = true then some s else none
def ReadNPost (s : List UInt8) (w : World) (e : Ending) (w' : World) : Prop := ∃ x b, e = .returned (.tuple #[.string x, .bool b]) ∧ (b = true → readNv s = some x.toList) ∧ (b = false → readNv s = none) ∧ w = w'
set_option maxHeartbeats 4000000 in
theorem dreadName_b (s : ByteArray) (W : World) : Calls Tryz.prog 74 #[.string s] W (ReadNPost s.toList W) := by
 by_cases h1 : s = ⟨#[45]⟩
 · subst h1
   have hr : readNv (ByteArray.mk #[45]).toList = some (ByteArray.mk #[]).toList := by rw [Lib.toList_data, Lib.toList_data]; rfl
   replace hr := hid hr
   go_enter Tryz.func74, Tryz.ntmps74
   go_wp2_with fail
   go_ret2
   exact ⟨_, _, rfl, fun _ => hr.out, fun q => (by cases q), rfl⟩
 · obtain ⟨a1, a2⟩ := lit_two (l := [45]) h1
   obtain ⟨b, hb⟩ : ∃ b, Hid (b = nameB s.data.toList) := ⟨_, hid rfl⟩
   have hr := hid (show readNv s.toList = if b = true then some s.toList else none by unfold readNv; rw [if_neg (show ¬ s.toList = dashB from a2), hb.out, Lib.toList_data])
   go_enter Tryz.func74, Tryz.ntmps74
   go_wp2_with fail
   ((with_reducible refine (lname_b s b _ hb).mono ?_); rintro e w1 ⟨rfl, rfl⟩)
   go_wp2_with fail
   go_ret2
   exact ⟨_, _, rfl, fun q => by rw [hr.out, if_pos q], fun q => by rw [hr.out, q, if_neg (by decide)], rfl⟩
end
section
open Go.RowKit Go.Lib
def NamesP (l : List ByteArray) (w : World) (e : Ending) (w' : World) : Prop := ∃ v, e = .returned v ∧ StrSl w' v l ∧ SB w' v l ∧ Below w.heap.size w w'
set_option maxHeartbeats 8000000 in
set_option maxRecDepth 100000 in
theorem dnames1_b (su sw st : Value) (r : R9) (V0 W : World) (hR : RAt V0 su sw st r) (h0 : Below V0.heap.size V0 W) (hsm : r.us.length ≤ 10000) :
 Calls Tryz.prog 51 #[.agg #[su, sw, st], .int .i64 1] W (NamesP (namesU r) W) := by
 obtain ⟨i0, hi0, hz0, hz1, hz2⟩ := info_cut9 infoStr9
 obtain ⟨p, c, rfl, hm, hat⟩ := hR.u
 obtain ⟨p1, c1, rfl, hm1, hat1⟩ := hR.w
 obtain ⟨p2, c2, rfl, hm2, hat2⟩ := hR.t
 have hB := Blk.new W [.slice p r.us.length c, .slice p1 r.ws.length c1, .slice p2 r.ts.length c2] 31
 have hL := (Below.refl W.heap.size W).alloc (Nat.le_refl _) (.cells [.slice p r.us.length c, .slice p1 r.ws.length c1, .slice p2 r.ts.length c2].toArray 31)
 unfold maxLen at hm hm1 hm2
 obtain ⟨_, _, _, _, _, _⟩ := hB.three
 have z1 : (((1 : Int) == 1) = true) := rfl
 clear hR hat1 hat2
 go_enter Tryz.func51, Tryz.ntmps51
 go_upto_region 1 with fail
 generalize W.alloc (.cells [.slice p r.us.length c, .slice p1 r.ws.length c1, .slice p2 r.ts.length c2].toArray 31) = V at *
 go_wp2_with fail
 go_loopw [5, 18] (fun vo vi wr => ∃ i : Nat, vi = .int .i64 i ∧ i ≤ r.us.length ∧ wr.ownsRow (W.heap.size + 1) 9 1 vo i (strs ((namesU r).take i)) ∧ Below W.heap.size W wr) (fun _ vi _ => r.us.length - (RowKit.intOf vi).toNat)
 case atStart => exact ⟨0, rfl, by omega, World.ownsRow_nil _ _ _ _, hL⟩
 case round =>
  have hVl := hB.lt
  clear hB hL
  obtain ⟨i, rfl, hi, hown, hL⟩ := hrel
  by_cases hlt : i < r.us.length
  · have d1 : (i : Int) < r.us.length := by omega
    have d0 : (0 : Int) ≤ i := by omega
    obtain ⟨g, o, rfl, hc⟩ := hat (by omega)
    obtain ⟨vs, hU, hcs⟩ := (hc i hlt).ul
    have kl := hid ((hcs.below' (hcs.lt' hU.name) (h0.trans (hL.mono h0.size))).loads (P := Tryz.prog) hU.len)
    have hN := hid (map_take (f := U9.nm) hlt)
    have hZ := Blk.new wr vs 53
    have k1 := (hZ.cell 0).trans hU.name
    have hU' := hid hU
    obtain ⟨x, hx⟩ : ∃ x, (r.us[i]'hlt).nm = x := ⟨_, rfl⟩
    rw [hx] at k1 hN
    have hL2 := hL.alloc hL.size (.cells vs.toArray 53)
    have hown1 := hown.alloc (.cells vs.toArray 53)
    have hWB := hL2.size
    clear hx hat hc hcs hU hZ
    go_upto_region 6 with fail
    go_cut [7] from 19 to 27 (fun s7 wx => s7 = .pointer (some ⟨wr.heap.size, 0, none⟩) ∧ wx = wr.alloc (.cells vs.toArray 53))
    case first =>
     go_wp2_with (first | (with_reducible refine wpList_load_agg rfl 53 _ rfl ⟨g, o + i * 19, none⟩ (by with_unfolding_all rfl) Tryz.isAgg53 Tryz.sizeOf53 vs kl.out ?_) | (with_reducible refine wpList_alloc_agg rfl 53 rfl _ rfl uZero zeroU ?_) | (with_reducible refine wpList_store_new rfl 53 _ _ rfl rfl Tryz.sizeOf53 vs uZero 53 (by with_unfolding_all rfl) (by with_unfolding_all rfl) hU'.out.len rfl hU'.out.lone ?_))
     go_meet
     case rel => exact ⟨rfl, rfl⟩
    case rest =>
    obtain ⟨rfl, rfl⟩ := hcut
    generalize hX : wr.alloc (.cells vs.toArray 53) = X at *
    clear hX hU' kl hown
    go_wp2_with (at_builtin; refine wpList_append_own _ rfl _ _ 23 rfl (W.heap.size + 1) 9 i0 (.string ⟨#[]⟩) 1 16 Tryz.underlying23 hi0 hz0 hz1 hz2 rfl (by decide) _ _ _ rfl (hown1.alloc _) ⟨X.heap.size, 0, none⟩ 1 1 [.string x] rfl rfl cells_new (str_lone9 _) (by unfold maxLen; omega) (by omega) (by first | (simp; done) | (simp; omega)) ?_)
    intro v' w' hown' hg' _
    have hb' := below_push (t := 9) hL2.size hL2 hown1 (by omega) hg'
    have hown2 := own_to hown' (m := i + 1) (ys := strs ((namesU r).take (i + 1))) rfl (by unfold namesU; rw [hN.out]; exact strs_snoc _ x)
    clear hg' hown1 hL hL2 hown' k1 hN
    go_wp2_with fail
    go_roundw
    case rel => exact ⟨i + 1, by go_num, by omega, hown2, hb'⟩
    case measure => simp [RowKit.intOf]; omega
  · obtain rfl : i = r.us.length := by omega
    have hown2 := own_to hown (m := r.us.length) (ys := strs (namesU r)) rfl (by rw [List.take_of_length_le (by unfold namesU; simp)])
    have d1 : ¬ (r.us.length : Int) < r.us.length := by omega
    clear hown hat
    go_wp2_with fail
    go_ret
    exact ⟨_, rfl, own_strs hown2 (by omega), own_sb hown2 (by omega), hL⟩
set_option maxHeartbeats 8000000 in
set_option maxRecDepth 100000 in
theorem dnames2_b (su sw st : Value) (r : R9) (V0 W : World) (hR : RAt V0 su sw st r) (h0 : Below V0.heap.size V0 W) (hsm : r.ws.length ≤ 10000) :
 Calls Tryz.prog 51 #[.agg #[su, sw, st], .int .i64 2] W (NamesP (namesW r) W) := by
 obtain ⟨i0, hi0, hz0, hz1, hz2⟩ := info_cut9 infoStr9
 obtain ⟨p, c, rfl, hm, hat⟩ := hR.u
 obtain ⟨p1, c1, rfl, hm1, hat1⟩ := hR.w
 obtain ⟨p2, c2, rfl, hm2, hat2⟩ := hR.t
 have hB := Blk.new W [.slice p r.us.length c, .slice p1 r.ws.length c1, .slice p2 r.ts.length c2] 31
 have hL := (Below.refl W.heap.size W).alloc (Nat.le_refl _) (.cells [.slice p r.us.length c, .slice p1 r.ws.length c1, .slice p2 r.ts.length c2].toArray 31)
 unfold maxLen at hm hm1 hm2
 obtain ⟨_, _, _, _, _, _⟩ := hB.three
 have z1 : (((2 : Int) == 1) = false) := rfl
 have z2 : (((2 : Int) == 2) = true) := rfl
 clear hR hat hat2
 go_enter Tryz.func51, Tryz.ntmps51
 go_upto_region 1 with fail
 generalize W.alloc (.cells [.slice p r.us.length c, .slice p1 r.ws.length c1, .slice p2 r.ts.length c2].toArray 31) = V at *
 go_wp2_with fail
 go_loopw [5, 33] (fun vo vi wr => ∃ i : Nat, vi = .int .i64 i ∧ i ≤ r.ws.length ∧ wr.ownsRow (W.heap.size + 1) 9 1 vo i (strs ((namesW r).take i)) ∧ Below W.heap.size W wr) (fun _ vi _ => r.ws.length - (RowKit.intOf vi).toNat)
 case atStart => exact ⟨0, rfl, by omega, World.ownsRow_nil _ _ _ _, hL⟩
 case round =>
  have hVl := hB.lt
  clear hB hL
  obtain ⟨i, rfl, hi, hown, hL⟩ := hrel
  by_cases hlt : i < r.ws.length
  · have d1 : (i : Int) < r.ws.length := by omega
    have d0 : (0 : Int) ≤ i := by omega
    obtain ⟨g, o, rfl, hc⟩ := hat1 (by omega)
    obtain ⟨vs, hU, hcs⟩ := (hc i hlt).wl
    have kl := hid ((hcs.below' (hcs.lt' hU.name) (h0.trans (hL.mono h0.size))).loads (P := Tryz.prog) hU.len)
    have hN := hid (map_take (f := W9.nm) hlt)
    have hZ := Blk.new wr vs 51
    have k1 := (hZ.cell 0).trans hU.name
    have hU' := hid hU
    obtain ⟨x, hx⟩ : ∃ x, (r.ws[i]'hlt).nm = x := ⟨_, rfl⟩
    rw [hx] at k1 hN
    have hL2 := hL.alloc hL.size (.cells vs.toArray 51)
    have hown1 := hown.alloc (.cells vs.toArray 51)
    have hWB := hL2.size
    clear hx hat1 hc hcs hU hZ
    go_upto_region 12 with fail
    go_cut [9] from 34 to 42 (fun s7 wx => s7 = .pointer (some ⟨wr.heap.size, 0, none⟩) ∧ wx = wr.alloc (.cells vs.toArray 51))
    case first =>
     go_wp2_with (first | (with_reducible refine wpList_load_agg rfl 51 _ rfl ⟨g, o + i * 6, none⟩ (by with_unfolding_all rfl) Tryz.isAgg51 Tryz.sizeOf51 vs kl.out ?_) | (with_reducible refine wpList_alloc_agg rfl 51 rfl _ rfl wZero zeroW ?_) | (with_reducible refine wpList_store_new rfl 51 _ _ rfl rfl Tryz.sizeOf51 vs wZero 51 (by with_unfolding_all rfl) (by with_unfolding_all rfl) hU'.out.len rfl hU'.out.lone ?_))
     go_meet
     case rel => exact ⟨rfl, rfl⟩
    case rest =>
    obtain ⟨rfl, rfl⟩ := hcut
    generalize hX : wr.alloc (.cells vs.toArray 51) = X at *
    clear hX hU' kl hown
    go_wp2_with (at_builtin; refine wpList_append_own _ rfl _ _ 23 rfl (W.heap.size + 1) 9 i0 (.string ⟨#[]⟩) 1 16 Tryz.underlying23 hi0 hz0 hz1 hz2 rfl (by decide) _ _ _ rfl (hown1.alloc _) ⟨X.heap.size, 0, none⟩ 1 1 [.string x] rfl rfl cells_new (str_lone9 _) (by unfold maxLen; omega) (by omega) (by first | (simp; done) | (simp; omega)) ?_)
    intro v' w' hown' hg' _
    have hb' := below_push (t := 9) hL2.size hL2 hown1 (by omega) hg'
    have hown2 := own_to hown' (m := i + 1) (ys := strs ((namesW r).take (i + 1))) rfl (by unfold namesW; rw [hN.out]; exact strs_snoc _ x)
    clear hg' hown1 hL hL2 hown' k1 hN
    go_wp2_with fail
    go_roundw
    case rel => exact ⟨i + 1, by go_num, by omega, hown2, hb'⟩
    case measure => simp [RowKit.intOf]; omega
  · obtain rfl : i = r.ws.length := by omega
    have hown2 := own_to hown (m := r.ws.length) (ys := strs (namesW r)) rfl (by rw [List.take_of_length_le (by unfold namesW; simp)])
    have d1 : ¬ (r.ws.length : Int) < r.ws.length := by omega
    clear hown hat1
    go_wp2_with fail
    go_ret
    exact ⟨_, rfl, own_strs hown2 (by omega), own_sb hown2 (by omega), hL⟩
set_option maxHeartbeats 8000000 in
set_option maxRecDepth 100000 in
theorem dnames3_b (su sw st : Value) (r : R9) (V0 W : World) (hR : RAt V0 su sw st r) (h0 : Below V0.heap.size V0 W) (hsm : r.ts.length ≤ 10000) :
 Calls Tryz.prog 51 #[.agg #[su, sw, st], .int .i64 3] W (NamesP (namesT r) W) := by
 obtain ⟨i0, hi0, hz0, hz1, hz2⟩ := info_cut9 infoStr9
 obtain ⟨p, c, rfl, hm, hat⟩ := hR.u
 obtain ⟨p1, c1, rfl, hm1, hat1⟩ := hR.w
 obtain ⟨p2, c2, rfl, hm2, hat2⟩ := hR.t
 have hB := Blk.new W [.slice p r.us.length c, .slice p1 r.ws.length c1, .slice p2 r.ts.length c2] 31
 have hL := (Below.refl W.heap.size W).alloc (Nat.le_refl _) (.cells [.slice p r.us.length c, .slice p1 r.ws.length c1, .slice p2 r.ts.length c2].toArray 31)
 unfold maxLen at hm hm1 hm2
 obtain ⟨_, _, _, _, _, _⟩ := hB.three
 have z1 : (((3 : Int) == 1) = false) := rfl
 have z2 : (((3 : Int) == 2) = false) := rfl
 have z3 : (((3 : Int) == 3) = true) := rfl
 clear hR hat hat1
 go_enter Tryz.func51, Tryz.ntmps51
 go_upto_region 1 with fail
 generalize W.alloc (.cells [.slice p r.us.length c, .slice p1 r.ws.length c1, .slice p2 r.ts.length c2].toArray 31) = V at *
 go_wp2_with fail
 go_loopw [5, 48] (fun vo vi wr => ∃ i : Nat, vi = .int .i64 i ∧ i ≤ r.ts.length ∧ wr.ownsRow (W.heap.size + 1) 9 1 vo i (strs ((namesT r).take i)) ∧ Below W.heap.size W wr) (fun _ vi _ => r.ts.length - (RowKit.intOf vi).toNat)
 case atStart => exact ⟨0, rfl, by omega, World.ownsRow_nil _ _ _ _, hL⟩
 case round =>
  have hVl := hB.lt
  clear hB hL
  obtain ⟨i, rfl, hi, hown, hL⟩ := hrel
  by_cases hlt : i < r.ts.length
  · have d1 : (i : Int) < r.ts.length := by omega
    have d0 : (0 : Int) ≤ i := by omega
    obtain ⟨g, o, rfl, hc⟩ := hat2 (by omega)
    obtain ⟨vs, hU, hcs⟩ := (hc i hlt).tl
    have kl := hid ((hcs.below' (hcs.lt' hU.name) (h0.trans (hL.mono h0.size))).loads (P := Tryz.prog) hU.len)
    have hN := hid (map_take (f := T9.nm) hlt)
    have hZ := Blk.new wr vs 56
    have k1 := (hZ.cell 0).trans hU.name
    have hU' := hid hU
    obtain ⟨x, hx⟩ : ∃ x, (r.ts[i]'hlt).nm = x := ⟨_, rfl⟩
    rw [hx] at k1 hN
    have hL2 := hL.alloc hL.size (.cells vs.toArray 56)
    have hown1 := hown.alloc (.cells vs.toArray 56)
    have hWB := hL2.size
    clear hx hat2 hc hcs hU hZ
    go_upto_region 18 with fail
    go_cut [11] from 49 to 57 (fun s7 wx => s7 = .pointer (some ⟨wr.heap.size, 0, none⟩) ∧ wx = wr.alloc (.cells vs.toArray 56))
    case first =>
     go_wp2_with (first | (with_reducible refine wpList_load_agg rfl 56 _ rfl ⟨g, o + i * 8, none⟩ (by with_unfolding_all rfl) Tryz.isAgg56 Tryz.sizeOf56 vs kl.out ?_) | (with_reducible refine wpList_alloc_agg rfl 56 rfl _ rfl tZero zeroT ?_) | (with_reducible refine wpList_store_new rfl 56 _ _ rfl rfl Tryz.sizeOf56 vs tZero 56 (by with_unfolding_all rfl) (by with_unfolding_all rfl) hU'.out.len rfl hU'.out.lone ?_))
     go_meet
     case rel => exact ⟨rfl, rfl⟩
    case rest =>
    obtain ⟨rfl, rfl⟩ := hcut
    generalize hX : wr.alloc (.cells vs.toArray 56) = X at *
    clear hX hU' kl hown
    go_wp2_with (at_builtin; refine wpList_append_own _ rfl _ _ 23 rfl (W.heap.size + 1) 9 i0 (.string ⟨#[]⟩) 1 16 Tryz.underlying23 hi0 hz0 hz1 hz2 rfl (by decide) _ _ _ rfl (hown1.alloc _) ⟨X.heap.size, 0, none⟩ 1 1 [.string x] rfl rfl cells_new (str_lone9 _) (by unfold maxLen; omega) (by omega) (by first | (simp; done) | (simp; omega)) ?_)
    intro v' w' hown' hg' _
    have hb' := below_push (t := 9) hL2.size hL2 hown1 (by omega) hg'
    have hown2 := own_to hown' (m := i + 1) (ys := strs ((namesT r).take (i + 1))) rfl (by unfold namesT; rw [hN.out]; exact strs_snoc _ x)
    clear hg' hown1 hL hL2 hown' k1 hN
    go_wp2_with fail
    go_roundw
    case rel => exact ⟨i + 1, by go_num, by omega, hown2, hb'⟩
    case measure => simp [RowKit.intOf]; omega
  · obtain rfl : i = r.ts.length := by omega
    have hown2 := own_to hown (m := r.ts.length) (ys := strs (namesT r)) rfl (by rw [List.take_of_length_le (by unfold namesT; simp)])
    have d1 : ¬ (r.ts.length : Int) < r.ts.length := by omega
    clear hown hat2
    go_wp2_with fail
    go_ret
    exact ⟨_, rfl, own_strs hown2 (by omega), own_sb hown2 (by omega), hL⟩
set_option maxHeartbeats 8000000 in
set_option maxRecDepth 100000 in
theorem dnames_b (su sw st : Value) (r : R9) (k : Int) (V0 W : World) (hR : RAt V0 su sw st r) (h0 : Below V0.heap.size V0 W) (hu : r.us.length ≤ 10000) (hw : r.ws.length ≤ 10000) (ht : r.ts.length ≤ 10000) :
 Calls Tryz.prog 51 #[.agg #[su, sw, st], .int .i64 k] W (NamesP (namesK r k) W) := by
 by_cases h1 : k = 1
 · subst h1
   exact dnames1_b su sw st r V0 W hR h0 hu
 by_cases h2 : k = 2
 · subst h2
   exact dnames2_b su sw st r V0 W hR h0 hw
 by_cases h3 : k = 3
 · subst h3
   exact dnames3_b su sw st r V0 W hR h0 ht
 have z1 : (k == 1) = false := beq_eq_false_iff_ne.2 h1
 have z2 : (k == 2) = false := beq_eq_false_iff_ne.2 h2
 have z3 : (k == 3) = false := beq_eq_false_iff_ne.2 h3
 obtain ⟨p, c, rfl, -, -⟩ := hR.u
 obtain ⟨p1, c1, rfl, -, -⟩ := hR.w
 obtain ⟨p2, c2, rfl, -, -⟩ := hR.t
 rw [show namesK r k = [] by unfold namesK; rw [if_neg h1, if_neg h2, if_neg h3]]
 have hL := (Below.refl W.heap.size W).alloc (Nat.le_refl _) (.cells [.slice p r.us.length c, .slice p1 r.ws.length c1, .slice p2 r.ts.length c2].toArray 31)
 clear hR
 go_enter Tryz.func51, Tryz.ntmps51
 go_wp2_with fail
 go_ret
 exact ⟨_, rfl, strSl_nil _, sb_nil _, hL⟩
theorem MapsAt.moves {w w' : World} {k : Int} {g o c : Nat} {m1 m2 m3 m4 : Value} {us : List Value} {t : TypeId} (h : MapsAt w k g o m1 m2 m3 m4) (hb : Blk w c us t) (hk : ∀ j, j ≠ c → w'.heap[j]? = w.heap[j]?) : MapsAt w' k g o m1 m2 m3 m4 :=
 ⟨h.1.moves hb hk, h.2.1.moves hb hk, h.2.2.1.moves hb hk, h.2.2.2.moves hb hk⟩
def SliceK (su sw st : Value) (k : Int) : Value := if k = 1 then su else if k = 2 then sw else st
def cellsK (k : Int) : Nat := if k = 1 then 19 else if k = 2 then 6 else 8
def AtPost (g : Nat) (o : Nat) (k : Int) (i : Nat) (w : World) (e : Ending) (w' : World) : Prop := ∃ v, e = .returned v ∧ Elem w' v k g (o + i * cellsK k) ∧ Below w.heap.size w w'
set_option maxHeartbeats 8000000 in
set_option maxRecDepth 100000 in
theorem dat1_b (sw st : Value) (g o n c i : Nat) (W : World) (hi : i < n) (_hn : n ≤ maxLen) :
 Calls Tryz.prog 53 #[.agg #[.slice (some ⟨g, o, none⟩) n c, sw, st], .int .i64 1, .int .i64 i] W (AtPost g o 1 i W) := by
 have hB := ((Blk.new W [.slice (some ⟨g, o, none⟩) n c, sw, st] 31).alloc (.cells eZero.toArray 64)).alloc (.cells eZero.toArray 64)
 have hX := ((Blk.new (W.alloc (.cells [.slice (some ⟨g, o, none⟩) n c, sw, st].toArray 31)) eZero 64).at (World.size_alloc _ _)).alloc (.cells eZero.toArray 64)
 have hY := (Blk.new ((W.alloc (.cells [.slice (some ⟨g, o, none⟩) n c, sw, st].toArray 31)).alloc (.cells eZero.toArray 64)) eZero 64).at (show _ = W.heap.size + 1 + 1 by simp)
 have hL := (((Below.refl W.heap.size W).alloc (Nat.le_refl _) (.cells [.slice (some ⟨g, o, none⟩) n c, sw, st].toArray 31)).alloc (by simp) (.cells eZero.toArray 64)).alloc (by simp only [World.size_alloc]; omega) (.cells eZero.toArray 64)
 have d0 : (0 : Int) ≤ i := by omega
 have d1 : (i : Int) < n := by omega
 have z1 : (((1 : Int) == 1) = true) := rfl
 go_enter Tryz.func53, Tryz.ntmps53
 go_upto_region 2 with (with_reducible refine wpList_alloc_agg rfl 64 rfl _ rfl eZero zeroEl ?_)
 generalize ((W.alloc (.cells [.slice (some ⟨g, o, none⟩) n c, sw, st].toArray 31)).alloc (.cells eZero.toArray 64)).alloc (.cells eZero.toArray 64) = V at *
 obtain ⟨_, _, _, _, _, _⟩ := hB.three
 go_wp2_with fail
 ((with_reducible refine (dunitElem_b g (o + i * 19) _).mono ?_); rintro e w1 ⟨m1, m2, m3, m4, rfl, hM, hb⟩)
 replace hX := hX.below hb
 replace hY := hY.below hb
 replace hL := below_call hL hb
 clear hb hB
 have hlo : ∀ v ∈ ([.map none, m1, m2, m3, m4] : List Value), v.oneCell' = true := by
  obtain ⟨q1, q2, q3, q4⟩ := hM
  intro v hv
  simp only [List.mem_cons, List.not_mem_nil, or_false] at hv
  rcases hv with rfl | rfl | rfl | rfl | rfl
  · rfl
  · exact q1.lone
  · exact q2.lone
  · exact q3.lone
  · exact q4.lone
 have hM2 := hM.moves hY (w' := w1.setRow (W.heap.size + 1 + 1) ([.map none, m1, m2, m3, m4] : List Value).toArray) (fun c hc => setRow_other _ _ _ hc)
 have hX2 := hX.putFar ([.map none, m1, m2, m3, m4] : List Value).toArray (show W.heap.size + 1 ≠ W.heap.size + 1 + 1 by omega)
 have hY2 := hY.put [.map none, m1, m2, m3, m4]
 have hL2 := below_setRow hL (show W.heap.size ≤ W.heap.size + 1 + 1 by omega) ([.map none, m1, m2, m3, m4] : List Value).toArray
 clear hM hX hL
 go_upto_region 9 with (with_reducible refine wpList_store_agg rfl 64 _ _ rfl rfl (W.heap.size + 1 + 1) (by with_unfolding_all rfl) Tryz.sizeOf64 [.map none, m1, m2, m3, m4] (by with_unfolding_all rfl) rfl hY rfl hlo ?_)
 generalize w1.setRow (W.heap.size + 1 + 1) ([.map none, m1, m2, m3, m4] : List Value).toArray = w2 at *
 go_wp2_with fail
 ((with_reducible refine (dsorts_b _).mono ?_); rintro e w3 ⟨m0, rfl, hS, hb⟩)
 replace hX2 := hX2.below hb
 replace hY2 := hY2.below hb
 replace hL2 := below_call hL2 hb
 replace hM2 := hM2.below hb
 clear hb hY
 have y0 := hY2.cell 0
 have f0 := hY2.frozen 0
 simp only [List.getElem?_cons_zero] at y0
 have hlo2 : ∀ v ∈ ([m0, m1, m2, m3, m4] : List Value), v.oneCell' = true := by
  intro v hv
  rcases List.mem_cons.1 hv with rfl | hv
  · obtain ⟨b, rfl, -⟩ := hS
    rfl
  · exact hlo v (List.mem_cons_of_mem _ hv)
 obtain ⟨b0, rfl, hSb⟩ := hS
 go_upto_region 10 with fail
 have hS3 := hSb.setCell (a := ⟨W.heap.size + 1 + 1, 0, none⟩) (hSb.ne hY2) (.map (some b0))
 have hM3 := hM2.moves hY2 (w' := w3.setCell ⟨W.heap.size + 1 + 1, 0, none⟩ (.map (some b0))) (fun c hc => Below.heap_setCell _ _ _ _ hc)
 have hX3 := hX2.far (c := W.heap.size + 1 + 1) (i := 0) (.map (some b0)) (show W.heap.size + 1 ≠ W.heap.size + 1 + 1 by omega)
 have hY3 : Blk (w3.setCell ⟨W.heap.size + 1 + 1, 0, none⟩ (.map (some b0))) (W.heap.size + 1 + 1) [.map (some b0), m1, m2, m3, m4] 64 := hY2.set 0 (.map (some b0))
 have hL3 := hL2.setCell (p := ⟨W.heap.size + 1 + 1, 0, none⟩) (show W.heap.size ≤ W.heap.size + 1 + 1 by omega) (.map (some b0))
 have ky := hid (hY3.loads (P := Tryz.prog) (k := 5) rfl)
 clear hSb hM2 hX2 hY2 hL2
 generalize w3.setCell ⟨W.heap.size + 1 + 1, 0, none⟩ (.map (some b0)) = w4 at *
 go_wp2_with (first | (with_reducible refine wpList_load_agg rfl 64 _ rfl ⟨W.heap.size + 1 + 1, 0, none⟩ (by with_unfolding_all rfl) Tryz.isAgg64 Tryz.sizeOf64 [.map (some b0), m1, m2, m3, m4] ky.out ?_) | (with_reducible refine wpList_store_agg rfl 64 _ _ rfl rfl (W.heap.size + 1) (by with_unfolding_all rfl) Tryz.sizeOf64 [.map (some b0), m1, m2, m3, m4] (by with_unfolding_all rfl) rfl hX3 rfl hlo2 ?_))

 refine bodyPost_ret (results_agg_one rfl rfl Tryz.isAgg64 Tryz.sizeOf64 (hX3.put [.map (some b0), m1, m2, m3, m4]) rfl) rfl ?_
 have hE : Elem w4 (.agg #[.map (some b0), m1, m2, m3, m4]) 1 g (o + i * cellsK 1) := ⟨_, _, _, _, _, rfl, ⟨b0, rfl, hS3⟩, hM3⟩
 exact ⟨_, rfl, hE.moves hX3 (fun c hc => setRow_other _ _ _ hc), below_setRow hL3 (Nat.le_succ _) _⟩
set_option maxHeartbeats 8000000 in
set_option maxRecDepth 100000 in
theorem dat2_b (su st : Value) (g o n c i : Nat) (W : World) (hi : i < n) (_hn : n ≤ maxLen) :
 Calls Tryz.prog 53 #[.agg #[su, .slice (some ⟨g, o, none⟩) n c, st], .int .i64 2, .int .i64 i] W (AtPost g o 2 i W) := by
 have hB := ((Blk.new W [su, .slice (some ⟨g, o, none⟩) n c, st] 31).alloc (.cells eZero.toArray 64)).alloc (.cells eZero.toArray 64)
 have hX := ((Blk.new (W.alloc (.cells [su, .slice (some ⟨g, o, none⟩) n c, st].toArray 31)) eZero 64).at (World.size_alloc _ _)).alloc (.cells eZero.toArray 64)
 have hY := (Blk.new ((W.alloc (.cells [su, .slice (some ⟨g, o, none⟩) n c, st].toArray 31)).alloc (.cells eZero.toArray 64)) eZero 64).at (show _ = W.heap.size + 1 + 1 by simp)
 have hL := (((Below.refl W.heap.size W).alloc (Nat.le_refl _) (.cells [su, .slice (some ⟨g, o, none⟩) n c, st].toArray 31)).alloc (by simp) (.cells eZero.toArray 64)).alloc (by simp only [World.size_alloc]; omega) (.cells eZero.toArray 64)
 have d0 : (0 : Int) ≤ i := by omega
 have d1 : (i : Int) < n := by omega
 have z1 : (((2 : Int) == 1) = false) := rfl
 have z2 : (((2 : Int) == 2) = true) := rfl
 go_enter Tryz.func53, Tryz.ntmps53
 go_upto_region 2 with (with_reducible refine wpList_alloc_agg rfl 64 rfl _ rfl eZero zeroEl ?_)
 generalize ((W.alloc (.cells [su, .slice (some ⟨g, o, none⟩) n c, st].toArray 31)).alloc (.cells eZero.toArray 64)).alloc (.cells eZero.toArray 64) = V at *
 obtain ⟨_, _, _, _, _, _⟩ := hB.three
 go_wp2_with fail
 ((with_reducible refine (dweapElem_b g (o + i * 6) _).mono ?_); rintro e w1 ⟨m1, m2, m3, m4, rfl, hM, hb⟩)
 replace hX := hX.below hb
 replace hY := hY.below hb
 replace hL := below_call hL hb
 clear hb hB
 have hlo : ∀ v ∈ ([.map none, m1, m2, m3, m4] : List Value), v.oneCell' = true := by
  obtain ⟨q1, q2, q3, q4⟩ := hM
  intro v hv
  simp only [List.mem_cons, List.not_mem_nil, or_false] at hv
  rcases hv with rfl | rfl | rfl | rfl | rfl
  · rfl
  · exact q1.lone
  · exact q2.lone
  · exact q3.lone
  · exact q4.lone
 have hM2 := hM.moves hY (w' := w1.setRow (W.heap.size + 1 + 1) ([.map none, m1, m2, m3, m4] : List Value).toArray) (fun c hc => setRow_other _ _ _ hc)
 have hX2 := hX.putFar ([.map none, m1, m2, m3, m4] : List Value).toArray (show W.heap.size + 1 ≠ W.heap.size + 1 + 1 by omega)
 have hY2 := hY.put [.map none, m1, m2, m3, m4]
 have hL2 := below_setRow hL (show W.heap.size ≤ W.heap.size + 1 + 1 by omega) ([.map none, m1, m2, m3, m4] : List Value).toArray
 clear hM hX hL
 go_upto_region 9 with (with_reducible refine wpList_store_agg rfl 64 _ _ rfl rfl (W.heap.size + 1 + 1) (by with_unfolding_all rfl) Tryz.sizeOf64 [.map none, m1, m2, m3, m4] (by with_unfolding_all rfl) rfl hY rfl hlo ?_)
 generalize w1.setRow (W.heap.size + 1 + 1) ([.map none, m1, m2, m3, m4] : List Value).toArray = w2 at *
 go_wp2_with fail
 ((with_reducible refine (dsorts_b _).mono ?_); rintro e w3 ⟨m0, rfl, hS, hb⟩)
 replace hX2 := hX2.below hb
 replace hY2 := hY2.below hb
 replace hL2 := below_call hL2 hb
 replace hM2 := hM2.below hb
 clear hb hY
 have y0 := hY2.cell 0
 have f0 := hY2.frozen 0
 simp only [List.getElem?_cons_zero] at y0
 have hlo2 : ∀ v ∈ ([m0, m1, m2, m3, m4] : List Value), v.oneCell' = true := by
  intro v hv
  rcases List.mem_cons.1 hv with rfl | hv
  · obtain ⟨b, rfl, -⟩ := hS
    rfl
  · exact hlo v (List.mem_cons_of_mem _ hv)
 obtain ⟨b0, rfl, hSb⟩ := hS
 go_upto_region 10 with fail
 have hS3 := hSb.setCell (a := ⟨W.heap.size + 1 + 1, 0, none⟩) (hSb.ne hY2) (.map (some b0))
 have hM3 := hM2.moves hY2 (w' := w3.setCell ⟨W.heap.size + 1 + 1, 0, none⟩ (.map (some b0))) (fun c hc => Below.heap_setCell _ _ _ _ hc)
 have hX3 := hX2.far (c := W.heap.size + 1 + 1) (i := 0) (.map (some b0)) (show W.heap.size + 1 ≠ W.heap.size + 1 + 1 by omega)
 have hY3 : Blk (w3.setCell ⟨W.heap.size + 1 + 1, 0, none⟩ (.map (some b0))) (W.heap.size + 1 + 1) [.map (some b0), m1, m2, m3, m4] 64 := hY2.set 0 (.map (some b0))
 have hL3 := hL2.setCell (p := ⟨W.heap.size + 1 + 1, 0, none⟩) (show W.heap.size ≤ W.heap.size + 1 + 1 by omega) (.map (some b0))
 have ky := hid (hY3.loads (P := Tryz.prog) (k := 5) rfl)
 clear hSb hM2 hX2 hY2 hL2
 generalize w3.setCell ⟨W.heap.size + 1 + 1, 0, none⟩ (.map (some b0)) = w4 at *
 go_wp2_with (first | (with_reducible refine wpList_load_agg rfl 64 _ rfl ⟨W.heap.size + 1 + 1, 0, none⟩ (by with_unfolding_all rfl) Tryz.isAgg64 Tryz.sizeOf64 [.map (some b0), m1, m2, m3, m4] ky.out ?_) | (with_reducible refine wpList_store_agg rfl 64 _ _ rfl rfl (W.heap.size + 1) (by with_unfolding_all rfl) Tryz.sizeOf64 [.map (some b0), m1, m2, m3, m4] (by with_unfolding_all rfl) rfl hX3 rfl hlo2 ?_))

 refine bodyPost_ret (results_agg_one rfl rfl Tryz.isAgg64 Tryz.sizeOf64 (hX3.put [.map (some b0), m1, m2, m3, m4]) rfl) rfl ?_
 have hE : Elem w4 (.agg #[.map (some b0), m1, m2, m3, m4]) 2 g (o + i * cellsK 2) := ⟨_, _, _, _, _, rfl, ⟨b0, rfl, hS3⟩, hM3⟩
 exact ⟨_, rfl, hE.moves hX3 (fun c hc => setRow_other _ _ _ hc), below_setRow hL3 (Nat.le_succ _) _⟩
set_option maxHeartbeats 8000000 in
set_option maxRecDepth 100000 in
theorem dat3_b (su sw : Value) (g o n c i : Nat) (W : World) (hi : i < n) (_hn : n ≤ maxLen) :
 Calls Tryz.prog 53 #[.agg #[su, sw, .slice (some ⟨g, o, none⟩) n c], .int .i64 3, .int .i64 i] W (AtPost g o 3 i W) := by
 have hB := ((Blk.new W [su, sw, .slice (some ⟨g, o, none⟩) n c] 31).alloc (.cells eZero.toArray 64)).alloc (.cells eZero.toArray 64)
 have hX := ((Blk.new (W.alloc (.cells [su, sw, .slice (some ⟨g, o, none⟩) n c].toArray 31)) eZero 64).at (World.size_alloc _ _)).alloc (.cells eZero.toArray 64)
 have hY := (Blk.new ((W.alloc (.cells [su, sw, .slice (some ⟨g, o, none⟩) n c].toArray 31)).alloc (.cells eZero.toArray 64)) eZero 64).at (show _ = W.heap.size + 1 + 1 by simp)
 have hL := (((Below.refl W.heap.size W).alloc (Nat.le_refl _) (.cells [su, sw, .slice (some ⟨g, o, none⟩) n c].toArray 31)).alloc (by simp) (.cells eZero.toArray 64)).alloc (by simp only [World.size_alloc]; omega) (.cells eZero.toArray 64)
 have d0 : (0 : Int) ≤ i := by omega
 have d1 : (i : Int) < n := by omega
 have z1 : (((3 : Int) == 1) = false) := rfl
 have z2 : (((3 : Int) == 2) = false) := rfl
 have z3 : (((3 : Int) == 3) = true) := rfl
 go_enter Tryz.func53, Tryz.ntmps53
 go_upto_region 2 with (with_reducible refine wpList_alloc_agg rfl 64 rfl _ rfl eZero zeroEl ?_)
 generalize ((W.alloc (.cells [su, sw, .slice (some ⟨g, o, none⟩) n c].toArray 31)).alloc (.cells eZero.toArray 64)).alloc (.cells eZero.toArray 64) = V at *
 obtain ⟨_, _, _, _, _, _⟩ := hB.three
 go_wp2_with fail
 ((with_reducible refine (dtechElem_b g (o + i * 8) _).mono ?_); rintro e w1 ⟨m1, m2, m3, m4, rfl, hM, hb⟩)
 replace hX := hX.below hb
 replace hY := hY.below hb
 replace hL := below_call hL hb
 clear hb hB
 have hlo : ∀ v ∈ ([.map none, m1, m2, m3, m4] : List Value), v.oneCell' = true := by
  obtain ⟨q1, q2, q3, q4⟩ := hM
  intro v hv
  simp only [List.mem_cons, List.not_mem_nil, or_false] at hv
  rcases hv with rfl | rfl | rfl | rfl | rfl
  · rfl
  · exact q1.lone
  · exact q2.lone
  · exact q3.lone
  · exact q4.lone
 have hM2 := hM.moves hY (w' := w1.setRow (W.heap.size + 1 + 1) ([.map none, m1, m2, m3, m4] : List Value).toArray) (fun c hc => setRow_other _ _ _ hc)
 have hX2 := hX.putFar ([.map none, m1, m2, m3, m4] : List Value).toArray (show W.heap.size + 1 ≠ W.heap.size + 1 + 1 by omega)
 have hY2 := hY.put [.map none, m1, m2, m3, m4]
 have hL2 := below_setRow hL (show W.heap.size ≤ W.heap.size + 1 + 1 by omega) ([.map none, m1, m2, m3, m4] : List Value).toArray
 clear hM hX hL
 go_upto_region 9 with (with_reducible refine wpList_store_agg rfl 64 _ _ rfl rfl (W.heap.size + 1 + 1) (by with_unfolding_all rfl) Tryz.sizeOf64 [.map none, m1, m2, m3, m4] (by with_unfolding_all rfl) rfl hY rfl hlo ?_)
 generalize w1.setRow (W.heap.size + 1 + 1) ([.map none, m1, m2, m3, m4] : List Value).toArray = w2 at *
 go_wp2_with fail
 ((with_reducible refine (dsorts_b _).mono ?_); rintro e w3 ⟨m0, rfl, hS, hb⟩)
 replace hX2 := hX2.below hb
 replace hY2 := hY2.below hb
 replace hL2 := below_call hL2 hb
 replace hM2 := hM2.below hb
 clear hb hY
 have y0 := hY2.cell 0
 have f0 := hY2.frozen 0
 simp only [List.getElem?_cons_zero] at y0
 have hlo2 : ∀ v ∈ ([m0, m1, m2, m3, m4] : List Value), v.oneCell' = true := by
  intro v hv
  rcases List.mem_cons.1 hv with rfl | hv
  · obtain ⟨b, rfl, -⟩ := hS
    rfl
  · exact hlo v (List.mem_cons_of_mem _ hv)
 obtain ⟨b0, rfl, hSb⟩ := hS
 go_upto_region 10 with fail
 have hS3 := hSb.setCell (a := ⟨W.heap.size + 1 + 1, 0, none⟩) (hSb.ne hY2) (.map (some b0))
 have hM3 := hM2.moves hY2 (w' := w3.setCell ⟨W.heap.size + 1 + 1, 0, none⟩ (.map (some b0))) (fun c hc => Below.heap_setCell _ _ _ _ hc)
 have hX3 := hX2.far (c := W.heap.size + 1 + 1) (i := 0) (.map (some b0)) (show W.heap.size + 1 ≠ W.heap.size + 1 + 1 by omega)
 have hY3 : Blk (w3.setCell ⟨W.heap.size + 1 + 1, 0, none⟩ (.map (some b0))) (W.heap.size + 1 + 1) [.map (some b0), m1, m2, m3, m4] 64 := hY2.set 0 (.map (some b0))
 have hL3 := hL2.setCell (p := ⟨W.heap.size + 1 + 1, 0, none⟩) (show W.heap.size ≤ W.heap.size + 1 + 1 by omega) (.map (some b0))
 have ky := hid (hY3.loads (P := Tryz.prog) (k := 5) rfl)
 clear hSb hM2 hX2 hY2 hL2
 generalize w3.setCell ⟨W.heap.size + 1 + 1, 0, none⟩ (.map (some b0)) = w4 at *
 go_wp2_with (first | (with_reducible refine wpList_load_agg rfl 64 _ rfl ⟨W.heap.size + 1 + 1, 0, none⟩ (by with_unfolding_all rfl) Tryz.isAgg64 Tryz.sizeOf64 [.map (some b0), m1, m2, m3, m4] ky.out ?_) | (with_reducible refine wpList_store_agg rfl 64 _ _ rfl rfl (W.heap.size + 1) (by with_unfolding_all rfl) Tryz.sizeOf64 [.map (some b0), m1, m2, m3, m4] (by with_unfolding_all rfl) rfl hX3 rfl hlo2 ?_))

 refine bodyPost_ret (results_agg_one rfl rfl Tryz.isAgg64 Tryz.sizeOf64 (hX3.put [.map (some b0), m1, m2, m3, m4]) rfl) rfl ?_
 have hE : Elem w4 (.agg #[.map (some b0), m1, m2, m3, m4]) 3 g (o + i * cellsK 3) := ⟨_, _, _, _, _, rfl, ⟨b0, rfl, hS3⟩, hM3⟩
 exact ⟨_, rfl, hE.moves hX3 (fun c hc => setRow_other _ _ _ hc), below_setRow hL3 (Nat.le_succ _) _⟩
end
section
open Go.RowKit Go.Lib
def wordA (k : Nat) : ByteArray := if k = 1 then ⟨#[117, 110, 105, 116]⟩ else if k = 2 then ⟨#[119, 101, 97, 112, 111, 110]⟩ else if k = 3 then ⟨#[116, 101, 99, 104]⟩ else ⟨#[]⟩
structure EnvR (w : World) : Prop where
 wds : ∀ k, k < 4 → w.cell? ⟨0, k, none⟩ = some (.string (wordA k))
 tab : Lib.TabIs Tryz.prog w "internal/strconv.uint64pow10" .u64 Lib.pow10Tab
 len : ∃ m, w.cell? ⟨1, 0, none⟩ = some (.int .i64 m)
 syn : ∃ te pe, w.var? Tryz.prog "strconv.ErrSyntax" = some #[.iface te pe]
 rng : ∃ te pe, w.var? Tryz.prog "strconv.ErrRange" = some #[.iface te pe]
 big : 12 ≤ w.heap.size
theorem tgTab : Tryz.prog.globalNamed "internal/strconv.uint64pow10" = some 2 := by kernel_rfl
theorem tgSyn : Tryz.prog.globalNamed "strconv.ErrSyntax" = some 3 := by kernel_rfl
theorem tgRng : Tryz.prog.globalNamed "strconv.ErrRange" = some 4 := by kernel_rfl
theorem EnvR.keep12 {w w' : World} (h : EnvR w) (hb : Below 12 w w') : EnvR w' := by
 obtain ⟨hp, ht, ⟨m, hm⟩, ⟨te, pe, hs⟩, ⟨tr, pr, hr⟩, h6⟩ := h
 exact ⟨fun k hk => (hb.cell (by show 0 < 12; decide)).trans (hp k hk), var?_below hb tgTab (by decide) ht, ⟨m, (hb.cell (by show 1 < 12; decide)).trans hm⟩,
  ⟨te, pe, var?_below hb tgSyn (by decide) hs⟩, ⟨tr, pr, var?_below hb tgRng (by decide) hr⟩, Nat.le_trans h6 hb.size⟩
theorem EnvR.keep {w w' : World} (h : EnvR w) (hb : Below w.heap.size w w') : EnvR w' := h.keep12 (hb.mono h.big)
theorem tatoi_no (s : ByteArray) (w : World) (hE : EnvR w) (hs : s.size ≤ 100000) (h : ∀ v, Lib.atoiAll s.data.toList ≠ .ok v) :
 Calls Tryz.prog 116 #[.string s] w fun e w' => ∃ (x : Int) (N : Nat), e = .returned (.tuple #[.int .i64 x, .iface 211 (.pointer (some ⟨N, 0, none⟩))]) ∧ Below w.heap.size w w' := by
 obtain ⟨te, pe, h1⟩ := hE.syn
 obtain ⟨tr, pr, h2⟩ := hE.rng
 cases hx : Lib.atoiAll s.data.toList with
 | ok v => exact absurd hx (h v)
 | range => exact (Tryz.strconv_Atoi_range_var s (by omega) hx tr pr w h2).mono fun e w' ⟨N, he, _, _, hb⟩ => ⟨_, N, he, hb⟩
 | _ => exact (Any.strconv_Atoi_syntax_var Tryz.laysC172 s (by omega) hx te pe w h1).mono fun e w' ⟨N, he, _, _, hb⟩ => ⟨_, N, he, hb⟩
theorem tatoi_yes (s : ByteArray) (v : Int) (w : World) (hs : s.size ≤ 100000) (h : Lib.atoiAll s.data.toList = .ok v) :
 Calls Tryz.prog 116 #[.string s] w fun e w' => e = .returned (.tuple #[.int .i64 v, .nilIface]) ∧ Below w.heap.size w w' :=
 (Tryz.strconv_Atoi_ok s (by omega) v h w).mono fun e w' ⟨he, hw⟩ => ⟨he, by
  rcases hw with rfl | ⟨t, rfl⟩
  · exact Below.refl _ _
  · exact Lib.bytesWorld_below w 5 t⟩
theorem titoa_b (n : Int) (t : ByteArray) (w : World) (hE : EnvR w) (hn : I64 n) (e : Hid (t = toB (Lib.itoa n))) :
 Calls Tryz.prog 64 #[.int .i64 n] w fun e w' => e = .returned (.string t) ∧ Below w.heap.size w w' :=
 (Tryz.strconv_Itoa n hn.1 hn.2 w hE.tab).mono fun e' w' ⟨he, k, os, hw⟩ => ⟨by rw [e.out]; exact he, by rw [hw]; exact Lib.below_grow _ w (Nat.le_refl _) k os⟩
theorem tcut_b (s : ByteArray) (c : UInt8) (x y : ByteArray) (f : Bool) (w : World) (hE : EnvR w) (hs : s.size ≤ 100000) (e1 : Hid (x = toB (cutC c s.data.toList).1)) (e2 : Hid (y = toB (cutC c s.data.toList).2.1)) (e3 : Hid (f = (cutC c s.data.toList).2.2)) :
 Calls Tryz.prog 105 #[.string s, .string ⟨#[c]⟩] w fun e w' => e = .returned (.tuple #[.string x, .string y, .bool f]) ∧ Below w.heap.size w w' := by
 obtain ⟨m, hm⟩ := hE.len
 refine (Tryz.strings_Cut s ⟨#[c]⟩ m w (by omega) hm).mono ?_
 rintro e w' ⟨rfl, k, rfl⟩
 refine ⟨?_, below_many (Below.refl _ _) k⟩
 have hc : Lib.cut s.data.toList (ByteArray.mk #[c]).data.toList = cutC c s.data.toList := cut_byte c _
 rw [hc, e1.out, e2.out, e3.out]
 rfl
theorem tprefix_b (s p x : ByteArray) (f : Bool) (w : World) (e : Hid ((stripB p.data.toList s.data.toList = some x.data.toList ∧ f = true) ∨ (stripB p.data.toList s.data.toList = none ∧ x = s ∧ f = false))) :
 Calls Tryz.prog 109 #[.string s, .string p] w fun e w' => e = .returned (.tuple #[.string x, .bool f]) ∧ w = w' := by
 refine (Tryz.strings_CutPrefix s p w).mono ?_
 rintro e' w' ⟨rfl, hw⟩
 refine ⟨?_, hw.symm⟩
 rcases e.out with ⟨h1, rfl⟩ | ⟨h1, rfl, rfl⟩
 · have h2 := (strip_iff _ _ _).1 h1
   have h3 : Lib.hasPrefix s.data.toList p.data.toList = true := by unfold Lib.hasPrefix; rw [h2]; exact List.isPrefixOf_iff_prefix.2 ⟨_, rfl⟩
   have h4 : Lib.trimPrefix s.data.toList p.data.toList = x.data.toList := by unfold Lib.trimPrefix; rw [h3, if_pos rfl, h2, List.drop_left]
   rw [h3, h4]
 · have h3 : Lib.hasPrefix x.data.toList p.data.toList = false := by
    unfold stripB at h1
    unfold Lib.hasPrefix
    cases hp : p.data.toList.isPrefixOf x.data.toList with
    | false => rfl
    | true => rw [if_pos hp] at h1; cases h1
   have h4 : Lib.trimPrefix x.data.toList p.data.toList = x.data.toList := by unfold Lib.trimPrefix; rw [h3]; rfl
   rw [h3, h4]
end
section
open Go.RowKit Go.Lib
theorem parse_big : ∀ (l : List UInt8) (a : Nat), l.all digB = true → valN a l < 18446744073709551616 → parseUint10 a l = .ok (valN a l) := by
 intro l
 induction l with
 | nil => intro a _ _; rfl
 | cons c l ih =>
  intro a hd hv
  rw [List.all_cons, Bool.and_eq_true] at hd
  have hc := (digB_iff c).1 hd.1
  rw [valN_cons] at hv ⊢
  have hg := valN_ge l (a * 10 + (c.toNat - 48))
  rw [parseUint10, if_pos hc, if_neg (by omega), if_neg (by omega)]
  exact ih _ hd.2 hv
theorem mag_dec {n : Nat} (h : n < 18446744073709551616) : parseMag (decDigits n) = .ok n := by
 unfold parseMag
 rw [if_neg (dec_ne n), parse_big _ _ (dec_digits n) (by rw [dec_val]; exact h), dec_val]
theorem atoi_dec {n : Int} (h : int64v n) : Lib.atoiAll (decv n) = .ok n := by
 unfold int64v at h
 unfold decv
 by_cases hn : n < 0
 · rw [if_pos hn, atoiAll_minus, mag_dec (by omega)]
   unfold signed
   simp only
   rw [if_neg (by omega)]
   congr 1
   omega
 · rw [if_neg hn]
   have hd := dec_digits n.toNat
   have hm := mag_dec (n := n.toNat) (by omega)
   cases hq : decDigits n.toNat with
   | nil => exact absurd hq (dec_ne _)
   | cons c r =>
    rw [hq, List.all_cons, Bool.and_eq_true] at hd
    have hc := (digB_iff c).1 hd.1
    rw [hq] at hm
    rw [atoiAll_plain c r (by omega) (by omega), hm]
    unfold signless
    simp only
    rw [if_neg (by omega)]
    congr 1
    omega
theorem atoi_64 {l : List UInt8} {v : Int} (h : Lib.atoiAll l = .ok v) : int64v v := atoiAll_bounds h
theorem intv_yes {l : List UInt8} {v : Int} (h : Lib.atoiAll l = .ok v) (h2 : Lib.itoa v = l) : intv l = some v := int_yes (atoi_64 h) h2
theorem intv_no1 {l : List UInt8} (h : ∀ v, Lib.atoiAll l ≠ .ok v) : intv l = none := by
 cases hq : intv l with
 | none => rfl
 | some u =>
  obtain ⟨e, h64⟩ := int_some hq
  have := atoi_dec h64
  rw [e] at this
  exact absurd this (h u)
theorem intv_no2 {l : List UInt8} {v : Int} (h : Lib.atoiAll l = .ok v) (h2 : ¬ Lib.itoa v = l) : intv l = none := by
 cases hq : intv l with
 | none => rfl
 | some u =>
  obtain ⟨e, h64⟩ := int_some hq
  have := atoi_dec h64
  rw [e, h] at this
  injection this with this
  subst this
  exact absurd e h2
end
section
open Go.RowKit Go.Lib
theorem cap_nil : CapV (.slice none 0 0) := fun p n c e => by
 injection e with _ e1 e2
 omega
theorem join_count (l : List ByteArray) : ∀ a : ByteArray, l.length ≤ (joinC (a :: l)).length := by
 induction l with
 | nil => intro a; simp
 | cons b l ih =>
  intro a
  have := ih b
  rw [joinC, List.length_append, List.length_cons, List.length_cons]
  omega
set_option maxHeartbeats 4000000 in
theorem dlistText_b (l : List ByteArray) (v : Value) (t : ByteArray) (W : World) (hl : StrSl W v l) (hc : CapV v) (hz : (joinC l).length ≤ 4000000) (e : Hid (t = toB (if l = [] then dashB else joinC l))) :
 Calls Tryz.prog 63 #[v] W fun e w' => e = .returned (.string t) ∧ Below W.heap.size W w' := by
 rw [e.out]
 clear e
 obtain ⟨p, c, rfl, hm, hat⟩ := hl
 have hcap := hc _ _ _ rfl
 unfold maxLen at hm
 cases l with
 | nil =>
  rw [if_pos rfl]
  clear hz hat hc
  go_enter Tryz.func63, Tryz.ntmps63
  go_wp2_with fail
  go_ret
  exact ⟨rfl, Below.refl _ _⟩
 | cons a l =>
  obtain ⟨g, o, rfl, hi⟩ := hat (by simp)
  rw [if_neg (by simp)]
  have hj := join_lib (a :: l)
  have hbk := World.block_lt_of_cell? W _ (hi 0 (by simp))
  have hjc := join_count l a
  have hcall := Tryz.strings_Join g o c (a :: l) ⟨#[44]⟩ W (fun j x hx => by
   have hjl := (List.getElem?_eq_some_iff.1 hx).1
   have := hi j hjl
   rw [List.getElem?_eq_getElem hjl, Option.some.injEq] at hx
   rw [hx] at this
   exact this) hbk (by simp only [List.length_cons]; omega) hcap (by
    rw [show (ByteArray.mk #[44]).data.toList = [44] from rfl, hj]; omega)
  rw [show (ByteArray.mk #[44]).data.toList = [44] from rfl, hj] at hcall
  have z1 : (((a :: l).length : Int) == 0) = false := beq_eq_false_iff_ne.2 (by simp only [List.length_cons]; omega)
  have HC := hid hcall
  clear hj hcall hi hat hc hjc hm hcap hz
  generalize joinC (a :: l) = t at *
  generalize (a :: l).length = n at *
  go_enter Tryz.func63, Tryz.ntmps63
  go_wp2_with fail
  (refine HC.out.mono ?_; rintro e w1 ⟨rfl, hb⟩)
  go_wp2_with fail
  go_ret
  exact ⟨rfl, hb⟩
def readLv (s : List UInt8) : Option (List ByteArray) := if s = dashB then some [] else listv s
theorem dreadList1_b (s : ByteArray) (W : World) : Calls Tryz.prog 115 #[.string s] W fun e w' => e = .returned (.bool (!nameB s.data.toList)) ∧ Below W.heap.size W w' := by
 obtain ⟨b, hb⟩ : ∃ b, Hid (b = nameB s.data.toList) := ⟨_, hid rfl⟩
 rw [← hb.out]
 go_enter Tryz.func115, Tryz.ntmps115
 go_wp2_with fail
 ((with_reducible refine (lname_b s b _ hb).mono ?_); rintro e w1 ⟨rfl, rfl⟩)
 go_wp2_with fail
 go_ret
 exact ⟨rfl, Below.refl _ _⟩
theorem eg_rl1 : ∀ args w, (callFunc 115 args).run Tryz.prog w = .ok (.enter 115 args) w := enters_of Tryz.func115 (by kernel_rfl) rfl
def ReadLPost (s : List UInt8) (w : World) (e : Ending) (w' : World) : Prop := ∃ p n c b, e = .returned (.tuple #[.slice p n c, .bool b]) ∧ (b = true → ∃ l, readLv s = some l ∧ StrSl w' (.slice p n c) l ∧ NewSl w.heap.size (.slice p n c) ∧ n ≤ c ∧ SB w' (.slice p n c) l) ∧ (b = false → readLv s = none) ∧ Below w.heap.size w w'
theorem any_not (l : List (List UInt8)) : (l.map toB).any (fun x => !nameB x.data.toList) = !l.all nameB := by
 induction l with
 | nil => rfl
 | cons a l ih => rw [List.map_cons, List.any_cons, ih, List.all_cons, Bool.not_and, show (toB a).data.toList = a by simp [toB]]
set_option maxHeartbeats 4000000 in
theorem dreadList_b (s : ByteArray) (W : World) (hE : EnvR W) (hs : s.size ≤ 100000) : Calls Tryz.prog 75 #[.string s] W (ReadLPost s.toList W) := by
 by_cases h1 : s = ⟨#[45]⟩
 · subst h1
   have hr : readLv (ByteArray.mk #[45]).toList = some [] := by rw [Lib.toList_data]; rfl
   replace hr := hid hr
   go_enter Tryz.func75, Tryz.ntmps75
   go_wp2_with fail
   go_ret2
   exact ⟨_, _, _, _, rfl, fun _ => ⟨[], hr.out, strSl_nil _, fun a n c e => (by cases e), Nat.le_refl _, sb_nil _⟩, fun q => (by cases q), Below.refl _ _⟩
 · obtain ⟨a1, a2⟩ := lit_two (l := [45]) h1
   have hr := hid (show readLv s.toList = listv s.toList by unfold readLv; rw [if_neg (show ¬ s.toList = dashB from a2)])
   obtain ⟨m, hm⟩ := hE.len
   have hcall := Tryz.strings_Split s ⟨#[44]⟩ m W (by omega) hm (by decide)
   rw [split_parts] at hcall
   have hlen : ((parts 44 s.data.toList).map toB).length = Lib.countB s ⟨#[44]⟩ + 1 := by rw [← split_parts]; exact Lib.splitB_all _ (by decide) 0 _ s rfl
   have hcnt := Lib.countB_le ⟨#[44]⟩ (by decide) _ s (Nat.le_refl _)
   have hany := any_not (parts 44 s.data.toList)
   have hlv : listv s.toList = if (parts 44 s.data.toList).all nameB = true then some ((parts 44 s.data.toList).map toB) else none := by unfold listv; rw [Lib.toList_data]
   generalize (parts 44 s.data.toList).map toB = l at *
   generalize (parts 44 s.data.toList).all nameB = q at *
   rw [← hlen] at hcall
   have hB := Blk.new W (l.map Value.string) 9
   have hL := (Below.refl W.heap.size W).alloc (Nat.le_refl _) (.cells (l.map Value.string).toArray 9)
   have hsl := strs_blk hB (by unfold maxLen; omega) l.length
   have hsb := sb_blk hB (by unfold maxLen; omega) l.length
   have HC := hid hcall
   clear hcall hm hlen hcnt
   go_enter Tryz.func75, Tryz.ntmps75
   go_wp2_with fail
   (refine HC.out.mono ?_; rintro e w1 ⟨rfl, rfl⟩)
   have hnew : NewSl W.heap.size (.slice (some ⟨W.heap.size, 0, none⟩) l.length l.length) := fun a n c e => by
    injection e with e _ _
    injection e with e
    subst e
    exact Nat.le_refl _
   generalize W.alloc (.cells (l.map Value.string).toArray 9) = V at *
   go_wp2_with fail
   ((with_reducible refine (lanyStr_b _ l _ _ (fun x => !nameB x.data.toList) (!q) V _ hsl (Below.refl _ _) eg_rl1 (fun s w _ => dreadList1_b s w) (hid hany.symm)).mono ?_); rintro e w2 ⟨rfl, hb⟩)
   go_wp2_with fail
   go_ret2
   refine ⟨_, _, _, _, rfl, fun e => ?_, fun e => ?_, below_call hL hb⟩
   · have e2 : q = true := by simpa using e
     exact ⟨l, by rw [hr.out, hlv, if_pos e2], hsl.below hb, hnew, Nat.le_refl _, hsb.below hb⟩
   · have e2 : q = false := by simpa using e
     rw [hr.out, hlv, e2, if_neg (by decide)]
def IntPost9 (s : List UInt8) (w : World) (e : Ending) (w' : World) : Prop := ∃ n b, e = .returned (.tuple #[.int .i64 n, .bool b]) ∧ (b = true → intv s = some n) ∧ (b = false → intv s = none) ∧ Below w.heap.size w w'
set_option maxHeartbeats 4000000 in
theorem dreadNumber_b (s : ByteArray) (W : World) (hE : EnvR W) (hs : s.size ≤ 100000) : Calls Tryz.prog 76 #[.string s] W (IntPost9 s.data.toList W) := by
 by_cases hok : ∃ v, Lib.atoiAll s.data.toList = .ok v
 · obtain ⟨v, hv⟩ := hok
   obtain ⟨t, ht⟩ : ∃ t, Hid (t = toB (Lib.itoa v)) := ⟨_, hid rfl⟩
   have h64 : I64 v := atoi_64 hv
   by_cases h1 : t = s
   · have hi := hid (intv_yes hv (by rw [← h1, ht.out]; simp [toB]))
     subst h1
     have HV := hid hv
     clear hv
     go_enter Tryz.func76, Tryz.ntmps76
     go_wp2_with fail
     ((with_reducible refine (tatoi_yes t v _ hs HV.out).mono ?_); rintro e w1 ⟨rfl, hb1⟩)
     go_wp2_with fail
     ((with_reducible refine (titoa_b v t _ (hE.keep hb1) h64 ht).mono ?_); rintro e w2 ⟨rfl, hb2⟩)
     go_wp2_with fail
     go_ret2
     exact ⟨_, _, rfl, fun _ => hi.out, fun q => (by cases q), below_call hb1 hb2⟩
   · have hi := hid (intv_no2 hv (fun q => h1 (by rw [ht.out, q]; rfl)))
     obtain ⟨a1, a2⟩ := ne_list h1
     have HV := hid hv
     clear hv h1
     go_enter Tryz.func76, Tryz.ntmps76
     go_wp2_with fail
     ((with_reducible refine (tatoi_yes s v _ hs HV.out).mono ?_); rintro e w1 ⟨rfl, hb1⟩)
     go_wp2_with fail
     ((with_reducible refine (titoa_b v t _ (hE.keep hb1) h64 ht).mono ?_); rintro e w2 ⟨rfl, hb2⟩)
     go_wp2_with fail
     go_ret2
     exact ⟨_, _, rfl, fun q => (by cases q), fun _ => hi.out, below_call hb1 hb2⟩
 · have hn : ∀ v, Lib.atoiAll s.data.toList ≠ .ok v := fun v h => hok ⟨v, h⟩
   have hi := hid (intv_no1 hn)
   have HN := hid hn
   clear hn hok
   go_enter Tryz.func76, Tryz.ntmps76
   go_wp2_with fail
   ((with_reducible refine (tatoi_no s _ hE hs HN.out).mono ?_); rintro e w1 ⟨x, M, rfl, hb1⟩)
   go_wp2_with fail
   go_ret2
   exact ⟨_, _, rfl, fun q => (by cases q), fun _ => hi.out, hb1⟩
end

end Go.Proofs.YtnjcdmjaecgblaaGreatDoor
