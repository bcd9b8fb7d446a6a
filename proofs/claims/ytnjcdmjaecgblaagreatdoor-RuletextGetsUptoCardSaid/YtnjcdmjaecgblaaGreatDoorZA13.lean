/-
  What the functions of rules answer: the order, Validate, Order; ruletext as landed at a382b96: fields in a block of texts; the element of a kind with an index; ruletext as landed at a382b96: Print.
-/
import Derived.Test.YtnjcdmjaecgblaaGreatDoorZA10
import Derived.Test.YtnjcdmjaecgblaaGreatDoorZA12
import Derived.Shelf.SlSortCmp.NoneTotal
import Derived.Lib.OwnBridge
namespace Go.Proofs.YtnjcdmjaecgblaaGreatDoor
section
section
open Go.RowKit Go.Lib
abbrev A9 (V : World) := {x : J9 // StrSl V x.2.1 x.2.2}
instance (V : World) : Inhabited (A9 V) := ⟨⟨(⟨#[]⟩, .slice none 0 0, []), strSl_nil V⟩⟩
def encA {V : World} (x : A9 V) : List Value := [.string x.1.1, x.1.2.1]
def cfA {V : World} (x y : A9 V) : Int := cmpB x.1.1 y.1.1
theorem ltA {V : World} (x y : A9 V) : ltOf (cfA (V := V)) x y = ltS x.1.1 y.1.1 := cmpB_less _ _
theorem swoA (V : World) : Sort.SWO (ltOf (cfA (V := V))) where
 irrefl x := by rw [ltA]; exact ltS_irrefl _
 trans x y z h1 h2 := by rw [ltA] at *; exact ltS_trans h1 h2
 ntrans x y z h1 h2 := by
  rw [ltA] at *
  cases h : ltS x.1.1 z.1.1 with
  | false => rfl
  | true =>
   cases h3 : ltS y.1.1 x.1.1 with
   | true => rw [ltS_trans h3 h] at h2; cases h2
   | false =>
    rw [ltS_tri h1 h3] at h
    rw [h] at h2
    cases h2
theorem cmpA (V : World) (blk off size : Nat) (w : World) : CmpLays Tryz.prog 181 #[] (encA (V := V)) 2 cfA blk off size w :=
 fun _ _ _ _ x y => lav1_b x.1.1 y.1.1 x.1.2.1 y.1.2.1 _
theorem flatA_len {V : World} (d : List (A9 V)) : (flatJ (d.map Subtype.val)).length = d.length * 2 := by rw [flatJ_len, List.length_map]
theorem flatK_A {V : World} (d : Array (A9 V)) : (Sort.flatK encA 2 d).toList = flatJ (d.toList.map Subtype.val) := by
 apply List.ext_getElem
 · rw [flatA_len]; simp
 · intro t h1 h2
   have ht : t < d.size * 2 := by simpa using h1
   have hd : t / 2 < d.size := by omega
   have e1 := Sort.get_flatK encA 2 d t ht
   rw [getElem!_pos _ t (by simpa using h1)] at e1
   rw [Array.getElem_toList, e1]
   have hl : t / 2 < (d.toList.map Subtype.val).length := by simpa using hd
   have e2 := flatJ_at hl
   have hdl : (d.toList.map Subtype.val)[t / 2]'hl = d[t / 2]!.1 := by
    rw [List.getElem_map, Array.getElem_toList, getElem!_pos d (t / 2) hd]
   rw [hdl] at e2
   have e3 : (flatJ (d.toList.map Subtype.val))[t]? = ([.string d[t / 2]!.1.1, d[t / 2]!.1.2.1] : List Value)[t % 2]? := by
    rw [← e2, List.getElem?_take_of_lt (by omega), List.getElem?_drop]
    congr 1
    omega
   rw [List.getElem?_eq_getElem h2] at e3
   have hm : t % 2 = 0 ∨ t % 2 = 1 := by omega
   rcases hm with hm | hm
   · rw [hm] at e3 ⊢
     simp only [List.getElem?_cons_zero, Option.some.injEq] at e3
     rw [e3]
     rfl
   · rw [hm] at e3 ⊢
     simp only [List.getElem?_cons_zero, List.getElem?_cons_succ, Option.some.injEq] at e3
     rw [e3]
     rfl
theorem own_holds {w : World} {B k n g cap : Nat} {e : TypeId} {xs : List Value} (h : w.ownsRow B e k (.slice (some ⟨g, 0, none⟩) n cap) n xs) (F : Array Value) (hF : F.toList = xs) : Sort.Holds id w g 0 F := fun j hj => by
 have hx := h.1
 have hjx : j < xs.length := by rw [← hF]; simpa using hj
 rcases id h.2 with ⟨e0, -⟩ | ⟨g', cap', cur, e0, -, hg, -, -, -, -⟩
 · cases e0
 · injection e0 with e1 _ _
   injection e1 with e1
   injection e1 with e1
   subst e1
   refine ⟨?_, by simp [World.frozen?, hg]⟩
   rw [Nat.zero_add, h.cellAt j (by omega), ← hF, Array.getElem?_toList, Array.getElem?_eq_getElem hj, getElem!_pos F j hj]
   rfl
theorem own_put {w : World} {B k n g cap q : Nat} {e : TypeId} {xs : List Value} (h : w.ownsRow B e k (.slice (some ⟨g, 0, none⟩) n cap) n xs) (F : Array Value) (hF : F.size = n * k) :
 (Sort.putRow id (Sort.ahead w q) g 0 F).ownsRow B e k (.slice (some ⟨g, 0, none⟩) n cap) n F.toList := by
 rcases h.2 with ⟨e0, _⟩ | ⟨g', cap', cur, e0, hb, hg, hn, hm, hs, ht⟩
 · cases e0
 · injection e0 with e1 _ e3
   injection e1 with e1
   injection e1 with e1
   subst e1
   subst e3
   have hnk : n * k ≤ cur.size := by rw [hs]; exact Nat.mul_le_mul_right k hn
   refine ⟨by simpa using hF, .inr ⟨g, cap, Sort.putCells id 0 F cur, rfl, hb, ?_, hn, hm, by simpa [Sort.putCells] using hs, ?_⟩⟩
   · simp [Sort.putRow, Sort.mapBlock, Sort.ahead, Array.getElem?_modify, hg, Sort.onCells]
   · apply List.ext_getElem?
     intro j
     rw [List.getElem?_take, Array.getElem?_toList, Array.getElem?_toList]
     by_cases hj : j < n * k
     · have hjc : j < cur.size := by omega
       simp only [if_pos hj, Sort.putCells, Array.getElem?_mapIdx, Array.getElem?_eq_getElem hjc, Option.map_some]
       rw [if_pos (by omega), Array.getElem?_eq_getElem (by omega), Nat.sub_zero, getElem!_pos F j (by omega)]
       rfl
     · rw [if_neg hj, Array.getElem?_eq_none (by omega)]
theorem exists_la {V : World} : ∀ l : List J9, JOk V l → ∃ la : List (A9 V), la.map Subtype.val = l
 | [], _ => ⟨[], rfl⟩
 | a :: l, h => by
  obtain ⟨la, e⟩ := exists_la l fun x hx => h x (List.mem_cons_of_mem _ hx)
  exact ⟨⟨a, h a (by simp)⟩ :: la, by rw [List.map_cons, e]⟩
def SortPost (B : Nat) (v : Value) (l : List J9) (w : World) (e : Ending) (w' : World) : Prop := e = .returned (.tuple #[]) ∧ ∃ l' : List J9, l'.Perm l ∧ (∀ i j, (hj : j < l'.length) → (h : i < j) → ltS (l'[j]'hj).1 (l'[i]'(Nat.lt_trans h hj)).1 = false) ∧ w'.ownsRow B 175 2 v l.length (flatJ l') ∧ Below B w w'
theorem lsort_b (v : Value) (l : List J9) (B : Nat) (V0 W : World) (hown : W.ownsRow B 175 2 v l.length (flatJ l)) (hJ : JOk V0 l) (hB : B ≤ W.heap.size) (hsm : l.length ≤ 10000) :
 Calls Tryz.prog 180 #[v, .func (.func 181) #[] #[]] W (SortPost B v l W) := by
 rcases id hown.2 with ⟨rfl, h0⟩ | ⟨g, cap, cur, rfl, hBg, hg, -, -, -, -⟩
 · have hl : l = [] := List.eq_nil_of_length_eq_zero h0
   subst hl
   refine (AnyF.slices_SortFunc_none Tryz.laysSort none 0 _ W).mono fun e w' ⟨he, hw⟩ => ?_
   subst hw
   exact ⟨he, [], List.Perm.refl _, fun i j hj _ => absurd hj (by simp), hown, Below.refl _ _⟩
 · have hgl : g < W.heap.size := (Array.getElem?_eq_some_iff.1 hg).1
   obtain ⟨la, hla⟩ : ∃ la : List (A9 V0), la.map Subtype.val = l := exists_la l hJ
   have hlen : la.length = l.length := by rw [← hla, List.length_map]
   have hsz : la.toArray.size = l.length := by simpa using hlen
   have hH : Sort.HoldsK encA 2 W g 0 la.toArray := own_holds hown _ (by rw [flatK_A]; simp [hla])
   have hcon := AnyQ.slices_SortFunc Tryz.laysSort 2 Tryz.isAgg175 Tryz.sizeOf175 (encA (V := V0)) (fun _ => rfl) (fun x => lone2 rfl x.2.lone) cfA (swoA V0) 181 #[] g 0 cap la.toArray W eg_av1 (cmpA V0 g 0 _ W) hH hgl (by omega)
   rw [hsz] at hcon
   refine hcon.mono fun e w' ⟨he, d', n, os, hp, hs, hw⟩ => ?_
   have hsd : d'.size = l.length := by rw [hp.1, hsz]
   refine ⟨he, d'.toList.map Subtype.val, ?_, fun i j hj hij => ?_, ?_, ?_⟩
   · have := hp.2.2
     have e1 : d'.extract 0 l.length = d' := by rw [← hsd]; simp
     have e2 : la.toArray.extract 0 l.length = la.toArray := by rw [← hsz]; simp
     rw [e1, e2] at this
     have h2 := this.map Subtype.val
     rw [show la.toArray.toList = la from rfl, hla] at h2
     exact h2
   · have hj' : j < d'.size := by simpa using hj
     have := hs i j (Nat.zero_le _) hij (by omega)
     rw [ltA, getElem!_pos d' j hj', getElem!_pos d' i (by omega)] at this
     simpa using this
   · subst hw
     unfold sortWorldK Sort.putRowK
     have h1 := own_put (q := n) hown (Sort.flatK encA 2 d') (by rw [Sort.size_flatK, hsd])
     rw [flatK_A] at h1
     refine own_below h1 ?_
     have := Lib.below_grow _ (Sort.putRow id (Sort.ahead W n) g 0 (Sort.flatK encA 2 d')) (Nat.le_refl _) 0 os
     exact this
   · subst hw
     unfold sortWorldK Sort.putRowK
     have h1 := Lib.below_putRow (enc := id) (q := n) (d := Sort.flatK encA 2 d') (Below.refl B W) hBg
     have h2 := Lib.below_grow _ (Sort.putRow id (Sort.ahead W n) g 0 (Sort.flatK encA 2 d')) (Nat.le_refl _) 0 os
     exact h1.trans (h2.mono (by rw [Sort.size_putRow]; exact hB))
end
section
open Go.RowKit Go.Lib
theorem jit_at {l : List J9} {i : Nat} (h : i < l.length) : (jit l)[i]'(by unfold jit; simpa using h) = ((l[i]'h).1, (l[i]'h).2.2) := by simp [jit]
theorem jit_erase (l : List J9) (i : Nat) : jit (l.eraseIdx i) = (jit l).eraseIdx i := by unfold jit; rw [List.eraseIdx_eq_take_drop_succ, List.eraseIdx_eq_take_drop_succ, List.map_append, List.map_take, List.map_drop]
theorem jit_len (l : List J9) : (jit l).length = l.length := by unfold jit; rw [List.length_map]
theorem wait_sorted {r : R9} (hU : Uniq r) {l0 l1 : List J9} (hp : l1.Perm l0) (hI : jit l0 = itemsv r) (hs : ∀ i j, (hj : j < l1.length) → (h : i < j) → ltS (l1[j]'hj).1 (l1[i]'(Nat.lt_trans h hj)).1 = false) : WaitI r (jit l1) [] := by
 have hpi : (jit l1).Perm (itemsv r) := by rw [← hI]; exact hp.map _
 refine WaitI.start hpi ?_
 have hnd : (l1.map Prod.fst).Nodup := by
  have h1 : ((jit l1).map Prod.fst).Perm (allN r) := by rw [← items_names]; exact hpi.map _
  have h2 : (jit l1).map Prod.fst = l1.map Prod.fst := by unfold jit; rw [List.map_map]; rfl
  rw [h2] at h1
  exact h1.nodup_iff.2 hU.nd
 rw [List.pairwise_iff_getElem]
 intro i j hi hj hij
 have hj' : j < l1.length := by unfold jit at hj; simpa using hj
 have h1 := hs i j hj' hij
 have hne : ¬ (l1[i]'(Nat.lt_trans hij hj')).1 = (l1[j]'hj').1 := by
  have := List.pairwise_iff_getElem.1 hnd i j (by simp; omega) (by simpa using hj') hij
  simpa using this
 show ltS ((jit l1)[i]'hi).1 ((jit l1)[j]'hj).1 = true
 rw [jit_at (Nat.lt_trans hij hj'), jit_at hj']
 cases q : ltS (l1[i]'(Nat.lt_trans hij hj')).1 (l1[j]'hj').1 with
 | true => rfl
 | false => exact absurd (ltS_tri q h1) hne
theorem pick_item {r : R9} {l : List J9} {out : List ByteArray} {i : Nat} (hU : Uniq r) (hW : WaitI r (jit l) out) (hi : i < l.length) (hf : freev out ((l[i]'hi).1, (l[i]'hi).2.2) = true) (hb : ∀ j, (k : j < l.length) → j < i → freev out ((l[j]'k).1, (l[j]'k).2.2) = false) :
 bestv r out (allN r) ⟨#[]⟩ = (l[i]'hi).1 ∧ (¬ (l[i]'hi).1 = ⟨#[]⟩) ∧ WaitI r (jit (l.eraseIdx i)) (out ++ [(l[i]'hi).1]) := by
 have hi' : i < (jit l).length := by rw [jit_len]; exact hi
 have h1 := hW.some hU hi' (by rw [jit_at hi]; exact hf) (fun j k hj => by
  have k' : j < l.length := by rw [jit_len] at k; exact k
  rw [jit_at k']; exact hb j k' hj)
 have h2 := hW.step hi'
 rw [jit_at hi] at h1 h2
 rw [jit_erase]
 exact ⟨h1.1, h1.2, h2⟩
theorem own_block {w : World} {B k n : Nat} {e : TypeId} {v : Value} {xs : List Value} (h : w.ownsRow B e k v n xs) (hn : 0 < n) : ∃ g cap, v = .slice (some ⟨g, 0, none⟩) n cap ∧ B ≤ g ∧ g < w.heap.size := by
 rcases id h.2 with ⟨-, h0⟩ | ⟨g, cap, cur, rfl, hB, hg, -, -, -, -⟩
 · omega
 · exact ⟨g, cap, rfl, hB, (Array.getElem?_eq_some_iff.1 hg).1⟩
def capOk (v : Value) : Prop := ∀ p n c, v = .slice p n c → n ≤ c
theorem own_cap {w : World} {B k n : Nat} {e : TypeId} {v : Value} {xs : List Value} (h : w.ownsRow B e k v n xs) : capOk v := by
 rcases h.2 with ⟨rfl, -⟩ | ⟨g, cap, cur, rfl, -, -, hc, -⟩
 · intro p n c e
   injection e with _ e1 _
   omega
 · intro p n c e
   injection e with _ e1 e2
   omega
def AvPost (r : R9) (w : World) (e : Ending) (w' : World) : Prop := ∃ v, e = .returned v ∧ (StrSl w' v (seqv r) ∧ capOk v) ∧ Below w.heap.size w w'
set_option maxHeartbeats 8000000 in
set_option maxRecDepth 100000 in
theorem lavail_b (su sw st : Value) (r : R9) (V0 W : World) (hR : RAt V0 su sw st r) (h0 : Below V0.heap.size V0 W) (hu : r.us.length ≤ 1000) (ht : r.ts.length ≤ 1000) (hU : Uniq r) :
 Calls Tryz.prog 155 #[.agg #[su, sw, st]] W (AvPost r W) := by
 have hR0 := hid hR
 obtain ⟨p, c, rfl, hm, hat⟩ := hR.u
 obtain ⟨p1, c1, rfl, hm1, hat1⟩ := hR.w
 obtain ⟨p2, c2, rfl, hm2, hat2⟩ := hR.t
 have hB := Blk.new W [.slice p r.us.length c, .slice p1 r.ws.length c1, .slice p2 r.ts.length c2] 31
 have hL := (Below.refl W.heap.size W).alloc (Nat.le_refl _) (.cells [.slice p r.us.length c, .slice p1 r.ws.length c1, .slice p2 r.ts.length c2].toArray 31)
 unfold maxLen at hm hm1 hm2
 clear hR
 go_enter Tryz.func155, Tryz.ntmps155
 go_upto_region 1 with fail
 generalize W.alloc (.cells [.slice p r.us.length c, .slice p1 r.ws.length c1, .slice p2 r.ts.length c2].toArray 31) = V at *
 clear hat hat1 hat2
 obtain ⟨_, _, _, _, _, _⟩ := hB.three
 have hVW := hL.size
 go_wp2_with fail
 ((with_reducible refine (litems_b _ _ _ r V0 _ hR0.out (h0.trans (hL.mono h0.size)) hu ht).mono ?_); rintro e w1 ⟨v0, l0, rfl, hown, hJ, hI, hb⟩)
 have hlen : l0.length = r.us.length + r.ts.length := by rw [← items_len, ← hI]; unfold jit; simp
 replace hown := own_to (own_base hown (Nat.le_succ _)) hlen.symm rfl
 have hL1 := hL.trans (hb.mono hVW)
 have hs1 := hb.size
 clear hb hL hB
 go_wp2_with fail
 ((with_reducible refine (lsort_b v0 l0 V.heap.size V0 w1 hown hJ hs1 (by omega)).mono ?_); rintro e w2 ⟨rfl, l1, hp, hs, hown1, hb⟩)
 have hW0 := hid (wait_sorted hU hp hI hs)
 have hJ1 := hid (show JOk V0 l1 from fun x hx => hJ x (hp.mem_iff.1 hx))
 have hlen1 : l1.length ≤ 2000 := by rw [hp.length_eq]; omega
 replace hown1 := own_to hown1 hp.length_eq.symm rfl
 have hL2 := hL1.trans (hb.mono hVW)
 have hs2 := hb.size
 clear hp hI hs hJ hown hL1 hb hlen
 go_upto_region 4 with fail
 have hbx := Blk.new w2 [.slice none 0 0] 23
 have hL3 := hL2.alloc hL2.size (.cells [.slice none 0 0].toArray 23)
 have hvb : ∀ k, v0.ownBlock = some k → k < w2.heap.size := fun k hk => (hown1.lt k hk).2
 have hown2 := hown1.alloc (.cells [.slice none 0 0].toArray 23)
 have hbw : W.heap.size ≤ w2.heap.size := hL2.size
 generalize hbe : w2.heap.size = bx at *
 generalize w2.alloc (.cells [.slice none 0 0].toArray 23) = X at *
 replace hvb := hid hvb
 clear hown1 hL2 hbe hs2
 go_loopw [3] (fun vo wr => ∃ (l : List J9) (out : List ByteArray) (vn : Value), wr.ownsRow V.heap.size 175 2 vo l.length (flatJ l) ∧ Blk wr bx [vn] 23 ∧ wr.ownsRow (bx + 1) 9 1 vn out.length (strs out) ∧ Below W.heap.size W wr ∧ l.length ≤ 2000 ∧ Hid (∀ k, vo.ownBlock = some k → k < bx) ∧ Hid (JOk V0 l) ∧ Hid (WaitI r (jit l) out) ∧ Hid (SeqI r out) ∧ Hid (seqLeft r out = seqv r)) (fun vo _ => lenV vo)
 case atStart => exact ⟨l1, [], _, hown2, hbx, World.ownsRow_nil _ _ _ _, hL3, hlen1, hvb, hJ1, hW0, hid (SeqI.nil r), hid (seqLeft_nil r)⟩
 case round =>
  clear hbx hL3 hown2 hlen1 hvb hJ1 hW0
  obtain ⟨l, out, vn, hown, hbx, hnm, hL, hll, hvb, hJ, hWt, hI, hS⟩ := hrel
  have hlo : out.length ≤ 2000 := by have := hI.out.len; omega
  have hLen := hid (own_len hown)
  have hxl := hbx.lt
  have hx : StrSl wr vn out := own_strs hnm (by omega)
  obtain ⟨pv, cv, rfl, -⟩ := id hx
  have hV := h0.trans (hL.mono h0.size)
  have hJw := hid (hJ.out.below hV)
  have hrow := own_row hown (by omega) (by decide)
  have hcon := lidxI_b u3 l.length _ 183 #[.pointer (some ⟨bx, 0, none⟩)] (fun i => match l[i]? with | some x => freev out (x.1, x.2.2) | none => false) wr wr hrow (Below.refl _ _) eg_av2 (fun i hi w hw => by
   rw [flatJ_at hi]
   simp only [List.getElem?_eq_getElem hi]
   exact lav2_b _ _ out _ _ bx _ wr w hx (hJw.out _ (List.getElem_mem hi)) hw (hbx.below hw))
  have hpl := hid (idxN_is (fun i => match l[i]? with | some x => freev out (x.1, x.2.2) | none => false) l.length)
  generalize hz : idxN (fun i => match l[i]? with | some x => freev out (x.1, x.2.2) | none => false) l.length = z at hcon hpl
  clear hrow hz
  go_wp2_with fail
  (refine hcon.mono ?_; rintro e w3 ⟨rfl, hb⟩)
  replace hown := own_below hown hb
  replace hnm := own_below hnm hb
  replace hbx := hbx.below hb
  replace hL := below_call hL hb
  have hx3 := hx.below hb
  have hxl3 := hbx.lt
  clear hcon hb hx hJw hV hxl
  rcases hpl.out with ⟨i, hi, rfl, hf, hfb⟩ | ⟨rfl, hfb⟩
  · simp only [List.getElem?_eq_getElem hi] at hf
    obtain ⟨hb1, hne, hW2⟩ := pick_item hU hWt.out hi hf (fun j k hj => by
     have := hfb j hj
     simpa only [List.getElem?_eq_getElem k] using this)
    have hI2 := hid (hI.out.step hb1 hne)
    have hS2 := hid ((seqLeft_step hI.out hb1 hne).symm.trans hS.out)
    replace hW2 := hid hW2
    obtain ⟨g, cap, hvo, hgB, hgw⟩ := own_block hown (by omega)
    have hgx := hvb.out g (by rw [hvo]; rfl)
    subst hvo
    have hcell := hown.cellAt (i * 2) (by omega)
    have hfl : (flatJ l)[i * 2]? = some (.string (l[i]'hi).1) := by
     have := flatJ_at hi
     have h2 := congrArg (fun t => t[0]?) this
     simp only [List.getElem?_cons_zero] at h2
     rw [List.getElem?_take_of_lt (by omega), List.getElem?_drop, Nat.add_zero] at h2
     exact h2
    rw [hfl] at hcell
    obtain ⟨nm, hnm1⟩ : ∃ x, (l[i]'hi).1 = x := ⟨_, rfl⟩
    rw [hnm1] at hcell hI2 hS2 hW2
    have hJl := hid hJ.out
    have hJ2 := hid (show JOk V0 (l.eraseIdx i) from fun x hx => hJ.out x (List.mem_of_mem_eraseIdx hx))
    have d0 : ¬ ((i : Int) < 0) := by omega
    have d1 : (i : Int) < l.length := by omega
    have d2 : (0 : Int) ≤ i := by omega
    clear hpl hf hfb hb1 hne hfl hnm1 hWt hI hS hJ
    go_upto_region 7 with fail
    have k4 := hbx.one.1
    obtain ⟨i0, hi0, hz0, hz1, hz2⟩ := info_cut9 infoStr9
    go_cut [4] from 16 to 29 (fun s4 wx => ∃ p' c', s4 = .pointer (some ⟨bx, 0, none⟩) ∧ Blk wx bx [.slice p' (out.length + 1) c'] 23 ∧ wx.ownsRow (bx + 1) 9 1 (.slice p' (out.length + 1) c') (out.length + 1) (strs (out ++ [nm])) ∧ wx.ownsRow V.heap.size 175 2 (.slice (some ⟨g, 0, none⟩) l.length cap) l.length (flatJ l) ∧ Below W.heap.size W wx)
    case first =>
     have hmx : Tryz.prog.follows .mixedOrders = true := by kernel_rfl
     refine wp_region_any hmx (wpAny_of_late (lt := (fun x => x == 8)) (S := fun w' => w'.cell? ⟨bx, 0, none⟩ = some (.slice pv out.length cv) ∧ w'.cell? ⟨g, i * 2, none⟩ = some (.string nm)) _ _ _ _ ?_)
     show wpAnyM _ _ _ _ _ _ _ _ _ w3.drew
     have hS0 : w3.drew.cell? ⟨bx, 0, none⟩ = some (.slice pv out.length cv) ∧ w3.drew.cell? ⟨g, i * 2, none⟩ = some (.string nm) := ⟨k4, hcell⟩
     refine late_tk (lt := (fun x => x == 8)) (i := 0) (v := .slice pv out.length cv) (some 16) rfl (fun w' hS => by obtain ⟨s1, s2⟩ := hS; go_simp) hS0 ?_
     simp only [Act.put, List.setIfInBounds_toArray, List.set_cons_zero, List.set_cons_succ]
     refine late_tk (lt := (fun x => x == 8)) (i := 1) (v := .slice (some ⟨g, 0, none⟩) l.length cap) (some 17) rfl (fun w' hS => by skip; go_simp) hS0 ?_
     simp only [Act.put, List.setIfInBounds_toArray, List.set_cons_zero, List.set_cons_succ]
     refine late_tk (lt := (fun x => x == 8)) (i := 2) (v := .int .i64 i) (some 18) rfl (fun w' hS => by skip; go_simp) hS0 ?_
     simp only [Act.put, List.setIfInBounds_toArray, List.set_cons_zero, List.set_cons_succ]
     refine late_tk (lt := (fun x => x == 8)) (i := 3) (v := .pointer (some ⟨g, i * 2, none⟩)) (some 19) rfl (fun w' hS => by skip; go_simp) hS0 ?_
     simp only [Act.put, List.setIfInBounds_toArray, List.set_cons_zero, List.set_cons_succ]
     refine late_tk (lt := (fun x => x == 8)) (i := 4) (v := .pointer (some ⟨g, i * 2, none⟩)) (some 20) rfl (fun w' hS => by skip; go_simp) hS0 ?_
     simp only [Act.put, List.setIfInBounds_toArray, List.set_cons_zero, List.set_cons_succ]
     refine late_tk (lt := (fun x => x == 8)) (i := 5) (v := .string nm) (some 21) rfl (fun w' hS => by obtain ⟨s1, s2⟩ := hS; go_simp) hS0 ?_
     simp only [Act.put, List.setIfInBounds_toArray, List.set_cons_zero, List.set_cons_succ]
     refine late_one (i := 6) (by kernel_rfl) rfl (fun K hQ => ?_)
     go_simp
     have hdr := ((Below.refl w3.heap.size w3).drew).alloc (Nat.le_refl _) (.cells #[.string nm] 9)
     have hbx2 := hbx.below hdr
     have hown2 := own_below hown hdr
     have hnm2 := own_below hnm hdr
     have hL2 := below_call hL hdr
     have hS1 : (w3.drew.alloc (.cells #[.string nm] 9)).cell? ⟨bx, 0, none⟩ = some (.slice pv out.length cv) ∧ (w3.drew.alloc (.cells #[.string nm] 9)).cell? ⟨g, i * 2, none⟩ = some (.string nm) := ⟨hbx2.one.1, (hdr.cell (p := ⟨g, i * 2, none⟩) hgw).trans hcell⟩
     refine hQ.out _ _ (fun _ => hS1) ?_
     clear hQ
     try simp only [Act.put, List.setIfInBounds_toArray, List.set_cons_zero, List.set_cons_succ]
     obtain ⟨v', w5, hrun, hown', hgrow, -⟩ := run_append_own (P := Tryz.prog) (w3.drew.alloc (.cells #[.string nm] 9)) (bx + 1) 23 23 9 i0 (.string ⟨#[]⟩) 1 16 Tryz.underlying23 hi0 hz0 hz1 hz2 rfl (by decide) (.slice pv out.length cv) out.length _ hnm2
      ⟨w3.heap.size, 0, none⟩ 1 1 [.string nm] rfl (cells_new (w := w3.drew)) (str_lone9 _) (by unfold maxLen; omega) (by omega) (by simp; omega)
     have hnot : ∀ j, (Value.slice pv out.length cv).ownBlock = some j → bx < j := fun j hj => by have := (hnm2.lt j hj).1; omega
     have hbx3 := hbx2.grown hgrow (fun k hk => by have := hnot k hk; omega)
     have hown3 := hown2.kept hgrow (by
      right
      intro e4
      have := hnot g e4.symm
      omega)
     have hL3 := hL2.grown hgrow (by simp; omega) (fun k hk => by have := hnot k hk; omega)
     have hS2' : w5.cell? ⟨bx, 0, none⟩ = some (.slice pv out.length cv) ∧ w5.cell? ⟨g, i * 2, none⟩ = some (.string nm) := by
      refine ⟨hbx3.one.1, ?_⟩
      have h4 := hown3.cellAt (i * 2) (by omega)
      rw [h4]
      have h5 := hown2.cellAt (i * 2) (by omega)
      exact h5.symm.trans hS1.2
     have hown5 : w5.ownsRow (bx + 1) 9 1 v' (out.length + 1) (strs (out ++ [nm])) := own_to hown' rfl (strs_snoc out nm)
     obtain ⟨p', c', hv', -⟩ := own_strs' hown5 (by omega)
     rw [List.length_append, List.length_singleton] at hv'
     subst hv'
     refine late_one (i := 7) (by kernel_rfl) rfl (fun K hQ => ?_)
     refine step_append_run rfl (.tmp 16) (.tmp 22) 23 rfl (.slice pv out.length cv) (.slice (some ⟨w3.heap.size, 0, none⟩) 1 1) _ rfl rfl hrun ?_
     refine hQ.out _ _ (fun _ => hS2') ?_
     clear hQ
     try simp only [Act.put, List.setIfInBounds_toArray]
     have g0 := hbx3.one.1
     have f0 := hbx3.one.2
     refine late_one (i := 8) (by kernel_rfl) rfl (fun K hQ => ?_)
     go_simp
     refine hQ.out _ _ (fun h => by cases h) ?_
     clear hQ
     try simp only [Act.put, List.setIfInBounds_toArray, List.set_cons_zero, List.set_cons_succ]
     have hbx4 := hbx3.set 0 (.slice p' (out.length + 1) c')
     have hown6 := own_cell (i := 0) hown5 (Nat.lt_succ_self bx) (.slice p' (out.length + 1) c')
     have hown7 := ownsRow_setCell_other hown3 (a := ⟨bx, 0, none⟩) (by simp [Value.ownBlock]; omega) (.slice p' (out.length + 1) c')
     have hL4 := hL3.setCell (p := ⟨bx, 0, none⟩) hbw (.slice p' (out.length + 1) c')
     refine late_done (by kernel_rfl) ?_ _
     show Exit.then _ _ Exit.normal _ _
     go_wp2_with fail
     go_meet
     case rel => exact ⟨p', c', rfl, hbx4, hown6, hown7, hL4⟩
    case rest =>
    clear hbx hnm hown hx3 k4 hcell hgw hxl3
    obtain ⟨p', c', rfl, hbx, hnm, hown, hL⟩ := hcut
    have hdl := fun w hw => ldel_b (.slice (some ⟨g, 0, none⟩) l.length cap) l i (i + 1) V.heap.size V0 w hw hJl.out hi rfl (by omega)
    simp only [Int.natCast_add, Int.natCast_one] at hdl
    have hdl2 := hdl _ hown
    replace hdl2 := hid hdl2
    have wi : IntKind.i64.wrap ((i : Int) + 1) = (i : Int) + 1 := IntWalk.i64_in _ (by omega)
    clear hdl
    go_wp2_with fail
    (refine hdl2.out.mono ?_; rintro e w6 ⟨v2, rfl, hown2, hblk, hkeep, hb6⟩)
    have hle : (l.eraseIdx i).length = l.length - 1 := List.length_eraseIdx_of_lt hi
    replace hown2 := own_to hown2 hle.symm rfl
    have hgk : ∀ k, g ≠ k → (Value.slice (some ⟨g, 0, none⟩) l.length cap).ownBlock ≠ some k := fun k hne e => hne (by simpa [Value.ownBlock] using e)
    have hbx6 : Blk w6 bx [.slice p' (out.length + 1) c'] 23 := (hkeep bx (hgk bx (by omega))).trans hbx
    have hnm6 := own_to (own_heap hnm (fun k hk => hkeep k (hgk k (by omega)))) (m := (out ++ [nm]).length) (ys := strs (out ++ [nm])) (by simp) rfl
    have hL6 := hL.trans (hb6.mono hVW)
    have hvb6 := hid (show ∀ k, v2.ownBlock = some k → k < bx from fun k hk => by
     rw [hblk] at hk
     have hk : g = k := by simpa [Value.ownBlock] using hk
     omega)
    have hl6 := hid (own_len hown2)
    have hll6 : (l.eraseIdx i).length ≤ 2000 := by omega
    have hlt6 := hid (show (l.eraseIdx i).length < l.length by omega)
    clear hown hnm hbx hL hkeep hblk hb6 hdl2 hle wi hgk
    go_wp2_with fail
    go_roundw
    case rel => exact ⟨l.eraseIdx i, out ++ [nm], _, hown2, hbx6, hnm6, hL6, hll6, hvb6, hJ2, hW2, hI2, hS2⟩
    case measure =>
     show lenV _ < lenV _
     rw [hl6.out]
     exact hlt6.out
  · have hno : bestv r out (allN r) ⟨#[]⟩ = ⟨#[]⟩ := hWt.out.none hU fun x hx => by
     obtain ⟨j, hj, rfl⟩ := List.getElem_of_mem hx
     have hj' : j < l.length := by rw [jit_len] at hj; exact hj
     have := hfb j hj'
     simp only [List.getElem?_eq_getElem hj'] at this
     rw [jit_at hj']
     exact this
    have hres : seqv r = out := hS.out.symm.trans (seqLeft_end hI.out hno)
    replace hres := hid hres
    have k4 := hbx.one.1
    have d0 : ((-1 : Int) < 0) := by omega
    clear hpl hfb hno hS hI hWt hJ
    go_wp2_with fail
    go_ret
    exact ⟨_, rfl, ⟨by rw [hres.out]; exact hx3, own_cap hnm⟩, hL⟩
end
section
open Go.RowKit Go.Lib
set_option maxHeartbeats 8000000 in
set_option maxRecDepth 100000 in
theorem lcyc_b (su sw st : Value) (r : R9) (b : Bool) (V0 W : World) (hR : RAt V0 su sw st r) (h0 : Below V0.heap.size V0 W) (hu : r.us.length ≤ 1000) (ht : r.ts.length ≤ 1000) (hU : Uniq r) (e : Hid (b = decide ((seqv r).length < r.us.length + r.ts.length))) :
 Calls Tryz.prog 97 #[.agg #[su, sw, st]] W fun e w' => e = .returned (.bool b) ∧ Below W.heap.size W w' := by
 have hR0 := hid hR
 obtain ⟨p, c, rfl, hm, hat⟩ := hR.u
 obtain ⟨p1, c1, rfl, hm1, hat1⟩ := hR.w
 obtain ⟨p2, c2, rfl, hm2, hat2⟩ := hR.t
 have hB := Blk.new W [.slice p r.us.length c, .slice p1 r.ws.length c1, .slice p2 r.ts.length c2] 31
 have hL := (Below.refl W.heap.size W).alloc (Nat.le_refl _) (.cells [.slice p r.us.length c, .slice p1 r.ws.length c1, .slice p2 r.ts.length c2].toArray 31)
 unfold maxLen at hm hm1 hm2
 clear hR
 go_enter Tryz.func97, Tryz.ntmps97
 go_upto_region 1 with fail
 generalize W.alloc (.cells [.slice p r.us.length c, .slice p1 r.ws.length c1, .slice p2 r.ts.length c2].toArray 31) = V at *
 clear hat hat1 hat2
 have hlen := (seqv_end r).1.len
 obtain ⟨L, hLe⟩ : ∃ L, (seqv r).length = L := ⟨_, rfl⟩
 rw [hLe] at e hlen
 have hz : decide ((L : Int) < (r.us.length : Int) + (r.ts.length : Int)) = b := by rw [e.out]; exact decide_eq_decide.2 (by omega)
 have hsum : IntKind.i64.wrap ((r.us.length : Int) + (r.ts.length : Int)) = (r.us.length : Int) + (r.ts.length : Int) := IntWalk.i64_in _ (by omega)
 have hcon := hid (fun (w : World) (hw : Below V.heap.size V w) => lavail_b _ _ _ r V0 w hR0.out (h0.trans ((hL.trans (hw.mono hL.size)).mono h0.size)) hu ht hU)
 have hmx : Tryz.prog.follows .mixedOrders = true := by kernel_rfl
 refine wp_region_held (S := fun w' => Below V.heap.size V w') hmx ?_
 show wpAnyH _ _ _ _ _ _ _ _ V.drew
 have hS0 := (Below.refl V.heap.size V).drew
 refine reg_tk (i := 0) (v := .agg #[.slice p r.us.length c, .slice p1 r.ws.length c1, .slice p2 r.ts.length c2]) (some 3) rfl (fun w' hS => by (obtain ⟨_, _, _, _, _, _⟩ := (hB.below hS).three); go_simp) hS0 ?_
 simp only [Act.put, List.setIfInBounds_toArray, List.set_cons_zero, List.set_cons_succ]
 refine reg_tk (i := 3) (v := .pointer (some ⟨W.heap.size, 0, none⟩)) (some 6) rfl (fun w' hS => by skip; go_simp) hS0 ?_
 simp only [Act.put, List.setIfInBounds_toArray, List.set_cons_zero, List.set_cons_succ]
 refine reg_tk (i := 4) (v := .slice p r.us.length c) (some 7) rfl (fun w' hS => by (obtain ⟨_, _, _, _, _, _⟩ := (hB.below hS).three); go_simp) hS0 ?_
 simp only [Act.put, List.setIfInBounds_toArray, List.set_cons_zero, List.set_cons_succ]
 refine reg_tk (i := 5) (v := .int .i64 r.us.length) (some 8) rfl (fun w' hS => by skip; go_simp) hS0 ?_
 simp only [Act.put, List.setIfInBounds_toArray, List.set_cons_zero, List.set_cons_succ]
 refine reg_tk (i := 6) (v := .pointer (some ⟨W.heap.size, 2, none⟩)) (some 9) rfl (fun w' hS => by skip; go_simp) hS0 ?_
 simp only [Act.put, List.setIfInBounds_toArray, List.set_cons_zero, List.set_cons_succ]
 refine reg_tk (i := 7) (v := .slice p2 r.ts.length c2) (some 10) rfl (fun w' hS => by (obtain ⟨_, _, _, _, _, _⟩ := (hB.below hS).three); go_simp) hS0 ?_
 simp only [Act.put, List.setIfInBounds_toArray, List.set_cons_zero, List.set_cons_succ]
 refine reg_tk (i := 8) (v := .int .i64 r.ts.length) (some 11) rfl (fun w' hS => by skip; go_simp) hS0 ?_
 simp only [Act.put, List.setIfInBounds_toArray, List.set_cons_zero, List.set_cons_succ]
 refine reg_tk (i := 9) (v := .int .i64 ((r.us.length : Int) + (r.ts.length : Int))) (some 12) rfl (fun w' hS => by skip; go_simp) hS0 ?_
 simp only [Act.put, List.setIfInBounds_toArray, List.set_cons_zero, List.set_cons_succ]
 refine held_one (i := 1) (by kernel_rfl) rfl (fun K hQ => ?_)
 go_simp
 (with_reducible refine (hcon.out _ hS0).mono ?_)
 rintro e w1 ⟨v, rfl, ⟨hv, -⟩, hb⟩
 obtain ⟨pq, cq, rfl, -⟩ := hv
 rw [hLe]
 have hS1 := below_call hS0 hb
 refine hQ.out _ _ hS1 ?_
 clear hQ
 try simp only [Act.put, List.setIfInBounds_toArray, List.set_cons_zero, List.set_cons_succ]
 refine reg_tk (i := 2) (v := .int .i64 L) (some 5) rfl (fun w' hS => by skip; go_simp) hS1 ?_
 simp only [Act.put, List.setIfInBounds_toArray, List.set_cons_zero, List.set_cons_succ]
 refine reg_tk (i := 10) (v := .bool b) (some 13) rfl (fun w' hS => by skip; go_simp) hS1 ?_
 simp only [Act.put, List.setIfInBounds_toArray, List.set_cons_zero, List.set_cons_succ]
 refine reg_tk (i := 11) (v := .bool b) (some 2) rfl (fun w' hS => by skip; go_simp) hS1 ?_
 simp only [Act.put, List.setIfInBounds_toArray, List.set_cons_zero, List.set_cons_succ]
 refine wpAnyH_done (by kernel_rfl) ?_ _
 show Exit.then _ _ Exit.normal _ _
 go_wp2_with fail
 go_ret
 exact ⟨rfl, hL.trans (hS1.mono hL.size)⟩
set_option maxHeartbeats 8000000 in
set_option maxRecDepth 100000 in
theorem lVal_b (su sw st : Value) (r : R9) (n : Int) (V0 W : World) (hR : RAt V0 su sw st r) (h0 : Below V0.heap.size V0 W) (hu : r.us.length ≤ 1000) (ht : r.ts.length ≤ 1000) (hsm : ∀ u ∈ r.us, u.needs.length ≤ 100000 ∧ u.trains.length ≤ 100000 ∧ u.ress.length ≤ 100000) (e : Hid (n = valv r)) :
 Calls Tryz.prog 50 #[.agg #[su, sw, st]] W fun e w' => e = .returned (.int .i64 n) ∧ Below W.heap.size W w' := by
 have hR0 := hid hR
 obtain ⟨q1, hq1⟩ : ∃ q, Hid (q = limv r) := ⟨_, hid rfl⟩
 obtain ⟨q2, hq2⟩ : ∃ q, Hid (q = namedv r) := ⟨_, hid rfl⟩
 obtain ⟨q3, hq3⟩ : ∃ q, Hid (q = ordv r) := ⟨_, hid rfl⟩
 obtain ⟨q4, hq4⟩ : ∃ q, Hid (q = dupv r) := ⟨_, hid rfl⟩
 obtain ⟨q5, hq5⟩ : ∃ q, Hid (q = numsv r) := ⟨_, hid rfl⟩
 obtain ⟨q6, hq6⟩ : ∃ q, Hid (q = foundv r) := ⟨_, hid rfl⟩
 obtain ⟨q7, hq7⟩ : ∃ q, Hid (q = typedv r) := ⟨_, hid rfl⟩
 obtain ⟨q8, hq8⟩ : ∃ q, Hid (q = decide ((seqv r).length < r.us.length + r.ts.length)) := ⟨_, hid rfl⟩
 replace e := hid (show n = if q1 = false then 2 else if q2 = false then 6 else if q3 = false then 13 else if q4 = true then 7 else if q5 = false then 1 else if q6 = false then 8 else if q7 = false then 18 else if q8 = true then 14 else 0 by
  rw [e.out, hq1.out, hq2.out, hq3.out, hq4.out, hq5.out, hq6.out, hq7.out, hq8.out]
  unfold valv
  simp only [decide_eq_true_eq])
 obtain ⟨p, c, rfl, hm, hat⟩ := hR.u
 obtain ⟨p1, c1, rfl, hm1, hat1⟩ := hR.w
 obtain ⟨p2, c2, rfl, hm2, hat2⟩ := hR.t
 have hB := Blk.new W [.slice p r.us.length c, .slice p1 r.ws.length c1, .slice p2 r.ts.length c2] 31
 have hL := (Below.refl W.heap.size W).alloc (Nat.le_refl _) (.cells [.slice p r.us.length c, .slice p1 r.ws.length c1, .slice p2 r.ts.length c2].toArray 31)
 unfold maxLen at hm hm1 hm2
 clear hR
 go_enter Tryz.func50, Tryz.ntmps50
 go_upto_region 1 with fail
 generalize W.alloc (.cells [.slice p r.us.length c, .slice p1 r.ws.length c1, .slice p2 r.ts.length c2].toArray 31) = V at *
 clear hat hat1 hat2
 obtain ⟨_, _, _, _, _, _⟩ := hB.three
 go_wp2_with fail
 ((with_reducible refine (llim_b _ _ _ r q1 V0 _ hR0.out (h0.trans (hL.mono h0.size)) hq1).mono ?_); rintro e w1 ⟨rfl, hb⟩)
 replace hB := hB.below hb
 replace hL := below_call hL hb
 clear hb
 cases q1 with
 | false =>
  have hn : n = 2 := e.out.trans (by simp)
  subst hn
  clear e
  go_wp2_with fail
  go_ret
  exact ⟨rfl, hL⟩
 | true =>
  obtain ⟨_, _, _, _, _, _⟩ := hB.three
  go_wp2_with fail
  ((with_reducible refine (lhasBad_b _ _ _ r q2 V0 _ hR0.out (h0.trans (hL.mono h0.size)) hq2).mono ?_); rintro e w1 ⟨rfl, hb⟩)
  replace hB := hB.below hb
  replace hL := below_call hL hb
  clear hb
  cases q2 with
  | false =>
   have hn : n = 6 := e.out.trans (by simp)
   subst hn
   clear e
   go_wp2_with fail
   go_ret
   exact ⟨rfl, hL⟩
  | true =>
   obtain ⟨_, _, _, _, _, _⟩ := hB.three
   go_wp2_with fail
   ((with_reducible refine (lord_b _ _ _ r q3 V0 _ hR0.out (h0.trans (hL.mono h0.size)) hu ht hq3).mono ?_); rintro e w1 ⟨rfl, hb⟩)
   replace hB := hB.below hb
   replace hL := below_call hL hb
   clear hb
   cases q3 with
   | false =>
    have hn : n = 13 := e.out.trans (by simp)
    subst hn
    clear e
    go_wp2_with fail
    go_ret
    exact ⟨rfl, hL⟩
   | true =>
    obtain ⟨_, _, _, _, _, _⟩ := hB.three
    go_wp2_with fail
    ((with_reducible refine (lshared_b _ _ _ r q4 V0 _ hR0.out (h0.trans (hL.mono h0.size)) hq4).mono ?_); rintro e w1 ⟨rfl, hb⟩)
    replace hB := hB.below hb
    replace hL := below_call hL hb
    clear hb
    cases q4 with
    | true =>
     have hn : n = 7 := e.out.trans (by simp)
     subst hn
     clear e
     go_wp2_with fail
     go_ret
     exact ⟨rfl, hL⟩
    | false =>
     obtain ⟨_, _, _, _, _, _⟩ := hB.three
     go_wp2_with fail
     ((with_reducible refine (lnum_b _ _ _ r q5 V0 _ hR0.out (h0.trans (hL.mono h0.size)) hq5).mono ?_); rintro e w1 ⟨rfl, hb⟩)
     replace hB := hB.below hb
     replace hL := below_call hL hb
     clear hb
     cases q5 with
     | false =>
      have hn : n = 1 := e.out.trans (by simp)
      subst hn
      clear e
      go_wp2_with fail
      go_ret
      exact ⟨rfl, hL⟩
     | true =>
      obtain ⟨_, _, _, _, _, _⟩ := hB.three
      go_wp2_with fail
      ((with_reducible refine (lunk_b _ _ _ r q6 V0 _ hR0.out (h0.trans (hL.mono h0.size)) hq6).mono ?_); rintro e w1 ⟨rfl, hb⟩)
      replace hB := hB.below hb
      replace hL := below_call hL hb
      clear hb
      cases q6 with
      | false =>
       have hn : n = 8 := e.out.trans (by simp)
       subst hn
       clear e
       go_wp2_with fail
       go_ret
       exact ⟨rfl, hL⟩
      | true =>
       obtain ⟨_, _, _, _, _, _⟩ := hB.three
       go_wp2_with fail
       ((with_reducible refine (ltyp_b _ _ _ r q7 V0 _ hR0.out (h0.trans (hL.mono h0.size)) hu ht hsm hq6.out.symm hq7).mono ?_); rintro e w1 ⟨rfl, hb⟩)
       replace hB := hB.below hb
       replace hL := below_call hL hb
       clear hb
       cases q7 with
       | false =>
        have hn : n = 18 := e.out.trans (by simp)
        subst hn
        clear e
        go_wp2_with fail
        go_ret
        exact ⟨rfl, hL⟩
       | true =>
        have hU : Uniq r := Uniq.of hq2.out.symm hq3.out.symm hq4.out.symm
        obtain ⟨_, _, _, _, _, _⟩ := hB.three
        go_wp2_with fail
        ((with_reducible refine (lcyc_b _ _ _ r q8 V0 _ hR0.out (h0.trans (hL.mono h0.size)) hu ht hU hq8).mono ?_); rintro e w1 ⟨rfl, hb⟩)
        replace hL := below_call hL hb
        clear hb hU
        cases q8 with
        | true =>
         have hn : n = 14 := e.out.trans (by simp)
         subst hn
         clear e
         go_wp2_with fail
         go_ret
         exact ⟨rfl, hL⟩
        | false =>
         have hn : n = 0 := e.out.trans (by simp)
         subst hn
         clear e
         go_wp2_with fail
         go_ret
         exact ⟨rfl, hL⟩
end
end
section
open Go.RowKit Go.Lib
def SlNewB (l : List ByteArray) (w : World) (e : Ending) (w' : World) : Prop := ∃ v, e = .returned v ∧ SB w' v l ∧ Below w.heap.size w w'
set_option maxHeartbeats 8000000 in
set_option maxRecDepth 100000 in
theorem dfieldsB_b (k : Int) (W : World) : Calls Tryz.prog 10 #[.int .i64 k] W (SlNewB (fieldsv k) W) := by
 by_cases h1 : k = 1
 · subst h1
   rw [fieldsU]
   go_enter Tryz.func10, Tryz.ntmps10
   go_wp2_with fail
   go_ret
   exact ⟨_, rfl, sb_blk (l := [⟨#[98, 117, 105, 108, 100, 105, 110, 103]⟩, ⟨#[100, 101, 112, 111, 116]⟩, ⟨#[99, 108, 97, 115, 115]⟩, ⟨#[119]⟩, ⟨#[104]⟩, ⟨#[114, 97, 100, 105, 117, 115]⟩, ⟨#[115, 112, 101, 101, 100]⟩, ⟨#[115, 105, 103, 104, 116]⟩, ⟨#[104, 112]⟩, ⟨#[97, 114, 109, 111, 114]⟩, ⟨#[108, 111, 97, 100]⟩, ⟨#[119, 101, 97, 112, 111, 110]⟩, ⟨#[111, 114, 101]⟩, ⟨#[119, 111, 111, 100]⟩, ⟨#[116, 105, 109, 101]⟩, ⟨#[110, 101, 101, 100, 115]⟩, ⟨#[116, 114, 97, 105, 110, 115]⟩, ⟨#[114, 101, 115, 101, 97, 114, 99, 104, 101, 115]⟩]) (Blk.new W [.string ⟨#[98, 117, 105, 108, 100, 105, 110, 103]⟩, .string ⟨#[100, 101, 112, 111, 116]⟩, .string ⟨#[99, 108, 97, 115, 115]⟩, .string ⟨#[119]⟩, .string ⟨#[104]⟩, .string ⟨#[114, 97, 100, 105, 117, 115]⟩, .string ⟨#[115, 112, 101, 101, 100]⟩, .string ⟨#[115, 105, 103, 104, 116]⟩, .string ⟨#[104, 112]⟩, .string ⟨#[97, 114, 109, 111, 114]⟩, .string ⟨#[108, 111, 97, 100]⟩, .string ⟨#[119, 101, 97, 112, 111, 110]⟩, .string ⟨#[111, 114, 101]⟩, .string ⟨#[119, 111, 111, 100]⟩, .string ⟨#[116, 105, 109, 101]⟩, .string ⟨#[110, 101, 101, 100, 115]⟩, .string ⟨#[116, 114, 97, 105, 110, 115]⟩, .string ⟨#[114, 101, 115, 101, 97, 114, 99, 104, 101, 115]⟩] _) (by decide) 18, (Below.refl W.heap.size W).alloc (Nat.le_refl _) _⟩
 have z1 : (k == 1) = false := beq_eq_false_iff_ne.2 h1
 by_cases h2 : k = 2
 · subst h2
   rw [fieldsW]
   go_enter Tryz.func10, Tryz.ntmps10
   go_wp2_with fail
   go_ret
   exact ⟨_, rfl, sb_blk (l := [⟨#[114, 97, 110, 103, 101]⟩, ⟨#[100, 97, 109, 97, 103, 101]⟩, ⟨#[99, 111, 111, 108]⟩, ⟨#[115, 112, 101, 101, 100]⟩, ⟨#[115, 112, 108, 97, 115, 104]⟩]) (Blk.new W [.string ⟨#[114, 97, 110, 103, 101]⟩, .string ⟨#[100, 97, 109, 97, 103, 101]⟩, .string ⟨#[99, 111, 111, 108]⟩, .string ⟨#[115, 112, 101, 101, 100]⟩, .string ⟨#[115, 112, 108, 97, 115, 104]⟩] _) (by decide) 5, (Below.refl W.heap.size W).alloc (Nat.le_refl _) _⟩
 have z2 : (k == 2) = false := beq_eq_false_iff_ne.2 h2
 by_cases h3 : k = 3
 · subst h3
   rw [fieldsT]
   go_enter Tryz.func10, Tryz.ntmps10
   go_wp2_with fail
   go_ret
   exact ⟨_, rfl, sb_blk (l := [⟨#[110, 101, 101, 100, 115]⟩, ⟨#[111, 114, 101]⟩, ⟨#[119, 111, 111, 100]⟩, ⟨#[116, 105, 109, 101]⟩, ⟨#[117, 110, 105, 116]⟩, ⟨#[115, 116, 97, 116]⟩, ⟨#[97, 109, 111, 117, 110, 116]⟩]) (Blk.new W [.string ⟨#[110, 101, 101, 100, 115]⟩, .string ⟨#[111, 114, 101]⟩, .string ⟨#[119, 111, 111, 100]⟩, .string ⟨#[116, 105, 109, 101]⟩, .string ⟨#[117, 110, 105, 116]⟩, .string ⟨#[115, 116, 97, 116]⟩, .string ⟨#[97, 109, 111, 117, 110, 116]⟩] _) (by decide) 7, (Below.refl W.heap.size W).alloc (Nat.le_refl _) _⟩
 have z3 : (k == 3) = false := beq_eq_false_iff_ne.2 h3
 rw [show fieldsv k = [] by unfold fieldsv; rw [if_neg h1, if_neg h2, if_neg h3]]
 go_enter Tryz.func10, Tryz.ntmps10
 go_wp2_with fail
 go_ret
 exact ⟨_, rfl, sb_nil W, Below.refl _ _⟩
theorem datK_b (su sw st : Value) (k : Int) (g o n c i : Nat) (W : World) (hk : k = 1 ∨ k = 2 ∨ k = 3) (hs : SliceK su sw st k = .slice (some ⟨g, o, none⟩) n c) (hi : i < n) (hn : n ≤ maxLen) :
 Calls Tryz.prog 53 #[.agg #[su, sw, st], .int .i64 k, .int .i64 i] W (AtPost g o k i W) := by
 rcases hk with rfl | rfl | rfl
 · obtain rfl : su = .slice (some ⟨g, o, none⟩) n c := hs
   exact dat1_b sw st g o n c i W hi hn
 · obtain rfl : sw = .slice (some ⟨g, o, none⟩) n c := hs
   exact dat2_b su st g o n c i W hi hn
 · obtain rfl : st = .slice (some ⟨g, o, none⟩) n c := hs
   exact dat3_b su sw g o n c i W hi hn
end
section
open Go.RowKit Go.Lib
theorem slice_some {W : World} {su sw st : Value} {r : R9} (hR : RAt W su sw st r) {k : Int} (hk : k = 1 ∨ k = 2 ∨ k = 3) (h1 : 1 ≤ (namesK r k).length) : ∃ g o n c, SliceK su sw st k = .slice (some ⟨g, o, none⟩) n c ∧ n = (namesK r k).length ∧ n ≤ maxLen := by
 obtain ⟨n1, n2, n3⟩ := names_len r
 rcases hk with rfl | rfl | rfl
 · obtain ⟨p, c, e, hm, hat⟩ := hR.u
   rw [n1] at h1 ⊢
   obtain ⟨g, o, rfl, -⟩ := hat h1
   exact ⟨g, o, _, c, e, rfl, hm⟩
 · obtain ⟨p, c, e, hm, hat⟩ := hR.w
   rw [n2] at h1 ⊢
   obtain ⟨g, o, rfl, -⟩ := hat h1
   exact ⟨g, o, _, c, e, rfl, hm⟩
 · obtain ⟨p, c, e, hm, hat⟩ := hR.t
   rw [n3] at h1 ⊢
   obtain ⟨g, o, rfl, -⟩ := hat h1
   exact ⟨g, o, _, c, e, rfl, hm⟩
theorem word_cat (k : Nat) (nm x1 x2 x3 : ByteArray) (h : k = 1 ∨ k = 2 ∨ k = 3) (e1 : x1 = wordA k ++ ByteArray.mk #[32]) (e2 : x2 = x1 ++ nm) (e3 : x3 = x2 ++ ByteArray.mk #[10]) : x3.data.toList = (wordK k ++ 32 :: nm.toList) ++ [10] := by
 have hw : wordA k = toB (wordK k) := by rcases h with rfl | rfl | rfl <;> rfl
 have := head_cat (wordK k) nm
 rw [e3, e2, e1, hw, this]
 simp [toB]
theorem field_cat (f x1 x2 x3 : ByteArray) (tl : List UInt8) (e1 : x1 = toB (32 :: (f.toList ++ [32]))) (e2 : x2 = x1 ++ toB tl) (e3 : x3 = x2 ++ ByteArray.mk #[10]) : x3.data.toList = (32 :: (f.toList ++ 32 :: tl)) ++ [10] := by
 subst e1 e2 e3
 simp [toB, ByteArray.data_append]
theorem nameI_at {r : R9} {k : Int} {i : Nat} (h : i < (namesK r k).length) : nameI r k i = (namesK r k)[i]'h := by unfold nameI; rw [List.getD_eq_getElem?_getD, List.getElem?_eq_getElem h]; rfl
set_option maxHeartbeats 8000000 in
set_option maxRecDepth 100000 in
theorem dprint_b (su sw st : Value) (r : R9) (V0 W : World) (hE : EnvR W) (hR : RAt V0 su sw st r) (hC : CapR V0 su st) (h0 : Below V0.heap.size V0 W) (hu : r.us.length ≤ 1000) (hw : r.ws.length ≤ 1000) (ht : r.ts.length ≤ 1000) (hlu : ∀ u ∈ r.us, u.needs.length ≤ 100000 ∧ u.trains.length ≤ 100000 ∧ u.ress.length ≤ 100000) :
 Calls Tryz.prog 20 #[.agg #[su, sw, st]] W (PrintPost r W) := by
 have hR0 := hid hR
 have hC0 := hid hC
 obtain ⟨n, hn⟩ : ∃ n, Hid (n = valv r) := ⟨_, hid rfl⟩
 obtain ⟨p, c, rfl, hm, -⟩ := hR.u
 obtain ⟨p1, c1, rfl, hm1, -⟩ := hR.w
 obtain ⟨p2, c2, rfl, hm2, -⟩ := hR.t
 have hB := Blk.new W [.slice p r.us.length c, .slice p1 r.ws.length c1, .slice p2 r.ts.length c2] 31
 have hL := (Below.refl W.heap.size W).alloc (Nat.le_refl _) (.cells [.slice p r.us.length c, .slice p1 r.ws.length c1, .slice p2 r.ts.length c2].toArray 31)
 clear hR hC hm hm1 hm2
 go_enter Tryz.func20, Tryz.ntmps20
 go_upto_region 1 with fail
 generalize W.alloc (.cells [.slice p r.us.length c, .slice p1 r.ws.length c1, .slice p2 r.ts.length c2].toArray 31) = V at *
 obtain ⟨_, _, _, _, _, _⟩ := hB.three
 go_wp2_with fail
 ((with_reducible refine (lVal_b _ _ _ r n V0 _ hR0.out (h0.trans (hL.mono h0.size)) hu ht hlu hn).mono ?_); rintro e w1 ⟨rfl, hb⟩)
 replace hB := hB.below hb
 replace hL := below_call hL hb
 clear hb
 by_cases hz : n = 0
 case neg =>
  have z1 : (n != 0) = true := bne_iff_ne.2 hz
  have hp := hid (show printv10 r = ([], n) by unfold printv10; rw [← hn.out, if_neg hz])
  clear hn hz
  go_wp2_with fail
  go_ret2
  exact ⟨by rw [hp.out]; rfl, hL⟩
 subst hz
 have hv := hn.out.symm
 have hp := hid (show printv10 r = (joinT (rulesL r), 0) by unfold printv10; rw [if_pos hv])
 have hI := hid (valid_ints hv)
 have hS9 := hid (valid_short hv)
 replace hv := hid hv
 clear hn
 have P0 : Bld W w1.heap.size [] (w1.alloc (.cells #[.pointer none, .slice none 0 0] 88)) :=
  ⟨hL.alloc hL.size _, hB.lt, Lib.fresh_isBuilder _ _ w1⟩
 replace hB := hB.alloc (.cells #[.pointer none, .slice none 0 0] 88)
 go_upto_region 5 with fail
 generalize w1.alloc (.cells #[.pointer none, .slice none 0 0] 88) = X at *
 generalize w1.heap.size = b at *
 clear hL
 go_wp2_with fail
 go_loopw [6] (fun v6 wr => ∃ k : Nat, v6 = .int .i64 k ∧ 1 ≤ k ∧ k ≤ 4 ∧ Blk wr W.heap.size [.slice p r.us.length c, .slice p1 r.ws.length c1, .slice p2 r.ts.length c2] 31 ∧ Bld W b (joinT (preK r k)) wr) (fun v6 _ => 4 - (RowKit.intOf v6).toNat)
 case atStart => exact ⟨1, rfl, by omega, by omega, hB, P0⟩
 case round =>
  clear hB P0
  obtain ⟨k, rfl, hk1, hk4, hB, hb9⟩ := hrel
  obtain ⟨_, _, _, _, _, _⟩ := hB.three
  by_cases hk : k ≤ 3
  case neg =>
   obtain rfl : k = 4 := by omega
   have hb8 := hb9.b
   have hbl := hb9.lt
   have hlo := hb9.lo
   have hgt := hb9.gt
   clear hk1 hk4 hk
   go_wp2_with fail
   ((with_reducible refine (Tryz.Builder_String_any b b _ _ hb8 (Nat.le_of_lt hbl)).mono ?_); rintro e w9 ⟨rfl, hb⟩)
   go_wp2_with fail
   go_ret2
   exact ⟨by rw [hp.out, ← preK_all]; rfl, hlo.trans (hb.mono (Nat.le_of_lt hgt))⟩
  have hk3 : k = 1 ∨ k = 2 ∨ k = 3 := by omega
  have hkI : (k : Int) = 1 ∨ (k : Int) = 2 ∨ (k : Int) = 3 := by omega
  have zk : (k : Int) ≤ 3 := by omega
  go_upto_region 8 with fail
  go_wp2_with fail
  ((with_reducible refine (dnames_b _ _ _ r k V0 _ hR0.out (h0.trans (hb9.lo.mono h0.size)) (by omega) (by omega) (by omega)).mono ?_); rintro e w2 ⟨v, rfl, -, hv9, hb⟩)
  replace hB := hB.below hb
  replace hb9 := hb9.call hb
  obtain ⟨pn, cn, rfl, hnm, -⟩ := id hv9
  unfold maxLen at hnm
  have hl0 : preK r k = preK r k ++ linesN r k 0 := by rw [show linesN r k 0 = [] from rfl, List.append_nil]
  rw [hl0] at hb9
  clear hb hl0
  go_upto_region 9 with fail
  go_loopw [25] (fun v25 wr => ∃ i : Nat, v25 = .int .i64 i ∧ i ≤ (namesK r k).length ∧ Blk wr W.heap.size [.slice p r.us.length c, .slice p1 r.ws.length c1, .slice p2 r.ts.length c2] 31 ∧ SB wr (.slice pn (namesK r k).length cn) (namesK r k) ∧ Bld W b (joinT (preK r k ++ linesN r k i)) wr) (fun v25 _ => (namesK r k).length - (RowKit.intOf v25).toNat)
  case atStart => exact ⟨0, rfl, by omega, hB, hv9, hb9⟩
  case round =>
   clear hB hv9 hb9
   obtain ⟨i, rfl, hi, hB, hv9, hb9⟩ := hrel
   by_cases hlt : i < (namesK r k).length
   case neg =>
    obtain rfl : i = (namesK r k).length := by omega
    have d1 : ¬ ((namesK r k).length : Int) < (namesK r k).length := by omega
    rw [head_full r hk3] at hb9
    clear hv9 hlt hi hnm
    go_wp2_with fail
    go_roundw
    case rel => exact ⟨k + 1, by go_num, by omega, by omega, hB, hb9⟩
    case measure => simp [RowKit.intOf]; omega
   have d1 : (i : Int) < (namesK r k).length := by omega
   have d0 : (0 : Int) ≤ i := by omega
   obtain ⟨p9, c9, e9, -, hat⟩ := id hv9
   injection e9 with e91 _ e93
   subst e93
   obtain ⟨gn, on, us9, e92, hg9, hi9⟩ := hat (by omega)
   rw [e92] at e91
   subst e91
   have q9 := (hg9.cell (on + i)).trans (hi9 i hlt)
   have hnI := nameI_at hlt
   rw [← hnI] at q9
   have hcur := curL_0 r k i
   have hle := curL_le hv.out 0 hk3 hlt
   rw [hcur, List.length_append] at hle
   have hnz : (nameI r k i).size ≤ 32768 := by
    rw [← rt_size, ← Lib.toList_data]
    simp only [List.length_append, List.length_cons] at hle
    omega
   obtain ⟨nm, hnm2⟩ : ∃ nm, nameI r k i = nm := ⟨_, rfl⟩
   rw [hnm2] at q9 hnz hle hcur
   obtain ⟨wd, hwd⟩ : ∃ x, wordA k = x := ⟨_, rfl⟩
   have hwz : wd.size ≤ 6 := by rw [← hwd]; rcases hk3 with rfl | rfl | rfl <;> decide
   obtain ⟨x1, e1⟩ : ∃ x, x = wd ++ ByteArray.mk #[32] := ⟨_, rfl⟩
   obtain ⟨x2, e2⟩ : ∃ x, x = x1 ++ nm := ⟨_, rfl⟩
   obtain ⟨x3, e3⟩ : ∃ x, x = x2 ++ ByteArray.mk #[10] := ⟨_, rfl⟩
   have m1 := rt_cats e1 hwz (show _ ≤ 1 from Nat.le_refl _)
   have m2 := rt_cats e2 m1 hnz
   have r1 := rt_cat (P := Tryz.prog) e1 (by show _ + 1 ≤ _; omega)
   have r2 := rt_cat (P := Tryz.prog) e2 (by omega)
   have r3 := rt_cat (P := Tryz.prog) e3 (by show _ + 1 ≤ _; omega)
   have hx3 := word_cat k nm x1 x2 x3 hk3 (by rw [hwd]; exact e1) e2 e3
   have hx3s : x3.size = (wordK k ++ 32 :: nm.toList ++ [10]).length := by rw [← hx3, ← rt_size]
   clear hat hi9 hg9 e1 e2 e3 m1 m2 hwz hnz hnI
   go_upto_region 11 with fail
   have hwk2 := (hb9.lo.cell (p := ⟨0, k, none⟩) (by have := hE.big; show 0 < _; omega)).trans ((hE.wds k (by omega)).trans (by rw [hwd]))
   go_wp2_with fail
   ((with_reducible refine (hb9.write x3 (by rw [hx3s]; omega)).mono ?_); rintro e w3 ⟨rfl, hb8, hr, hbl⟩)
   rw [hx3, ← hcur] at hb8
   replace hB := hr.blk hB (by decide) (by decide)
   replace hv9 := hr.sb hv9
   obtain ⟨gk, ok, nk, ck, hsl, hnk, hmk⟩ := slice_some hR0.out hkI (show 1 ≤ (namesK r k).length by omega)
   clear hr hbl hx3 hx3s hcur hle r1 r2 r3 hwk2 q9 hb9 hwd
   go_upto_region 12 with fail
   obtain ⟨_, _, _, _, _, _⟩ := hB.three
   go_wp2_with fail
   ((with_reducible refine (datK_b _ _ _ k gk ok nk ck i _ hkI hsl (by omega) hmk).mono ?_); rintro e w4 ⟨v, rfl, hEl, hb⟩)
   obtain ⟨vs, rfl, hvl, hlo⟩ := hEl.lone
   have ha := (Below.refl w4.heap.size w4).alloc (Nat.le_refl _) (.cells vs.toArray 64)
   have hX := Blk.new w4 vs 64
   replace hB := (hB.below hb).below ha
   replace hb8 := (hb8.call hb).call ha
   replace hv9 := (hv9.below hb).below ha
   replace hEl := hEl.below ha
   clear hb ha
   go_upto_region 13 with (first | (with_reducible refine wpList_alloc_agg rfl 64 rfl _ rfl eZero zeroEl ?_) | (with_reducible refine wpList_store_new rfl 64 _ _ rfl rfl Tryz.sizeOf64 vs eZero 64 (by with_unfolding_all rfl) (by with_unfolding_all rfl) hvl rfl hlo ?_))
   generalize w4.alloc (.cells vs.toArray 64) = X4 at *
   generalize w4.heap.size = xb at *
   go_wp2_with fail
   ((with_reducible refine (dfieldsB_b k _).mono ?_); rintro e w5 ⟨v, rfl, hf9, hb⟩)
   replace hB := hB.below hb
   replace hb8 := hb8.call hb
   replace hv9 := hv9.below hb
   replace hEl := hEl.below hb
   replace hX := hX.below hb
   clear hb
   obtain ⟨pf, cf, rfl, hfm, -⟩ := id hf9
   unfold maxLen at hfm
   go_upto_region 14 with fail
   go_loopw [45] (fun v45 wr => ∃ j : Nat, v45 = .int .i64 j ∧ j ≤ (fieldsv k).length ∧ Blk wr W.heap.size [.slice p r.us.length c, .slice p1 r.ws.length c1, .slice p2 r.ts.length c2] 31 ∧ SB wr (.slice (some ⟨gn, on, none⟩) (namesK r k).length cn) (namesK r k) ∧ SB wr (.slice pf (fieldsv k).length cf) (fieldsv k) ∧ Blk wr xb vs 64 ∧ Elem wr (.agg vs.toArray) k gk (ok + i * cellsK k) ∧ Bld W b (joinT (curL r k i j)) wr) (fun v45 _ => (fieldsv k).length - (RowKit.intOf v45).toNat)
   case atStart => exact ⟨0, rfl, by omega, hB, hv9, hf9, hX, hEl, hb8⟩
   case round =>
    clear hB hv9 hf9 hX hEl hb8
    obtain ⟨j, rfl, hj, hB, hv9, hf9, hX, hEl, hb9⟩ := hrel
    by_cases hjl : j < (fieldsv k).length
    case neg =>
     obtain rfl : j = (fieldsv k).length := by omega
     have e1 : ¬ ((fieldsv k).length : Int) < (fieldsv k).length := by omega
     rw [curL_full r k i rfl] at hb9
     clear hf9 hX hEl hj hjl hfm
     go_wp2_with fail
     go_roundw
     case rel =>
      refine ⟨i + 1, by go_num, by omega, ?_⟩
      (repeat' apply And.intro) <;> first | assumption | trivial
     case measure => simp [RowKit.intOf]; omega
    have e1 : (j : Int) < (fieldsv k).length := by omega
    have e0 : (0 : Int) ≤ j := by omega
    obtain ⟨p9, c9, e9, -, hat⟩ := id hf9
    injection e9 with e91 _ e93
    subst e93
    obtain ⟨g9, o9, us9, e92, hg9, hi9⟩ := hat (by omega)
    rw [e92] at e91
    subst e91
    have q9 := (hg9.cell (o9 + j)).trans (hi9 j hjl)
    have hfk : (fieldsv k)[j]'hjl ∈ fieldsv k := List.getElem_mem hjl
    have hcur := curL_next r k i hjl
    have hle := curL_le hv.out (j + 1) hk3 hlt
    rw [hcur, List.length_append] at hle
    have hle0 := curL_le hv.out j hk3 hlt
    obtain ⟨f, hf⟩ : ∃ f, (fieldsv k)[j]'hjl = f := ⟨_, rfl⟩
    rw [hf] at q9 hfk hcur hle
    obtain ⟨x, hx, hcv, hcap⟩ := cell_field hR0.out hC0.out hfk hlt hsl
    have h03 := h0.trans (hb9.lo.mono h0.size)
    have hx3 := (h03.cell (p := ⟨gk, ok + i * cellsK k + offv k f, none⟩) (World.block_lt_of_cell? V0 _ hx)).trans hx
    have hcv3 := hcv.below h03
    have hint : I64 (valueK r k i f).n := hI.out k i f hfk hlt
    have hsho := hS9.out k i f hfk hlt
    have htv := type_in hfk
    rw [htv] at hsho
    have hfl : fieldL k (valueK r k i) f = 32 :: (f.toList ++ 32 :: textL (sortv f) (valueK r k i f)) := by unfold fieldL; rw [htv]
    rw [hfl] at hcur hle
    have hfz : f.size ≤ 10 := by rw [← rt_size, ← Lib.toList_data]; exact (fields_short hfk).1
    have hE9 := hE.keep hb9.lo
    clear hx hcv hat hi9 hg9 hf htv hfl h03
    generalize valueK r k i f = v at *
    obtain ⟨bg, hbg⟩ : ∃ x, Hid (x = toB (32 :: (f.toList ++ [32]))) := ⟨_, hid rfl⟩
    have hbz : bg.size ≤ 12 := by rw [hbg.out, size_toB]; have := rt_size f; rw [← Lib.toList_data] at this; simp; omega
    obtain ⟨tx, htx⟩ : ∃ x, toB (textL (sortv f) v) = x := ⟨_, rfl⟩
    have htz : tx.size ≤ 50000 := by rw [← htx, size_toB]; exact hsho
    obtain ⟨x2, e2⟩ : ∃ x, x = bg ++ tx := ⟨_, rfl⟩
    obtain ⟨x3, e3⟩ : ∃ x, x = x2 ++ ByteArray.mk #[10] := ⟨_, rfl⟩
    have m2 := rt_cats e2 hbz htz
    have r2 := rt_cat (P := Tryz.prog) e2 (by omega)
    have r3 := rt_cat (P := Tryz.prog) e3 (by show _ + 1 ≤ _; omega)
    have hx9 := field_cat f bg x2 x3 (textL (sortv f) v) hbg.out (by rw [htx]; exact e2) e3
    have hx9s : x3.size = (32 :: (f.toList ++ 32 :: textL (sortv f) v) ++ [10]).length := by rw [← hx9, ← rt_size]
    have hlen3 : (joinT (curL r k i j)).length + x3.size ≤ 1000000 := by rw [hx9s]; omega
    have hTx := hid fun (W1 : World) (a1 : EnvR W1) (a2 : Elem W1 (.agg vs.toArray) k gk (ok + i * cellsK k)) (a3 : W1.cell? ⟨gk, ok + i * cellsK k + offv k f, none⟩ = some x) (a4 : CellV W1 x (sortv f) v) => dtext_b k gk (ok + i * cellsK k) _ f x v W1 a1 a2 hfk a3 a4 hcap (fun _ => hint) (by omega)
    rw [htx] at hTx
    clear e2 e3 m2 hbz htz hx9s hle hle0 htx hsho hint hfk
    go_upto_region 16 with fail
    have hmx : Tryz.prog.follows .mixedOrders = true := by kernel_rfl
    refine wp_region_held (S := fun w' => Wrt wr.drew w') hmx ?_
    show wpAnyH _ _ _ _ _ _ _ _ wr.drew
    have hD := (Below.refl wr.heap.size wr).drew
    replace hB := hB.below hD
    replace hv9 := hv9.below hD
    replace hf9 := hf9.below hD
    replace hX := hX.below hD
    replace hEl := hEl.below hD
    replace hb9 := hb9.call hD
    replace hE9 := hE9.keep hD
    replace hx3 := (hD.cell (p := ⟨gk, ok + i * cellsK k + offv k f, none⟩) (World.block_lt_of_cell? wr _ hx3)).trans hx3
    replace hcv3 := hcv3.below hD
    clear hD
    generalize wr.drew = wd at *
    have hS0 := Wrt.refl wd
    refine reg_tk (i := 0) (v := .string f) (some 49) rfl (fun w' hS => by go_simp) hS0 ?_
    simp only [Act.put, List.setIfInBounds_toArray, List.set_cons_zero, List.set_cons_succ]
    refine reg_tk (i := 2) (v := .agg vs.toArray) (some 51) rfl (fun w' hS => exec_load_agg 64 _ rfl ⟨xb, 0, none⟩ (by with_unfolding_all rfl) Tryz.isAgg64 Tryz.sizeOf64 vs ((hS.blk hX (by decide) (by decide)).loads hvl)) hS0 ?_
    simp only [Act.put, List.setIfInBounds_toArray, List.set_cons_zero, List.set_cons_succ]
    refine reg_tk (i := 3) (v := .string f) (some 52) rfl (fun w' hS => by go_simp) hS0 ?_
    simp only [Act.put, List.setIfInBounds_toArray, List.set_cons_zero, List.set_cons_succ]
    refine held_one (i := 1) (by kernel_rfl) rfl (fun K hQ => ?_)
    go_simp
    (with_reducible refine (dbegin_b f bg _ (by omega) hbg).mono ?_)
    rintro e _ ⟨rfl, rfl⟩
    refine hQ.out _ _ hS0 ?_
    clear hQ
    try simp only [Act.put, List.setIfInBounds_toArray, List.set_cons_zero, List.set_cons_succ]
    refine held_one (i := 4) (by kernel_rfl) rfl (fun K hQ => ?_)
    go_simp
    (with_reducible refine (hTx.out _ hE9 hEl hx3 hcv3).mono ?_)
    rintro e w6 ⟨rfl, hb⟩
    have hS1 := Wrt.call hb
    refine hQ.out _ _ hS1 ?_
    clear hQ
    try simp only [Act.put, List.setIfInBounds_toArray, List.set_cons_zero, List.set_cons_succ]
    refine reg_tk (i := 5) (v := .string x2) (some 54) rfl (fun w' hS => by have r9 := r2 w'; go_simp) hS1 ?_
    simp only [Act.put, List.setIfInBounds_toArray, List.set_cons_zero, List.set_cons_succ]
    refine reg_tk (i := 6) (v := .string x3) (some 55) rfl (fun w' hS => by have r9 := r3 w'; go_simp) hS1 ?_
    simp only [Act.put, List.setIfInBounds_toArray, List.set_cons_zero, List.set_cons_succ]
    replace hB := hB.below hb
    replace hv9 := hv9.below hb
    replace hf9 := hf9.below hb
    replace hX := hX.below hb
    replace hEl := hEl.below hb
    replace hb9 := hb9.call hb
    clear hE9 hx3 hcv3 hTx
    refine held_one (i := 7) (by kernel_rfl) rfl (fun K hQ => ?_)
    go_simp
    (with_reducible refine (hb9.write x3 hlen3).mono ?_)
    rintro e w7 ⟨rfl, hb8, hr, hbl⟩
    have hS2 := hS1.trans hr
    refine hQ.out _ _ hS2 ?_
    clear hQ
    try simp only [Act.put, List.setIfInBounds_toArray, List.set_cons_zero, List.set_cons_succ]
    replace hB := hr.blk hB (by decide) (by decide)
    replace hv9 := hr.sb hv9
    replace hf9 := hr.sb hf9
    replace hX := hr.blk hX (by decide) (by decide)
    replace hEl := hr.elem hEl
    rw [hx9, ← hcur] at hb8
    clear hS0 hS1 hS2 hr hbl hb hb9 hcur hx9 r2 r3
    refine wpAnyH_done (by kernel_rfl) ?_ _
    try show Exit.then _ _ Exit.normal _ _
    go_wp2_with fail
    go_roundw
    case rel =>
     refine ⟨j + 1, by go_num, by omega, ?_⟩
     (repeat' apply And.intro) <;> first | assumption | trivial
    case measure => simp [RowKit.intOf]; omega
end

end Go.Proofs.YtnjcdmjaecgblaaGreatDoor
