/-
  ruletext as landed at a382b96: what stays where one type's blocks change; the rules that are being read; Rules read line by line: what the next line does. No program is named here; ruletext as landed at a382b96: the kind that a word stands for; the next line; ruletext as landed at a382b96: the next line; an element added.
-/
import Derived.Test.YtnjcdmjaecgblaaGreatDoorZA10
import Derived.Great.BuildSlice
namespace Go.Proofs.YtnjcdmjaecgblaaGreatDoor
section
open Go.RowKit Go.Lib
structure ButT (T : TypeId) (w w' : World) : Prop where
 size : w.heap.size ≤ w'.heap.size
 block : ∀ h, h < w.heap.size → (∀ us, ¬ Blk w h us T) → w'.heap[h]? = w.heap[h]?
section
variable {T : TypeId} {w w' : World}
theorem ButT.refl (T : TypeId) (w : World) : ButT T w w := ⟨Nat.le_refl _, fun _ _ _ => rfl⟩
theorem ButT.trans {w1 : World} (h : ButT T w w1) (k : ButT T w1 w') : ButT T w w' := ⟨Nat.le_trans h.size k.size, fun x hx hn => by
 have h1 := h.block x hx hn
 exact (k.block x (Nat.lt_of_lt_of_le hx h.size) (fun us e => hn us (h1.symm.trans e))).trans h1⟩
theorem ButT.call (h : Below w.heap.size w w') : ButT T w w' := ⟨h.size, fun x hx _ => h.block x hx⟩
theorem ButT.set {b : Nat} {us : List Value} (h : Blk w b us T) (i : Nat) (x : Value) : ButT T w (w.setCell ⟨b, i, none⟩ x) :=
 ⟨((Below.refl 0 w).setCell (p := ⟨b, i, none⟩) (Nat.zero_le _) x).size, fun y _ hn => Below.heap_setCell w _ x y (fun e => hn us (by rw [e]; exact h))⟩
theorem ButT.row {b : Nat} {us : List Value} (h : Blk w b us T) (vs : Array Value) : ButT T w (w.setRow b vs) :=
 ⟨(below_setRow (Below.refl 0 w) (Nat.zero_le _) vs).size, fun y _ hn => setRow_other _ _ _ (fun e => hn us (by rw [e]; exact h))⟩
theorem ButT.grown {B k n : Nat} {v : Value} {xs : List Value} (hown : w.ownsRow B T k v n xs) (hg : w.grownBy w' v.ownBlock) : ButT T w w' :=
 ⟨hg.size, fun x hx hn => hg.block x hx fun e => by
  rcases hown.2 with ⟨rfl, -⟩ | ⟨g, cap, cur, rfl, -, hgg, -⟩
  · cases e
  · injection e with e
    subst e
    exact hn cur.toList (by unfold Blk; rw [Array.toArray_toList]; exact hgg)⟩
theorem ButT.blk {h : Nat} {us : List Value} {t : TypeId} (hr : ButT T w w') (hb : Blk w h us t) (ne : t ≠ T) : Blk w' h us t :=
 (hr.block h hb.lt fun us' e => by
  unfold Blk at hb e
  rw [hb] at e
  injection e with e
  injection e with _ e
  exact ne e).trans hb
theorem ButT.map {P : Program} {k : TypeId} {b : Nat} {l : List (ByteArray × Value)} (hr : ButT T w w') (hb : MapS P k w b l) : MapS P k w' b l := by
 have hlt := hb.lt
 have hne := fun us (e : Blk w b us T) => hb.ne e rfl
 obtain ⟨es, clock, hh, F, hs, hD⟩ := hb
 exact ⟨es, clock, (hr.block b hlt hne).trans hh, F, hs, hD⟩
theorem ButT.holds {P : Program} {k : TypeId} {m : Value} {L : List ByteArray} {F : ByteArray → Value} (hr : ButT T w w') (h : HoldS P k w m L F) : HoldS P k w' m L F := h.imp (fun ⟨b, D, e, q, r⟩ => ⟨b, D, e, hr.map q, r⟩) id
theorem ButT.elem {e : Value} {k : Int} {g o : Nat} (hr : ButT T w w') (h : Elem w e k g o) : Elem w' e k g o := by
 obtain ⟨m0, m1, m2, m3, m4, e, ⟨b, e0, q⟩, h1⟩ := h
 exact ⟨m0, m1, m2, m3, m4, e, ⟨b, e0, hr.map q⟩, hr.holds h1.1, hr.holds h1.2.1, hr.holds h1.2.2.1, hr.holds h1.2.2.2⟩
theorem ButT.sb {v : Value} {l : List ByteArray} (hr : ButT T w w') (h : SB w v l) (ne : 9 ≠ T) : SB w' v l := by
 obtain ⟨p, c, e, hm, hc⟩ := h
 refine ⟨p, c, e, hm, fun h1 => ?_⟩
 obtain ⟨g, o, us, e2, hg, hi⟩ := hc h1
 exact ⟨g, o, us, e2, hr.blk hg ne, hi⟩
theorem ButT.own {B k n : Nat} {e : TypeId} {v : Value} {xs : List Value} (hr : ButT T w w') (h : w.ownsRow B e k v n xs) (ne : e ≠ T) : w'.ownsRow B e k v n xs := by
 refine ⟨h.1, ?_⟩
 rcases h.2 with hn | ⟨g, cap, cur, rfl, hB, hgg, rest⟩
 · exact .inl hn
 · refine .inr ⟨g, cap, cur, rfl, hB, ?_, rest⟩
   have hb : Blk w g cur.toList e := by unfold Blk; rw [Array.toArray_toList]; exact hgg
   have h2 := hr.blk hb ne
   unfold Blk at h2
   rwa [Array.toArray_toList] at h2
end
def UB (w : World) (vs : List Value) (u : U9) : Prop := ∃ sn st sr, vs = uCells u sn st sr ∧ SB w sn u.needs ∧ SB w st u.trains ∧ SB w sr u.ress
def TB (w : World) (vs : List Value) (u : T9) : Prop := ∃ sn, vs = tCells u sn ∧ SB w sn u.needs
theorem UB.ul {w : World} {vs : List Value} {u : U9} (h : UB w vs u) : UL w vs u := let ⟨a, b, c, e, x, y, z⟩ := h; ⟨a, b, c, e, x.str, y.str, z.str⟩
theorem TB.tl {w : World} {vs : List Value} {u : T9} (h : TB w vs u) : TL w vs u := let ⟨a, e, x⟩ := h; ⟨a, e, x.str⟩
theorem UB.but {T : TypeId} {w w' : World} {vs : List Value} {u : U9} (h : UB w vs u) (hr : ButT T w w') (ne : 9 ≠ T) : UB w' vs u := let ⟨a, b, c, e, x, y, z⟩ := h; ⟨a, b, c, e, hr.sb x ne, hr.sb y ne, hr.sb z ne⟩
theorem TB.but {T : TypeId} {w w' : World} {vs : List Value} {u : T9} (h : TB w vs u) (hr : ButT T w w') (ne : 9 ≠ T) : TB w' vs u := let ⟨a, e, x⟩ := h; ⟨a, e, hr.sb x ne⟩
set_option maxRecDepth 100000 in
theorem UB.setField {W : World} {vs : List Value} {u : U9} (h : UB W vs u) {f : ByteArray} (hf : f ∈ fieldsv 1) {x : Value} {v : V10} (hx : CellV W x (sortv f) v) (hb : sortv f = 4 → SB W x v.l) : UB W (vs.set (offv 1 f) x) (withUv u f v) := by
 obtain ⟨sn, st, sr, rfl, h1, h2, h3⟩ := h
 rw [fieldsU] at hf
 simp only [List.mem_cons, List.not_mem_nil, or_false] at hf
 rcases hf with rfl | rfl | rfl | rfl | rfl | rfl | rfl | rfl | rfl | rfl | rfl | rfl | rfl | rfl | rfl | rfl | rfl | rfl
 · obtain rfl := hx.flag rfl
   exact ⟨_, _, _, rfl, h1, h2, h3⟩
 · obtain rfl := hx.flag rfl
   exact ⟨_, _, _, rfl, h1, h2, h3⟩
 · obtain rfl := hx.num rfl
   exact ⟨_, _, _, rfl, h1, h2, h3⟩
 · obtain rfl := hx.num rfl
   exact ⟨_, _, _, rfl, h1, h2, h3⟩
 · obtain rfl := hx.num rfl
   exact ⟨_, _, _, rfl, h1, h2, h3⟩
 · obtain rfl := hx.num rfl
   exact ⟨_, _, _, rfl, h1, h2, h3⟩
 · obtain rfl := hx.num rfl
   exact ⟨_, _, _, rfl, h1, h2, h3⟩
 · obtain rfl := hx.num rfl
   exact ⟨_, _, _, rfl, h1, h2, h3⟩
 · obtain rfl := hx.num rfl
   exact ⟨_, _, _, rfl, h1, h2, h3⟩
 · obtain rfl := hx.num rfl
   exact ⟨_, _, _, rfl, h1, h2, h3⟩
 · obtain rfl := hx.num rfl
   exact ⟨_, _, _, rfl, h1, h2, h3⟩
 · obtain rfl := hx.name rfl
   exact ⟨_, _, _, rfl, h1, h2, h3⟩
 · obtain rfl := hx.num rfl
   exact ⟨_, _, _, rfl, h1, h2, h3⟩
 · obtain rfl := hx.num rfl
   exact ⟨_, _, _, rfl, h1, h2, h3⟩
 · obtain rfl := hx.num rfl
   exact ⟨_, _, _, rfl, h1, h2, h3⟩
 · exact ⟨_, _, _, rfl, hb rfl, h2, h3⟩
 · exact ⟨_, _, _, rfl, h1, hb rfl, h3⟩
 · exact ⟨_, _, _, rfl, h1, h2, hb rfl⟩
set_option maxRecDepth 100000 in
theorem TB.setField {W : World} {vs : List Value} {u : T9} (h : TB W vs u) {f : ByteArray} (hf : f ∈ fieldsv 3) {x : Value} {v : V10} (hx : CellV W x (sortv f) v) (hb : sortv f = 4 → SB W x v.l) : TB W (vs.set (offv 3 f) x) (withTv u f v) := by
 obtain ⟨sn, rfl, h1⟩ := h
 rw [fieldsT] at hf
 simp only [List.mem_cons, List.not_mem_nil, or_false] at hf
 rcases hf with rfl | rfl | rfl | rfl | rfl | rfl | rfl
 · exact ⟨_, rfl, hb rfl⟩
 · obtain rfl := hx.num rfl
   exact ⟨_, rfl, h1⟩
 · obtain rfl := hx.num rfl
   exact ⟨_, rfl, h1⟩
 · obtain rfl := hx.num rfl
   exact ⟨_, rfl, h1⟩
 · obtain rfl := hx.name rfl
   exact ⟨_, rfl, h1⟩
 · obtain rfl := hx.num rfl
   exact ⟨_, rfl, h1⟩
 · obtain rfl := hx.num rfl
   exact ⟨_, rfl, h1⟩
theorem UB.below {w w' : World} {vs : List Value} {u : U9} (h : UB w vs u) (hb : Below w.heap.size w w') : UB w' vs u := let ⟨a, b, c, e, x, y, z⟩ := h; ⟨a, b, c, e, x.below hb, y.below hb, z.below hb⟩
theorem TB.below {w w' : World} {vs : List Value} {u : T9} (h : TB w vs u) (hb : Below w.heap.size w w') : TB w' vs u := let ⟨a, e, x⟩ := h; ⟨a, e, x.below hb⟩
def Rwb (w : World) (B : Nat) (su sw st : Value) (r : R9) : Prop := ∃ q0 k0 q1 k1 q2 k2 cu cw ct, su = .slice q0 r.us.length k0 ∧ sw = .slice q1 r.ws.length k1 ∧ st = .slice q2 r.ts.length k2 ∧
 w.ownsRow B 53 19 (.slice q0 r.us.length k0) r.us.length (flatR cu r.us.length) ∧ w.ownsRow B 51 6 (.slice q1 r.ws.length k1) r.ws.length (flatR cw r.ws.length) ∧ w.ownsRow B 56 8 (.slice q2 r.ts.length k2) r.ts.length (flatR ct r.ts.length) ∧
 (∀ j (h : j < r.us.length), UB w (cu j) (r.us[j]'h) ∧ ∀ v ∈ cu j, CapV v) ∧ (∀ j (h : j < r.ws.length), WL (cw j) (r.ws[j]'h)) ∧ (∀ j (h : j < r.ts.length), TB w (ct j) (r.ts[j]'h) ∧ ∀ v ∈ ct j, CapV v)
theorem Rwb.nil (w : World) (B : Nat) : Rwb w B (.slice none 0 0) (.slice none 0 0) (.slice none 0 0) R9.zero :=
 ⟨none, 0, none, 0, none, 0, fun _ => [], fun _ => [], fun _ => [], rfl, rfl, rfl, World.ownsRow_nil _ _ _ _, World.ownsRow_nil _ _ _ _, World.ownsRow_nil _ _ _ _, fun _ h => absurd h (Nat.not_lt_zero _), fun _ h => absurd h (Nat.not_lt_zero _), fun _ h => absurd h (Nat.not_lt_zero _)⟩
theorem Rwb.but {T : TypeId} {w w' : World} {B : Nat} {su sw st : Value} {r : R9} (h : Rwb w B su sw st r) (hr : ButT T w w') (n0 : 9 ≠ T) (n1 : 53 ≠ T) (n2 : 51 ≠ T) (n3 : 56 ≠ T) : Rwb w' B su sw st r := by
 obtain ⟨q0, k0, q1, k1, q2, k2, cu, cw, ct, e0, e1, e2, a, b, c, d, e, f⟩ := h
 exact ⟨q0, k0, q1, k1, q2, k2, cu, cw, ct, e0, e1, e2, hr.own a n1, hr.own b n2, hr.own c n3, fun j h => ⟨(d j h).1.but hr n0, (d j h).2⟩, e, fun j h => ⟨(f j h).1.but hr n0, (f j h).2⟩⟩
theorem Rwb.below {w w' : World} {B : Nat} {su sw st : Value} {r : R9} (h : Rwb w B su sw st r) (hb : Below w.heap.size w w') : Rwb w' B su sw st r := by
 obtain ⟨q0, k0, q1, k1, q2, k2, cu, cw, ct, e0, e1, e2, a, b, c, d, e, f⟩ := h
 exact ⟨q0, k0, q1, k1, q2, k2, cu, cw, ct, e0, e1, e2, own_below a hb, own_below b hb, own_below c hb, fun j h => ⟨(d j h).1.below hb, (d j h).2⟩, e, fun j h => ⟨(f j h).1.below hb, (f j h).2⟩⟩
theorem Rwb.rat {w : World} {B : Nat} {su sw st : Value} {r : R9} (h : Rwb w B su sw st r) (hu : r.us.length ≤ 10000) (hw : r.ws.length ≤ 10000) (ht : r.ts.length ≤ 10000) : RAt w su sw st r ∧ CapR w su st := by
 obtain ⟨q0, k0, q1, k1, q2, k2, cu, cw, ct, e0, e1, e2, a, b, c, d, e, f⟩ := h
 exact Rws.rat (B := B) ⟨q0, k0, q1, k1, q2, k2, cu, cw, ct, e0, e1, e2, a, b, c, fun j h => ⟨(d j h).1.ul, (d j h).2⟩, e, fun j h => ⟨(f j h).1.tl, (f j h).2⟩⟩ hu hw ht
theorem Rwb.blk {w : World} {B : Nat} {su sw st : Value} {r : R9} (h : Rwb w B su sw st r) {k : Int} {f : ByteArray} (hf : f ∈ fieldsv k) {i : Nat} (hi : i < (namesK r k).length) {g o n c : Nat} (hs : SliceK su sw st k = .slice (some ⟨g, o, none⟩) n c) :
 o = 0 ∧ B ≤ g ∧ ∃ us tc, Blk w g us tc ∧ i * cellsK k + offv k f < us.length ∧ 9 ≠ tc ∧ 64 ≠ tc ∧ 99 ≠ tc := by
 obtain ⟨n1, n2, n3⟩ := names_len r
 obtain ⟨q0, k0, q1, k1, q2, k2, cu, cw, ct, rfl, rfl, rfl, ha, hb, hc, -⟩ := h
 rcases kind_of hf with rfl | rfl | rfl
 · rw [n1] at hi
   replace hs : Value.slice q0 r.us.length k0 = .slice (some ⟨g, o, none⟩) n c := hs
   injection hs with e1 e2 e3
   subst e1
   obtain ⟨g', e9⟩ := own_g ha (by omega)
   injection e9 with e9
   injection e9 with e8 e9
   subst e8 e9
   obtain ⟨cur, hblk, hcl, hgB⟩ := own_blk ha
   refine ⟨rfl, hgB, cur, _, hblk, ?_, by decide, by decide, by decide⟩
   have h1 := (off_ltU hf).2
   have h2 : (i + 1) * 19 ≤ r.us.length * 19 := Nat.mul_le_mul_right _ hi
   rw [show cellsK 1 = 19 from rfl]
   omega
 · rw [n2] at hi
   replace hs : Value.slice q1 r.ws.length k1 = .slice (some ⟨g, o, none⟩) n c := hs
   injection hs with e1 e2 e3
   subst e1
   obtain ⟨g', e9⟩ := own_g hb (by omega)
   injection e9 with e9
   injection e9 with e8 e9
   subst e8 e9
   obtain ⟨cur, hblk, hcl, hgB⟩ := own_blk hb
   refine ⟨rfl, hgB, cur, _, hblk, ?_, by decide, by decide, by decide⟩
   have h1 := (off_ltW hf).2
   have h2 : (i + 1) * 6 ≤ r.ws.length * 6 := Nat.mul_le_mul_right _ hi
   rw [show cellsK 2 = 6 from rfl]
   omega
 · rw [n3] at hi
   replace hs : Value.slice q2 r.ts.length k2 = .slice (some ⟨g, o, none⟩) n c := hs
   injection hs with e1 e2 e3
   subst e1
   obtain ⟨g', e9⟩ := own_g hc (by omega)
   injection e9 with e9
   injection e9 with e8 e9
   subst e8 e9
   obtain ⟨cur, hblk, hcl, hgB⟩ := own_blk hc
   refine ⟨rfl, hgB, cur, _, hblk, ?_, by decide, by decide, by decide⟩
   have h1 := (off_ltT hf).2
   have h2 : (i + 1) * 8 ≤ r.ts.length * 8 := Nat.mul_le_mul_right _ hi
   rw [show cellsK 3 = 8 from rfl]
   omega
theorem Rwb.field {w : World} {B C : Nat} {su sw st : Value} {r : R9} (h : Rwb w B su sw st r) {k : Int} {f : ByteArray} (hf : f ∈ fieldsv k) {i : Nat} (hi : i < (namesK r k).length) {g o n c : Nat} (hs : SliceK su sw st k = .slice (some ⟨g, o, none⟩) n c) {x : Value} {v : V10} (hx : CellV w x (sortv f) v) (hN : NewSl C x) (hC : g < C) (hcx : CapV x) (hsb : sortv f = 4 → SB w x v.l) :
 Rwb (w.setCell ⟨g, i * cellsK k + offv k f, none⟩ x) B su sw st (setK10 r k i f v) := by
 obtain ⟨n1, n2, n3⟩ := names_len r
 obtain ⟨q0, k0, q1, k1, q2, k2, cu, cw, ct, rfl, rfl, rfl, ha, hb, hc, hd, he, hff⟩ := h
 have hx' : ∀ j, CellV (w.setCell ⟨g, j, none⟩ x) x (sortv f) v := fun j => hx.moves hN hC x rfl
 have ku : ∀ i, i < r.us.length → (cu i).length = 19 := fun i h => (hd i h).1.ul.len
 have kw : ∀ i, i < r.ws.length → (cw i).length = 6 := fun i h => (he i h).len
 have kt : ∀ i, i < r.ts.length → (ct i).length = 8 := fun i h => (hff i h).1.tl.len
 rcases kind_of hf with rfl | rfl | rfl
 · rw [n1] at hi
   replace hs : Value.slice q0 r.us.length k0 = .slice (some ⟨g, o, none⟩) n c := hs
   injection hs with e1 e2 e3
   subst e1
   obtain ⟨g', e9⟩ := own_g ha (by omega)
   injection e9 with e9
   injection e9 with e8 e9
   subst e8 e9
   obtain ⟨cur, hblk, hcl, hgB⟩ := own_blk ha
   have h1 := (off_ltU hf).2
   have h2 : (i + 1) * 19 ≤ r.us.length * 19 := Nat.mul_le_mul_right _ hi
   have hw := own_set1 (o := i * 19 + offv 1 f) ha (by omega) x
   rw [flatR_set (by decide) ku hi h1] at hw
   have hU : ∀ j (h : j < r.us.length), UB (w.setCell ⟨g, i * 19 + offv 1 f, none⟩ x) (cu j) (r.us[j]'h) ∧ ∀ v ∈ cu j, CapV v := fun j h => ⟨(hd j h).1.but (ButT.set hblk _ x) (by decide), (hd j h).2⟩
   have hT : ∀ j (h : j < r.ts.length), TB (w.setCell ⟨g, i * 19 + offv 1 f, none⟩ x) (ct j) (r.ts[j]'h) ∧ ∀ v ∈ ct j, CapV v := fun j h => ⟨(hff j h).1.but (ButT.set hblk _ x) (by decide), (hff j h).2⟩
   have hm : (r.us.modify i fun u => withUv u f v).length = r.us.length := List.length_modify ..
   show Rwb (w.setCell ⟨g, i * 19 + offv 1 f, none⟩ x) B _ _ _ { r with us := r.us.modify i fun u => withUv u f v }
   exact ⟨(some ⟨g, 0, none⟩), k0, q1, k1, q2, k2, (fun m => if m = i then (cu i).set (offv 1 f) x else cu m), cw, ct, by rw [hm], rfl, rfl, (by rw [hm]; exact hw), own_byType hb hblk (by decide) (fun k hk => Below.heap_setCell _ _ _ k hk), own_byType hc hblk (by decide) (fun k hk => Below.heap_setCell _ _ _ k hk), modify_set (R := fun vs u => UB _ vs u ∧ ∀ v ∈ vs, CapV v) hi hU ⟨(hU i hi).1.setField hf (hx' _) (fun q => (ButT.set hblk _ x).sb (hsb q) (by decide)), cap_set (hU i hi).2 hcx⟩, he, hT⟩
 · rw [n2] at hi
   replace hs : Value.slice q1 r.ws.length k1 = .slice (some ⟨g, o, none⟩) n c := hs
   injection hs with e1 e2 e3
   subst e1
   obtain ⟨g', e9⟩ := own_g hb (by omega)
   injection e9 with e9
   injection e9 with e8 e9
   subst e8 e9
   obtain ⟨cur, hblk, hcl, hgB⟩ := own_blk hb
   have h1 := (off_ltW hf).2
   have h2 : (i + 1) * 6 ≤ r.ws.length * 6 := Nat.mul_le_mul_right _ hi
   have hw := own_set1 (o := i * 6 + offv 2 f) hb (by omega) x
   rw [flatR_set (by decide) kw hi h1] at hw
   have hU : ∀ j (h : j < r.us.length), UB (w.setCell ⟨g, i * 6 + offv 2 f, none⟩ x) (cu j) (r.us[j]'h) ∧ ∀ v ∈ cu j, CapV v := fun j h => ⟨(hd j h).1.but (ButT.set hblk _ x) (by decide), (hd j h).2⟩
   have hT : ∀ j (h : j < r.ts.length), TB (w.setCell ⟨g, i * 6 + offv 2 f, none⟩ x) (ct j) (r.ts[j]'h) ∧ ∀ v ∈ ct j, CapV v := fun j h => ⟨(hff j h).1.but (ButT.set hblk _ x) (by decide), (hff j h).2⟩
   have hm : (r.ws.modify i fun u => withWv u f v).length = r.ws.length := List.length_modify ..
   show Rwb (w.setCell ⟨g, i * 6 + offv 2 f, none⟩ x) B _ _ _ { r with ws := r.ws.modify i fun u => withWv u f v }
   exact ⟨q0, k0, (some ⟨g, 0, none⟩), k1, q2, k2, cu, (fun m => if m = i then (cw i).set (offv 2 f) x else cw m), ct, rfl, by rw [hm], rfl, own_byType ha hblk (by decide) (fun k hk => Below.heap_setCell _ _ _ k hk), (by rw [hm]; exact hw), own_byType hc hblk (by decide) (fun k hk => Below.heap_setCell _ _ _ k hk), hU, modify_set (R := WL) hi he ((he i hi).setField hf (hx' 0)), hT⟩
 · rw [n3] at hi
   replace hs : Value.slice q2 r.ts.length k2 = .slice (some ⟨g, o, none⟩) n c := hs
   injection hs with e1 e2 e3
   subst e1
   obtain ⟨g', e9⟩ := own_g hc (by omega)
   injection e9 with e9
   injection e9 with e8 e9
   subst e8 e9
   obtain ⟨cur, hblk, hcl, hgB⟩ := own_blk hc
   have h1 := (off_ltT hf).2
   have h2 : (i + 1) * 8 ≤ r.ts.length * 8 := Nat.mul_le_mul_right _ hi
   have hw := own_set1 (o := i * 8 + offv 3 f) hc (by omega) x
   rw [flatR_set (by decide) kt hi h1] at hw
   have hU : ∀ j (h : j < r.us.length), UB (w.setCell ⟨g, i * 8 + offv 3 f, none⟩ x) (cu j) (r.us[j]'h) ∧ ∀ v ∈ cu j, CapV v := fun j h => ⟨(hd j h).1.but (ButT.set hblk _ x) (by decide), (hd j h).2⟩
   have hT : ∀ j (h : j < r.ts.length), TB (w.setCell ⟨g, i * 8 + offv 3 f, none⟩ x) (ct j) (r.ts[j]'h) ∧ ∀ v ∈ ct j, CapV v := fun j h => ⟨(hff j h).1.but (ButT.set hblk _ x) (by decide), (hff j h).2⟩
   have hm : (r.ts.modify i fun u => withTv u f v).length = r.ts.length := List.length_modify ..
   show Rwb (w.setCell ⟨g, i * 8 + offv 3 f, none⟩ x) B _ _ _ { r with ts := r.ts.modify i fun u => withTv u f v }
   exact ⟨q0, k0, q1, k1, (some ⟨g, 0, none⟩), k2, cu, cw, (fun m => if m = i then (ct i).set (offv 3 f) x else ct m), rfl, rfl, by rw [hm], own_byType ha hblk (by decide) (fun k hk => Below.heap_setCell _ _ _ k hk), own_byType hb hblk (by decide) (fun k hk => Below.heap_setCell _ _ _ k hk), (by rw [hm]; exact hw), hU, he, modify_set (R := fun vs u => TB _ vs u ∧ ∀ v ∈ vs, CapV v) hi hT ⟨(hT i hi).1.setField hf (hx' _) (fun q => (ButT.set hblk _ x).sb (hsb q) (by decide)), cap_set (hT i hi).2 hcx⟩⟩
theorem flatR_snoc (cs : Nat → List Value) (n : Nat) (x : List Value) : flatR (fun m => if m = n then x else cs m) (n + 1) = flatR cs n ++ x := by
 rw [flatR_succ, if_pos rfl]
 congr 1
 unfold flatR
 simp only [List.flatMap_def]
 congr 1
 exact List.map_congr_left fun a ha => if_neg (Nat.ne_of_lt (List.mem_range.1 ha))
theorem snoc_all {α : Type} {R : List Value → α → Prop} {l : List α} {x : α} {cs : Nat → List Value} {vs : List Value} (h : ∀ j (hj : j < l.length), R (cs j) (l[j]'hj)) (hv : R vs x) : ∀ j (hj : j < (l ++ [x]).length), R (if j = l.length then vs else cs j) ((l ++ [x])[j]'hj) := fun j hj => by
 by_cases e : j = l.length
 · subst e
   rw [if_pos rfl, List.getElem_append_right (Nat.le_refl _)]
   simpa using hv
 · have hjl : j < l.length := by rw [List.length_append, List.length_singleton] at hj; omega
   rw [if_neg e, List.getElem_append_left hjl]
   exact h j hjl
theorem Rwb.addU {w w' : World} {B : Nat} {r : R9} {q0 q1 q2 p : Option Addr} {k0 k1 k2 m : Nat} {cu cw ct : Nat → List Value} {vs : List Value} {x : U9} (_a : w.ownsRow B 53 19 (.slice q0 r.us.length k0) r.us.length (flatR cu r.us.length)) (b : w.ownsRow B 51 6 (.slice q1 r.ws.length k1) r.ws.length (flatR cw r.ws.length)) (c : w.ownsRow B 56 8 (.slice q2 r.ts.length k2) r.ts.length (flatR ct r.ts.length))
 (d : ∀ j (h : j < r.us.length), UB w (cu j) (r.us[j]'h) ∧ ∀ v ∈ cu j, CapV v) (e : ∀ j (h : j < r.ws.length), WL (cw j) (r.ws[j]'h)) (f : ∀ j (h : j < r.ts.length), TB w (ct j) (r.ts[j]'h) ∧ ∀ v ∈ ct j, CapV v) (hr : ButT 53 w w') (hown : w'.ownsRow B 53 19 (.slice p (r.us.length + 1) m) (r.us.length + 1) (flatR cu r.us.length ++ vs)) (hv : UB w' vs x) (hc : ∀ v ∈ vs, CapV v) :
 Rwb w' B (.slice p (r.us.length + 1) m) (.slice q1 r.ws.length k1) (.slice q2 r.ts.length k2) { r with us := r.us ++ [x] } := by
 have hm : (r.us ++ [x]).length = r.us.length + 1 := by simp
 exact ⟨p, m, q1, k1, q2, k2, (fun m => if m = r.us.length then vs else cu m), cw, ct, by rw [hm], rfl, rfl, (by rw [hm, flatR_snoc]; exact hown), hr.own b (by decide), hr.own c (by decide), snoc_all (R := fun vs u => UB _ vs u ∧ ∀ v ∈ vs, CapV v) (fun j h => ⟨(d j h).1.but hr (by decide), (d j h).2⟩) ⟨hv, hc⟩, e, fun j h => ⟨(f j h).1.but hr (by decide), (f j h).2⟩⟩
theorem Rwb.addW {w w' : World} {B : Nat} {r : R9} {q0 q1 q2 p : Option Addr} {k0 k1 k2 m : Nat} {cu cw ct : Nat → List Value} {vs : List Value} {x : W9} (a : w.ownsRow B 53 19 (.slice q0 r.us.length k0) r.us.length (flatR cu r.us.length)) (_b : w.ownsRow B 51 6 (.slice q1 r.ws.length k1) r.ws.length (flatR cw r.ws.length)) (c : w.ownsRow B 56 8 (.slice q2 r.ts.length k2) r.ts.length (flatR ct r.ts.length))
 (d : ∀ j (h : j < r.us.length), UB w (cu j) (r.us[j]'h) ∧ ∀ v ∈ cu j, CapV v) (e : ∀ j (h : j < r.ws.length), WL (cw j) (r.ws[j]'h)) (f : ∀ j (h : j < r.ts.length), TB w (ct j) (r.ts[j]'h) ∧ ∀ v ∈ ct j, CapV v) (hr : ButT 51 w w') (hown : w'.ownsRow B 51 6 (.slice p (r.ws.length + 1) m) (r.ws.length + 1) (flatR cw r.ws.length ++ vs)) (hv : WL vs x) :
 Rwb w' B (.slice q0 r.us.length k0) (.slice p (r.ws.length + 1) m) (.slice q2 r.ts.length k2) { r with ws := r.ws ++ [x] } := by
 have hm : (r.ws ++ [x]).length = r.ws.length + 1 := by simp
 exact ⟨q0, k0, p, m, q2, k2, cu, (fun m => if m = r.ws.length then vs else cw m), ct, rfl, by rw [hm], rfl, hr.own a (by decide), (by rw [hm, flatR_snoc]; exact hown), hr.own c (by decide), fun j h => ⟨(d j h).1.but hr (by decide), (d j h).2⟩, snoc_all (R := WL) e hv, fun j h => ⟨(f j h).1.but hr (by decide), (f j h).2⟩⟩
theorem Rwb.addT {w w' : World} {B : Nat} {r : R9} {q0 q1 q2 p : Option Addr} {k0 k1 k2 m : Nat} {cu cw ct : Nat → List Value} {vs : List Value} {x : T9} (a : w.ownsRow B 53 19 (.slice q0 r.us.length k0) r.us.length (flatR cu r.us.length)) (b : w.ownsRow B 51 6 (.slice q1 r.ws.length k1) r.ws.length (flatR cw r.ws.length)) (_c : w.ownsRow B 56 8 (.slice q2 r.ts.length k2) r.ts.length (flatR ct r.ts.length))
 (d : ∀ j (h : j < r.us.length), UB w (cu j) (r.us[j]'h) ∧ ∀ v ∈ cu j, CapV v) (e : ∀ j (h : j < r.ws.length), WL (cw j) (r.ws[j]'h)) (f : ∀ j (h : j < r.ts.length), TB w (ct j) (r.ts[j]'h) ∧ ∀ v ∈ ct j, CapV v) (hr : ButT 56 w w') (hown : w'.ownsRow B 56 8 (.slice p (r.ts.length + 1) m) (r.ts.length + 1) (flatR ct r.ts.length ++ vs)) (hv : TB w' vs x) (hc : ∀ v ∈ vs, CapV v) :
 Rwb w' B (.slice q0 r.us.length k0) (.slice q1 r.ws.length k1) (.slice p (r.ts.length + 1) m) { r with ts := r.ts ++ [x] } := by
 have hm : (r.ts ++ [x]).length = r.ts.length + 1 := by simp
 exact ⟨q0, k0, q1, k1, p, m, cu, cw, (fun m => if m = r.ts.length then vs else ct m), rfl, rfl, by rw [hm], hr.own a (by decide), hr.own b (by decide), (by rw [hm, flatR_snoc]; exact hown), fun j h => ⟨(d j h).1.but hr (by decide), (d j h).2⟩, e, snoc_all (R := fun vs u => TB _ vs u ∧ ∀ v ∈ vs, CapV v) (fun j h => ⟨(f j h).1.but hr (by decide), (f j h).2⟩) ⟨hv, hc⟩⟩
end
section
open Go.RowKit Go.Lib
theorem rd_no {p : P10} {n : Nat} {s : List UInt8} (h : (cutC 10 s).2.2 = false) : goP p n (linesB s) = (p, n, true) ∧ tailB s = s := by
 obtain ⟨a, b⟩ := linesB_no h
 rw [a]
 exact ⟨rfl, b⟩
theorem rd_none {p : P10} {n : Nat} {s : List UInt8} (h : (cutC 10 s).2.2 = true) (hl : lineP p (cutC 10 s).1 = none) : goP p n (linesB s) = (p, n, false) := by
 rw [(linesB_yes h).1]
 exact goP_none hl
theorem rd_some {p q : P10} {n : Nat} {s : List UInt8} (h : (cutC 10 s).2.2 = true) (hl : lineP p (cutC 10 s).1 = some q) : goP p n (linesB s) = goP q (n + 1) (linesB (cutC 10 s).2.1) ∧ tailB s = tailB (cutC 10 s).2.1 := by
 obtain ⟨a, b⟩ := linesB_yes h
 rw [a]
 exact ⟨goP_some hl, b⟩
def BadT (p : P10) (n : Nat) (s : List UInt8) : Prop := (goP p n (linesB s)).2.2 = false ∨ tailB s ≠ [] ∨ (goP p n (linesB s)).1.d < (fieldsv (goP p n (linesB s)).1.k).length
def Bad (p : P10) (n : Nat) (s : List UInt8) (m : Nat) : Prop := BadT p n s ∧ (goP p n (linesB s)).2.1 = m
theorem bad_none {p : P10} {n : Nat} {s : List UInt8} (h : (cutC 10 s).2.2 = true) (hl : lineP p (cutC 10 s).1 = none) : Bad p n s n := by
 have e := rd_none (n := n) h hl
 exact ⟨.inl (by rw [e]), by rw [e]⟩
theorem bad_full {p : P10} {n : Nat} {s : List UInt8} (h : (cutC 10 s).2.2 = false) (hs : s ≠ []) : Bad p n s n := by
 obtain ⟨e, e2⟩ := rd_no (p := p) (n := n) h
 exact ⟨.inr (.inl (by rw [e2]; exact hs)), by rw [e]⟩
theorem bad_end {p : P10} {n : Nat} {s : List UInt8} (h : (cutC 10 s).2.2 = false) (hd : p.d < (fieldsv p.k).length) : Bad p n s n := by
 obtain ⟨e, e2⟩ := rd_no (p := p) (n := n) h
 exact ⟨.inr (.inr (by rw [e]; exact hd)), by rw [e]⟩
theorem Bad.back {p q : P10} {n m k : Nat} {s t : List UInt8} (h : Bad q m t k) (e : goP p n (linesB s) = goP q m (linesB t)) (e2 : tailB s = tailB t) : Bad p n s k := by
 unfold Bad BadT at *
 rw [e, e2]
 exact h
def kindW (w : List UInt8) : Option Nat := if w = wordK 1 then some 1 else if w = wordK 2 then some 2 else if w = wordK 3 then some 3 else none
theorem kindW_3 {w : List UInt8} {k : Nat} (h : kindW w = some k) : k = 1 ∨ k = 2 ∨ k = 3 := by
 unfold kindW at h
 split at h
 · injection h with h; omega
 · split at h
   · injection h with h; omega
   · split at h
     · injection h with h; omega
     · cases h
theorem strip_w (w t : List UInt8) (hp : (32 : UInt8) ∉ w) : stripB (w ++ [32]) t = if (cutC 32 t).2.2 = true ∧ (cutC 32 t).1 = w then some (cutC 32 t).2.1 else none := by
 rw [strip_word w [] t hp]
 rfl
theorem first_cut (t : List UInt8) : firstL t = if (cutC 32 t).2.2 = true then (match kindW (cutC 32 t).1 with | some k => if nameB (cutC 32 t).2.1 = true then some ((k : Int), (cutC 32 t).2.1) else none | none => none) else none := by
 unfold firstL
 rw [strip_w _ t (show (32 : UInt8) ∉ wordK 1 by decide), strip_w _ t (show (32 : UInt8) ∉ wordK 2 by decide), strip_w _ t (show (32 : UInt8) ∉ wordK 3 by decide)]
 generalize (cutC 32 t).1 = w
 generalize (cutC 32 t).2.1 = x
 generalize (cutC 32 t).2.2 = f
 cases f with
 | false => simp
 | true =>
  have n12 : ¬ wordK 1 = wordK 2 := by decide
  have n13 : ¬ wordK 1 = wordK 3 := by decide
  have n23 : ¬ wordK 2 = wordK 3 := by decide
  have n21 : ¬ wordK 2 = wordK 1 := by decide
  have n31 : ¬ wordK 3 = wordK 1 := by decide
  have n32 : ¬ wordK 3 = wordK 2 := by decide
  unfold kindW
  by_cases h1 : w = wordK 1
  · subst h1
    simp [n12, n13]
  · by_cases h2 : w = wordK 2
    · subst h2
      simp [n21, n23]
    · by_cases h3 : w = wordK 3
      · subst h3
        simp [n31, n32]
      · simp [h1, h2, h3]
theorem line_full {p : P10} (hd : p.d = (fieldsv p.k).length) (t : List UInt8) : lineP p t = match firstL t with | none => none | some (k, nm) => if k < p.k then none else some ⟨k, 0, newK p.r k nm⟩ := by
 unfold lineP
 rw [if_pos hd]
 rfl
theorem line_no {p : P10} (hd : p.d = (fieldsv p.k).length) {t : List UInt8} (h : kindW (cutC 32 t).1 = none ∨ nameB (cutC 32 t).2.1 = false ∨ (cutC 32 t).2.2 = false) : lineP p t = none := by
 have e : firstL t = none := by
  rw [first_cut]
  rcases h with h | h | h
  · rw [h]; split <;> rfl
  · rw [h]
    by_cases q : (cutC 32 t).2.2 = true
    · rw [if_pos q]; cases kindW (cutC 32 t).1 <;> rfl
    · rw [if_neg q]
  · rw [h]; rfl
 rw [line_full hd, e]
theorem line_small {p : P10} (hd : p.d = (fieldsv p.k).length) {t : List UInt8} {k : Nat} (h : kindW (cutC 32 t).1 = some k) (hk : (k : Int) < p.k) : lineP p t = none := by
 rw [line_full hd, first_cut, h]
 by_cases q : (cutC 32 t).2.2 = true
 · rw [if_pos q]
   by_cases q2 : nameB (cutC 32 t).2.1 = true
   · simp only [if_pos q2, if_pos hk]
   · simp only [if_neg q2]
 · rw [if_neg q]
theorem line_yes {p : P10} (hd : p.d = (fieldsv p.k).length) {t : List UInt8} {k : Nat} (h : kindW (cutC 32 t).1 = some k) (hf : (cutC 32 t).2.2 = true) (hn : nameB (cutC 32 t).2.1 = true) (hk : ¬ (k : Int) < p.k) : lineP p t = some ⟨k, 0, newK p.r k (cutC 32 t).2.1⟩ := by
 rw [line_full hd, first_cut, if_pos hf, h]
 simp only [if_pos hn, if_neg hk]
theorem line_fieldP {p : P10} {j : Nat} (hd : p.d = j) (hj : j < (fieldsv p.k).length) (t : List UInt8) : lineP p t = match stripB (32 :: (((fieldsv p.k)[j]'hj).toList ++ [32])) t with
 | none => none
 | some s => match readv (sortv ((fieldsv p.k)[j]'hj)) s with
  | none => none
  | some v => some ⟨p.k, j + 1, setK10 p.r p.k (lastK p.r p.k) ((fieldsv p.k)[j]'hj) v⟩ := by
 subst hd
 unfold lineP
 rw [if_neg (by omega)]
 have e : (fieldsv p.k).getD p.d ⟨#[]⟩ = (fieldsv p.k)[p.d]'hj := by rw [List.getD_eq_getElem?_getD, List.getElem?_eq_getElem hj]; rfl
 rw [e, type_in (List.getElem_mem hj)]
 rfl
end
section
open Go.RowKit Go.Lib
theorem isAggA : ∀ w, (isAgg 94).run Tryz.prog w = .ok true w := fun w => by kernel_rfl
theorem sizeOfA : ∀ w, (Go.sizeOf 94).run Tryz.prog w = .ok 4 w := fun w => by kernel_rfl
def wordsL : List Value := [.string (wordA 0), .string (wordA 1), .string (wordA 2), .string (wordA 3)]
theorem words_at {w : World} (hE : EnvR w) : CellsAt w 0 0 wordsL := fun j v h => by
 have hj : j < 4 := (List.getElem?_eq_some_iff.1 h).1
 have h2 := hE.wds j hj
 rw [Nat.zero_add, h2, ← h]
 rcases (show j = 0 ∨ j = 1 ∨ j = 2 ∨ j = 3 by omega) with rfl | rfl | rfl | rfl <;> rfl
theorem kind_word {s : ByteArray} : kindW s.toList = if s = wordA 1 then some 1 else if s = wordA 2 then some 2 else if s = wordA 3 then some 3 else none := by
 have h : ∀ k, k = 1 ∨ k = 2 ∨ k = 3 → (s.toList = wordK (k : Nat) ↔ s = wordA k) := fun k hk => by
  have hw : wordA k = toB (wordK k) := by rcases hk with rfl | rfl | rfl <;> rfl
  rw [hw]
  constructor
  · intro e; rw [← e]; exact (list_toB s).symm
  · intro e; rw [e]; simp [toB, Lib.toList_data]
 unfold kindW
 have h1 := h 1 (.inl rfl)
 have h2 := h 2 (.inr (.inl rfl))
 have h3 := h 3 (.inr (.inr rfl))
 simp only [show ((1 : Nat) : Int) = 1 from rfl, show ((2 : Nat) : Int) = 2 from rfl, show ((3 : Nat) : Int) = 3 from rfl] at h1 h2 h3
 simp only [h1, h2, h3]
theorem idxA0 : ∀ w, Sem.run Tryz.prog (Instr.index 94 (.agg wordsL.toArray) (.int .i64 0)) w = .ok (.string (wordA 0)) w := fun w => by kernel_rfl
theorem idxA1 : ∀ w, Sem.run Tryz.prog (Instr.index 94 (.agg wordsL.toArray) (.int .i64 1)) w = .ok (.string (wordA 1)) w := fun w => by kernel_rfl
theorem idxA2 : ∀ w, Sem.run Tryz.prog (Instr.index 94 (.agg wordsL.toArray) (.int .i64 2)) w = .ok (.string (wordA 2)) w := fun w => by kernel_rfl
theorem idxA3 : ∀ w, Sem.run Tryz.prog (Instr.index 94 (.agg wordsL.toArray) (.int .i64 3)) w = .ok (.string (wordA 3)) w := fun w => by kernel_rfl
def KindP (s : ByteArray) (W : World) (e : Ending) (w' : World) : Prop := ∃ (k : Nat) (b : Bool), e = .returned (.tuple #[.int .i64 k, .bool b]) ∧ (b = true → kindW s.toList = some k) ∧ (b = false → kindW s.toList = none) ∧ w' = W
set_option maxHeartbeats 8000000 in
set_option maxRecDepth 100000 in
theorem dkind_b (s : ByteArray) (W : World) (hE : EnvR W) :
 Calls Tryz.prog 106 #[.string s] W (KindP s W) := by
 have hk := hid (kind_word (s := s))
 have kl := hid ((words_at hE).loads (P := Tryz.prog) (show wordsL.length = 4 from rfl))
 clear hE
 go_enter Tryz.func106, Tryz.ntmps106
 go_wp2_with (with_reducible refine wpList_load_agg rfl 94 _ rfl ⟨0, 0, none⟩ (by with_unfolding_all rfl) isAggA sizeOfA wordsL kl.out ?_)
 go_loopw [7] (fun v7 wr => ∃ i : Nat, v7 = .int .i64 i ∧ i ≤ 4 ∧ wr = W ∧ Hid (∀ j, 1 ≤ j → j < i → ¬ s = wordA j)) (fun v7 _ => 4 - (RowKit.intOf v7).toNat)
 case atStart => exact ⟨0, rfl, by omega, rfl, hid fun j _ h => absurd h (Nat.not_lt_zero j)⟩
 case round =>
  obtain ⟨i, rfl, hi, rfl, hN⟩ := hrel
  by_cases hlt : i < 4
  case neg =>
   have d1 : ¬ (i : Int) < 4 := by omega
   have hno := hid (show kindW s.toList = none by rw [hk.out, if_neg (hN.out 1 (by omega) (by omega)), if_neg (hN.out 2 (by omega) (by omega)), if_neg (hN.out 3 (by omega) (by omega))])
   clear hk hN kl
   go_wp2_with fail
   go_ret2
   exact ⟨0, false, rfl, fun q => (by cases q), fun _ => hno.out, rfl⟩
  have d1 : (i : Int) < 4 := by omega
  have d0 : (0 : Int) ≤ i := by omega
  rcases (show i = 0 ∨ i = 1 ∨ i = 2 ∨ i = 3 by omega) with rfl | rfl | rfl | rfl
  · have q9 : Sem.run Tryz.prog (Instr.index 94 (.agg wordsL.toArray) (.int .i64 0)) wr = .ok (.string ⟨#[]⟩) wr := idxA0 wr
    clear kl
    by_cases hs : s = ⟨#[]⟩
    · subst hs
      go_wp2_with fail
      all_goals go_roundw
      all_goals first | exact ⟨1, by go_num, by omega, trivial, hid fun j h1 h2 => absurd h2 (by omega)⟩ | (simp [RowKit.intOf])
    · obtain ⟨a1, a2⟩ := lit_two (l := []) hs
      have a3 : ([] == s.toList) = false := beq_eq_false_iff_ne.2 fun e => a2 e.symm
      go_wp2_with fail
      all_goals go_roundw
      all_goals first | exact ⟨1, by go_num, by omega, trivial, hid fun j h1 h2 => absurd h2 (by omega)⟩ | (simp [RowKit.intOf])
  · have q9 : Sem.run Tryz.prog (Instr.index 94 (.agg wordsL.toArray) (.int .i64 1)) wr = .ok (.string ⟨#[117, 110, 105, 116]⟩) wr := idxA1 wr
    clear kl
    by_cases hs : s = ⟨#[117, 110, 105, 116]⟩
    · have hkk := hid (show kindW s.toList = some 1 by rw [hs, Lib.toList_data]; rfl)
      clear hk hN
      subst hs
      go_wp2_with fail
      go_ret2
      exact ⟨1, true, rfl, fun _ => hkk.out, fun q => (by cases q), rfl⟩
    · obtain ⟨a1, a2⟩ := lit_two (l := [117, 110, 105, 116]) hs
      have a3 : ([117, 110, 105, 116] == s.toList) = false := beq_eq_false_iff_ne.2 fun e => a2 e.symm
      go_wp2_with fail
      all_goals go_roundw
      all_goals first | exact ⟨2, by go_num, by omega, trivial, hid fun j h1 h2 => (by rcases Nat.lt_or_ge j 1 with q | q; exact hN.out j h1 q; obtain rfl : j = 1 := (by omega); exact hs)⟩ | (simp [RowKit.intOf])
  · have q9 : Sem.run Tryz.prog (Instr.index 94 (.agg wordsL.toArray) (.int .i64 2)) wr = .ok (.string ⟨#[119, 101, 97, 112, 111, 110]⟩) wr := idxA2 wr
    clear kl
    by_cases hs : s = ⟨#[119, 101, 97, 112, 111, 110]⟩
    · have hkk := hid (show kindW s.toList = some 2 by rw [hs, Lib.toList_data]; rfl)
      clear hk hN
      subst hs
      go_wp2_with fail
      go_ret2
      exact ⟨2, true, rfl, fun _ => hkk.out, fun q => (by cases q), rfl⟩
    · obtain ⟨a1, a2⟩ := lit_two (l := [119, 101, 97, 112, 111, 110]) hs
      have a3 : ([119, 101, 97, 112, 111, 110] == s.toList) = false := beq_eq_false_iff_ne.2 fun e => a2 e.symm
      go_wp2_with fail
      all_goals go_roundw
      all_goals first | exact ⟨3, by go_num, by omega, trivial, hid fun j h1 h2 => (by rcases Nat.lt_or_ge j 2 with q | q; exact hN.out j h1 q; obtain rfl : j = 2 := (by omega); exact hs)⟩ | (simp [RowKit.intOf])
  · have q9 : Sem.run Tryz.prog (Instr.index 94 (.agg wordsL.toArray) (.int .i64 3)) wr = .ok (.string ⟨#[116, 101, 99, 104]⟩) wr := idxA3 wr
    clear kl
    by_cases hs : s = ⟨#[116, 101, 99, 104]⟩
    · have hkk := hid (show kindW s.toList = some 3 by rw [hs, Lib.toList_data]; rfl)
      clear hk hN
      subst hs
      go_wp2_with fail
      go_ret2
      exact ⟨3, true, rfl, fun _ => hkk.out, fun q => (by cases q), rfl⟩
    · obtain ⟨a1, a2⟩ := lit_two (l := [116, 101, 99, 104]) hs
      have a3 : ([116, 101, 99, 104] == s.toList) = false := beq_eq_false_iff_ne.2 fun e => a2 e.symm
      go_wp2_with fail
      all_goals go_roundw
      all_goals first | exact ⟨4, by go_num, by omega, trivial, hid fun j h1 h2 => (by rcases Nat.lt_or_ge j 3 with q | q; exact hN.out j h1 q; obtain rfl : j = 3 := (by omega); exact hs)⟩ | (simp [RowKit.intOf])
end
section
open Go.RowKit Go.Lib
def Rdr (w : World) (b : Nat) (s : ByteArray) (n k : Int) (su sw st : Value) : Prop := Blk w b [.string s, .int .i64 n, .int .i64 k, su, sw, st] 99
def NextP (b : Nat) (s : ByteArray) (n k : Int) (su sw st : Value) (W : World) (e : Ending) (w' : World) : Prop := ∃ x y f, e = .returned (.tuple #[.string x, .bool f]) ∧ x.toList = (cutC 10 s.toList).1 ∧ y.toList = (cutC 10 s.toList).2.1 ∧ f = (cutC 10 s.toList).2.2 ∧ Rdr w' b y (n + 1) k su sw st ∧ ButT 99 W w' ∧ Below b W w'
theorem Rdr.cells {w : World} {b : Nat} {s : ByteArray} {n k : Int} {su sw st : Value} (h : Rdr w b s n k su sw st) : w.cell? ⟨b, 0, none⟩ = some (.string s) ∧ w.cell? ⟨b, 1, none⟩ = some (.int .i64 n) ∧ w.cell? ⟨b, 2, none⟩ = some (.int .i64 k) ∧ w.cell? ⟨b, 3, none⟩ = some su ∧ w.cell? ⟨b, 4, none⟩ = some sw ∧ w.cell? ⟨b, 5, none⟩ = some st ∧ ∀ i, w.frozen? ⟨b, i, none⟩ = false :=
 ⟨h.cell 0, h.cell 1, h.cell 2, h.cell 3, h.cell 4, h.cell 5, fun i => h.frozen i⟩
set_option maxHeartbeats 8000000 in
set_option maxRecDepth 100000 in
theorem dnext_b (b : Nat) (s : ByteArray) (n k : Int) (su sw st : Value) (W : World) (hE : EnvR W) (h : Rdr W b s n k su sw st) (hs : s.size ≤ 100000) (hn : 0 ≤ n ∧ n ≤ 1000000) :
 Calls Tryz.prog 104 #[.pointer (some ⟨b, 0, none⟩)] W (NextP b s n k su sw st W) := by
 obtain ⟨x, hx⟩ : ∃ x, Hid (x = toB (cutC 10 s.data.toList).1) := ⟨_, hid rfl⟩
 obtain ⟨y, hy⟩ : ∃ x, Hid (x = toB (cutC 10 s.data.toList).2.1) := ⟨_, hid rfl⟩
 obtain ⟨f, hf⟩ : ∃ x, Hid (x = (cutC 10 s.data.toList).2.2) := ⟨_, hid rfl⟩
 obtain ⟨k0, -⟩ := h.cells
 go_enter Tryz.func104, Tryz.ntmps104
 go_upto_region 1 with fail
 go_wp2_with fail
 ((with_reducible refine (tcut_b s 10 x y f _ hE hs hx hy hf).mono ?_); rintro e w1 ⟨rfl, hb⟩)
 have h1 : Rdr w1 b s n k su sw st := Blk.below h hb
 obtain ⟨k0, k1, -, -, -, -, k6⟩ := h1.cells
 have f0 := k6 0
 have f1 := k6 1
 have hlt := Blk.lt h
 have h2 := (Blk.set h1 1 (.int .i64 (n + 1))).set 0 (.string y)
 simp only [List.set_cons_zero, List.set_cons_succ] at h2
 have hr := ((ButT.call hb).trans (ButT.set h1 1 (.int .i64 (n + 1)))).trans (ButT.set (Blk.set h1 1 (.int .i64 (n + 1))) 0 (.string y))
 have hL := ((hb.mono (Nat.le_of_lt hlt)).setCell (p := ⟨b, 1, none⟩) (Nat.le_refl _) (.int .i64 (n + 1))).setCell (p := ⟨b, 0, none⟩) (Nat.le_refl _) (.string y)
 clear hb h1 h k6
 go_wp2_with fail
 go_ret2
 exact ⟨x, y, f, rfl, by rw [hx.out]; simp [toB, Lib.toList_data], by rw [hy.out]; simp [toB, Lib.toList_data], by rw [hf.out, Lib.toList_data], h2, hr, hL⟩
end

end Go.Proofs.YtnjcdmjaecgblaaGreatDoor
