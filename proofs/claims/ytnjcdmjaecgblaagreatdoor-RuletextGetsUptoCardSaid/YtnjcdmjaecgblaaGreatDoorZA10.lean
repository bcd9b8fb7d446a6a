/-
  ruletext as landed at a382b96: rules that the call owns; a field of them is set; ruletext as landed at a382b96: Set; ruletext as landed at a382b96: strings.Builder, and what its writes leave; The lines of rules, as far as they are written. No program is named here.
-/
import Derived.Test.YtnjcdmjaecgblaaGreatDoorZA09
import Derived.Shelf.Strings.Builder1
namespace Go.Proofs.YtnjcdmjaecgblaaGreatDoor
section
open Go.RowKit Go.Lib
theorem own_capC {w : World} {B k n c : Nat} {q : Option Addr} {e : TypeId} {cs : Nat → List Value} (h : w.ownsRow B e k (.slice q n c) n (flatR cs n)) (hk : ∀ i, i < n → (cs i).length = k) (hc : ∀ i, i < n → ∀ v ∈ cs i, CapV v) (h0 : 0 < k) : CapC w (.slice q n c) k := by
 intro g o n' c' e j v hj hv
 injection e with e1 e2 e3
 subst e1 e2 e3
 have hn : 1 ≤ n := by rcases Nat.eq_zero_or_pos n with q | q; · subst q; simp at hj
                       · exact q
 obtain ⟨g', e9⟩ := own_g h hn
 injection e9 with e9
 injection e9 with e8 e9
 subst e8 e9
 have hd : j / k < n := Nat.div_lt_of_lt_mul (by rw [Nat.mul_comm]; exact hj)
 have hmo : j % k < k := Nat.mod_lt _ h0
 have hjj : j / k * k + j % k = j := by rw [Nat.mul_comm]; exact Nat.div_add_mod j k
 have h2 := own_at h hd hk hmo
 rw [hjj] at h2
 rw [Nat.zero_add] at hv
 exact hc _ hd v (List.mem_of_getElem? (h2.symm.trans hv))
theorem UN.heap {w w' : World} {B : Nat} {vs : List Value} {u : U9} (h : UN w B vs u) (hk : ∀ k, B ≤ k → w'.heap[k]? = w.heap[k]?) : UN w' B vs u := by
 obtain ⟨sn, st, sr, e, a, b, c⟩ := h
 exact ⟨sn, st, sr, e, own_heap a hk, own_heap b hk, own_heap c hk⟩
theorem TN.heap {w w' : World} {B : Nat} {vs : List Value} {u : T9} (h : TN w B vs u) (hk : ∀ k, B ≤ k → w'.heap[k]? = w.heap[k]?) : TN w' B vs u := by
 obtain ⟨sn, e, a⟩ := h
 exact ⟨sn, e, own_heap a hk⟩
def Cln (w : World) (B : Nat) (su sw st : Value) (r : R9) : Prop := ∃ q0 k0 q1 k1 q2 k2 cu cw ct, su = .slice q0 r.us.length k0 ∧ sw = .slice q1 r.ws.length k1 ∧ st = .slice q2 r.ts.length k2 ∧
 w.ownsRow B 53 19 (.slice q0 r.us.length k0) r.us.length (flatR cu r.us.length) ∧ w.ownsRow B 51 6 (.slice q1 r.ws.length k1) r.ws.length (flatR cw r.ws.length) ∧ w.ownsRow B 56 8 (.slice q2 r.ts.length k2) r.ts.length (flatR ct r.ts.length) ∧
 (∀ j (h : j < r.us.length), UN w B (cu j) (r.us[j]'h)) ∧ (∀ j (h : j < r.ws.length), WL (cw j) (r.ws[j]'h)) ∧ (∀ j (h : j < r.ts.length), TN w B (ct j) (r.ts[j]'h))
def Rws (w : World) (B : Nat) (su sw st : Value) (r : R9) : Prop := ∃ q0 k0 q1 k1 q2 k2 cu cw ct, su = .slice q0 r.us.length k0 ∧ sw = .slice q1 r.ws.length k1 ∧ st = .slice q2 r.ts.length k2 ∧
 w.ownsRow B 53 19 (.slice q0 r.us.length k0) r.us.length (flatR cu r.us.length) ∧ w.ownsRow B 51 6 (.slice q1 r.ws.length k1) r.ws.length (flatR cw r.ws.length) ∧ w.ownsRow B 56 8 (.slice q2 r.ts.length k2) r.ts.length (flatR ct r.ts.length) ∧
 (∀ j (h : j < r.us.length), UL w (cu j) (r.us[j]'h) ∧ ∀ v ∈ cu j, CapV v) ∧ (∀ j (h : j < r.ws.length), WL (cw j) (r.ws[j]'h)) ∧ (∀ j (h : j < r.ts.length), TL w (ct j) (r.ts[j]'h) ∧ ∀ v ∈ ct j, CapV v)
theorem CloneAll.cln {r : R9} {w : World} {e : Ending} {w' : World} (h : CloneAll r w e w') : ∃ su sw st, e = .returned (.agg #[su, sw, st]) ∧ (∃ q0 k0 q1 k1 q2 k2, su = .slice q0 r.us.length k0 ∧ sw = .slice q1 r.ws.length k1 ∧ st = .slice q2 r.ts.length k2) ∧ Cln w' w.heap.size su sw st r ∧ Below w.heap.size w w' := by
 obtain ⟨q0, k0, q1, k1, q2, k2, cu, cw, ct, rfl, a, b, c, d, e, f, hb⟩ := h
 exact ⟨_, _, _, rfl, ⟨q0, k0, q1, k1, q2, k2, rfl, rfl, rfl⟩, ⟨q0, k0, q1, k1, q2, k2, cu, cw, ct, rfl, rfl, rfl, a, b, c, d, e, f⟩, hb⟩
theorem Cln.heap {w w' : World} {B : Nat} {su sw st : Value} {r : R9} (h : Cln w B su sw st r) (hk : ∀ k, B ≤ k → w'.heap[k]? = w.heap[k]?) : Cln w' B su sw st r := by
 obtain ⟨q0, k0, q1, k1, q2, k2, cu, cw, ct, e0, e1, e2, a, b, c, d, e, f⟩ := h
 exact ⟨q0, k0, q1, k1, q2, k2, cu, cw, ct, e0, e1, e2, own_heap a hk, own_heap b hk, own_heap c hk, fun j h => (d j h).heap hk, e, fun j h => (f j h).heap hk⟩
theorem Cln.below {w w' : World} {B : Nat} {su sw st : Value} {r : R9} (h : Cln w B su sw st r) (hb : Below w.heap.size w w') : Cln w' B su sw st r := by
 obtain ⟨q0, k0, q1, k1, q2, k2, cu, cw, ct, e0, e1, e2, a, b, c, d, e, f⟩ := h
 exact ⟨q0, k0, q1, k1, q2, k2, cu, cw, ct, e0, e1, e2, own_below a hb, own_below b hb, own_below c hb, fun j h => (d j h).below hb, e, fun j h => (f j h).below hb⟩
theorem Cln.rws {w : World} {B : Nat} {su sw st : Value} {r : R9} (h : Cln w B su sw st r) (hlu : ∀ u ∈ r.us, u.needs.length ≤ 100000 ∧ u.trains.length ≤ 100000 ∧ u.ress.length ≤ 100000) (hlt : ∀ u ∈ r.ts, u.needs.length ≤ 100000) : Rws w B su sw st r := by
 obtain ⟨q0, k0, q1, k1, q2, k2, cu, cw, ct, e0, e1, e2, a, b, c, d, e, f⟩ := h
 exact ⟨q0, k0, q1, k1, q2, k2, cu, cw, ct, e0, e1, e2, a, b, c, fun j h => (d j h).ul (hlu _ (List.getElem_mem h)), e, fun j h => (f j h).tl (hlt _ (List.getElem_mem h))⟩
theorem Rws.far {w : World} {B b i : Nat} {us : List Value} {t : TypeId} {su sw st : Value} {r : R9} (h : Rws w B su sw st r) (hb : Blk w b us t) (n1 : 53 ≠ t) (n2 : 51 ≠ t) (n3 : 56 ≠ t) (hn : ∀ s, Value.string s ∉ us) (x : Value) : Rws (w.setCell ⟨b, i, none⟩ x) B su sw st r := by
 obtain ⟨q0, k0, q1, k1, q2, k2, cu, cw, ct, e0, e1, e2, a, b, c, d, e, f⟩ := h
 exact ⟨q0, k0, q1, k1, q2, k2, cu, cw, ct, e0, e1, e2, own_byType a hb n1 (fun k hk => Below.heap_setCell _ _ _ k hk), own_byType b hb n2 (fun k hk => Below.heap_setCell _ _ _ k hk), own_byType c hb n3 (fun k hk => Below.heap_setCell _ _ _ k hk), fun j h => ⟨(d j h).1.setFar hb hn x, (d j h).2⟩, e, fun j h => ⟨(f j h).1.setFar hb hn x, (f j h).2⟩⟩
theorem Rws.rat {w : World} {B : Nat} {su sw st : Value} {r : R9} (h : Rws w B su sw st r) (hu : r.us.length ≤ 10000) (hw : r.ws.length ≤ 10000) (ht : r.ts.length ≤ 10000) : RAt w su sw st r ∧ CapR w su st := by
 obtain ⟨q0, k0, q1, k1, q2, k2, cu, cw, ct, rfl, rfl, rfl, a, b, c, d, e, f⟩ := h
 have ku : ∀ i, i < r.us.length → (cu i).length = 19 := fun i h => (d i h).1.len
 have kt : ∀ i, i < r.ts.length → (ct i).length = 8 := fun i h => (f i h).1.len
 exact ⟨⟨slatU (own_rowV a hu ku) _ rfl fun j h => (d j h).1, slatW (own_rowV b hw fun i h => (e i h).len) _ rfl e, slatT (own_rowV c ht kt) _ rfl fun j h => (f j h).1⟩, own_capC a ku (fun i h => (d i h).2) (by decide), own_capC c kt (fun i h => (f i h).2) (by decide)⟩
theorem Cln.blk {w : World} {B : Nat} {su sw st : Value} {r : R9} (h : Cln w B su sw st r) {k : Int} {f : ByteArray} (hf : f ∈ fieldsv k) {i : Nat} (hi : i < (namesK r k).length) {g o n c : Nat} (hs : SliceK su sw st k = .slice (some ⟨g, o, none⟩) n c) :
 o = 0 ∧ B ≤ g ∧ ∃ us tc, Blk w g us tc ∧ i * cellsK k + offv k f < us.length := by
 obtain ⟨n1, n2, n3⟩ := names_len r
 obtain ⟨q0, k0, q1, k1, q2, k2, cu, cw, ct, rfl, rfl, rfl, ha, hb, hc, -⟩ := h
 rcases kind_of hf with rfl | rfl | rfl
 · rw [n1] at hi
   replace hs : Value.slice q0 r.us.length k0 = .slice (some ⟨g, o, none⟩) n c := hs
   injection hs with e1 e2 e3
   subst e1
   obtain ⟨g', e9⟩ := own_g ha (by omega)
   injection e9 with e9
   injection e9 with e8 e9
   subst e8 e9
   obtain ⟨cur, hblk, hcl, hgB⟩ := own_blk ha
   refine ⟨rfl, hgB, cur, _, hblk, ?_⟩
   have h1 := (off_ltU hf).2
   have h2 : (i + 1) * 19 ≤ r.us.length * 19 := Nat.mul_le_mul_right _ hi
   rw [show cellsK 1 = 19 from rfl]
   omega
 · rw [n2] at hi
   replace hs : Value.slice q1 r.ws.length k1 = .slice (some ⟨g, o, none⟩) n c := hs
   injection hs with e1 e2 e3
   subst e1
   obtain ⟨g', e9⟩ := own_g hb (by omega)
   injection e9 with e9
   injection e9 with e8 e9
   subst e8 e9
   obtain ⟨cur, hblk, hcl, hgB⟩ := own_blk hb
   refine ⟨rfl, hgB, cur, _, hblk, ?_⟩
   have h1 := (off_ltW hf).2
   have h2 : (i + 1) * 6 ≤ r.ws.length * 6 := Nat.mul_le_mul_right _ hi
   rw [show cellsK 2 = 6 from rfl]
   omega
 · rw [n3] at hi
   replace hs : Value.slice q2 r.ts.length k2 = .slice (some ⟨g, o, none⟩) n c := hs
   injection hs with e1 e2 e3
   subst e1
   obtain ⟨g', e9⟩ := own_g hc (by omega)
   injection e9 with e9
   injection e9 with e8 e9
   subst e8 e9
   obtain ⟨cur, hblk, hcl, hgB⟩ := own_blk hc
   refine ⟨rfl, hgB, cur, _, hblk, ?_⟩
   have h1 := (off_ltT hf).2
   have h2 : (i + 1) * 8 ≤ r.ts.length * 8 := Nat.mul_le_mul_right _ hi
   rw [show cellsK 3 = 8 from rfl]
   omega
theorem modify_set {α : Type} {R : List Value → α → Prop} {l : List α} {i j : Nat} {F : α → α} {cs : Nat → List Value} {x : Value} (hi : i < l.length) (h : ∀ m (hm : m < l.length), R (cs m) (l[m]'hm)) (hv : R ((cs i).set j x) (F (l[i]'hi))) : ∀ m (hm : m < (l.modify i F).length), R (if m = i then (cs i).set j x else cs m) ((l.modify i F)[m]'hm) :=
 mod_all hi h hv
theorem CellV.moves {w w' : World} {x : Value} {s : Int} {v : V10} {B g i : Nat} (h : CellV w x s v) (hn : NewSl B x) (hg : g < B) (e : Value) (hw : w' = w.setCell ⟨g, i, none⟩ e) : CellV w' x s v := by
 subst hw
 exact ⟨h.num, h.flag, h.name, fun q => strSl_set (h.list q) fun a n c e => by have := hn _ _ _ e; omega⟩
theorem cap_set {vs : List Value} {j : Nat} {x : Value} (h : ∀ v ∈ vs, CapV v) (hx : CapV x) : ∀ v ∈ vs.set j x, CapV v := fun v hv => by
 rcases List.mem_or_eq_of_mem_set hv with h1 | rfl
 · exact h v h1
 · exact hx
theorem Cln.field {w : World} {B C : Nat} {su sw st : Value} {r : R9} (h : Cln w B su sw st r) (hlu : ∀ u ∈ r.us, u.needs.length ≤ 100000 ∧ u.trains.length ≤ 100000 ∧ u.ress.length ≤ 100000) (hlt : ∀ u ∈ r.ts, u.needs.length ≤ 100000) {k : Int} {f : ByteArray} (hf : f ∈ fieldsv k) {i : Nat} (hi : i < (namesK r k).length) {g o n c : Nat} (hs : SliceK su sw st k = .slice (some ⟨g, o, none⟩) n c) {x : Value} {v : V10} (hx : CellV w x (sortv f) v) (hN : NewSl C x) (hC : g < C) (hcx : CapV x) :
 Rws (w.setCell ⟨g, i * cellsK k + offv k f, none⟩ x) B su sw st (setK10 r k i f v) := by
 obtain ⟨n1, n2, n3⟩ := names_len r
 obtain ⟨q0, k0, q1, k1, q2, k2, cu, cw, ct, rfl, rfl, rfl, ha, hb, hc, hd, he, hff⟩ := h
 have hx' : ∀ j, CellV (w.setCell ⟨g, j, none⟩ x) x (sortv f) v := fun j => hx.moves hN hC x rfl
 have ku : ∀ i, i < r.us.length → (cu i).length = 19 := fun i h => ((hd i h).ul (hlu _ (List.getElem_mem h))).1.len
 have kw : ∀ i, i < r.ws.length → (cw i).length = 6 := fun i h => (he i h).len
 have kt : ∀ i, i < r.ts.length → (ct i).length = 8 := fun i h => ((hff i h).tl (hlt _ (List.getElem_mem h))).1.len
 rcases kind_of hf with rfl | rfl | rfl
 · rw [n1] at hi
   replace hs : Value.slice q0 r.us.length k0 = .slice (some ⟨g, o, none⟩) n c := hs
   injection hs with e1 e2 e3
   subst e1
   obtain ⟨g', e9⟩ := own_g ha (by omega)
   injection e9 with e9
   injection e9 with e8 e9
   subst e8 e9
   obtain ⟨cur, hblk, hcl, hgB⟩ := own_blk ha
   have h1 := (off_ltU hf).2
   have h2 : (i + 1) * 19 ≤ r.us.length * 19 := Nat.mul_le_mul_right _ hi
   have hw := own_set1 (o := i * 19 + offv 1 f) ha (by omega) x
   rw [flatR_set (by decide) ku hi h1] at hw
   have hU : ∀ j (h : j < r.us.length), UL (w.setCell ⟨g, i * 19 + offv 1 f, none⟩ x) (cu j) (r.us[j]'h) ∧ ∀ v ∈ cu j, CapV v := fun j h => ((hd j h).moves hblk (by decide) (fun k hk => Below.heap_setCell _ _ _ k hk)).ul (hlu _ (List.getElem_mem h))
   have hT : ∀ j (h : j < r.ts.length), TL (w.setCell ⟨g, i * 19 + offv 1 f, none⟩ x) (ct j) (r.ts[j]'h) ∧ ∀ v ∈ ct j, CapV v := fun j h => ((hff j h).moves hblk (by decide) (fun k hk => Below.heap_setCell _ _ _ k hk)).tl (hlt _ (List.getElem_mem h))
   have hm : (r.us.modify i fun u => withUv u f v).length = r.us.length := List.length_modify ..
   show Rws (w.setCell ⟨g, i * 19 + offv 1 f, none⟩ x) B _ _ _ { r with us := r.us.modify i fun u => withUv u f v }
   exact ⟨(some ⟨g, 0, none⟩), k0, q1, k1, q2, k2, (fun m => if m = i then (cu i).set (offv 1 f) x else cu m), cw, ct, by rw [hm], rfl, rfl, (by rw [hm]; exact hw), own_byType hb hblk (by decide) (fun k hk => Below.heap_setCell _ _ _ k hk), own_byType hc hblk (by decide) (fun k hk => Below.heap_setCell _ _ _ k hk), modify_set (R := fun vs u => UL _ vs u ∧ ∀ v ∈ vs, CapV v) hi hU ⟨(hU i hi).1.setField hf (hx' _), cap_set (hU i hi).2 hcx⟩, he, hT⟩
 · rw [n2] at hi
   replace hs : Value.slice q1 r.ws.length k1 = .slice (some ⟨g, o, none⟩) n c := hs
   injection hs with e1 e2 e3
   subst e1
   obtain ⟨g', e9⟩ := own_g hb (by omega)
   injection e9 with e9
   injection e9 with e8 e9
   subst e8 e9
   obtain ⟨cur, hblk, hcl, hgB⟩ := own_blk hb
   have h1 := (off_ltW hf).2
   have h2 : (i + 1) * 6 ≤ r.ws.length * 6 := Nat.mul_le_mul_right _ hi
   have hw := own_set1 (o := i * 6 + offv 2 f) hb (by omega) x
   rw [flatR_set (by decide) kw hi h1] at hw
   have hU : ∀ j (h : j < r.us.length), UL (w.setCell ⟨g, i * 6 + offv 2 f, none⟩ x) (cu j) (r.us[j]'h) ∧ ∀ v ∈ cu j, CapV v := fun j h => ((hd j h).moves hblk (by decide) (fun k hk => Below.heap_setCell _ _ _ k hk)).ul (hlu _ (List.getElem_mem h))
   have hT : ∀ j (h : j < r.ts.length), TL (w.setCell ⟨g, i * 6 + offv 2 f, none⟩ x) (ct j) (r.ts[j]'h) ∧ ∀ v ∈ ct j, CapV v := fun j h => ((hff j h).moves hblk (by decide) (fun k hk => Below.heap_setCell _ _ _ k hk)).tl (hlt _ (List.getElem_mem h))
   have hm : (r.ws.modify i fun u => withWv u f v).length = r.ws.length := List.length_modify ..
   show Rws (w.setCell ⟨g, i * 6 + offv 2 f, none⟩ x) B _ _ _ { r with ws := r.ws.modify i fun u => withWv u f v }
   exact ⟨q0, k0, (some ⟨g, 0, none⟩), k1, q2, k2, cu, (fun m => if m = i then (cw i).set (offv 2 f) x else cw m), ct, rfl, by rw [hm], rfl, own_byType ha hblk (by decide) (fun k hk => Below.heap_setCell _ _ _ k hk), (by rw [hm]; exact hw), own_byType hc hblk (by decide) (fun k hk => Below.heap_setCell _ _ _ k hk), hU, modify_set (R := WL) hi he ((he i hi).setField hf (hx' 0)), hT⟩
 · rw [n3] at hi
   replace hs : Value.slice q2 r.ts.length k2 = .slice (some ⟨g, o, none⟩) n c := hs
   injection hs with e1 e2 e3
   subst e1
   obtain ⟨g', e9⟩ := own_g hc (by omega)
   injection e9 with e9
   injection e9 with e8 e9
   subst e8 e9
   obtain ⟨cur, hblk, hcl, hgB⟩ := own_blk hc
   have h1 := (off_ltT hf).2
   have h2 : (i + 1) * 8 ≤ r.ts.length * 8 := Nat.mul_le_mul_right _ hi
   have hw := own_set1 (o := i * 8 + offv 3 f) hc (by omega) x
   rw [flatR_set (by decide) kt hi h1] at hw
   have hU : ∀ j (h : j < r.us.length), UL (w.setCell ⟨g, i * 8 + offv 3 f, none⟩ x) (cu j) (r.us[j]'h) ∧ ∀ v ∈ cu j, CapV v := fun j h => ((hd j h).moves hblk (by decide) (fun k hk => Below.heap_setCell _ _ _ k hk)).ul (hlu _ (List.getElem_mem h))
   have hT : ∀ j (h : j < r.ts.length), TL (w.setCell ⟨g, i * 8 + offv 3 f, none⟩ x) (ct j) (r.ts[j]'h) ∧ ∀ v ∈ ct j, CapV v := fun j h => ((hff j h).moves hblk (by decide) (fun k hk => Below.heap_setCell _ _ _ k hk)).tl (hlt _ (List.getElem_mem h))
   have hm : (r.ts.modify i fun u => withTv u f v).length = r.ts.length := List.length_modify ..
   show Rws (w.setCell ⟨g, i * 8 + offv 3 f, none⟩ x) B _ _ _ { r with ts := r.ts.modify i fun u => withTv u f v }
   exact ⟨q0, k0, q1, k1, (some ⟨g, 0, none⟩), k2, cu, cw, (fun m => if m = i then (ct i).set (offv 3 f) x else ct m), rfl, rfl, by rw [hm], own_byType ha hblk (by decide) (fun k hk => Below.heap_setCell _ _ _ k hk), own_byType hb hblk (by decide) (fun k hk => Below.heap_setCell _ _ _ k hk), (by rw [hm]; exact hw), hU, he, modify_set (R := fun vs u => TL _ vs u ∧ ∀ v ∈ vs, CapV v) hi hT ⟨(hT i hi).1.setField hf (hx' _), cap_set (hT i hi).2 hcx⟩⟩
end
section
open Go.RowKit Go.Lib
def SetPostL (r : R9) (k : Int) (nm f : ByteArray) (s : List UInt8) (w : World) (e : Ending) (w' : World) : Prop := ∃ su sw st, e = .returned (.tuple #[.agg #[su, sw, st], .int .i64 (setv10 r k nm f s).2]) ∧ RAt w' su sw st (setv10 r k nm f s).1 ∧ CapR w' su st ∧ Below w.heap.size w w'
theorem zero_cap (W : World) : CapR W (.slice none 0 0) (.slice none 0 0) := ⟨fun _ _ _ _ e => (by injection e with e; cases e), fun _ _ _ _ e => (by injection e with e; cases e)⟩
theorem setK_len (r : R9) (k : Int) (i : Nat) (f : ByteArray) (v : V10) : (setK10 r k i f v).us.length = r.us.length ∧ (setK10 r k i f v).ws.length = r.ws.length ∧ (setK10 r k i f v).ts.length = r.ts.length := by
 unfold setK10
 split
 · exact ⟨List.length_modify .., rfl, rfl⟩
 · split
   · exact ⟨rfl, List.length_modify .., rfl⟩
   · split
     · exact ⟨rfl, rfl, List.length_modify ..⟩
     · exact ⟨rfl, rfl, rfl⟩
theorem no_str3 {a b c : Option Addr} {m n l x y z : Nat} : ∀ s, Value.string s ∉ [Value.slice a m x, .slice b n y, .slice c l z] := by intro s hs; simp at hs
set_option maxHeartbeats 8000000 in
set_option maxRecDepth 100000 in
theorem dset_b (su sw st : Value) (r : R9) (k : Int) (nm f s : ByteArray) (V0 W : World) (hE : EnvR W) (hR : RAt V0 su sw st r) (h0 : Below V0.heap.size V0 W) (hs : s.size ≤ 100000) (hu : r.us.length ≤ 10000) (hw : r.ws.length ≤ 10000) (ht : r.ts.length ≤ 10000) (hlu : ∀ u ∈ r.us, u.needs.length ≤ 100000 ∧ u.trains.length ≤ 100000 ∧ u.ress.length ≤ 100000) (hlt9 : ∀ u ∈ r.ts, u.needs.length ≤ 100000) :
 Calls Tryz.prog 16 #[.agg #[su, sw, st], .int .i64 k, .string nm, .string f, .string s] W (SetPostL r k nm f s.toList W) := by
 have hR0 := hid hR
 obtain ⟨p, c, rfl, hm, -⟩ := hR.u
 obtain ⟨p1, c1, rfl, hm1, -⟩ := hR.w
 obtain ⟨p2, c2, rfl, hm2, -⟩ := hR.t
 have hB := (Blk.new W [.slice p r.us.length c, .slice p1 r.ws.length c1, .slice p2 r.ts.length c2] 31).alloc (.cells ([.slice none 0 0, .slice none 0 0, .slice none 0 0] : List Value).toArray 31)
 have hY := (Blk.new (W.alloc (.cells [.slice p r.us.length c, .slice p1 r.ws.length c1, .slice p2 r.ts.length c2].toArray 31)) [.slice none 0 0, .slice none 0 0, .slice none 0 0] 31).at (World.size_alloc _ _)
 have hL := ((Below.refl W.heap.size W).alloc (Nat.le_refl _) (.cells [.slice p r.us.length c, .slice p1 r.ws.length c1, .slice p2 r.ts.length c2].toArray 31)).alloc (by simp) (.cells ([.slice none 0 0, .slice none 0 0, .slice none 0 0] : List Value).toArray 31)
 clear hR hm hm1 hm2
 obtain ⟨b, hb0⟩ : ∃ b, Hid (b = hasv (fieldsv k) f) := ⟨_, hid rfl⟩
 go_enter Tryz.func16, Tryz.ntmps16
 go_upto_region 1 with fail
 generalize (W.alloc (.cells [.slice p r.us.length c, .slice p1 r.ws.length c1, .slice p2 r.ts.length c2].toArray 31)).alloc (.cells ([.slice none 0 0, .slice none 0 0, .slice none 0 0] : List Value).toArray 31) = V at *
 go_wp2_with fail
 ((with_reducible refine (disfield_b k f b _ hb0).mono ?_); rintro e w1 ⟨rfl, hb⟩)
 replace hB := hB.below hb
 replace hY := hY.below hb
 replace hL := below_call hL hb
 clear hb
 have hty := hid (hb0.out.trans dtyp_no)
 cases b with
 | false =>
  have hg := hid (show setv10 r k nm f s.toList = (R9.zero, 1) by
   unfold setv10
   have := of_decide_eq_false hty.out.symm
   rw [if_pos (Classical.not_not.1 this)])
  clear hty hb0
  obtain ⟨_, _, _, _, _, _⟩ := hY.three
  go_wp2_with fail
  refine bodyPost_ret (results_agg_two rfl rfl rfl Tryz.isAgg31 Tryz.sizeOf31 (((hY.set 0 _).set 1 _).set 2 _) rfl) rfl ?_
  exact ⟨_, _, _, by rw [hg.out]; rfl, by rw [hg.out]; exact zero_rules _, zero_cap _, (((hL.setCell (Nat.le_succ _) _).setCell (Nat.le_succ _) _).setCell (Nat.le_succ _) _)⟩
 | true =>
  have hty2 := of_decide_eq_true hty.out.symm
  have hfk : f ∈ fieldsv k := (hasv_iff.1 hb0.out.symm)
  have htv := type_in hfk
  have hG := hid (show setv10 r k nm f s.toList = if findv (namesK r k) nm < 0 then ((R9.zero, 8) : R9 × Int) else match readv (sortv f) s.toList with
   | none => ((R9.zero, 5) : R9 × Int)
   | some v => (setK10 r k (findv (namesK r k) nm).toNat f v, 0) by unfold setv10; rw [if_neg hty2, htv]; rfl)
  obtain ⟨_, _, _, _, _, _⟩ := hB.three
  clear hty hb0 hty2 htv
  go_wp2_with fail
  ((with_reducible refine (dclone_b _ _ _ r V0 _ hR0.out (h0.trans (hL.mono h0.size)) hu hw ht hlu hlt9).mono ?_); rintro e w2 hP)
  obtain ⟨su, sw, st, rfl, ⟨q0, k0, q1, k1, q2, k2, rfl, rfl, rfl⟩, hC, hb⟩ := hP.cln
  have hBl := hB.lt
  have hYl := hY.lt
  have hWl := hL.size
  replace hB := hB.below hb
  replace hY := hY.below hb
  replace hL := below_call hL hb
  clear hb hP hR0 h0
  obtain ⟨_, _, _, _, _, _⟩ := hB.three
  have hB2 := ((hB.set 0 (.slice q0 r.us.length k0)).set 1 (.slice q1 r.ws.length k1)).set 2 (.slice q2 r.ts.length k2)
  simp only [List.set_cons_zero, List.set_cons_succ] at hB2
  have hk : ∀ k, w1.heap.size ≤ k → (((w2.setCell ⟨W.heap.size, 0, none⟩ (.slice q0 r.us.length k0)).setCell ⟨W.heap.size, 1, none⟩ (.slice q1 r.ws.length k1)).setCell ⟨W.heap.size, 2, none⟩ (.slice q2 r.ts.length k2)).heap[k]? = w2.heap[k]? := fun k hk => by
   rw [Below.heap_setCell _ _ _ k (by show k ≠ W.heap.size; omega), Below.heap_setCell _ _ _ k (by show k ≠ W.heap.size; omega), Below.heap_setCell _ _ _ k (by show k ≠ W.heap.size; omega)]
  replace hC := hC.heap hk
  replace hY := ((hY.far (c := W.heap.size) (i := 0) (.slice q0 r.us.length k0) (by omega)).far (c := W.heap.size) (i := 1) (.slice q1 r.ws.length k1) (by omega)).far (c := W.heap.size) (i := 2) (.slice q2 r.ts.length k2) (by omega)
  replace hL := ((hL.setCell (p := ⟨W.heap.size, 0, none⟩) (Nat.le_refl _) (.slice q0 r.us.length k0)).setCell (p := ⟨W.heap.size, 1, none⟩) (Nat.le_refl _) (.slice q1 r.ws.length k1)).setCell (p := ⟨W.heap.size, 2, none⟩) (Nat.le_refl _) (.slice q2 r.ts.length k2)
  clear hB hk
  go_upto_region 4 with fail
  generalize ((w2.setCell ⟨W.heap.size, 0, none⟩ (.slice q0 r.us.length k0)).setCell ⟨W.heap.size, 1, none⟩ (.slice q1 r.ws.length k1)).setCell ⟨W.heap.size, 2, none⟩ (.slice q2 r.ts.length k2) = X at *
  obtain ⟨_, _, _, _, _, _⟩ := hB2.three
  have hB := hB2
  clear hB2
  have hRC := hid ((hC.rws hlu hlt9).rat hu hw ht).1
  go_wp2_with fail
  ((with_reducible refine (dfind_b _ _ _ r k nm X _ hRC.out (Below.refl _ _) hu hw ht).mono ?_); rintro e w3 hP)
  rcases hP with ⟨hn, rfl, hb⟩ | ⟨i, g, oo, n, cc, v, hn, hi, hsl, rfl, hEl, hb⟩
  · have hg := hid (show setv10 r k nm f s.toList = (R9.zero, 8) by rw [hG.out, if_pos hn])
    replace hB := hB.below hb
    replace hY := hY.below hb
    replace hL := below_call hL hb
    clear hG hn hfk hb hC hRC
    go_upto_region 5 with (first | (with_reducible refine wpList_alloc_agg rfl 64 rfl _ rfl eZero zeroEl ?_) | (with_reducible refine wpList_store_new rfl 64 _ _ rfl rfl Tryz.sizeOf64 eZero eZero 64 (by with_unfolding_all rfl) (by with_unfolding_all rfl) rfl rfl eZero_lone ?_))
    replace hY := hY.alloc (.cells eZero.toArray 64)
    replace hL := hL.alloc hL.size (.cells eZero.toArray 64)
    generalize w3.alloc (.cells eZero.toArray 64) = X3 at *
    obtain ⟨_, _, _, _, _, _⟩ := hY.three
    go_wp2_with fail
    refine bodyPost_ret (results_agg_two rfl rfl rfl Tryz.isAgg31 Tryz.sizeOf31 (((hY.set 0 _).set 1 _).set 2 _) rfl) rfl ?_
    exact ⟨_, _, _, by rw [hg.out]; rfl, by rw [hg.out]; exact zero_rules _, zero_cap _, (((hL.setCell (Nat.le_succ _) _).setCell (Nat.le_succ _) _).setCell (Nat.le_succ _) _)⟩
  · obtain ⟨rfl, hgB, us, tc, hblk, hlt⟩ := hC.blk hfk hi hsl
    rw [Nat.zero_add] at hEl
    obtain ⟨vs, rfl, hvl, hlo⟩ := hEl.lone
    replace hB := hB.below hb
    replace hY := hY.below hb
    replace hL := below_call hL hb
    have hX := Blk.new w3 vs 64
    have ha := (Below.refl w3.heap.size w3).alloc (Nat.le_refl _) (.cells vs.toArray 64)
    have hXY := hb.trans (ha.mono hb.size)
    have hG2 := hid (show setv10 r k nm f s.toList = match readv (sortv f) s.toList with
     | none => ((R9.zero, 5) : R9 × Int)
     | some v => (setK10 r k i f v, 0) by rw [hG.out, hn, if_neg (by omega), Int.toNat_natCast])
    replace hC := hC.below hXY
    replace hblk := hblk.below hXY
    replace hB := hB.below ha
    replace hY := hY.below ha
    replace hL := below_call hL ha
    replace hEl := hEl.below ha
    have kx := hid (hX.loads (P := Tryz.prog) hvl)
    clear hG hn hb ha hX hXY hRC
    go_upto_region 5 with (first | (with_reducible refine wpList_alloc_agg rfl 64 rfl _ rfl eZero zeroEl ?_) | (with_reducible refine wpList_store_new rfl 64 _ _ rfl rfl Tryz.sizeOf64 vs eZero 64 (by with_unfolding_all rfl) (by with_unfolding_all rfl) hvl rfl hlo ?_))
    generalize hQ : w3.alloc (.cells vs.toArray 64) = X3 at *
    clear hQ
    have hE3 := hE.keep hL
    have hWg : W.heap.size + 2 ≤ g := by omega
    have hEb := hE.big
    go_upto_region 7 with fail
    go_wp2_with (with_reducible refine wpList_load_agg rfl 64 _ rfl ⟨w3.heap.size, 0, none⟩ (by with_unfolding_all rfl) Tryz.isAgg64 Tryz.sizeOf64 vs kx.out ?_)
    ((with_reducible refine (dread_b k g (i * cellsK k) _ f s us tc _ hE3 hEl hfk hblk hlt hs (by omega)).mono ?_); rintro e w5 ⟨b, x, w4, rfl, hb, rfl, hy, hn⟩)
    replace hB := (hB.below hb).far (c := g) (i := i * cellsK k + offv k f) x (by omega)
    replace hY := (hY.below hb).far (c := g) (i := i * cellsK k + offv k f) x (by omega)
    replace hL := (below_call hL hb).setCell (p := ⟨g, i * cellsK k + offv k f, none⟩) (by show W.heap.size ≤ g; omega) x
    replace hC := hC.below hb
    have hgl := hblk.lt
    clear kx hEl hvl hlo hE3 hE hblk hlt
    cases b with
    | false =>
     have hg := hid (show setv10 r k nm f s.toList = (R9.zero, 5) by rw [hG2.out, hn rfl])
     clear hG2 hn hy hC hb hi
     generalize w4.setCell ⟨g, i * cellsK k + offv k f, none⟩ x = X4 at *
     obtain ⟨_, _, _, _, _, _⟩ := hY.three
     go_wp2_with fail
     refine bodyPost_ret (results_agg_two rfl rfl rfl Tryz.isAgg31 Tryz.sizeOf31 (((hY.set 0 _).set 1 _).set 2 _) rfl) rfl ?_
     exact ⟨_, _, _, by rw [hg.out]; rfl, by rw [hg.out]; exact zero_rules _, zero_cap _, (((hL.setCell (Nat.le_succ _) _).setCell (Nat.le_succ _) _).setCell (Nat.le_succ _) _)⟩
    | true =>
     obtain ⟨v, hv, hcv, hnew, hcx, hox⟩ := hy rfl
     have hg := hid (show setv10 r k nm f s.toList = (setK10 r k i f v, 0) by rw [hG2.out, hv])
     have hF := hC.field hlu hlt9 hfk hi hsl hcv hnew hgl hcx
     obtain ⟨l1, l2, l3⟩ := setK_len r k i f v
     clear hG2 hn hy hC hb hi hcv hnew hcx hox
     generalize w4.setCell ⟨g, i * cellsK k + offv k f, none⟩ x = X4 at *
     obtain ⟨_, _, _, _, _, _⟩ := hB.three
     obtain ⟨_, _, _, _, _, _⟩ := hY.three
     go_wp2_with fail
     have hY1 := hY.set 0 (.slice q0 r.us.length k0)
     have hY2 := hY1.set 1 (.slice q1 r.ws.length k1)
     have hY3 := hY2.set 2 (.slice q2 r.ts.length k2)
     simp only [List.set_cons_zero, List.set_cons_succ] at hY1 hY2 hY3
     have hF3 := ((hF.far (i := 0) hY (by decide) (by decide) (by decide) no_str3 (.slice q0 r.us.length k0)).far (i := 1) hY1 (by decide) (by decide) (by decide) no_str3 (.slice q1 r.ws.length k1)).far (i := 2) hY2 (by decide) (by decide) (by decide) no_str3 (.slice q2 r.ts.length k2)
     obtain ⟨hR9, hC9⟩ := hF3.rat (by omega) (by omega) (by omega)
     refine bodyPost_ret (results_agg_two rfl rfl rfl Tryz.isAgg31 Tryz.sizeOf31 hY3 rfl) rfl ?_
     exact ⟨_, _, _, by rw [hg.out]; rfl, by rw [hg.out]; exact hR9, hC9, (((hL.setCell (Nat.le_succ _) _).setCell (Nat.le_succ _) _).setCell (Nat.le_succ _) _)⟩
end
section
open Go.RowKit Go.Lib
def Txt (w : World) (h : Nat) : Prop := ∃ us t fr, w.heap[h]? = some (.cells us t fr) ∧ (t = 88 ∨ t = 5)
structure Wrt (w w' : World) : Prop where
 size : w.heap.size ≤ w'.heap.size
 block : ∀ h, h < w.heap.size → ¬ Txt w h → w'.heap[h]? = w.heap[h]?
theorem Wrt.refl (w : World) : Wrt w w := ⟨Nat.le_refl _, fun _ _ _ => rfl⟩
theorem Wrt.trans {a b c : World} (h : Wrt a b) (k : Wrt b c) : Wrt a c := ⟨Nat.le_trans h.size k.size, fun x hx hn => by
 have h1 := h.block x hx hn
 have h2 := k.block x (Nat.lt_of_lt_of_le hx h.size) (fun ⟨us, t, fr, e, q⟩ => hn ⟨us, t, fr, h1.symm.trans e, q⟩)
 exact h2.trans h1⟩
theorem Wrt.call {w w' : World} (h : Below w.heap.size w w') : Wrt w w' := ⟨h.size, fun x hx _ => h.block x hx⟩
theorem Wrt.set {w : World} {b : Nat} (h : Txt w b) (i : Nat) (x : Value) : Wrt w (w.setCell ⟨b, i, none⟩ x) :=
 ⟨((Below.refl 0 w).setCell (p := ⟨b, i, none⟩) (Nat.zero_le _) x).size, fun y _ hn => Below.heap_setCell w _ x y (fun e => hn (by rw [e]; exact h))⟩
theorem bld_txt {B b : Nat} {p : Value} {bs : List Value} {w : World} (h : Lib.BuilderAt 88 5 B b p bs w) : Txt w b := by
 obtain ⟨_, v, hb, _⟩ := h
 exact ⟨_, _, _, hb, .inl rfl⟩
theorem own_txt {w : World} {B n k : Nat} {v : Value} {xs : List Value} (h : w.ownsRow B 5 1 v n xs) (hk : v.ownBlock = some k) : Txt w k := by
 rcases h.2 with ⟨rfl, -⟩ | ⟨g, cap, cur, rfl, -, hg, -⟩
 · cases hk
 · injection hk with hk
   subst hk
   exact ⟨_, _, _, hg, .inr rfl⟩
theorem Wrt.blk {w w' : World} {h : Nat} {us : List Value} {t : TypeId} (hr : Wrt w w') (hb : Blk w h us t) (n1 : t ≠ 88) (n2 : t ≠ 5) : Blk w' h us t :=
 (hr.block h hb.lt fun ⟨us', t', fr, e, q⟩ => by
  unfold Blk at hb
  rw [hb] at e
  injection e with e
  injection e with _ e
  subst e
  exact q.elim n1 n2).trans hb
theorem Wrt.map {P : Program} {k : TypeId} {b : Nat} {w w' : World} {l : List (ByteArray × Value)} (hr : Wrt w w') (hb : MapS P k w b l) : MapS P k w' b l := by
 have hlt := hb.lt
 obtain ⟨es, clock, hh, F, hs, hD⟩ := hb
 refine ⟨es, clock, (hr.block b hlt fun ⟨us', t', fr, e, q⟩ => ?_).trans hh, F, hs, hD⟩
 rw [hh] at e
 injection e with e
 cases e
theorem Wrt.holds {P : Program} {k : TypeId} {w w' : World} {m : Value} {L : List ByteArray} {F : ByteArray → Value} (hr : Wrt w w') (h : HoldS P k w m L F) : HoldS P k w' m L F := h.imp (fun ⟨b, D, e, q, r⟩ => ⟨b, D, e, hr.map q, r⟩) id
theorem Wrt.elem {w w' : World} {e : Value} {k : Int} {g o : Nat} (hr : Wrt w w') (h : Elem w e k g o) : Elem w' e k g o := by
 obtain ⟨m0, m1, m2, m3, m4, e, ⟨b, e0, q⟩, h1⟩ := h
 exact ⟨m0, m1, m2, m3, m4, e, ⟨b, e0, hr.map q⟩, hr.holds h1.1, hr.holds h1.2.1, hr.holds h1.2.2.1, hr.holds h1.2.2.2⟩
theorem Wrt.sb {w w' : World} {v : Value} {l : List ByteArray} (hr : Wrt w w') (h : SB w v l) : SB w' v l := by
 obtain ⟨p, c, e, hm, hc⟩ := h
 refine ⟨p, c, e, hm, fun h1 => ?_⟩
 obtain ⟨g, o, us, e2, hg, hi⟩ := hc h1
 exact ⟨g, o, us, e2, hr.blk hg (by decide) (by decide), hi⟩
theorem tsizeBld : (Tryz.prog.info? 88).map (·.size) = some 2 := by kernel_rfl
theorem tliesBld : liesAt Tryz.prog Tryz.prog.depth 88 (2 / Tryz.prog.cellsOf 88) 0 88 1 = true := by kernel_rfl
set_option maxHeartbeats 1000000 in
set_option maxRecDepth 100000 in
theorem tcopy_used (b : Nat) (w : World) (h0 : w.cell? ⟨b, 0, none⟩ = some (.pointer (some ⟨b, 0, none⟩))) :
 Calls Tryz.prog 98 #[.pointer (some ⟨b, 0, none⟩)] w fun e w' => e = .returned (.tuple #[]) ∧ w' = w := by
 obtain ⟨j, hj, _⟩ := Option.map_eq_some_iff.1 tsizeBld
 go_enter Tryz.func98, Tryz.ntmps98
 go_wp2
 rw [Lib.run_neq_ptr_same w _ Tryz.underlying85 hj]
 go_wp2
 go_end0
 exact ⟨rfl, rfl⟩
set_option maxHeartbeats 1000000 in
set_option maxRecDepth 100000 in
theorem tcopy_fresh (b : Nat) (w : World) (h0 : w.cell? ⟨b, 0, none⟩ = some (.pointer none)) (hsh : w.shape? b = some (88, 2)) (hfz : w.frozen? ⟨b, 0, none⟩ = false) :
 Calls Tryz.prog 98 #[.pointer (some ⟨b, 0, none⟩)] w fun e w' => e = .returned (.tuple #[]) ∧ w' = w.setCell ⟨b, 0, none⟩ (.pointer (some ⟨b, 0, none⟩)) := by
 obtain ⟨j, hj, hjs⟩ := Option.map_eq_some_iff.1 tsizeBld
 go_enter Tryz.func98, Tryz.ntmps98
 go_wp2
 rw [Lib.run_to_unsafe w ⟨b, 0, none⟩ Tryz.underlying85 Tryz.underlying178 hj (by rw [hjs]; decide) hsh (Nat.zero_lt_succ 1)]
 simp only [Result.andThen]
 rw [Oper.upon_value]
 go_wp2
 rw [run_callFunc_extern Tryz.func156 (by kernel_rfl) (by kernel_rfl) (by kernel_rfl) (e := Extern.AbiNoEscape.same) (by kernel_rfl)]
 rw [Lib.run_noEscape]
 simp only [Result.andThen]
 rw [Oper.upon_value]
 go_wp2
 rw [Lib.run_from_unsafe w ⟨b, 0, none⟩ Tryz.underlying178 Tryz.underlying85 hj hsh tliesBld]
 simp only [Result.andThen]
 rw [Oper.upon_value]
 go_wp2
 go_end0
 exact ⟨rfl, rfl⟩
theorem tcopy_b (B b : Nat) (xs : List Value) (w : World) (h : Lib.IsBuilder 88 5 B b xs w) :
 Calls Tryz.prog 98 #[.pointer (some ⟨b, 0, none⟩)] w fun e w' => e = .returned (.tuple #[]) ∧ (Lib.BuilderAt 88 5 B b (.pointer (some ⟨b, 0, none⟩)) xs w' ∧ Below B w w' ∧ Wrt w w') := by
 rcases h with h | h
 · refine (tcopy_fresh b w h.cell0 h.shape h.frozen0).mono ?_
   rintro e w' ⟨rfl, rfl⟩
   exact ⟨rfl, h.used _, (Below.refl B w).setCell (p := ⟨b, 0, none⟩) h.1 _, Wrt.set (bld_txt h) 0 _⟩
 · refine (tcopy_used b w h.cell0).mono ?_
   rintro e w' ⟨rfl, rfl⟩
   exact ⟨rfl, h, Below.refl B _, Wrt.refl _⟩
theorem tinfoByte : (Tryz.prog.info? 5).map (fun i => (i.zero, i.size, i.bytes)) = some (some (.int .u8 0), 1, 1) := by kernel_rfl
theorem twrite_b (B b : Nat) (xs : List Value) (s : ByteArray) (w : World) (h : Lib.IsBuilder 88 5 B b xs w) (hlen : xs.length + s.size ≤ 140737488355328) (hBw : B ≤ w.heap.size) :
 Calls Tryz.prog 52 #[.pointer (some ⟨b, 0, none⟩), .string s] w fun e w' => e = .returned (.tuple #[.int .i64 s.size, .nilIface]) ∧ (Lib.BuilderAt 88 5 B b (.pointer (some ⟨b, 0, none⟩)) (xs ++ Lib.strCells s) w' ∧ Below B w w' ∧ Wrt w w') := by
 obtain ⟨i0, hi, hz0, hz1, hz2⟩ := info_parts tinfoByte
 go_enter Tryz.func52, Tryz.ntmps52
 go_wp2_with fail
 ((with_reducible refine (tcopy_b B b xs _ h).mono ?_); rintro e w1 ⟨rfl, h1, hb1, hr1⟩)
 have ht1 := bld_txt h1
 obtain ⟨hB, v, hbk, hown, hne⟩ := h1
 have c0 : w1.cell? ⟨b, 0, none⟩ = some (.pointer (some ⟨b, 0, none⟩)) := by rw [Lib.cell_of_heap hbk]; rfl
 have c1 : w1.cell? ⟨b, 1, none⟩ = some v := by rw [Lib.cell_of_heap hbk]; rfl
 go_wp2_with (at_builtin; refine Lib.wpList_append_own_string _ rfl _ _ 86 9 rfl B 5 i0 Tryz.underlying86 Tryz.underlying9 hi hz0 hz1 hz2 _ _ _ rfl hown s rfl ?c3 ?c4 ?c5 ?_)
 case c3 => unfold maxLen; omega
 case c4 => omega
 case c5 => have := hb1.size; omega
 intro v' w2 hown' hgrow _
 have hlt : b < w1.heap.size := by
  rcases Nat.lt_or_ge b w1.heap.size with h' | h'
  · exact h'
  · simp [Array.getElem?_eq_none h'] at hbk
 have hb2 : w2.heap[b]? = some (.cells #[.pointer (some ⟨b, 0, none⟩), v] 88 (0, 0)) := by
  rw [hgrow.block b hlt (fun e => hne e.symm)]
  exact hbk
 have d0 : w2.cell? ⟨b, 0, none⟩ = some (.pointer (some ⟨b, 0, none⟩)) := by rw [Lib.cell_of_heap hb2]; rfl
 have d1 : w2.cell? ⟨b, 1, none⟩ = some v := by rw [Lib.cell_of_heap hb2]; rfl
 have f1 : w2.frozen? ⟨b, 1, none⟩ = false := Lib.frozen_of_heap hb2 1
 obtain ⟨ao, n', cap, rfl⟩ : ∃ ao n' cap, v' = .slice ao n' cap := by
  rcases hown'.2 with ⟨hv, _⟩ | ⟨g, cap, cur, hv, _⟩
  · exact ⟨_, _, _, hv⟩
  · exact ⟨_, _, _, hv⟩
 go_wp2
 go_ret2
 refine ⟨rfl, ?_, ?_, ?_⟩
 · exact Lib.BuilderAt.put (T := 88) (e := 5) hB hb2 (bs' := xs ++ Lib.strCells s) (by simpa [Lib.strCells_length] using hown') (by decide)
 · exact (hb1.grown hgrow (by have := hb1.size; omega) (fun k hk => (hown.lt k hk).1)).setCell (p := ⟨b, 1, none⟩) hB _
 · have hr2 : Wrt w1 w2 := ⟨hgrow.size, fun h hh hn => hgrow.block h hh fun e => hn (own_txt hown e.symm)⟩
   exact (hr1.trans hr2).trans (Wrt.set ⟨_, _, _, hb2, .inl rfl⟩ 1 _)
theorem tbld_below {B b : Nat} {p : Value} {xs : List Value} {w w' : World} (h : Lib.BuilderAt 88 5 B b p xs w) (hb : Below w.heap.size w w') : Lib.BuilderAt 88 5 B b p xs w' := by
 have hlt := h.lt
 obtain ⟨hB, v, hk, hown, hne⟩ := h
 exact ⟨hB, v, (hb.block b hlt).trans hk, own_below hown hb, hne⟩
theorem tcells_str (l : List UInt8) (s : ByteArray) : Lib.byteCells l ++ Lib.strCells s = Lib.byteCells (l ++ s.data.toList) := by
 unfold Lib.byteCells Lib.strCells
 rw [List.map_append]
structure Bld (W : World) (b : Nat) (l : List UInt8) (w : World) : Prop where
 lo : Below W.heap.size W w
 gt : W.heap.size < b
 b : Lib.IsBuilder 88 5 b b (Lib.byteCells l) w
section
variable {W : World} {b : Nat} {l : List UInt8} {w : World}
theorem Bld.lt (h : Bld W b l w) : b < w.heap.size := by
 rcases h.b with hb | hb
 · exact hb.lt
 · exact hb.lt
theorem Bld.call {w' : World} (h : Bld W b l w) (hb : Below w.heap.size w w') : Bld W b l w' := ⟨below_call h.lo hb, h.gt, h.b.imp (fun q => tbld_below q hb) (fun q => tbld_below q hb)⟩
theorem Bld.write (h : Bld W b l w) (s : ByteArray) (hlen : l.length + s.size ≤ 1000000) :
 Calls Tryz.prog 52 #[.pointer (some ⟨b, 0, none⟩), .string s] w fun e w' => e = .returned (.tuple #[.int .i64 s.size, .nilIface]) ∧ Bld W b (l ++ s.data.toList) w' ∧ Wrt w w' ∧ Below b w w' := by
 refine (twrite_b _ _ _ s w h.b (by rw [show (Lib.byteCells l).length = l.length by unfold Lib.byteCells; rw [List.length_map]]; omega) (by have := h.lt; omega)).mono ?_
 rintro e w' ⟨rfl, hb, hl, hr⟩
 exact ⟨rfl, ⟨h.lo.trans (hl.mono (Nat.le_of_lt h.gt)), h.gt, .inr (tcells_str l s ▸ hb)⟩, hr, hl⟩
end
end
section
open Go.RowKit Go.Lib
def nameI (r : R9) (k : Int) (i : Nat) : ByteArray := (namesK r k).getD i ⟨#[]⟩
def linesN (r : R9) (k : Int) (n : Nat) : List (List UInt8) := (List.range n).flatMap fun i => elemL k (nameI r k i) (valueK r k i)
theorem linesN_succ (r : R9) (k : Int) (n : Nat) : linesN r k (n + 1) = linesN r k n ++ elemL k (nameI r k n) (valueK r k n) := by unfold linesN; rw [List.range_succ, List.flatMap_append]; simp
theorem linesN_pre (r : R9) (k : Int) (i : Nat) : ∀ n, i ≤ n → ∃ m, linesN r k n = linesN r k i ++ m
 | 0, h => ⟨[], by rw [show i = 0 by omega, List.append_nil]⟩
 | n + 1, h => by
  by_cases e : i = n + 1
  · subst e; exact ⟨[], by rw [List.append_nil]⟩
  · obtain ⟨m, hm⟩ := linesN_pre r k i n (by omega)
    exact ⟨m ++ elemL k (nameI r k n) (valueK r k n), by rw [linesN_succ, hm, List.append_assoc]⟩
theorem linesN_1 (r : R9) : ∀ n, n ≤ r.us.length → linesN r 1 n = linesU (r.us.take n)
 | 0, _ => rfl
 | n + 1, h => by
  have e : nameI r 1 n = (r.us[n]'h).nm := by unfold nameI; show (namesU r).getD n _ = _; unfold namesU; rw [List.getD_eq_getElem?_getD, List.getElem?_map, List.getElem?_eq_getElem h]; rfl
  rw [linesN_succ, linesN_1 r n (by omega), linesU_take h, e, valueU h]
theorem linesN_2 (r : R9) : ∀ n, n ≤ r.ws.length → linesN r 2 n = linesW (r.ws.take n)
 | 0, _ => rfl
 | n + 1, h => by
  have e : nameI r 2 n = (r.ws[n]'h).nm := by unfold nameI; show (namesW r).getD n _ = _; unfold namesW; rw [List.getD_eq_getElem?_getD, List.getElem?_map, List.getElem?_eq_getElem h]; rfl
  rw [linesN_succ, linesN_2 r n (by omega), linesW_take h, e, valueW h]
theorem linesN_3 (r : R9) : ∀ n, n ≤ r.ts.length → linesN r 3 n = linesT (r.ts.take n)
 | 0, _ => rfl
 | n + 1, h => by
  have e : nameI r 3 n = (r.ts[n]'h).nm := by unfold nameI; show (namesT r).getD n _ = _; unfold namesT; rw [List.getD_eq_getElem?_getD, List.getElem?_map, List.getElem?_eq_getElem h]; rfl
  rw [linesN_succ, linesN_3 r n (by omega), linesT_take h, e, valueT h]
def allK (r : R9) (k : Int) : List (List UInt8) := linesN r k (namesK r k).length
def preK (r : R9) (k : Nat) : List (List UInt8) := if k ≤ 1 then [] else if k = 2 then allK r 1 else if k = 3 then allK r 1 ++ allK r 2 else allK r 1 ++ allK r 2 ++ allK r 3
theorem preK_next (r : R9) {k : Nat} (h : k = 1 ∨ k = 2 ∨ k = 3) : preK r (k + 1) = preK r k ++ allK r (k : Int) := by
 rcases h with rfl | rfl | rfl <;> rfl
theorem preK_all (r : R9) : preK r 4 = rulesL r := by
 obtain ⟨n1, n2, n3⟩ := names_len r
 show allK r 1 ++ allK r 2 ++ allK r 3 = rulesL r
 unfold allK
 rw [n1, n2, n3, linesN_1 r _ (Nat.le_refl _), linesN_2 r _ (Nat.le_refl _), linesN_3 r _ (Nat.le_refl _), List.take_length, List.take_length, List.take_length, rulesL_eq]
theorem preK_pre (r : R9) {k : Nat} (h : k = 1 ∨ k = 2 ∨ k = 3) : ∃ m, rulesL r = preK r (k + 1) ++ m := by
 rw [← preK_all]
 rcases h with rfl | rfl | rfl
 · exact ⟨allK r 2 ++ allK r 3, by show allK r 1 ++ allK r 2 ++ allK r 3 = allK r 1 ++ _; rw [List.append_assoc]⟩
 · exact ⟨allK r 3, rfl⟩
 · exact ⟨[], by rw [List.append_nil]⟩
def curL (r : R9) (k i j : Nat) : List (List UInt8) := preK r k ++ linesN r k i ++ (elemL k (nameI r k i) (valueK r k i)).take (1 + j)
theorem headL_pre (r : R9) {k i : Nat} (h : k = 1 ∨ k = 2 ∨ k = 3) (hi : i ≤ (namesK r (k : Int)).length) : ∃ m, rulesL r = (preK r k ++ linesN r k i) ++ m := by
 obtain ⟨m, hm⟩ := preK_pre r h
 obtain ⟨m2, hm2⟩ := linesN_pre r (k : Int) i _ hi
 exact ⟨m2 ++ m, by rw [hm, preK_next r h, allK, hm2]; simp only [List.append_assoc]⟩
theorem curL_pre (r : R9) {k i : Nat} (j : Nat) (h : k = 1 ∨ k = 2 ∨ k = 3) (hi : i < (namesK r (k : Int)).length) : ∃ m, rulesL r = curL r k i j ++ m := by
 obtain ⟨m, hm⟩ := headL_pre r h hi
 refine ⟨(elemL k (nameI r k i) (valueK r k i)).drop (1 + j) ++ m, ?_⟩
 rw [hm, linesN_succ]
 unfold curL
 have := List.take_append_drop (1 + j) (elemL k (nameI r k i) (valueK r k i))
 simp only [List.append_assoc]
 rw [← List.append_assoc (List.take _ _), this]
theorem curL_le {r : R9} (hv : valv r = 0) {k i : Nat} (j : Nat) (h : k = 1 ∨ k = 2 ∨ k = 3) (hi : i < (namesK r (k : Int)).length) : (joinT (curL r k i j)).length ≤ 32768 := by
 obtain ⟨m, hm⟩ := curL_pre r j h hi
 have := rules_len hv
 rw [hm] at this
 exact Nat.le_trans (join_pre _ m) this
theorem curL_0 (r : R9) (k i : Nat) : joinT (curL r k i 0) = joinT (preK r k ++ linesN r k i) ++ ((wordK k ++ 32 :: (nameI r k i).toList) ++ [10]) := by
 unfold curL
 rw [take_head, join_app, joinT_one]
theorem curL_next (r : R9) (k i : Nat) {j : Nat} (h : j < (fieldsv (k : Int)).length) : joinT (curL r k i (j + 1)) = joinT (curL r k i j) ++ (fieldL k (valueK r k i) ((fieldsv (k : Int))[j]'h) ++ [10]) := by
 unfold curL
 rw [join_app, lines_step h, ← List.append_assoc, ← join_app]
theorem curL_full (r : R9) (k i : Nat) {j : Nat} (h : j = (fieldsv (k : Int)).length) : curL r k i j = preK r k ++ linesN r k (i + 1) := by
 unfold curL
 rw [take_full h, linesN_succ, List.append_assoc]
theorem head_full (r : R9) {k : Nat} (h : k = 1 ∨ k = 2 ∨ k = 3) : preK r k ++ linesN r k (namesK r (k : Int)).length = preK r (k + 1) := (preK_next r h).symm
end

end Go.Proofs.YtnjcdmjaecgblaaGreatDoor
