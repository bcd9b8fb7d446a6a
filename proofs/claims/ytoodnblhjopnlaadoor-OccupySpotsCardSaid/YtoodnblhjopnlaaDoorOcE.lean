/-
  occupy as landed at 785be24: slices of positions, their copies, the nearest ones first.
-/
import Derived.Test.YtoodnblhjopnlaaDoorOcD
import Derived.Laws.IdiomCopy
import Derived.Laws.CopyOwn
import Derived.Lib.OwnBridge
import Derived.Lib.AppendIntMem
namespace Go.Proofs.YtoodnblhjopnlaaDoor
open Go.RowKit Go.Lib Go.Sort

/-- A slice of positions that can be read. -/
def PosAt (W : World) (s : Value) (l : List (Int × Int)) : Prop :=
  ∃ p c, s = .slice p l.length c ∧ l.length ≤ maxLen ∧ (1 ≤ l.length → ∃ g o, p = some ⟨g, o, none⟩ ∧ g < W.heap.size ∧ ∀ i, (h : i < l.length) → W.cell? ⟨g, o + i * 2, none⟩ = some (.int .i64 (l[i]'h).1) ∧ W.cell? ⟨g, o + i * 2 + 1, none⟩ = some (.int .i64 (l[i]'h).2))
theorem PosAt.below {W w' : World} {s : Value} {l : List (Int × Int)} (h : PosAt W s l) (hb : Below W.heap.size W w') : PosAt w' s l := by
  obtain ⟨p, c, rfl, hm, hc⟩ := h
  refine ⟨p, c, rfl, hm, fun h1 => ?_⟩
  obtain ⟨g, o, rfl, hg, hi⟩ := hc h1
  refine ⟨g, o, rfl, Nat.lt_of_lt_of_le hg hb.size, fun i hi' => ?_⟩
  obtain ⟨a, b⟩ := hi i hi'
  exact ⟨(hb.cell (p := ⟨g, o + i * 2, none⟩) hg).trans a, (hb.cell (p := ⟨g, o + i * 2 + 1, none⟩) hg).trans b⟩
theorem ocpcells_i (l : List (Int × Int)) (i : Nat) (h : i < l.length) : (pcells l)[i * 2]? = some (.int .i64 (l[i]'h).1) ∧ (pcells l)[i * 2 + 1]? = some (.int .i64 (l[i]'h).2) := by
  rw [Nat.mul_comm]; exact pcells_at l i h
theorem pcells_size (l : List (Int × Int)) : (pcells l).length = l.length * 2 := by
  induction l with
  | nil => rfl
  | cons p l ih => unfold pcells at *; rw [List.flatMap_cons, List.length_append, ih]; simp; omega
theorem PosAt.any {w : World} {B n : Nat} {v : Value} {l : List (Int × Int)} (h : w.ownsRow B 42 2 v n (pcells l)) (hn : l.length = n) (hm : n ≤ maxLen) : PosAt w v l := by
  subst hn
  rcases id h.2 with ⟨rfl, h0⟩ | ⟨g, cap, cur, rfl, _⟩
  · have : l = [] := List.eq_nil_of_length_eq_zero h0
    subst this
    exact ⟨none, 0, rfl, Nat.zero_le _, fun h => by simp at h⟩
  · refine ⟨_, _, rfl, hm, fun _ => ⟨g, 0, rfl, (h.lt g rfl).2, fun i hi => ?_⟩⟩
    have hc := ocpcells_i l i hi
    rw [Nat.zero_add]
    have hl := pcells_size l
    exact ⟨(h.cellAt (i * 2) (by omega)).trans hc.1, (h.cellAt (i * 2 + 1) (by omega)).trans hc.2⟩
theorem PosAt.flat {W : World} {g o c : Nat} {l : List (Int × Int)} (h : PosAt W (.slice (some ⟨g, o, none⟩) l.length c) l) (h1 : 1 ≤ l.length) : ∀ j v, (pcells l)[j]? = some v → W.cell? ((⟨g, o, none⟩ : Addr).add j) = some v := by
  obtain ⟨p', c', e, -, hat⟩ := h
  obtain ⟨g', o', rfl, -, hc⟩ := hat h1
  injection e with e1 _ _
  injection e1 with e1
  injection e1 with e1 e2
  subst e1
  subst e2
  intro j v hj
  have hjl : j < l.length * 2 := by rw [← pcells_size]; exact (List.getElem?_eq_some_iff.1 hj).1
  have hi : j / 2 < l.length := by omega
  obtain ⟨a, b⟩ := hc (j / 2) hi
  obtain ⟨a', b'⟩ := ocpcells_i l (j / 2) hi
  rw [Addr.add_lit]
  rcases (show j % 2 = 0 ∨ j % 2 = 1 by omega) with e | e
  · rw [show j / 2 * 2 = j by omega] at a a'
    rw [a', ← a] at hj
    rw [hj]
  · rw [show j / 2 * 2 + 1 = j by omega] at b'
    rw [show o + j / 2 * 2 + 1 = o + j by omega] at b
    rw [b', ← b] at hj
    rw [hj]
theorem PosAt.len {W : World} {v : Value} {l : List (Int × Int)} (h : PosAt W v l) : ∃ p c, v = .slice p l.length c := by
  obtain ⟨p, c, rfl, -⟩ := h
  exact ⟨p, c, rfl⟩
theorem pcells_lone (l : List (Int × Int)) : ∀ u ∈ pcells l, u.oneCell' = true := by
  intro u hu
  unfold pcells at hu
  obtain ⟨p, _, hp⟩ := List.mem_flatMap.1 hu
  simp only [List.mem_cons, List.not_mem_nil, or_false] at hp
  rcases hp with rfl | rfl <;> rfl
theorem sizePos : (Tryd.prog.info? 42).map (·.size) = some 2 := by kernel_rfl
/-- 'copy' of elements of some cells: all is read before anything is written. -/
theorem ocrun_copy {P : Program} (w : World) (dT sT ty elem : TypeId) (k b o dLen dCap : Nat) (a : Addr) (sLen sCap m : Nat) (cs : List Value)
    (hu : P.underlying dT = some (.slice elem)) (hs : (P.info? elem).map (·.size) = some k) (hm : m = Nat.min sLen dLen) (hn : cs.length = m * k)
    (hsrc : ∀ j v, cs[j]? = some v → w.cell? (a.add j) = some v) (hc : ∀ j, j < cs.length → (w.cell? ⟨b, o + j, none⟩).isSome = true) (hf : ∀ j, j < cs.length → w.frozen? ⟨b, o + j, none⟩ = false) (h1 : ∀ v ∈ cs, v.oneCell' = true) :
    (Builtin.copy_ #[dT, sT] ty #[.slice (some ⟨b, o, none⟩) dLen dCap, .slice (some a) sLen sCap]).run P w = .ok (goInt m) (w.setCells b o cs) := by
  have hl := run_loadCells_list (P := P) w a cs hsrc
  have hst := run_storeCells_cells (P := P) b o cs 0 w (by simpa using hc) (by simpa using hf) h1
  cases hq : P.info? elem with
  | none => simp [hq] at hs
  | some i =>
    have hi : i.size = k := by simpa [hq] using hs
    simp [Builtin.copy_, run_underlying hu, Builtin.lenOf, Builtin.firstCells, sizeOf, typeInfo, hq, hi, ← hm, ← hn, hl, hst]
theorem ocrun_copy0 {P : Program} (w : World) (dT sT ty elem : TypeId) (k : Nat) (d a : Option Addr) (dLen dCap sLen sCap : Nat) (hu : P.underlying dT = some (.slice elem)) (hs : (P.info? elem).map (·.size) = some k) (hn : Nat.min sLen dLen = 0) :
    (Builtin.copy_ #[dT, sT] ty #[.slice d dLen dCap, .slice a sLen sCap]).run P w = .ok (goInt 0) w := by
  cases hq : P.info? elem with
  | none => simp [hq] at hs
  | some i =>
    have hi : i.size = k := by simpa [hq] using hs
    have hl : ∀ (x : Addr), (loadCells x 0).run P w = .ok #[] w := fun x => by simpa using run_loadCells_list (P := P) w x [] (by simp)
    cases d <;> cases a <;> simp [Builtin.copy_, run_underlying hu, Builtin.lenOf, Builtin.firstCells, sizeOf, typeInfo, hq, hn, storeCells, hl]
def ocputL (cur : Array Value) : Nat → List Value → Array Value
  | _, [] => cur
  | o, v :: r => ocputL (cur.setIfInBounds o v) (o + 1) r
theorem ocputL_size : ∀ (vs : List Value) (o : Nat) (cur : Array Value), (ocputL cur o vs).size = cur.size
  | [], _, _ => rfl
  | v :: r, o, cur => by rw [ocputL, ocputL_size r]; simp
theorem ocputL_list : ∀ (vs : List Value) (o : Nat) (cur : Array Value), o + vs.length ≤ cur.size → (ocputL cur o vs).toList = cur.toList.take o ++ vs ++ cur.toList.drop (o + vs.length)
  | [], o, cur, _ => by simp [ocputL]
  | v :: r, o, cur, h => by
    have h' : o + 1 + r.length ≤ cur.size := by simp at h; omega
    rw [ocputL, ocputL_list r (o + 1) _ (by simpa using h'), Array.toList_setIfInBounds]
    have ho : o < cur.toList.length := by simp; omega
    rw [List.take_set, List.take_succ_eq_append_getElem ho, List.set_append_right _ _ (by simp; omega), List.length_take, Nat.min_eq_left (Nat.le_of_lt ho), Nat.sub_self, List.drop_set_of_lt (by omega)]
    simp only [List.set_cons_zero, List.length_cons, List.append_assoc, List.cons_append, List.nil_append]
    rw [show o + 1 + r.length = o + (r.length + 1) by omega]
theorem ocheap_set (b : Nat) (t : TypeId) : ∀ (vs : List Value) (o : Nat) (w : World) (cur : Array Value), w.heap[b]? = some (.cells cur t (0, 0)) → (w.setCells b o vs).heap[b]? = some (.cells (ocputL cur o vs) t (0, 0))
  | [], _, _, _, h => h
  | v :: r, o, w, cur, h => by
    rw [World.setCells, ocputL]
    exact ocheap_set b t r (o + 1) _ _ (heap_setCell_same w b o cur t v h)
theorem ocbelow_set {B b : Nat} {w0 : World} : ∀ (vs : List Value) (o : Nat) (w : World), Below B w0 w → B ≤ b → Below B w0 (w.setCells b o vs)
  | [], _, _, h, _ => h
  | v :: r, o, w, h, hb => by
    rw [World.setCells]
    exact ocbelow_set r (o + 1) _ (h.setCell (p := ⟨b, o, none⟩) hb v) hb
theorem ocheap_far {b k : Nat} (ne : k ≠ b) : ∀ (vs : List Value) (o : Nat) (w : World), (w.setCells b o vs).heap[k]? = w.heap[k]?
  | [], _, _ => rfl
  | v :: r, o, w => by
    rw [World.setCells, ocheap_far ne r]
    exact Below.heap_setCell w _ v k (by show k ≠ b; exact ne)
theorem ocown_holds {w : World} {B k n g cap : Nat} {e : TypeId} {xs : List Value} (h : w.ownsRow B e k (.slice (some ⟨g, 0, none⟩) n cap) n xs) (F : Array Value) (hF : F.toList = xs) : Sort.Holds id w g 0 F := fun j hj => by
  have hx := h.1
  have hjx : j < xs.length := by rw [← hF]; simpa using hj
  rcases id h.2 with ⟨e0, -⟩ | ⟨g', cap', cur, e0, -, hg, -, -, -, -⟩
  · cases e0
  · injection e0 with e1 _ _
    injection e1 with e1
    injection e1 with e1
    subst e1
    refine ⟨?_, by simp [World.frozen?, hg]⟩
    rw [Nat.zero_add, h.cellAt j (by omega), ← hF, Array.getElem?_toList, Array.getElem?_eq_getElem hj, getElem!_pos F j hj]
    rfl
theorem ocown_put {w : World} {B k n g cap q : Nat} {e : TypeId} {xs : List Value} (h : w.ownsRow B e k (.slice (some ⟨g, 0, none⟩) n cap) n xs) (F : Array Value) (hF : F.size = n * k) :
    (Sort.putRow id (Sort.ahead w q) g 0 F).ownsRow B e k (.slice (some ⟨g, 0, none⟩) n cap) n F.toList := by
  rcases h.2 with ⟨e0, _⟩ | ⟨g', cap', cur, e0, hb, hg, hn, hm, hs, ht⟩
  · cases e0
  · injection e0 with e1 _ e3
    injection e1 with e1
    injection e1 with e1
    subst e1
    subst e3
    have hnk : n * k ≤ cur.size := by rw [hs]; exact Nat.mul_le_mul_right k hn
    refine ⟨by simpa using hF, .inr ⟨g, cap, Sort.putCells id 0 F cur, rfl, hb, ?_, hn, hm, by simpa [Sort.putCells] using hs, ?_⟩⟩
    · simp [Sort.putRow, Sort.mapBlock, Sort.ahead, Array.getElem?_modify, hg, Sort.onCells]
    · apply List.ext_getElem?
      intro j
      rw [List.getElem?_take, Array.getElem?_toList, Array.getElem?_toList]
      by_cases hj : j < n * k
      · have hjc : j < cur.size := by omega
        simp only [if_pos hj, Sort.putCells, Array.getElem?_mapIdx, Array.getElem?_eq_getElem hjc, Option.map_some]
        rw [if_pos (by omega), Array.getElem?_eq_getElem (by omega), Nat.sub_zero, getElem!_pos F j (by omega)]
        rfl
      · rw [if_neg hj, Array.getElem?_eq_none (by omega)]

theorem cells_own {w : World} {B G n : Nat} {xs : List Value} (hG : w.ownsRow B 42 2 (.slice (some ⟨G, 0, none⟩) n n) n xs) (j : Nat) (hj : j < n * 2) : (w.cell? ⟨G, 0 + j, none⟩).isSome = true ∧ w.frozen? ⟨G, 0 + j, none⟩ = false := by
  rcases id hG.2 with ⟨e0, -⟩ | ⟨g', cap', cur, e0, -, hg, -, -, hs, -⟩
  · cases e0
  · injection e0 with e1 _ e3
    injection e1 with e1
    injection e1 with e1
    subst e1
    subst e3
    refine ⟨?_, by simp [World.frozen?, hg]⟩
    rw [Nat.zero_add]
    simp [World.cell?, hg, hs, hj]
/-- 'copy' of a whole list of positions over a row of as many. -/
theorem copy_pos (w : World) (B G n : Nat) (v : Value) (l : List (Int × Int)) (xs : List Value) (hv : PosAt w v l) (hl : l.length = n) (hG : w.ownsRow B 42 2 (.slice (some ⟨G, 0, none⟩) n n) n xs) :
    ∃ w3, (Builtin.copy_ #[39, 39] 3 #[.slice (some ⟨G, 0, none⟩) n n, v]).run Tryd.prog w = .ok (.int .i64 n) w3 ∧ w3.ownsRow B 42 2 (.slice (some ⟨G, 0, none⟩) n n) n (pcells l) ∧ ∀ {C : Nat} {w0 : World}, Below C w0 w → C ≤ G → Below C w0 w3 := by
  subst hl
  by_cases h0 : l.length = 0
  · have hln : l = [] := List.eq_nil_of_length_eq_zero h0
    subst hln
    obtain ⟨p, c, rfl⟩ := hv.len
    have hx : xs = [] := List.eq_nil_of_length_eq_zero (by rw [hG.1]; rfl)
    subst hx
    exact ⟨w, ocrun_copy0 (P := Tryd.prog) w 39 39 3 42 2 _ p _ _ _ _ Tryd.underlying39 sizePos (Nat.min_self _), hG, fun hb _ => hb⟩
  · obtain ⟨p, c, rfl, -, hat⟩ := id hv
    obtain ⟨g, o, rfl, -, -⟩ := hat (by omega)
    have hpl := pcells_size l
    have hr := ocrun_copy (P := Tryd.prog) w 39 39 3 42 2 G 0 l.length l.length ⟨g, o, none⟩ l.length c l.length (pcells l) Tryd.underlying39 sizePos (Nat.min_self _).symm hpl
      (hv.flat (by omega)) (fun j hj => (cells_own hG j (by omega)).1) (fun j hj => (cells_own hG j (by omega)).2) (pcells_lone l)
    refine ⟨_, hr, ?_, fun hb hc => ocbelow_set _ _ _ hb hc⟩
    rcases id hG.2 with ⟨e0, -⟩ | ⟨g', cap', cur, e0, hB, hg, -, hm, hs, -⟩
    · cases e0
    · injection e0 with e1 _ e3
      injection e1 with e1
      injection e1 with e1
      subst e1
      subst e3
      refine ⟨hpl, .inr ⟨G, l.length, _, rfl, hB, ocheap_set G _ (pcells l) 0 w cur hg, Nat.le_refl _, hm, by rw [ocputL_size]; exact hs, ?_⟩⟩
      rw [ocputL_list _ _ _ (by omega), List.take_zero, List.nil_append, Nat.zero_add, List.drop_of_length_le (by rw [Array.length_toList]; omega), List.append_nil, List.take_of_length_le (by omega)]
abbrev encP (p : Int × Int) : List Value := [.int .i64 p.1, .int .i64 p.2]
theorem encP_len (p : Int × Int) : (encP p).length = 2 := rfl
theorem encP_lone (p : Int × Int) : ∀ v ∈ encP p, v.oneCell' = true := ints_lone
theorem flatK_P (d : Array (Int × Int)) : (Sort.flatK encP 2 d).toList = pcells d.toList := by
  apply List.ext_getElem?
  intro t
  have hpl := pcells_size d.toList
  by_cases ht : t < d.size * 2
  · have hd : t / 2 < d.size := by omega
    have e1 := Sort.get_flatK encP 2 d t ht
    have hz : t < (Sort.flatK encP 2 d).size := by simpa using ht
    rw [getElem!_pos _ t hz] at e1
    rw [Array.getElem?_toList, Array.getElem?_eq_getElem hz, e1, getElem!_pos d (t / 2) hd]
    obtain ⟨a, b⟩ := ocpcells_i d.toList (t / 2) (by simpa using hd)
    rw [Array.getElem_toList] at a b
    rcases (show t % 2 = 0 ∨ t % 2 = 1 by omega) with e | e
    · rw [e]
      rw [show t / 2 * 2 = t by omega] at a
      rw [a]; rfl
    · rw [e]
      rw [show t / 2 * 2 + 1 = t by omega] at b
      rw [b]; rfl
  · rw [List.getElem?_eq_none (by simpa using ht), List.getElem?_eq_none (by rw [hpl]; simpa using ht)]
theorem lt_far (f : Int × Int) : ltOf (cmpF f) = farv f := funext fun a => funext fun b => cmpF_lt f a b
theorem eg_cls : ∀ args w, (callFunc 68 args).run Tryd.prog w = .ok (.enter 68 args) w := enters_of Tryd.func68 (by kernel_rfl) rfl
set_option maxHeartbeats 2000000 in
/-- A row of the call's own, sorted by distances; the place that they are from lies in a block ahead. -/
theorem ocsort_b (f : Int × Int) (l : List (Int × Int)) (B D G : Nat) (W : World) (hown : W.ownsRow B 42 2 (.slice (some ⟨G, 0, none⟩) l.length l.length) l.length (pcells l)) (hD : Blk W D [.int .i64 f.1, .int .i64 f.2] 42) (hDB : D < B) (hBW : B ≤ W.heap.size) (hlen : l.length ≤ 1024) :
    Calls Tryd.prog 67 #[.slice (some ⟨G, 0, none⟩) l.length l.length, .func (.func 68) #[] #[.pointer (some ⟨D, 0, none⟩)]] W fun e w' =>
      e = .returned (.tuple #[]) ∧ w'.ownsRow B 42 2 (.slice (some ⟨G, 0, none⟩) l.length l.length) l.length (pcells (mergS (farv f) [] l)) ∧ Below B W w' := by
  have hGl := (hown.lt G rfl)
  have hsz : l.toArray.size = l.length := by simp
  have hH : Sort.HoldsK encP 2 W G 0 l.toArray := ocown_holds hown _ (by rw [flatK_P])
  have hR : RowK encP 2 W G 0 l.toArray := ⟨encP_len, encP_lone, hH, hGl.2⟩
  have hcmp : CmpLays Tryd.prog 68 #[.pointer (some ⟨D, 0, none⟩)] encP 2 (cmpF f) G 0 l.toArray.size W := by
    intro m os dk _ x y
    refine occls_b f x y D _ ?_
    unfold sortWorldK Sort.putRowK
    have h1 := Lib.below_putRow (enc := id) (q := m) (d := Sort.flatK encP 2 dk) (Below.refl (D + 1) W) (show D + 1 ≤ G by omega)
    have h2 := Lib.below_grow _ (Sort.putRow id (Sort.ahead W m) G 0 (Sort.flatK encP 2 dk)) (Nat.le_refl _) 0 os
    exact hD.under (h1.trans (h2.mono (by rw [Sort.size_putRow]; show D + 1 ≤ W.heap.size; omega))) (Nat.lt_succ_self _)
  have hc := symP_sort encP 2 rfl (cmpF f) 68 #[.pointer (some ⟨D, 0, none⟩)] G 0 l.length l.toArray l.toArray W W eg_cls hcmp hR rfl (SWK.start hH) (by omega)
    (by rw [lt_far]; exact fun p q r => far_irr f p q r) (by rw [lt_far]; exact fun p q => far_tot f p q) l (by simp)
  rw [hsz, lt_far] at hc
  refine hc.mono fun e w' ⟨he, d', hs', hI, n, os, hw⟩ => ?_
  have hd2 : d'.toList = mergS (farv f) [] l := hI
  have h1 := ocown_put (q := n) hown (Sort.flatK encP 2 d') (by rw [Sort.size_flatK, hs'])
  rw [flatK_P, hd2] at h1
  have h2 := Lib.below_grow _ (Sort.putRow id (Sort.ahead W n) G 0 (Sort.flatK encP 2 d')) (Nat.le_refl _) 0 os
  subst hw
  unfold sortWorldK Sort.putRowK
  refine ⟨he, own_below h1 h2, ?_⟩
  have h3 := Lib.below_putRow (enc := id) (q := n) (d := Sort.flatK encP 2 d') (Below.refl B W) hGl.1
  exact h3.trans (h2.mono (by rw [Sort.size_putRow]; exact hBW))
set_option maxHeartbeats 4000000 in
theorem ocnear_b (f : Int × Int) (v : Value) (l : List (Int × Int)) (W : World) (hv : PosAt W v l) (hlen : l.length ≤ 1024) :
    Calls Tryd.prog 49 #[v, .agg #[.int .i64 f.1, .int .i64 f.2]] W fun e w' => ∃ v', e = .returned v' ∧ w'.ownsRow W.heap.size 42 2 v' l.length (pcells (mergS (farv f) [] l)) ∧ Below W.heap.size W w' := by
  obtain ⟨i0, hi0, hz0, hz1, hz2⟩ := info_cut infoPos
  have hB := Blk.new W [.int .i64 f.1, .int .i64 f.2] 42
  have hA := (Below.refl W.heap.size W).alloc (Nat.le_refl _) (.cells [Value.int .i64 f.1, .int .i64 f.2].toArray 42)
  replace hv := hv.below hA
  have hl9 := hB.lt
  obtain ⟨p, c, rfl⟩ := hv.len
  go_enter Tryd.func49, Tryd.ntmps49
  go_upto_region 1 with fail
  generalize W.alloc (.cells [Value.int .i64 f.1, .int .i64 f.2].toArray 42) = V at *
  obtain ⟨w2, hmk, hown, hg2⟩ := run_make_full V V.heap.size 39 42 i0 (.agg #[.int .i64 0, .int .i64 0]) 2 Tryd.underlying39 hi0 hz0 hz1 .i64 .i64 l.length (by rw [hz2]; omega) (by unfold maxLen; omega) (Nat.le_refl _)
  have hb2 : Below V.heap.size V w2 := (Below.refl V.heap.size V).grown hg2 (Nat.le_refl _) (fun k h => by cases h)
  obtain ⟨w3, hcopy, hw3, hbk⟩ := copy_pos w2 V.heap.size V.heap.size l.length _ l _ (hv.below hb2) rfl hown
  have hb3 := hbk hb2 (Nat.le_refl _)
  have hsz3 : V.heap.size ≤ w3.heap.size := hb3.size
  have hW3 := below_call hA hb3
  replace hB := hB.below hb3
  have cs := ocsort_b f l V.heap.size W.heap.size V.heap.size w3 hw3 hB hl9 hsz3 hlen
  clear hbk hown hg2 hi0 hz0 hz1 hz2 hv hw3 hB hb2 hb3
  go_wp2_with (first
    | (go_at_call 67; refine cs.mono ?_; rintro e w4 ⟨rfl, hown, hb4⟩))
  go_ret
  exact ⟨_, rfl, own_base hown (Nat.le_of_lt hl9), hW3.trans (hb4.mono (Nat.le_of_lt hl9))⟩

end Go.Proofs.YtoodnblhjopnlaaDoor
