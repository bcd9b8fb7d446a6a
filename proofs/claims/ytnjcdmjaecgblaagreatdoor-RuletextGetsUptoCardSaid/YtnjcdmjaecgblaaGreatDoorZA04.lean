/-
  A region that draws and lays map literals: maps made, entries put in whatever order, the struct built and stored. No program is named here.
-/
import Derived.Test.YtnjcdmjaecgblaaGreatDoorZA03
import Derived.Great.Frames
import Derived.Carry
namespace Go.Proofs.YtnjcdmjaecgblaaGreatDoor
section
open Go.RowKit Go.Lib Go.Maps
structure MRow where
 mo : Nat
 ms : Nat
 mv : Nat
 vs : Nat
deriving DecidableEq
structure IRow where
 i : Nat
 mo : Nat
 key : ByteArray
 s : Nat
deriving DecidableEq
structure FrOk (a0 a : Act) (sl : List Nat) : Prop where
 df : a.defers = a0.defers
 sz : a.tmps.size = a0.tmps.size
 ev : ∀ s, s ∉ sl → a.eval (.tmp s) = a0.eval (.tmp s)
theorem FrOk.put {a0 a : Act} {sl : List Nat} (h : FrOk a0 a sl) {s : Nat} (hs : s ∈ sl) (v : Value) : FrOk a0 (a.put (some s) v) sl :=
 ⟨(Act.defers_put' _ _ _).trans h.df, (Act.size_put _ _ _).trans h.sz, fun t ht => (Act.eval_put_ne _ _ _ _ (fun e => ht (by rw [← e]; exact hs))).trans (h.ev t ht)⟩
theorem getD_lit {listed : Array Bool} {i j : Nat} (hi : i < listed.size) : (listed.setIfInBounds i true).getD j false = true ↔ j = i ∨ listed.getD j false = true := by
 rw [Array.getD_eq_getD_getElem?, Array.getD_eq_getD_getElem?]
 by_cases h : i = j
 · subst h
   simp [hi]
 · rw [Array.getElem?_setIfInBounds_ne h]
   exact ⟨.inr, fun q => q.resolve_left fun e => h e.symm⟩
theorem nleft_le : ∀ l : List Bool, nleft l ≤ l.length
 | [] => Nat.le_refl _
 | true :: l => Nat.le_succ_of_le (nleft_le l)
 | false :: l => Nat.succ_le_succ (nleft_le l)
theorem nleft_step {listed : Array Bool} {i : Nat} (hi : i < listed.size) (h : listed.getD i true = false) : nleft (listed.setIfInBounds i true).toList + 1 = nleft listed.toList := by
 rw [Array.toList_setIfInBounds]
 refine nleft_set _ _ ?_
 rw [Array.getElem?_toList, Array.getElem?_eq_getElem hi]
 rw [Array.getD_eq_getD_getElem?, Array.getElem?_eq_getElem hi] at h
 simpa using h
section
variable {P : Program} {k : TypeId} {ops : Array Oper} {md : Region.Mode} (MS : List MRow) (INS : List IRow) (F : ByteArray → Value)
structure LitM (a : Act) (w : World) (listed : Array Bool) (B0 : Nat) (b : Nat → Nat) (D : Nat → List ByteArray) : Prop where
 made : ∀ m ∈ MS, listed.getD m.mo false = true → a.eval (.tmp m.ms) = .map (some (b m.mo)) ∧ B0 ≤ b m.mo ∧ MapS P k w (b m.mo) ((D m.mo).map fun s => (s, F s)) ∧ (D m.mo).length + nleft listed.toList ≤ listed.size ∧ ∀ e ∈ INS, e.mo = m.mo → listed.getD e.i false = true → e.key ∈ D m.mo
 apart : ∀ m ∈ MS, ∀ n ∈ MS, m.mo ≠ n.mo → listed.getD m.mo false = true → listed.getD n.mo false = true → b m.mo ≠ b n.mo
 moved : ∀ m ∈ MS, listed.getD m.mv false = true → listed.getD m.mo false = true ∧ a.eval (.tmp m.vs) = .map (some (b m.mo))
structure LitOk (a0 : Act) (sl : List Nat) (bi st bs : Nat) : Prop where
 ms : ∀ m ∈ MS, m.ms ∈ sl ∧ m.vs ∈ sl ∧ m.ms ≠ bs ∧ m.vs ≠ bs
 ms2 : ∀ m ∈ MS, ∀ n ∈ MS, m.ms ≠ n.vs ∧ (m.mo ≠ n.mo → m.ms ≠ n.ms ∧ m.vs ≠ n.vs) ∧ (m.mo = n.mo → m = n)
 mk2 : ∀ m ∈ MS, ∀ n ∈ MS, m.mo ≠ n.mv
 op : ∀ m ∈ MS, m.mo ≠ bi ∧ m.mo ≠ st ∧ m.mv ≠ bi ∧ m.mv ≠ st
 ins : ∀ e ∈ INS, ∀ m ∈ MS, e.i ≠ m.mo ∧ e.i ≠ m.mv ∧ e.i ≠ bi ∧ e.i ≠ st
 ins2 : ∀ e ∈ INS, ∀ f ∈ INS, e.i = f.i → e.mo = f.mo ∧ e.key = f.key
 insm : ∀ e ∈ INS, ∃ m ∈ MS, m.mo = e.mo
 bsl : bs ∈ sl
 len : ∀ s ∈ sl, s < a0.tmps.size
 few : ops.size ≤ 900
variable {MS INS F}
section
variable {a0 a : Act} {w : World} {listed : Array Bool} {B0 : Nat} {b : Nat → Nat} {D : Nat → List ByteArray} {sl : List Nat} {bi st bs : Nat}
theorem LitM.lens (h : LitM (P := P) (k := k) MS INS F a w listed B0 b D) {m : MRow} (hm : m ∈ MS) (hl : listed.getD m.mo false = true) (hs : listed.size ≤ 900) : ((D m.mo).map fun s => (s, F s)).length < 1000 := by
 have := (h.made m hm hl).2.2.2.1
 rw [List.length_map]
 omega
theorem LitM.other (h : LitM (P := P) (k := k) MS INS F a w listed B0 b D) {i : Nat} (hi : i < listed.size) (hu : listed.getD i true = false) (hI : ∀ e ∈ INS, e.i ≠ i) (hM : ∀ m ∈ MS, m.mo ≠ i ∧ m.mv ≠ i) {a' : Act} {w' : World} (ha : ∀ m ∈ MS, a'.eval (.tmp m.ms) = a.eval (.tmp m.ms) ∧ a'.eval (.tmp m.vs) = a.eval (.tmp m.vs))
 (hw : ∀ c l, MapS P k w c l → MapS P k w' c l) : LitM (P := P) (k := k) MS INS F a' w' (listed.setIfInBounds i true) B0 b D := by
 have hn := nleft_step hi hu
 refine ⟨fun m hm hl => ?_, fun m hm n hn2 hne h1 h2 => ?_, fun m hm hl => ?_⟩
 · rw [getD_lit hi] at hl
   obtain ⟨x1, x2, x3, x4, x5⟩ := h.made m hm (hl.resolve_left (hM m hm).1)
   refine ⟨(ha m hm).1.trans x1, x2, hw _ _ x3, by rw [Array.size_setIfInBounds]; omega, fun e he hj hl2 => ?_⟩
   rw [getD_lit hi] at hl2
   exact x5 e he hj (hl2.resolve_left (hI e he))
 · rw [getD_lit hi] at h1 h2
   exact h.apart m hm n hn2 hne (h1.resolve_left (hM m hm).1) (h2.resolve_left (hM n hn2).1)
 · rw [getD_lit hi] at hl
   obtain ⟨x1, x2⟩ := h.moved m hm (hl.resolve_left (hM m hm).2)
   exact ⟨(getD_lit hi).2 (.inr x1), (ha m hm).2.trans x2⟩
theorem LitM.make (h : LitM (P := P) (k := k) MS INS F a w listed B0 b D) (hO : LitOk (ops := ops) MS INS a0 sl bi st bs) (hF : FrOk a0 a sl) {n : MRow} (hn : n ∈ MS) (hi : n.mo < listed.size) (hu : listed.getD n.mo true = false) (hu2 : listed.getD n.mv false = false) (hB : B0 ≤ w.heap.size) (hdep : ∀ e ∈ INS, e.mo = n.mo → listed.getD e.i false = false) :
 LitM (P := P) (k := k) MS INS F (a.put (some n.ms) (.map (some w.heap.size))) (w.alloc (.map #[] 0)) (listed.setIfInBounds n.mo true) B0 (fun j => if j = n.mo then w.heap.size else b j) (fun j => if j = n.mo then [] else D j) := by
 have hnl := nleft_step hi hu
 have hsz : n.ms < a.tmps.size := by rw [hF.sz]; exact hO.len _ (hO.ms n hn).1
 refine ⟨fun m hm hl => ?_, fun m hm m2 hm2 hne h1 h2 => ?_, fun m hm hl => ?_⟩
 · by_cases e : m.mo = n.mo
   · obtain rfl := (hO.ms2 m hm n hn).2.2 e
     simp only [if_true]
     refine ⟨Act.eval_put_same _ _ _ hsz, hB, MapS.made w P k, by
      have := nleft_le listed.toList
      rw [Array.length_toList] at this
      rw [Array.size_setIfInBounds]
      simp only [List.length_nil]; omega, fun e he hj hl2 => ?_⟩
     rw [getD_lit hi] at hl2
     rcases hl2 with q | q
     · exact absurd q ((hO.ins e he m hm).1)
     · rw [hdep e he hj] at q; cases q
   · rw [getD_lit hi] at hl
     obtain ⟨x1, x2, x3, x4, x5⟩ := h.made m hm (hl.resolve_left e)
     simp only [if_neg e]
     refine ⟨(Act.eval_put_ne _ _ _ _ (((hO.ms2 n hn m hm).2.1 (fun q => e q.symm)).1)).trans x1, x2, x3.below ((Below.refl _ _).alloc (Nat.le_refl _) _), by rw [Array.size_setIfInBounds]; omega, fun f he hj hl2 => ?_⟩
     rw [getD_lit hi] at hl2
     exact x5 f he hj (hl2.resolve_left ((hO.ins f he n hn).1))
 · rw [getD_lit hi] at h1 h2
   by_cases e1 : m.mo = n.mo
   · by_cases e2 : m2.mo = n.mo
     · exact absurd (e1.trans e2.symm) hne
     · have := (h.made m2 hm2 (h2.resolve_left e2)).2.2.1.lt
       simp only [if_pos e1, if_neg e2]
       omega
   · have l1 := (h.made m hm (h1.resolve_left e1)).2.2.1.lt
     by_cases e2 : m2.mo = n.mo
     · simp only [if_pos e2, if_neg e1]
       omega
     · simp only [if_neg e1, if_neg e2]
       exact h.apart m hm m2 hm2 hne (h1.resolve_left e1) (h2.resolve_left e2)
 · rw [getD_lit hi] at hl
   rcases hl with q | q
   · exact absurd q.symm (hO.mk2 n hn m hm)
   · obtain ⟨x1, x2⟩ := h.moved m hm q
     have e : ¬ m.mo = n.mo := fun e => by
      obtain rfl := (hO.ms2 m hm n hn).2.2 e
      rw [q] at hu2
      cases hu2
     refine ⟨(getD_lit hi).2 (.inr x1), ?_⟩
     simp only [if_neg e]
     exact (Act.eval_put_ne _ _ _ _ ((hO.ms2 n hn m hm).1)).trans x2
theorem LitM.putIn (h : LitM (P := P) (k := k) MS INS F a w listed B0 b D) (hO : LitOk (ops := ops) MS INS a0 sl bi st bs) {f : IRow} (hf : f ∈ INS) {n : MRow} (hn : n ∈ MS) (hj : f.mo = n.mo) (hl0 : listed.getD n.mo false = true) (hi : f.i < listed.size) (hu : listed.getD f.i true = false) {w' : World}
 (hm0 : MapS P k w' (b n.mo) (((D n.mo).map fun s => (s, F s)) ++ [(f.key, F f.key)])) (hb : ∀ c, c ≠ b n.mo → c < w.heap.size → w'.heap[c]? = w.heap[c]?) :
 LitM (P := P) (k := k) MS INS F a w' (listed.setIfInBounds f.i true) B0 b (fun j => if j = n.mo then D j ++ [f.key] else D j) := by
 have hnl := nleft_step hi hu
 refine ⟨fun m hm hl => ?_, fun m hm m2 hm2 hne h1 h2 => ?_, fun m hm hl => ?_⟩
 · rw [getD_lit hi] at hl
   obtain ⟨x1, x2, x3, x4, x5⟩ := h.made m hm (hl.resolve_left (fun q => (hO.ins f hf m hm).1 q.symm))
   by_cases e : m.mo = n.mo
   · simp only [if_pos e]
     refine ⟨x1, x2, ?_, by rw [Array.size_setIfInBounds, List.length_append]; simp only [List.length_cons, List.length_nil]; omega, fun g he hg hl2 => ?_⟩
     · rw [e, List.map_append]
       exact hm0
     · rw [getD_lit hi] at hl2
       rcases hl2 with q | q
       · rw [(hO.ins2 g he f hf q).2]
         simp
       · exact List.mem_append_left _ (x5 g he hg q)
   · simp only [if_neg e]
     refine ⟨x1, x2, ?_, by rw [Array.size_setIfInBounds]; omega, fun g he hg hl2 => ?_⟩
     · have hlt := x3.lt
       have hne := h.apart m hm n hn e (hl.resolve_left (fun q => (hO.ins f hf m hm).1 q.symm)) hl0
       obtain ⟨es, clock, hh, G, hs, hD⟩ := x3
       exact ⟨es, clock, (hb _ hne hlt).trans hh, G, hs, hD⟩
     · rw [getD_lit hi] at hl2
       rcases hl2 with q | q
       · exact absurd (hg.symm.trans ((hO.ins2 g he f hf q).1.trans hj)) e
       · exact x5 g he hg q
 · rw [getD_lit hi] at h1 h2
   exact h.apart m hm m2 hm2 hne (h1.resolve_left (fun q => (hO.ins f hf m hm).1 q.symm)) (h2.resolve_left (fun q => (hO.ins f hf m2 hm2).1 q.symm))
 · rw [getD_lit hi] at hl
   obtain ⟨x1, x2⟩ := h.moved m hm (hl.resolve_left (fun q => (hO.ins f hf m hm).2.1 q.symm))
   exact ⟨(getD_lit hi).2 (.inr x1), x2⟩
theorem LitM.hand (h : LitM (P := P) (k := k) MS INS F a w listed B0 b D) (hO : LitOk (ops := ops) MS INS a0 sl bi st bs) (hF : FrOk a0 a sl) {n : MRow} (hn : n ∈ MS) (hl0 : listed.getD n.mo false = true) (hi : n.mv < listed.size) (hu : listed.getD n.mv true = false) (hv2 : ∀ m ∈ MS, m.mv = n.mv → m = n) :
 LitM (P := P) (k := k) MS INS F (a.put (some n.vs) (.map (some (b n.mo)))) w (listed.setIfInBounds n.mv true) B0 b D := by
 have hnl := nleft_step hi hu
 have hsz : n.vs < a.tmps.size := by rw [hF.sz]; exact hO.len _ (hO.ms n hn).2.1
 refine ⟨fun m hm hl => ?_, fun m hm m2 hm2 hne h1 h2 => ?_, fun m hm hl => ?_⟩
 · rw [getD_lit hi] at hl
   obtain ⟨x1, x2, x3, x4, x5⟩ := h.made m hm (hl.resolve_left (hO.mk2 m hm n hn))
   refine ⟨(Act.eval_put_ne _ _ _ _ (fun q => (hO.ms2 m hm n hn).1 q.symm)).trans x1, x2, x3, by rw [Array.size_setIfInBounds]; omega, fun g he hg hl2 => ?_⟩
   rw [getD_lit hi] at hl2
   exact x5 g he hg (hl2.resolve_left (hO.ins g he n hn).2.1)
 · rw [getD_lit hi] at h1 h2
   exact h.apart m hm m2 hm2 hne (h1.resolve_left (hO.mk2 m hm n hn)) (h2.resolve_left (hO.mk2 m2 hm2 n hn))
 · rw [getD_lit hi] at hl
   by_cases e : m = n
   · subst e
     exact ⟨(getD_lit hi).2 (.inr hl0), Act.eval_put_same _ _ _ hsz⟩
   · obtain ⟨x1, x2⟩ := h.moved m hm (hl.resolve_left fun q => e (hv2 m hm q))
     have hne : n.mo ≠ m.mo := fun q => e ((hO.ms2 m hm n hn).2.2 q.symm)
     exact ⟨(getD_lit hi).2 (.inr x1), (Act.eval_put_ne _ _ _ _ (((hO.ms2 n hn m hm).2.1 hne).2)).trans x2⟩
end
end
section
variable {P : Program} {Q : Exit → Act → World → Prop} {K : Act → World → Prop} {o : Oper} {a : Act} {w : World}
theorem wp_make (t : TypeId) (ho : o.op = .makeMap t none) (h : K (a.put o.dst (.map (some w.heap.size))) (w.alloc (.map #[] 0))) : o.wp P a w K Q := by
 have hrun := run_makeMap (P := P) t w
 unfold Oper.wp
 simp [execOp, ho, hrun, Result.andThen]
 exact h
theorem wp_insert (t : TypeId) (m x v : Operand) (ho : o.op = .insert t m x v) (hd : o.dst = none) {w' : World} (hrun : (Instr.mapUpdate t (a.eval m) (a.eval x) (a.eval v)).run P w = .ok () w') (h : K a w') : o.wp P a w K Q := by
 unfold Oper.wp
 simp [execOp, ho, hrun, Result.andThen]
 show K (a.put o.dst undef) w'
 rw [hd]
 exact h
theorem wp_move (x : Operand) (ho : o.op = .move x) (h : K (a.put o.dst (a.eval x)) w) : o.wp P a w K Q := by
 unfold Oper.wp
 simp [execOp, ho]
 exact h
end
def Waits (ops : Array Oper) (md : Region.Mode) (i j : Nat) : Prop := (ops[i]?.map fun o => o.after.any fun e => Region.binds md e && e.on == j) = some true
theorem Waits.on {ops : Array Oper} {md : Region.Mode} {listed : Array Bool} {i j : Nat} (h : Waits ops md i j) (hi : i ∈ Region.ready md ops listed) : listed.getD j false = true := by
 obtain ⟨_, o, ho, hd⟩ := mem_ready.1 hi
 unfold Waits at h
 rw [ho, Option.map_some, Option.some.injEq, Array.any_eq_true] at h
 obtain ⟨k, hk, he⟩ := h
 rw [Bool.and_eq_true, beq_iff_eq] at he
 rw [← he.2]
 exact hd _ (Array.getElem_mem hk) he.1
theorem getD_ft {listed : Array Bool} {i : Nat} (hi : i < listed.size) (b c : Bool) : listed.getD i b = listed.getD i c := by
 rw [Array.getD_eq_getD_getElem?, Array.getD_eq_getD_getElem?, Array.getElem?_eq_getElem hi]
 rfl
theorem ready_all {ops : Array Oper} {md : Region.Mode} {listed : Array Bool} (hs : listed.size = ops.size) (ht : (ops.toList.zipIdx.all fun p => p.1.after.all fun e => decide (e.on < p.2)) = true) (hr : Region.ready md ops listed = []) : ∀ n i, i < n → i < ops.size → listed.getD i false = true := by
 intro n
 induction n with
 | zero => intro i h; omega
 | succ n ih =>
  intro i hi hlt
  cases hl : listed.getD i false with
  | true => rfl
  | false =>
   have ho : ops[i]? = some (ops[i]'hlt) := Array.getElem?_eq_getElem hlt
   have hm : i ∈ Region.ready md ops listed := mem_ready.2 ⟨by rw [getD_ft (by omega) true false]; exact hl, _, ho, fun e he _ => by
    have h1 := List.all_eq_true.1 ht (ops[i]'hlt, i) (by
     rw [List.mem_zipIdx_iff_getElem?]
     simp only [Array.getElem?_toList]
     exact ho)
    rw [Array.all_eq_true_iff_forall_mem] at h1
    have h2 := of_decide_eq_true (h1 e he)
    exact ih e.on (by simp only at h2; omega) (by simp only at h2; omega)⟩
   rw [hr] at hm
   cases hm
section
variable {P : Program} {k : TypeId} {ops : Array Oper} {md : Region.Mode} {MS : List MRow} {INS : List IRow} {F : ByteArray → Value} {Q : Exit → Act → World → Prop} {listed0 : Array Bool} {a0 : Act} {W w0 : World} {sl : List Nat} {bi st bs c : Nat} {zs : List Value} {T : TypeId} {EV : (Nat → Nat) → Value} {CV : (Nat → Nat) → List Value}
structure LitI (P : Program) (k : TypeId) (MS : List MRow) (INS : List IRow) (F : ByteArray → Value) (listed0 : Array Bool) (a0 : Act) (W : World) (sl : List Nat) (bi st bs c : Nat) (zs : List Value) (T : TypeId) (EV : (Nat → Nat) → Value) (CV : (Nat → Nat) → List Value) (listed : Array Bool) (a : Act) (w : World) (b : Nat → Nat) (D : Nat → List ByteArray) : Prop where
 szs : listed.size = listed0.size
 fr : FrOk a0 a sl
 mono : ∀ i, listed0.getD i false = true → listed.getD i false = true
 old : Below W.heap.size W w
 ent : ∀ e ∈ INS, listed.getD e.i false = true → listed.getD e.mo false = true
 maps : LitM (P := P) (k := k) MS INS F a w listed W.heap.size b D
 built : listed.getD bi false = true → (∀ m ∈ MS, listed.getD m.mv false = true) ∧ a.eval (.tmp bs) = EV b
 box : (listed.getD st false = false ∧ Blk w c zs T) ∨ (listed.getD st false = true ∧ listed.getD bi false = true ∧ Blk w c (CV b) T)
theorem lit_region {fuel : Nat} (hn : nleft listed0.toList ≤ fuel) (hs0 : listed0.size = ops.size) (hO : LitOk (ops := ops) MS INS a0 sl bi st bs)
 (ht : (ops.toList.zipIdx.all fun p => p.1.after.all fun e => decide (e.on < p.2)) = true)
 (hcov : ∀ i, i < ops.size → listed0.getD i true = false → (∃ m ∈ MS, i = m.mo) ∨ (∃ e ∈ INS, i = e.i) ∨ (∃ m ∈ MS, i = m.mv) ∨ i = bi ∨ i = st)
 (hun : (∀ m ∈ MS, listed0.getD m.mo false = false ∧ listed0.getD m.mv false = false) ∧ (∀ e ∈ INS, listed0.getD e.i false = false) ∧ listed0.getD bi false = false ∧ listed0.getD st false = false)
 (hbig : (∀ m ∈ MS, m.mo < ops.size ∧ m.mv < ops.size) ∧ (∀ e ∈ INS, e.i < ops.size) ∧ bi < ops.size ∧ st < ops.size ∧ bi ≠ st)
 (hmk : ∀ m ∈ MS, ∃ o t, ops[m.mo]? = some o ∧ o.guard = none ∧ o.dst = some m.ms ∧ o.op = .makeMap t none)
 (hin : ∀ e ∈ INS, ∃ o t E, ∃ m ∈ MS, m.mo = e.mo ∧ ops[e.i]? = some o ∧ o.guard = none ∧ o.dst = none ∧ o.op = .insert t (.tmp m.ms) (.const (.string e.key)) (.tmp e.s) ∧ P.underlying t = some (.map k E) ∧ e.s ∉ sl ∧ a0.eval (.tmp e.s) = F e.key ∧ e.key.size ≤ maxLen ∧ Waits ops md e.i e.mo)
 (hmv : ∀ m ∈ MS, ∃ o, ops[m.mv]? = some o ∧ o.guard = none ∧ o.dst = some m.vs ∧ o.op = .move (.tmp m.ms) ∧ Waits ops md m.mv m.mo ∧ ∀ n ∈ MS, n.mv = m.mv → n = m)
 (hbi : ∃ o, ops[bi]? = some o ∧ o.guard = none ∧ (∀ m ∈ MS, Waits ops md bi m.mv) ∧ ∀ (a : Act) (w : World) (b : Nat → Nat) (K : Act → World → Prop), (∀ m ∈ MS, a.eval (.tmp m.vs) = .map (some (b m.mo))) → K (a.put (some bs) (EV b)) w → o.wp P a w K Q)
 (hst : ∃ o, ops[st]? = some o ∧ o.guard = none ∧ Waits ops md st bi ∧ ∀ (a : Act) (w : World) (b : Nat → Nat) (K : Act → World → Prop), FrOk a0 a sl → a.eval (.tmp bs) = EV b → Blk w c zs T → K a (w.setRow c (CV b).toArray) → o.wp P a w K Q)
 (hK : Keyed P k) (hks : P.underlying k = some .string) (hc : W.heap.size ≤ c) (h00 : Below W.heap.size W w0) (hB0 : Blk w0 c zs T)
 (hQ : ∀ (a : Act) (w : World) (b : Nat → Nat) (D : Nat → List ByteArray), FrOk a0 a sl → Below W.heap.size W w → Blk w c (CV b) T → a.eval (.tmp bs) = EV b →
  (∀ m ∈ MS, a.eval (.tmp m.ms) = .map (some (b m.mo)) ∧ a.eval (.tmp m.vs) = .map (some (b m.mo)) ∧ MapS P k w (b m.mo) ((D m.mo).map fun s => (s, F s)) ∧ ∀ e ∈ INS, e.mo = m.mo → e.key ∈ D m.mo) → Q .normal a w) :
 wpAnyH P md ops Q (fun w => Below W.heap.size W w) fuel listed0 a0 w0 := by
 refine wpAnyH_from (I := fun a0 listed a w => ∃ b D, LitI P k MS INS F listed0 a0 W sl bi st bs c zs T EV CV listed a w b D) hn hs0 ?_ ?_ ?_
 · refine ⟨fun _ => 0, fun _ => [], rfl, ⟨rfl, rfl, fun _ _ => rfl⟩, fun _ h => h, h00, fun e he h => ?_, ⟨fun m hm h => ?_, fun m hm n _ _ h => ?_, fun m hm h => ?_⟩, fun h => ?_, .inl ⟨hun.2.2.2, hB0⟩⟩
   · rw [hun.2.1 e he] at h; cases h
   · rw [(hun.1 m hm).1] at h; cases h
   · rw [(hun.1 m hm).1] at h; cases h
   · rw [(hun.1 m hm).2] at h; cases h
   · rw [hun.2.2.1] at h; cases h
 · rintro listed a w i hsz ⟨b, D, hI⟩ hi
   have hu := (mem_ready.1 hi).1
   obtain ⟨-, o', ho', -⟩ := mem_ready.1 hi
   have hlt : i < ops.size := (Array.getElem?_eq_some_iff.1 ho').1
   have hlt2 : i < listed.size := by omega
   have hu2 : listed.getD i false = false := by rw [getD_ft hlt2 false true]; exact hu
   have hu0 : listed0.getD i true = false := by
    rw [getD_ft (by omega) true false]
    cases h : listed0.getD i false with
    | false => rfl
    | true => rw [hI.mono i h] at hu2; cases hu2
   have mono2 : ∀ j, listed0.getD j false = true → (listed.setIfInBounds i true).getD j false = true := fun j h => (getD_lit hlt2).2 (.inr (hI.mono j h))
   have hnb : i ≠ bi → ((listed.setIfInBounds i true).getD bi false = true → listed.getD bi false = true) := fun ne h => ((getD_lit hlt2).1 h).resolve_left fun e => ne e.symm
   have hns : i ≠ st → (listed.setIfInBounds i true).getD st false = listed.getD st false := fun ne => by
    cases h : listed.getD st false with
    | true => exact (getD_lit hlt2).2 (.inr h)
    | false =>
     cases h2 : (listed.setIfInBounds i true).getD st false with
     | false => rfl
     | true => rw [((getD_lit hlt2).1 h2).resolve_left fun e => ne e.symm] at h; cases h
   have szn : (listed.setIfInBounds i true).size = listed0.size := by rw [Array.size_setIfInBounds]; exact hI.szs
   have upB : ∀ j, listed.getD j false = true → (listed.setIfInBounds i true).getD j false = true := fun j h => (getD_lit hlt2).2 (.inr h)
   rcases hcov i hlt hu0 with ⟨m, hm, rfl⟩ | ⟨e, he, rfl⟩ | ⟨m, hm, rfl⟩ | rfl | rfl
   · obtain ⟨o, t, ho, hg, hd, hop⟩ := hmk m hm
     refine wpOp_go ho hg fun K' hK' => wp_make t hop (hK' _ _ ?_)
     rw [hd]
     have hal := hI.old.alloc hI.old.size (.map #[] 0)
     have hmvu : listed.getD m.mv false = false := by
      cases h : listed.getD m.mv false with
      | false => rfl
      | true => rw [(hI.maps.moved m hm h).1] at hu2; cases hu2
     have hentu : ∀ e ∈ INS, e.mo = m.mo → listed.getD e.i false = false := fun e he hj => by
      cases h : listed.getD e.i false with
      | false => rfl
      | true =>
       have := hI.ent e he h
       rw [hj, hu2] at this
       cases this
     refine ⟨hal, _, _, ⟨szn, hI.fr.put (hO.ms m hm).1 _, mono2, hal, fun e he h => ?_, hI.maps.make hO hI.fr hm hlt2 hu hmvu hI.old.size hentu, fun h => ?_, ?_⟩⟩
     · exact upB _ (hI.ent e he (((getD_lit hlt2).1 h).resolve_left ((hO.ins e he m hm).1)))
     · have hb := hnb (hO.op m hm).1 h
       have := (hI.built hb).1 m hm
       rw [hmvu] at this
       cases this
     · rcases hI.box with ⟨h1, h2⟩ | ⟨h1, h2, h3⟩
       · exact .inl ⟨by rw [hns (hO.op m hm).2.1]; exact h1, h2.alloc _⟩
       · have := (hI.built h2).1 m hm
         rw [hmvu] at this
         cases this
   · obtain ⟨o, t, E, m, hm, hmo, ho, hg, hd, hop, hu1, hsl, hev, hsz, hwt⟩ := hin e he
     have hl0 : listed.getD m.mo false = true := by rw [hmo]; exact hwt.on hi
     obtain ⟨x1, x2, x3, x4, x5⟩ := hI.maps.made m hm hl0
     obtain ⟨w', r1, r2, r3⟩ := x3.add hK hks hu1 (hI.maps.lens hm hl0 (by have := hO.few; omega)) e.key hsz (F e.key)
     refine wpOp_go ho hg fun K' hK' => wp_insert t _ _ _ hop hd (w' := w') ?_ (hK' _ _ ?_)
     · rw [x1, (hI.fr.ev _ hsl).trans hev]
       exact r1
     have hold : Below W.heap.size W w' := hI.old.grown r3 hI.old.size (fun j hj => by cases hj; exact x2)
     refine ⟨hold, _, _, ⟨szn, hI.fr, mono2, hold, fun f hf h => ?_, hI.maps.putIn hO he hm hmo.symm hl0 hlt2 hu r2 (fun q hq hlq => r3.block q hlq (fun e => hq (by injection e))), fun h => ?_, ?_⟩⟩
     · rcases (getD_lit hlt2).1 h with q | q
       · rw [(hO.ins2 f hf e he q).1]
         exact upB _ (hwt.on hi)
       · exact upB _ (hI.ent f hf q)
     · obtain ⟨y1, y2⟩ := hI.built (hnb (hO.ins e he m hm).2.2.1 h)
       exact ⟨fun n hn => upB _ (y1 n hn), y2⟩
     · have hB : ∀ vs, Blk w c vs T → Blk w' c vs T := fun vs hb => hb.grown r3 (fun j hj q => by cases hj; exact x3.ne hb q.symm)
       rcases hI.box with ⟨h1, h2⟩ | ⟨h1, h2, h3⟩
       · exact .inl ⟨by rw [hns (hO.ins e he m hm).2.2.2]; exact h1, hB _ h2⟩
       · exact .inr ⟨by rw [hns (hO.ins e he m hm).2.2.2]; exact h1, upB _ h2, hB _ h3⟩
   · obtain ⟨o, ho, hg, hd, hop, hwt, huq⟩ := hmv m hm
     have hl0 : listed.getD m.mo false = true := hwt.on hi
     have x1 := (hI.maps.made m hm hl0).1
     refine wpOp_go ho hg fun K' hK' => wp_move (.tmp m.ms) hop (hK' _ _ ?_)
     rw [hd, x1]
     refine ⟨hI.old, _, _, ⟨szn, hI.fr.put (hO.ms m hm).2.1 _, mono2, hI.old, fun e he h => ?_, hI.maps.hand hO hI.fr hm hl0 hlt2 hu huq, fun h => ?_, ?_⟩⟩
     · exact upB _ (hI.ent e he (((getD_lit hlt2).1 h).resolve_left (hO.ins e he m hm).2.1))
     · have hb := hnb (hO.op m hm).2.2.1 h
       have := (hI.built hb).1 m hm
       rw [hu2] at this
       cases this
     · rcases hI.box with ⟨h1, h2⟩ | ⟨h1, h2, h3⟩
       · exact .inl ⟨by rw [hns (hO.op m hm).2.2.2]; exact h1, h2⟩
       · exact .inr ⟨by rw [hns (hO.op m hm).2.2.2]; exact h1, upB _ h2, h3⟩
   · obtain ⟨o, ho, hg, hwt, hwp⟩ := hbi
     have hall : ∀ m ∈ MS, listed.getD m.mv false = true := fun m hm => (hwt m hm).on hi
     refine wpOp_go ho hg fun K' hK' => hwp _ _ b _ (fun m hm => (hI.maps.moved m hm (hall m hm)).2) (hK' _ _ ?_)
     refine ⟨hI.old, _, _, ⟨szn, hI.fr.put hO.bsl _, mono2, hI.old, fun e he h => ?_, hI.maps.other hlt2 hu (fun e he q => ?_) (fun m hm => ⟨(hO.op m hm).1, (hO.op m hm).2.2.1⟩) (fun m hm => ⟨Act.eval_put_ne _ _ _ _ (fun q => (hO.ms m hm).2.2.1 q.symm), Act.eval_put_ne _ _ _ _ (fun q => (hO.ms m hm).2.2.2 q.symm)⟩) (fun _ _ q => q), fun _ => ⟨fun m hm => upB _ (hall m hm), Act.eval_put_same _ _ _ (by rw [hI.fr.sz]; exact hO.len _ hO.bsl)⟩, ?_⟩⟩
     · obtain ⟨m, hm, hmo⟩ := hO.insm e he
       exact upB _ (hI.ent e he (((getD_lit hlt2).1 h).resolve_left (hO.ins e he m hm).2.2.1))
     · obtain ⟨m, hm, hmo⟩ := hO.insm e he
       exact (hO.ins e he m hm).2.2.1 q
     · rcases hI.box with ⟨h1, h2⟩ | ⟨h1, h2, h3⟩
       · exact .inl ⟨by rw [hns hbig.2.2.2.2]; exact h1, h2⟩
       · rw [h2] at hu2; cases hu2
   · obtain ⟨o, ho, hg, hwt, hwp⟩ := hst
     have hlb := hwt.on hi
     have hB : Blk w c zs T := by
      rcases hI.box with ⟨h1, h2⟩ | ⟨h1, h2, h3⟩
      · exact h2
      · rw [h1] at hu2; cases hu2
     obtain ⟨y1, y2⟩ := hI.built hlb
     refine wpOp_go ho hg fun K' hK' => hwp _ _ b _ hI.fr y2 hB (hK' _ _ ?_)
     have hold : Below W.heap.size W (w.setRow c (CV b).toArray) := below_setRow hI.old hc _
     refine ⟨hold, _, _, ⟨szn, hI.fr, mono2, hold, fun e he h => ?_, hI.maps.other hlt2 hu (fun e he q => ?_) (fun m hm => ⟨(hO.op m hm).2.1, (hO.op m hm).2.2.2⟩) (fun m hm => ⟨rfl, rfl⟩) (fun d l q => ?_), fun _ => ⟨fun m hm => upB _ (y1 m hm), y2⟩, .inr ⟨(getD_lit hlt2).2 (.inl rfl), upB _ hlb, hB.put _⟩⟩⟩
     · obtain ⟨m, hm, hmo⟩ := hO.insm e he
       exact upB _ (hI.ent e he (((getD_lit hlt2).1 h).resolve_left (hO.ins e he m hm).2.2.2))
     · obtain ⟨m, hm, hmo⟩ := hO.insm e he
       exact (hO.ins e he m hm).2.2.2 q
     · have hne := q.ne hB
       obtain ⟨es, clock, hh, G, hs, hD⟩ := q
       exact ⟨es, clock, (setRow_other w c _ hne).trans hh, G, hs, hD⟩
 · rintro listed a w ⟨b, D, hI⟩ hr
   have hsz : listed.size = ops.size := hI.szs.trans hs0
   have hall := ready_all hsz ht hr
   have hA : ∀ i, i < ops.size → listed.getD i false = true := fun i h => hall (i + 1) i (by omega) h
   obtain ⟨y1, y2⟩ := hI.built (hA _ hbig.2.2.1)
   refine hQ a w b D hI.fr hI.old ?_ y2 fun m hm => ?_
   · rcases hI.box with ⟨h1, h2⟩ | ⟨h1, h2, h3⟩
     · rw [hA _ hbig.2.2.2.1] at h1; cases h1
     · exact h3
   · obtain ⟨x1, x2, x3, x4, x5⟩ := hI.maps.made m hm (hA _ (hbig.1 m hm).1)
     exact ⟨x1, (hI.maps.moved m hm (hA _ (hbig.1 m hm).2)).2, x3, fun e he hj => x5 e he hj (hA _ (hbig.2.1 e he))⟩
end
def putsG (a : Act) (sl : List Nat) (g : Nat → Value) : Act := sl.foldl (fun a s => a.put (some s) (g s)) a
theorem putsG_sz (g : Nat → Value) : ∀ (sl : List Nat) (a : Act), (putsG a sl g).tmps.size = a.tmps.size ∧ (putsG a sl g).defers = a.defers
 | [], _ => ⟨rfl, rfl⟩
 | s :: sl, a => by
  obtain ⟨h1, h2⟩ := putsG_sz g sl (a.put (some s) (g s))
  exact ⟨h1.trans (Act.size_put _ _ _), h2.trans (Act.defers_put' _ _ _)⟩
theorem putsG_ev (g : Nat → Value) (t : Nat) : ∀ (sl : List Nat) (a : Act), t < a.tmps.size → (putsG a sl g).eval (.tmp t) = if t ∈ sl then g t else a.eval (.tmp t)
 | [], _, _ => by simp [putsG]
 | s :: sl, a, h => by
  have ih := putsG_ev g t sl (a.put (some s) (g s)) (by rw [Act.size_put]; exact h)
  show (putsG (a.put (some s) (g s)) sl g).eval (.tmp t) = _
  rw [ih]
  by_cases e : t = s
  · subst e
    rw [Act.eval_put_same _ _ _ h]
    simp
  · rw [Act.eval_put_ne _ _ _ _ (fun q => e q.symm)]
    simp [e]
theorem FrOk.lit {a0 a : Act} {sl : List Nat} (h : FrOk a0 a sl) : a = putsG a0 sl (fun s => a.eval (.tmp s)) := by
 obtain ⟨z1, z2⟩ := putsG_sz (fun s => a.eval (.tmp s)) sl a0
 have ht : a.tmps = (putsG a0 sl (fun s => a.eval (.tmp s))).tmps := by
  refine Array.ext (h.sz.trans z1.symm) fun i h1 h2 => ?_
  have e := putsG_ev (fun s => a.eval (.tmp s)) i sl a0 (by rw [← h.sz]; exact h1)
  have e2 : a.eval (.tmp i) = (putsG a0 sl (fun s => a.eval (.tmp s))).eval (.tmp i) := by
   rw [e]
   by_cases q : i ∈ sl
   · rw [if_pos q]
   · rw [if_neg q, h.ev i q]
  generalize putsG a0 sl (fun s => a.eval (.tmp s)) = A at *
  unfold Act.eval at e2
  simp only [Array.getD_eq_getD_getElem?] at e2
  rw [Array.getElem?_eq_getElem h1, Array.getElem?_eq_getElem h2] at e2
  exact e2
 cases a with
 | mk t d =>
  cases hp : putsG a0 sl (fun s => Act.eval ⟨t, d⟩ (.tmp s)) with
  | mk t2 d2 =>
   rw [hp] at ht z2
   simp only at ht z2
   rw [ht, z2, ← h.df]
section
variable {P : Program} {Q : Exit → Act → World → Prop} {K : Act → World → Prop} {o : Oper} {a : Act} {w : World}
theorem wp_buildv (t : TypeId) (args : Array (Nat × Operand)) (d : Nat) (ho : o.op = .build t args) (hd : o.dst = some d) (v : Value) (hr : ∀ w, Sem.run P (Instr.build t (args.map fun p => (p.1, a.eval p.2))) w = .ok v w) (h : K (a.put (some d) v) w) : o.wp P a w K Q := by
 unfold Oper.wp execOp
 simp only [ho, Sem.run_bind, Sem.run_pure, Result.andThen_ok, hr]
 rw [← hd] at h
 exact h
theorem wp_store_row (t : TypeId) (p x : Operand) (ho : o.op = .store t p x) (hd : o.dst = none) (b : Nat) (hp : a.eval p = .pointer (some ⟨b, 0, none⟩)) {k : Nat} (sz : ∀ w, (Go.sizeOf t).run P w = .ok k w) (vs : List Value) (hx : a.eval x = .agg vs.toArray) (hk : vs.length = k)
 {us : List Value} {s : TypeId} (hB : Blk w b us s) (hl : us.length = k) (h1 : ∀ v ∈ vs, v.oneCell' = true) (h : K a (w.setRow b vs.toArray)) : o.wp P a w K Q := by
 have hst := hB.stores (P := P) (hk.trans hl.symm) h1
 unfold Oper.wp execOp
 simp only [ho, Instr.storeAt, hp, hx, Instr.sureAddr, storeVar, Value.cells, Sem.run_bind, Sem.run_pure, Result.andThen_ok, sz]
 simp [hk, hst, Result.andThen]
 show K (a.put o.dst undef) _
 rw [hd]
 exact h
end
end

end Go.Proofs.YtnjcdmjaecgblaaGreatDoor
