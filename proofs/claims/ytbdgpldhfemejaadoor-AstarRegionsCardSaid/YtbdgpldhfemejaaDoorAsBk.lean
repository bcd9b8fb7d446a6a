/-
  Cells in buckets by their costs: the search of what landed. No program is named here.
-/
import Derived.Test.YtbdgpldhfemejaaDoorAsGr
namespace Go.Proofs.YtbdgpldhfemejaaDoor
open Go.RowKit Go.Lib

/-- A cell put into the bucket of a cost; buckets that are not there yet are made. -/
def padB (L : List (List Nat)) (v : Nat) : List (List Nat) := L ++ List.replicate (v + 1 - L.length) []
def putB (L : List (List Nat)) (i v : Nat) : List (List Nat) := L.set v (L.getD v [] ++ [i])
def addB (L : List (List Nat)) (i v : Nat) : List (List Nat) := putB (padB L v) i v
def relaxB (k : Nat) (S : List Int × List (List Nat)) (x : Nat × Int) : List Int × List (List Nat) :=
  if ga S.1 x.1 < 0 ∨ ga S.1 k + x.2 < ga S.1 x.1 then (S.1.set x.1 (ga S.1 k + x.2), addB S.2 x.1 (ga S.1 k + x.2).toNat) else S
def bk (L : List (List Nat)) (i : Nat) : List Nat := L.getD i []
/-- How many cells lie in the buckets from c on. -/
def tot (L : List (List Nat)) (c : Nat) : Nat := ((L.drop c).map List.length).sum

theorem padB_len (L : List (List Nat)) (v : Nat) : (padB L v).length = max L.length (v + 1) := by
  unfold padB; rw [List.length_append, List.length_replicate]; omega
theorem padB_lt (L : List (List Nat)) (v : Nat) : v < (padB L v).length := by rw [padB_len]; omega
theorem padB_bk (L : List (List Nat)) (v i : Nat) : bk (padB L v) i = bk L i := by
  unfold bk padB
  rw [List.getD_eq_getElem?_getD, List.getD_eq_getElem?_getD, List.getElem?_append]
  split
  · rfl
  · rw [List.getElem?_replicate, List.getElem?_eq_none (by omega)]; split <;> rfl
theorem putB_len (L : List (List Nat)) (i v : Nat) : (putB L i v).length = L.length := by unfold putB; rw [List.length_set]
theorem putB_bk (L : List (List Nat)) (i v j : Nat) (hv : v < L.length) : bk (putB L i v) j = if j = v then bk L v ++ [i] else bk L j := by
  unfold bk putB
  rw [List.getD_eq_getElem?_getD, List.getElem?_set]
  by_cases e : j = v
  · rw [if_pos e, if_pos e.symm, if_pos hv]; rfl
  · rw [if_neg e, if_neg (fun h => e h.symm), ← List.getD_eq_getElem?_getD]
theorem addB_len (L : List (List Nat)) (i v : Nat) : (addB L i v).length = max L.length (v + 1) := by unfold addB; rw [putB_len, padB_len]
theorem addB_bk (L : List (List Nat)) (i v j : Nat) : bk (addB L i v) j = if j = v then bk L v ++ [i] else bk L j := by
  unfold addB
  rw [putB_bk _ _ _ _ (padB_lt L v), padB_bk, padB_bk]
theorem tot_pad (L : List (List Nat)) (v c : Nat) : tot (padB L v) c = tot L c := by
  unfold tot padB
  rw [List.drop_append, List.map_append, List.sum_append, List.drop_replicate, List.map_replicate]
  simp
theorem tot_put : ∀ (L : List (List Nat)) (i v c : Nat), c ≤ v → v < L.length → tot (putB L i v) c = tot L c + 1
  | [], _, _, _, _, h => by simp at h
  | x :: L, i, 0, 0, _, _ => by
    show ((x ++ [i]).length :: L.map List.length).sum = (x.length :: L.map List.length).sum + 1
    rw [List.sum_cons, List.sum_cons, List.length_append]
    simp only [List.length_cons, List.length_nil]
    omega
  | x :: L, i, v + 1, 0, _, h => by
    have ih := tot_put L i v 0 (Nat.zero_le _) (by simpa using h)
    show (x.length :: (putB L i v).map List.length).sum = (x.length :: L.map List.length).sum + 1
    rw [List.sum_cons, List.sum_cons]
    have e1 : ((putB L i v).map List.length).sum = tot (putB L i v) 0 := rfl
    have e2 : (L.map List.length).sum = tot L 0 := rfl
    rw [e1, e2, ih]; omega
  | x :: L, i, v + 1, c + 1, hc, h => tot_put L i v c (by omega) (by simpa using h)
theorem tot_add (L : List (List Nat)) (i v c : Nat) (h : c ≤ v) : tot (addB L i v) c = tot L c + 1 := by
  unfold addB
  rw [tot_put _ _ _ _ h (padB_lt L v), tot_pad]
theorem tot_next (L : List (List Nat)) (c : Nat) : tot L c = (bk L c).length + tot L (c + 1) := by
  unfold tot bk
  by_cases h : c < L.length
  · rw [List.drop_eq_getElem_cons h, List.map_cons, List.sum_cons, List.getD_eq_getElem?_getD, List.getElem?_eq_getElem h]; rfl
  · rw [List.drop_eq_nil_of_le (by omega), List.drop_eq_nil_of_le (by omega), List.getD_eq_getElem?_getD, List.getElem?_eq_none (by omega)]; rfl
theorem tot_end (L : List (List Nat)) (c : Nat) (h : L.length ≤ c) : tot L c = 0 := by
  unfold tot; rw [List.drop_eq_nil_of_le h]; rfl

section
variable {nb : Nb} {n a : Nat}
/-- What the search has come to: at the cost c, with the cells R of its bucket still to be examined; k: the cell that is being examined. -/
structure Bkt (nb : Nb) (n a : Nat) (D : List Int) (L : List (List Nat)) (c : Nat) (R : List Nat) (pend : Nat → Prop) : Prop where
  base : Base nb n a D c
  early : ∀ q, 0 ≤ ga D q → ga D q < c → Rel nb D q
  now : ∀ q, ga D q = c → Rel nb D q ∨ q ∈ R ∨ pend q
  late : ∀ q, (c : Int) < ga D q → q ∈ bk L (ga D q).toNat
  okR : ∀ q, q ∈ R → q < n
  okL : ∀ i, c < i → ∀ q, q ∈ bk L i → q < n ∧ 0 ≤ ga D q ∧ ga D q ≤ i
  nd : ∀ i, c < i → (bk L i).Nodup
  lenL : L.length ≤ 19 * n + 1
theorem bk_lt {L : List (List Nat)} {i q : Nat} (h : q ∈ bk L i) : i < L.length := by
  apply Classical.byContradiction
  intro hn
  unfold bk at h
  rw [List.getD_eq_getElem?_getD, List.getElem?_eq_none (by omega)] at h
  simp at h
theorem Bkt.small {D : List Int} {L : List (List Nat)} {c : Nat} {R : List Nat} {pe : Nat → Prop} (h : Bkt nb n a D L c R pe) {i : Nat} (hi : c < i) : (bk L i).length ≤ n :=
  nodup_lt (h.nd i hi) (fun q hq => (h.okL i hi q hq).1)
theorem sum_le (l : List Nat) (b : Nat) (h : ∀ x ∈ l, x ≤ b) : l.sum ≤ l.length * b := by
  induction l with
  | nil => simp
  | cons x l ih =>
    have h1 := h x List.mem_cons_self
    have h2 := ih (fun y hy => h y (List.mem_cons_of_mem _ hy))
    rw [List.sum_cons, List.length_cons, Nat.succ_mul]
    omega
theorem Bkt.total {D : List Int} {L : List (List Nat)} {c : Nat} {R : List Nat} {pe : Nat → Prop} (h : Bkt nb n a D L c R pe) : tot L (c + 1) ≤ (19 * n + 1) * n := by
  unfold tot
  refine Nat.le_trans (sum_le _ n fun x hx => ?_) (Nat.mul_le_mul_right n ?_)
  · obtain ⟨l, hl, rfl⟩ := List.mem_map.1 hx
    obtain ⟨j, hj, e⟩ := List.mem_iff_getElem.1 hl
    rw [List.getElem_drop] at e
    have := h.small (i := c + 1 + j) (by omega)
    unfold bk at this
    rw [List.length_drop] at hj
    rw [List.getD_eq_getElem?_getD, List.getElem?_eq_getElem (by omega), e] at this
    exact this
  · rw [List.length_map, List.length_drop]; have := h.lenL; omega
/-- A cell of the bucket is taken out: it is examined, or its cost is another one by now. -/
theorem Bkt.skip {D : List Int} {L : List (List Nat)} {c k : Nat} {R : List Nat} (h : Bkt nb n a D L c (k :: R) (fun _ => False)) (hk : ga D k ≠ c) : Bkt nb n a D L c R (fun _ => False) :=
  ⟨h.base, h.early, fun q hq => by
    rcases h.now q hq with e | e | e
    · exact .inl e
    · rcases List.mem_cons.1 e with rfl | e
      · exact absurd hq hk
      · exact .inr (.inl e)
    · exact e.elim, h.late, fun q hq => h.okR q (List.mem_cons_of_mem _ hq), h.okL, h.nd, h.lenL⟩
theorem Bkt.take {D : List Int} {L : List (List Nat)} {c k : Nat} {R : List Nat} (h : Bkt nb n a D L c (k :: R) (fun _ => False)) (hk : ga D k = c) :
    Bkt nb n a D L c R (fun q => q = k) ∧ Mid nb n a k c D [] :=
  ⟨⟨h.base, h.early, fun q hq => by
    rcases h.now q hq with e | e | e
    · exact .inl e
    · rcases List.mem_cons.1 e with rfl | e
      · exact .inr (.inr rfl)
      · exact .inr (.inl e)
    · exact e.elim, h.late, fun q hq => h.okR q (List.mem_cons_of_mem _ hq), h.okL, h.nd, h.lenL⟩, h.base, hk, by omega, fun _ _ m => by simp at m⟩
theorem relaxB_fst (k : Nat) (S : List Int × List (List Nat)) (x : Nat × Int) : (relaxB k S x).1 = relax1 k S.1 x := by
  unfold relaxB relax1; split <;> rfl
theorem Bkt.step {D : List Int} {L : List (List Nat)} {c k r : Nat} {w : Int} {R : List Nat} {pre : List (Nat × Int)} (ok : GOk nb n) (ha : a < n) (h : Bkt nb n a D L c R (fun q => q = k)) (hm : Mid nb n a k c D pre) (m : (r, w) ∈ nb k) :
    Bkt nb n a (relaxB k (D, L) (r, w)).1 (relaxB k (D, L) (r, w)).2 c R (fun q => q = k) ∧ Mid nb n a k c (relaxB k (D, L) (r, w)).1 (pre ++ [(r, w)]) := by
  obtain ⟨hm2, hc⟩ := hm.step ok m
  have hw := ok.pos _ _ _ m
  have hrn := (ok.lt _ _ _ m).2
  have hr : r < D.length := by rw [h.base.len]; exact hrn
  have hat := hm.at_
  rw [relaxB_fst]
  refine ⟨?_, hm2⟩
  have hb := hm2.base.bound ok ha
  by_cases hcd : ga D r < 0 ∨ (c : Int) + w < ga D r
  · have e1 : relax1 k D (r, w) = D.set r (c + w) := by unfold relax1; dsimp only; rw [hat, if_pos hcd]
    have e2 : (relaxB k (D, L) (r, w)).2 = addB L r ((c : Int) + w).toNat := by unfold relaxB; dsimp only; rw [hat, if_pos hcd]
    obtain ⟨v, hv⟩ : ∃ v : Nat, v = ((c : Int) + w).toNat := ⟨_, rfl⟩
    have hvc : (v : Int) = c + w := by omega
    rw [e2, ← hv]
    rw [e1, ← hvc] at hm2 hc hb ⊢
    have hg : ∀ q, ga (D.set r v) q = if q = r then (v : Int) else ga D q := fun q => ga_set D r q _ hr
    have hb' := hb r
    rw [hg, if_pos rfl] at hb'
    have keep : ∀ q, ga (D.set r v) q ≤ c → ga (D.set r v) q = ga D q := fun q hq => by
      rw [hg] at hq ⊢; by_cases e : q = r
      · rw [if_pos e] at hq; omega
      · rw [if_neg e]
    refine ⟨hm2.base, fun q h0 hq => ?_, fun q hq => ?_, fun q hq => ?_, h.okR, fun i hi q hq => ?_, fun i hi => ?_, ?_⟩
    · have e := keep q (by omega)
      rw [e] at h0 hq
      exact (h.early q h0 hq).keep hc (by omega) h0 (by omega)
    · have e := keep q (by omega)
      rw [e] at hq
      rcases h.now q hq with h1 | h1
      · exact .inl (h1.keep hc (by omega) (by omega) (by omega))
      · exact .inr h1
    · rw [hg] at hq ⊢
      rw [addB_bk]
      by_cases e : q = r
      · rw [if_pos e, Int.toNat_natCast, if_pos rfl, e]; simp
      · rw [if_neg e] at hq ⊢
        have := h.late q hq
        split
        · next e3 => rw [← e3]; exact List.mem_append_left _ this
        · exact this
    · rw [addB_bk] at hq
      have hold : q ∈ bk L i → q < n ∧ 0 ≤ ga (D.set r v) q ∧ ga (D.set r v) q ≤ i := fun hq => by
        obtain ⟨y1, y2, y3⟩ := h.okL i hi q hq
        refine ⟨y1, ?_⟩
        rw [hg]
        by_cases e : q = r
        · rw [e] at y2 y3
          rw [if_pos e]; omega
        · rw [if_neg e]; exact ⟨y2, y3⟩
      by_cases e : i = v
      · rw [if_pos e, List.mem_append, List.mem_singleton] at hq
        rcases hq with hq | rfl
        · exact hold (by rw [e]; exact hq)
        · rw [hg, if_pos rfl, e]; exact ⟨hrn, by omega, Int.le_refl _⟩
      · rw [if_neg e] at hq; exact hold hq
    · rw [addB_bk]
      by_cases e : i = v
      · rw [if_pos e]
        have hnr : r ∉ bk L v := fun hin => by
          obtain ⟨_, y2, y3⟩ := h.okL v (by omega) r hin
          omega
        refine List.nodup_append.2 ⟨h.nd v (by omega), by simp, fun x hx y hy => ?_⟩
        rw [List.mem_singleton] at hy
        rw [hy]
        exact fun e' => hnr (e' ▸ hx)
      · rw [if_neg e]; exact h.nd i hi
    · rw [addB_len]
      have := h.lenL
      omega
  · have e1 : relax1 k D (r, w) = D := by unfold relax1; dsimp only; rw [hat, if_neg hcd]
    have e2 : (relaxB k (D, L) (r, w)).2 = L := by unfold relaxB; dsimp only; rw [hat, if_neg hcd]
    rw [e1, e2]
    exact h
theorem Bkt.close {D : List Int} {L : List (List Nat)} {c k : Nat} {R : List Nat} (h : Bkt nb n a D L c R (fun q => q = k)) (hm : Mid nb n a k c D (nb k)) : Bkt nb n a D L c R (fun _ => False) :=
  ⟨h.base, h.early, fun q hq => by
    rcases h.now q hq with e | e | e
    · exact .inl e
    · exact .inr (.inl e)
    · rw [e]; exact .inl (fun r w m => by rw [hm.at_]; exact hm.done r w m), h.late, h.okR, h.okL, h.nd, h.lenL⟩
theorem Bkt.next {D : List Int} {L : List (List Nat)} {c : Nat} (h : Bkt nb n a D L c [] (fun _ => False)) : Bkt nb n a D L (c + 1) (bk L (c + 1)) (fun _ => False) :=
  ⟨h.base.mono (by omega), fun q h0 hq => by
    by_cases e : ga D q = c
    · rcases h.now q e with e | e | e
      · exact e
      · simp at e
      · exact e.elim
    · exact h.early q h0 (by omega), fun q hq => by
      have := h.late q (by omega)
      rw [show (ga D q).toNat = c + 1 by omega] at this
      exact .inr (.inl this), fun q hq => h.late q (by omega), fun q hq => (h.okL (c + 1) (by omega) q hq).1, fun i hi => h.okL i (by omega), fun i hi => h.nd i (by omega), h.lenL⟩
theorem Bkt.over {D : List Int} {L : List (List Nat)} {c : Nat} (h : Bkt nb n a D L c [] (fun _ => False)) (hL : L.length ≤ c + 1) : IsDist nb n a D := by
  refine h.base.fix fun q h0 => ?_
  by_cases hq : ga D q < c
  · exact h.early q h0 hq
  · by_cases e : ga D q = c
    · rcases h.now q e with e | e | e
      · exact e
      · simp at e
      · exact e.elim
    · have := bk_lt (h.late q (by omega)); omega
/-- How the search begins: the cell alone, in the first bucket. -/
theorem Bkt.start (ha : a < n) : Bkt nb n a ((List.replicate n (-1)).set a 0) [[a]] 0 [a] (fun _ => False) := by
  refine ⟨Base.start ha, fun q _ _ => by omega, fun q hq => ?_, fun q hq => ?_, fun q hq => ?_, fun i hi q hq => ?_, fun i hi => ?_, ?_⟩
  · rw [start_ga ha] at hq
    by_cases e : q = a
    · rw [e]; simp
    · rw [if_neg e] at hq; omega
  · rw [start_ga ha] at hq
    split at hq <;> omega
  · rw [List.mem_singleton.1 hq]; exact ha
  · have := bk_lt hq
    simp at this
    omega
  · unfold bk
    rw [List.getD_eq_getElem?_getD, List.getElem?_eq_none (by simp; omega)]; simp
  · simp
end

end Go.Proofs.YtbdgpldhfemejaaDoor
