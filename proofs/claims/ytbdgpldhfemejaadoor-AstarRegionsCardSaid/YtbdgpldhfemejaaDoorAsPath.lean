/-
  The way of least directions; regions and how they are filled. No program is named here.
-/
import Derived.Test.YtbdgpldhfemejaaDoorAsGr
namespace Go.Proofs.YtbdgpldhfemejaaDoor
open Go.RowKit Go.Lib

/-- The next cell of the way that is left: the first in which the rest has the least cost. -/
def nextG (nb : Nb) (l : List Int) (p : Nat) : Option (Nat × Int) := (nb p).find? fun x => decide (x.2 + ga l x.1 = ga l p)
def descG (nb : Nb) (l : List Int) : Nat → Nat → List Nat
  | 0, p => [p]
  | f + 1, p => match nextG nb l p with
    | none => [p]
    | some x => p :: descG nb l f x.1
/-- A list of cells that is a way, and its cost. -/
inductive Run (nb : Nb) : List Nat → Int → Prop
  | one (p : Nat) : Run nb [p] 0
  | cons {p q : Nat} {w c : Int} {t : List Nat} : (q, w) ∈ nb p → Run nb (q :: t) c → Run nb (p :: q :: t) (w + c)

section
variable {nb : Nb} {n b : Nat}
theorem next_some {l : List Int} {p q : Nat} {w : Int} (h : nextG nb l p = some (q, w)) : (q, w) ∈ nb p ∧ w + ga l q = ga l p := by
  unfold nextG at h
  exact ⟨List.mem_of_find?_eq_some h, by have := List.find?_some h; exact of_decide_eq_true this⟩
theorem next_goal {l : List Int} (ok : GOk nb n) (hb : b < n) (h : IsDist nb n b l) : nextG nb l b = none := by
  unfold nextG
  refine List.find?_eq_none.2 fun x hx => ?_
  have h0 : ga l b = 0 := by have := h.least ok hb (.here); omega
  have hw := ok.pos _ _ _ hx
  have := h.least ok hb (Way.one hx)
  rw [h0]
  simp only [decide_eq_true_eq]
  omega
theorem asdist_zero {l : List Int} (ok : GOk nb n) (hb : b < n) (h : IsDist nb n b l) {p : Nat} : ga l p = 0 ↔ p = b := by
  constructor
  · intro e; exact (h.way (by omega)).zero ok e
  · rintro rfl; have := h.least ok hb (.here); omega
theorem next_there {l : List Int} (ok : GOk nb n) (hb : b < n) (h : IsDist nb n b l) {p : Nat} (hp : 0 ≤ ga l p) (hne : p ≠ b) : ∃ q w, nextG nb l p = some (q, w) ∧ (q, w) ∈ nb p ∧ ga l q = ga l p - w ∧ 0 ≤ ga l q := by
  have hw := h.way hp
  have key : ∃ x, x ∈ nb p ∧ x.2 + ga l x.1 = ga l p := by
    generalize e : ga l p = d at hw
    cases hw with
    | here => exact absurd rfl hne
    | step k m =>
      rename_i r c w
      have h1 := h.least ok hb k
      have hm := ok.sym _ _ _ m
      have h2 := h.least ok hb ((h.way h1.1).step m)
      exact ⟨(r, w), hm, by dsimp only; omega⟩
  cases hn : nextG nb l p with
  | none =>
    obtain ⟨x, hx, e⟩ := key
    unfold nextG at hn
    have := List.find?_eq_none.1 hn x hx
    simp [e] at this
  | some x =>
    obtain ⟨q, w⟩ := x
    obtain ⟨h1, h2⟩ := next_some hn
    have hq := h.least ok hb ((h.way hp).step h1)
    exact ⟨q, w, rfl, h1, by omega, hq.1⟩
theorem desc_more {l : List Int} (ok : GOk nb n) (hb : b < n) (h : IsDist nb n b l) : ∀ (f g p : Nat), 0 ≤ ga l p → ga l p ≤ f → ga l p ≤ g → descG nb l f p = descG nb l g p := by
  intro f
  induction f with
  | zero =>
    intro g p h0 hf _
    obtain rfl := (asdist_zero ok hb h).1 (show ga l p = 0 by simp at hf; omega)
    cases g with
    | zero => rfl
    | succ g => rw [descG, descG, next_goal ok hb h]
  | succ f ih =>
    intro g p h0 hf hg
    by_cases e : p = b
    · subst e
      rw [descG, next_goal ok hb h]
      cases g with
      | zero => rfl
      | succ g => rw [descG, next_goal ok hb h]
    · obtain ⟨q, w, hn, hm, e1, e2⟩ := next_there ok hb h h0 e
      have hw := ok.pos _ _ _ hm
      cases g with
      | zero => exact absurd ((asdist_zero ok hb h).1 (by simp at hg; omega)) e
      | succ g =>
        rw [descG, descG, hn]
        dsimp only
        rw [ih g q e2 (by push_cast at hf; omega) (by push_cast at hg; omega)]
/-- The whole way from p. -/
def pathG (nb : Nb) (l : List Int) (p : Nat) : List Nat := descG nb l (ga l p).toNat p
theorem path_goal {l : List Int} (ok : GOk nb n) (hb : b < n) (h : IsDist nb n b l) : pathG nb l b = [b] := by
  unfold pathG
  rw [(asdist_zero ok hb h).2 rfl]
  rfl
theorem path_step {l : List Int} (ok : GOk nb n) (hb : b < n) (h : IsDist nb n b l) {p q : Nat} {w : Int} (h0 : 0 ≤ ga l p) (hn : nextG nb l p = some (q, w)) :
    pathG nb l p = p :: pathG nb l q ∧ 0 ≤ ga l q ∧ ga l q < ga l p := by
  obtain ⟨h1, h2⟩ := next_some hn
  have hw := ok.pos _ _ _ h1
  have hq := h.least ok hb ((h.way h0).step h1)
  refine ⟨?_, hq.1, by omega⟩
  unfold pathG
  obtain ⟨k, hk⟩ : ∃ k, (ga l p).toNat = k + 1 := ⟨(ga l p).toNat - 1, by omega⟩
  rw [hk, descG, hn]
  dsimp only
  rw [desc_more ok hb h k (ga l q).toNat q hq.1 (by omega) (by omega)]
theorem path_head (l : List Int) (p : Nat) : ∃ t, pathG nb l p = p :: t := by
  unfold pathG
  cases (ga l p).toNat with
  | zero => exact ⟨[], rfl⟩
  | succ k =>
    rw [descG]
    split
    · exact ⟨[], rfl⟩
    · exact ⟨_, rfl⟩
theorem path_run {l : List Int} (ok : GOk nb n) (hb : b < n) (h : IsDist nb n b l) : ∀ (k : Nat) (p : Nat), 0 ≤ ga l p → ga l p ≤ k → Run nb (pathG nb l p) (ga l p) ∧ (pathG nb l p).getLast? = some b ∧ (pathG nb l p).length ≤ k + 1 := by
  intro k
  induction k with
  | zero =>
    intro p h0 hk
    obtain rfl := (asdist_zero ok hb h).1 (show ga l p = 0 by simp at hk; omega)
    rw [path_goal ok hb h, (asdist_zero ok hb h).2 rfl]
    exact ⟨.one p, rfl, by simp⟩
  | succ k ih =>
    intro p h0 hk
    by_cases e : p = b
    · subst e
      rw [path_goal ok hb h, (asdist_zero ok hb h).2 rfl]
      exact ⟨.one p, rfl, by simp⟩
    · obtain ⟨q, w, hn, hm, e1, e2⟩ := next_there ok hb h h0 e
      obtain ⟨s1, _, s3⟩ := path_step ok hb h h0 hn
      have hw := ok.pos _ _ _ hm
      obtain ⟨r1, r2, r3⟩ := ih q e2 (by push_cast at hk; omega)
      obtain ⟨t, ht⟩ := path_head (nb := nb) l q
      rw [s1]
      rw [ht] at r1 r2 r3 ⊢
      refine ⟨?_, ?_, ?_⟩
      · rw [show ga l p = w + ga l q by omega]; exact .cons hm r1
      · rw [List.getLast?_cons_cons]; exact r2
      · simp only [List.length_cons] at r3 ⊢; omega
/-- A way of cells is a way. -/
theorem Run.way {c : Int} : ∀ {t : List Nat} {p q : Nat}, Run nb (p :: t) c → (p :: t).getLast? = some q → Way nb p q c := by
  intro t
  induction t generalizing c with
  | nil =>
    intro p q h hq
    cases h
    simp at hq
    subst hq
    exact .here
  | cons r t ih =>
    intro p q h hq
    cases h with
    | cons m k =>
      rw [List.getLast?_cons_cons] at hq
      exact (Way.one m).trans (ih k hq)

/-! ### regions -/
def Conn (nb : Nb) (a b : Nat) : Prop := ∃ c, Way nb a b c
theorem Conn.refl (a : Nat) : Conn nb a a := ⟨0, .here⟩
theorem Conn.trans {a b c : Nat} (h : Conn nb a b) (k : Conn nb b c) : Conn nb a c := by
  obtain ⟨x, h⟩ := h
  obtain ⟨y, k⟩ := k
  exact ⟨_, h.trans k⟩
theorem Conn.symm {a b : Nat} (ok : GOk nb n) (h : Conn nb a b) : Conn nb b a := by
  obtain ⟨x, h⟩ := h
  exact ⟨x, h.symm ok⟩
theorem Conn.lt {a b : Nat} (ok : GOk nb n) (h : Conn nb a b) (ha : a < n) : b < n := by
  obtain ⟨x, h⟩ := h
  exact h.lt ok ha
/-- The regions of the free cells, as far as they are named by cells below i. -/
structure Regs (nb : Nb) (n : Nat) (free : Nat → Prop) (i : Nat) (R : List Int) : Prop where
  len : R.length = n
  yes : ∀ q, q < n → free q → ∀ j, j < i → Conn nb j q → ∃ k : Nat, ga R q = k ∧ k ≤ j ∧ Conn nb k q ∧ ∀ j', Conn nb j' q → k ≤ j'
  no : ∀ q, q < n → (¬ free q ∨ ∀ j, j < i → ¬ Conn nb j q) → ga R q = -1
theorem Regs.start (free : Nat → Prop) : Regs nb n free 0 (List.replicate n (-1)) :=
  ⟨List.length_replicate, fun _ _ _ j hj => by omega, fun q _ _ => ga_none n q⟩
/-- A cell that has no region yet is the first of its region. -/
theorem Regs.first {free : Nat → Prop} {i : Nat} {R : List Int} (h : Regs nb n free i R) (_hf : ∀ p q, Conn nb p q → p ≠ q → free p ∧ free q) (hi : i < n) (hfr : free i) (hr : ga R i = -1) : ∀ j, Conn nb j i → i ≤ j := fun j hj =>
  Nat.not_lt.1 fun hlt => by
    obtain ⟨k, e, _⟩ := h.yes i hi hfr j hlt hj
    omega
theorem Regs.skip {free : Nat → Prop} {i : Nat} {R : List Int} (h : Regs nb n free i R) (_ok : GOk nb n) (hf : ∀ p q, Conn nb p q → p ≠ q → free p ∧ free q) (hi : i < n) (hs : ga R i ≠ -1 ∨ ¬ free i) : Regs nb n free (i + 1) R := by
  refine ⟨h.len, fun q hq hfq j hj hc => ?_, fun q hq ho => ?_⟩
  · by_cases e : j < i
    · exact h.yes q hq hfq j e hc
    · obtain rfl : j = i := by omega
      have hfj : free j := by
        by_cases e2 : j = q
        · rw [e2]; exact hfq
        · exact (hf _ _ hc e2).1
      rcases hs with hs | hs
      · have : ∃ j', j' < j ∧ Conn nb j' j := by
          apply Classical.byContradiction
          intro hn
          exact hs (h.no j hi (.inr fun j' hj' hc' => hn ⟨j', hj', hc'⟩))
        obtain ⟨j', hj', hc'⟩ := this
        obtain ⟨k, k1, k2, k3, k4⟩ := h.yes q hq hfq j' hj' (hc'.trans hc)
        exact ⟨k, k1, by omega, k3, k4⟩
      · exact absurd hfj hs
  · refine h.no q hq ?_
    rcases ho with ho | ho
    · exact .inl ho
    · exact .inr fun j hj => ho j (by omega)
/-- What is filled from the cell i: R0 before, R now, F still to be looked at. -/
structure Fill (nb : Nb) (n : Nat) (i : Nat) (R0 R : List Int) (F : List Nat) (pend : Nat → Prop) : Prop where
  len : R.length = n
  old : ∀ q, ga R q = ga R0 q ∨ (ga R0 q = -1 ∧ ga R q = i ∧ Conn nb i q)
  here : ga R i = i
  stk : ∀ q, q ∈ F → ga R q = i ∧ ga R0 q = -1
  done : ∀ q, ga R q = i → ga R0 q = -1 → q ∈ F ∨ pend q ∨ ∀ r w, (r, w) ∈ nb q → ga R r ≠ -1
theorem Fill.start {i : Nat} {R0 : List Int} (hl : R0.length = n) (hi : i < n) (hr : ga R0 i = -1) : Fill nb n i R0 (R0.set i i) [i] (fun _ => False) := by
  have hg : ∀ q, ga (R0.set i i) q = if q = i then (i : Int) else ga R0 q := fun q => ga_set R0 i q _ (by omega)
  refine ⟨by rw [List.length_set]; exact hl, fun q => ?_, by rw [hg, if_pos rfl], fun q hq => ?_, fun q hq h0 => ?_⟩
  · rw [hg]
    by_cases e : q = i
    · rw [if_pos e, e]; exact .inr ⟨hr, rfl, .refl i⟩
    · rw [if_neg e]; exact .inl rfl
  · rw [List.mem_singleton.1 hq, hg, if_pos rfl]; exact ⟨rfl, hr⟩
  · rw [hg] at hq
    by_cases e : q = i
    · exact .inl (by rw [e]; simp)
    · rw [if_neg e] at hq; omega
theorem Fill.pop {i p : Nat} {R0 R : List Int} {F : List Nat} (h : Fill nb n i R0 R (F ++ [p]) (fun _ => False)) : Fill nb n i R0 R F (fun q => q = p) ∧ ga R p = i ∧ ga R0 p = -1 := by
  refine ⟨⟨h.len, h.old, h.here, fun q hq => h.stk q (List.mem_append_left _ hq), fun q hq h0 => ?_⟩, h.stk p (by simp)⟩
  rcases h.done q hq h0 with e | e | e
  · rcases List.mem_append.1 e with e | e
    · exact .inl e
    · exact .inr (.inl (List.mem_singleton.1 e))
  · exact e.elim
  · exact .inr (.inr e)
theorem Fill.mark {i p r : Nat} {w : Int} {R0 R : List Int} {F : List Nat} (ok : GOk nb n) (h : Fill nb n i R0 R F (fun q => q = p)) (hp : ga R p = i ∧ ga R0 p = -1) (m : (r, w) ∈ nb p) (hr : ga R r = -1) :
    Fill nb n i R0 (R.set r i) (F ++ [r]) (fun q => q = p) := by
  have hrn := (ok.lt _ _ _ m).2
  have hg : ∀ q, ga (R.set r i) q = if q = r then (i : Int) else ga R q := fun q => ga_set R r q _ (by rw [h.len]; exact hrn)
  have hr0 : ga R0 r = -1 := by
    rcases h.old r with e | e
    · rw [← e]; exact hr
    · exact e.1
  have hc : Conn nb i p := by
    rcases h.old p with e | e
    · omega
    · exact e.2.2
  refine ⟨by rw [List.length_set]; exact h.len, fun q => ?_, ?_, fun q hq => ?_, fun q hq h0 => ?_⟩
  · rw [hg]
    by_cases e : q = r
    · rw [if_pos e, e]; exact .inr ⟨hr0, rfl, hc.trans ⟨w, .one m⟩⟩
    · rw [if_neg e]; exact h.old q
  · rw [hg]; split
    · rfl
    · exact h.here
  · rw [hg]
    rcases List.mem_append.1 hq with hq | hq
    · have := h.stk q hq
      by_cases e : q = r
      · rw [if_pos e]; exact ⟨rfl, this.2⟩
      · rw [if_neg e]; exact this
    · rw [List.mem_singleton.1 hq, if_pos rfl]; exact ⟨rfl, hr0⟩
  · rw [hg] at hq
    by_cases e : q = r
    · exact .inl (by rw [e]; simp)
    · rw [if_neg e] at hq
      rcases h.done q hq h0 with e2 | e2 | e2
      · exact .inl (List.mem_append_left _ e2)
      · exact .inr (.inl e2)
      · refine .inr (.inr fun r' w' m' => ?_)
        rw [hg]; split
        · omega
        · exact e2 r' w' m'
theorem Fill.close {i p : Nat} {R0 R : List Int} {F : List Nat} (h : Fill nb n i R0 R F (fun q => q = p)) (hd : ∀ r w, (r, w) ∈ nb p → ga R r ≠ -1) : Fill nb n i R0 R F (fun _ => False) :=
  ⟨h.len, h.old, h.here, h.stk, fun q hq h0 => by
    rcases h.done q hq h0 with e | e | e
    · exact .inl e
    · rw [e]; exact .inr (.inr hd)
    · exact .inr (.inr e)⟩
/-- The region of a first cell is filled: what all of it comes to. -/
theorem Fill.over {free : Nat → Prop} {i : Nat} {R0 R : List Int} (ok : GOk nb n) (h0 : Regs nb n free i R0) (hf : ∀ p q, Conn nb p q → p ≠ q → free p ∧ free q) (hi : i < n) (hfr : free i) (hr : ga R0 i = -1)
    (h : Fill nb n i R0 R [] (fun _ => False)) : Regs nb n free (i + 1) R := by
  have first := h0.first hf hi hfr hr
  have un : ∀ q, Conn nb i q → ga R0 q = -1 := fun q hc => h0.no q (hc.lt ok hi) (.inr fun j hj hc' => by
    have := first j (hc'.trans (hc.symm ok)); omega)
  have all : ∀ q c, Way nb i q c → ga R q = i := by
    intro q c w
    induction w with
    | here => exact h.here
    | step k m ih =>
      rename_i p r c w
      have hp := un p ⟨_, k⟩
      rcases h.done p ih hp with e | e | e
      · simp at e
      · exact e.elim
      · have hne := e _ _ m
        rcases h.old r with e2 | e2
        · rw [un r ⟨_, k.step m⟩] at e2; exact absurd e2 hne
        · exact e2.2.1
  refine ⟨h.len, fun q hq hfq j hj hc => ?_, fun q hq ho => ?_⟩
  · by_cases e : Conn nb i q
    · obtain ⟨c, w⟩ := e
      refine ⟨i, all q c w, ?_, ⟨c, w⟩, fun j' hj' => first j' (hj'.trans (Conn.symm ok ⟨c, w⟩))⟩
      exact first j (hc.trans (Conn.symm ok ⟨c, w⟩))
    · have hj' : j < i := by
        apply Classical.byContradiction
        intro hn
        obtain rfl : j = i := by omega
        exact e hc
      rcases h.old q with e2 | e2
      · rw [e2]; exact h0.yes q hq hfq j hj' hc
      · exact absurd e2.2.2 e
  · have hn : ¬ Conn nb i q := fun hc => by
      rcases ho with ho | ho
      · by_cases e2 : i = q
        · rw [e2] at hfr; exact ho hfr
        · exact ho (hf _ _ hc e2).2
      · exact ho i (by omega) hc
    rcases h.old q with e | e
    · rw [e]
      refine h0.no q hq ?_
      rcases ho with ho | ho
      · exact .inl ho
      · exact .inr fun j hj => ho j (by omega)
    · exact absurd e.2.2 hn
/-- The reference's way: all that can be reached from a first cell. -/
theorem Regs.reach {free : Nat → Prop} {i : Nat} {R0 R : List Int} (ok : GOk nb n) (h0 : Regs nb n free i R0) (hf : ∀ p q, Conn nb p q → p ≠ q → free p ∧ free q) (hi : i < n) (hfr : free i) (hr : ga R0 i = -1) (hl : R.length = n)
    (h1 : ∀ q, q < n → Conn nb i q → ga R q = i) (h2 : ∀ q, q < n → ¬ Conn nb i q → ga R q = ga R0 q) : Regs nb n free (i + 1) R := by
  have first := h0.first hf hi hfr hr
  refine ⟨hl, fun q hq hfq j hj hc => ?_, fun q hq ho => ?_⟩
  · by_cases e : Conn nb i q
    · refine ⟨i, h1 q hq e, first j (hc.trans (e.symm ok)), e, fun j' hj' => first j' (hj'.trans (e.symm ok))⟩
    · have hj' : j < i := by
        apply Classical.byContradiction
        intro hn
        obtain rfl : j = i := by omega
        exact e hc
      rw [h2 q hq e]; exact h0.yes q hq hfq j hj' hc
  · have hn : ¬ Conn nb i q := fun hc => by
      rcases ho with ho | ho
      · by_cases e2 : i = q
        · rw [e2] at hfr; exact ho hfr
        · exact ho (hf _ _ hc e2).2
      · exact ho i (by omega) hc
    rw [h2 q hq hn]
    refine h0.no q hq ?_
    rcases ho with ho | ho
    · exact .inl ho
    · exact .inr fun j hj => ho j (by omega)
theorem Regs.eq {free : Nat → Prop} {R S : List Int} (h : Regs nb n free n R) (k : Regs nb n free n S) : R = S := by
  refine List.ext_getElem (by rw [h.len, k.len]) fun q h1 h2 => ?_
  rw [← ga_at h1, ← ga_at h2]
  have hq : q < n := by rw [← h.len]; exact h1
  by_cases hf : free q
  · obtain ⟨a, a1, _, a3, a4⟩ := h.yes q hq hf q hq (.refl q)
    obtain ⟨b, b1, _, b3, b4⟩ := k.yes q hq hf q hq (.refl q)
    have := a4 b b3; have := b4 a a3
    omega
  · rw [h.no q hq (.inl hf), k.no q hq (.inl hf)]
end

end Go.Proofs.YtbdgpldhfemejaaDoor
