/-
  Ways in a graph of numbered cells, least costs and how they are found, regions, the way of least directions. No program is named here.
-/
import Derived.WalkKit
import Derived.Lib.Hide
namespace Go.Proofs.YtbdgpldhfemejaaDoor
open Go.RowKit Go.Lib

abbrev Nb := Nat → List (Nat × Int)
/-- A way from a, and its cost. -/
inductive Way (nb : Nb) (a : Nat) : Nat → Int → Prop
  | here : Way nb a a 0
  | step {p q : Nat} {c w : Int} : Way nb a p c → (q, w) ∈ nb p → Way nb a q (c + w)
structure GOk (nb : Nb) (n : Nat) : Prop where
  lt : ∀ p q w, (q, w) ∈ nb p → p < n ∧ q < n
  pos : ∀ p q w, (q, w) ∈ nb p → 1 ≤ w ∧ w ≤ 19
  sym : ∀ p q w, (q, w) ∈ nb p → (p, w) ∈ nb q
  one : ∀ p q w w', (q, w) ∈ nb p → (q, w') ∈ nb p → w = w'
def ga (D : List Int) (q : Nat) : Int := D.getD q (-1)
theorem ga_set (D : List Int) (i q : Nat) (v : Int) (hi : i < D.length) : ga (D.set i v) q = if q = i then v else ga D q := by
  unfold ga
  rw [List.getD_eq_getElem?_getD, List.getD_eq_getElem?_getD, List.getElem?_set]
  by_cases e : q = i
  · subst e; rw [if_pos rfl, if_pos rfl, if_pos hi]; rfl
  · rw [if_neg (fun h => e h.symm), if_neg e]
theorem ga_lt {D : List Int} {q : Nat} (h : 0 ≤ ga D q) : q < D.length := by
  apply Classical.byContradiction
  intro hn
  unfold ga at h
  rw [List.getD_eq_getElem?_getD, List.getElem?_eq_none (by omega)] at h
  simp at h
theorem ga_at {D : List Int} {q : Nat} (h : q < D.length) : ga D q = D[q] := by
  unfold ga; rw [List.getD_eq_getElem?_getD, List.getElem?_eq_getElem h]; rfl
theorem ga_none (n q : Nat) : ga (List.replicate n (-1)) q = -1 := by
  unfold ga; rw [List.getD_eq_getElem?_getD, List.getElem?_replicate]; split <;> rfl

section
variable {nb : Nb} {n a : Nat}
theorem Way.trans {b q : Nat} {c e : Int} (h : Way nb a b c) (k : Way nb b q e) : Way nb a q (c + e) := by
  induction k with
  | here => rw [Int.add_zero]; exact h
  | step _ m ih => rw [← Int.add_assoc]; exact ih.step m
theorem Way.one {p q : Nat} {w : Int} (m : (q, w) ∈ nb p) : Way nb p q w := by
  have := (Way.here (nb := nb) (a := p)).step m
  rwa [Int.zero_add] at this
theorem Way.symm {q : Nat} {c : Int} (ok : GOk nb n) (h : Way nb a q c) : Way nb q a c := by
  induction h with
  | here => exact .here
  | step _ m ih => rw [Int.add_comm]; exact (Way.one (ok.sym _ _ _ m)).trans ih
theorem Way.nonneg {q : Nat} {c : Int} (ok : GOk nb n) (h : Way nb a q c) : 0 ≤ c := by
  induction h with
  | here => omega
  | step _ m ih => have := ok.pos _ _ _ m; omega
theorem Way.lt {q : Nat} {c : Int} (ok : GOk nb n) (h : Way nb a q c) (ha : a < n) : q < n := by
  cases h with
  | here => exact ha
  | step _ m => exact (ok.lt _ _ _ m).2
theorem Way.zero {q : Nat} {c : Int} (ok : GOk nb n) (h : Way nb a q c) (hc : c = 0) : q = a := by
  cases h with
  | here => rfl
  | step k m => have := ok.pos _ _ _ m; have := k.nonneg ok; omega

/-- The least costs of the ways from a. -/
structure IsDist (nb : Nb) (n a : Nat) (l : List Int) : Prop where
  len : l.length = n
  val : ∀ q, q < n → (ga l q = -1 ∧ ∀ c, ¬ Way nb a q c) ∨ (0 ≤ ga l q ∧ Way nb a q (ga l q) ∧ ∀ c, Way nb a q c → ga l q ≤ c)
theorem IsDist.eq {l m : List Int} (h : IsDist nb n a l) (k : IsDist nb n a m) : l = m := by
  refine List.ext_getElem (by rw [h.len, k.len]) fun q h1 h2 => ?_
  rw [← ga_at h1, ← ga_at h2]
  have hq : q < n := by rw [← h.len]; exact h1
  rcases h.val q hq with ⟨e1, u1⟩ | ⟨g1, w1, m1⟩ <;> rcases k.val q hq with ⟨e2, u2⟩ | ⟨g2, w2, m2⟩
  · rw [e1, e2]
  · exact absurd w2 (u1 _)
  · exact absurd w1 (u2 _)
  · have := m1 _ w2; have := m2 _ w1; omega
theorem IsDist.way {l : List Int} (h : IsDist nb n a l) {q : Nat} (hq : 0 ≤ ga l q) : Way nb a q (ga l q) := by
  have := ga_lt hq
  rcases h.val q (by rw [← h.len]; exact this) with ⟨e, _⟩ | ⟨_, w, _⟩
  · omega
  · exact w
theorem IsDist.least {l : List Int} (h : IsDist nb n a l) (ok : GOk nb n) (ha : a < n) {q : Nat} {c : Int} (w : Way nb a q c) : 0 ≤ ga l q ∧ ga l q ≤ c := by
  rcases h.val q (w.lt ok ha) with ⟨_, u⟩ | ⟨g, _, m⟩
  · exact absurd w (u _)
  · exact ⟨g, m _ w⟩
theorem IsDist.low {l : List Int} (h : IsDist nb n a l) (q : Nat) : -1 ≤ ga l q := by
  by_cases hq : q < n
  · rcases h.val q hq with ⟨e, _⟩ | ⟨g, _⟩ <;> omega
  · unfold ga; rw [List.getD_eq_getElem?_getD, List.getElem?_eq_none (by rw [h.len]; omega)]; simp

/-- All steps from a cell are taken up. -/
def Rel (nb : Nb) (D : List Int) (q : Nat) : Prop := ∀ r w, (r, w) ∈ nb q → 0 ≤ ga D r ∧ ga D r ≤ ga D q + w
structure Base (nb : Nb) (n a : Nat) (D : List Int) (c : Int) : Prop where
  len : D.length = n
  low : ∀ q, -1 ≤ ga D q
  zero : ga D a = 0
  way : ∀ q, 0 ≤ ga D q → Way nb a q (ga D q)
  pred : ∀ q, 0 ≤ ga D q → q = a ∨ ∃ p w, (q, w) ∈ nb p ∧ 0 ≤ ga D p ∧ ga D p ≤ c ∧ ga D q = ga D p + w
theorem Base.mono {D : List Int} {c d : Int} (h : Base nb n a D c) (hd : c ≤ d) : Base nb n a D d :=
  ⟨h.len, h.low, h.zero, h.way, fun q hq => by
    rcases h.pred q hq with e | ⟨p, w, m, h1, h2, h3⟩
    · exact .inl e
    · exact .inr ⟨p, w, m, h1, by omega, h3⟩⟩
theorem Base.fix {D : List Int} {c : Int} (h : Base nb n a D c) (hr : ∀ q, 0 ≤ ga D q → Rel nb D q) : IsDist nb n a D := by
  have key : ∀ q e, Way nb a q e → 0 ≤ ga D q ∧ ga D q ≤ e := by
    intro q e w
    induction w with
    | here => rw [h.zero]; omega
    | step _ m ih => have := hr _ ih.1 _ _ m; omega
  refine ⟨h.len, fun q _ => ?_⟩
  by_cases hq : 0 ≤ ga D q
  · exact .inr ⟨hq, h.way q hq, fun c w => (key q c w).2⟩
  · exact .inl ⟨by have := h.low q; omega, fun c w => hq (key q c w).1⟩
theorem nodup_le : ∀ (l m : List Nat), l.Nodup → (∀ x ∈ l, x ∈ m) → l.length ≤ m.length
  | [], _, _, _ => Nat.zero_le _
  | x :: l, m, hn, hs => by
    have hx : x ∈ m := hs x List.mem_cons_self
    have hn' := List.nodup_cons.1 hn
    have := nodup_le l (m.erase x) hn'.2 (fun y hy => by
      have hne : y ≠ x := fun e => hn'.1 (e ▸ hy)
      exact (List.mem_erase_of_ne hne).2 (hs y (List.mem_cons_of_mem _ hy)))
    rw [List.length_erase_of_mem hx] at this
    have : 0 < m.length := List.length_pos_of_mem hx
    simp only [List.length_cons]
    omega
theorem nodup_lt {l : List Nat} (h : l.Nodup) (hl : ∀ x ∈ l, x < n) : l.length ≤ n := by
  have := nodup_le l (List.range n) h (fun x hx => List.mem_range.2 (hl x hx))
  rwa [List.length_range] at this
theorem Base.chain {D : List Int} {c : Int} (ok : GOk nb n) (ha : a < n) (h : Base nb n a D c) : ∀ (k : Nat) (q : Nat), 0 ≤ ga D q → ga D q ≤ k →
    ∃ l : List Nat, l.Nodup ∧ (∀ x ∈ l, x < n ∧ ga D x ≤ ga D q) ∧ ga D q + 19 ≤ 19 * (l.length : Int) := by
  intro k
  induction k with
  | zero =>
    intro q h0 hk
    have hq : q < n := by rw [← h.len]; exact ga_lt h0
    exact ⟨[q], by simp, fun x hx => by rw [List.mem_singleton.1 hx]; exact ⟨hq, by omega⟩, by simp at hk ⊢; omega⟩
  | succ k ih =>
    intro q h0 hk
    have hq : q < n := by rw [← h.len]; exact ga_lt h0
    rcases h.pred q h0 with rfl | ⟨p, w, m, h1, _, h3⟩
    · exact ⟨[q], by simp, fun x hx => by rw [List.mem_singleton.1 hx]; exact ⟨hq, by omega⟩, by rw [h.zero]; simp⟩
    · have hw := ok.pos _ _ _ m
      obtain ⟨l, n1, n2, n3⟩ := ih p h1 (by push_cast at hk; omega)
      refine ⟨q :: l, List.nodup_cons.2 ⟨fun hm => ?_, n1⟩, fun x hx => ?_, ?_⟩
      · have := (n2 q hm).2; omega
      · rcases List.mem_cons.1 hx with rfl | hx
        · exact ⟨hq, by omega⟩
        · have := n2 x hx; exact ⟨this.1, by omega⟩
      · simp only [List.length_cons]; push_cast; omega
theorem Base.bound {D : List Int} {c : Int} (ok : GOk nb n) (ha : a < n) (h : Base nb n a D c) (q : Nat) : ga D q + 19 ≤ 19 * (n : Int) := by
  by_cases h0 : 0 ≤ ga D q
  · obtain ⟨l, n1, n2, n3⟩ := h.chain ok ha (ga D q).toNat q h0 (by omega)
    have := nodup_lt n1 (fun x hx => (n2 x hx).1)
    omega
  · omega

/-- One step taken up. -/
def relax1 (k : Nat) (D : List Int) (x : Nat × Int) : List Int := if ga D x.1 < 0 ∨ ga D k + x.2 < ga D x.1 then D.set x.1 (ga D k + x.2) else D
/-- In the middle of a cell: some of its steps are taken up. -/
structure Mid (nb : Nb) (n a : Nat) (k : Nat) (c : Int) (D : List Int) (pre : List (Nat × Int)) : Prop where
  base : Base nb n a D c
  at_ : ga D k = c
  pos : 0 ≤ c
  done : ∀ r w, (r, w) ∈ pre → 0 ≤ ga D r ∧ ga D r ≤ c + w
/-- What a step changes. -/
def Chg (c : Int) (D E : List Int) : Prop := ∀ q, ga E q = ga D q ∨ (c < ga E q ∧ (ga D q < 0 ∨ ga E q < ga D q))
theorem Chg.refl (c : Int) (D : List Int) : Chg c D D := fun _ => .inl rfl
theorem Chg.trans {c : Int} {D E F : List Int} (h : Chg c D E) (k : Chg c E F) (hc : 0 ≤ c) : Chg c D F := fun q => by
  rcases k q with e | ⟨e1, e2⟩
  · rw [e]; exact h q
  · rcases h q with e | ⟨e3, e4⟩
    · rw [e] at e2; exact .inr ⟨e1, e2⟩
    · exact .inr ⟨e1, by omega⟩
theorem Mid.step {k r : Nat} {c w : Int} {D : List Int} {pre : List (Nat × Int)} (ok : GOk nb n) (h : Mid nb n a k c D pre) (m : (r, w) ∈ nb k) :
    Mid nb n a k c (relax1 k D (r, w)) (pre ++ [(r, w)]) ∧ Chg c D (relax1 k D (r, w)) := by
  have hw := ok.pos _ _ _ m
  have hr : r < D.length := by rw [h.base.len]; exact (ok.lt _ _ _ m).2
  have hat := h.at_
  have hp := h.pos
  unfold relax1
  dsimp only
  rw [hat]
  by_cases hc : ga D r < 0 ∨ c + w < ga D r
  · rw [if_pos hc]
    have hkr : k ≠ r := fun e => by rw [← e, hat] at hc; omega
    have hg : ∀ q, ga (D.set r (c + w)) q = if q = r then c + w else ga D q := fun q => ga_set D r q _ hr
    have hle : ∀ q, ga D q = ga (D.set r (c + w)) q ∨ (q = r ∧ ga (D.set r (c + w)) q = c + w) := fun q => by
      rw [hg]; by_cases e : q = r
      · rw [if_pos e]; exact .inr ⟨e, rfl⟩
      · rw [if_neg e]; exact .inl rfl
    have hka : ga (D.set r (c + w)) k = c := by rw [hg, if_neg hkr, hat]
    refine ⟨⟨⟨by rw [List.length_set]; exact h.base.len, fun q => ?_, ?_, fun q hq => ?_, fun q hq => ?_⟩, hka, hp, fun r' w' hm => ?_⟩, fun q => ?_⟩
    · rcases hle q with e | ⟨_, e⟩
      · rw [← e]; exact h.base.low q
      · rw [e]; omega
    · rcases hle a with e | ⟨e1, e⟩
      · rw [← e]; exact h.base.zero
      · rw [← e1, h.base.zero] at hc; omega
    · rcases hle q with e | ⟨e1, e⟩
      · rw [← e] at hq ⊢; exact h.base.way q hq
      · rw [e, e1]
        have := h.base.way k (by omega)
        rw [hat] at this
        exact this.step m
    · rcases hle q with e | ⟨e1, e⟩
      · rw [← e] at hq ⊢
        rcases h.base.pred q hq with e' | ⟨p, w', m', h1, h2, h3⟩
        · exact .inl e'
        · refine .inr ⟨p, w', m', ?_⟩
          rcases hle p with e2 | ⟨e3, e2⟩
          · rw [← e2]; exact ⟨h1, h2, h3⟩
          · rw [e3] at h1 h2; omega
      · rw [e, e1]
        exact .inr ⟨k, w, m, by rw [hka]; exact hp, by rw [hka]; omega, by rw [hka]⟩
    · rcases List.mem_append.1 hm with hm | hm
      · have := h.done _ _ hm
        rcases hle r' with e | ⟨e1, e⟩
        · rw [← e]; exact this
        · rw [e1] at this; rw [e]; omega
      · rw [List.mem_singleton, Prod.mk.injEq] at hm
        rw [hm.1, hm.2, hg, if_pos rfl]; omega
    · rcases hle q with e | ⟨e1, e⟩
      · exact .inl e.symm
      · rw [e, e1]; exact .inr ⟨by omega, hc⟩
  · rw [if_neg hc]
    refine ⟨⟨h.base, hat, hp, fun r' w' hm => ?_⟩, Chg.refl c D⟩
    rcases List.mem_append.1 hm with hm | hm
    · exact h.done _ _ hm
    · rw [List.mem_singleton, Prod.mk.injEq] at hm
      rw [hm.1, hm.2]; omega
/-- What was taken up stays so. -/
theorem Rel.keep {D E : List Int} {c : Int} {q : Nat} (hc : Chg c D E) (p : 0 ≤ c) (h : Rel nb D q) (h0 : 0 ≤ ga D q) (hq : ga D q ≤ c) : Rel nb E q := fun r w m => by
  have h1 := h r w m
  have e : ga E q = ga D q := by
    rcases hc q with e | ⟨_, _⟩
    · exact e
    · omega
  rcases hc r with e' | ⟨_, _⟩ <;> omega

/-! ### the reference: the nearest cell that is not settled, one after the other -/
def gb (s : List Bool) (q : Nat) : Bool := s.getD q false
theorem gb_set (s : List Bool) (i q : Nat) (v : Bool) (hi : i < s.length) : gb (s.set i v) q = if q = i then v else gb s q := by
  unfold gb
  rw [List.getD_eq_getElem?_getD, List.getD_eq_getElem?_getD, List.getElem?_set]
  by_cases e : q = i
  · subst e; rw [if_pos rfl, if_pos rfl, if_pos hi]; rfl
  · rw [if_neg (fun h => e h.symm), if_neg e]
structure Sett (nb : Nb) (n a : Nat) (D : List Int) (s : List Bool) (c : Int) : Prop where
  base : Base nb n a D c
  len : s.length = n
  pos : 0 ≤ c
  yes : ∀ q, gb s q = true → 0 ≤ ga D q ∧ ga D q ≤ c ∧ Rel nb D q
  no : ∀ q, gb s q = false → 0 ≤ ga D q → c ≤ ga D q
/-- In the middle of a cell. -/
structure SetMid (nb : Nb) (n a : Nat) (D : List Int) (s : List Bool) (c : Int) (k : Nat) (pre : List (Nat × Int)) : Prop where
  mid : Mid nb n a k c D pre
  len : s.length = n
  yes : ∀ q, gb s q = true → 0 ≤ ga D q ∧ ga D q ≤ c ∧ (q = k ∨ Rel nb D q)
  no : ∀ q, gb s q = false → 0 ≤ ga D q → c ≤ ga D q
/-- The nearest of the cells below i: none yet, or one. -/
def NearU (D : List Int) (s : List Bool) (i : Nat) (k : Int) : Prop :=
  (k = -1 ∧ ∀ q, q < i → gb s q = false → ga D q < 0) ∨ (∃ j : Nat, k = j ∧ j < i ∧ gb s j = false ∧ 0 ≤ ga D j ∧ ∀ q, q < i → gb s q = false → 0 ≤ ga D q → ga D j ≤ ga D q)
theorem NearU.step {D : List Int} {s : List Bool} {i : Nat} {k : Int} (h : NearU D s i k) :
    NearU D s (i + 1) (if gb s i = false ∧ 0 ≤ ga D i ∧ (k < 0 ∨ ga D i < ga D k.toNat) then (i : Int) else k) := by
  have lt : ∀ {q}, q < i + 1 → q < i ∨ q = i := fun h => by omega
  by_cases c : gb s i = false ∧ 0 ≤ ga D i ∧ (k < 0 ∨ ga D i < ga D k.toNat)
  · rw [if_pos c]
    obtain ⟨c1, c2, c3⟩ := c
    refine .inr ⟨i, rfl, by omega, c1, c2, fun q hq hs h0 => ?_⟩
    rcases lt hq with hq | rfl
    · rcases h with ⟨_, h2⟩ | ⟨j, rfl, h2, h3, h4, h5⟩
      · have := h2 q hq hs; omega
      · have := h5 q hq hs h0
        rw [Int.toNat_natCast] at c3
        omega
    · omega
  · rw [if_neg c]
    rcases h with ⟨rfl, h2⟩ | ⟨j, rfl, h2, h3, h4, h5⟩
    · refine .inl ⟨rfl, fun q hq hs => ?_⟩
      rcases lt hq with hq | rfl
      · exact h2 q hq hs
      · exact Int.not_le.1 fun h0 => c ⟨hs, h0, .inl (by omega)⟩
    · refine .inr ⟨j, rfl, by omega, h3, h4, fun q hq hs h0 => ?_⟩
      rcases lt hq with hq | rfl
      · exact h5 q hq hs h0
      · rw [Int.toNat_natCast] at c
        exact Int.not_lt.1 fun h0' => c ⟨hs, h0, .inr h0'⟩
theorem Sett.begin {D : List Int} {s : List Bool} {c : Int} {k : Nat} (h : Sett nb n a D s c) (hn : NearU D s n k) : SetMid nb n a D (s.set k true) (ga D k) k [] ∧ c ≤ ga D k ∧ k < n ∧ gb s k = false := by
  rcases hn with ⟨e, _⟩ | ⟨j, e, h2, h3, h4, h5⟩
  · omega
  · obtain rfl : k = j := by omega
    have hk : k < s.length := by rw [h.len]; exact h2
    have hc : c ≤ ga D k := h.no k h3 h4
    refine ⟨⟨⟨h.base.mono hc, rfl, by have := h.pos; omega, fun _ _ m => by simp at m⟩, by rw [List.length_set]; exact h.len, fun q hq => ?_, fun q hq h0 => ?_⟩, hc, h2, h3⟩
    · rw [gb_set s k q true hk] at hq
      by_cases e : q = k
      · rw [e]; exact ⟨h4, Int.le_refl _, .inl rfl⟩
      · rw [if_neg e] at hq
        obtain ⟨y1, y2, y3⟩ := h.yes q hq
        exact ⟨y1, by omega, .inr y3⟩
    · rw [gb_set s k q true hk] at hq
      by_cases e : q = k
      · rw [if_pos e] at hq; exact absurd hq (by simp)
      · rw [if_neg e] at hq
        exact h5 q (by rw [← h.base.len]; exact ga_lt h0) hq h0
theorem SetMid.step {D : List Int} {s : List Bool} {c w : Int} {k r : Nat} {pre : List (Nat × Int)} (ok : GOk nb n) (h : SetMid nb n a D s c k pre) (m : (r, w) ∈ nb k) :
    SetMid nb n a (relax1 k D (r, w)) s c k (pre ++ [(r, w)]) := by
  obtain ⟨h1, hc⟩ := h.mid.step ok m
  have hp := h.mid.pos
  refine ⟨h1, h.len, fun q hq => ?_, fun q hq h0 => ?_⟩
  · obtain ⟨y1, y2, y3⟩ := h.yes q hq
    have e : ga (relax1 k D (r, w)) q = ga D q := by
      rcases hc q with e | ⟨_, _⟩
      · exact e
      · omega
    rw [e]
    refine ⟨y1, y2, ?_⟩
    rcases y3 with y3 | y3
    · exact .inl y3
    · exact .inr (y3.keep hc hp y1 y2)
  · rcases hc q with e | ⟨e1, _⟩
    · rw [e] at h0 ⊢; exact h.no q hq h0
    · omega
theorem SetMid.close {D : List Int} {s : List Bool} {c : Int} {k : Nat} (h : SetMid nb n a D s c k (nb k)) : Sett nb n a D s c := by
  refine ⟨h.mid.base, h.len, h.mid.pos, fun q hq => ?_, h.no⟩
  obtain ⟨y1, y2, y3⟩ := h.yes q hq
  refine ⟨y1, y2, ?_⟩
  rcases y3 with rfl | y3
  · exact fun r w m => by rw [h.mid.at_]; exact h.mid.done r w m
  · exact y3
theorem Sett.over {D : List Int} {s : List Bool} {c : Int} (h : Sett nb n a D s c) (hn : NearU D s n (-1)) : IsDist nb n a D := by
  refine h.base.fix fun q h0 => ?_
  rcases hn with ⟨_, h2⟩ | ⟨j, e, _⟩
  · cases hs : gb s q with
    | true => exact (h.yes q hs).2.2
    | false => have := h2 q (by rw [← h.base.len]; exact ga_lt h0) hs; omega
  · omega
/-- How the search begins: only the cell itself is known. -/
theorem Base.start (ha : a < n) : Base nb n a ((List.replicate n (-1)).set a 0) 0 := by
  have hl : a < (List.replicate n (-1 : Int)).length := by rw [List.length_replicate]; exact ha
  have hg : ∀ q, ga ((List.replicate n (-1)).set a 0) q = if q = a then 0 else -1 := fun q => by rw [ga_set _ _ _ _ hl, ga_none]
  refine ⟨by rw [List.length_set, List.length_replicate], fun q => ?_, by rw [hg, if_pos rfl], fun q h0 => ?_, fun q h0 => ?_⟩
  · rw [hg]; split <;> omega
  · rw [hg] at h0 ⊢
    by_cases e : q = a
    · rw [if_pos e, e]; exact .here
    · rw [if_neg e] at h0; omega
  · rw [hg] at h0
    by_cases e : q = a
    · exact .inl e
    · rw [if_neg e] at h0; omega
theorem start_ga (ha : a < n) (q : Nat) : ga ((List.replicate n (-1)).set a 0) q = if q = a then 0 else -1 := by
  rw [ga_set _ _ _ _ (by rw [List.length_replicate]; exact ha), ga_none]
theorem Sett.start (ha : a < n) : Sett nb n a ((List.replicate n (-1)).set a 0) (List.replicate n false) 0 := by
  refine ⟨Base.start ha, List.length_replicate, Int.le_refl _, fun q hq => ?_, fun q _ h0 => h0⟩
  unfold gb at hq
  rw [List.getD_eq_getElem?_getD, List.getElem?_replicate] at hq
  split at hq <;> simp at hq
end

end Go.Proofs.YtbdgpldhfemejaaDoor
