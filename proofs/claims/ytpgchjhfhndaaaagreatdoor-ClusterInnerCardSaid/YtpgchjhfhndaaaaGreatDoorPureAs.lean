/-
  Ways, least costs, regions; the steps of a map as a graph. No program is named here.
-/
import Derived.WalkKit
import Derived.Lib.Hide
import Derived.Test.YtpgchjhfhndaaaaGreatDoorPureGeo
import Derived.Test.YtpgchjhfhndaaaaGreatDoorNumsG
import Derived.RangeFuncNested
import Derived.RangeFuncBound
import Derived.RangeFuncCalls
import Derived.RangeFuncLeaves
import Derived.Shelf.Abstract
import Derived.Shelf.RegionOpen
import Derived.OwnWalkIn
import Derived.TacticsInMore
import Derived.LoopNIn
import Derived.LoopIn
import Derived.OrdersHeld
import Derived.Lib.Walk
namespace Go.Proofs.YtpgchjhfhndaaaaGreatDoor

section
open Go.RowKit Go.Lib

abbrev Nb := Nat → List (Nat × Int)
/-- A way from a, and its cost. -/
inductive Way (nb : Nb) (a : Nat) : Nat → Int → Prop
  | here : Way nb a a 0
  | step {p q : Nat} {c w : Int} : Way nb a p c → (q, w) ∈ nb p → Way nb a q (c + w)
structure GOk (nb : Nb) (n : Nat) : Prop where
  lt : ∀ p q w, (q, w) ∈ nb p → p < n ∧ q < n
  pos : ∀ p q w, (q, w) ∈ nb p → 1 ≤ w ∧ w ≤ 19
  sym : ∀ p q w, (q, w) ∈ nb p → (p, w) ∈ nb q
  one : ∀ p q w w', (q, w) ∈ nb p → (q, w') ∈ nb p → w = w'
def ga (D : List Int) (q : Nat) : Int := D.getD q (-1)
theorem ga_set (D : List Int) (i q : Nat) (v : Int) (hi : i < D.length) : ga (D.set i v) q = if q = i then v else ga D q := by
  unfold ga
  rw [List.getD_eq_getElem?_getD, List.getD_eq_getElem?_getD, List.getElem?_set]
  by_cases e : q = i
  · subst e; rw [if_pos rfl, if_pos rfl, if_pos hi]; rfl
  · rw [if_neg (fun h => e h.symm), if_neg e]
theorem ga_lt {D : List Int} {q : Nat} (h : 0 ≤ ga D q) : q < D.length := by
  apply Classical.byContradiction
  intro hn
  unfold ga at h
  rw [List.getD_eq_getElem?_getD, List.getElem?_eq_none (by omega)] at h
  simp at h
theorem ga_at {D : List Int} {q : Nat} (h : q < D.length) : ga D q = D[q] := by
  unfold ga; rw [List.getD_eq_getElem?_getD, List.getElem?_eq_getElem h]; rfl
theorem ga_none (n q : Nat) : ga (List.replicate n (-1)) q = -1 := by
  unfold ga; rw [List.getD_eq_getElem?_getD, List.getElem?_replicate]; split <;> rfl

section
variable {nb : Nb} {n a : Nat}
theorem Way.trans {b q : Nat} {c e : Int} (h : Way nb a b c) (k : Way nb b q e) : Way nb a q (c + e) := by
  induction k with
  | here => rw [Int.add_zero]; exact h
  | step _ m ih => rw [← Int.add_assoc]; exact ih.step m
theorem Way.one {p q : Nat} {w : Int} (m : (q, w) ∈ nb p) : Way nb p q w := by
  have := (Way.here (nb := nb) (a := p)).step m
  rwa [Int.zero_add] at this
theorem Way.symm {q : Nat} {c : Int} (ok : GOk nb n) (h : Way nb a q c) : Way nb q a c := by
  induction h with
  | here => exact .here
  | step _ m ih => rw [Int.add_comm]; exact (Way.one (ok.sym _ _ _ m)).trans ih
theorem Way.nonneg {q : Nat} {c : Int} (ok : GOk nb n) (h : Way nb a q c) : 0 ≤ c := by
  induction h with
  | here => omega
  | step _ m ih => have := ok.pos _ _ _ m; omega
theorem Way.lt {q : Nat} {c : Int} (ok : GOk nb n) (h : Way nb a q c) (ha : a < n) : q < n := by
  cases h with
  | here => exact ha
  | step _ m => exact (ok.lt _ _ _ m).2
theorem Way.zero {q : Nat} {c : Int} (ok : GOk nb n) (h : Way nb a q c) (hc : c = 0) : q = a := by
  cases h with
  | here => rfl
  | step k m => have := ok.pos _ _ _ m; have := k.nonneg ok; omega

/-- The least costs of the ways from a. -/
structure IsDist (nb : Nb) (n a : Nat) (l : List Int) : Prop where
  len : l.length = n
  val : ∀ q, q < n → (ga l q = -1 ∧ ∀ c, ¬ Way nb a q c) ∨ (0 ≤ ga l q ∧ Way nb a q (ga l q) ∧ ∀ c, Way nb a q c → ga l q ≤ c)
theorem IsDist.eq {l m : List Int} (h : IsDist nb n a l) (k : IsDist nb n a m) : l = m := by
  refine List.ext_getElem (by rw [h.len, k.len]) fun q h1 h2 => ?_
  rw [← ga_at h1, ← ga_at h2]
  have hq : q < n := by rw [← h.len]; exact h1
  rcases h.val q hq with ⟨e1, u1⟩ | ⟨g1, w1, m1⟩ <;> rcases k.val q hq with ⟨e2, u2⟩ | ⟨g2, w2, m2⟩
  · rw [e1, e2]
  · exact absurd w2 (u1 _)
  · exact absurd w1 (u2 _)
  · have := m1 _ w2; have := m2 _ w1; omega
theorem IsDist.way {l : List Int} (h : IsDist nb n a l) {q : Nat} (hq : 0 ≤ ga l q) : Way nb a q (ga l q) := by
  have := ga_lt hq
  rcases h.val q (by rw [← h.len]; exact this) with ⟨e, _⟩ | ⟨_, w, _⟩
  · omega
  · exact w
theorem IsDist.least {l : List Int} (h : IsDist nb n a l) (ok : GOk nb n) (ha : a < n) {q : Nat} {c : Int} (w : Way nb a q c) : 0 ≤ ga l q ∧ ga l q ≤ c := by
  rcases h.val q (w.lt ok ha) with ⟨_, u⟩ | ⟨g, _, m⟩
  · exact absurd w (u _)
  · exact ⟨g, m _ w⟩
theorem IsDist.low {l : List Int} (h : IsDist nb n a l) (q : Nat) : -1 ≤ ga l q := by
  by_cases hq : q < n
  · rcases h.val q hq with ⟨e, _⟩ | ⟨g, _⟩ <;> omega
  · unfold ga; rw [List.getD_eq_getElem?_getD, List.getElem?_eq_none (by rw [h.len]; omega)]; simp

/-- All steps from a cell are taken up. -/
def Rel (nb : Nb) (D : List Int) (q : Nat) : Prop := ∀ r w, (r, w) ∈ nb q → 0 ≤ ga D r ∧ ga D r ≤ ga D q + w
structure Base (nb : Nb) (n a : Nat) (D : List Int) (c : Int) : Prop where
  len : D.length = n
  low : ∀ q, -1 ≤ ga D q
  zero : ga D a = 0
  way : ∀ q, 0 ≤ ga D q → Way nb a q (ga D q)
  pred : ∀ q, 0 ≤ ga D q → q = a ∨ ∃ p w, (q, w) ∈ nb p ∧ 0 ≤ ga D p ∧ ga D p ≤ c ∧ ga D q = ga D p + w
theorem Base.mono {D : List Int} {c d : Int} (h : Base nb n a D c) (hd : c ≤ d) : Base nb n a D d :=
  ⟨h.len, h.low, h.zero, h.way, fun q hq => by
    rcases h.pred q hq with e | ⟨p, w, m, h1, h2, h3⟩
    · exact .inl e
    · exact .inr ⟨p, w, m, h1, by omega, h3⟩⟩
theorem Base.fix {D : List Int} {c : Int} (h : Base nb n a D c) (hr : ∀ q, 0 ≤ ga D q → Rel nb D q) : IsDist nb n a D := by
  have key : ∀ q e, Way nb a q e → 0 ≤ ga D q ∧ ga D q ≤ e := by
    intro q e w
    induction w with
    | here => rw [h.zero]; omega
    | step _ m ih => have := hr _ ih.1 _ _ m; omega
  refine ⟨h.len, fun q _ => ?_⟩
  by_cases hq : 0 ≤ ga D q
  · exact .inr ⟨hq, h.way q hq, fun c w => (key q c w).2⟩
  · exact .inl ⟨by have := h.low q; omega, fun c w => hq (key q c w).1⟩
theorem nodup_le : ∀ (l m : List Nat), l.Nodup → (∀ x ∈ l, x ∈ m) → l.length ≤ m.length
  | [], _, _, _ => Nat.zero_le _
  | x :: l, m, hn, hs => by
    have hx : x ∈ m := hs x List.mem_cons_self
    have hn' := List.nodup_cons.1 hn
    have := nodup_le l (m.erase x) hn'.2 (fun y hy => by
      have hne : y ≠ x := fun e => hn'.1 (e ▸ hy)
      exact (List.mem_erase_of_ne hne).2 (hs y (List.mem_cons_of_mem _ hy)))
    rw [List.length_erase_of_mem hx] at this
    have : 0 < m.length := List.length_pos_of_mem hx
    simp only [List.length_cons]
    omega
theorem nodup_lt {l : List Nat} (h : l.Nodup) (hl : ∀ x ∈ l, x < n) : l.length ≤ n := by
  have := nodup_le l (List.range n) h (fun x hx => List.mem_range.2 (hl x hx))
  rwa [List.length_range] at this
theorem Base.chain {D : List Int} {c : Int} (ok : GOk nb n) (ha : a < n) (h : Base nb n a D c) : ∀ (k : Nat) (q : Nat), 0 ≤ ga D q → ga D q ≤ k →
    ∃ l : List Nat, l.Nodup ∧ (∀ x ∈ l, x < n ∧ ga D x ≤ ga D q) ∧ ga D q + 19 ≤ 19 * (l.length : Int) := by
  intro k
  induction k with
  | zero =>
    intro q h0 hk
    have hq : q < n := by rw [← h.len]; exact ga_lt h0
    exact ⟨[q], by simp, fun x hx => by rw [List.mem_singleton.1 hx]; exact ⟨hq, by omega⟩, by simp at hk ⊢; omega⟩
  | succ k ih =>
    intro q h0 hk
    have hq : q < n := by rw [← h.len]; exact ga_lt h0
    rcases h.pred q h0 with rfl | ⟨p, w, m, h1, _, h3⟩
    · exact ⟨[q], by simp, fun x hx => by rw [List.mem_singleton.1 hx]; exact ⟨hq, by omega⟩, by rw [h.zero]; simp⟩
    · have hw := ok.pos _ _ _ m
      obtain ⟨l, n1, n2, n3⟩ := ih p h1 (by push_cast at hk; omega)
      refine ⟨q :: l, List.nodup_cons.2 ⟨fun hm => ?_, n1⟩, fun x hx => ?_, ?_⟩
      · have := (n2 q hm).2; omega
      · rcases List.mem_cons.1 hx with rfl | hx
        · exact ⟨hq, by omega⟩
        · have := n2 x hx; exact ⟨this.1, by omega⟩
      · simp only [List.length_cons]; push_cast; omega
theorem Base.bound {D : List Int} {c : Int} (ok : GOk nb n) (ha : a < n) (h : Base nb n a D c) (q : Nat) : ga D q + 19 ≤ 19 * (n : Int) := by
  by_cases h0 : 0 ≤ ga D q
  · obtain ⟨l, n1, n2, n3⟩ := h.chain ok ha (ga D q).toNat q h0 (by omega)
    have := nodup_lt n1 (fun x hx => (n2 x hx).1)
    omega
  · omega

/-- One step taken up. -/
def relax1 (k : Nat) (D : List Int) (x : Nat × Int) : List Int := if ga D x.1 < 0 ∨ ga D k + x.2 < ga D x.1 then D.set x.1 (ga D k + x.2) else D
/-- In the middle of a cell: some of its steps are taken up. -/
structure Mid (nb : Nb) (n a : Nat) (k : Nat) (c : Int) (D : List Int) (pre : List (Nat × Int)) : Prop where
  base : Base nb n a D c
  at_ : ga D k = c
  pos : 0 ≤ c
  done : ∀ r w, (r, w) ∈ pre → 0 ≤ ga D r ∧ ga D r ≤ c + w
/-- What a step changes. -/
def Chg (c : Int) (D E : List Int) : Prop := ∀ q, ga E q = ga D q ∨ (c < ga E q ∧ (ga D q < 0 ∨ ga E q < ga D q))
theorem Chg.refl (c : Int) (D : List Int) : Chg c D D := fun _ => .inl rfl
theorem Chg.trans {c : Int} {D E F : List Int} (h : Chg c D E) (k : Chg c E F) (hc : 0 ≤ c) : Chg c D F := fun q => by
  rcases k q with e | ⟨e1, e2⟩
  · rw [e]; exact h q
  · rcases h q with e | ⟨e3, e4⟩
    · rw [e] at e2; exact .inr ⟨e1, e2⟩
    · exact .inr ⟨e1, by omega⟩
theorem Mid.step {k r : Nat} {c w : Int} {D : List Int} {pre : List (Nat × Int)} (ok : GOk nb n) (h : Mid nb n a k c D pre) (m : (r, w) ∈ nb k) :
    Mid nb n a k c (relax1 k D (r, w)) (pre ++ [(r, w)]) ∧ Chg c D (relax1 k D (r, w)) := by
  have hw := ok.pos _ _ _ m
  have hr : r < D.length := by rw [h.base.len]; exact (ok.lt _ _ _ m).2
  have hat := h.at_
  have hp := h.pos
  unfold relax1
  dsimp only
  rw [hat]
  by_cases hc : ga D r < 0 ∨ c + w < ga D r
  · rw [if_pos hc]
    have hkr : k ≠ r := fun e => by rw [← e, hat] at hc; omega
    have hg : ∀ q, ga (D.set r (c + w)) q = if q = r then c + w else ga D q := fun q => ga_set D r q _ hr
    have hle : ∀ q, ga D q = ga (D.set r (c + w)) q ∨ (q = r ∧ ga (D.set r (c + w)) q = c + w) := fun q => by
      rw [hg]; by_cases e : q = r
      · rw [if_pos e]; exact .inr ⟨e, rfl⟩
      · rw [if_neg e]; exact .inl rfl
    have hka : ga (D.set r (c + w)) k = c := by rw [hg, if_neg hkr, hat]
    refine ⟨⟨⟨by rw [List.length_set]; exact h.base.len, fun q => ?_, ?_, fun q hq => ?_, fun q hq => ?_⟩, hka, hp, fun r' w' hm => ?_⟩, fun q => ?_⟩
    · rcases hle q with e | ⟨_, e⟩
      · rw [← e]; exact h.base.low q
      · rw [e]; omega
    · rcases hle a with e | ⟨e1, e⟩
      · rw [← e]; exact h.base.zero
      · rw [← e1, h.base.zero] at hc; omega
    · rcases hle q with e | ⟨e1, e⟩
      · rw [← e] at hq ⊢; exact h.base.way q hq
      · rw [e, e1]
        have := h.base.way k (by omega)
        rw [hat] at this
        exact this.step m
    · rcases hle q with e | ⟨e1, e⟩
      · rw [← e] at hq ⊢
        rcases h.base.pred q hq with e' | ⟨p, w', m', h1, h2, h3⟩
        · exact .inl e'
        · refine .inr ⟨p, w', m', ?_⟩
          rcases hle p with e2 | ⟨e3, e2⟩
          · rw [← e2]; exact ⟨h1, h2, h3⟩
          · rw [e3] at h1 h2; omega
      · rw [e, e1]
        exact .inr ⟨k, w, m, by rw [hka]; exact hp, by rw [hka]; omega, by rw [hka]⟩
    · rcases List.mem_append.1 hm with hm | hm
      · have := h.done _ _ hm
        rcases hle r' with e | ⟨e1, e⟩
        · rw [← e]; exact this
        · rw [e1] at this; rw [e]; omega
      · rw [List.mem_singleton, Prod.mk.injEq] at hm
        rw [hm.1, hm.2, hg, if_pos rfl]; omega
    · rcases hle q with e | ⟨e1, e⟩
      · exact .inl e.symm
      · rw [e, e1]; exact .inr ⟨by omega, hc⟩
  · rw [if_neg hc]
    refine ⟨⟨h.base, hat, hp, fun r' w' hm => ?_⟩, Chg.refl c D⟩
    rcases List.mem_append.1 hm with hm | hm
    · exact h.done _ _ hm
    · rw [List.mem_singleton, Prod.mk.injEq] at hm
      rw [hm.1, hm.2]; omega
/-- What was taken up stays so. -/
theorem Rel.keep {D E : List Int} {c : Int} {q : Nat} (hc : Chg c D E) (p : 0 ≤ c) (h : Rel nb D q) (h0 : 0 ≤ ga D q) (hq : ga D q ≤ c) : Rel nb E q := fun r w m => by
  have h1 := h r w m
  have e : ga E q = ga D q := by
    rcases hc q with e | ⟨_, _⟩
    · exact e
    · omega
  rcases hc r with e' | ⟨_, _⟩ <;> omega

def gb (s : List Bool) (q : Nat) : Bool := s.getD q false
theorem gb_set (s : List Bool) (i q : Nat) (v : Bool) (hi : i < s.length) : gb (s.set i v) q = if q = i then v else gb s q := by
  unfold gb
  rw [List.getD_eq_getElem?_getD, List.getD_eq_getElem?_getD, List.getElem?_set]
  by_cases e : q = i
  · subst e; rw [if_pos rfl, if_pos rfl, if_pos hi]; rfl
  · rw [if_neg (fun h => e h.symm), if_neg e]
structure Sett (nb : Nb) (n a : Nat) (D : List Int) (s : List Bool) (c : Int) : Prop where
  base : Base nb n a D c
  len : s.length = n
  pos : 0 ≤ c
  yes : ∀ q, gb s q = true → 0 ≤ ga D q ∧ ga D q ≤ c ∧ Rel nb D q
  no : ∀ q, gb s q = false → 0 ≤ ga D q → c ≤ ga D q
/-- In the middle of a cell. -/
structure SetMid (nb : Nb) (n a : Nat) (D : List Int) (s : List Bool) (c : Int) (k : Nat) (pre : List (Nat × Int)) : Prop where
  mid : Mid nb n a k c D pre
  len : s.length = n
  yes : ∀ q, gb s q = true → 0 ≤ ga D q ∧ ga D q ≤ c ∧ (q = k ∨ Rel nb D q)
  no : ∀ q, gb s q = false → 0 ≤ ga D q → c ≤ ga D q
/-- The nearest of the cells below i: none yet, or one. -/
def NearU (D : List Int) (s : List Bool) (i : Nat) (k : Int) : Prop :=
  (k = -1 ∧ ∀ q, q < i → gb s q = false → ga D q < 0) ∨ (∃ j : Nat, k = j ∧ j < i ∧ gb s j = false ∧ 0 ≤ ga D j ∧ ∀ q, q < i → gb s q = false → 0 ≤ ga D q → ga D j ≤ ga D q)
theorem NearU.step {D : List Int} {s : List Bool} {i : Nat} {k : Int} (h : NearU D s i k) :
    NearU D s (i + 1) (if gb s i = false ∧ 0 ≤ ga D i ∧ (k < 0 ∨ ga D i < ga D k.toNat) then (i : Int) else k) := by
  have lt : ∀ {q}, q < i + 1 → q < i ∨ q = i := fun h => by omega
  by_cases c : gb s i = false ∧ 0 ≤ ga D i ∧ (k < 0 ∨ ga D i < ga D k.toNat)
  · rw [if_pos c]
    obtain ⟨c1, c2, c3⟩ := c
    refine .inr ⟨i, rfl, by omega, c1, c2, fun q hq hs h0 => ?_⟩
    rcases lt hq with hq | rfl
    · rcases h with ⟨_, h2⟩ | ⟨j, rfl, h2, h3, h4, h5⟩
      · have := h2 q hq hs; omega
      · have := h5 q hq hs h0
        rw [Int.toNat_natCast] at c3
        omega
    · omega
  · rw [if_neg c]
    rcases h with ⟨rfl, h2⟩ | ⟨j, rfl, h2, h3, h4, h5⟩
    · refine .inl ⟨rfl, fun q hq hs => ?_⟩
      rcases lt hq with hq | rfl
      · exact h2 q hq hs
      · exact Int.not_le.1 fun h0 => c ⟨hs, h0, .inl (by omega)⟩
    · refine .inr ⟨j, rfl, by omega, h3, h4, fun q hq hs h0 => ?_⟩
      rcases lt hq with hq | rfl
      · exact h5 q hq hs h0
      · rw [Int.toNat_natCast] at c
        exact Int.not_lt.1 fun h0' => c ⟨hs, h0, .inr h0'⟩
theorem Sett.begin {D : List Int} {s : List Bool} {c : Int} {k : Nat} (h : Sett nb n a D s c) (hn : NearU D s n k) : SetMid nb n a D (s.set k true) (ga D k) k [] ∧ c ≤ ga D k ∧ k < n ∧ gb s k = false := by
  rcases hn with ⟨e, _⟩ | ⟨j, e, h2, h3, h4, h5⟩
  · omega
  · obtain rfl : k = j := by omega
    have hk : k < s.length := by rw [h.len]; exact h2
    have hc : c ≤ ga D k := h.no k h3 h4
    refine ⟨⟨⟨h.base.mono hc, rfl, by have := h.pos; omega, fun _ _ m => by simp at m⟩, by rw [List.length_set]; exact h.len, fun q hq => ?_, fun q hq h0 => ?_⟩, hc, h2, h3⟩
    · rw [gb_set s k q true hk] at hq
      by_cases e : q = k
      · rw [e]; exact ⟨h4, Int.le_refl _, .inl rfl⟩
      · rw [if_neg e] at hq
        obtain ⟨y1, y2, y3⟩ := h.yes q hq
        exact ⟨y1, by omega, .inr y3⟩
    · rw [gb_set s k q true hk] at hq
      by_cases e : q = k
      · rw [if_pos e] at hq; exact absurd hq (by simp)
      · rw [if_neg e] at hq
        exact h5 q (by rw [← h.base.len]; exact ga_lt h0) hq h0
theorem SetMid.step {D : List Int} {s : List Bool} {c w : Int} {k r : Nat} {pre : List (Nat × Int)} (ok : GOk nb n) (h : SetMid nb n a D s c k pre) (m : (r, w) ∈ nb k) :
    SetMid nb n a (relax1 k D (r, w)) s c k (pre ++ [(r, w)]) := by
  obtain ⟨h1, hc⟩ := h.mid.step ok m
  have hp := h.mid.pos
  refine ⟨h1, h.len, fun q hq => ?_, fun q hq h0 => ?_⟩
  · obtain ⟨y1, y2, y3⟩ := h.yes q hq
    have e : ga (relax1 k D (r, w)) q = ga D q := by
      rcases hc q with e | ⟨_, _⟩
      · exact e
      · omega
    rw [e]
    refine ⟨y1, y2, ?_⟩
    rcases y3 with y3 | y3
    · exact .inl y3
    · exact .inr (y3.keep hc hp y1 y2)
  · rcases hc q with e | ⟨e1, _⟩
    · rw [e] at h0 ⊢; exact h.no q hq h0
    · omega
theorem SetMid.close {D : List Int} {s : List Bool} {c : Int} {k : Nat} (h : SetMid nb n a D s c k (nb k)) : Sett nb n a D s c := by
  refine ⟨h.mid.base, h.len, h.mid.pos, fun q hq => ?_, h.no⟩
  obtain ⟨y1, y2, y3⟩ := h.yes q hq
  refine ⟨y1, y2, ?_⟩
  rcases y3 with rfl | y3
  · exact fun r w m => by rw [h.mid.at_]; exact h.mid.done r w m
  · exact y3
theorem Sett.over {D : List Int} {s : List Bool} {c : Int} (h : Sett nb n a D s c) (hn : NearU D s n (-1)) : IsDist nb n a D := by
  refine h.base.fix fun q h0 => ?_
  rcases hn with ⟨_, h2⟩ | ⟨j, e, _⟩
  · cases hs : gb s q with
    | true => exact (h.yes q hs).2.2
    | false => have := h2 q (by rw [← h.base.len]; exact ga_lt h0) hs; omega
  · omega
/-- How the search begins: only the cell itself is known. -/
theorem Base.start (ha : a < n) : Base nb n a ((List.replicate n (-1)).set a 0) 0 := by
  have hl : a < (List.replicate n (-1 : Int)).length := by rw [List.length_replicate]; exact ha
  have hg : ∀ q, ga ((List.replicate n (-1)).set a 0) q = if q = a then 0 else -1 := fun q => by rw [ga_set _ _ _ _ hl, ga_none]
  refine ⟨by rw [List.length_set, List.length_replicate], fun q => ?_, by rw [hg, if_pos rfl], fun q h0 => ?_, fun q h0 => ?_⟩
  · rw [hg]; split <;> omega
  · rw [hg] at h0 ⊢
    by_cases e : q = a
    · rw [if_pos e, e]; exact .here
    · rw [if_neg e] at h0; omega
  · rw [hg] at h0
    by_cases e : q = a
    · exact .inl e
    · rw [if_neg e] at h0; omega
theorem start_ga (ha : a < n) (q : Nat) : ga ((List.replicate n (-1)).set a 0) q = if q = a then 0 else -1 := by
  rw [ga_set _ _ _ _ (by rw [List.length_replicate]; exact ha), ga_none]
theorem Sett.start (ha : a < n) : Sett nb n a ((List.replicate n (-1)).set a 0) (List.replicate n false) 0 := by
  refine ⟨Base.start ha, List.length_replicate, Int.le_refl _, fun q hq => ?_, fun q _ h0 => h0⟩
  unfold gb at hq
  rw [List.getD_eq_getElem?_getD, List.getElem?_replicate] at hq
  split at hq <;> simp at hq
end

end

section
open Go.RowKit Go.Lib

/-- A cell put into the bucket of a cost; buckets that are not there yet are made. -/
def padB (L : List (List Nat)) (v : Nat) : List (List Nat) := L ++ List.replicate (v + 1 - L.length) []
def putB (L : List (List Nat)) (i v : Nat) : List (List Nat) := L.set v (L.getD v [] ++ [i])
def addB (L : List (List Nat)) (i v : Nat) : List (List Nat) := putB (padB L v) i v
def relaxB (k : Nat) (S : List Int × List (List Nat)) (x : Nat × Int) : List Int × List (List Nat) :=
  if ga S.1 x.1 < 0 ∨ ga S.1 k + x.2 < ga S.1 x.1 then (S.1.set x.1 (ga S.1 k + x.2), addB S.2 x.1 (ga S.1 k + x.2).toNat) else S
def bk (L : List (List Nat)) (i : Nat) : List Nat := L.getD i []
/-- How many cells lie in the buckets from c on. -/
def tot (L : List (List Nat)) (c : Nat) : Nat := ((L.drop c).map List.length).sum

theorem padB_len (L : List (List Nat)) (v : Nat) : (padB L v).length = max L.length (v + 1) := by
  unfold padB; rw [List.length_append, List.length_replicate]; omega
theorem padB_lt (L : List (List Nat)) (v : Nat) : v < (padB L v).length := by rw [padB_len]; omega
theorem padB_bk (L : List (List Nat)) (v i : Nat) : bk (padB L v) i = bk L i := by
  unfold bk padB
  rw [List.getD_eq_getElem?_getD, List.getD_eq_getElem?_getD, List.getElem?_append]
  split
  · rfl
  · rw [List.getElem?_replicate, List.getElem?_eq_none (by omega)]; split <;> rfl
theorem putB_len (L : List (List Nat)) (i v : Nat) : (putB L i v).length = L.length := by unfold putB; rw [List.length_set]
theorem putB_bk (L : List (List Nat)) (i v j : Nat) (hv : v < L.length) : bk (putB L i v) j = if j = v then bk L v ++ [i] else bk L j := by
  unfold bk putB
  rw [List.getD_eq_getElem?_getD, List.getElem?_set]
  by_cases e : j = v
  · rw [if_pos e, if_pos e.symm, if_pos hv]; rfl
  · rw [if_neg e, if_neg (fun h => e h.symm), ← List.getD_eq_getElem?_getD]
theorem addB_len (L : List (List Nat)) (i v : Nat) : (addB L i v).length = max L.length (v + 1) := by unfold addB; rw [putB_len, padB_len]
theorem addB_bk (L : List (List Nat)) (i v j : Nat) : bk (addB L i v) j = if j = v then bk L v ++ [i] else bk L j := by
  unfold addB
  rw [putB_bk _ _ _ _ (padB_lt L v), padB_bk, padB_bk]
theorem tot_pad (L : List (List Nat)) (v c : Nat) : tot (padB L v) c = tot L c := by
  unfold tot padB
  rw [List.drop_append, List.map_append, List.sum_append, List.drop_replicate, List.map_replicate]
  simp
theorem tot_put : ∀ (L : List (List Nat)) (i v c : Nat), c ≤ v → v < L.length → tot (putB L i v) c = tot L c + 1
  | [], _, _, _, _, h => by simp at h
  | x :: L, i, 0, 0, _, _ => by
    show ((x ++ [i]).length :: L.map List.length).sum = (x.length :: L.map List.length).sum + 1
    rw [List.sum_cons, List.sum_cons, List.length_append]
    simp only [List.length_cons, List.length_nil]
    omega
  | x :: L, i, v + 1, 0, _, h => by
    have ih := tot_put L i v 0 (Nat.zero_le _) (by simpa using h)
    show (x.length :: (putB L i v).map List.length).sum = (x.length :: L.map List.length).sum + 1
    rw [List.sum_cons, List.sum_cons]
    have e1 : ((putB L i v).map List.length).sum = tot (putB L i v) 0 := rfl
    have e2 : (L.map List.length).sum = tot L 0 := rfl
    rw [e1, e2, ih]; omega
  | x :: L, i, v + 1, c + 1, hc, h => tot_put L i v c (by omega) (by simpa using h)
theorem tot_add (L : List (List Nat)) (i v c : Nat) (h : c ≤ v) : tot (addB L i v) c = tot L c + 1 := by
  unfold addB
  rw [tot_put _ _ _ _ h (padB_lt L v), tot_pad]
theorem tot_next (L : List (List Nat)) (c : Nat) : tot L c = (bk L c).length + tot L (c + 1) := by
  unfold tot bk
  by_cases h : c < L.length
  · rw [List.drop_eq_getElem_cons h, List.map_cons, List.sum_cons, List.getD_eq_getElem?_getD, List.getElem?_eq_getElem h]; rfl
  · rw [List.drop_eq_nil_of_le (by omega), List.drop_eq_nil_of_le (by omega), List.getD_eq_getElem?_getD, List.getElem?_eq_none (by omega)]; rfl
theorem tot_end (L : List (List Nat)) (c : Nat) (h : L.length ≤ c) : tot L c = 0 := by
  unfold tot; rw [List.drop_eq_nil_of_le h]; rfl

section
variable {nb : Nb} {n a : Nat}
/-- What the search has come to: at the cost c, with the cells R of its bucket still to be examined; k: the cell that is being examined. -/
structure Bkt (nb : Nb) (n a : Nat) (D : List Int) (L : List (List Nat)) (c : Nat) (R : List Nat) (pend : Nat → Prop) : Prop where
  base : Base nb n a D c
  early : ∀ q, 0 ≤ ga D q → ga D q < c → Rel nb D q
  now : ∀ q, ga D q = c → Rel nb D q ∨ q ∈ R ∨ pend q
  late : ∀ q, (c : Int) < ga D q → q ∈ bk L (ga D q).toNat
  okR : ∀ q, q ∈ R → q < n
  okL : ∀ i, c < i → ∀ q, q ∈ bk L i → q < n ∧ 0 ≤ ga D q ∧ ga D q ≤ i
  nd : ∀ i, c < i → (bk L i).Nodup
  lenL : L.length ≤ 19 * n + 1
theorem bk_lt {L : List (List Nat)} {i q : Nat} (h : q ∈ bk L i) : i < L.length := by
  apply Classical.byContradiction
  intro hn
  unfold bk at h
  rw [List.getD_eq_getElem?_getD, List.getElem?_eq_none (by omega)] at h
  simp at h
theorem Bkt.small {D : List Int} {L : List (List Nat)} {c : Nat} {R : List Nat} {pe : Nat → Prop} (h : Bkt nb n a D L c R pe) {i : Nat} (hi : c < i) : (bk L i).length ≤ n :=
  nodup_lt (h.nd i hi) (fun q hq => (h.okL i hi q hq).1)
theorem sum_le (l : List Nat) (b : Nat) (h : ∀ x ∈ l, x ≤ b) : l.sum ≤ l.length * b := by
  induction l with
  | nil => simp
  | cons x l ih =>
    have h1 := h x List.mem_cons_self
    have h2 := ih (fun y hy => h y (List.mem_cons_of_mem _ hy))
    rw [List.sum_cons, List.length_cons, Nat.succ_mul]
    omega
theorem Bkt.total {D : List Int} {L : List (List Nat)} {c : Nat} {R : List Nat} {pe : Nat → Prop} (h : Bkt nb n a D L c R pe) : tot L (c + 1) ≤ (19 * n + 1) * n := by
  unfold tot
  refine Nat.le_trans (sum_le _ n fun x hx => ?_) (Nat.mul_le_mul_right n ?_)
  · obtain ⟨l, hl, rfl⟩ := List.mem_map.1 hx
    obtain ⟨j, hj, e⟩ := List.mem_iff_getElem.1 hl
    rw [List.getElem_drop] at e
    have := h.small (i := c + 1 + j) (by omega)
    unfold bk at this
    rw [List.length_drop] at hj
    rw [List.getD_eq_getElem?_getD, List.getElem?_eq_getElem (by omega), e] at this
    exact this
  · rw [List.length_map, List.length_drop]; have := h.lenL; omega
/-- A cell of the bucket is taken out: it is examined, or its cost is another one by now. -/
theorem Bkt.skip {D : List Int} {L : List (List Nat)} {c k : Nat} {R : List Nat} (h : Bkt nb n a D L c (k :: R) (fun _ => False)) (hk : ga D k ≠ c) : Bkt nb n a D L c R (fun _ => False) :=
  ⟨h.base, h.early, fun q hq => by
    rcases h.now q hq with e | e | e
    · exact .inl e
    · rcases List.mem_cons.1 e with rfl | e
      · exact absurd hq hk
      · exact .inr (.inl e)
    · exact e.elim, h.late, fun q hq => h.okR q (List.mem_cons_of_mem _ hq), h.okL, h.nd, h.lenL⟩
theorem Bkt.take {D : List Int} {L : List (List Nat)} {c k : Nat} {R : List Nat} (h : Bkt nb n a D L c (k :: R) (fun _ => False)) (hk : ga D k = c) :
    Bkt nb n a D L c R (fun q => q = k) ∧ Mid nb n a k c D [] :=
  ⟨⟨h.base, h.early, fun q hq => by
    rcases h.now q hq with e | e | e
    · exact .inl e
    · rcases List.mem_cons.1 e with rfl | e
      · exact .inr (.inr rfl)
      · exact .inr (.inl e)
    · exact e.elim, h.late, fun q hq => h.okR q (List.mem_cons_of_mem _ hq), h.okL, h.nd, h.lenL⟩, h.base, hk, by omega, fun _ _ m => by simp at m⟩
theorem relaxB_fst (k : Nat) (S : List Int × List (List Nat)) (x : Nat × Int) : (relaxB k S x).1 = relax1 k S.1 x := by
  unfold relaxB relax1; split <;> rfl
theorem Bkt.step {D : List Int} {L : List (List Nat)} {c k r : Nat} {w : Int} {R : List Nat} {pre : List (Nat × Int)} (ok : GOk nb n) (ha : a < n) (h : Bkt nb n a D L c R (fun q => q = k)) (hm : Mid nb n a k c D pre) (m : (r, w) ∈ nb k) :
    Bkt nb n a (relaxB k (D, L) (r, w)).1 (relaxB k (D, L) (r, w)).2 c R (fun q => q = k) ∧ Mid nb n a k c (relaxB k (D, L) (r, w)).1 (pre ++ [(r, w)]) := by
  obtain ⟨hm2, hc⟩ := hm.step ok m
  have hw := ok.pos _ _ _ m
  have hrn := (ok.lt _ _ _ m).2
  have hr : r < D.length := by rw [h.base.len]; exact hrn
  have hat := hm.at_
  rw [relaxB_fst]
  refine ⟨?_, hm2⟩
  have hb := hm2.base.bound ok ha
  by_cases hcd : ga D r < 0 ∨ (c : Int) + w < ga D r
  · have e1 : relax1 k D (r, w) = D.set r (c + w) := by unfold relax1; dsimp only; rw [hat, if_pos hcd]
    have e2 : (relaxB k (D, L) (r, w)).2 = addB L r ((c : Int) + w).toNat := by unfold relaxB; dsimp only; rw [hat, if_pos hcd]
    obtain ⟨v, hv⟩ : ∃ v : Nat, v = ((c : Int) + w).toNat := ⟨_, rfl⟩
    have hvc : (v : Int) = c + w := by omega
    rw [e2, ← hv]
    rw [e1, ← hvc] at hm2 hc hb ⊢
    have hg : ∀ q, ga (D.set r v) q = if q = r then (v : Int) else ga D q := fun q => ga_set D r q _ hr
    have hb' := hb r
    rw [hg, if_pos rfl] at hb'
    have keep : ∀ q, ga (D.set r v) q ≤ c → ga (D.set r v) q = ga D q := fun q hq => by
      rw [hg] at hq ⊢; by_cases e : q = r
      · rw [if_pos e] at hq; omega
      · rw [if_neg e]
    refine ⟨hm2.base, fun q h0 hq => ?_, fun q hq => ?_, fun q hq => ?_, h.okR, fun i hi q hq => ?_, fun i hi => ?_, ?_⟩
    · have e := keep q (by omega)
      rw [e] at h0 hq
      exact (h.early q h0 hq).keep hc (by omega) h0 (by omega)
    · have e := keep q (by omega)
      rw [e] at hq
      rcases h.now q hq with h1 | h1
      · exact .inl (h1.keep hc (by omega) (by omega) (by omega))
      · exact .inr h1
    · rw [hg] at hq ⊢
      rw [addB_bk]
      by_cases e : q = r
      · rw [if_pos e, Int.toNat_natCast, if_pos rfl, e]; simp
      · rw [if_neg e] at hq ⊢
        have := h.late q hq
        split
        · next e3 => rw [← e3]; exact List.mem_append_left _ this
        · exact this
    · rw [addB_bk] at hq
      have hold : q ∈ bk L i → q < n ∧ 0 ≤ ga (D.set r v) q ∧ ga (D.set r v) q ≤ i := fun hq => by
        obtain ⟨y1, y2, y3⟩ := h.okL i hi q hq
        refine ⟨y1, ?_⟩
        rw [hg]
        by_cases e : q = r
        · rw [e] at y2 y3
          rw [if_pos e]; omega
        · rw [if_neg e]; exact ⟨y2, y3⟩
      by_cases e : i = v
      · rw [if_pos e, List.mem_append, List.mem_singleton] at hq
        rcases hq with hq | rfl
        · exact hold (by rw [e]; exact hq)
        · rw [hg, if_pos rfl, e]; exact ⟨hrn, by omega, Int.le_refl _⟩
      · rw [if_neg e] at hq; exact hold hq
    · rw [addB_bk]
      by_cases e : i = v
      · rw [if_pos e]
        have hnr : r ∉ bk L v := fun hin => by
          obtain ⟨_, y2, y3⟩ := h.okL v (by omega) r hin
          omega
        refine List.nodup_append.2 ⟨h.nd v (by omega), by simp, fun x hx y hy => ?_⟩
        rw [List.mem_singleton] at hy
        rw [hy]
        exact fun e' => hnr (e' ▸ hx)
      · rw [if_neg e]; exact h.nd i hi
    · rw [addB_len]
      have := h.lenL
      omega
  · have e1 : relax1 k D (r, w) = D := by unfold relax1; dsimp only; rw [hat, if_neg hcd]
    have e2 : (relaxB k (D, L) (r, w)).2 = L := by unfold relaxB; dsimp only; rw [hat, if_neg hcd]
    rw [e1, e2]
    exact h
theorem Bkt.close {D : List Int} {L : List (List Nat)} {c k : Nat} {R : List Nat} (h : Bkt nb n a D L c R (fun q => q = k)) (hm : Mid nb n a k c D (nb k)) : Bkt nb n a D L c R (fun _ => False) :=
  ⟨h.base, h.early, fun q hq => by
    rcases h.now q hq with e | e | e
    · exact .inl e
    · exact .inr (.inl e)
    · rw [e]; exact .inl (fun r w m => by rw [hm.at_]; exact hm.done r w m), h.late, h.okR, h.okL, h.nd, h.lenL⟩
theorem Bkt.next {D : List Int} {L : List (List Nat)} {c : Nat} (h : Bkt nb n a D L c [] (fun _ => False)) : Bkt nb n a D L (c + 1) (bk L (c + 1)) (fun _ => False) :=
  ⟨h.base.mono (by omega), fun q h0 hq => by
    by_cases e : ga D q = c
    · rcases h.now q e with e | e | e
      · exact e
      · simp at e
      · exact e.elim
    · exact h.early q h0 (by omega), fun q hq => by
      have := h.late q (by omega)
      rw [show (ga D q).toNat = c + 1 by omega] at this
      exact .inr (.inl this), fun q hq => h.late q (by omega), fun q hq => (h.okL (c + 1) (by omega) q hq).1, fun i hi => h.okL i (by omega), fun i hi => h.nd i (by omega), h.lenL⟩
theorem Bkt.over {D : List Int} {L : List (List Nat)} {c : Nat} (h : Bkt nb n a D L c [] (fun _ => False)) (hL : L.length ≤ c + 1) : IsDist nb n a D := by
  refine h.base.fix fun q h0 => ?_
  by_cases hq : ga D q < c
  · exact h.early q h0 hq
  · by_cases e : ga D q = c
    · rcases h.now q e with e | e | e
      · exact e
      · simp at e
      · exact e.elim
    · have := bk_lt (h.late q (by omega)); omega
/-- How the search begins: the cell alone, in the first bucket. -/
theorem Bkt.start (ha : a < n) : Bkt nb n a ((List.replicate n (-1)).set a 0) [[a]] 0 [a] (fun _ => False) := by
  refine ⟨Base.start ha, fun q _ _ => by omega, fun q hq => ?_, fun q hq => ?_, fun q hq => ?_, fun i hi q hq => ?_, fun i hi => ?_, ?_⟩
  · rw [start_ga ha] at hq
    by_cases e : q = a
    · rw [e]; simp
    · rw [if_neg e] at hq; omega
  · rw [start_ga ha] at hq
    split at hq <;> omega
  · rw [List.mem_singleton.1 hq]; exact ha
  · have := bk_lt hq
    simp at this
    omega
  · unfold bk
    rw [List.getD_eq_getElem?_getD, List.getElem?_eq_none (by simp; omega)]; simp
  · simp
end

end

section
open Go.RowKit Go.Lib

/-- The next cell of the way that is left: the first in which the rest has the least cost. -/
def nextG (nb : Nb) (l : List Int) (p : Nat) : Option (Nat × Int) := (nb p).find? fun x => decide (x.2 + ga l x.1 = ga l p)
def descG (nb : Nb) (l : List Int) : Nat → Nat → List Nat
  | 0, p => [p]
  | f + 1, p => match nextG nb l p with
    | none => [p]
    | some x => p :: descG nb l f x.1
/-- A list of cells that is a way, and its cost. -/
inductive Run (nb : Nb) : List Nat → Int → Prop
  | one (p : Nat) : Run nb [p] 0
  | cons {p q : Nat} {w c : Int} {t : List Nat} : (q, w) ∈ nb p → Run nb (q :: t) c → Run nb (p :: q :: t) (w + c)

section
variable {nb : Nb} {n b : Nat}
theorem next_some {l : List Int} {p q : Nat} {w : Int} (h : nextG nb l p = some (q, w)) : (q, w) ∈ nb p ∧ w + ga l q = ga l p := by
  unfold nextG at h
  exact ⟨List.mem_of_find?_eq_some h, by have := List.find?_some h; exact of_decide_eq_true this⟩
theorem next_goal {l : List Int} (ok : GOk nb n) (hb : b < n) (h : IsDist nb n b l) : nextG nb l b = none := by
  unfold nextG
  refine List.find?_eq_none.2 fun x hx => ?_
  have h0 : ga l b = 0 := by have := h.least ok hb (.here); omega
  have hw := ok.pos _ _ _ hx
  have := h.least ok hb (Way.one hx)
  rw [h0]
  simp only [decide_eq_true_eq]
  omega
theorem asdist_zero {l : List Int} (ok : GOk nb n) (hb : b < n) (h : IsDist nb n b l) {p : Nat} : ga l p = 0 ↔ p = b := by
  constructor
  · intro e; exact (h.way (by omega)).zero ok e
  · rintro rfl; have := h.least ok hb (.here); omega
theorem next_there {l : List Int} (ok : GOk nb n) (hb : b < n) (h : IsDist nb n b l) {p : Nat} (hp : 0 ≤ ga l p) (hne : p ≠ b) : ∃ q w, nextG nb l p = some (q, w) ∧ (q, w) ∈ nb p ∧ ga l q = ga l p - w ∧ 0 ≤ ga l q := by
  have hw := h.way hp
  have key : ∃ x, x ∈ nb p ∧ x.2 + ga l x.1 = ga l p := by
    generalize e : ga l p = d at hw
    cases hw with
    | here => exact absurd rfl hne
    | step k m =>
      rename_i r c w
      have h1 := h.least ok hb k
      have hm := ok.sym _ _ _ m
      have h2 := h.least ok hb ((h.way h1.1).step m)
      exact ⟨(r, w), hm, by dsimp only; omega⟩
  cases hn : nextG nb l p with
  | none =>
    obtain ⟨x, hx, e⟩ := key
    unfold nextG at hn
    have := List.find?_eq_none.1 hn x hx
    simp [e] at this
  | some x =>
    obtain ⟨q, w⟩ := x
    obtain ⟨h1, h2⟩ := next_some hn
    have hq := h.least ok hb ((h.way hp).step h1)
    exact ⟨q, w, rfl, h1, by omega, hq.1⟩
theorem desc_more {l : List Int} (ok : GOk nb n) (hb : b < n) (h : IsDist nb n b l) : ∀ (f g p : Nat), 0 ≤ ga l p → ga l p ≤ f → ga l p ≤ g → descG nb l f p = descG nb l g p := by
  intro f
  induction f with
  | zero =>
    intro g p h0 hf _
    obtain rfl := (asdist_zero ok hb h).1 (show ga l p = 0 by simp at hf; omega)
    cases g with
    | zero => rfl
    | succ g => rw [descG, descG, next_goal ok hb h]
  | succ f ih =>
    intro g p h0 hf hg
    by_cases e : p = b
    · subst e
      rw [descG, next_goal ok hb h]
      cases g with
      | zero => rfl
      | succ g => rw [descG, next_goal ok hb h]
    · obtain ⟨q, w, hn, hm, e1, e2⟩ := next_there ok hb h h0 e
      have hw := ok.pos _ _ _ hm
      cases g with
      | zero => exact absurd ((asdist_zero ok hb h).1 (by simp at hg; omega)) e
      | succ g =>
        rw [descG, descG, hn]
        dsimp only
        rw [ih g q e2 (by push_cast at hf; omega) (by push_cast at hg; omega)]
/-- The whole way from p. -/
def pathG (nb : Nb) (l : List Int) (p : Nat) : List Nat := descG nb l (ga l p).toNat p
theorem path_goal {l : List Int} (ok : GOk nb n) (hb : b < n) (h : IsDist nb n b l) : pathG nb l b = [b] := by
  unfold pathG
  rw [(asdist_zero ok hb h).2 rfl]
  rfl
theorem path_step {l : List Int} (ok : GOk nb n) (hb : b < n) (h : IsDist nb n b l) {p q : Nat} {w : Int} (h0 : 0 ≤ ga l p) (hn : nextG nb l p = some (q, w)) :
    pathG nb l p = p :: pathG nb l q ∧ 0 ≤ ga l q ∧ ga l q < ga l p := by
  obtain ⟨h1, h2⟩ := next_some hn
  have hw := ok.pos _ _ _ h1
  have hq := h.least ok hb ((h.way h0).step h1)
  refine ⟨?_, hq.1, by omega⟩
  unfold pathG
  obtain ⟨k, hk⟩ : ∃ k, (ga l p).toNat = k + 1 := ⟨(ga l p).toNat - 1, by omega⟩
  rw [hk, descG, hn]
  dsimp only
  rw [desc_more ok hb h k (ga l q).toNat q hq.1 (by omega) (by omega)]
theorem path_head (l : List Int) (p : Nat) : ∃ t, pathG nb l p = p :: t := by
  unfold pathG
  cases (ga l p).toNat with
  | zero => exact ⟨[], rfl⟩
  | succ k =>
    rw [descG]
    split
    · exact ⟨[], rfl⟩
    · exact ⟨_, rfl⟩
theorem path_run {l : List Int} (ok : GOk nb n) (hb : b < n) (h : IsDist nb n b l) : ∀ (k : Nat) (p : Nat), 0 ≤ ga l p → ga l p ≤ k → Run nb (pathG nb l p) (ga l p) ∧ (pathG nb l p).getLast? = some b ∧ (pathG nb l p).length ≤ k + 1 := by
  intro k
  induction k with
  | zero =>
    intro p h0 hk
    obtain rfl := (asdist_zero ok hb h).1 (show ga l p = 0 by simp at hk; omega)
    rw [path_goal ok hb h, (asdist_zero ok hb h).2 rfl]
    exact ⟨.one p, rfl, by simp⟩
  | succ k ih =>
    intro p h0 hk
    by_cases e : p = b
    · subst e
      rw [path_goal ok hb h, (asdist_zero ok hb h).2 rfl]
      exact ⟨.one p, rfl, by simp⟩
    · obtain ⟨q, w, hn, hm, e1, e2⟩ := next_there ok hb h h0 e
      obtain ⟨s1, _, s3⟩ := path_step ok hb h h0 hn
      have hw := ok.pos _ _ _ hm
      obtain ⟨r1, r2, r3⟩ := ih q e2 (by push_cast at hk; omega)
      obtain ⟨t, ht⟩ := path_head (nb := nb) l q
      rw [s1]
      rw [ht] at r1 r2 r3 ⊢
      refine ⟨?_, ?_, ?_⟩
      · rw [show ga l p = w + ga l q by omega]; exact .cons hm r1
      · rw [List.getLast?_cons_cons]; exact r2
      · simp only [List.length_cons] at r3 ⊢; omega
/-- A way of cells is a way. -/
theorem Run.way {c : Int} : ∀ {t : List Nat} {p q : Nat}, Run nb (p :: t) c → (p :: t).getLast? = some q → Way nb p q c := by
  intro t
  induction t generalizing c with
  | nil =>
    intro p q h hq
    cases h
    simp at hq
    subst hq
    exact .here
  | cons r t ih =>
    intro p q h hq
    cases h with
    | cons m k =>
      rw [List.getLast?_cons_cons] at hq
      exact (Way.one m).trans (ih k hq)

def Conn (nb : Nb) (a b : Nat) : Prop := ∃ c, Way nb a b c
theorem Conn.refl (a : Nat) : Conn nb a a := ⟨0, .here⟩
theorem Conn.trans {a b c : Nat} (h : Conn nb a b) (k : Conn nb b c) : Conn nb a c := by
  obtain ⟨x, h⟩ := h
  obtain ⟨y, k⟩ := k
  exact ⟨_, h.trans k⟩
theorem Conn.symm {a b : Nat} (ok : GOk nb n) (h : Conn nb a b) : Conn nb b a := by
  obtain ⟨x, h⟩ := h
  exact ⟨x, h.symm ok⟩
theorem Conn.lt {a b : Nat} (ok : GOk nb n) (h : Conn nb a b) (ha : a < n) : b < n := by
  obtain ⟨x, h⟩ := h
  exact h.lt ok ha
/-- The regions of the free cells, as far as they are named by cells below i. -/
structure Regs (nb : Nb) (n : Nat) (free : Nat → Prop) (i : Nat) (R : List Int) : Prop where
  len : R.length = n
  yes : ∀ q, q < n → free q → ∀ j, j < i → Conn nb j q → ∃ k : Nat, ga R q = k ∧ k ≤ j ∧ Conn nb k q ∧ ∀ j', Conn nb j' q → k ≤ j'
  no : ∀ q, q < n → (¬ free q ∨ ∀ j, j < i → ¬ Conn nb j q) → ga R q = -1
theorem Regs.start (free : Nat → Prop) : Regs nb n free 0 (List.replicate n (-1)) :=
  ⟨List.length_replicate, fun _ _ _ j hj => by omega, fun q _ _ => ga_none n q⟩
/-- A cell that has no region yet is the first of its region. -/
theorem Regs.first {free : Nat → Prop} {i : Nat} {R : List Int} (h : Regs nb n free i R) (_hf : ∀ p q, Conn nb p q → p ≠ q → free p ∧ free q) (hi : i < n) (hfr : free i) (hr : ga R i = -1) : ∀ j, Conn nb j i → i ≤ j := fun j hj =>
  Nat.not_lt.1 fun hlt => by
    obtain ⟨k, e, _⟩ := h.yes i hi hfr j hlt hj
    omega
theorem Regs.skip {free : Nat → Prop} {i : Nat} {R : List Int} (h : Regs nb n free i R) (_ok : GOk nb n) (hf : ∀ p q, Conn nb p q → p ≠ q → free p ∧ free q) (hi : i < n) (hs : ga R i ≠ -1 ∨ ¬ free i) : Regs nb n free (i + 1) R := by
  refine ⟨h.len, fun q hq hfq j hj hc => ?_, fun q hq ho => ?_⟩
  · by_cases e : j < i
    · exact h.yes q hq hfq j e hc
    · obtain rfl : j = i := by omega
      have hfj : free j := by
        by_cases e2 : j = q
        · rw [e2]; exact hfq
        · exact (hf _ _ hc e2).1
      rcases hs with hs | hs
      · have : ∃ j', j' < j ∧ Conn nb j' j := by
          apply Classical.byContradiction
          intro hn
          exact hs (h.no j hi (.inr fun j' hj' hc' => hn ⟨j', hj', hc'⟩))
        obtain ⟨j', hj', hc'⟩ := this
        obtain ⟨k, k1, k2, k3, k4⟩ := h.yes q hq hfq j' hj' (hc'.trans hc)
        exact ⟨k, k1, by omega, k3, k4⟩
      · exact absurd hfj hs
  · refine h.no q hq ?_
    rcases ho with ho | ho
    · exact .inl ho
    · exact .inr fun j hj => ho j (by omega)
/-- What is filled from the cell i: R0 before, R now, F still to be looked at. -/
structure Fill (nb : Nb) (n : Nat) (i : Nat) (R0 R : List Int) (F : List Nat) (pend : Nat → Prop) : Prop where
  len : R.length = n
  old : ∀ q, ga R q = ga R0 q ∨ (ga R0 q = -1 ∧ ga R q = i ∧ Conn nb i q)
  here : ga R i = i
  stk : ∀ q, q ∈ F → ga R q = i ∧ ga R0 q = -1
  done : ∀ q, ga R q = i → ga R0 q = -1 → q ∈ F ∨ pend q ∨ ∀ r w, (r, w) ∈ nb q → ga R r ≠ -1
theorem Fill.start {i : Nat} {R0 : List Int} (hl : R0.length = n) (hi : i < n) (hr : ga R0 i = -1) : Fill nb n i R0 (R0.set i i) [i] (fun _ => False) := by
  have hg : ∀ q, ga (R0.set i i) q = if q = i then (i : Int) else ga R0 q := fun q => ga_set R0 i q _ (by omega)
  refine ⟨by rw [List.length_set]; exact hl, fun q => ?_, by rw [hg, if_pos rfl], fun q hq => ?_, fun q hq h0 => ?_⟩
  · rw [hg]
    by_cases e : q = i
    · rw [if_pos e, e]; exact .inr ⟨hr, rfl, .refl i⟩
    · rw [if_neg e]; exact .inl rfl
  · rw [List.mem_singleton.1 hq, hg, if_pos rfl]; exact ⟨rfl, hr⟩
  · rw [hg] at hq
    by_cases e : q = i
    · exact .inl (by rw [e]; simp)
    · rw [if_neg e] at hq; omega
theorem Fill.pop {i p : Nat} {R0 R : List Int} {F : List Nat} (h : Fill nb n i R0 R (F ++ [p]) (fun _ => False)) : Fill nb n i R0 R F (fun q => q = p) ∧ ga R p = i ∧ ga R0 p = -1 := by
  refine ⟨⟨h.len, h.old, h.here, fun q hq => h.stk q (List.mem_append_left _ hq), fun q hq h0 => ?_⟩, h.stk p (by simp)⟩
  rcases h.done q hq h0 with e | e | e
  · rcases List.mem_append.1 e with e | e
    · exact .inl e
    · exact .inr (.inl (List.mem_singleton.1 e))
  · exact e.elim
  · exact .inr (.inr e)
theorem Fill.mark {i p r : Nat} {w : Int} {R0 R : List Int} {F : List Nat} (ok : GOk nb n) (h : Fill nb n i R0 R F (fun q => q = p)) (hp : ga R p = i ∧ ga R0 p = -1) (m : (r, w) ∈ nb p) (hr : ga R r = -1) :
    Fill nb n i R0 (R.set r i) (F ++ [r]) (fun q => q = p) := by
  have hrn := (ok.lt _ _ _ m).2
  have hg : ∀ q, ga (R.set r i) q = if q = r then (i : Int) else ga R q := fun q => ga_set R r q _ (by rw [h.len]; exact hrn)
  have hr0 : ga R0 r = -1 := by
    rcases h.old r with e | e
    · rw [← e]; exact hr
    · exact e.1
  have hc : Conn nb i p := by
    rcases h.old p with e | e
    · omega
    · exact e.2.2
  refine ⟨by rw [List.length_set]; exact h.len, fun q => ?_, ?_, fun q hq => ?_, fun q hq h0 => ?_⟩
  · rw [hg]
    by_cases e : q = r
    · rw [if_pos e, e]; exact .inr ⟨hr0, rfl, hc.trans ⟨w, .one m⟩⟩
    · rw [if_neg e]; exact h.old q
  · rw [hg]; split
    · rfl
    · exact h.here
  · rw [hg]
    rcases List.mem_append.1 hq with hq | hq
    · have := h.stk q hq
      by_cases e : q = r
      · rw [if_pos e]; exact ⟨rfl, this.2⟩
      · rw [if_neg e]; exact this
    · rw [List.mem_singleton.1 hq, if_pos rfl]; exact ⟨rfl, hr0⟩
  · rw [hg] at hq
    by_cases e : q = r
    · exact .inl (by rw [e]; simp)
    · rw [if_neg e] at hq
      rcases h.done q hq h0 with e2 | e2 | e2
      · exact .inl (List.mem_append_left _ e2)
      · exact .inr (.inl e2)
      · refine .inr (.inr fun r' w' m' => ?_)
        rw [hg]; split
        · omega
        · exact e2 r' w' m'
theorem Fill.close {i p : Nat} {R0 R : List Int} {F : List Nat} (h : Fill nb n i R0 R F (fun q => q = p)) (hd : ∀ r w, (r, w) ∈ nb p → ga R r ≠ -1) : Fill nb n i R0 R F (fun _ => False) :=
  ⟨h.len, h.old, h.here, h.stk, fun q hq h0 => by
    rcases h.done q hq h0 with e | e | e
    · exact .inl e
    · rw [e]; exact .inr (.inr hd)
    · exact .inr (.inr e)⟩
/-- The region of a first cell is filled: what all of it comes to. -/
theorem Fill.over {free : Nat → Prop} {i : Nat} {R0 R : List Int} (ok : GOk nb n) (h0 : Regs nb n free i R0) (hf : ∀ p q, Conn nb p q → p ≠ q → free p ∧ free q) (hi : i < n) (hfr : free i) (hr : ga R0 i = -1)
    (h : Fill nb n i R0 R [] (fun _ => False)) : Regs nb n free (i + 1) R := by
  have first := h0.first hf hi hfr hr
  have un : ∀ q, Conn nb i q → ga R0 q = -1 := fun q hc => h0.no q (hc.lt ok hi) (.inr fun j hj hc' => by
    have := first j (hc'.trans (hc.symm ok)); omega)
  have all : ∀ q c, Way nb i q c → ga R q = i := by
    intro q c w
    induction w with
    | here => exact h.here
    | step k m ih =>
      rename_i p r c w
      have hp := un p ⟨_, k⟩
      rcases h.done p ih hp with e | e | e
      · simp at e
      · exact e.elim
      · have hne := e _ _ m
        rcases h.old r with e2 | e2
        · rw [un r ⟨_, k.step m⟩] at e2; exact absurd e2 hne
        · exact e2.2.1
  refine ⟨h.len, fun q hq hfq j hj hc => ?_, fun q hq ho => ?_⟩
  · by_cases e : Conn nb i q
    · obtain ⟨c, w⟩ := e
      refine ⟨i, all q c w, ?_, ⟨c, w⟩, fun j' hj' => first j' (hj'.trans (Conn.symm ok ⟨c, w⟩))⟩
      exact first j (hc.trans (Conn.symm ok ⟨c, w⟩))
    · have hj' : j < i := by
        apply Classical.byContradiction
        intro hn
        obtain rfl : j = i := by omega
        exact e hc
      rcases h.old q with e2 | e2
      · rw [e2]; exact h0.yes q hq hfq j hj' hc
      · exact absurd e2.2.2 e
  · have hn : ¬ Conn nb i q := fun hc => by
      rcases ho with ho | ho
      · by_cases e2 : i = q
        · rw [e2] at hfr; exact ho hfr
        · exact ho (hf _ _ hc e2).2
      · exact ho i (by omega) hc
    rcases h.old q with e | e
    · rw [e]
      refine h0.no q hq ?_
      rcases ho with ho | ho
      · exact .inl ho
      · exact .inr fun j hj => ho j (by omega)
    · exact absurd e.2.2 hn
/-- The reference's way: all that can be reached from a first cell. -/
theorem Regs.reach {free : Nat → Prop} {i : Nat} {R0 R : List Int} (ok : GOk nb n) (h0 : Regs nb n free i R0) (hf : ∀ p q, Conn nb p q → p ≠ q → free p ∧ free q) (hi : i < n) (hfr : free i) (hr : ga R0 i = -1) (hl : R.length = n)
    (h1 : ∀ q, q < n → Conn nb i q → ga R q = i) (h2 : ∀ q, q < n → ¬ Conn nb i q → ga R q = ga R0 q) : Regs nb n free (i + 1) R := by
  have first := h0.first hf hi hfr hr
  refine ⟨hl, fun q hq hfq j hj hc => ?_, fun q hq ho => ?_⟩
  · by_cases e : Conn nb i q
    · refine ⟨i, h1 q hq e, first j (hc.trans (e.symm ok)), e, fun j' hj' => first j' (hj'.trans (e.symm ok))⟩
    · have hj' : j < i := by
        apply Classical.byContradiction
        intro hn
        obtain rfl : j = i := by omega
        exact e hc
      rw [h2 q hq e]; exact h0.yes q hq hfq j hj' hc
  · have hn : ¬ Conn nb i q := fun hc => by
      rcases ho with ho | ho
      · by_cases e2 : i = q
        · rw [e2] at hfr; exact ho hfr
        · exact ho (hf _ _ hc e2).2
      · exact ho i (by omega) hc
    rw [h2 q hq hn]
    refine h0.no q hq ?_
    rcases ho with ho | ho
    · exact .inl ho
    · exact .inr fun j hj => ho j (by omega)
theorem Regs.eq {free : Nat → Prop} {R S : List Int} (h : Regs nb n free n R) (k : Regs nb n free n S) : R = S := by
  refine List.ext_getElem (by rw [h.len, k.len]) fun q h1 h2 => ?_
  rw [← ga_at h1, ← ga_at h2]
  have hq : q < n := by rw [← h.len]; exact h1
  by_cases hf : free q
  · obtain ⟨a, a1, _, a3, a4⟩ := h.yes q hq hf q hq (.refl q)
    obtain ⟨b, b1, _, b3, b4⟩ := k.yes q hq hf q hq (.refl q)
    have := a4 b b3; have := b4 a a3
    omega
  · rw [h.no q hq (.inl hf), k.no q hq (.inl hf)]
end

end

section
open Go.RowKit Go.Lib

abbrev Pt := Int × Int
def posn (m : M3) (i : Nat) : Pt := (atx m.w i, aty m.w i)
def idx (m : M3) (p : Pt) : Nat := (indexv m.w p.1 p.2).toNat
def insp (m : M3) (p : Pt) : Bool := inv m.w m.h p.1 p.2
/-- The possible steps from a position in the directions below k: where they lead, what they cost. -/
def oneD (m : M3) (bl : List Bool) (c : Int) (p : Pt) (d : Nat) : List (Pt × Int) := if mayv m bl c p.1 p.2 d = true then [((stx p.1 d, sty p.2 d), costv m bl c p.1 p.2 d)] else []
def nbGo (m : M3) (bl : List Bool) (c : Int) (p : Pt) (k : Nat) : List (Pt × Int) := (List.range k).flatMap (oneD m bl c p)
def nbp (m : M3) (bl : List Bool) (c : Int) (p : Pt) : List (Pt × Int) := nbGo m bl c p 8
theorem nbGo_succ (m : M3) (bl : List Bool) (c : Int) (p : Pt) (k : Nat) : nbGo m bl c p (k + 1) = nbGo m bl c p k ++ oneD m bl c p k := by
  unfold nbGo; rw [List.range_succ, List.flatMap_append]; simp
theorem nbGo_pre (m : M3) (bl : List Bool) (c : Int) (p : Pt) {j k : Nat} (h : j ≤ k) : nbGo m bl c p j <+: nbGo m bl c p k := by
  obtain ⟨d, rfl⟩ := Nat.exists_eq_add_of_le h
  induction d with
  | zero => exact List.prefix_refl _
  | succ d ih => exact (ih (by omega)).trans (by rw [← Nat.add_assoc, nbGo_succ]; exact List.prefix_append _ _)
theorem mem_nbGo {m : M3} {bl : List Bool} {c : Int} {p : Pt} {k : Nat} {x : Pt × Int} : x ∈ nbGo m bl c p k ↔ ∃ d : Nat, d < k ∧ mayv m bl c p.1 p.2 d = true ∧ x = ((stx p.1 d, sty p.2 d), costv m bl c p.1 p.2 d) := by
  unfold nbGo oneD
  rw [List.mem_flatMap]
  constructor
  · rintro ⟨d, hd, hx⟩
    split at hx
    · next h => exact ⟨d, List.mem_range.1 hd, h, List.mem_singleton.1 hx⟩
    · simp at hx
  · rintro ⟨d, hd, h, rfl⟩
    exact ⟨d, List.mem_range.2 hd, by rw [if_pos h]; simp⟩
theorem nbGo_len (m : M3) (bl : List Bool) (c : Int) (p : Pt) (k : Nat) : (nbGo m bl c p k).length ≤ k := by
  induction k with
  | zero => simp [nbGo]
  | succ k ih =>
    rw [nbGo_succ, List.length_append]
    unfold oneD
    split <;> simp <;> omega
def nb (m : M3) (bl : List Bool) (c : Int) : Nb := fun i => if i < m.cs.length then (nbp m bl c (posn m i)).map fun x => (idx m x.1, x.2) else []

theorem idx_posn {m : M3} (hf : formedv m = true) {i : Nat} (hi : i < m.cs.length) : idx m (posn m i) = i ∧ insp m (posn m i) = true := by
  have := pos_at hf hi
  unfold idx posn insp
  dsimp only
  rw [this.2]
  exact ⟨rfl, this.1⟩
theorem posn_idx {m : M3} (hf : formedv m = true) {p : Pt} (h : insp m p = true) : posn m (idx m p) = p ∧ idx m p < m.cs.length ∧ indexv m.w p.1 p.2 = idx m p := by
  obtain ⟨n, h1, h2, h3, h4⟩ := pos_of hf h
  have e : idx m p = n := by unfold idx; rw [h2]; rfl
  rw [e]
  exact ⟨by unfold posn; rw [← h3, ← h4], h1, h2⟩
theorem idx_inj {m : M3} (hf : formedv m = true) {p q : Pt} (hp : insp m p = true) (hq : insp m q = true) (h : idx m p = idx m q) : p = q := by
  rw [← (posn_idx hf hp).1, ← (posn_idx hf hq).1, h]
theorem ins_small {m : M3} (hf : formedv m = true) {p : Pt} (h : insp m p = true) : (0 ≤ p.1 ∧ p.1 ≤ 31) ∧ (0 ≤ p.2 ∧ p.2 ≤ 31) := by
  obtain ⟨X, Y, e1, e2, _, x2, _, y2, _⟩ := formed_num hf
  unfold insp inv at h
  have h := of_decide_eq_true h
  omega
theorem nbp_mem {m : M3} {bl : List Bool} {c : Int} {p : Pt} {x : Pt × Int} (h : x ∈ nbp m bl c p) :
    ∃ d : Int, (0 ≤ d ∧ d ≤ 7) ∧ mayv m bl c p.1 p.2 d = true ∧ x = ((stx p.1 d, sty p.2 d), costv m bl c p.1 p.2 d) := by
  obtain ⟨d, hd, hm, e⟩ := mem_nbGo.1 h
  exact ⟨d, by omega, hm, e⟩
theorem nbp_in {m : M3} {bl : List Bool} {c : Int} {p : Pt} {x : Pt × Int} (h : x ∈ nbp m bl c p) : insp m x.1 = true ∧ insp m p = true ∧ openv m bl c x.1.1 x.1.2 = true ∧ openv m bl c p.1 p.2 = true := by
  obtain ⟨d, _, hm, rfl⟩ := nbp_mem h
  have hn := may_near hm
  unfold nearv at hn
  simp only [Bool.and_eq_true] at hn
  exact ⟨(may_in hm).1, (may_in hm).2, hn.1.2, hn.1.1⟩
theorem nbp_w {m : M3} {bl : List Bool} {c : Int} {p : Pt} {x : Pt × Int} (h : x ∈ nbp m bl c p) : 10 ≤ x.2 ∧ x.2 ≤ 19 := by
  obtain ⟨d, _, hm, rfl⟩ := nbp_mem h
  dsimp only
  unfold costv
  rw [if_pos hm]
  split <;> split <;> omega
theorem nbp_sym {m : M3} {bl : List Bool} {c : Int} {p : Pt} {x : Pt × Int} (h : x ∈ nbp m bl c p) : (p, x.2) ∈ nbp m bl c x.1 := by
  obtain ⟨d, hd, hm, rfl⟩ := nbp_mem h
  obtain ⟨h1, h2, h3, h4⟩ := may_dir hd hm
  refine mem_nbGo.2 ⟨((d + 4) % 8).toNat, by omega, ?_, ?_⟩
  · rw [show ((((d + 4) % 8).toNat : Nat) : Int) = (d + 4) % 8 by omega]; exact h1
  · rw [show ((((d + 4) % 8).toNat : Nat) : Int) = (d + 4) % 8 by omega]
    dsimp only
    rw [h2, h3, h4]
theorem dir_one {p : Pt} (_hp : (0 ≤ p.1 ∧ p.1 ≤ 31) ∧ (0 ≤ p.2 ∧ p.2 ≤ 31)) {d e : Int} (hd : 0 ≤ d ∧ d ≤ 7) (he : 0 ≤ e ∧ e ≤ 7) (h1 : stx p.1 d = stx p.1 e) (h2 : sty p.2 d = sty p.2 e) : d = e := by
  unfold stx at h1
  unfold sty at h2
  rw [if_neg (by omega), if_neg (by omega)] at h1 h2
  have k1 : shx d = shx e := by omega
  have k2 : shy d = shy e := by omega
  clear h1 h2
  rcases dir_cases hd with rfl | rfl | rfl | rfl | rfl | rfl | rfl | rfl <;> rcases dir_cases he with rfl | rfl | rfl | rfl | rfl | rfl | rfl | rfl <;> first | rfl | (simp [shx, shy] at k1 k2)
theorem nbp_one {m : M3} {bl : List Bool} {c : Int} (hf : formedv m = true) {p : Pt} {x y : Pt × Int} (hx : x ∈ nbp m bl c p) (hy : y ∈ nbp m bl c p) (h : x.1 = y.1) : x = y := by
  have hp := ins_small hf (nbp_in hx).2.1
  obtain ⟨d, hd, _, rfl⟩ := nbp_mem hx
  obtain ⟨e, he, _, rfl⟩ := nbp_mem hy
  rw [Prod.mk.injEq] at h
  rw [dir_one hp hd he h.1 h.2]
theorem mem_nb {m : M3} {bl : List Bool} {c : Int} {p q : Nat} {w : Int} : (q, w) ∈ nb m bl c p ↔ p < m.cs.length ∧ ∃ x ∈ nbp m bl c (posn m p), q = idx m x.1 ∧ w = x.2 := by
  unfold nb
  split
  · next h =>
    rw [List.mem_map]
    constructor
    · rintro ⟨x, hx, e⟩
      rw [Prod.mk.injEq] at e
      exact ⟨h, x, hx, e.1.symm, e.2.symm⟩
    · rintro ⟨_, x, hx, rfl, rfl⟩
      exact ⟨x, hx, rfl⟩
  · next h => exact ⟨fun h => by simp at h, fun k => absurd k.1 h⟩
theorem nb_ok {m : M3} (hf : formedv m = true) (bl : List Bool) (c : Int) : GOk (nb m bl c) m.cs.length where
  lt := fun p q w h => by
    obtain ⟨hp, x, hx, rfl, rfl⟩ := mem_nb.1 h
    exact ⟨hp, (posn_idx hf (nbp_in hx).1).2.1⟩
  pos := fun p q w h => by
    obtain ⟨hp, x, hx, rfl, rfl⟩ := mem_nb.1 h
    have := nbp_w hx; omega
  sym := fun p q w h => by
    obtain ⟨hp, x, hx, rfl, rfl⟩ := mem_nb.1 h
    have k := posn_idx hf (nbp_in hx).1
    refine mem_nb.2 ⟨k.2.1, (posn m p, x.2), ?_, (idx_posn hf hp).1.symm, rfl⟩
    rw [k.1]; exact nbp_sym hx
  one := fun p q w w' h h' => by
    obtain ⟨hp, x, hx, e, rfl⟩ := mem_nb.1 h
    obtain ⟨_, y, hy, e', rfl⟩ := mem_nb.1 h'
    rw [nbp_one hf hx hy (idx_inj hf (nbp_in hx).1 (nbp_in hy).1 (e.symm.trans e'))]
/-- The steps from a position inside, by its number. -/
theorem nb_at {m : M3} (hf : formedv m = true) (bl : List Bool) (c : Int) {p : Pt} (h : insp m p = true) : nb m bl c (idx m p) = (nbp m bl c p).map fun x => (idx m x.1, x.2) := by
  have k := posn_idx hf h
  unfold nb
  rw [if_pos k.2.1, k.1]
theorem valid_class (q : Int) : (q = 1 ∨ q = 2 ∨ q = 3) ↔ 1 ≤ q ∧ q ≤ 3 := by omega

end

section
open Go.RowKit Go.Lib Go.Shelf

theorem wide_no {p : Prop} (h : Fence.wide.depth.isSome = true) : p := by simp [Fence.wide] at h
abbrev Wr (l : Nat) : Fence := Fence.wide.inRound l
section
variable {l n : Nat} {P : Program} {ops : Array Oper} {Q : Exit → Act → World → Prop}
theorem asupon_round {o : Oper} {a : Act} {K : Act → World → Prop} {r : Result Next} (h : o.upon P a K Q r) : o.uponIn (Wr l) n P a K Q r := by
  cases r with
  | ok x w' =>
    cases x with
    | value v => exact h
    | skip => exact h
    | defer d => exact h
    | enter f args => exact ⟨fun hd => by simp [Fence.wide] at hd, CallsIn.inRound l (callsIn_wide.2 h)⟩
    | row row args =>
      refine ⟨fun hd => by simp [Fence.wide] at hd, fun c cs _ => ?_⟩
      obtain ⟨v, w1, r, s⟩ := h c cs
      exact ⟨v, w1, r, stepsIn_wide.2 s⟩
    | _ => exact h.elim
  | halt x w' =>
    cases x <;> first | exact h | exact h.elim
def noDefer (o : Oper) : Bool := match o.op with | .defer _ => false | _ => true
theorem noDefer_of {o : Oper} (h : noDefer o = true) : ∀ c, o.op ≠ .defer c := fun c e => by unfold noDefer at h; rw [e] at h; exact Bool.false_ne_true h
theorem wp_round {o : Oper} {a : Act} {w : World} {K : Act → World → Prop} (hp : noDefer o = true) (h : o.wp P a w K Q) : o.wpIn (Wr l) n P a w K Q := by
  refine ⟨fun _ _ => trivial, ?_⟩
  rw [Oper.semAt_eq _ _ _ (noDefer_of hp)]
  exact asupon_round h
theorem ops_round (hp : ∀ o ∈ ops, noDefer o = true) (hout : ¬ LetsOut Q) : ∀ (L : List Nat) (a : Act) (w : World), wpOps P ops Q L a w → wpOpsIn (Wr l) n P ops Q L a w
  | [], _, _, h => h
  | i :: L, a, w, h => by
    rw [wpOps_cons] at h
    rw [wpOpsIn_cons]
    unfold wpOp at h
    unfold wpOpIn
    cases ho : ops[i]? with
    | none => rw [ho] at h; exact ops_round hp hout L a w h
    | some o =>
      rw [ho] at h
      dsimp only at h ⊢
      have hpo : noDefer o = true := hp o (Array.mem_of_getElem? ho)
      split
      · next hw =>
        rw [if_pos hw] at h
        rcases h with h | h
        · exact Oper.wpIn_mono (fun a w h => ops_round hp hout L a w h) (wp_round hpo h)
        · exact absurd h.2 hout
      · next hw =>
        rw [if_neg hw] at h
        exact ⟨fun _ _ => trivial, ops_round hp hout L _ w h⟩
/-- A region of a round, walked as anywhere: in its order; in whatever order. -/
theorem round_list {id : Nat} {a : Act} {w : World} (hp : ops.all noDefer = true) (hout : ¬ LetsOut Q) (h : wpList P ops Q ops.toList a w) : (Code.region id ops false).wpIn (Wr l) n P Q a w :=
  wpIn_region (ops_round (fun o ho => (Array.all_eq_true_iff_forall_mem).1 hp o ho) hout _ a w (by rw [List.range_eq_range', ← Array.length_toList, wpOps_eq_wpList ops.toList 0 (by simp)]; exact h))
theorem round_held {id : Nat} {a : Act} {w : World} {S : World → Prop} (hm : P.follows .mixedOrders = true) (hp : ops.all noDefer = true) (hout : ¬ LetsOut Q)
    (h : wpAnyH P .any ops Q S ops.size (Array.replicate ops.size false) a { w with drawn := w.drawn + 1 }) : (Code.region id ops true).wpIn (Wr l) n P Q a w :=
  wpIn_region_draw fun t => by
    simp only [Region.schedule, hm, Bool.true_or, if_true]
    exact ops_round (fun o ho => (Array.all_eq_true_iff_forall_mem).1 hp o ho) hout _ a _ (wpAny_sound ops.size t _ a _ (wpAny_of_held _ _ _ _ h))
end
/-- A region outside of rounds, at the widest fence. -/
theorem wide_region {n : Nat} {P : Program} {c : Code} {Q : Exit → Act → World → Prop} {a : Act} {w : World} (h : c.wp P Q a w) : c.wpIn Fence.wide n P Q a w := wpIn_wide.2 h
theorem then_out {K : Act → World → Prop} {Q : Exit → Act → World → Prop} (h : ¬ LetsOut Q) : ¬ LetsOut (Exit.then K Q) := fun ⟨a, w, k⟩ => h ⟨a, w, k⟩
theorem ownG_out {α : Type} {B : Nat} {Kp : World → World → Prop} {I : List α → World → Prop} {Ix : Code → List α → World → Prop} {xs : List α} {W : World} : ¬ LetsOut (ownPostG B Kp I Ix xs W) := fun ⟨_, _, k⟩ => k

/-- What a call that only makes memory is to an iterator's own facts. -/
theorem below_grown {w w' : World} (h : Below w.heap.size w w') : w.grownBy w' none := ⟨h.os, h.tape, h.output, h.size, fun k hk _ => h.block k hk⟩

/-- From w, where the call's own blocks were those of A, to w', where they are those of A'. -/
structure Foot (A : Nat → Prop) (w : World) (A' : Nat → Prop) (w' : World) : Prop where
  os : w'.os = w.os
  tape : w'.tape = w.tape
  output : w'.output = w.output
  size : w.heap.size ≤ w'.heap.size
  same : ∀ b, b < w.heap.size → ¬ A b → w'.heap[b]? = w.heap[b]?
  from_ : ∀ b, A' b → A b ∨ w.heap.size ≤ b
section
variable {A A' A'' : Nat → Prop} {w w' w'' : World}
theorem Foot.refl (A : Nat → Prop) (w : World) : Foot A w A w := ⟨rfl, rfl, rfl, Nat.le_refl _, fun _ _ _ => rfl, fun _ h => .inl h⟩
theorem Foot.trans (h : Foot A w A' w') (k : Foot A' w' A'' w'') : Foot A w A'' w'' :=
  ⟨k.os.trans h.os, k.tape.trans h.tape, k.output.trans h.output, Nat.le_trans h.size k.size,
    fun b hb hA => (k.same b (Nat.lt_of_lt_of_le hb h.size) (fun hA' => (h.from_ b hA').elim hA (fun hge => by omega))).trans (h.same b hb hA),
    fun b hA'' => (k.from_ b hA'').elim (fun hA' => h.from_ b hA') (fun hge => .inr (Nat.le_trans h.size hge))⟩
theorem Foot.below {B : Nat} (h : Foot A w A' w') (hA : ∀ b, A b → B ≤ b) (hB : B ≤ w.heap.size) : Below B w w' :=
  ⟨h.os, h.tape, h.output, h.size, fun k hk => h.same k (by omega) (fun a => by have := hA k a; omega)⟩
theorem Foot.of_below (h : Below w.heap.size w w') : Foot A w A w' := ⟨h.os, h.tape, h.output, h.size, fun b hb _ => h.block b hb, fun _ ha => .inl ha⟩
theorem Foot.alloc (o : Obj) : Foot A w A (w.alloc o) := Foot.of_below ((Below.refl _ _).alloc (Nat.le_refl _) o)
theorem Foot.drew : Foot A w A w.drew := ⟨rfl, rfl, rfl, Nat.le_refl _, fun _ _ _ => rfl, fun _ h => .inl h⟩
theorem Foot.set (a : Addr) (v : Value) (h : A a.block) : Foot A w A (w.setCell a v) :=
  ⟨rfl, rfl, rfl, by simp [World.setCell], fun b _ hA => Below.heap_setCell w a v b (fun e => hA (e ▸ h)), fun _ ha => .inl ha⟩
theorem Foot.grown {row : Option Nat} (hg : w.grownBy w' row) (hr : ∀ k, row = some k → A k) (hf : ∀ b, A' b → A b ∨ w.heap.size ≤ b) : Foot A w A' w' :=
  ⟨hg.os, hg.tape, hg.output, hg.size, fun b hb hA => hg.block b hb (fun e => hA (hr b e.symm)), hf⟩
theorem Foot.wider {C C' : Nat → Prop} (h : Foot A w A' w') (hA : ∀ b, A b → C b) (hC : ∀ b, C' b → (A' b ∨ C b) ∨ w.heap.size ≤ b) : Foot C w C' w' :=
  ⟨h.os, h.tape, h.output, h.size, fun b hb hc => h.same b hb (fun a => hc (hA b a)), fun b hb => (hC b hb).elim (fun k => k.elim (fun k => (h.from_ b k).imp (hA b) id) .inl) .inr⟩
end

end

end Go.Proofs.YtpgchjhfhndaaaaGreatDoor
