/-
  Sorting that keeps the order of what is equal, in place: exchanges of an array's elements, told of its list. No program is named here.
-/
import Derived.Test.YtbdgpldhfemejaaDoorMoStab
import Derived.Sort.WalkA
namespace Go.Proofs.YtbdgpldhfemejaaDoor
open Go.Sort

section
variable {α : Type}
/-- The array's list. -/
abbrev Is (d : Array α) (l : List α) : Prop := d.toList = l
theorem Is.size {d : Array α} {l : List α} (h : Is d l) : d.size = l.length := by rw [← h, Array.length_toList]
theorem Is.get [Inhabited α] {d : Array α} {x : List α} {z : α} {y : List α} (h : Is d (x ++ z :: y)) {i : Nat} (hi : x.length = i) : d[i]! = z := by
  have hs := h.size
  have hlt : i < d.size := by rw [hs, List.length_append, List.length_cons]; omega
  rw [getElem!_pos d i hlt, ← Array.getElem_toList]
  have e : d.toList[i]'(by simpa using hlt) = (x ++ z :: y)[i]'(by rw [List.length_append, List.length_cons]; omega) := by congr 1
  rw [e, List.getElem_append_right (by omega)]
  simp [hi]
theorem swp_list [Inhabited α] {d : Array α} {x m y : List α} {p q : α} (h : Is d (x ++ p :: (m ++ q :: y))) {i j : Nat} (hi : x.length = i) (hj : i + 1 + m.length = j) : Is (swp d i j) (x ++ q :: (m ++ p :: y)) := by
  have hp : d[i]! = p := h.get hi
  have hq : d[j]! = q := Is.get (x := x ++ p :: m) (by rw [List.append_assoc]; exact h) (by rw [List.length_append, List.length_cons]; omega)
  show (swp d i j).toList = _
  unfold swp
  rw [hp, hq, Array.toList_setIfInBounds, Array.toList_setIfInBounds, h, ← hj, ← hi, List.set_append_right _ _ (Nat.le_refl _), Nat.sub_self, List.set_cons_zero, List.set_append_right _ _ (by omega), show x.length + 1 + m.length - x.length = m.length + 1 by omega, List.set_cons_succ, List.set_append_right _ _ (Nat.le_refl _), Nat.sub_self, List.set_cons_zero]
theorem swp_swap [Inhabited α] (d : Array α) {i j : Nat} (_hi : i < d.size) (hj : j < d.size) : swp d i j = swp d j i := by
  by_cases e : i = j
  · subst e; rfl
  · unfold swp
    apply Array.ext
    · simp
    · intro t h1 h2
      rw [Array.getElem_setIfInBounds, Array.getElem_setIfInBounds, Array.getElem_setIfInBounds, Array.getElem_setIfInBounds]
      all_goals first | (simpa using h1) | skip
      by_cases a : i = t <;> by_cases b : j = t <;> simp [a, b]
theorem swp_list' [Inhabited α] {d : Array α} {x m y : List α} {p q : α} (h : Is d (x ++ p :: (m ++ q :: y))) {i j : Nat} (hi : x.length = i) (hj : i + 1 + m.length = j) : Is (swp d j i) (x ++ q :: (m ++ p :: y)) := by
  have hs := h.size
  simp at hs
  rw [swp_swap d (by omega) (by omega)]
  exact swp_list h hi hj

variable (lt : α → α → Bool)
/-! ### one block -/
theorem insInner_list [Inhabited α] {a : Nat} {z : α} {x : List α} (ha : x.length = a) : ∀ (s : List α) (r : List α) (d : Array α), Is d (x ++ (s ++ z :: r)) → Is (insInner lt a (a + s.length) d) (x ++ (putS lt s z ++ r)) := by
  have key : ∀ (s r : List α) (d : Array α), Is d (x ++ (s.reverse ++ z :: r)) → Is (insInner lt a (a + s.length) d) (x ++ (putS lt s.reverse z ++ r)) := fun s => by
    induction s with
    | nil =>
      intro r d h
      rw [insInner_stop lt a _ d (.inl (by simp))]
      exact h
    | cons p s ih =>
      intro r d h
      rw [List.reverse_cons, List.append_assoc] at h
      have h0 : Is d ((x ++ s.reverse) ++ p :: ([] ++ z :: r)) := by rw [List.append_assoc]; exact h
      have hl : (x ++ s.reverse).length = a + s.length := by simp [ha]
      have hp : d[a + s.length]! = p := h0.get hl
      have hz : d[a + s.length + 1]! = z := Is.get (x := x ++ s.reverse ++ [p]) (by rw [List.append_assoc]; exact h0) (by rw [List.length_append, hl]; rfl)
      have e : a + (p :: s).length = a + s.length + 1 := by simp; omega
      rw [e]
      cases hlt : lt z p with
      | false =>
        rw [insInner_stop lt a _ d (.inr (by rw [hz, Nat.add_sub_cancel, hp, hlt]))]
        have ep : putS lt (p :: s).reverse z = s.reverse ++ [p, z] := by
          unfold putS
          rw [List.reverse_reverse, insS, if_neg (by rw [hlt]; decide)]
          simp
        rw [ep]
        show d.toList = _
        rw [h]
        simp
      | true =>
        rw [insInner_go lt a _ d (by omega) (by rw [hz, Nat.add_sub_cancel, hp, hlt]), Nat.add_sub_cancel]
        have h1 := swp_list' h0 hl rfl
        have h2 := ih (p :: r) (swp d (a + s.length + 1) (a + s.length)) (by rw [List.append_assoc] at h1; exact h1)
        have ep : putS lt (p :: s).reverse z = putS lt s.reverse z ++ [p] := by
          rw [List.reverse_cons]
          exact putS_left lt fun y hy => by rw [List.mem_singleton.1 hy]; exact hlt
        rw [ep, List.append_assoc]
        exact h2
  intro s r d h
  have := key s.reverse r d (by rw [List.reverse_reverse]; exact h)
  rwa [List.reverse_reverse, List.length_reverse] at this
theorem insOuter_list [Inhabited α] {a b : Nat} {x y : List α} (ha : x.length = a) : ∀ (r s : List α) (d : Array α), Is d (x ++ (s ++ (r ++ y))) → a + s.length + r.length = b → Is (insOuter lt a b (a + s.length) d) (x ++ (mergS lt s r ++ y))
  | [], s, d, h, hb => by
    rw [insOuter, if_neg (by simp at hb; omega)]
    exact h
  | z :: r, s, d, h, hb => by
    have hl := insInner_list lt ha s (r ++ y) d h
    simp only [List.length_cons] at hb
    rw [insOuter, if_pos (by omega)]
    have hn : (putS lt s z).length = s.length + 1 := by
      have : ∀ l : List α, (insS lt z l).length = l.length + 1 := fun l => by
        induction l with
        | nil => rfl
        | cons y l ih => unfold insS; split <;> simp [ih]
      unfold putS
      rw [List.length_reverse, this, List.length_reverse]
    have := insOuter_list (b := b) ha r (putS lt s z) _ hl (by rw [hn]; omega)
    rw [hn, ← Nat.add_assoc] at this
    have e : mergS lt s (z :: r) = mergS lt (putS lt s z) r := rfl
    rw [e]
    exact this
theorem insertion_list [Inhabited α] {a b : Nat} {x u y : List α} {d : Array α} (h : Is d (x ++ (u ++ y))) (ha : x.length = a) (hb : a + u.length = b) : Is (Sort.insertionSort lt d a b) (x ++ (mergS lt [] u ++ y)) := by
  unfold Sort.insertionSort
  match u with
  | [] =>
    rw [insOuter, if_neg (by simp at hb; omega)]
    exact h
  | z :: r =>
    have := insOuter_list lt (b := b) ha r [z] d h (by simp at hb ⊢; omega)
    exact this

theorem mergS_len : ∀ (v u : List α), (mergS lt u v).length = u.length + v.length
  | [], u => rfl
  | z :: v, u => by
    have hn : (putS lt u z).length = u.length + 1 := by
      have : ∀ l : List α, (insS lt z l).length = l.length + 1 := fun l => by
        induction l with
        | nil => rfl
        | cons y l ih => unfold insS; split <;> simp [ih]
      unfold putS
      rw [List.length_reverse, this, List.length_reverse]
    have e : mergS lt u (z :: v) = mergS lt (putS lt u z) v := rfl
    rw [e, mergS_len v, hn, List.length_cons]
    omega

/-! ### blocks of s, each sorted -/
def runsS (s : Nat) (l : List α) : List α :=
  if _h : s = 0 ∨ l.length ≤ s then mergS lt [] l else mergS lt [] (l.take s) ++ runsS s (l.drop s)
termination_by l.length
decreasing_by rw [List.length_drop]; omega
theorem runs_short {s : Nat} {l : List α} (h : l.length ≤ s) : runsS lt s l = mergS lt [] l := by rw [runsS, dif_pos (.inr h)]
theorem runs_more {s : Nat} {u r : List α} (h : u.length = s) (h0 : 0 < s) : runsS lt s (u ++ r) = mergS lt [] u ++ runsS lt s r := by
  by_cases hr : r = []
  · subst hr
    rw [List.append_nil, runs_short lt (by omega), runs_short lt (by simp)]
    show _ = _ ++ []
    rw [List.append_nil]
  · have : 0 < r.length := List.length_pos_iff.2 hr
    rw [runsS, dif_neg (by rw [List.length_append]; omega), ← h, List.take_left, List.drop_left]
theorem runs_len (s : Nat) : ∀ (n : Nat) (l : List α), l.length = n → (runsS lt s l).length = n := by
  intro n
  induction n using Nat.strongRecOn with
  | _ n ih =>
    intro l hl
    rw [runsS]
    split
    · rw [mergS_len]; simpa using hl
    · rw [List.length_append, mergS_len, ih (l.drop s).length (by rw [List.length_drop]; omega) _ rfl, List.length_nil, List.length_take, List.length_drop]
      omega
theorem parts2 (l : List α) {n : Nat} (h : n ≤ l.length) : ∃ u r, l = u ++ r ∧ u.length = n := ⟨l.take n, l.drop n, (List.take_append_drop n l).symm, by simp [h]⟩

/-! ### the exchanges of blocks -/
/-- Two blocks of one length, their first i elements exchanged. -/
def swR (x A M B y : List α) (i : Nat) : List α := x ++ (B.take i ++ (A.drop i ++ (M ++ (A.take i ++ (B.drop i ++ y)))))
theorem swR_zero (x A M B y : List α) : swR x A M B y 0 = x ++ (A ++ (M ++ (B ++ y))) := by simp [swR]
theorem swR_end {x A M B y : List α} {n : Nat} (hA : A.length = n) (hB : B.length = n) : swR x A M B y n = x ++ (B ++ (M ++ (A ++ y))) := by
  unfold swR
  rw [List.take_of_length_le (by omega), List.take_of_length_le (by omega), List.drop_eq_nil_of_le (by omega), List.drop_eq_nil_of_le (by omega)]
  rfl
theorem swR_step [Inhabited α] {x A M B y : List α} {n i : Nat} {d : Array α} (h : Is d (swR x A M B y i)) (hA : A.length = n) (hB : B.length = n) (hi : i < n) {a b : Nat} (ha : x.length + i = a) (hb : x.length + n + M.length + i = b) : Is (swp d a b) (swR x A M B y (i + 1)) := by
  have e : ∀ (l : List α) (q : l.length = n), l.drop i = (l[i]'(by omega)) :: l.drop (i + 1) := fun l q => List.drop_eq_getElem_cons (by omega)
  have e2 : ∀ (l : List α) (q : l.length = n), l.take (i + 1) = l.take i ++ [l[i]'(by omega)] := fun l q => by rw [List.take_succ_eq_append_getElem (by omega)]
  unfold swR at h ⊢
  rw [e A hA, e B hB] at h
  rw [e2 A hA, e2 B hB]
  have h1 : Is d ((x ++ B.take i) ++ A[i]'(by omega) :: ((A.drop (i + 1) ++ (M ++ A.take i)) ++ B[i]'(by omega) :: (B.drop (i + 1) ++ y))) := by
    show d.toList = _
    rw [h]
    simp only [List.append_assoc, List.cons_append]
  have h2 := swp_list h1 (i := a) (j := b) (by rw [List.length_append, List.length_take]; omega) (by rw [List.length_append, List.length_append, List.length_take, List.length_drop]; omega)
  show (swp d a b).toList = _
  rw [h2]
  simp only [List.append_assoc, List.cons_append, List.nil_append]
/-- Rotating: what the blocks [P, U, V, Q] are to become. -/
structure RotG (d : Array α) (goal : List α) (m i j : Nat) (P U V Q : List α) : Prop where
  is : Is d (P ++ (U ++ (V ++ Q)))
  go : goal = P ++ (V ++ (U ++ Q))
  p : P.length + i = m
  u : U.length = i
  v : V.length = j
  i0 : 0 < i
  j0 : 0 < j
theorem RotG.end {d d' : Array α} {goal : List α} {m i : Nat} {P U V Q : List α} (h : RotG d goal m i i P U V Q) (h' : Is d' (P ++ (V ++ ([] ++ (U ++ Q))))) : Is d' goal := by
  rw [h.go]; exact h'
theorem RotG.more {d : Array α} {goal : List α} {m i j : Nat} {P U V Q : List α} (h : RotG d goal m i j P U V Q) (hij : j < i) : ∃ U1 U2, U = U1 ++ U2 ∧ U1.length = j ∧ Is d (P ++ (U1 ++ (U2 ++ (V ++ Q)))) ∧ ∀ d' : Array α, Is d' (P ++ (V ++ (U2 ++ (U1 ++ Q)))) → RotG d' goal m (i - j) j (P ++ V) U2 U1 Q := by
  obtain ⟨U1, U2, e, h1⟩ := parts2 U (n := j) (by rw [h.u]; omega)
  subst e
  have hu := h.u
  rw [List.length_append] at hu
  refine ⟨U1, U2, rfl, h1, ?_, fun d' h' => ⟨?_, ?_, ?_, by omega, h1, by omega, h.j0⟩⟩
  · have := h.is; rw [List.append_assoc] at this; exact this
  · show d'.toList = _; rw [h', List.append_assoc]
  · rw [h.go]; simp
  · have := h.p; rw [List.length_append, h.v]; omega
theorem RotG.less {d : Array α} {goal : List α} {m i j : Nat} {P U V Q : List α} (h : RotG d goal m i j P U V Q) (hij : i < j) : ∃ V1 V2, V = V1 ++ V2 ∧ V1.length = j - i ∧ V2.length = i ∧ Is d (P ++ (U ++ (V1 ++ (V2 ++ Q)))) ∧ ∀ d' : Array α, Is d' (P ++ (V2 ++ (V1 ++ (U ++ Q)))) → RotG d' goal m i (j - i) P V2 V1 (U ++ Q) := by
  obtain ⟨V1, V2, e, h1⟩ := parts2 V (n := j - i) (by rw [h.v]; omega)
  subst e
  have hv := h.v
  rw [List.length_append] at hv
  refine ⟨V1, V2, rfl, h1, by omega, ?_, fun d' h' => ⟨h', ?_, h.p, by omega, h1, h.i0, by omega⟩⟩
  · have := h.is; rw [List.append_assoc] at this; exact this
  · rw [h.go]; simp

/-! ### merging in place -/
variable (irr : ∀ x y z : α, lt x y = false → lt y z = false → lt x z = false)
theorem asc_app {a b : List α} (h : AscS lt (a ++ b)) : AscS lt a ∧ AscS lt b ∧ ∀ x ∈ a, ∀ y ∈ b, lt y x = false := List.pairwise_append.1 h
theorem parts_last (l : List α) : l = [] ∨ ∃ p z, l = p ++ [z] := by
  cases h : l.reverse with
  | nil => exact .inl (List.reverse_eq_nil_iff.1 h)
  | cons z p => exact .inr ⟨p.reverse, z, by rw [← List.reverse_reverse l, h, List.reverse_cons]⟩
include irr
theorem last_all {p : List α} {z w : α} (h : AscS lt (p ++ [z])) (hz : lt z w = true) : ∀ y ∈ p ++ [z], lt y w = true := fun y hy => by
  rcases List.mem_append.1 hy with hy | hy
  · have := (asc_app lt h).2.2 y hy z (List.mem_singleton.2 rfl)
    cases q : lt y w with
    | true => rfl
    | false => rw [irr z y w this q] at hz; cases hz
  · rw [List.mem_singleton.1 hy]; exact hz
theorem last_none {p : List α} {z w : α} (h : AscS lt (p ++ [z])) (hz : lt w z = false) : ∀ y ∈ p ++ [z], lt w y = false := fun y hy => by
  rcases List.mem_append.1 hy with hy | hy
  · exact irr w z y hz ((asc_app lt h).2.2 y hy z (List.mem_singleton.2 rfl))
  · rw [List.mem_singleton.1 hy]; exact hz
theorem head_none {q : List α} {z w : α} (h : AscS lt (z :: q)) (hz : lt z w = false) : ∀ y ∈ z :: q, lt y w = false := fun y hy => by
  rcases List.mem_cons.1 hy with rfl | hy
  · exact hz
  · exact irr y z w ((List.pairwise_cons.1 h).1 y hy) hz
theorem head_all {q : List α} {z w : α} (h : AscS lt (z :: q)) (hz : lt w z = true) : ∀ y ∈ z :: q, lt w y = true := fun y hy => by
  rcases List.mem_cons.1 hy with rfl | hy
  · exact hz
  · cases c : lt w y with
    | true => rfl
    | false => rw [irr w y z c ((List.pairwise_cons.1 h).1 y hy)] at hz; cases hz
theorem one_left [Inhabited α] {d : Array α} {x v y : List α} {z : α} {a m b i : Nat} (h : Is d (x ++ ([z] ++ (v ++ y)))) (ha : x.length = a) (hm : a + 1 = m) (hb : m + v.length = b) (hs : AscS lt v) (h1 : m ≤ i) (h2 : i ≤ b)
    (c1 : i = m ∨ lt d[i - 1]! d[a]! = true) (c2 : i = b ∨ lt d[i]! d[a]! = false) : ∃ v1 v2, v = v1 ++ v2 ∧ m + v1.length = i ∧ mergS lt [z] v = v1 ++ z :: v2 ∧ Is d (x ++ z :: (v1 ++ (v2 ++ y))) := by
  obtain ⟨v1, v2, e, hl⟩ := parts2 v (n := i - m) (by omega)
  subst e
  rw [List.length_append] at hb
  have h0 : Is d (x ++ z :: (v1 ++ (v2 ++ y))) := by show d.toList = _; rw [h]; simp
  have hz : d[a]! = z := h0.get ha
  refine ⟨v1, v2, rfl, by omega, mergS_onto lt ?_ ?_ hs, h0⟩
  · rcases parts_last v1 with rfl | ⟨p, s, rfl⟩
    · exact fun _ q => absurd q List.not_mem_nil
    · have hg : d[i - 1]! = s := Is.get (x := x ++ z :: p) (y := v2 ++ y) (by show d.toList = _; rw [h0]; simp) (by simp at hl ⊢; omega)
      rw [hz, hg] at c1
      refine last_all lt irr (asc_app lt hs).1 (c1.resolve_left ?_)
      simp at hl; omega
  · cases v2 with
    | nil => exact fun _ q => absurd q List.not_mem_nil
    | cons s p =>
      have hg : d[i]! = s := Is.get (x := x ++ z :: v1) (y := p ++ y) (by show d.toList = _; rw [h0]; simp) (by simp; omega)
      rw [hz, hg] at c2
      refine head_none lt irr (asc_app lt hs).2.1 (c2.resolve_left ?_)
      simp at hb; omega
theorem one_right [Inhabited α] {d : Array α} {x u y : List α} {z : α} {a m i : Nat} (h : Is d (x ++ (u ++ ([z] ++ y)))) (ha : x.length = a) (hm : a + u.length = m) (hs : AscS lt u) (h1 : a ≤ i) (h2 : i ≤ m)
    (c1 : i = a ∨ lt d[m]! d[i - 1]! = false) (c2 : i = m ∨ lt d[m]! d[i]! = true) : ∃ u1 u2, u = u1 ++ u2 ∧ a + u1.length = i ∧ mergS lt u [z] = u1 ++ z :: u2 ∧ Is d ((x ++ u1) ++ (u2 ++ z :: y)) := by
  obtain ⟨u1, u2, e, hl⟩ := parts2 u (n := i - a) (by omega)
  subst e
  rw [List.length_append] at hm
  have h0 : Is d ((x ++ u1) ++ (u2 ++ z :: y)) := by show d.toList = _; rw [h]; simp
  have hz : d[m]! = z := Is.get (x := x ++ (u1 ++ u2)) (y := y) (by show d.toList = _; rw [h]; simp) (by simp; omega)
  refine ⟨u1, u2, rfl, by omega, mergS_one lt ?_ ?_, h0⟩
  · rcases parts_last u1 with rfl | ⟨p, s, rfl⟩
    · exact fun _ q => absurd q List.not_mem_nil
    · have hg : d[i - 1]! = s := Is.get (x := x ++ p) (y := u2 ++ z :: y) (by show d.toList = _; rw [h0]; simp) (by simp at hl ⊢; omega)
      rw [hz, hg] at c1
      refine last_none lt irr (asc_app lt hs).1 (c1.resolve_left ?_)
      simp at hl; omega
  · cases u2 with
    | nil => exact fun _ q => absurd q List.not_mem_nil
    | cons s p =>
      have hg : d[i]! = s := Is.get (x := x ++ u1) (y := p ++ z :: y) (by show d.toList = _; rw [h0]; simp) (by simp; omega)
      rw [hz, hg] at c2
      refine head_all lt irr (asc_app lt hs).2.1 (c2.resolve_left ?_)
      simp at hm; omega
theorem sym_cut [Inhabited α] {d : Array α} {x u v y : List α} {a m b st en : Nat} (h : Is d (x ++ (u ++ (v ++ y)))) (ha : x.length = a) (hm : a + u.length = m) (hb : m + v.length = b) (hu : AscS lt u) (hv : AscS lt v)
    (h1 : a ≤ st) (h2 : st ≤ m) (h3 : m ≤ en) (h4 : en ≤ b) (c1 : en = m ∨ st = m ∨ lt d[en - 1]! d[st]! = true) (c2 : en = b ∨ st = a ∨ lt d[en]! d[st - 1]! = false) :
    ∃ u1 u2 v1 v2, u = u1 ++ u2 ∧ v = v1 ++ v2 ∧ a + u1.length = st ∧ m + v1.length = en ∧ mergS lt u v = mergS lt u1 v1 ++ mergS lt u2 v2 ∧ AscS lt u1 ∧ AscS lt u2 ∧ AscS lt v1 ∧ AscS lt v2 ∧ Is d ((x ++ u1) ++ (u2 ++ (v1 ++ (v2 ++ y)))) := by
  obtain ⟨u1, u2, e, hl⟩ := parts2 u (n := st - a) (by omega)
  subst e
  obtain ⟨v1, v2, e, hk⟩ := parts2 v (n := en - m) (by omega)
  subst e
  rw [List.length_append] at hm hb
  obtain ⟨au1, au2, -⟩ := asc_app lt hu
  obtain ⟨av1, av2, av⟩ := asc_app lt hv
  have h0 : Is d ((x ++ u1) ++ (u2 ++ (v1 ++ (v2 ++ y)))) := by show d.toList = _; rw [h]; simp
  refine ⟨u1, u2, v1, v2, rfl, rfl, by omega, by omega, mergS_parts lt ?_ ?_ fun p hp q hq => av q hq p hp, au1, au2, av1, av2, h0⟩
  · rcases parts_last v1 with rfl | ⟨p, s, rfl⟩
    · exact fun _ q => absurd q List.not_mem_nil
    · cases u2 with
      | nil => exact fun _ _ _ q => absurd q List.not_mem_nil
      | cons q r =>
        have e1 : d[en - 1]! = s := Is.get (x := x ++ (u1 ++ (q :: r ++ p))) (y := v2 ++ y) (by show d.toList = _; rw [h0]; simp) (by simp at hk hm ⊢; omega)
        have e2 : d[st]! = q := Is.get (x := x ++ u1) (y := r ++ (p ++ s :: (v2 ++ y))) (by show d.toList = _; rw [h0]; simp) (by simp; omega)
        rw [e1, e2] at c1
        have c3 : lt s q = true := by
          rcases c1 with c | c | c
          · simp at hk; omega
          · simp at hm; omega
          · exact c
        intro f hf g hg
        exact head_all lt irr au2 (last_all lt irr av1 c3 f hf) g hg
  · cases v2 with
    | nil => exact fun _ q => absurd q List.not_mem_nil
    | cons s r =>
      rcases parts_last u1 with rfl | ⟨p, q, rfl⟩
      · exact fun _ _ _ q => absurd q List.not_mem_nil
      · have e1 : d[en]! = s := Is.get (x := x ++ (p ++ (q :: (u2 ++ v1)))) (y := r ++ y) (by show d.toList = _; rw [h0]; simp) (by simp at hl hm ⊢; omega)
        have e2 : d[st - 1]! = q := Is.get (x := x ++ p) (y := u2 ++ (v1 ++ s :: (r ++ y))) (by show d.toList = _; rw [h0]; simp) (by simp at hl ⊢; omega)
        rw [e1, e2] at c2
        have c3 : lt s q = false := by
          rcases c2 with c | c | c
          · simp at hb; omega
          · simp at hl; omega
          · exact c
        intro f hf g hg
        exact last_none lt irr au1 (head_none lt irr av2 c3 f hf) g hg
end
theorem mergS_nil_left {α : Type} (lt : α → α → Bool) {v : List α} (h : AscS lt v) : mergS lt [] v = v := mergS_nil lt h
theorem mergS_nil_right {α : Type} (lt : α → α → Bool) (u : List α) : mergS lt u [] = u := rfl
theorem asc_merg {α : Type} (lt : α → α → Bool) (irr : ∀ p q r : α, lt p q = false → lt q r = false → lt p r = false) (tot : ∀ p q : α, lt p q = true → lt q p = false) (u : List α) : AscS lt (mergS lt [] u) := mergS_asc lt irr tot List.Pairwise.nil

end Go.Proofs.YtbdgpldhfemejaaDoor
