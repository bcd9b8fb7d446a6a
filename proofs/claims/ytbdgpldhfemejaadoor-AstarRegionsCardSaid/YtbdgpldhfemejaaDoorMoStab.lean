/-
  Sorting that keeps the order of what is equal: two sorted lists merged in parts. No program is named here.
-/
namespace Go.Proofs.YtbdgpldhfemejaaDoor

section
variable {α : Type} (lt : α → α → Bool)
/-- Put behind the last that is not greater (the list from its end). -/
def insS (x : α) : List α → List α
  | [] => [x]
  | y :: l => if lt x y = true then y :: insS x l else x :: y :: l
def putS (l : List α) (x : α) : List α := (insS lt x l.reverse).reverse
/-- What one element after the other, put in, makes of a list. -/
def mergS (u v : List α) : List α := v.foldl (putS lt) u
theorem insS_app {x : α} : ∀ {a b : List α}, (∀ y ∈ a, lt x y = true) → insS lt x (a ++ b) = a ++ insS lt x b
  | [], b, _ => rfl
  | y :: a, b, h => by
    rw [List.cons_append, insS, if_pos (h y (List.mem_cons_self ..)), insS_app fun z hz => h z (List.mem_cons_of_mem _ hz)]
    rfl
theorem insS_stop {x : α} : ∀ {a b : List α}, (∀ y ∈ b, lt x y = false) → insS lt x (a ++ b) = insS lt x a ++ b
  | [], [], _ => rfl
  | [], y :: b, h => by
    show insS lt x (y :: b) = [x] ++ (y :: b)
    rw [insS, if_neg (by rw [h y (List.mem_cons_self ..)]; decide)]
    rfl
  | y :: a, b, h => by
    rw [List.cons_append, insS, insS]
    split
    · rw [insS_stop h]
      rfl
    · rfl
theorem putS_left {x : α} {a b : List α} (h : ∀ y ∈ b, lt x y = true) : putS lt (a ++ b) x = putS lt a x ++ b := by
  unfold putS
  rw [List.reverse_append, insS_app lt (fun y hy => h y (List.mem_reverse.1 hy)), List.reverse_append, List.reverse_reverse]
theorem putS_right {x : α} {a b : List α} (h : ∀ y ∈ a, lt x y = false) : putS lt (a ++ b) x = a ++ putS lt b x := by
  unfold putS
  rw [List.reverse_append, insS_stop lt (fun y hy => h y (List.mem_reverse.1 hy)), List.reverse_append, List.reverse_reverse]
theorem putS_end {x : α} {a : List α} (h : ∀ y ∈ a, lt x y = false) : putS lt a x = a ++ [x] := by
  have := putS_right (lt := lt) (b := []) h
  rw [List.append_nil] at this
  exact this
theorem mem_insS {x z : α} : ∀ {l : List α}, z ∈ insS lt x l ↔ z = x ∨ z ∈ l
  | [] => by simp [insS]
  | y :: l => by
    unfold insS
    split
    · rw [List.mem_cons, mem_insS (l := l), List.mem_cons]
      constructor
      · rintro (h | h | h)
        · exact .inr (.inl h)
        · exact .inl h
        · exact .inr (.inr h)
      · rintro (h | h | h)
        · exact .inr (.inl h)
        · exact .inl h
        · exact .inr (.inr h)
    · rw [List.mem_cons]
theorem mem_putS {x z : α} {l : List α} : z ∈ putS lt l x ↔ z = x ∨ z ∈ l := by
  unfold putS
  rw [List.mem_reverse, mem_insS, List.mem_reverse]
theorem mem_mergS {z : α} : ∀ {v u : List α}, z ∈ mergS lt u v ↔ z ∈ u ∨ z ∈ v
  | [], u => by simp [mergS]
  | x :: v, u => by
    unfold mergS
    rw [List.foldl_cons]
    have := mem_mergS (z := z) (v := v) (u := putS lt u x)
    unfold mergS at this
    rw [this, mem_putS, List.mem_cons]
    constructor
    · rintro ((h | h) | h)
      · exact .inr (.inl h)
      · exact .inl h
      · exact .inr (.inr h)
    · rintro (h | h | h)
      · exact .inl (.inr h)
      · exact .inl (.inl h)
      · exact .inr h
/-- Merging in two parts. -/
theorem mergS_left {u1 u2 : List α} : ∀ {v : List α}, (∀ x ∈ v, ∀ y ∈ u2, lt x y = true) → mergS lt (u1 ++ u2) v = mergS lt u1 v ++ u2
  | [], _ => rfl
  | x :: v, h => by
    unfold mergS
    rw [List.foldl_cons, List.foldl_cons, putS_left lt (h x (List.mem_cons_self ..))]
    exact mergS_left fun z hz => h z (List.mem_cons_of_mem _ hz)
theorem mergS_right {u1 u2 : List α} : ∀ {v : List α}, (∀ x ∈ v, ∀ y ∈ u1, lt x y = false) → mergS lt (u1 ++ u2) v = u1 ++ mergS lt u2 v
  | [], _ => rfl
  | x :: v, h => by
    unfold mergS
    rw [List.foldl_cons, List.foldl_cons, putS_right lt (h x (List.mem_cons_self ..))]
    exact mergS_right (u2 := putS lt u2 x) fun z hz => h z (List.mem_cons_of_mem _ hz)
theorem mergS_app (u v w : List α) : mergS lt u (v ++ w) = mergS lt (mergS lt u v) w := List.foldl_append
theorem mergS_parts {u1 u2 v1 v2 : List α} (h1 : ∀ x ∈ v1, ∀ y ∈ u2, lt x y = true) (h2 : ∀ x ∈ v2, ∀ y ∈ u1, lt x y = false) (h3 : ∀ x ∈ v2, ∀ y ∈ v1, lt x y = false) : mergS lt (u1 ++ u2) (v1 ++ v2) = mergS lt u1 v1 ++ mergS lt u2 v2 := by
  rw [mergS_app, mergS_left lt h1, mergS_right lt fun x hx y hy => ?_]
  rcases (mem_mergS lt).1 hy with hy | hy
  · exact h2 x hx y hy
  · exact h3 x hx y hy
/-- Sorted already. -/
def AscS (l : List α) : Prop := l.Pairwise fun x y => lt y x = false
theorem mergS_sorted : ∀ {v u : List α}, AscS lt (u ++ v) → mergS lt u v = u ++ v
  | [], u, _ => by rw [List.append_nil]; rfl
  | x :: v, u, h => by
    unfold mergS
    obtain ⟨-, -, h3⟩ := List.pairwise_append.1 h
    rw [List.foldl_cons, putS_end lt fun y hy => h3 y hy x (List.mem_cons_self ..)]
    have := mergS_sorted (v := v) (u := u ++ [x]) (by rw [List.append_assoc]; exact h)
    unfold mergS at this
    rw [this, List.append_assoc]
    rfl
theorem mergS_nil {v : List α} (h : AscS lt v) : mergS lt [] v = v := mergS_sorted lt (u := []) h
/-- One element, put into what is sorted: behind what is not greater. -/
theorem mergS_one {a b : List α} {x : α} (h1 : ∀ y ∈ a, lt x y = false) (h2 : ∀ y ∈ b, lt x y = true) : mergS lt (a ++ b) [x] = a ++ x :: b := by
  unfold mergS
  rw [List.foldl_cons, List.foldl_nil, putS_left lt h2, putS_end lt h1, List.append_assoc]
  rfl
/-- What is sorted, put to one element: what is less comes ahead. -/
theorem mergS_onto {a b : List α} {x : α} (h1 : ∀ y ∈ a, lt y x = true) (h2 : ∀ y ∈ b, lt y x = false) (hs : AscS lt (a ++ b)) : mergS lt [x] (a ++ b) = a ++ x :: b := by
  obtain ⟨s1, s2, s3⟩ := List.pairwise_append.1 hs
  have e := mergS_parts lt (u1 := []) (u2 := [x]) (v1 := a) (v2 := b) (fun z hz y hy => by rw [List.mem_singleton.1 hy]; exact h1 z hz) (fun _ _ y hy => absurd hy List.not_mem_nil) (fun z hz y hy => s3 y hy z hz)
  rw [List.nil_append] at e
  rw [e, mergS_nil lt s1]
  have e2 := mergS_sorted lt (u := [x]) (v := b) (List.pairwise_cons.2 ⟨h2, s2⟩)
  rw [e2]
  rfl
variable (irr : ∀ x y z : α, lt x y = false → lt y z = false → lt x z = false) (tot : ∀ x y : α, lt x y = true → lt y x = false)
include irr tot
theorem putS_asc {x : α} {l : List α} (h : AscS lt l) : AscS lt (putS lt l x) := by
  -- the list parted where x belongs
  have key : ∀ l : List α, l.Pairwise (fun y z => lt y z = false) → (insS lt x l).Pairwise (fun y z => lt y z = false) := fun l => by
    induction l with
    | nil => intro _; simp [insS]
    | cons y l ih =>
      intro h
      obtain ⟨h1, h2⟩ := List.pairwise_cons.1 h
      unfold insS
      split
      · rename_i hq
        refine List.pairwise_cons.2 ⟨fun z hz => ?_, ih h2⟩
        rcases (mem_insS lt).1 hz with rfl | hz
        · exact tot _ _ hq
        · exact h1 z hz
      · rename_i hq
        have hq := eq_false_of_ne_true hq
        refine List.pairwise_cons.2 ⟨fun z hz => ?_, h⟩
        rcases List.mem_cons.1 hz with rfl | hz
        · exact hq
        · exact irr _ _ _ hq (h1 z hz)
  unfold putS AscS
  rw [List.pairwise_reverse]
  refine key _ ?_
  rw [List.pairwise_reverse]
  exact h
theorem mergS_asc : ∀ {v u : List α}, AscS lt u → AscS lt (mergS lt u v)
  | [], _, h => h
  | x :: v, u, h => by
    have := mergS_asc (v := v) (putS_asc lt irr tot (x := x) h)
    exact this
theorem lt_transS {x y z : α} (h1 : lt x y = true) (h2 : lt y z = true) : lt x z = true := by
  cases hq : lt x z with
  | true => rfl
  | false =>
    rw [irr x z y hq (tot y z h2)] at h1
    cases h1
theorem partS (x : α) : ∀ {w : List α}, AscS lt w → ∃ p q, w = p ++ q ∧ (∀ z ∈ p, lt x z = false) ∧ ∀ z ∈ q, lt x z = true
  | [], _ => ⟨[], [], rfl, fun _ h => absurd h List.not_mem_nil, fun _ h => absurd h List.not_mem_nil⟩
  | y :: w, h => by
    have _h := tot
    obtain ⟨h1, h2⟩ := List.pairwise_cons.1 h
    cases hq : lt x y with
    | false =>
      obtain ⟨p, q, rfl, a, b⟩ := partS x h2
      refine ⟨y :: p, q, rfl, fun z hz => ?_, b⟩
      rcases List.mem_cons.1 hz with rfl | hz
      · exact hq
      · exact a z hz
    | true =>
      refine ⟨[], y :: w, rfl, fun _ h => absurd h List.not_mem_nil, fun z hz => ?_⟩
      rcases List.mem_cons.1 hz with rfl | hz
      · exact hq
      · cases hz2 : lt x z with
        | true => rfl
        | false =>
          rw [irr x z y hz2 (h1 z hz)] at hq
          cases hq
theorem putS_comm {x y : α} {w : List α} (hw : AscS lt w) (h : lt x y = true) : putS lt (putS lt w y) x = putS lt (putS lt w x) y := by
  obtain ⟨p, q, rfl, hp, hq⟩ := partS lt irr tot x hw
  have hyp : ∀ z ∈ p, lt y z = false := fun z hz => by
    cases hyz : lt y z with
    | false => rfl
    | true =>
      have := lt_transS lt irr tot h hyz
      rw [hp z hz] at this
      cases this
  rw [putS_right lt hyp, putS_left lt (fun z hz => ?_), putS_left lt hq, putS_end lt hp, putS_right lt (fun z hz => ?_)]
  · rcases List.mem_append.1 hz with hz | hz
    · exact hyp z hz
    · rw [List.mem_singleton.1 hz]
      exact tot x y h
  · rcases (mem_putS lt).1 hz with rfl | hz
    · exact h
    · exact hq z hz
theorem mergS_comm {x : α} : ∀ {v w : List α}, AscS lt w → (∀ y ∈ v, lt x y = true) → putS lt (mergS lt w v) x = mergS lt (putS lt w x) v
  | [], _, _, _ => rfl
  | y :: v, w, hw, h => by
    have := mergS_comm (v := v) (putS_asc lt irr tot (x := y) hw) fun z hz => h z (List.mem_cons_of_mem _ hz)
    unfold mergS at this ⊢
    rw [List.foldl_cons, List.foldl_cons, this, putS_comm lt irr tot hw (h y (List.mem_cons_self ..))]
theorem mergS_sort (b : List α) : ∀ u : List α, AscS lt u → mergS lt u (mergS lt [] b) = mergS lt u b := by
  have key : ∀ (r u : List α), AscS lt u → mergS lt u (mergS lt [] r.reverse) = mergS lt u r.reverse := fun r => by
    induction r with
    | nil => intro u _; rfl
    | cons x r ih =>
      intro u hu
      have hs : AscS lt (mergS lt [] r.reverse) := mergS_asc lt irr tot List.Pairwise.nil
      obtain ⟨p, q, e, hp, hq⟩ := partS lt irr tot x hs
      have e1 : mergS lt [] (x :: r).reverse = p ++ x :: q := by
        rw [List.reverse_cons, mergS_app, e]
        exact mergS_one lt hp hq
      rw [e1, List.reverse_cons, mergS_app lt u r.reverse, ← ih u hu, e, mergS_app lt u p, mergS_app lt u p]
      show mergS lt (putS lt (mergS lt u p) x) q = putS lt (mergS lt (mergS lt u p) q) x
      rw [mergS_comm lt irr tot (mergS_asc lt irr tot hu) hq]
  intro u hu
  have := key b.reverse u hu
  rwa [List.reverse_reverse] at this
/-- All of a list: its two halves sorted, and merged. -/
theorem mergS_halves (a b : List α) : mergS lt (mergS lt [] a) (mergS lt [] b) = mergS lt [] (a ++ b) := by
  rw [mergS_app, mergS_sort lt irr tot b _ (mergS_asc lt irr tot List.Pairwise.nil)]
end

end Go.Proofs.YtbdgpldhfemejaaDoor
