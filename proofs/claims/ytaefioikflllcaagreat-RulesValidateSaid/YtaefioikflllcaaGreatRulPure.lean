/-
  Rules, and the order in which names become available, as plain functions.
-/
import Derived.Test.YtaefioikflllcaaGreatMapPure
namespace Go.Proofs.YtaefioikflllcaaGreat

section
open Go.RowKit Go.Lib

/-- A unit type. -/
structure U9 where
  nm : ByteArray
  bld : Bool
  dep : Bool
  cls : Int
  w : Int
  h : Int
  rad : Int
  spd : Int
  sgt : Int
  hp : Int
  arm : Int
  load : Int
  wpn : ByteArray
  ore : Int
  wood : Int
  time : Int
  needs : List ByteArray
  trains : List ByteArray
  ress : List ByteArray
deriving DecidableEq
/-- A weapon. -/
structure W9 where
  nm : ByteArray
  rng : Int
  dmg : Int
  cool : Int
  spd : Int
  spl : Int
deriving DecidableEq
/-- A technology. -/
structure T9 where
  nm : ByteArray
  needs : List ByteArray
  ore : Int
  wood : Int
  time : Int
  un : ByteArray
  stat : Int
  amt : Int
deriving DecidableEq
/-- Rules. -/
structure R9 where
  us : List U9
  ws : List W9
  ts : List T9
deriving DecidableEq
def U9.zero : U9 := ⟨⟨#[]⟩, false, false, 0, 0, 0, 0, 0, 0, 0, 0, 0, ⟨#[]⟩, 0, 0, 0, [], [], []⟩
def W9.zero : W9 := ⟨⟨#[]⟩, 0, 0, 0, 0, 0⟩
def T9.zero : T9 := ⟨⟨#[]⟩, [], 0, 0, 0, ⟨#[]⟩, 0, 0⟩
def hasv (l : List ByteArray) (s : ByteArray) : Bool := l.any fun x => decide (x = s)
def ltS (a b : ByteArray) : Bool := Op.bytesLess a.toList b.toList
def ascv : List ByteArray → Bool
  | a :: b :: l => ltS a b && ascv (b :: l)
  | _ => true
def rngv (n lo hi : Int) : Bool := decide (lo ≤ n ∧ n ≤ hi)
def statv (n : Int) : Bool := rngv n 0 100000
def shapev (u : U9) : Bool :=
  if rngv u.sgt 0 16 && rngv u.hp 1 100000 && statv u.arm && statv u.ore && statv u.wood && statv u.time then
    (if u.bld then decide (u.cls = 0) && rngv u.w 1 4 && rngv u.h 1 4 && decide (u.rad = 0) && decide (u.spd = 0) && decide (u.load = 0)
    else rngv u.cls 1 3 && decide (u.w = 0) && decide (u.h = 0) && rngv u.rad 16 128 && rngv u.spd 0 256 && statv u.load && !u.dep)
  else false
def weapv (w : W9) : Bool := rngv w.rng 0 8192 && statv w.dmg && statv w.cool && rngv w.spd 0 512 && rngv w.spl 0 1024
def techv (t : T9) : Bool := statv t.ore && statv t.wood && statv t.time && statv t.amt && rngv t.stat 1 6
def namesU (r : R9) : List ByteArray := r.us.map U9.nm
def namesW (r : R9) : List ByteArray := r.ws.map W9.nm
def namesT (r : R9) : List ByteArray := r.ts.map T9.nm
def limv (r : R9) : Bool := decide (r.us.length ≤ 16) && decide (r.ws.length ≤ 8) && decide (r.ts.length ≤ 12)
  && r.us.all (fun u => decide (u.needs.length ≤ 4) && decide (u.trains.length ≤ 4) && decide (u.ress.length ≤ 4)) && r.ts.all (fun t => decide (t.needs.length ≤ 4))
def namedv (r : R9) : Bool := (namesU r ++ namesW r ++ namesT r).all fun s => nameB s.data.toList
def ordv (r : R9) : Bool := ascv (namesU r) && ascv (namesW r) && ascv (namesT r) && r.us.all (fun u => ascv u.needs && ascv u.trains && ascv u.ress) && r.ts.all (fun t => ascv t.needs)
def dupv (r : R9) : Bool := r.us.any fun u => hasv (namesT r) u.nm
def numsv (r : R9) : Bool := r.us.all shapev && r.ws.all weapv && r.ts.all techv
def foundv (r : R9) : Bool :=
  r.us.all (fun u => (decide (u.wpn = ⟨#[]⟩) || hasv (namesW r) u.wpn) && u.needs.all (hasv (namesU r ++ namesT r)) && u.trains.all (hasv (namesU r)) && u.ress.all (hasv (namesT r)))
  && r.ts.all fun t => t.needs.all (hasv (namesU r ++ namesT r)) && hasv (namesU r) t.un
def unitv (r : R9) (s : ByteArray) : Option U9 := r.us.find? fun u => decide (u.nm = s)
def weaponv (r : R9) (s : ByteArray) : Option W9 := r.ws.find? fun u => decide (u.nm = s)
def techfv (r : R9) (s : ByteArray) : Option T9 := r.ts.find? fun u => decide (u.nm = s)
def neededv (r : R9) (l : List ByteArray) : Bool := l.all fun s => match unitv r s with
  | some u => u.bld
  | none => true
def typedv (r : R9) : Bool :=
  r.us.all (fun u => neededv r u.needs && (u.bld || u.ress.isEmpty) && u.trains.all fun s => ((unitv r s).getD U9.zero).bld != u.bld)
  && r.ts.all fun t => neededv r t.needs
def needsv (r : R9) (s : ByteArray) : List ByteArray := match unitv r s with
  | some u => u.needs
  | none => ((techfv r s).getD T9.zero).needs
/-- The least name that is not there and whose needs are. -/
def bestv (r : R9) (out : List ByteArray) : List ByteArray → ByteArray → ByteArray
  | [], best => best
  | s :: l, best => bestv r out l (if !hasv out s && (needsv r s).all (hasv out) && (decide (best = ⟨#[]⟩) || ltS s best) then s else best)
def seqgo (r : R9) : Nat → List ByteArray → List ByteArray
  | 0, out => out
  | k + 1, out => if bestv r out (namesU r ++ namesT r) ⟨#[]⟩ = ⟨#[]⟩ then out else seqgo r k (out ++ [bestv r out (namesU r ++ namesT r) ⟨#[]⟩])
def seqv (r : R9) : List ByteArray := seqgo r (r.us.length + r.ts.length + 1) []
def valv (r : R9) : Int :=
  if limv r = false then 2 else if namedv r = false then 6 else if ordv r = false then 13 else if dupv r = true then 7
  else if numsv r = false then 1 else if foundv r = false then 8 else if typedv r = false then 18
  else if (seqv r).length < r.us.length + r.ts.length then 14 else 0
def orderv (r : R9) : List ByteArray × Int := if valv r = 0 then (seqv r, 0) else ([], valv r)

theorem hasv_iff {l : List ByteArray} {s : ByteArray} : hasv l s = true ↔ s ∈ l := by
  unfold hasv
  rw [List.any_eq_true]
  exact ⟨fun ⟨x, hx, e⟩ => by have := of_decide_eq_true e; exact this ▸ hx, fun h => ⟨s, h, decide_eq_true rfl⟩⟩
theorem ne_list {s t : ByteArray} (h : ¬ s = t) : (s.toList == t.toList) = false ∧ ¬ s.toList = t.toList := by
  have h2 : ¬ s.toList = t.toList := fun e => h (by
    rw [Lib.toList_data, Lib.toList_data] at e
    exact ByteArray.ext (Array.toList_inj.1 e))
  exact ⟨beq_eq_false_iff_ne.2 h2, h2⟩
theorem has_take {l : List ByteArray} {s : ByteArray} {i : Nat} (hi : i < l.length) (h : hasv (l.take i) s = false) (hn : ¬ l[i]'hi = s) : hasv (l.take (i + 1)) s = false := by
  rw [List.take_succ_eq_append_getElem hi]
  unfold hasv at h ⊢
  rw [List.any_append, h, Bool.false_or, List.any_cons, List.any_nil, Bool.or_false]
  exact decide_eq_false hn
theorem has_at {l : List ByteArray} {i : Nat} (hi : i < l.length) : hasv l (l[i]'hi) = true := hasv_iff.2 (List.getElem_mem hi)
theorem ascv_iff : ∀ {l : List ByteArray}, ascv l = true ↔ ∀ i, (h : i + 1 < l.length) → ltS (l[i]'(Nat.lt_of_succ_lt h)) (l[i + 1]'h) = true
  | [] => ⟨fun _ i h => absurd h (by simp), fun _ => rfl⟩
  | [a] => ⟨fun _ i h => absurd h (by simp), fun _ => rfl⟩
  | a :: b :: l => by
    rw [ascv, Bool.and_eq_true, ascv_iff (l := b :: l)]
    constructor
    · rintro ⟨h1, h2⟩ i hi
      cases i with
      | zero => exact h1
      | succ i => exact h2 i (by simpa using hi)
    · intro h
      exact ⟨h 0 (by simp), fun i hi => h (i + 1) (by simpa using hi)⟩
theorem asc_no {l : List ByteArray} {i : Nat} (h : i + 1 < l.length) (hn : ltS (l[i]'(Nat.lt_of_succ_lt h)) (l[i + 1]'h) = false) : ascv l = false := by
  cases hq : ascv l with
  | false => rfl
  | true => rw [ascv_iff.1 hq i h] at hn; cases hn
theorem all_take {f : ByteArray → Bool} {l : List ByteArray} {i : Nat} (hi : i < l.length) (h : (l.take i).all f = true) (hf : f (l[i]'hi) = true) : (l.take (i + 1)).all f = true := by
  rw [List.take_succ_eq_append_getElem hi, List.all_append, h, List.all_cons, hf, List.all_nil]
  rfl
theorem all_no {f : ByteArray → Bool} {l : List ByteArray} {i : Nat} (hi : i < l.length) (hf : f (l[i]'hi) = false) : l.all f = false := by
  cases hq : l.all f with
  | false => rfl
  | true => rw [List.all_eq_true.1 hq _ (List.getElem_mem hi)] at hf; cases hf

end

section
open Go.RowKit Go.Lib

def stepv (r : R9) (out : List ByteArray) (s best : ByteArray) : ByteArray := if !hasv out s && (needsv r s).all (hasv out) && (decide (best = ⟨#[]⟩) || ltS s best) then s else best
theorem bestv_cons (r : R9) (out l : List ByteArray) (s best : ByteArray) : bestv r out (s :: l) best = bestv r out l (stepv r out s best) := rfl
/-- What is free to come. -/
def cand (r : R9) (out : List ByteArray) (s : ByteArray) : Bool := !hasv out s && (needsv r s).all (hasv out)
theorem stepv_eq (r : R9) (out : List ByteArray) (s best : ByteArray) : stepv r out s best = if cand r out s && (decide (best = ⟨#[]⟩) || ltS s best) then s else best := rfl
theorem best_mem (r : R9) (out : List ByteArray) : ∀ (l : List ByteArray) (best : ByteArray), bestv r out l best = best ∨ (bestv r out l best ∈ l ∧ cand r out (bestv r out l best) = true)
  | [], _ => .inl rfl
  | s :: l, best => by
    rw [bestv_cons]
    rcases best_mem r out l (stepv r out s best) with h | ⟨h1, h2⟩
    · rw [h, stepv_eq]
      by_cases hc : (cand r out s && (decide (best = ⟨#[]⟩) || ltS s best)) = true
      · rw [if_pos hc]
        rw [Bool.and_eq_true] at hc
        exact .inr ⟨by simp, hc.1⟩
      · rw [if_neg hc]; exact .inl rfl
    · exact .inr ⟨List.mem_cons_of_mem _ h1, h2⟩
theorem nodup_len {α : Type} [DecidableEq α] : ∀ (l m : List α), l.Nodup → (∀ x ∈ l, x ∈ m) → l.length ≤ m.length
  | [], _, _, _ => Nat.zero_le _
  | a :: l, m, hn, hs => by
    have ha : a ∈ m := hs a (by simp)
    have hnc := List.nodup_cons.1 hn
    have h := nodup_len l (m.erase a) hnc.2 (fun x hx => by
      have hne : x ≠ a := fun e => hnc.1 (e ▸ hx)
      exact (List.mem_erase_of_ne hne).2 (hs x (List.mem_cons_of_mem _ hx)))
    rw [List.length_erase_of_mem ha] at h
    have : 0 < m.length := List.length_pos_of_mem ha
    simp only [List.length_cons]
    omega
def allN (r : R9) : List ByteArray := namesU r ++ namesT r
theorem allN_len (r : R9) : (allN r).length = r.us.length + r.ts.length := by unfold allN namesU namesT; simp
/-- What has come: each once, each one of the names. -/
def SeqI (r : R9) (out : List ByteArray) : Prop := out.Nodup ∧ ∀ x ∈ out, x ∈ allN r
theorem SeqI.nil (r : R9) : SeqI r [] := ⟨List.nodup_nil, fun x hx => by simp at hx⟩
theorem SeqI.len {r : R9} {out : List ByteArray} (h : SeqI r out) : out.length ≤ r.us.length + r.ts.length := by rw [← allN_len]; exact nodup_len _ _ h.1 h.2
theorem SeqI.step {r : R9} {out : List ByteArray} {b : ByteArray} (h : SeqI r out) (hb : bestv r out (allN r) ⟨#[]⟩ = b) (hne : ¬ b = ⟨#[]⟩) : SeqI r (out ++ [b]) := by
  rcases best_mem r out (allN r) ⟨#[]⟩ with h1 | ⟨h1, h2⟩
  · exact absurd (hb.symm.trans h1) hne
  · rw [hb] at h1 h2
    have hb2 : ¬ b ∈ out := fun hm => by
      have h3 := hasv_iff.2 hm
      unfold cand at h2
      rw [h3] at h2
      cases h2
    refine ⟨?_, fun x hx => ?_⟩
    · rw [List.nodup_append]
      refine ⟨h.1, by simp, fun a ha c hc => ?_⟩
      rw [List.mem_singleton] at hc
      subst hc
      exact fun e => hb2 (e ▸ ha)
    · rcases List.mem_append.1 hx with hx | hx
      · exact h.2 x hx
      · rw [List.mem_singleton] at hx; rw [hx]; exact h1
/-- What is left to do. -/
def seqLeft (r : R9) (out : List ByteArray) : List ByteArray := seqgo r (r.us.length + r.ts.length + 1 - out.length) out
theorem seqLeft_nil (r : R9) : seqLeft r [] = seqv r := rfl
theorem seqLeft_end {r : R9} {out : List ByteArray} (h : SeqI r out) (hb : bestv r out (allN r) ⟨#[]⟩ = ⟨#[]⟩) : seqLeft r out = out := by
  have hl := h.len
  unfold seqLeft
  have e : bestv r out (namesU r ++ namesT r) ⟨#[]⟩ = ⟨#[]⟩ := hb
  rw [show r.us.length + r.ts.length + 1 - out.length = (r.us.length + r.ts.length - out.length) + 1 by omega, seqgo, e, if_pos rfl]
theorem seqLeft_step {r : R9} {out : List ByteArray} {b : ByteArray} (h : SeqI r out) (hb : bestv r out (allN r) ⟨#[]⟩ = b) (hne : ¬ b = ⟨#[]⟩) : seqLeft r out = seqLeft r (out ++ [b]) := by
  have hl := h.len
  unfold seqLeft
  have e : bestv r out (namesU r ++ namesT r) ⟨#[]⟩ = b := hb
  rw [show r.us.length + r.ts.length + 1 - out.length = (r.us.length + r.ts.length - out.length) + 1 by omega, seqgo, e, if_neg hne]
  congr 1
  simp only [List.length_append, List.length_cons, List.length_nil]
  omega

end

section
open Go.RowKit Go.Lib

theorem bl_irrefl : ∀ x : List UInt8, Op.bytesLess x x = false
  | [] => rfl
  | a :: x => by simp [Op.bytesLess, bl_irrefl x]
theorem bl_trans : ∀ {x y z : List UInt8}, Op.bytesLess x y = true → Op.bytesLess y z = true → Op.bytesLess x z = true
  | x, [], z, h, _ => by cases x <;> simp [Op.bytesLess] at h
  | x, b :: y, [], _, h => by simp [Op.bytesLess] at h
  | [], b :: y, c :: z, _, _ => rfl
  | a :: x, b :: y, c :: z, h1, h2 => by
    simp only [Op.bytesLess, Bool.or_eq_true, Bool.and_eq_true, decide_eq_true_eq, beq_iff_eq] at h1 h2 ⊢
    rcases h1 with h1 | ⟨rfl, h1⟩
    · rcases h2 with h2 | ⟨rfl, h2⟩
      · exact .inl (UInt8.lt_trans h1 h2)
      · exact .inl h1
    · rcases h2 with h2 | ⟨rfl, h2⟩
      · exact .inl h2
      · exact .inr ⟨rfl, bl_trans h1 h2⟩
theorem bl_tri : ∀ {x y : List UInt8}, Op.bytesLess x y = false → Op.bytesLess y x = false → x = y
  | [], [], _, _ => rfl
  | [], b :: y, h, _ => by simp [Op.bytesLess] at h
  | a :: x, [], _, h => by simp [Op.bytesLess] at h
  | a :: x, b :: y, h1, h2 => by
    simp only [Op.bytesLess, Bool.or_eq_false_iff, Bool.and_eq_false_iff, decide_eq_false_iff_not, beq_eq_false_iff_ne] at h1 h2
    have e : a = b := UInt8.le_antisymm (UInt8.not_lt.1 h2.1) (UInt8.not_lt.1 h1.1)
    subst e
    have k1 : Op.bytesLess x y = false := by simpa using h1.2
    have k2 : Op.bytesLess y x = false := by simpa using h2.2
    rw [bl_tri k1 k2]
theorem ltS_irrefl (a : ByteArray) : ltS a a = false := bl_irrefl _
theorem ltS_trans {a b c : ByteArray} (h : ltS a b = true) (k : ltS b c = true) : ltS a c = true := bl_trans h k
theorem ltS_tri {a b : ByteArray} (h : ltS a b = false) (k : ltS b a = false) : a = b := by
  by_cases e : a = b
  · exact e
  · exact absurd (bl_tri h k) (ne_list e).2
theorem ltS_no {a b : ByteArray} (h : ltS a b = true) (k : ltS b a = true) : False := by
  have := ltS_trans h k
  rw [ltS_irrefl] at this
  cases this
theorem ltS_ne {a b : ByteArray} (h : ltS a b = true) : ¬ a = b := fun e => by subst e; rw [ltS_irrefl] at h; cases h

theorem best_spec (r : R9) (out : List ByteArray) : ∀ (l : List ByteArray) (best : ByteArray), (∀ s ∈ l, ¬ s = ⟨#[]⟩) →
    (∀ s ∈ l, cand r out s = true → bestv r out l best = s ∨ ltS (bestv r out l best) s = true) ∧ (¬ best = ⟨#[]⟩ → bestv r out l best = best ∨ ltS (bestv r out l best) best = true) ∧
    ((¬ best = ⟨#[]⟩ ∨ ∃ s ∈ l, cand r out s = true) → ¬ bestv r out l best = ⟨#[]⟩)
  | [], best, _ => ⟨fun s h => absurd h (by simp), fun _ => .inl rfl, fun h => by
    rcases h with h | ⟨s, h, _⟩
    · exact h
    · simp at h⟩
  | s :: l, best, hne => by
    obtain ⟨i1, i2, i3⟩ := best_spec r out l (stepv r out s best) (fun t ht => hne t (List.mem_cons_of_mem _ ht))
    have hs : ¬ s = ⟨#[]⟩ := hne s (by simp)
    rw [bestv_cons]
    generalize bestv r out l (stepv r out s best) = B at *
    rw [stepv_eq] at *
    by_cases hc : (cand r out s && (decide (best = ⟨#[]⟩) || ltS s best)) = true
    · rw [if_pos hc] at *
      obtain ⟨c1, c2⟩ := Bool.and_eq_true_iff.1 hc
      refine ⟨fun t ht hct => ?_, fun hb => ?_, fun _ => i3 (.inl hs)⟩
      · rcases List.mem_cons.1 ht with rfl | ht
        · exact i2 hs
        · exact i1 t ht hct
      · have h3 : ltS s best = true := by rw [decide_eq_false hb, Bool.false_or] at c2; exact c2
        rcases i2 hs with h | h
        · rw [h]; exact .inr h3
        · exact .inr (ltS_trans h h3)
    · rw [if_neg hc] at *
      refine ⟨fun t ht hct => ?_, i2, fun h => ?_⟩
      · rcases List.mem_cons.1 ht with rfl | ht
        · rw [hct, Bool.true_and, Bool.or_eq_true, not_or, decide_eq_true_eq, Bool.not_eq_true] at hc
          obtain ⟨hb, hl⟩ := hc
          rcases i2 hb with h | h
          · rw [h]
            by_cases e : best = t
            · exact .inl e
            · cases hq : ltS best t with
              | true => exact .inr rfl
              | false => exact absurd (ltS_tri hq hl) e
          · by_cases e : best = t
            · rw [← e]; exact .inr h
            · cases hq : ltS best t with
              | true => exact .inr (ltS_trans h hq)
              | false => exact absurd (ltS_tri hq hl) e
        · exact i1 t ht hct
      · rcases h with h | ⟨t, ht, hct⟩
        · exact i3 (.inl h)
        · rcases List.mem_cons.1 ht with rfl | ht
          · rw [hct, Bool.true_and, Bool.or_eq_true, not_or, decide_eq_true_eq] at hc
            exact i3 (.inl hc.1)
          · exact i3 (.inr ⟨t, ht, hct⟩)
theorem best_none {r : R9} {out l : List ByteArray} (h : ∀ s ∈ l, cand r out s = false) : bestv r out l ⟨#[]⟩ = ⟨#[]⟩ := by
  rcases best_mem r out l ⟨#[]⟩ with h1 | ⟨h1, h2⟩
  · exact h1
  · rw [h _ h1] at h2; cases h2
theorem best_is {r : R9} {out l : List ByteArray} {b : ByteArray} (hne : ∀ s ∈ l, ¬ s = ⟨#[]⟩) (hb : b ∈ l) (hc : cand r out b = true) (h : ∀ s ∈ l, cand r out s = true → s = b ∨ ltS b s = true) : bestv r out l ⟨#[]⟩ = b := by
  obtain ⟨i1, -, i3⟩ := best_spec r out l ⟨#[]⟩ hne
  have h3 := i3 (.inr ⟨b, hb, hc⟩)
  rcases best_mem r out l ⟨#[]⟩ with h1 | ⟨h1, h2⟩
  · exact absurd h1 h3
  · rcases h _ h1 h2 with e | e
    · exact e
    · rcases i1 b hb hc with e2 | e2
      · exact e2
      · exact (ltS_no e e2).elim

/-- Names, each once, none empty. -/
structure Uniq (r : R9) : Prop where
  nd : (allN r).Nodup
  ne : ∀ s ∈ allN r, ¬ s = ⟨#[]⟩
theorem asc_pair : ∀ {l : List ByteArray}, ascv l = true → l.Pairwise (fun a b => ltS a b = true)
  | [], _ => List.Pairwise.nil
  | [a], _ => by simp
  | a :: b :: l, h => by
    rw [ascv, Bool.and_eq_true] at h
    have ih := asc_pair h.2
    refine List.pairwise_cons.2 ⟨fun x hx => ?_, ih⟩
    rcases List.mem_cons.1 hx with rfl | hx
    · exact h.1
    · exact ltS_trans h.1 ((List.pairwise_cons.1 ih).1 x hx)
theorem asc_nodup {l : List ByteArray} (h : ascv l = true) : l.Nodup := (asc_pair h).imp fun k => ltS_ne k
theorem Uniq.of {r : R9} (h1 : namedv r = true) (h2 : ordv r = true) (h3 : dupv r = false) : Uniq r := by
  unfold ordv at h2
  simp only [Bool.and_eq_true] at h2
  obtain ⟨⟨⟨⟨u1, -⟩, u3⟩, -⟩, -⟩ := h2
  refine ⟨?_, fun s hs e => ?_⟩
  · unfold allN
    rw [List.nodup_append]
    refine ⟨asc_nodup u1, asc_nodup u3, fun a ha b hb e => ?_⟩
    subst e
    unfold namesU at ha
    obtain ⟨u, hu, rfl⟩ := List.mem_map.1 ha
    unfold dupv at h3
    rw [List.any_eq_false] at h3
    exact h3 u hu (hasv_iff.2 hb)
  · unfold namedv at h1
    rw [List.all_eq_true] at h1
    have h4 : nameB s.data.toList = true := h1 s (by
      unfold allN at hs
      rcases List.mem_append.1 hs with h | h
      · exact List.mem_append_left _ (List.mem_append_left _ h)
      · exact List.mem_append_right _ h)
    subst e
    exact absurd h4 (by decide)
abbrev I9 := ByteArray × List ByteArray
def itemsv (r : R9) : List I9 := r.us.map (fun u => (u.nm, u.needs)) ++ r.ts.map (fun t => (t.nm, t.needs))
theorem items_len (r : R9) : (itemsv r).length = r.us.length + r.ts.length := by unfold itemsv; simp
theorem items_names (r : R9) : (itemsv r).map Prod.fst = allN r := by unfold itemsv allN namesU namesT; simp [List.map_map, Function.comp_def]
theorem find_nd {α : Type} {f : α → ByteArray} : ∀ {l : List α}, (l.map f).Nodup → ∀ {x : α}, x ∈ l → l.find? (fun y => decide (f y = f x)) = some x
  | [], _, _, h => absurd h (by simp)
  | a :: l, hn, x, h => by
    rw [List.map_cons, List.nodup_cons] at hn
    rcases List.mem_cons.1 h with rfl | h
    · simp
    · have hne : ¬ f a = f x := fun e => hn.1 (e ▸ List.mem_map_of_mem h)
      rw [List.find?_cons, decide_eq_false hne]
      exact find_nd hn.2 h
theorem find_out {α : Type} {f : α → ByteArray} {l : List α} {s : ByteArray} (h : ¬ s ∈ l.map f) : l.find? (fun y => decide (f y = s)) = none := by
  rw [List.find?_eq_none]
  intro x hx e
  exact h (by rw [← of_decide_eq_true e]; exact List.mem_map_of_mem hx)
theorem Uniq.split {r : R9} (h : Uniq r) : (namesU r).Nodup ∧ (namesT r).Nodup ∧ ∀ a ∈ namesU r, ¬ a ∈ namesT r := by
  have := h.nd
  unfold allN at this
  rw [List.nodup_append] at this
  exact ⟨this.1, this.2.1, fun a ha hb => this.2.2 a ha a hb rfl⟩
theorem Uniq.unit {r : R9} (h : Uniq r) {u : U9} (hu : u ∈ r.us) : unitv r u.nm = some u := find_nd (f := U9.nm) h.split.1 hu
theorem Uniq.tech {r : R9} (h : Uniq r) {t : T9} (ht : t ∈ r.ts) : unitv r t.nm = none ∧ techfv r t.nm = some t :=
  ⟨find_out (f := U9.nm) fun hm => h.split.2.2 _ hm (List.mem_map_of_mem (f := T9.nm) ht), find_nd (f := T9.nm) h.split.2.1 ht⟩
theorem Uniq.needs {r : R9} (h : Uniq r) {x : I9} (hx : x ∈ itemsv r) : needsv r x.1 = x.2 := by
  unfold itemsv at hx
  rcases List.mem_append.1 hx with hx | hx
  · obtain ⟨u, hu, rfl⟩ := List.mem_map.1 hx
    unfold needsv
    rw [h.unit hu]
  · obtain ⟨t, ht, rfl⟩ := List.mem_map.1 hx
    unfold needsv
    rw [(h.tech ht).1, (h.tech ht).2]
    rfl
theorem item_at {r : R9} {s : ByteArray} (h : s ∈ allN r) : ∃ n, (s, n) ∈ itemsv r := by
  rw [← items_names] at h
  obtain ⟨⟨a, n⟩, hx, rfl⟩ := List.mem_map.1 h
  exact ⟨n, hx⟩
def freev (out : List ByteArray) (x : I9) : Bool := x.2.all (hasv out)
theorem Uniq.cand {r : R9} (h : Uniq r) {out : List ByteArray} {x : I9} (hx : x ∈ itemsv r) : cand r out x.1 = (!hasv out x.1 && freev out x) := by
  unfold Go.Proofs.YtaefioikflllcaaGreat.cand freev
  rw [h.needs hx]
/-- What waits: ascending by name; each item whose name has not come. -/
structure WaitI (r : R9) (w : List I9) (out : List ByteArray) : Prop where
  asc : w.Pairwise (fun a b => ltS a.1 b.1 = true)
  mem : ∀ x, x ∈ w ↔ x ∈ itemsv r ∧ ¬ x.1 ∈ out
theorem WaitI.start {r : R9} {w : List I9} (h : w.Perm (itemsv r)) (ha : w.Pairwise (fun a b => ltS a.1 b.1 = true)) : WaitI r w [] :=
  ⟨ha, fun x => by rw [h.mem_iff]; simp⟩
theorem WaitI.none {r : R9} {w : List I9} {out : List ByteArray} (h : WaitI r w out) (hU : Uniq r) (hn : ∀ x ∈ w, freev out x = false) : bestv r out (allN r) ⟨#[]⟩ = ⟨#[]⟩ :=
  best_none fun s hs => by
    obtain ⟨n, hx⟩ := item_at hs
    rw [hU.cand hx]
    by_cases ho : s ∈ out
    · rw [show hasv out s = true from hasv_iff.2 ho]; rfl
    · rw [hn (s, n) ((h.mem _).2 ⟨hx, ho⟩), Bool.and_false]
theorem has_no {l : List ByteArray} {s : ByteArray} (h : ¬ s ∈ l) : hasv l s = false := by
  cases hq : hasv l s with
  | false => rfl
  | true => exact absurd (hasv_iff.1 hq) h
theorem WaitI.some {r : R9} {w : List I9} {out : List ByteArray} {i : Nat} (h : WaitI r w out) (hU : Uniq r) (hi : i < w.length) (hf : freev out (w[i]'hi) = true) (hb : ∀ j, (k : j < w.length) → j < i → freev out (w[j]'k) = false) :
    bestv r out (allN r) ⟨#[]⟩ = (w[i]'hi).1 ∧ ¬ (w[i]'hi).1 = ⟨#[]⟩ := by
  have hm := (h.mem _).1 (List.getElem_mem hi)
  have ha : (w[i]'hi).1 ∈ allN r := by rw [← items_names]; exact List.mem_map_of_mem hm.1
  refine ⟨best_is hU.ne ha (by rw [hU.cand hm.1, has_no hm.2, hf]; rfl) fun s hs hc => ?_, hU.ne _ ha⟩
  obtain ⟨n, hx⟩ := item_at hs
  have hc' := hc
  rw [show s = (s, n).1 from rfl, hU.cand hx, Bool.and_eq_true, Bool.not_eq_true'] at hc'
  have ho : ¬ s ∈ out := fun hm => by
    have := hasv_iff.2 hm
    rw [hc'.1] at this
    cases this
  obtain ⟨j, hj, e⟩ := List.getElem_of_mem ((h.mem (s, n)).2 ⟨hx, ho⟩)
  rcases Nat.lt_trichotomy j i with k | k | k
  · have := hb j hj k
    rw [e, hc'.2] at this
    cases this
  · subst k
    exact .inl (by rw [e])
  · have := List.pairwise_iff_getElem.1 h.asc i j hi hj k
    rw [e] at this
    exact .inr this
theorem WaitI.step {r : R9} {w : List I9} {out : List ByteArray} {i : Nat} (h : WaitI r w out) (hi : i < w.length) : WaitI r (w.eraseIdx i) (out ++ [(w[i]'hi).1]) := by
  refine ⟨h.asc.sublist (List.eraseIdx_sublist _ _), fun x => ?_⟩
  rw [List.mem_eraseIdx_iff_getElem]
  have hp := List.pairwise_iff_getElem.1 h.asc
  constructor
  · rintro ⟨j, hj, hne, rfl⟩
    have hm := (h.mem _).1 (List.getElem_mem hj)
    refine ⟨hm.1, fun hx => ?_⟩
    rcases List.mem_append.1 hx with hx | hx
    · exact hm.2 hx
    · rw [List.mem_singleton] at hx
      rcases Nat.lt_trichotomy j i with k | k | k
      · exact ltS_ne (hp j i hj hi k) hx
      · exact hne k
      · exact ltS_ne (hp i j hi hj k) hx.symm
  · rintro ⟨h1, h2⟩
    have hw := (h.mem x).2 ⟨h1, fun hx => h2 (List.mem_append_left _ hx)⟩
    obtain ⟨j, hj, rfl⟩ := List.getElem_of_mem hw
    exact ⟨j, hj, fun e => h2 (by subst e; simp), rfl⟩

end

section
open Go.RowKit Go.Lib

/-- What has come, one step after the other. -/
def Came (r : R9) (out : List ByteArray) : Prop := ∀ i, (h : i < out.length) → bestv r (out.take i) (allN r) ⟨#[]⟩ = out[i]'h ∧ ¬ out[i]'h = ⟨#[]⟩
theorem Came.nil (r : R9) : Came r [] := fun i h => absurd h (by simp)
theorem Came.step {r : R9} {out : List ByteArray} {b : ByteArray} (h : Came r out) (hb : bestv r out (allN r) ⟨#[]⟩ = b) (hne : ¬ b = ⟨#[]⟩) : Came r (out ++ [b]) := fun i hi => by
  by_cases k : i < out.length
  · rw [List.getElem_append_left k, List.take_append_of_le_length (Nat.le_of_lt k)]
    exact h i k
  · have e : i = out.length := by simp at hi; omega
    subst e
    rw [List.getElem_append_right (Nat.le_refl _), List.take_left']
    · simpa using ⟨hb, hne⟩
    · rfl
theorem seq_end {r : R9} : ∀ (k : Nat) (out : List ByteArray), r.us.length + r.ts.length + 1 - out.length = k → SeqI r out → Came r out →
    SeqI r (seqLeft r out) ∧ Came r (seqLeft r out) ∧ bestv r (seqLeft r out) (allN r) ⟨#[]⟩ = ⟨#[]⟩
  | 0, out, hk, h, _ => by have := h.len; omega
  | k + 1, out, hk, h, hc => by
    by_cases hb : bestv r out (allN r) ⟨#[]⟩ = ⟨#[]⟩
    · rw [seqLeft_end h hb]
      exact ⟨h, hc, hb⟩
    · rw [seqLeft_step h rfl hb]
      exact seq_end k _ (by simp only [List.length_append, List.length_cons, List.length_nil]; omega) (h.step rfl hb) (hc.step rfl hb)
theorem seqv_end (r : R9) : SeqI r (seqv r) ∧ Came r (seqv r) ∧ bestv r (seqv r) (allN r) ⟨#[]⟩ = ⟨#[]⟩ := by
  rw [← seqLeft_nil]
  exact seq_end _ [] rfl (SeqI.nil r) (Came.nil r)
theorem Came.can {r : R9} {out : List ByteArray} (h : Came r out) {i : Nat} (hi : i < out.length) : out[i]'hi ∈ allN r ∧ cand r (out.take i) (out[i]'hi) = true := by
  obtain ⟨h1, h2⟩ := h i hi
  rcases best_mem r (out.take i) (allN r) ⟨#[]⟩ with e | ⟨e1, e2⟩
  · exact absurd (h1.symm.trans e) h2
  · rw [h1] at e1 e2
    exact ⟨e1, e2⟩
/-- Each name behind what it needs. -/
theorem Came.needs {r : R9} {out : List ByteArray} (h : Came r out) {i : Nat} (hi : i < out.length) : hasv (out.take i) (out[i]'hi) = false ∧ (needsv r (out[i]'hi)).all (hasv (out.take i)) = true := by
  have := (h.can hi).2
  unfold cand at this
  rw [Bool.and_eq_true, Bool.not_eq_true'] at this
  exact this
/-- A lesser name behind a greater one: it needs that. -/
theorem Came.least {r : R9} {out : List ByteArray} (hU : Uniq r) (h : Came r out) {i : Nat} (hi : i + 1 < out.length) (hl : ltS (out[i + 1]'hi) (out[i]'(Nat.lt_of_succ_lt hi)) = true) :
    hasv (needsv r (out[i + 1]'hi)) (out[i]'(Nat.lt_of_succ_lt hi)) = true := by
  have hi' := Nat.lt_of_succ_lt hi
  obtain ⟨k1, k2⟩ := h.needs hi
  have e : out.take (i + 1) = out.take i ++ [out[i]'hi'] := List.take_succ_eq_append_getElem hi'
  rw [e] at k1 k2
  have hno : ¬ (needsv r (out[i + 1]'hi)).all (hasv (out.take i)) = true := fun hq => by
    have hc : cand r (out.take i) (out[i + 1]'hi) = true := by
      unfold cand
      rw [hq, Bool.and_true, Bool.not_eq_true']
      exact has_no fun hm => by
        have := hasv_iff.2 (List.mem_append_left [out[i]'hi'] hm)
        rw [k1] at this
        cases this
    have hm := (h.can hi).1
    rcases (best_spec r (out.take i) (allN r) ⟨#[]⟩ hU.ne).1 _ hm hc with q | q
    · rw [(h i hi').1] at q
      exact ltS_ne hl q.symm
    · rw [(h i hi').1] at q
      exact ltS_no hl q
  rw [List.all_eq_true] at hno k2
  have : ∃ n ∈ needsv r (out[i + 1]'hi), ¬ hasv (out.take i) n = true := by
    apply Classical.byContradiction
    intro hx
    exact hno fun n hn => Classical.byContradiction fun hq => hx ⟨n, hn, hq⟩
  obtain ⟨n, hn, hq⟩ := this
  have h2 := hasv_iff.1 (k2 n hn)
  rcases List.mem_append.1 h2 with h2 | h2
  · exact absurd (hasv_iff.2 h2) hq
  · rw [List.mem_singleton] at h2
    subst h2
    exact hasv_iff.2 hn
/-- A list in which each name stands behind what it needs: then all come. -/
theorem seq_full {r : R9} (hU : Uniq r) {L : List ByteArray} (hL : ∀ s ∈ allN r, s ∈ L) (hn : ∀ i, (h : i < L.length) → L[i]'h ∈ allN r → ∀ n ∈ needsv r (L[i]'h), n ∈ L.take i ∧ n ∈ allN r) :
    (seqv r).length = r.us.length + r.ts.length := by
  obtain ⟨hI, -, hb⟩ := seqv_end r
  have hall : ∀ i, (h : i < L.length) → L[i]'h ∈ allN r → L[i]'h ∈ seqv r := by
    intro i
    induction i using Nat.strongRecOn with
    | _ i ih =>
      intro h hA
      apply Classical.byContradiction
      intro hno
      have hc : cand r (seqv r) (L[i]'h) = true := by
        unfold cand
        rw [has_no hno, Bool.not_false, Bool.true_and, List.all_eq_true]
        intro n hm
        obtain ⟨h1, h2⟩ := hn i h hA n hm
        obtain ⟨j, hj, e⟩ := List.getElem_of_mem h1
        have hj' : j < i := by simp at hj; omega
        have hjl : j < L.length := by omega
        have e2 : L[j]'hjl = n := by rw [← e, List.getElem_take]
        rw [← e2]
        exact hasv_iff.2 (ih j hj' hjl (by rw [e2]; exact h2))
      exact (best_spec r (seqv r) (allN r) ⟨#[]⟩ hU.ne).2.2 (.inr ⟨_, hA, hc⟩) hb
  have h1 := hI.len
  have h2 := nodup_len (allN r) (seqv r) hU.nd (fun s hs => by
    obtain ⟨i, hi, rfl⟩ := List.getElem_of_mem (hL s hs)
    exact hall i hi hs)
  rw [allN_len] at h2
  omega
theorem full_mem {l m : List ByteArray} (hn : l.Nodup) (hs : ∀ x ∈ l, x ∈ m) (hl : m.length ≤ l.length) : ∀ x ∈ m, x ∈ l := fun x hx => by
  apply Classical.byContradiction
  intro hno
  have := nodup_len (x :: l) m (List.nodup_cons.2 ⟨hno, hn⟩) (fun y hy => by
    rcases List.mem_cons.1 hy with rfl | hy
    · exact hx
    · exact hs y hy)
  simp only [List.length_cons] at this
  omega

/-- Rules without their last technology. -/
def lessR (r : R9) : R9 := ⟨r.us, r.ws, r.ts.dropLast⟩
/-- Is a name used, by a unit type or by another technology? -/
def usedv (r : R9) (s : ByteArray) : Bool := r.us.any (fun u => hasv u.needs s || hasv u.ress s) || r.ts.dropLast.any (fun t => hasv t.needs s)
/-- What valid rules are. -/
theorem val_zero {r : R9} (h : valv r = 0) : limv r = true ∧ namedv r = true ∧ ordv r = true ∧ dupv r = false ∧ numsv r = true ∧ foundv r = true ∧ typedv r = true ∧ (seqv r).length = r.us.length + r.ts.length := by
  have hl := (seqv_end r).1.len
  have a0 : limv r = true := by
    cases q : limv r with
    | true => rfl
    | false => simp [valv, q] at h
  have a1 : namedv r = true := by
    cases q : namedv r with
    | true => rfl
    | false => simp [valv, a0, q] at h
  have a2 : ordv r = true := by
    cases q : ordv r with
    | true => rfl
    | false => simp [valv, a0, a1, q] at h
  have a3 : dupv r = false := by
    cases q : dupv r with
    | false => rfl
    | true => simp [valv, a0, a1, a2, q] at h
  have a4 : numsv r = true := by
    cases q : numsv r with
    | true => rfl
    | false => simp [valv, a0, a1, a2, a3, q] at h
  have a5 : foundv r = true := by
    cases q : foundv r with
    | true => rfl
    | false => simp [valv, a0, a1, a2, a3, a4, q] at h
  have a6 : typedv r = true := by
    cases q : typedv r with
    | true => rfl
    | false => simp [valv, a0, a1, a2, a3, a4, a5, q] at h
  by_cases h8 : (seqv r).length < r.us.length + r.ts.length
  · simp [valv, a0, a1, a2, a3, a4, a5, a6, h8] at h
  · exact ⟨a0, a1, a2, a3, a4, a5, a6, by omega⟩
theorem asc_front {l : List ByteArray} {x : ByteArray} (h : ascv (l ++ [x]) = true) : ascv l = true := by
  rw [ascv_iff] at h ⊢
  intro i hi
  have := h i (by simp; omega)
  rwa [List.getElem_append_left, List.getElem_append_left] at this
theorem less_val (us : List U9) (ws : List W9) (ts : List T9) (t : T9) (h : valv ⟨us, ws, ts ++ [t]⟩ = 0) :
    valv ⟨us, ws, ts⟩ = if usedv ⟨us, ws, ts ++ [t]⟩ t.nm = true then 8 else 0 := by
  obtain ⟨h1, h2, h3, h4, h5, h6, h7, h8⟩ := val_zero h
  have hU := Uniq.of h2 h3 h4
  have g1 : limv ⟨us, ws, ts⟩ = true := by
    unfold limv at h1 ⊢
    simp only [Bool.and_eq_true, decide_eq_true_eq, List.length_append, List.length_cons, List.length_nil, List.all_append] at h1 ⊢
    obtain ⟨⟨⟨⟨a, b⟩, c⟩, d⟩, e, -⟩ := h1
    exact ⟨⟨⟨⟨a, b⟩, by omega⟩, d⟩, e⟩
  have g2 : namedv ⟨us, ws, ts⟩ = true := by
    unfold namedv namesU namesW namesT at h2 ⊢
    simp only [List.map_append, List.all_append, Bool.and_eq_true] at h2 ⊢
    exact ⟨h2.1, h2.2.1⟩
  have g3 : ordv ⟨us, ws, ts⟩ = true := by
    unfold ordv namesU namesW namesT at h3 ⊢
    simp only [List.map_append, List.map_cons, List.map_nil, List.all_append, Bool.and_eq_true] at h3 ⊢
    obtain ⟨⟨⟨⟨a, b⟩, c⟩, d⟩, e, -⟩ := h3
    exact ⟨⟨⟨⟨a, b⟩, asc_front c⟩, d⟩, e⟩
  have g4 : dupv ⟨us, ws, ts⟩ = false := by
    unfold dupv namesT at h4 ⊢
    rw [List.any_eq_false] at h4 ⊢
    intro u hu hq
    refine h4 u hu ?_
    rw [hasv_iff] at hq ⊢
    rw [List.map_append]
    exact List.mem_append_left _ hq
  have g5 : numsv ⟨us, ws, ts⟩ = true := by
    unfold numsv at h5 ⊢
    simp only [List.all_append, Bool.and_eq_true] at h5 ⊢
    exact ⟨h5.1, h5.2.1⟩
  have g7 : typedv ⟨us, ws, ts⟩ = true := by
    unfold typedv at h7 ⊢
    simp only [List.all_append, Bool.and_eq_true] at h7 ⊢
    exact ⟨h7.1, h7.2.1⟩
  have hT : ¬ t.nm ∈ allN ⟨us, ws, ts⟩ := fun hm => by
    have hnd := hU.nd
    unfold allN namesU namesT at hnd hm
    simp only [List.map_append, List.map_cons, List.map_nil] at hnd hm
    rw [← List.append_assoc, List.nodup_append] at hnd
    exact hnd.2.2 _ hm t.nm (by simp) rfl
  have hsub : ∀ s ∈ allN ⟨us, ws, ts ++ [t]⟩, s ∈ allN ⟨us, ws, ts⟩ ∨ s = t.nm := fun s hs => by
    unfold allN namesU namesT at hs ⊢
    simp only [List.map_append, List.map_cons, List.map_nil, ← List.append_assoc] at hs ⊢
    rcases List.mem_append.1 hs with hs | hs
    · exact .inl hs
    · exact .inr (by simpa using hs)
  have hsup : ∀ s ∈ allN ⟨us, ws, ts⟩, s ∈ allN ⟨us, ws, ts ++ [t]⟩ := fun s hs => by
    unfold allN namesU namesT at hs ⊢
    simp only [List.map_append, List.map_cons, List.map_nil, ← List.append_assoc] at hs ⊢
    exact List.mem_append_left _ hs
  have hused : usedv ⟨us, ws, ts ++ [t]⟩ t.nm = (us.any (fun u => hasv u.needs t.nm || hasv u.ress t.nm) || ts.any (fun x => hasv x.needs t.nm)) := by
    unfold usedv
    rw [List.dropLast_concat]
  -- what is found without the technology
  have hf : foundv ⟨us, ws, ts⟩ = !(us.any (fun u => hasv u.needs t.nm || hasv u.ress t.nm) || ts.any (fun x => hasv x.needs t.nm)) := by
    cases hq : (us.any (fun u => hasv u.needs t.nm || hasv u.ress t.nm) || ts.any (fun x => hasv x.needs t.nm)) with
    | true =>
      rw [Bool.not_true]
      cases hf : foundv ⟨us, ws, ts⟩ with
      | false => rfl
      | true =>
        exfalso
        unfold foundv at hf
        rw [Bool.and_eq_true, List.all_eq_true, List.all_eq_true] at hf
        rw [Bool.or_eq_true, List.any_eq_true, List.any_eq_true] at hq
        rcases hq with ⟨u, hu, hq⟩ | ⟨x, hx, hq⟩
        · have k := hf.1 u hu
          simp only [Bool.and_eq_true] at k
          rw [Bool.or_eq_true] at hq
          rcases hq with hq | hq
          · have := List.all_eq_true.1 k.1.1.2 _ (hasv_iff.1 hq)
            exact hT (hasv_iff.1 this)
          · have := List.all_eq_true.1 k.2 _ (hasv_iff.1 hq)
            exact hT (List.mem_append_right _ (hasv_iff.1 this))
        · have k := hf.2 x hx
          simp only [Bool.and_eq_true] at k
          have := List.all_eq_true.1 k.1 _ (hasv_iff.1 hq)
          exact hT (hasv_iff.1 this)
    | false =>
      rw [Bool.not_false]
      rw [Bool.or_eq_false_iff, List.any_eq_false, List.any_eq_false] at hq
      obtain ⟨q1, q2⟩ := hq
      unfold foundv at h6 ⊢
      rw [Bool.and_eq_true, List.all_eq_true, List.all_eq_true] at h6 ⊢
      have hlow : ∀ l : List ByteArray, ¬ hasv l t.nm = true → l.all (hasv (namesU ⟨us, ws, ts ++ [t]⟩ ++ namesT ⟨us, ws, ts ++ [t]⟩)) = true → l.all (hasv (namesU ⟨us, ws, ts⟩ ++ namesT ⟨us, ws, ts⟩)) = true := fun l hn ha => by
        rw [List.all_eq_true] at ha ⊢
        intro n hm
        rcases hsub n (hasv_iff.1 (ha n hm)) with k | k
        · exact hasv_iff.2 k
        · subst k; exact absurd (hasv_iff.2 hm) hn
      have hlow2 : ∀ l : List ByteArray, ¬ hasv l t.nm = true → l.all (hasv (namesT ⟨us, ws, ts ++ [t]⟩)) = true → l.all (hasv (namesT ⟨us, ws, ts⟩)) = true := fun l hn ha => by
        rw [List.all_eq_true] at ha ⊢
        intro n hm
        have k := hasv_iff.1 (ha n hm)
        unfold namesT at k ⊢
        simp only [List.map_append, List.map_cons, List.map_nil] at k
        rcases List.mem_append.1 k with k | k
        · exact hasv_iff.2 k
        · rw [List.mem_singleton] at k; subst k; exact absurd (hasv_iff.2 hm) hn
      refine ⟨fun u hu => ?_, fun x hx => ?_⟩
      · have k := h6.1 u hu
        have q := q1 u hu
        rw [Bool.or_eq_true, not_or] at q
        simp only [Bool.and_eq_true] at k ⊢
        exact ⟨⟨⟨k.1.1.1, hlow _ q.1 k.1.1.2⟩, k.1.2⟩, hlow2 _ q.2 k.2⟩
      · have k := h6.2 x (List.mem_append_left _ hx)
        simp only [Bool.and_eq_true] at k ⊢
        exact ⟨hlow _ (q2 x hx) k.1, k.2⟩
  rw [hused]
  cases hq : (us.any (fun u => hasv u.needs t.nm || hasv u.ress t.nm) || ts.any (fun x => hasv x.needs t.nm)) with
  | true =>
    rw [hq] at hf
    unfold valv
    simp [g1, g2, g3, g4, g5, hf]
  | false =>
    rw [hq, Bool.not_false] at hf
    have gU := Uniq.of g2 g3 g4
    have g8 : (seqv ⟨us, ws, ts⟩).length = us.length + ts.length := by
      obtain ⟨hI, hC, -⟩ := seqv_end ⟨us, ws, ts ++ [t]⟩
      refine seq_full gU (L := seqv ⟨us, ws, ts ++ [t]⟩) (fun s hs => full_mem hI.1 hI.2 (by rw [allN_len, h8]; exact Nat.le_refl _) s (hsup s hs)) fun i hi hA n hn => ?_
      obtain ⟨m, hx⟩ := item_at hA
      have hx2 : ((seqv ⟨us, ws, ts ++ [t]⟩)[i]'hi, m) ∈ itemsv ⟨us, ws, ts ++ [t]⟩ := by
        unfold itemsv at hx ⊢
        simp only [List.map_append, ← List.append_assoc] at hx ⊢
        exact List.mem_append_left _ hx
      have e1 := gU.needs hx
      have e2 := hU.needs hx2
      rw [e1] at hn
      have k := (hC.needs hi).2
      rw [e2, List.all_eq_true] at k
      refine ⟨hasv_iff.1 (k n hn), ?_⟩
      unfold foundv at hf
      rw [Bool.and_eq_true, List.all_eq_true, List.all_eq_true] at hf
      unfold itemsv at hx
      rcases List.mem_append.1 hx with hx | hx
      · obtain ⟨u, hu, e⟩ := List.mem_map.1 hx
        have q := hf.1 u hu
        simp only [Bool.and_eq_true] at q
        have e3 : u.needs = m := congrArg Prod.snd e
        rw [← e3] at hn
        exact hasv_iff.1 (List.all_eq_true.1 q.1.1.2 n hn)
      · obtain ⟨u, hu, e⟩ := List.mem_map.1 hx
        have q := hf.2 u hu
        simp only [Bool.and_eq_true] at q
        have e3 : u.needs = m := congrArg Prod.snd e
        rw [← e3] at hn
        exact hasv_iff.1 (List.all_eq_true.1 q.1 n hn)
    unfold valv
    simp [g1, g2, g3, g4, g5, hf, g7, g8]

end

section
open Go.RowKit Go.Lib

theorem one_kind {r : R9} (hU : Uniq r) {s : ByteArray} (hs : s ∈ allN r) : ((unitv r s).isSome == (techfv r s).isSome) = false := by
  unfold allN at hs
  rcases List.mem_append.1 hs with h | h
  · obtain ⟨u, hu, rfl⟩ := List.mem_map.1 (show s ∈ r.us.map U9.nm from h)
    rw [hU.unit hu]
    have : techfv r u.nm = none := find_out (f := T9.nm) fun hm => hU.split.2.2 _ h hm
    rw [this]
    rfl
  · obtain ⟨t, ht, rfl⟩ := List.mem_map.1 (show s ∈ r.ts.map T9.nm from h)
    obtain ⟨h1, h2⟩ := hU.tech ht
    rw [h1, h2]
    rfl
/-- Valid rules: what the law asks of the name in place i. -/
theorem ord_at {r : R9} (h : valv r = 0) {l : List ByteArray} (hl : seqv r = l) {i : Nat} (hi : i < l.length) :
    ((unitv r (l[i]'hi)).isSome == (techfv r (l[i]'hi)).isSome) = false ∧ hasv (l.take i) (l[i]'hi) = false ∧ (∀ n ∈ needsv r (l[i]'hi), hasv (l.take i) n = true) ∧
    ∀ j, (hj : j + 1 = i) → ltS (l[i]'hi) (l[j]'(by omega)) = true → hasv (needsv r (l[i]'hi)) (l[j]'(by omega)) = true := by
  subst hl
  obtain ⟨-, h2, h3, h4, -⟩ := val_zero h
  have hU := Uniq.of h2 h3 h4
  obtain ⟨-, hc, -⟩ := seqv_end r
  obtain ⟨k1, k2⟩ := hc.needs hi
  refine ⟨one_kind hU (hc.can hi).1, k1, List.all_eq_true.1 k2, fun j hj hl => ?_⟩
  subst hj
  exact hc.least hU hi hl
theorem ord_len {r : R9} (h : valv r = 0) : (seqv r).length = r.us.length + r.ts.length := (val_zero h).2.2.2.2.2.2.2
theorem ordv_ok {r : R9} (h : (orderv r).2 = 0) : valv r = 0 ∧ (orderv r).1 = seqv r := by
  unfold orderv at h ⊢
  by_cases hv : valv r = 0
  · rw [if_pos hv]
    exact ⟨hv, rfl⟩
  · rw [if_neg hv] at h
    exact absurd h hv
theorem ordv_bad {r : R9} (h : ¬ (orderv r).2 = 0) : (orderv r).2 = valv r ∧ (orderv r).1 = [] := by
  unfold orderv at h ⊢
  by_cases hv : valv r = 0
  · rw [if_pos hv] at h
    exact absurd rfl h
  · rw [if_neg hv]
    exact ⟨rfl, rfl⟩

end

end Go.Proofs.YtaefioikflllcaaGreat
