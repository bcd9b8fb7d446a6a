/-
  The numbers, names and texts of map files, as plain functions; Rules, and the order in which names become available, as plain functions; Rules as text, as plain functions: fields, values, their texts. No program is named here; Rules as text: a value that is read has the text that was read; the text of a good value is read as this value. No program is named here; Rules as text: what a field holds behind a change of it. No program is named here; Rules as text: what Get answers behind Set, and that a value set anew changes nothing. No program is named here; Rules as text: rules are read back from their text. No program is named here.
-/
import Derived.Lib.Hide
import Derived.Lib.ItoaNum
import Derived.Lib.AtoiAll
import Derived.Lib.CutLaws
import Derived.WalkKit
import Derived.IntWalk
import Derived.WalkSpells
namespace Go.Proofs.YtnjcdmjaecgblaaGreatDoor
section
section
open Go.RowKit Go.Lib
def digB (c : UInt8) : Bool := decide (48 ≤ c.toNat ∧ c.toNat ≤ 57)
def valN (a : Nat) (l : List UInt8) : Nat := l.foldl (fun a c => a * 10 + (c.toNat - 48)) a
theorem digB_iff (c : UInt8) : digB c = true ↔ 48 ≤ c.toNat ∧ c.toNat ≤ 57 := by unfold digB; exact decide_eq_true_iff
theorem valN_cons (a : Nat) (c : UInt8) (l : List UInt8) : valN a (c :: l) = valN (a * 10 + (c.toNat - 48)) l := by simp only [valN, List.foldl_cons]
theorem valN_snoc (a : Nat) (l : List UInt8) (c : UInt8) : valN a (l ++ [c]) = valN a l * 10 + (c.toNat - 48) := by simp [valN]
theorem valN_ge : ∀ (l : List UInt8) (a : Nat), a ≤ valN a l := by
 intro l
 induction l with
 | nil => intro a; exact Nat.le_refl _
 | cons c l ih => intro a; rw [valN_cons]; exact Nat.le_trans (by omega) (ih _)
theorem dig_nat {k : Nat} (h : k < 10) : (UInt8.ofNat (48 + k)).toNat = 48 + k := by
 rw [UInt8.toNat_ofNat']; omega
theorem dig_byte {k : Nat} (h : k < 10) : digB (UInt8.ofNat (48 + k)) = true := by rw [digB_iff, dig_nat h]; omega
theorem dec_ne (n : Nat) : decDigits n ≠ [] := by
 rw [decDigits]
 split <;> simp
theorem dec_digits (n : Nat) : (decDigits n).all digB = true := by
 induction n using Nat.strongRecOn with
 | _ n ih =>
  rw [decDigits]
  split
  · rename_i h; rw [List.all_cons, dig_byte h]; rfl
  · rename_i h
    rw [List.all_append, ih (n / 10) (by omega), List.all_cons, dig_byte (show n % 10 < 10 by omega)]
    rfl
theorem dec_val (n : Nat) : valN 0 (decDigits n) = n := by
 induction n using Nat.strongRecOn with
 | _ n ih =>
  rw [decDigits]
  split
  · rename_i h; rw [valN_cons, dig_nat h]; show 0 * 10 + (48 + n - 48) = n; omega
  · rename_i h
    rw [valN_snoc, ih (n / 10) (by omega), dig_nat (show n % 10 < 10 by omega)]
    omega
theorem dec_len : ∀ (k n : Nat), n < 10 ^ (k + 1) → (decDigits n).length ≤ k + 1 := by
 intro k
 induction k with
 | zero => intro n h; rw [decDigits_one (by simpa using h)]; simp
 | succ k ih =>
  intro n h
  rw [decDigits]
  split
  · simp
  · rw [List.length_append]
    have := ih (n / 10) (by rw [Nat.pow_succ] at h; omega)
    simp; omega
end
section
open Go.RowKit Go.Lib
def cutC (c : UInt8) : List UInt8 → List UInt8 × List UInt8 × Bool
 | [] => ([], [], false)
 | b :: l => if b = c then ([], l, true) else (b :: (cutC c l).1, (cutC c l).2.1, (cutC c l).2.2)
def parts (c : UInt8) : List UInt8 → List (List UInt8)
 | [] => [[]]
 | b :: l => if b = c then [] :: parts c l else match parts c l with
  | [] => [[b]]
  | x :: xs => (b :: x) :: xs
def linesB (s : List UInt8) : List (List UInt8) := (parts 10 s).dropLast
def tailB (s : List UInt8) : List UInt8 := (parts 10 s).getLastD []
theorem cutC_cons (d c : UInt8) (l : List UInt8) (h : ¬ c = d) : Lib.cut (c :: l) [d] = (c :: (Lib.cut l [d]).1, (Lib.cut l [d]).2.1, (Lib.cut l [d]).2.2) := by
 have hp : ([d] : List UInt8).isPrefixOf (c :: l) = false := by
  simp [List.isPrefixOf]
  exact fun e => h e.symm
 have hi : Lib.index (c :: l) [d] = if Lib.index l [d] == -1 then -1 else Lib.index l [d] + 1 := by
  rw [Lib.index, hp]; rfl
 have hg := Lib.index_ge l [d]
 unfold Lib.cut
 rw [hi]
 by_cases h1 : Lib.index l [d] = -1
 · rw [h1]; rfl
 · have h2 : (Lib.index l [d] == -1) = false := by simpa using h1
   rw [h2]
   have h3 : 0 ≤ Lib.index l [d] := by omega
   simp only [Bool.false_eq_true, if_false]
   rw [if_pos (by omega), if_pos h3]
   have e1 : (Lib.index l [d] + 1).toNat = (Lib.index l [d]).toNat + 1 := by omega
   rw [e1, List.take_succ_cons]
   have e2 : (Lib.index l [d]).toNat + 1 + [d].length = ((Lib.index l [d]).toNat + [d].length) + 1 := by omega
   rw [e2, List.drop_succ_cons]
theorem cut_byte (d : UInt8) : ∀ l : List UInt8, Lib.cut l [d] = cutC d l := by
 intro l
 induction l with
 | nil => rfl
 | cons c l ih =>
  by_cases h : c = d
  · subst h
    have hi : Lib.index (c :: l) [c] = 0 := by rw [Lib.index]; simp [List.isPrefixOf]
    unfold Lib.cut cutC
    rw [hi]
    simp
  · rw [cutC_cons d c l h, ih]
    unfold cutC
    rw [if_neg h]
    cases l <;> rfl
theorem cutC_no {c : UInt8} : ∀ l : List UInt8, (cutC c l).2.2 = false → c ∉ l ∧ (cutC c l).1 = l ∧ (cutC c l).2.1 = [] := by
 intro l
 induction l with
 | nil => intro _; exact ⟨by simp, rfl, rfl⟩
 | cons b l ih =>
  intro h
  rw [cutC] at h ⊢
  split
  · rename_i e; rw [if_pos e] at h; cases h
  · rename_i e
    rw [if_neg e] at h
    obtain ⟨i1, i2, i3⟩ := ih h
    exact ⟨by simp [i1]; exact fun q => e q.symm, by rw [i2], i3⟩
theorem cutC_yes {c : UInt8} : ∀ l : List UInt8, (cutC c l).2.2 = true → c ∉ (cutC c l).1 ∧ l = (cutC c l).1 ++ c :: (cutC c l).2.1 := by
 intro l
 induction l with
 | nil => intro h; simp [cutC] at h
 | cons b l ih =>
  intro h
  rw [cutC] at h ⊢
  split
  · rename_i e; subst e; exact ⟨by simp, rfl⟩
  · rename_i e
    rw [if_neg e] at h
    obtain ⟨i1, i2⟩ := ih h
    exact ⟨by simp [i1]; exact fun q => e q.symm, by rw [List.cons_append, ← i2]⟩
theorem cutC_of {c : UInt8} : ∀ (x y : List UInt8), c ∉ x → cutC c (x ++ c :: y) = (x, y, true) := by
 intro x
 induction x with
 | nil => intro y _; rw [List.nil_append, cutC, if_pos rfl]
 | cons b x ih =>
  intro y h
  rw [List.mem_cons, not_or] at h
  rw [List.cons_append, cutC, if_neg (fun e => h.1 e.symm), ih y h.2]
theorem cutC_len {c : UInt8} (l : List UInt8) (h : (cutC c l).2.2 = true) : (cutC c l).1.length + (cutC c l).2.1.length + 1 = l.length := by
 have := congrArg List.length (cutC_yes l h).2
 rw [List.length_append, List.length_cons] at this
 omega
theorem cutC_le {c : UInt8} (l : List UInt8) : (cutC c l).1.length ≤ l.length ∧ (cutC c l).2.1.length ≤ l.length := by
 cases h : (cutC c l).2.2 with
 | true => have := cutC_len l h; omega
 | false => obtain ⟨_, a, b⟩ := cutC_no l h; rw [a, b]; simp
theorem parts_ne (c : UInt8) (l : List UInt8) : parts c l ≠ [] := by
 cases l with
 | nil => simp [parts]
 | cons b l =>
  rw [parts]
  split
  · simp
  · split <;> simp
theorem parts_cut (c : UInt8) : ∀ l : List UInt8, parts c l = if (cutC c l).2.2 = true then (cutC c l).1 :: parts c (cutC c l).2.1 else [l] := by
 intro l
 induction l with
 | nil => rfl
 | cons b l ih =>
  rw [parts, cutC]
  by_cases e : b = c
  · rw [if_pos e, if_pos e]; rfl
  · rw [if_neg e, if_neg e]
    show (match parts c l with
     | [] => [[b]]
     | x :: xs => (b :: x) :: xs) = if (cutC c l).2.2 = true then (b :: (cutC c l).1) :: parts c (cutC c l).2.1 else [b :: l]
    rw [ih]
    cases h : (cutC c l).2.2 <;> rfl
theorem linesB_yes {s : List UInt8} (h : (cutC 10 s).2.2 = true) : linesB s = (cutC 10 s).1 :: linesB (cutC 10 s).2.1 ∧ tailB s = tailB (cutC 10 s).2.1 := by
 unfold linesB tailB
 rw [parts_cut, if_pos h]
 cases hp : parts 10 (cutC 10 s).2.1 with
 | nil => exact absurd hp (parts_ne _ _)
 | cons a b => exact ⟨rfl, by rw [List.getLastD_cons, List.getLastD_cons]; cases b <;> rfl⟩
theorem linesB_no {s : List UInt8} (h : (cutC 10 s).2.2 = false) : linesB s = [] ∧ tailB s = s := by
 unfold linesB tailB
 rw [parts_cut, if_neg (by rw [h]; simp)]
 exact ⟨rfl, rfl⟩
end
section
open Go.RowKit Go.Lib
def letB (c : UInt8) : Bool := decide (97 ≤ c.toNat ∧ c.toNat ≤ 122)
def wordB (c : UInt8) : Bool := letB c || digB c || c == 95
def nameB (s : List UInt8) : Bool := decide (1 ≤ s.length ∧ s.length ≤ 12) && (match s with
 | [] => false
 | c :: l => letB c && l.all wordB)
def joinT (ls : List (List UInt8)) : List UInt8 := ls.flatMap fun l => l ++ [10]
def stripB (p l : List UInt8) : Option (List UInt8) := if p.isPrefixOf l = true then some (l.drop p.length) else none
end
section
open Go.RowKit Go.Lib
theorem strip_iff (p l t : List UInt8) : stripB p l = some t ↔ l = p ++ t := by
 unfold stripB
 constructor
 · intro h
   split at h
   · rename_i hp
     injection h with h
     obtain ⟨u, rfl⟩ := List.isPrefixOf_iff_prefix.1 hp
     rw [List.drop_left] at h
     rw [h]
   · cases h
 · rintro rfl
   rw [if_pos (List.isPrefixOf_iff_prefix.2 ⟨t, rfl⟩), List.drop_left]
theorem strip_self (p t : List UInt8) : stripB p (p ++ t) = some t := (strip_iff p _ t).2 rfl
theorem strip_word (p q l : List UInt8) (hp : (32 : UInt8) ∉ p) : stripB (p ++ 32 :: q) l = if (cutC 32 l).2.2 = true ∧ (cutC 32 l).1 = p then stripB q (cutC 32 l).2.1 else none := by
 apply Option.ext
 intro t
 rw [strip_iff]
 constructor
 · intro h
   have e : cutC 32 l = (p, q ++ t, true) := by rw [h, List.append_assoc, List.cons_append]; exact cutC_of _ _ hp
   rw [e, if_pos ⟨rfl, rfl⟩]
   exact strip_self q t
 · intro h
   split at h
   · rename_i hc
     have e := (cutC_yes l hc.1).2
     rw [hc.2, (strip_iff _ _ _).1 h] at e
     rw [e]; simp
   · cases h
theorem dig_not {l : List UInt8} (h : l.all digB = true) (c : UInt8) (hc : digB c = false) : c ∉ l := by
 intro hm
 rw [List.all_eq_true] at h
 rw [h c hm] at hc
 cases hc
theorem dec_not (n : Nat) (c : UInt8) (hc : digB c = false) : c ∉ decDigits n := dig_not (dec_digits n) c hc
theorem name_free {l : List UInt8} (h : nameB l = true) (c : UInt8) (hc : wordB c = false) (hc2 : letB c = false) : c ∉ l := by
 unfold nameB at h
 rw [Bool.and_eq_true] at h
 cases l with
 | nil => simp
 | cons a l =>
  have h2 := h.2
  simp only [Bool.and_eq_true] at h2
  rw [List.mem_cons, not_or]
  refine ⟨fun e => ?_, fun hm => ?_⟩
  · rw [e, h2.1] at hc2; cases hc2
  · rw [List.all_eq_true] at h2
    rw [h2.2 c hm] at hc; cases hc
end
section
open Go.RowKit Go.Lib
theorem join_len (ls : List (List UInt8)) (k : Nat) (h : ∀ l ∈ ls, l.length ≤ k) : (joinT ls).length ≤ ls.length * (k + 1) := by
 unfold joinT
 induction ls with
 | nil => simp
 | cons l ls ih =>
  have h1 := h l (by simp)
  have h2 := ih (fun x hx => h x (List.mem_cons_of_mem _ hx))
  have e : (l :: ls).length * (k + 1) = ls.length * (k + 1) + (k + 1) := by rw [List.length_cons, Nat.succ_mul]
  rw [List.flatMap_cons, List.length_append, List.length_append, e]
  simp only [List.length_singleton]
  omega
theorem join_app (a b : List (List UInt8)) : joinT (a ++ b) = joinT a ++ joinT b := by unfold joinT; rw [List.flatMap_append]
theorem name_len {l : List UInt8} (h : nameB l = true) : 1 ≤ l.length ∧ l.length ≤ 12 := by
 unfold nameB at h
 rw [Bool.and_eq_true, decide_eq_true_iff] at h
 exact h.1
end
end
section
section
open Go.RowKit Go.Lib
structure U9 where
 nm : ByteArray
 bld : Bool
 dep : Bool
 cls : Int
 w : Int
 h : Int
 rad : Int
 spd : Int
 sgt : Int
 hp : Int
 arm : Int
 load : Int
 wpn : ByteArray
 ore : Int
 wood : Int
 time : Int
 needs : List ByteArray
 trains : List ByteArray
 ress : List ByteArray
deriving DecidableEq
structure W9 where
 nm : ByteArray
 rng : Int
 dmg : Int
 cool : Int
 spd : Int
 spl : Int
deriving DecidableEq
structure T9 where
 nm : ByteArray
 needs : List ByteArray
 ore : Int
 wood : Int
 time : Int
 un : ByteArray
 stat : Int
 amt : Int
deriving DecidableEq
structure R9 where
 us : List U9
 ws : List W9
 ts : List T9
deriving DecidableEq
def U9.zero : U9 := ⟨⟨#[]⟩, false, false, 0, 0, 0, 0, 0, 0, 0, 0, 0, ⟨#[]⟩, 0, 0, 0, [], [], []⟩
def W9.zero : W9 := ⟨⟨#[]⟩, 0, 0, 0, 0, 0⟩
def T9.zero : T9 := ⟨⟨#[]⟩, [], 0, 0, 0, ⟨#[]⟩, 0, 0⟩
def hasv (l : List ByteArray) (s : ByteArray) : Bool := l.any fun x => decide (x = s)
def ltS (a b : ByteArray) : Bool := Op.bytesLess a.toList b.toList
def ascv : List ByteArray → Bool
 | a :: b :: l => ltS a b && ascv (b :: l)
 | _ => true
def rngv (n lo hi : Int) : Bool := decide (lo ≤ n ∧ n ≤ hi)
def statv (n : Int) : Bool := rngv n 0 100000
def shapev (u : U9) : Bool :=
 if rngv u.sgt 0 16 && rngv u.hp 1 100000 && statv u.arm && statv u.ore && statv u.wood && statv u.time then
  (if u.bld then decide (u.cls = 0) && rngv u.w 1 4 && rngv u.h 1 4 && decide (u.rad = 0) && decide (u.spd = 0) && decide (u.load = 0)
  else rngv u.cls 1 3 && decide (u.w = 0) && decide (u.h = 0) && rngv u.rad 16 128 && rngv u.spd 0 256 && statv u.load && !u.dep)
 else false
def weapv (w : W9) : Bool := rngv w.rng 0 8192 && statv w.dmg && statv w.cool && rngv w.spd 0 512 && rngv w.spl 0 1024
def techv (t : T9) : Bool := statv t.ore && statv t.wood && statv t.time && statv t.amt && rngv t.stat 1 6
def namesU (r : R9) : List ByteArray := r.us.map U9.nm
def namesW (r : R9) : List ByteArray := r.ws.map W9.nm
def namesT (r : R9) : List ByteArray := r.ts.map T9.nm
def limv (r : R9) : Bool := decide (r.us.length ≤ 16) && decide (r.ws.length ≤ 8) && decide (r.ts.length ≤ 12)
 && r.us.all (fun u => decide (u.needs.length ≤ 4) && decide (u.trains.length ≤ 4) && decide (u.ress.length ≤ 4)) && r.ts.all (fun t => decide (t.needs.length ≤ 4))
def namedv (r : R9) : Bool := (namesU r ++ namesW r ++ namesT r).all fun s => nameB s.data.toList
def ordv (r : R9) : Bool := ascv (namesU r) && ascv (namesW r) && ascv (namesT r) && r.us.all (fun u => ascv u.needs && ascv u.trains && ascv u.ress) && r.ts.all (fun t => ascv t.needs)
def dupv (r : R9) : Bool := r.us.any fun u => hasv (namesT r) u.nm
def numsv (r : R9) : Bool := r.us.all shapev && r.ws.all weapv && r.ts.all techv
def foundv (r : R9) : Bool :=
 r.us.all (fun u => (decide (u.wpn = ⟨#[]⟩) || hasv (namesW r) u.wpn) && u.needs.all (hasv (namesU r ++ namesT r)) && u.trains.all (hasv (namesU r)) && u.ress.all (hasv (namesT r)))
 && r.ts.all fun t => t.needs.all (hasv (namesU r ++ namesT r)) && hasv (namesU r) t.un
def unitv (r : R9) (s : ByteArray) : Option U9 := r.us.find? fun u => decide (u.nm = s)
def techfv (r : R9) (s : ByteArray) : Option T9 := r.ts.find? fun u => decide (u.nm = s)
def neededv (r : R9) (l : List ByteArray) : Bool := l.all fun s => match unitv r s with
 | some u => u.bld
 | none => true
def typedv (r : R9) : Bool :=
 r.us.all (fun u => neededv r u.needs && (u.bld || u.ress.isEmpty) && u.trains.all fun s => ((unitv r s).getD U9.zero).bld != u.bld)
 && r.ts.all fun t => neededv r t.needs
def needsv (r : R9) (s : ByteArray) : List ByteArray := match unitv r s with
 | some u => u.needs
 | none => ((techfv r s).getD T9.zero).needs
def bestv (r : R9) (out : List ByteArray) : List ByteArray → ByteArray → ByteArray
 | [], best => best
 | s :: l, best => bestv r out l (if !hasv out s && (needsv r s).all (hasv out) && (decide (best = ⟨#[]⟩) || ltS s best) then s else best)
def seqgo (r : R9) : Nat → List ByteArray → List ByteArray
 | 0, out => out
 | k + 1, out => if bestv r out (namesU r ++ namesT r) ⟨#[]⟩ = ⟨#[]⟩ then out else seqgo r k (out ++ [bestv r out (namesU r ++ namesT r) ⟨#[]⟩])
def seqv (r : R9) : List ByteArray := seqgo r (r.us.length + r.ts.length + 1) []
def valv (r : R9) : Int :=
 if limv r = false then 2 else if namedv r = false then 6 else if ordv r = false then 13 else if dupv r = true then 7
 else if numsv r = false then 1 else if foundv r = false then 8 else if typedv r = false then 18
 else if (seqv r).length < r.us.length + r.ts.length then 14 else 0
theorem hasv_iff {l : List ByteArray} {s : ByteArray} : hasv l s = true ↔ s ∈ l := by
 unfold hasv
 rw [List.any_eq_true]
 exact ⟨fun ⟨x, hx, e⟩ => by have := of_decide_eq_true e; exact this ▸ hx, fun h => ⟨s, h, decide_eq_true rfl⟩⟩
theorem ne_list {s t : ByteArray} (h : ¬ s = t) : (s.toList == t.toList) = false ∧ ¬ s.toList = t.toList := by
 have h2 : ¬ s.toList = t.toList := fun e => h (by
  rw [Lib.toList_data, Lib.toList_data] at e
  exact ByteArray.ext (Array.toList_inj.1 e))
 exact ⟨beq_eq_false_iff_ne.2 h2, h2⟩
theorem ascv_iff : ∀ {l : List ByteArray}, ascv l = true ↔ ∀ i, (h : i + 1 < l.length) → ltS (l[i]'(Nat.lt_of_succ_lt h)) (l[i + 1]'h) = true
 | [] => ⟨fun _ i h => absurd h (by simp), fun _ => rfl⟩
 | [a] => ⟨fun _ i h => absurd h (by simp), fun _ => rfl⟩
 | a :: b :: l => by
  rw [ascv, Bool.and_eq_true, ascv_iff (l := b :: l)]
  constructor
  · rintro ⟨h1, h2⟩ i hi
    cases i with
    | zero => exact h1
    | succ i => exact h2 i (by simpa using hi)
  · intro h
    exact ⟨h 0 (by simp), fun i hi => h (i + 1) (by simpa using hi)⟩
theorem asc_no {l : List ByteArray} {i : Nat} (h : i + 1 < l.length) (hn : ltS (l[i]'(Nat.lt_of_succ_lt h)) (l[i + 1]'h) = false) : ascv l = false := by
 cases hq : ascv l with
 | false => rfl
 | true => rw [ascv_iff.1 hq i h] at hn; cases hn
end
section
open Go.RowKit Go.Lib
def stepv (r : R9) (out : List ByteArray) (s best : ByteArray) : ByteArray := if !hasv out s && (needsv r s).all (hasv out) && (decide (best = ⟨#[]⟩) || ltS s best) then s else best
theorem bestv_cons (r : R9) (out l : List ByteArray) (s best : ByteArray) : bestv r out (s :: l) best = bestv r out l (stepv r out s best) := rfl
def cand (r : R9) (out : List ByteArray) (s : ByteArray) : Bool := !hasv out s && (needsv r s).all (hasv out)
theorem stepv_eq (r : R9) (out : List ByteArray) (s best : ByteArray) : stepv r out s best = if cand r out s && (decide (best = ⟨#[]⟩) || ltS s best) then s else best := rfl
theorem best_mem (r : R9) (out : List ByteArray) : ∀ (l : List ByteArray) (best : ByteArray), bestv r out l best = best ∨ (bestv r out l best ∈ l ∧ cand r out (bestv r out l best) = true)
 | [], _ => .inl rfl
 | s :: l, best => by
  rw [bestv_cons]
  rcases best_mem r out l (stepv r out s best) with h | ⟨h1, h2⟩
  · rw [h, stepv_eq]
    by_cases hc : (cand r out s && (decide (best = ⟨#[]⟩) || ltS s best)) = true
    · rw [if_pos hc]
      rw [Bool.and_eq_true] at hc
      exact .inr ⟨by simp, hc.1⟩
    · rw [if_neg hc]; exact .inl rfl
  · exact .inr ⟨List.mem_cons_of_mem _ h1, h2⟩
theorem nodup_len {α : Type} [DecidableEq α] : ∀ (l m : List α), l.Nodup → (∀ x ∈ l, x ∈ m) → l.length ≤ m.length
 | [], _, _, _ => Nat.zero_le _
 | a :: l, m, hn, hs => by
  have ha : a ∈ m := hs a (by simp)
  have hnc := List.nodup_cons.1 hn
  have h := nodup_len l (m.erase a) hnc.2 (fun x hx => by
   have hne : x ≠ a := fun e => hnc.1 (e ▸ hx)
   exact (List.mem_erase_of_ne hne).2 (hs x (List.mem_cons_of_mem _ hx)))
  rw [List.length_erase_of_mem ha] at h
  have : 0 < m.length := List.length_pos_of_mem ha
  simp only [List.length_cons]
  omega
def allN (r : R9) : List ByteArray := namesU r ++ namesT r
theorem allN_len (r : R9) : (allN r).length = r.us.length + r.ts.length := by unfold allN namesU namesT; simp
def SeqI (r : R9) (out : List ByteArray) : Prop := out.Nodup ∧ ∀ x ∈ out, x ∈ allN r
theorem SeqI.nil (r : R9) : SeqI r [] := ⟨List.nodup_nil, fun x hx => by simp at hx⟩
theorem SeqI.len {r : R9} {out : List ByteArray} (h : SeqI r out) : out.length ≤ r.us.length + r.ts.length := by rw [← allN_len]; exact nodup_len _ _ h.1 h.2
theorem SeqI.step {r : R9} {out : List ByteArray} {b : ByteArray} (h : SeqI r out) (hb : bestv r out (allN r) ⟨#[]⟩ = b) (hne : ¬ b = ⟨#[]⟩) : SeqI r (out ++ [b]) := by
 rcases best_mem r out (allN r) ⟨#[]⟩ with h1 | ⟨h1, h2⟩
 · exact absurd (hb.symm.trans h1) hne
 · rw [hb] at h1 h2
   have hb2 : ¬ b ∈ out := fun hm => by
    have h3 := hasv_iff.2 hm
    unfold cand at h2
    rw [h3] at h2
    cases h2
   refine ⟨?_, fun x hx => ?_⟩
   · rw [List.nodup_append]
     refine ⟨h.1, by simp, fun a ha c hc => ?_⟩
     rw [List.mem_singleton] at hc
     subst hc
     exact fun e => hb2 (e ▸ ha)
   · rcases List.mem_append.1 hx with hx | hx
     · exact h.2 x hx
     · rw [List.mem_singleton] at hx; rw [hx]; exact h1
def seqLeft (r : R9) (out : List ByteArray) : List ByteArray := seqgo r (r.us.length + r.ts.length + 1 - out.length) out
theorem seqLeft_nil (r : R9) : seqLeft r [] = seqv r := rfl
theorem seqLeft_end {r : R9} {out : List ByteArray} (h : SeqI r out) (hb : bestv r out (allN r) ⟨#[]⟩ = ⟨#[]⟩) : seqLeft r out = out := by
 have hl := h.len
 unfold seqLeft
 have e : bestv r out (namesU r ++ namesT r) ⟨#[]⟩ = ⟨#[]⟩ := hb
 rw [show r.us.length + r.ts.length + 1 - out.length = (r.us.length + r.ts.length - out.length) + 1 by omega, seqgo, e, if_pos rfl]
theorem seqLeft_step {r : R9} {out : List ByteArray} {b : ByteArray} (h : SeqI r out) (hb : bestv r out (allN r) ⟨#[]⟩ = b) (hne : ¬ b = ⟨#[]⟩) : seqLeft r out = seqLeft r (out ++ [b]) := by
 have hl := h.len
 unfold seqLeft
 have e : bestv r out (namesU r ++ namesT r) ⟨#[]⟩ = b := hb
 rw [show r.us.length + r.ts.length + 1 - out.length = (r.us.length + r.ts.length - out.length) + 1 by omega, seqgo, e, if_neg hne]
 congr 1
 simp only [List.length_append, List.length_cons, List.length_nil]
 omega
end
section
open Go.RowKit Go.Lib
theorem bl_irrefl : ∀ x : List UInt8, Op.bytesLess x x = false
 | [] => rfl
 | a :: x => by simp [Op.bytesLess, bl_irrefl x]
theorem bl_trans : ∀ {x y z : List UInt8}, Op.bytesLess x y = true → Op.bytesLess y z = true → Op.bytesLess x z = true
 | x, [], z, h, _ => by cases x <;> simp [Op.bytesLess] at h
 | x, b :: y, [], _, h => by simp [Op.bytesLess] at h
 | [], b :: y, c :: z, _, _ => rfl
 | a :: x, b :: y, c :: z, h1, h2 => by
  simp only [Op.bytesLess, Bool.or_eq_true, Bool.and_eq_true, decide_eq_true_eq, beq_iff_eq] at h1 h2 ⊢
  rcases h1 with h1 | ⟨rfl, h1⟩
  · rcases h2 with h2 | ⟨rfl, h2⟩
    · exact .inl (UInt8.lt_trans h1 h2)
    · exact .inl h1
  · rcases h2 with h2 | ⟨rfl, h2⟩
    · exact .inl h2
    · exact .inr ⟨rfl, bl_trans h1 h2⟩
theorem bl_tri : ∀ {x y : List UInt8}, Op.bytesLess x y = false → Op.bytesLess y x = false → x = y
 | [], [], _, _ => rfl
 | [], b :: y, h, _ => by simp [Op.bytesLess] at h
 | a :: x, [], _, h => by simp [Op.bytesLess] at h
 | a :: x, b :: y, h1, h2 => by
  simp only [Op.bytesLess, Bool.or_eq_false_iff, Bool.and_eq_false_iff, decide_eq_false_iff_not, beq_eq_false_iff_ne] at h1 h2
  have e : a = b := UInt8.le_antisymm (UInt8.not_lt.1 h2.1) (UInt8.not_lt.1 h1.1)
  subst e
  have k1 : Op.bytesLess x y = false := by simpa using h1.2
  have k2 : Op.bytesLess y x = false := by simpa using h2.2
  rw [bl_tri k1 k2]
theorem ltS_irrefl (a : ByteArray) : ltS a a = false := bl_irrefl _
theorem ltS_trans {a b c : ByteArray} (h : ltS a b = true) (k : ltS b c = true) : ltS a c = true := bl_trans h k
theorem ltS_tri {a b : ByteArray} (h : ltS a b = false) (k : ltS b a = false) : a = b := by
 by_cases e : a = b
 · exact e
 · exact absurd (bl_tri h k) (ne_list e).2
theorem ltS_no {a b : ByteArray} (h : ltS a b = true) (k : ltS b a = true) : False := by
 have := ltS_trans h k
 rw [ltS_irrefl] at this
 cases this
theorem ltS_ne {a b : ByteArray} (h : ltS a b = true) : ¬ a = b := fun e => by subst e; rw [ltS_irrefl] at h; cases h
theorem best_spec (r : R9) (out : List ByteArray) : ∀ (l : List ByteArray) (best : ByteArray), (∀ s ∈ l, ¬ s = ⟨#[]⟩) →
 (∀ s ∈ l, cand r out s = true → bestv r out l best = s ∨ ltS (bestv r out l best) s = true) ∧ (¬ best = ⟨#[]⟩ → bestv r out l best = best ∨ ltS (bestv r out l best) best = true) ∧
 ((¬ best = ⟨#[]⟩ ∨ ∃ s ∈ l, cand r out s = true) → ¬ bestv r out l best = ⟨#[]⟩)
 | [], best, _ => ⟨fun s h => absurd h (by simp), fun _ => .inl rfl, fun h => by
  rcases h with h | ⟨s, h, _⟩
  · exact h
  · simp at h⟩
 | s :: l, best, hne => by
  obtain ⟨i1, i2, i3⟩ := best_spec r out l (stepv r out s best) (fun t ht => hne t (List.mem_cons_of_mem _ ht))
  have hs : ¬ s = ⟨#[]⟩ := hne s (by simp)
  rw [bestv_cons]
  generalize bestv r out l (stepv r out s best) = B at *
  rw [stepv_eq] at *
  by_cases hc : (cand r out s && (decide (best = ⟨#[]⟩) || ltS s best)) = true
  · rw [if_pos hc] at *
    obtain ⟨c1, c2⟩ := Bool.and_eq_true_iff.1 hc
    refine ⟨fun t ht hct => ?_, fun hb => ?_, fun _ => i3 (.inl hs)⟩
    · rcases List.mem_cons.1 ht with rfl | ht
      · exact i2 hs
      · exact i1 t ht hct
    · have h3 : ltS s best = true := by rw [decide_eq_false hb, Bool.false_or] at c2; exact c2
      rcases i2 hs with h | h
      · rw [h]; exact .inr h3
      · exact .inr (ltS_trans h h3)
  · rw [if_neg hc] at *
    refine ⟨fun t ht hct => ?_, i2, fun h => ?_⟩
    · rcases List.mem_cons.1 ht with rfl | ht
      · rw [hct, Bool.true_and, Bool.or_eq_true, not_or, decide_eq_true_eq, Bool.not_eq_true] at hc
        obtain ⟨hb, hl⟩ := hc
        rcases i2 hb with h | h
        · rw [h]
          by_cases e : best = t
          · exact .inl e
          · cases hq : ltS best t with
            | true => exact .inr rfl
            | false => exact absurd (ltS_tri hq hl) e
        · by_cases e : best = t
          · rw [← e]; exact .inr h
          · cases hq : ltS best t with
            | true => exact .inr (ltS_trans h hq)
            | false => exact absurd (ltS_tri hq hl) e
      · exact i1 t ht hct
    · rcases h with h | ⟨t, ht, hct⟩
      · exact i3 (.inl h)
      · rcases List.mem_cons.1 ht with rfl | ht
        · rw [hct, Bool.true_and, Bool.or_eq_true, not_or, decide_eq_true_eq] at hc
          exact i3 (.inl hc.1)
        · exact i3 (.inr ⟨t, ht, hct⟩)
theorem best_none {r : R9} {out l : List ByteArray} (h : ∀ s ∈ l, cand r out s = false) : bestv r out l ⟨#[]⟩ = ⟨#[]⟩ := by
 rcases best_mem r out l ⟨#[]⟩ with h1 | ⟨h1, h2⟩
 · exact h1
 · rw [h _ h1] at h2; cases h2
theorem best_is {r : R9} {out l : List ByteArray} {b : ByteArray} (hne : ∀ s ∈ l, ¬ s = ⟨#[]⟩) (hb : b ∈ l) (hc : cand r out b = true) (h : ∀ s ∈ l, cand r out s = true → s = b ∨ ltS b s = true) : bestv r out l ⟨#[]⟩ = b := by
 obtain ⟨i1, -, i3⟩ := best_spec r out l ⟨#[]⟩ hne
 have h3 := i3 (.inr ⟨b, hb, hc⟩)
 rcases best_mem r out l ⟨#[]⟩ with h1 | ⟨h1, h2⟩
 · exact absurd h1 h3
 · rcases h _ h1 h2 with e | e
   · exact e
   · rcases i1 b hb hc with e2 | e2
     · exact e2
     · exact (ltS_no e e2).elim
structure Uniq (r : R9) : Prop where
 nd : (allN r).Nodup
 ne : ∀ s ∈ allN r, ¬ s = ⟨#[]⟩
theorem asc_pair : ∀ {l : List ByteArray}, ascv l = true → l.Pairwise (fun a b => ltS a b = true)
 | [], _ => List.Pairwise.nil
 | [a], _ => by simp
 | a :: b :: l, h => by
  rw [ascv, Bool.and_eq_true] at h
  have ih := asc_pair h.2
  refine List.pairwise_cons.2 ⟨fun x hx => ?_, ih⟩
  rcases List.mem_cons.1 hx with rfl | hx
  · exact h.1
  · exact ltS_trans h.1 ((List.pairwise_cons.1 ih).1 x hx)
theorem asc_nodup {l : List ByteArray} (h : ascv l = true) : l.Nodup := (asc_pair h).imp fun k => ltS_ne k
theorem Uniq.of {r : R9} (h1 : namedv r = true) (h2 : ordv r = true) (h3 : dupv r = false) : Uniq r := by
 unfold ordv at h2
 simp only [Bool.and_eq_true] at h2
 obtain ⟨⟨⟨⟨u1, -⟩, u3⟩, -⟩, -⟩ := h2
 refine ⟨?_, fun s hs e => ?_⟩
 · unfold allN
   rw [List.nodup_append]
   refine ⟨asc_nodup u1, asc_nodup u3, fun a ha b hb e => ?_⟩
   subst e
   unfold namesU at ha
   obtain ⟨u, hu, rfl⟩ := List.mem_map.1 ha
   unfold dupv at h3
   rw [List.any_eq_false] at h3
   exact h3 u hu (hasv_iff.2 hb)
 · unfold namedv at h1
   rw [List.all_eq_true] at h1
   have h4 : nameB s.data.toList = true := h1 s (by
    unfold allN at hs
    rcases List.mem_append.1 hs with h | h
    · exact List.mem_append_left _ (List.mem_append_left _ h)
    · exact List.mem_append_right _ h)
   subst e
   exact absurd h4 (by decide)
abbrev I9 := ByteArray × List ByteArray
def itemsv (r : R9) : List I9 := r.us.map (fun u => (u.nm, u.needs)) ++ r.ts.map (fun t => (t.nm, t.needs))
theorem items_len (r : R9) : (itemsv r).length = r.us.length + r.ts.length := by unfold itemsv; simp
theorem items_names (r : R9) : (itemsv r).map Prod.fst = allN r := by unfold itemsv allN namesU namesT; simp [List.map_map, Function.comp_def]
theorem find_nd {α : Type} {f : α → ByteArray} : ∀ {l : List α}, (l.map f).Nodup → ∀ {x : α}, x ∈ l → l.find? (fun y => decide (f y = f x)) = some x
 | [], _, _, h => absurd h (by simp)
 | a :: l, hn, x, h => by
  rw [List.map_cons, List.nodup_cons] at hn
  rcases List.mem_cons.1 h with rfl | h
  · simp
  · have hne : ¬ f a = f x := fun e => hn.1 (e ▸ List.mem_map_of_mem h)
    rw [List.find?_cons, decide_eq_false hne]
    exact find_nd hn.2 h
theorem find_out {α : Type} {f : α → ByteArray} {l : List α} {s : ByteArray} (h : ¬ s ∈ l.map f) : l.find? (fun y => decide (f y = s)) = none := by
 rw [List.find?_eq_none]
 intro x hx e
 exact h (by rw [← of_decide_eq_true e]; exact List.mem_map_of_mem hx)
theorem Uniq.split {r : R9} (h : Uniq r) : (namesU r).Nodup ∧ (namesT r).Nodup ∧ ∀ a ∈ namesU r, ¬ a ∈ namesT r := by
 have := h.nd
 unfold allN at this
 rw [List.nodup_append] at this
 exact ⟨this.1, this.2.1, fun a ha hb => this.2.2 a ha a hb rfl⟩
theorem Uniq.unit {r : R9} (h : Uniq r) {u : U9} (hu : u ∈ r.us) : unitv r u.nm = some u := find_nd (f := U9.nm) h.split.1 hu
theorem Uniq.tech {r : R9} (h : Uniq r) {t : T9} (ht : t ∈ r.ts) : unitv r t.nm = none ∧ techfv r t.nm = some t :=
 ⟨find_out (f := U9.nm) fun hm => h.split.2.2 _ hm (List.mem_map_of_mem (f := T9.nm) ht), find_nd (f := T9.nm) h.split.2.1 ht⟩
theorem Uniq.needs {r : R9} (h : Uniq r) {x : I9} (hx : x ∈ itemsv r) : needsv r x.1 = x.2 := by
 unfold itemsv at hx
 rcases List.mem_append.1 hx with hx | hx
 · obtain ⟨u, hu, rfl⟩ := List.mem_map.1 hx
   unfold needsv
   rw [h.unit hu]
 · obtain ⟨t, ht, rfl⟩ := List.mem_map.1 hx
   unfold needsv
   rw [(h.tech ht).1, (h.tech ht).2]
   rfl
theorem item_at {r : R9} {s : ByteArray} (h : s ∈ allN r) : ∃ n, (s, n) ∈ itemsv r := by
 rw [← items_names] at h
 obtain ⟨⟨a, n⟩, hx, rfl⟩ := List.mem_map.1 h
 exact ⟨n, hx⟩
def freev (out : List ByteArray) (x : I9) : Bool := x.2.all (hasv out)
theorem Uniq.cand {r : R9} (h : Uniq r) {out : List ByteArray} {x : I9} (hx : x ∈ itemsv r) : cand r out x.1 = (!hasv out x.1 && freev out x) := by
 unfold Go.Proofs.YtnjcdmjaecgblaaGreatDoor.cand freev
 rw [h.needs hx]
structure WaitI (r : R9) (w : List I9) (out : List ByteArray) : Prop where
 asc : w.Pairwise (fun a b => ltS a.1 b.1 = true)
 mem : ∀ x, x ∈ w ↔ x ∈ itemsv r ∧ ¬ x.1 ∈ out
theorem WaitI.start {r : R9} {w : List I9} (h : w.Perm (itemsv r)) (ha : w.Pairwise (fun a b => ltS a.1 b.1 = true)) : WaitI r w [] :=
 ⟨ha, fun x => by rw [h.mem_iff]; simp⟩
theorem WaitI.none {r : R9} {w : List I9} {out : List ByteArray} (h : WaitI r w out) (hU : Uniq r) (hn : ∀ x ∈ w, freev out x = false) : bestv r out (allN r) ⟨#[]⟩ = ⟨#[]⟩ :=
 best_none fun s hs => by
  obtain ⟨n, hx⟩ := item_at hs
  rw [hU.cand hx]
  by_cases ho : s ∈ out
  · rw [show hasv out s = true from hasv_iff.2 ho]; rfl
  · rw [hn (s, n) ((h.mem _).2 ⟨hx, ho⟩), Bool.and_false]
theorem has_no {l : List ByteArray} {s : ByteArray} (h : ¬ s ∈ l) : hasv l s = false := by
 cases hq : hasv l s with
 | false => rfl
 | true => exact absurd (hasv_iff.1 hq) h
theorem WaitI.some {r : R9} {w : List I9} {out : List ByteArray} {i : Nat} (h : WaitI r w out) (hU : Uniq r) (hi : i < w.length) (hf : freev out (w[i]'hi) = true) (hb : ∀ j, (k : j < w.length) → j < i → freev out (w[j]'k) = false) :
 bestv r out (allN r) ⟨#[]⟩ = (w[i]'hi).1 ∧ ¬ (w[i]'hi).1 = ⟨#[]⟩ := by
 have hm := (h.mem _).1 (List.getElem_mem hi)
 have ha : (w[i]'hi).1 ∈ allN r := by rw [← items_names]; exact List.mem_map_of_mem hm.1
 refine ⟨best_is hU.ne ha (by rw [hU.cand hm.1, has_no hm.2, hf]; rfl) fun s hs hc => ?_, hU.ne _ ha⟩
 obtain ⟨n, hx⟩ := item_at hs
 have hc' := hc
 rw [show s = (s, n).1 from rfl, hU.cand hx, Bool.and_eq_true, Bool.not_eq_true'] at hc'
 have ho : ¬ s ∈ out := fun hm => by
  have := hasv_iff.2 hm
  rw [hc'.1] at this
  cases this
 obtain ⟨j, hj, e⟩ := List.getElem_of_mem ((h.mem (s, n)).2 ⟨hx, ho⟩)
 rcases Nat.lt_trichotomy j i with k | k | k
 · have := hb j hj k
   rw [e, hc'.2] at this
   cases this
 · subst k
   exact .inl (by rw [e])
 · have := List.pairwise_iff_getElem.1 h.asc i j hi hj k
   rw [e] at this
   exact .inr this
theorem WaitI.step {r : R9} {w : List I9} {out : List ByteArray} {i : Nat} (h : WaitI r w out) (hi : i < w.length) : WaitI r (w.eraseIdx i) (out ++ [(w[i]'hi).1]) := by
 refine ⟨h.asc.sublist (List.eraseIdx_sublist _ _), fun x => ?_⟩
 rw [List.mem_eraseIdx_iff_getElem]
 have hp := List.pairwise_iff_getElem.1 h.asc
 constructor
 · rintro ⟨j, hj, hne, rfl⟩
   have hm := (h.mem _).1 (List.getElem_mem hj)
   refine ⟨hm.1, fun hx => ?_⟩
   rcases List.mem_append.1 hx with hx | hx
   · exact hm.2 hx
   · rw [List.mem_singleton] at hx
     rcases Nat.lt_trichotomy j i with k | k | k
     · exact ltS_ne (hp j i hj hi k) hx
     · exact hne k
     · exact ltS_ne (hp i j hi hj k) hx.symm
 · rintro ⟨h1, h2⟩
   have hw := (h.mem x).2 ⟨h1, fun hx => h2 (List.mem_append_left _ hx)⟩
   obtain ⟨j, hj, rfl⟩ := List.getElem_of_mem hw
   exact ⟨j, hj, fun e => h2 (by subst e; simp), rfl⟩
end
section
open Go.RowKit Go.Lib
def Came (r : R9) (out : List ByteArray) : Prop := ∀ i, (h : i < out.length) → bestv r (out.take i) (allN r) ⟨#[]⟩ = out[i]'h ∧ ¬ out[i]'h = ⟨#[]⟩
theorem Came.nil (r : R9) : Came r [] := fun i h => absurd h (by simp)
theorem Came.step {r : R9} {out : List ByteArray} {b : ByteArray} (h : Came r out) (hb : bestv r out (allN r) ⟨#[]⟩ = b) (hne : ¬ b = ⟨#[]⟩) : Came r (out ++ [b]) := fun i hi => by
 by_cases k : i < out.length
 · rw [List.getElem_append_left k, List.take_append_of_le_length (Nat.le_of_lt k)]
   exact h i k
 · have e : i = out.length := by simp at hi; omega
   subst e
   rw [List.getElem_append_right (Nat.le_refl _), List.take_left']
   · simpa using ⟨hb, hne⟩
   · rfl
theorem seq_end {r : R9} : ∀ (k : Nat) (out : List ByteArray), r.us.length + r.ts.length + 1 - out.length = k → SeqI r out → Came r out →
 SeqI r (seqLeft r out) ∧ Came r (seqLeft r out) ∧ bestv r (seqLeft r out) (allN r) ⟨#[]⟩ = ⟨#[]⟩
 | 0, out, hk, h, _ => by have := h.len; omega
 | k + 1, out, hk, h, hc => by
  by_cases hb : bestv r out (allN r) ⟨#[]⟩ = ⟨#[]⟩
  · rw [seqLeft_end h hb]
    exact ⟨h, hc, hb⟩
  · rw [seqLeft_step h rfl hb]
    exact seq_end k _ (by simp only [List.length_append, List.length_cons, List.length_nil]; omega) (h.step rfl hb) (hc.step rfl hb)
theorem seqv_end (r : R9) : SeqI r (seqv r) ∧ Came r (seqv r) ∧ bestv r (seqv r) (allN r) ⟨#[]⟩ = ⟨#[]⟩ := by
 rw [← seqLeft_nil]
 exact seq_end _ [] rfl (SeqI.nil r) (Came.nil r)
theorem val_zero {r : R9} (h : valv r = 0) : limv r = true ∧ namedv r = true ∧ ordv r = true ∧ dupv r = false ∧ numsv r = true ∧ foundv r = true ∧ typedv r = true ∧ (seqv r).length = r.us.length + r.ts.length := by
 have hl := (seqv_end r).1.len
 have a0 : limv r = true := by
  cases q : limv r with
  | true => rfl
  | false => simp [valv, q] at h
 have a1 : namedv r = true := by
  cases q : namedv r with
  | true => rfl
  | false => simp [valv, a0, q] at h
 have a2 : ordv r = true := by
  cases q : ordv r with
  | true => rfl
  | false => simp [valv, a0, a1, q] at h
 have a3 : dupv r = false := by
  cases q : dupv r with
  | false => rfl
  | true => simp [valv, a0, a1, a2, q] at h
 have a4 : numsv r = true := by
  cases q : numsv r with
  | true => rfl
  | false => simp [valv, a0, a1, a2, a3, q] at h
 have a5 : foundv r = true := by
  cases q : foundv r with
  | true => rfl
  | false => simp [valv, a0, a1, a2, a3, a4, q] at h
 have a6 : typedv r = true := by
  cases q : typedv r with
  | true => rfl
  | false => simp [valv, a0, a1, a2, a3, a4, a5, q] at h
 by_cases h8 : (seqv r).length < r.us.length + r.ts.length
 · simp [valv, a0, a1, a2, a3, a4, a5, a6, h8] at h
 · exact ⟨a0, a1, a2, a3, a4, a5, a6, by omega⟩
end
end
section
open Go.RowKit Go.Lib
structure V10 where
 n : Int
 b : Bool
 s : ByteArray
 l : List ByteArray
deriving DecidableEq
def V10.zero : V10 := ⟨0, false, ⟨#[]⟩, []⟩
def fieldsv (k : Int) : List ByteArray :=
 if k = 1 then [⟨#[98, 117, 105, 108, 100, 105, 110, 103]⟩, ⟨#[100, 101, 112, 111, 116]⟩, ⟨#[99, 108, 97, 115, 115]⟩, ⟨#[119]⟩, ⟨#[104]⟩, ⟨#[114, 97, 100, 105, 117, 115]⟩, ⟨#[115, 112, 101, 101, 100]⟩, ⟨#[115, 105, 103, 104, 116]⟩, ⟨#[104, 112]⟩, ⟨#[97, 114, 109, 111, 114]⟩, ⟨#[108, 111, 97, 100]⟩, ⟨#[119, 101, 97, 112, 111, 110]⟩, ⟨#[111, 114, 101]⟩, ⟨#[119, 111, 111, 100]⟩, ⟨#[116, 105, 109, 101]⟩, ⟨#[110, 101, 101, 100, 115]⟩, ⟨#[116, 114, 97, 105, 110, 115]⟩, ⟨#[114, 101, 115, 101, 97, 114, 99, 104, 101, 115]⟩]
 else if k = 2 then [⟨#[114, 97, 110, 103, 101]⟩, ⟨#[100, 97, 109, 97, 103, 101]⟩, ⟨#[99, 111, 111, 108]⟩, ⟨#[115, 112, 101, 101, 100]⟩, ⟨#[115, 112, 108, 97, 115, 104]⟩]
 else if k = 3 then [⟨#[110, 101, 101, 100, 115]⟩, ⟨#[111, 114, 101]⟩, ⟨#[119, 111, 111, 100]⟩, ⟨#[116, 105, 109, 101]⟩, ⟨#[117, 110, 105, 116]⟩, ⟨#[115, 116, 97, 116]⟩, ⟨#[97, 109, 111, 117, 110, 116]⟩]
 else []
theorem fieldsU : fieldsv 1 = [⟨#[98, 117, 105, 108, 100, 105, 110, 103]⟩, ⟨#[100, 101, 112, 111, 116]⟩, ⟨#[99, 108, 97, 115, 115]⟩, ⟨#[119]⟩, ⟨#[104]⟩, ⟨#[114, 97, 100, 105, 117, 115]⟩, ⟨#[115, 112, 101, 101, 100]⟩, ⟨#[115, 105, 103, 104, 116]⟩, ⟨#[104, 112]⟩, ⟨#[97, 114, 109, 111, 114]⟩, ⟨#[108, 111, 97, 100]⟩, ⟨#[119, 101, 97, 112, 111, 110]⟩, ⟨#[111, 114, 101]⟩, ⟨#[119, 111, 111, 100]⟩, ⟨#[116, 105, 109, 101]⟩, ⟨#[110, 101, 101, 100, 115]⟩, ⟨#[116, 114, 97, 105, 110, 115]⟩, ⟨#[114, 101, 115, 101, 97, 114, 99, 104, 101, 115]⟩] := by unfold fieldsv; rw [if_pos rfl]
theorem fieldsW : fieldsv 2 = [⟨#[114, 97, 110, 103, 101]⟩, ⟨#[100, 97, 109, 97, 103, 101]⟩, ⟨#[99, 111, 111, 108]⟩, ⟨#[115, 112, 101, 101, 100]⟩, ⟨#[115, 112, 108, 97, 115, 104]⟩] := by unfold fieldsv; rw [if_neg (by decide), if_pos rfl]
theorem fieldsT : fieldsv 3 = [⟨#[110, 101, 101, 100, 115]⟩, ⟨#[111, 114, 101]⟩, ⟨#[119, 111, 111, 100]⟩, ⟨#[116, 105, 109, 101]⟩, ⟨#[117, 110, 105, 116]⟩, ⟨#[115, 116, 97, 116]⟩, ⟨#[97, 109, 111, 117, 110, 116]⟩] := by unfold fieldsv; rw [if_neg (by decide), if_neg (by decide), if_pos rfl]
def sortv (f : ByteArray) : Int := if f = ⟨#[98, 117, 105, 108, 100, 105, 110, 103]⟩ ∨ f = ⟨#[100, 101, 112, 111, 116]⟩ then 2 else if f = ⟨#[119, 101, 97, 112, 111, 110]⟩ ∨ f = ⟨#[117, 110, 105, 116]⟩ then 3 else if f = ⟨#[110, 101, 101, 100, 115]⟩ ∨ f = ⟨#[116, 114, 97, 105, 110, 115]⟩ ∨ f = ⟨#[114, 101, 115, 101, 97, 114, 99, 104, 101, 115]⟩ then 4 else 1
def typev (k : Int) (f : ByteArray) : Int := if hasv (fieldsv k) f = true then sortv f else 0
def ofUv (u : U9) (f : ByteArray) : V10 :=
 if f = ⟨#[98, 117, 105, 108, 100, 105, 110, 103]⟩ then ⟨0, u.bld, ⟨#[]⟩, []⟩ else if f = ⟨#[100, 101, 112, 111, 116]⟩ then ⟨0, u.dep, ⟨#[]⟩, []⟩ else if f = ⟨#[99, 108, 97, 115, 115]⟩ then ⟨u.cls, false, ⟨#[]⟩, []⟩ else if f = ⟨#[119]⟩ then ⟨u.w, false, ⟨#[]⟩, []⟩ else if f = ⟨#[104]⟩ then ⟨u.h, false, ⟨#[]⟩, []⟩ else if f = ⟨#[114, 97, 100, 105, 117, 115]⟩ then ⟨u.rad, false, ⟨#[]⟩, []⟩ else if f = ⟨#[115, 112, 101, 101, 100]⟩ then ⟨u.spd, false, ⟨#[]⟩, []⟩ else if f = ⟨#[115, 105, 103, 104, 116]⟩ then ⟨u.sgt, false, ⟨#[]⟩, []⟩ else if f = ⟨#[104, 112]⟩ then ⟨u.hp, false, ⟨#[]⟩, []⟩ else if f = ⟨#[97, 114, 109, 111, 114]⟩ then ⟨u.arm, false, ⟨#[]⟩, []⟩ else if f = ⟨#[108, 111, 97, 100]⟩ then ⟨u.load, false, ⟨#[]⟩, []⟩ else if f = ⟨#[119, 101, 97, 112, 111, 110]⟩ then ⟨0, false, u.wpn, []⟩ else if f = ⟨#[111, 114, 101]⟩ then ⟨u.ore, false, ⟨#[]⟩, []⟩ else if f = ⟨#[119, 111, 111, 100]⟩ then ⟨u.wood, false, ⟨#[]⟩, []⟩ else if f = ⟨#[116, 105, 109, 101]⟩ then ⟨u.time, false, ⟨#[]⟩, []⟩ else if f = ⟨#[110, 101, 101, 100, 115]⟩ then ⟨0, false, ⟨#[]⟩, u.needs⟩ else if f = ⟨#[116, 114, 97, 105, 110, 115]⟩ then ⟨0, false, ⟨#[]⟩, u.trains⟩ else ⟨0, false, ⟨#[]⟩, u.ress⟩
def withUv (u : U9) (f : ByteArray) (v : V10) : U9 :=
 if f = ⟨#[98, 117, 105, 108, 100, 105, 110, 103]⟩ then { u with bld := v.b } else if f = ⟨#[100, 101, 112, 111, 116]⟩ then { u with dep := v.b } else if f = ⟨#[99, 108, 97, 115, 115]⟩ then { u with cls := v.n } else if f = ⟨#[119]⟩ then { u with w := v.n } else if f = ⟨#[104]⟩ then { u with h := v.n } else if f = ⟨#[114, 97, 100, 105, 117, 115]⟩ then { u with rad := v.n } else if f = ⟨#[115, 112, 101, 101, 100]⟩ then { u with spd := v.n } else if f = ⟨#[115, 105, 103, 104, 116]⟩ then { u with sgt := v.n } else if f = ⟨#[104, 112]⟩ then { u with hp := v.n } else if f = ⟨#[97, 114, 109, 111, 114]⟩ then { u with arm := v.n } else if f = ⟨#[108, 111, 97, 100]⟩ then { u with load := v.n } else if f = ⟨#[119, 101, 97, 112, 111, 110]⟩ then { u with wpn := v.s } else if f = ⟨#[111, 114, 101]⟩ then { u with ore := v.n } else if f = ⟨#[119, 111, 111, 100]⟩ then { u with wood := v.n } else if f = ⟨#[116, 105, 109, 101]⟩ then { u with time := v.n } else if f = ⟨#[110, 101, 101, 100, 115]⟩ then { u with needs := v.l } else if f = ⟨#[116, 114, 97, 105, 110, 115]⟩ then { u with trains := v.l } else if f = ⟨#[114, 101, 115, 101, 97, 114, 99, 104, 101, 115]⟩ then { u with ress := v.l } else u
def ofWv (u : W9) (f : ByteArray) : V10 :=
 if f = ⟨#[114, 97, 110, 103, 101]⟩ then ⟨u.rng, false, ⟨#[]⟩, []⟩ else if f = ⟨#[100, 97, 109, 97, 103, 101]⟩ then ⟨u.dmg, false, ⟨#[]⟩, []⟩ else if f = ⟨#[99, 111, 111, 108]⟩ then ⟨u.cool, false, ⟨#[]⟩, []⟩ else if f = ⟨#[115, 112, 101, 101, 100]⟩ then ⟨u.spd, false, ⟨#[]⟩, []⟩ else ⟨u.spl, false, ⟨#[]⟩, []⟩
def withWv (u : W9) (f : ByteArray) (v : V10) : W9 :=
 if f = ⟨#[114, 97, 110, 103, 101]⟩ then { u with rng := v.n } else if f = ⟨#[100, 97, 109, 97, 103, 101]⟩ then { u with dmg := v.n } else if f = ⟨#[99, 111, 111, 108]⟩ then { u with cool := v.n } else if f = ⟨#[115, 112, 101, 101, 100]⟩ then { u with spd := v.n } else if f = ⟨#[115, 112, 108, 97, 115, 104]⟩ then { u with spl := v.n } else u
def ofTv (u : T9) (f : ByteArray) : V10 :=
 if f = ⟨#[110, 101, 101, 100, 115]⟩ then ⟨0, false, ⟨#[]⟩, u.needs⟩ else if f = ⟨#[111, 114, 101]⟩ then ⟨u.ore, false, ⟨#[]⟩, []⟩ else if f = ⟨#[119, 111, 111, 100]⟩ then ⟨u.wood, false, ⟨#[]⟩, []⟩ else if f = ⟨#[116, 105, 109, 101]⟩ then ⟨u.time, false, ⟨#[]⟩, []⟩ else if f = ⟨#[117, 110, 105, 116]⟩ then ⟨0, false, u.un, []⟩ else if f = ⟨#[115, 116, 97, 116]⟩ then ⟨u.stat, false, ⟨#[]⟩, []⟩ else ⟨u.amt, false, ⟨#[]⟩, []⟩
def withTv (u : T9) (f : ByteArray) (v : V10) : T9 :=
 if f = ⟨#[110, 101, 101, 100, 115]⟩ then { u with needs := v.l } else if f = ⟨#[111, 114, 101]⟩ then { u with ore := v.n } else if f = ⟨#[119, 111, 111, 100]⟩ then { u with wood := v.n } else if f = ⟨#[116, 105, 109, 101]⟩ then { u with time := v.n } else if f = ⟨#[117, 110, 105, 116]⟩ then { u with un := v.s } else if f = ⟨#[115, 116, 97, 116]⟩ then { u with stat := v.n } else if f = ⟨#[97, 109, 111, 117, 110, 116]⟩ then { u with amt := v.n } else u
def namesK (r : R9) (k : Int) : List ByteArray := if k = 1 then namesU r else if k = 2 then namesW r else if k = 3 then namesT r else []
def findv (l : List ByteArray) (s : ByteArray) : Int := match l.findIdx? (fun x => decide (x = s)) with
 | some i => i
 | none => -1
def decv (n : Int) : List UInt8 := if n < 0 then 45 :: decDigits n.natAbs else decDigits n.toNat
def joinC : List ByteArray → List UInt8
 | [] => []
 | [a] => a.toList
 | a :: b :: l => a.toList ++ 44 :: joinC (b :: l)
def dashB : List UInt8 := [45]
def yesB : List UInt8 := [121, 101, 115]
def noB : List UInt8 := [110, 111]
def textL (t : Int) (v : V10) : List UInt8 :=
 if t = 1 then decv v.n else if t = 2 then (if v.b = true then yesB else noB) else if t = 3 then (if v.s = ⟨#[]⟩ then dashB else v.s.toList) else if v.l = [] then dashB else joinC v.l
def int64v (n : Int) : Prop := -9223372036854775808 ≤ n ∧ n ≤ 9223372036854775807
instance (n : Int) : Decidable (int64v n) := by unfold int64v; exact inferInstance
def rawInt (s : List UInt8) : Int := match s with
 | 45 :: d => -(valN 0 d : Int)
 | d => valN 0 d
def intv (s : List UInt8) : Option Int := if int64v (rawInt s) ∧ decv (rawInt s) = s then some (rawInt s) else none
def toB (l : List UInt8) : ByteArray := ⟨l.toArray⟩
def listv (s : List UInt8) : Option (List ByteArray) := if (parts 44 s).all nameB = true then some ((parts 44 s).map toB) else none
def readv (t : Int) (s : List UInt8) : Option V10 :=
 if t = 1 then (intv s).map fun n => ⟨n, false, ⟨#[]⟩, []⟩
 else if t = 2 then (if s = yesB then some ⟨0, true, ⟨#[]⟩, []⟩ else if s = noB then some V10.zero else none)
 else if t = 3 then (if s = dashB then some V10.zero else if nameB s = true then some ⟨0, false, toB s, []⟩ else none)
 else if s = dashB then some V10.zero else (listv s).map fun l => ⟨0, false, ⟨#[]⟩, l⟩
def valueK (r : R9) (k : Int) (i : Nat) (f : ByteArray) : V10 :=
 if k = 1 then ofUv (r.us.getD i U9.zero) f else if k = 2 then ofWv (r.ws.getD i W9.zero) f else ofTv (r.ts.getD i T9.zero) f
def setK10 (r : R9) (k : Int) (i : Nat) (f : ByteArray) (v : V10) : R9 :=
 if k = 1 then { r with us := r.us.modify i fun u => withUv u f v } else if k = 2 then { r with ws := r.ws.modify i fun u => withWv u f v } else if k = 3 then { r with ts := r.ts.modify i fun u => withTv u f v } else r
def getv10 (r : R9) (k : Int) (nm f : ByteArray) : Option (List UInt8) :=
 if typev k f = 0 then none else if findv (namesK r k) nm < 0 then none else some (textL (typev k f) (valueK r k (findv (namesK r k) nm).toNat f))
def R9.zero : R9 := ⟨[], [], []⟩
def setv10 (r : R9) (k : Int) (nm f : ByteArray) (s : List UInt8) : R9 × Int :=
 if typev k f = 0 then (R9.zero, 1) else if findv (namesK r k) nm < 0 then (R9.zero, 8) else match readv (typev k f) s with
 | none => (R9.zero, 5)
 | some v => (setK10 r k (findv (namesK r k) nm).toNat f v, 0)
def wordK (k : Int) : List UInt8 := if k = 1 then [117, 110, 105, 116] else if k = 2 then [119, 101, 97, 112, 111, 110] else [116, 101, 99, 104]
def fieldL (k : Int) (val : ByteArray → V10) (f : ByteArray) : List UInt8 := 32 :: (f.toList ++ 32 :: textL (typev k f) (val f))
def elemL (k : Int) (nm : ByteArray) (val : ByteArray → V10) : List (List UInt8) := (wordK k ++ 32 :: nm.toList) :: (fieldsv k).map (fieldL k val)
def rulesL (r : R9) : List (List UInt8) := r.us.flatMap (fun u => elemL 1 u.nm (ofUv u)) ++ r.ws.flatMap (fun u => elemL 2 u.nm (ofWv u)) ++ r.ts.flatMap (fun u => elemL 3 u.nm (ofTv u))
def printv10 (r : R9) : List UInt8 × Int := if valv r = 0 then (joinT (rulesL r), 0) else ([], valv r)
def firstL (t : List UInt8) : Option (Int × List UInt8) := match stripB (wordK 1 ++ [32]) t, stripB (wordK 2 ++ [32]) t, stripB (wordK 3 ++ [32]) t with
 | some x, _, _ => if nameB x = true then some (1, x) else none
 | _, some x, _ => if nameB x = true then some (2, x) else none
 | _, _, some x => if nameB x = true then some (3, x) else none
 | _, _, _ => none
structure P10 where
 k : Int
 d : Nat
 r : R9
def newK (r : R9) (k : Int) (nm : List UInt8) : R9 := if k = 1 then { r with us := r.us ++ [{ U9.zero with nm := toB nm }] } else if k = 2 then { r with ws := r.ws ++ [{ W9.zero with nm := toB nm }] } else if k = 3 then { r with ts := r.ts ++ [{ T9.zero with nm := toB nm }] } else r
def lastK (r : R9) (k : Int) : Nat := if k = 1 then r.us.length - 1 else if k = 2 then r.ws.length - 1 else r.ts.length - 1
def lineP (p : P10) (t : List UInt8) : Option P10 :=
 if p.d = (fieldsv p.k).length then match firstL t with
  | none => none
  | some (k, nm) => if k < p.k then none else some ⟨k, 0, newK p.r k nm⟩
 else match stripB (32 :: (((fieldsv p.k).getD p.d ⟨#[]⟩).toList ++ [32])) t with
  | none => none
  | some s => match readv (typev p.k ((fieldsv p.k).getD p.d ⟨#[]⟩)) s with
   | none => none
   | some v => some ⟨p.k, p.d + 1, setK10 p.r p.k (lastK p.r p.k) ((fieldsv p.k).getD p.d ⟨#[]⟩) v⟩
def goP (p : P10) : Nat → List (List UInt8) → P10 × Nat × Bool
 | n, [] => (p, n, true)
 | n, t :: ls => match lineP p t with
  | none => (p, n, false)
  | some q => goP q (n + 1) ls
def parsev10 (s : List UInt8) : R9 × Int × Int :=
 if 32768 < s.length then (R9.zero, 0, 2) else
 if (goP ⟨0, 0, R9.zero⟩ 1 (linesB s)).2.2 = false ∨ tailB s ≠ [] ∨ (goP ⟨0, 0, R9.zero⟩ 1 (linesB s)).1.d < (fieldsv (goP ⟨0, 0, R9.zero⟩ 1 (linesB s)).1.k).length then (R9.zero, (goP ⟨0, 0, R9.zero⟩ 1 (linesB s)).2.1, 5)
 else if valv (goP ⟨0, 0, R9.zero⟩ 1 (linesB s)).1.r = 0 then ((goP ⟨0, 0, R9.zero⟩ 1 (linesB s)).1.r, 0, 0) else (R9.zero, 0, valv (goP ⟨0, 0, R9.zero⟩ 1 (linesB s)).1.r)
end
section
open Go.RowKit Go.Lib
theorem list_toB (a : ByteArray) : toB a.toList = a := by unfold toB; rw [Lib.toList_data]
theorem raw_dec (n : Int) : rawInt (decv n) = n := by
 unfold decv
 split
 · rename_i h
   show -(valN 0 (decDigits n.natAbs) : Int) = n
   rw [dec_val]
   omega
 · rename_i h
   have e := dec_val n.toNat
   have hd := dec_digits n.toNat
   cases hq : decDigits n.toNat with
   | nil => exact absurd hq (dec_ne _)
   | cons c d =>
    rw [hq] at e hd
    have hc : digB c = true := by rw [List.all_cons, Bool.and_eq_true] at hd; exact hd.1
    have hne : ¬ c = 45 := fun e2 => by subst e2; revert hc; decide
    have : rawInt (c :: d) = (valN 0 (c :: d) : Int) := by
     unfold rawInt
     split
     · rename_i q hq2
       injection hq2 with a b
       exact absurd a hne
     · rfl
    rw [this, e]
    omega
theorem int_some {s : List UInt8} {n : Int} (h : intv s = some n) : decv n = s ∧ int64v n := by
 unfold intv at h
 split at h
 · rename_i hc
   injection h with h
   subst h
   exact ⟨hc.2, hc.1⟩
 · cases h
theorem int_text {n : Int} (h : int64v n) : intv (decv n) = some n := by
 unfold intv
 rw [raw_dec, if_pos ⟨h, rfl⟩]
def Good10 (t : Int) (v : V10) : Prop :=
 (t = 1 ∧ int64v v.n ∧ v = ⟨v.n, false, ⟨#[]⟩, []⟩) ∨ (t = 2 ∧ v = ⟨0, v.b, ⟨#[]⟩, []⟩) ∨ (t = 3 ∧ (v.s = ⟨#[]⟩ ∨ nameB v.s.toList = true) ∧ v = ⟨0, false, v.s, []⟩) ∨
 (t = 4 ∧ (∀ x ∈ v.l, nameB x.toList = true) ∧ v = ⟨0, false, ⟨#[]⟩, v.l⟩)
end
section
open Go.RowKit Go.Lib
theorem kind_of {k : Int} {f : ByteArray} (h : f ∈ fieldsv k) : k = 1 ∨ k = 2 ∨ k = 3 := by
 unfold fieldsv at h
 by_cases h1 : k = 1
 · exact .inl h1
 by_cases h2 : k = 2
 · exact .inr (.inl h2)
 by_cases h3 : k = 3
 · exact .inr (.inr h3)
 rw [if_neg h1, if_neg h2, if_neg h3] at h
 cases h
end
section
open Go.RowKit Go.Lib
theorem shape_int {u : U9} (h : shapev u = true) : int64v u.cls ∧ int64v u.w ∧ int64v u.h ∧ int64v u.rad ∧ int64v u.spd ∧ int64v u.sgt ∧ int64v u.hp ∧ int64v u.arm ∧ int64v u.load ∧ int64v u.ore ∧ int64v u.wood ∧ int64v u.time := by
 unfold shapev at h
 unfold statv rngv at h
 unfold int64v
 split at h
 · rename_i h0
   simp only [Bool.and_eq_true, decide_eq_true_eq] at h0
   split at h
   · simp only [Bool.and_eq_true, decide_eq_true_eq] at h
     refine ⟨?_, ?_, ?_, ?_, ?_, ?_, ?_, ?_, ?_, ?_, ?_, ?_⟩ <;> omega
   · simp only [Bool.and_eq_true, decide_eq_true_eq] at h
     refine ⟨?_, ?_, ?_, ?_, ?_, ?_, ?_, ?_, ?_, ?_, ?_, ?_⟩ <;> omega
 · cases h
theorem weap_int {u : W9} (h : weapv u = true) : int64v u.rng ∧ int64v u.dmg ∧ int64v u.cool ∧ int64v u.spd ∧ int64v u.spl := by
 unfold weapv statv rngv at h
 unfold int64v
 simp only [Bool.and_eq_true, decide_eq_true_eq] at h
 refine ⟨?_, ?_, ?_, ?_, ?_⟩ <;> omega
theorem tech_int {u : T9} (h : techv u = true) : int64v u.ore ∧ int64v u.wood ∧ int64v u.time ∧ int64v u.stat ∧ int64v u.amt := by
 unfold techv statv rngv at h
 unfold int64v
 simp only [Bool.and_eq_true, decide_eq_true_eq] at h
 refine ⟨?_, ?_, ?_, ?_, ?_⟩ <;> omega
theorem named_at {r : R9} (h : namedv r = true) : (∀ s ∈ namesU r, nameB s.toList = true) ∧ (∀ s ∈ namesW r, nameB s.toList = true) ∧ ∀ s ∈ namesT r, nameB s.toList = true := by
 unfold namedv at h
 rw [List.all_eq_true] at h
 have k : ∀ s ∈ namesU r ++ namesW r ++ namesT r, nameB s.toList = true := fun s hs => by rw [Lib.toList_data]; exact h s hs
 exact ⟨fun s hs => k s (by simp [hs]), fun s hs => k s (by simp [hs]), fun s hs => k s (by simp [hs])⟩
theorem all_has {l m : List ByteArray} (h : l.all (hasv m) = true) {p : ByteArray → Prop} (hp : ∀ s ∈ m, p s) : ∀ s ∈ l, p s := fun s hs => hp s (hasv_iff.1 (List.all_eq_true.1 h s hs))
set_option maxRecDepth 100000 in
theorem goodU {r : R9} (h : valv r = 0) {u : U9} (hu : u ∈ r.us) {f : ByteArray} (hf : f ∈ fieldsv 1) : Good10 (sortv f) (ofUv u f) := by
 obtain ⟨-, h2, -, -, h5, h6, -⟩ := val_zero h
 obtain ⟨nu, nw, nt⟩ := named_at h2
 unfold numsv at h5
 unfold foundv at h6
 rw [Bool.and_eq_true, Bool.and_eq_true] at h5
 rw [Bool.and_eq_true] at h6
 have hs := shape_int (List.all_eq_true.1 h5.1.1 u hu)
 have hx := List.all_eq_true.1 h6.1 u hu
 simp only [Bool.and_eq_true, Bool.or_eq_true, decide_eq_true_eq] at hx
 obtain ⟨⟨⟨x1, x2⟩, x3⟩, x4⟩ := hx
 have nn : ∀ s ∈ namesU r ++ namesT r, nameB s.toList = true := fun s hs => (List.mem_append.1 hs).elim (nu s) (nt s)
 have l2 := all_has x2 nn
 have l3 := all_has x3 nu
 have l4 := all_has x4 nt
 have w1 : u.wpn = ⟨#[]⟩ ∨ nameB u.wpn.toList = true := x1.imp id fun q => nw _ (hasv_iff.1 q)
 obtain ⟨i_cls, i_w, i_h, i_rad, i_spd, i_sgt, i_hp, i_arm, i_load, i_ore, i_wood, i_time⟩ := hs
 rw [fieldsU] at hf
 simp only [List.mem_cons, List.not_mem_nil, or_false] at hf
 rcases hf with rfl | rfl | rfl | rfl | rfl | rfl | rfl | rfl | rfl | rfl | rfl | rfl | rfl | rfl | rfl | rfl | rfl | rfl
 · exact .inr (.inl ⟨rfl, rfl⟩)
 · exact .inr (.inl ⟨rfl, rfl⟩)
 · exact .inl ⟨rfl, i_cls, rfl⟩
 · exact .inl ⟨rfl, i_w, rfl⟩
 · exact .inl ⟨rfl, i_h, rfl⟩
 · exact .inl ⟨rfl, i_rad, rfl⟩
 · exact .inl ⟨rfl, i_spd, rfl⟩
 · exact .inl ⟨rfl, i_sgt, rfl⟩
 · exact .inl ⟨rfl, i_hp, rfl⟩
 · exact .inl ⟨rfl, i_arm, rfl⟩
 · exact .inl ⟨rfl, i_load, rfl⟩
 · exact .inr (.inr (.inl ⟨rfl, w1, rfl⟩))
 · exact .inl ⟨rfl, i_ore, rfl⟩
 · exact .inl ⟨rfl, i_wood, rfl⟩
 · exact .inl ⟨rfl, i_time, rfl⟩
 · exact .inr (.inr (.inr ⟨rfl, l2, rfl⟩))
 · exact .inr (.inr (.inr ⟨rfl, l3, rfl⟩))
 · exact .inr (.inr (.inr ⟨rfl, l4, rfl⟩))
set_option maxRecDepth 100000 in
theorem goodW {r : R9} (h : valv r = 0) {u : W9} (hu : u ∈ r.ws) {f : ByteArray} (hf : f ∈ fieldsv 2) : Good10 (sortv f) (ofWv u f) := by
 obtain ⟨-, -, -, -, h5, -⟩ := val_zero h
 unfold numsv at h5
 rw [Bool.and_eq_true, Bool.and_eq_true] at h5
 obtain ⟨i_rng, i_dmg, i_cool, i_spd, i_spl⟩ := weap_int (List.all_eq_true.1 h5.1.2 u hu)
 rw [fieldsW] at hf
 simp only [List.mem_cons, List.not_mem_nil, or_false] at hf
 rcases hf with rfl | rfl | rfl | rfl | rfl
 · exact .inl ⟨rfl, i_rng, rfl⟩
 · exact .inl ⟨rfl, i_dmg, rfl⟩
 · exact .inl ⟨rfl, i_cool, rfl⟩
 · exact .inl ⟨rfl, i_spd, rfl⟩
 · exact .inl ⟨rfl, i_spl, rfl⟩
set_option maxRecDepth 100000 in
theorem goodT {r : R9} (h : valv r = 0) {u : T9} (hu : u ∈ r.ts) {f : ByteArray} (hf : f ∈ fieldsv 3) : Good10 (sortv f) (ofTv u f) := by
 obtain ⟨-, h2, -, -, h5, h6, -⟩ := val_zero h
 obtain ⟨nu, -, nt⟩ := named_at h2
 unfold numsv at h5
 unfold foundv at h6
 rw [Bool.and_eq_true, Bool.and_eq_true] at h5
 rw [Bool.and_eq_true] at h6
 have hx := List.all_eq_true.1 h6.2 u hu
 rw [Bool.and_eq_true] at hx
 have nn : ∀ s ∈ namesU r ++ namesT r, nameB s.toList = true := fun s hs => (List.mem_append.1 hs).elim (nu s) (nt s)
 have l2 := all_has hx.1 nn
 have w1 : u.un = ⟨#[]⟩ ∨ nameB u.un.toList = true := .inr (nu _ (hasv_iff.1 hx.2))
 obtain ⟨i_ore, i_wood, i_time, i_stat, i_amt⟩ := tech_int (List.all_eq_true.1 h5.2 u hu)
 rw [fieldsT] at hf
 simp only [List.mem_cons, List.not_mem_nil, or_false] at hf
 rcases hf with rfl | rfl | rfl | rfl | rfl | rfl | rfl
 · exact .inr (.inr (.inr ⟨rfl, l2, rfl⟩))
 · exact .inl ⟨rfl, i_ore, rfl⟩
 · exact .inl ⟨rfl, i_wood, rfl⟩
 · exact .inl ⟨rfl, i_time, rfl⟩
 · exact .inr (.inr (.inl ⟨rfl, w1, rfl⟩))
 · exact .inl ⟨rfl, i_stat, rfl⟩
 · exact .inl ⟨rfl, i_amt, rfl⟩
theorem findv_at {l : List ByteArray} {s : ByteArray} (h : ¬ findv l s < 0) : (findv l s).toNat < l.length := by
 unfold findv at h ⊢
 split
 · rename_i i hi
   rw [List.findIdx?_eq_some_iff_getElem] at hi
   obtain ⟨hl, -⟩ := hi
   simpa using hl
 · rename_i hi
   rw [hi] at h
   exact absurd (by decide) h
theorem names_len (r : R9) : (namesK r 1).length = r.us.length ∧ (namesK r 2).length = r.ws.length ∧ (namesK r 3).length = r.ts.length := by
 refine ⟨?_, ?_, ?_⟩
 · show (namesU r).length = _
   unfold namesU
   rw [List.length_map]
 · show (namesW r).length = _
   unfold namesW
   rw [List.length_map]
 · show (namesT r).length = _
   unfold namesT
   rw [List.length_map]
theorem getD_mem {α : Type} {l : List α} {i : Nat} (d : α) (h : i < l.length) : l.getD i d ∈ l := by
 rw [List.getD_eq_getElem?_getD, List.getElem?_eq_getElem h]
 exact List.getElem_mem h
theorem good_value {r : R9} (h : valv r = 0) {k : Int} {i : Nat} {f : ByteArray} (hf : f ∈ fieldsv k) (hi : i < (namesK r k).length) : Good10 (sortv f) (valueK r k i f) := by
 obtain ⟨n1, n2, n3⟩ := names_len r
 rcases kind_of hf with rfl | rfl | rfl
 · rw [n1] at hi
   exact goodU h (getD_mem _ hi) hf
 · rw [n2] at hi
   exact goodW h (getD_mem _ hi) hf
 · rw [n3] at hi
   exact goodT h (getD_mem _ hi) hf
end
section
open Go.RowKit Go.Lib
theorem goP_nil (p : P10) (n : Nat) : goP p n [] = (p, n, true) := rfl
theorem goP_some {p q : P10} {n : Nat} {t : List UInt8} {ls : List (List UInt8)} (h : lineP p t = some q) : goP p n (t :: ls) = goP q (n + 1) ls := by rw [goP, h]
theorem goP_none {p : P10} {n : Nat} {t : List UInt8} {ls : List (List UInt8)} (h : lineP p t = none) : goP p n (t :: ls) = (p, n, false) := by rw [goP, h]
theorem type_in {k : Int} {f : ByteArray} (h : f ∈ fieldsv k) : typev k f = sortv f := by unfold typev; rw [if_pos (hasv_iff.2 h)]
theorem oW_0 (u : W9) : ofWv u ⟨#[114, 97, 110, 103, 101]⟩ = ⟨u.rng, false, ⟨#[]⟩, []⟩ := rfl
theorem oW_1 (u : W9) : ofWv u ⟨#[100, 97, 109, 97, 103, 101]⟩ = ⟨u.dmg, false, ⟨#[]⟩, []⟩ := rfl
theorem oW_2 (u : W9) : ofWv u ⟨#[99, 111, 111, 108]⟩ = ⟨u.cool, false, ⟨#[]⟩, []⟩ := rfl
theorem oW_3 (u : W9) : ofWv u ⟨#[115, 112, 101, 101, 100]⟩ = ⟨u.spd, false, ⟨#[]⟩, []⟩ := rfl
theorem oW_4 (u : W9) : ofWv u ⟨#[115, 112, 108, 97, 115, 104]⟩ = ⟨u.spl, false, ⟨#[]⟩, []⟩ := rfl
end

end Go.Proofs.YtnjcdmjaecgblaaGreatDoor
