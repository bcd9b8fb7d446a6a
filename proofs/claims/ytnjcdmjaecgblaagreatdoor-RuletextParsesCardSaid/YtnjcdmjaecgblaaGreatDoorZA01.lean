/-
  Rules as text: the text of valid rules is short enough; it is parsed as these rules. No program is named here; Pieces of texts, for the walks over rules as text. No program is named here; Sizes of rules: what the laws of ruletext examine; The imports of the walks and small facts on endings. No program is named here; Blocks of cells that the call itself made, known whole: read, stored into, kept behind calls that only make memory. No program is named here; Loads and stores of whole structs, as one step of a walk each: the cells as a list that no walk looks into. No program is named here; What the reference of rules answers: names, elements, limits; Capacities of the lists of rules; What the laws of ruletext ask of the functions; What the reference of ruletext answers: Fields, Type; What the reference of ruletext answers: the text of a value; Regions that draw, operation by operation; Regions that draw, operation by operation: one or two that may come up; a struct's box made and stored into. No program is named here.
-/
import Derived.Test.YtnjcdmjaecgblaaGreatDoorZA00
import Derived.Test.YtnjcdmjaecgblaaGreatDoorProg
import Derived.WalkLawsBesides
import Derived.Deep.QuietTactic
import Derived.BigQuiet
import Derived.Lib.Walk
import Derived.Laws.BytesString
import Derived.Laws.IdiomStrings
import Derived.Lib.Strings
import Derived.OneCell
import Derived.Deep.Draws
import Derived.Laws.Rows
import Derived.Laws.AppendOwn
import Derived.Laws.OwnMore
import Derived.Laws.Tables
import Derived.Shelf.SlicesQ.Load
import Derived.BigRegion
import Derived.Deep.CutRange
import Derived.StillTailTactics
import Derived.Deep.RegionHeld3
import Derived.Deep.RegionWith
import Derived.RangeFuncNested
import Derived.Shelf.RegionOpen
namespace Go.Proofs.YtnjcdmjaecgblaaGreatDoor
section
open Go.RowKit Go.Lib
theorem shape_small {u : U9} (h : shapev u = true) : (0 ≤ u.cls ∧ u.cls ≤ 100000) ∧ (0 ≤ u.w ∧ u.w ≤ 100000) ∧ (0 ≤ u.h ∧ u.h ≤ 100000) ∧ (0 ≤ u.rad ∧ u.rad ≤ 100000) ∧ (0 ≤ u.spd ∧ u.spd ≤ 100000) ∧ (0 ≤ u.sgt ∧ u.sgt ≤ 100000) ∧ (0 ≤ u.hp ∧ u.hp ≤ 100000) ∧ (0 ≤ u.arm ∧ u.arm ≤ 100000) ∧ (0 ≤ u.load ∧ u.load ≤ 100000) ∧ (0 ≤ u.ore ∧ u.ore ≤ 100000) ∧ (0 ≤ u.wood ∧ u.wood ≤ 100000) ∧ (0 ≤ u.time ∧ u.time ≤ 100000) := by
 unfold shapev at h
 unfold statv rngv at h
 split at h
 · rename_i h0
   simp only [Bool.and_eq_true, decide_eq_true_eq] at h0
   split at h
   · simp only [Bool.and_eq_true, decide_eq_true_eq] at h
     refine ⟨?_, ?_, ?_, ?_, ?_, ?_, ?_, ?_, ?_, ?_, ?_, ?_⟩ <;> omega
   · simp only [Bool.and_eq_true, decide_eq_true_eq] at h
     refine ⟨?_, ?_, ?_, ?_, ?_, ?_, ?_, ?_, ?_, ?_, ?_, ?_⟩ <;> omega
 · cases h
theorem weap_small {u : W9} (h : weapv u = true) : (0 ≤ u.rng ∧ u.rng ≤ 100000) ∧ (0 ≤ u.dmg ∧ u.dmg ≤ 100000) ∧ (0 ≤ u.cool ∧ u.cool ≤ 100000) ∧ (0 ≤ u.spd ∧ u.spd ≤ 100000) ∧ (0 ≤ u.spl ∧ u.spl ≤ 100000) := by
 unfold weapv statv rngv at h
 simp only [Bool.and_eq_true, decide_eq_true_eq] at h
 refine ⟨?_, ?_, ?_, ?_, ?_⟩ <;> omega
theorem tech_small {u : T9} (h : techv u = true) : (0 ≤ u.ore ∧ u.ore ≤ 100000) ∧ (0 ≤ u.wood ∧ u.wood ≤ 100000) ∧ (0 ≤ u.time ∧ u.time ≤ 100000) ∧ (0 ≤ u.stat ∧ u.stat ≤ 100000) ∧ (0 ≤ u.amt ∧ u.amt ≤ 100000) := by
 unfold techv statv rngv at h
 simp only [Bool.and_eq_true, decide_eq_true_eq] at h
 refine ⟨?_, ?_, ?_, ?_, ?_⟩ <;> omega
def Small10 (t : Int) (v : V10) : Prop := (t = 1 → 0 ≤ v.n ∧ v.n ≤ 100000) ∧ (t = 4 → v.l.length ≤ 4)
set_option maxRecDepth 100000 in
theorem smallU {r : R9} (h : valv r = 0) {u : U9} (hu : u ∈ r.us) {f : ByteArray} (hf : f ∈ fieldsv 1) : Small10 (sortv f) (ofUv u f) := by
 obtain ⟨h1, -, -, -, h5, -⟩ := val_zero h
 unfold numsv at h5
 rw [Bool.and_eq_true, Bool.and_eq_true] at h5
 obtain ⟨i_cls, i_w, i_h, i_rad, i_spd, i_sgt, i_hp, i_arm, i_load, i_ore, i_wood, i_time⟩ := shape_small (List.all_eq_true.1 h5.1.1 u hu)
 unfold limv at h1
 simp only [Bool.and_eq_true] at h1
 have hx := List.all_eq_true.1 h1.1.2 u hu
 simp only [Bool.and_eq_true, decide_eq_true_eq] at hx
 obtain ⟨⟨l2, l3⟩, l4⟩ := hx
 rw [fieldsU] at hf
 simp only [List.mem_cons, List.not_mem_nil, or_false] at hf
 rcases hf with rfl | rfl | rfl | rfl | rfl | rfl | rfl | rfl | rfl | rfl | rfl | rfl | rfl | rfl | rfl | rfl | rfl | rfl
 · exact ⟨fun e => absurd e (by decide), fun e => absurd e (by decide)⟩
 · exact ⟨fun e => absurd e (by decide), fun e => absurd e (by decide)⟩
 · exact ⟨fun _ => i_cls, fun e => absurd e (by decide)⟩
 · exact ⟨fun _ => i_w, fun e => absurd e (by decide)⟩
 · exact ⟨fun _ => i_h, fun e => absurd e (by decide)⟩
 · exact ⟨fun _ => i_rad, fun e => absurd e (by decide)⟩
 · exact ⟨fun _ => i_spd, fun e => absurd e (by decide)⟩
 · exact ⟨fun _ => i_sgt, fun e => absurd e (by decide)⟩
 · exact ⟨fun _ => i_hp, fun e => absurd e (by decide)⟩
 · exact ⟨fun _ => i_arm, fun e => absurd e (by decide)⟩
 · exact ⟨fun _ => i_load, fun e => absurd e (by decide)⟩
 · exact ⟨fun e => absurd e (by decide), fun e => absurd e (by decide)⟩
 · exact ⟨fun _ => i_ore, fun e => absurd e (by decide)⟩
 · exact ⟨fun _ => i_wood, fun e => absurd e (by decide)⟩
 · exact ⟨fun _ => i_time, fun e => absurd e (by decide)⟩
 · exact ⟨fun e => absurd e (by decide), fun _ => l2⟩
 · exact ⟨fun e => absurd e (by decide), fun _ => l3⟩
 · exact ⟨fun e => absurd e (by decide), fun _ => l4⟩
set_option maxRecDepth 100000 in
theorem smallW {r : R9} (h : valv r = 0) {u : W9} (hu : u ∈ r.ws) {f : ByteArray} (hf : f ∈ fieldsv 2) : Small10 (sortv f) (ofWv u f) := by
 obtain ⟨-, -, -, -, h5, -⟩ := val_zero h
 unfold numsv at h5
 rw [Bool.and_eq_true, Bool.and_eq_true] at h5
 obtain ⟨i_rng, i_dmg, i_cool, i_spd, i_spl⟩ := weap_small (List.all_eq_true.1 h5.1.2 u hu)
 rw [fieldsW] at hf
 simp only [List.mem_cons, List.not_mem_nil, or_false] at hf
 rcases hf with rfl | rfl | rfl | rfl | rfl
 · exact ⟨fun _ => i_rng, fun e => absurd e (by decide)⟩
 · exact ⟨fun _ => i_dmg, fun e => absurd e (by decide)⟩
 · exact ⟨fun _ => i_cool, fun e => absurd e (by decide)⟩
 · exact ⟨fun _ => i_spd, fun e => absurd e (by decide)⟩
 · exact ⟨fun _ => i_spl, fun e => absurd e (by decide)⟩
set_option maxRecDepth 100000 in
theorem smallT {r : R9} (h : valv r = 0) {u : T9} (hu : u ∈ r.ts) {f : ByteArray} (hf : f ∈ fieldsv 3) : Small10 (sortv f) (ofTv u f) := by
 obtain ⟨h1, -, -, -, h5, -⟩ := val_zero h
 unfold numsv at h5
 rw [Bool.and_eq_true, Bool.and_eq_true] at h5
 obtain ⟨i_ore, i_wood, i_time, i_stat, i_amt⟩ := tech_small (List.all_eq_true.1 h5.2 u hu)
 unfold limv at h1
 simp only [Bool.and_eq_true] at h1
 have l2 := of_decide_eq_true (List.all_eq_true.1 h1.2 u hu)
 rw [fieldsT] at hf
 simp only [List.mem_cons, List.not_mem_nil, or_false] at hf
 rcases hf with rfl | rfl | rfl | rfl | rfl | rfl | rfl
 · exact ⟨fun e => absurd e (by decide), fun _ => l2⟩
 · exact ⟨fun _ => i_ore, fun e => absurd e (by decide)⟩
 · exact ⟨fun _ => i_wood, fun e => absurd e (by decide)⟩
 · exact ⟨fun _ => i_time, fun e => absurd e (by decide)⟩
 · exact ⟨fun e => absurd e (by decide), fun e => absurd e (by decide)⟩
 · exact ⟨fun _ => i_stat, fun e => absurd e (by decide)⟩
 · exact ⟨fun _ => i_amt, fun e => absurd e (by decide)⟩
theorem joinC_short : ∀ l : List ByteArray, (∀ x ∈ l, nameB x.toList = true) → (joinC l).length ≤ 13 * l.length ∧ (10 : UInt8) ∉ joinC l
 | [], _ => ⟨Nat.zero_le _, by simp [joinC]⟩
 | [a], h => by
  have h1 := h a (by simp)
  have h2 := name_len h1
  refine ⟨by rw [joinC]; simp only [List.length_cons, List.length_nil]; omega, ?_⟩
  rw [joinC]
  exact name_free h1 10 (by decide) (by decide)
 | a :: b :: l, h => by
  have h1 := h a (by simp)
  have h2 := name_len h1
  obtain ⟨i1, i2⟩ := joinC_short (b :: l) (fun x hx => h x (List.mem_cons_of_mem _ hx))
  have h3 := name_free h1 10 (by decide) (by decide)
  refine ⟨?_, ?_⟩
  · rw [joinC, List.length_append, List.length_cons, List.length_cons]
    omega
  · rw [joinC]
    intro hm
    rcases List.mem_append.1 hm with q | q
    · exact h3 q
    · rcases List.mem_cons.1 q with q | q
      · revert q; decide
      · exact i2 q
theorem text_short {t : Int} {v : V10} (hg : Good10 t v) (hs : Small10 t v) : (textL t v).length ≤ 52 ∧ (10 : UInt8) ∉ textL t v := by
 obtain ⟨n, b, s, l⟩ := v
 rcases hg with ⟨rfl, h1, -⟩ | ⟨rfl, -⟩ | ⟨rfl, h1, -⟩ | ⟨rfl, h1, -⟩
 · obtain ⟨k1, k2⟩ := hs.1 rfl
   dsimp only at k1 k2
   show (decv n).length ≤ 52 ∧ (10 : UInt8) ∉ decv n
   unfold decv
   rw [if_neg (by omega)]
   have hl : (decDigits n.toNat).length ≤ 6 := dec_len 5 n.toNat (by rw [show (10 : Nat) ^ (5 + 1) = 1000000 from rfl]; omega)
   exact ⟨by omega, dec_not _ 10 (by decide)⟩
 · show (if b = true then yesB else noB).length ≤ 52 ∧ (10 : UInt8) ∉ (if b = true then yesB else noB)
   cases b <;> decide
 · dsimp only at h1
   show (if s = ⟨#[]⟩ then dashB else s.toList).length ≤ 52 ∧ (10 : UInt8) ∉ (if s = ⟨#[]⟩ then dashB else s.toList)
   split
   · decide
   · rename_i hn
     have h2 := h1.resolve_left hn
     have h3 := name_len h2
     exact ⟨by omega, name_free h2 10 (by decide) (by decide)⟩
 · have k2 := hs.2 rfl
   dsimp only at h1 k2
   show (if l = [] then dashB else joinC l).length ≤ 52 ∧ (10 : UInt8) ∉ (if l = [] then dashB else joinC l)
   split
   · decide
   · obtain ⟨i1, i2⟩ := joinC_short l h1
     exact ⟨by omega, i2⟩
theorem fields_short {k : Int} {f : ByteArray} (h : f ∈ fieldsv k) : f.toList.length ≤ 10 ∧ (10 : UInt8) ∉ f.toList := by
 have key : ∀ l : List ByteArray, (l.all fun f => decide (f.data.toList.length ≤ 10) && !(f.data.toList.contains 10)) = true → f ∈ l → f.toList.length ≤ 10 ∧ (10 : UInt8) ∉ f.toList := fun l hl hf => by
  have := List.all_eq_true.1 hl f hf
  rw [Bool.and_eq_true, decide_eq_true_eq, Bool.not_eq_true'] at this
  rw [Lib.toList_data]
  exact ⟨this.1, fun hm => by rw [List.contains_iff_mem.2 hm] at this; exact Bool.noConfusion this.2⟩
 rcases kind_of h with rfl | rfl | rfl
 · rw [fieldsU] at h
   exact key _ (by decide +kernel) h
 · rw [fieldsW] at h
   exact key _ (by decide +kernel) h
 · rw [fieldsT] at h
   exact key _ (by decide +kernel) h
theorem elem_short {k : Int} {nm : ByteArray} {val : ByteArray → V10} (hn : nameB nm.toList = true) (hg : ∀ f ∈ fieldsv k, Good10 (sortv f) (val f) ∧ Small10 (sortv f) (val f)) :
 ∀ l ∈ elemL k nm val, l.length ≤ 64 ∧ (10 : UInt8) ∉ l := fun l hl => by
 unfold elemL at hl
 rcases List.mem_cons.1 hl with rfl | hl
 · have h1 := name_len hn
   have h2 := name_free hn 10 (by decide) (by decide)
   have hw : (wordK k).length ≤ 6 ∧ (10 : UInt8) ∉ wordK k := by unfold wordK; (repeat' split) <;> decide
   refine ⟨by rw [List.length_append, List.length_cons]; omega, fun hm => ?_⟩
   rcases List.mem_append.1 hm with q | q
   · exact hw.2 q
   · rcases List.mem_cons.1 q with q | q
     · revert q; decide
     · exact h2 q
 · obtain ⟨f, hf, rfl⟩ := List.mem_map.1 hl
   obtain ⟨h1, h2⟩ := hg f hf
   obtain ⟨t1, t2⟩ := text_short h1 h2
   obtain ⟨f1, f2⟩ := fields_short hf
   unfold fieldL
   rw [type_in hf]
   refine ⟨by rw [List.length_cons, List.length_append, List.length_cons]; omega, fun hm => ?_⟩
   rcases List.mem_cons.1 hm with q | q
   · revert q; decide
   · rcases List.mem_append.1 q with q | q
     · exact f2 q
     · rcases List.mem_cons.1 q with q | q
       · revert q; decide
       · exact t2 q
theorem rules_short {r : R9} (h : valv r = 0) : ∀ l ∈ rulesL r, l.length ≤ 64 ∧ (10 : UInt8) ∉ l := fun l hl => by
 obtain ⟨-, hn, -⟩ := val_zero h
 obtain ⟨nu, nw, nt⟩ := named_at hn
 unfold rulesL at hl
 rcases List.mem_append.1 hl with hl | hl
 · rcases List.mem_append.1 hl with hl | hl
   · obtain ⟨u, hu, hl⟩ := List.mem_flatMap.1 hl
     exact elem_short (nu _ (List.mem_map_of_mem hu)) (fun f hf => ⟨goodU h hu hf, smallU h hu hf⟩) l hl
   · obtain ⟨u, hu, hl⟩ := List.mem_flatMap.1 hl
     exact elem_short (nw _ (List.mem_map_of_mem hu)) (fun f hf => ⟨goodW h hu hf, smallW h hu hf⟩) l hl
 · obtain ⟨u, hu, hl⟩ := List.mem_flatMap.1 hl
   exact elem_short (nt _ (List.mem_map_of_mem hu)) (fun f hf => ⟨goodT h hu hf, smallT h hu hf⟩) l hl
theorem flat_len {α β : Type} {f : α → List β} {k : Nat} (h : ∀ x, (f x).length = k) (l : List α) : (l.flatMap f).length = l.length * k := by
 induction l with
 | nil => simp
 | cons a l ih => rw [List.flatMap_cons, List.length_append, ih, h, List.length_cons, Nat.succ_mul, Nat.add_comm]
theorem elem_len (k : Int) (nm : ByteArray) (val : ByteArray → V10) : (elemL k nm val).length = (fieldsv k).length + 1 := by unfold elemL; rw [List.length_cons, List.length_map]
theorem rules_len {r : R9} (h : valv r = 0) : (joinT (rulesL r)).length ≤ 32768 := by
 obtain ⟨h1, -⟩ := val_zero h
 unfold limv at h1
 simp only [Bool.and_eq_true, decide_eq_true_eq] at h1
 obtain ⟨⟨⟨⟨a1, a2⟩, a3⟩, -⟩, -⟩ := h1
 have hj := join_len (rulesL r) 64 fun l hl => (rules_short h l hl).1
 have e1 : (fieldsv 1).length = 18 := by rw [fieldsU]; rfl
 have e2 : (fieldsv 2).length = 5 := by rw [fieldsW]; rfl
 have e3 : (fieldsv 3).length = 7 := by rw [fieldsT]; rfl
 have hc : (rulesL r).length = r.us.length * 19 + r.ws.length * 6 + r.ts.length * 8 := by
  unfold rulesL
  rw [List.length_append, List.length_append, flat_len (k := 19) (fun u => by rw [elem_len, e1]), flat_len (k := 6) (fun u => by rw [elem_len, e2]), flat_len (k := 8) (fun u => by rw [elem_len, e3])]
 omega
end
section
open Go.RowKit Go.Lib
theorem rt_size (s : ByteArray) : s.data.toList.length = s.size := (Lib.size_eq s).symm
end
section
open Go.RowKit Go.Lib
def szL (l : List ByteArray) : Nat := l.length + (l.map ByteArray.size).sum
def ShR (N : Nat) (r : R9) : Prop := (∀ u ∈ r.us, u.wpn.size ≤ N ∧ szL u.needs ≤ N ∧ szL u.trains ≤ N ∧ szL u.ress ≤ N) ∧ ∀ t ∈ r.ts, t.un.size ≤ N ∧ szL t.needs ≤ N
def FewL (N : Nat) (r : R9) : Prop := (∀ u ∈ r.us, u.needs.length ≤ N ∧ u.trains.length ≤ N ∧ u.ress.length ≤ N) ∧ ∀ t ∈ r.ts, t.needs.length ≤ N
def OkU (u : U9) : Prop := int64v u.cls ∧ int64v u.w ∧ int64v u.h ∧ int64v u.rad ∧ int64v u.spd ∧ int64v u.sgt ∧ int64v u.hp ∧ int64v u.arm ∧ int64v u.load ∧ int64v u.ore ∧ int64v u.wood ∧ int64v u.time
def OkW (u : W9) : Prop := int64v u.rng ∧ int64v u.dmg ∧ int64v u.cool ∧ int64v u.spd ∧ int64v u.spl
def OkT (u : T9) : Prop := int64v u.ore ∧ int64v u.wood ∧ int64v u.time ∧ int64v u.stat ∧ int64v u.amt
def OkR (r : R9) : Prop := (∀ u ∈ r.us, OkU u) ∧ (∀ u ∈ r.ws, OkW u) ∧ ∀ u ∈ r.ts, OkT u
theorem szL_cons (a : ByteArray) (l : List ByteArray) : szL (a :: l) = 1 + a.size + szL l := by unfold szL; rw [List.map_cons, List.sum_cons, List.length_cons]; omega
theorem ShR.few {r : R9} {N : Nat} (h : ShR N r) : FewL N r := ⟨fun u hu => by
 obtain ⟨_, a, b, c⟩ := h.1 u hu
 unfold szL at a b c
 omega, fun t ht => by
 obtain ⟨_, a⟩ := h.2 t ht
 unfold szL at a
 omega⟩
theorem ShR.few2 {r : R9} (h : ShR 1000 r) : FewL 100000 r := ⟨fun u hu => by
 obtain ⟨a, b, c⟩ := h.few.1 u hu
 omega, fun t ht => Nat.le_trans (h.few.2 t ht) (by decide)⟩
theorem ite_all {α : Type} {P : α → Prop} {c : Prop} [Decidable c] {a b : α} (h1 : P a) (h2 : P b) : P (if c then a else b) := by split <;> assumption
theorem ok_intU {u : U9} (h : OkU u) (f : ByteArray) : int64v (ofUv u f).n := by
 obtain ⟨a1, a2, a3, a4, a5, a6, a7, a8, a9, a10, a11, a12⟩ := h
 have z : int64v 0 := by unfold int64v; omega
 unfold ofUv
 repeat' (refine ite_all (P := fun v : V10 => int64v v.n) ?_ ?_)
 all_goals first | assumption | exact z
theorem ok_intW {u : W9} (h : OkW u) (f : ByteArray) : int64v (ofWv u f).n := by
 obtain ⟨a1, a2, a3, a4, a5⟩ := h
 have z : int64v 0 := by unfold int64v; omega
 unfold ofWv
 repeat' (refine ite_all (P := fun v : V10 => int64v v.n) ?_ ?_)
 all_goals first | assumption | exact z
theorem ok_intT {u : T9} (h : OkT u) (f : ByteArray) : int64v (ofTv u f).n := by
 obtain ⟨a1, a2, a3, a4, a5⟩ := h
 have z : int64v 0 := by unfold int64v; omega
 unfold ofTv
 repeat' (refine ite_all (P := fun v : V10 => int64v v.n) ?_ ?_)
 all_goals first | assumption | exact z
theorem getD_in9 {α : Type} {l : List α} {i : Nat} {d : α} (h : i < l.length) : l.getD i d ∈ l := by
 rw [List.getD_eq_getElem?_getD, List.getElem?_eq_getElem h]
 exact List.getElem_mem h
theorem ok_ints {r : R9} (h : OkR r) (k : Int) (i : Nat) (f : ByteArray) (hf : f ∈ fieldsv k) (hi : i < (namesK r k).length) : int64v (valueK r k i f).n := by
 obtain ⟨n1, n2, n3⟩ := names_len r
 rcases kind_of hf with rfl | rfl | rfl
 · rw [n1] at hi
   exact ok_intU (h.1 _ (getD_in9 hi)) f
 · rw [n2] at hi
   exact ok_intW (h.2.1 _ (getD_in9 hi)) f
 · rw [n3] at hi
   exact ok_intT (h.2.2 _ (getD_in9 hi)) f
theorem dec_len20 {n : Int} (h : int64v n) : (decv n).length ≤ 21 := by
 unfold int64v at h
 unfold decv
 split
 · have := dec_len 19 n.natAbs (by rw [show (10 : Nat) ^ (19 + 1) = 100000000000000000000 from rfl]; omega)
   rw [List.length_cons]
   omega
 · have := dec_len 19 n.toNat (by rw [show (10 : Nat) ^ (19 + 1) = 100000000000000000000 from rfl]; omega)
   omega
theorem joinC_le : ∀ l : List ByteArray, (joinC l).length ≤ szL l
 | [] => by simp [joinC]
 | [a] => by
  rw [szL_cons]
  show a.toList.length ≤ _
  rw [Lib.toList_data, rt_size]
  omega
 | a :: b :: l => by
  have := joinC_le (b :: l)
  rw [szL_cons]
  show (a.toList ++ 44 :: joinC (b :: l)).length ≤ _
  rw [List.length_append, List.length_cons, Lib.toList_data, rt_size]
  omega
theorem text_le {t : Int} {v : V10} {N : Nat} (h : int64v v.n) (hs : v.s.size ≤ N) (hl : szL v.l ≤ N) : (textL t v).length ≤ N + 30 := by
 have h1 := dec_len20 h
 have h2 := joinC_le v.l
 have h3 : v.s.toList.length = v.s.size := by rw [Lib.toList_data, rt_size]
 unfold textL yesB noB dashB
 repeat' split
 all_goals first | (simp only [List.length_cons, List.length_nil]; omega) | omega
theorem ofU_small {u : U9} {N : Nat} (h : u.wpn.size ≤ N ∧ szL u.needs ≤ N ∧ szL u.trains ≤ N ∧ szL u.ress ≤ N) (f : ByteArray) : (ofUv u f).s.size ≤ N ∧ szL (ofUv u f).l ≤ N := by
 obtain ⟨a, b, c, d⟩ := h
 have z1 : (⟨#[]⟩ : ByteArray).size ≤ N := Nat.zero_le _
 have z2 : szL [] ≤ N := Nat.zero_le _
 unfold ofUv
 repeat' (refine ite_all (P := fun v : V10 => v.s.size ≤ N ∧ szL v.l ≤ N) ?_ ?_)
 all_goals (constructor <;> first | assumption | exact z1 | exact z2)
theorem ofW_small (u : W9) (N : Nat) (f : ByteArray) : (ofWv u f).s.size ≤ N ∧ szL (ofWv u f).l ≤ N := by
 have z1 : (⟨#[]⟩ : ByteArray).size ≤ N := Nat.zero_le _
 have z2 : szL [] ≤ N := Nat.zero_le _
 unfold ofWv
 repeat' (refine ite_all (P := fun v : V10 => v.s.size ≤ N ∧ szL v.l ≤ N) ?_ ?_)
 all_goals (constructor <;> first | assumption | exact z1 | exact z2)
theorem ofT_small {u : T9} {N : Nat} (h : u.un.size ≤ N ∧ szL u.needs ≤ N) (f : ByteArray) : (ofTv u f).s.size ≤ N ∧ szL (ofTv u f).l ≤ N := by
 obtain ⟨a, b⟩ := h
 have z1 : (⟨#[]⟩ : ByteArray).size ≤ N := Nat.zero_le _
 have z2 : szL [] ≤ N := Nat.zero_le _
 unfold ofTv
 repeat' (refine ite_all (P := fun v : V10 => v.s.size ≤ N ∧ szL v.l ≤ N) ?_ ?_)
 all_goals (constructor <;> first | assumption | exact z1 | exact z2)
theorem sh_short {r : R9} {N : Nat} (hI : OkR r) (h : ShR N r) (k : Int) (i : Nat) (f : ByteArray) (hf : f ∈ fieldsv k) (hi : i < (namesK r k).length) : (textL (typev k f) (valueK r k i f)).length ≤ N + 30 := by
 have h0 := ok_ints hI k i f hf hi
 obtain ⟨n1, n2, n3⟩ := names_len r
 rcases kind_of hf with rfl | rfl | rfl
 · rw [n1] at hi
   have := ofU_small (h.1 _ (getD_in9 (d := U9.zero) hi)) f
   exact text_le h0 this.1 this.2
 · rw [n2] at hi
   have := ofW_small (r.ws.getD i W9.zero) N f
   exact text_le h0 this.1 this.2
 · rw [n3] at hi
   have := ofT_small (h.2 _ (getD_in9 (d := T9.zero) hi)) f
   exact text_le h0 this.1 this.2
end
section
open Go.RowKit Go.Lib
theorem ret_int {k : IntKind} {a b : Int} (h : a = b) : Ending.returned (.int k a) = .returned (.int k b) := by rw [h]
end
section
open Go.RowKit
def Blk (w : World) (b : Nat) (vs : List Value) (t : TypeId) : Prop := w.heap[b]? = some (.cells vs.toArray t (0, 0))
section
variable {w w' : World} {b : Nat} {vs : List Value} {t : TypeId}
theorem Blk.lt (h : Blk w b vs t) : b < w.heap.size := by
 unfold Blk at h
 exact (Array.getElem?_eq_some_iff.1 h).1
theorem Blk.cell (h : Blk w b vs t) (i : Nat) : w.cell? ⟨b, i, none⟩ = vs[i]? := by
 unfold Blk at h
 simp [World.cell?, h]
theorem Blk.frozen (h : Blk w b vs t) (i : Nat) : w.frozen? ⟨b, i, none⟩ = false := by
 unfold Blk at h
 simp [World.frozen?, h]
theorem Blk.below (h : Blk w b vs t) (hb : Below w.heap.size w w') : Blk w' b vs t := by
 unfold Blk
 rw [hb.block b h.lt]
 exact h
theorem Blk.under {B : Nat} (h : Blk w b vs t) (hb : Below B w w') (lt : b < B) : Blk w' b vs t := by
 unfold Blk
 rw [hb.block b lt]
 exact h
theorem Blk.new (w : World) (vs : List Value) (t : TypeId) : Blk (w.alloc (.cells vs.toArray t)) w.heap.size vs t := by
 show (w.heap.push _)[w.heap.size]? = _
 simp
theorem Blk.alloc (h : Blk w b vs t) (o : Obj) : Blk (w.alloc o) b vs t := by
 have := h.lt
 show (w.heap.push o)[b]? = _
 rw [Array.getElem?_push_lt this]
 exact (Array.getElem?_eq_some_iff.1 h).2 ▸ rfl
theorem Blk.drew (h : Blk w b vs t) : Blk w.drew b vs t := h
theorem Blk.set (h : Blk w b vs t) (i : Nat) (x : Value) : Blk (w.setCell ⟨b, i, none⟩ x) b (vs.set i x) t := by
 have := heap_setCell_same w b i _ _ x h
 unfold Blk
 rw [this]
 simp
theorem Blk.other (h : Blk w b vs t) (a : Addr) (x : Value) (ne : b ≠ a.block) : Blk (w.setCell a x) b vs t := by
 unfold Blk at *
 rw [Below.heap_setCell w a x b ne]
 exact h
theorem Blk.far (h : Blk w b vs t) {c i : Nat} (x : Value) (ne : b ≠ c) : Blk (w.setCell ⟨c, i, none⟩ x) b vs t := h.other _ x ne
theorem Blk.at (h : Blk w b vs t) {c : Nat} (e : b = c) : Blk w c vs t := e ▸ h
end
theorem Blk.one {w : World} {b : Nat} {p : Value} {t : TypeId} (h : Blk w b [p] t) :
 w.cell? ⟨b, 0, none⟩ = some p ∧ w.frozen? ⟨b, 0, none⟩ = false := ⟨h.cell 0, h.frozen 0⟩
theorem Blk.two {w : World} {b : Nat} {p q : Value} {t : TypeId} (h : Blk w b [p, q] t) :
 w.cell? ⟨b, 0, none⟩ = some p ∧ w.cell? ⟨b, 1, none⟩ = some q ∧ w.frozen? ⟨b, 0, none⟩ = false ∧ w.frozen? ⟨b, 1, none⟩ = false :=
 ⟨h.cell 0, h.cell 1, h.frozen 0, h.frozen 1⟩
theorem Blk.three {w : World} {b : Nat} {p q r : Value} {t : TypeId} (h : Blk w b [p, q, r] t) :
 w.cell? ⟨b, 0, none⟩ = some p ∧ w.cell? ⟨b, 1, none⟩ = some q ∧ w.cell? ⟨b, 2, none⟩ = some r ∧ w.frozen? ⟨b, 0, none⟩ = false ∧ w.frozen? ⟨b, 1, none⟩ = false ∧ w.frozen? ⟨b, 2, none⟩ = false :=
 ⟨h.cell 0, h.cell 1, h.cell 2, h.frozen 0, h.frozen 1, h.frozen 2⟩
def I64 (n : Int) : Prop := -9223372036854775808 ≤ n ∧ n ≤ 9223372036854775807
theorem below_call {w W w1 : World} (h : Below w.heap.size w W) (hb : Below W.heap.size W w1) : Below w.heap.size w w1 := h.trans (hb.mono h.size)
theorem below_many {B : Nat} {w W : World} (h : Below B w W) (n : Nat) : Below B w (W.drewN n) := by
 induction n with
 | zero => exact h
 | succ n ih => exact ih.drew
theorem ret_bit {a b : Bool} (h : a = b) : Ending.returned (.bool a) = .returned (.bool b) := by rw [h]
theorem Blk.grown {w w' : World} {b : Nat} {vs : List Value} {t : TypeId} {row : Option Nat} (h : Blk w b vs t) (hg : w.grownBy w' row) (ne : ∀ k, row = some k → b ≠ k) : Blk w' b vs t := by
 unfold Blk
 rw [hg.block b h.lt (fun e => ne b e.symm rfl)]
 exact h
theorem own_base {w : World} {B C : Nat} {e : TypeId} {k : Nat} {v : Value} {n : Nat} {xs : List Value} (h : w.ownsRow B e k v n xs) (hc : C ≤ B) : w.ownsRow C e k v n xs := by
 refine ⟨h.1, ?_⟩
 rcases h.2 with hn | ⟨g, cap, cur, rfl, hb, rest⟩
 · exact .inl hn
 · exact .inr ⟨g, cap, cur, rfl, Nat.le_trans hc hb, rest⟩
theorem own_to {w : World} {B : Nat} {e : TypeId} {k : Nat} {v : Value} {n m : Nat} {xs ys : List Value} (h : w.ownsRow B e k v n xs) (hn : n = m) (hx : xs = ys) : w.ownsRow B e k v m ys := by subst hn; subst hx; exact h
theorem own_not {w : World} {B : Nat} {e : TypeId} {k : Nat} {v : Value} {n : Nat} {xs : List Value} (h : w.ownsRow B e k v n xs) {b : Nat} (lt : b < B) : ∀ j, v.ownBlock = some j → b ≠ j := fun j hj => by
 have := (h.lt j hj).1
 omega
theorem own_below {w w' : World} {B : Nat} {e : TypeId} {k : Nat} {v : Value} {n : Nat} {xs : List Value} (h : w.ownsRow B e k v n xs) (hb : Below w.heap.size w w') : w'.ownsRow B e k v n xs := by
 refine ⟨h.1, ?_⟩
 rcases h.2 with hn | ⟨g, cap, cur, rfl, hB, hgg, rest⟩
 · exact .inl hn
 · refine .inr ⟨g, cap, cur, rfl, hB, ?_, rest⟩
   rw [hb.block g (Array.getElem?_eq_some_iff.1 hgg).1]
   exact hgg
theorem cells_new {w : World} {vs : List Value} {t : TypeId} : ∀ j u, vs[j]? = some u → (w.alloc (.cells vs.toArray t)).cell? ((⟨w.heap.size, 0, none⟩ : Addr).add j) = some u := by
 intro j u hj
 have hadd : (⟨w.heap.size, 0, none⟩ : Addr).add j = ⟨w.heap.size, j, none⟩ := by unfold Addr.add; split <;> simp_all
 rw [hadd, (Blk.new w vs t).cell j]
 exact hj
theorem below_push {w0 wr w1 : World} {B C k n : Nat} {v : Value} {xs : List Value} {t : TypeId} {o : Obj} (hB : B ≤ wr.heap.size) (hb : Below B w0 wr) (hown : wr.ownsRow C t k v n xs) (hC : B ≤ C) (hg : (wr.alloc o).grownBy w1 v.ownBlock) : Below B w0 w1 :=
 (hb.alloc hB o).grown hg (by have := hB; simp; omega) (fun k hk => Nat.le_trans hC (hown.lt k hk).1)
end
section
open Go.RowKit
section
variable {P : Program} {W w w' : World} {b c : Nat} {us vs xs : List Value} {t s : TypeId}
theorem setRow_other (W : World) (b : Nat) (x : Array Value) {k : Nat} (ne : k ≠ b) : (W.setRow b x).heap[k]? = W.heap[k]? := by
 unfold World.setRow
 simp only [Array.getElem?_modify]
 rw [if_neg (fun e => ne e.symm)]
theorem setRow_size (W : World) (b : Nat) (x : Array Value) : (W.setRow b x).heap.size = W.heap.size := by
 unfold World.setRow
 exact Array.size_modify
theorem Blk.put (h : Blk W b us t) (vs : List Value) : Blk (W.setRow b vs.toArray) b vs t := setRow_heap W b _ _ _ _ h
theorem Blk.putFar (h : Blk W c us t) (x : Array Value) (ne : c ≠ b) : Blk (W.setRow b x) c us t := by
 unfold Blk at *
 rw [setRow_other W b x ne]
 exact h
theorem below_setRow {B : Nat} (h : Below B w W) (hb : B ≤ b) (x : Array Value) : Below B w (W.setRow b x) :=
 ⟨h.os, h.tape, h.output, by rw [setRow_size]; exact h.size, fun k hk => (setRow_other W b x (by omega)).trans (h.block k hk)⟩
theorem add_off (b n j : Nat) : (⟨b, n, none⟩ : Addr).add j = ⟨b, n + j, none⟩ := by unfold Addr.add; split <;> simp_all
theorem Blk.stores (h : Blk W b us t) (hl : vs.length = us.length) (h1 : ∀ v ∈ vs, v.oneCell' = true) :
 Sem.run P (storeCells ⟨b, 0, none⟩ vs 0) W = .ok () (W.setRow b vs.toArray) := by
 have := run_storeCells_from (P := P) b t vs 0 us.toArray W h (by simp [hl]) h1
 simpa using this
theorem Blk.loads (h : Blk W b us t) {k : Nat} (hl : us.length = k) : Sem.run P (loadCellsFrom ⟨b, 0, none⟩ 0 k #[]) W = .ok us.toArray W :=
 run_loadCellsFrom_list P W _ us k hl (fun j v hj => by rw [add_off, Nat.zero_add, h.cell j]; exact hj)
end
section
variable {P : Program} {rest : List Oper} {ops : Array Oper} {o : Oper} {a : Act} {w : World} {Q : Exit → Act → World → Prop}
theorem wpList_load_agg (hg : o.guard = none) (t : TypeId) (p : Operand) (ho : o.op = .load t p) (ad : Addr) (hp : a.eval p = .pointer (some ad)) {k : Nat} (agg : ∀ w, (isAgg t).run P w = .ok true w) (sz : ∀ w, (Go.sizeOf t).run P w = .ok k w) (vs : List Value)
 (hl : Sem.run P (loadCellsFrom ad 0 k #[]) w = .ok vs.toArray w) (h : wpList P ops Q rest (a.put o.dst (.agg vs.toArray)) w) : wpList P ops Q (o :: rest) a w :=
 wpList_plain hg fun K hK => by
  unfold Oper.wp execOp
  simp only [ho, Instr.loadAt, hp, Instr.sureAddr, loadVar, loadCells, Sem.run_bind, Sem.run_pure, Result.andThen_ok, agg, sz, hl, if_true]
  exact hK _ _ h
theorem wpList_load_agg' (t : TypeId) (p : Operand) (ho : o.op = .load t p) (hw : Region.wanted o (yielded ops a.tmps) = true) (ad : Addr) (hp : a.eval p = .pointer (some ad)) {k : Nat} (agg : ∀ w, (isAgg t).run P w = .ok true w) (sz : ∀ w, (Go.sizeOf t).run P w = .ok k w) (vs : List Value)
 (hl : Sem.run P (loadCellsFrom ad 0 k #[]) w = .ok vs.toArray w) (h : wpList P ops Q rest (a.put o.dst (.agg vs.toArray)) w) : wpList P ops Q (o :: rest) a w :=
 wpList_step fun K hK => by
  rw [if_pos hw]
  unfold Oper.wp execOp
  simp only [ho, Instr.loadAt, hp, Instr.sureAddr, loadVar, loadCells, Sem.run_bind, Sem.run_pure, Result.andThen_ok, agg, sz, hl, if_true]
  exact hK _ _ h
theorem wpList_store_agg (hg : o.guard = none) (t : TypeId) (p x : Operand) (ho : o.op = .store t p x) (hd : o.dst = none) (b : Nat) (hp : a.eval p = .pointer (some ⟨b, 0, none⟩)) {k : Nat} (sz : ∀ w, (Go.sizeOf t).run P w = .ok k w) (vs : List Value) (hx : a.eval x = .agg vs.toArray) (hk : vs.length = k)
 {us : List Value} {s : TypeId} (hB : Blk w b us s) (hl : us.length = k) (h1 : ∀ v ∈ vs, v.oneCell' = true) (h : wpList P ops Q rest a (w.setRow b vs.toArray)) : wpList P ops Q (o :: rest) a w :=
 wpList_plain hg fun K hK => by
  have hst := hB.stores (P := P) (hk.trans hl.symm) h1
  unfold Oper.wp execOp
  simp only [ho, Instr.storeAt, hp, hx, Instr.sureAddr, storeVar, Value.cells, Sem.run_bind, Sem.run_pure, Result.andThen_ok, sz]
  simp [hk, hst, Result.andThen]
  refine hK _ _ ?_
  rw [hd]
  exact h
theorem wpList_alloc_agg (hg : o.guard = none) (t : TypeId) (ho : o.op = .alloc t) (d : Option Tmp) (hd : o.dst = d) (zs : List Value) (hz : ∀ w, (zeroValue t).run P w = .ok (.agg zs.toArray) w)
 (h : wpList P ops Q rest (a.put d (.pointer (some ⟨w.heap.size, 0, none⟩))) (w.alloc (.cells zs.toArray t))) : wpList P ops Q (o :: rest) a w :=
 wpList_plain hg fun K hK => by
  subst hd
  unfold Oper.wp execOp
  simp only [ho, Instr.alloc, newVar, newRow, Value.cells, Sem.run_bind, Sem.run_pure, Result.andThen_ok, hz]
  simp only [run_newObj, Result.andThen_ok]
  exact hK _ _ h
end
section
variable {P : Program} {rest : List Oper} {ops : Array Oper} {o : Oper} {a : Act} {w : World} {Q : Exit → Act → World → Prop}
theorem alloc_setRow (w : World) (us vs : List Value) (t : TypeId) : (w.alloc (.cells us.toArray t)).setRow w.heap.size vs.toArray = w.alloc (.cells vs.toArray t) := by
 unfold World.setRow World.alloc
 congr 1
 apply Array.ext
 · simp
 · intro k h1 h2
   simp only [Array.getElem_modify]
   by_cases e : w.heap.size = k
   · subst e
     simp
   · simp only [if_neg e]
     simp only [Array.size_push] at h2
     rw [Array.getElem_push_lt (show k < w.heap.size by omega), Array.getElem_push_lt (show k < w.heap.size by omega)]
theorem wpList_store_new (hg : o.guard = none) (t : TypeId) (p x : Operand) (ho : o.op = .store t p x) (hd : o.dst = none) {k : Nat} (sz : ∀ w, (Go.sizeOf t).run P w = .ok k w) (vs us : List Value) (s : TypeId) (hp : a.eval p = .pointer (some ⟨w.heap.size, 0, none⟩)) (hx : a.eval x = .agg vs.toArray) (hk : vs.length = k)
 (hl : us.length = k) (h1 : ∀ v ∈ vs, v.oneCell' = true) (h : wpList P ops Q rest a (w.alloc (.cells vs.toArray s))) : wpList P ops Q (o :: rest) a (w.alloc (.cells us.toArray s)) :=
 wpList_store_agg hg t p x ho hd w.heap.size hp sz vs hx hk (Blk.new w us s) hl h1 (by rw [alloc_setRow]; exact h)
theorem wpList_zero_agg (hg : o.guard = none) (t : TypeId) (ho : o.op = .build t #[]) (zs : List Value) (hz : ∀ w, Sem.run P (Instr.build t #[]) w = .ok (.agg zs.toArray) w)
 (h : wpList P ops Q rest (a.put o.dst (.agg zs.toArray)) w) : wpList P ops Q (o :: rest) a w :=
 wpList_plain hg fun K hK => by
  unfold Oper.wp execOp
  simp only [ho, Array.map_empty, Sem.run_bind, Sem.run_pure, Result.andThen_ok, hz]
  exact hK _ _ h
end
section
variable {P : Program} {w : World} {fn : Func} {tmps : Array Value}
theorem results_agg_two {c j : Nat} {t : TypeId} (hf : fn.results = #[.cell c t, .tmp j]) {b : Nat} (hp : tmps.getD c undef = .pointer (some ⟨b, 0, none⟩)) {x : Value} (hx : tmps.getD j undef = x) {k : Nat} (agg : ∀ w, (isAgg t).run P w = .ok true w) (sz : ∀ w, (Go.sizeOf t).run P w = .ok k w)
 {vs : List Value} {s : TypeId} (hB : Blk w b vs s) (hl : vs.length = k) : (results fn tmps).run P w = .ok (.tuple #[.agg vs.toArray, x]) w := by
 unfold results
 rw [hf]
 rw [Array.getD_eq_getD_getElem?] at hp hx
 simp [hp, hx, asAddr, loadVar, loadCells, agg, sz, hB.loads (P := P) hl, Result.andThen]
theorem results_agg_one {c : Nat} {t : TypeId} (hf : fn.results = #[.cell c t]) {b : Nat} (hp : tmps.getD c undef = .pointer (some ⟨b, 0, none⟩)) {k : Nat} (agg : ∀ w, (isAgg t).run P w = .ok true w) (sz : ∀ w, (Go.sizeOf t).run P w = .ok k w)
 {vs : List Value} {s : TypeId} (hB : Blk w b vs s) (hl : vs.length = k) : (results fn tmps).run P w = .ok (.agg vs.toArray) w := by
 unfold results
 rw [hf]
 rw [Array.getD_eq_getD_getElem?] at hp
 simp [hp, asAddr, loadVar, loadCells, agg, sz, hB.loads (P := P) hl, Result.andThen]
end
end
section
section
open Go.RowKit Go.Lib
def StrSl (W : World) (v : Value) (l : List ByteArray) : Prop :=
 ∃ p c, v = .slice p l.length c ∧ l.length ≤ maxLen ∧ (1 ≤ l.length → ∃ g o, p = some ⟨g, o, none⟩ ∧ ∀ i, (h : i < l.length) → W.cell? ⟨g, o + i, none⟩ = some (.string (l[i]'h)))
theorem StrSl.below {W w' : World} {v : Value} {l : List ByteArray} (h : StrSl W v l) (hb : Below W.heap.size W w') : StrSl w' v l := by
 obtain ⟨p, c, rfl, hm, hc⟩ := h
 refine ⟨p, c, rfl, hm, fun h1 => ?_⟩
 obtain ⟨g, o, rfl, hi⟩ := hc h1
 exact ⟨g, o, rfl, fun i hi' => (hb.cell (p := ⟨g, o + i, none⟩) (World.block_lt_of_cell? W _ (hi i hi'))).trans (hi i hi')⟩
end
section
open Go.RowKit Go.Lib
theorem take_nx {s : ByteArray} {k : Nat} (hk : k < s.size) : s.data.toList.take (k + 1) = s.data.toList.take k ++ [s[k]'hk] := by
 have h : k < s.data.toList.length := by rw [← Lib.size_eq]; exact hk
 exact List.take_succ_eq_append_getElem h
end
section
open Go.RowKit Go.Lib
def uCells (u : U9) (sn st sr : Value) : List Value := [.string u.nm, .bool u.bld, .bool u.dep, .int .i64 u.cls, .int .i64 u.w, .int .i64 u.h, .int .i64 u.rad, .int .i64 u.spd, .int .i64 u.sgt, .int .i64 u.hp, .int .i64 u.arm, .int .i64 u.load, .string u.wpn, .int .i64 u.ore, .int .i64 u.wood, .int .i64 u.time, sn, st, sr]
end
section
open Go.RowKit Go.Lib
def CellsAt (W : World) (g o : Nat) (vs : List Value) : Prop := ∀ i v, vs[i]? = some v → W.cell? ⟨g, o + i, none⟩ = some v
theorem CellsAt.lt {W : World} {g o : Nat} {v : Value} {vs : List Value} (h : CellsAt W g o (v :: vs)) : g < W.heap.size := World.block_lt_of_cell? W _ (h 0 v rfl)
def wCells (w : W9) : List Value := [.string w.nm, .int .i64 w.rng, .int .i64 w.dmg, .int .i64 w.cool, .int .i64 w.spd, .int .i64 w.spl]
def tCells (t : T9) (sn : Value) : List Value := [.string t.nm, sn, .int .i64 t.ore, .int .i64 t.wood, .int .i64 t.time, .string t.un, .int .i64 t.stat, .int .i64 t.amt]
def UAt (W : World) (g o : Nat) (u : U9) : Prop := ∃ sn st sr, CellsAt W g o (uCells u sn st sr) ∧ StrSl W sn u.needs ∧ StrSl W st u.trains ∧ StrSl W sr u.ress
def WAt (W : World) (g o : Nat) (w : W9) : Prop := CellsAt W g o (wCells w)
def TAt (W : World) (g o : Nat) (t : T9) : Prop := ∃ sn, CellsAt W g o (tCells t sn) ∧ StrSl W sn t.needs
def SlAt {α : Type} (at_ : World → Nat → Nat → α → Prop) (k : Nat) (W : World) (v : Value) (l : List α) : Prop :=
 ∃ p c, v = .slice p l.length c ∧ l.length ≤ maxLen ∧ (1 ≤ l.length → ∃ g o, p = some ⟨g, o, none⟩ ∧ ∀ i, (h : i < l.length) → at_ W g (o + i * k) (l[i]'h))
structure RAt (W : World) (su sw st : Value) (r : R9) : Prop where
 u : SlAt UAt 19 W su r.us
 w : SlAt WAt 6 W sw r.ws
 t : SlAt TAt 8 W st r.ts
end
section
open Go.RowKit Go.Lib
theorem str_lone9 (x : ByteArray) : ∀ u ∈ ([.string x] : List Value), u.oneCell' = true := by
 intro u hu; simp at hu; rw [hu]; rfl
theorem infoStr9 : (Tryz.prog.info? 9).map (fun i => (i.zero, i.size, i.bytes)) = some (some (.string ⟨#[]⟩), 1, 16) := by kernel_rfl
theorem info_cut9 {o : Option TypeInfo} {z : Option Value} {a b : Nat} (h : o.map (fun i => (i.zero, i.size, i.bytes)) = some (z, a, b)) : ∃ i, o = some i ∧ i.zero = z ∧ i.size = a ∧ i.bytes = b := by
 cases o with
 | none => cases h
 | some i => exact ⟨i, rfl, by injection h with h; injection h, by injection h with h; injection h with _ h; injection h, by injection h with h; injection h with _ h; injection h⟩
def strs (l : List ByteArray) : List Value := l.map Value.string
theorem strs_snoc (l : List ByteArray) (x : ByteArray) : strs l ++ [.string x] = strs (l ++ [x]) := by unfold strs; rw [List.map_append]; rfl
theorem map_take {α : Type} {f : α → ByteArray} {l : List α} {i : Nat} (hi : i < l.length) : (l.map f).take (i + 1) = (l.map f).take i ++ [f (l[i]'hi)] := by
 rw [List.take_succ_eq_append_getElem (by rw [List.length_map]; exact hi), List.getElem_map]
end
section
open Go.RowKit Go.Lib
section
variable {P : Program} {W : World} {us : List Value}
theorem CellsAt.lt' {g o : Nat} {v : Value} (h : CellsAt W g o us) (e : us[0]? = some v) : g < W.heap.size := World.block_lt_of_cell? W _ (h 0 v e)
theorem CellsAt.below' {w' : World} {g o : Nat} (h : CellsAt W g o us) (hg : g < W.heap.size) (hb : Below W.heap.size W w') : CellsAt w' g o us := fun i x e => (hb.cell (p := ⟨g, o + i, none⟩) hg).trans (h i x e)
theorem CellsAt.loads {g o : Nat} (h : CellsAt W g o us) {k : Nat} (hl : us.length = k) : Sem.run P (loadCellsFrom ⟨g, o, none⟩ 0 k #[]) W = .ok us.toArray W :=
 run_loadCellsFrom_list P W _ us k hl (fun j v hj => by
  have hadd : (⟨g, o, none⟩ : Addr).add j = ⟨g, o + j, none⟩ := by unfold Addr.add; split <;> simp_all
  rw [hadd]; exact h j v hj)
end
def UL (W : World) (vs : List Value) (u : U9) : Prop := ∃ sn st sr, vs = uCells u sn st sr ∧ StrSl W sn u.needs ∧ StrSl W st u.trains ∧ StrSl W sr u.ress
def TL (W : World) (vs : List Value) (t : T9) : Prop := ∃ sn, vs = tCells t sn ∧ StrSl W sn t.needs
def WL (vs : List Value) (w : W9) : Prop := vs = wCells w
theorem UL.len {W : World} {vs : List Value} {u : U9} (h : UL W vs u) : vs.length = 19 := by obtain ⟨sn, st, sr, rfl, -⟩ := h; rfl
theorem TL.len {W : World} {vs : List Value} {u : T9} (h : TL W vs u) : vs.length = 8 := by obtain ⟨sn, rfl, -⟩ := h; rfl
theorem WL.len {vs : List Value} {u : W9} (h : WL vs u) : vs.length = 6 := by subst h; rfl
theorem StrSl.lone {W : World} {v : Value} {l : List ByteArray} (h : StrSl W v l) : v.oneCell' = true := by obtain ⟨p, c, rfl, -⟩ := h; rfl
theorem UL.lone {W : World} {vs : List Value} {u : U9} (h : UL W vs u) : ∀ v ∈ vs, v.oneCell' = true := by
 obtain ⟨sn, st, sr, rfl, h1, h2, h3⟩ := h
 intro v hv
 simp only [uCells, List.mem_cons, List.not_mem_nil, or_false] at hv
 rcases hv with rfl | rfl | rfl | rfl | rfl | rfl | rfl | rfl | rfl | rfl | rfl | rfl | rfl | rfl | rfl | rfl | rfl | rfl | rfl <;> first | rfl | exact h1.lone | exact h2.lone | exact h3.lone
theorem TL.lone {W : World} {vs : List Value} {u : T9} (h : TL W vs u) : ∀ v ∈ vs, v.oneCell' = true := by
 obtain ⟨sn, rfl, h1⟩ := h
 intro v hv
 simp only [tCells, List.mem_cons, List.not_mem_nil, or_false] at hv
 rcases hv with rfl | rfl | rfl | rfl | rfl | rfl | rfl | rfl <;> first | rfl | exact h1.lone
theorem WL.lone {vs : List Value} {u : W9} (h : WL vs u) : ∀ v ∈ vs, v.oneCell' = true := by
 subst h
 intro v hv
 simp only [wCells, List.mem_cons, List.not_mem_nil, or_false] at hv
 rcases hv with rfl | rfl | rfl | rfl | rfl | rfl <;> rfl
theorem UAt.ul {W : World} {g o : Nat} {u : U9} (h : UAt W g o u) : ∃ vs, UL W vs u ∧ CellsAt W g o vs := by
 obtain ⟨sn, st, sr, h0, h1, h2, h3⟩ := h
 exact ⟨_, ⟨sn, st, sr, rfl, h1, h2, h3⟩, h0⟩
theorem TAt.tl {W : World} {g o : Nat} {u : T9} (h : TAt W g o u) : ∃ vs, TL W vs u ∧ CellsAt W g o vs := by
 obtain ⟨sn, h0, h1⟩ := h
 exact ⟨_, ⟨sn, rfl, h1⟩, h0⟩
theorem WAt.wl {W : World} {g o : Nat} {u : W9} (h : WAt W g o u) : ∃ vs, WL vs u ∧ CellsAt W g o vs := ⟨_, rfl, h⟩
theorem UL.name {W : World} {vs : List Value} {u : U9} (h : UL W vs u) : vs[0]? = some (.string u.nm) := by obtain ⟨sn, st, sr, rfl, -⟩ := h; rfl
theorem TL.name {W : World} {vs : List Value} {u : T9} (h : TL W vs u) : vs[0]? = some (.string u.nm) := by obtain ⟨sn, rfl, -⟩ := h; rfl
theorem WL.name {vs : List Value} {u : W9} (h : WL vs u) : vs[0]? = some (.string u.nm) := by subst h; rfl
theorem strSl_nil (W : World) : StrSl W (.slice none 0 0) [] := ⟨none, 0, rfl, by simp, fun h => absurd h (by simp)⟩
def uZero : List Value := uCells U9.zero (.slice none 0 0) (.slice none 0 0) (.slice none 0 0)
def tZero : List Value := tCells T9.zero (.slice none 0 0)
theorem zeroU : ∀ w, (zeroValue 53).run Tryz.prog w = .ok (.agg uZero.toArray) w := Tryz.zeroValue53
theorem zeroT : ∀ w, (zeroValue 56).run Tryz.prog w = .ok (.agg tZero.toArray) w := Tryz.zeroValue56
def wZero : List Value := wCells W9.zero
theorem zeroW : ∀ w, (zeroValue 51).run Tryz.prog w = .ok (.agg wZero.toArray) w := Tryz.zeroValue51
theorem buildU : ∀ w, Sem.run Tryz.prog (Instr.build 53 #[]) w = .ok (.agg uZero.toArray) w := fun w => by kernel_rfl
theorem uZero_ul (W : World) : UL W uZero U9.zero := ⟨_, _, _, rfl, strSl_nil W, strSl_nil W, strSl_nil W⟩
theorem UL.lists {W : World} {vs : List Value} {u : U9} (h : UL W vs u) : ∃ pn cn pt ct pr cr, vs = uCells u (.slice pn u.needs.length cn) (.slice pt u.trains.length ct) (.slice pr u.ress.length cr) ∧ StrSl W (.slice pn u.needs.length cn) u.needs ∧ StrSl W (.slice pt u.trains.length ct) u.trains ∧ StrSl W (.slice pr u.ress.length cr) u.ress := by
 obtain ⟨sn, st, sr, rfl, h1, h2, h3⟩ := h
 obtain ⟨pn, cn, rfl, -⟩ := id h1
 obtain ⟨pt, ct, rfl, -⟩ := id h2
 obtain ⟨pr, cr, rfl, -⟩ := id h3
 exact ⟨_, _, _, _, _, _, rfl, h1, h2, h3⟩
theorem TL.lists {W : World} {vs : List Value} {u : T9} (h : TL W vs u) : ∃ pn cn, vs = tCells u (.slice pn u.needs.length cn) ∧ StrSl W (.slice pn u.needs.length cn) u.needs := by
 obtain ⟨sn, rfl, h1⟩ := h
 obtain ⟨pn, cn, rfl, -⟩ := id h1
 exact ⟨_, _, rfl, h1⟩
theorem StrSl.small {W : World} {v : Value} {l : List ByteArray} (h : StrSl W v l) : l.length ≤ 9223372036854775807 := by
 obtain ⟨p, c, rfl, hm, -⟩ := h
 unfold maxLen at hm
 omega
theorem allp_take {α : Type} {f : α → Bool} {l : List α} {i : Nat} (hi : i < l.length) (h : (l.take i).all f = true) (hf : f (l[i]'hi) = true) : (l.take (i + 1)).all f = true := by
 rw [List.take_succ_eq_append_getElem hi, List.all_append, h, List.all_cons, hf, List.all_nil]
 rfl
theorem allp_no {α : Type} {f : α → Bool} {l : List α} {i : Nat} (hi : i < l.length) (hf : f (l[i]'hi) = false) : l.all f = false := by
 cases hq : l.all f with
 | false => rfl
 | true => rw [List.all_eq_true.1 hq _ (List.getElem_mem hi)] at hf; cases hf
theorem find_at {α : Type} {p : α → Bool} {l : List α} {i : Nat} (hi : i < l.length) (h : (l.take i).find? p = none) (hn : p (l[i]'hi) = true) : l.find? p = some (l[i]'hi) := by
 have e : l = l.take i ++ l[i]'hi :: l.drop (i + 1) := by rw [← List.drop_eq_getElem_cons hi, List.take_append_drop]
 have e3 := congrArg (List.find? p) e
 rw [List.find?_append, h] at e3
 simp only [Option.none_or, List.find?_cons, hn] at e3
 exact e3
end
section
open Go.RowKit Go.Lib
def RowV (W : World) (k : Nat) (v : Value) (n : Nat) (cs : Nat → List Value) : Prop :=
 ∃ p c, v = .slice p n c ∧ n ≤ maxLen ∧ (1 ≤ n → ∃ g o, p = some ⟨g, o, none⟩ ∧ g < W.heap.size ∧ ∀ i, i < n → CellsAt W g (o + i * k) (cs i) ∧ (cs i).length = k)
theorem RowV.below {W w' : World} {k n : Nat} {v : Value} {cs : Nat → List Value} (h : RowV W k v n cs) (hb : Below W.heap.size W w') : RowV w' k v n cs := by
 obtain ⟨p, c, rfl, hm, hc⟩ := h
 refine ⟨p, c, rfl, hm, fun h1 => ?_⟩
 obtain ⟨g, o, rfl, hg, hi⟩ := hc h1
 exact ⟨g, o, rfl, Nat.lt_of_lt_of_le hg hb.size, fun i h => ⟨(hi i h).1.below' hg hb, (hi i h).2⟩⟩
theorem RowV.none (W : World) (k : Nat) (cs : Nat → List Value) (c : Nat) (p : Option Addr) : RowV W k (.slice p 0 c) 0 cs := ⟨p, c, rfl, Nat.zero_le _, fun h => absurd h (by simp)⟩
theorem SlAt.row {α : Type} {at_ : World → Nat → Nat → α → Prop} {k : Nat} {W : World} {v : Value} {l : List α} (h : SlAt at_ k W v l) (R : List Value → α → Prop) (hR : ∀ g o x, at_ W g o x → ∃ vs, R vs x ∧ CellsAt W g o vs ∧ vs.length = k) (hk : 0 < k) :
 ∃ cs, RowV W k v l.length cs ∧ ∀ i, (h : i < l.length) → R (cs i) (l[i]'h) := by
 obtain ⟨p, c, rfl, hm, hc⟩ := h
 rcases Nat.eq_zero_or_pos l.length with h0 | h1
 · exact ⟨fun _ => [], ⟨p, c, rfl, hm, fun h => absurd h (by omega)⟩, fun i h => absurd h (by omega)⟩
 · obtain ⟨g, o, rfl, hi⟩ := hc h1
   have hx : ∀ i, ∃ vs : List Value, (h : i < l.length) → R vs (l[i]'h) ∧ CellsAt W g (o + i * k) vs ∧ vs.length = k := fun i => by
    by_cases h : i < l.length
    · obtain ⟨vs, a, b, c⟩ := hR _ _ _ (hi i h)
      exact ⟨vs, fun _ => ⟨a, b, c⟩⟩
    · exact ⟨[], fun h2 => absurd h2 h⟩
   have hcs := fun i => Classical.choose_spec (hx i)
   refine ⟨fun i => Classical.choose (hx i), ⟨_, c, rfl, hm, fun _ => ⟨g, o, rfl, ?_, fun i h => (hcs i h).2⟩⟩, fun i h => (hcs i h).1⟩
   obtain ⟨-, h2, h3⟩ := hcs 0 h1
   cases hv : Classical.choose (hx 0) with
   | nil => rw [hv] at h3; simp at h3; omega
   | cons a b => rw [hv] at h2; exact h2.lt
theorem SlAt.rowU {W : World} {v : Value} {l : List U9} (h : SlAt UAt 19 W v l) : ∃ cs, RowV W 19 v l.length cs ∧ ∀ i, (h : i < l.length) → UL W (cs i) (l[i]'h) :=
 h.row (UL W) (fun g o x k => by obtain ⟨vs, a, b⟩ := k.ul; exact ⟨vs, a, b, a.len⟩) (by omega)
theorem SlAt.rowW {W : World} {v : Value} {l : List W9} (h : SlAt WAt 6 W v l) : ∃ cs, RowV W 6 v l.length cs ∧ ∀ i, (h : i < l.length) → WL (cs i) (l[i]'h) :=
 h.row WL (fun g o x k => by obtain ⟨vs, a, b⟩ := k.wl; exact ⟨vs, a, b, a.len⟩) (by omega)
theorem SlAt.rowT {W : World} {v : Value} {l : List T9} (h : SlAt TAt 8 W v l) : ∃ cs, RowV W 8 v l.length cs ∧ ∀ i, (h : i < l.length) → TL W (cs i) (l[i]'h) :=
 h.row (TL W) (fun g o x k => by obtain ⟨vs, a, b⟩ := k.tl; exact ⟨vs, a, b, a.len⟩) (by omega)
theorem StrSl.row {W : World} {v : Value} {l : List ByteArray} (h : StrSl W v l) : RowV W 1 v l.length (fun i => [.string (l.getD i ⟨#[]⟩)]) := by
 obtain ⟨p, c, rfl, hm, hc⟩ := h
 refine ⟨p, c, rfl, hm, fun h1 => ?_⟩
 obtain ⟨g, o, rfl, hi⟩ := hc h1
 refine ⟨g, o, rfl, World.block_lt_of_cell? W _ (hi 0 (by omega)), fun i h => ⟨fun j v hj => ?_, rfl⟩⟩
 match j, hj with
 | 0, hj =>
  rw [List.getElem?_cons_zero, Option.some.injEq, show l.getD i ⟨#[]⟩ = l[i]'h by simp [List.getD, h]] at hj
  subst hj
  rw [Nat.mul_one]
  exact hi i h
def idxN (p : Nat → Bool) (n : Nat) : Int := match (List.range n).find? p with
 | some i => i
 | none => -1
def anyN (p : Nat → Bool) (n : Nat) : Bool := (List.range n).any p
theorem idxN_hit {p : Nat → Bool} {n i : Nat} (hi : i < n) (h : p i = true) (hb : ∀ j, j < i → p j = false) : idxN p n = i := by
 have e : (List.range n).find? p = some i := by
  rw [List.find?_range_eq_some]
  exact ⟨h, List.mem_range.2 hi, fun j hj => by rw [hb j hj]; rfl⟩
 unfold idxN
 rw [e]
theorem idxN_miss {p : Nat → Bool} {n : Nat} (hb : ∀ j, j < n → p j = false) : idxN p n = -1 := by
 have e : (List.range n).find? p = none := by
  rw [List.find?_eq_none]
  intro j hj
  rw [hb j (List.mem_range.1 hj)]
  simp
 unfold idxN
 rw [e]
theorem idxN_is (p : Nat → Bool) (n : Nat) : (∃ i, i < n ∧ idxN p n = i ∧ p i = true ∧ ∀ j, j < i → p j = false) ∨ (idxN p n = -1 ∧ ∀ j, j < n → p j = false) := by
 cases e : (List.range n).find? p with
 | some i =>
  left
  have e' := e
  rw [List.find?_range_eq_some] at e'
  refine ⟨i, List.mem_range.1 e'.2.1, by unfold idxN; rw [e], e'.1, fun j hj => ?_⟩
  have := e'.2.2 j hj
  simpa using this
 | none =>
  right
  rw [List.find?_eq_none] at e
  have h : ∀ j, j < n → p j = false := fun j hj => by simpa using e j (List.mem_range.2 hj)
  exact ⟨idxN_miss h, h⟩
theorem anyN_true {p : Nat → Bool} {n i : Nat} (hi : i < n) (h : p i = true) : anyN p n = true := List.any_eq_true.2 ⟨i, List.mem_range.2 hi, h⟩
theorem anyN_false {p : Nat → Bool} {n : Nat} (hb : ∀ j, j < n → p j = false) : anyN p n = false := List.any_eq_false.2 fun j hj => by rw [hb j (List.mem_range.1 hj)]; simp
theorem idxN_any (p : Nat → Bool) (n : Nat) : decide (0 ≤ idxN p n) = anyN p n := by
 rcases idxN_is p n with ⟨i, hi, e, h, -⟩ | ⟨e, h⟩
 · rw [e, anyN_true hi h]; exact decide_eq_true (by omega)
 · rw [e, anyN_false h]; rfl
theorem anyN_list {α : Type} {p : Nat → Bool} {f : α → Bool} {l : List α} (h : ∀ i, (k : i < l.length) → p i = f (l[i]'k)) : anyN p l.length = l.any f := by
 cases q : l.any f with
 | true =>
  obtain ⟨x, hx, hf⟩ := List.any_eq_true.1 q
  obtain ⟨i, hi, rfl⟩ := List.getElem_of_mem hx
  exact anyN_true hi ((h i hi).trans hf)
 | false =>
  rw [List.any_eq_false] at q
  exact anyN_false fun j hj => by
   rw [h j hj]
   have := q _ (List.getElem_mem hj)
   simpa using this
end
end
section
open Go.RowKit Go.Lib
def CapV (v : Value) : Prop := ∀ p n c, v = .slice p n c → n ≤ c
def CapC (W : World) (s : Value) (k : Nat) : Prop := ∀ g o n c, s = .slice (some ⟨g, o, none⟩) n c → ∀ j v, j < n * k → W.cell? ⟨g, o + j, none⟩ = some v → CapV v
structure CapR (W : World) (su st : Value) : Prop where
 u : CapC W su 19
 t : CapC W st 8
end
section
open Go.RowKit Go.Lib
def getW (r : R9) (k : Int) (nm f : ByteArray) : ByteArray × Bool := match getv10 r k nm f with
 | none => (⟨#[]⟩, false)
 | some t => (toB t, true)
def IntsW (r : R9) : Prop := ∀ (k : Int) (i : Nat) (f : ByteArray), f ∈ fieldsv k → i < (namesK r k).length → int64v (valueK r k i f).n
def ShortW (r : R9) : Prop := ∀ (k : Int) (i : Nat) (f : ByteArray), f ∈ fieldsv k → i < (namesK r k).length → (textL (typev k f) (valueK r k i f)).length ≤ 4000000
structure RQ (W : World) (su sw st : Value) (r : R9) : Prop where
 at_ : RAt W su sw st r
 cap : CapR W su st
 ints : IntsW r
 short : ShortW r
structure RtHave (E : World → Prop) : Prop where
 keep : ∀ {w w' : World}, E w → Below w.heap.size w w' → E w'
 fields : ∀ (k : Int) (W : World), Calls Tryz.prog 10 #[.int .i64 k] W fun e w' => ∃ v, e = .returned v ∧ StrSl w' v (fieldsv k) ∧ Below W.heap.size W w'
 get : ∀ (su sw st : Value) (r : R9) (k : Int) (nm f v : ByteArray) (b : Bool) (W : World), E W → RQ W su sw st r → r.us.length ≤ 10000 → r.ws.length ≤ 10000 → r.ts.length ≤ 10000 → Hid ((v, b) = getW r k nm f) →
  Calls Tryz.prog 14 #[.agg #[su, sw, st], .int .i64 k, .string nm, .string f] W fun e w' => e = .returned (.tuple #[.string v, .bool b]) ∧ Below W.heap.size W w'
 set : ∀ (su sw st : Value) (r R : R9) (er k : Int) (nm f s : ByteArray) (W : World), E W → RAt W su sw st r → s.size ≤ 100000 → r.us.length ≤ 10000 → r.ws.length ≤ 10000 → r.ts.length ≤ 10000 → FewL 100000 r → Hid ((R, er) = setv10 r k nm f s.toList) →
  Calls Tryz.prog 16 #[.agg #[su, sw, st], .int .i64 k, .string nm, .string f, .string s] W fun e w' => ∃ tu tw tt, e = .returned (.tuple #[.agg #[tu, tw, tt], .int .i64 er]) ∧ RAt w' tu tw tt R ∧ CapR w' tu tt ∧ Below W.heap.size W w'
 print : ∀ (su sw st : Value) (r : R9) (t : ByteArray) (er : Int) (W : World), E W → RAt W su sw st r → CapR W su st → r.us.length ≤ 1000 → r.ws.length ≤ 1000 → r.ts.length ≤ 1000 → FewL 100000 r → Hid (t = toB (printv10 r).1 ∧ er = (printv10 r).2) →
  Calls Tryz.prog 20 #[.agg #[su, sw, st]] W fun e w' => e = .returned (.tuple #[.string t, .int .i64 er]) ∧ Below W.heap.size W w'
 parse : ∀ (s : ByteArray) (R : R9) (ln er : Int) (W : World), E W → Hid ((R, ln, er) = parsev10 s.toList) →
  Calls Tryz.prog 22 #[.string s] W fun e w' => ∃ tu tw tt, e = .returned (.tuple #[.agg #[tu, tw, tt], .int .i64 ln, .int .i64 er]) ∧ RAt w' tu tw tt R ∧ CapR w' tu tt ∧ Below W.heap.size W w'

/-! What the laws ask of the reference. -/
end
section
open Go.RowKit Go.Lib
theorem strs_blk {W : World} {g : Nat} {l : List ByteArray} {t : TypeId} (h : Blk W g (l.map Value.string) t) (hm : l.length ≤ maxLen) (c : Nat) : StrSl W (.slice (some ⟨g, 0, none⟩) l.length c) l :=
 ⟨_, c, rfl, hm, fun _ => ⟨g, 0, rfl, fun i hi => by
  have := h.cell (0 + i)
  rw [this, List.getElem?_map, Nat.zero_add, List.getElem?_eq_getElem hi]
  rfl⟩⟩
def SlNew (l : List ByteArray) (w : World) (e : Ending) (w' : World) : Prop := ∃ v, e = .returned v ∧ StrSl w' v l ∧ Below w.heap.size w w'
theorem lit_two {f : ByteArray} {l : List UInt8} (h : ¬ f = ⟨l.toArray⟩) : (f.toList == l) = false ∧ ¬ f.toList = l := by
 have h2 : ¬ f.toList = l := fun e => h (by rw [← e, Lib.toList_data])
 exact ⟨beq_eq_false_iff_ne.2 h2, h2⟩
theorem type_miss {k : Int} {f : ByteArray} (h : hasv (fieldsv k) f = false) : typev k f = 0 := by unfold typev; rw [h]; rfl
end
section
open Go.RowKit Go.Lib
theorem size_toB (a : List UInt8) : (toB a).size = a.length := by rw [Lib.size_eq]; simp [toB]
end
section
section
open Go.RowKit Go.Lib
section
variable {P : Program} {ops : Array Oper} {Q : Exit → Act → World → Prop} {md : Region.Mode} {S : World → Prop}
theorem reg_take {i : Nat} {oi : Oper} {v : Value} {fuel : Nat} {listed : Array Bool} {a : Act} {w : World} (d : Option Tmp) (hi : ops[i]? = some oi) (hd : oi.dst = d)
 (hs : Region.noSelect ops = true) (hf : Region.free md ops listed i = true) (hr : (Region.ready md ops listed).contains i = true)
 (hQ : ∀ c a w, Q (.panic c) (a.put oi.dst v) w → Q (.panic c) a w) (hw : Region.wanted oi (yielded ops a.tmps) = true) (hy : ∀ w, S w → (execOp a.eval oi).run P w = .ok (.value v) w) (hS : S w)
 (h : wpAnyH P md ops Q S fuel (listed.setIfInBounds i true) (a.put d v) w) : wpAnyH P md ops Q S (fuel + 1) listed a w := by
 subst hd
 exact wpAnyH_take hi hs hf hr hQ (Or.inl ⟨hw, hy⟩) hS h
theorem reg_tk {i : Nat} {oi : Oper} {v : Value} {fuel : Nat} {listed : Array Bool} {a : Act} {w : World} (d : Option Tmp) (hi : ops[i]? = some oi) (hy : ∀ w, S w → (execOp a.eval oi).run P w = .ok (.value v) w) (hS : S w)
 (h : wpAnyH P md ops Q S fuel (listed.setIfInBounds i true) (a.put d v) w) (hd : oi.dst = d := by rfl)
 (hs : Region.noSelect ops = true := by kernel_rfl) (hf : Region.free md ops listed i = true := by kernel_rfl) (hr : (Region.ready md ops listed).contains i = true := by kernel_rfl)
 (hQ : ∀ c a w, Q (.panic c) (a.put oi.dst v) w → Q (.panic c) a w := by exact fun _ _ _ h => h) (hw : Region.wanted oi (yielded ops a.tmps) = true := by kernel_rfl) : wpAnyH P md ops Q S (fuel + 1) listed a w :=
 reg_take d hi hd hs hf hr hQ hw hy hS h
end
end
section
open Go.RowKit Go.Lib
section
variable {P : Program} {ops : Array Oper} {Q : Exit → Act → World → Prop} {md : Region.Mode} {S : World → Prop} {x : Nat}
def waitOn (md : Region.Mode) (ops : Array Oper) (x i : Nat) : Bool := match ops[x]? with
 | some o => o.after.any fun e => Region.binds md e && e.on == i
 | none => false
theorem waitOn_waits {i : Nat} (h : waitOn md ops x i = true) {listed : Array Bool} (hx : x ∈ Region.ready md ops listed) : listed.getD i true = true := by
 obtain ⟨_, o, ho, hall⟩ := mem_ready.1 hx
 unfold waitOn at h
 rw [ho] at h
 simp only at h
 rw [Array.any_eq_true] at h
 obtain ⟨j, hj, hb⟩ := h
 simp only [Bool.and_eq_true, beq_iff_eq] at hb
 have h2 := hall _ (Array.getElem_mem hj) hb.1
 rw [hb.2] at h2
 rcases Nat.lt_or_ge i listed.size with h' | h'
 · simp [h'] at h2 ⊢; exact h2
 · simp [Array.getElem?_eq_none h'] at h2
end
end
section
open Go.RowKit Go.Shelf
section
variable {P : Program} {ops : Array Oper} {Q : Exit → Act → World → Prop} {md : Region.Mode}
theorem step_append_run {o : Oper} {a : Act} {w w' : World} {K : Act → World → Prop} {E : Prop} (hg : o.guard = none) (s x : Operand) (t : TypeId) (hop : o.op = Op.call { callee := Callee.builtin Builtin.append, args := #[s, x], argTypes := #[t, t] })
 (v y v' : Value) (hs : a.eval s = v) (hx : a.eval x = y) (hrun : (Builtin.append_ #[t, t] o.type #[v, y]).run P w = .ok v' w') (hK : K (a.put o.dst v') w') :
 if Region.wanted o (yielded ops a.tmps) = true then Oper.wp P o a w K Q else E := by
 have hw : Region.wanted o (yielded ops a.tmps) = true := by simp [Region.wanted, hg]
 rw [if_pos hw]
 unfold Oper.wp
 simp [execOp, hop, resolve, invoke, builtin, hs, hx, hrun, Result.andThen]
 exact hK
end
end
end
section
open Go.RowKit Go.Lib
section
variable {P : Program} {ops : Array Oper} {Q : Exit → Act → World → Prop} {md : Region.Mode} {S : World → Prop}
theorem held_one {i : Nat} {o : Oper} {fuel : Nat} {listed : Array Bool} {a : Act} {w : World} (hr : Region.ready md ops listed = [i]) (ho : ops[i]? = some o)
 (h : ∀ K' : Act → World → Prop, Shut (∀ a w, S w → wpAnyH P md ops Q S fuel (listed.setIfInBounds i true) a w → K' a w) → if Region.wanted o (yielded ops a.tmps) = true then Oper.wp P o a w K' Q else K' (a.put o.dst undef) w) :
 wpAnyH P md ops Q S (fuel + 1) listed a w := by
 refine ⟨fun h0 => (by rw [hr] at h0; cases h0), fun j hj => ?_⟩
 rw [hr] at hj
 rcases List.mem_cons.1 hj with rfl | hj
 · exact wpOp_step ho (fun K' hK => h K' (fun a w hS hW => hK a w ⟨hS, hW⟩))
 · cases hj
theorem exec_load_agg {o : Oper} {ρ : Operand → Value} {w : World} (t : TypeId) (p : Operand) (ho : o.op = .load t p) (ad : Addr) (hp : ρ p = .pointer (some ad)) {k : Nat} (agg : ∀ w, (isAgg t).run P w = .ok true w) (sz : ∀ w, (Go.sizeOf t).run P w = .ok k w) (vs : List Value)
 (hl : Sem.run P (loadCellsFrom ad 0 k #[]) w = .ok vs.toArray w) : (execOp ρ o).run P w = .ok (.value (.agg vs.toArray)) w := by
 unfold execOp
 simp only [ho, Instr.loadAt, hp, Instr.sureAddr, loadVar, loadCells, Sem.run_bind, Sem.run_pure, Result.andThen_ok, agg, sz, hl, if_true]
theorem step_store_agg {o : Oper} {a : Act} {w : World} {K : Act → World → Prop} {E : Prop} (hg : o.guard = none) (t : TypeId) (p x : Operand) (ho : o.op = .store t p x) (hd : o.dst = none) (b : Nat) (hp : a.eval p = .pointer (some ⟨b, 0, none⟩)) {k : Nat} (sz : ∀ w, (Go.sizeOf t).run P w = .ok k w) (vs : List Value) (hx : a.eval x = .agg vs.toArray) (hk : vs.length = k)
 {us : List Value} {s : TypeId} (hB : Blk w b us s) (hl : us.length = k) (h1 : ∀ v ∈ vs, v.oneCell' = true) (hK : K a (w.setRow b vs.toArray)) : if Region.wanted o (yielded ops a.tmps) = true then Oper.wp P o a w K Q else E := by
 have hw : Region.wanted o (yielded ops a.tmps) = true := by simp [Region.wanted, hg]
 rw [if_pos hw]
 have hst := hB.stores (P := P) (hk.trans hl.symm) h1
 unfold Oper.wp execOp
 simp only [ho, Instr.storeAt, hp, hx, Instr.sureAddr, storeVar, Value.cells, Sem.run_bind, Sem.run_pure, Result.andThen_ok, sz]
 simp [hk, hst, Result.andThen]
 show K (a.put o.dst undef) _
 rw [hd]
 exact hK
end
end

end Go.Proofs.YtnjcdmjaecgblaaGreatDoor
