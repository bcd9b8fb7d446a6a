/-
  What the reference of rules answers: lists, numbers, names that are there; A slice of texts in a block of texts; What the reference of ruletext answers: names of a list; Decimal texts of integers: what a reader of digits finds. No program is named here; What the reference of ruletext answers: Read; What the reference of ruletext answers: Get; Rules as text: a text that is parsed without an error is the text of the rules. No program is named here; What the reference of ruletext answers: the lines of an element; What the reference of rules answers: needs, the order, Validate, Same; What the reference of ruletext answers: Print; A region that draws, by what is known of it: I (which operations are done, the frame, the world) is kept by every operation that may come up. No program is named here; Appending a whole slice of structs to an empty one: all old memory stays; A struct stored into the middle of a row: the row's cells as a list. No program is named here; A region that draws, whose last operations (one or more) write what the others read: S holds behind each that is not late. No program is named here; What the reference of ruletext answers: Set.
-/
import Derived.Test.YtnjcdmjaecgblaaGreatDoorZA01
import Derived.Deep.Cut
import Derived.Deep.Upon
import Derived.Deep.AppendSrc
import Derived.WideShapes4
import Derived.Laws.StructEq
namespace Go.Proofs.YtnjcdmjaecgblaaGreatDoor
section
section
open Go.RowKit Go.Lib
theorem strs_lone (l : List ByteArray) : ∀ y ∈ strs l, y.oneCell' = true := by
 intro y hy
 unfold strs at hy
 obtain ⟨x, -, rfl⟩ := List.mem_map.1 hy
 rfl
theorem own_strs {w : World} {B n : Nat} {v : Value} {l : List ByteArray} (h : w.ownsRow B 9 1 v n (strs l)) (hn : n ≤ 100000) : StrSl w v l := by
 have hl : l.length = n := by have := h.1; unfold strs at this; rw [List.length_map] at this; omega
 rcases id h.2 with ⟨rfl, h0⟩ | ⟨g, cap, cur, rfl, -, -, -, -, -, -⟩
 · refine ⟨none, 0, by rw [hl, h0], by unfold maxLen; omega, fun h1 => by omega⟩
 · refine ⟨_, cap, by rw [hl], by unfold maxLen; omega, fun _ => ⟨g, 0, rfl, fun i hi => ?_⟩⟩
   rw [Nat.zero_add, h.cellAt i (by omega)]
   unfold strs
   rw [List.getElem?_map, List.getElem?_eq_getElem hi]
   rfl
end
section
open Go.RowKit Go.Lib
theorem WL.cells {vs : List Value} {u : W9} (h : WL vs u) : vs[1]? = some (.int .i64 u.rng) ∧ vs[2]? = some (.int .i64 u.dmg) ∧ vs[3]? = some (.int .i64 u.cool) ∧ vs[4]? = some (.int .i64 u.spd) ∧ vs[5]? = some (.int .i64 u.spl) := by
 subst h; exact ⟨rfl, rfl, rfl, rfl, rfl⟩
theorem TL.cells {W : World} {vs : List Value} {u : T9} (h : TL W vs u) : vs[2]? = some (.int .i64 u.ore) ∧ vs[3]? = some (.int .i64 u.wood) ∧ vs[4]? = some (.int .i64 u.time) ∧ vs[5]? = some (.string u.un) ∧ vs[6]? = some (.int .i64 u.stat) ∧ vs[7]? = some (.int .i64 u.amt) := by
 obtain ⟨sn, rfl, -⟩ := h; exact ⟨rfl, rfl, rfl, rfl, rfl, rfl⟩
end
section
open Go.RowKit Go.Lib
def fnd1 (r : R9) (u : U9) : Bool := (decide (u.wpn = ⟨#[]⟩) || hasv (namesW r) u.wpn) && u.needs.all (hasv (namesU r ++ namesT r)) && u.trains.all (hasv (namesU r)) && u.ress.all (hasv (namesT r))
def fnd2 (r : R9) (t : T9) : Bool := t.needs.all (hasv (namesU r ++ namesT r)) && hasv (namesU r) t.un
theorem foundv_eq (r : R9) : foundv r = (r.us.all (fnd1 r) && r.ts.all (fnd2 r)) := rfl
theorem ne_empty {s : ByteArray} (h : ¬ s = ⟨#[]⟩) : (s.toList == ([] : List UInt8)) = false ∧ (¬ s.toList = []) ∧ s.toList.isEmpty = false := by
 obtain ⟨h1, h2⟩ := ne_list h
 have e : (⟨#[]⟩ : ByteArray).toList = [] := by rw [Lib.toList_data]
 rw [e] at h1 h2
 exact ⟨h1, h2, by cases hx : s.toList with | nil => exact absurd hx h2 | cons a l => rfl⟩
end
section
open Go.RowKit Go.Lib
def need1 (r : R9) (s : ByteArray) : Bool := match unitv r s with
 | some u => u.bld
 | none => true
theorem UL.bld {W : World} {vs : List Value} {u : U9} (h : UL W vs u) : vs[1]? = some (.bool u.bld) := by obtain ⟨sn, st, sr, rfl, -⟩ := h; rfl
end
end
section
open Go.RowKit Go.Lib
def SB (w : World) (v : Value) (l : List ByteArray) : Prop :=
 ∃ p c, v = .slice p l.length c ∧ l.length ≤ maxLen ∧ (1 ≤ l.length → ∃ g o us, p = some ⟨g, o, none⟩ ∧ Blk w g us 9 ∧ ∀ i, (h : i < l.length) → us[o + i]? = some (.string (l[i]'h)))
theorem SB.str {w : World} {v : Value} {l : List ByteArray} (h : SB w v l) : StrSl w v l := by
 obtain ⟨p, c, rfl, hm, hc⟩ := h
 refine ⟨p, c, rfl, hm, fun h1 => ?_⟩
 obtain ⟨g, o, us, e, hb, hi⟩ := hc h1
 exact ⟨g, o, e, fun i h => (hb.cell (o + i)).trans (hi i h)⟩
theorem SB.below {w w' : World} {v : Value} {l : List ByteArray} (h : SB w v l) (hb : Below w.heap.size w w') : SB w' v l := by
 obtain ⟨p, c, e, hm, hc⟩ := h
 refine ⟨p, c, e, hm, fun h1 => ?_⟩
 obtain ⟨g, o, us, e2, hk, hi⟩ := hc h1
 exact ⟨g, o, us, e2, hk.below hb, hi⟩
theorem own_sb {w : World} {B n : Nat} {v : Value} {l : List ByteArray} (h : w.ownsRow B 9 1 v n (strs l)) (hn : n ≤ 100000) : SB w v l := by
 have hl : l.length = n := by have := h.1; unfold strs at this; rw [List.length_map] at this; omega
 rcases id h.2 with ⟨rfl, h0⟩ | ⟨g, cap, cur, rfl, -, hg, -, -, -, ht⟩
 · refine ⟨none, 0, by rw [hl, h0], by unfold maxLen; omega, fun h1 => by omega⟩
 · refine ⟨_, cap, by rw [hl], by unfold maxLen; omega, fun _ => ⟨g, 0, cur.toList, rfl, by unfold Blk; rw [Array.toArray_toList]; exact hg, fun i hi => ?_⟩⟩
   have h2 : (strs l)[i]? = some (.string (l[i]'hi)) := by unfold strs; rw [List.getElem?_map, List.getElem?_eq_getElem hi]; rfl
   rw [Nat.zero_add]
   rw [← ht, List.getElem?_take] at h2
   split at h2
   · exact h2
   · cases h2
theorem sb_blk {W : World} {g : Nat} {l : List ByteArray} (h : Blk W g (l.map Value.string) 9) (hm : l.length ≤ maxLen) (c : Nat) : SB W (.slice (some ⟨g, 0, none⟩) l.length c) l :=
 ⟨_, c, rfl, hm, fun _ => ⟨g, 0, _, rfl, h, fun i hi => by rw [List.getElem?_map, Nat.zero_add, List.getElem?_eq_getElem hi]; rfl⟩⟩
theorem sb_nil (W : World) : SB W (.slice none 0 0) [] := ⟨none, 0, rfl, Nat.zero_le _, fun h => absurd h (Nat.not_succ_le_zero 0)⟩
end
section
open Go.RowKit Go.Lib
def NewSl (B : Nat) (v : Value) : Prop := ∀ a n c, v = .slice (some a) n c → B ≤ a.block
theorem strSl_set {W : World} {v : Value} {l : List ByteArray} {b i : Nat} {x : Value} (h : StrSl W v l) (hn : ∀ a n c, v = .slice (some a) n c → ¬ a.block = b) : StrSl (W.setCell ⟨b, i, none⟩ x) v l := by
 obtain ⟨p, c, rfl, hm, hat⟩ := h
 refine ⟨p, c, rfl, hm, fun h1 => ?_⟩
 obtain ⟨g, o, rfl, hc⟩ := hat h1
 have hne := hn _ _ _ rfl
 refine ⟨g, o, rfl, fun j hj => ?_⟩
 rw [← hc j hj]
 exact World.cell?_of_block (Below.heap_setCell W ⟨b, i, none⟩ x g hne)
end
section
open Go.RowKit Go.Lib
theorem int_yes {l : List UInt8} {v : Int} (hv : int64v v) (h : decv v = l) : intv l = some v := by rw [← h]; exact int_text hv
end
section
open Go.RowKit Go.Lib
theorem read_1 (s : List UInt8) : readv 1 s = (intv s).map fun n => ⟨n, false, ⟨#[]⟩, []⟩ := rfl
theorem read_2 (s : List UInt8) : readv 2 s = if s = yesB then some ⟨0, true, ⟨#[]⟩, []⟩ else if s = noB then some V10.zero else none := rfl
theorem read_3 (s : List UInt8) : readv 3 s = if s = dashB then some V10.zero else if nameB s = true then some ⟨0, false, toB s, []⟩ else none := rfl
theorem read_4 {t : Int} (h1 : ¬ t = 1) (h2 : ¬ t = 2) (h3 : ¬ t = 3) (s : List UInt8) : readv t s = if s = dashB then some V10.zero else (listv s).map fun l => ⟨0, false, ⟨#[]⟩, l⟩ := by
 unfold readv
 rw [if_neg h1, if_neg h2, if_neg h3]
end
section
open Go.RowKit Go.Lib
def IntsV (r : R9) : Prop := ∀ (k : Int) (i : Nat) (f : ByteArray), f ∈ fieldsv k → i < (namesK r k).length → int64v (valueK r k i f).n
def ShortV (N : Nat) (r : R9) : Prop := ∀ (k : Int) (i : Nat) (f : ByteArray), f ∈ fieldsv k → i < (namesK r k).length → (textL (typev k f) (valueK r k i f)).length ≤ N
def GetPost (r : R9) (k : Int) (nm f : ByteArray) (w : World) (e : Ending) (w' : World) : Prop :=
 (getv10 r k nm f = none ∧ e = .returned (.tuple #[.string ⟨#[]⟩, .bool false]) ∧ Below w.heap.size w w') ∨ (∃ t, getv10 r k nm f = some t ∧ e = .returned (.tuple #[.string (toB t), .bool true]) ∧ Below w.heap.size w w')
end
section
open Go.RowKit Go.Lib
def linesU (l : List U9) : List (List UInt8) := l.flatMap fun u => elemL 1 u.nm (ofUv u)
theorem linesU_app (l m : List U9) : linesU (l ++ m) = linesU l ++ linesU m := by unfold linesU; rw [List.flatMap_append]
theorem linesU_one (x : U9) : linesU [x] = elemL 1 x.nm (ofUv x) := by unfold linesU; simp
theorem lenU : (fieldsv 1).length = 18 := by rw [fieldsU]; rfl
def linesW (l : List W9) : List (List UInt8) := l.flatMap fun u => elemL 2 u.nm (ofWv u)
theorem linesW_app (l m : List W9) : linesW (l ++ m) = linesW l ++ linesW m := by unfold linesW; rw [List.flatMap_append]
theorem linesW_one (x : W9) : linesW [x] = elemL 2 x.nm (ofWv x) := by unfold linesW; simp
theorem lenW : (fieldsv 2).length = 5 := by rw [fieldsW]; rfl
def linesT (l : List T9) : List (List UInt8) := l.flatMap fun u => elemL 3 u.nm (ofTv u)
theorem linesT_app (l m : List T9) : linesT (l ++ m) = linesT l ++ linesT m := by unfold linesT; rw [List.flatMap_append]
theorem linesT_one (x : T9) : linesT [x] = elemL 3 x.nm (ofTv x) := by unfold linesT; simp
theorem lenT : (fieldsv 3).length = 7 := by rw [fieldsT]; rfl
theorem rulesL_eq (r : R9) : rulesL r = linesU r.us ++ linesW r.ws ++ linesT r.ts := rfl
theorem fields_nodup {k : Int} : (fieldsv k).Nodup := by
 unfold fieldsv
 (repeat' split) <;> decide +kernel
theorem elem_next {k : Int} {nm : ByteArray} {val val' : ByteArray → V10} {d : Nat} {f : ByteArray} (hd : d < (fieldsv k).length) (hf : (fieldsv k)[d]'hd = f) (ho : ∀ g ∈ fieldsv k, ¬ g = f → val' g = val g) :
 (elemL k nm val').take (1 + (d + 1)) = (elemL k nm val).take (1 + d) ++ [fieldL k val' f] := by
 unfold elemL
 rw [show 1 + (d + 1) = (d + 1) + 1 by omega, show 1 + d = d + 1 by omega, List.take_succ_cons, List.take_succ_cons, List.cons_append, ← List.map_take, ← List.map_take, List.take_succ_eq_append_getElem hd, List.map_append, hf]
 congr 2
 refine List.map_congr_left fun g hg => ?_
 unfold fieldL
 rw [ho g (List.mem_of_mem_take hg) fun e => ?_]
 rw [List.mem_take_iff_getElem] at hg
 obtain ⟨j, hj, rfl⟩ := hg
 have hne : j ≠ d := by omega
 exact hne ((List.getElem_inj fields_nodup).1 (e.trans hf.symm))
theorem take_full {k : Int} {nm : ByteArray} {val : ByteArray → V10} {d : Nat} (h : d = (fieldsv k).length) : (elemL k nm val).take (1 + d) = elemL k nm val := List.take_of_length_le (by rw [elem_len]; omega)
theorem take_head {k : Int} {nm : ByteArray} {val : ByteArray → V10} : (elemL k nm val).take (1 + 0) = [wordK k ++ 32 :: nm.toList] := rfl
end
section
open Go.RowKit Go.Lib
theorem rt_cat {P : Program} {a b x : ByteArray} (h : x = a ++ b) (hs : a.size + b.size ≤ 10000000) (w : World) : (Op.stringOp .add a b).run P w = .ok (.string x) w := by
 rw [run_string_add_sum w a b (by omega), h]
theorem rt_cats {a b x : ByteArray} {m n : Nat} (h : x = a ++ b) (ha : a.size ≤ m) (hb : b.size ≤ n) : x.size ≤ m + n := by
 rw [h, ByteArray.size_append]; omega
theorem head_cat (w : List UInt8) (nm : ByteArray) : ((toB w ++ ByteArray.mk #[32]) ++ nm) ++ ByteArray.mk #[10] = toB ((w ++ 32 :: nm.toList) ++ [10]) := by
 apply ByteArray.ext
 apply Array.toList_inj.1
 simp [toB, ByteArray.data_append, Lib.toList_data]
theorem joinT_one (l : List UInt8) : joinT [l] = l ++ [10] := by unfold joinT; simp
theorem lines_step {k : Int} {nm : ByteArray} {val : ByteArray → V10} {j : Nat} (h : j < (fieldsv k).length) : joinT ((elemL k nm val).take (1 + (j + 1))) = joinT ((elemL k nm val).take (1 + j)) ++ (fieldL k val ((fieldsv k)[j]'h) ++ [10]) := by
 rw [elem_next (val' := val) h rfl fun _ _ _ => rfl, join_app, joinT_one]
end
section
section
open Go.RowKit Go.Lib
def lenV : Value → Nat
 | .slice _ n _ => n
 | _ => 0
theorem own_len {w : World} {B k n : Nat} {e : TypeId} {v : Value} {xs : List Value} (h : w.ownsRow B e k v n xs) : lenV v = n := by
 rcases h.2 with ⟨rfl, rfl⟩ | ⟨g, cap, cur, rfl, -⟩ <;> rfl
end
end
section
open Go.RowKit Go.Lib
theorem small_value {r : R9} (h : valv r = 0) {k : Int} {i : Nat} {f : ByteArray} (hf : f ∈ fieldsv k) (hi : i < (namesK r k).length) : Small10 (sortv f) (valueK r k i f) := by
 obtain ⟨n1, n2, n3⟩ := names_len r
 rcases kind_of hf with rfl | rfl | rfl
 · rw [n1] at hi
   exact smallU h (getD_mem _ hi) hf
 · rw [n2] at hi
   exact smallW h (getD_mem _ hi) hf
 · rw [n3] at hi
   exact smallT h (getD_mem _ hi) hf
theorem valid_ints {r : R9} (h : valv r = 0) : IntsV r := fun k i f hf hi => by
 rcases good_value h hf hi with ⟨_, q, _⟩ | ⟨_, q⟩ | ⟨_, _, q⟩ | ⟨_, _, q⟩
 · exact q
 · rw [q]; unfold int64v; dsimp only; omega
 · rw [q]; unfold int64v; dsimp only; omega
 · rw [q]; unfold int64v; dsimp only; omega
theorem valid_short {r : R9} (h : valv r = 0) : ShortV 50000 r := fun k i f hf hi => by
 rw [type_in hf]
 have := (text_short (good_value h hf hi) (small_value h hf hi)).1
 omega
theorem join_pre (a b : List (List UInt8)) : (joinT a).length ≤ (joinT (a ++ b)).length := by rw [join_app, List.length_append]; omega
def PrintPost (r : R9) (w : World) (e : Ending) (w' : World) : Prop := e = .returned (.tuple #[.string (toB (printv10 r).1), .int .i64 (printv10 r).2]) ∧ Below w.heap.size w w'
theorem valueU {r : R9} {i : Nat} (hi : i < r.us.length) : elemL 1 (r.us[i]'hi).nm (valueK r 1 i) = elemL 1 (r.us[i]'hi).nm (ofUv (r.us[i]'hi)) := by
 congr 1
 funext f
 show ofUv (r.us.getD i U9.zero) f = _
 rw [List.getD_eq_getElem?_getD, List.getElem?_eq_getElem hi]
 rfl
theorem linesU_take {l : List U9} {i : Nat} (hi : i < l.length) : linesU (l.take (i + 1)) = linesU (l.take i) ++ elemL 1 (l[i]'hi).nm (ofUv (l[i]'hi)) := by
 rw [List.take_succ_eq_append_getElem hi, linesU_app, linesU_one]
theorem valueW {r : R9} {i : Nat} (hi : i < r.ws.length) : elemL 2 (r.ws[i]'hi).nm (valueK r 2 i) = elemL 2 (r.ws[i]'hi).nm (ofWv (r.ws[i]'hi)) := by
 congr 1
 funext f
 show ofWv (r.ws.getD i W9.zero) f = _
 rw [List.getD_eq_getElem?_getD, List.getElem?_eq_getElem hi]
 rfl
theorem linesW_take {l : List W9} {i : Nat} (hi : i < l.length) : linesW (l.take (i + 1)) = linesW (l.take i) ++ elemL 2 (l[i]'hi).nm (ofWv (l[i]'hi)) := by
 rw [List.take_succ_eq_append_getElem hi, linesW_app, linesW_one]
theorem valueT {r : R9} {i : Nat} (hi : i < r.ts.length) : elemL 3 (r.ts[i]'hi).nm (valueK r 3 i) = elemL 3 (r.ts[i]'hi).nm (ofTv (r.ts[i]'hi)) := by
 congr 1
 funext f
 show ofTv (r.ts.getD i T9.zero) f = _
 rw [List.getD_eq_getElem?_getD, List.getElem?_eq_getElem hi]
 rfl
theorem linesT_take {l : List T9} {i : Nat} (hi : i < l.length) : linesT (l.take (i + 1)) = linesT (l.take i) ++ elemL 3 (l[i]'hi).nm (ofTv (l[i]'hi)) := by
 rw [List.take_succ_eq_append_getElem hi, linesT_app, linesT_one]
end
section
open Go.RowKit Go.Lib
def nleft : List Bool → Nat
 | [] => 0
 | true :: l => nleft l
 | false :: l => nleft l + 1
theorem nleft_set : ∀ (l : List Bool) (i : Nat), l[i]? = some false → nleft (l.set i true) + 1 = nleft l
 | [], i, h => by simp at h
 | b :: l, 0, h => by
  simp at h
  subst h
  rfl
 | true :: l, i + 1, h => by
  have := nleft_set l i (by simpa using h)
  simpa [nleft] using this
 | false :: l, i + 1, h => by
  have := nleft_set l i (by simpa using h)
  simp only [List.set_cons_succ, nleft]
  omega
theorem nleft_zero : ∀ (l : List Bool), nleft l = 0 → ∀ i : Nat, l[i]? ≠ some false
 | [], _, i => by simp
 | true :: l, h, 0 => by simp
 | true :: l, h, i + 1 => by simpa using nleft_zero l h i
 | false :: l, h, i => by simp [nleft] at h
section
variable {P : Program} {ops : Array Oper} {Q : Exit → Act → World → Prop} {md : Region.Mode}
theorem wpAny_inv {I : Array Bool → Act → World → Prop} (hend : ∀ listed a w, I listed a w → Region.ready md ops listed = [] → Q .normal a w)
 (hstep : ∀ listed a w i, listed.size = ops.size → I listed a w → i ∈ Region.ready md ops listed → wpOp P ops Q i (I (listed.setIfInBounds i true)) a w) :
 ∀ (fuel : Nat) (listed : Array Bool) (a : Act) (w : World), nleft listed.toList ≤ fuel → listed.size = ops.size → I listed a w → wpAny P md ops Q fuel listed a w := by
 have hlt : ∀ (listed : Array Bool) (i : Nat), listed.size = ops.size → i ∈ Region.ready md ops listed → listed.toList[i]? = some false := fun listed i hs hi => by
  obtain ⟨h1, o, ho, -⟩ := mem_ready.1 hi
  have hi' : i < listed.size := by rw [hs]; exact (Array.getElem?_eq_some_iff.1 ho).1
  rw [Array.getElem?_toList, Array.getElem?_eq_getElem hi']
  rw [Array.getD_eq_getD_getElem?, Array.getElem?_eq_getElem hi'] at h1
  simpa using h1
 intro fuel
 induction fuel with
 | zero =>
  intro listed a w hf hs hI
  have hr : Region.ready md ops listed = [] := by
   rw [List.eq_nil_iff_forall_not_mem]
   intro i hi
   exact nleft_zero _ (by omega) i (hlt listed i hs hi)
  exact ⟨hr, hend _ _ _ hI hr⟩
 | succ fuel ih =>
  intro listed a w hf hs hI
  refine ⟨fun hr => hend _ _ _ hI hr, fun i hi => wpOp_mono (fun a' w' h => ih _ a' w' ?_ (by simpa using hs) h) (hstep listed a w i hs hI hi)⟩
  have := nleft_set listed.toList i (hlt listed i hs hi)
  rw [Array.toList_setIfInBounds]
  omega
theorem wpAnyH_inv {S : World → Prop} {I : Act → Array Bool → Act → World → Prop} {a0 : Act} (hend : ∀ listed a w, I a0 listed a w → Region.ready md ops listed = [] → Q .normal a w)
 (hstep : ∀ listed a w i, listed.size = ops.size → I a0 listed a w → i ∈ Region.ready md ops listed → wpOp P ops Q i (fun a' w' => S w' ∧ I a0 (listed.setIfInBounds i true) a' w') a w) :
 ∀ (fuel : Nat) (listed : Array Bool) (a : Act) (w : World), nleft listed.toList ≤ fuel → listed.size = ops.size → I a0 listed a w → wpAnyH P md ops Q S fuel listed a w := by
 have hlt : ∀ (listed : Array Bool) (i : Nat), listed.size = ops.size → i ∈ Region.ready md ops listed → listed.toList[i]? = some false := fun listed i hs hi => by
  obtain ⟨h1, o, ho, -⟩ := mem_ready.1 hi
  have hi' : i < listed.size := by rw [hs]; exact (Array.getElem?_eq_some_iff.1 ho).1
  rw [Array.getElem?_toList, Array.getElem?_eq_getElem hi']
  rw [Array.getD_eq_getD_getElem?, Array.getElem?_eq_getElem hi'] at h1
  simpa using h1
 intro fuel
 induction fuel with
 | zero =>
  intro listed a w hf hs hI
  have hr : Region.ready md ops listed = [] := by
   rw [List.eq_nil_iff_forall_not_mem]
   intro i hi
   exact nleft_zero _ (by omega) i (hlt listed i hs hi)
  exact ⟨hr, hend _ _ _ hI hr⟩
 | succ fuel ih =>
  intro listed a w hf hs hI
  refine ⟨fun hr => hend _ _ _ hI hr, fun i hi => wpOp_mono (fun a' w' h => ⟨h.1, ih _ a' w' ?_ (by simpa using hs) h.2⟩) (hstep listed a w i hs hI hi)⟩
  have := nleft_set listed.toList i (hlt listed i hs hi)
  rw [Array.toList_setIfInBounds]
  omega
theorem wpAnyH_from {S : World → Prop} {fuel : Nat} {listed : Array Bool} {a : Act} {w : World} (I : Act → Array Bool → Act → World → Prop) (hn : nleft listed.toList ≤ fuel) (hs : listed.size = ops.size) (h0 : I a listed a w)
 (hstep : ∀ listed a' w i, listed.size = ops.size → I a listed a' w → i ∈ Region.ready md ops listed → wpOp P ops Q i (fun a' w' => S w' ∧ I a (listed.setIfInBounds i true) a' w') a' w)
 (hend : ∀ listed a' w, I a listed a' w → Region.ready md ops listed = [] → Q .normal a' w) : wpAnyH P md ops Q S fuel listed a w :=
 wpAnyH_inv hend hstep _ _ _ _ hn hs h0
end
theorem wpOp_go {P : Program} {ops : Array Oper} {Q : Exit → Act → World → Prop} {i : Nat} {o : Oper} {K : Act → World → Prop} {a : Act} {w : World} (ho : ops[i]? = some o) (hg : o.guard = none) (h : ∀ K' : Act → World → Prop, (∀ a w, K a w → K' a w) → Oper.wp P o a w K' Q) : wpOp P ops Q i K a w :=
 wpOp_step ho fun K' hK => by
  rw [if_pos (show Region.wanted o (yielded ops a.tmps) = true by unfold Region.wanted; rw [hg])]
  exact h K' hK
end
section
open Go.RowKit Go.Lib
def SrcV (w : World) (p : Option Addr) (m k : Nat) (news : List Value) : Prop := news.length = m * k ∧ (∀ u ∈ news, u.oneCell' = true) ∧ (p = none → m = 0) ∧ ∀ a, p = some a → ∀ j u, news[j]? = some u → w.cell? (a.add j) = some u
end
section
open Go.RowKit
def putCells (w : World) (g : Nat) : Nat → List Value → World
 | _, [] => w
 | o, v :: l => putCells (w.setCell ⟨g, o, none⟩ v) g (o + 1) l
def putRow {α : Type} : List α → Nat → List α → List α
 | cur, _, [] => cur
 | cur, o, v :: l => putRow (cur.set o v) (o + 1) l
theorem putRow_len {α : Type} : ∀ (vs cur : List α) (o : Nat), (putRow cur o vs).length = cur.length
 | [], _, _ => rfl
 | _ :: l, cur, o => by rw [putRow, putRow_len l, List.length_set]
theorem putRow_at {α : Type} : ∀ (vs cur : List α) (o j : Nat), o + vs.length ≤ cur.length → (putRow cur o vs)[j]? = if o ≤ j ∧ j < o + vs.length then vs[j - o]? else cur[j]?
 | [], cur, o, j, _ => by
  rw [putRow, if_neg]
  simp
 | v :: l, cur, o, j, h => by
  simp only [List.length_cons] at h ⊢
  rw [putRow, putRow_at l _ (o + 1) j (by rw [List.length_set]; omega)]
  by_cases h1 : o + 1 ≤ j ∧ j < o + 1 + l.length
  · rw [if_pos h1, if_pos (by omega), show j - o = (j - (o + 1)) + 1 by omega, List.getElem?_cons_succ]
  · rw [if_neg h1]
    by_cases h2 : j = o
    · subst h2
      rw [if_pos (by omega), Nat.sub_self, List.getElem?_cons_zero, List.getElem?_set_self (by omega)]
    · rw [if_neg (by omega), List.getElem?_set_ne (by omega)]
section
variable {P : Program}
theorem Blk.putCells {g : Nat} {t : TypeId} : ∀ (vs cur : List Value) (o : Nat) {w : World}, Blk w g cur t → Blk (putCells w g o vs) g (putRow cur o vs) t
 | [], _, _, _, h => h
 | v :: l, _cur, o, _, h => Blk.putCells l _ (o + 1) (h.set o v)
variable {o : Oper} {a : Act} {w : World} {Q : Exit → Act → World → Prop} {K : Act → World → Prop}
end
end
section
open Go.RowKit Go.Lib
section
variable {P : Program} {ops : Array Oper} {Q : Exit → Act → World → Prop} {md : Region.Mode} {S : World → Prop} {lt : Nat → Bool}
def lateWait (md : Region.Mode) (ops : Array Oper) (lt : Nat → Bool) (i : Nat) : Bool := (List.range ops.size).all fun x => !lt x || waitOn md ops x i
theorem lateWait_at {i x : Nat} (h : lateWait md ops lt i = true) (hx : lt x = true) {listed : Array Bool} (hr : x ∈ Region.ready md ops listed) : waitOn md ops x i = true := by
 obtain ⟨_, o, ho, _⟩ := mem_ready.1 hr
 have hlt := (Array.getElem?_eq_some_iff.1 ho).1
 have := List.all_eq_true.1 h x (List.mem_range.2 hlt)
 rw [hx, Bool.not_true, Bool.false_or] at this
 exact this
def wpAnyM (P : Program) (md : Region.Mode) (ops : Array Oper) (Q : Exit → Act → World → Prop) (S : World → Prop) (lt : Nat → Bool) : Nat → Array Bool → Act → World → Prop
 | 0, listed, a, w => Region.ready md ops listed = [] ∧ Q .normal a w
 | fuel + 1, listed, a, w =>
  (Region.ready md ops listed = [] → Q .normal a w) ∧
  ∀ i ∈ Region.ready md ops listed, wpOp P ops Q i (fun a' w' => (lt i = false → S w') ∧ wpAnyM P md ops Q S lt fuel (listed.setIfInBounds i true) a' w') a w
theorem wpAny_of_late : ∀ (fuel : Nat) (listed : Array Bool) (a : Act) (w : World), wpAnyM P md ops Q S lt fuel listed a w → wpAny P md ops Q fuel listed a w
 | 0, _, _, _, h => h
 | fuel + 1, _, _, _, h => ⟨h.1, fun i hi => wpOp_mono (fun a' w' h' => wpAny_of_late fuel _ a' w' h'.2) (h.2 i hi)⟩
theorem wpAnyM_first {i : Nat} {oi : Oper} {v : Value} (hl : lateWait md ops lt i = true) (hix : lt i = false) (hi : ops[i]? = some oi) (hsel : ∀ (j : Nat) (o : Oper) cs b, ops[j]? = some o → o.op ≠ .select cs b)
 (hQ : ∀ c a w, Q (.panic c) (a.put oi.dst v) w → Q (.panic c) a w) :
 ∀ (fuel : Nat) (listed : Array Bool) (a : Act) (w : World),
  (∀ j oj, ops[j]? = some oj → j ≠ i → listed.getD j true = false → (∀ e ∈ oj.after, Region.binds md e = true → e.on ≠ i) → oi.apart ops oj = true) →
  i ∈ Region.ready md ops listed → YieldsIf P ops S oi v a → S w →
  wpAnyM P md ops Q S lt fuel (listed.setIfInBounds i true) (a.put oi.dst v) w → wpAnyM P md ops Q S lt (fuel + 1) listed a w := by
 intro fuel
 induction fuel with
 | zero =>
  intro listed a w _ hr hy hS H
  refine ⟨fun h => (by rw [h] at hr; cases hr), fun j hj => ?_⟩
  by_cases hji : j = i
  · subst hji; exact hy.wpOp hi hS ⟨fun _ => hS, H⟩
  · have := ready_mono hj hji
    rw [H.1] at this
    cases this
 | succ fuel ih =>
  intro listed a w hfree hr hy hS H
  refine ⟨fun h => (by rw [h] at hr; cases hr), fun j hj => ?_⟩
  by_cases hji : j = i
  · subst hji; exact hy.wpOp hi hS ⟨fun _ => hS, H⟩
  · have hjx : lt j = false := by
     cases hq : lt j with
     | false => rfl
     | true =>
      have h1 := waitOn_waits (lateWait_at hl hq hj) hj
      have h0 := (mem_ready.1 hr).1
      rw [h1] at h0; cases h0
    have h1 := H.2 j (ready_mono hj hji)
    obtain ⟨hjun, oj, hoj, hall⟩ := mem_ready.1 hj
    have hnot : ∀ e ∈ oj.after, Region.binds md e = true → e.on ≠ i := fun e he hb heq => by
     have h1 := hall e he hb
     have h0 := (mem_ready.1 hr).1
     rw [heq] at h1
     rcases Nat.lt_or_ge i listed.size with h' | h'
     · simp [h'] at h0 h1; rw [h0] at h1; cases h1
     · simp [Array.getElem?_eq_none h'] at h1
    have h2 := wpOp_putIf hoj (hfree j oj hoj hji hjun hnot) (fun cs b => hsel i oi cs b hi) (fun cs b => hsel j oj cs b hoj) hQ hy h1
    have hfree' : ∀ k ok, ops[k]? = some ok → k ≠ i → (listed.setIfInBounds j true).getD k true = false →
     (∀ e ∈ ok.after, Region.binds md e = true → e.on ≠ i) → oi.apart ops ok = true := fun k ok hk hki hun hno => by
     refine hfree k ok hk hki ?_ hno
     by_cases hjk : j = k
     · subst hjk; exact hjun
     · rw [getD_set_ne true hjk] at hun; exact hun
    refine wpOp_mono (fun a' w' h3 => ⟨h3.2.1, ih (listed.setIfInBounds j true) a' w' hfree' (ready_mono hr (Ne.symm hji)) h3.1 (h3.2.1 hjx) ?_⟩) h2
    rw [Array.setIfInBounds_comm _ _ hji]
    exact h3.2.2
theorem late_take {i : Nat} {oi : Oper} {v : Value} {fuel : Nat} {listed : Array Bool} {a : Act} {w : World} (d : Option Tmp) (hl : lateWait md ops lt i = true) (hix : lt i = false) (hi : ops[i]? = some oi) (hd : oi.dst = d)
 (hs : Region.noSelect ops = true) (hf : Region.free md ops listed i = true) (hr : (Region.ready md ops listed).contains i = true)
 (hQ : ∀ c a w, Q (.panic c) (a.put oi.dst v) w → Q (.panic c) a w) (hw : Region.wanted oi (yielded ops a.tmps) = true) (hy : ∀ w, S w → (execOp a.eval oi).run P w = .ok (.value v) w) (hS : S w)
 (h : wpAnyM P md ops Q S lt fuel (listed.setIfInBounds i true) (a.put d v) w) : wpAnyM P md ops Q S lt (fuel + 1) listed a w := by
 subst hd
 exact wpAnyM_first hl hix hi (Region.noSelect_spec hs) hQ fuel listed a w (Region.free_spec hi hf) (by simpa using hr) (Or.inl ⟨hw, hy⟩) hS h
theorem late_tk {i : Nat} {oi : Oper} {v : Value} {fuel : Nat} {listed : Array Bool} {a : Act} {w : World} (d : Option Tmp) (hi : ops[i]? = some oi) (hy : ∀ w, S w → (execOp a.eval oi).run P w = .ok (.value v) w) (hS : S w)
 (h : wpAnyM P md ops Q S lt fuel (listed.setIfInBounds i true) (a.put d v) w) (hl : lateWait md ops lt i = true := by kernel_rfl) (hix : lt i = false := by rfl) (hd : oi.dst = d := by rfl)
 (hs : Region.noSelect ops = true := by kernel_rfl) (hf : Region.free md ops listed i = true := by kernel_rfl) (hr : (Region.ready md ops listed).contains i = true := by kernel_rfl)
 (hQ : ∀ c a w, Q (.panic c) (a.put oi.dst v) w → Q (.panic c) a w := by exact fun _ _ _ h => h) (hw : Region.wanted oi (yielded ops a.tmps) = true := by kernel_rfl) : wpAnyM P md ops Q S lt (fuel + 1) listed a w :=
 late_take d hl hix hi hd hs hf hr hQ hw hy hS h
theorem late_done {listed : Array Bool} {a : Act} {w : World} (hr : Region.ready md ops listed = []) (h : Q .normal a w) : ∀ fuel, wpAnyM P md ops Q S lt fuel listed a w
 | 0 => ⟨hr, h⟩
 | _ + 1 => ⟨fun _ => h, by rw [hr]; simp⟩
theorem late_one {i : Nat} {o : Oper} {fuel : Nat} {listed : Array Bool} {a : Act} {w : World} (hr : Region.ready md ops listed = [i]) (ho : ops[i]? = some o)
 (h : ∀ K' : Act → World → Prop, Shut (∀ a w, (lt i = false → S w) → wpAnyM P md ops Q S lt fuel (listed.setIfInBounds i true) a w → K' a w) → if Region.wanted o (yielded ops a.tmps) = true then Oper.wp P o a w K' Q else K' (a.put o.dst undef) w) :
 wpAnyM P md ops Q S lt (fuel + 1) listed a w := by
 refine ⟨fun h0 => (by rw [hr] at h0; cases h0), fun j hj => ?_⟩
 rw [hr] at hj
 rcases List.mem_cons.1 hj with rfl | hj
 · exact wpOp_step ho (fun K' hK => h K' (fun a w hS hW => hK a w ⟨hS, hW⟩))
 · cases hj
end
end
section
open Go.RowKit Go.Lib
theorem infoU9 : (Tryz.prog.info? 53).map (fun i => (i.zero, i.size, i.bytes)) = some (some (.agg uZero.toArray), 19, 208) := by kernel_rfl
theorem infoW9 : (Tryz.prog.info? 51).map (fun i => (i.zero, i.size, i.bytes)) = some (some (.agg wZero.toArray), 6, 56) := by kernel_rfl
theorem infoT9 : (Tryz.prog.info? 56).map (fun i => (i.zero, i.size, i.bytes)) = some (some (.agg tZero.toArray), 8, 96) := by kernel_rfl
def flatR (cs : Nat → List Value) (n : Nat) : List Value := (List.range n).flatMap cs
theorem flatR_succ (cs : Nat → List Value) (n : Nat) : flatR cs (n + 1) = flatR cs n ++ cs n := by unfold flatR; rw [List.range_succ, List.flatMap_append]; simp
theorem flatR_len {cs : Nat → List Value} {k : Nat} : ∀ (n : Nat), (∀ i, i < n → (cs i).length = k) → (flatR cs n).length = n * k
 | 0, _ => by simp [flatR]
 | n + 1, h => by rw [flatR_succ, List.length_append, flatR_len n fun i hi => h i (by omega), h n (by omega), Nat.succ_mul]
theorem flatR_mem {cs : Nat → List Value} {n : Nat} {x : Value} (h : x ∈ flatR cs n) : ∃ i, i < n ∧ x ∈ cs i := by
 obtain ⟨i, hi, hx⟩ := List.mem_flatMap.1 h
 exact ⟨i, List.mem_range.1 hi, hx⟩
theorem flatR_at {cs : Nat → List Value} {k : Nat} : ∀ (n : Nat), (∀ i, i < n → (cs i).length = k) → ∀ i, i < n → ∀ j, j < k → (flatR cs n)[i * k + j]? = (cs i)[j]?
 | 0, _, i, hi, _, _ => by omega
 | n + 1, h, i, hi, j, hj => by
  have hl := flatR_len n fun i hi => h i (by omega)
  rw [flatR_succ]
  by_cases e : i = n
  · subst e
    rw [List.getElem?_append_right (by omega), hl]
    congr 1
    omega
  · have h2 : i * k + j < n * k := by
     have : (i + 1) * k ≤ n * k := Nat.mul_le_mul_right k (by omega)
     rw [Nat.succ_mul] at this
     omega
    rw [List.getElem?_append_left (by omega)]
    exact flatR_at n (fun i hi => h i (by omega)) i (by omega) j hj
theorem row_src {w : World} {p : Option Addr} {n c k : Nat} {cs : Nat → List Value} (h : RowV w k (.slice p n c) n cs) (hk : 0 < k) (h1 : ∀ i, i < n → (cs i).length = k ∧ ∀ v ∈ cs i, v.oneCell' = true) : SrcV w p n k (flatR cs n) := by
 obtain ⟨q, d, e, hm, hc⟩ := h
 injection e with e1 _ _
 subst e1
 refine ⟨flatR_len n fun i hi => (h1 i hi).1, fun u hu => ?_, fun e => ?_, fun a e j u hu => ?_⟩
 · obtain ⟨i, hi, hx⟩ := flatR_mem hu
   exact (h1 i hi).2 u hx
 · rcases Nat.eq_zero_or_pos n with q | q
   · exact q
   · obtain ⟨g, o, e2, -⟩ := hc q
     rw [e] at e2
     cases e2
 · have hj : j < n * k := by rw [← flatR_len n fun i hi => (h1 i hi).1]; exact (List.getElem?_eq_some_iff.1 hu).1
   have hn : 1 ≤ n := by rcases Nat.eq_zero_or_pos n with q | q; · subst q; simp at hj
                         · exact q
   obtain ⟨g, o, e2, -, hi⟩ := hc hn
   rw [e] at e2
   injection e2 with e2
   subst e2
   have hd : j / k < n := Nat.div_lt_of_lt_mul (by rw [Nat.mul_comm]; exact hj)
   have hmo : j % k < k := Nat.mod_lt _ hk
   have hjj : j / k * k + j % k = j := by rw [Nat.mul_comm]; exact Nat.div_add_mod j k
   have h2 := flatR_at n (fun i hi => (h1 i hi).1) (j / k) hd (j % k) hmo
   rw [hjj, hu] at h2
   have h3 := (hi (j / k) hd).1 (j % k) u h2.symm
   rw [add_off, show o + j = o + j / k * k + j % k by rw [Nat.add_assoc, hjj]]
   exact h3
theorem own_byType {w w' : World} {B k n h : Nat} {e t : TypeId} {v : Value} {xs us : List Value} (ho : w.ownsRow B e k v n xs) (hb : Blk w h us t) (ne : e ≠ t) (hk : ∀ g, g ≠ h → w'.heap[g]? = w.heap[g]?) : w'.ownsRow B e k v n xs := by
 refine ⟨ho.1, ?_⟩
 rcases ho.2 with hn | ⟨g, cap, cur, rfl, hB, hgg, rest⟩
 · exact .inl hn
 · refine .inr ⟨g, cap, cur, rfl, hB, (hk g fun e => ?_).trans hgg, rest⟩
   subst e
   unfold Blk at hb
   rw [hb] at hgg
   injection hgg with hgg
   injection hgg with _ h2
   exact ne h2.symm
theorem own_blk {w : World} {B k n g c : Nat} {e : TypeId} {xs : List Value} (h : w.ownsRow B e k (.slice (some ⟨g, 0, none⟩) n c) n xs) : ∃ cur, Blk w g cur e ∧ n * k ≤ cur.length ∧ B ≤ g := by
 obtain ⟨hl, hn | ⟨g', cap, cur, he, hB, hg, hc, hm, hs, ht⟩⟩ := h
 · cases hn.1
 · injection he with e1 _ e3
   injection e1 with e1
   injection e1 with e1
   subst e1 e3
   exact ⟨cur.toList, by unfold Blk; rw [Array.toArray_toList]; exact hg, by rw [Array.length_toList, hs]; exact Nat.mul_le_mul_right k hc, hB⟩
theorem slatU {W : World} {v : Value} {n : Nat} {cs : Nat → List Value} (h : RowV W 19 v n cs) (l : List U9) (hl : l.length = n) (hu : ∀ i (hi : i < l.length), UL W (cs i) (l[i]'hi)) : SlAt UAt 19 W v l := by
 subst hl
 obtain ⟨p, c, rfl, hm, hc⟩ := h
 refine ⟨p, c, rfl, hm, fun h1 => ?_⟩
 obtain ⟨g, o, rfl, -, hi⟩ := hc h1
 refine ⟨g, o, rfl, fun i h => ?_⟩
 obtain ⟨sn, st, sr, e, a1, a2, a3⟩ := hu i h
 exact ⟨sn, st, sr, e ▸ (hi i h).1, a1, a2, a3⟩
theorem slatT {W : World} {v : Value} {n : Nat} {cs : Nat → List Value} (h : RowV W 8 v n cs) (l : List T9) (hl : l.length = n) (hu : ∀ i (hi : i < l.length), TL W (cs i) (l[i]'hi)) : SlAt TAt 8 W v l := by
 subst hl
 obtain ⟨p, c, rfl, hm, hc⟩ := h
 refine ⟨p, c, rfl, hm, fun h1 => ?_⟩
 obtain ⟨g, o, rfl, -, hi⟩ := hc h1
 refine ⟨g, o, rfl, fun i h => ?_⟩
 obtain ⟨sn, e, a1⟩ := hu i h
 exact ⟨sn, e ▸ (hi i h).1, a1⟩
theorem slatW {W : World} {v : Value} {n : Nat} {cs : Nat → List Value} (h : RowV W 6 v n cs) (l : List W9) (hl : l.length = n) (hu : ∀ i (hi : i < l.length), WL (cs i) (l[i]'hi)) : SlAt WAt 6 W v l := by
 subst hl
 obtain ⟨p, c, rfl, hm, hc⟩ := h
 refine ⟨p, c, rfl, hm, fun h1 => ?_⟩
 obtain ⟨g, o, rfl, -, hi⟩ := hc h1
 refine ⟨g, o, rfl, fun i h => ?_⟩
 have e : cs i = wCells (l[i]'h) := hu i h
 show CellsAt _ _ _ _
 rw [← e]
 exact (hi i h).1
theorem mod_all {α : Type} {R : List Value → α → Prop} {l : List α} {i : Nat} {F : α → α} {cs : Nat → List Value} {vs : List Value} (hi : i < l.length) (h : ∀ j (hj : j < l.length), R (cs j) (l[j]'hj)) (hv : R vs (F (l[i]'hi))) : ∀ j (hj : j < (l.modify i F).length), R (if j = i then vs else cs j) ((l.modify i F)[j]'hj) := fun j hj => by
 rw [List.getElem_modify]
 by_cases e : j = i
 · subst e
   rw [if_pos rfl, if_pos rfl]
   exact hv
 · rw [if_neg e, if_neg (fun q => e q.symm)]
   exact h j (by rwa [List.length_modify] at hj)
theorem StrSl.setFar {w : World} {sl : Value} {l : List ByteArray} {b j : Nat} {us : List Value} {t : TypeId} (h : StrSl w sl l) (hb : Blk w b us t) (hn : ∀ s, Value.string s ∉ us) (x : Value) : StrSl (w.setCell ⟨b, j, none⟩ x) sl l := by
 obtain ⟨p, c, rfl, hm, hc⟩ := h
 refine ⟨p, c, rfl, hm, fun h1 => ?_⟩
 obtain ⟨g, o, rfl, hi⟩ := hc h1
 refine ⟨g, o, rfl, fun i h => ?_⟩
 have h2 := hi i h
 have hne : g ≠ b := fun e => by
  subst e
  have h3 := (hb.cell (o + i)).symm.trans h2
  exact hn _ (List.mem_of_getElem? h3)
 rw [← h2]
 unfold World.cell?
 rw [Below.heap_setCell w _ x g hne]
theorem UL.setFar {w : World} {vs : List Value} {u : U9} {b j : Nat} {us : List Value} {t : TypeId} (h : UL w vs u) (hb : Blk w b us t) (hn : ∀ s, Value.string s ∉ us) (x : Value) : UL (w.setCell ⟨b, j, none⟩ x) vs u := by
 obtain ⟨sn, st, sr, e, a1, a2, a3⟩ := h
 exact ⟨sn, st, sr, e, a1.setFar hb hn x, a2.setFar hb hn x, a3.setFar hb hn x⟩
theorem TL.setFar {w : World} {vs : List Value} {u : T9} {b j : Nat} {us : List Value} {t : TypeId} (h : TL w vs u) (hb : Blk w b us t) (hn : ∀ s, Value.string s ∉ us) (x : Value) : TL (w.setCell ⟨b, j, none⟩ x) vs u := by
 obtain ⟨sn, e, a1⟩ := h
 exact ⟨sn, e, a1.setFar hb hn x⟩
theorem own_putIn {w : World} {B k n g c o : Nat} {e : TypeId} {xs vs : List Value} (h : w.ownsRow B e k (.slice (some ⟨g, 0, none⟩) n c) n xs) (ho : o + vs.length ≤ n * k) : (putCells w g o vs).ownsRow B e k (.slice (some ⟨g, 0, none⟩) n c) n (putRow xs o vs) := by
 obtain ⟨hl, hn | ⟨g', cap, cur, he, hB, hg, hc, hm, hs, ht⟩⟩ := h
 · cases hn.1
 · injection he with e1 _ e3
   injection e1 with e1
   injection e1 with e1
   subst e1 e3
   have hb : Blk w g cur.toList e := by unfold Blk; rw [Array.toArray_toList]; exact hg
   have hcur : n * k ≤ cur.toList.length := by rw [Array.length_toList, hs]; exact Nat.mul_le_mul_right k hc
   refine ⟨by rw [putRow_len, hl], .inr ⟨g, c, (putRow cur.toList o vs).toArray, rfl, hB, hb.putCells vs _ o, hc, hm, by rw [List.size_toArray, putRow_len, Array.length_toList, hs], ?_⟩⟩
   apply List.ext_getElem?
   intro j
   show ((putRow cur.toList o vs).take (n * k))[j]? = _
   rw [List.getElem?_take, putRow_at _ _ _ _ (by omega), putRow_at _ _ _ _ (by rw [hl]; exact ho), ← ht, List.getElem?_take]
   by_cases h1 : j < n * k
   · rw [if_pos h1, if_pos h1]
   · rw [if_neg h1, if_neg (by omega), if_neg h1]
theorem flatR_put {cs : Nat → List Value} {k n i : Nat} {x : List Value} (hk : 0 < k) (h : ∀ j, j < n → (cs j).length = k) (hi : i < n) (hx : x.length = k) : putRow (flatR cs n) (i * k) x = flatR (fun j => if j = i then x else cs j) n := by
 have h' : ∀ j, j < n → (if j = i then x else cs j).length = k := fun j hj => by
  split
  · exact hx
  · exact h j hj
 have hl := flatR_len n h
 have hik : i * k + k ≤ n * k := by
  have := Nat.mul_le_mul_right k (show i + 1 ≤ n by omega)
  rwa [Nat.succ_mul] at this
 apply List.ext_getElem?
 intro j
 rw [putRow_at _ _ _ _ (by rw [hl, hx]; exact hik), hx]
 by_cases hj : j < n * k
 · have hd : j / k < n := Nat.div_lt_of_lt_mul (by rw [Nat.mul_comm]; exact hj)
   have hmo : j % k < k := Nat.mod_lt _ hk
   have hjj : j / k * k + j % k = j := by rw [Nat.mul_comm]; exact Nat.div_add_mod j k
   have a1 := flatR_at n h (j / k) hd (j % k) hmo
   have a2 := flatR_at n h' (j / k) hd (j % k) hmo
   rw [hjj] at a1 a2
   rw [a1, a2]
   by_cases e : j / k = i
   · rw [if_pos e, ← e, if_pos (by omega)]
     congr 1
     omega
   · rw [if_neg e, if_neg]
     rintro ⟨b1, b2⟩
     apply e
     refine Nat.div_eq_of_lt_le b1 ?_
     rw [Nat.succ_mul]
     exact b2
 · rw [if_neg (by omega), List.getElem?_eq_none (by omega), List.getElem?_eq_none (by rw [flatR_len n h']; omega)]
theorem own_g {w : World} {B k n c m : Nat} {q : Option Addr} {e : TypeId} {xs : List Value} (h : w.ownsRow B e k (.slice q m c) n xs) (h1 : 1 ≤ n) : ∃ g, q = some ⟨g, 0, none⟩ := by
 obtain ⟨-, hn | ⟨g, cap, cur, he, -⟩⟩ := h
 · omega
 · injection he with e1
   exact ⟨g, e1⟩
theorem own_rowV {w : World} {B k n c : Nat} {q : Option Addr} {e : TypeId} {cs : Nat → List Value} (h : w.ownsRow B e k (.slice q n c) n (flatR cs n)) (hm : n ≤ 10000) (hk : ∀ i, i < n → (cs i).length = k) : RowV w k (.slice q n c) n cs := by
 refine ⟨q, c, rfl, by unfold maxLen; omega, fun h1 => ?_⟩
 obtain ⟨hl, hn | ⟨g, cap, cur, he, hB, hg, hc, hM, hs, ht⟩⟩ := h
 · omega
 · injection he with e1 _ e3
   subst e1 e3
   refine ⟨g, 0, rfl, (Array.getElem?_eq_some_iff.1 hg).1, fun i hi => ⟨fun j v hj => ?_, hk i hi⟩⟩
   have hjk : j < k := by rw [← hk i hi]; exact (List.getElem?_eq_some_iff.1 hj).1
   have h2 := flatR_at n hk i hi j hjk
   rw [hj, ← ht, List.getElem?_take] at h2
   have hb : Blk w g cur.toList e := by unfold Blk; rw [Array.toArray_toList]; exact hg
   have h3 := hb.cell (i * k + j)
   rw [Nat.zero_add]
   refine h3.trans ?_
   split at h2
   · exact h2
   · cases h2
theorem zero_rules (W : World) : RAt W (.slice none 0 0) (.slice none 0 0) (.slice none 0 0) R9.zero := by
 refine ⟨⟨none, 0, rfl, Nat.zero_le _, fun h => ?_⟩, ⟨none, 0, rfl, Nat.zero_le _, fun h => ?_⟩, ⟨none, 0, rfl, Nat.zero_le _, fun h => ?_⟩⟩ <;> exact absurd h (Nat.not_succ_le_zero 0)
end

end Go.Proofs.YtnjcdmjaecgblaaGreatDoor
