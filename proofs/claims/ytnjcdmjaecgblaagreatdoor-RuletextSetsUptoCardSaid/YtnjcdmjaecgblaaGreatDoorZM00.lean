/-
  Rules as text: a value that is read has the text that was read; the text of a good value is read as this value. No program is named here; Rules as text: what a field holds behind a change of it. No program is named here; Rules as text: what Get answers behind Set, and that a value set anew changes nothing. No program is named here; Pieces of texts, for the walks over rules as text. No program is named here; Sizes of rules: what the laws of ruletext examine; What the reference of rules answers: names, elements, limits; What the laws of ruletext ask of the functions.
-/
import Derived.Test.YtnjcdmjaecgblaaGreatDoorZD00
import Derived.Test.YtnjcdmjaecgblaaGreatDoorZG00
namespace Go.Proofs.YtnjcdmjaecgblaaGreatDoor
section
open Go.RowKit Go.Lib
theorem join_parts : ∀ (n : Nat) (s : List UInt8), s.length ≤ n → joinC ((parts 44 s).map toB) = s := by
 intro n
 induction n with
 | zero =>
  intro s hs
  obtain rfl : s = [] := List.eq_nil_of_length_eq_zero (by omega)
  show joinC [toB []] = []
  rw [joinC, toB_list]
 | succ n ih =>
  intro s hs
  rw [parts_cut]
  split
  · rename_i hc
    have hl := cutC_len s hc
    have he := (cutC_yes s hc).2
    have hi := ih (cutC 44 s).2.1 (by omega)
    cases hp : parts 44 (cutC 44 s).2.1 with
    | nil => exact absurd hp (parts_ne _ _)
    | cons a l =>
     rw [hp] at hi
     rw [List.map_cons, List.map_cons, joinC, toB_list]
     rw [List.map_cons] at hi
     rw [hi]
     exact he.symm
  · rw [List.map_cons, List.map_nil, joinC, toB_list]
theorem list_text {s : List UInt8} {l : List ByteArray} (h : listv s = some l) : joinC l = s ∧ ¬ l = [] ∧ ∀ x ∈ l, nameB x.toList = true := by
 unfold listv at h
 split at h
 · rename_i hc
   injection h with h
   subst h
   refine ⟨join_parts _ s (Nat.le_refl _), fun e => parts_ne 44 s (List.map_eq_nil_iff.1 e), fun x hx => ?_⟩
   obtain ⟨y, hy, rfl⟩ := List.mem_map.1 hx
   rw [toB_list]
   exact List.all_eq_true.1 hc y hy
 · cases h
theorem read_text {t : Int} {s : List UInt8} {v : V10} (h : readv t s = some v) : textL t v = s := by
 unfold readv at h
 unfold textL
 by_cases h1 : t = 1
 · rw [if_pos h1] at h ⊢
   obtain ⟨n, hn, rfl⟩ := Option.map_eq_some_iff.1 h
   exact (int_some hn).1
 rw [if_neg h1] at h ⊢
 by_cases h2 : t = 2
 · rw [if_pos h2] at h ⊢
   by_cases hy : s = yesB
   · rw [if_pos hy] at h
     injection h with h
     subst h hy
     rfl
   · rw [if_neg hy] at h
     by_cases hn : s = noB
     · rw [if_pos hn] at h
       injection h with h
       subst h hn
       rfl
     · rw [if_neg hn] at h
       cases h
 rw [if_neg h2] at h ⊢
 by_cases h3 : t = 3
 · rw [if_pos h3] at h ⊢
   by_cases hd : s = dashB
   · rw [if_pos hd] at h
     injection h with h
     subst h hd
     rfl
   · rw [if_neg hd] at h
     by_cases hn : nameB s = true
     · rw [if_pos hn] at h
       injection h with h
       subst h
       have hne : ¬ toB s = ⟨#[]⟩ := fun e => name_ne hn (by rw [← toB_list s, e, empty_list])
       show (if toB s = ⟨#[]⟩ then dashB else (toB s).toList) = s
       rw [if_neg hne, toB_list]
     · rw [if_neg hn] at h
       cases h
 rw [if_neg h3] at h ⊢
 by_cases hd : s = dashB
 · rw [if_pos hd] at h
   injection h with h
   subst h hd
   rfl
 · rw [if_neg hd] at h
   obtain ⟨l, hl, rfl⟩ := Option.map_eq_some_iff.1 h
   obtain ⟨k1, k2, -⟩ := list_text hl
   show (if l = [] then dashB else joinC l) = s
   rw [if_neg k2, k1]
end
section
open Go.RowKit Go.Lib
def Sort10 (t : Int) (v : V10) : Prop := (t = 1 ∧ v = ⟨v.n, false, ⟨#[]⟩, []⟩) ∨ (t = 2 ∧ v = ⟨0, v.b, ⟨#[]⟩, []⟩) ∨ (t = 3 ∧ v = ⟨0, false, v.s, []⟩) ∨ (t = 4 ∧ v = ⟨0, false, ⟨#[]⟩, v.l⟩)
theorem read_sort {t : Int} {s : List UInt8} {v : V10} (ht : t = 1 ∨ t = 2 ∨ t = 3 ∨ t = 4) (h : readv t s = some v) : Sort10 t v := by
 unfold readv at h
 rcases ht with rfl | rfl | rfl | rfl
 · obtain ⟨n, _, rfl⟩ := Option.map_eq_some_iff.1 (show (intv s).map _ = some v from h)
   exact .inl ⟨rfl, rfl⟩
 · replace h : (if s = yesB then some (⟨0, true, ⟨#[]⟩, []⟩ : V10) else if s = noB then some V10.zero else none) = some v := h
   refine .inr (.inl ⟨rfl, ?_⟩)
   split at h
   · injection h with h; subst h; rfl
   · split at h
     · injection h with h; subst h; rfl
     · cases h
 · replace h : (if s = dashB then some V10.zero else if nameB s = true then some ⟨0, false, toB s, []⟩ else none) = some v := h
   refine .inr (.inr (.inl ⟨rfl, ?_⟩))
   split at h
   · injection h with h; subst h; rfl
   · split at h
     · injection h with h; subst h; rfl
     · cases h
 · replace h : (if s = dashB then some V10.zero else (listv s).map fun l => (⟨0, false, ⟨#[]⟩, l⟩ : V10)) = some v := h
   refine .inr (.inr (.inr ⟨rfl, ?_⟩))
   split at h
   · injection h with h; subst h; rfl
   · obtain ⟨l, _, rfl⟩ := Option.map_eq_some_iff.1 h
     rfl
theorem sort_one (f : ByteArray) : sortv f = 1 ∨ sortv f = 2 ∨ sortv f = 3 ∨ sortv f = 4 := by
 unfold sortv
 (repeat' split) <;> simp
set_option maxRecDepth 100000 in
theorem ofU_with (u : U9) (f : ByteArray) (v : V10) (h : f ∈ fieldsv 1) (hs : Sort10 (sortv f) v) : ofUv (withUv u f v) f = v := by
 rw [fieldsU] at h
 simp only [List.mem_cons, List.not_mem_nil, or_false] at h
 obtain ⟨n, b, s, l⟩ := v
 rcases h with rfl | rfl | rfl | rfl | rfl | rfl | rfl | rfl | rfl | rfl | rfl | rfl | rfl | rfl | rfl | rfl | rfl | rfl <;>
  (rcases hs with ⟨h1, h2⟩ | ⟨h1, h2⟩ | ⟨h1, h2⟩ | ⟨h1, h2⟩ <;> first | (exfalso; revert h1; decide) | (dsimp only at h2; rw [V10.mk.injEq] at h2; obtain ⟨h3, h4, h5, h6⟩ := h2; clear h1; subst_vars; rfl))
set_option maxRecDepth 100000 in
theorem ofW_with (u : W9) (f : ByteArray) (v : V10) (h : f ∈ fieldsv 2) (hs : Sort10 (sortv f) v) : ofWv (withWv u f v) f = v := by
 rw [fieldsW] at h
 simp only [List.mem_cons, List.not_mem_nil, or_false] at h
 obtain ⟨n, b, s, l⟩ := v
 rcases h with rfl | rfl | rfl | rfl | rfl <;>
  (rcases hs with ⟨h1, h2⟩ | ⟨h1, h2⟩ | ⟨h1, h2⟩ | ⟨h1, h2⟩ <;> first | (exfalso; revert h1; decide) | (dsimp only at h2; rw [V10.mk.injEq] at h2; obtain ⟨h3, h4, h5, h6⟩ := h2; clear h1; subst_vars; rfl))
set_option maxRecDepth 100000 in
theorem ofT_with (u : T9) (f : ByteArray) (v : V10) (h : f ∈ fieldsv 3) (hs : Sort10 (sortv f) v) : ofTv (withTv u f v) f = v := by
 rw [fieldsT] at h
 simp only [List.mem_cons, List.not_mem_nil, or_false] at h
 obtain ⟨n, b, s, l⟩ := v
 rcases h with rfl | rfl | rfl | rfl | rfl | rfl | rfl <;>
  (rcases hs with ⟨h1, h2⟩ | ⟨h1, h2⟩ | ⟨h1, h2⟩ | ⟨h1, h2⟩ <;> first | (exfalso; revert h1; decide) | (dsimp only at h2; rw [V10.mk.injEq] at h2; obtain ⟨h3, h4, h5, h6⟩ := h2; clear h1; subst_vars; rfl))
end
section
open Go.RowKit Go.Lib
theorem withU_nm (u : U9) (f : ByteArray) (v : V10) : (withUv u f v).nm = u.nm := by unfold withUv; simp only [apply_ite U9.nm, ite_self]
theorem withW_nm (u : W9) (f : ByteArray) (v : V10) : (withWv u f v).nm = u.nm := by unfold withWv; simp only [apply_ite W9.nm, ite_self]
theorem withT_nm (u : T9) (f : ByteArray) (v : V10) : (withTv u f v).nm = u.nm := by unfold withTv; simp only [apply_ite T9.nm, ite_self]
theorem map_modify {α β : Type} {f : α → β} {g : α → α} (h : ∀ x, f (g x) = f x) (l : List α) (i : Nat) : (l.modify i g).map f = l.map f := by
 refine List.ext_getElem (by simp) fun j h1 h2 => ?_
 rw [List.getElem_map, List.getElem_map, List.getElem_modify]
 split
 · rw [h]
 · rfl
theorem names_set3 (r : R9) (k : Int) (i : Nat) (f : ByteArray) (v : V10) : namesU (setK10 r k i f v) = namesU r ∧ namesW (setK10 r k i f v) = namesW r ∧ namesT (setK10 r k i f v) = namesT r := by
 unfold setK10 namesU namesW namesT
 by_cases h1 : k = 1
 · rw [if_pos h1]
   exact ⟨map_modify (fun u => withU_nm u f v) _ _, rfl, rfl⟩
 rw [if_neg h1]
 by_cases h2 : k = 2
 · rw [if_pos h2]
   exact ⟨rfl, map_modify (fun u => withW_nm u f v) _ _, rfl⟩
 rw [if_neg h2]
 by_cases h3 : k = 3
 · rw [if_pos h3]
   exact ⟨rfl, rfl, map_modify (fun u => withT_nm u f v) _ _⟩
 rw [if_neg h3]
 exact ⟨rfl, rfl, rfl⟩
theorem names_set (r : R9) (k j : Int) (i : Nat) (f : ByteArray) (v : V10) : namesK (setK10 r k i f v) j = namesK r j := by
 obtain ⟨h1, h2, h3⟩ := names_set3 r k i f v
 unfold namesK
 rw [h1, h2, h3]
theorem getD_modify {α : Type} (l : List α) (i : Nat) (g : α → α) (d : α) (h : i < l.length) : (l.modify i g).getD i d = g (l.getD i d) := by
 rw [List.getD_eq_getElem?_getD, List.getD_eq_getElem?_getD, List.getElem?_modify, List.getElem?_eq_getElem h]
 simp
theorem value_set {r : R9} {k : Int} {i : Nat} {f : ByteArray} {v : V10} (hf : f ∈ fieldsv k) (hi : i < (namesK r k).length) (hs : Sort10 (sortv f) v) : valueK (setK10 r k i f v) k i f = v := by
 obtain ⟨n1, n2, n3⟩ := names_len r
 rcases kind_of hf with rfl | rfl | rfl
 · rw [n1] at hi
   show ofUv ((r.us.modify i fun u => withUv u f v).getD i U9.zero) f = v
   rw [getD_modify _ _ _ _ hi]
   exact ofU_with _ _ _ hf hs
 · rw [n2] at hi
   show ofWv ((r.ws.modify i fun u => withWv u f v).getD i W9.zero) f = v
   rw [getD_modify _ _ _ _ hi]
   exact ofW_with _ _ _ hf hs
 · rw [n3] at hi
   show ofTv ((r.ts.modify i fun u => withTv u f v).getD i T9.zero) f = v
   rw [getD_modify _ _ _ _ hi]
   exact ofT_with _ _ _ hf hs
theorem set_get {r n : R9} {k : Int} {nm f : ByteArray} {s : List UInt8} (h : setv10 r k nm f s = (n, 0)) : getv10 n k nm f = some s := by
 unfold setv10 at h
 by_cases ht : typev k f = 0
 · rw [if_pos ht] at h
   injection h with _ h
   cases h
 rw [if_neg ht] at h
 by_cases hn : findv (namesK r k) nm < 0
 · rw [if_pos hn] at h
   injection h with _ h
   cases h
 rw [if_neg hn] at h
 cases hr : readv (typev k f) s with
 | none =>
  rw [hr] at h
  injection h with _ h
  cases h
 | some v =>
  rw [hr] at h
  injection h with h _
  subst h
  obtain ⟨hf, he⟩ := type_of ht
  rw [he] at hr
  unfold getv10
  rw [if_neg ht, names_set, if_neg hn, value_set hf (findv_at hn) (read_sort (sort_one f) hr), he, read_text hr]
end
section
open Go.RowKit Go.Lib
theorem rt_ext (s : ByteArray) (i j : Nat) : s.extract i j = toB ((s.data.toList.drop i).take (j - i)) := by
 apply ByteArray.ext
 rw [ByteArray.data_extract]
 unfold toB
 apply Array.toList_inj.1
 rw [Array.toList_extract]
theorem rt_getD {s : ByteArray} {k : Nat} (hk : k < s.size) : s.data.toList[k]'(by rw [rt_size]; exact hk) = s[k]'hk := rfl
theorem rt_drop {s : ByteArray} {k : Nat} (hk : k < s.size) : s.data.toList.drop k = s[k]'hk :: s.data.toList.drop (k + 1) := List.drop_eq_getElem_cons (by rw [rt_size]; exact hk)
theorem rt_take {s : ByteArray} {k : Nat} (hk : k < s.size) : s.data.toList.take (k + 1) = s.data.toList.take k ++ [s[k]'hk] := List.take_succ_eq_append_getElem (by rw [rt_size]; exact hk)
theorem rt_free {s : ByteArray} {c : UInt8} {i k : Nat} (hk : k < s.size) (hi : i ≤ k) (h : c ∉ (s.data.toList.drop i).take (k - i)) (hc : ¬ s[k]'hk = c) : c ∉ (s.data.toList.drop i).take (k + 1 - i) := by
 rw [show k + 1 - i = (k - i) + 1 by omega, List.take_succ_eq_append_getElem (by rw [List.length_drop, rt_size]; omega), List.mem_append, not_or]
 refine ⟨h, fun q => ?_⟩
 rw [List.mem_singleton, List.getElem_drop] at q
 apply hc
 rw [q]
 show s.data[k] = _
 simp [show i + (k - i) = k by omega]
theorem rt_here {s : ByteArray} {c : UInt8} {i k : Nat} (hk : k < s.size) (hi : i ≤ k) (h : c ∉ (s.data.toList.drop i).take (k - i)) (hc : s[k]'hk = c) : parts c (s.data.toList.drop i) = (s.data.toList.drop i).take (k - i) :: parts c (s.data.toList.drop (k + 1)) := by
 have e : s.data.toList.drop i = (s.data.toList.drop i).take (k - i) ++ c :: s.data.toList.drop (k + 1) := by
  conv => lhs; rw [← List.take_append_drop (k - i) (s.data.toList.drop i)]
  congr 1
  rw [List.drop_drop, show i + (k - i) = k by omega, rt_drop hk, hc]
 conv => lhs; rw [e]
 exact parts_of _ _ h
theorem rt_last {s : ByteArray} {c : UInt8} {i : Nat} (h : c ∉ (s.data.toList.drop i).take (s.size - i)) : parts c (s.data.toList.drop i) = [(s.data.toList.drop i).take (s.size - i)] := by
 have h2 : (s.data.toList.drop i).take (s.size - i) = s.data.toList.drop i := List.take_of_length_le (by rw [List.length_drop, rt_size]; omega)
 rw [h2] at h ⊢
 exact parts_one _ h
end
section
open Go.RowKit Go.Lib
theorem okU_with {u : U9} {f : ByteArray} {v : V10} (h : OkU u) (hv : int64v v.n) : OkU (withUv u f v) := by
 obtain ⟨a1, a2, a3, a4, a5, a6, a7, a8, a9, a10, a11, a12⟩ := h
 unfold withUv
 repeat' (refine ite_all (P := OkU) ?_ ?_)
 all_goals (refine ⟨?_, ?_, ?_, ?_, ?_, ?_, ?_, ?_, ?_, ?_, ?_, ?_⟩ <;> assumption)
theorem okW_with {u : W9} {f : ByteArray} {v : V10} (h : OkW u) (hv : int64v v.n) : OkW (withWv u f v) := by
 obtain ⟨a1, a2, a3, a4, a5⟩ := h
 unfold withWv
 repeat' (refine ite_all (P := OkW) ?_ ?_)
 all_goals (refine ⟨?_, ?_, ?_, ?_, ?_⟩ <;> assumption)
theorem okT_with {u : T9} {f : ByteArray} {v : V10} (h : OkT u) (hv : int64v v.n) : OkT (withTv u f v) := by
 obtain ⟨a1, a2, a3, a4, a5⟩ := h
 unfold withTv
 repeat' (refine ite_all (P := OkT) ?_ ?_)
 all_goals (refine ⟨?_, ?_, ?_, ?_, ?_⟩ <;> assumption)
theorem shU_with {u : U9} {f : ByteArray} {v : V10} {N : Nat} (h : u.wpn.size ≤ N ∧ szL u.needs ≤ N ∧ szL u.trains ≤ N ∧ szL u.ress ≤ N) (hs : v.s.size ≤ N) (hl : szL v.l ≤ N) : (withUv u f v).wpn.size ≤ N ∧ szL (withUv u f v).needs ≤ N ∧ szL (withUv u f v).trains ≤ N ∧ szL (withUv u f v).ress ≤ N := by
 obtain ⟨a, b, c, d⟩ := h
 unfold withUv
 repeat' (refine ite_all (P := fun u : U9 => u.wpn.size ≤ N ∧ szL u.needs ≤ N ∧ szL u.trains ≤ N ∧ szL u.ress ≤ N) ?_ ?_)
 all_goals (refine ⟨?_, ?_, ?_, ?_⟩ <;> assumption)
theorem shT_with {u : T9} {f : ByteArray} {v : V10} {N : Nat} (h : u.un.size ≤ N ∧ szL u.needs ≤ N) (hs : v.s.size ≤ N) (hl : szL v.l ≤ N) : (withTv u f v).un.size ≤ N ∧ szL (withTv u f v).needs ≤ N := by
 obtain ⟨a, b⟩ := h
 unfold withTv
 repeat' (refine ite_all (P := fun u : T9 => u.un.size ≤ N ∧ szL u.needs ≤ N) ?_ ?_)
 all_goals (refine ⟨?_, ?_⟩ <;> assumption)
theorem mod_mem {α : Type} {p : α → Prop} {l : List α} {i : Nat} {F : α → α} (h : ∀ x ∈ l, p x) (hF : ∀ x, p x → p (F x)) : ∀ x ∈ l.modify i F, p x := by
 intro x hx
 obtain ⟨j, hj, rfl⟩ := List.mem_iff_getElem.1 hx
 rw [List.length_modify] at hj
 rw [List.getElem_modify]
 split
 · exact hF _ (h _ (List.getElem_mem hj))
 · exact h _ (List.getElem_mem hj)
theorem okR_set {r : R9} {k : Int} {i : Nat} {f : ByteArray} {v : V10} (h : OkR r) (hv : int64v v.n) : OkR (setK10 r k i f v) := by
 obtain ⟨a, b, c⟩ := h
 unfold setK10
 repeat' split
 · exact ⟨mod_mem a fun x hx => okU_with hx hv, b, c⟩
 · exact ⟨a, mod_mem b fun x hx => okW_with hx hv, c⟩
 · exact ⟨a, b, mod_mem c fun x hx => okT_with hx hv⟩
 · exact ⟨a, b, c⟩
theorem shR_set {r : R9} {k : Int} {i : Nat} {f : ByteArray} {v : V10} {N : Nat} (h : ShR N r) (hs : v.s.size ≤ N) (hl : szL v.l ≤ N) : ShR N (setK10 r k i f v) := by
 obtain ⟨a, b⟩ := h
 unfold setK10
 repeat' split
 · exact ⟨mod_mem a fun x hx => shU_with hx hs hl, b⟩
 · exact ⟨a, b⟩
 · exact ⟨a, mod_mem b fun x hx => shT_with hx hs hl⟩
 · exact ⟨a, b⟩
theorem joinC_sz : ∀ {l : List ByteArray}, l ≠ [] → (joinC l).length + 1 = szL l
 | [], h => absurd rfl h
 | [a], _ => by
  rw [szL_cons]
  show a.toList.length + 1 = _
  rw [Lib.toList_data, rt_size]
  show _ = 1 + a.size + 0
  omega
 | a :: b :: l, _ => by
  have := joinC_sz (l := b :: l) (by simp)
  rw [szL_cons]
  show (a.toList ++ 44 :: joinC (b :: l)).length + 1 = _
  rw [List.length_append, List.length_cons, Lib.toList_data, rt_size]
  omega
theorem read_sizes {t : Int} {s : List UInt8} {v : V10} (h : readv t s = some v) : int64v v.n ∧ v.s.size ≤ s.length ∧ szL v.l ≤ s.length + 1 := by
 have ht := read_text h
 have z : int64v 0 := by unfold int64v; omega
 unfold readv at h
 unfold textL at ht
 by_cases h1 : t = 1
 · rw [if_pos h1] at h
   obtain ⟨n, hn, rfl⟩ := Option.map_eq_some_iff.1 h
   unfold intv at hn
   split at hn
   · rename_i q
     injection hn with hn
     subst hn
     exact ⟨q.1, Nat.zero_le _, Nat.zero_le _⟩
   · cases hn
 rw [if_neg h1] at h ht
 by_cases h2 : t = 2
 · rw [if_pos h2] at h
   split at h
   · injection h with h
     subst h
     exact ⟨z, Nat.zero_le _, Nat.zero_le _⟩
   · split at h
     · injection h with h
       subst h
       exact ⟨z, Nat.zero_le _, Nat.zero_le _⟩
     · cases h
 rw [if_neg h2] at h ht
 by_cases h3 : t = 3
 · rw [if_pos h3] at h ht
   split at h
   · injection h with h
     subst h
     exact ⟨z, Nat.zero_le _, Nat.zero_le _⟩
   · split at h
     · injection h with h
       subst h
       refine ⟨z, ?_, Nat.zero_le _⟩
       show (toB s).size ≤ _
       rw [← rt_size, ← Lib.toList_data, toB_list]
       exact Nat.le_refl _
     · cases h
 rw [if_neg h3] at h ht
 split at h
 · injection h with h
   subst h
   exact ⟨z, Nat.zero_le _, Nat.zero_le _⟩
 · obtain ⟨l, hl, rfl⟩ := Option.map_eq_some_iff.1 h
   refine ⟨z, Nat.zero_le _, ?_⟩
   show szL l ≤ _
   by_cases hn : l = []
   · subst hn
     exact Nat.zero_le _
   · have := joinC_sz hn
     rw [if_neg (show ¬ l = [] from hn)] at ht
     have ht2 := congrArg List.length ht
     dsimp only at ht2
     omega
theorem set_ok {r n : R9} {k e : Int} {nm f : ByteArray} {s : List UInt8} {N : Nat} (h : setv10 r k nm f s = (n, e)) (hI : OkR r) (hS : ShR N r) (hs : s.length + 1 ≤ N) : OkR n ∧ ShR N n := by
 have z : OkR R9.zero ∧ ShR N R9.zero := ⟨⟨fun _ h => absurd h List.not_mem_nil, fun _ h => absurd h List.not_mem_nil, fun _ h => absurd h List.not_mem_nil⟩, fun _ h => absurd h List.not_mem_nil, fun _ h => absurd h List.not_mem_nil⟩
 unfold setv10 at h
 by_cases h1 : typev k f = 0
 · rw [if_pos h1] at h
   injection h with h _
   subst h
   exact z
 rw [if_neg h1] at h
 by_cases h2 : findv (namesK r k) nm < 0
 · rw [if_pos h2] at h
   injection h with h _
   subst h
   exact z
 rw [if_neg h2] at h
 cases hr : readv (typev k f) s with
 | none =>
  rw [hr] at h
  injection h with h _
  subst h
  exact z
 | some v =>
  rw [hr] at h
  injection h with h _
  subst h
  obtain ⟨a, b, c⟩ := read_sizes hr
  exact ⟨okR_set hI a, shR_set hS (by omega) (by omega)⟩
theorem set_len {r n : R9} {k e : Int} {nm f : ByteArray} {s : List UInt8} (h : setv10 r k nm f s = (n, e)) : n.us.length ≤ r.us.length ∧ n.ws.length ≤ r.ws.length ∧ n.ts.length ≤ r.ts.length := by
 have z : ∀ n : R9, n = R9.zero → n.us.length ≤ r.us.length ∧ n.ws.length ≤ r.ws.length ∧ n.ts.length ≤ r.ts.length := fun n h => by
  subst h
  exact ⟨Nat.zero_le _, Nat.zero_le _, Nat.zero_le _⟩
 unfold setv10 at h
 by_cases h1 : typev k f = 0
 · rw [if_pos h1] at h
   injection h with h _
   exact z _ h.symm
 rw [if_neg h1] at h
 by_cases h2 : findv (namesK r k) nm < 0
 · rw [if_pos h2] at h
   injection h with h _
   exact z _ h.symm
 rw [if_neg h2] at h
 cases hr : readv (typev k f) s with
 | none =>
  rw [hr] at h
  injection h with h _
  exact z _ h.symm
 | some v =>
  rw [hr] at h
  injection h with h _
  subst h
  unfold setK10
  repeat' split
  all_goals first | (simp only [List.length_modify]; omega) | omega
end
section
section
open Go.RowKit Go.Lib
theorem TL.below {W w' : World} {vs : List Value} {u : T9} (h : TL W vs u) (hb : Below W.heap.size W w') : TL w' vs u := by
 obtain ⟨sn, h0, h1⟩ := h
 exact ⟨sn, h0, h1.below hb⟩
end
end
section
open Go.RowKit Go.Lib
abbrev RSetP : Prop := ∀ (su sw st : Value) (r R : R9) (er k : Int) (nm f s : ByteArray) (W : World), RAt W su sw st r → s.size ≤ 50000 → r.us.length ≤ 10000 → r.ws.length ≤ 10000 → r.ts.length ≤ 10000 → Hid ((R, er) = setv10 r k nm f s.toList) →
 Calls Tryz.prog 17 #[.agg #[su, sw, st], .int .i64 k, .string nm, .string f, .string s] W fun e w' => ∃ tu tw tt, e = .returned (.tuple #[.agg #[tu, tw, tt], .int .i64 er]) ∧ RAt w' tu tw tt R ∧ Below W.heap.size W w'
end

end Go.Proofs.YtnjcdmjaecgblaaGreatDoor
