/-
  The numbers of grid and terrain; The numbers, names and texts of map files, as plain functions; Rules, and the order in which names become available, as plain functions; Rules as text: a value that is read has the text that was read; the text of a good value is read as this value. No program is named here; Rules as text: what a field holds behind a change of it. No program is named here; Rules as text: what Get answers behind Set, and that a value set anew changes nothing. No program is named here; Rules as text: rules are read back from their text. No program is named here; Pieces of texts, for the walks over rules as text. No program is named here; Sizes of rules: what the laws of ruletext examine; The imports of the walks and small facts on endings. No program is named here; Blocks of cells that the call itself made, known whole: read, stored into, kept behind calls that only make memory. No program is named here.
-/
import Derived.Test.YtnjcdmjaecgblaaGreatDoorZG00
namespace Go.Proofs.YtnjcdmjaecgblaaGreatDoor
section
section
open Go.RowKit Go.Lib
structure C3 where
 k : Int
 h : Int
 a : Int
deriving DecidableEq
end
end
section
section
open Go.RowKit Go.Lib
theorem parts_free {c : UInt8} : ∀ (n : Nat) (l : List UInt8), l.length ≤ n → ∀ x ∈ parts c l, c ∉ x := by
 intro n
 induction n with
 | zero =>
  intro l h x hx
  obtain rfl := List.eq_nil_of_length_eq_zero (show l.length = 0 by omega)
  rw [List.mem_singleton.1 (show x ∈ [[]] from hx)]
  simp
 | succ n ih =>
  intro l h x hx
  rw [parts_cut] at hx
  cases hc : (cutC c l).2.2 with
  | true =>
   rw [if_pos hc, List.mem_cons] at hx
   rcases hx with rfl | hx
   · exact (cutC_yes l hc).1
   · exact ih _ (by have := cutC_len l hc; omega) x hx
  | false =>
   rw [if_neg (by rw [hc]; simp)] at hx
   rw [List.mem_singleton.1 hx]
   exact (cutC_no l hc).1
theorem lines_join : ∀ (n : Nat) (s : List UInt8), s.length ≤ n → s = (linesB s).flatMap (fun l => l ++ [10]) ++ tailB s := by
 intro n
 induction n with
 | zero => intro s h; rw [List.eq_nil_of_length_eq_zero (show s.length = 0 by omega)]; rfl
 | succ n ih =>
  intro s h
  cases hc : (cutC 10 s).2.2 with
  | true =>
   obtain ⟨e1, e2⟩ := linesB_yes hc
   obtain ⟨_, e⟩ := cutC_yes s hc
   have := ih (cutC 10 s).2.1 (by have := cutC_len s hc; omega)
   rw [e1, e2, List.flatMap_cons, List.append_assoc, ← this, List.append_assoc]
   exact e
  | false =>
   obtain ⟨e1, e2⟩ := linesB_no hc
   rw [e1, e2]; rfl
theorem text_join (s : List UInt8) : s = (linesB s).flatMap (fun l => l ++ [10]) ++ tailB s := lines_join _ s (Nat.le_refl _)
end
end
section
section
open Go.RowKit Go.Lib
theorem has_take {l : List ByteArray} {s : ByteArray} {i : Nat} (hi : i < l.length) (h : hasv (l.take i) s = false) (hn : ¬ l[i]'hi = s) : hasv (l.take (i + 1)) s = false := by
 rw [List.take_succ_eq_append_getElem hi]
 unfold hasv at h ⊢
 rw [List.any_append, h, Bool.false_or, List.any_cons, List.any_nil, Bool.or_false]
 exact decide_eq_false hn
theorem has_at {l : List ByteArray} {i : Nat} (hi : i < l.length) : hasv l (l[i]'hi) = true := hasv_iff.2 (List.getElem_mem hi)
theorem all_take {f : ByteArray → Bool} {l : List ByteArray} {i : Nat} (hi : i < l.length) (h : (l.take i).all f = true) (hf : f (l[i]'hi) = true) : (l.take (i + 1)).all f = true := by
 rw [List.take_succ_eq_append_getElem hi, List.all_append, h, List.all_cons, hf, List.all_nil]
 rfl
theorem all_no {f : ByteArray → Bool} {l : List ByteArray} {i : Nat} (hi : i < l.length) (hf : f (l[i]'hi) = false) : l.all f = false := by
 cases hq : l.all f with
 | false => rfl
 | true => rw [List.all_eq_true.1 hq _ (List.getElem_mem hi)] at hf; cases hf
end
end
section
open Go.RowKit Go.Lib
theorem join_parts : ∀ (n : Nat) (s : List UInt8), s.length ≤ n → joinC ((parts 44 s).map toB) = s := by
 intro n
 induction n with
 | zero =>
  intro s hs
  obtain rfl : s = [] := List.eq_nil_of_length_eq_zero (by omega)
  show joinC [toB []] = []
  rw [joinC, toB_list]
 | succ n ih =>
  intro s hs
  rw [parts_cut]
  split
  · rename_i hc
    have hl := cutC_len s hc
    have he := (cutC_yes s hc).2
    have hi := ih (cutC 44 s).2.1 (by omega)
    cases hp : parts 44 (cutC 44 s).2.1 with
    | nil => exact absurd hp (parts_ne _ _)
    | cons a l =>
     rw [hp] at hi
     rw [List.map_cons, List.map_cons, joinC, toB_list]
     rw [List.map_cons] at hi
     rw [hi]
     exact he.symm
  · rw [List.map_cons, List.map_nil, joinC, toB_list]
theorem list_text {s : List UInt8} {l : List ByteArray} (h : listv s = some l) : joinC l = s ∧ ¬ l = [] ∧ ∀ x ∈ l, nameB x.toList = true := by
 unfold listv at h
 split at h
 · rename_i hc
   injection h with h
   subst h
   refine ⟨join_parts _ s (Nat.le_refl _), fun e => parts_ne 44 s (List.map_eq_nil_iff.1 e), fun x hx => ?_⟩
   obtain ⟨y, hy, rfl⟩ := List.mem_map.1 hx
   rw [toB_list]
   exact List.all_eq_true.1 hc y hy
 · cases h
theorem read_text {t : Int} {s : List UInt8} {v : V10} (h : readv t s = some v) : textL t v = s := by
 unfold readv at h
 unfold textL
 by_cases h1 : t = 1
 · rw [if_pos h1] at h ⊢
   obtain ⟨n, hn, rfl⟩ := Option.map_eq_some_iff.1 h
   exact (int_some hn).1
 rw [if_neg h1] at h ⊢
 by_cases h2 : t = 2
 · rw [if_pos h2] at h ⊢
   by_cases hy : s = yesB
   · rw [if_pos hy] at h
     injection h with h
     subst h hy
     rfl
   · rw [if_neg hy] at h
     by_cases hn : s = noB
     · rw [if_pos hn] at h
       injection h with h
       subst h hn
       rfl
     · rw [if_neg hn] at h
       cases h
 rw [if_neg h2] at h ⊢
 by_cases h3 : t = 3
 · rw [if_pos h3] at h ⊢
   by_cases hd : s = dashB
   · rw [if_pos hd] at h
     injection h with h
     subst h hd
     rfl
   · rw [if_neg hd] at h
     by_cases hn : nameB s = true
     · rw [if_pos hn] at h
       injection h with h
       subst h
       have hne : ¬ toB s = ⟨#[]⟩ := fun e => name_ne hn (by rw [← toB_list s, e, empty_list])
       show (if toB s = ⟨#[]⟩ then dashB else (toB s).toList) = s
       rw [if_neg hne, toB_list]
     · rw [if_neg hn] at h
       cases h
 rw [if_neg h3] at h ⊢
 by_cases hd : s = dashB
 · rw [if_pos hd] at h
   injection h with h
   subst h hd
   rfl
 · rw [if_neg hd] at h
   obtain ⟨l, hl, rfl⟩ := Option.map_eq_some_iff.1 h
   obtain ⟨k1, k2, -⟩ := list_text hl
   show (if l = [] then dashB else joinC l) = s
   rw [if_neg k2, k1]
end
section
open Go.RowKit Go.Lib
def Sort10 (t : Int) (v : V10) : Prop := (t = 1 ∧ v = ⟨v.n, false, ⟨#[]⟩, []⟩) ∨ (t = 2 ∧ v = ⟨0, v.b, ⟨#[]⟩, []⟩) ∨ (t = 3 ∧ v = ⟨0, false, v.s, []⟩) ∨ (t = 4 ∧ v = ⟨0, false, ⟨#[]⟩, v.l⟩)
theorem read_sort {t : Int} {s : List UInt8} {v : V10} (ht : t = 1 ∨ t = 2 ∨ t = 3 ∨ t = 4) (h : readv t s = some v) : Sort10 t v := by
 unfold readv at h
 rcases ht with rfl | rfl | rfl | rfl
 · obtain ⟨n, _, rfl⟩ := Option.map_eq_some_iff.1 (show (intv s).map _ = some v from h)
   exact .inl ⟨rfl, rfl⟩
 · replace h : (if s = yesB then some (⟨0, true, ⟨#[]⟩, []⟩ : V10) else if s = noB then some V10.zero else none) = some v := h
   refine .inr (.inl ⟨rfl, ?_⟩)
   split at h
   · injection h with h; subst h; rfl
   · split at h
     · injection h with h; subst h; rfl
     · cases h
 · replace h : (if s = dashB then some V10.zero else if nameB s = true then some ⟨0, false, toB s, []⟩ else none) = some v := h
   refine .inr (.inr (.inl ⟨rfl, ?_⟩))
   split at h
   · injection h with h; subst h; rfl
   · split at h
     · injection h with h; subst h; rfl
     · cases h
 · replace h : (if s = dashB then some V10.zero else (listv s).map fun l => (⟨0, false, ⟨#[]⟩, l⟩ : V10)) = some v := h
   refine .inr (.inr (.inr ⟨rfl, ?_⟩))
   split at h
   · injection h with h; subst h; rfl
   · obtain ⟨l, _, rfl⟩ := Option.map_eq_some_iff.1 h
     rfl
theorem sort_one (f : ByteArray) : sortv f = 1 ∨ sortv f = 2 ∨ sortv f = 3 ∨ sortv f = 4 := by
 unfold sortv
 (repeat' split) <;> simp
set_option maxRecDepth 100000 in
theorem ofU_with (u : U9) (f : ByteArray) (v : V10) (h : f ∈ fieldsv 1) (hs : Sort10 (sortv f) v) : ofUv (withUv u f v) f = v := by
 rw [fieldsU] at h
 simp only [List.mem_cons, List.not_mem_nil, or_false] at h
 obtain ⟨n, b, s, l⟩ := v
 rcases h with rfl | rfl | rfl | rfl | rfl | rfl | rfl | rfl | rfl | rfl | rfl | rfl | rfl | rfl | rfl | rfl | rfl | rfl <;>
  (rcases hs with ⟨h1, h2⟩ | ⟨h1, h2⟩ | ⟨h1, h2⟩ | ⟨h1, h2⟩ <;> first | (exfalso; revert h1; decide) | (dsimp only at h2; rw [V10.mk.injEq] at h2; obtain ⟨h3, h4, h5, h6⟩ := h2; clear h1; subst_vars; rfl))
set_option maxRecDepth 100000 in
theorem ofW_with (u : W9) (f : ByteArray) (v : V10) (h : f ∈ fieldsv 2) (hs : Sort10 (sortv f) v) : ofWv (withWv u f v) f = v := by
 rw [fieldsW] at h
 simp only [List.mem_cons, List.not_mem_nil, or_false] at h
 obtain ⟨n, b, s, l⟩ := v
 rcases h with rfl | rfl | rfl | rfl | rfl <;>
  (rcases hs with ⟨h1, h2⟩ | ⟨h1, h2⟩ | ⟨h1, h2⟩ | ⟨h1, h2⟩ <;> first | (exfalso; revert h1; decide) | (dsimp only at h2; rw [V10.mk.injEq] at h2; obtain ⟨h3, h4, h5, h6⟩ := h2; clear h1; subst_vars; rfl))
set_option maxRecDepth 100000 in
theorem ofT_with (u : T9) (f : ByteArray) (v : V10) (h : f ∈ fieldsv 3) (hs : Sort10 (sortv f) v) : ofTv (withTv u f v) f = v := by
 rw [fieldsT] at h
 simp only [List.mem_cons, List.not_mem_nil, or_false] at h
 obtain ⟨n, b, s, l⟩ := v
 rcases h with rfl | rfl | rfl | rfl | rfl | rfl | rfl <;>
  (rcases hs with ⟨h1, h2⟩ | ⟨h1, h2⟩ | ⟨h1, h2⟩ | ⟨h1, h2⟩ <;> first | (exfalso; revert h1; decide) | (dsimp only at h2; rw [V10.mk.injEq] at h2; obtain ⟨h3, h4, h5, h6⟩ := h2; clear h1; subst_vars; rfl))
end
section
open Go.RowKit Go.Lib
theorem withU_nm (u : U9) (f : ByteArray) (v : V10) : (withUv u f v).nm = u.nm := by unfold withUv; simp only [apply_ite U9.nm, ite_self]
theorem withW_nm (u : W9) (f : ByteArray) (v : V10) : (withWv u f v).nm = u.nm := by unfold withWv; simp only [apply_ite W9.nm, ite_self]
theorem withT_nm (u : T9) (f : ByteArray) (v : V10) : (withTv u f v).nm = u.nm := by unfold withTv; simp only [apply_ite T9.nm, ite_self]
end
section
open Go.RowKit Go.Lib
theorem strip_12 (x : List UInt8) : stripB (wordK 1 ++ [32]) (wordK 2 ++ 32 :: x) = none := rfl
theorem strip_13 (x : List UInt8) : stripB (wordK 1 ++ [32]) (wordK 3 ++ 32 :: x) = none := rfl
theorem strip_23 (x : List UInt8) : stripB (wordK 2 ++ [32]) (wordK 3 ++ 32 :: x) = none := rfl
theorem strip_own (w x : List UInt8) : stripB (w ++ [32]) (w ++ 32 :: x) = some x := (strip_iff _ _ _).2 (by simp)
theorem first_some {t : List UInt8} {k : Int} {x : List UInt8} (h : firstL t = some (k, x)) : (k = 1 ∨ k = 2 ∨ k = 3) ∧ nameB x = true ∧ t = wordK k ++ 32 :: x := by
 unfold firstL at h
 cases e1 : stripB (wordK 1 ++ [32]) t with
 | some y =>
  rw [e1] at h
  dsimp only at h
  split at h
  · rename_i hn
    injection h with h
    injection h with h1 h2
    subst h1 h2
    exact ⟨.inl rfl, hn, by rw [(strip_iff _ _ _).1 e1]; simp⟩
  · cases h
 | none =>
  rw [e1] at h
  cases e2 : stripB (wordK 2 ++ [32]) t with
  | some y =>
   rw [e2] at h
   dsimp only at h
   split at h
   · rename_i hn
     injection h with h
     injection h with h1 h2
     subst h1 h2
     exact ⟨.inr (.inl rfl), hn, by rw [(strip_iff _ _ _).1 e2]; simp⟩
   · cases h
  | none =>
   rw [e2] at h
   cases e3 : stripB (wordK 3 ++ [32]) t with
   | some y =>
    rw [e3] at h
    dsimp only at h
    split at h
    · rename_i hn
      injection h with h
      injection h with h1 h2
      subst h1 h2
      exact ⟨.inr (.inr rfl), hn, by rw [(strip_iff _ _ _).1 e3]; simp⟩
    · cases h
   | none =>
    rw [e3] at h
    cases h
theorem modify_last {α : Type} (x : α) (g : α → α) : ∀ l : List α, (l ++ [x]).modify l.length g = l ++ [g x]
 | [] => rfl
 | a :: l => by
  rw [List.cons_append, List.length_cons, List.modify_succ_cons, modify_last x g l]
  rfl
theorem lastU (r : R9) (x : U9) (f : ByteArray) (v : V10) : setK10 { r with us := r.us ++ [x] } 1 (lastK { r with us := r.us ++ [x] } 1) f v = { r with us := r.us ++ [withUv x f v] } := by
 show ({ r with us := (r.us ++ [x]).modify ((r.us ++ [x]).length - 1) fun u => withUv u f v } : R9) = _
 rw [show (r.us ++ [x]).length - 1 = r.us.length by simp, modify_last]
theorem lastW (r : R9) (x : W9) (f : ByteArray) (v : V10) : setK10 { r with ws := r.ws ++ [x] } 2 (lastK { r with ws := r.ws ++ [x] } 2) f v = { r with ws := r.ws ++ [withWv x f v] } := by
 show ({ r with ws := (r.ws ++ [x]).modify ((r.ws ++ [x]).length - 1) fun u => withWv u f v } : R9) = _
 rw [show (r.ws ++ [x]).length - 1 = r.ws.length by simp, modify_last]
theorem lastT (r : R9) (x : T9) (f : ByteArray) (v : V10) : setK10 { r with ts := r.ts ++ [x] } 3 (lastK { r with ts := r.ts ++ [x] } 3) f v = { r with ts := r.ts ++ [withTv x f v] } := by
 show ({ r with ts := (r.ts ++ [x]).modify ((r.ts ++ [x]).length - 1) fun u => withTv u f v } : R9) = _
 rw [show (r.ts ++ [x]).length - 1 = r.ts.length by simp, modify_last]
end
section
open Go.RowKit Go.Lib
theorem rt_ext (s : ByteArray) (i j : Nat) : s.extract i j = toB ((s.data.toList.drop i).take (j - i)) := by
 apply ByteArray.ext
 rw [ByteArray.data_extract]
 unfold toB
 apply Array.toList_inj.1
 rw [Array.toList_extract]
theorem rt_getD {s : ByteArray} {k : Nat} (hk : k < s.size) : s.data.toList[k]'(by rw [rt_size]; exact hk) = s[k]'hk := rfl
theorem rt_drop {s : ByteArray} {k : Nat} (hk : k < s.size) : s.data.toList.drop k = s[k]'hk :: s.data.toList.drop (k + 1) := List.drop_eq_getElem_cons (by rw [rt_size]; exact hk)
theorem rt_take {s : ByteArray} {k : Nat} (hk : k < s.size) : s.data.toList.take (k + 1) = s.data.toList.take k ++ [s[k]'hk] := List.take_succ_eq_append_getElem (by rw [rt_size]; exact hk)
theorem rt_free {s : ByteArray} {c : UInt8} {i k : Nat} (hk : k < s.size) (hi : i ≤ k) (h : c ∉ (s.data.toList.drop i).take (k - i)) (hc : ¬ s[k]'hk = c) : c ∉ (s.data.toList.drop i).take (k + 1 - i) := by
 rw [show k + 1 - i = (k - i) + 1 by omega, List.take_succ_eq_append_getElem (by rw [List.length_drop, rt_size]; omega), List.mem_append, not_or]
 refine ⟨h, fun q => ?_⟩
 rw [List.mem_singleton, List.getElem_drop] at q
 apply hc
 rw [q]
 show s.data[k] = _
 simp [show i + (k - i) = k by omega]
theorem rt_here {s : ByteArray} {c : UInt8} {i k : Nat} (hk : k < s.size) (hi : i ≤ k) (h : c ∉ (s.data.toList.drop i).take (k - i)) (hc : s[k]'hk = c) : parts c (s.data.toList.drop i) = (s.data.toList.drop i).take (k - i) :: parts c (s.data.toList.drop (k + 1)) := by
 have e : s.data.toList.drop i = (s.data.toList.drop i).take (k - i) ++ c :: s.data.toList.drop (k + 1) := by
  conv => lhs; rw [← List.take_append_drop (k - i) (s.data.toList.drop i)]
  congr 1
  rw [List.drop_drop, show i + (k - i) = k by omega, rt_drop hk, hc]
 conv => lhs; rw [e]
 exact parts_of _ _ h
theorem rt_last {s : ByteArray} {c : UInt8} {i : Nat} (h : c ∉ (s.data.toList.drop i).take (s.size - i)) : parts c (s.data.toList.drop i) = [(s.data.toList.drop i).take (s.size - i)] := by
 have h2 : (s.data.toList.drop i).take (s.size - i) = s.data.toList.drop i := List.take_of_length_le (by rw [List.length_drop, rt_size]; omega)
 rw [h2] at h ⊢
 exact parts_one _ h
end
section
open Go.RowKit Go.Lib
theorem valid_few {r : R9} (h : valv r = 0) : r.us.length ≤ 16 ∧ r.ws.length ≤ 8 ∧ r.ts.length ≤ 12 ∧ FewL 4 r := by
 obtain ⟨h1, -⟩ := val_zero h
 unfold limv at h1
 simp only [Bool.and_eq_true, decide_eq_true_eq, List.all_eq_true] at h1
 obtain ⟨⟨⟨⟨a, b⟩, c⟩, d⟩, e⟩ := h1
 exact ⟨a, b, c, fun u hu => ⟨(d u hu).1.1, (d u hu).1.2, (d u hu).2⟩, e⟩
end
section
open Go.RowKit Go.Lib
theorem ret_str {a b : ByteArray} (h : a = b) : Ending.returned (.string a) = .returned (.string b) := by rw [h]
theorem conv_one {P : Program} {src dst e : TypeId} (hs : P.underlying src = some (.slice e)) (he : P.underlying e = some (.int .u8)) (hd : P.underlying dst = some .string) (w : World) (x : Int) (t : TypeId) :
 (convert src dst (.slice (some ⟨w.heap.size, 0, none⟩) 1 1)).run P (w.alloc (.cells #[.int .u8 x] t)) = .ok (.string ⟨#[UInt8.ofNat x.toNat]⟩) (w.alloc (.cells #[.int .u8 x] t)) := by
 rw [run_convert_bytes_string _ src dst e _ 1 1 hs he hd]
 have hl := run_loadCells_list (P := P) (w.alloc (.cells #[.int .u8 x] t)) ⟨w.heap.size, 0, none⟩ [.int .u8 x] (fun j v hj => by
  match j, hj with
  | 0, hj =>
   simp at hj
   subst hj
   simp [Addr.add])
 rw [run_bytesToString _ _ 1 1 [x] hl]
 rfl
end
section
open Go.RowKit
theorem Blk.four {w : World} {b : Nat} {p q r s : Value} {t : TypeId} (h : Blk w b [p, q, r, s] t) :
 w.cell? ⟨b, 0, none⟩ = some p ∧ w.cell? ⟨b, 1, none⟩ = some q ∧ w.cell? ⟨b, 2, none⟩ = some r ∧ w.cell? ⟨b, 3, none⟩ = some s ∧
 w.frozen? ⟨b, 0, none⟩ = false ∧ w.frozen? ⟨b, 1, none⟩ = false ∧ w.frozen? ⟨b, 2, none⟩ = false ∧ w.frozen? ⟨b, 3, none⟩ = false :=
 ⟨h.cell 0, h.cell 1, h.cell 2, h.cell 3, h.frozen 0, h.frozen 1, h.frozen 2, h.frozen 3⟩
theorem Blk.put4 {W : World} {b : Nat} {p q r s : Value} {t : TypeId} (h : Blk W b [p, q, r, s] t) (x y u v : Value) : Blk ((((W.setCell ⟨b, 0, none⟩ x).setCell ⟨b, 1, none⟩ y).setCell ⟨b, 2, none⟩ u).setCell ⟨b, 3, none⟩ v) b [x, y, u, v] t := (((h.set 0 x).set 1 y).set 2 u).set 3 v
end

end Go.Proofs.YtnjcdmjaecgblaaGreatDoor
