/-
  The numbers of grid and terrain; Rules, and the order in which names become available, as plain functions; Rules as text: a value that is read has the text that was read; the text of a good value is read as this value. No program is named here; Rules as text: what a field holds behind a change of it. No program is named here; Rules as text: what Get answers behind Set, and that a value set anew changes nothing. No program is named here; Sizes of rules: what the laws of ruletext examine; What the reference of rules answers: names, elements, limits; What the laws of ruletext ask of the functions; Rows that a call owns, one appended to another. No program is named here; Regions that draw, operation by operation; Regions that draw, operation by operation: one or two that may come up; a struct's box made and stored into. No program is named here.
-/
import Derived.Test.YtnjcdmjaecgblaaGreatDoorZD00
import Derived.Test.YtnjcdmjaecgblaaGreatDoorZG00
namespace Go.Proofs.YtnjcdmjaecgblaaGreatDoor
section
section
open Go.RowKit Go.Lib
structure C3 where
 k : Int
 h : Int
 a : Int
deriving DecidableEq
end
end
section
section
open Go.RowKit Go.Lib
theorem has_at {l : List ByteArray} {i : Nat} (hi : i < l.length) : hasv l (l[i]'hi) = true := hasv_iff.2 (List.getElem_mem hi)
theorem all_take {f : ByteArray → Bool} {l : List ByteArray} {i : Nat} (hi : i < l.length) (h : (l.take i).all f = true) (hf : f (l[i]'hi) = true) : (l.take (i + 1)).all f = true := by
 rw [List.take_succ_eq_append_getElem hi, List.all_append, h, List.all_cons, hf, List.all_nil]
 rfl
theorem all_no {f : ByteArray → Bool} {l : List ByteArray} {i : Nat} (hi : i < l.length) (hf : f (l[i]'hi) = false) : l.all f = false := by
 cases hq : l.all f with
 | false => rfl
 | true => rw [List.all_eq_true.1 hq _ (List.getElem_mem hi)] at hf; cases hf
end
end
section
open Go.RowKit Go.Lib
theorem parts_join : ∀ (l : List ByteArray), ¬ l = [] → (∀ x ∈ l, nameB x.toList = true) → parts 44 (joinC l) = l.map ByteArray.toList
 | [], h, _ => absurd rfl h
 | [a], _, h => by
  rw [joinC, parts_one _ (name_free (h a (by simp)) 44 (by decide) (by decide))]
  rfl
 | a :: b :: l, _, h => by
  rw [joinC, parts_of _ _ (name_free (h a (by simp)) 44 (by decide) (by decide)), parts_join (b :: l) (by simp) (fun x hx => h x (List.mem_cons_of_mem _ hx))]
  rfl
theorem text_list {l : List ByteArray} (hn : ¬ l = []) (h : ∀ x ∈ l, nameB x.toList = true) : listv (joinC l) = some l ∧ ¬ joinC l = dashB := by
 have hp := parts_join l hn h
 refine ⟨?_, fun e => ?_⟩
 · unfold listv
   rw [hp, if_pos (by rw [List.all_map]; exact List.all_eq_true.2 h), List.map_map]
   congr 1
   calc l.map (toB ∘ ByteArray.toList) = l.map id := List.map_congr_left fun x _ => list_toB x
    _ = l := List.map_id l
 · rw [e] at hp
   cases l with
   | nil => exact hn rfl
   | cons a l =>
    have h1 : parts 44 dashB = [[45]] := by decide
    rw [h1, List.map_cons] at hp
    injection hp with h2 _
    have := h a (by simp)
    rw [← h2] at this
    revert this
    decide
theorem text_read {t : Int} {v : V10} (h : Good10 t v) : readv t (textL t v) = some v := by
 obtain ⟨n, b, s, l⟩ := v
 rcases h with ⟨rfl, h1, h2⟩ | ⟨rfl, h2⟩ | ⟨rfl, h1, h2⟩ | ⟨rfl, h1, h2⟩
 · dsimp only at h1 h2
   rw [V10.mk.injEq] at h2
   obtain ⟨-, rfl, rfl, rfl⟩ := h2
   show (intv (decv n)).map _ = _
   rw [int_text h1]
   rfl
 · dsimp only at h2
   rw [V10.mk.injEq] at h2
   obtain ⟨rfl, -, rfl, rfl⟩ := h2
   cases b <;> rfl
 · dsimp only at h1 h2
   rw [V10.mk.injEq] at h2
   obtain ⟨rfl, rfl, -, rfl⟩ := h2
   rcases h1 with rfl | h1
   · rfl
   · have hne : ¬ s = ⟨#[]⟩ := fun e => name_ne h1 (by rw [e, empty_list])
     have hnd : ¬ s.toList = dashB := fun e => by rw [e] at h1; revert h1; decide
     show readv 3 (if s = ⟨#[]⟩ then dashB else s.toList) = _
     rw [if_neg hne]
     show (if s.toList = dashB then some V10.zero else if nameB s.toList = true then some ⟨0, false, toB s.toList, []⟩ else none) = _
     rw [if_neg hnd, if_pos h1, list_toB]
 · dsimp only at h1 h2
   rw [V10.mk.injEq] at h2
   obtain ⟨rfl, rfl, rfl, -⟩ := h2
   by_cases hl : l = []
   · subst hl
     rfl
   · obtain ⟨k1, k2⟩ := text_list hl h1
     show readv 4 (if l = [] then dashB else joinC l) = _
     rw [if_neg hl]
     show (if joinC l = dashB then some V10.zero else (listv (joinC l)).map fun l => ⟨0, false, ⟨#[]⟩, l⟩) = _
     rw [if_neg k2, k1]
     rfl
end
section
open Go.RowKit Go.Lib
set_option maxRecDepth 100000 in
theorem withW_of (u : W9) (f : ByteArray) (h : f ∈ fieldsv 2) : withWv u f (ofWv u f) = u := by
 rw [fieldsW] at h
 simp only [List.mem_cons, List.not_mem_nil, or_false] at h
 rcases h with rfl | rfl | rfl | rfl | rfl <;> rfl
set_option maxRecDepth 100000 in
theorem withT_of (u : T9) (f : ByteArray) (h : f ∈ fieldsv 3) : withTv u f (ofTv u f) = u := by
 rw [fieldsT] at h
 simp only [List.mem_cons, List.not_mem_nil, or_false] at h
 rcases h with rfl | rfl | rfl | rfl | rfl | rfl | rfl <;> rfl
end
section
open Go.RowKit Go.Lib
theorem modify_same {α : Type} (l : List α) (i : Nat) (g : α → α) (d : α) (hg : g (l.getD i d) = l.getD i d) : l.modify i g = l := by
 refine List.ext_getElem (by simp) fun j h1 h2 => ?_
 rw [List.getElem_modify]
 split
 · rename_i e
   subst e
   rw [List.getD_eq_getElem?_getD, List.getElem?_eq_getElem h2] at hg
   exact hg
 · rfl
theorem set_value {r : R9} {k : Int} {i : Nat} {f : ByteArray} (hf : f ∈ fieldsv k) : setK10 r k i f (valueK r k i f) = r := by
 rcases kind_of hf with rfl | rfl | rfl
 · show ({ r with us := r.us.modify i fun u => withUv u f (ofUv (r.us.getD i U9.zero) f) } : R9) = r
   rw [modify_same r.us i _ U9.zero (withU_of _ _ hf)]
 · show ({ r with ws := r.ws.modify i fun u => withWv u f (ofWv (r.ws.getD i W9.zero) f) } : R9) = r
   rw [modify_same r.ws i _ W9.zero (withW_of _ _ hf)]
 · show ({ r with ts := r.ts.modify i fun u => withTv u f (ofTv (r.ts.getD i T9.zero) f) } : R9) = r
   rw [modify_same r.ts i _ T9.zero (withT_of _ _ hf)]
theorem get_set {r : R9} (hv : valv r = 0) {k : Int} {nm f : ByteArray} {s : List UInt8} (h : getv10 r k nm f = some s) : setv10 r k nm f s = (r, 0) := by
 unfold getv10 at h
 by_cases ht : typev k f = 0
 · rw [if_pos ht] at h
   cases h
 rw [if_neg ht] at h
 by_cases hn : findv (namesK r k) nm < 0
 · rw [if_pos hn] at h
   cases h
 rw [if_neg hn] at h
 injection h with h
 obtain ⟨hf, he⟩ := type_of ht
 unfold setv10
 rw [if_neg ht, if_neg hn, ← h, he, text_read (good_value hv hf (findv_at hn))]
 show (setK10 r k _ f _, (0 : Int)) = (r, 0)
 rw [set_value hf]
theorem get_none {r : R9} {k : Int} {nm f : ByteArray} (h : getv10 r k nm f = none) (s : List UInt8) : (setv10 r k nm f s).2 = 1 ∨ (setv10 r k nm f s).2 = 8 := by
 unfold getv10 at h
 unfold setv10
 by_cases ht : typev k f = 0
 · rw [if_pos ht]
   exact .inl rfl
 rw [if_neg ht] at h ⊢
 by_cases hn : findv (namesK r k) nm < 0
 · rw [if_pos hn]
   exact .inr rfl
 · rw [if_neg hn] at h
   cases h
end
section
open Go.RowKit Go.Lib
theorem few_huge {r : R9} (h : hugev r = false) : r.us.length ≤ 100 ∧ r.ws.length ≤ 100 ∧ r.ts.length ≤ 100 := by
 unfold hugev at h
 by_cases h0 : 100 < r.us.length ∨ 100 < r.ws.length ∨ 100 < r.ts.length
 · rw [if_pos h0] at h; cases h
 · omega
theorem valid_few {r : R9} (h : valv r = 0) : r.us.length ≤ 16 ∧ r.ws.length ≤ 8 ∧ r.ts.length ≤ 12 ∧ FewL 4 r := by
 obtain ⟨h1, -⟩ := val_zero h
 unfold limv at h1
 simp only [Bool.and_eq_true, decide_eq_true_eq, List.all_eq_true] at h1
 obtain ⟨⟨⟨⟨a, b⟩, c⟩, d⟩, e⟩ := h1
 exact ⟨a, b, c, fun u hu => ⟨(d u hu).1.1, (d u hu).1.2, (d u hu).2⟩, e⟩
theorem small_valueW {r : R9} (h : valv r = 0) {k : Int} {i : Nat} {f : ByteArray} (hf : f ∈ fieldsv k) (hi : i < (namesK r k).length) : Small10 (sortv f) (valueK r k i f) := by
 obtain ⟨n1, n2, n3⟩ := names_len r
 rcases kind_of hf with rfl | rfl | rfl
 · rw [n1] at hi
   exact smallU h (getD_in9 hi) hf
 · rw [n2] at hi
   exact smallW h (getD_in9 hi) hf
 · rw [n3] at hi
   exact smallT h (getD_in9 hi) hf
theorem valid_shortW {r : R9} (h : valv r = 0) (k : Int) (i : Nat) (f : ByteArray) (hf : f ∈ fieldsv k) (hi : i < (namesK r k).length) : (textL (typev k f) (valueK r k i f)).length ≤ 50000 := by
 rw [type_in hf]
 have := (text_short (good_value h hf hi) (small_valueW h hf hi)).1
 omega
theorem valid_intsW {r : R9} (h : valv r = 0) (k : Int) (i : Nat) (f : ByteArray) (hf : f ∈ fieldsv k) (hi : i < (namesK r k).length) : int64v (valueK r k i f).n := by
 rcases good_value h hf hi with ⟨_, q, _⟩ | ⟨_, q⟩ | ⟨_, _, q⟩ | ⟨_, _, q⟩
 · exact q
 · rw [q]; unfold int64v; dsimp only; omega
 · rw [q]; unfold int64v; dsimp only; omega
 · rw [q]; unfold int64v; dsimp only; omega
end
section
section
open Go.RowKit Go.Lib
set_option maxHeartbeats 2000000 in
set_option maxRecDepth 100000 in
theorem r9has_b (l : List ByteArray) (v : Value) (s : ByteArray) (b : Bool) (W : World) (hl : StrSl W v l) (e : Hid (b = hasv l s)) :
 Calls Tryz.prog 45 #[v, .string s] W fun e w' => e = .returned (.bool b) ∧ W = w' := by
 obtain ⟨p, c, rfl, hm, hat⟩ := hl
 unfold maxLen at hm
 go_enter Tryz.func45, Tryz.ntmps45
 go_wp2_with fail
 go_loop [5] (fun vi => ∃ i : Nat, vi = .int .i64 i ∧ i ≤ l.length ∧ Hid (hasv (l.take i) s = false)) (fun vi => l.length - (RowKit.intOf vi).toNat)
 case atStart => exact ⟨0, rfl, by omega, hid rfl⟩
 case round =>
  obtain ⟨i, rfl, hi, hA⟩ := hrel
  by_cases hlt : i < l.length
  · have d1 : (i : Int) < l.length := by omega
    have d0 : (0 : Int) ≤ i := by omega
    obtain ⟨g, o, rfl, hc⟩ := hat (by omega)
    have k1 := hc i hlt
    have HN := fun q => hid (has_take hlt hA.out q)
    have HY := hid (has_at hlt)
    obtain ⟨x, hx⟩ : ∃ x, l[i]'hlt = x := ⟨_, rfl⟩
    rw [hx] at k1 HN HY
    clear hx hat hA hc
    by_cases hq : x = s
    · subst hq
      have hb := e.out.trans HY.out
      subst hb
      clear HN HY e
      go_wp2_with fail
      go_ret
      exact ⟨rfl, rfl⟩
    · obtain ⟨q1, q2⟩ := ne_list hq
      have HS := HN hq
      clear HN HY hq
      go_wp2_with fail
      go_round
      case rel => exact ⟨i + 1, by go_num, by omega, HS⟩
      case measure => simp [RowKit.intOf]; omega
  · obtain rfl : i = l.length := by omega
    have hb := e.out
    have ha := hA.out
    rw [List.take_length] at ha
    rw [ha] at hb
    subst hb
    clear hat ha hA e
    go_wp2_with fail
    go_ret
    exact ⟨rfl, rfl⟩
theorem r9within_b (n lo hi : Int) (b : Bool) (W : World) (e : Hid (b = rngv n lo hi)) :
 Calls Tryz.prog 84 #[.int .i64 n, .int .i64 lo, .int .i64 hi] W fun e w' => e = .returned (.bool b) ∧ W = w' := by
 have hb : b = (decide (lo ≤ n) && decide (n ≤ hi)) := by rw [e.out]; unfold rngv; simp
 by_cases h1 : lo ≤ n
 · have z1 : decide (lo ≤ n) = true := decide_eq_true h1
   rw [z1, Bool.true_and] at hb
   subst hb
   clear e
   go_enter Tryz.func84, Tryz.ntmps84
   go_wp2_with fail
   go_ret
   exact ⟨rfl, rfl⟩
 · have z1 : decide (lo ≤ n) = false := decide_eq_false h1
   rw [z1, Bool.false_and] at hb
   subst hb
   clear e
   go_enter Tryz.func84, Tryz.ntmps84
   go_wp2_with fail
   go_ret
   exact ⟨rfl, rfl⟩
theorem r9stat_b (n : Int) (b : Bool) (W : World) (e : Hid (b = statv n)) :
 Calls Tryz.prog 85 #[.int .i64 n] W fun e w' => e = .returned (.bool b) ∧ W = w' := by
 go_enter Tryz.func85, Tryz.ntmps85
 go_wp2_with fail
 ((with_reducible refine (r9within_b n 0 100000 b _ (hid (by rw [e.out, statv]))).mono ?_); rintro e w1 ⟨rfl, rfl⟩)
 go_wp2_with fail
 go_ret
 exact ⟨rfl, rfl⟩
set_option maxHeartbeats 2000000 in
set_option maxRecDepth 100000 in
theorem r9asc_b (l : List ByteArray) (v : Value) (b : Bool) (W : World) (hl : StrSl W v l) (e : Hid (b = ascv l)) :
 Calls Tryz.prog 82 #[v] W fun e w' => e = .returned (.bool b) ∧ Below W.heap.size W w' := by
 obtain ⟨p, c, rfl, hm, hat⟩ := hl
 unfold maxLen at hm
 go_enter Tryz.func82, Tryz.ntmps82
 go_wp2_with fail
 go_loopw [3] (fun vi wr => ∃ i : Nat, vi = .int .i64 (i + 1) ∧ i ≤ l.length ∧ Below W.heap.size W wr ∧ Hid (∀ j, j < i → (h : j + 1 < l.length) → ltS (l[j]'(Nat.lt_of_succ_lt h)) (l[j + 1]'h) = true)) (fun vi _ => l.length + 1 - (RowKit.intOf vi).toNat)
 case atStart => exact ⟨0, rfl, by omega, Below.refl _ _, hid (fun j h => by omega)⟩
 case round =>
  obtain ⟨i, rfl, hi, hL, hA⟩ := hrel
  by_cases hlt : i + 1 < l.length
  · have d1 : (i : Int) + 1 < l.length := by omega
    have d0 : (0 : Int) ≤ i := by omega
    have d2 : (i : Int) < l.length := by omega
    have d3 : (0 : Int) ≤ (i : Int) + 1 := by omega
    have ei : (i : Int) + 1 - 1 = i := by omega
    obtain ⟨g, o, rfl, hc⟩ := hat (by omega)
    have hcw := fun j hj => (hL.cell (p := ⟨g, o + j, none⟩) (World.block_lt_of_cell? W _ (hc j hj))).trans (hc j hj)
    have k1 := hcw i (by omega)
    have k2 := hcw (i + 1) hlt
    have HN := fun q => hid (asc_no hlt q)
    have HY := fun (q : ltS (l[i]'(Nat.lt_of_succ_lt hlt)) (l[i + 1]'hlt) = true) => hid (show ∀ j, j < i + 1 → (h : j + 1 < l.length) → ltS (l[j]'(Nat.lt_of_succ_lt h)) (l[j + 1]'h) = true from fun j hj h => by
     rcases Nat.lt_or_ge j i with h2 | h2
     · exact hA.out j h2 h
     · obtain rfl : j = i := by omega
       exact q)
    obtain ⟨x, hx⟩ : ∃ x, l[i]'(Nat.lt_of_succ_lt hlt) = x := ⟨_, rfl⟩
    obtain ⟨y, hy⟩ : ∃ x, l[i + 1]'hlt = x := ⟨_, rfl⟩
    rw [hx] at k1 HN HY
    rw [hy] at k2 HN HY
    unfold ltS at HN HY
    clear hx hy hat hA hc hcw
    by_cases hq : Op.bytesLess x.toList y.toList = true
    · have HS := HY hq
      clear HN HY
      go_wp2_with fail
      go_quiet (fail)
      have hL2 := below_many hL nq
      generalize wr.drewN nq = wr' at *
      clear hL k1 k2
      go_wp2_with fail
      go_roundw
      case rel => exact ⟨i + 1, by go_num, by omega, hL2, HS⟩
      case measure => simp [RowKit.intOf]; omega
    · have hq2 : Op.bytesLess x.toList y.toList = false := by simpa using hq
      have hb := e.out.trans (HN hq2).out
      subst hb
      clear HN HY e hq
      go_wp2_with fail
      go_quiet (fail)
      have hL2 := below_many hL nq
      generalize wr.drewN nq = wr' at *
      clear hL k1 k2
      go_wp2_with fail
      go_ret
      exact ⟨rfl, hL2⟩
  · have ha := ascv_iff.2 fun j h => hA.out j (by omega) h
    have hb := e.out.trans ha
    subst hb
    have d1 : ¬ (i : Int) + 1 < l.length := by omega
    clear hat ha hA e
    go_wp2_with fail
    go_ret
    exact ⟨rfl, hL⟩
set_option maxHeartbeats 2000000 in
set_option maxRecDepth 100000 in
theorem r9all_b (l m : List ByteArray) (v u : Value) (b : Bool) (W : World) (hl : StrSl W v l) (hm2 : StrSl W u m) (e : Hid (b = l.all (hasv m))) :
 Calls Tryz.prog 86 #[v, u] W fun e w' => e = .returned (.bool b) ∧ W = w' := by
 obtain ⟨p, c, rfl, hm, hat⟩ := hl
 obtain ⟨p2, c2, rfl, -, -⟩ := id hm2
 unfold maxLen at hm
 go_enter Tryz.func86, Tryz.ntmps86
 go_wp2_with fail
 go_loop [5] (fun vi => ∃ i : Nat, vi = .int .i64 i ∧ i ≤ l.length ∧ Hid ((l.take i).all (hasv m) = true)) (fun vi => l.length - (RowKit.intOf vi).toNat)
 case atStart => exact ⟨0, rfl, by omega, hid rfl⟩
 case round =>
  obtain ⟨i, rfl, hi, hA⟩ := hrel
  by_cases hlt : i < l.length
  · have d1 : (i : Int) < l.length := by omega
    have d0 : (0 : Int) ≤ i := by omega
    obtain ⟨g, o, rfl, hc⟩ := hat (by omega)
    have k1 := hc i hlt
    have HN := fun q => hid (all_take hlt hA.out q)
    have HY := fun q => hid (all_no (f := hasv m) hlt q)
    obtain ⟨x, hx⟩ : ∃ x, l[i]'hlt = x := ⟨_, rfl⟩
    rw [hx] at k1 HN HY
    obtain ⟨q, hq⟩ : ∃ q, Hid (q = hasv m x) := ⟨_, hid rfl⟩
    have c1 := r9has_b m _ x q W hm2 hq
    clear hx hat hA hc
    go_wp2_with fail
    ((with_reducible refine c1.mono ?_); rintro e w1 ⟨rfl, rfl⟩)
    cases q with
    | false =>
     have hb := e.out.trans (HY hq.out.symm).out
     subst hb
     clear HN HY e hq c1
     go_wp2_with fail
     go_ret
     exact ⟨rfl, rfl⟩
    | true =>
     have HS := HN hq.out.symm
     clear HN HY hq c1
     go_wp2_with fail
     go_round
     case rel => exact ⟨i + 1, by go_num, by omega, HS⟩
     case measure => simp [RowKit.intOf]; omega
  · obtain rfl : i = l.length := by omega
    have ha := hA.out
    rw [List.take_length] at ha
    have hb := e.out.trans ha
    subst hb
    clear hat ha hA e
    go_wp2_with fail
    go_ret
    exact ⟨rfl, rfl⟩
end
section
open Go.RowKit Go.Lib
set_option maxHeartbeats 8000000 in
set_option maxRecDepth 100000 in
theorem r9shaped_b (u : U9) (sn st sr : Value) (b : Bool) (W : World) (e : Hid (b = shapev u)) :
 Calls Tryz.prog 83 #[.agg #[.string u.nm, .bool u.bld, .bool u.dep, .int .i64 u.cls, .int .i64 u.w, .int .i64 u.h, .int .i64 u.rad, .int .i64 u.spd, .int .i64 u.sgt, .int .i64 u.hp, .int .i64 u.arm, .int .i64 u.load, .string u.wpn, .int .i64 u.ore, .int .i64 u.wood, .int .i64 u.time, sn, st, sr]] W fun e w' => e = .returned (.bool b) ∧ Below W.heap.size W w' := by
 have hB := Blk.new W [.string u.nm, .bool u.bld, .bool u.dep, .int .i64 u.cls, .int .i64 u.w, .int .i64 u.h, .int .i64 u.rad, .int .i64 u.spd, .int .i64 u.sgt, .int .i64 u.hp, .int .i64 u.arm, .int .i64 u.load, .string u.wpn, .int .i64 u.ore, .int .i64 u.wood, .int .i64 u.time, sn, st, sr] 53
 have hL : Below W.heap.size W (W.alloc (.cells #[.string u.nm, .bool u.bld, .bool u.dep, .int .i64 u.cls, .int .i64 u.w, .int .i64 u.h, .int .i64 u.rad, .int .i64 u.spd, .int .i64 u.sgt, .int .i64 u.hp, .int .i64 u.arm, .int .i64 u.load, .string u.wpn, .int .i64 u.ore, .int .i64 u.wood, .int .i64 u.time, sn, st, sr] 53)) := (Below.refl _ W).alloc (Nat.le_refl _) _
 obtain ⟨C1, C2, C3, C4, C5, C6, C7, C8, C9, C10, C11, C13, C14, C15⟩ : _ ∧ _ ∧ _ ∧ _ ∧ _ ∧ _ ∧ _ ∧ _ ∧ _ ∧ _ ∧ _ ∧ _ ∧ _ ∧ _ := ⟨hB.cell 1, hB.cell 2, hB.cell 3, hB.cell 4, hB.cell 5, hB.cell 6, hB.cell 7, hB.cell 8, hB.cell 9, hB.cell 10, hB.cell 11, hB.cell 13, hB.cell 14, hB.cell 15⟩
 simp only [List.getElem?_cons_zero, List.getElem?_cons_succ] at C1 C2 C3 C4 C5 C6 C7 C8 C9 C10 C11 C13 C14 C15
 obtain ⟨q1, h1⟩ : ∃ q, Hid (q = rngv u.sgt 0 16) := ⟨_, hid rfl⟩
 have c1 := fun V => r9within_b u.sgt 0 16 q1 V h1
 obtain ⟨q2, h2⟩ : ∃ q, Hid (q = rngv u.hp 1 100000) := ⟨_, hid rfl⟩
 have c2 := fun V => r9within_b u.hp 1 100000 q2 V h2
 obtain ⟨q3, h3⟩ : ∃ q, Hid (q = statv u.arm) := ⟨_, hid rfl⟩
 have c3 := fun V => r9stat_b u.arm q3 V h3
 obtain ⟨q4, h4⟩ : ∃ q, Hid (q = statv u.ore) := ⟨_, hid rfl⟩
 have c4 := fun V => r9stat_b u.ore q4 V h4
 obtain ⟨q5, h5⟩ : ∃ q, Hid (q = statv u.wood) := ⟨_, hid rfl⟩
 have c5 := fun V => r9stat_b u.wood q5 V h5
 obtain ⟨q6, h6⟩ : ∃ q, Hid (q = statv u.time) := ⟨_, hid rfl⟩
 have c6 := fun V => r9stat_b u.time q6 V h6
 obtain ⟨q7, h7⟩ : ∃ q, (u.cls == 0) = q := ⟨_, rfl⟩
 obtain ⟨q8, h8⟩ : ∃ q, Hid (q = rngv u.w 1 4) := ⟨_, hid rfl⟩
 have c8 := fun V => r9within_b u.w 1 4 q8 V h8
 obtain ⟨q9, h9⟩ : ∃ q, Hid (q = rngv u.h 1 4) := ⟨_, hid rfl⟩
 have c9 := fun V => r9within_b u.h 1 4 q9 V h9
 obtain ⟨q10, h10⟩ : ∃ q, (u.rad == 0) = q := ⟨_, rfl⟩
 obtain ⟨q11, h11⟩ : ∃ q, (u.spd == 0) = q := ⟨_, rfl⟩
 obtain ⟨q12, h12⟩ : ∃ q, (u.load == 0) = q := ⟨_, rfl⟩
 obtain ⟨q13, h13⟩ : ∃ q, Hid (q = rngv u.cls 1 3) := ⟨_, hid rfl⟩
 have c13 := fun V => r9within_b u.cls 1 3 q13 V h13
 obtain ⟨q14, h14⟩ : ∃ q, (u.w == 0) = q := ⟨_, rfl⟩
 obtain ⟨q15, h15⟩ : ∃ q, (u.h == 0) = q := ⟨_, rfl⟩
 obtain ⟨q16, h16⟩ : ∃ q, Hid (q = rngv u.rad 16 128) := ⟨_, hid rfl⟩
 have c16 := fun V => r9within_b u.rad 16 128 q16 V h16
 obtain ⟨q17, h17⟩ : ∃ q, Hid (q = rngv u.spd 0 256) := ⟨_, hid rfl⟩
 have c17 := fun V => r9within_b u.spd 0 256 q17 V h17
 obtain ⟨q18, h18⟩ : ∃ q, Hid (q = statv u.load) := ⟨_, hid rfl⟩
 have c18 := fun V => r9stat_b u.load q18 V h18
 have E : Hid (b = if (q1 && q2 && q3 && q4 && q5 && q6) = true then (if u.bld = true then q7 && q8 && q9 && q10 && q11 && q12 else q13 && q14 && q15 && q16 && q17 && q18 && !u.dep) else false) := hid (by
  rw [e.out, h1.out, h2.out, h3.out, h4.out, h5.out, h6.out, ← h7, h8.out, h9.out, ← h10, ← h11, ← h12, h13.out, ← h14, ← h15, h16.out, h17.out, h18.out]
  rfl)
 clear e h1 h2 h3 h4 h5 h6 h8 h9 h13 h16 h17 h18
 go_enter Tryz.func83, Tryz.ntmps83
 go_wp2_with fail
 generalize W.alloc (.cells #[.string u.nm, .bool u.bld, .bool u.dep, .int .i64 u.cls, .int .i64 u.w, .int .i64 u.h, .int .i64 u.rad, .int .i64 u.spd, .int .i64 u.sgt, .int .i64 u.hp, .int .i64 u.arm, .int .i64 u.load, .string u.wpn, .int .i64 u.ore, .int .i64 u.wood, .int .i64 u.time, sn, st, sr] 53) = V at *
 ((with_reducible refine (c1 _).mono ?_); rintro e w1 ⟨rfl, rfl⟩)
 cases q1 with
 | false =>
  have hb : b = false := E.out.trans (by simp)
  subst hb
  clear E
  go_wp2_with fail
  go_ret
  exact ⟨rfl, hL⟩
 | true =>
  go_wp2_with fail
  ((with_reducible refine (c2 _).mono ?_); rintro e w1 ⟨rfl, rfl⟩)
  cases q2 with
  | false =>
   have hb : b = false := E.out.trans (by simp)
   subst hb
   clear E
   go_wp2_with fail
   go_ret
   exact ⟨rfl, hL⟩
  | true =>
   go_wp2_with fail
   ((with_reducible refine (c3 _).mono ?_); rintro e w1 ⟨rfl, rfl⟩)
   cases q3 with
   | false =>
    have hb : b = false := E.out.trans (by simp)
    subst hb
    clear E
    go_wp2_with fail
    go_ret
    exact ⟨rfl, hL⟩
   | true =>
    go_wp2_with fail
    ((with_reducible refine (c4 _).mono ?_); rintro e w1 ⟨rfl, rfl⟩)
    cases q4 with
    | false =>
     have hb : b = false := E.out.trans (by simp)
     subst hb
     clear E
     go_wp2_with fail
     go_ret
     exact ⟨rfl, hL⟩
    | true =>
     go_wp2_with fail
     ((with_reducible refine (c5 _).mono ?_); rintro e w1 ⟨rfl, rfl⟩)
     cases q5 with
     | false =>
      have hb : b = false := E.out.trans (by simp)
      subst hb
      clear E
      go_wp2_with fail
      go_ret
      exact ⟨rfl, hL⟩
     | true =>
      go_wp2_with fail
      ((with_reducible refine (c6 _).mono ?_); rintro e w1 ⟨rfl, rfl⟩)
      cases q6 with
      | false =>
       have hb : b = false := E.out.trans (by simp)
       subst hb
       clear E
       go_wp2_with fail
       go_ret
       exact ⟨rfl, hL⟩
      | true =>
       by_cases hbd : u.bld = true
       · cases q7 with
         | false =>
          have hb : b = false := E.out.trans (by simp [hbd])
          subst hb
          clear E
          go_wp2_with fail
          go_ret
          exact ⟨rfl, hL⟩
         | true =>
          go_wp2_with fail
          ((with_reducible refine (c8 _).mono ?_); rintro e w1 ⟨rfl, rfl⟩)
          cases q8 with
          | false =>
           have hb : b = false := E.out.trans (by simp [hbd])
           subst hb
           clear E
           go_wp2_with fail
           go_ret
           exact ⟨rfl, hL⟩
          | true =>
           go_wp2_with fail
           ((with_reducible refine (c9 _).mono ?_); rintro e w1 ⟨rfl, rfl⟩)
           cases q9 with
           | false =>
            have hb : b = false := E.out.trans (by simp [hbd])
            subst hb
            clear E
            go_wp2_with fail
            go_ret
            exact ⟨rfl, hL⟩
           | true =>
            cases q10 with
            | false =>
             have hb : b = false := E.out.trans (by simp [hbd])
             subst hb
             clear E
             go_wp2_with fail
             go_ret
             exact ⟨rfl, hL⟩
            | true =>
             cases q11 with
             | false =>
              have hb : b = false := E.out.trans (by simp [hbd])
              subst hb
              clear E
              go_wp2_with fail
              go_ret
              exact ⟨rfl, hL⟩
             | true =>
              cases q12 with
              | false =>
               have hb : b = false := E.out.trans (by simp [hbd])
               subst hb
               clear E
               go_wp2_with fail
               go_ret
               exact ⟨rfl, hL⟩
              | true =>
               have hb : b = true := E.out.trans (by simp [hbd])
               subst hb
               clear E
               go_wp2_with fail
               go_ret
               exact ⟨rfl, hL⟩
       · replace hbd : u.bld = false := by simpa using hbd
         go_wp2_with fail
         ((with_reducible refine (c13 _).mono ?_); rintro e w1 ⟨rfl, rfl⟩)
         cases q13 with
         | false =>
          have hb : b = false := E.out.trans (by simp [hbd])
          subst hb
          clear E
          go_wp2_with fail
          go_ret
          exact ⟨rfl, hL⟩
         | true =>
          cases q14 with
          | false =>
           have hb : b = false := E.out.trans (by simp [hbd])
           subst hb
           clear E
           go_wp2_with fail
           go_ret
           exact ⟨rfl, hL⟩
          | true =>
           cases q15 with
           | false =>
            have hb : b = false := E.out.trans (by simp [hbd])
            subst hb
            clear E
            go_wp2_with fail
            go_ret
            exact ⟨rfl, hL⟩
           | true =>
            go_wp2_with fail
            ((with_reducible refine (c16 _).mono ?_); rintro e w1 ⟨rfl, rfl⟩)
            cases q16 with
            | false =>
             have hb : b = false := E.out.trans (by simp [hbd])
             subst hb
             clear E
             go_wp2_with fail
             go_ret
             exact ⟨rfl, hL⟩
            | true =>
             go_wp2_with fail
             ((with_reducible refine (c17 _).mono ?_); rintro e w1 ⟨rfl, rfl⟩)
             cases q17 with
             | false =>
              have hb : b = false := E.out.trans (by simp [hbd])
              subst hb
              clear E
              go_wp2_with fail
              go_ret
              exact ⟨rfl, hL⟩
             | true =>
              go_wp2_with fail
              ((with_reducible refine (c18 _).mono ?_); rintro e w1 ⟨rfl, rfl⟩)
              cases q18 with
              | false =>
               have hb : b = false := E.out.trans (by simp [hbd])
               subst hb
               clear E
               go_wp2_with fail
               go_ret
               exact ⟨rfl, hL⟩
              | true =>
               have hb : b = !u.dep := E.out.trans (by simp [hbd])
               subst hb
               clear E
               go_wp2_with fail
               go_ret
               exact ⟨rfl, hL⟩
end
section
open Go.RowKit Go.Lib
set_option maxHeartbeats 4000000 in
set_option maxRecDepth 100000 in
theorem r9units_b (su sw st : Value) (r : R9) (W : World) (hR : RAt W su sw st r) (hsm : r.us.length ≤ 1000) :
 Calls Tryz.prog 80 #[.agg #[su, sw, st]] W fun e w' => ∃ v, e = .returned v ∧ w'.ownsRow (W.heap.size + 1) 9 1 v r.us.length (strs (namesU r)) ∧ Below W.heap.size W w' := by
 have hat0 := hR.u
 obtain ⟨p, c, rfl, -, hat⟩ := hat0
 have hB := Blk.new W [.slice p r.us.length c, sw, st] 31
 obtain ⟨i0, hi0, hz0, hz1, hz2⟩ := info_cut9 infoStr9
 have hL := (Below.refl W.heap.size W).alloc (Nat.le_refl _) (.cells #[.slice p r.us.length c, sw, st] 31)
 clear hR
 go_enter Tryz.func80, Tryz.ntmps80
 go_wp2_with fail
 generalize W.alloc (.cells #[.slice p r.us.length c, sw, st] 31) = V at *
 go_loopw [3, 4] (fun vo vi wr => ∃ i : Nat, vi = .int .i64 i ∧ i ≤ r.us.length ∧ wr.ownsRow (W.heap.size + 1) 9 1 vo i (strs ((namesU r).take i)) ∧ Blk wr W.heap.size [.slice p r.us.length c, sw, st] 31 ∧ Below W.heap.size W wr) (fun _ vi _ => r.us.length - (RowKit.intOf vi).toNat)
 case atStart => exact ⟨0, rfl, by omega, World.ownsRow_nil _ _ _ _, hB, hL⟩
 case round =>
  clear hB hL
  obtain ⟨i, rfl, hi, hown, hB, hL⟩ := hrel
  have b0 := hB.cell 0
  simp only [List.getElem?_cons_zero] at b0
  by_cases hlt : i < r.us.length
  · have d1 : (i : Int) < r.us.length := by omega
    have d0 : (0 : Int) ≤ i := by omega
    obtain ⟨g, o, rfl, hc⟩ := hat (by omega)
    obtain ⟨sn, sm, sr, hcc, -, -, -⟩ := hc i hlt
    have k1 := (hL.cell (p := ⟨g, o + i * 19, none⟩) (World.block_lt_of_cell? W _ (hcc 0 _ rfl))).trans (hcc 0 _ rfl)
    have hN := hid (map_take (f := U9.nm) hlt)
    obtain ⟨x, hx⟩ : ∃ x, (r.us[i]'hlt).nm = x := ⟨_, rfl⟩
    rw [hx] at k1 hN
    have hz := hB.lt
    clear hx hat hc hcc
    go_wp2_with (at_builtin; refine wpList_append_own _ rfl _ _ 23 rfl (W.heap.size + 1) 9 i0 (.string ⟨#[]⟩) 1 16 Tryz.underlying23 hi0 hz0 hz1 hz2 rfl (by decide) _ _ _ rfl (hown.alloc _) ⟨wr.heap.size, 0, none⟩ 1 1 [.string x] rfl rfl cells_new (str_lone9 _) (by unfold maxLen; omega) (by omega) (by simp; omega) ?_)
    intro v' w' hown' hg' _
    have hb' := below_push (t := 9) hL.size hL hown (by omega) hg'
    have hB' := (hB.alloc (.cells #[.string x] 9)).grown hg' (own_not hown (by omega))
    have hown2 := own_to hown' (m := i + 1) (ys := strs ((namesU r).take (i + 1))) rfl (by unfold namesU; rw [hN.out]; exact strs_snoc _ x)
    clear hg' hown hL hown' hB b0 k1 hN
    go_wp2_with fail
    go_roundw
    case rel => exact ⟨i + 1, by go_num, by omega, hown2, hB', hb'⟩
    case measure => simp [RowKit.intOf]; omega
  · obtain rfl : i = r.us.length := by omega
    have hown2 := own_to hown (m := r.us.length) (ys := strs (namesU r)) rfl (by rw [List.take_of_length_le (by unfold namesU; simp)])
    have d1 : ¬ (r.us.length : Int) < r.us.length := by omega
    clear hown hat
    go_wp2_with fail
    go_ret
    exact ⟨_, rfl, hown2, hL⟩
set_option maxHeartbeats 4000000 in
set_option maxRecDepth 100000 in
theorem r9weapons_b (su sw st : Value) (r : R9) (W : World) (hR : RAt W su sw st r) (hsm : r.ws.length ≤ 1000) :
 Calls Tryz.prog 81 #[.agg #[su, sw, st]] W fun e w' => ∃ v, e = .returned v ∧ w'.ownsRow (W.heap.size + 1) 9 1 v r.ws.length (strs (namesW r)) ∧ Below W.heap.size W w' := by
 have hat0 := hR.w
 obtain ⟨p, c, rfl, -, hat⟩ := hat0
 have hB := Blk.new W [su, .slice p r.ws.length c, st] 31
 obtain ⟨i0, hi0, hz0, hz1, hz2⟩ := info_cut9 infoStr9
 have hL := (Below.refl W.heap.size W).alloc (Nat.le_refl _) (.cells #[su, .slice p r.ws.length c, st] 31)
 clear hR
 go_enter Tryz.func81, Tryz.ntmps81
 go_wp2_with fail
 generalize W.alloc (.cells #[su, .slice p r.ws.length c, st] 31) = V at *
 go_loopw [3, 4] (fun vo vi wr => ∃ i : Nat, vi = .int .i64 i ∧ i ≤ r.ws.length ∧ wr.ownsRow (W.heap.size + 1) 9 1 vo i (strs ((namesW r).take i)) ∧ Blk wr W.heap.size [su, .slice p r.ws.length c, st] 31 ∧ Below W.heap.size W wr) (fun _ vi _ => r.ws.length - (RowKit.intOf vi).toNat)
 case atStart => exact ⟨0, rfl, by omega, World.ownsRow_nil _ _ _ _, hB, hL⟩
 case round =>
  clear hB hL
  obtain ⟨i, rfl, hi, hown, hB, hL⟩ := hrel
  have b0 := hB.cell 1
  simp only [List.getElem?_cons_zero, List.getElem?_cons_succ] at b0
  by_cases hlt : i < r.ws.length
  · have d1 : (i : Int) < r.ws.length := by omega
    have d0 : (0 : Int) ≤ i := by omega
    obtain ⟨g, o, rfl, hc⟩ := hat (by omega)
    have hcc := hc i hlt
    have k1 := (hL.cell (p := ⟨g, o + i * 6, none⟩) (World.block_lt_of_cell? W _ (hcc 0 _ rfl))).trans (hcc 0 _ rfl)
    have hN := hid (map_take (f := W9.nm) hlt)
    obtain ⟨x, hx⟩ : ∃ x, (r.ws[i]'hlt).nm = x := ⟨_, rfl⟩
    rw [hx] at k1 hN
    have hz := hB.lt
    clear hx hat hc hcc
    go_wp2_with (at_builtin; refine wpList_append_own _ rfl _ _ 23 rfl (W.heap.size + 1) 9 i0 (.string ⟨#[]⟩) 1 16 Tryz.underlying23 hi0 hz0 hz1 hz2 rfl (by decide) _ _ _ rfl (hown.alloc _) ⟨wr.heap.size, 0, none⟩ 1 1 [.string x] rfl rfl cells_new (str_lone9 _) (by unfold maxLen; omega) (by omega) (by simp; omega) ?_)
    intro v' w' hown' hg' _
    have hb' := below_push (t := 9) hL.size hL hown (by omega) hg'
    have hB' := (hB.alloc (.cells #[.string x] 9)).grown hg' (own_not hown (by omega))
    have hown2 := own_to hown' (m := i + 1) (ys := strs ((namesW r).take (i + 1))) rfl (by unfold namesW; rw [hN.out]; exact strs_snoc _ x)
    clear hg' hown hL hown' hB b0 k1 hN
    go_wp2_with fail
    go_roundw
    case rel => exact ⟨i + 1, by go_num, by omega, hown2, hB', hb'⟩
    case measure => simp [RowKit.intOf]; omega
  · obtain rfl : i = r.ws.length := by omega
    have hown2 := own_to hown (m := r.ws.length) (ys := strs (namesW r)) rfl (by rw [List.take_of_length_le (by unfold namesW; simp)])
    have d1 : ¬ (r.ws.length : Int) < r.ws.length := by omega
    clear hown hat
    go_wp2_with fail
    go_ret
    exact ⟨_, rfl, hown2, hL⟩
set_option maxHeartbeats 4000000 in
set_option maxRecDepth 100000 in
theorem r9techs_b (su sw st : Value) (r : R9) (W : World) (hR : RAt W su sw st r) (hsm : r.ts.length ≤ 1000) :
 Calls Tryz.prog 44 #[.agg #[su, sw, st]] W fun e w' => ∃ v, e = .returned v ∧ w'.ownsRow (W.heap.size + 1) 9 1 v r.ts.length (strs (namesT r)) ∧ Below W.heap.size W w' := by
 have hat0 := hR.t
 obtain ⟨p, c, rfl, -, hat⟩ := hat0
 have hB := Blk.new W [su, sw, .slice p r.ts.length c] 31
 obtain ⟨i0, hi0, hz0, hz1, hz2⟩ := info_cut9 infoStr9
 have hL := (Below.refl W.heap.size W).alloc (Nat.le_refl _) (.cells #[su, sw, .slice p r.ts.length c] 31)
 clear hR
 go_enter Tryz.func44, Tryz.ntmps44
 go_wp2_with fail
 generalize W.alloc (.cells #[su, sw, .slice p r.ts.length c] 31) = V at *
 go_loopw [3, 4] (fun vo vi wr => ∃ i : Nat, vi = .int .i64 i ∧ i ≤ r.ts.length ∧ wr.ownsRow (W.heap.size + 1) 9 1 vo i (strs ((namesT r).take i)) ∧ Blk wr W.heap.size [su, sw, .slice p r.ts.length c] 31 ∧ Below W.heap.size W wr) (fun _ vi _ => r.ts.length - (RowKit.intOf vi).toNat)
 case atStart => exact ⟨0, rfl, by omega, World.ownsRow_nil _ _ _ _, hB, hL⟩
 case round =>
  clear hB hL
  obtain ⟨i, rfl, hi, hown, hB, hL⟩ := hrel
  have b0 := hB.cell 2
  simp only [List.getElem?_cons_zero, List.getElem?_cons_succ] at b0
  by_cases hlt : i < r.ts.length
  · have d1 : (i : Int) < r.ts.length := by omega
    have d0 : (0 : Int) ≤ i := by omega
    obtain ⟨g, o, rfl, hc⟩ := hat (by omega)
    obtain ⟨sn, hcc, -⟩ := hc i hlt
    have k1 := (hL.cell (p := ⟨g, o + i * 8, none⟩) (World.block_lt_of_cell? W _ (hcc 0 _ rfl))).trans (hcc 0 _ rfl)
    have hN := hid (map_take (f := T9.nm) hlt)
    obtain ⟨x, hx⟩ : ∃ x, (r.ts[i]'hlt).nm = x := ⟨_, rfl⟩
    rw [hx] at k1 hN
    have hz := hB.lt
    clear hx hat hc hcc
    go_wp2_with (at_builtin; refine wpList_append_own _ rfl _ _ 23 rfl (W.heap.size + 1) 9 i0 (.string ⟨#[]⟩) 1 16 Tryz.underlying23 hi0 hz0 hz1 hz2 rfl (by decide) _ _ _ rfl (hown.alloc _) ⟨wr.heap.size, 0, none⟩ 1 1 [.string x] rfl rfl cells_new (str_lone9 _) (by unfold maxLen; omega) (by omega) (by simp; omega) ?_)
    intro v' w' hown' hg' _
    have hb' := below_push (t := 9) hL.size hL hown (by omega) hg'
    have hB' := (hB.alloc (.cells #[.string x] 9)).grown hg' (own_not hown (by omega))
    have hown2 := own_to hown' (m := i + 1) (ys := strs ((namesT r).take (i + 1))) rfl (by unfold namesT; rw [hN.out]; exact strs_snoc _ x)
    clear hg' hown hL hown' hB b0 k1 hN
    go_wp2_with fail
    go_roundw
    case rel => exact ⟨i + 1, by go_num, by omega, hown2, hB', hb'⟩
    case measure => simp [RowKit.intOf]; omega
  · obtain rfl : i = r.ts.length := by omega
    have hown2 := own_to hown (m := r.ts.length) (ys := strs (namesT r)) rfl (by rw [List.take_of_length_le (by unfold namesT; simp)])
    have d1 : ¬ (r.ts.length : Int) < r.ts.length := by omega
    clear hown hat
    go_wp2_with fail
    go_ret
    exact ⟨_, rfl, hown2, hL⟩
end
section
open Go.RowKit Go.Lib
section
variable {P : Program} {W : World} {us : List Value}
theorem CellsAt.first {g o : Nat} {v : Value} (h : CellsAt W g o us) (e : us[0]? = some v) : W.cell? ⟨g, o, none⟩ = some v := h 0 v e
end
theorem buildT : ∀ w, Sem.run Tryz.prog (Instr.build 56 #[]) w = .ok (.agg tZero.toArray) w := fun w => by kernel_rfl
theorem tZero_tl (W : World) : TL W tZero T9.zero := ⟨_, rfl, strSl_nil W⟩
theorem find_take {α : Type} {p : α → Bool} {l : List α} {i : Nat} (hi : i < l.length) (h : (l.take i).find? p = none) (hn : p (l[i]'hi) = false) : (l.take (i + 1)).find? p = none := by
 rw [List.take_succ_eq_append_getElem hi, List.find?_append, h]
 simp [hn]
end
section
open Go.RowKit Go.Lib
def UnitPost (r : R9) (s : ByteArray) (V0 w : World) (e : Ending) (w' : World) : Prop := ∃ vs, e = .returned (.tuple #[.agg vs.toArray, .bool (unitv r s).isSome]) ∧ UL V0 vs ((unitv r s).getD U9.zero) ∧ Below w.heap.size w w'
set_option maxHeartbeats 4000000 in
set_option maxRecDepth 100000 in
theorem r9unit_b (su sw st : Value) (r : R9) (s : ByteArray) (V0 W : World) (hR : RAt V0 su sw st r) (h0 : Below V0.heap.size V0 W) :
 Calls Tryz.prog 88 #[.agg #[su, sw, st], .string s] W (UnitPost r s V0 W) := by
 obtain ⟨p, c, rfl, hm, hat⟩ := hR.u
 have hB := (Blk.new W [.slice p r.us.length c, sw, st] 31).alloc (.cells uZero.toArray 53)
 have hZ := (Blk.new (W.alloc (.cells [.slice p r.us.length c, sw, st].toArray 31)) uZero 53).at (World.size_alloc _ _)
 have hL := ((Below.refl W.heap.size W).alloc (Nat.le_refl _) (.cells [.slice p r.us.length c, sw, st].toArray 31)).alloc (by simp) (.cells uZero.toArray 53)
 have hL0 := h0.trans (hL.mono h0.size)
 unfold maxLen at hm
 clear hR
 go_enter Tryz.func88, Tryz.ntmps88
 go_wp2_with (with_reducible refine wpList_alloc_agg rfl 53 rfl _ rfl uZero zeroU ?_)
 generalize (W.alloc (.cells [.slice p r.us.length c, sw, st].toArray 31)).alloc (.cells uZero.toArray 53) = V at *
 have b0 := hB.cell 0
 simp only [List.getElem?_cons_zero] at b0
 go_loop [6] (fun vi => ∃ i : Nat, vi = .int .i64 i ∧ i ≤ r.us.length ∧ Hid ((r.us.take i).find? (fun u => decide (u.nm = s)) = none)) (fun vi => r.us.length - (RowKit.intOf vi).toNat)
 case atStart => exact ⟨0, rfl, by omega, hid rfl⟩
 case round =>
  obtain ⟨i, rfl, hi, hA⟩ := hrel
  by_cases hlt : i < r.us.length
  · have d1 : (i : Int) < r.us.length := by omega
    have d0 : (0 : Int) ≤ i := by omega
    obtain ⟨g, o, rfl, hc⟩ := hat (by omega)
    obtain ⟨vs, hU, hcs⟩ := (hc i hlt).ul
    have hcV := hcs.below' (hcs.lt' hU.name) hL0
    have k0 := hcV.first hU.name
    have kl := hcV.loads (P := Tryz.prog) hU.len
    have HN := fun (q : ¬ (r.us[i]'hlt).nm = s) => hid (find_take (p := fun u => decide (u.nm = s)) hlt hA.out (decide_eq_false q))
    have HY := fun (q : (r.us[i]'hlt).nm = s) => hid (find_at (p := fun u => decide (u.nm = s)) hlt hA.out (decide_eq_true q))
    obtain ⟨u, hu⟩ : ∃ u, r.us[i]'hlt = u := ⟨_, rfl⟩
    rw [hu] at k0 HN HY hU
    clear hat hA hc hu hcs
    by_cases hq : u.nm = s
    · have HS := HY hq
      clear HY HN
      rw [hq] at k0
      have hU' := hid hU
      have hcV' := hid hcV
      have kl' := hid kl
      clear hU hcV kl
      go_wp2_with (first | (with_reducible refine wpList_load_agg rfl 53 _ rfl ⟨g, o + i * 19, none⟩ (by with_unfolding_all rfl) Tryz.isAgg53 Tryz.sizeOf53 vs kl'.out ?_) | (with_reducible refine wpList_store_agg rfl 53 _ _ rfl rfl (W.heap.size + 1) (by with_unfolding_all rfl) Tryz.sizeOf53 vs (by with_unfolding_all rfl) hU'.out.len hZ rfl hU'.out.lone ?_))
      refine bodyPost_ret (results_agg_two rfl rfl rfl Tryz.isAgg53 Tryz.sizeOf53 (hZ.put vs) hU'.out.len) rfl ?_
      have hL2 := below_setRow hL (Nat.le_succ W.heap.size) vs.toArray
      refine ⟨vs, ?_, ?_, hL2⟩
      · unfold unitv; rw [HS.out]; rfl
      · unfold unitv; rw [HS.out]; exact hU'.out
    · have hns := ne_list hq
      obtain ⟨q1, q2⟩ := hns
      have HS := HN hq
      clear HN HY hq kl
      go_wp2_with fail
      go_round
      case rel => exact ⟨i + 1, by go_num, by omega, HS⟩
      case measure => simp [RowKit.intOf]; omega
  · obtain rfl : i = r.us.length := by omega
    have ha := hA.out
    rw [List.take_length] at ha
    have d1 : ¬ (r.us.length : Int) < r.us.length := by omega
    have ha' := hid ha
    clear ha hA hat
    go_wp2_with (first | (with_reducible refine wpList_zero_agg rfl 53 rfl uZero buildU ?_) | (with_reducible refine wpList_store_agg rfl 53 _ _ rfl rfl (W.heap.size + 1) (by with_unfolding_all rfl) Tryz.sizeOf53 uZero (by with_unfolding_all rfl) rfl hZ rfl (uZero_ul W).lone ?_))
    refine bodyPost_ret (results_agg_two rfl rfl rfl Tryz.isAgg53 Tryz.sizeOf53 (hZ.put uZero) rfl) rfl ?_
    have hL2 := below_setRow hL (Nat.le_succ W.heap.size) uZero.toArray
    refine ⟨uZero, ?_, ?_, hL2⟩
    · unfold unitv; rw [ha'.out]; rfl
    · unfold unitv; rw [ha'.out]; exact uZero_ul _
def TechPost (r : R9) (s : ByteArray) (V0 w : World) (e : Ending) (w' : World) : Prop := ∃ vs, e = .returned (.tuple #[.agg vs.toArray, .bool (techfv r s).isSome]) ∧ TL V0 vs ((techfv r s).getD T9.zero) ∧ Below w.heap.size w w'
set_option maxHeartbeats 4000000 in
set_option maxRecDepth 100000 in
theorem r9tech_b (su sw st : Value) (r : R9) (s : ByteArray) (V0 W : World) (hR : RAt V0 su sw st r) (h0 : Below V0.heap.size V0 W) :
 Calls Tryz.prog 117 #[.agg #[su, sw, st], .string s] W (TechPost r s V0 W) := by
 obtain ⟨p, c, rfl, hm, hat⟩ := hR.t
 have hB := (Blk.new W [su, sw, .slice p r.ts.length c] 31).alloc (.cells tZero.toArray 56)
 have hZ := (Blk.new (W.alloc (.cells [su, sw, .slice p r.ts.length c].toArray 31)) tZero 56).at (World.size_alloc _ _)
 have hL := ((Below.refl W.heap.size W).alloc (Nat.le_refl _) (.cells [su, sw, .slice p r.ts.length c].toArray 31)).alloc (by simp) (.cells tZero.toArray 56)
 have hL0 := h0.trans (hL.mono h0.size)
 unfold maxLen at hm
 clear hR
 go_enter Tryz.func117, Tryz.ntmps117
 go_wp2_with (with_reducible refine wpList_alloc_agg rfl 56 rfl _ rfl tZero zeroT ?_)
 generalize (W.alloc (.cells [su, sw, .slice p r.ts.length c].toArray 31)).alloc (.cells tZero.toArray 56) = V at *
 have b0 := hB.cell 2
 simp only [List.getElem?_cons_zero, List.getElem?_cons_succ] at b0
 go_loop [6] (fun vi => ∃ i : Nat, vi = .int .i64 i ∧ i ≤ r.ts.length ∧ Hid ((r.ts.take i).find? (fun u => decide (u.nm = s)) = none)) (fun vi => r.ts.length - (RowKit.intOf vi).toNat)
 case atStart => exact ⟨0, rfl, by omega, hid rfl⟩
 case round =>
  obtain ⟨i, rfl, hi, hA⟩ := hrel
  by_cases hlt : i < r.ts.length
  · have d1 : (i : Int) < r.ts.length := by omega
    have d0 : (0 : Int) ≤ i := by omega
    obtain ⟨g, o, rfl, hc⟩ := hat (by omega)
    obtain ⟨vs, hU, hcs⟩ := (hc i hlt).tl
    have hcV := hcs.below' (hcs.lt' hU.name) hL0
    have k0 := hcV.first hU.name
    have kl := hcV.loads (P := Tryz.prog) hU.len
    have HN := fun (q : ¬ (r.ts[i]'hlt).nm = s) => hid (find_take (p := fun u => decide (u.nm = s)) hlt hA.out (decide_eq_false q))
    have HY := fun (q : (r.ts[i]'hlt).nm = s) => hid (find_at (p := fun u => decide (u.nm = s)) hlt hA.out (decide_eq_true q))
    obtain ⟨u, hu⟩ : ∃ u, r.ts[i]'hlt = u := ⟨_, rfl⟩
    rw [hu] at k0 HN HY hU
    clear hat hA hc hu hcs
    by_cases hq : u.nm = s
    · have HS := HY hq
      clear HY HN
      rw [hq] at k0
      have hU' := hid hU
      have hcV' := hid hcV
      have kl' := hid kl
      clear hU hcV kl
      go_wp2_with (first | (with_reducible refine wpList_load_agg rfl 56 _ rfl ⟨g, o + i * 8, none⟩ (by with_unfolding_all rfl) Tryz.isAgg56 Tryz.sizeOf56 vs kl'.out ?_) | (with_reducible refine wpList_store_agg rfl 56 _ _ rfl rfl (W.heap.size + 1) (by with_unfolding_all rfl) Tryz.sizeOf56 vs (by with_unfolding_all rfl) hU'.out.len hZ rfl hU'.out.lone ?_))
      refine bodyPost_ret (results_agg_two rfl rfl rfl Tryz.isAgg56 Tryz.sizeOf56 (hZ.put vs) hU'.out.len) rfl ?_
      have hL2 := below_setRow hL (Nat.le_succ W.heap.size) vs.toArray
      refine ⟨vs, ?_, ?_, hL2⟩
      · unfold techfv; rw [HS.out]; rfl
      · unfold techfv; rw [HS.out]; exact hU'.out
    · have hns := ne_list hq
      obtain ⟨q1, q2⟩ := hns
      have HS := HN hq
      clear HN HY hq kl
      go_wp2_with fail
      go_round
      case rel => exact ⟨i + 1, by go_num, by omega, HS⟩
      case measure => simp [RowKit.intOf]; omega
  · obtain rfl : i = r.ts.length := by omega
    have ha := hA.out
    rw [List.take_length] at ha
    have d1 : ¬ (r.ts.length : Int) < r.ts.length := by omega
    have ha' := hid ha
    clear ha hA hat
    go_wp2_with (first | (with_reducible refine wpList_zero_agg rfl 56 rfl tZero buildT ?_) | (with_reducible refine wpList_store_agg rfl 56 _ _ rfl rfl (W.heap.size + 1) (by with_unfolding_all rfl) Tryz.sizeOf56 tZero (by with_unfolding_all rfl) rfl hZ rfl (tZero_tl W).lone ?_))
    refine bodyPost_ret (results_agg_two rfl rfl rfl Tryz.isAgg56 Tryz.sizeOf56 (hZ.put tZero) rfl) rfl ?_
    have hL2 := below_setRow hL (Nat.le_succ W.heap.size) tZero.toArray
    refine ⟨tZero, ?_, ?_, hL2⟩
    · unfold techfv; rw [ha'.out]; rfl
    · unfold techfv; rw [ha'.out]; exact tZero_tl _
end
section
open Go.RowKit Go.Lib
def lim1 (u : U9) : Bool := decide (u.needs.length ≤ 4) && decide (u.trains.length ≤ 4) && decide (u.ress.length ≤ 4)
def lim2 (t : T9) : Bool := decide (t.needs.length ≤ 4)
theorem limv_eq (r : R9) : limv r = (decide (r.us.length ≤ 16) && decide (r.ws.length ≤ 8) && decide (r.ts.length ≤ 12) && r.us.all lim1 && r.ts.all lim2) := rfl
set_option maxHeartbeats 4000000 in
set_option maxRecDepth 100000 in
theorem r9limits_b (su sw st : Value) (r : R9) (b : Bool) (W : World) (hR : RAt W su sw st r) (e : Hid (b = limv r)) :
 Calls Tryz.prog 41 #[.agg #[su, sw, st]] W fun e w' => e = .returned (.bool b) ∧ Below W.heap.size W w' := by
 obtain ⟨p, c, rfl, hm, hat⟩ := hR.u
 obtain ⟨p1, c1, rfl, hm1, -⟩ := hR.w
 obtain ⟨p2, c2, rfl, hm2, hat2⟩ := hR.t
 have hB := Blk.new W [.slice p r.us.length c, .slice p1 r.ws.length c1, .slice p2 r.ts.length c2] 31
 have hL := (Below.refl W.heap.size W).alloc (Nat.le_refl _) (.cells [.slice p r.us.length c, .slice p1 r.ws.length c1, .slice p2 r.ts.length c2].toArray 31)
 unfold maxLen at hm hm1 hm2
 replace e := hid (e.out.trans (limv_eq r))
 clear hR
 by_cases h1 : 16 < r.us.length
 · have hb : b = false := by rw [e.out, decide_eq_false (by omega)]; rfl
   subst hb
   clear e
   go_enter Tryz.func41, Tryz.ntmps41
   go_wp2_with fail
   go_ret
   exact ⟨rfl, hL⟩
 by_cases h2 : 8 < r.ws.length
 · have hb : b = false := by rw [e.out, decide_eq_false (show ¬ r.ws.length ≤ 8 by omega), Bool.and_false]; rfl
   subst hb
   clear e
   go_enter Tryz.func41, Tryz.ntmps41
   go_wp2_with fail
   go_ret
   exact ⟨rfl, hL⟩
 by_cases h3 : 12 < r.ts.length
 · have hb : b = false := by rw [e.out, decide_eq_false (show ¬ r.ts.length ≤ 12 by omega), Bool.and_false]; rfl
   subst hb
   clear e
   go_enter Tryz.func41, Tryz.ntmps41
   go_wp2_with fail
   go_ret
   exact ⟨rfl, hL⟩
 replace e := hid (show b = (r.us.all lim1 && r.ts.all lim2) by rw [e.out, decide_eq_true (show r.us.length ≤ 16 by omega), decide_eq_true (show r.ws.length ≤ 8 by omega), decide_eq_true (show r.ts.length ≤ 12 by omega)]; rfl)
 go_enter Tryz.func41, Tryz.ntmps41
 go_wp2_with fail
 generalize W.alloc (.cells [.slice p r.us.length c, .slice p1 r.ws.length c1, .slice p2 r.ts.length c2].toArray 31) = V at *
 go_loopw [3] (fun vi wr => ∃ i : Nat, vi = .int .i64 i ∧ i ≤ r.us.length ∧ Blk wr W.heap.size [.slice p r.us.length c, .slice p1 r.ws.length c1, .slice p2 r.ts.length c2] 31 ∧ Below W.heap.size W wr ∧ Hid ((r.us.take i).all lim1 = true)) (fun vi _ => r.us.length - (RowKit.intOf vi).toNat)
 case atStart => exact ⟨0, rfl, by omega, hB, hL, hid rfl⟩
 case round =>
  clear hB hL
  obtain ⟨i, rfl, hi, hB, hL, hA⟩ := hrel
  have b0 := hB.cell 0
  have b2 := hB.cell 2
  simp only [List.getElem?_cons_zero, List.getElem?_cons_succ] at b0 b2
  by_cases hlt : i < r.us.length
  · have d1 : (i : Int) < r.us.length := by omega
    have d0 : (0 : Int) ≤ i := by omega
    obtain ⟨g, o, rfl, hc⟩ := hat (by omega)
    obtain ⟨vs, hU, hcs⟩ := (hc i hlt).ul
    have kl := hid ((hcs.below' (hcs.lt' hU.name) hL).loads (P := Tryz.prog) hU.len)
    obtain ⟨pn, cn, pt, ct, pr, cr, hvs, s1, s2, s3⟩ := hU.lists
    have l1 := s1.small
    have l2 := s2.small
    have l3 := s3.small
    have HN := fun q => hid (allp_take (f := lim1) hlt hA.out q)
    have HY := fun q => hid (allp_no (f := lim1) hlt q)
    have hU' := hid hU
    obtain ⟨u, hu⟩ : ∃ u, r.us[i]'hlt = u := ⟨_, rfl⟩
    rw [hu] at HN HY hU' hvs l1 l2 l3
    have hZ := Blk.new wr vs 53
    have t16 : (wr.alloc (.cells vs.toArray 53)).cell? ⟨wr.heap.size, 16, none⟩ = some (.slice pn u.needs.length cn) := (hZ.cell 16).trans (by rw [hvs]; rfl)
    have t17 : (wr.alloc (.cells vs.toArray 53)).cell? ⟨wr.heap.size, 17, none⟩ = some (.slice pt u.trains.length ct) := (hZ.cell 17).trans (by rw [hvs]; rfl)
    have t18 : (wr.alloc (.cells vs.toArray 53)).cell? ⟨wr.heap.size, 18, none⟩ = some (.slice pr u.ress.length cr) := (hZ.cell 18).trans (by rw [hvs]; rfl)
    have hB2 := hB.alloc (.cells vs.toArray 53)
    have hL2 := hL.alloc hL.size (.cells vs.toArray 53)
    clear hu hat hc hU hA hcs s1 s2 s3 hvs hZ
    by_cases g1 : 4 < u.needs.length
    · have hb : b = false := by rw [e.out, (HY (by unfold lim1; simp; omega)).out]; rfl
      subst hb
      clear e HN HY
      go_wp2_with (first | (with_reducible refine wpList_load_agg rfl 53 _ rfl ⟨g, o + i * 19, none⟩ (by with_unfolding_all rfl) Tryz.isAgg53 Tryz.sizeOf53 vs kl.out ?_) | (with_reducible refine wpList_alloc_agg rfl 53 rfl _ rfl uZero zeroU ?_) | (with_reducible refine wpList_store_new rfl 53 _ _ rfl rfl Tryz.sizeOf53 vs uZero 53 (by with_unfolding_all rfl) (by with_unfolding_all rfl) hU'.out.len rfl hU'.out.lone ?_))
      go_ret
      exact ⟨rfl, hL2⟩
    by_cases g2 : 4 < u.trains.length
    · have hb : b = false := by rw [e.out, (HY (by unfold lim1; simp; omega)).out]; rfl
      subst hb
      clear e HN HY
      go_wp2_with (first | (with_reducible refine wpList_load_agg rfl 53 _ rfl ⟨g, o + i * 19, none⟩ (by with_unfolding_all rfl) Tryz.isAgg53 Tryz.sizeOf53 vs kl.out ?_) | (with_reducible refine wpList_alloc_agg rfl 53 rfl _ rfl uZero zeroU ?_) | (with_reducible refine wpList_store_new rfl 53 _ _ rfl rfl Tryz.sizeOf53 vs uZero 53 (by with_unfolding_all rfl) (by with_unfolding_all rfl) hU'.out.len rfl hU'.out.lone ?_))
      go_ret
      exact ⟨rfl, hL2⟩
    by_cases g3 : 4 < u.ress.length
    · have hb : b = false := by rw [e.out, (HY (by unfold lim1; simp; omega)).out]; rfl
      subst hb
      clear e HN HY
      go_wp2_with (first | (with_reducible refine wpList_load_agg rfl 53 _ rfl ⟨g, o + i * 19, none⟩ (by with_unfolding_all rfl) Tryz.isAgg53 Tryz.sizeOf53 vs kl.out ?_) | (with_reducible refine wpList_alloc_agg rfl 53 rfl _ rfl uZero zeroU ?_) | (with_reducible refine wpList_store_new rfl 53 _ _ rfl rfl Tryz.sizeOf53 vs uZero 53 (by with_unfolding_all rfl) (by with_unfolding_all rfl) hU'.out.len rfl hU'.out.lone ?_))
      go_ret
      exact ⟨rfl, hL2⟩
    have HS := HN (by unfold lim1; simp; omega)
    clear HN HY
    go_wp2_with (first | (with_reducible refine wpList_load_agg rfl 53 _ rfl ⟨g, o + i * 19, none⟩ (by with_unfolding_all rfl) Tryz.isAgg53 Tryz.sizeOf53 vs kl.out ?_) | (with_reducible refine wpList_alloc_agg rfl 53 rfl _ rfl uZero zeroU ?_) | (with_reducible refine wpList_store_new rfl 53 _ _ rfl rfl Tryz.sizeOf53 vs uZero 53 (by with_unfolding_all rfl) (by with_unfolding_all rfl) hU'.out.len rfl hU'.out.lone ?_))
    go_roundw
    case rel => exact ⟨i + 1, by go_num, by omega, hB2, hL2, HS⟩
    case measure => simp [RowKit.intOf]; omega
  · obtain rfl : i = r.us.length := by omega
    have ha := hA.out
    rw [List.take_length] at ha
    have d1 : ¬ (r.us.length : Int) < r.us.length := by omega
    replace e := hid (show b = r.ts.all lim2 by rw [e.out, ha]; rfl)
    clear hat ha hA
    go_wp2_with fail
    clear b0 b2 d1
    go_loop [5] (fun vi => ∃ i : Nat, vi = .int .i64 i ∧ i ≤ r.ts.length ∧ Hid ((r.ts.take i).all lim2 = true)) (fun vi => r.ts.length - (RowKit.intOf vi).toNat)
    case atStart => exact ⟨0, rfl, by omega, hid rfl⟩
    case round =>
     obtain ⟨i, rfl, hi, hA⟩ := hrel
     have b2 := hB.cell 2
     simp only [List.getElem?_cons_zero, List.getElem?_cons_succ] at b2
     by_cases hlt : i < r.ts.length
     · have d1 : (i : Int) < r.ts.length := by omega
       have d0 : (0 : Int) ≤ i := by omega
       obtain ⟨g, o, rfl, hc⟩ := hat2 (by omega)
       obtain ⟨vs, hU, hcs⟩ := (hc i hlt).tl
       obtain ⟨pn, cn, hvs, s1⟩ := hU.lists
       have l1 := s1.small
       have k1 : wr.cell? ⟨g, o + i * 8 + 1, none⟩ = some (.slice pn (r.ts[i]'hlt).needs.length cn) := (hcs.below' (hcs.lt' hU.name) hL) 1 _ (by rw [hvs]; rfl)
       have HN := fun q => hid (allp_take (f := lim2) hlt hA.out q)
       have HY := fun q => hid (allp_no (f := lim2) hlt q)
       obtain ⟨u, hu⟩ : ∃ u, r.ts[i]'hlt = u := ⟨_, rfl⟩
       rw [hu] at HN HY k1 l1
       clear hu hat2 hc hU hA hcs s1 hvs
       by_cases g1 : 4 < u.needs.length
       · have hb : b = false := by rw [e.out, (HY (by unfold lim2; simp; omega)).out]
         subst hb
         clear e HN HY
         go_wp2_with fail
         go_ret
         exact ⟨rfl, hL⟩
       have HS := HN (by unfold lim2; simp; omega)
       clear HN HY
       go_wp2_with fail
       go_round
       case rel => exact ⟨i + 1, by go_num, by omega, HS⟩
       case measure => simp [RowKit.intOf]; omega
     · obtain rfl : i = r.ts.length := by omega
       have ha := hA.out
       rw [List.take_length] at ha
       have d1 : ¬ (r.ts.length : Int) < r.ts.length := by omega
       have hb := e.out.trans ha
       subst hb
       clear e ha hA hat2
       go_wp2_with fail
       go_ret
       exact ⟨rfl, hL⟩
end
end
section
open Go.RowKit Go.Lib
abbrev RValP : Prop := ∀ (su sw st : Value) (r : R9) (n : Int) (W : World), RAt W su sw st r → r.us.length ≤ 1000 → r.ws.length ≤ 1000 → r.ts.length ≤ 1000 → Hid (n = valv r) →
 Calls Tryz.prog 19 #[.agg #[su, sw, st]] W fun e w' => e = .returned (.int .i64 n) ∧ Below W.heap.size W w'
end
section
open Go.RowKit
section
variable {P : Program} {w : World} {e : TypeId} {k n m : Nat} {v u : Value} {xs ys : List Value} {B C : Nat}
theorem run_append_rows (t ty : TypeId) (i : TypeInfo) (z : Value) (size bytes : Nat) (ht : P.underlying t = some (.slice e)) (hi : P.info? e = some i) (hz : i.zero = some z)
 (hsize : i.size = size) (hby : i.bytes = bytes) (hzs : z.cells.size = size) (hsz : 0 < size) (hown : w.ownsRow B e size v n xs) (hu : w.ownsRow C e size u m ys) (h1 : ∀ y ∈ ys, y.oneCell' = true)
 (h63 : n + m ≤ maxLen) (hbytes : (n + m) * bytes ≤ 140737488355328) (hB : B ≤ w.heap.size) :
 ∃ v' w', (Builtin.append_ #[t, t] ty #[v, u]).run P w = .ok v' w' ∧ w'.ownsRow B e size v' (n + m) (xs ++ ys) ∧ w.grownBy w' v.ownBlock := by
 rcases id hu.2 with ⟨rfl, rfl⟩ | ⟨g, cap, cur, rfl, -, -, -, -, -, -⟩
 · have hy : ys = [] := List.eq_nil_of_length_eq_zero (by rw [hu.1, Nat.zero_mul])
   subst hy
   rcases id hown.2 with ⟨rfl, rfl⟩ | ⟨g, cap, cur, rfl, -, -, hle, -, -, -⟩
   · exact ⟨_, w, run_append_nothing w t t ty e i ht hi none 0 0 (Nat.le_refl _) _ (Src.ofNil w ht 0), by rw [List.append_nil]; exact hown, ⟨rfl, rfl, rfl, Nat.le_refl _, fun _ _ _ => rfl⟩⟩
   · exact ⟨_, w, run_append_nothing w t t ty e i ht hi _ n cap hle _ (Src.ofNil w ht 0), by rw [List.append_nil]; exact hown, ⟨rfl, rfl, rfl, Nat.le_refl _, fun _ _ _ => rfl⟩⟩
 · obtain ⟨v', w', h, ho, hg, -⟩ := run_append_own (P := P) w B t ty e i z size bytes ht hi hz hsize hby hzs hsz v n xs hown ⟨g, 0, none⟩ m cap ys hu.1 (hu.cells rfl) h1 h63 hbytes hB
   exact ⟨v', w', h, ho, hg⟩
end
theorem own_apart {w w1 : World} {v u : Value} {B k n k2 m : Nat} {e e3 : TypeId} {xs ys : List Value} (h : w.ownsRow B e k v n xs) (h2 : w1.ownsRow (w.heap.size + 1) e3 k2 u m ys) : v.ownBlock = none ∨ v.ownBlock ≠ u.ownBlock := by
 cases ho : v.ownBlock with
 | none => exact .inl rfl
 | some j =>
  right
  intro e4
  have := (h.lt j ho).2
  have := (h2.lt j e4.symm).1
  omega
theorem own_apart' {w w1 : World} {v u : Value} {B k n k2 m : Nat} {e e3 : TypeId} {xs ys : List Value} (h : w.ownsRow B e k v n xs) (h2 : w1.ownsRow (w.heap.size + 1) e3 k2 u m ys) : u.ownBlock = none ∨ u.ownBlock ≠ v.ownBlock := by
 cases ho : u.ownBlock with
 | none => exact .inl rfl
 | some j =>
  right
  intro e4
  have := (h.lt j e4.symm).2
  have := (h2.lt j ho).1
  omega
section
variable {P : Program} {rest : List Oper} {ops : Array Oper} {o : Oper} {a : Act} {w : World} {Q : Exit → Act → World → Prop}
theorem wpList_append_run (hg : o.guard = none) (s x : Operand) (t : TypeId) (ho : o.op = .call { callee := .builtin .append, args := #[s, x], argTypes := #[t, t] }) (v y v' : Value) (w' : World) (hs : a.eval s = v) (hx : a.eval x = y)
 (hrun : (Builtin.append_ #[t, t] o.type #[v, y]).run P w = .ok v' w') (h : wpList P ops Q rest (a.put o.dst v') w') : wpList P ops Q (o :: rest) a w :=
 wpList_plain hg fun K hK => by
  unfold Oper.wp execOp
  simp only [ho, resolve, invoke, builtin, Sem.run_bind, Sem.run_pure, Result.andThen_ok, List.map_toArray, List.map_cons, List.map_nil, hs, hx, hrun]
  exact hK _ _ h
end
section
variable {P : Program} {ops : Array Oper} {Q : Exit → Act → World → Prop}
theorem step_app_run {o : Oper} {a : Act} {w w' : World} {K : Act → World → Prop} {E : Prop} (hg : o.guard = none) (s x : Operand) (t : TypeId) (hop : o.op = Op.call { callee := Callee.builtin Builtin.append, args := #[s, x], argTypes := #[t, t] })
 (v y v' : Value) (hs : a.eval s = v) (hx : a.eval x = y) (hrun : (Builtin.append_ #[t, t] o.type #[v, y]).run P w = .ok v' w') (hK : K (a.put o.dst v') w') :
 if Region.wanted o (yielded ops a.tmps) = true then Oper.wp P o a w K Q else E := by
 have hw : Region.wanted o (yielded ops a.tmps) = true := by simp [Region.wanted, hg]
 rw [if_pos hw]
 unfold Oper.wp
 simp [execOp, hop, resolve, invoke, builtin, hs, hx, hrun, Result.andThen]
 exact hK
end
end
section
section
open Go.RowKit Go.Lib
section
variable {P : Program} {ops : Array Oper} {Q : Exit → Act → World → Prop} {md : Region.Mode} {S : World → Prop}
theorem reg_skip {i : Nat} {oi : Oper} {fuel : Nat} {listed : Array Bool} {a : Act} {w : World} (d : Option Tmp) (hi : ops[i]? = some oi) (hd : oi.dst = d)
 (hs : Region.noSelect ops = true) (hf : Region.free md ops listed i = true) (hr : (Region.ready md ops listed).contains i = true)
 (hQ : ∀ c a w, Q (.panic c) (a.put oi.dst undef) w → Q (.panic c) a w) (hw : Region.wanted oi (yielded ops a.tmps) = false) (hS : S w)
 (h : wpAnyH P md ops Q S fuel (listed.setIfInBounds i true) (a.put d undef) w) : wpAnyH P md ops Q S (fuel + 1) listed a w := by
 subst hd
 exact wpAnyH_take hi hs hf hr hQ (Or.inr ⟨hw, rfl⟩) hS h
end
end
end
section
open Go.RowKit Go.Lib
section
variable {P : Program} {ops : Array Oper} {Q : Exit → Act → World → Prop} {md : Region.Mode} {S : World → Prop}
theorem held_two {i k : Nat} {o1 o2 : Oper} {fuel : Nat} {listed : Array Bool} {a : Act} {w : World} (hr : Region.ready md ops listed = [i, k]) (h1 : ops[i]? = some o1) (h2 : ops[k]? = some o2)
 (H1 : ∀ K' : Act → World → Prop, Shut (∀ a w, S w → wpAnyH P md ops Q S fuel (listed.setIfInBounds i true) a w → K' a w) → if Region.wanted o1 (yielded ops a.tmps) = true then Oper.wp P o1 a w K' Q else K' (a.put o1.dst undef) w)
 (H2 : ∀ K' : Act → World → Prop, Shut (∀ a w, S w → wpAnyH P md ops Q S fuel (listed.setIfInBounds k true) a w → K' a w) → if Region.wanted o2 (yielded ops a.tmps) = true then Oper.wp P o2 a w K' Q else K' (a.put o2.dst undef) w) :
 wpAnyH P md ops Q S (fuel + 1) listed a w := by
 refine ⟨fun h0 => (by rw [hr] at h0; cases h0), fun j hj => ?_⟩
 rw [hr] at hj
 rcases List.mem_cons.1 hj with rfl | hj
 · exact wpOp_step h1 (fun K' hK => H1 K' (fun a w hS hW => hK a w ⟨hS, hW⟩))
 · rcases List.mem_cons.1 hj with rfl | hj
   · exact wpOp_step h2 (fun K' hK => H2 K' (fun a w hS hW => hK a w ⟨hS, hW⟩))
   · cases hj
theorem step_alloc_agg {o : Oper} {a : Act} {w : World} {K : Act → World → Prop} {E : Prop} (hg : o.guard = none) (t : TypeId) (ho : o.op = .alloc t) (zs : List Value) (hz : ∀ w, (zeroValue t).run P w = .ok (.agg zs.toArray) w)
 (hK : K (a.put o.dst (.pointer (some ⟨w.heap.size, 0, none⟩))) (w.alloc (.cells zs.toArray t))) : if Region.wanted o (yielded ops a.tmps) = true then Oper.wp P o a w K Q else E := by
 have hw : Region.wanted o (yielded ops a.tmps) = true := by simp [Region.wanted, hg]
 rw [if_pos hw]
 unfold Oper.wp execOp
 simp only [ho, Instr.alloc, newVar, newRow, Value.cells, Sem.run_bind, Sem.run_pure, Result.andThen_ok, hz, run_newObj]
 exact hK
end
end

end Go.Proofs.YtnjcdmjaecgblaaGreatDoor
