/-
  slices.IndexFunc and slices.ContainsFunc at the types that package rules uses, whatever the function handed to them; slices.Index, slices.Contains and slices.ContainsFunc at strings; slices.Clone at strings; rows that are owned, behind stores elsewhere; From a region that draws of which nothing is asked to one with late operations. No program is named here; Maps from strings to values of any kind, as lists of entries. No program is named here; Elements whose fields are found by their names: cells, offsets, what the maps of an element hold.
-/
import Derived.Test.YtnjcdmjaecgblaaGreatDoorZA02
import Derived.Shelf.Abstract
import Derived.Maps.OwnOps
import Derived.Maps.OwnSet
import Derived.StringKeys
namespace Go.Proofs.YtnjcdmjaecgblaaGreatDoor
section
open Go.RowKit Go.Lib
theorem lidxU_b (v : Value) (n : Nat) (cs : Nat → List Value) (f : Nat) (lb : Array Value) (p : Nat → Bool) (V0 W : World) (hr : RowV V0 19 v n cs) (h0 : Below V0.heap.size V0 W)
 (eg : ∀ args w, (callFunc f args).run Tryz.prog w = .ok (.enter f args) w)
 (hp : ∀ i, i < n → ∀ w, Below W.heap.size W w → Calls Tryz.prog f (#[.agg (cs i).toArray] ++ lb) w fun e w' => e = .returned (.bool (p i)) ∧ Below w.heap.size w w') :
 Calls Tryz.prog 201 #[v, .func (.func f) #[] lb] W fun e w' => e = .returned (.int .i64 (idxN p n)) ∧ Below W.heap.size W w' := by
 obtain ⟨q, c, rfl, hm, hat⟩ := hr
 unfold maxLen at hm
 go_enter Tryz.func201, Tryz.ntmps201
 go_wp2_with fail
 go_loopw [8] (fun vi wr => ∃ i : Nat, vi = .int .i64 i ∧ i ≤ n ∧ Below W.heap.size W wr ∧ Hid (∀ j, j < i → p j = false)) (fun vi _ => n - (RowKit.intOf vi).toNat)
 case atStart => exact ⟨0, rfl, by omega, Below.refl _ _, hid (fun j h => by omega)⟩
 case round =>
  obtain ⟨i, rfl, hi, hL, hA⟩ := hrel
  by_cases hlt : i < n
  · have d1 : (i : Int) < n := by omega
    have d0 : (0 : Int) ≤ i := by omega
    obtain ⟨g, o, rfl, hg, hc⟩ := hat (by omega)
    obtain ⟨hcs, hln⟩ := hc i hlt
    have kl := hid ((hcs.below' hg (h0.trans (hL.mono h0.size))).loads (P := Tryz.prog) hln)
    have hcall := hp i hlt wr hL
    clear hat hc hcs hp
    cases hq : p i with
    | true =>
     have HS := hid (idxN_hit hlt hq hA.out)
     rw [hq] at hcall
     clear hq hA
     go_wp2_with (first | (with_reducible refine wpList_load_agg rfl 53 _ rfl ⟨g, o + i * 19, none⟩ (by with_unfolding_all rfl) Tryz.isAgg53 Tryz.sizeOf53 (cs i) kl.out ?_) | (go_at_fn f; refine hcall.mono ?_; rintro e w1 ⟨rfl, hb⟩))
     go_ret
     exact ⟨ret_int HS.out.symm, below_call hL hb⟩
    | false =>
     have HS := hid (show ∀ j, j < i + 1 → p j = false from fun j hj => by
      rcases Nat.lt_or_ge j i with h2 | h2
      · exact hA.out j h2
      · obtain rfl : j = i := by omega
        exact hq)
     rw [hq] at hcall
     clear hq hA
     go_wp2_with (first | (with_reducible refine wpList_load_agg rfl 53 _ rfl ⟨g, o + i * 19, none⟩ (by with_unfolding_all rfl) Tryz.isAgg53 Tryz.sizeOf53 (cs i) kl.out ?_) | (go_at_fn f; refine hcall.mono ?_; rintro e w1 ⟨rfl, hb⟩))
     go_roundw
     case rel => exact ⟨i + 1, by go_num, by omega, below_call hL hb, HS⟩
     case measure => simp [RowKit.intOf]; omega
  · obtain rfl : i = n := by omega
    have HS := hid (idxN_miss hA.out)
    clear hat hA hp
    go_wp2_with fail
    go_ret
    exact ⟨ret_int HS.out.symm, hL⟩
theorem lanyU_b (v : Value) (n : Nat) (cs : Nat → List Value) (f : Nat) (lb : Array Value) (p : Nat → Bool) (b : Bool) (V0 W : World) (hr : RowV V0 19 v n cs) (h0 : Below V0.heap.size V0 W)
 (eg : ∀ args w, (callFunc f args).run Tryz.prog w = .ok (.enter f args) w)
 (hp : ∀ i, i < n → ∀ w, Below W.heap.size W w → Calls Tryz.prog f (#[.agg (cs i).toArray] ++ lb) w fun e w' => e = .returned (.bool (p i)) ∧ Below w.heap.size w w') (e : Hid (b = anyN p n)) :
 Calls Tryz.prog 168 #[v, .func (.func f) #[] lb] W fun e w' => e = .returned (.bool b) ∧ Below W.heap.size W w' := by
 obtain ⟨q, c, rfl, -, -⟩ := id hr
 have hc := lidxU_b _ n cs f lb p V0 W hr h0 eg hp
 have he : b = decide (0 ≤ idxN p n) := by rw [idxN_any]; exact e.out
 clear hr hp e
 generalize idxN p n = z at hc he
 subst he
 go_enter Tryz.func168, Tryz.ntmps168
 go_wp2_with fail
 (refine hc.mono ?_; rintro e w1 ⟨rfl, hb⟩)
 go_wp2_with fail
 go_ret
 exact ⟨rfl, hb⟩
theorem lidxW_b (v : Value) (n : Nat) (cs : Nat → List Value) (f : Nat) (lb : Array Value) (p : Nat → Bool) (V0 W : World) (hr : RowV V0 6 v n cs) (h0 : Below V0.heap.size V0 W)
 (eg : ∀ args w, (callFunc f args).run Tryz.prog w = .ok (.enter f args) w)
 (hp : ∀ i, i < n → ∀ w, Below W.heap.size W w → Calls Tryz.prog f (#[.agg (cs i).toArray] ++ lb) w fun e w' => e = .returned (.bool (p i)) ∧ Below w.heap.size w w') :
 Calls Tryz.prog 176 #[v, .func (.func f) #[] lb] W fun e w' => e = .returned (.int .i64 (idxN p n)) ∧ Below W.heap.size W w' := by
 obtain ⟨q, c, rfl, hm, hat⟩ := hr
 unfold maxLen at hm
 go_enter Tryz.func176, Tryz.ntmps176
 go_wp2_with fail
 go_loopw [8] (fun vi wr => ∃ i : Nat, vi = .int .i64 i ∧ i ≤ n ∧ Below W.heap.size W wr ∧ Hid (∀ j, j < i → p j = false)) (fun vi _ => n - (RowKit.intOf vi).toNat)
 case atStart => exact ⟨0, rfl, by omega, Below.refl _ _, hid (fun j h => by omega)⟩
 case round =>
  obtain ⟨i, rfl, hi, hL, hA⟩ := hrel
  by_cases hlt : i < n
  · have d1 : (i : Int) < n := by omega
    have d0 : (0 : Int) ≤ i := by omega
    obtain ⟨g, o, rfl, hg, hc⟩ := hat (by omega)
    obtain ⟨hcs, hln⟩ := hc i hlt
    have kl := hid ((hcs.below' hg (h0.trans (hL.mono h0.size))).loads (P := Tryz.prog) hln)
    have hcall := hp i hlt wr hL
    clear hat hc hcs hp
    cases hq : p i with
    | true =>
     have HS := hid (idxN_hit hlt hq hA.out)
     rw [hq] at hcall
     clear hq hA
     go_wp2_with (first | (with_reducible refine wpList_load_agg rfl 51 _ rfl ⟨g, o + i * 6, none⟩ (by with_unfolding_all rfl) Tryz.isAgg51 Tryz.sizeOf51 (cs i) kl.out ?_) | (go_at_fn f; refine hcall.mono ?_; rintro e w1 ⟨rfl, hb⟩))
     go_ret
     exact ⟨ret_int HS.out.symm, below_call hL hb⟩
    | false =>
     have HS := hid (show ∀ j, j < i + 1 → p j = false from fun j hj => by
      rcases Nat.lt_or_ge j i with h2 | h2
      · exact hA.out j h2
      · obtain rfl : j = i := by omega
        exact hq)
     rw [hq] at hcall
     clear hq hA
     go_wp2_with (first | (with_reducible refine wpList_load_agg rfl 51 _ rfl ⟨g, o + i * 6, none⟩ (by with_unfolding_all rfl) Tryz.isAgg51 Tryz.sizeOf51 (cs i) kl.out ?_) | (go_at_fn f; refine hcall.mono ?_; rintro e w1 ⟨rfl, hb⟩))
     go_roundw
     case rel => exact ⟨i + 1, by go_num, by omega, below_call hL hb, HS⟩
     case measure => simp [RowKit.intOf]; omega
  · obtain rfl : i = n := by omega
    have HS := hid (idxN_miss hA.out)
    clear hat hA hp
    go_wp2_with fail
    go_ret
    exact ⟨ret_int HS.out.symm, hL⟩
theorem lanyW_b (v : Value) (n : Nat) (cs : Nat → List Value) (f : Nat) (lb : Array Value) (p : Nat → Bool) (b : Bool) (V0 W : World) (hr : RowV V0 6 v n cs) (h0 : Below V0.heap.size V0 W)
 (eg : ∀ args w, (callFunc f args).run Tryz.prog w = .ok (.enter f args) w)
 (hp : ∀ i, i < n → ∀ w, Below W.heap.size W w → Calls Tryz.prog f (#[.agg (cs i).toArray] ++ lb) w fun e w' => e = .returned (.bool (p i)) ∧ Below w.heap.size w w') (e : Hid (b = anyN p n)) :
 Calls Tryz.prog 142 #[v, .func (.func f) #[] lb] W fun e w' => e = .returned (.bool b) ∧ Below W.heap.size W w' := by
 obtain ⟨q, c, rfl, -, -⟩ := id hr
 have hc := lidxW_b _ n cs f lb p V0 W hr h0 eg hp
 have he : b = decide (0 ≤ idxN p n) := by rw [idxN_any]; exact e.out
 clear hr hp e
 generalize idxN p n = z at hc he
 subst he
 go_enter Tryz.func142, Tryz.ntmps142
 go_wp2_with fail
 (refine hc.mono ?_; rintro e w1 ⟨rfl, hb⟩)
 go_wp2_with fail
 go_ret
 exact ⟨rfl, hb⟩
theorem lidxT_b (v : Value) (n : Nat) (cs : Nat → List Value) (f : Nat) (lb : Array Value) (p : Nat → Bool) (V0 W : World) (hr : RowV V0 8 v n cs) (h0 : Below V0.heap.size V0 W)
 (eg : ∀ args w, (callFunc f args).run Tryz.prog w = .ok (.enter f args) w)
 (hp : ∀ i, i < n → ∀ w, Below W.heap.size W w → Calls Tryz.prog f (#[.agg (cs i).toArray] ++ lb) w fun e w' => e = .returned (.bool (p i)) ∧ Below w.heap.size w w') :
 Calls Tryz.prog 172 #[v, .func (.func f) #[] lb] W fun e w' => e = .returned (.int .i64 (idxN p n)) ∧ Below W.heap.size W w' := by
 obtain ⟨q, c, rfl, hm, hat⟩ := hr
 unfold maxLen at hm
 go_enter Tryz.func172, Tryz.ntmps172
 go_wp2_with fail
 go_loopw [8] (fun vi wr => ∃ i : Nat, vi = .int .i64 i ∧ i ≤ n ∧ Below W.heap.size W wr ∧ Hid (∀ j, j < i → p j = false)) (fun vi _ => n - (RowKit.intOf vi).toNat)
 case atStart => exact ⟨0, rfl, by omega, Below.refl _ _, hid (fun j h => by omega)⟩
 case round =>
  obtain ⟨i, rfl, hi, hL, hA⟩ := hrel
  by_cases hlt : i < n
  · have d1 : (i : Int) < n := by omega
    have d0 : (0 : Int) ≤ i := by omega
    obtain ⟨g, o, rfl, hg, hc⟩ := hat (by omega)
    obtain ⟨hcs, hln⟩ := hc i hlt
    have kl := hid ((hcs.below' hg (h0.trans (hL.mono h0.size))).loads (P := Tryz.prog) hln)
    have hcall := hp i hlt wr hL
    clear hat hc hcs hp
    cases hq : p i with
    | true =>
     have HS := hid (idxN_hit hlt hq hA.out)
     rw [hq] at hcall
     clear hq hA
     go_wp2_with (first | (with_reducible refine wpList_load_agg rfl 56 _ rfl ⟨g, o + i * 8, none⟩ (by with_unfolding_all rfl) Tryz.isAgg56 Tryz.sizeOf56 (cs i) kl.out ?_) | (go_at_fn f; refine hcall.mono ?_; rintro e w1 ⟨rfl, hb⟩))
     go_ret
     exact ⟨ret_int HS.out.symm, below_call hL hb⟩
    | false =>
     have HS := hid (show ∀ j, j < i + 1 → p j = false from fun j hj => by
      rcases Nat.lt_or_ge j i with h2 | h2
      · exact hA.out j h2
      · obtain rfl : j = i := by omega
        exact hq)
     rw [hq] at hcall
     clear hq hA
     go_wp2_with (first | (with_reducible refine wpList_load_agg rfl 56 _ rfl ⟨g, o + i * 8, none⟩ (by with_unfolding_all rfl) Tryz.isAgg56 Tryz.sizeOf56 (cs i) kl.out ?_) | (go_at_fn f; refine hcall.mono ?_; rintro e w1 ⟨rfl, hb⟩))
     go_roundw
     case rel => exact ⟨i + 1, by go_num, by omega, below_call hL hb, HS⟩
     case measure => simp [RowKit.intOf]; omega
  · obtain rfl : i = n := by omega
    have HS := hid (idxN_miss hA.out)
    clear hat hA hp
    go_wp2_with fail
    go_ret
    exact ⟨ret_int HS.out.symm, hL⟩
theorem lanyT_b (v : Value) (n : Nat) (cs : Nat → List Value) (f : Nat) (lb : Array Value) (p : Nat → Bool) (b : Bool) (V0 W : World) (hr : RowV V0 8 v n cs) (h0 : Below V0.heap.size V0 W)
 (eg : ∀ args w, (callFunc f args).run Tryz.prog w = .ok (.enter f args) w)
 (hp : ∀ i, i < n → ∀ w, Below W.heap.size W w → Calls Tryz.prog f (#[.agg (cs i).toArray] ++ lb) w fun e w' => e = .returned (.bool (p i)) ∧ Below w.heap.size w w') (e : Hid (b = anyN p n)) :
 Calls Tryz.prog 133 #[v, .func (.func f) #[] lb] W fun e w' => e = .returned (.bool b) ∧ Below W.heap.size W w' := by
 obtain ⟨q, c, rfl, -, -⟩ := id hr
 have hc := lidxT_b _ n cs f lb p V0 W hr h0 eg hp
 have he : b = decide (0 ≤ idxN p n) := by rw [idxN_any]; exact e.out
 clear hr hp e
 generalize idxN p n = z at hc he
 subst he
 go_enter Tryz.func133, Tryz.ntmps133
 go_wp2_with fail
 (refine hc.mono ?_; rintro e w1 ⟨rfl, hb⟩)
 go_wp2_with fail
 go_ret
 exact ⟨rfl, hb⟩
theorem lidxI_b (v : Value) (n : Nat) (cs : Nat → List Value) (f : Nat) (lb : Array Value) (p : Nat → Bool) (V0 W : World) (hr : RowV V0 2 v n cs) (h0 : Below V0.heap.size V0 W)
 (eg : ∀ args w, (callFunc f args).run Tryz.prog w = .ok (.enter f args) w)
 (hp : ∀ i, i < n → ∀ w, Below W.heap.size W w → Calls Tryz.prog f (#[.agg (cs i).toArray] ++ lb) w fun e w' => e = .returned (.bool (p i)) ∧ Below w.heap.size w w') :
 Calls Tryz.prog 179 #[v, .func (.func f) #[] lb] W fun e w' => e = .returned (.int .i64 (idxN p n)) ∧ Below W.heap.size W w' := by
 obtain ⟨q, c, rfl, hm, hat⟩ := hr
 unfold maxLen at hm
 go_enter Tryz.func179, Tryz.ntmps179
 go_wp2_with fail
 go_loopw [8] (fun vi wr => ∃ i : Nat, vi = .int .i64 i ∧ i ≤ n ∧ Below W.heap.size W wr ∧ Hid (∀ j, j < i → p j = false)) (fun vi _ => n - (RowKit.intOf vi).toNat)
 case atStart => exact ⟨0, rfl, by omega, Below.refl _ _, hid (fun j h => by omega)⟩
 case round =>
  obtain ⟨i, rfl, hi, hL, hA⟩ := hrel
  by_cases hlt : i < n
  · have d1 : (i : Int) < n := by omega
    have d0 : (0 : Int) ≤ i := by omega
    obtain ⟨g, o, rfl, hg, hc⟩ := hat (by omega)
    obtain ⟨hcs, hln⟩ := hc i hlt
    have kl := hid ((hcs.below' hg (h0.trans (hL.mono h0.size))).loads (P := Tryz.prog) hln)
    have hcall := hp i hlt wr hL
    clear hat hc hcs hp
    cases hq : p i with
    | true =>
     have HS := hid (idxN_hit hlt hq hA.out)
     rw [hq] at hcall
     clear hq hA
     go_wp2_with (first | (with_reducible refine wpList_load_agg rfl 175 _ rfl ⟨g, o + i * 2, none⟩ (by with_unfolding_all rfl) Tryz.isAgg175 Tryz.sizeOf175 (cs i) kl.out ?_) | (go_at_fn f; refine hcall.mono ?_; rintro e w1 ⟨rfl, hb⟩))
     go_ret
     exact ⟨ret_int HS.out.symm, below_call hL hb⟩
    | false =>
     have HS := hid (show ∀ j, j < i + 1 → p j = false from fun j hj => by
      rcases Nat.lt_or_ge j i with h2 | h2
      · exact hA.out j h2
      · obtain rfl : j = i := by omega
        exact hq)
     rw [hq] at hcall
     clear hq hA
     go_wp2_with (first | (with_reducible refine wpList_load_agg rfl 175 _ rfl ⟨g, o + i * 2, none⟩ (by with_unfolding_all rfl) Tryz.isAgg175 Tryz.sizeOf175 (cs i) kl.out ?_) | (go_at_fn f; refine hcall.mono ?_; rintro e w1 ⟨rfl, hb⟩))
     go_roundw
     case rel => exact ⟨i + 1, by go_num, by omega, below_call hL hb, HS⟩
     case measure => simp [RowKit.intOf]; omega
  · obtain rfl : i = n := by omega
    have HS := hid (idxN_miss hA.out)
    clear hat hA hp
    go_wp2_with fail
    go_ret
    exact ⟨ret_int HS.out.symm, hL⟩
theorem lanyI_b (v : Value) (n : Nat) (cs : Nat → List Value) (f : Nat) (lb : Array Value) (p : Nat → Bool) (b : Bool) (V0 W : World) (hr : RowV V0 2 v n cs) (h0 : Below V0.heap.size V0 W)
 (eg : ∀ args w, (callFunc f args).run Tryz.prog w = .ok (.enter f args) w)
 (hp : ∀ i, i < n → ∀ w, Below W.heap.size W w → Calls Tryz.prog f (#[.agg (cs i).toArray] ++ lb) w fun e w' => e = .returned (.bool (p i)) ∧ Below w.heap.size w w') (e : Hid (b = anyN p n)) :
 Calls Tryz.prog 152 #[v, .func (.func f) #[] lb] W fun e w' => e = .returned (.bool b) ∧ Below W.heap.size W w' := by
 obtain ⟨q, c, rfl, -, -⟩ := id hr
 have hc := lidxI_b _ n cs f lb p V0 W hr h0 eg hp
 have he : b = decide (0 ≤ idxN p n) := by rw [idxN_any]; exact e.out
 clear hr hp e
 generalize idxN p n = z at hc he
 subst he
 go_enter Tryz.func152, Tryz.ntmps152
 go_wp2_with fail
 (refine hc.mono ?_; rintro e w1 ⟨rfl, hb⟩)
 go_wp2_with fail
 go_ret
 exact ⟨rfl, hb⟩
theorem lidxR_b (v : Value) (n : Nat) (cs : Nat → List Value) (f : Nat) (lb : Array Value) (p : Nat → Bool) (V0 W : World) (hr : RowV V0 3 v n cs) (h0 : Below V0.heap.size V0 W)
 (eg : ∀ args w, (callFunc f args).run Tryz.prog w = .ok (.enter f args) w)
 (hp : ∀ i, i < n → ∀ w, Below W.heap.size W w → Calls Tryz.prog f (#[.agg (cs i).toArray] ++ lb) w fun e w' => e = .returned (.bool (p i)) ∧ Below w.heap.size w w') :
 Calls Tryz.prog 203 #[v, .func (.func f) #[] lb] W fun e w' => e = .returned (.int .i64 (idxN p n)) ∧ Below W.heap.size W w' := by
 obtain ⟨q, c, rfl, hm, hat⟩ := hr
 unfold maxLen at hm
 go_enter Tryz.func203, Tryz.ntmps203
 go_wp2_with fail
 go_loopw [8] (fun vi wr => ∃ i : Nat, vi = .int .i64 i ∧ i ≤ n ∧ Below W.heap.size W wr ∧ Hid (∀ j, j < i → p j = false)) (fun vi _ => n - (RowKit.intOf vi).toNat)
 case atStart => exact ⟨0, rfl, by omega, Below.refl _ _, hid (fun j h => by omega)⟩
 case round =>
  obtain ⟨i, rfl, hi, hL, hA⟩ := hrel
  by_cases hlt : i < n
  · have d1 : (i : Int) < n := by omega
    have d0 : (0 : Int) ≤ i := by omega
    obtain ⟨g, o, rfl, hg, hc⟩ := hat (by omega)
    obtain ⟨hcs, hln⟩ := hc i hlt
    have kl := hid ((hcs.below' hg (h0.trans (hL.mono h0.size))).loads (P := Tryz.prog) hln)
    have hcall := hp i hlt wr hL
    clear hat hc hcs hp
    cases hq : p i with
    | true =>
     have HS := hid (idxN_hit hlt hq hA.out)
     rw [hq] at hcall
     clear hq hA
     go_wp2_with (first | (with_reducible refine wpList_load_agg rfl 192 _ rfl ⟨g, o + i * 3, none⟩ (by with_unfolding_all rfl) Tryz.isAgg192 Tryz.sizeOf192 (cs i) kl.out ?_) | (go_at_fn f; refine hcall.mono ?_; rintro e w1 ⟨rfl, hb⟩))
     go_ret
     exact ⟨ret_int HS.out.symm, below_call hL hb⟩
    | false =>
     have HS := hid (show ∀ j, j < i + 1 → p j = false from fun j hj => by
      rcases Nat.lt_or_ge j i with h2 | h2
      · exact hA.out j h2
      · obtain rfl : j = i := by omega
        exact hq)
     rw [hq] at hcall
     clear hq hA
     go_wp2_with (first | (with_reducible refine wpList_load_agg rfl 192 _ rfl ⟨g, o + i * 3, none⟩ (by with_unfolding_all rfl) Tryz.isAgg192 Tryz.sizeOf192 (cs i) kl.out ?_) | (go_at_fn f; refine hcall.mono ?_; rintro e w1 ⟨rfl, hb⟩))
     go_roundw
     case rel => exact ⟨i + 1, by go_num, by omega, below_call hL hb, HS⟩
     case measure => simp [RowKit.intOf]; omega
  · obtain rfl : i = n := by omega
    have HS := hid (idxN_miss hA.out)
    clear hat hA hp
    go_wp2_with fail
    go_ret
    exact ⟨ret_int HS.out.symm, hL⟩
theorem lanyR_b (v : Value) (n : Nat) (cs : Nat → List Value) (f : Nat) (lb : Array Value) (p : Nat → Bool) (b : Bool) (V0 W : World) (hr : RowV V0 3 v n cs) (h0 : Below V0.heap.size V0 W)
 (eg : ∀ args w, (callFunc f args).run Tryz.prog w = .ok (.enter f args) w)
 (hp : ∀ i, i < n → ∀ w, Below W.heap.size W w → Calls Tryz.prog f (#[.agg (cs i).toArray] ++ lb) w fun e w' => e = .returned (.bool (p i)) ∧ Below w.heap.size w w') (e : Hid (b = anyN p n)) :
 Calls Tryz.prog 174 #[v, .func (.func f) #[] lb] W fun e w' => e = .returned (.bool b) ∧ Below W.heap.size W w' := by
 obtain ⟨q, c, rfl, -, -⟩ := id hr
 have hc := lidxR_b _ n cs f lb p V0 W hr h0 eg hp
 have he : b = decide (0 ≤ idxN p n) := by rw [idxN_any]; exact e.out
 clear hr hp e
 generalize idxN p n = z at hc he
 subst he
 go_enter Tryz.func174, Tryz.ntmps174
 go_wp2_with fail
 (refine hc.mono ?_; rintro e w1 ⟨rfl, hb⟩)
 go_wp2_with fail
 go_ret
 exact ⟨rfl, hb⟩
theorem lidxS_b (v : Value) (n : Nat) (cs : Nat → List Value) (f : Nat) (lb : Array Value) (p : Nat → Bool) (V0 W : World) (hr : RowV V0 1 v n cs) (h0 : Below V0.heap.size V0 W)
 (eg : ∀ args w, (callFunc f args).run Tryz.prog w = .ok (.enter f args) w)
 (hp : ∀ i, i < n → ∀ w, Below W.heap.size W w → Calls Tryz.prog f (#[(cs i).headD undef] ++ lb) w fun e w' => e = .returned (.bool (p i)) ∧ Below w.heap.size w w') :
 Calls Tryz.prog 164 #[v, .func (.func f) #[] lb] W fun e w' => e = .returned (.int .i64 (idxN p n)) ∧ Below W.heap.size W w' := by
 obtain ⟨q, c, rfl, hm, hat⟩ := hr
 unfold maxLen at hm
 go_enter Tryz.func164, Tryz.ntmps164
 go_wp2_with fail
 go_loopw [8] (fun vi wr => ∃ i : Nat, vi = .int .i64 i ∧ i ≤ n ∧ Below W.heap.size W wr ∧ Hid (∀ j, j < i → p j = false)) (fun vi _ => n - (RowKit.intOf vi).toNat)
 case atStart => exact ⟨0, rfl, by omega, Below.refl _ _, hid (fun j h => by omega)⟩
 case round =>
  obtain ⟨i, rfl, hi, hL, hA⟩ := hrel
  by_cases hlt : i < n
  · have d1 : (i : Int) < n := by omega
    have d0 : (0 : Int) ≤ i := by omega
    obtain ⟨g, o, rfl, hg, hc⟩ := hat (by omega)
    obtain ⟨hcs, hln⟩ := hc i hlt
    obtain ⟨x, hx⟩ : ∃ x, cs i = [x] := List.length_eq_one_iff.1 hln
    have k1 := (hcs.below' hg (h0.trans (hL.mono h0.size))) 0 x (by rw [hx]; rfl)
    rw [Nat.mul_one, Nat.add_zero] at k1
    have hcall := hp i hlt wr hL
    rw [hx, show ([x] : List Value).headD undef = x from rfl] at hcall
    clear hat hc hcs hp hx
    cases hq : p i with
    | true =>
     have HS := hid (idxN_hit hlt hq hA.out)
     rw [hq] at hcall
     clear hq hA
     go_wp2_with (go_at_fn f; refine hcall.mono ?_; rintro e w1 ⟨rfl, hb⟩)
     go_ret
     exact ⟨ret_int HS.out.symm, below_call hL hb⟩
    | false =>
     have HS := hid (show ∀ j, j < i + 1 → p j = false from fun j hj => by
      rcases Nat.lt_or_ge j i with h2 | h2
      · exact hA.out j h2
      · obtain rfl : j = i := by omega
        exact hq)
     rw [hq] at hcall
     clear hq hA
     go_wp2_with (go_at_fn f; refine hcall.mono ?_; rintro e w1 ⟨rfl, hb⟩)
     go_roundw
     case rel => exact ⟨i + 1, by go_num, by omega, below_call hL hb, HS⟩
     case measure => simp [RowKit.intOf]; omega
  · obtain rfl : i = n := by omega
    have HS := hid (idxN_miss hA.out)
    clear hat hA hp
    go_wp2_with fail
    go_ret
    exact ⟨ret_int HS.out.symm, hL⟩
theorem lanyS_b (v : Value) (n : Nat) (cs : Nat → List Value) (f : Nat) (lb : Array Value) (p : Nat → Bool) (b : Bool) (V0 W : World) (hr : RowV V0 1 v n cs) (h0 : Below V0.heap.size V0 W)
 (eg : ∀ args w, (callFunc f args).run Tryz.prog w = .ok (.enter f args) w)
 (hp : ∀ i, i < n → ∀ w, Below W.heap.size W w → Calls Tryz.prog f (#[(cs i).headD undef] ++ lb) w fun e w' => e = .returned (.bool (p i)) ∧ Below w.heap.size w w') (e : Hid (b = anyN p n)) :
 Calls Tryz.prog 114 #[v, .func (.func f) #[] lb] W fun e w' => e = .returned (.bool b) ∧ Below W.heap.size W w' := by
 obtain ⟨q, c, rfl, -, -⟩ := id hr
 have hc := lidxS_b _ n cs f lb p V0 W hr h0 eg hp
 have he : b = decide (0 ≤ idxN p n) := by rw [idxN_any]; exact e.out
 clear hr hp e
 generalize idxN p n = z at hc he
 subst he
 go_enter Tryz.func114, Tryz.ntmps114
 go_wp2_with fail
 (refine hc.mono ?_; rintro e w1 ⟨rfl, hb⟩)
 go_wp2_with fail
 go_ret
 exact ⟨rfl, hb⟩
theorem lidxL_b (v : Value) (n : Nat) (cs : Nat → List Value) (f : Nat) (lb : Array Value) (p : Nat → Bool) (V0 W : World) (hr : RowV V0 1 v n cs) (h0 : Below V0.heap.size V0 W)
 (eg : ∀ args w, (callFunc f args).run Tryz.prog w = .ok (.enter f args) w)
 (hp : ∀ i, i < n → ∀ w, Below W.heap.size W w → Calls Tryz.prog f (#[(cs i).headD undef] ++ lb) w fun e w' => e = .returned (.bool (p i)) ∧ Below w.heap.size w w') :
 Calls Tryz.prog 167 #[v, .func (.func f) #[] lb] W fun e w' => e = .returned (.int .i64 (idxN p n)) ∧ Below W.heap.size W w' := by
 obtain ⟨q, c, rfl, hm, hat⟩ := hr
 unfold maxLen at hm
 go_enter Tryz.func167, Tryz.ntmps167
 go_wp2_with fail
 go_loopw [8] (fun vi wr => ∃ i : Nat, vi = .int .i64 i ∧ i ≤ n ∧ Below W.heap.size W wr ∧ Hid (∀ j, j < i → p j = false)) (fun vi _ => n - (RowKit.intOf vi).toNat)
 case atStart => exact ⟨0, rfl, by omega, Below.refl _ _, hid (fun j h => by omega)⟩
 case round =>
  obtain ⟨i, rfl, hi, hL, hA⟩ := hrel
  by_cases hlt : i < n
  · have d1 : (i : Int) < n := by omega
    have d0 : (0 : Int) ≤ i := by omega
    obtain ⟨g, o, rfl, hg, hc⟩ := hat (by omega)
    obtain ⟨hcs, hln⟩ := hc i hlt
    obtain ⟨x, hx⟩ : ∃ x, cs i = [x] := List.length_eq_one_iff.1 hln
    have k1 := (hcs.below' hg (h0.trans (hL.mono h0.size))) 0 x (by rw [hx]; rfl)
    rw [Nat.mul_one, Nat.add_zero] at k1
    have hcall := hp i hlt wr hL
    rw [hx, show ([x] : List Value).headD undef = x from rfl] at hcall
    clear hat hc hcs hp hx
    cases hq : p i with
    | true =>
     have HS := hid (idxN_hit hlt hq hA.out)
     rw [hq] at hcall
     clear hq hA
     go_wp2_with (go_at_fn f; refine hcall.mono ?_; rintro e w1 ⟨rfl, hb⟩)
     go_ret
     exact ⟨ret_int HS.out.symm, below_call hL hb⟩
    | false =>
     have HS := hid (show ∀ j, j < i + 1 → p j = false from fun j hj => by
      rcases Nat.lt_or_ge j i with h2 | h2
      · exact hA.out j h2
      · obtain rfl : j = i := by omega
        exact hq)
     rw [hq] at hcall
     clear hq hA
     go_wp2_with (go_at_fn f; refine hcall.mono ?_; rintro e w1 ⟨rfl, hb⟩)
     go_roundw
     case rel => exact ⟨i + 1, by go_num, by omega, below_call hL hb, HS⟩
     case measure => simp [RowKit.intOf]; omega
  · obtain rfl : i = n := by omega
    have HS := hid (idxN_miss hA.out)
    clear hat hA hp
    go_wp2_with fail
    go_ret
    exact ⟨ret_int HS.out.symm, hL⟩
theorem lanyL_b (v : Value) (n : Nat) (cs : Nat → List Value) (f : Nat) (lb : Array Value) (p : Nat → Bool) (b : Bool) (V0 W : World) (hr : RowV V0 1 v n cs) (h0 : Below V0.heap.size V0 W)
 (eg : ∀ args w, (callFunc f args).run Tryz.prog w = .ok (.enter f args) w)
 (hp : ∀ i, i < n → ∀ w, Below W.heap.size W w → Calls Tryz.prog f (#[(cs i).headD undef] ++ lb) w fun e w' => e = .returned (.bool (p i)) ∧ Below w.heap.size w w') (e : Hid (b = anyN p n)) :
 Calls Tryz.prog 118 #[v, .func (.func f) #[] lb] W fun e w' => e = .returned (.bool b) ∧ Below W.heap.size W w' := by
 obtain ⟨q, c, rfl, -, -⟩ := id hr
 have hc := lidxL_b _ n cs f lb p V0 W hr h0 eg hp
 have he : b = decide (0 ≤ idxN p n) := by rw [idxN_any]; exact e.out
 clear hr hp e
 generalize idxN p n = z at hc he
 subst he
 go_enter Tryz.func118, Tryz.ntmps118
 go_wp2_with fail
 (refine hc.mono ?_; rintro e w1 ⟨rfl, hb⟩)
 go_wp2_with fail
 go_ret
 exact ⟨rfl, hb⟩
end
section
open Go.RowKit Go.Lib
theorem lanyStr_b (v : Value) (l : List ByteArray) (f : Nat) (lb : Array Value) (p : ByteArray → Bool) (b : Bool) (V0 W : World) (hl : StrSl V0 v l) (h0 : Below V0.heap.size V0 W)
 (eg : ∀ args w, (callFunc f args).run Tryz.prog w = .ok (.enter f args) w)
 (hp : ∀ s w, Below W.heap.size W w → Calls Tryz.prog f (#[.string s] ++ lb) w fun e w' => e = .returned (.bool (p s)) ∧ Below w.heap.size w w') (e : Hid (b = l.any p)) :
 Calls Tryz.prog 114 #[v, .func (.func f) #[] lb] W fun e w' => e = .returned (.bool b) ∧ Below W.heap.size W w' :=
 lanyS_b v l.length _ f lb (fun i => p (l.getD i ⟨#[]⟩)) b V0 W hl.row h0 eg (fun i _ w hb => hp _ w hb) (hid (by
  rw [e.out]
  exact (anyN_list fun i h => by rw [show l.getD i ⟨#[]⟩ = l[i]'h by simp [List.getD, h]]).symm))
def plS (l : List ByteArray) (s : ByteArray) : Int := idxN (fun i => match l[i]? with | some x => decide (x = s) | none => false) l.length
theorem plS_any (l : List ByteArray) (s : ByteArray) : decide (0 ≤ plS l s) = hasv l s := by
 unfold plS
 rw [idxN_any]
 unfold hasv
 exact anyN_list (f := fun x => decide (x = s)) fun i h => by rw [List.getElem?_eq_getElem h]
set_option maxHeartbeats 8000000 in
set_option maxRecDepth 100000 in
theorem lindex_b (v : Value) (l : List ByteArray) (s : ByteArray) (n : Int) (V0 W : World) (hl : StrSl V0 v l) (h0 : Below V0.heap.size V0 W) (e : Hid (n = plS l s)) :
 Calls Tryz.prog 60 #[v, .string s] W fun e w' => e = .returned (.int .i64 n) ∧ W = w' := by
 obtain ⟨p, c, rfl, hm, hat⟩ := hl.below h0
 unfold maxLen at hm
 go_enter Tryz.func60, Tryz.ntmps60
 go_wp2_with fail
 go_loop [8] (fun vi => ∃ i : Nat, vi = .int .i64 i ∧ i ≤ l.length ∧ Hid (∀ j, (k : j < l.length) → j < i → ¬ l[j]'k = s)) (fun vi => l.length - (RowKit.intOf vi).toNat)
 case atStart => exact ⟨0, rfl, by omega, hid (fun j _ h => by omega)⟩
 case round =>
  obtain ⟨i, rfl, hi, hA⟩ := hrel
  by_cases hlt : i < l.length
  · have d1 : (i : Int) < l.length := by omega
    have d0 : (0 : Int) ≤ i := by omega
    obtain ⟨g, o, rfl, hc⟩ := hat (by omega)
    have k1 := hc i hlt
    have HY := fun (q : l[i]'hlt = s) => hid (show plS l s = i from idxN_hit hlt (by simp only [List.getElem?_eq_getElem hlt]; exact decide_eq_true q) fun j hj => by simp only [List.getElem?_eq_getElem (show j < l.length by omega)]; exact decide_eq_false (hA.out j _ hj))
    have HN := fun (q : ¬ l[i]'hlt = s) => hid (show ∀ j, (k : j < l.length) → j < i + 1 → ¬ l[j]'k = s from fun j k hj => by
     rcases Nat.lt_or_ge j i with h2 | h2
     · exact hA.out j k h2
     · obtain rfl : j = i := by omega
       exact q)
    obtain ⟨x, hx⟩ : ∃ x, l[i]'hlt = x := ⟨_, rfl⟩
    rw [hx] at k1 HN HY
    clear hx hat hA hc
    by_cases hq : s = x
    · subst hq
      have HS := HY rfl
      have hn := e.out.trans HS.out
      subst hn
      clear HN HY e HS
      go_wp2_with fail
      go_ret
      exact ⟨rfl, rfl⟩
    · obtain ⟨q1, q2⟩ := ne_list hq
      have HS := HN (fun e => hq e.symm)
      clear HN HY hq
      go_wp2_with fail
      go_round
      case rel => exact ⟨i + 1, by go_num, by omega, HS⟩
      case measure => simp [RowKit.intOf]; omega
  · obtain rfl : i = l.length := by omega
    have hn : n = -1 := e.out.trans (idxN_miss fun j hj => by simp only [List.getElem?_eq_getElem hj]; exact decide_eq_false (hA.out j hj hj))
    subst hn
    clear hat hA e
    go_wp2_with fail
    go_ret
    exact ⟨rfl, rfl⟩
theorem lhas_b (v : Value) (l : List ByteArray) (s : ByteArray) (b : Bool) (V0 W : World) (hl : StrSl V0 v l) (h0 : Below V0.heap.size V0 W) (e : Hid (b = hasv l s)) :
 Calls Tryz.prog 59 #[v, .string s] W fun e w' => e = .returned (.bool b) ∧ W = w' := by
 obtain ⟨n, hn⟩ : ∃ z, Hid (z = plS l s) := ⟨_, hid rfl⟩
 have he : b = decide (0 ≤ n) := by rw [e.out, hn.out, plS_any]
 have hcon := lindex_b v l s n V0 W hl h0 hn
 obtain ⟨p, c, rfl, -⟩ := hl
 clear e hn h0
 subst he
 go_enter Tryz.func59, Tryz.ntmps59
 go_wp2_with fail
 (refine hcon.mono ?_; rintro e w1 ⟨rfl, rfl⟩)
 go_wp2_with fail
 go_ret
 exact ⟨rfl, rfl⟩
end
section
open Go.RowKit Go.Lib
def ClonePost (l : List ByteArray) (w : World) (e : Ending) (w' : World) : Prop := ∃ p c, e = .returned (.slice p l.length c) ∧ w'.ownsRow w.heap.size 9 1 (.slice p l.length c) l.length (strs l) ∧ Below w.heap.size w w'
theorem own_heap {w w' : World} {B k n : Nat} {e : TypeId} {v : Value} {xs : List Value} (h : w.ownsRow B e k v n xs) (hk : ∀ g, B ≤ g → w'.heap[g]? = w.heap[g]?) : w'.ownsRow B e k v n xs := by
 refine ⟨h.1, ?_⟩
 rcases h.2 with hn | ⟨g, cap, cur, rfl, hB, hgg, rest⟩
 · exact .inl hn
 · exact .inr ⟨g, cap, cur, rfl, hB, (hk g hB).trans hgg, rest⟩
theorem own_cell {w : World} {B k n b i : Nat} {e : TypeId} {v : Value} {xs : List Value} (h : w.ownsRow B e k v n xs) (hb : b < B) (x : Value) : (w.setCell ⟨b, i, none⟩ x).ownsRow B e k v n xs :=
 own_heap h fun g hg => Below.heap_setCell w _ x g (by show g ≠ b; omega)
theorem own_setRow {w : World} {B k n b : Nat} {e : TypeId} {v : Value} {xs : List Value} (h : w.ownsRow B e k v n xs) (hb : b < B) (x : Array Value) : (w.setRow b x).ownsRow B e k v n xs :=
 own_heap h fun g hg => setRow_other w b x (by omega)
theorem own_strs' {w : World} {B n : Nat} {v : Value} {l : List ByteArray} (h : w.ownsRow B 9 1 v n (strs l)) (hn : n ≤ 100000) : ∃ p c, v = .slice p l.length c ∧ StrSl w v l := by
 obtain ⟨p, c, rfl, h2⟩ := own_strs h hn
 exact ⟨p, c, rfl, p, c, rfl, h2⟩
theorem strs_news {W : World} {a : Addr} {c : Nat} {l : List ByteArray} (h : StrSl W (.slice (some a) l.length c) l) : ∀ j u, (strs l)[j]? = some u → W.cell? (a.add j) = some u := fun j u hj => by
 obtain ⟨p, c', e, hm, hc⟩ := h
 injection e with e1 e2 e3
 subst e1
 have hjl : j < l.length := by have := (List.getElem?_eq_some_iff.1 hj).1; unfold strs at this; simpa using this
 obtain ⟨g, o, e, hi⟩ := hc (by omega)
 injection e with e
 subst e
 rw [add_off, hi j hjl]
 unfold strs at hj
 rw [List.getElem?_map, List.getElem?_eq_getElem hjl] at hj
 exact hj
set_option maxHeartbeats 8000000 in
set_option maxRecDepth 100000 in
theorem lclone_b (l : List ByteArray) (s : Value) (V0 W : World) (hr : StrSl V0 s l) (h0 : Below V0.heap.size V0 W) (hsm : l.length ≤ 100000) :
 Calls Tryz.prog 72 #[s] W (ClonePost l W) := by
 obtain ⟨i0, hi, hz0, hz1, hz2⟩ := info_cut9 infoStr9
 have hrW := hr.below h0
 obtain ⟨p, c, rfl, hm, hc⟩ := id hr
 have q22 : ∀ (w : World) (a : Option Addr) (n c n' c' : Nat), (binOp .eql 23 (.slice a n c) (.slice none n' c')).run Tryz.prog w = .ok (.bool a.isNone) w := fun w a n c n' c' => Lib.run_eql_slice_nil w _ _ a n c n' c' Tryz.underlying23
 cases p with
 | none =>
  have hl0 : l = [] := by
   cases l with
   | nil => rfl
   | cons a l => obtain ⟨_, _, e, _⟩ := hc (by simp); cases e
  subst hl0
  clear hr hc hrW
  go_enter Tryz.func72, Tryz.ntmps72
  go_wp2_with fail
  go_ret
  exact ⟨none, 0, rfl, World.ownsRow_nil _ _ _ _, Below.refl _ _⟩
 | some a =>
  have hat := fun (V : World) (hV : Below W.heap.size W V) => strs_news (hrW.below hV)
  clear hc hr hrW
  have hown0 := World.ownsRow_made (e := 9) (base := W.heap.size) (size := 1) W #[] 0 (Nat.le_refl _) (by unfold maxLen; omega) rfl
  go_enter Tryz.func72, Tryz.ntmps72
  go_wp2_with (at_builtin; refine wpList_append_own _ rfl _ _ 23 rfl W.heap.size 9 i0 (.string ⟨#[]⟩) 1 16 Tryz.underlying23 hi hz0 hz1 hz2 rfl (by decide) _ _ _ rfl hown0 a l.length c (strs l) rfl (by unfold strs; simp) (hat _ ((Below.refl _ _).alloc (Nat.le_refl _) _)) (strs_lone l) (by unfold maxLen; omega) (by omega) (by first | (simp; done) | (simp; omega)) ?_)
  intro v' X hown hg _
  have hown' : X.ownsRow W.heap.size 9 1 v' l.length (strs l) := by simpa using hown
  obtain ⟨p', c', rfl, -⟩ := own_strs' hown' (by omega)
  clear hown hat
  go_wp2_with fail
  go_ret
  exact ⟨p', c', rfl, hown', ((Below.refl _ W).alloc (Nat.le_refl _) _).grown hg (by simp) (by intro k hk; simp [Value.ownBlock] at hk; omega)⟩
end
section
open Go.RowKit Go.Lib
section
variable {P : Program} {ops : Array Oper} {Q : Exit → Act → World → Prop} {md : Region.Mode}
theorem wpAnyH_of_any : ∀ (fuel : Nat) (listed : Array Bool) (a : Act) (w : World), wpAny P md ops Q fuel listed a w → wpAnyH P md ops Q (fun _ => True) fuel listed a w
 | 0, _, _, _, h => h
 | fuel + 1, _, _, _, h => ⟨h.1, fun i hi => wpOp_mono (fun a' w' h' => ⟨trivial, wpAnyH_of_any fuel _ a' w' h'⟩) (h.2 i hi)⟩
end
end
section
open Go.RowKit Go.Lib Go.Maps
def anyE (v : Value) : Option (DataW Value × List MemPlace) := some (.held v, [])
def mapD (l : List (ByteArray × Value)) : DataW Value := l.foldl (fun D p => D.put (.string p.1.data.toList) (.held p.2)) (.map [])
def MapS (P : Program) (k : TypeId) (w : World) (b : Nat) (l : List (ByteArray × Value)) : Prop := w.ownsMap P k anyE b l.length (mapD l)
def lookS (l : List (ByteArray × Value)) (s : ByteArray) (z : Value) : Value := l.foldl (fun x p => if p.1 = s then p.2 else x) z
theorem key_ne {s t : ByteArray} (h : ¬ s = t) : Lit.string s.data.toList ≠ Lit.string t.data.toList := fun e => h (by
 injection e with e
 exact ByteArray.ext (Array.toList_inj.1 e))
theorem at_fold {s : ByteArray} (hk : WideAt.IsKeyLit (Lit.string s.data.toList)) (z0 : DataW Value) : ∀ (l : List (ByteArray × Value)) (D : DataW Value) (z : Value), IsMap D → D.atKey (.string s.data.toList) z0 = .held z →
 (l.foldl (fun D p => D.put (.string p.1.data.toList) (.held p.2)) D).atKey (.string s.data.toList) z0 = .held (lookS l s z)
 | [], _, _, _, h => h
 | p :: l, D, z, hD, h => by
  refine at_fold hk z0 l _ _ (hD.put _ _) ?_
  show (D.put (.string p.1.data.toList) (.held p.2)).atKey (.string s.data.toList) z0 = .held (if p.1 = s then p.2 else z)
  by_cases e : p.1 = s
  · rw [if_pos e, e]
    exact atKey_put_same hD hk _ _
  · rw [if_neg e, atKey_put_other (fun q => key_ne e q.symm)]
    exact h
section
variable {P : Program} {k : TypeId} {w : World} {b : Nat} {l : List (ByteArray × Value)}
theorem MapS.made (w : World) (P : Program) (k : TypeId) : MapS P k (w.alloc (.map #[] 0)) w.heap.size [] := World.ownsMap_made w P k _
theorem MapS.lt (h : MapS P k w b l) : b < w.heap.size := World.ownsMap.lt h
theorem MapS.below {w' : World} (h : MapS P k w b l) (hb : Below w.heap.size w w') : MapS P k w' b l := by
 have hlt := h.lt
 obtain ⟨es, clock, hh, F, hs, hD⟩ := h
 exact ⟨es, clock, (hb.block b hlt).trans hh, F, hs, hD⟩
theorem MapS.setCell (h : MapS P k w b l) {a : Addr} (ha : b ≠ a.block) (u : Value) : MapS P k (w.setCell a u) b l := World.ownsMap.setCell h ha u
theorem MapS.add {t e : TypeId} (h : MapS P k w b l) (K : Keyed P k) (hs : P.underlying k = some .string) (ht : P.underlying t = some (.map k e)) (hn : l.length < 1000) (s : ByteArray) (hz : s.size ≤ maxLen) (v : Value) :
 ∃ w', (Instr.mapUpdate t (.map (some b)) (.string s) v).run P w = .ok () w' ∧ MapS P k w' b (l ++ [(s, v)]) ∧ w.grownBy w' (some b) := by
 obtain ⟨w', h1, h2, h3⟩ := World.ownsMap.update (R := anyE) (val := v) (d := .held v) (ps := []) h K ht (by unfold maxLen; omega) (Go.WideMaps.keyOf_string_mk hs hz) rfl
 refine ⟨w', h1, ?_, h3⟩
 unfold MapS mapD
 rw [List.foldl_append, List.length_append]
 exact h2
theorem MapS.look {t e : TypeId} (h : MapS P k w b l) (K : Keyed P k) (hs : P.underlying k = some .string) (ht : P.underlying t = some (.map k e)) {z : Value} (hz0 : (zeroValue e).run P w = .ok z w) (s : ByteArray) (hz : s.size ≤ maxLen) :
 (Instr.lookup t (.map (some b)) (.string s) false).run P w = .ok (lookS l s z) w := by
 have hk := Go.WideMaps.keyOf_string_mk hs hz
 obtain ⟨v, ps, h1, h2⟩ := World.ownsMap.lookup (R := anyE) (zd := .held z) (zp := []) h K ht hz0 rfl hk
 have h3 := at_fold (K.key hk) (.held z) l (.map []) z isMap_empty rfl
 unfold anyE at h2
 injection h2 with h2
 injection h2 with h2 _
 rw [show (mapD l).atKey (.string s.data.toList) (.held z) = .held (lookS l s z) from h3] at h2
 injection h2 with h2
 rw [h1, h2]
theorem MapS.addB {t e : TypeId} (h : MapS P k w b l) (K : Keyed P k) (hs : P.underlying k = some .string) (ht : P.underlying t = some (.map k e)) (hn : l.length < 1000) (s : ByteArray) (hz : s.size ≤ maxLen) (v : Value) :
 ∃ w', (Instr.mapUpdate t (.map (some b)) (.string s) v).run P w = .ok () w' ∧ MapS P k w' b (l ++ [(s, v)]) ∧ Below b w w' := by
 obtain ⟨w', h1, h2, h3⟩ := h.add K hs ht hn s hz v
 exact ⟨w', h1, h2, (Below.refl b w).grown h3 (Nat.le_of_lt h.lt) (fun k hk => by cases hk; exact Nat.le_refl _)⟩
theorem MapS.ne {g : Nat} {us : List Value} {t : TypeId} (h : MapS P k w b l) (hb : Blk w g us t) : b ≠ g := fun e => by
 subst e
 obtain ⟨es, clock, hh, _⟩ := h
 unfold Blk at hb
 rw [hb] at hh
 injection hh with hh
 cases hh
def HoldS (P : Program) (k : TypeId) (w : World) (m : Value) (L : List ByteArray) (F : ByteArray → Value) : Prop := (∃ (b : Nat) (D : List ByteArray), m = .map (some b) ∧ MapS P k w b (D.map fun s => (s, F s)) ∧ ∀ s ∈ L, s ∈ D) ∨ (L = [] ∧ m = .map none)
theorem HoldS.below {w' : World} {m : Value} {L : List ByteArray} {F : ByteArray → Value} (h : HoldS P k w m L F) (hb : Below w.heap.size w w') : HoldS P k w' m L F := h.imp (fun ⟨b, D, e, q, r⟩ => ⟨b, D, e, q.below hb, r⟩) id
theorem HoldS.lone {m : Value} {L : List ByteArray} {F : ByteArray → Value} (h : HoldS P k w m L F) : m.oneCell' = true := by
 rcases h with ⟨b, D, rfl, -⟩ | ⟨-, rfl⟩ <;> rfl
theorem HoldS.moves {m : Value} {L : List ByteArray} {F : ByteArray → Value} {g : Nat} {us : List Value} {t : TypeId} {w' : World} (h : HoldS P k w m L F) (hb : Blk w g us t) (hk : ∀ c, c ≠ g → w'.heap[c]? = w.heap[c]?) : HoldS P k w' m L F := by
 rcases h with ⟨b, D, e, q, r⟩ | h
 · refine .inl ⟨b, D, e, ?_, r⟩
   have hne := q.ne hb
   obtain ⟨es, clock, hh, F, hs, hD⟩ := q
   exact ⟨es, clock, (hk b hne).trans hh, F, hs, hD⟩
 · exact .inr h
end
end
section
open Go.RowKit Go.Lib
def offv (k : Int) (f : ByteArray) : Nat := (fieldsv k).findIdx (fun x => decide (x = f)) + 1
structure CellV (W : World) (x : Value) (s : Int) (v : V10) : Prop where
 num : s = 1 → x = .int .i64 v.n
 flag : s = 2 → x = .bool v.b
 name : s = 3 → x = .string v.s
 list : s = 4 → StrSl W x v.l
theorem CellV.below {W w' : World} {x : Value} {s : Int} {v : V10} (h : CellV W x s v) (hb : Below W.heap.size W w') : CellV w' x s v := ⟨h.num, h.flag, h.name, fun e => (h.list e).below hb⟩
theorem cell_num {W : World} {n : Int} {v : V10} (h : n = v.n) : CellV W (.int .i64 n) 1 v := ⟨fun _ => by rw [h], fun e => absurd e (by decide), fun e => absurd e (by decide), fun e => absurd e (by decide)⟩
theorem cell_flag {W : World} {b : Bool} {v : V10} (h : b = v.b) : CellV W (.bool b) 2 v := ⟨fun e => absurd e (by decide), fun _ => by rw [h], fun e => absurd e (by decide), fun e => absurd e (by decide)⟩
theorem cell_name {W : World} {s : ByteArray} {v : V10} (h : s = v.s) : CellV W (.string s) 3 v := ⟨fun e => absurd e (by decide), fun e => absurd e (by decide), fun _ => by rw [h], fun e => absurd e (by decide)⟩
theorem cell_list {W : World} {x : Value} {v : V10} (h : StrSl W x v.l) : CellV W x 4 v := ⟨fun e => absurd e (by decide), fun e => absurd e (by decide), fun e => absurd e (by decide), fun _ => h⟩
set_option maxRecDepth 100000 in
theorem UL.field {W : World} {vs : List Value} {u : U9} (h : UL W vs u) {f : ByteArray} (hf : f ∈ fieldsv 1) : ∃ x, vs[offv 1 f]? = some x ∧ CellV W x (sortv f) (ofUv u f) := by
 obtain ⟨sn, st, sr, rfl, h1, h2, h3⟩ := h
 rw [fieldsU] at hf
 simp only [List.mem_cons, List.not_mem_nil, or_false] at hf
 rcases hf with rfl | rfl | rfl | rfl | rfl | rfl | rfl | rfl | rfl | rfl | rfl | rfl | rfl | rfl | rfl | rfl | rfl | rfl
 · exact ⟨_, rfl, cell_flag rfl⟩
 · exact ⟨_, rfl, cell_flag rfl⟩
 · exact ⟨_, rfl, cell_num rfl⟩
 · exact ⟨_, rfl, cell_num rfl⟩
 · exact ⟨_, rfl, cell_num rfl⟩
 · exact ⟨_, rfl, cell_num rfl⟩
 · exact ⟨_, rfl, cell_num rfl⟩
 · exact ⟨_, rfl, cell_num rfl⟩
 · exact ⟨_, rfl, cell_num rfl⟩
 · exact ⟨_, rfl, cell_num rfl⟩
 · exact ⟨_, rfl, cell_num rfl⟩
 · exact ⟨_, rfl, cell_name rfl⟩
 · exact ⟨_, rfl, cell_num rfl⟩
 · exact ⟨_, rfl, cell_num rfl⟩
 · exact ⟨_, rfl, cell_num rfl⟩
 · exact ⟨_, rfl, cell_list h1⟩
 · exact ⟨_, rfl, cell_list h2⟩
 · exact ⟨_, rfl, cell_list h3⟩
set_option maxRecDepth 100000 in
theorem UL.setField {W : World} {vs : List Value} {u : U9} (h : UL W vs u) {f : ByteArray} (hf : f ∈ fieldsv 1) {x : Value} {v : V10} (hx : CellV W x (sortv f) v) : UL W (vs.set (offv 1 f) x) (withUv u f v) := by
 obtain ⟨sn, st, sr, rfl, h1, h2, h3⟩ := h
 rw [fieldsU] at hf
 simp only [List.mem_cons, List.not_mem_nil, or_false] at hf
 rcases hf with rfl | rfl | rfl | rfl | rfl | rfl | rfl | rfl | rfl | rfl | rfl | rfl | rfl | rfl | rfl | rfl | rfl | rfl
 · obtain rfl := hx.flag rfl
   exact ⟨_, _, _, rfl, h1, h2, h3⟩
 · obtain rfl := hx.flag rfl
   exact ⟨_, _, _, rfl, h1, h2, h3⟩
 · obtain rfl := hx.num rfl
   exact ⟨_, _, _, rfl, h1, h2, h3⟩
 · obtain rfl := hx.num rfl
   exact ⟨_, _, _, rfl, h1, h2, h3⟩
 · obtain rfl := hx.num rfl
   exact ⟨_, _, _, rfl, h1, h2, h3⟩
 · obtain rfl := hx.num rfl
   exact ⟨_, _, _, rfl, h1, h2, h3⟩
 · obtain rfl := hx.num rfl
   exact ⟨_, _, _, rfl, h1, h2, h3⟩
 · obtain rfl := hx.num rfl
   exact ⟨_, _, _, rfl, h1, h2, h3⟩
 · obtain rfl := hx.num rfl
   exact ⟨_, _, _, rfl, h1, h2, h3⟩
 · obtain rfl := hx.num rfl
   exact ⟨_, _, _, rfl, h1, h2, h3⟩
 · obtain rfl := hx.num rfl
   exact ⟨_, _, _, rfl, h1, h2, h3⟩
 · obtain rfl := hx.name rfl
   exact ⟨_, _, _, rfl, h1, h2, h3⟩
 · obtain rfl := hx.num rfl
   exact ⟨_, _, _, rfl, h1, h2, h3⟩
 · obtain rfl := hx.num rfl
   exact ⟨_, _, _, rfl, h1, h2, h3⟩
 · obtain rfl := hx.num rfl
   exact ⟨_, _, _, rfl, h1, h2, h3⟩
 · exact ⟨_, _, _, rfl, hx.list rfl, h2, h3⟩
 · exact ⟨_, _, _, rfl, h1, hx.list rfl, h3⟩
 · exact ⟨_, _, _, rfl, h1, h2, hx.list rfl⟩
set_option maxRecDepth 100000 in
theorem TL.field {W : World} {vs : List Value} {u : T9} (h : TL W vs u) {f : ByteArray} (hf : f ∈ fieldsv 3) : ∃ x, vs[offv 3 f]? = some x ∧ CellV W x (sortv f) (ofTv u f) := by
 obtain ⟨sn, rfl, h1⟩ := h
 rw [fieldsT] at hf
 simp only [List.mem_cons, List.not_mem_nil, or_false] at hf
 rcases hf with rfl | rfl | rfl | rfl | rfl | rfl | rfl
 · exact ⟨_, rfl, cell_list h1⟩
 · exact ⟨_, rfl, cell_num rfl⟩
 · exact ⟨_, rfl, cell_num rfl⟩
 · exact ⟨_, rfl, cell_num rfl⟩
 · exact ⟨_, rfl, cell_name rfl⟩
 · exact ⟨_, rfl, cell_num rfl⟩
 · exact ⟨_, rfl, cell_num rfl⟩
set_option maxRecDepth 100000 in
theorem TL.setField {W : World} {vs : List Value} {u : T9} (h : TL W vs u) {f : ByteArray} (hf : f ∈ fieldsv 3) {x : Value} {v : V10} (hx : CellV W x (sortv f) v) : TL W (vs.set (offv 3 f) x) (withTv u f v) := by
 obtain ⟨sn, rfl, h1⟩ := h
 rw [fieldsT] at hf
 simp only [List.mem_cons, List.not_mem_nil, or_false] at hf
 rcases hf with rfl | rfl | rfl | rfl | rfl | rfl | rfl
 · exact ⟨_, rfl, hx.list rfl⟩
 · obtain rfl := hx.num rfl
   exact ⟨_, rfl, h1⟩
 · obtain rfl := hx.num rfl
   exact ⟨_, rfl, h1⟩
 · obtain rfl := hx.num rfl
   exact ⟨_, rfl, h1⟩
 · obtain rfl := hx.name rfl
   exact ⟨_, rfl, h1⟩
 · obtain rfl := hx.num rfl
   exact ⟨_, rfl, h1⟩
 · obtain rfl := hx.num rfl
   exact ⟨_, rfl, h1⟩
set_option maxRecDepth 100000 in
theorem WL.field {vs : List Value} {u : W9} (h : WL vs u) {f : ByteArray} (hf : f ∈ fieldsv 2) (W : World) : ∃ x, vs[offv 2 f]? = some x ∧ CellV W x (sortv f) (ofWv u f) := by
 subst h
 rw [fieldsW] at hf
 simp only [List.mem_cons, List.not_mem_nil, or_false] at hf
 rcases hf with rfl | rfl | rfl | rfl | rfl
 · exact ⟨_, rfl, cell_num rfl⟩
 · exact ⟨_, rfl, cell_num rfl⟩
 · exact ⟨_, rfl, cell_num rfl⟩
 · exact ⟨_, rfl, cell_num rfl⟩
 · exact ⟨_, rfl, cell_num rfl⟩
set_option maxRecDepth 100000 in
theorem WL.setField {W : World} {vs : List Value} {u : W9} (h : WL vs u) {f : ByteArray} (hf : f ∈ fieldsv 2) {x : Value} {v : V10} (hx : CellV W x (sortv f) v) : WL (vs.set (offv 2 f) x) (withWv u f v) := by
 subst h
 rw [fieldsW] at hf
 simp only [List.mem_cons, List.not_mem_nil, or_false] at hf
 rcases hf with rfl | rfl | rfl | rfl | rfl
 · obtain rfl := hx.num rfl
   rfl
 · obtain rfl := hx.num rfl
   rfl
 · obtain rfl := hx.num rfl
   rfl
 · obtain rfl := hx.num rfl
   rfl
 · obtain rfl := hx.num rfl
   rfl
set_option maxRecDepth 100000 in
theorem off_ltU {f : ByteArray} (hf : f ∈ fieldsv 1) : 1 ≤ offv 1 f ∧ offv 1 f < 19 := by
 rw [fieldsU] at hf
 simp only [List.mem_cons, List.not_mem_nil, or_false] at hf
 rcases hf with rfl | rfl | rfl | rfl | rfl | rfl | rfl | rfl | rfl | rfl | rfl | rfl | rfl | rfl | rfl | rfl | rfl | rfl <;> decide
set_option maxRecDepth 100000 in
theorem off_ltW {f : ByteArray} (hf : f ∈ fieldsv 2) : 1 ≤ offv 2 f ∧ offv 2 f < 6 := by
 rw [fieldsW] at hf
 simp only [List.mem_cons, List.not_mem_nil, or_false] at hf
 rcases hf with rfl | rfl | rfl | rfl | rfl <;> decide
set_option maxRecDepth 100000 in
theorem off_ltT {f : ByteArray} (hf : f ∈ fieldsv 3) : 1 ≤ offv 3 f ∧ offv 3 f < 8 := by
 rw [fieldsT] at hf
 simp only [List.mem_cons, List.not_mem_nil, or_false] at hf
 rcases hf with rfl | rfl | rfl | rfl | rfl | rfl | rfl <;> decide
def sortL (s k : Int) : List ByteArray := (fieldsv k).filter fun f => decide (sortv f = s)
theorem look_map (p : ByteArray → Value) (s : ByteArray) : ∀ (l : List ByteArray) (z : Value), (s ∈ l ∨ z = p s) → lookS (l.map fun f => (f, p f)) s z = p s
 | [], z, h => h.elim (fun q => absurd q (by simp)) id
 | a :: l, z, h => by
  refine look_map p s l (if a = s then p a else z) ?_
  by_cases e : a = s
  · right
    rw [if_pos e, e]
  · rw [if_neg e]
    exact h.imp (fun q => (List.mem_cons.1 q).resolve_left fun q => e q.symm) id
def sortsL : List (ByteArray × Value) := [(⟨#[98, 117, 105, 108, 100, 105, 110, 103]⟩, .int .i64 1), (⟨#[100, 101, 112, 111, 116]⟩, .int .i64 1), (⟨#[119, 101, 97, 112, 111, 110]⟩, .int .i64 2), (⟨#[117, 110, 105, 116]⟩, .int .i64 2), (⟨#[110, 101, 101, 100, 115]⟩, .int .i64 3), (⟨#[116, 114, 97, 105, 110, 115]⟩, .int .i64 3), (⟨#[114, 101, 115, 101, 97, 114, 99, 104, 101, 115]⟩, .int .i64 3)]
theorem look_sorts (f : ByteArray) : lookS sortsL f (.int .i64 0) = .int .i64 (sortv f - 1) := by
 unfold sortsL lookS sortv
 simp only [List.foldl_cons, List.foldl_nil]
 by_cases c0 : f = ⟨#[98, 117, 105, 108, 100, 105, 110, 103]⟩
 · subst c0
   rfl
 by_cases c1 : f = ⟨#[100, 101, 112, 111, 116]⟩
 · subst c1
   rfl
 by_cases c2 : f = ⟨#[119, 101, 97, 112, 111, 110]⟩
 · subst c2
   rfl
 by_cases c3 : f = ⟨#[117, 110, 105, 116]⟩
 · subst c3
   rfl
 by_cases c4 : f = ⟨#[110, 101, 101, 100, 115]⟩
 · subst c4
   rfl
 by_cases c5 : f = ⟨#[116, 114, 97, 105, 110, 115]⟩
 · subst c5
   rfl
 by_cases c6 : f = ⟨#[114, 101, 115, 101, 97, 114, 99, 104, 101, 115]⟩
 · subst c6
   rfl
 rw [if_neg (fun q => c6 q.symm), if_neg (fun q => c5 q.symm), if_neg (fun q => c4 q.symm), if_neg (fun q => c3 q.symm), if_neg (fun q => c2 q.symm), if_neg (fun q => c1 q.symm), if_neg (fun q => c0 q.symm), if_neg (fun q => q.elim c0 c1), if_neg (fun q => q.elim c2 c3), if_neg (fun q => q.elim c4 fun q => q.elim c5 c6)]
 rfl
theorem names11 : sortL 1 1 = [⟨#[99, 108, 97, 115, 115]⟩, ⟨#[119]⟩, ⟨#[104]⟩, ⟨#[114, 97, 100, 105, 117, 115]⟩, ⟨#[115, 112, 101, 101, 100]⟩, ⟨#[115, 105, 103, 104, 116]⟩, ⟨#[104, 112]⟩, ⟨#[97, 114, 109, 111, 114]⟩, ⟨#[108, 111, 97, 100]⟩, ⟨#[111, 114, 101]⟩, ⟨#[119, 111, 111, 100]⟩, ⟨#[116, 105, 109, 101]⟩] := by rfl
theorem names12 : sortL 2 1 = [⟨#[98, 117, 105, 108, 100, 105, 110, 103]⟩, ⟨#[100, 101, 112, 111, 116]⟩] := by rfl
theorem names13 : sortL 3 1 = [⟨#[119, 101, 97, 112, 111, 110]⟩] := by rfl
theorem names14 : sortL 4 1 = [⟨#[110, 101, 101, 100, 115]⟩, ⟨#[116, 114, 97, 105, 110, 115]⟩, ⟨#[114, 101, 115, 101, 97, 114, 99, 104, 101, 115]⟩] := by rfl
theorem names21 : sortL 1 2 = [⟨#[114, 97, 110, 103, 101]⟩, ⟨#[100, 97, 109, 97, 103, 101]⟩, ⟨#[99, 111, 111, 108]⟩, ⟨#[115, 112, 101, 101, 100]⟩, ⟨#[115, 112, 108, 97, 115, 104]⟩] := by rfl
theorem names31 : sortL 1 3 = [⟨#[111, 114, 101]⟩, ⟨#[119, 111, 111, 100]⟩, ⟨#[116, 105, 109, 101]⟩, ⟨#[115, 116, 97, 116]⟩, ⟨#[97, 109, 111, 117, 110, 116]⟩] := by rfl
theorem names33 : sortL 3 3 = [⟨#[117, 110, 105, 116]⟩] := by rfl
theorem names34 : sortL 4 3 = [⟨#[110, 101, 101, 100, 115]⟩] := by rfl
end

end Go.Proofs.YtnjcdmjaecgblaaGreatDoor
