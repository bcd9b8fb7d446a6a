/-
  slices.IndexFunc and slices.ContainsFunc at the types that package rules uses, whatever the function handed to them.
-/
import Derived.Test.YtaefioikflllcaaGreatRulRefP
import Derived.Shelf.Abstract
namespace Go.Proofs.YtaefioikflllcaaGreat
open Go.RowKit Go.Lib

/-- slices.IndexFunc at skirmish/api.UnitType. -/
theorem lidxU_b (v : Value) (n : Nat) (cs : Nat → List Value) (f : Nat) (lb : Array Value) (p : Nat → Bool) (V0 W : World) (hr : RowV V0 19 v n cs) (h0 : Below V0.heap.size V0 W)
    (eg : ∀ args w, (callFunc f args).run Tryz.prog w = .ok (.enter f args) w)
    (hp : ∀ i, i < n → ∀ w, Below W.heap.size W w → Calls Tryz.prog f (#[.agg (cs i).toArray] ++ lb) w fun e w' => e = .returned (.bool (p i)) ∧ Below w.heap.size w w') :
    Calls Tryz.prog 105 #[v, .func (.func f) #[] lb] W fun e w' => e = .returned (.int .i64 (idxN p n)) ∧ Below W.heap.size W w' := by
  obtain ⟨q, c, rfl, hm, hat⟩ := hr
  unfold maxLen at hm
  go_enter Tryz.func105, Tryz.ntmps105
  go_wp2_with fail
  go_loopw [8] (fun vi wr => ∃ i : Nat, vi = .int .i64 i ∧ i ≤ n ∧ Below W.heap.size W wr ∧ Hid (∀ j, j < i → p j = false)) (fun vi _ => n - (RowKit.intOf vi).toNat)
  case atStart => exact ⟨0, rfl, by omega, Below.refl _ _, hid (fun j h => by omega)⟩
  case round =>
    obtain ⟨i, rfl, hi, hL, hA⟩ := hrel
    by_cases hlt : i < n
    · have d1 : (i : Int) < n := by omega
      have d0 : (0 : Int) ≤ i := by omega
      obtain ⟨g, o, rfl, hg, hc⟩ := hat (by omega)
      obtain ⟨hcs, hln⟩ := hc i hlt
      have kl := hid ((hcs.below' hg (h0.trans (hL.mono h0.size))).loads (P := Tryz.prog) hln)
      have hcall := hp i hlt wr hL
      clear hat hc hcs hp
      cases hq : p i with
      | true =>
        have HS := hid (idxN_hit hlt hq hA.out)
        rw [hq] at hcall
        clear hq hA
        go_wp2_with (first | (with_reducible refine wpList_load_agg rfl 34 _ rfl ⟨g, o + i * 19, none⟩ (by with_unfolding_all rfl) Tryz.isAgg34 Tryz.sizeOf34 (cs i) kl.out ?_) | (go_at_fn f; refine hcall.mono ?_; rintro e w1 ⟨rfl, hb⟩))
        go_ret
        exact ⟨ret_int HS.out.symm, below_call hL hb⟩
      | false =>
        have HS := hid (show ∀ j, j < i + 1 → p j = false from fun j hj => by
          rcases Nat.lt_or_ge j i with h2 | h2
          · exact hA.out j h2
          · obtain rfl : j = i := by omega
            exact hq)
        rw [hq] at hcall
        clear hq hA
        go_wp2_with (first | (with_reducible refine wpList_load_agg rfl 34 _ rfl ⟨g, o + i * 19, none⟩ (by with_unfolding_all rfl) Tryz.isAgg34 Tryz.sizeOf34 (cs i) kl.out ?_) | (go_at_fn f; refine hcall.mono ?_; rintro e w1 ⟨rfl, hb⟩))
        go_roundw
        case rel => exact ⟨i + 1, by go_num, by omega, below_call hL hb, HS⟩
        case measure => simp [RowKit.intOf]; omega
    · obtain rfl : i = n := by omega
      have HS := hid (idxN_miss hA.out)
      clear hat hA hp
      go_wp2_with fail
      go_ret
      exact ⟨ret_int HS.out.symm, hL⟩
/-- slices.ContainsFunc at skirmish/api.UnitType. -/
theorem lanyU_b (v : Value) (n : Nat) (cs : Nat → List Value) (f : Nat) (lb : Array Value) (p : Nat → Bool) (b : Bool) (V0 W : World) (hr : RowV V0 19 v n cs) (h0 : Below V0.heap.size V0 W)
    (eg : ∀ args w, (callFunc f args).run Tryz.prog w = .ok (.enter f args) w)
    (hp : ∀ i, i < n → ∀ w, Below W.heap.size W w → Calls Tryz.prog f (#[.agg (cs i).toArray] ++ lb) w fun e w' => e = .returned (.bool (p i)) ∧ Below w.heap.size w w') (e : Hid (b = anyN p n)) :
    Calls Tryz.prog 120 #[v, .func (.func f) #[] lb] W fun e w' => e = .returned (.bool b) ∧ Below W.heap.size W w' := by
  obtain ⟨q, c, rfl, -, -⟩ := id hr
  have hc := lidxU_b _ n cs f lb p V0 W hr h0 eg hp
  have he : b = decide (0 ≤ idxN p n) := by rw [idxN_any]; exact e.out
  clear hr hp e
  generalize idxN p n = z at hc he
  subst he
  go_enter Tryz.func120, Tryz.ntmps120
  go_wp2_with fail
  (refine hc.mono ?_; rintro e w1 ⟨rfl, hb⟩)
  go_wp2_with fail
  go_ret
  exact ⟨rfl, hb⟩

/-- slices.IndexFunc at skirmish/api.Weapon. -/
theorem lidxW_b (v : Value) (n : Nat) (cs : Nat → List Value) (f : Nat) (lb : Array Value) (p : Nat → Bool) (V0 W : World) (hr : RowV V0 6 v n cs) (h0 : Below V0.heap.size V0 W)
    (eg : ∀ args w, (callFunc f args).run Tryz.prog w = .ok (.enter f args) w)
    (hp : ∀ i, i < n → ∀ w, Below W.heap.size W w → Calls Tryz.prog f (#[.agg (cs i).toArray] ++ lb) w fun e w' => e = .returned (.bool (p i)) ∧ Below w.heap.size w w') :
    Calls Tryz.prog 107 #[v, .func (.func f) #[] lb] W fun e w' => e = .returned (.int .i64 (idxN p n)) ∧ Below W.heap.size W w' := by
  obtain ⟨q, c, rfl, hm, hat⟩ := hr
  unfold maxLen at hm
  go_enter Tryz.func107, Tryz.ntmps107
  go_wp2_with fail
  go_loopw [8] (fun vi wr => ∃ i : Nat, vi = .int .i64 i ∧ i ≤ n ∧ Below W.heap.size W wr ∧ Hid (∀ j, j < i → p j = false)) (fun vi _ => n - (RowKit.intOf vi).toNat)
  case atStart => exact ⟨0, rfl, by omega, Below.refl _ _, hid (fun j h => by omega)⟩
  case round =>
    obtain ⟨i, rfl, hi, hL, hA⟩ := hrel
    by_cases hlt : i < n
    · have d1 : (i : Int) < n := by omega
      have d0 : (0 : Int) ≤ i := by omega
      obtain ⟨g, o, rfl, hg, hc⟩ := hat (by omega)
      obtain ⟨hcs, hln⟩ := hc i hlt
      have kl := hid ((hcs.below' hg (h0.trans (hL.mono h0.size))).loads (P := Tryz.prog) hln)
      have hcall := hp i hlt wr hL
      clear hat hc hcs hp
      cases hq : p i with
      | true =>
        have HS := hid (idxN_hit hlt hq hA.out)
        rw [hq] at hcall
        clear hq hA
        go_wp2_with (first | (with_reducible refine wpList_load_agg rfl 38 _ rfl ⟨g, o + i * 6, none⟩ (by with_unfolding_all rfl) Tryz.isAgg38 Tryz.sizeOf38 (cs i) kl.out ?_) | (go_at_fn f; refine hcall.mono ?_; rintro e w1 ⟨rfl, hb⟩))
        go_ret
        exact ⟨ret_int HS.out.symm, below_call hL hb⟩
      | false =>
        have HS := hid (show ∀ j, j < i + 1 → p j = false from fun j hj => by
          rcases Nat.lt_or_ge j i with h2 | h2
          · exact hA.out j h2
          · obtain rfl : j = i := by omega
            exact hq)
        rw [hq] at hcall
        clear hq hA
        go_wp2_with (first | (with_reducible refine wpList_load_agg rfl 38 _ rfl ⟨g, o + i * 6, none⟩ (by with_unfolding_all rfl) Tryz.isAgg38 Tryz.sizeOf38 (cs i) kl.out ?_) | (go_at_fn f; refine hcall.mono ?_; rintro e w1 ⟨rfl, hb⟩))
        go_roundw
        case rel => exact ⟨i + 1, by go_num, by omega, below_call hL hb, HS⟩
        case measure => simp [RowKit.intOf]; omega
    · obtain rfl : i = n := by omega
      have HS := hid (idxN_miss hA.out)
      clear hat hA hp
      go_wp2_with fail
      go_ret
      exact ⟨ret_int HS.out.symm, hL⟩
/-- slices.ContainsFunc at skirmish/api.Weapon. -/
theorem lanyW_b (v : Value) (n : Nat) (cs : Nat → List Value) (f : Nat) (lb : Array Value) (p : Nat → Bool) (b : Bool) (V0 W : World) (hr : RowV V0 6 v n cs) (h0 : Below V0.heap.size V0 W)
    (eg : ∀ args w, (callFunc f args).run Tryz.prog w = .ok (.enter f args) w)
    (hp : ∀ i, i < n → ∀ w, Below W.heap.size W w → Calls Tryz.prog f (#[.agg (cs i).toArray] ++ lb) w fun e w' => e = .returned (.bool (p i)) ∧ Below w.heap.size w w') (e : Hid (b = anyN p n)) :
    Calls Tryz.prog 84 #[v, .func (.func f) #[] lb] W fun e w' => e = .returned (.bool b) ∧ Below W.heap.size W w' := by
  obtain ⟨q, c, rfl, -, -⟩ := id hr
  have hc := lidxW_b _ n cs f lb p V0 W hr h0 eg hp
  have he : b = decide (0 ≤ idxN p n) := by rw [idxN_any]; exact e.out
  clear hr hp e
  generalize idxN p n = z at hc he
  subst he
  go_enter Tryz.func84, Tryz.ntmps84
  go_wp2_with fail
  (refine hc.mono ?_; rintro e w1 ⟨rfl, hb⟩)
  go_wp2_with fail
  go_ret
  exact ⟨rfl, hb⟩

/-- slices.IndexFunc at skirmish/api.Tech. -/
theorem lidxT_b (v : Value) (n : Nat) (cs : Nat → List Value) (f : Nat) (lb : Array Value) (p : Nat → Bool) (V0 W : World) (hr : RowV V0 8 v n cs) (h0 : Below V0.heap.size V0 W)
    (eg : ∀ args w, (callFunc f args).run Tryz.prog w = .ok (.enter f args) w)
    (hp : ∀ i, i < n → ∀ w, Below W.heap.size W w → Calls Tryz.prog f (#[.agg (cs i).toArray] ++ lb) w fun e w' => e = .returned (.bool (p i)) ∧ Below w.heap.size w w') :
    Calls Tryz.prog 109 #[v, .func (.func f) #[] lb] W fun e w' => e = .returned (.int .i64 (idxN p n)) ∧ Below W.heap.size W w' := by
  obtain ⟨q, c, rfl, hm, hat⟩ := hr
  unfold maxLen at hm
  go_enter Tryz.func109, Tryz.ntmps109
  go_wp2_with fail
  go_loopw [8] (fun vi wr => ∃ i : Nat, vi = .int .i64 i ∧ i ≤ n ∧ Below W.heap.size W wr ∧ Hid (∀ j, j < i → p j = false)) (fun vi _ => n - (RowKit.intOf vi).toNat)
  case atStart => exact ⟨0, rfl, by omega, Below.refl _ _, hid (fun j h => by omega)⟩
  case round =>
    obtain ⟨i, rfl, hi, hL, hA⟩ := hrel
    by_cases hlt : i < n
    · have d1 : (i : Int) < n := by omega
      have d0 : (0 : Int) ≤ i := by omega
      obtain ⟨g, o, rfl, hg, hc⟩ := hat (by omega)
      obtain ⟨hcs, hln⟩ := hc i hlt
      have kl := hid ((hcs.below' hg (h0.trans (hL.mono h0.size))).loads (P := Tryz.prog) hln)
      have hcall := hp i hlt wr hL
      clear hat hc hcs hp
      cases hq : p i with
      | true =>
        have HS := hid (idxN_hit hlt hq hA.out)
        rw [hq] at hcall
        clear hq hA
        go_wp2_with (first | (with_reducible refine wpList_load_agg rfl 42 _ rfl ⟨g, o + i * 8, none⟩ (by with_unfolding_all rfl) Tryz.isAgg42 Tryz.sizeOf42 (cs i) kl.out ?_) | (go_at_fn f; refine hcall.mono ?_; rintro e w1 ⟨rfl, hb⟩))
        go_ret
        exact ⟨ret_int HS.out.symm, below_call hL hb⟩
      | false =>
        have HS := hid (show ∀ j, j < i + 1 → p j = false from fun j hj => by
          rcases Nat.lt_or_ge j i with h2 | h2
          · exact hA.out j h2
          · obtain rfl : j = i := by omega
            exact hq)
        rw [hq] at hcall
        clear hq hA
        go_wp2_with (first | (with_reducible refine wpList_load_agg rfl 42 _ rfl ⟨g, o + i * 8, none⟩ (by with_unfolding_all rfl) Tryz.isAgg42 Tryz.sizeOf42 (cs i) kl.out ?_) | (go_at_fn f; refine hcall.mono ?_; rintro e w1 ⟨rfl, hb⟩))
        go_roundw
        case rel => exact ⟨i + 1, by go_num, by omega, below_call hL hb, HS⟩
        case measure => simp [RowKit.intOf]; omega
    · obtain rfl : i = n := by omega
      have HS := hid (idxN_miss hA.out)
      clear hat hA hp
      go_wp2_with fail
      go_ret
      exact ⟨ret_int HS.out.symm, hL⟩
/-- slices.ContainsFunc at skirmish/api.Tech. -/
theorem lanyT_b (v : Value) (n : Nat) (cs : Nat → List Value) (f : Nat) (lb : Array Value) (p : Nat → Bool) (b : Bool) (V0 W : World) (hr : RowV V0 8 v n cs) (h0 : Below V0.heap.size V0 W)
    (eg : ∀ args w, (callFunc f args).run Tryz.prog w = .ok (.enter f args) w)
    (hp : ∀ i, i < n → ∀ w, Below W.heap.size W w → Calls Tryz.prog f (#[.agg (cs i).toArray] ++ lb) w fun e w' => e = .returned (.bool (p i)) ∧ Below w.heap.size w w') (e : Hid (b = anyN p n)) :
    Calls Tryz.prog 75 #[v, .func (.func f) #[] lb] W fun e w' => e = .returned (.bool b) ∧ Below W.heap.size W w' := by
  obtain ⟨q, c, rfl, -, -⟩ := id hr
  have hc := lidxT_b _ n cs f lb p V0 W hr h0 eg hp
  have he : b = decide (0 ≤ idxN p n) := by rw [idxN_any]; exact e.out
  clear hr hp e
  generalize idxN p n = z at hc he
  subst he
  go_enter Tryz.func75, Tryz.ntmps75
  go_wp2_with fail
  (refine hc.mono ?_; rintro e w1 ⟨rfl, hb⟩)
  go_wp2_with fail
  go_ret
  exact ⟨rfl, hb⟩

/-- slices.IndexFunc at skirmish/rules.item. -/
theorem lidxI_b (v : Value) (n : Nat) (cs : Nat → List Value) (f : Nat) (lb : Array Value) (p : Nat → Bool) (V0 W : World) (hr : RowV V0 2 v n cs) (h0 : Below V0.heap.size V0 W)
    (eg : ∀ args w, (callFunc f args).run Tryz.prog w = .ok (.enter f args) w)
    (hp : ∀ i, i < n → ∀ w, Below W.heap.size W w → Calls Tryz.prog f (#[.agg (cs i).toArray] ++ lb) w fun e w' => e = .returned (.bool (p i)) ∧ Below w.heap.size w w') :
    Calls Tryz.prog 114 #[v, .func (.func f) #[] lb] W fun e w' => e = .returned (.int .i64 (idxN p n)) ∧ Below W.heap.size W w' := by
  obtain ⟨q, c, rfl, hm, hat⟩ := hr
  unfold maxLen at hm
  go_enter Tryz.func114, Tryz.ntmps114
  go_wp2_with fail
  go_loopw [8] (fun vi wr => ∃ i : Nat, vi = .int .i64 i ∧ i ≤ n ∧ Below W.heap.size W wr ∧ Hid (∀ j, j < i → p j = false)) (fun vi _ => n - (RowKit.intOf vi).toNat)
  case atStart => exact ⟨0, rfl, by omega, Below.refl _ _, hid (fun j h => by omega)⟩
  case round =>
    obtain ⟨i, rfl, hi, hL, hA⟩ := hrel
    by_cases hlt : i < n
    · have d1 : (i : Int) < n := by omega
      have d0 : (0 : Int) ≤ i := by omega
      obtain ⟨g, o, rfl, hg, hc⟩ := hat (by omega)
      obtain ⟨hcs, hln⟩ := hc i hlt
      have kl := hid ((hcs.below' hg (h0.trans (hL.mono h0.size))).loads (P := Tryz.prog) hln)
      have hcall := hp i hlt wr hL
      clear hat hc hcs hp
      cases hq : p i with
      | true =>
        have HS := hid (idxN_hit hlt hq hA.out)
        rw [hq] at hcall
        clear hq hA
        go_wp2_with (first | (with_reducible refine wpList_load_agg rfl 89 _ rfl ⟨g, o + i * 2, none⟩ (by with_unfolding_all rfl) Tryz.isAgg89 Tryz.sizeOf89 (cs i) kl.out ?_) | (go_at_fn f; refine hcall.mono ?_; rintro e w1 ⟨rfl, hb⟩))
        go_ret
        exact ⟨ret_int HS.out.symm, below_call hL hb⟩
      | false =>
        have HS := hid (show ∀ j, j < i + 1 → p j = false from fun j hj => by
          rcases Nat.lt_or_ge j i with h2 | h2
          · exact hA.out j h2
          · obtain rfl : j = i := by omega
            exact hq)
        rw [hq] at hcall
        clear hq hA
        go_wp2_with (first | (with_reducible refine wpList_load_agg rfl 89 _ rfl ⟨g, o + i * 2, none⟩ (by with_unfolding_all rfl) Tryz.isAgg89 Tryz.sizeOf89 (cs i) kl.out ?_) | (go_at_fn f; refine hcall.mono ?_; rintro e w1 ⟨rfl, hb⟩))
        go_roundw
        case rel => exact ⟨i + 1, by go_num, by omega, below_call hL hb, HS⟩
        case measure => simp [RowKit.intOf]; omega
    · obtain rfl : i = n := by omega
      have HS := hid (idxN_miss hA.out)
      clear hat hA hp
      go_wp2_with fail
      go_ret
      exact ⟨ret_int HS.out.symm, hL⟩
/-- slices.ContainsFunc at skirmish/rules.item. -/
theorem lanyI_b (v : Value) (n : Nat) (cs : Nat → List Value) (f : Nat) (lb : Array Value) (p : Nat → Bool) (b : Bool) (V0 W : World) (hr : RowV V0 2 v n cs) (h0 : Below V0.heap.size V0 W)
    (eg : ∀ args w, (callFunc f args).run Tryz.prog w = .ok (.enter f args) w)
    (hp : ∀ i, i < n → ∀ w, Below W.heap.size W w → Calls Tryz.prog f (#[.agg (cs i).toArray] ++ lb) w fun e w' => e = .returned (.bool (p i)) ∧ Below w.heap.size w w') (e : Hid (b = anyN p n)) :
    Calls Tryz.prog 94 #[v, .func (.func f) #[] lb] W fun e w' => e = .returned (.bool b) ∧ Below W.heap.size W w' := by
  obtain ⟨q, c, rfl, -, -⟩ := id hr
  have hc := lidxI_b _ n cs f lb p V0 W hr h0 eg hp
  have he : b = decide (0 ≤ idxN p n) := by rw [idxN_any]; exact e.out
  clear hr hp e
  generalize idxN p n = z at hc he
  subst he
  go_enter Tryz.func94, Tryz.ntmps94
  go_wp2_with fail
  (refine hc.mono ?_; rintro e w1 ⟨rfl, hb⟩)
  go_wp2_with fail
  go_ret
  exact ⟨rfl, hb⟩

/-- slices.IndexFunc at skirmish/rules.ranged. -/
theorem lidxR_b (v : Value) (n : Nat) (cs : Nat → List Value) (f : Nat) (lb : Array Value) (p : Nat → Bool) (V0 W : World) (hr : RowV V0 3 v n cs) (h0 : Below V0.heap.size V0 W)
    (eg : ∀ args w, (callFunc f args).run Tryz.prog w = .ok (.enter f args) w)
    (hp : ∀ i, i < n → ∀ w, Below W.heap.size W w → Calls Tryz.prog f (#[.agg (cs i).toArray] ++ lb) w fun e w' => e = .returned (.bool (p i)) ∧ Below w.heap.size w w') :
    Calls Tryz.prog 132 #[v, .func (.func f) #[] lb] W fun e w' => e = .returned (.int .i64 (idxN p n)) ∧ Below W.heap.size W w' := by
  obtain ⟨q, c, rfl, hm, hat⟩ := hr
  unfold maxLen at hm
  go_enter Tryz.func132, Tryz.ntmps132
  go_wp2_with fail
  go_loopw [8] (fun vi wr => ∃ i : Nat, vi = .int .i64 i ∧ i ≤ n ∧ Below W.heap.size W wr ∧ Hid (∀ j, j < i → p j = false)) (fun vi _ => n - (RowKit.intOf vi).toNat)
  case atStart => exact ⟨0, rfl, by omega, Below.refl _ _, hid (fun j h => by omega)⟩
  case round =>
    obtain ⟨i, rfl, hi, hL, hA⟩ := hrel
    by_cases hlt : i < n
    · have d1 : (i : Int) < n := by omega
      have d0 : (0 : Int) ≤ i := by omega
      obtain ⟨g, o, rfl, hg, hc⟩ := hat (by omega)
      obtain ⟨hcs, hln⟩ := hc i hlt
      have kl := hid ((hcs.below' hg (h0.trans (hL.mono h0.size))).loads (P := Tryz.prog) hln)
      have hcall := hp i hlt wr hL
      clear hat hc hcs hp
      cases hq : p i with
      | true =>
        have HS := hid (idxN_hit hlt hq hA.out)
        rw [hq] at hcall
        clear hq hA
        go_wp2_with (first | (with_reducible refine wpList_load_agg rfl 108 _ rfl ⟨g, o + i * 3, none⟩ (by with_unfolding_all rfl) Tryz.isAgg108 Tryz.sizeOf108 (cs i) kl.out ?_) | (go_at_fn f; refine hcall.mono ?_; rintro e w1 ⟨rfl, hb⟩))
        go_ret
        exact ⟨ret_int HS.out.symm, below_call hL hb⟩
      | false =>
        have HS := hid (show ∀ j, j < i + 1 → p j = false from fun j hj => by
          rcases Nat.lt_or_ge j i with h2 | h2
          · exact hA.out j h2
          · obtain rfl : j = i := by omega
            exact hq)
        rw [hq] at hcall
        clear hq hA
        go_wp2_with (first | (with_reducible refine wpList_load_agg rfl 108 _ rfl ⟨g, o + i * 3, none⟩ (by with_unfolding_all rfl) Tryz.isAgg108 Tryz.sizeOf108 (cs i) kl.out ?_) | (go_at_fn f; refine hcall.mono ?_; rintro e w1 ⟨rfl, hb⟩))
        go_roundw
        case rel => exact ⟨i + 1, by go_num, by omega, below_call hL hb, HS⟩
        case measure => simp [RowKit.intOf]; omega
    · obtain rfl : i = n := by omega
      have HS := hid (idxN_miss hA.out)
      clear hat hA hp
      go_wp2_with fail
      go_ret
      exact ⟨ret_int HS.out.symm, hL⟩
/-- slices.ContainsFunc at skirmish/rules.ranged. -/
theorem lanyR_b (v : Value) (n : Nat) (cs : Nat → List Value) (f : Nat) (lb : Array Value) (p : Nat → Bool) (b : Bool) (V0 W : World) (hr : RowV V0 3 v n cs) (h0 : Below V0.heap.size V0 W)
    (eg : ∀ args w, (callFunc f args).run Tryz.prog w = .ok (.enter f args) w)
    (hp : ∀ i, i < n → ∀ w, Below W.heap.size W w → Calls Tryz.prog f (#[.agg (cs i).toArray] ++ lb) w fun e w' => e = .returned (.bool (p i)) ∧ Below w.heap.size w w') (e : Hid (b = anyN p n)) :
    Calls Tryz.prog 124 #[v, .func (.func f) #[] lb] W fun e w' => e = .returned (.bool b) ∧ Below W.heap.size W w' := by
  obtain ⟨q, c, rfl, -, -⟩ := id hr
  have hc := lidxR_b _ n cs f lb p V0 W hr h0 eg hp
  have he : b = decide (0 ≤ idxN p n) := by rw [idxN_any]; exact e.out
  clear hr hp e
  generalize idxN p n = z at hc he
  subst he
  go_enter Tryz.func124, Tryz.ntmps124
  go_wp2_with fail
  (refine hc.mono ?_; rintro e w1 ⟨rfl, hb⟩)
  go_wp2_with fail
  go_ret
  exact ⟨rfl, hb⟩

/-- slices.IndexFunc at string. -/
theorem lidxS_b (v : Value) (n : Nat) (cs : Nat → List Value) (f : Nat) (lb : Array Value) (p : Nat → Bool) (V0 W : World) (hr : RowV V0 1 v n cs) (h0 : Below V0.heap.size V0 W)
    (eg : ∀ args w, (callFunc f args).run Tryz.prog w = .ok (.enter f args) w)
    (hp : ∀ i, i < n → ∀ w, Below W.heap.size W w → Calls Tryz.prog f (#[(cs i).headD undef] ++ lb) w fun e w' => e = .returned (.bool (p i)) ∧ Below w.heap.size w w') :
    Calls Tryz.prog 126 #[v, .func (.func f) #[] lb] W fun e w' => e = .returned (.int .i64 (idxN p n)) ∧ Below W.heap.size W w' := by
  obtain ⟨q, c, rfl, hm, hat⟩ := hr
  unfold maxLen at hm
  go_enter Tryz.func126, Tryz.ntmps126
  go_wp2_with fail
  go_loopw [8] (fun vi wr => ∃ i : Nat, vi = .int .i64 i ∧ i ≤ n ∧ Below W.heap.size W wr ∧ Hid (∀ j, j < i → p j = false)) (fun vi _ => n - (RowKit.intOf vi).toNat)
  case atStart => exact ⟨0, rfl, by omega, Below.refl _ _, hid (fun j h => by omega)⟩
  case round =>
    obtain ⟨i, rfl, hi, hL, hA⟩ := hrel
    by_cases hlt : i < n
    · have d1 : (i : Int) < n := by omega
      have d0 : (0 : Int) ≤ i := by omega
      obtain ⟨g, o, rfl, hg, hc⟩ := hat (by omega)
      obtain ⟨hcs, hln⟩ := hc i hlt
      obtain ⟨x, hx⟩ : ∃ x, cs i = [x] := List.length_eq_one_iff.1 hln
      have k1 := (hcs.below' hg (h0.trans (hL.mono h0.size))) 0 x (by rw [hx]; rfl)
      rw [Nat.mul_one, Nat.add_zero] at k1
      have hcall := hp i hlt wr hL
      rw [hx, show ([x] : List Value).headD undef = x from rfl] at hcall
      clear hat hc hcs hp hx
      cases hq : p i with
      | true =>
        have HS := hid (idxN_hit hlt hq hA.out)
        rw [hq] at hcall
        clear hq hA
        go_wp2_with (go_at_fn f; refine hcall.mono ?_; rintro e w1 ⟨rfl, hb⟩)
        go_ret
        exact ⟨ret_int HS.out.symm, below_call hL hb⟩
      | false =>
        have HS := hid (show ∀ j, j < i + 1 → p j = false from fun j hj => by
          rcases Nat.lt_or_ge j i with h2 | h2
          · exact hA.out j h2
          · obtain rfl : j = i := by omega
            exact hq)
        rw [hq] at hcall
        clear hq hA
        go_wp2_with (go_at_fn f; refine hcall.mono ?_; rintro e w1 ⟨rfl, hb⟩)
        go_roundw
        case rel => exact ⟨i + 1, by go_num, by omega, below_call hL hb, HS⟩
        case measure => simp [RowKit.intOf]; omega
    · obtain rfl : i = n := by omega
      have HS := hid (idxN_miss hA.out)
      clear hat hA hp
      go_wp2_with fail
      go_ret
      exact ⟨ret_int HS.out.symm, hL⟩
/-- slices.ContainsFunc at string. -/
theorem lanyS_b (v : Value) (n : Nat) (cs : Nat → List Value) (f : Nat) (lb : Array Value) (p : Nat → Bool) (b : Bool) (V0 W : World) (hr : RowV V0 1 v n cs) (h0 : Below V0.heap.size V0 W)
    (eg : ∀ args w, (callFunc f args).run Tryz.prog w = .ok (.enter f args) w)
    (hp : ∀ i, i < n → ∀ w, Below W.heap.size W w → Calls Tryz.prog f (#[(cs i).headD undef] ++ lb) w fun e w' => e = .returned (.bool (p i)) ∧ Below w.heap.size w w') (e : Hid (b = anyN p n)) :
    Calls Tryz.prog 90 #[v, .func (.func f) #[] lb] W fun e w' => e = .returned (.bool b) ∧ Below W.heap.size W w' := by
  obtain ⟨q, c, rfl, -, -⟩ := id hr
  have hc := lidxS_b _ n cs f lb p V0 W hr h0 eg hp
  have he : b = decide (0 ≤ idxN p n) := by rw [idxN_any]; exact e.out
  clear hr hp e
  generalize idxN p n = z at hc he
  subst he
  go_enter Tryz.func90, Tryz.ntmps90
  go_wp2_with fail
  (refine hc.mono ?_; rintro e w1 ⟨rfl, hb⟩)
  go_wp2_with fail
  go_ret
  exact ⟨rfl, hb⟩

/-- slices.IndexFunc at []string. -/
theorem lidxL_b (v : Value) (n : Nat) (cs : Nat → List Value) (f : Nat) (lb : Array Value) (p : Nat → Bool) (V0 W : World) (hr : RowV V0 1 v n cs) (h0 : Below V0.heap.size V0 W)
    (eg : ∀ args w, (callFunc f args).run Tryz.prog w = .ok (.enter f args) w)
    (hp : ∀ i, i < n → ∀ w, Below W.heap.size W w → Calls Tryz.prog f (#[(cs i).headD undef] ++ lb) w fun e w' => e = .returned (.bool (p i)) ∧ Below w.heap.size w w') :
    Calls Tryz.prog 119 #[v, .func (.func f) #[] lb] W fun e w' => e = .returned (.int .i64 (idxN p n)) ∧ Below W.heap.size W w' := by
  obtain ⟨q, c, rfl, hm, hat⟩ := hr
  unfold maxLen at hm
  go_enter Tryz.func119, Tryz.ntmps119
  go_wp2_with fail
  go_loopw [8] (fun vi wr => ∃ i : Nat, vi = .int .i64 i ∧ i ≤ n ∧ Below W.heap.size W wr ∧ Hid (∀ j, j < i → p j = false)) (fun vi _ => n - (RowKit.intOf vi).toNat)
  case atStart => exact ⟨0, rfl, by omega, Below.refl _ _, hid (fun j h => by omega)⟩
  case round =>
    obtain ⟨i, rfl, hi, hL, hA⟩ := hrel
    by_cases hlt : i < n
    · have d1 : (i : Int) < n := by omega
      have d0 : (0 : Int) ≤ i := by omega
      obtain ⟨g, o, rfl, hg, hc⟩ := hat (by omega)
      obtain ⟨hcs, hln⟩ := hc i hlt
      obtain ⟨x, hx⟩ : ∃ x, cs i = [x] := List.length_eq_one_iff.1 hln
      have k1 := (hcs.below' hg (h0.trans (hL.mono h0.size))) 0 x (by rw [hx]; rfl)
      rw [Nat.mul_one, Nat.add_zero] at k1
      have hcall := hp i hlt wr hL
      rw [hx, show ([x] : List Value).headD undef = x from rfl] at hcall
      clear hat hc hcs hp hx
      cases hq : p i with
      | true =>
        have HS := hid (idxN_hit hlt hq hA.out)
        rw [hq] at hcall
        clear hq hA
        go_wp2_with (go_at_fn f; refine hcall.mono ?_; rintro e w1 ⟨rfl, hb⟩)
        go_ret
        exact ⟨ret_int HS.out.symm, below_call hL hb⟩
      | false =>
        have HS := hid (show ∀ j, j < i + 1 → p j = false from fun j hj => by
          rcases Nat.lt_or_ge j i with h2 | h2
          · exact hA.out j h2
          · obtain rfl : j = i := by omega
            exact hq)
        rw [hq] at hcall
        clear hq hA
        go_wp2_with (go_at_fn f; refine hcall.mono ?_; rintro e w1 ⟨rfl, hb⟩)
        go_roundw
        case rel => exact ⟨i + 1, by go_num, by omega, below_call hL hb, HS⟩
        case measure => simp [RowKit.intOf]; omega
    · obtain rfl : i = n := by omega
      have HS := hid (idxN_miss hA.out)
      clear hat hA hp
      go_wp2_with fail
      go_ret
      exact ⟨ret_int HS.out.symm, hL⟩
/-- slices.ContainsFunc at []string. -/
theorem lanyL_b (v : Value) (n : Nat) (cs : Nat → List Value) (f : Nat) (lb : Array Value) (p : Nat → Bool) (b : Bool) (V0 W : World) (hr : RowV V0 1 v n cs) (h0 : Below V0.heap.size V0 W)
    (eg : ∀ args w, (callFunc f args).run Tryz.prog w = .ok (.enter f args) w)
    (hp : ∀ i, i < n → ∀ w, Below W.heap.size W w → Calls Tryz.prog f (#[(cs i).headD undef] ++ lb) w fun e w' => e = .returned (.bool (p i)) ∧ Below w.heap.size w w') (e : Hid (b = anyN p n)) :
    Calls Tryz.prog 63 #[v, .func (.func f) #[] lb] W fun e w' => e = .returned (.bool b) ∧ Below W.heap.size W w' := by
  obtain ⟨q, c, rfl, -, -⟩ := id hr
  have hc := lidxL_b _ n cs f lb p V0 W hr h0 eg hp
  have he : b = decide (0 ≤ idxN p n) := by rw [idxN_any]; exact e.out
  clear hr hp e
  generalize idxN p n = z at hc he
  subst he
  go_enter Tryz.func63, Tryz.ntmps63
  go_wp2_with fail
  (refine hc.mono ?_; rintro e w1 ⟨rfl, hb⟩)
  go_wp2_with fail
  go_ret
  exact ⟨rfl, hb⟩

end Go.Proofs.YtaefioikflllcaaGreat
