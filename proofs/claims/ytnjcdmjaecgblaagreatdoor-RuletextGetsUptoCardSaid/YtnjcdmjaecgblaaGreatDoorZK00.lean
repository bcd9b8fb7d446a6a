/-
  What the laws of ruletext ask of the functions; What the reference of ruletext answers: Get; The laws of ruletext; The reference of ruletext, as the laws ask it: Get.
-/
import Derived.Test.YtnjcdmjaecgblaaGreatDoorZA17
import Derived.Test.YtnjcdmjaecgblaaGreatDoorZD01
import Derived.Test.YtnjcdmjaecgblaaGreatDoorZH00
namespace Go.Proofs.YtnjcdmjaecgblaaGreatDoor
section
open Go.RowKit Go.Lib
abbrev RGetP : Prop := ∀ (su sw st : Value) (r : R9) (k : Int) (nm f v : ByteArray) (b : Bool) (W : World), RQ W su sw st r → Hid ((v, b) = getW r k nm f) →
 Calls Tryz.prog 15 #[.agg #[su, sw, st], .int .i64 k, .string nm, .string f] W fun e w' => e = .returned (.tuple #[.string v, .bool b]) ∧ Below W.heap.size W w'
end
section
open Go.RowKit Go.Lib
set_option maxHeartbeats 8000000 in
set_option maxRecDepth 100000 in
theorem r10get_b (su sw st : Value) (r : R9) (k : Int) (nm f : ByteArray) (V0 W : World) (hR : RAt V0 su sw st r) (h0 : Below V0.heap.size V0 W) (hI : IntsV r) (hS9 : ShortV 4000000 r) :
 Calls Tryz.prog 15 #[.agg #[su, sw, st], .int .i64 k, .string nm, .string f] W (GetPost r k nm f W) := by
 have hR0 := hid hR
 obtain ⟨p, c, rfl, hm, -⟩ := hR.u
 obtain ⟨p1, c1, rfl, hm1, -⟩ := hR.w
 obtain ⟨p2, c2, rfl, hm2, -⟩ := hR.t
 have hB := Blk.new W [.slice p r.us.length c, .slice p1 r.ws.length c1, .slice p2 r.ts.length c2] 31
 have hL := (Below.refl W.heap.size W).alloc (Nat.le_refl _) (.cells [.slice p r.us.length c, .slice p1 r.ws.length c1, .slice p2 r.ts.length c2].toArray 31)
 clear hR hm hm1 hm2
 obtain ⟨t, ht⟩ : ∃ t, Hid (t = typev k f) := ⟨_, hid rfl⟩
 obtain ⟨n, hn⟩ : ∃ n, Hid (n = findv (namesK r k) nm) := ⟨_, hid rfl⟩
 have hG := hid (show getv10 r k nm f = if t = 0 then none else if n < 0 then none else some (textL t (valueK r k n.toNat f)) by unfold getv10; rw [ht.out, hn.out])
 go_enter Tryz.func15, Tryz.ntmps15
 go_upto_region 1 with fail
 generalize W.alloc (.cells [.slice p r.us.length c, .slice p1 r.ws.length c1, .slice p2 r.ts.length c2].toArray 31) = V at *
 have hmx : Tryz.prog.follows .mixedOrders = true := by kernel_rfl
 refine wp_region_held (S := fun w' => Below V.heap.size V w') hmx ?_
 show wpAnyH _ _ _ _ _ _ _ _ V.drew
 have hS0 := (Below.refl V.heap.size V).drew
 refine reg_tk (i := 0) (v := .int .i64 k) (some 12) rfl (fun w' hS => by skip; go_simp) hS0 ?_
 simp only [Act.put, List.setIfInBounds_toArray, List.set_cons_zero, List.set_cons_succ]
 refine reg_tk (i := 1) (v := .string f) (some 13) rfl (fun w' hS => by skip; go_simp) hS0 ?_
 simp only [Act.put, List.setIfInBounds_toArray, List.set_cons_zero, List.set_cons_succ]
 refine reg_tk (i := 3) (v := .agg #[.slice p r.us.length c, .slice p1 r.ws.length c1, .slice p2 r.ts.length c2]) (some 15) rfl (fun w' hS => by (obtain ⟨_, _, _, _, _, _⟩ := (hB.below hS).three); go_simp) hS0 ?_
 simp only [Act.put, List.setIfInBounds_toArray, List.set_cons_zero, List.set_cons_succ]
 refine reg_tk (i := 4) (v := .int .i64 k) (some 16) rfl (fun w' hS => by skip; go_simp) hS0 ?_
 simp only [Act.put, List.setIfInBounds_toArray, List.set_cons_zero, List.set_cons_succ]
 refine reg_tk (i := 5) (v := .string nm) (some 17) rfl (fun w' hS => by skip; go_simp) hS0 ?_
 simp only [Act.put, List.setIfInBounds_toArray, List.set_cons_zero, List.set_cons_succ]
 refine held_one (i := 2) (by kernel_rfl) rfl (fun K hQ => ?_)
 go_simp
 (with_reducible refine (r10type_b k f t _ ht).mono ?_)
 rintro e w1 ⟨rfl, hb⟩
 have hS1 := below_call hS0 hb
 clear hb
 refine hQ.out _ _ hS1 ?_
 clear hQ
 try simp only [Act.put, List.setIfInBounds_toArray, List.set_cons_zero, List.set_cons_succ]
 refine held_one (i := 6) (by kernel_rfl) rfl (fun K hQ => ?_)
 go_simp
 (with_reducible refine (r10find_b _ _ _ r k nm n V0 _ hR0.out (h0.trans ((hL.trans (hS1.mono hL.size)).mono h0.size)) hn).mono ?_)
 rintro e w2 ⟨rfl, hb⟩
 have hS2 := below_call hS1 hb
 clear hb
 refine hQ.out _ _ hS2 ?_
 clear hQ
 try simp only [Act.put, List.setIfInBounds_toArray, List.set_cons_zero, List.set_cons_succ]
 refine reg_tk (i := 7) (v := .int .i64 t) (some 10) rfl (fun w' hS => by skip; go_simp) hS2 ?_
 simp only [Act.put, List.setIfInBounds_toArray, List.set_cons_zero, List.set_cons_succ]
 refine reg_tk (i := 8) (v := .int .i64 n) (some 11) rfl (fun w' hS => by skip; go_simp) hS2 ?_
 simp only [Act.put, List.setIfInBounds_toArray, List.set_cons_zero, List.set_cons_succ]
 refine wpAnyH_done (by kernel_rfl) ?_ _
 show Exit.then _ _ Exit.normal _ _
 replace hB := hB.below hS2
 replace hL := hL.trans (hS2.mono hL.size)
 clear hS0 hS1 hS2
 by_cases h1 : t = 0
 · subst h1
   have hg := hid (show getv10 r k nm f = none by rw [hG.out, if_pos rfl])
   go_wp2_with fail
   first | go_ret2 | go_ret
   exact .inl ⟨hg.out, rfl, hL⟩
 have z1 : (t == 0) = false := beq_eq_false_iff_ne.2 h1
 by_cases h2 : n < 0
 · have z2 : decide (n < 0) = true := decide_eq_true h2
   have hg := hid (show getv10 r k nm f = none by rw [hG.out, if_neg h1, if_pos h2])
   go_wp2_with fail
   first | go_ret2 | go_ret
   exact .inl ⟨hg.out, rfl, hL⟩
 have z2 : decide (n < 0) = false := decide_eq_false h2
 have hfk := type_of (show ¬ typev k f = 0 by rw [← ht.out]; exact h1)
 have hlt : n.toNat < (namesK r k).length := by rw [hn.out]; exact findv_at (by rw [← hn.out]; exact h2)
 have hg := hid (show getv10 r k nm f = some (textL t (valueK r k n.toNat f)) by rw [hG.out, if_neg h1, if_neg h2])
 have hi := hI k n.toNat f hfk.1 hlt
 have hz := hS9 k n.toNat f hfk.1 hlt
 rw [← ht.out] at hz
 obtain ⟨i, rfl⟩ : ∃ i : Nat, n = i := ⟨n.toNat, by omega⟩
 rw [Int.toNat_natCast] at hlt hg hi hz
 have c1 := fun (W1 : World) (h : Below V0.heap.size V0 W1) => r10value_b _ _ _ r k i f V0 W1 hR0.out h hfk.1 hlt
 generalize valueK r k i f = v at *
 replace hi := hid hi
 replace hg := hid hg.out
 clear hG hn ht hfk hlt hI hS9
 obtain ⟨_, _, _, _, _, _⟩ := hB.three
 go_wp2_with fail
 ((with_reducible refine (c1 _ (h0.trans (hL.mono h0.size))).mono ?_); rintro e w3 ⟨vs, rfl, hv, hb⟩)
 replace hL := below_call hL hb
 clear hb c1
 go_wp2_with fail
 ((with_reducible refine (r10text_b t v vs V0 _ hv (h0.trans (hL.mono h0.size)) (fun _ => int_bd hi.out) (by omega)).mono ?_); rintro e w4 ⟨rfl, hb⟩)
 replace hL := below_call hL hb
 clear hb
 go_wp2_with fail
 first | go_ret2 | go_ret
 exact .inr ⟨_, hg.out, rfl, hL⟩
end
section
open Go.RowKit Go.Lib
section
variable {E : World → Prop} (H : RtHave E)
include H
set_option maxHeartbeats 8000000 in
set_option maxRecDepth 100000 in
theorem law10_gets (su sw st : Value) (r : R9) (k : Int) (nm f : ByteArray) (W : World) (hE : E W) (hrg : RGetP) (hR : RAt W su sw st r) (hC : CapR W su st) (hI : OkR r) (hF : FewL 1048576 r) :
 Calls Tryz.prog 4 #[.agg #[su, sw, st], .agg #[.int .i64 k, .string nm, .string f]] W fun e w' => e = .returned (.bool true) ∧ Below W.heap.size W w' := by
 have hR0 := hid hR
 have hC0 := hid hC
 obtain ⟨p, c, rfl, hm, -⟩ := hR.u
 obtain ⟨p1, c1, rfl, hm1, -⟩ := hR.w
 obtain ⟨p2, c2, rfl, hm2, -⟩ := hR.t
 clear hm hm1 hm2
 have hB := (Blk.new W [.slice p r.us.length c, .slice p1 r.ws.length c1, .slice p2 r.ts.length c2] 31).alloc (.cells ([.int .i64 k, .string nm, .string f] : List Value).toArray 33)
 have hA := (Blk.new (W.alloc (.cells ([.slice p r.us.length c, .slice p1 r.ws.length c1, .slice p2 r.ts.length c2] : List Value).toArray 31)) [.int .i64 k, .string nm, .string f] 33).at (World.size_alloc _ _)
 have hL := ((Below.refl W.heap.size W).alloc (Nat.le_refl _) (.cells ([.slice p r.us.length c, .slice p1 r.ws.length c1, .slice p2 r.ts.length c2] : List Value).toArray 31)).alloc (by simp) (.cells ([.int .i64 k, .string nm, .string f] : List Value).toArray 33)
 obtain ⟨q, hq⟩ : ∃ q, Hid (q = hugev r) := ⟨_, hid rfl⟩
 obtain ⟨⟨v, b⟩, hv⟩ : ∃ x, Hid (x = getW r k nm f) := ⟨_, hid rfl⟩
 clear hR hC
 go_enter Tryz.func4, Tryz.ntmps4
 go_upto_region 1 with fail
 generalize ((W.alloc (.cells ([.slice p r.us.length c, .slice p1 r.ws.length c1, .slice p2 r.ts.length c2] : List Value).toArray 31)).alloc (.cells ([.int .i64 k, .string nm, .string f] : List Value).toArray 33)) = V at *
 obtain ⟨_, _, _, _, _, _⟩ := hB.three
 obtain ⟨_, _, _, _, _, _⟩ := hA.three
 go_wp2_with fail
 ((with_reducible refine (lhuge_b _ _ _ r q _ (hR0.out.below hL) hq).mono ?_); rintro e w1 ⟨rfl, hb⟩)
 replace hB := hB.below hb
 replace hA := hA.below hb
 replace hL := below_call hL hb
 clear hb
 cases q with
 | true =>
  obtain ⟨_, _, _, _, _, _⟩ := hB.three
  obtain ⟨_, _, _, _, _, _⟩ := hA.three
  go_wp2_with fail
  ((with_reducible refine (awake10_b H _ (H.keep hE hL)).mono ?_); rintro e w2 ⟨rfl, hb⟩)
  replace hB := hB.below hb
  replace hA := hA.below hb
  replace hL := below_call hL hb
  clear hb
  go_wp2_with fail
  go_ret
  exact ⟨rfl, hL⟩
 | false =>
  obtain ⟨lu, lw, lt, hS⟩ := small_huge hq.out.symm hF
  have hQ0 : RQ W (.slice p r.us.length c) (.slice p1 r.ws.length c1) (.slice p2 r.ts.length c2) r := ⟨hR0.out, hC0.out, ok_ints hI, fun k i f hf hi => Nat.le_trans (sh_short hI hS k i f hf hi) (by decide)⟩
  obtain ⟨_, _, _, _, _, _⟩ := hB.three
  obtain ⟨_, _, _, _, _, _⟩ := hA.three
  go_wp2_with fail
  ((with_reducible refine (H.get _ _ _ r k nm f v b _ (H.keep hE hL) (hQ0.below hL) (by omega) (by omega) (by omega) hv).mono ?_); rintro e w3 ⟨rfl, hb⟩)
  replace hB := hB.below hb
  replace hA := hA.below hb
  replace hL := below_call hL hb
  clear hb
  obtain ⟨_, _, _, _, _, _⟩ := hB.three
  obtain ⟨_, _, _, _, _, _⟩ := hA.three
  go_wp2_with fail
  ((with_reducible refine (hrg _ _ _ r k nm f v b _ (hQ0.below hL) hv).mono ?_); rintro e w4 ⟨rfl, hb⟩)
  replace hB := hB.below hb
  replace hA := hA.below hb
  replace hL := below_call hL hb
  clear hb
  go_wp2_with fail
  ((with_reducible refine (awake10_b H _ (H.keep hE hL)).mono ?_); rintro e w5 ⟨rfl, hb⟩)
  replace hB := hB.below hb
  replace hA := hA.below hb
  replace hL := below_call hL hb
  clear hb
  go_wp2_with fail
  go_ret
  exact ⟨rfl, hL⟩
end
end
section
open Go.RowKit Go.Lib
theorem get_postR {r : R9} {k : Int} {nm f v : ByteArray} {b : Bool} {W w' : World} {e : Ending} (hv : Hid ((v, b) = getW r k nm f)) (h : GetPost r k nm f W e w') : e = .returned (.tuple #[.string v, .bool b]) ∧ Below W.heap.size W w' := by
 have h1 := hv.out
 unfold getW at h1
 rcases h with ⟨h2, rfl, hb⟩ | ⟨t, h2, rfl, hb⟩
 · rw [h2] at h1
   injection h1 with h1 h3
   subst h1 h3
   exact ⟨rfl, hb⟩
 · rw [h2] at h1
   injection h1 with h1 h3
   subst h1 h3
   exact ⟨rfl, hb⟩
theorem rget_have : RGetP := fun su sw st r k nm f _ _ W hQ hv => (r10get_b su sw st r k nm f W W hQ.at_ (Below.refl _ _) hQ.ints hQ.short).mono fun _ _ h => get_postR hv h
end

end Go.Proofs.YtnjcdmjaecgblaaGreatDoor
