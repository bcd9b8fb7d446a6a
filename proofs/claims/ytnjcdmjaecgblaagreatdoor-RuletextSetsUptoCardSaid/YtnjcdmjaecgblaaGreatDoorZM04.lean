/-
  The laws of ruletext; The reference of ruletext, as the laws ask it: Set.
-/
import Derived.Test.YtnjcdmjaecgblaaGreatDoorZA17
import Derived.Test.YtnjcdmjaecgblaaGreatDoorZD01
import Derived.Test.YtnjcdmjaecgblaaGreatDoorZM03
namespace Go.Proofs.YtnjcdmjaecgblaaGreatDoor
section
open Go.RowKit Go.Lib
theorem toB_self (s : ByteArray) : toB s.toList = s := by rw [Lib.toList_data]; rfl
section
variable {E : World → Prop} (H : RtHave E)
include H
set_option maxHeartbeats 8000000 in
set_option maxRecDepth 100000 in
theorem law10_sets (su sw st : Value) (r : R9) (k : Int) (nm f x9 : ByteArray) (W : World) (hE : E W) (hrs : RSetP) (hre : RSameP) (hR : RAt W su sw st r) (hC : CapR W su st) (hI : OkR r) (hF : FewL 1048576 r) :
 Calls Tryz.prog 5 #[.agg #[su, sw, st], .agg #[.int .i64 k, .string nm, .string f], .string x9] W fun e w' => e = .returned (.bool true) ∧ Below W.heap.size W w' := by
 have hR0 := hid hR
 have hC0 := hid hC
 obtain ⟨p, c, rfl, hm, -⟩ := hR.u
 obtain ⟨p1, c1, rfl, hm1, -⟩ := hR.w
 obtain ⟨p2, c2, rfl, hm2, -⟩ := hR.t
 clear hm hm1 hm2
 have hB := (Blk.new W [.slice p r.us.length c, .slice p1 r.ws.length c1, .slice p2 r.ts.length c2] 31).alloc (.cells ([.int .i64 k, .string nm, .string f] : List Value).toArray 33)
 have hA := (Blk.new (W.alloc (.cells ([.slice p r.us.length c, .slice p1 r.ws.length c1, .slice p2 r.ts.length c2] : List Value).toArray 31)) [.int .i64 k, .string nm, .string f] 33).at (World.size_alloc _ _)
 have hL := ((Below.refl W.heap.size W).alloc (Nat.le_refl _) (.cells ([.slice p r.us.length c, .slice p1 r.ws.length c1, .slice p2 r.ts.length c2] : List Value).toArray 31)).alloc (by simp) (.cells ([.int .i64 k, .string nm, .string f] : List Value).toArray 33)
 obtain ⟨q, hq⟩ : ∃ q, Hid (q = hugev r) := ⟨_, hid rfl⟩
 obtain ⟨⟨R, er⟩, hs⟩ : ∃ x, Hid (x = setv10 r k nm f x9.toList) := ⟨_, hid rfl⟩
 clear hR hC
 go_enter Tryz.func5, Tryz.ntmps5
 go_upto_region 1 with fail
 generalize ((W.alloc (.cells ([.slice p r.us.length c, .slice p1 r.ws.length c1, .slice p2 r.ts.length c2] : List Value).toArray 31)).alloc (.cells ([.int .i64 k, .string nm, .string f] : List Value).toArray 33)) = V at *
 obtain ⟨_, _, _, _, _, _⟩ := hB.three
 obtain ⟨_, _, _, _, _, _⟩ := hA.three
 go_wp2_with fail
 ((with_reducible refine (lhuge_b _ _ _ r q _ (hR0.out.below hL) hq).mono ?_); rintro e w1 ⟨rfl, hb⟩)
 replace hB := hB.below hb
 replace hA := hA.below hb
 replace hL := below_call hL hb
 clear hb
 cases q with
 | true =>
  obtain ⟨_, _, _, _, _, _⟩ := hB.three
  obtain ⟨_, _, _, _, _, _⟩ := hA.three
  go_wp2_with fail
  ((with_reducible refine (awake10_b H _ (H.keep hE hL)).mono ?_); rintro e w2 ⟨rfl, hb⟩)
  replace hB := hB.below hb
  replace hA := hA.below hb
  replace hL := below_call hL hb
  clear hb
  go_wp2_with fail
  go_ret
  exact ⟨rfl, hL⟩
 | false =>
  by_cases hx : 2000 < x9.size
  · have z0 : decide ((2000 : Int) < x9.size) = true := decide_eq_true (by omega)
    obtain ⟨_, _, _, _, _, _⟩ := hB.three
    obtain ⟨_, _, _, _, _, _⟩ := hA.three
    go_wp2_with fail
    ((with_reducible refine (awake10_b H _ (H.keep hE hL)).mono ?_); rintro e w3 ⟨rfl, hb⟩)
    replace hB := hB.below hb
    replace hA := hA.below hb
    replace hL := below_call hL hb
    clear hb
    go_wp2_with fail
    go_ret
    exact ⟨rfl, hL⟩
  · have z0 : decide ((2000 : Int) < x9.size) = false := decide_eq_false (by omega)
    obtain ⟨lu, lw, lt, hS⟩ := small_huge hq.out.symm hF
    have hQ0 : RQ W (.slice p r.us.length c) (.slice p1 r.ws.length c1) (.slice p2 r.ts.length c2) r := ⟨hR0.out, hC0.out, ok_ints hI, fun k i f hf hi => Nat.le_trans (sh_short hI hS k i f hf hi) (by decide)⟩
    obtain ⟨hok, hsh⟩ := set_ok hs.out.symm hI hS (by rw [Lib.toList_data, rt_size]; omega)
    obtain ⟨su9, sw9, st9⟩ := set_len hs.out.symm
    have hF9 : FewL 100000 r := ⟨fun u hu => by have := hS.few.1 u hu; omega, fun t ht => by have := hS.few.2 t ht; omega⟩
    have z2 : (er != er) = false := bne_self_eq_false er
    obtain ⟨_, _, _, _, _, _⟩ := hB.three
    obtain ⟨_, _, _, _, _, _⟩ := hA.three
    go_wp2_with fail
    ((with_reducible refine (H.set _ _ _ r R er k nm f x9 _ (H.keep hE hL) (hR0.out.below hL) (by omega) (by omega) (by omega) (by omega) hF9 hs).mono ?_); rintro e w4 ⟨tu, tw, tt, rfl, hN, hNC, hb⟩)
    replace hB := hB.below hb
    replace hA := hA.below hb
    replace hL := below_call hL hb
    clear hb
    obtain ⟨a0, d0, rfl, -, -⟩ := hN.u
    obtain ⟨a1, d1, rfl, -, -⟩ := hN.w
    obtain ⟨a2, d2, rfl, -, -⟩ := hN.t
    have hQN : RQ _ _ _ _ R := ⟨hN, hNC, ok_ints hok, fun k i f hf hi => Nat.le_trans (sh_short hok hsh k i f hf hi) (by decide)⟩
    clear hN hNC
    have h7 := Blk.new w4 [.slice a0 R.us.length d0, .slice a1 R.ws.length d1, .slice a2 R.ts.length d2] 31
    have hbx := (Below.refl w4.heap.size w4).alloc (Nat.le_refl _) (.cells ([.slice a0 R.us.length d0, .slice a1 R.ws.length d1, .slice a2 R.ts.length d2] : List Value).toArray 31)
    replace hB := hB.alloc (.cells ([.slice a0 R.us.length d0, .slice a1 R.ws.length d1, .slice a2 R.ts.length d2] : List Value).toArray 31)
    replace hA := hA.alloc (.cells ([.slice a0 R.us.length d0, .slice a1 R.ws.length d1, .slice a2 R.ts.length d2] : List Value).toArray 31)
    replace hQN := hQN.below hbx
    replace hL := hL.alloc hL.size (.cells ([.slice a0 R.us.length d0, .slice a1 R.ws.length d1, .slice a2 R.ts.length d2] : List Value).toArray 31)
    obtain ⟨_, _, _, _, _, _⟩ := hB.three
    obtain ⟨_, _, _, _, _, _⟩ := hA.three
    obtain ⟨_, _, _, _, _, _⟩ := h7.three
    go_upto_region 4 with fail
    generalize w4.alloc (.cells ([.slice a0 R.us.length d0, .slice a1 R.ws.length d1, .slice a2 R.ts.length d2] : List Value).toArray 31) = V7 at *
    generalize w4.heap.size = b7 at *
    clear hbx
    obtain ⟨_, _, _, _, _, _⟩ := hB.three
    obtain ⟨_, _, _, _, _, _⟩ := hA.three
    obtain ⟨_, _, _, _, _, _⟩ := h7.three
    go_wp2_with fail
    ((with_reducible refine (hrs _ _ _ r R er k nm f x9 _ (hR0.out.below hL) (by omega) (by omega) (by omega) (by omega) hs).mono ?_); rintro e w5 ⟨tu, tw, tt, rfl, hM, hb⟩)
    replace hB := hB.below hb
    replace hA := hA.below hb
    replace h7 := h7.below hb
    replace hL := below_call hL hb
    replace hQN := hQN.below hb
    clear hb
    obtain ⟨x0, y0, rfl, -, -⟩ := hM.u
    obtain ⟨x1, y1, rfl, -, -⟩ := hM.w
    obtain ⟨x2, y2, rfl, -, -⟩ := hM.t
    have h9 := Blk.new w5 [.slice x0 R.us.length y0, .slice x1 R.ws.length y1, .slice x2 R.ts.length y2] 31
    have hbx := (Below.refl w5.heap.size w5).alloc (Nat.le_refl _) (.cells ([.slice x0 R.us.length y0, .slice x1 R.ws.length y1, .slice x2 R.ts.length y2] : List Value).toArray 31)
    replace hB := hB.alloc (.cells ([.slice x0 R.us.length y0, .slice x1 R.ws.length y1, .slice x2 R.ts.length y2] : List Value).toArray 31)
    replace hA := hA.alloc (.cells ([.slice x0 R.us.length y0, .slice x1 R.ws.length y1, .slice x2 R.ts.length y2] : List Value).toArray 31)
    replace h7 := h7.alloc (.cells ([.slice x0 R.us.length y0, .slice x1 R.ws.length y1, .slice x2 R.ts.length y2] : List Value).toArray 31)
    replace hQN := hQN.below hbx
    replace hM := hM.below hbx
    replace hL := hL.alloc hL.size (.cells ([.slice x0 R.us.length y0, .slice x1 R.ws.length y1, .slice x2 R.ts.length y2] : List Value).toArray 31)
    obtain ⟨_, _, _, _, _, _⟩ := hB.three
    obtain ⟨_, _, _, _, _, _⟩ := hA.three
    obtain ⟨_, _, _, _, _, _⟩ := h7.three
    obtain ⟨_, _, _, _, _, _⟩ := h9.three
    go_upto_region 5 with fail
    generalize w5.alloc (.cells ([.slice x0 R.us.length y0, .slice x1 R.ws.length y1, .slice x2 R.ts.length y2] : List Value).toArray 31) = V9 at *
    generalize w5.heap.size = b9 at *
    clear hbx
    obtain ⟨_, _, _, _, _, _⟩ := hB.three
    obtain ⟨_, _, _, _, _, _⟩ := hA.three
    obtain ⟨_, _, _, _, _, _⟩ := h7.three
    obtain ⟨_, _, _, _, _, _⟩ := h9.three
    have z5 : decide (R = R) = true := decide_eq_true rfl
    go_wp2_with (first | (with_reducible refine wpList_load_agg' 31 _ rfl (by with_unfolding_all rfl) ⟨b7, 0, none⟩ (by with_unfolding_all rfl) Tryz.isAgg31 Tryz.sizeOf31 [.slice a0 R.us.length d0, .slice a1 R.ws.length d1, .slice a2 R.ts.length d2] (h7.loads rfl) ?_) | (with_reducible refine wpList_load_agg' 31 _ rfl (by with_unfolding_all rfl) ⟨b9, 0, none⟩ (by with_unfolding_all rfl) Tryz.isAgg31 Tryz.sizeOf31 [.slice x0 R.us.length y0, .slice x1 R.ws.length y1, .slice x2 R.ts.length y2] (h9.loads rfl) ?_))
    ((with_reducible refine (hre _ _ _ _ _ _ R R true _ _ hQN.at_ hM (Below.refl _ _) (hid (decide_eq_true rfl).symm)).mono ?_); rintro e w6 ⟨rfl, hb⟩)
    replace hB := hB.below hb
    replace hA := hA.below hb
    replace h7 := h7.below hb
    replace h9 := h9.below hb
    replace hL := below_call hL hb
    replace hQN := hQN.below hb
    replace hM := hM.below hb
    clear hb
    obtain ⟨⟨v, b⟩, hv⟩ : ∃ x, Hid (x = getW R k nm f) := ⟨_, hid rfl⟩
    obtain ⟨_, _, _, _, _, _⟩ := hB.three
    obtain ⟨_, _, _, _, _, _⟩ := hA.three
    obtain ⟨_, _, _, _, _, _⟩ := h7.three
    obtain ⟨_, _, _, _, _, _⟩ := h9.three
    go_wp2_with fail
    ((with_reducible refine (H.get _ _ _ R k nm f v b _ (H.keep hE hL) hQN (by omega) (by omega) (by omega) hv).mono ?_); rintro e w7 ⟨rfl, hb⟩)
    replace hB := hB.below hb
    replace hA := hA.below hb
    replace h7 := h7.below hb
    replace h9 := h9.below hb
    replace hL := below_call hL hb
    replace hQN := hQN.below hb
    clear hb
    by_cases h0 : er = 0
    · subst h0
      have hg : (v, b) = (x9, true) := by
       rw [hv.out]
       unfold getW
       rw [set_get hs.out.symm]
       show (toB x9.toList, true) = _
       rw [toB_self]
      injection hg with hg1 hg2
      subst hg1 hg2
      go_wp2_with fail
      ((with_reducible refine (awake10_b H _ (H.keep hE hL)).mono ?_); rintro e w8 ⟨rfl, hb⟩)
      replace hB := hB.below hb
      replace hA := hA.below hb
      replace h7 := h7.below hb
      replace h9 := h9.below hb
      replace hL := below_call hL hb
      clear hb
      go_wp2_with fail
      go_ret
      exact ⟨rfl, hL⟩
    · have z9 : (er != 0) = true := bne_iff_ne.2 h0
      go_wp2_with fail
      ((with_reducible refine (awake10_b H _ (H.keep hE hL)).mono ?_); rintro e w8 ⟨rfl, hb⟩)
      replace hB := hB.below hb
      replace hA := hA.below hb
      replace h7 := h7.below hb
      replace h9 := h9.below hb
      replace hL := below_call hL hb
      clear hb
      go_wp2_with fail
      go_ret
      exact ⟨rfl, hL⟩
end
end
section
open Go.RowKit Go.Lib
theorem rset_have : RSetP := fun su sw st r R er k nm f s W hR hs hu hw ht hp => (r10set_b su sw st r k nm f s W W hR (Below.refl _ _) hs hu hw ht).mono fun e w' h => by
 obtain ⟨tu, tw, tt, he, h1, h3⟩ := h
 rw [← Lib.toList_data, ← hp.out] at he h1
 exact ⟨tu, tw, tt, he, h1, h3⟩
end

end Go.Proofs.YtnjcdmjaecgblaaGreatDoor
