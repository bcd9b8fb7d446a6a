/-
  The laws of rules: rules without their last technology.
-/
import Derived.Test.YtaefioikflllcaaGreatLawRB
import Derived.Test.YtaefioikflllcaaGreatRulLess
namespace Go.Proofs.YtaefioikflllcaaGreat
open Go.RowKit Go.Lib

set_option maxHeartbeats 8000000 in
set_option maxRecDepth 100000 in
theorem law_fewer (su sw st : Value) (r : R9) (W : World) (hR : RAt W su sw st r) (hcap : ∀ p n c, st = .slice p n c → n ≤ c) :
    Calls Tryz.prog 9 #[.agg #[su, sw, st]] W fun e w' => e = .returned (.bool true) ∧ Below W.heap.size W w' := by
  have hR0 := hid hR
  obtain ⟨p, c, rfl, hm, hat⟩ := hR.u
  obtain ⟨p1, c1, rfl, hm1, -⟩ := hR.w
  obtain ⟨p2, c2, rfl, hm2, hat2⟩ := hR.t
  have hcp := hcap _ _ _ rfl
  have hB := Blk.new W [.slice p r.us.length c, .slice p1 r.ws.length c1, .slice p2 r.ts.length c2] 28
  have hL := (Below.refl W.heap.size W).alloc (Nat.le_refl _) (.cells [.slice p r.us.length c, .slice p1 r.ws.length c1, .slice p2 r.ts.length c2].toArray 28)
  unfold maxLen at hm hm1 hm2
  obtain ⟨q, hq⟩ : ∃ q, Hid (q = fewv r) := ⟨_, hid rfl⟩
  clear hR hcap
  go_enter Tryz.func9, Tryz.ntmps9
  go_upto_region 2 with fail
  generalize W.alloc (.cells [.slice p r.us.length c, .slice p1 r.ws.length c1, .slice p2 r.ts.length c2].toArray 28) = V at *
  obtain ⟨_, _, _, _, _, _⟩ := hB.three
  go_wp2_with fail
  ((with_reducible refine (few_b _ _ _ r q _ (hR0.out.below hL) hq).mono ?_); rintro e w1 ⟨rfl, hb⟩)
  replace hB := hB.below hb
  replace hL := below_call hL hb
  clear hb
  cases q with
  | false =>
    go_wp2_with fail
    ((with_reducible refine (awake_b _).mono ?_); rintro e wz ⟨rfl, hb⟩)
    replace hL := below_call hL hb
    clear hb
    go_wp2_with fail
    go_ret
    exact ⟨rfl, hL⟩
  | true =>
    obtain ⟨hu, hw, ht, hsm, hst⟩ := fewv_small hq.out.symm
    by_cases hn : r.ts.length = 0
    · have e0 : ((r.ts.length : Int) == 0) = true := by rw [hn]; rfl
      go_wp2_with fail
      ((with_reducible refine (awake_b _).mono ?_); rintro e wz ⟨rfl, hb⟩)
      replace hL := below_call hL hb
      clear hb
      go_wp2_with fail
      go_ret
      exact ⟨rfl, hL⟩
    · have e0 : ((r.ts.length : Int) == 0) = false := beq_eq_false_iff_ne.2 (by omega)
      obtain ⟨v, hv⟩ : ∃ z, Hid (z = valv r) := ⟨_, hid rfl⟩
      obtain ⟨_, _, _, _, _, _⟩ := hB.three
      go_wp2_with fail
      ((with_reducible refine (lVal_b _ _ _ r v W _ hR0.out hL hu ht hsm hv).mono ?_); rintro e w2 ⟨rfl, hb⟩)
      replace hB := hB.below hb
      replace hL := below_call hL hb
      clear hb
      by_cases hz : v = 0
      · subst hz
        obtain ⟨_, _, _, _, _, _⟩ := hB.three
        obtain ⟨k, hk⟩ : ∃ k, r.ts.length = k + 1 := ⟨r.ts.length - 1, by omega⟩
        have hless := less_at hk hv.out.symm
        obtain ⟨nm, hnm⟩ : ∃ s, (r.ts[k]'(by omega)).nm = s := ⟨_, rfl⟩
        rw [hnm] at hless
        obtain ⟨g2, o2, rfl, hct⟩ := hat2 (by omega)
        have hlt2 : k < r.ts.length := by omega
        obtain ⟨vs, hU, hcs⟩ := (hct k hlt2).tl
        have k0 : w2.cell? ⟨g2, o2 + k * 8, none⟩ = some (.string nm) := by
          rw [← hnm]
          exact (hcs.below' (hcs.lt' hU.name) hL) 0 _ hU.name
        have i0 : (r.ts.length : Int) - 1 = (k : Int) := by omega
        have i1 : (0 : Int) ≤ k := by omega
        have i2 : (k : Int) < r.ts.length := by omega
        have wk : IntKind.i64.wrap (k : Int) = k := IntWalk.i64_in _ (by omega)
        clear hU hcs hnm
        go_wp2_with fail
        obtain ⟨u0, hu0⟩ : ∃ b, Hid (b = (r.us.any (use1 nm) || (r.ts.take k).any (use2 nm))) := ⟨_, hid rfl⟩
        have hv9 := hid (show valv ⟨r.us, r.ws, r.ts.take k⟩ = if u0 = true then 8 else 0 by rw [hu0.out]; exact hless)
        clear hless k0 i0 i1 i2 wk e0
        go_loop [5, 6] (fun vb vi => ∃ (i : Nat) (b : Bool), vb = .bool b ∧ vi = .int .i64 i ∧ i ≤ r.us.length ∧ Hid (b = (r.us.take i).any (use1 nm))) (fun _ vi => r.us.length - (RowKit.intOf vi).toNat)
        case atStart => exact ⟨0, false, rfl, rfl, by omega, hid rfl⟩
        case round =>
          obtain ⟨i, b, rfl, rfl, hi, hb⟩ := hrel
          by_cases hlt : i < r.us.length
          · have d1 : (i : Int) < r.us.length := by omega
            have d0 : (0 : Int) ≤ i := by omega
            have hn := any_take (f := use1 nm) hlt
            rw [← hb.out] at hn
            obtain ⟨g, o, rfl, hc⟩ := hat (by omega)
            obtain ⟨vs, hU, hcs⟩ := (hc i hlt).ul
            have hcs2 := hcs.below' (hcs.lt' hU.name) hL
            obtain ⟨pn, cn, pt, ct, pr, cr, hvs, s1, s2, s3⟩ := hU.lists
            have k16 : w2.cell? ⟨g, o + i * 19 + 16, none⟩ = some (.slice pn (r.us[i]'hlt).needs.length cn) := hcs2 16 _ (by rw [hvs]; rfl)
            have k18 : w2.cell? ⟨g, o + i * 19 + 18, none⟩ = some (.slice pr (r.us[i]'hlt).ress.length cr) := hcs2 18 _ (by rw [hvs]; rfl)
            obtain ⟨u, hu⟩ : ∃ u, r.us[i]'hlt = u := ⟨_, rfl⟩
            rw [hu] at k16 k18 s1 s3 hn
            replace hn := hid hn
            clear hu hc hcs hcs2 hvs s2 hU
            cases b with
            | true =>
              go_wp2_with fail
              go_round
              case rel => exact ⟨i + 1, true, rfl, by go_num, by omega, hid (by rw [hn.out]; rfl)⟩
              case measure => simp [RowKit.intOf]; omega
            | false =>
              obtain ⟨q1, hq1⟩ : ∃ z, Hid (z = hasv u.needs nm) := ⟨_, hid rfl⟩
              obtain ⟨q2, hq2⟩ : ∃ z, Hid (z = hasv u.ress nm) := ⟨_, hid rfl⟩
              go_wp2_with fail
              ((with_reducible refine (r9has_b u.needs _ nm q1 _ (s1.below hL) hq1).mono ?_); rintro e w3 ⟨rfl, rfl⟩)
              cases q1 with
              | true =>
                go_wp2_with fail
                go_round
                case rel => exact ⟨i + 1, true, rfl, by go_num, by omega, hid (by rw [hn.out]; unfold use1; rw [← hq1.out]; rfl)⟩
                case measure => simp [RowKit.intOf]; omega
              | false =>
                go_wp2_with fail
                ((with_reducible refine (r9has_b u.ress _ nm q2 _ (s3.below hL) hq2).mono ?_); rintro e w3 ⟨rfl, rfl⟩)
                go_wp2_with fail
                go_round
                case rel => exact ⟨i + 1, q2, rfl, by go_num, by omega, hid (by rw [hn.out]; unfold use1; rw [← hq1.out, ← hq2.out]; rfl)⟩
                case measure => simp [RowKit.intOf]; omega
          · obtain rfl : i = r.us.length := by omega
            have d1 : ¬ (r.us.length : Int) < r.us.length := by omega
            have hb0 : b = r.us.any (use1 nm) := by rw [hb.out, List.take_length]
            replace hb0 := hid hb0
            clear hb
            go_wp2_with fail
            clear d1
            go_loop [5, 7] (fun vb vi => ∃ (i : Nat) (c : Bool), vb = .bool c ∧ vi = .int .i64 i ∧ i ≤ k ∧ Hid (c = (b || (r.ts.take i).any (use2 nm)))) (fun _ vi => k - (RowKit.intOf vi).toNat)
            case atStart => exact ⟨0, b, rfl, rfl, by omega, hid (by simp)⟩
            case round =>
              obtain ⟨i, c3, rfl, rfl, hi, hc3⟩ := hrel
              have wk : IntKind.i64.wrap (k : Int) = k := IntWalk.i64_in _ (by omega)
              by_cases hlt : i < k
              · have d1 : (i : Int) < k := by omega
                have d0 : (0 : Int) ≤ i := by omega
                have d2 : (i : Int) < (k : Int) + 1 := by omega
                have hlt' : i < r.ts.length := by omega
                have hn := any_take (f := use2 nm) hlt'
                obtain ⟨vs, hU, hcs⟩ := (hct i hlt').tl
                have hcs2 := hcs.below' (hcs.lt' hU.name) hL
                obtain ⟨pn, cn, hvs, s1⟩ := hU.lists
                have k1 : w2.cell? ⟨g2, o2 + i * 8 + 1, none⟩ = some (.slice pn (r.ts[i]'hlt').needs.length cn) := hcs2 1 _ (by rw [hvs]; rfl)
                obtain ⟨u, hu⟩ : ∃ u, r.ts[i]'hlt' = u := ⟨_, rfl⟩
                rw [hu] at k1 s1 hn
                replace hn := hid (show (b || (r.ts.take (i + 1)).any (use2 nm)) = (c3 || use2 nm u) by rw [hn, hc3.out, Bool.or_assoc])
                clear hu hcs hcs2 hvs hU
                cases c3 with
                | true =>
                  go_wp2_with fail
                  go_round
                  case rel => exact ⟨i + 1, true, rfl, by go_num, by omega, hid (by rw [hn.out]; rfl)⟩
                  case measure => simp [RowKit.intOf]; omega
                | false =>
                  obtain ⟨q1, hq1⟩ : ∃ z, Hid (z = hasv u.needs nm) := ⟨_, hid rfl⟩
                  go_wp2_with fail
                  ((with_reducible refine (r9has_b u.needs _ nm q1 _ (s1.below hL) hq1).mono ?_); rintro e w3 ⟨rfl, rfl⟩)
                  go_wp2_with fail
                  go_round
                  case rel => exact ⟨i + 1, q1, rfl, by go_num, by omega, hid (by rw [hn.out]; unfold use2; rw [← hq1.out]; rfl)⟩
                  case measure => simp [RowKit.intOf]; omega
              · obtain rfl : i = k := by omega
                have d1 : ¬ (i : Int) < i := by omega
                have hcu : c3 = u0 := by rw [hc3.out, hb0.out, ← hu0.out]
                subst hcu
                clear hc3 hb0 hu0
                have hL0 := hL
                go_upto_region 15 with fail
                have hC := Blk.new w2 [.slice p r.us.length c, .slice p1 r.ws.length c1, .slice (some ⟨g2, o2, none⟩) r.ts.length c2] 28
                replace hB := hB.alloc (.cells [.slice p r.us.length c, .slice p1 r.ws.length c1, .slice (some ⟨g2, o2, none⟩) r.ts.length c2].toArray 28)
                replace hL := hL.alloc hL.size (.cells [.slice p r.us.length c, .slice p1 r.ws.length c1, .slice (some ⟨g2, o2, none⟩) r.ts.length c2].toArray 28)
                rw [hk] at hB hC hL hcp
                have hg3 := hL0.size
                generalize w2.alloc (.cells [.slice p r.us.length c, .slice p1 r.ws.length c1, .slice (some ⟨g2, o2, none⟩) (i + 1) c2].toArray 28) = w3 at *
                generalize w2.heap.size = g3 at *
                obtain ⟨_, _, _, _, _, _⟩ := hB.three
                obtain ⟨_, _, _, _, _, _⟩ := hC.three
                go_upto_region 16 with fail
                replace hC := hC.set 2 (.slice (some ⟨g2, o2, none⟩) i c2)
                replace hL := hL.setCell (p := ⟨g3, 2, none⟩) hg3 (.slice (some ⟨g2, o2, none⟩) i c2)
                generalize w3.setCell ⟨g3, 2, none⟩ (.slice (some ⟨g2, o2, none⟩) i c2) = w4 at *
                simp only [List.set_cons_succ, List.set_cons_zero] at hC
                have hRl : RAt W (.slice p r.us.length c) (.slice p1 r.ws.length c1) (.slice (some ⟨g2, o2, none⟩) i c2) ⟨r.us, r.ws, r.ts.take i⟩ := ⟨hR0.out.u, hR0.out.w, hR0.out.t.take (by omega)⟩
                obtain ⟨z, hz⟩ : ∃ z, Hid (z = valv ⟨r.us, r.ws, r.ts.take i⟩) := ⟨_, hid rfl⟩
                have hz9 := hz.out.trans hv9.out
                obtain ⟨_, _, _, _, _, _⟩ := hC.three
                clear hv9
                go_wp2_with fail
                ((with_reducible refine (lVal_b _ _ _ ⟨r.us, r.ws, r.ts.take i⟩ z W _ hRl hL hu (by simp; omega) hsm hz).mono ?_); rintro e w5 ⟨rfl, hb⟩)
                replace hL := below_call hL hb
                clear hb hz
                cases c3 with
                | true =>
                  obtain rfl : z = 8 := hz9
                  go_wp2_with fail
                  ((with_reducible refine (awake_b _).mono ?_); rintro e wz ⟨rfl, hb⟩)
                  replace hL := below_call hL hb
                  clear hb
                  go_wp2_with fail
                  go_ret
                  exact ⟨rfl, hL⟩
                | false =>
                  obtain rfl : z = 0 := hz9
                  go_wp2_with fail
                  ((with_reducible refine (awake_b _).mono ?_); rintro e wz ⟨rfl, hb⟩)
                  replace hL := below_call hL hb
                  clear hb
                  go_wp2_with fail
                  go_ret
                  exact ⟨rfl, hL⟩
      · have e1 : (v != 0) = true := by simpa using hz
        go_wp2_with fail
        ((with_reducible refine (awake_b _).mono ?_); rintro e wz ⟨rfl, hb⟩)
        replace hL := below_call hL hb
        clear hb
        go_wp2_with fail
        go_ret
        exact ⟨rfl, hL⟩

end Go.Proofs.YtaefioikflllcaaGreat
