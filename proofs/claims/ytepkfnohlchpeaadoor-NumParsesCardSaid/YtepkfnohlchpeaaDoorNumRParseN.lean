/-
  The reference's Parse behind a minus sign.
-/
import Derived.Test.YtepkfnohlchpeaaDoorNumRParse
namespace Go.Proofs.YtepkfnohlchpeaaDoor
open Go.RowKit Go.Lib

set_option maxHeartbeats 8000000 in
theorem rparse_neg (s t : ByteArray) (w : World) (hs0 : s.size ≤ 200) (hs : t.size ≤ 200) (hp : 0 < s.size) (h0 : (((s[0]'hp).toNat : Int) == 45) = true) (ht : s.extract 1 s.size = t) (Q : Int × Int) (hQd : Hid (Q = parseB true t.data.toList)) :
    Calls Tryd.prog 25 #[.string s] w fun e w' => e = .returned (.tuple #[.int .i64 Q.1, .int .i64 Q.2]) ∧ w = w' := by
  go_enter Tryd.func25, Tryd.ntmps25
  go_wp2
  clear ht
  go_loop [5, 6, 7] (fun vk va vl => ∃ (k : Nat) (a : Int) (lg : Bool), vk = .int .i64 k ∧ va = .int .u64 a ∧ vl = .bool lg ∧ k ≤ t.size ∧ 0 ≤ a ∧ a ≤ 36028797018963968 ∧ Hid (SatAt t.data.toList k a lg)) (fun vk _ _ => t.size - (RowKit.intOf vk).toNat)
  case atStart => exact ⟨0, 0, false, rfl, rfl, rfl, by omega, by omega, by omega, Lib.hid (sat_zero _)⟩
  case round =>
    obtain ⟨k, a, lg, rfl, rfl, rfl, hk, a0, a1, hh⟩ := hrel
    by_cases hks : k < t.size
    · cases hdg : isDig (t[k]'hks) with
      | true =>
        obtain ⟨d0, d1⟩ := (isDig_iff _).1 hdg
        by_cases ho : 36028797018963968 < a * 10 + (((t[k]'hks).toNat : Int) - 48)
        · have HN := sat_over hks hdg hh ho
          clear hh hdg
          go_wp2
          go_round
          case rel => exact ⟨k + 1, _, true, by go_num, rfl, rfl, by omega, by omega, by omega, HN⟩
          case measure => simp [RowKit.intOf]; omega
        · have HN := sat_next hks hdg hh ho
          have ho2 : a * 10 + (((t[k]'hks).toNat : Int) - 48) ≤ 36028797018963968 := by omega
          clear hh hdg ho
          go_wp2
          go_round
          case rel => exact ⟨k + 1, _, lg, by go_num, rfl, rfl, by omega, by omega, by omega, HN⟩
          case measure => simp [RowKit.intOf]; omega
      | false =>
        have hex := Lib.hid (ext_size t (k + 1) hs)
        have HD := isDig_no hdg
        rcases (show (t[k]'hks).toNat < 48 ∨ 57 < (t[k]'hks).toNat by omega) with hlo | hhi
        · clear HD
          by_cases hk0 : k = 0
          · obtain rfl := hk0
            have HW := Lib.hid (wk_zero (l := t.data.toList))
            have HQ := Lib.hid (hQd.out.trans (q_mid_no1 true hh.out.1 hks hdg HW.out))
            clear hh HW hdg
            go_wp2
            go_ret2
            exact ⟨ret_both (syn_of HQ.out), rfl⟩
          · by_cases hk1 : k ≤ 1
            · have HW := Lib.hid (wk_ok (t := t) (k := k) hk0 (by omega) (by omega) (Or.inl hk1))
              by_cases hc : (((t[k]'hks).toNat : Nat) : Int) = 46
              · cases hf : fracOK (t.extract (k + 1) t.size).data.toList with
                | false =>
                  have HQ := Lib.hid (hQd.out.trans (q_mid_no3 true hh.out.1 hks hdg hf))
                  have HP := fun w => Lib.hid (places_no (t.extract (k + 1) t.size) w hex.out hf)
                  clear hh HW hdg hf
                  go_wp2_with fail
                  refine (HP _).out.mono ?_
                  rintro e w' ⟨⟨x, rfl⟩, rfl⟩
                  clear HP
                  go_wp2_with fail
                  go_ret2
                  exact ⟨ret_both (syn_of HQ.out), rfl⟩
                | true =>
                  have HQ := Lib.hid (hQd.out.trans (q_mid_yes true hh.out.1 hks hdg HW.out hc hf))
                  have hfd := frac_dig hf
                  have hf1 := fracU_le hfd
                  obtain ⟨f, hfe⟩ : ∃ f : Int, f = (fracU (t.extract (k + 1) t.size).data.toList : Int) := ⟨_, rfl⟩
                  have hf2 : 0 ≤ f := by omega
                  have hf3 : f ≤ 255 := by omega
                  have HP := Lib.hid (⟨hf, hfe⟩ : fracOK (t.extract (k + 1) t.size).data.toList = true ∧ f = (fracU (t.extract (k + 1) t.size).data.toList : Int))
                  cases lg with
                  | false =>
                    have HU : Hid (a * 256 + f = ((val (t.data.toList.take k) * 256 + fracU (t.extract (k + 1) t.size).data.toList : Nat) : Int)) := Lib.hid (by rw [hh.out.2.1 rfl]; omega)
                    clear hh HW hdg hf hfd hf1 hfe
                    go_wp2_with fail
                    ((with_reducible refine (places_yes _ _ f hex.out HP).mono ?_); rintro e w' ⟨rfl, rfl⟩)
                    go_wp2_with fail
                    all_goals first
                      | (go_ret2; exact ⟨ret_both (neg_zero HQ.out HU.out (by assumption)), rfl⟩)
                      | (go_ret2; exact ⟨ret_both (neg_over HQ.out HU.out (by assumption)), rfl⟩)
                      | (go_ret2; exact ⟨ret_both (neg_val HQ.out HU.out (by assumption) (by omega) (by (try simp only [IntKind.wrap_u64]); (try unfold wrap64); omega)), rfl⟩)
                  | true =>
                    obtain ⟨ha, hv⟩ := hh.out.2.2 rfl
                    subst ha
                    have HV := Lib.hid hv
                    clear hh HW hdg hf hfd hf1 hfe hv
                    go_wp2_with fail
                    ((with_reducible refine (places_yes _ _ f hex.out HP).mono ?_); rintro e w' ⟨rfl, rfl⟩)
                    go_wp2_with fail
                    go_ret2
                    exact ⟨ret_both (over_of HQ.out (by have := HV.out; omega)), rfl⟩
              · have HQ := Lib.hid (hQd.out.trans (q_mid_no2 true hh.out.1 hks hdg hc))
                clear hh HW hdg
                go_wp2_with fail
                ((with_reducible refine (places_none _ _ hex.out).mono ?_); rintro e w' ⟨⟨x, bb, rfl⟩, rfl⟩)
                go_wp2_with fail
                go_ret2
                exact ⟨ret_both (syn_of HQ.out), rfl⟩
            · have hk2 : 1 < k := by omega
              have hT0 : 0 < t.size := by omega
              cases hz : (((t[0]'hT0).toNat : Int) == 48) with
              | true =>
                have HW := Lib.hid (wk_lead (t := t) (k := k) hk2 (by omega) hT0 hz)
                have HQ := Lib.hid (hQd.out.trans (q_mid_no1 true hh.out.1 hks hdg HW.out))
                clear hh HW hdg
                go_wp2
                go_ret2
                exact ⟨ret_both (syn_of HQ.out), rfl⟩
              | false =>
                have HW := Lib.hid (wk_ok (t := t) (k := k) hk0 (by omega) hT0 (Or.inr hz))
                by_cases hc : (((t[k]'hks).toNat : Nat) : Int) = 46
                · cases hf : fracOK (t.extract (k + 1) t.size).data.toList with
                  | false =>
                    have HQ := Lib.hid (hQd.out.trans (q_mid_no3 true hh.out.1 hks hdg hf))
                    have HP := fun w => Lib.hid (places_no (t.extract (k + 1) t.size) w hex.out hf)
                    clear hh HW hdg hf
                    go_wp2_with fail
                    refine (HP _).out.mono ?_
                    rintro e w' ⟨⟨x, rfl⟩, rfl⟩
                    clear HP
                    go_wp2_with fail
                    go_ret2
                    exact ⟨ret_both (syn_of HQ.out), rfl⟩
                  | true =>
                    have HQ := Lib.hid (hQd.out.trans (q_mid_yes true hh.out.1 hks hdg HW.out hc hf))
                    have hfd := frac_dig hf
                    have hf1 := fracU_le hfd
                    obtain ⟨f, hfe⟩ : ∃ f : Int, f = (fracU (t.extract (k + 1) t.size).data.toList : Int) := ⟨_, rfl⟩
                    have hf2 : 0 ≤ f := by omega
                    have hf3 : f ≤ 255 := by omega
                    have HP := Lib.hid (⟨hf, hfe⟩ : fracOK (t.extract (k + 1) t.size).data.toList = true ∧ f = (fracU (t.extract (k + 1) t.size).data.toList : Int))
                    cases lg with
                    | false =>
                      have HU : Hid (a * 256 + f = ((val (t.data.toList.take k) * 256 + fracU (t.extract (k + 1) t.size).data.toList : Nat) : Int)) := Lib.hid (by rw [hh.out.2.1 rfl]; omega)
                      clear hh HW hdg hf hfd hf1 hfe
                      go_wp2_with fail
                      ((with_reducible refine (places_yes _ _ f hex.out HP).mono ?_); rintro e w' ⟨rfl, rfl⟩)
                      go_wp2_with fail
                      all_goals first
                        | (go_ret2; exact ⟨ret_both (neg_zero HQ.out HU.out (by assumption)), rfl⟩)
                        | (go_ret2; exact ⟨ret_both (neg_over HQ.out HU.out (by assumption)), rfl⟩)
                        | (go_ret2; exact ⟨ret_both (neg_val HQ.out HU.out (by assumption) (by omega) (by (try simp only [IntKind.wrap_u64]); (try unfold wrap64); omega)), rfl⟩)
                    | true =>
                      obtain ⟨ha, hv⟩ := hh.out.2.2 rfl
                      subst ha
                      have HV := Lib.hid hv
                      clear hh HW hdg hf hfd hf1 hfe hv
                      go_wp2_with fail
                      ((with_reducible refine (places_yes _ _ f hex.out HP).mono ?_); rintro e w' ⟨rfl, rfl⟩)
                      go_wp2_with fail
                      go_ret2
                      exact ⟨ret_both (over_of HQ.out (by have := HV.out; omega)), rfl⟩
                · have HQ := Lib.hid (hQd.out.trans (q_mid_no2 true hh.out.1 hks hdg hc))
                  clear hh HW hdg
                  go_wp2_with fail
                  ((with_reducible refine (places_none _ _ hex.out).mono ?_); rintro e w' ⟨⟨x, bb, rfl⟩, rfl⟩)
                  go_wp2_with fail
                  go_ret2
                  exact ⟨ret_both (syn_of HQ.out), rfl⟩
        · have h48 : 48 ≤ (t[k]'hks).toNat := by omega
          clear HD
          by_cases hk0 : k = 0
          · obtain rfl := hk0
            have HW := Lib.hid (wk_zero (l := t.data.toList))
            have HQ := Lib.hid (hQd.out.trans (q_mid_no1 true hh.out.1 hks hdg HW.out))
            clear hh HW hdg
            go_wp2
            go_ret2
            exact ⟨ret_both (syn_of HQ.out), rfl⟩
          · by_cases hk1 : k ≤ 1
            · have HW := Lib.hid (wk_ok (t := t) (k := k) hk0 (by omega) (by omega) (Or.inl hk1))
              have HQ := Lib.hid (hQd.out.trans (q_mid_no2 true hh.out.1 hks hdg (by omega)))
              clear hh HW hdg
              go_wp2_with fail
              ((with_reducible refine (places_none _ _ hex.out).mono ?_); rintro e w' ⟨⟨x, bb, rfl⟩, rfl⟩)
              go_wp2_with fail
              go_ret2
              exact ⟨ret_both (syn_of HQ.out), rfl⟩
            · have hk2 : 1 < k := by omega
              have hT0 : 0 < t.size := by omega
              cases hz : (((t[0]'hT0).toNat : Int) == 48) with
              | true =>
                have HW := Lib.hid (wk_lead (t := t) (k := k) hk2 (by omega) hT0 hz)
                have HQ := Lib.hid (hQd.out.trans (q_mid_no1 true hh.out.1 hks hdg HW.out))
                clear hh HW hdg
                go_wp2
                go_ret2
                exact ⟨ret_both (syn_of HQ.out), rfl⟩
              | false =>
                have HW := Lib.hid (wk_ok (t := t) (k := k) hk0 (by omega) hT0 (Or.inr hz))
                have HQ := Lib.hid (hQd.out.trans (q_mid_no2 true hh.out.1 hks hdg (by omega)))
                clear hh HW hdg
                go_wp2_with fail
                ((with_reducible refine (places_none _ _ hex.out).mono ?_); rintro e w' ⟨⟨x, bb, rfl⟩, rfl⟩)
                go_wp2_with fail
                go_ret2
                exact ⟨ret_both (syn_of HQ.out), rfl⟩
    · obtain rfl : k = t.size := by omega
      by_cases hk0 : t.size = 0
      · have HW := Lib.hid (wk_zero (l := t.data.toList))
        rw [← hk0] at HW
        have hk3 : ¬ 0 < t.size := by omega
        have HQ := Lib.hid (hQd.out.trans (q_end_no true hh.out.1 HW.out))
        have hke : t = ByteArray.empty := by
          apply ByteArray.ext; apply Array.eq_empty_of_size_eq_zero; exact hk0
        clear hh HW hk3
        go_wp2
        all_goals (go_ret2; exact ⟨ret_both (syn_of HQ.out), rfl⟩)
      · have hke : ¬ t = ByteArray.empty := fun e => hk0 (by rw [e]; rfl)
        by_cases hk1 : t.size ≤ 1
        · have HW := Lib.hid (wk_ok (t := t) (k := t.size) hk0 (by omega) (by omega) (Or.inl hk1))
          have HQ := Lib.hid (hQd.out.trans (q_end_yes true hh.out.1 HW.out))
          cases lg with
          | false =>
            have HU : Hid (a * 256 = ((val (t.data.toList.take t.size) * 256 : Nat) : Int)) := Lib.hid (by rw [hh.out.2.1 rfl]; omega)
            clear hh HW
            go_wp2
            all_goals first
              | (go_ret2; exact ⟨ret_both (neg_zero HQ.out HU.out (by assumption)), rfl⟩)
              | (go_ret2; exact ⟨ret_both (neg_over HQ.out HU.out (by assumption)), rfl⟩)
              | (go_ret2; exact ⟨ret_both (neg_val HQ.out HU.out (by assumption) (by omega) (by (try simp only [IntKind.wrap_u64]); (try unfold wrap64); omega)), rfl⟩)
          | true =>
            obtain ⟨ha, hv⟩ := hh.out.2.2 rfl
            subst ha
            have HV := Lib.hid hv
            clear hh HW hv
            go_wp2
            go_ret2
            exact ⟨ret_both (over_of HQ.out (by have := HV.out; omega)), rfl⟩
        · have hk2 : 1 < t.size := by omega
          have hT0 : 0 < t.size := by omega
          cases hz : (((t[0]'hT0).toNat : Int) == 48) with
          | true =>
            have HW := Lib.hid (wk_lead (t := t) (k := t.size) hk2 (by omega) hT0 hz)
            have HQ := Lib.hid (hQd.out.trans (q_end_no true hh.out.1 HW.out))
            clear hh HW
            go_wp2
            go_ret2
            exact ⟨ret_both (syn_of HQ.out), rfl⟩
          | false =>
            have HW := Lib.hid (wk_ok (t := t) (k := t.size) hk0 (by omega) hT0 (Or.inr hz))
            have HQ := Lib.hid (hQd.out.trans (q_end_yes true hh.out.1 HW.out))
            cases lg with
            | false =>
              have HU : Hid (a * 256 = ((val (t.data.toList.take t.size) * 256 : Nat) : Int)) := Lib.hid (by rw [hh.out.2.1 rfl]; omega)
              clear hh HW
              go_wp2
              all_goals first
                | (go_ret2; exact ⟨ret_both (neg_zero HQ.out HU.out (by assumption)), rfl⟩)
                | (go_ret2; exact ⟨ret_both (neg_over HQ.out HU.out (by assumption)), rfl⟩)
                | (go_ret2; exact ⟨ret_both (neg_val HQ.out HU.out (by assumption) (by omega) (by (try simp only [IntKind.wrap_u64]); (try unfold wrap64); omega)), rfl⟩)
            | true =>
              obtain ⟨ha, hv⟩ := hh.out.2.2 rfl
              subst ha
              have HV := Lib.hid hv
              clear hh HW hv
              go_wp2
              go_ret2
              exact ⟨ret_both (over_of HQ.out (by have := HV.out; omega)), rfl⟩

end Go.Proofs.YtepkfnohlchpeaaDoor
