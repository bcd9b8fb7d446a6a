/-
  What the reference's Parse answers: the same int or error number.
-/
import Derived.Test.YtepkfnohlchpeaaDoorNumParseG
namespace Go.Proofs.YtepkfnohlchpeaaDoor
open Go.RowKit Go.Lib

/-- The state behind k digits: the number so far, or that it is too large. -/
def SatAt (l : List UInt8) (k : Nat) (a : Int) (lg : Bool) : Prop := (l.take k).all isDig = true ∧ (lg = false → a = (val (l.take k) : Int)) ∧ (lg = true → a = 36028797018963968 ∧ 36028797018963968 < val (l.take k))
theorem sat_zero (l : List UInt8) : SatAt l 0 0 false := ⟨rfl, fun _ => by simp [val, valAt], fun h => by simp at h⟩
theorem sat_over {s : ByteArray} {k : Nat} {a : Int} {lg : Bool} (hk : k < s.size) (hd : isDig (s[k]'hk) = true) (h : Hid (SatAt s.data.toList k a lg)) (ho : 36028797018963968 < a * 10 + (((s[k]'hk).toNat : Int) - 48)) : Hid (SatAt s.data.toList (k + 1) 36028797018963968 true) := by
  obtain ⟨h1, h2, h3⟩ := h.out
  have hd2 := (isDig_iff _).1 hd
  refine Lib.hid ⟨take_all_next hk h1 hd, fun e => by simp at e, fun _ => ⟨rfl, ?_⟩⟩
  rw [take_snoc s k hk, val_snoc]
  cases lg with
  | false => have := h2 rfl; omega
  | true => have := h3 rfl; omega
theorem sat_next {s : ByteArray} {k : Nat} {a : Int} {lg : Bool} (hk : k < s.size) (hd : isDig (s[k]'hk) = true) (h : Hid (SatAt s.data.toList k a lg)) (ho : ¬ 36028797018963968 < a * 10 + (((s[k]'hk).toNat : Int) - 48)) : Hid (SatAt s.data.toList (k + 1) (a * 10 + (((s[k]'hk).toNat : Int) - 48)) lg) := by
  obtain ⟨h1, h2, h3⟩ := h.out
  have hd2 := (isDig_iff _).1 hd
  refine Lib.hid ⟨take_all_next hk h1 hd, fun e => ?_, fun e => ?_⟩
  · rw [take_snoc s k hk, val_snoc]; have := h2 e; omega
  · have := h3 e; omega

theorem take_while {l : List UInt8} {k : Nat} (h : (l.take k).all isDig = true) (hk : k < l.length) (hn : isDig (l[k]'hk) = false) : l.takeWhile isDig = l.take k ∧ l.dropWhile isDig = l[k]'hk :: l.drop (k + 1) := by
  have e : l = l.take k ++ (l[k]'hk :: l.drop (k + 1)) := by rw [← List.drop_eq_getElem_cons hk, List.take_append_drop]
  rw [List.all_eq_true] at h
  refine ⟨?_, ?_⟩
  · conv => lhs; rw [e]
    rw [List.takeWhile_append_of_pos h, List.takeWhile_cons, hn]; simp
  · conv => lhs; rw [e]
    rw [List.dropWhile_append_of_pos h, List.dropWhile_cons, hn]; simp
theorem take_while_all {l : List UInt8} (h : l.all isDig = true) : l.takeWhile isDig = l ∧ l.dropWhile isDig = [] := by
  rw [List.all_eq_true] at h
  have e1 := List.takeWhile_append_of_pos (p := isDig) (l₁ := l) (l₂ := []) h
  have e2 := List.dropWhile_append_of_pos (p := isDig) (l₁ := l) (l₂ := []) h
  simp at e1 e2
  exact ⟨e1, e2⟩

/-- The answer at a text whose digits end at its end. -/
theorem form_end {s : ByteArray} (neg : Bool) (h : (s.data.toList.take s.size).all isDig = true) : parseB neg s.data.toList = if wholeOK (s.data.toList.take s.size) then fin neg (val (s.data.toList.take s.size) * 256) else (0, 5) := by
  have e : s.data.toList.take s.size = s.data.toList := List.take_of_length_le (by rw [← Lib.size_eq]; omega)
  rw [e] at h ⊢
  obtain ⟨e1, e2⟩ := take_while_all h
  unfold parseB
  rw [e2, e1]
/-- .. and where another byte stands behind the digits. -/
theorem form_mid {s : ByteArray} {k : Nat} (neg : Bool) (h : (s.data.toList.take k).all isDig = true) (hk : k < s.size) (hn : isDig (s[k]'hk) = false) :
    parseB neg s.data.toList = if wholeOK (s.data.toList.take k) && s[k]'hk == 46 && fracOK (s.extract (k + 1) s.size).data.toList then fin neg (val (s.data.toList.take k) * 256 + fracU (s.extract (k + 1) s.size).data.toList) else (0, 5) := by
  obtain ⟨e1, e2⟩ := take_while h (by rw [← Lib.size_eq]; exact hk) hn
  have e3 : (s.extract (k + 1) s.size).data.toList = s.data.toList.drop (k + 1) := by
    rw [ByteArray.data_extract, Array.toList_extract, List.extract_eq_take_drop]
    exact List.take_of_length_le (by rw [List.length_drop, ← Lib.size_eq]; omega)
  unfold parseB
  rw [e2, e1, e3]
  rfl

theorem ext_size (s : ByteArray) (k : Nat) (hs : s.size ≤ 200) : (s.extract k s.size).size ≤ 200 := by rw [ByteArray.size_extract]; omega

theorem wk_zero {l : List UInt8} : wholeOK (l.take 0) = false := rfl
theorem wk_lead {t : ByteArray} {k : Nat} (h1 : 1 < k) (hk : k ≤ t.size) (h0 : 0 < t.size) (hz : (((t[0]'h0).toNat : Int) == 48) = true) : wholeOK (t.data.toList.take k) = false := by
  rw [beq48] at hz
  unfold wholeOK
  rw [List.head?_take, if_neg (by omega), head_at h0, List.length_take, ← Lib.size_eq, Nat.min_eq_left hk, decide_eq_true h1, eq_of_beq hz]
  simp
theorem wk_ok {t : ByteArray} {k : Nat} (h : ¬ k = 0) (hk : k ≤ t.size) (h0 : 0 < t.size) (hz : k ≤ 1 ∨ (((t[0]'h0).toNat : Int) == 48) = false) : wholeOK (t.data.toList.take k) = true := by
  have hne : (t.data.toList.take k).isEmpty = false := by
    rw [List.isEmpty_eq_false_iff]
    intro e
    have := congrArg List.length e
    rw [List.length_take, ← Lib.size_eq, Nat.min_eq_left hk] at this
    exact h this
  unfold wholeOK
  rw [hne, List.length_take, ← Lib.size_eq, Nat.min_eq_left hk]
  rcases hz with hz | hz
  · rw [decide_eq_false (show ¬ 1 < k by omega)]; rfl
  · rw [beq48] at hz
    rw [List.head?_take, if_neg h, head_at h0]
    have h3 : (some (t[0]'h0) == some (48 : UInt8)) = false := by simpa using hz
    rw [h3, Bool.and_false]; rfl

/-- What the answer is, where the digits end. -/
theorem q_end_no {t : ByteArray} (neg : Bool) (hd : (t.data.toList.take t.size).all isDig = true) (h : wholeOK (t.data.toList.take t.size) = false) : parseB neg t.data.toList = (0, 5) := by rw [form_end neg hd, h]; rfl
theorem q_end_yes {t : ByteArray} (neg : Bool) (hd : (t.data.toList.take t.size).all isDig = true) (h : wholeOK (t.data.toList.take t.size) = true) : parseB neg t.data.toList = fin neg (val (t.data.toList.take t.size) * 256) := by rw [form_end neg hd, h]; rfl
theorem q_mid_no1 {t : ByteArray} {k : Nat} (neg : Bool) (hd : (t.data.toList.take k).all isDig = true) (hk : k < t.size) (hn : isDig (t[k]'hk) = false) (h : wholeOK (t.data.toList.take k) = false) : parseB neg t.data.toList = (0, 5) := by rw [form_mid neg hd hk hn, h]; rfl
theorem q_mid_no2 {t : ByteArray} {k : Nat} (neg : Bool) (hd : (t.data.toList.take k).all isDig = true) (hk : k < t.size) (hn : isDig (t[k]'hk) = false) (h : ¬ (((t[k]'hk).toNat : Nat) : Int) = 46) : parseB neg t.data.toList = (0, 5) := by
  have e : (t[k]'hk == 46) = false := by
    rw [beq_eq_false_iff_ne]
    intro e; rw [e] at h; exact h rfl
  rw [form_mid neg hd hk hn, e]; simp
theorem q_mid_no3 {t : ByteArray} {k : Nat} (neg : Bool) (hd : (t.data.toList.take k).all isDig = true) (hk : k < t.size) (hn : isDig (t[k]'hk) = false) (h : fracOK (t.extract (k + 1) t.size).data.toList = false) : parseB neg t.data.toList = (0, 5) := by
  rw [form_mid neg hd hk hn, h]; simp
theorem q_mid_yes {t : ByteArray} {k : Nat} (neg : Bool) (hd : (t.data.toList.take k).all isDig = true) (hk : k < t.size) (hn : isDig (t[k]'hk) = false) (hw : wholeOK (t.data.toList.take k) = true) (hc : (((t[k]'hk).toNat : Nat) : Int) = 46) (h : fracOK (t.extract (k + 1) t.size).data.toList = true) :
    parseB neg t.data.toList = fin neg (val (t.data.toList.take k) * 256 + fracU (t.extract (k + 1) t.size).data.toList) := by
  have e : (t[k]'hk == 46) = true := by
    rw [beq_iff_eq]
    exact UInt8.toNat_inj.1 (by show (t[k]'hk).toNat = 46; omega)
  rw [form_mid neg hd hk hn, h, hw, e]; rfl

theorem syn_of {Q : Int × Int} (h : Q = (0, 5)) : (0 : Int) = Q.1 ∧ (5 : Int) = Q.2 := by rw [h]; exact ⟨rfl, rfl⟩
theorem over_of {Q : Int × Int} {neg : Bool} {U : Nat} (h : Q = fin neg U) (hU : 9223372036854775808 < U) : (0 : Int) = Q.1 ∧ (3 : Int) = Q.2 := by rw [h, fin_over hU]; exact ⟨rfl, rfl⟩
theorem pos_ways {Q : Int × Int} {U : Nat} {u : Int} (h : Q = fin false U) (hu : u = (U : Int)) :
    (u = 9223372036854775808 → (0 : Int) = Q.1 ∧ (3 : Int) = Q.2) ∧ (¬ u = 9223372036854775808 → u ≤ 9223372036854775808 → wrap64 u = Q.1 ∧ (0 : Int) = Q.2) ∧ (9223372036854775808 < u → (0 : Int) = Q.1 ∧ (3 : Int) = Q.2) := by
  rw [h]
  refine ⟨fun h1 => ?_, fun h1 h2 => ?_, fun h1 => ?_⟩
  · unfold fin; rw [if_neg (by decide), if_neg (by omega)]; exact ⟨rfl, rfl⟩
  · unfold fin; rw [if_neg (by decide), if_pos (by omega)]; unfold wrap64; exact ⟨by show _ = (U : Int); omega, rfl⟩
  · rw [fin_over (by omega)]; exact ⟨rfl, rfl⟩
theorem neg_ways {Q : Int × Int} {U : Nat} {u : Int} (h : Q = fin true U) (hu : u = (U : Int)) :
    (u = 0 → (0 : Int) = Q.1 ∧ (5 : Int) = Q.2) ∧ (¬ u = 0 → u ≤ 9223372036854775808 → wrap64 (wrap64 (-wrap64 (IntKind.u64.wrap (u - 1))) - 1) = Q.1 ∧ (0 : Int) = Q.2) ∧ (9223372036854775808 < u → (0 : Int) = Q.1 ∧ (3 : Int) = Q.2) := by
  rw [h]
  refine ⟨fun h1 => ?_, fun h1 h2 => ?_, fun h1 => ?_⟩
  · unfold fin; rw [if_pos rfl, if_pos (by omega)]; exact ⟨rfl, rfl⟩
  · unfold fin; rw [if_pos rfl, if_neg (by omega), if_pos (by omega), IntKind.wrap_u64]; unfold wrap64; exact ⟨by show _ = -(U : Int); omega, rfl⟩
  · rw [fin_over (by omega)]; exact ⟨rfl, rfl⟩

theorem pos_val {Q : Int × Int} {U : Nat} {u v : Int} (h : Q = fin false U) (hu : u = (U : Int)) (h1 : ¬ u = 9223372036854775808) (h2 : u ≤ 9223372036854775808) (hv : v = u) : v = Q.1 ∧ (0 : Int) = Q.2 := by
  rw [h]; unfold fin; rw [if_neg (by decide), if_pos (by omega)]; exact ⟨by show _ = (U : Int); omega, rfl⟩
theorem neg_val {Q : Int × Int} {U : Nat} {u v : Int} (h : Q = fin true U) (hu : u = (U : Int)) (h1 : (u == 0) = false) (h2 : u ≤ 9223372036854775808) (hv : v = -u) : v = Q.1 ∧ (0 : Int) = Q.2 := by
  have h1' : ¬ u = 0 := by simpa using h1
  rw [h]; unfold fin; rw [if_pos rfl, if_neg (by omega), if_pos (by omega)]; exact ⟨by show _ = -(U : Int); omega, rfl⟩
theorem neg_zero {Q : Int × Int} {U : Nat} {u : Int} (h : Q = fin true U) (hu : u = (U : Int)) (h1 : (u == 0) = true) : (0 : Int) = Q.1 ∧ (5 : Int) = Q.2 := (neg_ways h hu).1 (by simpa using h1)
theorem neg_over {Q : Int × Int} {U : Nat} {u : Int} (h : Q = fin true U) (hu : u = (U : Int)) (h1 : 9223372036854775808 < u) : (0 : Int) = Q.1 ∧ (3 : Int) = Q.2 := (neg_ways h hu).2.2 h1

theorem places_no (p : ByteArray) (w : World) (hs : p.size ≤ 200) (h : fracOK p.data.toList = false) :
    Calls Tryd.prog 38 #[.string p] w fun e w' => (∃ x : Int, e = .returned (.tuple #[.int .u64 x, .bool false])) ∧ w = w' := by
  refine (rplaces_any p w hs).mono ?_
  rintro e w' ⟨x, rfl, _, _, _, rfl⟩
  exact ⟨⟨x, by rw [h]⟩, rfl⟩
theorem places_yes (p : ByteArray) (w : World) (f : Int) (hs : p.size ≤ 200) (h : Hid (fracOK p.data.toList = true ∧ f = (fracU p.data.toList : Int))) :
    Calls Tryd.prog 38 #[.string p] w fun e w' => e = .returned (.tuple #[.int .u64 f, .bool true]) ∧ w = w' := by
  refine (rplaces_any p w hs).mono ?_
  rintro e w' ⟨x, rfl, hx, _, _, rfl⟩
  exact ⟨by rw [h.out.1, hx h.out.1, h.out.2], rfl⟩
theorem places_none (p : ByteArray) (w : World) (hs : p.size ≤ 200) :
    Calls Tryd.prog 38 #[.string p] w fun e w' => (∃ (x : Int) (b : Bool), e = .returned (.tuple #[.int .u64 x, .bool b])) ∧ w = w' := by
  refine (rplaces_any p w hs).mono ?_
  rintro e w' ⟨x, rfl, _, _, _, rfl⟩
  exact ⟨⟨x, _, rfl⟩, rfl⟩

theorem frac_dig {p : List UInt8} (h : fracOK p = true) : p.all isDig = true := by
  rw [fracOK_eq, Bool.and_eq_true, Bool.and_eq_true] at h
  exact h.1.2

set_option maxHeartbeats 8000000 in
theorem rparse_pos (s : ByteArray) (w : World) (hs : s.size ≤ 200) (hp : 0 < s.size) (h0 : (((s[0]'hp).toNat : Int) == 45) = false) (Q : Int × Int) (hQd : Hid (Q = parseB false s.data.toList)) :
    Calls Tryd.prog 25 #[.string s] w fun e w' => e = .returned (.tuple #[.int .i64 Q.1, .int .i64 Q.2]) ∧ w = w' := by
  go_enter Tryd.func25, Tryd.ntmps25
  go_wp2
  go_loop [5, 6, 7] (fun vk va vl => ∃ (k : Nat) (a : Int) (lg : Bool), vk = .int .i64 k ∧ va = .int .u64 a ∧ vl = .bool lg ∧ k ≤ s.size ∧ 0 ≤ a ∧ a ≤ 36028797018963968 ∧ Hid (SatAt s.data.toList k a lg)) (fun vk _ _ => s.size - (RowKit.intOf vk).toNat)
  case atStart => exact ⟨0, 0, false, rfl, rfl, rfl, by omega, by omega, by omega, Lib.hid (sat_zero _)⟩
  case round =>
    obtain ⟨k, a, lg, rfl, rfl, rfl, hk, a0, a1, hh⟩ := hrel
    by_cases hks : k < s.size
    · cases hdg : isDig (s[k]'hks) with
      | true =>
        obtain ⟨d0, d1⟩ := (isDig_iff _).1 hdg
        by_cases ho : 36028797018963968 < a * 10 + (((s[k]'hks).toNat : Int) - 48)
        · have HN := sat_over hks hdg hh ho
          clear hh hdg
          go_wp2
          go_round
          case rel => exact ⟨k + 1, _, true, by go_num, rfl, rfl, by omega, by omega, by omega, HN⟩
          case measure => simp [RowKit.intOf]; omega
        · have HN := sat_next hks hdg hh ho
          have ho2 : a * 10 + (((s[k]'hks).toNat : Int) - 48) ≤ 36028797018963968 := by omega
          clear hh hdg ho
          go_wp2
          go_round
          case rel => exact ⟨k + 1, _, lg, by go_num, rfl, rfl, by omega, by omega, by omega, HN⟩
          case measure => simp [RowKit.intOf]; omega
      | false =>
        have hex := Lib.hid (ext_size s (k + 1) hs)
        have HD := isDig_no hdg
        rcases (show (s[k]'hks).toNat < 48 ∨ 57 < (s[k]'hks).toNat by omega) with hlo | hhi
        · clear HD
          by_cases hk0 : k = 0
          · obtain rfl := hk0
            have HW := Lib.hid (wk_zero (l := s.data.toList))
            have HQ := Lib.hid (hQd.out.trans (q_mid_no1 false hh.out.1 hks hdg HW.out))
            clear hh HW hdg
            go_wp2
            go_ret2
            exact ⟨ret_both (syn_of HQ.out), rfl⟩
          · by_cases hk1 : k ≤ 1
            · have HW := Lib.hid (wk_ok (t := s) (k := k) hk0 (by omega) (by omega) (Or.inl hk1))
              by_cases hc : (((s[k]'hks).toNat : Nat) : Int) = 46
              · cases hf : fracOK (s.extract (k + 1) s.size).data.toList with
                | false =>
                  have HQ := Lib.hid (hQd.out.trans (q_mid_no3 false hh.out.1 hks hdg hf))
                  have HP := fun w => Lib.hid (places_no (s.extract (k + 1) s.size) w hex.out hf)
                  clear hh HW hdg hf
                  go_wp2_with fail
                  refine (HP _).out.mono ?_
                  rintro e w' ⟨⟨x, rfl⟩, rfl⟩
                  clear HP
                  go_wp2_with fail
                  go_ret2
                  exact ⟨ret_both (syn_of HQ.out), rfl⟩
                | true =>
                  have HQ := Lib.hid (hQd.out.trans (q_mid_yes false hh.out.1 hks hdg HW.out hc hf))
                  have hfd := frac_dig hf
                  have hf1 := fracU_le hfd
                  obtain ⟨f, hfe⟩ : ∃ f : Int, f = (fracU (s.extract (k + 1) s.size).data.toList : Int) := ⟨_, rfl⟩
                  have hf2 : 0 ≤ f := by omega
                  have hf3 : f ≤ 255 := by omega
                  have HP := Lib.hid (⟨hf, hfe⟩ : fracOK (s.extract (k + 1) s.size).data.toList = true ∧ f = (fracU (s.extract (k + 1) s.size).data.toList : Int))
                  cases lg with
                  | false =>
                    have HU : Hid (a * 256 + f = ((val (s.data.toList.take k) * 256 + fracU (s.extract (k + 1) s.size).data.toList : Nat) : Int)) := Lib.hid (by rw [hh.out.2.1 rfl]; omega)
                    clear hh HW hdg hf hfd hf1 hfe
                    go_wp2_with fail
                    ((with_reducible refine (places_yes _ _ f hex.out HP).mono ?_); rintro e w' ⟨rfl, rfl⟩)
                    go_wp2_with fail
                    all_goals first
                      | (go_ret2; exact ⟨ret_both ((pos_ways HQ.out HU.out).1 ‹_›), rfl⟩)
                      | (go_ret2; exact ⟨ret_both ((pos_ways HQ.out HU.out).2.1 ‹_› ‹_›), rfl⟩)
                      | (go_ret2; exact ⟨ret_both (pos_val HQ.out HU.out ‹_› ‹_› rfl), rfl⟩)
                      | (go_ret2; exact ⟨ret_both ((pos_ways HQ.out HU.out).2.2 ‹_›), rfl⟩)
                  | true =>
                    obtain ⟨ha, hv⟩ := hh.out.2.2 rfl
                    subst ha
                    have HV := Lib.hid hv
                    clear hh HW hdg hf hfd hf1 hfe hv
                    go_wp2_with fail
                    ((with_reducible refine (places_yes _ _ f hex.out HP).mono ?_); rintro e w' ⟨rfl, rfl⟩)
                    go_wp2_with fail
                    go_ret2
                    exact ⟨ret_both (over_of HQ.out (by have := HV.out; omega)), rfl⟩
              · have HQ := Lib.hid (hQd.out.trans (q_mid_no2 false hh.out.1 hks hdg hc))
                clear hh HW hdg
                go_wp2_with fail
                ((with_reducible refine (places_none _ _ hex.out).mono ?_); rintro e w' ⟨⟨x, bb, rfl⟩, rfl⟩)
                go_wp2_with fail
                go_ret2
                exact ⟨ret_both (syn_of HQ.out), rfl⟩
            · have hk2 : 1 < k := by omega
              have hT0 : 0 < s.size := by omega
              cases hz : (((s[0]'hT0).toNat : Int) == 48) with
              | true =>
                have HW := Lib.hid (wk_lead (t := s) (k := k) hk2 (by omega) hT0 hz)
                have HQ := Lib.hid (hQd.out.trans (q_mid_no1 false hh.out.1 hks hdg HW.out))
                clear hh HW hdg
                go_wp2
                go_ret2
                exact ⟨ret_both (syn_of HQ.out), rfl⟩
              | false =>
                have HW := Lib.hid (wk_ok (t := s) (k := k) hk0 (by omega) hT0 (Or.inr hz))
                by_cases hc : (((s[k]'hks).toNat : Nat) : Int) = 46
                · cases hf : fracOK (s.extract (k + 1) s.size).data.toList with
                  | false =>
                    have HQ := Lib.hid (hQd.out.trans (q_mid_no3 false hh.out.1 hks hdg hf))
                    have HP := fun w => Lib.hid (places_no (s.extract (k + 1) s.size) w hex.out hf)
                    clear hh HW hdg hf
                    go_wp2_with fail
                    refine (HP _).out.mono ?_
                    rintro e w' ⟨⟨x, rfl⟩, rfl⟩
                    clear HP
                    go_wp2_with fail
                    go_ret2
                    exact ⟨ret_both (syn_of HQ.out), rfl⟩
                  | true =>
                    have HQ := Lib.hid (hQd.out.trans (q_mid_yes false hh.out.1 hks hdg HW.out hc hf))
                    have hfd := frac_dig hf
                    have hf1 := fracU_le hfd
                    obtain ⟨f, hfe⟩ : ∃ f : Int, f = (fracU (s.extract (k + 1) s.size).data.toList : Int) := ⟨_, rfl⟩
                    have hf2 : 0 ≤ f := by omega
                    have hf3 : f ≤ 255 := by omega
                    have HP := Lib.hid (⟨hf, hfe⟩ : fracOK (s.extract (k + 1) s.size).data.toList = true ∧ f = (fracU (s.extract (k + 1) s.size).data.toList : Int))
                    cases lg with
                    | false =>
                      have HU : Hid (a * 256 + f = ((val (s.data.toList.take k) * 256 + fracU (s.extract (k + 1) s.size).data.toList : Nat) : Int)) := Lib.hid (by rw [hh.out.2.1 rfl]; omega)
                      clear hh HW hdg hf hfd hf1 hfe
                      go_wp2_with fail
                      ((with_reducible refine (places_yes _ _ f hex.out HP).mono ?_); rintro e w' ⟨rfl, rfl⟩)
                      go_wp2_with fail
                      all_goals first
                        | (go_ret2; exact ⟨ret_both ((pos_ways HQ.out HU.out).1 ‹_›), rfl⟩)
                        | (go_ret2; exact ⟨ret_both ((pos_ways HQ.out HU.out).2.1 ‹_› ‹_›), rfl⟩)
                        | (go_ret2; exact ⟨ret_both (pos_val HQ.out HU.out ‹_› ‹_› rfl), rfl⟩)
                        | (go_ret2; exact ⟨ret_both ((pos_ways HQ.out HU.out).2.2 ‹_›), rfl⟩)
                    | true =>
                      obtain ⟨ha, hv⟩ := hh.out.2.2 rfl
                      subst ha
                      have HV := Lib.hid hv
                      clear hh HW hdg hf hfd hf1 hfe hv
                      go_wp2_with fail
                      ((with_reducible refine (places_yes _ _ f hex.out HP).mono ?_); rintro e w' ⟨rfl, rfl⟩)
                      go_wp2_with fail
                      go_ret2
                      exact ⟨ret_both (over_of HQ.out (by have := HV.out; omega)), rfl⟩
                · have HQ := Lib.hid (hQd.out.trans (q_mid_no2 false hh.out.1 hks hdg hc))
                  clear hh HW hdg
                  go_wp2_with fail
                  ((with_reducible refine (places_none _ _ hex.out).mono ?_); rintro e w' ⟨⟨x, bb, rfl⟩, rfl⟩)
                  go_wp2_with fail
                  go_ret2
                  exact ⟨ret_both (syn_of HQ.out), rfl⟩
        · have h48 : 48 ≤ (s[k]'hks).toNat := by omega
          clear HD
          by_cases hk0 : k = 0
          · obtain rfl := hk0
            have HW := Lib.hid (wk_zero (l := s.data.toList))
            have HQ := Lib.hid (hQd.out.trans (q_mid_no1 false hh.out.1 hks hdg HW.out))
            clear hh HW hdg
            go_wp2
            go_ret2
            exact ⟨ret_both (syn_of HQ.out), rfl⟩
          · by_cases hk1 : k ≤ 1
            · have HW := Lib.hid (wk_ok (t := s) (k := k) hk0 (by omega) (by omega) (Or.inl hk1))
              have HQ := Lib.hid (hQd.out.trans (q_mid_no2 false hh.out.1 hks hdg (by omega)))
              clear hh HW hdg
              go_wp2_with fail
              ((with_reducible refine (places_none _ _ hex.out).mono ?_); rintro e w' ⟨⟨x, bb, rfl⟩, rfl⟩)
              go_wp2_with fail
              go_ret2
              exact ⟨ret_both (syn_of HQ.out), rfl⟩
            · have hk2 : 1 < k := by omega
              have hT0 : 0 < s.size := by omega
              cases hz : (((s[0]'hT0).toNat : Int) == 48) with
              | true =>
                have HW := Lib.hid (wk_lead (t := s) (k := k) hk2 (by omega) hT0 hz)
                have HQ := Lib.hid (hQd.out.trans (q_mid_no1 false hh.out.1 hks hdg HW.out))
                clear hh HW hdg
                go_wp2
                go_ret2
                exact ⟨ret_both (syn_of HQ.out), rfl⟩
              | false =>
                have HW := Lib.hid (wk_ok (t := s) (k := k) hk0 (by omega) hT0 (Or.inr hz))
                have HQ := Lib.hid (hQd.out.trans (q_mid_no2 false hh.out.1 hks hdg (by omega)))
                clear hh HW hdg
                go_wp2_with fail
                ((with_reducible refine (places_none _ _ hex.out).mono ?_); rintro e w' ⟨⟨x, bb, rfl⟩, rfl⟩)
                go_wp2_with fail
                go_ret2
                exact ⟨ret_both (syn_of HQ.out), rfl⟩
    · obtain rfl : k = s.size := by omega
      by_cases hk0 : s.size = 0
      · have HW := Lib.hid (wk_zero (l := s.data.toList))
        rw [← hk0] at HW
        have hk3 : ¬ 0 < s.size := by omega
        have HQ := Lib.hid (hQd.out.trans (q_end_no false hh.out.1 HW.out))
        have hke : s = ByteArray.empty := by
          apply ByteArray.ext; apply Array.eq_empty_of_size_eq_zero; exact hk0
        clear hh HW hk3
        go_wp2
        all_goals (go_ret2; exact ⟨ret_both (syn_of HQ.out), rfl⟩)
      · have hke : ¬ s = ByteArray.empty := fun e => hk0 (by rw [e]; rfl)
        by_cases hk1 : s.size ≤ 1
        · have HW := Lib.hid (wk_ok (t := s) (k := s.size) hk0 (by omega) (by omega) (Or.inl hk1))
          have HQ := Lib.hid (hQd.out.trans (q_end_yes false hh.out.1 HW.out))
          cases lg with
          | false =>
            have HU : Hid (a * 256 = ((val (s.data.toList.take s.size) * 256 : Nat) : Int)) := Lib.hid (by rw [hh.out.2.1 rfl]; omega)
            clear hh HW
            go_wp2
            all_goals first
              | (go_ret2; exact ⟨ret_both ((pos_ways HQ.out HU.out).1 ‹_›), rfl⟩)
              | (go_ret2; exact ⟨ret_both ((pos_ways HQ.out HU.out).2.1 ‹_› ‹_›), rfl⟩)
              | (go_ret2; exact ⟨ret_both (pos_val HQ.out HU.out ‹_› ‹_› rfl), rfl⟩)
              | (go_ret2; exact ⟨ret_both ((pos_ways HQ.out HU.out).2.2 ‹_›), rfl⟩)
          | true =>
            obtain ⟨ha, hv⟩ := hh.out.2.2 rfl
            subst ha
            have HV := Lib.hid hv
            clear hh HW hv
            go_wp2
            go_ret2
            exact ⟨ret_both (over_of HQ.out (by have := HV.out; omega)), rfl⟩
        · have hk2 : 1 < s.size := by omega
          have hT0 : 0 < s.size := by omega
          cases hz : (((s[0]'hT0).toNat : Int) == 48) with
          | true =>
            have HW := Lib.hid (wk_lead (t := s) (k := s.size) hk2 (by omega) hT0 hz)
            have HQ := Lib.hid (hQd.out.trans (q_end_no false hh.out.1 HW.out))
            clear hh HW
            go_wp2
            go_ret2
            exact ⟨ret_both (syn_of HQ.out), rfl⟩
          | false =>
            have HW := Lib.hid (wk_ok (t := s) (k := s.size) hk0 (by omega) hT0 (Or.inr hz))
            have HQ := Lib.hid (hQd.out.trans (q_end_yes false hh.out.1 HW.out))
            cases lg with
            | false =>
              have HU : Hid (a * 256 = ((val (s.data.toList.take s.size) * 256 : Nat) : Int)) := Lib.hid (by rw [hh.out.2.1 rfl]; omega)
              clear hh HW
              go_wp2
              all_goals first
                | (go_ret2; exact ⟨ret_both ((pos_ways HQ.out HU.out).1 ‹_›), rfl⟩)
                | (go_ret2; exact ⟨ret_both ((pos_ways HQ.out HU.out).2.1 ‹_› ‹_›), rfl⟩)
                | (go_ret2; exact ⟨ret_both (pos_val HQ.out HU.out ‹_› ‹_› rfl), rfl⟩)
                | (go_ret2; exact ⟨ret_both ((pos_ways HQ.out HU.out).2.2 ‹_›), rfl⟩)
            | true =>
              obtain ⟨ha, hv⟩ := hh.out.2.2 rfl
              subst ha
              have HV := Lib.hid hv
              clear hh HW hv
              go_wp2
              go_ret2
              exact ⟨ret_both (over_of HQ.out (by have := HV.out; omega)), rfl⟩


end Go.Proofs.YtepkfnohlchpeaaDoor
