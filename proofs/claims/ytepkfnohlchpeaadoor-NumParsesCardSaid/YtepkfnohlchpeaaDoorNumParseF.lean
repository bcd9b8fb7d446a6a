/-
  What num.Parse answers for all texts of at most 200 bytes: the int that the text stands for, or the error number.
-/
import Derived.Test.YtepkfnohlchpeaaDoorNumParseE
import Derived.Test.YtepkfnohlchpeaaDoorNumSpecB
namespace Go.Proofs.YtepkfnohlchpeaaDoor
open Go.RowKit Go.Lib

theorem sign_of (l : List UInt8) : parseL l = parseB (Lib.hasPrefix l [45]) (Lib.trimPrefix l [45]) := by
  unfold parseL Lib.trimPrefix Lib.hasPrefix
  cases l with
  | nil => rfl
  | cons c t =>
    by_cases h : c = 45
    · subst h; simp [List.isPrefixOf]
    · have h2 : ¬ (45 : UInt8) = c := fun e => h e.symm
      have h3 : ((45 : UInt8) == c) = false := by simpa using h2
      simp [List.isPrefixOf, h, h3]

theorem fin_sign {neg : Bool} {u : Nat} {v : Int} (hv : v = (u : Int)) (h : ¬ (neg = true ∧ u = 0)) : signV neg v = fin neg u := by
  subst hv
  unfold signV fin
  cases neg with
  | false => 
    by_cases h1 : u ≤ 9223372036854775807
    · have h2 : (u : Int) ≤ 9223372036854775807 := by omega
      simp [h1, h2]
    · have h2 : ¬ (u : Int) ≤ 9223372036854775807 := by omega
      simp [h1, h2]
  | true =>
    have h0 : ¬ u = 0 := fun e => h ⟨rfl, e⟩
    by_cases h1 : u ≤ 9223372036854775808
    · have h2 : (u : Int) ≤ 9223372036854775808 := by omega
      simp [h0, h1, h2]
    · have h2 : ¬ (u : Int) ≤ 9223372036854775808 := by omega
      simp [h0, h1, h2]
theorem fin_over {neg : Bool} {u : Nat} (h : 9223372036854775808 < u) : fin neg u = (0, 3) := by
  unfold fin
  cases neg with
  | false => have : ¬ u ≤ 9223372036854775807 := by omega
             simp [this]
  | true =>
    have h0 : ¬ u = 0 := by omega
    have h1 : ¬ u ≤ 9223372036854775808 := by omega
    simp [h0, h1]

theorem whole_ne {wh : ByteArray} (h : wholeOK wh.data.toList = true) : wh.size ≠ 0 := by
  intro h0
  rw [Lib.size_eq] at h0
  rw [List.eq_nil_of_length_eq_zero h0] at h
  simp [wholeOK] at h

/-- num.Parse. -/
theorem parse_any (s : ByteArray) (w : World) (hs : s.size ≤ 200) (hE : Env w) :
    Calls Tryd.prog 23 #[.string s] w fun e w' => e = .returned (.tuple #[.int .i64 (parseL s.data.toList).1, .int .i64 (parseL s.data.toList).2]) ∧ Below w.heap.size w w' := by
  obtain ⟨b, hb⟩ : ∃ b, b = Lib.trimPrefix s.data.toList [45] := ⟨_, rfl⟩
  obtain ⟨neg, hneg⟩ : ∃ neg, neg = Lib.hasPrefix s.data.toList [45] := ⟨_, rfl⟩
  have hbl : b.length ≤ 200 := by
    have : b.length ≤ s.data.toList.length := by
      rw [hb]; unfold Lib.trimPrefix; split
      · rw [List.length_drop]; omega
      · omega
    rw [← Lib.size_eq] at this
    omega
  have hc := cut_dot b
  have hl : (cutDot b).1.length ≤ b.length ∧ (cutDot b).2.1.length ≤ b.length := by
    rw [← hc]
    unfold Lib.cut
    split
    · exact ⟨by rw [List.length_take]; omega, by rw [List.length_drop]; omega⟩
    · exact ⟨Nat.le_refl _, Nat.zero_le _⟩
  have hS : Split s ⟨b.toArray⟩ ⟨(cutDot b).1.toArray⟩ ⟨(cutDot b).2.1.toArray⟩ neg (cutDot b).2.2 :=
    ⟨by rw [hb], hneg, by show _ = ByteArray.mk (Lib.cut b [46]).1.toArray; rw [hc], by show _ = ByteArray.mk (Lib.cut b [46]).2.1.toArray; rw [hc], by show _ = (Lib.cut b [46]).2.2; rw [hc],
     by show b.toArray.size ≤ 200; rw [List.size_toArray]; exact hbl, by show (cutDot b).1.toArray.size ≤ 200; rw [List.size_toArray]; omega, by show (cutDot b).2.1.toArray.size ≤ 200; rw [List.size_toArray]; omega⟩
  rw [sign_of, ← hb, ← hneg]
  cases hW : wfB (cutDot b).1 (cutDot b).2.1 (cutDot b).2.2 with
  | false =>
    rw [parseB_no hW]
    exact parse_bad s _ _ _ neg _ w (Lib.hid hS) (Lib.hid hE) false (Lib.hid hW.symm) (Or.inl rfl)
  | true =>
    cases h0 : (s.toList == [45, 48]) with
    | true =>
      have e : s.data.toList = [45, 48] := by rw [← Lib.toList_data]; simpa using h0
      have e2 : parseB neg b = (0, 5) := by rw [hneg, hb, ← sign_of, e]; decide
      rw [e2]
      exact parse_bad s _ _ _ neg _ w (Lib.hid hS) (Lib.hid hE) true (Lib.hid hW.symm) (Or.inr ⟨rfl, h0⟩)
    | false =>
      obtain ⟨h1, h2, h3, h4⟩ := wfB_parts hW.symm
      rw [parseB_yes hW.symm]
      cases hF : fracB (cutDot b).2.1 with
      | false =>
        exact parse_nofrac s _ _ _ neg _ w (Lib.hid hS) (Lib.hid hE) (Lib.hid hW.symm) h0 (Lib.hid h4) _ (Lib.hid hF.symm) (Lib.hid rfl)
      | true =>
        have hx : fracV (cutDot b).2.1 = (fracU (cutDot b).2.1 : Int) := by unfold fracV; rw [hF]; rfl
        have hx1 := fracU_le h4
        have hne := whole_ne (wh := ⟨(cutDot b).1.toArray⟩) h1
        simp only [if_true]
        by_cases hfit : val (cutDot b).1 ≤ 72057594037927935
        · have hcall := parse_ok s _ _ _ neg _ w (Lib.hid hS) (Lib.hid hE) (Lib.hid hW.symm) h0 (Lib.hid h4) (fracU (cutDot b).2.1 : Int) (Lib.hid hF.symm) (Lib.hid hx.symm) (Lib.hid hne) (Lib.hid h3) (val (cutDot b).1 : Int) (Lib.hid rfl) (Lib.hid hfit) (by omega) (by omega) (by omega) (by omega)
          rw [fin_sign (u := val (cutDot b).1 * 256 + fracU (cutDot b).2.1) (by omega) ?_] at hcall
          · exact hcall
          · rintro ⟨hn, hu⟩
            have hv0 : val (cutDot b).1 = 0 := by omega
            have hw := whole_zero h1 h3 hv0
            have hp : (cutDot b).2.2 = false := by
              cases hp : (cutDot b).2.2 with
              | false => rfl
              | true =>
                have := fracU_pos (h2 hp) h4 hF
                omega
            obtain ⟨e1, _, e3⟩ := split_dig b h3
            obtain ⟨e4, _⟩ := e3 hp
            have eb : b = [48] := by
              have := List.takeWhile_append_dropWhile (p := isDig) (l := b)
              rw [e1, e4, hw] at this
              simpa using this.symm
            have es : s.toList = [45, 48] := by
              rw [Lib.toList_data]
              rw [hn] at hneg
              unfold Lib.trimPrefix at hb
              rw [← hneg, eb] at hb
              simp only [if_true] at hb
              unfold Lib.hasPrefix at hneg
              cases hl : s.data.toList with
              | nil => rw [hl] at hneg; simp [List.isPrefixOf] at hneg
              | cons c t =>
                rw [hl] at hneg hb
                simp [List.isPrefixOf] at hneg hb
                rw [← hneg, ← hb]
            rw [es] at h0
            simp at h0
        · rw [fin_over (by omega)]
          exact parse_over s _ _ _ neg _ w (Lib.hid hS) (Lib.hid hE) (Lib.hid hW.symm) h0 (Lib.hid h4) _ (Lib.hid hF.symm) (Lib.hid hx.symm) (Lib.hid hne) (Lib.hid h3) (Lib.hid (by show 72057594037927935 < val (cutDot b).1; omega))

end Go.Proofs.YtepkfnohlchpeaaDoor
