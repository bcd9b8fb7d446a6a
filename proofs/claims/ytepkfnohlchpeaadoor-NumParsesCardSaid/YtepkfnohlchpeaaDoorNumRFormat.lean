/-
  What the reference's Format answers for all ints: the decimal text.
-/
import Derived.Test.YtepkfnohlchpeaaDoorNumDigits
import Derived.Test.YtepkfnohlchpeaaDoorNumText
import Derived.Test.YtepkfnohlchpeaaDoorNumMul
namespace Go.Proofs.YtepkfnohlchpeaaDoor
open Go.RowKit Go.Lib

def strSize : Value → Nat
  | .string t => t.size
  | _ => 0

theorem digits_named (x : Int) (w : World) (h0 : 0 ≤ x) (h1 : x < 18446744073709551616) (s : ByteArray) (hs : Hid (s = ⟨(Lib.decDigits x.toNat).toArray⟩)) :
    Calls Tryd.prog 37 #[.int .u64 x] w fun e w' => e = .returned (.string s) ∧ Below w.heap.size w w' := by
  rw [hs.out]
  have := digits_any x.toNat w (by omega)
  rw [Int.toNat_of_nonneg h0] at this
  exact this

theorem pad_str {t p : ByteArray} (h : t.size < 8) (hp : Hid (padL t.data.toList = padL p.data.toList)) : Hid (padL (ByteArray.mk #[48] ++ t).data.toList = padL p.data.toList) := by
  refine Lib.hid ?_
  rw [← hp.out, ByteArray.data_append]
  have := pad_step (l := t.data.toList) (by rw [← Lib.size_eq]; exact h)
  simpa using this
theorem pad_end {t p : ByteArray} (h : ¬ t.size < 8) (hp : Hid (padL t.data.toList = padL p.data.toList)) : Hid (t.data.toList = padL p.data.toList) := by
  refine Lib.hid ?_
  rw [← hp.out, pad_done (by rw [← Lib.size_eq]; omega)]

theorem strip_of {u : Nat} {S : List UInt8} {p : ByteArray} (hS : Hid (u % 256 = 0 ∨ S = stripL (padL p.data.toList))) (hz : ((u : Int) % 256 == 0) = false) : S = stripL (padL p.data.toList) := by
  have hz' : ¬ (u : Int) % 256 = 0 := by simpa using hz
  rcases hS.out with h | h
  · omega
  · exact h
theorem pad_strip {u : Nat} {S : List UInt8} {t p : ByteArray} (h : ¬ t.size < 8) (hp : Hid (padL t.data.toList = padL p.data.toList)) (hS : Hid (u % 256 = 0 ∨ S = stripL (padL p.data.toList))) (hz : ((u : Int) % 256 == 0) = false) : Hid (stripL t.data.toList = S) := by
  refine Lib.hid ?_
  rw [strip_of hS hz, (pad_end h hp).out]
theorem size_c {c : UInt8} {t : ByteArray} : (ByteArray.mk #[c] ++ t).size = 1 + t.size := by rw [ByteArray.size_append]; rfl
theorem last_split (t : ByteArray) (h : 1 ≤ t.size) : t.data.toList = (t.extract 0 (t.size - 1)).data.toList ++ [t[t.size - 1]'(by omega)] := by
  have h1 : t.data.toList.length = t.size := by rw [← Lib.size_eq]
  have h2 := List.take_append_getLast t.data.toList (by intro h0; rw [h0] at h1; simp at h1; omega)
  rw [ByteArray.data_extract, Array.toList_extract, List.extract_eq_take_drop]
  conv => lhs; rw [← h2]
  rw [List.getLast_eq_getElem]
  simp [h1]
  congr 1
theorem strip_pos {t : ByteArray} {S : List UInt8} (hne : Hid (S ≠ [])) (h : Hid (stripL t.data.toList = S)) : 1 ≤ t.size := by
  by_cases h0 : 1 ≤ t.size
  · exact h0
  · exfalso
    apply hne.out
    rw [← h.out, List.eq_nil_of_length_eq_zero (l := t.data.toList) (by rw [← Lib.size_eq]; omega)]
    rfl
theorem strip_str {t : ByteArray} {S : List UInt8} (hp : 1 ≤ t.size) (h : Hid (stripL t.data.toList = S)) (hc : (((t[t.size - 1]'(by omega)).toNat : Int) == 48) = true) : Hid (stripL (t.extract 0 (t.size - 1)).data.toList = S) := by
  refine Lib.hid ?_
  rw [← h.out, last_split t hp]
  have e : t[t.size - 1]'(by omega) = 48 := by
    have : (t[t.size - 1]'(by omega)).toNat = 48 := by have := (beq_iff_eq.1 hc); omega
    exact UInt8.toNat_inj.1 this
  rw [e, strip_step]
theorem strip_end {t : ByteArray} {S : List UInt8} (hp : 1 ≤ t.size) (h : Hid (stripL t.data.toList = S)) (hc : (((t[t.size - 1]'(by omega)).toNat : Int) == 48) = false) : t.data.toList = S := by
  rw [← h.out, last_split t hp, strip_done]
  intro e
  rw [e] at hc
  simp at hc

theorem fmt_zero {n : Int} {u : Nat} {s : ByteArray} (hu : u = n.natAbs) (hs : s = ⟨(Lib.decDigits ((u : Int) / 256).toNat).toArray⟩) (hz : ((u : Int) % 256 == 0) = true) :
    (n < 0 → ByteArray.mk #[45] ++ s = ⟨(fmtL n).toArray⟩) ∧ (0 ≤ n → s = ⟨(fmtL n).toArray⟩) := by
  have hz' : u % 256 = 0 := by have := beq_iff_eq.1 hz; omega
  have hd : ((u : Int) / 256).toNat = u / 256 := by omega
  subst hu
  have hf : fracL (n.natAbs % 256) = [] := by unfold fracL; rw [if_pos hz']
  refine ⟨fun h => ?_, fun h => ?_⟩
  · apply ByteArray.ext
    rw [ByteArray.data_append, hs, hd]
    unfold fmtL
    rw [hf, if_pos h]
    simp
  · rw [hs, hd]
    unfold fmtL
    rw [hf, if_neg (by omega)]
    simp
theorem fmt_frac {n : Int} {u : Nat} {s t : ByteArray} (hu : u = n.natAbs) (hs : s = ⟨(Lib.decDigits ((u : Int) / 256).toNat).toArray⟩) (hz : ((u : Int) % 256 == 0) = false) (ht : t.data.toList = stripL (padL (Lib.decDigits ((u : Int) % 256 * 390625).toNat))) :
    (n < 0 → ByteArray.mk #[45] ++ s ++ ByteArray.mk #[46] ++ t = ⟨(fmtL n).toArray⟩) ∧ (0 ≤ n → s ++ ByteArray.mk #[46] ++ t = ⟨(fmtL n).toArray⟩) := by
  have hz' : ¬ u % 256 = 0 := by intro h; have : ¬ (u : Int) % 256 = 0 := by simpa using hz
                                 omega
  have hd : ((u : Int) / 256).toNat = u / 256 := by omega
  have hm : ((u : Int) % 256 * 390625).toNat = u % 256 * 390625 := by omega
  rw [hm] at ht
  subst hu
  have hf : fracL (n.natAbs % 256) = 46 :: t.data.toList := by unfold fracL; rw [if_neg hz', ht]
  refine ⟨fun h => ?_, fun h => ?_⟩
  · apply ByteArray.ext
    rw [ByteArray.data_append, ByteArray.data_append, ByteArray.data_append, hs, hd]
    unfold fmtL
    rw [hf, if_pos h]
    apply Array.toList_inj.1
    simp
  · apply ByteArray.ext
    rw [ByteArray.data_append, ByteArray.data_append, hs, hd]
    unfold fmtL
    rw [hf, if_neg (by omega)]
    apply Array.toList_inj.1
    simp

set_option maxHeartbeats 400000 in
theorem rformat_walk (n : Int) (w : World) (u : Nat) (hu : Hid (u = n.natAbs)) (h0 : -9223372036854775808 ≤ n) (h1 : n ≤ 9223372036854775807) (hu1 : u ≤ 9223372036854775808)
    (s p : ByteArray) (hs : Hid (s = ⟨(Lib.decDigits ((u : Int) / 256).toNat).toArray⟩)) (hp : Hid (p = ⟨(Lib.decDigits ((u : Int) % 256 * 390625).toNat).toArray⟩)) (ls : s.size ≤ 20) (lp : p.size ≤ 8) (S : List UInt8) (hS : Hid (u % 256 = 0 ∨ S = stripL (padL p.data.toList))) (hne : Hid (S ≠ [])) :
    Calls Tryd.prog 24 #[.int .i64 n] w fun e w' => e = .returned (.string ⟨(fmtL n).toArray⟩) ∧ Below w.heap.size w w' := by
  go_enter Tryd.func24, Tryd.ntmps24
  go_wp2_with fail
  ((with_reducible refine (rsize_any n _ u hu h0 h1).mono ?_); rintro e w' ⟨rfl, rfl⟩)
  go_wp2_with fail
  ((with_reducible refine (digits_named (u / 256) _ (by omega) (by omega) s hs).mono ?_); rintro e w1 ⟨rfl, hb1⟩)
  go_wp2_with fail
  · go_ret
    exact ⟨ret_str ((fmt_zero hu.out hs.out (by assumption)).1 (by assumption)), hb1⟩
  · ((with_reducible refine (digits_named (↑u % 256 * 390625) _ (by omega) (by omega) p hp).mono ?_); rintro e w2 ⟨rfl, hb2⟩)
    have hb := Lib.hid (hb1.trans (hb2.mono hb1.size))
    clear hb1 hb2
    go_wp2_with fail
    go_loop [5] (fun v => ∃ t : ByteArray, v = .string t ∧ t.size ≤ 8 ∧ Hid (padL t.data.toList = padL p.data.toList)) (fun v => 8 - strSize v)
    case atStart => exact ⟨p, rfl, lp, Lib.hid rfl⟩
    case round =>
      obtain ⟨t, rfl, ht, hpad⟩ := hrel
      by_cases hlt : t.size < 8
      · have HS := pad_str hlt hpad
        go_wp2_with fail
        go_round
        case rel => exact ⟨_, rfl, by rw [size_c]; omega, HS⟩
        case measure => show 8 - (ByteArray.mk #[48] ++ t).size < 8 - t.size; rw [size_c]; omega
      · have HP := pad_strip hlt hpad hS (by assumption)
        clear hpad
        go_wp2_with fail
        go_loop [5] (fun v => ∃ t : ByteArray, v = .string t ∧ t.size ≤ 8 ∧ Hid (stripL t.data.toList = S)) (fun v => strSize v)
        case atStart => exact ⟨_, rfl, ht, HP⟩
        case round =>
          clear HP
          obtain ⟨t, rfl, ht, hst⟩ := hrel
          have hpos := strip_pos hne hst
          go_wp2_with fail
          · have HS := strip_str hpos hst (by assumption)
            go_round
            case rel => exact ⟨_, rfl, by rw [ByteArray.size_extract]; omega, HS⟩
            case measure => show (t.extract 0 (t.size - 1)).size < t.size; rw [ByteArray.size_extract]; omega
          · have HS := strip_end hpos hst (by assumption)
            go_ret
            exact ⟨ret_str ((fmt_frac hu.out hs.out (by assumption) (by rw [HS, strip_of hS (by assumption), hp.out])).1 (by assumption)), hb.out⟩
  · go_ret
    exact ⟨ret_str ((fmt_zero hu.out hs.out (by assumption)).2 (by assumption)), hb1⟩
  · ((with_reducible refine (digits_named (↑u % 256 * 390625) _ (by omega) (by omega) p hp).mono ?_); rintro e w2 ⟨rfl, hb2⟩)
    have hb := Lib.hid (hb1.trans (hb2.mono hb1.size))
    clear hb1 hb2
    go_wp2_with fail
    go_loop [5] (fun v => ∃ t : ByteArray, v = .string t ∧ t.size ≤ 8 ∧ Hid (padL t.data.toList = padL p.data.toList)) (fun v => 8 - strSize v)
    case atStart => exact ⟨p, rfl, lp, Lib.hid rfl⟩
    case round =>
      obtain ⟨t, rfl, ht, hpad⟩ := hrel
      by_cases hlt : t.size < 8
      · have HS := pad_str hlt hpad
        go_wp2_with fail
        go_round
        case rel => exact ⟨_, rfl, by rw [size_c]; omega, HS⟩
        case measure => show 8 - (ByteArray.mk #[48] ++ t).size < 8 - t.size; rw [size_c]; omega
      · have HP := pad_strip hlt hpad hS (by assumption)
        clear hpad
        go_wp2_with fail
        go_loop [5] (fun v => ∃ t : ByteArray, v = .string t ∧ t.size ≤ 8 ∧ Hid (stripL t.data.toList = S)) (fun v => strSize v)
        case atStart => exact ⟨_, rfl, ht, HP⟩
        case round =>
          clear HP
          obtain ⟨t, rfl, ht, hst⟩ := hrel
          have hpos := strip_pos hne hst
          go_wp2_with fail
          · have HS := strip_str hpos hst (by assumption)
            go_round
            case rel => exact ⟨_, rfl, by rw [ByteArray.size_extract]; omega, HS⟩
            case measure => show (t.extract 0 (t.size - 1)).size < t.size; rw [ByteArray.size_extract]; omega
          · have HS := strip_end hpos hst (by assumption)
            go_ret
            exact ⟨ret_str ((fmt_frac hu.out hs.out (by assumption) (by rw [HS, strip_of hS (by assumption), hp.out])).2 (by assumption)), hb.out⟩

theorem decDigits_len8 {x : Nat} (h : x < 100000000) : (Lib.decDigits x).length ≤ 8 := by
  have := congrArg List.length (pad_eight h)
  unfold padL eight at this
  rw [List.length_append, List.length_replicate, List.length_map, List.length_range] at this
  omega

/-- The reference's Format: the decimal text of every int. -/
theorem rformat_any (n : Int) (w : World) (h0 : -9223372036854775808 ≤ n) (h1 : n ≤ 9223372036854775807) :
    Calls Tryd.prog 24 #[.int .i64 n] w fun e w' => e = .returned (.string ⟨(fmtL n).toArray⟩) ∧ Below w.heap.size w w' := by
  by_cases hz : n.natAbs % 256 = 0
  · refine rformat_walk n w n.natAbs (Lib.hid rfl) h0 h1 (by omega) _ _ (Lib.hid rfl) (Lib.hid rfl) ?_ ?_ [48] (Lib.hid (Or.inl hz)) (Lib.hid (by simp))
    · show (Lib.decDigits _).toArray.size ≤ 20
      rw [List.size_toArray]; exact decDigits_len20 (by omega)
    · show (Lib.decDigits _).toArray.size ≤ 8
      rw [List.size_toArray]; exact decDigits_len8 (by omega)
  · refine rformat_walk n w n.natAbs (Lib.hid rfl) h0 h1 (by omega) _ _ (Lib.hid rfl) (Lib.hid rfl) ?_ ?_ _ (Lib.hid (Or.inr rfl)) (Lib.hid ?_)
    · show (Lib.decDigits _).toArray.size ≤ 20
      rw [List.size_toArray]; exact decDigits_len20 (by omega)
    · show (Lib.decDigits _).toArray.size ≤ 8
      rw [List.size_toArray]; exact decDigits_len8 (by omega)
    · have h2 := frac_places (r := n.natAbs % 256) (by omega) hz
      have h3 := places_ne (r := n.natAbs % 256) (by omega) hz
      unfold fracL at h2
      rw [if_neg hz] at h2
      have e : ((n.natAbs : Int) % 256 * 390625).toNat = n.natAbs % 256 * 390625 := by omega
      show stripL (padL (Lib.decDigits _)) ≠ []
      rw [e]
      injection h2 with _ h4
      rw [h4]
      exact h3
end Go.Proofs.YtepkfnohlchpeaaDoor
