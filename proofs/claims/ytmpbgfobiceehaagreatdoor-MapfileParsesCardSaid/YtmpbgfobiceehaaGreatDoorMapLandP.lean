/-
  What the functions of mapfile answer: names, numbers, words, characters.
-/
import Derived.Test.YtmpbgfobiceehaaGreatDoorMapEnv
import Derived.Test.YtmpbgfobiceehaaGreatDoorMapPure
import Derived.Lib.AppendIntMem
import Derived.Test.YtmpbgfobiceehaaGreatDoorGridLand
import Derived.Lib.Builder
import Derived.Lib.AppendStr
import Derived.Shelf.Strings.Builder1
import Derived.Maps.OwnOps
import Derived.Maps.RangeWalk
namespace Go.Proofs.YtmpbgfobiceehaaGreatDoor

section
open Go.RowKit Go.Lib

theorem dletter_b (c : UInt8) (b : Bool) (W : World) (e : Hid (b = letB c)) :
    Calls Tryz.prog 59 #[.int .u8 (c.toNat : Int)] W fun e w' => e = .returned (.bool b) ∧ W = w' := by
  have h0 : (c.toNat : Int) < 256 := by have := c.toNat_lt; omega
  rw [e.out]
  unfold letB
  clear e
  by_cases h1 : 97 ≤ c.toNat
  · by_cases h2 : c.toNat ≤ 122
    · have z1 : decide ((97 : Int) ≤ c.toNat) = true := decide_eq_true (by omega)
      have z2 : decide ((c.toNat : Int) ≤ 122) = true := decide_eq_true (by omega)
      rw [decide_eq_true (p := 97 ≤ c.toNat ∧ c.toNat ≤ 122) ⟨h1, h2⟩]
      go_enter Tryz.func59, Tryz.ntmps59
      go_wp2
      go_ret
      exact ⟨rfl, rfl⟩
    · have z1 : decide ((97 : Int) ≤ c.toNat) = true := decide_eq_true (by omega)
      have z2 : decide ((c.toNat : Int) ≤ 122) = false := decide_eq_false (by omega)
      rw [decide_eq_false (p := 97 ≤ c.toNat ∧ c.toNat ≤ 122) (by omega)]
      go_enter Tryz.func59, Tryz.ntmps59
      go_wp2
      go_ret
      exact ⟨rfl, rfl⟩
  · have z1 : decide ((97 : Int) ≤ c.toNat) = false := decide_eq_false (by omega)
    rw [decide_eq_false (p := 97 ≤ c.toNat ∧ c.toNat ≤ 122) (by omega)]
    go_enter Tryz.func59, Tryz.ntmps59
    go_wp2
    go_ret
    exact ⟨rfl, rfl⟩
theorem ddigit_b (c : UInt8) (b : Bool) (W : World) (e : Hid (b = digB c)) :
    Calls Tryz.prog 60 #[.int .u8 (c.toNat : Int)] W fun e w' => e = .returned (.bool b) ∧ W = w' := by
  have h0 : (c.toNat : Int) < 256 := by have := c.toNat_lt; omega
  rw [e.out]
  unfold digB
  clear e
  by_cases h1 : 48 ≤ c.toNat
  · by_cases h2 : c.toNat ≤ 57
    · have z1 : decide ((48 : Int) ≤ c.toNat) = true := decide_eq_true (by omega)
      have z2 : decide ((c.toNat : Int) ≤ 57) = true := decide_eq_true (by omega)
      rw [decide_eq_true (p := 48 ≤ c.toNat ∧ c.toNat ≤ 57) ⟨h1, h2⟩]
      go_enter Tryz.func60, Tryz.ntmps60
      go_wp2
      go_ret
      exact ⟨rfl, rfl⟩
    · have z1 : decide ((48 : Int) ≤ c.toNat) = true := decide_eq_true (by omega)
      have z2 : decide ((c.toNat : Int) ≤ 57) = false := decide_eq_false (by omega)
      rw [decide_eq_false (p := 48 ≤ c.toNat ∧ c.toNat ≤ 57) (by omega)]
      go_enter Tryz.func60, Tryz.ntmps60
      go_wp2
      go_ret
      exact ⟨rfl, rfl⟩
  · have z1 : decide ((48 : Int) ≤ c.toNat) = false := decide_eq_false (by omega)
    rw [decide_eq_false (p := 48 ≤ c.toNat ∧ c.toNat ≤ 57) (by omega)]
    go_enter Tryz.func60, Tryz.ntmps60
    go_wp2
    go_ret
    exact ⟨rfl, rfl⟩

/-- A name, by its bytes. -/
theorem name_first {s : ByteArray} (h : 0 < s.size) : nameB s.data.toList = (decide (s.size ≤ 12) && letB (s[0]'h) && (s.data.toList.drop 1).all wordB) := by
  have hl : s.data.toList.length = s.size := by rw [← Lib.size_eq]
  have e : s.data.toList = s[0]'h :: s.data.toList.drop 1 := by
    conv => lhs; rw [← List.drop_zero (l := s.data.toList), List.drop_eq_getElem_cons (by omega)]
    rfl
  unfold nameB
  rw [hl]
  have hd : decide (1 ≤ s.size ∧ s.size ≤ 12) = decide (s.size ≤ 12) := decide_eq_decide.2 ⟨fun q => q.2, fun q => ⟨h, q⟩⟩
  rw [hd]
  conv => lhs; rw [e]
  simp only
  rw [Bool.and_assoc]
theorem let_word {c : UInt8} (h : letB c = true) : wordB c = true := by unfold wordB; rw [h]; rfl
theorem name_all {s : ByteArray} (h : 0 < s.size) (hf : letB (s[0]'h) = true) : (s.data.toList.drop 1).all wordB = s.data.toList.all wordB := by
  have hl : s.data.toList.length = s.size := by rw [← Lib.size_eq]
  have e : s.data.toList = s[0]'h :: s.data.toList.drop 1 := by
    conv => lhs; rw [← List.drop_zero (l := s.data.toList), List.drop_eq_getElem_cons (by omega)]
    rfl
  conv => rhs; rw [e, List.all_cons, let_word hf, Bool.true_and]
theorem all_next {p : UInt8 → Bool} {s : ByteArray} {k : Nat} (hk : k < s.size) (h : (s.data.toList.take k).all p = true) (hp : p (s[k]'hk) = true) : (s.data.toList.take (k + 1)).all p = true := by
  rw [take_next hk, List.all_append, h]
  simp [hp]
theorem all_not {p : UInt8 → Bool} {s : ByteArray} {k : Nat} (hk : k < s.size) (hp : p (s[k]'hk) = false) : s.data.toList.all p = false := by
  rw [List.all_eq_false]
  exact ⟨s[k]'hk, by show s.data[k] ∈ s.data.toList; exact Array.mem_toList_iff.2 (Array.getElem_mem _), by rw [hp]; decide⟩
theorem byte_ne {c : UInt8} {n : Nat} (h : (c == UInt8.ofNat n) = false) (hn : n < 256) : ((c.toNat : Int) == (n : Int)) = false := by
  rw [beq_eq_false_iff_ne] at h ⊢
  intro e
  exact h (UInt8.toNat_inj.1 (by rw [UInt8.toNat_ofNat']; omega))

set_option maxHeartbeats 1000000 in
theorem disname_b (s : ByteArray) (b : Bool) (W : World) (hs : s.size ≤ 100000) (e : Hid (b = nameB s.data.toList)) :
    Calls Tryz.prog 34 #[.string s] W fun e w' => e = .returned (.bool b) ∧ W = w' := by
  by_cases h0 : s.size = 0
  · obtain rfl := ba_zero h0
    have hb : b = false := by rw [e.out]; rfl
    subst hb
    clear h0 e hs
    go_enter Tryz.func34, Tryz.ntmps34
    go_wp2
    go_ret
    exact ⟨rfl, rfl⟩
  · have hemp := ba_emp h0
    have hp : 0 < s.size := by omega
    have hn := e.out.trans (name_first hp)
    clear e
    by_cases h12 : s.size ≤ 12
    · rw [decide_eq_true h12, Bool.true_and] at hn
      have z1 : decide ((12 : Int) < s.size) = false := decide_eq_false (by omega)
      obtain ⟨f, hf⟩ : ∃ f, Hid (f = letB (s[0]'hp)) := ⟨_, hid rfl⟩
      cases f with
      | false =>
        rw [← hf.out, Bool.false_and] at hn
        subst hn
        go_enter Tryz.func34, Tryz.ntmps34
        go_wp2_with fail
        ((with_reducible refine (dletter_b (s[0]'hp) false _ hf).mono ?_); rintro e w' ⟨rfl, rfl⟩)
        go_wp2_with fail
        go_ret
        exact ⟨rfl, rfl⟩
      | true =>
        rw [← hf.out, Bool.true_and, name_all hp hf.out.symm] at hn
        have HN := Lib.hid hn
        clear hn
        go_enter Tryz.func34, Tryz.ntmps34
        go_wp2_with fail
        ((with_reducible refine (dletter_b (s[0]'hp) true _ hf).mono ?_); rintro e w' ⟨rfl, rfl⟩)
        go_wp2_with fail
        clear z1 hemp
        go_loop [3, 19] (fun _ vi => ∃ k : Nat, vi = .int .i64 k ∧ k ≤ s.size ∧ Hid ((s.data.toList.take k).all wordB = true)) (fun _ vi => s.size - (RowKit.intOf vi).toNat)
        case atStart => exact ⟨0, rfl, by omega, hid rfl⟩
        case round =>
          obtain ⟨k, rfl, hk, hA⟩ := hrel
          by_cases hlt : k < s.size
          · obtain ⟨x, hx⟩ : ∃ x, Hid (x = letB (s[k]'hlt)) := ⟨_, hid rfl⟩
            obtain ⟨y, hy⟩ : ∃ x, Hid (x = digB (s[k]'hlt)) := ⟨_, hid rfl⟩
            have k0 : (0 : Int) ≤ k := by omega
            have k1 : (k : Int) < s.size := by omega
            cases x with
            | true =>
              have HS := Lib.hid (all_next hlt hA.out (let_word hx.out.symm))
              clear hA
              go_wp2_with fail
              ((with_reducible refine (dletter_b (s[k]'hlt) true _ hx).mono ?_); rintro e w' ⟨rfl, rfl⟩)
              go_wp2_with fail
              go_round
              case rel => exact ⟨k + 1, by go_num, by omega, HS⟩
              case measure => simp [RowKit.intOf]; omega
            | false =>
              cases y with
              | true =>
                have HS := Lib.hid (all_next hlt hA.out (show wordB (s[k]'hlt) = true by unfold wordB; rw [← hy.out]; simp))
                clear hA
                go_wp2_with fail
                ((with_reducible refine (dletter_b (s[k]'hlt) false _ hx).mono ?_); rintro e w' ⟨rfl, rfl⟩)
                go_wp2_with fail
                ((with_reducible refine (ddigit_b (s[k]'hlt) true _ hy).mono ?_); rintro e w' ⟨rfl, rfl⟩)
                go_wp2_with fail
                go_round
                case rel => exact ⟨k + 1, by go_num, by omega, HS⟩
                case measure => simp [RowKit.intOf]; omega
              | false =>
                by_cases hu : (s[k]'hlt) = 95
                · have HS := Lib.hid (all_next hlt hA.out (show wordB (s[k]'hlt) = true by unfold wordB; rw [hu]; rfl))
                  have hz : (((s[k]'hlt).toNat : Int) != 95) = false := by rw [hu]; rfl
                  have HU := Lib.hid hu
                  clear hA hu
                  go_wp2_with fail
                  ((with_reducible refine (dletter_b (s[k]'hlt) false _ hx).mono ?_); rintro e w' ⟨rfl, rfl⟩)
                  go_wp2_with fail
                  ((with_reducible refine (ddigit_b (s[k]'hlt) false _ hy).mono ?_); rintro e w' ⟨rfl, rfl⟩)
                  go_wp2_with fail
                  go_round
                  case rel => exact ⟨k + 1, by go_num, by omega, HS⟩
                  case measure => simp [RowKit.intOf]; omega
                · have hw : wordB (s[k]'hlt) = false := by unfold wordB; rw [← hx.out, ← hy.out]; simpa using hu
                  have hz : (((s[k]'hlt).toNat : Int) != 95) = true := by
                    have := byte_ne (n := 95) (beq_eq_false_iff_ne.2 hu) (by decide)
                    simpa using this
                  have HB := Lib.hid (HN.out.trans (all_not hlt hw))
                  clear hA hu hw
                  go_wp2_with fail
                  ((with_reducible refine (dletter_b (s[k]'hlt) false _ hx).mono ?_); rintro e w' ⟨rfl, rfl⟩)
                  go_wp2_with fail
                  ((with_reducible refine (ddigit_b (s[k]'hlt) false _ hy).mono ?_); rintro e w' ⟨rfl, rfl⟩)
                  go_wp2_with fail
                  go_ret
                  exact ⟨ret_bit HB.out.symm, rfl⟩
          · obtain rfl : k = s.size := by omega
            have hA2 := hA.out
            rw [take_all] at hA2
            have HB := Lib.hid (HN.out.trans hA2)
            clear hA2
            clear hA
            go_wp2_with fail
            go_ret
            exact ⟨ret_bit HB.out.symm, rfl⟩
    · rw [decide_eq_false h12, Bool.false_and, Bool.false_and] at hn
      subst hn
      have z1 : decide ((12 : Int) < s.size) = true := decide_eq_true (by omega)
      go_enter Tryz.func34, Tryz.ntmps34
      go_wp2
      go_ret
      exact ⟨rfl, rfl⟩

/-- strconv.Atoi at what is no number of 64 bits: an error. -/
theorem atoi_no (s : ByteArray) (w : World) (hE : EnvM w) (hs : s.size ≤ 100000) (h : ∀ v, Lib.atoiAll s.data.toList ≠ .ok v) :
    Calls Tryz.prog 114 #[.string s] w fun e w' => ∃ (x : Int) (N : Nat), e = .returned (.tuple #[.int .i64 x, .iface 148 (.pointer (some ⟨N, 0, none⟩))]) ∧ Below w.heap.size w w' := by
  obtain ⟨te, pe, h1⟩ := hE.syn
  obtain ⟨tr, pr, h2⟩ := hE.rng
  cases hx : Lib.atoiAll s.data.toList with
  | ok v => exact absurd hx (h v)
  | range => exact (Tryz.strconv_Atoi_range_var s (by omega) hx tr pr w h2).mono fun e w' ⟨N, he, _, _, hb⟩ => ⟨_, N, he, hb⟩
  | _ => exact (Any.strconv_Atoi_syntax_var Tryz.laysC172 s (by omega) hx te pe w h1).mono fun e w' ⟨N, he, _, _, hb⟩ => ⟨_, N, he, hb⟩
theorem atoi_yes (s : ByteArray) (v : Int) (w : World) (hs : s.size ≤ 100000) (h : Lib.atoiAll s.data.toList = .ok v) :
    Calls Tryz.prog 114 #[.string s] w fun e w' => e = .returned (.tuple #[.int .i64 v, .nilIface]) ∧ Below w.heap.size w w' :=
  (Tryz.strconv_Atoi_ok s (by omega) v h w).mono fun e w' ⟨he, hw⟩ => ⟨he, by
    rcases hw with rfl | ⟨t, rfl⟩
    · exact Below.refl _ _
    · exact Lib.bytesWorld_below w 5 t⟩
theorem itoa_b (n : Int) (t : ByteArray) (w : World) (hE : EnvM w) (hn : I64 n) (e : Hid (t = bs (Lib.itoa n))) :
    Calls Tryz.prog 57 #[.int .i64 n] w fun e w' => e = .returned (.string t) ∧ Below w.heap.size w w' :=
  (Tryz.strconv_Itoa n hn.1 hn.2 w hE.tab).mono fun e' w' ⟨he, k, os, hw⟩ => ⟨by rw [e.out]; exact he, by rw [hw]; exact Lib.below_grow _ w (Nat.le_refl _) k os⟩

/-- The value and the truth of a number that may be none. -/
def optI (o : Option Nat) : Int := match o with | some n => n | none => 0
theorem num_no1 {l : List UInt8} (h : ∀ v, Lib.atoiAll l ≠ .ok v) (lo hi : Nat) (hh : hi ≤ 1000000) : numR l lo hi = none := by
  unfold numR
  rw [if_neg]
  rintro ⟨a, b, c⟩
  exact h _ (atoi_canon a (by omega))
theorem num_ok {l : List UInt8} {v : Int} (h : Lib.atoiAll l = .ok v) (lo hi : Nat) (hh : hi ≤ 1000000) : (Lib.itoa v = l ∧ (lo : Int) ≤ v ∧ v ≤ hi → ∃ n : Nat, v = n ∧ numR l lo hi = some n) ∧ (¬ (Lib.itoa v = l ∧ (lo : Int) ≤ v ∧ v ≤ hi) → numR l lo hi = none) := by
  refine ⟨fun ⟨a, b, c⟩ => ?_, fun hn => ?_⟩
  · obtain ⟨e1, e2⟩ := itoa_canon (by omega) a
    refine ⟨valN 0 l, e2.symm, ?_⟩
    unfold numR
    rw [if_pos ⟨e1, by omega, by omega⟩]
  · unfold numR
    rw [if_neg]
    rintro ⟨a, b, c⟩
    have h2 := atoi_canon a (by omega)
    rw [h] at h2
    injection h2 with h2
    refine hn ⟨?_, by omega, by omega⟩
    unfold Lib.itoa
    rw [if_neg (by omega), h2, Int.toNat_natCast]
    exact dec_of_canon a

theorem atoi_i64 {l : List UInt8} {v : Int} (h : Lib.atoiAll l = .ok v) : I64 v := by
  cases l with
  | nil => cases h
  | cons c r =>
    unfold Lib.atoiAll at h
    simp only at h
    split at h
    · cases h
    · cases h
    · split at h
      · cases h
      · split at h
        · cases h
        · rename_i u _ h1 h2
          injection h with h
          subst h
          refine ⟨?_, ?_⟩ <;> split <;> omega

set_option maxHeartbeats 1000000 in
theorem dnumber_b (s : ByteArray) (lo hi : Nat) (o : Option Nat) (W : World) (hE : EnvM W) (hs : s.size ≤ 100000) (hh : hi ≤ 1000000) (_hl : lo ≤ 1000000) (e : Hid (o = numR s.data.toList lo hi)) :
    Calls Tryz.prog 101 #[.string s, .int .i64 lo, .int .i64 hi] W fun e w' => e = .returned (.tuple #[.int .i64 (optI o), .bool o.isSome]) ∧ Below W.heap.size W w' := by
  by_cases hok : ∃ v, Lib.atoiAll s.data.toList = .ok v
  · obtain ⟨v, hv⟩ := hok
    obtain ⟨y, n⟩ := num_ok hv lo hi hh
    have hv64 : I64 v := atoi_i64 hv
    by_cases hc : Lib.itoa v = s.data.toList ∧ (lo : Int) ≤ v ∧ v ≤ hi
    · obtain ⟨k, hk0, hk⟩ := y hc
      have e := e.out.trans hk
      subst e
      obtain ⟨h1, h2, h3⟩ := hc
      have HV := Lib.hid hv
      have ht : bs (Lib.itoa v) = s := by rw [h1]; exact bs_of s
      have HT := Lib.hid ht.symm
      have HK := Lib.hid hk0
      have z1 : decide (v < lo) = false := decide_eq_false (by omega)
      have z2 : decide ((hi : Int) < v) = false := decide_eq_false (by omega)
      clear hv y n hk ht h1 hk0 h2 h3
      go_enter Tryz.func101, Tryz.ntmps101
      go_wp2_with fail
      ((with_reducible refine (atoi_yes s v _ hs HV.out).mono ?_); rintro e w1 ⟨rfl, hb1⟩)
      go_wp2_with fail
      ((with_reducible refine (itoa_b v s _ (hE.keep hb1) hv64 HT).mono ?_); rintro e w2 ⟨rfl, hb2⟩)
      go_wp2_with fail
      go_ret2
      exact ⟨by rw [HK.out]; rfl, below_call hb1 hb2⟩
    · have e := e.out.trans (n hc)
      subst e
      have HV := Lib.hid hv
      obtain ⟨t, ht⟩ : ∃ t, Hid (t = bs (Lib.itoa v)) := ⟨_, hid rfl⟩
      by_cases h1 : t = s
      · subst h1
        have h2 : ¬ ((lo : Int) ≤ v ∧ v ≤ hi) := fun q => hc ⟨by rw [ht.out, bs_list], q⟩
        by_cases h3 : v < lo
        · have z1 : decide (v < lo) = true := decide_eq_true h3
          clear hv y n hc h2
          go_enter Tryz.func101, Tryz.ntmps101
          go_wp2_with fail
          ((with_reducible refine (atoi_yes t v _ hs HV.out).mono ?_); rintro e w1 ⟨rfl, hb1⟩)
          go_wp2_with fail
          ((with_reducible refine (itoa_b v t _ (hE.keep hb1) hv64 ht).mono ?_); rintro e w2 ⟨rfl, hb2⟩)
          go_wp2_with fail
          go_ret2
          exact ⟨rfl, below_call hb1 hb2⟩
        · have z1 : decide (v < lo) = false := decide_eq_false h3
          have z2 : decide ((hi : Int) < v) = true := decide_eq_true (by omega)
          clear hv y n hc h2 h3
          go_enter Tryz.func101, Tryz.ntmps101
          go_wp2_with fail
          ((with_reducible refine (atoi_yes t v _ hs HV.out).mono ?_); rintro e w1 ⟨rfl, hb1⟩)
          go_wp2_with fail
          ((with_reducible refine (itoa_b v t _ (hE.keep hb1) hv64 ht).mono ?_); rintro e w2 ⟨rfl, hb2⟩)
          go_wp2_with fail
          go_ret2
          exact ⟨rfl, below_call hb1 hb2⟩
      · have z0 := ba_ne h1
        clear hv y n hc h1
        go_enter Tryz.func101, Tryz.ntmps101
        go_wp2_with fail
        ((with_reducible refine (atoi_yes s v _ hs HV.out).mono ?_); rintro e w1 ⟨rfl, hb1⟩)
        go_wp2_with fail
        ((with_reducible refine (itoa_b v t _ (hE.keep hb1) hv64 ht).mono ?_); rintro e w2 ⟨rfl, hb2⟩)
        go_wp2_with fail
        go_ret2
        exact ⟨rfl, below_call hb1 hb2⟩
  · have hn : ∀ v, Lib.atoiAll s.data.toList ≠ .ok v := fun v h => hok ⟨v, h⟩
    have e := e.out.trans (num_no1 hn lo hi hh)
    subst e
    have HN := Lib.hid hn
    clear hn hok
    go_enter Tryz.func101, Tryz.ntmps101
    go_wp2_with fail
    ((with_reducible refine (atoi_no s _ hE hs HN.out).mono ?_); rintro e w1 ⟨x, M, rfl, hb1⟩)
    go_wp2_with fail
    go_ret2
    exact ⟨rfl, hb1⟩

theorem cut_b (s : ByteArray) (c : UInt8) (x y : ByteArray) (f : Bool) (w : World) (hE : EnvM w) (hs : s.size ≤ 100000) (e1 : Hid (x = bs (cutC c s.data.toList).1)) (e2 : Hid (y = bs (cutC c s.data.toList).2.1)) (e3 : Hid (f = (cutC c s.data.toList).2.2)) :
    Calls Tryz.prog 73 #[.string s, .string ⟨#[c]⟩] w fun e w' => e = .returned (.tuple #[.string x, .string y, .bool f]) ∧ Below w.heap.size w w' := by
  obtain ⟨m, hm⟩ := hE.len
  refine (Tryz.strings_Cut s ⟨#[c]⟩ m w (by omega) hm).mono ?_
  rintro e w' ⟨rfl, k, rfl⟩
  refine ⟨?_, below_many (Below.refl _ _) k⟩
  have hc : Lib.cut s.data.toList (ByteArray.mk #[c]).data.toList = cutC c s.data.toList := cut_byte c _
  rw [hc, e1.out, e2.out, e3.out]
  rfl
theorem prefix_b (s p x : ByteArray) (f : Bool) (w : World) (e : Hid ((stripB p.data.toList s.data.toList = some x.data.toList ∧ f = true) ∨ (stripB p.data.toList s.data.toList = none ∧ x = s ∧ f = false))) :
    Calls Tryz.prog 72 #[.string s, .string p] w fun e w' => e = .returned (.tuple #[.string x, .bool f]) ∧ w = w' := by
  refine (Tryz.strings_CutPrefix s p w).mono ?_
  rintro e' w' ⟨rfl, hw⟩
  refine ⟨?_, hw.symm⟩
  rcases e.out with ⟨h1, rfl⟩ | ⟨h1, rfl, rfl⟩
  · have h2 := (strip_iff _ _ _).1 h1
    have h3 : Lib.hasPrefix s.data.toList p.data.toList = true := by unfold Lib.hasPrefix; rw [h2]; exact List.isPrefixOf_iff_prefix.2 ⟨_, rfl⟩
    have h4 : Lib.trimPrefix s.data.toList p.data.toList = x.data.toList := by unfold Lib.trimPrefix; rw [h3, if_pos rfl, h2, List.drop_left]
    rw [h3, h4]
  · have h3 : Lib.hasPrefix x.data.toList p.data.toList = false := by
      unfold stripB at h1
      unfold Lib.hasPrefix
      cases hp : p.data.toList.isPrefixOf x.data.toList with
      | false => rfl
      | true => rw [if_pos hp] at h1; cases h1
    have h4 : Lib.trimPrefix x.data.toList p.data.toList = x.data.toList := by unfold Lib.trimPrefix; rw [h3]; rfl
    rw [h3, h4]

def optP (o : Option (Nat × Nat)) : Nat × Nat := match o with | some p => p | none => (0, 0)

/-- What pair answers: its numbers where each is one, and whether both are. -/
theorem bs_le {l : List UInt8} {s : ByteArray} (h : l.length ≤ s.data.toList.length) : (bs l).size ≤ s.size := by rw [bs_size, ← Lib.size_eq] at *; exact h
set_option maxHeartbeats 1000000 in
theorem dpair_b (s : ByteArray) (lo hi : Nat) (a b : Option Nat) (W : World) (hE : EnvM W) (hs : s.size ≤ 100000) (hh : hi ≤ 1000000) (hl : lo ≤ 1000000) (ea : Hid (a = numR (cutC 32 s.data.toList).1 lo hi)) (eb : Hid (b = numR (cutC 32 s.data.toList).2.1 lo hi)) :
    Calls Tryz.prog 74 #[.string s, .int .i64 lo, .int .i64 hi] W fun e w' => e = .returned (.tuple #[.int .i64 (optI a), .int .i64 (optI b), .bool (a.isSome && b.isSome)]) ∧ Below W.heap.size W w' := by
  obtain ⟨x, hx⟩ : ∃ x, Hid (x = bs (cutC 32 s.data.toList).1) := ⟨_, hid rfl⟩
  obtain ⟨y, hy⟩ : ∃ x, Hid (x = bs (cutC 32 s.data.toList).2.1) := ⟨_, hid rfl⟩
  obtain ⟨f, hf⟩ : ∃ x, Hid (x = (cutC 32 s.data.toList).2.2) := ⟨_, hid rfl⟩
  have hle := cutC_le (c := 32) s.data.toList
  have sx : x.size ≤ 100000 := by rw [hx.out]; exact Nat.le_trans (bs_le hle.1) hs
  have sy : y.size ≤ 100000 := by rw [hy.out]; exact Nat.le_trans (bs_le hle.2) hs
  have ea' : Hid (a = numR x.data.toList lo hi) := by rw [hx.out, bs_list]; exact ea
  have eb' : Hid (b = numR y.data.toList lo hi) := by rw [hy.out, bs_list]; exact eb
  clear hle ea eb
  go_enter Tryz.func74, Tryz.ntmps74
  go_wp2_with fail
  ((with_reducible refine (cut_b s 32 x y f _ hE hs hx hy hf).mono ?_); rintro e w1 ⟨rfl, hb1⟩)
  go_wp2_with fail
  ((with_reducible refine (dnumber_b x lo hi a _ (hE.keep hb1) sx hh hl ea').mono ?_); rintro e w2 ⟨rfl, hb2⟩)
  have hL := below_call hb1 hb2
  clear hb1 hb2
  go_wp2_with fail
  ((with_reducible refine (dnumber_b y lo hi b _ (hE.keep hL) sy hh hl eb').mono ?_); rintro e w3 ⟨rfl, hb3⟩)
  replace hL := below_call hL hb3
  clear hb3
  cases a with
  | none =>
    go_wp2_with fail
    go_ret3
    exact ⟨rfl, hL⟩
  | some n =>
    go_wp2_with fail
    go_ret3
    exact ⟨rfl, hL⟩

theorem dnum1_b (s : ByteArray) (o : Option Nat) (W : World) (hE : EnvM W) (hs : s.size ≤ 100000) (e : Hid (o = numR s.data.toList 1 1000000)) :
    Calls Tryz.prog 101 #[.string s, .int .i64 1, .int .i64 1000000] W fun e w' => e = .returned (.tuple #[.int .i64 (optI o), .bool o.isSome]) ∧ Below W.heap.size W w' :=
  dnumber_b s 1 1000000 o W hE hs (by omega) (by omega) e
theorem dpair1_b (s : ByteArray) (a b : Option Nat) (W : World) (hE : EnvM W) (hs : s.size ≤ 100000) (ea : Hid (a = numR (cutC 32 s.data.toList).1 1 32)) (eb : Hid (b = numR (cutC 32 s.data.toList).2.1 1 32)) :
    Calls Tryz.prog 74 #[.string s, .int .i64 1, .int .i64 32] W fun e w' => e = .returned (.tuple #[.int .i64 (optI a), .int .i64 (optI b), .bool (a.isSome && b.isSome)]) ∧ Below W.heap.size W w' :=
  dpair_b s 1 32 a b W hE hs (by omega) (by omega) ea eb
theorem dpair0_b (s : ByteArray) (a b : Option Nat) (W : World) (hE : EnvM W) (hs : s.size ≤ 100000) (ea : Hid (a = numR (cutC 32 s.data.toList).1 0 31)) (eb : Hid (b = numR (cutC 32 s.data.toList).2.1 0 31)) :
    Calls Tryz.prog 74 #[.string s, .int .i64 0, .int .i64 31] W fun e w' => e = .returned (.tuple #[.int .i64 (optI a), .int .i64 (optI b), .bool (a.isSome && b.isSome)]) ∧ Below W.heap.size W w' :=
  dpair_b s 0 31 a b W hE hs (by omega) (by omega) ea eb

end

section
open Go.RowKit Go.Lib

theorem words_snoc (b : List UInt8) (ns : List Nat) (n : Nat) : wordsV b (ns ++ [n]) = wordsV b ns ++ 32 :: decDigits n := by
  unfold wordsV; rw [List.foldl_append]; rfl
theorem itoa_nat (n : Nat) : Lib.itoa (n : Int) = decDigits n := by
  unfold Lib.itoa; rw [if_neg (by omega), Int.toNat_natCast]
theorem words_len (b : List UInt8) (ns : List Nat) (hn : ∀ n ∈ ns, n ≤ 1000000) : (wordsV b ns).length ≤ b.length + 8 * ns.length := by
  unfold wordsV
  induction ns generalizing b with
  | nil => simp
  | cons n ns ih =>
    have h1 := ih (b ++ 32 :: decDigits n) (fun m hm => hn m (List.mem_cons_of_mem _ hm))
    have h2 : (decDigits n).length ≤ 7 := dec_len 6 n (by have := hn n (by simp); rw [show (10 : Nat) ^ (6 + 1) = 10000000 from rfl]; omega)
    rw [List.foldl_cons]
    rw [List.length_append, List.length_cons] at h1
    rw [List.length_cons]
    omega
theorem words_next {b : List UInt8} {ns : List Nat} {k : Nat} (hk : k < ns.length) {t u : ByteArray} (ht : t = bs (wordsV b (ns.take k))) (hu : u = bs (Lib.itoa ((ns[k]'hk : Nat) : Int))) : t ++ (ByteArray.mk #[32] ++ u) = bs (wordsV b (ns.take (k + 1))) := by
  rw [List.take_succ_eq_append_getElem hk, words_snoc, ht, hu, itoa_nat]
  show bs _ ++ (bs [32] ++ bs _) = _
  rw [bs_app, bs_app]
  rfl

set_option maxHeartbeats 1000000 in
theorem dwords_b (b : ByteArray) (ns : List Nat) (g : Nat) (ty : TypeId) (T : ByteArray) (W : World) (hE : EnvM W) (hs : b.size ≤ 1000) (hn : ∀ n ∈ ns, n ≤ 1000000) (hl : ns.length ≤ 3)
    (hB : Blk W g (ns.map fun (n : Nat) => Value.int .i64 (n : Int)) ty) (e : Hid (T = bs (wordsV b.data.toList ns))) :
    Calls Tryz.prog 23 #[.string b, .slice (some ⟨g, 0, none⟩) ns.length ns.length] W fun e w' => e = .returned (.string T) ∧ Below W.heap.size W w' := by
  go_enter Tryz.func23, Tryz.ntmps23
  go_wp2
  go_loopw [0, 6, 9] (fun vt _ vi wr => ∃ (k : Nat) (t : ByteArray), vi = .int .i64 k ∧ vt = .string t ∧ k ≤ ns.length ∧ Hid (t = bs (wordsV b.data.toList (ns.take k))) ∧ Below W.heap.size W wr) (fun _ _ vi _ => ns.length - (RowKit.intOf vi).toNat)
  case atStart => exact ⟨0, b, rfl, rfl, by omega, hid (by rw [List.take_zero]; exact (bs_of b).symm), Below.refl _ _⟩
  case round =>
    obtain ⟨k, t, rfl, rfl, hk, hT, hL⟩ := hrel
    have hts : t.size ≤ 1024 := by
      rw [hT.out, bs_size]
      have h1 := words_len b.data.toList (ns.take k) (fun n hm => hn n (List.mem_of_mem_take hm))
      rw [← Lib.size_eq, List.length_take] at h1
      omega
    by_cases hlt : k < ns.length
    · obtain ⟨u, hu⟩ : ∃ u, Hid (u = bs (Lib.itoa ((ns[k]'hlt : Nat) : Int))) := ⟨_, hid rfl⟩
      have hun := hn (ns[k]'hlt) (List.getElem_mem _)
      have hus : u.size ≤ 7 := by
        rw [hu.out, bs_size, itoa_nat]
        exact dec_len 6 _ (by rw [show (10 : Nat) ^ (6 + 1) = 10000000 from rfl]; omega)
      have hc := (hB.below hL).cell k
      rw [List.getElem?_map, List.getElem?_eq_getElem hlt] at hc
      simp only [Option.map_some] at hc
      have HN := Lib.hid (words_next hlt hT.out hu.out)
      have k0 : (0 : Int) ≤ k := by omega
      have k1 : (k : Int) < ns.length := by omega
      have hI : I64 ((ns[k]'hlt : Nat) : Int) := ⟨by omega, by omega⟩
      generalize ((ns[k]'hlt : Nat) : Int) = x at *
      clear hT
      go_wp2_with fail
      ((with_reducible refine (itoa_b x u _ (hE.keep hL) hI hu).mono ?_); rintro e w' ⟨rfl, hb⟩)
      replace hL := below_call hL hb
      clear hb
      go_wp2_with fail
      go_roundw
      case rel => exact ⟨k + 1, _, by go_num, rfl, by omega, HN, hL⟩
      case measure => simp [RowKit.intOf]; omega
    · obtain rfl : k = ns.length := by omega
      have HE : Hid (t = T) := hid (by rw [hT.out, e.out, List.take_length])
      clear hT
      go_wp2_with fail
      go_ret
      exact ⟨ret_str HE.out, hL⟩

theorem dwords2_b (b : ByteArray) (x y : Nat) (g : Nat) (ty : TypeId) (T : ByteArray) (W : World) (hE : EnvM W) (hs : b.size ≤ 1000) (hx : x ≤ 1000000) (hy : y ≤ 1000000)
    (hB : Blk W g [.int .i64 x, .int .i64 y] ty) (e : Hid (T = bs (wordsV b.data.toList [x, y]))) :
    Calls Tryz.prog 23 #[.string b, .slice (some ⟨g, 0, none⟩) 2 2] W fun e w' => e = .returned (.string T) ∧ Below W.heap.size W w' :=
  dwords_b b [x, y] g ty T W hE hs (fun n hn => by simp only [List.mem_cons, List.not_mem_nil, or_false] at hn; omega) (by simp) hB e
theorem dwords3_b (b : ByteArray) (x y z : Nat) (g : Nat) (ty : TypeId) (T : ByteArray) (W : World) (hE : EnvM W) (hs : b.size ≤ 1000) (hx : x ≤ 1000000) (hy : y ≤ 1000000) (hz : z ≤ 1000000)
    (hB : Blk W g [.int .i64 x, .int .i64 y, .int .i64 z] ty) (e : Hid (T = bs (wordsV b.data.toList [x, y, z]))) :
    Calls Tryz.prog 23 #[.string b, .slice (some ⟨g, 0, none⟩) 3 3] W fun e w' => e = .returned (.string T) ∧ Below W.heap.size W w' :=
  dwords_b b [x, y, z] g ty T W hE hs (fun n hn => by simp only [List.mem_cons, List.not_mem_nil, or_false] at hn; omega) (by simp) hB e
theorem strip_cases (p s : ByteArray) : ∃ (x : ByteArray) (f : Bool), Hid ((stripB p.data.toList s.data.toList = some x.data.toList ∧ f = true) ∨ (stripB p.data.toList s.data.toList = none ∧ x = s ∧ f = false)) ∧ x.size ≤ s.size := by
  cases h : stripB p.data.toList s.data.toList with
  | none => exact ⟨s, false, hid (.inr ⟨rfl, rfl, rfl⟩), Nat.le_refl _⟩
  | some t =>
    refine ⟨bs t, true, hid (.inl ⟨by rw [bs_list], rfl⟩), ?_⟩
    have := congrArg List.length ((strip_iff _ _ _).1 h)
    rw [List.length_append] at this
    rw [bs_size, Lib.size_eq s, this]
    omega
theorem amount_size : (ByteArray.mk #[97, 109, 111, 117, 110, 116]).size = 6 := by decide

set_option maxHeartbeats 1000000 in
theorem damount_b (s : ByteArray) (x y : Nat) (o : Option Nat) (W : World) (hE : EnvM W) (hs : s.size ≤ 100000) (hx : x ≤ 1000) (hy : y ≤ 1000) (e : Hid (o = amtv x y s.data.toList)) :
    Calls Tryz.prog 80 #[.string s, .agg #[.int .i64 x, .int .i64 y]] W fun e w' => e = .returned (.tuple #[.int .i64 (optI o), .bool o.isSome]) ∧ Below W.heap.size W w' := by
  obtain ⟨T, hT⟩ : ∃ T, Hid (T = bs (wordsV (ByteArray.mk #[97, 109, 111, 117, 110, 116]).data.toList [x, y])) := ⟨_, hid rfl⟩
  have hTs : T.size ≤ 100 := by
    rw [hT.out, bs_size]
    refine Nat.le_trans (words_len _ [x, y] (fun n hn => ?_)) (by simp)
    simp only [List.mem_cons, List.not_mem_nil, or_false] at hn
    omega
  obtain ⟨u, f, hu, hus⟩ := strip_cases (T ++ ByteArray.mk #[32]) s
  have hP : (T ++ ByteArray.mk #[32]).data.toList = amtP x y := by
    rw [hT.out]
    show (bs _ ++ bs [32]).data.toList = _
    rw [bs_app, bs_list]
    rfl
  have hB0 := Blk.new W [.int .i64 x, .int .i64 y] 41
  have hL0 := (Below.refl W.heap.size W).alloc (Nat.le_refl _) (.cells [Value.int .i64 x, .int .i64 y].toArray 41)
  have hB1 := (Blk.new (W.alloc (.cells [Value.int .i64 x, .int .i64 y].toArray 41)) [.int .i64 x, .int .i64 y] 3).at (World.size_alloc _ _)
  have hL1 := hL0.alloc (by simp) (.cells [Value.int .i64 x, .int .i64 y].toArray 3)
  have c1 := fun w hE hB => dwords2_b (ByteArray.mk #[97, 109, 111, 117, 110, 116]) x y (W.heap.size + 1) 3 T w hE (by rw [amount_size]; omega) (by omega) (by omega) hB hT
  have hsum : T.size + 1 ≤ 101 := by omega
  have ho : ((f = true ∧ ∃ v, Hid (o = numR u.data.toList 1 1000000) ∧ v = 0) ∨ (f = false ∧ o = none)) := by
    have h := hu.out
    rw [hP] at h
    have e1 := e.out
    unfold amtv at e1
    rcases h with ⟨h1, h2⟩ | ⟨h1, _, h2⟩
    · rw [h1] at e1; exact .inl ⟨h2, 0, hid e1, rfl⟩
    · rw [h1] at e1; exact .inr ⟨h2, e1⟩
  clear e hP
  go_enter Tryz.func80, Tryz.ntmps80
  go_wp2_with fail
  ((with_reducible refine (c1 _ (hE.keep hL1) hB1).mono ?_); rintro e w1 ⟨rfl, hb1⟩)
  have hL := hL1.trans (hb1.mono hL1.size)
  clear hb1 hL0 hL1 hB0 hB1 c1
  go_wp2_with fail
  ((with_reducible refine (prefix_b s (T ++ ByteArray.mk #[32]) u f _ hu).mono ?_); rintro e w' ⟨rfl, rfl⟩)
  clear hu
  rcases ho with ⟨rfl, _, ho, _⟩ | ⟨rfl, rfl⟩
  · go_wp2_with fail
    ((with_reducible refine (dnum1_b u o _ (hE.keep hL) (by omega) ho).mono ?_); rintro e w2 ⟨rfl, hb2⟩)
    replace hL := below_call hL hb2
    clear hb2
    go_wp2_with fail
    go_ret2
    exact ⟨rfl, hL⟩
  · go_wp2_with fail
    go_ret2
    exact ⟨rfl, hL⟩

end

section
open Go.RowKit Go.Lib

theorem sizeBld : (Tryz.prog.info? 48).map (·.size) = some 2 := by kernel_rfl
theorem liesBld : liesAt Tryz.prog Tryz.prog.depth 48 (2 / Tryz.prog.cellsOf 48) 0 48 1 = true := by kernel_rfl

set_option maxHeartbeats 1000000 in
set_option maxRecDepth 100000 in
theorem dcopy_used (b : Nat) (w : World) (h0 : w.cell? ⟨b, 0, none⟩ = some (.pointer (some ⟨b, 0, none⟩))) :
    Calls Tryz.prog 56 #[.pointer (some ⟨b, 0, none⟩)] w fun e w' => e = .returned (.tuple #[]) ∧ w' = w := by
  obtain ⟨j, hj, _⟩ := Option.map_eq_some_iff.1 sizeBld
  go_enter Tryz.func56, Tryz.ntmps56
  go_wp2
  rw [Lib.run_neq_ptr_same w _ Tryz.underlying45 hj]
  go_wp2
  go_end0
  exact ⟨rfl, rfl⟩
set_option maxHeartbeats 1000000 in
set_option maxRecDepth 100000 in
theorem dcopy_fresh (b : Nat) (w : World) (h0 : w.cell? ⟨b, 0, none⟩ = some (.pointer none)) (hsh : w.shape? b = some (48, 2)) (hfz : w.frozen? ⟨b, 0, none⟩ = false) :
    Calls Tryz.prog 56 #[.pointer (some ⟨b, 0, none⟩)] w fun e w' => e = .returned (.tuple #[]) ∧ w' = w.setCell ⟨b, 0, none⟩ (.pointer (some ⟨b, 0, none⟩)) := by
  obtain ⟨j, hj, hjs⟩ := Option.map_eq_some_iff.1 sizeBld
  go_enter Tryz.func56, Tryz.ntmps56
  go_wp2
  rw [Lib.run_to_unsafe w ⟨b, 0, none⟩ Tryz.underlying45 Tryz.underlying113 hj (by rw [hjs]; decide) hsh (Nat.zero_lt_succ 1)]
  simp only [Result.andThen]
  rw [Oper.upon_value]
  go_wp2
  rw [run_callFunc_extern Tryz.func87 (by kernel_rfl) (by kernel_rfl) (by kernel_rfl) (e := Extern.AbiNoEscape.same) (by kernel_rfl)]
  rw [Lib.run_noEscape]
  simp only [Result.andThen]
  rw [Oper.upon_value]
  go_wp2
  rw [Lib.run_from_unsafe w ⟨b, 0, none⟩ Tryz.underlying113 Tryz.underlying45 hj hsh liesBld]
  simp only [Result.andThen]
  rw [Oper.upon_value]
  go_wp2
  go_end0
  exact ⟨rfl, rfl⟩

theorem dcopy_b (B b : Nat) (xs : List Value) (w : World) (h : Lib.IsBuilder 48 5 B b xs w) :
    Calls Tryz.prog 56 #[.pointer (some ⟨b, 0, none⟩)] w fun e w' => e = .returned (.tuple #[]) ∧ (Lib.BuilderAt 48 5 B b (.pointer (some ⟨b, 0, none⟩)) xs w' ∧ Below B w w') := by
  rcases h with h | h
  · refine (dcopy_fresh b w h.cell0 h.shape h.frozen0).mono ?_
    rintro e w' ⟨rfl, rfl⟩
    exact ⟨rfl, h.used _, (Below.refl B w).setCell (p := ⟨b, 0, none⟩) h.1 _⟩
  · refine (dcopy_used b w h.cell0).mono ?_
    rintro e w' ⟨rfl, rfl⟩
    exact ⟨rfl, h, Below.refl B _⟩
theorem infoByte : (Tryz.prog.info? 5).map (fun i => (i.zero, i.size, i.bytes)) = some (some (.int .u8 0), 1, 1) := by kernel_rfl

set_option maxHeartbeats 2000000 in
set_option maxRecDepth 100000 in
/-- WriteString: what was held, and the text behind it. -/
theorem dwrite_b (B b : Nat) (xs : List Value) (s : ByteArray) (w : World) (h : Lib.IsBuilder 48 5 B b xs w) (hlen : xs.length + s.size ≤ 140737488355328) (hBw : B ≤ w.heap.size) :
    Calls Tryz.prog 22 #[.pointer (some ⟨b, 0, none⟩), .string s] w fun e w' => e = .returned (.tuple #[.int .i64 s.size, .nilIface]) ∧ (Lib.BuilderAt 48 5 B b (.pointer (some ⟨b, 0, none⟩)) (xs ++ Lib.strCells s) w' ∧ Below B w w') := by
  obtain ⟨i0, hi, hz0, hz1, hz2⟩ := info_parts infoByte
  go_enter Tryz.func22, Tryz.ntmps22
  go_wp2_with fail
  ((with_reducible refine (dcopy_b B b xs _ h).mono ?_); rintro e w1 ⟨rfl, h1, hb1⟩)
  obtain ⟨hB, v, hbk, hown, hne⟩ := h1
  have c0 : w1.cell? ⟨b, 0, none⟩ = some (.pointer (some ⟨b, 0, none⟩)) := by rw [Lib.cell_of_heap hbk]; rfl
  have c1 : w1.cell? ⟨b, 1, none⟩ = some v := by rw [Lib.cell_of_heap hbk]; rfl
  go_wp2_with (at_builtin; refine Lib.wpList_append_own_string _ rfl _ _ 46 9 rfl B 5 i0 Tryz.underlying46 Tryz.underlying9 hi hz0 hz1 hz2 _ _ _ rfl hown s rfl ?c3 ?c4 ?c5 ?_)
  case c3 => unfold maxLen; omega
  case c4 => omega
  case c5 => have := hb1.size; omega
  intro v' w2 hown' hgrow _
  have hlt : b < w1.heap.size := by
    rcases Nat.lt_or_ge b w1.heap.size with h' | h'
    · exact h'
    · simp [Array.getElem?_eq_none h'] at hbk
  have hb2 : w2.heap[b]? = some (.cells #[.pointer (some ⟨b, 0, none⟩), v] 48 (0, 0)) := by
    rw [hgrow.block b hlt (fun e => hne e.symm)]
    exact hbk
  have d0 : w2.cell? ⟨b, 0, none⟩ = some (.pointer (some ⟨b, 0, none⟩)) := by rw [Lib.cell_of_heap hb2]; rfl
  have d1 : w2.cell? ⟨b, 1, none⟩ = some v := by rw [Lib.cell_of_heap hb2]; rfl
  have f1 : w2.frozen? ⟨b, 1, none⟩ = false := Lib.frozen_of_heap hb2 1
  obtain ⟨ao, n', cap, rfl⟩ : ∃ ao n' cap, v' = .slice ao n' cap := by
    rcases hown'.2 with ⟨hv, _⟩ | ⟨g, cap, cur, hv, _⟩
    · exact ⟨_, _, _, hv⟩
    · exact ⟨_, _, _, hv⟩
  go_wp2
  go_ret2
  refine ⟨rfl, ?_, ?_⟩
  · exact Lib.BuilderAt.put (T := 48) (e := 5) hB hb2 (bs' := xs ++ Lib.strCells s) (by simpa [Lib.strCells_length] using hown') (by decide)
  · exact (hb1.grown hgrow (by have := hb1.size; omega) (fun k hk => (hown.lt k hk).1)).setCell (p := ⟨b, 1, none⟩) hB _

end

section
open Go.RowKit Go.Lib Go.Maps

/-- The characters of the kinds, as a map reads. -/
def kindD : DataW Unit := (((((DataW.map []).put (.int .i64 1) (.lit (.int .u8 46))).put (.int .i64 2) (.lit (.int .u8 126))).put (.int .i64 3) (.lit (.int .u8 35))).put (.int .i64 4) (.lit (.int .u8 84))).put (.int .i64 5) (.lit (.int .u8 42))
def KindMap (w : World) (b : Nat) : Prop := w.ownsMap Tryz.prog 3 (plainElem (H := Unit) Tryz.prog 5) b 5 kindD
theorem lawInt : Keyed Tryz.prog 3 := int_keyed Tryz.underlying3
theorem own_map_below {w w' : World} {b n : Nat} {D : DataW Unit} (h : w.ownsMap Tryz.prog 3 (plainElem (H := Unit) Tryz.prog 5) b n D) (hb : Below w.heap.size w w') : w'.ownsMap Tryz.prog 3 (plainElem (H := Unit) Tryz.prog 5) b n D := by
  have hlt := h.lt
  obtain ⟨es, clock, hh, F, hs, hD⟩ := h
  exact ⟨es, clock, (hb.block b hlt).trans hh, F, hs, hD⟩
theorem KindMap.below {w w' : World} {b : Nat} (h : KindMap w b) (hb : Below w.heap.size w w') : KindMap w' b := own_map_below h hb

theorem wfK {k : Int} (h0 : 1 ≤ k) (h5 : k ≤ 5) : (Lit.int .i64 k).wf = true := by
  obtain rfl | rfl | rfl | rfl | rfl : k = 1 ∨ k = 2 ∨ k = 3 ∨ k = 4 ∨ k = 5 := by omega
  all_goals decide
theorem grown_two {a b c : World} {r : Nat} (h : a.grownBy b (some r)) (k : b.grownBy c (some r)) : a.grownBy c (some r) := h.andThen k (fun _j hj => .inr hj)

set_option maxHeartbeats 1000000 in
set_option maxRecDepth 100000 in
theorem dkinds_b (W : World) :
    Calls Tryz.prog 24 #[] W fun e w' => e = .returned (.map (some W.heap.size)) ∧ KindMap w' W.heap.size ∧ Below W.heap.size W w' := by
  have h0 := World.ownsMap_made (H := Unit) W Tryz.prog 3 (plainElem (H := Unit) Tryz.prog 5)
  obtain ⟨w1, r1, h1, g1⟩ := h0.update lawInt Tryz.underlying54 (by decide) (keyOf_int_mk Tryz.underlying3 (q := .i64) (a := 1) (by decide)) (plainElem_int Tryz.underlying5 (q := .u8) (a := 46) (by decide))
  obtain ⟨w2, r2, h2, g2⟩ := h1.update lawInt Tryz.underlying54 (by decide) (keyOf_int_mk Tryz.underlying3 (q := .i64) (a := 2) (by decide)) (plainElem_int Tryz.underlying5 (q := .u8) (a := 126) (by decide))
  obtain ⟨w3, r3, h3, g3⟩ := h2.update lawInt Tryz.underlying54 (by decide) (keyOf_int_mk Tryz.underlying3 (q := .i64) (a := 3) (by decide)) (plainElem_int Tryz.underlying5 (q := .u8) (a := 35) (by decide))
  obtain ⟨w4, r4, h4, g4⟩ := h3.update lawInt Tryz.underlying54 (by decide) (keyOf_int_mk Tryz.underlying3 (q := .i64) (a := 4) (by decide)) (plainElem_int Tryz.underlying5 (q := .u8) (a := 84) (by decide))
  obtain ⟨w5, r5, h5, g5⟩ := h4.update lawInt Tryz.underlying54 (by decide) (keyOf_int_mk Tryz.underlying3 (q := .i64) (a := 5) (by decide)) (plainElem_int Tryz.underlying5 (q := .u8) (a := 42) (by decide))
  have hL := Lib.hid (((Below.refl W.heap.size W).alloc (Nat.le_refl _) (.map #[] 0)).grown (grown_two (grown_two (grown_two (grown_two g1 g2) g3) g4) g5) (by simp) (fun k hk => by cases hk; exact Nat.le_refl _))
  have H5 := Lib.hid h5
  clear h0 h1 h2 h3 h4 h5 g1 g2 g3 g4 g5
  have hmm := @run_makeMap Tryz.prog
  go_enter Tryz.func24, Tryz.ntmps24
  go_wp2
  go_ret
  exact ⟨rfl, H5.out, hL.out⟩

/-- The character of a kind; the kinds of the map. -/
def kc (k : Int) : Int := if k = 1 then 46 else if k = 2 then 126 else if k = 3 then 35 else if k = 4 then 84 else 42
theorem kind_at {k : Int} (h0 : 1 ≤ k) (h5 : k ≤ 5) (z : DataW Unit) : kindD.atKey (.int .i64 k) z = .lit (.int .u8 (kc k)) := by
  obtain rfl | rfl | rfl | rfl | rfl : k = 1 ∨ k = 2 ∨ k = 3 ∨ k = 4 ∨ k = 5 := by omega
  all_goals rfl
theorem kind_has {kl : Lit} (h : Maps.has kindD kl = true) : ∃ k : Int, kl = .int .i64 k ∧ 1 ≤ k ∧ k ≤ 5 := by
  have e : Maps.has kindD kl = [((Lit.int .i64 1), ()), (.int .i64 2, ()), (.int .i64 3, ()), (.int .i64 4, ()), (.int .i64 5, ())].any (fun p => p.1.sameKey kl) := rfl
  rw [e] at h
  obtain ⟨p, hp, hk⟩ := List.any_eq_true.1 h
  have := WideAt.sameKey_eq hk
  simp only [List.mem_cons, List.not_mem_nil, or_false] at hp
  rcases hp with rfl | rfl | rfl | rfl | rfl
  all_goals exact ⟨_, this.symm, by decide, by decide⟩
theorem has_kind {k : Int} (h0 : 1 ≤ k) (h5 : k ≤ 5) : Maps.has kindD (.int .i64 k) = true := by
  obtain rfl | rfl | rfl | rfl | rfl : k = 1 ∨ k = 2 ∨ k = 3 ∨ k = 4 ∨ k = 5 := by omega
  all_goals rfl
/-- Where a character's kind was not found. -/
structure Seen (c : UInt8) (left : Lit → Bool) : Prop where
  sub : ∀ kl, left kl = true → Maps.has kindD kl = true
  not : ∀ k : Int, 1 ≤ k → k ≤ 5 → left (.int .i64 k) = false → kc k ≠ c.toNat
theorem seen_start (c : UInt8) : Seen c (Maps.has kindD) := ⟨fun _ h => h, fun k h0 h5 h => by rw [has_kind h0 h5] at h; cases h⟩
theorem seen_step {c : UInt8} {left : Lit → Bool} {x d : Int} (h : Seen c left) (hl : left (.int .i64 x) = true) (hat : ∀ zd : DataW Unit, kindD.atKey (.int .i64 x) zd = .lit (.int .u8 d)) (hd : (d == (c.toNat : Int)) = false) : Seen c (fun z => left z && !z.sameKey (.int .i64 x)) := by
  refine ⟨fun kl hk => h.sub kl (by simp at hk; exact hk.1), fun k h0 h5 hk => ?_⟩
  cases hk2 : left (.int .i64 k) with
  | false => exact h.not k h0 h5 hk2
  | true =>
    rw [hk2, Bool.true_and, Bool.not_eq_false'] at hk
    have e := WideAt.sameKey_eq hk
    injection e with _ e
    subst e
    have h1 := hat (.lit (.int .u8 0))
    rw [kind_at h0 h5] at h1
    injection h1 with h1
    injection h1 with _ h1
    rw [h1]
    exact beq_eq_false_iff_ne.1 hd
theorem kindV_kc {c : UInt8} {k : Int} (h0 : 1 ≤ k) (h5 : k ≤ 5) (e : kc k = c.toNat) : kindV c = some k := by
  have hc : ∀ n : Nat, (c.toNat : Int) = n → c.toNat = n := fun n h => by omega
  have hu : ∀ b : UInt8, c.toNat = b.toNat → c = b := fun b h => UInt8.toNat_inj.1 h
  obtain rfl | rfl | rfl | rfl | rfl : k = 1 ∨ k = 2 ∨ k = 3 ∨ k = 4 ∨ k = 5 := by omega
  · rw [hu 46 (hc 46 e.symm)]; rfl
  · rw [hu 126 (hc 126 e.symm)]; rfl
  · rw [hu 35 (hc 35 e.symm)]; rfl
  · rw [hu 84 (hc 84 e.symm)]; rfl
  · rw [hu 42 (hc 42 e.symm)]; rfl
theorem seen_found {c : UInt8} {left : Lit → Bool} {x d : Int} (h : Seen c left) (hl : left (.int .i64 x) = true) (hat : ∀ zd : DataW Unit, kindD.atKey (.int .i64 x) zd = .lit (.int .u8 d)) (hd : (d == (c.toNat : Int)) = true) : kindV c = some x := by
  obtain ⟨k, e, h0, h5⟩ := kind_has (h.sub _ hl)
  injection e with _ e
  subst e
  have h1 := hat (.lit (.int .u8 0))
  rw [kind_at h0 h5] at h1
  injection h1 with h1
  injection h1 with _ h1
  exact kindV_kc h0 h5 (by rw [h1]; exact beq_iff_eq.1 hd)
theorem kc_kindV {c : UInt8} {k : Int} (h : kindV c = some k) : 1 ≤ k ∧ k ≤ 5 ∧ kc k = c.toNat := by
  unfold kindV at h
  split at h
  · rename_i e; subst e; injection h with h; subst h; decide
  · split at h
    · rename_i e; subst e; injection h with h; subst h; decide
    · split at h
      · rename_i e; subst e; injection h with h; subst h; decide
      · split at h
        · rename_i e; subst e; injection h with h; subst h; decide
        · split at h
          · rename_i e; subst e; injection h with h; subst h; decide
          · cases h
theorem seen_end {c : UInt8} {left : Lit → Bool} (h : Seen c left) (hl : ∀ kl, left kl = false) : kindV c = none := by
  cases hk : kindV c with
  | none => rfl
  | some k =>
    obtain ⟨h0, h5, e⟩ := kc_kindV hk
    exact absurd e (h.not k h0 h5 (hl _))
def optK (o : Option Int) : Int := match o with | some k => k | none => 0

set_option maxHeartbeats 1000000 in
set_option maxRecDepth 100000 in
theorem dkindOf_b (b : Nat) (c : UInt8) (o : Option Int) (w : World) (hm : KindMap w b) (e : Hid (o = kindV c)) :
    Calls Tryz.prog 77 #[.map (some b), .int .u8 (c.toNat : Int)] w fun e w' => e = .returned (.tuple #[.int .i64 (optK o), .bool o.isSome]) ∧ Below w.heap.size w w' := by
  have hown : w.ownsMap Tryz.prog 3 (plainElem (H := Unit) Tryz.prog 5) b 5 kindD := hm
  clear hm
  go_enter Tryz.func77, Tryz.ntmps77
  go_wp2_with (first
    | (at_range; refine wpList_range_own _ rfl _ 54 rfl 3 5 lawInt Tryz.underlying54 _ b 5 _ rfl hown ?_; intro w0 hrg0 hg0 hs0)
    | fail)
  go_frame
  have hL0 : Below w.heap.size w w0 := (Below.refl _ _).grown hg0 (Nat.le_refl _) (fun k hk => by cases hk)
  go_loopw [6, 7, 10, 11, 12, 13, 14, 15, 16, 17] (fun _ _ _ _ _ _ _ _ _ _ wr => ∃ (left : Lit → Bool) (cnt : Nat), wr.ranges Tryz.prog 3 (plainElem (H := Unit) Tryz.prog 5) b w.heap.size 5 kindD left cnt ∧ Hid (Seen c left) ∧ Below w.heap.size w wr)
    (fun _ _ _ _ _ _ _ _ _ _ wr => wr.rangeLeft b w.heap.size)
  case atStart => exact ⟨_, _, hrg0, hid (seen_start c), hL0⟩
  case round =>
    clear hrg0 hg0 hs0 hL0
    obtain ⟨left, cnt, hrg, hS, hL⟩ := hrel
    go_wp2_with (first
      | (at_next; refine wpList_next_ranges_ii _ rfl _ rfl 3 5 .i64 .u8 lawInt Tryz.underlying3 Tryz.underlying5 b w.heap.size 5 _ _ _ rfl hrg ?_ ?_)
      | fail)
    · intro _ hl0
      have HE := Lib.hid (e.out.trans (seen_end hS.out hl0))
      clear hl0
      go_wp2
      go_ret2
      exact ⟨by rw [HE.out]; rfl, hL⟩
    · intro x d w1 cnt1 hwx hwd hlx hat hrg1 hlt hg1 hs1 hen
      have hL1 := hL.grown hg1 hL.size (fun k hk => by cases hk; exact Nat.le_refl _)
      have HL := Lib.hid (show left (.int .i64 x) = true ∧ ∀ zd : DataW Unit, kindD.atKey (.int .i64 x) zd = .lit (.int .u8 d) from ⟨hlx, hat⟩)
      clear hlx hat hg1 hs1
      cases hd : (d == (c.toNat : Int)) with
      | true =>
        have HE := Lib.hid (e.out.trans (seen_found hS.out HL.out.1 HL.out.2 hd))
        go_wp2
        go_ret2
        exact ⟨by rw [HE.out]; rfl, hL1⟩
      | false =>
        have HN := Lib.hid (seen_step hS.out HL.out.1 HL.out.2 hd)
        go_wp2
        go_roundw
        case rel => exact ⟨_, cnt1, hrg1, HN, hL1⟩
        case measure => rw [hrg1.left_eq, hrg.left_eq]; exact hlt

end

end Go.Proofs.YtmpbgfobiceehaaGreatDoor
