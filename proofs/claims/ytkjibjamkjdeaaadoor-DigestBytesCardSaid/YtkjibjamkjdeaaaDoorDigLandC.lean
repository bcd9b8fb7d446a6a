/-
  digest as it landed at 946a7bb: strconv.ParseUint at base 16 and 64 bits, Unhex.
-/
import Derived.Test.YtkjibjamkjdeaaaDoorDigLandB
import Derived.Test.YtkjibjamkjdeaaaDoorDigBytes
import Derived.Lib.ConvBytes
import Derived.Lib.AtoiErrMem
namespace Go.Proofs.YtkjibjamkjdeaaaDoor
open Go.RowKit Go.Lib

/-- .. and of those that Unhex reads besides. -/
structure EnvU (w : World) : Prop where
  d : EnvD w
  syn : ∃ te pe, w.cell? ⟨1, 0, none⟩ = some (.iface te pe)
  rng : ∃ te pe, w.cell? ⟨2, 0, none⟩ = some (.iface te pe)
theorem EnvU.keep {w w' : World} (h : EnvU w) (hb : Below w.heap.size w w') : EnvU w' := by
  obtain ⟨hd, ⟨te, pe, hs⟩, ⟨tr, pr, hr⟩⟩ := h
  have h6 := hd.big
  exact ⟨hd.keep hb, ⟨te, pe, (hb.cell (by show 1 < _; omega)).trans hs⟩, ⟨tr, pr, (hb.cell (by show 2 < _; omega)).trans hr⟩⟩

/-- What ParseUint's loop makes of a byte: the digit's value; 36 where there is none. -/
def pd (c : UInt8) : Nat := if 48 ≤ c.toNat ∧ c.toNat ≤ 57 then c.toNat - 48 else if 97 ≤ (c.toNat ||| 32) ∧ (c.toNat ||| 32) ≤ 122 then (c.toNat ||| 32) - 87 else 36
/-- What it answers: none if it is an error. -/
def p16 : Nat → List UInt8 → Option Nat
  | a, [] => some a
  | a, c :: l => if 15 < pd c then none else if 1152921504606846976 ≤ a then none else p16 (a * 16 + pd c) l
theorem p16_bd : ∀ (l : List UInt8) (a v : Nat), a < 18446744073709551616 → p16 a l = some v → v < 18446744073709551616
  | [], a, v, h, e => by injection e with e; omega
  | c :: l, a, v, h, e => by
    unfold p16 at e
    split at e
    · cases e
    · split at e
      · cases e
      · exact p16_bd l _ v (by omega) e
set_option maxRecDepth 100000 in
theorem hv_pd : ∀ c : UInt8, ¬ 15 < hv c → pd c = hv c := by
  intro c
  have : ∀ n < 256, ¬ 15 < hv (UInt8.ofNat n) → pd (UInt8.ofNat n) = hv (UInt8.ofNat n) := by decide
  have h := this c.toNat c.toNat_lt
  rwa [UInt8.ofNat_toNat] at h
set_option maxRecDepth 100000 in
theorem hexd_hv : ∀ c : UInt8, ¬ 15 < hv c → hexd (hv c) = c := by
  intro c
  have : ∀ n < 256, ¬ 15 < hv (UInt8.ofNat n) → hexd (hv (UInt8.ofNat n)) = UInt8.ofNat n := by decide
  have h := this c.toNat c.toNat_lt
  rwa [UInt8.ofNat_toNat] at h
theorem p16_uh : ∀ (l : List UInt8) (a k n : Nat), a < 16 ^ k → k + l.length ≤ 16 → uh l a = (n, 0) → p16 a l = some n
  | [], a, k, n, _, _, e => by
    injection e with e1 _
    rw [p16, e1]
  | c :: l, a, k, n, ha, hk, e => by
    unfold uh at e
    simp only [List.length_cons] at hk
    split at e
    · injection e with _ e2; exact absurd e2 (by decide)
    · rename_i hc
      have h1 := hv_pd c hc
      have hp : (16 : Nat) ^ k ≤ 16 ^ 15 := Nat.pow_le_pow_right (by omega) (by omega)
      have e15 : (16 : Nat) ^ 15 = 1152921504606846976 := by decide
      unfold p16
      rw [h1, if_neg hc, if_neg (by omega)]
      exact p16_uh l _ (k + 1) n (by rw [Nat.pow_succ]; omega) (by omega) e

/-- The byte with its bit 32 set. -/
theorem low_num (c : UInt8) : bits .or .u8 (c.toNat : Int) 32 = ((c.toNat ||| 32 : Nat) : Int) := by
  have h := c.toNat_lt
  rw [u8_or _ _ (by omega) (by omega) (by omega) (by omega)]
  rfl
theorem low_lt (c : UInt8) : c.toNat ||| 32 < 256 := Nat.or_lt_two_pow (n := 8) c.toNat_lt (by decide)
theorem lower_n (c q : Nat) (w : World) (hq : Hid (bits .or .u8 (c : Int) 32 = (q : Int))) : Calls Tryd.prog 45 #[.int .u8 c] w fun e w' => e = .returned (.int .u8 q) ∧ w = w' := by
  rw [← hq.out]
  exact (Tryd.internal_strconv_lower c w).mono fun e w' ⟨he, hw⟩ => ⟨he, hw.symm⟩

/-- What 'ParseUint' answers at base 16: the number, or an error. -/
def PEnd (T : TypeId) (l : List UInt8) (e : Ending) : Prop :=
  (∃ v : Nat, p16 0 l = some v ∧ e = .returned (.tuple #[.int .u64 v, .nilIface])) ∨ (p16 0 l = none ∧ ∃ x k : Int, (k = 1 ∨ k = 2) ∧ e = .returned (.tuple #[.int .u64 x, .iface T (.int .i64 k)]))
theorem pend_err {T : TypeId} {l : List UInt8} {x k : Int} (h : p16 0 l = none) (hk : k = 1 ∨ k = 2) : PEnd T l (.returned (.tuple #[.int .u64 x, .iface T (.int .i64 k)])) := .inr ⟨h, x, k, hk, rfl⟩
theorem p16_at {s : ByteArray} {k a : Nat} (hk : k < s.size) (h : p16 0 s.data.toList = p16 a (s.data.toList.drop k)) : p16 0 s.data.toList = if 15 < pd (s[k]'hk) then none else if 1152921504606846976 ≤ a then none else p16 (a * 16 + pd (s[k]'hk)) (s.data.toList.drop (k + 1)) := by
  rw [h, List.drop_eq_getElem_cons (by rw [← Lib.size_eq]; exact hk)]
  rfl

set_option maxHeartbeats 4000000 in
set_option maxRecDepth 100000 in
theorem parseI_any (t : ByteArray) (hne : t.size ≠ 0) (hmax : t.size ≤ 1000) (w : World) :
    Calls Tryd.prog 34 #[.string t, .int .i64 16, .int .i64 64] w fun e w' => PEnd 72 t.data.toList e ∧ Below w.heap.size w w' := by
  have hemp : t.toList.isEmpty = false := by
    rw [← decide_eq_emptyBytes]
    exact decide_eq_false (fun h => hne (by rw [h]; rfl))
  have hcv := Lib.run_convert_string_bytes (P := Tryd.prog) w 9 37 5 t (u := .string) Tryd.underlying9 Tryd.underlying37 Tryd.underlying5
  have hB : ∀ j, j < t.size → (Lib.bytesWorld w 5 t).cell? ⟨w.heap.size, j, none⟩ = some (.int .u8 (t.data.toList.getD j 0).toNat) := fun j hj => Lib.bytesWorld_cell w 5 t j hj
  have HW := Lib.hid (Lib.bytesWorld_below w 5 t)
  obtain ⟨W1, hW1⟩ : ∃ W1, W1 = Lib.bytesWorld w 5 t := ⟨_, rfl⟩
  rw [← hW1] at hcv hB HW
  clear hW1
  have hmv : IntKind.u64.wrap (IntKind.u64.wrap 18446744073709551616 - 1) = 18446744073709551615 := by
    rw [IntKind.wrap_u64, IntKind.wrap_u64]
    decide
  go_enter Tryd.func34, Tryd.ntmps34
  go_wp2
  go_loop [12, 13, 101] (fun vu vn vi => ∃ (k acc : Nat) (a : Int), vu = .bool false ∧ vn = .int .u64 a ∧ vi = .int .i64 k ∧ k ≤ t.size ∧ Hid (a = (acc : Int) ∧ acc < 18446744073709551616 ∧ p16 0 t.data.toList = p16 acc (t.data.toList.drop k)))
    (fun _ _ vi => t.size - (RowKit.intOf vi).toNat)
  case atStart => exact ⟨0, 0, 0, rfl, rfl, rfl, by omega, Lib.hid ⟨rfl, by omega, rfl⟩⟩
  case round =>
    obtain ⟨k, acc, a, rfl, rfl, rfl, hk, hh⟩ := hrel
    obtain ⟨ha, hacc, hdec⟩ := hh.out
    clear hh
    have a0 : 0 ≤ a := by omega
    have a1 : a < 18446744073709551616 := by omega
    by_cases hkn : k < t.size
    · have hc := hB k hkn
      have hget : t.data.toList.getD k 0 = t[k]'hkn := by rw [List.getD_eq_getElem?_getD, List.getElem?_eq_getElem (by rw [← Lib.size_eq]; exact hkn)]; rfl
      rw [hget] at hc
      replace hdec := p16_at hkn hdec
      clear hB hget
      generalize t[k]'hkn = c at *
      have hc256 := c.toNat_lt
      have hq0 := Lib.hid (low_num c)
      have hqlt := low_lt c
      have hlow := fun w => lower_n c.toNat (c.toNat ||| 32) w hq0
      have hq95 : c.toNat = 95 → c.toNat ||| 32 = 127 := fun h => by rw [h]; rfl
      by_cases hdig : 48 ≤ c.toNat ∧ c.toNat ≤ 57
      · obtain ⟨hd0, hd1⟩ := hdig
        have hpd : pd c = c.toNat - 48 := by unfold pd; rw [if_pos ⟨hd0, hd1⟩]
        rw [hpd, if_neg (by omega)] at hdec
        have e8 : IntKind.u8.wrap ((c.toNat : Int) - 48) = (c.toNat : Int) - 48 := IntWalk.u8_in _ (by omega)
        clear hpd hlow hq0 hq95 hqlt
        by_cases hcut : 1152921504606846976 ≤ acc
        · rw [if_pos hcut] at hdec
          have icut : 1152921504606846976 ≤ a := by omega
          have HE := Lib.hid hdec
          clear hcut hacc ha hdec
          go_wp2
          go_ret2
          exact ⟨pend_err HE.out (.inl rfl), HW.out⟩
        · rw [if_neg hcut] at hdec
          have icut : a < 1152921504606846976 := by omega
          have HN := Lib.hid (show a * 16 + ((c.toNat : Int) - 48) = ((acc * 16 + (c.toNat - 48) : Nat) : Int) ∧ acc * 16 + (c.toNat - 48) < 18446744073709551616 ∧ p16 0 t.data.toList = p16 (acc * 16 + (c.toNat - 48)) (t.data.toList.drop (k + 1)) from ⟨by omega, by omega, hdec⟩)
          clear hcut hacc ha hdec
          go_wp2
          refine ⟨⟨k + 1, _, _, rfl, rfl, by go_num, by omega, HN⟩, by simp [RowKit.intOf]; omega⟩
      · by_cases hlet : 97 ≤ (c.toNat ||| 32) ∧ (c.toNat ||| 32) ≤ 122
        · have hpd : pd c = (c.toNat ||| 32) - 87 := by unfold pd; rw [if_neg hdig, if_pos hlet]
          rw [hpd] at hdec
          obtain ⟨q0, q1⟩ := hlet
          have n95 : ¬ (c.toNat : Int) = 95 := fun h => by have := hq95 (by omega); omega
          have e7 : IntKind.u8.wrap (((c.toNat ||| 32 : Nat) : Int) - 97) = ((c.toNat ||| 32 : Nat) : Int) - 97 := IntWalk.u8_in _ (by omega)
          have e8 : IntKind.u8.wrap (((c.toNat ||| 32 : Nat) : Int) - 97 + 10) = (((c.toNat ||| 32) - 87 : Nat) : Int) := by
            rw [IntWalk.u8_in _ (by omega)]; omega
          clear hpd hq95 hq0
          generalize (c.toNat ||| 32) = q at *
          have d1 : (97 : Int) ≤ (q : Int) := by omega
          have d2 : (q : Int) ≤ 122 := by omega
          obtain ⟨dv, hdv⟩ : ∃ dv, q - 87 = dv := ⟨_, rfl⟩
          rw [hdv] at hdec e8
          by_cases h15 : 15 < dv
          · rw [if_pos h15] at hdec
            have HE := Lib.hid hdec
            have d3 : (16 : Int) ≤ (dv : Int) := by omega
            clear hacc ha hdec hdv
            go_wp2_with (go_at_call 45; (with_reducible refine (hlow _).mono ?_); rintro e w' ⟨rfl, rfl⟩)
            all_goals (go_ret2; exact ⟨pend_err HE.out (.inr rfl), HW.out⟩)
          · rw [if_neg h15] at hdec
            have d3 : ¬ (16 : Int) ≤ (dv : Int) := by omega
            clear hdv
            by_cases hcut : 1152921504606846976 ≤ acc
            · rw [if_pos hcut] at hdec
              have icut : 1152921504606846976 ≤ a := by omega
              have HE := Lib.hid hdec
              clear hcut hacc ha hdec
              go_wp2_with (go_at_call 45; (with_reducible refine (hlow _).mono ?_); rintro e w' ⟨rfl, rfl⟩)
              all_goals (go_ret2; exact ⟨pend_err HE.out (.inl rfl), HW.out⟩)
            · rw [if_neg hcut] at hdec
              have icut : a < 1152921504606846976 := by omega
              have HN := Lib.hid (show a * 16 + (dv : Int) = ((acc * 16 + dv : Nat) : Int) ∧ acc * 16 + dv < 18446744073709551616 ∧ p16 0 t.data.toList = p16 (acc * 16 + dv) (t.data.toList.drop (k + 1)) from ⟨by omega, by omega, hdec⟩)
              clear hcut hacc ha hdec
              go_wp2_with (go_at_call 45; (with_reducible refine (hlow _).mono ?_); rintro e w' ⟨rfl, rfl⟩)
              all_goals (refine ⟨⟨k + 1, _, _, rfl, rfl, by go_num, by omega, HN⟩, by simp [RowKit.intOf]; omega⟩)
        · have hpd : pd c = 36 := by unfold pd; rw [if_neg hdig, if_neg hlet]
          rw [hpd, if_pos (by decide)] at hdec
          have HE := Lib.hid hdec
          clear hpd hdec hacc ha hq0
          generalize c.toNat = n at *
          generalize (n ||| 32) = q at *
          by_cases h95 : n = 95
          · obtain rfl : q = 127 := hq95 h95
            subst h95
            have hlow2 : ∀ w : World, Calls Tryd.prog 45 #[.int .u8 95] w fun e w' => e = .returned (.int .u8 127) ∧ w = w' := hlow
            clear hlow
            go_wp2_with (go_at_call 45; (with_reducible refine (hlow2 _).mono ?_); rintro e w' ⟨rfl, rfl⟩)
            all_goals (go_ret2; exact ⟨pend_err HE.out (.inr rfl), HW.out⟩)
          · have n95 : ¬ (n : Int) = 95 := by omega
            go_wp2_with (go_at_call 45; (with_reducible refine (hlow _).mono ?_); rintro e w' ⟨rfl, rfl⟩)
            all_goals (go_ret2; exact ⟨pend_err HE.out (.inr rfl), HW.out⟩)
    · obtain rfl : k = t.size := by omega
      rw [List.drop_eq_nil_of_le (by rw [← Lib.size_eq]; omega)] at hdec
      have HE := Lib.hid (show p16 0 t.data.toList = some acc from hdec)
      subst ha
      clear hacc hdec a0 a1
      go_wp2
      go_ret2
      exact ⟨.inl ⟨acc, HE.out, rfl⟩, HW.out⟩

theorem toErr_n (s : ByteArray) (k : Int) (w : World) (hE : Hid (EnvU w)) (hs : s.size ≤ 1000) (hk : k = 1 ∨ k = 2) :
    Calls Tryd.prog 35 #[.string ⟨#[80, 97, 114, 115, 101, 85, 105, 110, 116]⟩, .string s, .int .i64 16, .int .i64 64, .iface 72 (.int .i64 k)] w fun e w' => ∃ T p, e = .returned (.iface T p) ∧ Below w.heap.size w w' := by
  obtain ⟨_, ⟨te, pe, hr⟩, ⟨te2, pe2, hr2⟩⟩ := hE.out
  rcases hk with rfl | rfl
  · exact (Tryd.strconv_toError_range _ s 16 64 _ w (by omega) hr2 (Or.inr ⟨te2, pe2, rfl⟩)).mono fun e w' ⟨N, he, _, _, hb⟩ => ⟨_, _, he, hb⟩
  · exact (Tryd.strconv_toError_syntax _ s 16 64 _ w (by omega) hr (Or.inr ⟨te, pe, rfl⟩)).mono fun e w' ⟨N, he, _, _, hb⟩ => ⟨_, _, he, hb⟩

theorem parseI_all (t : ByteArray) (hmax : t.size ≤ 1000) (w : World) :
    Calls Tryd.prog 34 #[.string t, .int .i64 16, .int .i64 64] w fun e w' => ((∃ v : Nat, (t.size ≠ 0 ∧ p16 0 t.data.toList = some v) ∧ e = .returned (.tuple #[.int .u64 v, .nilIface])) ∨ ((t.size = 0 ∨ p16 0 t.data.toList = none) ∧ ∃ x k : Int, (k = 1 ∨ k = 2) ∧ e = .returned (.tuple #[.int .u64 x, .iface 72 (.int .i64 k)]))) ∧ Below w.heap.size w w' := by
  by_cases h : t.size = 0
  · have : t = ⟨#[]⟩ := by
      apply ByteArray.ext
      exact Array.eq_empty_of_size_eq_zero h
    subst this
    exact (Tryd.internal_strconv_ParseUint_empty 16 64 w).mono fun e w' ⟨he, hw⟩ => ⟨.inr ⟨.inl h, 0, 2, .inr rfl, he⟩, hw ▸ Below.refl _ _⟩
  · exact (parseI_any t h hmax w).mono fun e w' ⟨he, hb⟩ => ⟨by
      rcases he with ⟨v, h1, h2⟩ | ⟨h1, h2⟩
      · exact .inl ⟨v, ⟨h, h1⟩, h2⟩
      · exact .inr ⟨.inr h1, h2⟩, hb⟩

set_option maxHeartbeats 1000000 in
theorem parse_any (t : ByteArray) (hmax : t.size ≤ 1000) (w : World) (hE : Hid (EnvU w)) :
    Calls Tryd.prog 25 #[.string t, .int .i64 16, .int .i64 64] w fun e w' => ((∃ v : Nat, (t.size ≠ 0 ∧ p16 0 t.data.toList = some v) ∧ e = .returned (.tuple #[.int .u64 v, .nilIface])) ∨ ((t.size = 0 ∨ p16 0 t.data.toList = none) ∧ ∃ x T p, e = .returned (.tuple #[.int .u64 x, .iface T p]))) ∧ Below w.heap.size w w' := by
  go_enter Tryd.func25, Tryd.ntmps25
  go_wp2_with fail
  ((with_reducible refine (parseI_all t hmax _).mono ?_); rintro e w1 ⟨he, hL⟩)
  rcases he with ⟨v, h1, rfl⟩ | ⟨h1, x, k, hk, rfl⟩
  · have H1 := Lib.hid h1
    clear h1
    go_wp2_with fail
    go_ret2
    exact ⟨.inl ⟨v, H1.out, rfl⟩, hL⟩
  · have H1 := Lib.hid h1
    have HE1 := Lib.hid (hE.out.keep hL)
    clear h1
    go_wp2_with fail
    ((with_reducible refine (toErr_n t k _ HE1 hmax hk).mono ?_); rintro e w2 ⟨T, p, rfl, hb⟩)
    replace hL := below_call hL hb
    clear hb
    go_wp2_with fail
    go_ret2
    exact ⟨.inr ⟨H1.out, x, T, p, rfl⟩, hL⟩

/-- What stands behind a text that Unhex refuses: whatever number ParseUint makes of it has another form. -/
theorem unhex_no {s : ByteArray} {n v : Nat} {er : Int} (hv : v < 18446744073709551616) (h : unhexv s.data.toList = (n, er)) (hne : bs (hexR 16 v) = s) : n = v ∧ er = 0 := by
  rw [← hne, bs_list, unhex_hex v hv] at h
  injection h with h1 h2
  exact ⟨h1.symm, h2.symm⟩
theorem uh_er : ∀ (l : List UInt8) (a n : Nat) (er : Int), uh l a = (n, er) → er = 0 ∨ (n = 0 ∧ er = 5)
  | [], a, n, er, h => by injection h with _ h2; exact .inl h2.symm
  | c :: l, a, n, er, h => by
    unfold uh at h
    split at h
    · injection h with h1 h2; exact .inr ⟨h1.symm, h2.symm⟩
    · exact uh_er l _ n er h
theorem unhexv_er {l : List UInt8} {n : Nat} {er : Int} (h : unhexv l = (n, er)) : (er = 0 ∧ l.length = 16 ∧ uh l 0 = (n, 0)) ∨ (n = 0 ∧ er = 5) := by
  unfold unhexv at h
  split at h
  · rcases uh_er l 0 n er h with rfl | h2
    · exact .inl ⟨rfl, by assumption, h⟩
    · exact .inr h2
  · injection h with h1 h2; exact .inr ⟨h1.symm, h2.symm⟩
/-- A text read as digits, written again: the same. -/
theorem uh_back : ∀ (l : List UInt8) (k a n : Nat), uh l a = (n, 0) → hexR k a ++ l = hexR (k + l.length) n
  | [], k, a, n, h => by injection h with h1 _; subst h1; simp
  | c :: l, k, a, n, h => by
    unfold uh at h
    split at h
    · injection h with _ h2; exact absurd h2 (by decide)
    · rename_i hc
      have hlt : hv c < 16 := by omega
      have e : hexR k a ++ c :: l = hexR (k + 1) (a * 16 + hv c) ++ l := by
        rw [hexR, show (a * 16 + hv c) / 16 = a by omega, show (a * 16 + hv c) % 16 = hv c by omega, hexd_hv c hc, List.append_assoc]
        rfl
      rw [e, uh_back l (k + 1) _ n h, List.length_cons, show k + 1 + l.length = k + (l.length + 1) by omega]

set_option maxHeartbeats 1000000 in
theorem dunhex_n (s : ByteArray) (n : Nat) (er : Int) (w : World) (hE : EnvU w) (hs : s.size ≤ 1000) (hr : Hid (unhexv s.data.toList = (n, er))) :
    Calls Tryd.prog 17 #[.string s] w fun e w' => e = .returned (.tuple #[.int .u64 n, .int .i64 er]) ∧ Below w.heap.size w w' := by
  go_enter Tryd.func17, Tryd.ntmps17
  go_wp2_with fail
  ((with_reducible refine (parse_any s hs _ (hid hE)).mono ?_); rintro e w1 ⟨he, hL⟩)
  rcases he with ⟨v, ⟨h0, h1⟩, rfl⟩ | ⟨h1, x, T, p, rfl⟩
  · have hv := p16_bd _ 0 v (by decide) h1
    by_cases heq : bs (hexR 16 v) = s
    · obtain ⟨rfl, rfl⟩ := unhex_no hv hr.out heq
      have z1 : (s.toList == s.toList) = true := by simp
      clear h1
      go_wp2_with fail
      ((with_reducible refine (dhex_any n _ (hE.keep hL).d hv).mono ?_); rintro e w2 ⟨rfl, hb⟩)
      replace hL := below_call hL hb
      clear hb
      rw [heq]
      go_wp2_with fail
      go_ret2
      exact ⟨rfl, hL⟩
    · have z1 : ((bs (hexR 16 v)).toList == s.toList) = false := beq_eq_false_iff_ne.2 (fun e => heq (toList_inj e))
      have h2 : n = 0 ∧ er = 5 := by
        rcases unhexv_er hr.out with ⟨_, hl, hu⟩ | h2
        · have hp := p16_uh _ 0 0 n (by decide) (by rw [hl]; decide) hu
          rw [h1] at hp
          obtain rfl := Option.some.inj hp
          have hb := uh_back _ 0 0 v hu
          rw [hl] at hb
          exact absurd (by
            apply ByteArray.ext
            apply Array.toList_inj.1
            rw [bs_list]
            simpa [hexR] using hb.symm) heq
        · exact h2
      obtain ⟨rfl, rfl⟩ := h2
      clear h1
      go_wp2_with fail
      ((with_reducible refine (dhex_any v _ (hE.keep hL).d hv).mono ?_); rintro e w2 ⟨rfl, hb⟩)
      replace hL := below_call hL hb
      clear hb
      go_wp2_with fail
      go_ret2
      exact ⟨rfl, hL⟩
  · have h2 : n = 0 ∧ er = 5 := by
      rcases unhexv_er hr.out with ⟨_, hl, hu⟩ | h2
      · rcases h1 with h1 | h1
        · rw [← Lib.size_eq] at hl; omega
        · have hp := p16_uh _ 0 0 n (by decide) (by rw [hl]; decide) hu
          rw [h1] at hp
          cases hp
      · exact h2
    obtain ⟨rfl, rfl⟩ := h2
    clear h1
    go_wp2_with fail
    go_ret2
    exact ⟨rfl, hL⟩

end Go.Proofs.YtkjibjamkjdeaaaDoor
