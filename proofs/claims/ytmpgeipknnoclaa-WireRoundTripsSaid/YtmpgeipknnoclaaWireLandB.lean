/-
  wire as it landed at 48062e2: measure, value, cut.
-/
import Derived.Test.YtmpgeipknnoclaaWireLandA
import Derived.Lib.SlBytesRow
namespace Go.Proofs.Ytmpgeipknnoclaa
open Go.RowKit Go.Lib

/-- A window of ten bytes is as good as all of them. -/
theorem go_ten : ∀ (l : List UInt8) (k a : Nat), k ≤ 9 → takeGo k a (l.take (10 - k)) = takeGo k a l
  | [], k, a, _ => by simp
  | b :: l, k, a, hk => by
    rw [show 10 - k = (9 - k) + 1 by omega, List.take_succ_cons]
    by_cases c1 : k = 9 ∧ 1 < b.toNat
    · rw [go_one c1, go_one c1]
    · by_cases c2 : 128 ≤ b.toNat
      · have h9 : k < 9 := by
          by_cases h : k = 9
          · exact absurd ⟨h, by omega⟩ c1
          · omega
        rw [takeGo, if_neg c1, if_pos c2, takeGo, if_neg c1, if_pos c2]
        have := go_ten l (k + 1) (a + b.toNat % 128 * 128 ^ k) (by omega)
        rwa [show 10 - (k + 1) = 9 - k by omega] at this
      · by_cases c3 : b.toNat = 0 ∧ 0 < k
        · rw [go_three c1 c2 c3, go_three c1 c2 c3]
        · rw [go_four c1 c2 c3, go_four c1 c2 c3]
theorem take_ten (l : List UInt8) : takeU (l.take 10) = takeU l := go_ten l 0 0 (by omega)

set_option maxRecDepth 100000 in
set_option maxHeartbeats 1000000 in
theorem meas_any (t : ByteArray) (b o c : Nat) (w : World) (hc : Bytes w b o t) (hs : t.size ≤ 10) (n u : Nat) (er : Int) (hr : Hid (takeU t.data.toList = (n, u, er))) :
    Calls Try.prog 30 #[.slice (some ⟨b, o, none⟩) t.size c] w fun e w' => e = .returned (.tuple #[.int .i64 u, .int .i64 er]) ∧ w = w' := by
  go_enter Try.func30, Try.ntmps30
  go_wp2
  go_loop [8] (fun vk => ∃ k a : Nat, vk = .int .i64 k ∧ k ≤ t.size ∧ Hid (takeGo k a (t.data.toList.drop k) = (n, u, er))) (fun vk => 10 - (RowKit.intOf vk).toNat)
  case atStart => exact ⟨0, 0, rfl, by omega, hid hr.out⟩
  case round =>
    obtain ⟨k, a, rfl, hk, hT⟩ := hrel
    by_cases hend : k = t.size
    · have hq := hT.out
      rw [drop_end (by omega)] at hq
      injection hq with q1 hq; injection hq with q2 q3
      subst q1 q2 q3 hend
      clear hT
      go_wp2_with fail
      go_ret2
      exact ⟨rfl, rfl⟩
    · have hlt : k < t.size := by omega
      have b2 : (k : Int) < t.size := by omega
      have hq := hT.out
      rw [drop_at hlt] at hq
      have bb := (t[k]'hlt).toNat_lt
      have hcell := hc k hlt
      clear hT
      by_cases c1 : k = 9 ∧ 1 < (t[k]'hlt).toNat
      · rw [go_one c1] at hq
        injection hq with q1 hq; injection hq with q2 q3
        subst q1 q2 q3
        obtain ⟨c1, c2⟩ := c1
        subst c1
        have b4 : (1 : Int) < ((t[9]'hlt).toNat : Int) := by omega
        go_wp2_with fail
        go_ret2
        exact ⟨rfl, rfl⟩
      · have z9 : ((k : Int) == 9) = decide (k = 9) := by by_cases h : k = 9 <;> simp [h]; omega
        by_cases c2 : 128 ≤ (t[k]'hlt).toNat
        · have hk9 : k < 9 := by
            by_cases h : k = 9
            · exact absurd ⟨h, by omega⟩ c1
            · omega
          have hN := hid (go_two c1 c2 hq)
          rw [decide_eq_false (by omega)] at z9
          have z0 : (((t[k]'hlt).toNat : Int) == 0) = false := by simp; omega
          have b4 : ¬ (((t[k]'hlt).toNat : Int) < 128) := by omega
          clear hq
          by_cases y : k = 0
          · subst y
            rw [Nat.add_zero] at hcell
            go_wp2_with fail
            go_round
            case rel => exact ⟨1, _, rfl, by omega, hN⟩
            case measure => simp [RowKit.intOf]
          · have b5 : (0 : Int) < k := by omega
            go_wp2_with fail
            go_round
            case rel => exact ⟨k + 1, _, by go_num, by omega, hN⟩
            case measure => simp [RowKit.intOf]; omega
        · have b4 : ((t[k]'hlt).toNat : Int) < 128 := by omega
          by_cases c3 : (t[k]'hlt).toNat = 0 ∧ 0 < k
          · rw [go_three c1 c2 c3] at hq
            injection hq with q1 hq; injection hq with q2 q3
            subst q1 q2 q3
            have b5 : (0 : Int) < k := by omega
            have e0 : ((t[k]'hlt).toNat : Int) = 0 := by omega
            rw [e0] at hcell
            by_cases z : k = 9
            · subst z
              go_wp2_with fail
              go_ret2
              exact ⟨rfl, rfl⟩
            · rw [decide_eq_false z] at z9
              go_wp2_with fail
              go_ret2
              exact ⟨rfl, rfl⟩
          · rw [go_four c1 c2 c3] at hq
            injection hq with q1 hq; injection hq with q2 q3
            subst q2 q3
            clear q1
            have b6 : k = 9 → ¬ (1 : Int) < ((t[k]'hlt).toNat : Int) := fun h hh => c1 ⟨h, by omega⟩
            by_cases y : k = 0
            · subst y
              rw [Nat.add_zero] at hcell
              go_wp2_with fail
              go_ret2
              exact ⟨rfl, rfl⟩
            · have b5 : (0 : Int) < k := by omega
              have z0 : (((t[k]'hlt).toNat : Int) == 0) = false := by simp; omega
              by_cases z : k = 9
              · subst z
                have b7 := b6 rfl
                go_wp2_with fail
                go_ret2
                exact ⟨rfl, rfl⟩
              · rw [decide_eq_false z] at z9
                go_wp2_with fail
                go_ret2
                exact ⟨rfl, rfl⟩

theorem or_byte2 {a k : Nat} {b : UInt8} (ha : a < 128 ^ k) (hk : k ≤ 9) (h9 : k = 9 → b.toNat ≤ 1) :
    bits .or .u64 (a : Int) (IntKind.u64.wrap ((b.toNat : Int) % 128 * 2 ^ (7 * k))) = ((a + b.toNat % 128 * 128 ^ k : Nat) : Int) := by
  have hb := b.toNat_lt
  have h := or_byte ha hk h9
  have e1 : bits .and .u8 (b.toNat : Int) 127 = ((b.toNat % 128 : Nat) : Int) := by
    rw [u8_and _ _ (by omega) (by omega) (by omega) (by omega), Int.toNat_natCast, show (127 : Int).toNat = 2 ^ 7 - 1 by decide, Nat.and_two_pow_sub_one_eq_mod]
  rw [e1, IntWalk.u64_in ((b.toNat % 128 : Nat) : Int) (by omega), Int.natCast_emod] at h
  exact h

set_option maxRecDepth 100000 in
set_option maxHeartbeats 1000000 in
theorem value_gen (t : ByteArray) (n b o c : Nat) (w : World) (hn : n < 18446744073709551616) (hl : t.size ≤ 10) (hp : 1 ≤ t.size) (hc : Bytes w b o t) (hT0 : Hid (takeU t.data.toList = (n, t.size, 0))) :
    Calls Try.prog 31 #[.slice (some ⟨b, o, none⟩) t.size c] w fun e w' => e = .returned (.int .u64 n) ∧ w = w' := by
  go_enter Try.func31, Try.ntmps31
  go_wp2
  go_loop [3, 8] (fun va vk => ∃ k a : Nat, va = .int .u64 a ∧ vk = .int .i64 k ∧ k ≤ t.size ∧ a < 18446744073709551616 ∧ (k < t.size → a < 128 ^ k ∧ Hid (takeGo k a (t.data.toList.drop k) = (n, t.size, 0))) ∧ (k = t.size → a = n)) (fun _ vk => 10 - (RowKit.intOf vk).toNat)
  case atStart => exact ⟨0, 0, rfl, rfl, by omega, by omega, fun _ => ⟨by decide, hid hT0.out⟩, fun h => by omega⟩
  case round =>
    obtain ⟨k, a, rfl, rfl, hk, ha, hT, hE⟩ := hrel
    by_cases hend : k = t.size
    · have e := hE hend
      subst e hend
      clear hT hE
      go_wp2_with fail
      go_ret
      exact ⟨rfl, rfl⟩
    · have hlt : k < t.size := by omega
      have b2 : (k : Int) < t.size := by omega
      obtain ⟨hak, hT⟩ := hT hlt
      have hq := hT.out
      rw [drop_at hlt] at hq
      have bb := (t[k]'hlt).toNat_lt
      have hcell := hc k hlt
      have e7 : wrap64 (7 * (k : Int)) = ((7 * k : Nat) : Int) := by rw [IntWalk.wrap64_in _ (by omega)]; omega
      have c1 : ¬ (k = 9 ∧ 1 < (t[k]'hlt).toNat) := fun h => by rw [go_one h] at hq; injection hq with _ q; injection q with q _; omega
      have hO := or_byte2 (b := t[k]'hlt) hak (by omega) (by omega)
      clear hT hE
      by_cases c2 : 128 ≤ (t[k]'hlt).toNat
      · have hk9 : k < 9 := by
          by_cases h : k = 9
          · exact absurd ⟨h, by omega⟩ c1
          · omega
        have hN := go_two c1 c2 hq
        have hN2 := below_next hak (Nat.mod_lt (t[k]'hlt).toNat (show 0 < 128 by omega))
        generalize a + (t[k]'hlt).toNat % 128 * 128 ^ k = a2 at *
        have hk1 : k + 1 < t.size := by
          by_cases h : t.size ≤ k + 1
          · rw [drop_end h] at hN
            injection hN with _ q; injection q with q _; omega
          · omega
        have hle : a2 < 18446744073709551616 := Nat.lt_of_lt_of_le hN2 (Nat.le_trans (Nat.pow_le_pow_right (show 0 < 128 by omega) (show k + 1 ≤ 9 by omega)) (by decide))
        have hM := hid hN
        clear hq hN
        go_wp2_with fail
        go_round
        case rel => exact ⟨k + 1, a2, rfl, by go_num, by omega, hle, fun _ => ⟨hN2, hM⟩, fun h => by omega⟩
        case measure => simp [RowKit.intOf]; omega
      · by_cases c3 : (t[k]'hlt).toNat = 0 ∧ 0 < k
        · rw [go_three c1 c2 c3] at hq
          injection hq with _ q; injection q with q _; omega
        · rw [go_four c1 c2 c3] at hq
          injection hq with q1 hq; injection hq with q2 q3
          rw [Nat.mod_eq_of_lt (by omega), q1] at hO
          clear q1 q3
          go_wp2_with fail
          go_round
          case rel => exact ⟨k + 1, n, rfl, by go_num, by omega, hn, fun h => by omega, fun _ => rfl⟩
          case measure => simp [RowKit.intOf]; omega
theorem value_any (n b o c : Nat) (w : World) (hn : n < 18446744073709551616) (hc : Bytes w b o (bs (encU n))) :
    Calls Try.prog 31 #[.slice (some ⟨b, o, none⟩) (encU n).length c] w fun e w' => e = .returned (.int .u64 n) ∧ w = w' := by
  have hL : (bs (encU n)).size = (encU n).length := bs_size _
  rw [← hL]
  refine value_gen _ n b o c w hn ?_ ?_ hc (hid ?_)
  · rw [hL]; exact enc_ten n hn
  · rw [hL]; exact enc_pos n
  · rw [bs_list, hL]
    have := take_enc n [] hn
    rwa [List.append_nil] at this

set_option maxHeartbeats 400000 in
theorem cut_any (b o len cap l h : Nat) (w : World) (h1 : l < h) (h2 : h ≤ cap) :
    Calls Try.prog 32 #[.slice (some ⟨b, o, none⟩) len cap, .int .i64 l, .int .i64 h] w fun e w' => e = .returned (.slice (some ⟨b, o + l, none⟩) (h - l) (h - l)) ∧ w = w' := by
  go_enter Try.func32, Try.ntmps32
  go_wp2_with fail
  go_ret
  exact ⟨rfl, rfl⟩
set_option maxHeartbeats 400000 in
theorem cut_none (b o len cap l : Nat) (w : World) (h2 : l ≤ cap) :
    Calls Try.prog 32 #[.slice (some ⟨b, o, none⟩) len cap, .int .i64 l, .int .i64 l] w fun e w' => (∃ p, e = .returned (.slice p 0 0)) ∧ w = w' := by
  go_enter Try.func32, Try.ntmps32
  go_wp2_with fail
  go_ret
  exact ⟨⟨_, rfl⟩, rfl⟩

end Go.Proofs.Ytmpgeipknnoclaa
