/-
  What the reference of wire answers: Uint, TakeUint.
-/
import Derived.Test.YtmpgeipknnoclaaProg
import Derived.WalkKit
import Derived.IntWalk
import Derived.WalkSpells
import Derived.WalkLawsBesides
import Derived.Deep.QuietTactic
import Derived.BigQuiet
import Derived.Lib.Hide
import Derived.Lib.Walk
import Derived.Lib.Strings
import Derived.LoopN
import Derived.Laws.BitsAllLaws
import Derived.Test.YtmpgeipknnoclaaKit
import Derived.Test.YtmpgeipknnoclaaWireMath
namespace Go.Proofs.Ytmpgeipknnoclaa
open Go.RowKit Go.Lib

/-- A text of bytes. -/
def bs (l : List UInt8) : ByteArray := ⟨l.toArray⟩
theorem bs_list (l : List UInt8) : (bs l).data.toList = l := by unfold bs; simp
theorem bs_size (l : List UInt8) : (bs l).size = l.length := by unfold bs; rw [Lib.size_eq]
theorem enc_step {m n : Nat} {t : ByteArray} (h : ¬ m < 128) (e : t.data.toList ++ encU m = encU n) : (t ++ ByteArray.mk #[128 + UInt8.ofNat (m % 128)]).data.toList ++ encU (m / 128) = encU n := by
  rw [← e, enc_high h, ByteArray.data_append, UInt8.ofNat_add]; simp
theorem enc_last {m n : Nat} {t : ByteArray} (h : m < 128) (e : t.data.toList ++ encU m = encU n) : t ++ ByteArray.mk #[UInt8.ofNat m] = bs (encU n) := by
  apply ByteArray.ext
  rw [ByteArray.data_append, bs, ← e, enc_low h]
  apply Array.toList_inj.1
  simp
theorem enc_size {m n : Nat} {t : ByteArray} (hn : n < 18446744073709551616) (e : t.data.toList ++ encU m = encU n) : t.size ≤ 10 := by
  have h1 := enc_ten n hn
  rw [← e, List.length_append] at h1
  rw [Lib.size_eq]
  omega

set_option maxRecDepth 100000 in
set_option maxHeartbeats 400000 in
theorem ruint_any (n : Nat) (w : World) (hn : n < 18446744073709551616) :
    Calls Try.prog 20 #[.int .u64 n] w fun e w' => e = .returned (.string (bs (encU n))) ∧ Below w.heap.size w w' := by
  have kc := conv_one (P := Try.prog) Try.underlying47 Try.underlying5 Try.underlying9
  go_enter Try.func20, Try.ntmps20
  go_wp2
  go_loopw [0, 3] (fun v s wr => ∃ (m : Nat) (t : ByteArray), v = .int .u64 m ∧ s = .string t ∧ m ≤ n ∧ Hid (t.data.toList ++ encU m = encU n) ∧ Below w.heap.size w wr) (fun v _ _ => (RowKit.intOf v).toNat)
  case atStart => exact ⟨n, _, rfl, rfl, Nat.le_refl _, Lib.hid (by simp), Below.refl _ _⟩
  case round =>
    obtain ⟨m, t, rfl, rfl, hm, hd, hb⟩ := hrel
    have ht := enc_size hn hd.out
    by_cases h9 : m < 128
    · have HS := Lib.hid (enc_last h9 hd.out)
      clear hd
      go_wp2
      go_ret
      exact ⟨ret_str HS.out, hb.alloc hb.size _⟩
    · have HS := Lib.hid (enc_step h9 hd.out)
      clear hd
      go_wp2
      go_roundw
      case rel => exact ⟨m / 128, _, by go_num, rfl, by omega, HS, hb.alloc hb.size _⟩
      case measure => simp [RowKit.intOf]; omega

/-- A byte's seven bits, laid above what is there. -/
theorem or_byte {a k : Nat} {b : UInt8} (ha : a < 128 ^ k) (hk : k ≤ 9) (h9 : k = 9 → b.toNat ≤ 1) :
    bits .or .u64 (a : Int) (IntKind.u64.wrap (IntKind.u64.wrap (bits .and .u8 (b.toNat : Int) 127) * 2 ^ (7 * k))) = ((a + b.toNat % 128 * 128 ^ k : Nat) : Int) := by
  have hb := b.toNat_lt
  have e1 : bits .and .u8 (b.toNat : Int) 127 = ((b.toNat % 128 : Nat) : Int) := by
    rw [u8_and _ _ (by omega) (by omega) (by omega) (by omega), Int.toNat_natCast, show (127 : Int).toNat = 2 ^ 7 - 1 by decide, Nat.and_two_pow_sub_one_eq_mod]
  have e2 : (2 : Int) ^ (7 * k) = ((128 ^ k : Nat) : Int) := by
    rw [show (128 : Nat) = 2 ^ 7 by decide, ← Nat.pow_mul]; simp
  have hle : 128 ^ k ≤ 9223372036854775808 := by
    have : 128 ^ k ≤ 128 ^ 9 := Nat.pow_le_pow_right (by omega) hk
    exact Nat.le_trans this (by decide)
  have hx : b.toNat % 128 * 128 ^ k < 18446744073709551616 := by
    by_cases c : k = 9
    · subst c
      have h1 := h9 rfl
      have : (128 : Nat) ^ 9 = 9223372036854775808 := by decide
      rw [this]; omega
    · have h1 : 128 ^ k ≤ 128 ^ 8 := Nat.pow_le_pow_right (by omega) (by omega)
      have h2 : (128 : Nat) ^ 8 = 72057594037927936 := by decide
      have h3 : b.toNat % 128 * 128 ^ k ≤ 127 * 72057594037927936 := Nat.mul_le_mul (by omega) (by omega)
      omega
  have e4 : IntKind.u64.wrap ((b.toNat % 128 : Nat) : Int) = ((b.toNat % 128 : Nat) : Int) := IntWalk.u64_in _ (by omega)
  have e5 : IntKind.u64.wrap ((b.toNat % 128 * 128 ^ k : Nat) : Int) = ((b.toNat % 128 * 128 ^ k : Nat) : Int) := IntWalk.u64_in _ (by omega)
  rw [e1, e4, e2, ← Int.natCast_mul, e5, u64_or _ _ (by omega) (by omega) (by omega) (by omega), Int.toNat_natCast, Int.toNat_natCast]
  congr 1
  have e3 : (128 : Nat) ^ k = 2 ^ (7 * k) := by rw [show (128 : Nat) = 2 ^ 7 by decide, ← Nat.pow_mul]
  rw [e3] at ha ⊢
  have h := Nat.two_pow_add_eq_or_of_lt ha (b.toNat % 128)
  rw [Nat.mul_comm] at h
  rw [Nat.or_comm, ← h]; omega
theorem ret_mid {k l m : IntKind} {a b c d : Int} (h : b = d) : Ending.returned (.tuple #[.int k a, .int l b, .int m c]) = .returned (.tuple #[.int k a, .int l d, .int m c]) := by rw [h]
theorem drop_end {s : ByteArray} {j : Nat} {k a : Nat} (h : s.size ≤ j) : takeGo k a (s.data.toList.drop j) = (0, 0, 4) := by
  rw [List.drop_eq_nil_of_le (by rw [← Lib.size_eq]; exact h)]; rfl
theorem drop_at {s : ByteArray} {j : Nat} (h : j < s.size) : s.data.toList.drop j = (s[j]'h) :: s.data.toList.drop (j + 1) := by
  rw [List.drop_eq_getElem_cons (by rw [← Lib.size_eq]; exact h)]; rfl
theorem go_one {k a : Nat} {b : UInt8} {l : List UInt8} (c : k = 9 ∧ 1 < b.toNat) : takeGo k a (b :: l) = (0, 0, 5) := by rw [takeGo, if_pos c]
theorem go_two {k a n u : Nat} {er : Int} {b : UInt8} {l : List UInt8} (c : ¬ (k = 9 ∧ 1 < b.toNat)) (d : 128 ≤ b.toNat) (h : takeGo k a (b :: l) = (n, u, er)) : takeGo (k + 1) (a + b.toNat % 128 * 128 ^ k) l = (n, u, er) := by
  rw [takeGo, if_neg c, if_pos d] at h; exact h
theorem go_three {k a : Nat} {b : UInt8} {l : List UInt8} (c : ¬ (k = 9 ∧ 1 < b.toNat)) (d : ¬ 128 ≤ b.toNat) (e : b.toNat = 0 ∧ 0 < k) : takeGo k a (b :: l) = (0, 0, 5) := by rw [takeGo, if_neg c, if_neg d, if_pos e]
theorem go_four {k a : Nat} {b : UInt8} {l : List UInt8} (c : ¬ (k = 9 ∧ 1 < b.toNat)) (d : ¬ 128 ≤ b.toNat) (e : ¬ (b.toNat = 0 ∧ 0 < k)) : takeGo k a (b :: l) = (a + b.toNat * 128 ^ k, k + 1, 0) := by rw [takeGo, if_neg c, if_neg d, if_neg e]
theorem below_next {a k x : Nat} (h : a < 128 ^ k) (hx : x < 128) : a + x * 128 ^ k < 128 ^ (k + 1) := by
  rw [Nat.pow_succ]
  have : x * 128 ^ k ≤ 127 * 128 ^ k := Nat.mul_le_mul_right _ (by omega)
  omega
set_option maxRecDepth 100000 in
set_option maxHeartbeats 1000000 in
theorem rtake_walk (s : ByteArray) (i : Nat) (w : World) (hs : s.size ≤ 6010) (hi : i ≤ s.size) (n : Nat) (u : Nat) (er : Int) (hr : Hid (takeU (s.data.toList.drop i) = (n, u, er))) :
    Calls Try.prog 19 #[.string s, .int .i64 i] w fun e w' => e = .returned (.tuple #[.int .u64 n, .int .i64 (if er = 0 then ((i + u : Nat) : Int) else 0), .int .i64 er]) ∧ w = w' := by
  have d0 : decide ((i : Int) < 0) = false := decide_eq_false (by omega)
  have d1 : decide ((s.size : Int) < i) = false := decide_eq_false (by omega)
  have d2 : decide (s.size < i) = false := decide_eq_false (by omega)
  go_enter Try.func19, Try.ntmps19
  go_wp2
  go_loop [7, 8] (fun va vk => ∃ k a : Nat, va = .int .u64 a ∧ vk = .int .i64 k ∧ k ≤ 9 ∧ i + k ≤ s.size ∧ Hid (a < 128 ^ k ∧ takeGo k a (s.data.toList.drop (i + k)) = (n, u, er))) (fun _ vk => 10 - (RowKit.intOf vk).toNat)
  case atStart => exact ⟨0, 0, rfl, rfl, by omega, by omega, hid ⟨by decide, hr.out⟩⟩
  case round =>
    obtain ⟨k, a, rfl, rfl, hk, hik, hT⟩ := hrel
    by_cases hend : s.size ≤ i + k
    · have hq := hT.out.2
      rw [drop_end hend] at hq
      injection hq with q1 hq; injection hq with q2 q3
      subst q1 q2 q3
      have b1 : (k : Int) < 10 := by omega
      have b3 : (s.size : Int) ≤ (i : Int) + k := by omega
      clear hT
      go_wp2_with fail
      go_ret3
      exact ⟨rfl, rfl⟩
    · have hlt : i + k < s.size := by omega
      have b1 : (k : Int) < 10 := by omega
      have b2 : (i : Int) + k < s.size := by omega
      have b3 : ¬ (s.size : Int) ≤ (i : Int) + k := by omega
      have hq := hT.out.2
      have ha := hT.out.1
      rw [drop_at hlt] at hq
      have bb := (s[i + k]'hlt).toNat_lt
      by_cases c1 : k = 9 ∧ 1 < (s[i + k]'hlt).toNat
      · rw [go_one c1] at hq
        injection hq with q1 hq; injection hq with q2 q3
        subst q1 q2 q3
        obtain ⟨c1, c2⟩ := c1
        subst c1
        have b4 : (1 : Int) < ((s[i + 9]'hlt).toNat : Int) := by omega
        clear hT
        go_wp2_with fail
        go_ret3
        exact ⟨rfl, rfl⟩
      · have hO := or_byte (b := s[i + k]'hlt) ha hk (by omega)
        by_cases c2 : 128 ≤ (s[i + k]'hlt).toNat
        · have hk9 : k < 9 := by omega
          have hN := go_two c1 c2 hq
          have hN2 := below_next ha (Nat.mod_lt (s[i + k]'hlt).toNat (show 0 < 128 by omega))
          generalize a + (s[i + k]'hlt).toNat % 128 * 128 ^ k = a2 at *
          have hM : Hid (a2 < 128 ^ (k + 1) ∧ takeGo (k + 1) a2 (s.data.toList.drop (i + (k + 1))) = (n, u, er)) := hid ⟨hN2, hN⟩
          clear hT hq hN hN2 ha
          have z9 : ((k : Int) == 9) = false := by simp; omega
          go_wp2_with fail
          go_round
          case rel => exact ⟨k + 1, a2, rfl, by go_num, by omega, by omega, hM⟩
          case measure => simp [RowKit.intOf]; omega
        · by_cases c3 : (s[i + k]'hlt).toNat = 0 ∧ 0 < k
          · rw [go_three c1 c2 c3] at hq
            injection hq with q1 hq; injection hq with q2 q3
            subst q1 q2 q3
            have b4 : ((s[i + k]'hlt).toNat : Int) = 0 := by omega
            have b5 : (0 : Int) < k := by omega
            have b6 : ¬ (1 : Int) < ((s[i + k]'hlt).toNat : Int) := by omega
            clear hT hO
            by_cases z : k = 9
            · subst z
              go_wp2_with fail
              go_ret3
              exact ⟨rfl, rfl⟩
            · have z9 : ((k : Int) == 9) = false := by simp; omega
              go_wp2_with fail
              go_ret3
              exact ⟨rfl, rfl⟩
          · rw [go_four c1 c2 c3] at hq
            injection hq with q1 hq; injection hq with q2 q3
            rw [Nat.mod_eq_of_lt (by omega)] at hO
            rw [q1] at hO
            subst q2 q3
            have hpos : ((s[i + k]'hlt).toNat : Int) = 0 → ¬ (0 : Int) < k := by omega
            have b4 : ¬ (128 : Int) ≤ ((s[i + k]'hlt).toNat : Int) := by omega
            clear hT ha q1
            by_cases z : k = 9
            · subst z
              have e63 : (2 : Int) ^ (7 * 9) = 9223372036854775808 := by decide
              rw [e63] at hO
              have b6 : ¬ (1 : Int) < ((s[i + 9]'hlt).toNat : Int) := by omega
              have z0 : (((s[i + 9]'hlt).toNat : Int) == 0) = false := by simp; omega
              clear hpos e63
              go_wp2_with fail
              go_ret3
              exact ⟨ret_mid (by omega), rfl⟩
            · have z9 : ((k : Int) == 9) = false := by simp; omega
              by_cases y : (s[i + k]'hlt).toNat = 0
              · have z0 : (((s[i + k]'hlt).toNat : Int) == 0) = true := by simp; omega
                have b7 : ¬ (0 : Int) < k := hpos (by omega)
                clear hpos
                rw [y, show ((0 : Nat) : Int) = 0 from rfl] at hO
                go_wp2_with fail
                go_ret3
                exact ⟨ret_mid (by omega), rfl⟩
              · have z0 : (((s[i + k]'hlt).toNat : Int) == 0) = false := by simp; omega
                clear hpos
                go_wp2_with fail
                go_ret3
                exact ⟨ret_mid (by omega), rfl⟩

end Go.Proofs.Ytmpgeipknnoclaa
