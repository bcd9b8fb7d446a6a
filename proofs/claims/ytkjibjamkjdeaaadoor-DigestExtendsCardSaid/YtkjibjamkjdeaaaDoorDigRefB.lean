/-
  What the reference of digest answers: the digits read.
-/
import Derived.Test.YtkjibjamkjdeaaaDoorDigRef
namespace Go.Proofs.YtkjibjamkjdeaaaDoor
open Go.RowKit Go.Lib

theorem dig_at : ∀ k, (h : k < 16) → ((ByteArray.mk #[48, 49, 50, 51, 52, 53, 54, 55, 56, 57, 97, 98, 99, 100, 101, 102])[k]'h) = hexd k := by decide
set_option maxRecDepth 100000 in
set_option maxHeartbeats 400000 in
theorem rvalue_any (c : UInt8) (w : World) :
    Calls Tryd.prog 26 #[.int .u8 c.toNat] w fun e w' => e = .returned (.int .u64 (hv c : Nat)) ∧ w = w' := by
  go_enter Tryd.func26, Tryd.ntmps26
  go_wp2
  go_loop [3] (fun vi => ∃ (i : Nat), vi = .int .i64 i ∧ i ≤ 16 ∧ Hid (hvGo (16 - i) i c = hv c)) (fun vi => 16 - (RowKit.intOf vi).toNat)
  case atStart => exact ⟨0, rfl, by omega, Lib.hid rfl⟩
  case round =>
    obtain ⟨i, rfl, hi, hd⟩ := hrel
    by_cases h9 : i < 16
    · have b1 : (i : Int) < 16 := by omega
      have hat := dig_at i h9
      have hg := hd.out
      rw [show 16 - i = (16 - (i + 1)) + 1 by omega, hvGo] at hg
      by_cases hc : hexd i = c
      · rw [if_pos hc] at hg
        have hq := Lib.hid hg
        have z1 : (((hexd i).toNat : Int) == (c.toNat : Int)) = true := by rw [hc]; simp
        clear hd hg
        go_wp2
        go_ret
        exact ⟨ret_int (by rw [hq.out]), rfl⟩
      · rw [if_neg hc] at hg
        have hq := Lib.hid hg
        have z1 : (((hexd i).toNat : Int) == (c.toNat : Int)) = false := by
          simp only [beq_eq_false_iff_ne, ne_eq]
          intro e
          exact hc (UInt8.toNat_inj.1 (by omega))
        clear hd hg
        go_wp2
        go_round
        case rel => exact ⟨i + 1, by go_num, by omega, hq⟩
        case measure => simp [RowKit.intOf]; omega
    · obtain rfl : i = 16 := by omega
      have hg := hd.out
      clear hd
      go_wp2
      go_ret
      exact ⟨ret_int (by rw [← hg]; rfl), rfl⟩

theorem ret_nat {m : IntKind} {a b : Nat} {c : Int} (h : a = b) : Ending.returned (.tuple #[.int .u64 (a : Int), .int m c]) = .returned (.tuple #[.int .u64 (b : Int), .int m c]) := by rw [h]
set_option maxHeartbeats 400000 in
theorem runhex_short (s : ByteArray) (w : World) (h : s.size ≠ 16) :
    Calls Tryd.prog 19 #[.string s] w fun e w' => e = .returned (.tuple #[.int .u64 0, .int .i64 5]) ∧ w = w' := by
  have z1 : ((s.size : Int) != 16) = true := by simp; omega
  go_enter Tryd.func19, Tryd.ntmps19
  go_wp2
  go_ret2
  exact ⟨rfl, rfl⟩
theorem uh_drop {s : ByteArray} {i : Nat} (h : i < s.size) : s.data.toList.drop i = (s[i]'h) :: s.data.toList.drop (i + 1) := by
  rw [List.drop_eq_getElem_cons (by rw [← Lib.size_eq]; exact h)]; rfl
set_option maxRecDepth 100000 in
set_option maxHeartbeats 1000000 in
theorem runhex_full (s : ByteArray) (n : Nat) (er : Int) (w : World) (h : s.size = 16) (hr : Hid (uh s.data.toList 0 = (n, er))) :
    Calls Tryd.prog 19 #[.string s] w fun e w' => e = .returned (.tuple #[.int .u64 n, .int .i64 er]) ∧ w = w' := by
  have hh : (s.size : Int) = 16 := by omega
  have z1 : ((s.size : Int) != 16) = false := by simp; omega
  go_enter Tryd.func19, Tryd.ntmps19
  go_wp2
  go_loop [4, 5] (fun va vi => ∃ (a i : Nat), va = .int .u64 a ∧ vi = .int .i64 i ∧ i ≤ 16 ∧ Hid (a < 16 ^ i ∧ uh (s.data.toList.drop i) a = (n, er))) (fun _ vi => 16 - (RowKit.intOf vi).toNat)
  case atStart => exact ⟨0, 0, rfl, rfl, by omega, hid ⟨by decide, hr.out⟩⟩
  case round =>
    obtain ⟨a, i, rfl, rfl, hi, hT⟩ := hrel
    clear hr
    by_cases hlt : i < 16
    · have b1 : (i : Int) < 16 := by omega
      have b2 : i < s.size := by omega
      have b3 : (i : Int) < s.size := by omega
      have hq := hT.out.2
      have ha := hT.out.1
      rw [uh_drop b2, uh] at hq
      have hv16 := hv_le (s[i]'b2)
      obtain ⟨v, hv⟩ : ∃ v, hv (s[i]'b2) = v := ⟨_, rfl⟩
      rw [hv] at hq hv16
      have hc := rvalue_any (s[i]'b2)
      rw [hv] at hc
      by_cases h15 : 15 < v
      · rw [if_pos h15] at hq
        injection hq with q1 q2
        subst q1 q2
        have b4 : (15 : Int) < (v : Int) := by omega
        clear hT hv
        go_wp2_with fail
        ((with_reducible refine (hc _).mono ?_); rintro e w1 ⟨rfl, hw⟩)
        rw [← hw]
        clear hw
        go_wp2_with fail
        go_ret2
        exact ⟨rfl, rfl⟩
      · rw [if_neg h15] at hq
        have b4 : ¬ (15 : Int) < (v : Int) := by omega
        have hp : (16 : Nat) ^ (i + 1) ≤ 16 ^ 16 := Nat.pow_le_pow_right (by omega) (by omega)
        rw [show (16 : Nat) ^ 16 = 18446744073709551616 by decide, Nat.pow_succ] at hp
        have hlt2 : a * 16 + v < 18446744073709551616 := by omega
        have hN := hid (show a * 16 + v < 16 ^ (i + 1) ∧ uh (s.data.toList.drop (i + 1)) (a * 16 + v) = (n, er) from ⟨by rw [Nat.pow_succ]; omega, hq⟩)
        clear hT hv hp ha hq
        go_wp2_with fail
        ((with_reducible refine (hc _).mono ?_); rintro e w1 ⟨rfl, hw⟩)
        rw [← hw]
        clear hw
        go_wp2_with fail
        go_round
        case rel => exact ⟨a * 16 + v, i + 1, by go_num, by go_num, by omega, hN⟩
        case measure => simp [RowKit.intOf]; omega
    · obtain rfl : i = 16 := by omega
      have hq := hT.out.2
      rw [List.drop_eq_nil_of_le (by rw [← Lib.size_eq]; omega), uh] at hq
      injection hq with q1 q2
      subst q1 q2
      clear hT
      go_wp2_with fail
      go_ret2
      exact ⟨rfl, rfl⟩
theorem runhex_n (s : ByteArray) (n : Nat) (er : Int) (w : World) (hr : Hid (unhexv s.data.toList = (n, er))) :
    Calls Tryd.prog 19 #[.string s] w fun e w' => e = .returned (.tuple #[.int .u64 n, .int .i64 er]) ∧ w = w' := by
  have h := hr.out
  unfold unhexv at h
  rw [← Lib.size_eq] at h
  by_cases hs : s.size = 16
  · rw [if_pos hs] at h
    exact runhex_full s n er w hs (hid h)
  · rw [if_neg hs] at h
    injection h with h1 h2
    subst h1 h2
    exact runhex_short s w hs

end Go.Proofs.YtkjibjamkjdeaaaDoor
