/-
  What rng's Shuffle answers (the code landed at 9de9debe).
-/
import Derived.Test.YtcflfkdamhkfdaaProg
import Derived.WalkKit
import Derived.IntWalk
import Derived.WalkSpells
import Derived.WalkLawsBesides
import Derived.Deep.QuietTactic
import Derived.BigQuiet
import Derived.BigRegion
import Derived.Lib.Hide
import Derived.Lib.Walk
import Derived.Laws.OwnMore
import Derived.LoopN
import Derived.Test.YtcflfkdamhkfdaaRngDev
namespace Go.Proofs.Ytcflfkdamhkfdaa
open Go.RowKit Go.Lib

/-- The list 0, 1, .., k - 1, with zeros behind it up to n. -/
def upToZ (k n : Nat) : List Int := (List.range n).map (fun (a : Nat) => if a < k then (a : Int) else 0)
theorem upToZ_len (k n : Nat) : (upToZ k n).length = n := by unfold upToZ; simp
theorem upToZ_zero (n : Nat) : ints (upToZ 0 n) = List.replicate n (.int .i64 0) := by
  unfold ints upToZ
  apply List.ext_getElem?
  intro i
  by_cases h : i < n
  · simp [h]
  · simp [h]
theorem upToZ_full (n : Nat) : upToZ n n = upTo n := by
  unfold upToZ upTo
  apply List.map_congr_left
  intro a ha
  rw [if_pos (List.mem_range.1 ha)]
  rfl
theorem upToZ_next (k n : Nat) (h : k < n) : (upToZ k n).set k (k : Int) = upToZ (k + 1) n := by
  unfold upToZ
  apply List.ext_getElem?
  intro i
  rw [List.getElem?_set]
  by_cases hi : k = i
  · subst hi
    simp [h]
  · rw [if_neg hi]
    by_cases hin : i < n
    · simp only [List.getElem?_map, List.getElem?_range hin, Option.map_some]
      by_cases hk : i < k
      · rw [if_pos hk, if_pos (by omega)]
      · rw [if_neg hk, if_neg (by omega)]
    · rw [List.getElem?_eq_none (by simpa using hin), List.getElem?_eq_none (by simpa using hin)]

set_option maxHeartbeats 400000 in
theorem gshuffle_low (s n : Int) (w : World) (h : n < 0) :
    Calls Try.prog 18 #[.int .u64 s, .int .i64 n] w fun e w' => e = .returned (.tuple #[.slice none 0 0, .int .u64 0, .int .i64 1]) ∧ w = w' := by
  go_enter Try.func18, Try.ntmps18
  go_wp2
  go_ret3
  exact ⟨rfl, rfl⟩
set_option maxHeartbeats 400000 in
theorem gshuffle_high (s n : Int) (w : World) (h : 1000 < n) :
    Calls Try.prog 18 #[.int .u64 s, .int .i64 n] w fun e w' => e = .returned (.tuple #[.slice none 0 0, .int .u64 0, .int .i64 2]) ∧ w = w' := by
  go_enter Try.func18, Try.ntmps18
  go_wp2
  go_ret3
  exact ⟨rfl, rfl⟩
set_option maxHeartbeats 2000000 in
theorem gshuffle_mid (s : Int) (n : Nat) (w : World) (hs : U64 s) (h : n ≤ 1000) (h0 : 1 ≤ n) (L : List Int) (t : Int) (hr : Hid (shufv s n = (L, t))) :
    Calls Try.prog 18 #[.int .u64 s, .int .i64 n] w fun e w' => ∃ v, e = .returned (.tuple #[v, .int .u64 t, .int .i64 0]) ∧ w'.ownsRow w.heap.size 3 1 v n (ints L) ∧ Below w.heap.size w w' := by
  obtain ⟨i0, hi, hz0, hz1, hz2⟩ := info_parts infoInt
  obtain ⟨w2, hmk, hown, hg2⟩ := run_make_full w w.heap.size 34 3 i0 (.int .i64 0) 1 Try.underlying34 hi hz0 hz1 .i64 .i64 n (by rw [hz2]; omega) (by unfold maxLen; omega) (Nat.le_refl _)
  have hL : Below w.heap.size w w2 := (Below.refl w.heap.size w).grown hg2 (Nat.le_refl _) (fun k h => by cases h)
  replace hown := own_cast hown rfl (show _ = ints (upToZ 0 n) by rw [Nat.mul_one, upToZ_zero]; exact toList_madeCells_one (.int .i64 0) n)
  clear hg2 hi hz0 hz1 hz2
  go_enter Try.func18, Try.ntmps18
  go_wp2_with fail
  clear hmk
  obtain ⟨g, hg⟩ : ∃ g, Hid (g = w.heap.size) := ⟨_, hid rfl⟩
  go_loopw [19] (fun vi wr => ∃ k : Nat, vi = .int .i64 k ∧ k ≤ n ∧ wr.ownsRow w.heap.size 3 1 (.slice (some ⟨w.heap.size, 0, none⟩) n n) n (ints (upToZ k n)) ∧ Below w.heap.size w wr) (fun vi _ => n - (RowKit.intOf vi).toNat)
  case atStart => exact ⟨0, rfl, by omega, hown, hL⟩
  case round =>
    clear hown hL
    obtain ⟨k, rfl, hk, hown, hL⟩ := hrel
    by_cases hlt : k < n
    · have b1 : (k : Int) < n := by omega
      have cA := hown.cellAt k (by omega)
      rw [ints_at _ _ (by rw [upToZ_len]; exact hlt)] at cA
      have fA := hown.frozenAt k
      have hown' := own_cast (hown.stored k (.int .i64 k)).1 rfl (by rw [ints_set, upToZ_next k n hlt])
      have hL' := hL.setCell (p := ⟨w.heap.size, k, none⟩) (Nat.le_refl _) (.int .i64 k)
      clear hown hL
      go_wp2_with fail
      go_roundw
      case rel => exact ⟨k + 1, by go_num, by omega, hown', hL'⟩
      case measure => simp [RowKit.intOf]; omega
    · obtain rfl : k = n := by omega
      have hS : Hid (shufGo (k - 1) (upTo k) s = (L, t)) := hid hr.out
      rw [upToZ_full] at hown
      have hkl := upTo_len k
      generalize upTo k = M at *
      clear hr
      go_wp2_with fail
      go_loopw [0, 29] (fun vs vi wx => ∃ (i : Nat) (u : Int) (Q : List Int), vi = .int .i64 ((k : Int) - 1 - i) ∧ vs = .int .u64 u ∧ i + 1 ≤ k ∧ U64 u ∧ Q.length = k ∧ wx.ownsRow w.heap.size 3 1 (.slice (some ⟨w.heap.size, 0, none⟩) k k) k (ints Q) ∧ Below w.heap.size w wx ∧ Hid (shufGo i Q u = (L, t))) (fun _ vi _ => ((k : Int) - (RowKit.intOf vi)).toNat)
      case atStart => exact ⟨k - 1, s, M, by rw [show (k : Int) - 1 - ((k - 1 : Nat) : Int) = 0 by omega], rfl, by omega, hs, hkl, hown, hL, hS⟩
      case round =>
        clear hS hown hL hkl
        obtain ⟨i, u, Q, rfl, rfl, hik, hu, hQ, hown, hbr, hS⟩ := hrel
        cases i with
        | zero =>
          have hf := hS.out
          injection hf with hf1 hf2
          subst hf1 hf2
          go_wp2_with fail
          go_ret3
          exact ⟨_, rfl, hown, hbr⟩
        | succ m =>
          have e1 : (k : Int) - 1 - ((k : Int) - 1 - ((m : Int) + 1)) = (m : Int) + 1 := by omega
          obtain ⟨a, u2, hb⟩ : ∃ a u2, Hid (belowv u ((m : Int) + 2) = (a, u2)) := ⟨_, _, hid rfl⟩
          have bd := below_bd (s := u) (n := (m : Int) + 2) (by omega) (by omega)
          rw [hb.out] at bd
          obtain ⟨j, rfl⟩ := Int.eq_ofNat_of_zero_le bd.1
          have hj : j < m + 2 := by have := bd.2.1; simp at this; omega
          clear bd
          have hb' : Hid (belowv u ((m : Int) + 1 + 1) = ((j : Int), u2)) := hid (by rw [show (m : Int) + 1 + 1 = m + 2 by omega]; exact hb.out)
          have hS2 : Hid (shufGo m (swapL Q (m + 1) j) u2 = (L, t)) := hid (by
            have e := hS.out
            unfold shufGo at e
            rw [hb.out] at e
            simpa using e)
          clear hS hb
          obtain ⟨x, hx⟩ : ∃ x, Hid (x = Q.getD (m + 1) 0) := ⟨_, hid rfl⟩
          obtain ⟨y, hy⟩ : ∃ y, Hid (y = Q.getD j 0) := ⟨_, hid rfl⟩
          have cA : wr.cell? ⟨w.heap.size, m + 1, none⟩ = some (.int .i64 x) := by rw [hown.cellAt (m + 1) (by omega), ints_at Q _ (by omega), hx.out]
          have cB : wr.cell? ⟨w.heap.size, j, none⟩ = some (.int .i64 y) := by rw [hown.cellAt j (by omega), ints_at Q _ (by omega), hy.out]
          have fA := hown.frozenAt (m + 1)
          have fB := hown.frozenAt j
          have b0 : (0 : Int) ≤ (m : Int) + 1 := by omega
          have b1 : (m : Int) + 1 < k := by omega
          have b2 : (j : Int) < k := by omega
          have hown3 : ((wr.setCell ⟨w.heap.size, m + 1, none⟩ (.int .i64 y)).setCell ⟨w.heap.size, j, none⟩ (.int .i64 x)).ownsRow w.heap.size 3 1 (.slice (some ⟨w.heap.size, 0, none⟩) k k) k (ints (swapL Q (m + 1) j)) :=
            own_cast ((hown.stored (m + 1) (.int .i64 y)).1.stored j (.int .i64 x)).1 rfl (by rw [ints_set, ints_set, hx.out, hy.out]; rfl)
          have hbr3 : Below w.heap.size w ((wr.setCell ⟨w.heap.size, m + 1, none⟩ (.int .i64 y)).setCell ⟨w.heap.size, j, none⟩ (.int .i64 x)) := (hbr.setCell (p := ⟨w.heap.size, m + 1, none⟩) (Nat.le_refl _) _).setCell (p := ⟨w.heap.size, j, none⟩) (Nat.le_refl _) _
          have hown4 : ¬ j = m + 1 → ((wr.setCell ⟨w.heap.size, j, none⟩ (.int .i64 x)).setCell ⟨w.heap.size, m + 1, none⟩ (.int .i64 y)).ownsRow w.heap.size 3 1 (.slice (some ⟨w.heap.size, 0, none⟩) k k) k (ints (swapL Q (m + 1) j)) := fun ne =>
            own_cast ((hown.stored j (.int .i64 x)).1.stored (m + 1) (.int .i64 y)).1 rfl (by rw [ints_set, ints_set, hx.out, hy.out, List.set_comm _ _ ne]; rfl)
          have hbr4 : Below w.heap.size w ((wr.setCell ⟨w.heap.size, j, none⟩ (.int .i64 x)).setCell ⟨w.heap.size, m + 1, none⟩ (.int .i64 y)) := (hbr.setCell (p := ⟨w.heap.size, j, none⟩) (Nat.le_refl _) _).setCell (p := ⟨w.heap.size, m + 1, none⟩) (Nat.le_refl _) _
          have l3 := swap_len Q (m + 1) j
          rw [hQ] at l3
          clear hown hbr hQ hx hy
          have hu2 : U64 u2 := by
            have bd := below_bd (s := u) (n := (m : Int) + 1 + 1) (by omega) (by omega)
            rw [hb'.out] at bd
            exact bd.2.2
          go_wp2_with fail
          ((with_reducible refine (gbelow_n u _ j u2 _ hu (by omega) (by omega) hb').mono ?_); rintro e w1 ⟨rfl, hw⟩)
          rw [← hw]
          clear hw hb'
          by_cases hjm : j = m + 1
          · subst hjm
            have exy : x = y := by
              have e := cA.symm.trans cB
              injection e with e
              injection e
            subst exy
            go_wp2_with fail
            go_region
            all_goals
              go_wp2_with fail
              go_roundw
              case rel => first | exact ⟨m, u2, _, congrArg (Value.int .i64) (by omega), rfl, by omega, hu2, l3, hown3.drew, hbr3.drew, hS2⟩
              case measure => simp [RowKit.intOf]; omega
          · go_wp2_with fail
            go_region
            all_goals
              go_wp2_with fail
              go_roundw
              case rel => first | exact ⟨m, u2, _, congrArg (Value.int .i64) (by omega), rfl, by omega, hu2, l3, hown3.drew, hbr3.drew, hS2⟩ | exact ⟨m, u2, _, congrArg (Value.int .i64) (by omega), rfl, by omega, hu2, l3, (hown4 hjm).drew, hbr4.drew, hS2⟩
              case measure => simp [RowKit.intOf]; omega

set_option maxHeartbeats 400000 in
theorem gshuffle_zero (s : Int) (w : World) :
    Calls Try.prog 18 #[.int .u64 s, .int .i64 0] w fun e w' => ∃ v, e = .returned (.tuple #[v, .int .u64 s, .int .i64 0]) ∧ w'.ownsRow w.heap.size 3 1 v 0 (ints []) ∧ Below w.heap.size w w' := by
  have hmk : ∀ w : World, (Instr.makeSlice 34 (.int .i64 0) (.int .i64 0)).run Try.prog w = .ok (.slice (some ⟨w.heap.size, 0, none⟩) 0 0) (w.alloc (.cells #[] 3)) := fun _ => by kernel_rfl
  go_enter Try.func18, Try.ntmps18
  go_wp2
  refine wp_loop_rounds 1 ?_
  rw [rounds_succ]
  go_wp2
  refine wp_loop_rounds 1 ?_
  rw [rounds_succ]
  go_wp2
  go_ret3
  exact ⟨_, rfl, w.ownsRow_lit #[] 0 (Nat.le_refl _) (by decide) rfl, (Below.refl _ _).alloc (Nat.le_refl _) _⟩
theorem gshuffle_n (s : Int) (n : Nat) (w : World) (L : List Int) (t : Int) (hs : U64 s) (h : n ≤ 1000) (hr : Hid (shufv s n = (L, t))) :
    Calls Try.prog 18 #[.int .u64 s, .int .i64 n] w fun e w' => ∃ v, e = .returned (.tuple #[v, .int .u64 t, .int .i64 0]) ∧ w'.ownsRow w.heap.size 3 1 v n (ints L) ∧ Below w.heap.size w w' := by
  by_cases h0 : n = 0
  · subst h0
    have e := hr.out
    injection e with e1 e2
    subst e1 e2
    exact gshuffle_zero s w
  · exact gshuffle_mid s n w hs h (by omega) L t hr

end Go.Proofs.Ytcflfkdamhkfdaa
