/-
  The law that Shuffle permutes, given what rng's functions answer.
-/
import Derived.Test.YtcflfkdamhkfdaaProg
import Derived.WalkKit
import Derived.IntWalk
import Derived.WalkSpells
import Derived.WalkLawsBesides
import Derived.Deep.QuietTactic
import Derived.BigQuiet
import Derived.Lib.Hide
import Derived.Lib.Walk
import Derived.LoopN
import Derived.Test.YtcflfkdamhkfdaaRngShuf
import Derived.Test.YtcflfkdamhkfdaaRngPermMath
namespace Go.Proofs.Ytcflfkdamhkfdaa
open Go.RowKit Go.Lib

theorem infoBool : (Try.prog.info? 4).map (fun i => (i.zero, i.size, i.bytes)) = some (some (.bool false), 1, 1) := by kernel_rfl
/-- The draws alone, counted down. -/
theorem draw_next (m : Nat) (u a u2 : Int) (h : belowv u ((m : Int) + 2) = (a, u2)) : drawGo (m + 1) u = drawGo m u2 := by
  show drawGo m (belowv u ((m : Int) + 2)).2 = _
  rw [h]
set_option maxHeartbeats 4000000 in
theorem law_perm_some (H : RngHave) (s : Int) (n : Nat) (m : Int) (w : World) (hs : U64 s) (h0 : 1 ≤ n) (h1 : n ≤ 1000) (hm : Hid (0 ≤ m ∧ m < 65536)) (hn : m % 1001 = n) : Calls Try.prog 8 #[.int .u64 s, .int .u16 m] w fun e w' => e = .returned (.bool true) ∧ Below w.heap.size w w' := by
  obtain ⟨L, t, hr⟩ : ∃ L t, Hid (shufv s n = (L, t)) := ⟨_, _, hid rfl⟩
  have hl : L.length = n := by have := shuf_len s n; rw [hr.out] at this; exact this
  have m0 := hm.out.1
  have m1 := hm.out.2
  have e1 : m.tmod 1001 = n := by rw [Int.tmod_eq_emod_of_nonneg m0]; exact hn
  go_enter Try.func8, Try.ntmps8
  go_wp2_with fail
  ((with_reducible refine (H.shuffle s n _ L t hs h1 hr).mono ?_); rintro e w1 ⟨v, rfl, hown1, hL⟩)
  obtain ⟨g, cap, rfl⟩ := owns_some hown1 h0
  obtain ⟨i0, hi, hz0, hz1, hz2⟩ := info_parts infoBool
  obtain ⟨w2, hmk, hown2, hg2⟩ := run_make_full w1 w1.heap.size 38 4 i0 (.bool false) 1 Try.underlying38 hi hz0 hz1 .i64 .i64 n (by rw [hz2]; omega) (by unfold maxLen; omega) (Nat.le_refl _)
  have hg1 : g < w1.heap.size := (hown1.lt g rfl).2
  have hb2 : Below w1.heap.size w1 w2 := (Below.refl w1.heap.size w1).grown hg2 (Nat.le_refl _) (fun k h => by cases h)
  replace hown1 := owns_below hown1 hb2
  replace hL := below_call hL hb2
  replace hown2 := own_cast hown2 rfl (show _ = bools (seenL L 0 n) by rw [Nat.mul_one, seen_zero]; exact toList_madeCells_one (.bool false) n)
  have hD : Hid (drawGo (n - 1) s = t) := hid (by have e := go_state (n - 1) (upTo n) s; rw [← e]; have := hr.out; unfold shufv at this; rw [this])
  have hP : Hid (L.Nodup ∧ ∀ a, a ∈ L → 0 ≤ a ∧ a < n) := hid (by
    have a := shuf_nodup s n h1
    have b := shuf_mem s n h1
    rw [hr.out] at a b
    exact ⟨a, b⟩)
  clear hg2 hb2 hi hz0 hz1 hz2 hr
  go_wp2_with fail
  clear hmk
  generalize w1.heap.size = G at *
  go_loopw [9] (fun vi wr => ∃ k : Nat, vi = .int .i64 k ∧ k ≤ n ∧ wr.ownsRow w.heap.size 3 1 (.slice (some ⟨g, 0, none⟩) n cap) n (ints L) ∧ wr.ownsRow G 4 1 (.slice (some ⟨G, 0, none⟩) n n) n (bools (seenL L k n)) ∧ Below w.heap.size w wr) (fun vi _ => n - (RowKit.intOf vi).toNat)
  case atStart => exact ⟨0, rfl, by omega, hown1, hown2, hL⟩
  case round =>
    clear hown1 hown2 hL
    obtain ⟨k, rfl, hk, hown1, hown2, hL⟩ := hrel
    by_cases hlt : k < n
    · obtain ⟨x, hx⟩ : ∃ x, x = L.getD k 0 := ⟨_, rfl⟩
      have hb := hP.out.2 x (by rw [hx]; exact at_mem L k (by omega))
      have hns := not_seen L k x hP.out.1 (by omega) hx.symm
      obtain ⟨X, rfl⟩ := Int.eq_ofNat_of_zero_le hb.1
      have hX : X < n := by omega
      have cA : wr.cell? ⟨g, k, none⟩ = some (.int .i64 X) := by rw [hown1.cellAt k (by omega), ints_at L _ (by omega), hx]
      have cS : wr.cell? ⟨G, X, none⟩ = some (.bool false) := by rw [hown2.cellAt X (by omega), seen_at L k n X hX, decide_eq_false hns]
      have fS := hown2.frozenAt X
      have b1 : (k : Int) < n := by omega
      have b2 : (X : Int) < n := by omega
      have hown2' := own_cast (hown2.stored X (.bool true)).1 rfl (seen_next L k n X (by omega) hx.symm)
      have hown1' := ownsRow_setCell_other hown1 (a := ⟨G, X, none⟩) (by simp [Value.ownBlock]; omega) (.bool true)
      have hL' := hL.setCell (p := ⟨G, X, none⟩) (by show w.heap.size ≤ G; have := (hown1.lt g rfl).1; omega) (.bool true)
      clear hown1 hown2 hL hx hns hb hP hD
      go_wp2_with fail
      go_roundw
      case rel => exact ⟨k + 1, by go_num, by omega, hown1', hown2', hL'⟩
      case measure => simp [RowKit.intOf]; omega
    · obtain rfl : k = n := by omega
      clear hown1 hown2 hP hl
      go_wp2_with fail
      go_loopw [10, 11] (fun vu vi wr => ∃ (i : Nat) (u : Int), vu = .int .u64 u ∧ vi = .int .i64 i ∧ 1 ≤ i ∧ i ≤ k ∧ U64 u ∧ Hid (drawGo (i - 1) u = t) ∧ Below w.heap.size w wr) (fun _ vi _ => (RowKit.intOf vi).toNat)
      case atStart => exact ⟨k, s, rfl, rfl, h0, by omega, hs, hD, hL⟩
      case round =>
        clear hD hL
        obtain ⟨i, u, rfl, rfl, hi0, hik, hu, hD, hL⟩ := hrel
        by_cases hi1 : i = 1
        · subst hi1
          have ht : u = t := hD.out
          subst ht
          go_wp2_with fail
          ((with_reducible refine (awake_any H _).mono ?_); rintro e w5 ⟨rfl, hb⟩)
          replace hL := below_call hL hb
          go_wp2_with fail
          go_ret
          exact ⟨rfl, hL⟩
        · obtain ⟨q, rfl⟩ : ∃ q, i = q + 2 := ⟨i - 2, by omega⟩
          obtain ⟨a, u2, hb⟩ : ∃ a u2, Hid (belowv u ((q : Int) + 2) = (a, u2)) := ⟨_, _, hid rfl⟩
          have bd := below_bd (s := u) (n := (q : Int) + 2) (by omega) (by omega)
          rw [hb.out] at bd
          have hu2 := bd.2.2
          have hD2 : Hid (drawGo (q + 1 - 1) u2 = t) := hid (by rw [← hD.out]; exact (draw_next q u a u2 hb.out).symm)
          clear bd hD
          go_wp2_with fail
          ((with_reducible refine (H.below u _ a u2 _ hu (by omega) (by omega) hb).mono ?_); rintro e w3 ⟨rfl, hb3⟩)
          replace hL := below_call hL hb3
          clear hb3
          go_wp2_with fail
          go_roundw
          case rel => exact ⟨q + 1, u2, rfl, by go_num, by omega, by omega, hu2, hD2, hL⟩
          case measure => simp [RowKit.intOf]; omega

set_option maxHeartbeats 2000000 in
theorem law_perm_zero (H : RngHave) (s : Int) (m : Int) (w : World) (hs : U64 s) (hm : Hid (0 ≤ m ∧ m < 65536)) (hn : m % 1001 = 0) : Calls Try.prog 8 #[.int .u64 s, .int .u16 m] w fun e w' => e = .returned (.bool true) ∧ Below w.heap.size w w' := by
  have m0 := hm.out.1
  have m1 := hm.out.2
  have e1 : m.tmod 1001 = 0 := by rw [Int.tmod_eq_emod_of_nonneg m0]; exact hn
  have hc : ∀ w, Calls Try.prog 18 #[.int .u64 s, .int .i64 0] w fun e w' => ∃ v, e = .returned (.tuple #[v, .int .u64 s, .int .i64 0]) ∧ w'.ownsRow w.heap.size 3 1 v 0 (ints []) ∧ Below w.heap.size w w' := fun w => H.shuffle s 0 w [] s hs (by decide) (hid rfl)
  have hmk : ∀ w : World, (Instr.makeSlice 38 (.int .i64 0) (.int .i64 0)).run Try.prog w = .ok (.slice (some ⟨w.heap.size, 0, none⟩) 0 0) (w.alloc (.cells #[] 4)) := fun _ => by kernel_rfl
  go_enter Try.func8, Try.ntmps8
  go_wp2_with fail
  ((with_reducible refine (hc _).mono ?_); rintro e w1 ⟨v, rfl, hown, hL⟩)
  obtain ⟨p, cap, rfl⟩ := owns_zero hown
  clear hown hc
  replace hL := hL.alloc hL.size (.cells #[] 4)
  go_wp2_with fail
  refine wp_loop_rounds 1 ?_
  rw [rounds_succ]
  go_wp2_with fail
  refine wp_loop_rounds 1 ?_
  rw [rounds_succ]
  go_wp2_with fail
  ((with_reducible refine (awake_any H _).mono ?_); rintro e w5 ⟨rfl, hb⟩)
  replace hL := below_call hL hb
  go_wp2_with fail
  go_ret
  exact ⟨rfl, hL⟩
theorem law_permutes (H : RngHave) (s m : Int) (w : World) (hs : U64 s) (h0 : 0 ≤ m) (h1 : m < 65536) : Calls Try.prog 8 #[.int .u64 s, .int .u16 m] w fun e w' => e = .returned (.bool true) ∧ Below w.heap.size w w' := by
  by_cases z : m % 1001 = 0
  · exact law_perm_zero H s m w hs (hid ⟨h0, h1⟩) z
  · exact law_perm_some H s (m % 1001).toNat m w hs (by omega) (by omega) (hid ⟨h0, h1⟩) (by omega)

end Go.Proofs.Ytcflfkdamhkfdaa
