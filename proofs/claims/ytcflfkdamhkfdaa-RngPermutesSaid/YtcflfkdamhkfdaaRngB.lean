/-
  What the reference's Shuffle answers.
-/
import Derived.Test.YtcflfkdamhkfdaaProg
import Derived.WalkKit
import Derived.IntWalk
import Derived.WalkSpells
import Derived.WalkLawsBesides
import Derived.Deep.QuietTactic
import Derived.BigQuiet
import Derived.Lib.Hide
import Derived.Lib.Walk
import Derived.Laws.OwnMore
import Derived.LoopN
import Derived.Test.YtcflfkdamhkfdaaRngA
import Derived.Test.YtcflfkdamhkfdaaRngShufMath
namespace Go.Proofs.Ytcflfkdamhkfdaa
open Go.RowKit Go.Lib

theorem cell_lone {w : World} {u : Value} {t : TypeId} : ∀ j x, ([u] : List Value)[j]? = some x → (w.alloc (.cells #[u] t)).cell? ((⟨w.heap.size, 0, none⟩ : Addr).add j) = some x := by
  intro j x hj
  match j, hj with
  | 0, hj => simp at hj; subst hj; simp [Addr.add]
theorem one_lone {k : IntKind} {x : Int} : ∀ u ∈ ([.int k x] : List Value), u.oneCell' = true := by
  intro u hu; simp at hu; subst hu; rfl
/-- Behind one append of a single value. -/
theorem below_append {w0 wr w1 : World} {B n : Nat} {v : Value} {xs : List Value} {t : TypeId} {o : Obj} (hB : B ≤ wr.heap.size) (hb : Below B w0 wr) (hown : wr.ownsRow B t 1 v n xs) (hg : (wr.alloc o).grownBy w1 v.ownBlock) : Below B w0 w1 :=
  (hb.alloc hB o).grown hg (by have := hB; simp; omega) (fun k hk => (hown.lt k hk).1)
theorem own_cast {w : World} {B : Nat} {e : TypeId} {v : Value} {n m : Nat} {xs ys : List Value} (h : w.ownsRow B e 1 v n xs) (hn : n = m) (hx : xs = ys) : w.ownsRow B e 1 v m ys := by subst hn; subst hx; exact h
theorem infoInt : (Try.prog.info? 3).map (fun i => (i.zero, i.size, i.bytes)) = some (some (.int .i64 0), 1, 8) := by kernel_rfl

set_option maxHeartbeats 400000 in
theorem rshuffle_low (s n : Int) (w : World) (h : n < 0) :
    Calls Try.prog 19 #[.int .u64 s, .int .i64 n] w fun e w' => e = .returned (.tuple #[.slice none 0 0, .int .u64 0, .int .i64 1]) ∧ w = w' := by
  go_enter Try.func19, Try.ntmps19
  go_wp2
  go_ret3
  exact ⟨rfl, rfl⟩
set_option maxHeartbeats 400000 in
theorem rshuffle_high (s n : Int) (w : World) (h : 1000 < n) :
    Calls Try.prog 19 #[.int .u64 s, .int .i64 n] w fun e w' => e = .returned (.tuple #[.slice none 0 0, .int .u64 0, .int .i64 2]) ∧ w = w' := by
  go_enter Try.func19, Try.ntmps19
  go_wp2
  go_ret3
  exact ⟨rfl, rfl⟩

set_option maxHeartbeats 2000000 in
theorem rshuffle_mid (s : Int) (n : Nat) (w : World) (h : n ≤ 1000) (h0 : 1 ≤ n) (L : List Int) (t : Int) (hr : Hid (shufv s n = (L, t))) :
    Calls Try.prog 19 #[.int .u64 s, .int .i64 n] w fun e w' => ∃ v, e = .returned (.tuple #[v, .int .u64 t, .int .i64 0]) ∧ w'.ownsRow w.heap.size 3 1 v n (ints L) ∧ Below w.heap.size w w' := by
  obtain ⟨i0, hi, hz0, hz1, hz2⟩ := info_parts infoInt
  go_enter Try.func19, Try.ntmps19
  go_wp2
  go_loopw [7, 8] (fun v vi wr => ∃ k : Nat, vi = .int .i64 k ∧ k ≤ n ∧ wr.ownsRow w.heap.size 3 1 v k (ints (upTo k)) ∧ Below w.heap.size w wr) (fun _ vi _ => n - (RowKit.intOf vi).toNat)
  case atStart => exact ⟨0, rfl, by omega, World.ownsRow_nil _ _ _ _, Below.refl _ _⟩
  case round =>
    obtain ⟨k, rfl, hk, hown, hbr⟩ := hrel
    by_cases hlt : k < n
    · go_wp2_with (at_builtin; refine wpList_append_own _ rfl _ _ 34 rfl w.heap.size 3 i0 (.int .i64 0) 1 8 Try.underlying34 hi hz0 hz1 hz2 rfl (by decide) _ _ _ rfl (hown.alloc _) ⟨wr.heap.size, 0, none⟩ 1 1 [.int .i64 k] rfl rfl cell_lone one_lone (by unfold maxLen; omega) (by omega) (by have := hbr.size; simp; omega) ?_)
      intro v' w' hown' hg' _
      have hb' := below_append (t := 3) hbr.size hbr hown hg'
      have hown2 := own_cast hown' (m := k + 1) (ys := ints (upTo (k + 1))) rfl (by rw [ints_snoc, upTo_next])
      clear hg' hown hbr hown'
      go_wp2_with fail
      go_roundw
      case rel => exact ⟨k + 1, by go_num, by omega, hown2, hb'⟩
      case measure => simp [RowKit.intOf]; omega
    · obtain rfl : k = n := by omega
      obtain ⟨g, cap, rfl⟩ : ∃ g cap, u7 = .slice (some ⟨g, 0, none⟩) k cap := by
        rcases hown.2 with ⟨_, h0'⟩ | ⟨g, cap, cur, rfl, _⟩
        · omega
        · exact ⟨g, cap, rfl⟩
      have hS : Hid (shufGo (k - 1) (upTo k) s = (L, t)) := hid hr.out
      have hkl := upTo_len k
      generalize upTo k = M at *
      clear hr hi hz0 hz1 hz2
      go_wp2_with fail
      go_loopw [9, 10] (fun vs vi wx => ∃ (i : Nat) (u : Int) (Q : List Int), vi = .int .i64 i ∧ vs = .int .u64 u ∧ i + 1 ≤ k ∧ Q.length = k ∧ wx.ownsRow w.heap.size 3 1 (.slice (some ⟨g, 0, none⟩) k cap) k (ints Q) ∧ Below w.heap.size w wx ∧ Hid (shufGo i Q u = (L, t))) (fun _ vi _ => (RowKit.intOf vi).toNat)
      case atStart => exact ⟨k - 1, s, M, by rw [show ((k - 1 : Nat) : Int) = (k : Int) - 1 by omega], rfl, by omega, hkl, hown, hbr, hS⟩
      case round =>
        clear hS hown hbr hkl
        obtain ⟨i, u, Q, rfl, rfl, hik, hQ, hown, hbr, hS⟩ := hrel
        cases i with
        | zero =>
          have hf := hS.out
          injection hf with hf1 hf2
          subst hf1 hf2
          go_wp2_with fail
          go_ret3
          exact ⟨_, rfl, hown, hbr⟩
        | succ m =>
          obtain ⟨a, u2, hb⟩ : ∃ a u2, Hid (belowv u ((m : Int) + 2) = (a, u2)) := ⟨_, _, hid rfl⟩
          have bd := below_bd (s := u) (n := (m : Int) + 2) (by omega) (by omega)
          rw [hb.out] at bd
          obtain ⟨j, rfl⟩ := Int.eq_ofNat_of_zero_le bd.1
          have hj : j < m + 2 := by have := bd.2.1; simp at this; omega
          clear bd
          have hb' : Hid (belowv u ((m : Int) + 1 + 1) = ((j : Int), u2)) := hid (by rw [show (m : Int) + 1 + 1 = m + 2 by omega]; exact hb.out)
          have hS2 : Hid (shufGo m (swapL Q (m + 1) j) u2 = (L, t)) := hid (by
            have e := hS.out
            unfold shufGo at e
            rw [hb.out] at e
            simpa using e)
          clear hS hb
          have hg : w.heap.size ≤ g := (hown.lt g rfl).1
          obtain ⟨x, hx⟩ : ∃ x, Hid (x = Q.getD (m + 1) 0) := ⟨_, hid rfl⟩
          obtain ⟨y, hy⟩ : ∃ y, Hid (y = Q.getD j 0) := ⟨_, hid rfl⟩
          have cA : wr.cell? ⟨g, m + 1, none⟩ = some (.int .i64 x) := by rw [hown.cellAt (m + 1) (by omega), ints_at Q _ (by omega), hx.out]
          have cB : wr.cell? ⟨g, j, none⟩ = some (.int .i64 y) := by rw [hown.cellAt j (by omega), ints_at Q _ (by omega), hy.out]
          have fA := hown.frozenAt (m + 1)
          have fB := hown.frozenAt j
          have b1 : (m : Int) + 1 < k := by omega
          have b2 : (j : Int) < k := by omega
          have hown3 : ((wr.setCell ⟨g, m + 1, none⟩ (.int .i64 y)).setCell ⟨g, j, none⟩ (.int .i64 x)).ownsRow w.heap.size 3 1 (.slice (some ⟨g, 0, none⟩) k cap) k (ints (swapL Q (m + 1) j)) :=
            own_cast ((hown.stored (m + 1) (.int .i64 y)).1.stored j (.int .i64 x)).1 rfl (by rw [ints_set, ints_set, hx.out, hy.out]; rfl)
          have hbr3 : Below w.heap.size w ((wr.setCell ⟨g, m + 1, none⟩ (.int .i64 y)).setCell ⟨g, j, none⟩ (.int .i64 x)) := (hbr.setCell (p := ⟨g, m + 1, none⟩) hg _).setCell (p := ⟨g, j, none⟩) hg _
          have l3 := swap_len Q (m + 1) j
          rw [hQ] at l3
          clear hown hbr hQ hx hy
          go_wp2_with fail
          ((with_reducible refine (rbelow_n u _ j u2 _ (by omega) (by omega) hb').mono ?_); rintro e w1 ⟨rfl, hw⟩)
          rw [← hw]
          clear hw hb'
          by_cases hjm : j = m + 1
          · subst hjm
            have exy : x = y := by
              have e := cA.symm.trans cB
              injection e with e
              injection e
            subst exy
            go_wp2_with fail
            go_roundw
            case rel => exact ⟨m, u2, _, rfl, rfl, by omega, l3, hown3, hbr3, hS2⟩
            case measure => simp [RowKit.intOf]
          · go_wp2_with fail
            go_roundw
            case rel => exact ⟨m, u2, _, rfl, rfl, by omega, l3, hown3, hbr3, hS2⟩
            case measure => simp [RowKit.intOf]

set_option maxHeartbeats 400000 in
theorem rshuffle_zero (s : Int) (w : World) :
    Calls Try.prog 19 #[.int .u64 s, .int .i64 0] w fun e w' => e = .returned (.tuple #[.slice none 0 0, .int .u64 s, .int .i64 0]) ∧ w = w' := by
  go_enter Try.func19, Try.ntmps19
  go_wp2
  refine wp_loop_rounds 1 ?_
  rw [rounds_succ]
  go_wp2
  refine wp_loop_rounds 1 ?_
  rw [rounds_succ]
  go_wp2
  go_ret3
  exact ⟨rfl, rfl⟩
theorem rshuffle_n (s : Int) (n : Nat) (w : World) (h : n ≤ 1000) (L : List Int) (t : Int) (hr : Hid (shufv s n = (L, t))) :
    Calls Try.prog 19 #[.int .u64 s, .int .i64 n] w fun e w' => ∃ v, e = .returned (.tuple #[v, .int .u64 t, .int .i64 0]) ∧ w'.ownsRow w.heap.size 3 1 v n (ints L) ∧ Below w.heap.size w w' := by
  by_cases h0 : n = 0
  · subst h0
    have e := hr.out
    injection e with e1 e2
    subst e1 e2
    refine (rshuffle_zero s w).mono ?_
    rintro e w' ⟨rfl, rfl⟩
    exact ⟨_, rfl, World.ownsRow_nil _ _ _ _, Below.refl _ _⟩
  · exact rshuffle_mid s n w h (by omega) L t hr

end Go.Proofs.Ytcflfkdamhkfdaa
