/-
  What the reference of grid answers: neighbors.
-/
import Derived.Test.YtipfiggifnfljaaDoorGridT
namespace Go.Proofs.YtipfiggifnfljaaDoor
open Go.RowKit Go.Lib

theorem infoPos : (Tryd.prog.info? 23).map (fun i => (i.zero, i.size, i.bytes)) = some (some (.agg #[.int .i64 0, .int .i64 0]), 2, 16) := by kernel_rfl
theorem ints_lone {x y : Int} : ∀ u ∈ ([.int .i64 x, .int .i64 y] : List Value), u.oneCell' = true := by
  intro u hu; simp at hu; rcases hu with rfl | rfl <;> rfl
theorem neiGo_len (w h x y : Int) (k d : Nat) : (neiGo w h x y k d).length ≤ k := by
  induction k generalizing d with
  | zero => simp [neiGo]
  | succ k ih =>
    unfold neiGo
    have := ih (d + 1)
    split
    · simp; omega
    · omega
set_option maxHeartbeats 400000 in
theorem rnei_no (w h x y : Int) (W : World) (hv : validv w h = false) :
    Calls Tryd.prog 24 #[.int .i64 w, .int .i64 h, .agg #[.int .i64 x, .int .i64 y]] W fun e w' => e = .returned (.slice none 0 0) ∧ Below W.heap.size W w' := by
  have hc := rvalid_any w h
  rw [hv] at hc
  go_enter Tryd.func24, Tryd.ntmps24
  go_wp2_with fail
  refine wp_loop_rounds 1 ?_
  rw [rounds_succ]
  go_wp2_with fail
  ((with_reducible refine (hc _).mono ?_); rintro e w1 ⟨rfl, hw⟩)
  rw [← hw]
  clear hw
  go_wp2_with fail
  go_ret
  exact ⟨rfl, (Below.refl _ _).alloc (Nat.le_refl _) _⟩
set_option maxHeartbeats 2000000 in
theorem rnei_yes (w h x y : Int) (W : World) (hv : validv w h = true) (L : List (Int × Int)) (hL : Hid (neiGo w h x y 8 0 = L)) :
    Calls Tryd.prog 24 #[.int .i64 w, .int .i64 h, .agg #[.int .i64 x, .int .i64 y]] W fun e w' => ∃ v, e = .returned v ∧ w'.ownsRow W.heap.size 23 2 v L.length (pcells L) ∧ Below W.heap.size W w' := by
  obtain ⟨i0, hi, hz0, hz1, hz2⟩ := info_cut infoPos
  have hc := rvalid_any w h
  rw [hv] at hc
  go_enter Tryd.func24, Tryd.ntmps24
  go_wp2_with fail
  have hB := Blk.new W [.int .i64 x, .int .i64 y] 23
  have hb := (Below.refl W.heap.size W).alloc (Nat.le_refl _) (.cells #[.int .i64 x, .int .i64 y] 23)
  go_loopw [7, 8] (fun vs vi wr => ∃ (d : Nat) (l : List (Int × Int)), vi = .int .i64 d ∧ d ≤ 8 ∧ l.length ≤ d ∧ wr.ownsRow (W.heap.size + 1) 23 2 vs l.length (pcells l) ∧ Blk wr W.heap.size [.int .i64 x, .int .i64 y] 23 ∧ Below W.heap.size W wr ∧ Hid (l ++ neiGo w h x y (8 - d) d = L)) (fun _ vi _ => 8 - (RowKit.intOf vi).toNat)
  case atStart => exact ⟨0, [], rfl, by omega, by simp, World.ownsRow_nil _ _ _ _, hB, hb, hL⟩
  case round =>
    clear hB hb hL
    obtain ⟨d, l, rfl, hd, hl, hown, hB, hb, hR⟩ := hrel
    by_cases hlt : d < 8
    · have b1 : (d : Int) < 8 := by omega
      go_wp2_with fail
      ((with_reducible refine (hc _).mono ?_); rintro e w1 ⟨rfl, hw⟩)
      rw [← hw]
      clear hw
      obtain ⟨c1, c2, f1, f2⟩ := hB.two
      go_wp2_with fail
      ((with_reducible refine (rstep_any x y d _).mono ?_); rintro e w1 ⟨rfl, hb1⟩)
      obtain ⟨sx, hsx⟩ : ∃ s, stx x d = s := ⟨_, rfl⟩
      obtain ⟨sy, hsy⟩ : ∃ s, sty y d = s := ⟨_, rfl⟩
      rw [hsx, hsy]
      replace hown := own_below hown hb1
      replace hB := hB.below hb1
      replace hb := below_call hb hb1
      clear hb1 c1 c2 f1 f2
      go_wp2_with fail
      have hQ := Blk.new w1 [.int .i64 sx, .int .i64 sy] 23
      replace hown := hown.alloc (.cells #[.int .i64 sx, .int .i64 sy] 23)
      replace hB := hB.alloc (.cells #[.int .i64 sx, .int .i64 sy] 23)
      replace hb := hb.alloc hb.size (.cells #[.int .i64 sx, .int .i64 sy] 23)
      ((with_reducible refine (rin_any w h sx sy _).mono ?_); rintro e w2 ⟨rfl, hb2⟩)
      replace hown := own_below hown hb2
      replace hB := hB.below hb2
      replace hQ := hQ.below hb2
      replace hb := below_call hb hb2
      clear hb2
      have hg := hR.out
      rw [show 8 - d = (8 - (d + 1)) + 1 by omega, neiGo, hsx, hsy] at hg
      have hlt2 := hB.lt
      obtain ⟨c1, c2, f1, f2⟩ := hQ.two
      cases hin : inv w h sx sy with
      | true =>
        rw [if_pos hin] at hg
        have hN : Hid ((l ++ [(sx, sy)]) ++ neiGo w h x y (8 - (d + 1)) (d + 1) = L) := hid (by rw [← hg]; simp)
        clear hg hR hsx hsy
        go_wp2_with (at_builtin; refine wpList_append_own _ rfl _ _ 31 rfl (W.heap.size + 1) 23 i0 (.agg #[.int .i64 0, .int .i64 0]) 2 16 Tryd.underlying31 hi hz0 hz1 hz2 rfl (by decide) _ _ _ rfl (hown.alloc _) ⟨w2.heap.size, 0, none⟩ 1 1 [.int .i64 sx, .int .i64 sy] rfl rfl cells_new ints_lone (by unfold maxLen; omega) (by omega) (by simp; omega) ?_)
        intro v' w' hown' hg' _
        have hb' := below_push (t := 23) hb.size hb hown (by omega) hg'
        have hB' := (hB.alloc (.cells #[.int .i64 sx, .int .i64 sy] 23)).grown hg' (own_not hown (by omega))
        have hown2 := own_to hown' (m := (l ++ [(sx, sy)]).length) (ys := pcells (l ++ [(sx, sy)])) (by simp) (pcells_snoc l sx sy)
        clear hg' hown hb hown' hB hQ c1 c2 f1 f2
        go_wp2_with fail
        go_roundw
        case rel => exact ⟨d + 1, _, by go_num, by omega, by simp; omega, hown2, hB', hb', hN⟩
        case measure => simp [RowKit.intOf]; omega
      | false =>
        rw [if_neg (by rw [hin]; simp)] at hg
        have hN := hid hg
        clear hg hR hsx hsy
        go_wp2_with fail
        go_roundw
        case rel => exact ⟨d + 1, l, by go_num, by omega, by omega, hown, hB, hb, hN⟩
        case measure => simp [RowKit.intOf]; omega
    · obtain rfl : d = 8 := by omega
      have hg := hR.out
      rw [Nat.sub_self, neiGo, List.append_nil] at hg
      subst hg
      clear hR
      go_wp2_with fail
      go_ret
      exact ⟨_, rfl, own_base hown (by omega), hb⟩


end Go.Proofs.YtipfiggifnfljaaDoor
