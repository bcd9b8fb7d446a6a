/-
  The walk of VecArrives: forty rounds, each of which stands still or comes nearer.
-/
import Derived.Test.YtaamfbfafcocoaaProg
import Derived.WalkKit
import Derived.IntWalk
import Derived.WalkSpells
import Derived.WalkLawsBesides
import Derived.Deep.QuietTactic
import Derived.BigQuiet
import Derived.Lib.Hide
import Derived.Lib.Walk
import Derived.StillTailTactics
import Derived.Deep.RegionHeld3
import Derived.Deep.RegionWith
import Derived.Test.YtaamfbfafcocoaaLawNear
import Derived.Test.YtaamfbfafcocoaaTowMathB
namespace Go.Proofs.Ytaamfbfafcocoaa
open Go.RowKit Go.Lib

section
variable {P : Program} {ops : Array Oper} {Q : Exit → Act → World → Prop} {md : Region.Mode} {S : World → Prop}
/-- 'wpAnyH_take' with the slot that is written said apart, so that the frame can be laid out behind it: an operation that yields a value .. -/
theorem held_take {i : Nat} {oi : Oper} {v : Value} {fuel : Nat} {listed : Array Bool} {a : Act} {w : World} (d : Option Tmp) (hi : ops[i]? = some oi) (hd : oi.dst = d)
    (hs : Region.noSelect ops = true) (hf : Region.free md ops listed i = true) (hr : (Region.ready md ops listed).contains i = true)
    (hQ : ∀ c a w, Q (.panic c) (a.put oi.dst v) w → Q (.panic c) a w) (hw : Region.wanted oi (yielded ops a.tmps) = true) (hy : ∀ w, S w → (execOp a.eval oi).run P w = .ok (.value v) w) (hS : S w)
    (h : wpAnyH P md ops Q S fuel (listed.setIfInBounds i true) (a.put d v) w) : wpAnyH P md ops Q S (fuel + 1) listed a w := by
  subst hd
  exact wpAnyH_take hi hs hf hr hQ (Or.inl ⟨hw, hy⟩) hS h
/-- .. and one that its guard passes over. -/
theorem held_skip {i : Nat} {oi : Oper} {fuel : Nat} {listed : Array Bool} {a : Act} {w : World} (d : Option Tmp) (hi : ops[i]? = some oi) (hd : oi.dst = d)
    (hs : Region.noSelect ops = true) (hf : Region.free md ops listed i = true) (hr : (Region.ready md ops listed).contains i = true)
    (hQ : ∀ c a w, Q (.panic c) (a.put oi.dst undef) w → Q (.panic c) a w) (hw : Region.wanted oi (yielded ops a.tmps) = false) (hS : S w)
    (h : wpAnyH P md ops Q S fuel (listed.setIfInBounds i true) (a.put d undef) w) : wpAnyH P md ops Q S (fuel + 1) listed a w := by
  subst hd
  exact wpAnyH_take hi hs hf hr hQ (Or.inr ⟨hw, rfl⟩) hS h
end

set_option maxHeartbeats 4000000 in
theorem law_arrives (H : VecTowardHave) (x y u v sp : Int) (w : World) : Calls Try.prog 8 #[.agg #[.int .i64 x, .int .i64 y], .agg #[.int .i64 u, .int .i64 v], .int .i64 sp] w fun e w' => e = .returned (.bool true) ∧ Below w.heap.size w w' := by
  go_enter Try.func8, Try.ntmps8
  go_wp2_with fail
  ((with_reducible refine (rnearvec_any x y _).mono ?_); rintro e w1 ⟨rfl, hb1⟩)
  have A2 := Box.new (w.alloc (.cells #[.int .i64 x, .int .i64 y] 23)) (.int .i64 u) (.int .i64 v) 23
  rw [World.size_alloc] at A2
  have hL1 := below_call (((Below.refl w.heap.size w).alloc (Nat.le_refl _) (.cells #[.int .i64 x, .int .i64 y] 23)).alloc (by simp) (.cells #[.int .i64 u, .int .i64 v] 23)) hb1
  have sz : w.heap.size + 2 ≤ w1.heap.size := by have := hb1.size; simpa using this
  have B2 := (A2.below hb1).alloc (.cells #[.int .i64 (near x), .int .i64 (near y)] 23)
  have B1 := Box.new w1 (.int .i64 (near x)) (.int .i64 (near y)) 23
  have hL := hL1.alloc hL1.size (.cells #[.int .i64 (near x), .int .i64 (near y)] 23)
  clear A2 hL1 hb1
  go_wp2_with fail
  generalize w1.heap.size = A at *
  go_loopw [8] (fun vi wr => ∃ (k : Nat) (p q : Int), vi = .int .i64 k ∧ k ≤ 40 ∧ near p = p ∧ near q = q ∧ Box wr A (.int .i64 p) (.int .i64 q) 23 ∧ Box wr (w.heap.size + 1) (.int .i64 u) (.int .i64 v) 23 ∧ Below w.heap.size w wr) (fun vi _ => 40 - (RowKit.intOf vi).toNat)
  case atStart => exact ⟨0, near x, near y, rfl, by omega, near_near x, near_near y, B1, B2, hL⟩
  case round =>
    clear B1 B2 hL
    obtain ⟨k, p, q, rfl, hk, np, nq, B1, B2, hL⟩ := hrel
    by_cases hk0 : k < 40
    · obtain ⟨p', q', ht⟩ := tow_some p q u v sp
      have hs := tow_says ht
      have hn := tow_nearer ht
      rw [np, nq] at hn
      have h := hid ht
      clear ht
      have np' := hs.2.1
      have nq' := hs.2.2.1
      clear hs
      obtain ⟨d1, hd1⟩ : ∃ d, Hid (d = farv p' q' u v) := ⟨_, hid rfl⟩
      obtain ⟨d2, hd2⟩ : ∃ d, Hid (d = farv p q u v) := ⟨_, hid rfl⟩
      rw [← hd1.out, ← hd2.out] at hn
      obtain ⟨c11, c12, f11, f12⟩ := B1.cells
      obtain ⟨c21, c22, f21, f22⟩ := B2.cells
      have hki : (k : Int) < 40 := by omega
      go_wp2_with fail
      ((with_reducible refine (H.toward_n p q u v sp p' q' _ h).mono ?_); rintro e w2 ⟨rfl, hb2⟩)
      have hA := B1.lt
      have hsz := hb2.size
      have hC := B2.lt
      replace B1 := (B1.below hb2).alloc (.cells #[.int .i64 p', .int .i64 q'] 23)
      replace B2 := (B2.below hb2).alloc (.cells #[.int .i64 p', .int .i64 q'] 23)
      have B5 := Box.new w2 (.int .i64 p') (.int .i64 q') 23
      have hM := below_call hL hb2
      replace hL := hM.alloc hM.size (.cells #[.int .i64 p', .int .i64 q'] 23)
      clear hM hb2 c11 c12 f11 f12 c21 c22 f21 f22
      obtain ⟨c11, c12, -, -⟩ := B1.cells
      obtain ⟨c21, c22, -, -⟩ := B2.cells
      obtain ⟨c51, c52, -, -⟩ := B5.cells
      go_wp2_with fail
      have hS := hv3_start B1 B2 B5 hL
      clear c11 c12 c21 c22 c51 c52
      by_cases m0 : p' = p
      · by_cases m1 : q' = q
        · subst m0 m1
          refine wp_region_noPanic ?_
          refine wp_region_held_drew (S := (fun w' => w'.cell? ⟨A, 0, none⟩ = some (.int .i64 p') ∧ w'.cell? ⟨A, 1, none⟩ = some (.int .i64 q') ∧ w'.cell? ⟨w.heap.size + 1, 0, none⟩ = some (.int .i64 u) ∧ w'.cell? ⟨w.heap.size + 1, 1, none⟩ = some (.int .i64 v) ∧ w'.cell? ⟨w2.heap.size, 0, none⟩ = some (.int .i64 p') ∧ w'.cell? ⟨w2.heap.size, 1, none⟩ = some (.int .i64 q') ∧ Box w' A (.int .i64 p') (.int .i64 q') 23 ∧ Box w' (w.heap.size + 1) (.int .i64 u) (.int .i64 v) 23 ∧ Box w' w2.heap.size (.int .i64 p') (.int .i64 q') 23 ∧ Below w.heap.size w w')) (by kernel_rfl) hS (fun hHeld => ?_)
          refine held_take (i := 0) (v := .agg #[.int .i64 p', .int .i64 q']) (some 20) rfl rfl (by kernel_rfl) (by kernel_rfl) (by kernel_rfl) (fun _ _ _ h => h) (by rfl) ?_ (by assumption) ?_
          · intro w hSw; (try dsimp only at hSw); go_simp
          try simp only [Act.put, List.setIfInBounds_toArray, List.set_cons_zero, List.set_cons_succ]
          refine held_take (i := 1) (v := .agg #[.int .i64 p', .int .i64 q']) (some 21) rfl rfl (by kernel_rfl) (by kernel_rfl) (by kernel_rfl) (fun _ _ _ h => h) (by rfl) ?_ (by assumption) ?_
          · intro w hSw; (try dsimp only at hSw); go_simp
          try simp only [Act.put, List.setIfInBounds_toArray, List.set_cons_zero, List.set_cons_succ]
          refine held_take (i := 2) (v := .agg #[.int .i64 u, .int .i64 v]) (some 22) rfl rfl (by kernel_rfl) (by kernel_rfl) (by kernel_rfl) (fun _ _ _ h => h) (by rfl) ?_ (by assumption) ?_
          · intro w hSw; (try dsimp only at hSw); go_simp
          try simp only [Act.put, List.setIfInBounds_toArray, List.set_cons_zero, List.set_cons_succ]
          refine held_take (i := 3) (v := .int .i64 sp) (some 23) rfl rfl (by kernel_rfl) (by kernel_rfl) (by kernel_rfl) (fun _ _ _ h => h) (by rfl) ?_ (by assumption) ?_
          · intro w hSw; (try dsimp only at hSw); go_simp
          try simp only [Act.put, List.setIfInBounds_toArray, List.set_cons_zero, List.set_cons_succ]
          refine wpAnyH_ready (rs := [4]) (by kernel_rfl) (by simp) ?_
          refine AllReadyH.cons rfl (fun K hK => ?_) AllReadyH.nil
          go_simp
          go_at_call 27
          with_reducible refine (rtoward_n _ _ _ _ _ _ _ _ h).mono ?_
          rintro e w3 ⟨rfl, hb3⟩
          refine hK.out _ _ (hv3_call hHeld hb3) (fun hHeld3 => ?_)
          clear hK K
          try simp only [Act.put, List.setIfInBounds_toArray, List.set_cons_zero, List.set_cons_succ]
          refine held_take (i := 5) (v := .bool false) (some 25) rfl rfl (by kernel_rfl) (by kernel_rfl) (by kernel_rfl) (fun _ _ _ h => h) (by rfl) ?_ (by assumption) ?_
          · intro w hSw; (try dsimp only at hSw); go_simp
          try simp only [Act.put, List.setIfInBounds_toArray, List.set_cons_zero, List.set_cons_succ]
          refine held_take (i := 6) (v := .bool false) (some 26) rfl rfl (by kernel_rfl) (by kernel_rfl) (by kernel_rfl) (fun _ _ _ h => h) (by rfl) ?_ (by assumption) ?_
          · intro w hSw; (try dsimp only at hSw); go_simp
          try simp only [Act.put, List.setIfInBounds_toArray, List.set_cons_zero, List.set_cons_succ]
          refine held_take (i := 7) (v := .agg #[.int .i64 p', .int .i64 q']) (some 27) rfl rfl (by kernel_rfl) (by kernel_rfl) (by kernel_rfl) (fun _ _ _ h => h) (by rfl) ?_ (by assumption) ?_
          · intro w hSw; (try dsimp only at hSw); go_simp
          try simp only [Act.put, List.setIfInBounds_toArray, List.set_cons_zero, List.set_cons_succ]
          refine held_take (i := 8) (v := .agg #[.int .i64 p', .int .i64 q']) (some 28) rfl rfl (by kernel_rfl) (by kernel_rfl) (by kernel_rfl) (fun _ _ _ h => h) (by rfl) ?_ (by assumption) ?_
          · intro w hSw; (try dsimp only at hSw); go_simp
          try simp only [Act.put, List.setIfInBounds_toArray, List.set_cons_zero, List.set_cons_succ]
          refine held_take (i := 9) (v := .bool false) (some 29) rfl rfl (by kernel_rfl) (by kernel_rfl) (by kernel_rfl) (fun _ _ _ h => h) (by rfl) ?_ (by assumption) ?_
          · intro w hSw; (try dsimp only at hSw); go_simp
          try simp only [Act.put, List.setIfInBounds_toArray, List.set_cons_zero, List.set_cons_succ]
          refine held_take (i := 10) (v := .bool false) (some 30) rfl rfl (by kernel_rfl) (by kernel_rfl) (by kernel_rfl) (fun _ _ _ h => h) (by rfl) ?_ (by assumption) ?_
          · intro w hSw; (try dsimp only at hSw); go_simp
          try simp only [Act.put, List.setIfInBounds_toArray, List.set_cons_zero, List.set_cons_succ]
          refine held_skip (i := 11) (some 31) rfl rfl (by kernel_rfl) (by kernel_rfl) (by kernel_rfl) (fun _ _ _ h => h) (by rfl) (by assumption) ?_
          try simp only [Act.put, List.setIfInBounds_toArray, List.set_cons_zero, List.set_cons_succ]
          refine held_skip (i := 12) (some 32) rfl rfl (by kernel_rfl) (by kernel_rfl) (by kernel_rfl) (fun _ _ _ h => h) (by rfl) (by assumption) ?_
          try simp only [Act.put, List.setIfInBounds_toArray, List.set_cons_zero, List.set_cons_succ]
          refine held_skip (i := 13) (some 33) rfl rfl (by kernel_rfl) (by kernel_rfl) (by kernel_rfl) (fun _ _ _ h => h) (by rfl) (by assumption) ?_
          try simp only [Act.put, List.setIfInBounds_toArray, List.set_cons_zero, List.set_cons_succ]
          refine held_skip (i := 14) (some 34) rfl rfl (by kernel_rfl) (by kernel_rfl) (by kernel_rfl) (fun _ _ _ h => h) (by rfl) (by assumption) ?_
          try simp only [Act.put, List.setIfInBounds_toArray, List.set_cons_zero, List.set_cons_succ]
          refine held_skip (i := 15) (some 35) rfl rfl (by kernel_rfl) (by kernel_rfl) (by kernel_rfl) (fun _ _ _ h => h) (by rfl) (by assumption) ?_
          try simp only [Act.put, List.setIfInBounds_toArray, List.set_cons_zero, List.set_cons_succ]
          refine held_skip (i := 16) (some 36) rfl rfl (by kernel_rfl) (by kernel_rfl) (by kernel_rfl) (fun _ _ _ h => h) (by rfl) (by assumption) ?_
          try simp only [Act.put, List.setIfInBounds_toArray, List.set_cons_zero, List.set_cons_succ]
          refine held_skip (i := 17) (some 37) rfl rfl (by kernel_rfl) (by kernel_rfl) (by kernel_rfl) (fun _ _ _ h => h) (by rfl) (by assumption) ?_
          try simp only [Act.put, List.setIfInBounds_toArray, List.set_cons_zero, List.set_cons_succ]
          refine held_take (i := 18) (v := .bool false) (some 38) rfl rfl (by kernel_rfl) (by kernel_rfl) (by kernel_rfl) (fun _ _ _ h => h) (by rfl) ?_ (by assumption) ?_
          · intro w hSw; (try dsimp only at hSw); go_simp
          try simp only [Act.put, List.setIfInBounds_toArray, List.set_cons_zero, List.set_cons_succ]
          refine held_take (i := 19) (v := .bool false) (some 39) rfl rfl (by kernel_rfl) (by kernel_rfl) (by kernel_rfl) (fun _ _ _ h => h) (by rfl) ?_ (by assumption) ?_
          · intro w hSw; (try dsimp only at hSw); go_simp
          try simp only [Act.put, List.setIfInBounds_toArray, List.set_cons_zero, List.set_cons_succ]
          refine wpAnyH_done (by kernel_rfl) ?_ _
          refine NoPanic.normal ?_
          clear hS hHeld
          obtain ⟨-, -, -, -, -, -, B1, B2, B5, hL⟩ := hHeld3
          obtain ⟨c11, c12, f11, f12⟩ := B1.cells
          obtain ⟨c51, c52, -, -⟩ := B5.cells
          go_wp2_with fail
          replace B1 := (B1.set0 (.int .i64 p')).set1 (.int .i64 q')
          replace B2 := (B2.other ⟨A, 0, none⟩ (.int .i64 p') (by show w.heap.size + 1 ≠ A; omega)).other ⟨A, 1, none⟩ (.int .i64 q') (by show w.heap.size + 1 ≠ A; omega)
          replace hL := (hL.setCell (p := ⟨A, 0, none⟩) (by show w.heap.size ≤ A; omega) (.int .i64 p')).setCell (p := ⟨A, 1, none⟩) (by show w.heap.size ≤ A; omega) (.int .i64 q')
          go_roundw
          case rel => exact ⟨k + 1, p', q', by go_num, by omega, np', nq', B1, B2, hL⟩
          case measure => simp [RowKit.intOf]; omega
        · have m1' : decide (q' = q) = false := by simp [m1]
          have m2' : (q' == q) = false := by simp [m1]
          subst m0
          have lt : d1 < d2 := by omega
          have lt' : decide (d2 ≤ d1) = false := by simp; omega
          have lt2 : ¬ d2 ≤ d1 := by omega
          go_region_held3 (fun w' => w'.cell? ⟨A, 0, none⟩ = some (.int .i64 p') ∧ w'.cell? ⟨A, 1, none⟩ = some (.int .i64 q) ∧ w'.cell? ⟨w.heap.size + 1, 0, none⟩ = some (.int .i64 u) ∧ w'.cell? ⟨w.heap.size + 1, 1, none⟩ = some (.int .i64 v) ∧ w'.cell? ⟨w2.heap.size, 0, none⟩ = some (.int .i64 p') ∧ w'.cell? ⟨w2.heap.size, 1, none⟩ = some (.int .i64 q') ∧ Box w' A (.int .i64 p') (.int .i64 q) 23 ∧ Box w' (w.heap.size + 1) (.int .i64 u) (.int .i64 v) 23 ∧ Box w' w2.heap.size (.int .i64 p') (.int .i64 q') 23 ∧ Below w.heap.size w w') (first | exact hS | exact hv3_call (by assumption) (by assumption) | assumption)
            (first
            | (go_at_call 27; with_reducible refine (rtoward_n _ _ _ _ _ _ _ _ h).mono ?_; rintro e w' ⟨rfl, hb⟩)
            | (go_at_call 30; with_reducible refine (rfar_n _ _ _ _ _ _ hd1).mono ?_; rintro e w' ⟨rfl, hb⟩)
            | (go_at_call 30; with_reducible refine (rfar_n _ _ _ _ _ _ hd2).mono ?_; rintro e w' ⟨rfl, hb⟩))
          rename_i hH
          clear hS
          obtain ⟨-, -, -, -, -, -, B1, B2, B5, hL⟩ := hH
          obtain ⟨c11, c12, f11, f12⟩ := B1.cells
          obtain ⟨c51, c52, -, -⟩ := B5.cells
          go_wp2_with fail
          replace B1 := (B1.set0 (.int .i64 p')).set1 (.int .i64 q')
          replace B2 := (B2.other ⟨A, 0, none⟩ (.int .i64 p') (by show w.heap.size + 1 ≠ A; omega)).other ⟨A, 1, none⟩ (.int .i64 q') (by show w.heap.size + 1 ≠ A; omega)
          replace hL := (hL.setCell (p := ⟨A, 0, none⟩) (by show w.heap.size ≤ A; omega) (.int .i64 p')).setCell (p := ⟨A, 1, none⟩) (by show w.heap.size ≤ A; omega) (.int .i64 q')
          go_roundw
          case rel => exact ⟨k + 1, p', q', by go_num, by omega, np', nq', B1, B2, hL⟩
          case measure => simp [RowKit.intOf]; omega
      · have m1' : decide (p' = p) = false := by simp [m0]
        have m2' : (p' == p) = false := by simp [m0]
        have lt : d1 < d2 := by omega
        have lt' : decide (d2 ≤ d1) = false := by simp; omega
        have lt2 : ¬ d2 ≤ d1 := by omega
        go_region_held3 (fun w' => w'.cell? ⟨A, 0, none⟩ = some (.int .i64 p) ∧ w'.cell? ⟨A, 1, none⟩ = some (.int .i64 q) ∧ w'.cell? ⟨w.heap.size + 1, 0, none⟩ = some (.int .i64 u) ∧ w'.cell? ⟨w.heap.size + 1, 1, none⟩ = some (.int .i64 v) ∧ w'.cell? ⟨w2.heap.size, 0, none⟩ = some (.int .i64 p') ∧ w'.cell? ⟨w2.heap.size, 1, none⟩ = some (.int .i64 q') ∧ Box w' A (.int .i64 p) (.int .i64 q) 23 ∧ Box w' (w.heap.size + 1) (.int .i64 u) (.int .i64 v) 23 ∧ Box w' w2.heap.size (.int .i64 p') (.int .i64 q') 23 ∧ Below w.heap.size w w') (first | exact hS | exact hv3_call (by assumption) (by assumption) | assumption)
          (first
            | (go_at_call 27; with_reducible refine (rtoward_n _ _ _ _ _ _ _ _ h).mono ?_; rintro e w' ⟨rfl, hb⟩)
            | (go_at_call 30; with_reducible refine (rfar_n _ _ _ _ _ _ hd1).mono ?_; rintro e w' ⟨rfl, hb⟩)
            | (go_at_call 30; with_reducible refine (rfar_n _ _ _ _ _ _ hd2).mono ?_; rintro e w' ⟨rfl, hb⟩))
        rename_i hH
        clear hS
        obtain ⟨-, -, -, -, -, -, B1, B2, B5, hL⟩ := hH
        obtain ⟨c11, c12, f11, f12⟩ := B1.cells
        obtain ⟨c51, c52, -, -⟩ := B5.cells
        go_wp2_with fail
        replace B1 := (B1.set0 (.int .i64 p')).set1 (.int .i64 q')
        replace B2 := (B2.other ⟨A, 0, none⟩ (.int .i64 p') (by show w.heap.size + 1 ≠ A; omega)).other ⟨A, 1, none⟩ (.int .i64 q') (by show w.heap.size + 1 ≠ A; omega)
        replace hL := (hL.setCell (p := ⟨A, 0, none⟩) (by show w.heap.size ≤ A; omega) (.int .i64 p')).setCell (p := ⟨A, 1, none⟩) (by show w.heap.size ≤ A; omega) (.int .i64 q')
        go_roundw
        case rel => exact ⟨k + 1, p', q', by go_num, by omega, np', nq', B1, B2, hL⟩
        case measure => simp [RowKit.intOf]; omega
    · have hk1 : k = 40 := by omega
      subst hk1
      go_wp2_with fail
      ((with_reducible refine (H.alive _).mono ?_); rintro e w3 ⟨rfl, hb3⟩)
      replace hL := below_call hL hb3
      go_wp2_with fail
      exact bodyPost_ret (v := .bool true) (by simp [results, Try.results8, go_sem]) rfl ⟨rfl, hL⟩

end Go.Proofs.Ytaamfbfafcocoaa
