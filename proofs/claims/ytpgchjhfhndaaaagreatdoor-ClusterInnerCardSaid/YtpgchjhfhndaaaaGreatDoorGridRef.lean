/-
  What the reference of grid answers, and what the functions of grid are held to.
-/
import Derived.Test.YtpgchjhfhndaaaaGreatDoorProg
import Derived.WalkKit
import Derived.IntWalk
import Derived.WalkSpells
import Derived.WalkLawsBesides
import Derived.Deep.QuietTactic
import Derived.BigQuiet
import Derived.BigRegion
import Derived.Lib.Hide
import Derived.Lib.Walk
import Derived.LoopN
import Derived.StillTailTactics
import Derived.Deep.RegionHeld3
import Derived.Deep.RegionWith
import Derived.Test.YtpgchjhfhndaaaaGreatDoorMemLib
import Derived.Test.YtpgchjhfhndaaaaGreatDoorNumsG
import Derived.Deep.Cut
namespace Go.Proofs.YtpgchjhfhndaaaaGreatDoor

section
open Go.RowKit Go.Lib

set_option maxHeartbeats 400000 in
theorem rnr_any (n : Int) (w : World) :
    Calls Tryz.prog 59 #[.int .i64 n] w fun e w' => e = .returned (.int .i64 (nr n)) ∧ w = w' := by
  go_enter Tryz.func59, Tryz.ntmps59
  go_wp2
  go_ret
  exact ⟨rfl, rfl⟩
set_option maxHeartbeats 400000 in
theorem rpos_any (x y : Int) (w : World) :
    Calls Tryz.prog 58 #[.agg #[.int .i64 x, .int .i64 y]] w fun e w' => e = .returned (.agg #[.int .i64 (nr x), .int .i64 (nr y)]) ∧ Below w.heap.size w w' := by
  go_enter Tryz.func58, Tryz.ntmps58
  go_wp2_with fail
  go_region_held3 (fun w' => w'.cell? ⟨w.heap.size, 0, none⟩ = some (.int .i64 x) ∧ w'.cell? ⟨w.heap.size, 1, none⟩ = some (.int .i64 y)) (go_keep)
    (first | (go_at_call 59; refine (rnr_any _ _).mono ?_; rintro e w' ⟨rfl, rfl⟩))
  go_wp2
  refine bodyPost_ret (v := .agg #[.int .i64 (nr x), .int .i64 (nr y)]) (by simp [results, Tryz.results58, go_sem]) rfl ⟨rfl, ?_⟩
  exact (((Below.refl _ _).alloc (Nat.le_refl _) _).alloc (by simp) _).drew
set_option maxHeartbeats 400000 in
theorem rvalid_any (w h : Int) (W : World) :
    Calls Tryz.prog 111 #[.int .i64 w, .int .i64 h] W fun e w' => e = .returned (.bool (validv w h)) ∧ W = w' := by
  go_enter Tryz.func111, Tryz.ntmps111
  go_wp2
  all_goals (go_ret; exact ⟨ret_bit (by unfold validv; first | exact (decide_eq_false (by omega)).symm | exact decide_eq_decide.2 (by omega)), rfl⟩)
set_option maxHeartbeats 400000 in
theorem rin_any (w h x y : Int) (W : World) :
    Calls Tryz.prog 109 #[.int .i64 w, .int .i64 h, .agg #[.int .i64 x, .int .i64 y]] W fun e w' => e = .returned (.bool (inv w h x y)) ∧ Below W.heap.size W w' := by
  go_enter Tryz.func109, Tryz.ntmps109
  go_wp2
  all_goals (go_ret; exact ⟨ret_bit (by unfold inv; first | exact (decide_eq_false (by omega)).symm | exact decide_eq_decide.2 (by omega)), (Below.refl _ _).alloc (Nat.le_refl _) _⟩)
set_option maxHeartbeats 1000000 in
theorem rindex_any (w x y : Int) (W : World) :
    Calls Tryz.prog 22 #[.int .i64 w, .agg #[.int .i64 x, .int .i64 y]] W fun e w' => e = .returned (.int .i64 (indexv w x y)) ∧ Below W.heap.size W w' := by
  have m := nr_mul y w
  have bx := nr_bd x
  have v1 : IntKind.i64.wrap (nr y * nr w) = nr y * nr w := IntWalk.i64_in _ (by omega)
  have v2 : IntKind.i64.wrap (nr y * nr w + nr x) = nr y * nr w + nr x := IntWalk.i64_in _ (by omega)
  go_enter Tryz.func22, Tryz.ntmps22
  go_wp2_with fail
  ((with_reducible refine (rpos_any x y _).mono ?_); rintro e w1 ⟨rfl, hb⟩)
  have hL := below_call ((Below.refl W.heap.size W).alloc (Nat.le_refl _) _) hb
  go_wp2_with fail
  go_region_held3 (fun w' => w'.cell? ⟨w1.heap.size, 0, none⟩ = some (.int .i64 (nr x)) ∧ w'.cell? ⟨w1.heap.size, 1, none⟩ = some (.int .i64 (nr y))) (go_keep)
    (first | (go_at_call 59; refine (rnr_any _ _).mono ?_; rintro e w' ⟨rfl, rfl⟩))
  go_wp2
  go_ret
  exact ⟨rfl, (hL.alloc hL.size _).drew⟩

end

section
open Go.RowKit Go.Lib

theorem rshift_any (d : Int) (W : World) (h : 0 ≤ d ∧ d ≤ 7) :
    Calls Tryz.prog 143 #[.int .i64 d] W fun e w' => e = .returned (.agg #[.int .i64 (shx d), .int .i64 (shy d)]) ∧ Below W.heap.size W w' := by
  obtain rfl | rfl | rfl | rfl | rfl | rfl | rfl | rfl : d = 0 ∨ d = 1 ∨ d = 2 ∨ d = 3 ∨ d = 4 ∨ d = 5 ∨ d = 6 ∨ d = 7 := by omega
  all_goals
    go_enter Tryz.func143, Tryz.ntmps143
    go_wp2
    refine bodyPost_ret (by simp [results, Tryz.results143, go_sem]; decide) rfl ⟨rfl, ?_⟩
    exact ((Below.refl _ _).alloc (Nat.le_refl _) _)

theorem sh_bd (d : Int) : -1 ≤ shx d ∧ shx d ≤ 1 ∧ -1 ≤ shy d ∧ shy d ≤ 1 := by
  unfold shx shy
  refine ⟨?_, ?_, ?_, ?_⟩ <;> (repeat' split) <;> omega
set_option maxHeartbeats 1000000 in
theorem rstep_out (x y d : Int) (W : World) (h : d < 0 ∨ 7 < d) :
    Calls Tryz.prog 102 #[.agg #[.int .i64 x, .int .i64 y], .int .i64 d] W fun e w' => e = .returned (.agg #[.int .i64 (stx x d), .int .i64 (sty y d)]) ∧ Below W.heap.size W w' := by
  rw [show stx x d = x from if_pos h, show sty y d = y from if_pos h]
  by_cases h1 : d < 0
  · go_enter Tryz.func102, Tryz.ntmps102
    go_wp2
    refine bodyPost_ret (v := .agg #[.int .i64 x, .int .i64 y]) (by simp [results, Tryz.results102, go_sem]) rfl ⟨rfl, ?_⟩
    exact ((Below.refl _ _).alloc (Nat.le_refl _) _).alloc (by simp) _
  · have h2 : 7 < d := by omega
    go_enter Tryz.func102, Tryz.ntmps102
    go_wp2
    refine bodyPost_ret (v := .agg #[.int .i64 x, .int .i64 y]) (by simp [results, Tryz.results102, go_sem]) rfl ⟨rfl, ?_⟩
    exact ((Below.refl _ _).alloc (Nat.le_refl _) _).alloc (by simp) _
set_option maxHeartbeats 1000000 in
theorem rstep_in (x y d : Int) (W : World) (h : 0 ≤ d ∧ d ≤ 7) :
    Calls Tryz.prog 102 #[.agg #[.int .i64 x, .int .i64 y], .int .i64 d] W fun e w' => e = .returned (.agg #[.int .i64 (stx x d), .int .i64 (sty y d)]) ∧ Below W.heap.size W w' := by
  have hn : ¬ (d < 0 ∨ 7 < d) := by omega
  rw [show stx x d = nr x + shx d from if_neg hn, show sty y d = nr y + shy d from if_neg hn]
  have z1 : decide (d < 0) = false := decide_eq_false (by omega)
  have z2 : decide (7 < d) = false := decide_eq_false (by omega)
  have bs := sh_bd d
  have bx := nr_bd x
  have by' := nr_bd y
  go_enter Tryz.func102, Tryz.ntmps102
  go_wp2_with fail
  ((with_reducible refine (rpos_any x y _).mono ?_); rintro e w1 ⟨rfl, hb⟩)
  have hL := below_call (((Below.refl W.heap.size W).alloc (Nat.le_refl _) (.cells #[.int .i64 x, .int .i64 y] 29)).alloc (by simp) (.cells #[.int .i64 0, .int .i64 0] 29)) hb
  have B := Blk.new (W.alloc (.cells #[.int .i64 x, .int .i64 y] 29)) [.int .i64 0, .int .i64 0] 29
  replace B := B.below hb
  clear hb
  go_wp2_with fail
  ((with_reducible refine (rshift_any d _ h).mono ?_); rintro e w2 ⟨rfl, hb⟩)
  replace hL := below_call hL hb
  replace B := B.below hb
  clear hb
  replace B := ((B.alloc (.cells #[.int .i64 (nr x), .int .i64 (nr y)] 29)).alloc (.cells #[.int .i64 (shx d), .int .i64 (shy d)] 29)).at (World.size_alloc _ _)
  replace hL := (hL.alloc hL.size (.cells #[.int .i64 (nr x), .int .i64 (nr y)] 29)).alloc (by have := hL.size; simp; omega) (.cells #[.int .i64 (shx d), .int .i64 (shy d)] 29)
  obtain ⟨c1, c2, f1, f2⟩ := B.two
  go_wp2_with fail
  clear c1 c2 f1 f2
  replace B := (B.set 0 (.int .i64 (nr x + shx d))).set 1 (.int .i64 (nr y + shy d))
  obtain ⟨c1, c2, -, -⟩ := B.two
  refine bodyPost_ret (v := .agg #[.int .i64 (nr x + shx d), .int .i64 (nr y + shy d)]) (by simp [results, Tryz.results102, go_sem, c1, c2]) rfl ⟨rfl, ?_⟩
  exact (hL.setCell (by simp) _).setCell (by simp) _

theorem rstep_any (x y d : Int) (W : World) :
    Calls Tryz.prog 102 #[.agg #[.int .i64 x, .int .i64 y], .int .i64 d] W fun e w' => e = .returned (.agg #[.int .i64 (stx x d), .int .i64 (sty y d)]) ∧ Below W.heap.size W w' := by
  by_cases h : d < 0 ∨ 7 < d
  · exact rstep_out x y d W h
  · exact rstep_in x y d W (by omega)


end

section
open Go.RowKit Go.Lib

set_option maxHeartbeats 1000000 in
theorem rrect_x (x y u v : Int) (w : World) :
    Calls Tryz.prog 142 #[.agg #[.int .i64 x, .int .i64 y, .int .i64 u, .int .i64 v]] w fun e w' => e = .returned (.agg #[.int .i64 (nr x), .int .i64 (nr y), .int .i64 (nr u), .int .i64 (nr v)]) ∧ Below w.heap.size w w' := by
  go_enter Tryz.func142, Tryz.ntmps142
  go_wp2_with fail
  go_region_held3 (fun w' => w'.cell? ⟨w.heap.size, 0, none⟩ = some (.int .i64 x) ∧ w'.cell? ⟨w.heap.size, 1, none⟩ = some (.int .i64 y) ∧ w'.cell? ⟨w.heap.size, 2, none⟩ = some (.int .i64 u) ∧ w'.cell? ⟨w.heap.size, 3, none⟩ = some (.int .i64 v)) (go_keep)
    (first | (go_at_call 59; refine (rnr_any _ _).mono ?_; rintro e w' ⟨rfl, rfl⟩))
  go_wp2
  refine bodyPost_ret (v := .agg #[.int .i64 (nr x), .int .i64 (nr y), .int .i64 (nr u), .int .i64 (nr v)]) (by simp [results, Tryz.results142, go_sem]) rfl ⟨rfl, ?_⟩
  exact (((Below.refl _ _).alloc (Nat.le_refl _) _).alloc (by simp) _).drew
theorem rrect_any (r : R4) (w : World) :
    Calls Tryz.prog 142 #[r.val] w fun e w' => e = .returned r.nrm.val ∧ Below w.heap.size w w' := rrect_x r.x r.y r.w r.h w
set_option maxHeartbeats 1000000 in
theorem rat_any (w i : Int) (W : World) (hi : i ≤ 9223372036854775807) :
    Calls Tryz.prog 108 #[.int .i64 w, .int .i64 i] W fun e w' => e = .returned (.agg #[.int .i64 (atx w i), .int .i64 (aty w i)]) ∧ Below W.heap.size W w' := by
  by_cases h : w < 1 ∨ i < 0
  · rw [show atx w i = 0 from if_pos h, show aty w i = 0 from if_pos h]
    by_cases h1 : w < 1
    · go_enter Tryz.func108, Tryz.ntmps108
      go_wp2
      refine bodyPost_ret (v := .agg #[.int .i64 0, .int .i64 0]) (by simp [results, Tryz.results108, go_sem]) rfl ⟨rfl, ?_⟩
      exact ((Below.refl _ _).alloc (Nat.le_refl _) _)
    · have h2 : i < 0 := by omega
      go_enter Tryz.func108, Tryz.ntmps108
      go_wp2
      refine bodyPost_ret (v := .agg #[.int .i64 0, .int .i64 0]) (by simp [results, Tryz.results108, go_sem]) rfl ⟨rfl, ?_⟩
      exact ((Below.refl _ _).alloc (Nat.le_refl _) _)
  · rw [show atx w i = i % w from if_neg h, show aty w i = i / w from if_neg h]
    have h1 : 1 ≤ w := by omega
    have h2 : 0 ≤ i := by omega
    have z1 : decide (w < 1) = false := decide_eq_false (by omega)
    have z2 : decide (i < 0) = false := decide_eq_false (by omega)
    have n : ¬ w = 0 := by omega
    have e1 : i.tmod w = i % w := Int.tmod_eq_emod_of_nonneg h2
    have e2 : i.tdiv w = i / w := Int.tdiv_eq_ediv_of_nonneg h2
    have e3 : wrap64 (i / w) = i / w := IntWalk.wrap64_in _ (by have := Int.ediv_nonneg h2 (show 0 ≤ w by omega); have := Int.ediv_le_self w h2; omega)
    go_enter Tryz.func108, Tryz.ntmps108
    go_wp2
    go_region
    all_goals
      go_wp2
      refine bodyPost_ret (v := .agg #[.int .i64 (i % w), .int .i64 (i / w)]) (by simp [results, Tryz.results108, go_sem]) rfl ⟨rfl, ?_⟩
      exact ((Below.refl _ _).alloc (Nat.le_refl _) _).drew

end

section
open Go.RowKit Go.Lib

theorem infoPos : (Tryz.prog.info? 29).map (fun i => (i.zero, i.size, i.bytes)) = some (some (.agg #[.int .i64 0, .int .i64 0]), 2, 16) := by kernel_rfl
theorem ints_lone {x y : Int} : ∀ u ∈ ([.int .i64 x, .int .i64 y] : List Value), u.oneCell' = true := by
  intro u hu; simp at hu; rcases hu with rfl | rfl <;> rfl
theorem neiGo_len (w h x y : Int) (k d : Nat) : (neiGo w h x y k d).length ≤ k := by
  induction k generalizing d with
  | zero => simp [neiGo]
  | succ k ih =>
    unfold neiGo
    have := ih (d + 1)
    split
    · simp; omega
    · omega
end

section
open Go.RowKit Go.Lib

theorem dif_bd (a b : Int) : -4194304 ≤ nr a - nr b ∧ nr a - nr b ≤ 4194304 := by
  have := nr_bd a; have := nr_bd b; omega
theorem abs_bd {n : Int} (h : -4194304 ≤ n ∧ n ≤ 4194304) : 0 ≤ absv n ∧ absv n ≤ 4194304 := by unfold absv; omega
end

section
open Go.RowKit Go.Lib

set_option maxHeartbeats 4000000 in
theorem rins_x (X Y V H u v : Int) (w : World) :
    Calls Tryz.prog 98 #[.agg #[.int .i64 X, .int .i64 Y, .int .i64 V, .int .i64 H], .agg #[.int .i64 u, .int .i64 v]] w fun e w' => e = .returned (.bool (insv ⟨X, Y, V, H⟩ u v)) ∧ Below w.heap.size w w' := by
  go_enter Tryz.func98, Tryz.ntmps98
  go_upto_region 1 with fail
  have hl := (Blk.new w [.int .i64 X, .int .i64 Y, .int .i64 V, .int .i64 H] 72).alloc (.cells [Value.int .i64 u, .int .i64 v].toArray 29)
  have hr := (Blk.new (w.alloc (.cells [Value.int .i64 X, .int .i64 Y, .int .i64 V, .int .i64 H].toArray 72)) [.int .i64 u, .int .i64 v] 29).at (World.size_alloc _ _)
  have hL := ((Below.refl w.heap.size w).alloc (Nat.le_refl _) (.cells [Value.int .i64 X, .int .i64 Y, .int .i64 V, .int .i64 H].toArray 72)).alloc (by simp) (.cells [Value.int .i64 u, .int .i64 v].toArray 29)
  generalize (w.alloc (.cells [Value.int .i64 X, .int .i64 Y, .int .i64 V, .int .i64 H].toArray 72)).alloc (.cells [Value.int .i64 u, .int .i64 v].toArray 29) = W at *
  have hq := (Below.refl W.heap.size W).drew
  have hd : W.drew.heap.size = W.heap.size := rfl
  go_cut [5, 6] from 7 (fun s5 s6 wx => ∃ b c : Nat, s5 = .pointer (some ⟨b, 0, none⟩) ∧ s6 = .pointer (some ⟨c, 0, none⟩) ∧ Blk wx b [.int .i64 (nr X), .int .i64 (nr Y), .int .i64 (nr V), .int .i64 (nr H)] 72 ∧ Blk wx c [.int .i64 (nr u), .int .i64 (nr v)] 29 ∧ Below W.heap.size W wx)
  case first =>
    go_region_held3 (fun w' => w'.cell? ⟨w.heap.size, 0, none⟩ = some (.int .i64 X) ∧ w'.cell? ⟨w.heap.size, 1, none⟩ = some (.int .i64 Y) ∧ w'.cell? ⟨w.heap.size, 2, none⟩ = some (.int .i64 V) ∧ w'.cell? ⟨w.heap.size, 3, none⟩ = some (.int .i64 H) ∧ w'.cell? ⟨w.heap.size + 1, 0, none⟩ = some (.int .i64 u) ∧ w'.cell? ⟨w.heap.size + 1, 1, none⟩ = some (.int .i64 v) ∧ Below W.heap.size W w')
      (first
        | (refine low42 hl hr ?_; with_reducible first | assumption | ((repeat (first | assumption | exact Below.refl _ _ | refine Below.drew ?_ | refine Below.alloc ?_ ?_ _ | refine Below.setCell ?_ ?_ _)) <;> first | omega | (simp; omega) | (simp; done))))
      (first
      | (go_at_call 142; with_reducible refine (rrect_x X Y V H _).mono ?_; rintro e w' ⟨rfl, hb⟩
         with_reducible
           try (first | have n1 := ((Blk.new _ _ _).at (World.size_alloc _ _)).below hb | have n1 := (Blk.new _ _ _).below hb | have n1 := ((Blk.new _ _ _).drew.at (World.size_alloc _ _)).below hb | have n1 := (Blk.new _ _ _).drew.below hb)
           try (first | have n2 := ((Blk.new _ _ _).alloc _).below hb | have n2 := ((Blk.new _ _ _).alloc _).drew.below hb)
           first
             | have hq := below_call hq hb
             | have hq := below_call ((Below.refl W.heap.size W).alloc (Nat.le_refl _) _).drew hb
             | have hq := below_call (((Below.refl W.heap.size W).alloc (Nat.le_refl _) _).alloc (by simp) _).drew hb
         clear hb
         have hz := hq.size
         try (have v1 := n1.ne; obtain ⟨_, _⟩ := v1)
         try (have v1 := n2.ne; obtain ⟨_, _⟩ := v1))
      | (go_at_call 58; with_reducible refine (rpos_any u v _).mono ?_; rintro e w' ⟨rfl, hb⟩
         with_reducible
           try (first | have m1 := n1.below hb | have m1 := (n1.alloc _).below hb)
           try (first | have m2 := n2.below hb | have m2 := (n2.alloc _).below hb)
           try (first | have m3 := ((Blk.new _ _ _).at (World.size_alloc _ _)).below hb | have m3 := (Blk.new _ _ _).below hb)
           try (have m4 := ((Blk.new _ _ _).alloc _).below hb)
           first
             | have hq := below_call hq hb
             | have hq := below_call (hq.alloc hq.size _) hb
             | have hq := below_call ((hq.alloc hq.size _).alloc (by have := hq.size; simp; omega) _) hb
         clear hb
         have hz := hq.size
         try (first | (have v1 := m1.seen2; obtain ⟨_, _, _, _, _, _, _, _, _⟩ := v1) | (have v1 := m1.seen4; obtain ⟨⟨_, _, _, _⟩, _, ⟨_, _, _, _⟩, _, _⟩ := v1))
         try (first | (have v2 := m2.seen2; obtain ⟨_, _, _, _, _, _, _, _, _⟩ := v2) | (have v2 := m2.seen4; obtain ⟨⟨_, _, _, _⟩, _, ⟨_, _, _, _⟩, _, _⟩ := v2))
         try (first | (have v3 := m3.seen2; obtain ⟨_, _, _, _, _, _, _, _, _⟩ := v3) | (have v3 := m3.seen4; obtain ⟨⟨_, _, _, _⟩, _, ⟨_, _, _, _⟩, _, _⟩ := v3))
         try (first | (have v4 := m4.seen2; obtain ⟨_, _, _, _, _, _, _, _, _⟩ := v4) | (have v4 := m4.seen4; obtain ⟨⟨_, _, _, _⟩, _, ⟨_, _, _, _⟩, _, _⟩ := v4))))
    all_goals
      go_wp2_with fail
      go_meet
      case rel =>
        with_reducible
          refine ⟨_, _, rfl, rfl, ?_, ?_, ?_⟩
          · repeat (first
              | assumption
              | exact Blk.new _ _ _
              | exact (Blk.new _ _ _).at (World.size_alloc _ _)
              | refine Blk.put4 (p := .int .i64 0) (q := .int .i64 0) (r := .int .i64 0) (s := .int .i64 0) ?_ _ _ _ _
              | refine Blk.put2 (p := .int .i64 0) (q := .int .i64 0) ?_ _ _
              | refine Blk.far ?_ _ (by omega)
              | refine Blk.alloc ?_ _)
          · repeat (first
              | assumption
              | exact Blk.new _ _ _
              | exact (Blk.new _ _ _).at (World.size_alloc _ _)
              | refine Blk.put4 (p := .int .i64 0) (q := .int .i64 0) (r := .int .i64 0) (s := .int .i64 0) ?_ _ _ _ _
              | refine Blk.put2 (p := .int .i64 0) (q := .int .i64 0) ?_ _ _
              | refine Blk.far ?_ _ (by omega)
              | refine Blk.alloc ?_ _)
          · (repeat (first | assumption | refine Below.alloc ?_ ?_ _ | refine Below.setCell ?_ ?_ _)) <;> first | omega | (simp; done) | (simp; omega)
  case rest =>
  obtain ⟨b, c, rfl, rfl, Bp, Bq, hq2⟩ := hcut
  clear hq
  have b1 := nr_bd X
  have b2 := nr_bd Y
  have b3 := nr_bd V
  have b4 := nr_bd H
  obtain ⟨_, _, _, _, _, _, _, _⟩ := Bp.four
  obtain ⟨_, _, _, _⟩ := Bq.two
  go_wp2
  all_goals (go_ret; exact ⟨ret_bit (by unfold insv R4.nrm; dsimp only; first | exact (decide_eq_false (by omega)).symm | exact decide_eq_decide.2 (by omega)), below_call hL hq2⟩)

end

section
open Go.RowKit Go.Lib

theorem common_none {a b : R4} (h : a.w < 1 ∨ a.h < 1 ∨ b.w < 1 ∨ b.h < 1) : common a b = R4.zero := if_pos h
def Near (n : Int) : Prop := -1048576 ≤ n ∧ n ≤ 1048576
end

section
open Go.RowKit Go.Lib

theorem nr_near (n : Int) : Near (nr n) := nr_bd n
theorem common_eta (a b : R4) : (common a b).val = .agg #[.int .i64 (common a b).x, .int .i64 (common a b).y, .int .i64 (common a b).w, .int .i64 (common a b).h] := rfl
theorem rect_w (a b c d : Int) (W : World) : (Instr.field 72 (.agg #[.int .i64 a, .int .i64 b, .int .i64 c, .int .i64 d]) 2).run Tryz.prog W = .ok (.int .i64 c) W := by kernel_rfl
end

section
open Go.RowKit Go.Lib

set_option maxHeartbeats 1000000 in
theorem rsame_nil (W : World) :
    Calls Tryz.prog 26 #[.slice none 0 0, .slice none 0 0] W fun e w' => e = .returned (.bool true) ∧ Below W.heap.size W w' := by
  go_enter Tryz.func26, Tryz.ntmps26
  go_wp2
  refine wp_loop_rounds 1 ?_
  rw [rounds_succ]
  go_wp2
  go_ret
  exact ⟨rfl, Below.refl _ _⟩
set_option maxHeartbeats 1000000 in
theorem rsame_nila (W : World) (g c : Nat) :
    Calls Tryz.prog 26 #[.slice (some ⟨g, 0, none⟩) 0 c, .slice none 0 0] W fun e w' => e = .returned (.bool true) ∧ Below W.heap.size W w' := by
  go_enter Tryz.func26, Tryz.ntmps26
  go_wp2
  refine wp_loop_rounds 1 ?_
  rw [rounds_succ]
  go_wp2
  go_ret
  exact ⟨rfl, Below.refl _ _⟩
set_option maxHeartbeats 1000000 in
theorem rsame_nilb (W : World) (g c : Nat) :
    Calls Tryz.prog 26 #[.slice none 0 0, .slice (some ⟨g, 0, none⟩) 0 c] W fun e w' => e = .returned (.bool true) ∧ Below W.heap.size W w' := by
  go_enter Tryz.func26, Tryz.ntmps26
  go_wp2
  refine wp_loop_rounds 1 ?_
  rw [rounds_succ]
  go_wp2
  go_ret
  exact ⟨rfl, Below.refl _ _⟩
set_option maxHeartbeats 2000000 in
theorem rsame_some (W : World) (n : Nat) (xs : List Value) (A B g k c d : Nat) (hp : ∀ i, i < n → ∃ x y, xs[i * 2]? = some (.int .i64 x) ∧ xs[i * 2 + 1]? = some (.int .i64 y)) (hm : n ≤ maxLen)
    (h1 : W.ownsRow A 29 2 (.slice (some ⟨g, 0, none⟩) n c) n xs) (h2 : W.ownsRow B 29 2 (.slice (some ⟨k, 0, none⟩) n d) n xs) :
    Calls Tryz.prog 26 #[.slice (some ⟨g, 0, none⟩) n c, .slice (some ⟨k, 0, none⟩) n d] W fun e w' => e = .returned (.bool true) ∧ Below W.heap.size W w' := by
  unfold maxLen at hm
  go_enter Tryz.func26, Tryz.ntmps26
  go_wp2
  go_loopw [5] (fun vi wr => ∃ i : Nat, vi = .int .i64 i ∧ i ≤ n ∧ Below W.heap.size W wr) (fun vi _ => n - (RowKit.intOf vi).toNat)
  case atStart => exact ⟨0, rfl, by omega, Below.refl _ _⟩
  case round =>
    obtain ⟨i, rfl, hi, hb⟩ := hrel
    by_cases hlt : i < n
    · have b1 : (i : Int) < n := by omega
      obtain ⟨x, y, hx, hy⟩ := hp i hlt
      have o1 := own_below h1 hb
      have o2 := own_below h2 hb
      have a1 := (o1.cellAt (i * 2) (by omega)).trans hx
      have a2 := (o1.cellAt (i * 2 + 1) (by omega)).trans hy
      have a3 := (o2.cellAt (i * 2) (by omega)).trans hx
      have a4 := (o2.cellAt (i * 2 + 1) (by omega)).trans hy
      clear hx hy o1 o2
      go_wp2_with fail
      go_quiet (fail)
      go_wp2_with fail
      go_roundw
      case rel => exact ⟨i + 1, by go_num, by omega, below_many hb _⟩
      case measure => simp [RowKit.intOf]; omega
    · obtain rfl : i = n := by omega
      go_wp2_with fail
      go_ret
      exact ⟨rfl, hb⟩
theorem pcells_two (l : List (Int × Int)) : ∀ i, i < l.length → ∃ x y, (pcells l)[i * 2]? = some (.int .i64 x) ∧ (pcells l)[i * 2 + 1]? = some (.int .i64 y) := fun i h =>
  ⟨_, _, by rw [Nat.mul_comm]; exact (pcells_at l i h).1, by rw [Nat.mul_comm]; exact (pcells_at l i h).2⟩
/-- Two rows with the same cells are the same. -/
theorem rsame_t (W : World) (l : List (Int × Int)) (A B : Nat) (u v : Value) (hm : l.length ≤ maxLen)
    (h1 : W.ownsRow A 29 2 u l.length (pcells l)) (h2 : W.ownsRow B 29 2 v l.length (pcells l)) :
    Calls Tryz.prog 26 #[u, v] W fun e w' => e = .returned (.bool true) ∧ Below W.heap.size W w' := by
  have k1 := h1
  have k2 := h2
  rcases h1.2 with ⟨rfl, e1⟩ | ⟨g, c, _, rfl, _⟩
  · rcases h2.2 with ⟨rfl, e2⟩ | ⟨k, d, _, rfl, _⟩
    · exact rsame_nil W
    · rw [e1] at k1 k2 ⊢
      exact rsame_nilb W k d
  · rcases h2.2 with ⟨rfl, e2⟩ | ⟨k, d, _, rfl, _⟩
    · rw [e2] at k1 k2 ⊢
      exact rsame_nila W g c
    · exact rsame_some W l.length (pcells l) A B g k c d (pcells_two l) hm k1 k2

end

section
open Go.RowKit Go.Lib

theorem rowGo_len (x y : Int) (k i : Nat) : (rowGo x y k i).length = k := by
  induction k generalizing i with
  | zero => rfl
  | succ k ih => simp [rowGo, ih]
theorem rowsGo_len (x y : Int) (w k j : Nat) : (rowsGo x y w k j).length = k * w := by
  induction k generalizing j with
  | zero => simp [rowsGo]
  | succ k ih => rw [rowsGo, List.length_append, rowGo_len, ih, Nat.succ_mul]; omega
set_option maxHeartbeats 2000000 in
theorem rcells_none (x y u v : Int) (w : World) (h : nr u < 1 ∨ nr v < 1 ∨ 1024 < nr u * nr v) :
    Calls Tryz.prog 101 #[.agg #[.int .i64 x, .int .i64 y, .int .i64 u, .int .i64 v]] w fun e w' => e = .returned (.slice none 0 0) ∧ Below w.heap.size w w' := by
  have bu := nr_bd u
  have bv := nr_bd v
  have bm := nr_mul u v
  have ew : IntKind.i64.wrap (nr u * nr v) = nr u * nr v := IntWalk.i64_in _ (by omega)
  go_enter Tryz.func101, Tryz.ntmps101
  go_wp2_with fail
  ((with_reducible refine (rrect_x x y u v _).mono ?_); rintro e w1 ⟨rfl, hb⟩)
  have hL := below_call ((Below.refl w.heap.size w).alloc (Nat.le_refl _) _) hb
  replace hL := hL.alloc hL.size (.cells [Value.int .i64 (nr x), .int .i64 (nr y), .int .i64 (nr u), .int .i64 (nr v)].toArray 72)
  by_cases h1 : nr u < 1
  · have z1 : decide (nr u < 1) = true := decide_eq_true h1
    go_wp2_with fail
    go_ret
    exact ⟨rfl, hL⟩
  · have z1 : decide (nr u < 1) = false := decide_eq_false h1
    by_cases h2 : nr v < 1
    · have z2 : decide (nr v < 1) = true := decide_eq_true h2
      go_wp2_with fail
      go_ret
      exact ⟨rfl, hL⟩
    · have z2 : decide (nr v < 1) = false := decide_eq_false h2
      have z3 : decide (1024 < nr u * nr v) = true := decide_eq_true (by omega)
      go_wp2_with fail
      go_ret
      exact ⟨rfl, hL⟩
set_option maxHeartbeats 4000000 in
theorem rcells_some (x y u v : Int) (a b : Nat) (w : World) (ha : nr u = a) (hb : nr v = b) (a1 : 1 ≤ a) (b1 : 1 ≤ b) (hab : a * b ≤ 1024) (L : List (Int × Int)) (hl : Hid (rowsGo (nr x) (nr y) a b 0 = L)) :
    Calls Tryz.prog 101 #[.agg #[.int .i64 x, .int .i64 y, .int .i64 u, .int .i64 v]] w fun e w' => ∃ s, e = .returned s ∧ w'.ownsRow w.heap.size 29 2 s L.length (pcells L) ∧ Below w.heap.size w w' := by
  obtain ⟨i0, hi, hz0, hz1, hz2⟩ := info_cut infoPos
  have bx := nr_bd x
  have by' := nr_bd y
  have bu := nr_bd u
  have bv := nr_bd v
  rw [ha] at bu
  rw [hb] at bv
  have hk := rrect_x x y u v
  rw [ha, hb] at hk
  generalize nr x = sx at *
  generalize nr y = sy at *
  have z1 : decide ((a : Int) < 1) = false := decide_eq_false (by omega)
  have z2 : decide ((b : Int) < 1) = false := decide_eq_false (by omega)
  have hab2 : (a : Int) * b ≤ 1024 := by rw [← Int.natCast_mul]; omega
  have hab0 : (0 : Int) ≤ (a : Int) * b := by rw [← Int.natCast_mul]; omega
  have z3 : decide (1024 < (a : Int) * b) = false := decide_eq_false (by omega)
  have ew : IntKind.i64.wrap ((a : Int) * b) = (a : Int) * b := IntWalk.i64_in _ (by omega)
  go_enter Tryz.func101, Tryz.ntmps101
  go_wp2_with fail
  ((with_reducible refine (hk _).mono ?_); rintro e w1 ⟨rfl, hb1⟩)
  have hL := below_call ((Below.refl w.heap.size w).alloc (Nat.le_refl _) _) hb1
  have hg := hL.size
  replace hL := hL.alloc hL.size (.cells [Value.int .i64 sx, .int .i64 sy, .int .i64 a, .int .i64 b].toArray 72)
  have B := Blk.new w1 [.int .i64 sx, .int .i64 sy, .int .i64 a, .int .i64 b] 72
  clear hb1 hk
  go_wp2_with fail
  generalize w1.alloc (.cells [Value.int .i64 sx, .int .i64 sy, .int .i64 a, .int .i64 b].toArray 72) = W at *
  generalize w1.heap.size = g at *
  clear ha hb z1 z2 z3 ew hab2 hab0
  go_loopw [4, 5] (fun vs vy wr => ∃ (j : Nat) (l : List (Int × Int)), vy = .int .i64 j ∧ j ≤ b ∧ l.length = j * a ∧ wr.ownsRow (g + 1) 29 2 vs l.length (pcells l) ∧ Blk wr g [.int .i64 sx, .int .i64 sy, .int .i64 a, .int .i64 b] 72 ∧ Below w.heap.size w wr ∧ Hid (l ++ rowsGo sx sy a (b - j) j = L)) (fun _ vy _ => b - (RowKit.intOf vy).toNat)
  case atStart => exact ⟨0, [], rfl, by omega, by simp, World.ownsRow_nil _ _ _ _, B, hL, hl⟩
  case round =>
    clear B hL hl
    obtain ⟨j, l, rfl, hj, hll, hown, B, hL, hR⟩ := hrel
    obtain ⟨c1, c2, c3, c4, -, -, -, -⟩ := B.four
    by_cases hlt : j < b
    · have d1 : (j : Int) < b := by omega
      have hja : (j + 1) * a ≤ b * a := Nat.mul_le_mul_right a hlt
      rw [Nat.mul_comm b a, Nat.succ_mul] at hja
      have hR2 : Hid (l ++ (rowGo sx (sy + j) (a - 0) 0 ++ rowsGo sx sy a (b - (j + 1)) (j + 1)) = L) := hid (by
        have e := hR.out
        rw [show b - j = (b - (j + 1)) + 1 by omega, rowsGo] at e
        exact e)
      go_wp2_with fail
      go_loopw [4, 6] (fun vs vx wr => ∃ (i : Nat) (l : List (Int × Int)), vx = .int .i64 i ∧ i ≤ a ∧ l.length = j * a + i ∧ wr.ownsRow (g + 1) 29 2 vs l.length (pcells l) ∧ Blk wr g [.int .i64 sx, .int .i64 sy, .int .i64 a, .int .i64 b] 72 ∧ Below w.heap.size w wr ∧ Hid (l ++ (rowGo sx (sy + j) (a - i) i ++ rowsGo sx sy a (b - (j + 1)) (j + 1)) = L)) (fun _ vx _ => a - (RowKit.intOf vx).toNat)
      case atStart => exact ⟨0, l, rfl, by omega, by omega, hown, B, hL, hR2⟩
      case round =>
        clear hown B hL hR hR2 c1 c2 c3 c4 hll
        obtain ⟨i, l, rfl, hia, hll, hown, B, hL, hR⟩ := hrel
        obtain ⟨c1, c2, c3, c4, -, -, -, -⟩ := B.four
        by_cases hlt2 : i < a
        · have d2 : (i : Int) < a := by omega
          have hN : Hid ((l ++ [(sx + i, sy + j)]) ++ (rowGo sx (sy + j) (a - (i + 1)) (i + 1) ++ rowsGo sx sy a (b - (j + 1)) (j + 1)) = L) := hid (by
            have e := hR.out
            rw [show a - i = (a - (i + 1)) + 1 by omega, rowGo] at e
            rw [← e]; simp)
          have hz := B.lt
          clear hR
          go_wp2_with (at_builtin; refine wpList_append_own _ rfl _ _ 51 rfl (g + 1) 29 i0 (.agg #[.int .i64 0, .int .i64 0]) 2 16 Tryz.underlying51 hi hz0 hz1 hz2 rfl (by decide) _ _ _ rfl (hown.alloc _) ⟨wr.heap.size, 0, none⟩ 1 1 [.int .i64 (sx + i), .int .i64 (sy + j)] rfl rfl cells_new ints_lone (by unfold maxLen; omega) (by omega) (by simp; omega) ?_)
          intro v' w' hown' hg' _
          have hb' := below_push (t := 29) hL.size hL hown (by omega) hg'
          have hB' := (B.alloc (.cells #[.int .i64 (sx + i), .int .i64 (sy + j)] 29)).grown hg' (own_not hown (by omega))
          have hown2 := own_to hown' (m := (l ++ [(sx + (i : Int), sy + (j : Int))]).length) (ys := pcells (l ++ [(sx + (i : Int), sy + (j : Int))])) (by simp [hll]) (pcells_snoc l _ _)
          clear hg' hown hL hown' B c1 c2 c3 c4 hz
          go_wp2_with fail
          go_roundw
          case rel => exact ⟨i + 1, _, by go_num, by omega, by simp; omega, hown2, hB', hb', hN⟩
          case measure => simp [RowKit.intOf]; omega
        · obtain rfl : i = a := by omega
          have hN : Hid (l ++ rowsGo sx sy i (b - (j + 1)) (j + 1) = L) := hid (by
            have e := hR.out
            rw [Nat.sub_self, rowGo, List.nil_append] at e
            exact e)
          clear hR
          go_wp2_with fail
          go_roundw
          case rel => exact ⟨j + 1, l, by go_num, by omega, by rw [Nat.succ_mul]; exact hll, hown, B, hL, hN⟩
          case measure => simp [RowKit.intOf]; omega
    · obtain rfl : j = b := by omega
      have hg2 := hR.out
      rw [Nat.sub_self, rowsGo, List.append_nil] at hg2
      subst hg2
      clear hR
      go_wp2_with fail
      go_ret
      exact ⟨_, rfl, own_base hown (by omega), hL⟩

theorem cellsv_some {x y u v : Int} (h : ¬ (nr u < 1 ∨ nr v < 1 ∨ 1024 < nr u * nr v)) : ∃ a b : Nat, nr u = a ∧ nr v = b ∧ 1 ≤ a ∧ 1 ≤ b ∧ a * b ≤ 1024 ∧ cellsv ⟨x, y, u, v⟩ = rowsGo (nr x) (nr y) a b 0 := by
  obtain ⟨a, ha⟩ := Int.eq_ofNat_of_zero_le (show 0 ≤ nr u by omega)
  obtain ⟨b, hb⟩ := Int.eq_ofNat_of_zero_le (show 0 ≤ nr v by omega)
  refine ⟨a, b, ha, hb, by omega, by omega, ?_, ?_⟩
  · have h2 : ¬ 1024 < nr u * nr v := by omega
    rw [ha, hb, ← Int.natCast_mul] at h2
    omega
  · unfold cellsv R4.nrm
    rw [if_neg h]
    simp only [ha, hb, Int.toNat_natCast]
theorem cellsv_len (r : R4) : (cellsv r).length ≤ 1024 := by
  obtain ⟨x, y, u, v⟩ := r
  by_cases h : nr u < 1 ∨ nr v < 1 ∨ 1024 < nr u * nr v
  · rw [show cellsv ⟨x, y, u, v⟩ = [] from if_pos h]; simp
  · obtain ⟨a, b, _, _, _, _, hab, e⟩ := cellsv_some (x := x) (y := y) h
    rw [e, rowsGo_len, Nat.mul_comm]; exact hab
theorem rcells_x (x y u v : Int) (w : World) (L : List (Int × Int)) (hl : Hid (cellsv ⟨x, y, u, v⟩ = L)) :
    Calls Tryz.prog 101 #[.agg #[.int .i64 x, .int .i64 y, .int .i64 u, .int .i64 v]] w fun e w' => ∃ s, e = .returned s ∧ w'.ownsRow w.heap.size 29 2 s L.length (pcells L) ∧ Below w.heap.size w w' := by
  by_cases h : nr u < 1 ∨ nr v < 1 ∨ 1024 < nr u * nr v
  · have e : L = [] := hl.out.symm.trans (if_pos h)
    subst e
    exact (rcells_none x y u v w h).mono fun e w' ⟨he, hb⟩ => ⟨_, he, World.ownsRow_nil _ _ _ _, hb⟩
  · obtain ⟨a, b, ha, hb, a1, b1, hab, e⟩ := cellsv_some (x := x) (y := y) h
    exact rcells_some x y u v a b w ha hb a1 b1 hab L (hid (e.symm.trans hl.out))

end

section
open Go.RowKit Go.Lib

theorem same_below {e a : Ending} {w w' : World} (h : e = a ∧ w = w') : e = a ∧ Below w.heap.size w w' := ⟨h.1, h.2 ▸ Below.refl _ _⟩
theorem sval_n (w h : Int) (b : Bool) (W : World) (e : Hid (b = validv w h)) : Calls Tryz.prog 111 #[.int .i64 w, .int .i64 h] W fun e w' => e = .returned (.bool b) ∧ Below W.heap.size W w' := by
  rw [e.out]; exact (rvalid_any w h W).mono fun _ _ => same_below
theorem sin_n (w h x y : Int) (b : Bool) (W : World) (e : Hid (b = inv w h x y)) : Calls Tryz.prog 109 #[.int .i64 w, .int .i64 h, .agg #[.int .i64 x, .int .i64 y]] W fun e w' => e = .returned (.bool b) ∧ Below W.heap.size W w' := by
  rw [e.out]; exact rin_any w h x y W
theorem sindex_n (w x y n : Int) (W : World) (e : Hid (n = indexv w x y)) : Calls Tryz.prog 22 #[.int .i64 w, .agg #[.int .i64 x, .int .i64 y]] W fun e w' => e = .returned (.int .i64 n) ∧ Below W.heap.size W w' := by
  rw [e.out]; exact rindex_any w x y W
theorem sat_n (w i x y : Int) (W : World) (hi : I64 i) (e : Hid (x = atx w i ∧ y = aty w i)) : Calls Tryz.prog 108 #[.int .i64 w, .int .i64 i] W fun e w' => e = .returned (.agg #[.int .i64 x, .int .i64 y]) ∧ Below W.heap.size W w' := by
  rw [e.out.1, e.out.2]; exact rat_any w i W hi.2
theorem sstep_n (x y d u v : Int) (W : World) (e : Hid (u = stx x d ∧ v = sty y d)) : Calls Tryz.prog 102 #[.agg #[.int .i64 x, .int .i64 y], .int .i64 d] W fun e w' => e = .returned (.agg #[.int .i64 u, .int .i64 v]) ∧ Below W.heap.size W w' := by
  rw [e.out.1, e.out.2]; exact rstep_any x y d W
theorem neiv_len (w h x y : Int) : (neiv w h x y).length ≤ 8 := by
  unfold neiv
  split
  · exact neiGo_len w h x y 8 0
  · simp
theorem sins_n (x y u v p q : Int) (b : Bool) (W : World) (e : Hid (b = insv ⟨x, y, u, v⟩ p q)) : Calls Tryz.prog 98 #[.agg #[.int .i64 x, .int .i64 y, .int .i64 u, .int .i64 v], .agg #[.int .i64 p, .int .i64 q]] W fun e w' => e = .returned (.bool b) ∧ Below W.heap.size W w' := by
  rw [e.out]; exact rins_x x y u v p q W
theorem scells_n (x y u v : Int) (L : List (Int × Int)) (W : World) (e : Hid (cellsv ⟨x, y, u, v⟩ = L)) : Calls Tryz.prog 101 #[.agg #[.int .i64 x, .int .i64 y, .int .i64 u, .int .i64 v]] W fun e w' => ∃ s, e = .returned s ∧ w'.ownsRow W.heap.size 29 2 s L.length (pcells L) ∧ Below W.heap.size W w' := rcells_x x y u v W L e
/-- A small number. -/
theorem small {n : Int} (h : -1000000 ≤ n ∧ n ≤ 1000000) : I64 n := by unfold I64; omega
theorem owns_at {w : World} {B : Nat} {v : Value} {l : List (Int × Int)} (h : w.ownsRow B 29 2 v l.length (pcells l)) (h0 : 1 ≤ l.length) : ∃ g cap, v = .slice (some ⟨g, 0, none⟩) l.length cap ∧ g < w.heap.size := by
  rcases h.2 with ⟨_, e⟩ | ⟨g, cap, cur, rfl, _, hg, _⟩
  · omega
  · exact ⟨g, cap, rfl, (Array.getElem?_eq_some_iff.1 hg).1⟩
theorem ex_clip : clipv 4 4 ⟨-1, 2, 3, 9⟩ = ⟨0, 2, 2, 2⟩ := by
  unfold clipv common R4.nrm nr
  dsimp only
  rw [if_neg (by omega), if_neg (by omega)]
  simp only [R4.mk.injEq]
  omega
theorem Held1.env2 {w W : World} {b : Nat} {p q : Value} {t : TypeId} (h : W.cell? ⟨b, 0, none⟩ = some p ∧ W.cell? ⟨b, 1, none⟩ = some q ∧ Held1 w W b [p, q] t) : Below w.heap.size w W := h.2.2.old
theorem Held2.env22 {w W : World} {b c : Nat} {p q u v : Value} {t s : TypeId} (h : W.cell? ⟨b, 0, none⟩ = some p ∧ W.cell? ⟨b, 1, none⟩ = some q ∧ W.cell? ⟨c, 0, none⟩ = some u ∧ W.cell? ⟨c, 1, none⟩ = some v ∧ Held2 w W b c [p, q] [u, v] t s) : Below w.heap.size w W := h.2.2.2.2.old
end

end Go.Proofs.YtpgchjhfhndaaaaGreatDoor
