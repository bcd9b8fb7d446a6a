/-
  What the functions of grid answer.
-/
import Derived.Test.YtbdgpldhfemejaaDoorGridRef
namespace Go.Proofs.YtbdgpldhfemejaaDoor

section
open Go.RowKit Go.Lib

set_option maxHeartbeats 400000 in
theorem dclamp_any (n a b : Int) (w : World) :
    Calls Tryd.prog 86 #[.int .i64 n, .int .i64 a, .int .i64 b] w fun e w' => e = .returned (.int .i64 (max a (min n b))) ∧ w = w' := by
  go_enter Tryd.func86, Tryd.ntmps86
  go_wp2
  go_ret
  exact ⟨rfl, rfl⟩
set_option maxHeartbeats 400000 in
theorem dnr_any (n : Int) (w : World) :
    Calls Tryd.prog 69 #[.int .i64 n] w fun e w' => e = .returned (.int .i64 (nr n)) ∧ w = w' := by
  go_enter Tryd.func69, Tryd.ntmps69
  go_wp2_with fail
  ((with_reducible refine (dclamp_any _ _ _ _).mono ?_); rintro e w1 ⟨rfl, hw⟩)
  rw [← hw]
  clear hw
  go_wp2_with fail
  go_ret
  exact ⟨rfl, rfl⟩
set_option maxHeartbeats 400000 in
theorem dpos_any (x y : Int) (w : World) :
    Calls Tryd.prog 68 #[.agg #[.int .i64 x, .int .i64 y]] w fun e w' => e = .returned (.agg #[.int .i64 (nr x), .int .i64 (nr y)]) ∧ Below w.heap.size w w' := by
  go_enter Tryd.func68, Tryd.ntmps68
  go_wp2_with fail
  go_region_held3 (fun w' => w'.cell? ⟨w.heap.size, 0, none⟩ = some (.int .i64 x) ∧ w'.cell? ⟨w.heap.size, 1, none⟩ = some (.int .i64 y)) (go_keep)
    (first | (go_at_call 69; refine (dnr_any _ _).mono ?_; rintro e w' ⟨rfl, rfl⟩))
  go_wp2
  refine bodyPost_ret (v := .agg #[.int .i64 (nr x), .int .i64 (nr y)]) (by simp [results, Tryd.results68, go_sem]) rfl ⟨rfl, ?_⟩
  exact (((Below.refl _ _).alloc (Nat.le_refl _) _).alloc (by simp) _).drew
def sidev (n : Int) : Bool := decide (1 ≤ n ∧ n ≤ 32)
set_option maxHeartbeats 400000 in
theorem dside_any (n : Int) (W : World) :
    Calls Tryd.prog 95 #[.int .i64 n] W fun e w' => e = .returned (.bool (sidev n)) ∧ W = w' := by
  go_enter Tryd.func95, Tryd.ntmps95
  go_wp2
  all_goals (go_ret; exact ⟨ret_bit (by unfold sidev; first | exact (decide_eq_false (by omega)).symm | exact decide_eq_decide.2 (by omega)), rfl⟩)
set_option maxHeartbeats 400000 in
theorem dvalid_any (w h : Int) (W : World) :
    Calls Tryd.prog 81 #[.int .i64 w, .int .i64 h] W fun e w' => e = .returned (.bool (validv w h)) ∧ W = w' := by
  cases a : sidev w with
  | true =>
    have z2 : validv w h = sidev h := decide_eq_decide.2 (by have := of_decide_eq_true a; omega)
    rw [z2]
    go_enter Tryd.func81, Tryd.ntmps81
    go_wp2_with fail
    ((with_reducible refine (dside_any _ _).mono ?_); rintro e w1 ⟨rfl, hw⟩)
    rw [← hw]
    clear hw
    go_wp2_with fail
    ((with_reducible refine (dside_any _ _).mono ?_); rintro e w1 ⟨rfl, hw⟩)
    rw [← hw]
    clear hw
    go_wp2_with fail
    go_ret
    exact ⟨rfl, rfl⟩
  | false =>
    have z2 : validv w h = false := decide_eq_false (by have := of_decide_eq_false a; omega)
    rw [z2]
    go_enter Tryd.func81, Tryd.ntmps81
    go_wp2_with fail
    ((with_reducible refine (dside_any _ _).mono ?_); rintro e w1 ⟨rfl, hw⟩)
    rw [← hw]
    clear hw
    go_wp2_with fail
    go_ret
    exact ⟨rfl, rfl⟩
set_option maxHeartbeats 400000 in
theorem din_any (w h x y : Int) (W : World) :
    Calls Tryd.prog 44 #[.int .i64 w, .int .i64 h, .agg #[.int .i64 x, .int .i64 y]] W fun e w' => e = .returned (.bool (inv w h x y)) ∧ Below W.heap.size W w' := by
  go_enter Tryd.func44, Tryd.ntmps44
  go_wp2
  all_goals (go_ret; exact ⟨ret_bit (by unfold inv; first | exact (decide_eq_false (by omega)).symm | exact decide_eq_decide.2 (by omega)), (Below.refl _ _).alloc (Nat.le_refl _) _⟩)
set_option maxHeartbeats 1000000 in
theorem dindex_any (w x y : Int) (W : World) :
    Calls Tryd.prog 49 #[.int .i64 w, .agg #[.int .i64 x, .int .i64 y]] W fun e w' => e = .returned (.int .i64 (indexv w x y)) ∧ Below W.heap.size W w' := by
  have m := nr_mul y w
  have bx := nr_bd x
  have v1 : IntKind.i64.wrap (nr y * nr w) = nr y * nr w := IntWalk.i64_in _ (by omega)
  have v2 : IntKind.i64.wrap (nr y * nr w + nr x) = nr y * nr w + nr x := IntWalk.i64_in _ (by omega)
  go_enter Tryd.func49, Tryd.ntmps49
  go_wp2_with fail
  ((with_reducible refine (dpos_any x y _).mono ?_); rintro e w1 ⟨rfl, hb⟩)
  have hL := below_call ((Below.refl W.heap.size W).alloc (Nat.le_refl _) _) hb
  have B := (Blk.new W [.int .i64 x, .int .i64 y] 27).below hb
  clear hb
  obtain ⟨_, _, _, _⟩ := B.two
  go_upto_region 1 with fail
  have B2 := B.put2 (.int .i64 (nr x)) (.int .i64 (nr y))
  replace hL := (hL.setCell (p := ⟨W.heap.size, 0, none⟩) (by simp) (.int .i64 (nr x))).setCell (p := ⟨W.heap.size, 1, none⟩) (by simp) (.int .i64 (nr y))
  generalize (w1.setCell ⟨W.heap.size, 0, none⟩ (.int .i64 (nr x))).setCell ⟨W.heap.size, 1, none⟩ (.int .i64 (nr y)) = V at *
  obtain ⟨_, _, _, _⟩ := B2.two
  go_region_held3 (fun w' => w'.cell? ⟨W.heap.size, 0, none⟩ = some (.int .i64 (nr x)) ∧ w'.cell? ⟨W.heap.size, 1, none⟩ = some (.int .i64 (nr y))) (go_keep)
    (first | (go_at_call 69; refine (dnr_any _ _).mono ?_; rintro e w' ⟨rfl, rfl⟩))
  go_wp2
  go_ret
  exact ⟨rfl, hL.drew⟩
set_option maxHeartbeats 1000000 in
theorem dat_any (w i : Int) (W : World) (hi : i ≤ 9223372036854775807) :
    Calls Tryd.prog 41 #[.int .i64 w, .int .i64 i] W fun e w' => e = .returned (.agg #[.int .i64 (atx w i), .int .i64 (aty w i)]) ∧ Below W.heap.size W w' := by
  by_cases h : w < 1 ∨ i < 0
  · rw [show atx w i = 0 from if_pos h, show aty w i = 0 from if_pos h]
    by_cases h1 : w < 1
    · go_enter Tryd.func41, Tryd.ntmps41
      go_wp2
      refine bodyPost_ret (v := .agg #[.int .i64 0, .int .i64 0]) (by simp [results, Tryd.results41, go_sem]) rfl ⟨rfl, ?_⟩
      exact ((Below.refl _ _).alloc (Nat.le_refl _) _)
    · have h2 : i < 0 := by omega
      go_enter Tryd.func41, Tryd.ntmps41
      go_wp2
      refine bodyPost_ret (v := .agg #[.int .i64 0, .int .i64 0]) (by simp [results, Tryd.results41, go_sem]) rfl ⟨rfl, ?_⟩
      exact ((Below.refl _ _).alloc (Nat.le_refl _) _)
  · rw [show atx w i = i % w from if_neg h, show aty w i = i / w from if_neg h]
    have h1 : 1 ≤ w := by omega
    have h2 : 0 ≤ i := by omega
    have z1 : decide (w < 1) = false := decide_eq_false (by omega)
    have z2 : decide (i < 0) = false := decide_eq_false (by omega)
    have n : ¬ w = 0 := by omega
    have e1 : i.tmod w = i % w := Int.tmod_eq_emod_of_nonneg h2
    have e2 : i.tdiv w = i / w := Int.tdiv_eq_ediv_of_nonneg h2
    have e3 : wrap64 (i / w) = i / w := IntWalk.wrap64_in _ (by have := Int.ediv_nonneg h2 (show 0 ≤ w by omega); have := Int.ediv_le_self w h2; omega)
    go_enter Tryd.func41, Tryd.ntmps41
    go_wp2
    go_region
    all_goals
      go_wp2
      refine bodyPost_ret (v := .agg #[.int .i64 (i % w), .int .i64 (i / w)]) (by simp [results, Tryd.results41, go_sem]) rfl ⟨rfl, ?_⟩
      exact ((Below.refl _ _).alloc (Nat.le_refl _) _).drew

end

section
open Go.RowKit Go.Lib

/-- What the functions of grid ask of the table of displacements. -/
structure EnvG (w : World) : Prop where
  tab : ∀ k : Nat, k < 8 → w.cell? ⟨1, k * 2, none⟩ = some (.int .i64 (shx k)) ∧ w.cell? ⟨1, k * 2 + 1, none⟩ = some (.int .i64 (shy k))
  big : 1 < w.heap.size
theorem EnvG.keep {w w' : World} (h : EnvG w) (hb : Below w.heap.size w w') : EnvG w' :=
  ⟨fun k hk => ⟨(hb.cell h.big).trans (h.tab k hk).1, (hb.cell h.big).trans (h.tab k hk).2⟩, Nat.lt_of_lt_of_le h.big hb.size⟩

set_option maxHeartbeats 1000000 in
theorem dstep_out (x y d : Int) (W : World) (h : d < 0 ∨ 7 < d) :
    Calls Tryd.prog 79 #[.agg #[.int .i64 x, .int .i64 y], .int .i64 d] W fun e w' => e = .returned (.agg #[.int .i64 (stx x d), .int .i64 (sty y d)]) ∧ Below W.heap.size W w' := by
  rw [show stx x d = x from if_pos h, show sty y d = y from if_pos h]
  by_cases h1 : d < 0
  · have z1 : decide (d < 0) = true := decide_eq_true h1
    go_enter Tryd.func79, Tryd.ntmps79
    go_wp2_with fail
    refine bodyPost_ret (v := .agg #[.int .i64 x, .int .i64 y]) (by simp [results, Tryd.results79, go_sem]) rfl ⟨rfl, ?_⟩
    exact ((Below.refl _ _).alloc (Nat.le_refl _) _).alloc (by simp) _
  · have z1 : decide (d < 0) = false := decide_eq_false h1
    have z2 : decide (8 ≤ d) = true := decide_eq_true (by omega)
    go_enter Tryd.func79, Tryd.ntmps79
    go_wp2_with fail
    refine bodyPost_ret (v := .agg #[.int .i64 x, .int .i64 y]) (by simp [results, Tryd.results79, go_sem]) rfl ⟨rfl, ?_⟩
    exact ((Below.refl _ _).alloc (Nat.le_refl _) _).alloc (by simp) _
set_option maxHeartbeats 1000000 in
theorem dstep_in (x y : Int) (k : Nat) (W : World) (hE : EnvG W) (h : k < 8) :
    Calls Tryd.prog 79 #[.agg #[.int .i64 x, .int .i64 y], .int .i64 k] W fun e w' => e = .returned (.agg #[.int .i64 (stx x k), .int .i64 (sty y k)]) ∧ Below W.heap.size W w' := by
  have hn : ¬ ((k : Int) < 0 ∨ 7 < (k : Int)) := by omega
  rw [show stx x k = nr x + shx k from if_neg hn, show sty y k = nr y + shy k from if_neg hn]
  have z1 : decide ((k : Int) < 0) = false := decide_eq_false (by omega)
  have z2 : decide (8 ≤ (k : Int)) = false := decide_eq_false (by omega)
  have i1 : (0 : Int) ≤ k := by omega
  have i2 : (k : Int) < 8 := by omega
  have bs := sh_bd k
  have bx := nr_bd x
  have by' := nr_bd y
  have v1 : IntKind.i64.wrap (nr x + shx k) = nr x + shx k := IntWalk.i64_in _ (by omega)
  have v2 : IntKind.i64.wrap (nr y + shy k) = nr y + shy k := IntWalk.i64_in _ (by omega)
  go_enter Tryd.func79, Tryd.ntmps79
  go_wp2_with fail
  ((with_reducible refine (dpos_any x y _).mono ?_); rintro e w1 ⟨rfl, hb⟩)
  have hL := below_call (((Below.refl W.heap.size W).alloc (Nat.le_refl _) (.cells #[.int .i64 x, .int .i64 y] 27)).alloc (by simp) (.cells #[.int .i64 0, .int .i64 0] 27)) hb
  have P := ((Blk.new W [.int .i64 x, .int .i64 y] 27).alloc (.cells #[.int .i64 0, .int .i64 0] 27)).below hb
  have B := ((Blk.new (W.alloc (.cells #[.int .i64 x, .int .i64 y] 27)) [.int .i64 0, .int .i64 0] 27).below hb).at (World.size_alloc _ _)
  clear hb
  obtain ⟨_, _, _, _⟩ := P.two
  go_upto_region 1 with fail
  replace P := P.put2 (.int .i64 (nr x)) (.int .i64 (nr y))
  replace B := (B.far (c := W.heap.size) (i := 0) (.int .i64 (nr x)) (by simp)).far (c := W.heap.size) (i := 1) (.int .i64 (nr y)) (by simp)
  replace hL := (hL.setCell (p := ⟨W.heap.size, 0, none⟩) (by simp) (.int .i64 (nr x))).setCell (p := ⟨W.heap.size, 1, none⟩) (by simp) (.int .i64 (nr y))
  generalize (w1.setCell ⟨W.heap.size, 0, none⟩ (.int .i64 (nr x))).setCell ⟨W.heap.size, 1, none⟩ (.int .i64 (nr y)) = V at *
  obtain ⟨t1, t2⟩ := (hE.keep hL).tab k h
  obtain ⟨_, _, _, _⟩ := P.two
  obtain ⟨_, _, _, _⟩ := B.two
  go_region
  all_goals
    go_wp2
    have Q := (B.put2 (.int .i64 (nr x + shx k)) (.int .i64 (nr y + shy k))).drew
    obtain ⟨c1, c2, -, -⟩ := Q.two
    refine bodyPost_ret (v := .agg #[.int .i64 (nr x + shx k), .int .i64 (nr y + shy k)]) (by simp [results, Tryd.results79, go_sem, c1, c2]) rfl ⟨rfl, ?_⟩
    exact ((hL.setCell (p := ⟨W.heap.size + 1, 0, none⟩) (by simp) _).setCell (p := ⟨W.heap.size + 1, 1, none⟩) (by simp) _).drew

theorem dstep_any (x y d : Int) (W : World) (hE : EnvG W) :
    Calls Tryd.prog 79 #[.agg #[.int .i64 x, .int .i64 y], .int .i64 d] W fun e w' => e = .returned (.agg #[.int .i64 (stx x d), .int .i64 (sty y d)]) ∧ Below W.heap.size W w' := by
  by_cases h : d < 0 ∨ 7 < d
  · exact dstep_out x y d W h
  · obtain ⟨k, rfl⟩ := Int.eq_ofNat_of_zero_le (show 0 ≤ d by omega)
    exact dstep_in x y k W hE (by omega)

end

end Go.Proofs.YtbdgpldhfemejaaDoor
