/-
  What the reference of grid answers, and what the functions of grid are held to.
-/
import Derived.Test.YtbdgpldhfemejaaDoorProg
import Derived.WalkKit
import Derived.IntWalk
import Derived.WalkSpells
import Derived.WalkLawsBesides
import Derived.Deep.QuietTactic
import Derived.BigQuiet
import Derived.BigRegion
import Derived.Lib.Hide
import Derived.Lib.Walk
import Derived.LoopN
import Derived.StillTailTactics
import Derived.Deep.RegionHeld3
import Derived.Deep.RegionWith
import Derived.Test.YtbdgpldhfemejaaDoorMem
import Derived.Test.YtbdgpldhfemejaaDoorNumsG
import Derived.Deep.Cut
namespace Go.Proofs.YtbdgpldhfemejaaDoor

section
open Go.RowKit Go.Lib

set_option maxHeartbeats 400000 in
theorem rnr_any (n : Int) (w : World) :
    Calls Tryd.prog 87 #[.int .i64 n] w fun e w' => e = .returned (.int .i64 (nr n)) ∧ w = w' := by
  go_enter Tryd.func87, Tryd.ntmps87
  go_wp2
  go_ret
  exact ⟨rfl, rfl⟩
set_option maxHeartbeats 400000 in
theorem rpos_any (x y : Int) (w : World) :
    Calls Tryd.prog 71 #[.agg #[.int .i64 x, .int .i64 y]] w fun e w' => e = .returned (.agg #[.int .i64 (nr x), .int .i64 (nr y)]) ∧ Below w.heap.size w w' := by
  go_enter Tryd.func71, Tryd.ntmps71
  go_wp2_with fail
  go_region_held3 (fun w' => w'.cell? ⟨w.heap.size, 0, none⟩ = some (.int .i64 x) ∧ w'.cell? ⟨w.heap.size, 1, none⟩ = some (.int .i64 y)) (go_keep)
    (first | (go_at_call 87; refine (rnr_any _ _).mono ?_; rintro e w' ⟨rfl, rfl⟩))
  go_wp2
  refine bodyPost_ret (v := .agg #[.int .i64 (nr x), .int .i64 (nr y)]) (by simp [results, Tryd.results71, go_sem]) rfl ⟨rfl, ?_⟩
  exact (((Below.refl _ _).alloc (Nat.le_refl _) _).alloc (by simp) _).drew
set_option maxHeartbeats 400000 in
theorem rvalid_any (w h : Int) (W : World) :
    Calls Tryd.prog 70 #[.int .i64 w, .int .i64 h] W fun e w' => e = .returned (.bool (validv w h)) ∧ W = w' := by
  go_enter Tryd.func70, Tryd.ntmps70
  go_wp2
  all_goals (go_ret; exact ⟨ret_bit (by unfold validv; first | exact (decide_eq_false (by omega)).symm | exact decide_eq_decide.2 (by omega)), rfl⟩)
set_option maxHeartbeats 400000 in
theorem rin_any (w h x y : Int) (W : World) :
    Calls Tryd.prog 88 #[.int .i64 w, .int .i64 h, .agg #[.int .i64 x, .int .i64 y]] W fun e w' => e = .returned (.bool (inv w h x y)) ∧ Below W.heap.size W w' := by
  go_enter Tryd.func88, Tryd.ntmps88
  go_wp2
  all_goals (go_ret; exact ⟨ret_bit (by unfold inv; first | exact (decide_eq_false (by omega)).symm | exact decide_eq_decide.2 (by omega)), (Below.refl _ _).alloc (Nat.le_refl _) _⟩)
set_option maxHeartbeats 1000000 in
theorem rindex_any (w x y : Int) (W : World) :
    Calls Tryd.prog 75 #[.int .i64 w, .agg #[.int .i64 x, .int .i64 y]] W fun e w' => e = .returned (.int .i64 (indexv w x y)) ∧ Below W.heap.size W w' := by
  have m := nr_mul y w
  have bx := nr_bd x
  have v1 : IntKind.i64.wrap (nr y * nr w) = nr y * nr w := IntWalk.i64_in _ (by omega)
  have v2 : IntKind.i64.wrap (nr y * nr w + nr x) = nr y * nr w + nr x := IntWalk.i64_in _ (by omega)
  go_enter Tryd.func75, Tryd.ntmps75
  go_wp2_with fail
  ((with_reducible refine (rpos_any x y _).mono ?_); rintro e w1 ⟨rfl, hb⟩)
  have hL := below_call ((Below.refl W.heap.size W).alloc (Nat.le_refl _) _) hb
  go_wp2_with fail
  go_region_held3 (fun w' => w'.cell? ⟨w1.heap.size, 0, none⟩ = some (.int .i64 (nr x)) ∧ w'.cell? ⟨w1.heap.size, 1, none⟩ = some (.int .i64 (nr y))) (go_keep)
    (first | (go_at_call 87; refine (rnr_any _ _).mono ?_; rintro e w' ⟨rfl, rfl⟩))
  go_wp2
  go_ret
  exact ⟨rfl, (hL.alloc hL.size _).drew⟩

end

section
open Go.RowKit Go.Lib

theorem rshift_any (d : Int) (W : World) (h : 0 ≤ d ∧ d ≤ 7) :
    Calls Tryd.prog 72 #[.int .i64 d] W fun e w' => e = .returned (.agg #[.int .i64 (shx d), .int .i64 (shy d)]) ∧ Below W.heap.size W w' := by
  obtain rfl | rfl | rfl | rfl | rfl | rfl | rfl | rfl : d = 0 ∨ d = 1 ∨ d = 2 ∨ d = 3 ∨ d = 4 ∨ d = 5 ∨ d = 6 ∨ d = 7 := by omega
  all_goals
    go_enter Tryd.func72, Tryd.ntmps72
    go_wp2
    refine bodyPost_ret (by simp [results, Tryd.results72, go_sem]; decide) rfl ⟨rfl, ?_⟩
    exact ((Below.refl _ _).alloc (Nat.le_refl _) _)

theorem sh_bd (d : Int) : -1 ≤ shx d ∧ shx d ≤ 1 ∧ -1 ≤ shy d ∧ shy d ≤ 1 := by
  unfold shx shy
  refine ⟨?_, ?_, ?_, ?_⟩ <;> (repeat' split) <;> omega
set_option maxHeartbeats 1000000 in
theorem rstep_out (x y d : Int) (W : World) (h : d < 0 ∨ 7 < d) :
    Calls Tryd.prog 54 #[.agg #[.int .i64 x, .int .i64 y], .int .i64 d] W fun e w' => e = .returned (.agg #[.int .i64 (stx x d), .int .i64 (sty y d)]) ∧ Below W.heap.size W w' := by
  rw [show stx x d = x from if_pos h, show sty y d = y from if_pos h]
  by_cases h1 : d < 0
  · go_enter Tryd.func54, Tryd.ntmps54
    go_wp2
    refine bodyPost_ret (v := .agg #[.int .i64 x, .int .i64 y]) (by simp [results, Tryd.results54, go_sem]) rfl ⟨rfl, ?_⟩
    exact ((Below.refl _ _).alloc (Nat.le_refl _) _).alloc (by simp) _
  · have h2 : 7 < d := by omega
    go_enter Tryd.func54, Tryd.ntmps54
    go_wp2
    refine bodyPost_ret (v := .agg #[.int .i64 x, .int .i64 y]) (by simp [results, Tryd.results54, go_sem]) rfl ⟨rfl, ?_⟩
    exact ((Below.refl _ _).alloc (Nat.le_refl _) _).alloc (by simp) _
set_option maxHeartbeats 1000000 in
theorem rstep_in (x y d : Int) (W : World) (h : 0 ≤ d ∧ d ≤ 7) :
    Calls Tryd.prog 54 #[.agg #[.int .i64 x, .int .i64 y], .int .i64 d] W fun e w' => e = .returned (.agg #[.int .i64 (stx x d), .int .i64 (sty y d)]) ∧ Below W.heap.size W w' := by
  have hn : ¬ (d < 0 ∨ 7 < d) := by omega
  rw [show stx x d = nr x + shx d from if_neg hn, show sty y d = nr y + shy d from if_neg hn]
  have z1 : decide (d < 0) = false := decide_eq_false (by omega)
  have z2 : decide (7 < d) = false := decide_eq_false (by omega)
  have bs := sh_bd d
  have bx := nr_bd x
  have by' := nr_bd y
  go_enter Tryd.func54, Tryd.ntmps54
  go_wp2_with fail
  ((with_reducible refine (rpos_any x y _).mono ?_); rintro e w1 ⟨rfl, hb⟩)
  have hL := below_call (((Below.refl W.heap.size W).alloc (Nat.le_refl _) (.cells #[.int .i64 x, .int .i64 y] 27)).alloc (by simp) (.cells #[.int .i64 0, .int .i64 0] 27)) hb
  have B := Blk.new (W.alloc (.cells #[.int .i64 x, .int .i64 y] 27)) [.int .i64 0, .int .i64 0] 27
  replace B := B.below hb
  clear hb
  go_wp2_with fail
  ((with_reducible refine (rshift_any d _ h).mono ?_); rintro e w2 ⟨rfl, hb⟩)
  replace hL := below_call hL hb
  replace B := B.below hb
  clear hb
  replace B := ((B.alloc (.cells #[.int .i64 (nr x), .int .i64 (nr y)] 27)).alloc (.cells #[.int .i64 (shx d), .int .i64 (shy d)] 27)).at (World.size_alloc _ _)
  replace hL := (hL.alloc hL.size (.cells #[.int .i64 (nr x), .int .i64 (nr y)] 27)).alloc (by have := hL.size; simp; omega) (.cells #[.int .i64 (shx d), .int .i64 (shy d)] 27)
  obtain ⟨c1, c2, f1, f2⟩ := B.two
  go_wp2_with fail
  clear c1 c2 f1 f2
  replace B := (B.set 0 (.int .i64 (nr x + shx d))).set 1 (.int .i64 (nr y + shy d))
  obtain ⟨c1, c2, -, -⟩ := B.two
  refine bodyPost_ret (v := .agg #[.int .i64 (nr x + shx d), .int .i64 (nr y + shy d)]) (by simp [results, Tryd.results54, go_sem, c1, c2]) rfl ⟨rfl, ?_⟩
  exact (hL.setCell (by simp) _).setCell (by simp) _

theorem rstep_any (x y d : Int) (W : World) :
    Calls Tryd.prog 54 #[.agg #[.int .i64 x, .int .i64 y], .int .i64 d] W fun e w' => e = .returned (.agg #[.int .i64 (stx x d), .int .i64 (sty y d)]) ∧ Below W.heap.size W w' := by
  by_cases h : d < 0 ∨ 7 < d
  · exact rstep_out x y d W h
  · exact rstep_in x y d W (by omega)


end

section
open Go.RowKit Go.Lib

theorem infoPos : (Tryd.prog.info? 27).map (fun i => (i.zero, i.size, i.bytes)) = some (some (.agg #[.int .i64 0, .int .i64 0]), 2, 16) := by kernel_rfl
theorem ints_lone {x y : Int} : ∀ u ∈ ([.int .i64 x, .int .i64 y] : List Value), u.oneCell' = true := by
  intro u hu; simp at hu; rcases hu with rfl | rfl <;> rfl
theorem neiGo_len (w h x y : Int) (k d : Nat) : (neiGo w h x y k d).length ≤ k := by
  induction k generalizing d with
  | zero => simp [neiGo]
  | succ k ih =>
    unfold neiGo
    have := ih (d + 1)
    split
    · simp; omega
    · omega
end

section
open Go.RowKit Go.Lib

theorem dif_bd (a b : Int) : -4194304 ≤ nr a - nr b ∧ nr a - nr b ≤ 4194304 := by
  have := nr_bd a; have := nr_bd b; omega
theorem abs_bd {n : Int} (h : -4194304 ≤ n ∧ n ≤ 4194304) : 0 ≤ absv n ∧ absv n ≤ 4194304 := by unfold absv; omega
end

section
open Go.RowKit Go.Lib

theorem common_none {a b : R4} (h : a.w < 1 ∨ a.h < 1 ∨ b.w < 1 ∨ b.h < 1) : common a b = R4.zero := if_pos h
def Near (n : Int) : Prop := -1048576 ≤ n ∧ n ≤ 1048576
end

section
open Go.RowKit Go.Lib

theorem nr_near (n : Int) : Near (nr n) := nr_bd n
theorem common_eta (a b : R4) : (common a b).val = .agg #[.int .i64 (common a b).x, .int .i64 (common a b).y, .int .i64 (common a b).w, .int .i64 (common a b).h] := rfl
end

section
open Go.RowKit Go.Lib

theorem pcells_two (l : List (Int × Int)) : ∀ i, i < l.length → ∃ x y, (pcells l)[i * 2]? = some (.int .i64 x) ∧ (pcells l)[i * 2 + 1]? = some (.int .i64 y) := fun i h =>
  ⟨_, _, by rw [Nat.mul_comm]; exact (pcells_at l i h).1, by rw [Nat.mul_comm]; exact (pcells_at l i h).2⟩
end

section
open Go.RowKit Go.Lib

theorem rowGo_len (x y : Int) (k i : Nat) : (rowGo x y k i).length = k := by
  induction k generalizing i with
  | zero => rfl
  | succ k ih => simp [rowGo, ih]
theorem rowsGo_len (x y : Int) (w k j : Nat) : (rowsGo x y w k j).length = k * w := by
  induction k generalizing j with
  | zero => simp [rowsGo]
  | succ k ih => rw [rowsGo, List.length_append, rowGo_len, ih, Nat.succ_mul]; omega
theorem cellsv_some {x y u v : Int} (h : ¬ (nr u < 1 ∨ nr v < 1 ∨ 1024 < nr u * nr v)) : ∃ a b : Nat, nr u = a ∧ nr v = b ∧ 1 ≤ a ∧ 1 ≤ b ∧ a * b ≤ 1024 ∧ cellsv ⟨x, y, u, v⟩ = rowsGo (nr x) (nr y) a b 0 := by
  obtain ⟨a, ha⟩ := Int.eq_ofNat_of_zero_le (show 0 ≤ nr u by omega)
  obtain ⟨b, hb⟩ := Int.eq_ofNat_of_zero_le (show 0 ≤ nr v by omega)
  refine ⟨a, b, ha, hb, by omega, by omega, ?_, ?_⟩
  · have h2 : ¬ 1024 < nr u * nr v := by omega
    rw [ha, hb, ← Int.natCast_mul] at h2
    omega
  · unfold cellsv R4.nrm
    rw [if_neg h]
    simp only [ha, hb, Int.toNat_natCast]
theorem cellsv_len (r : R4) : (cellsv r).length ≤ 1024 := by
  obtain ⟨x, y, u, v⟩ := r
  by_cases h : nr u < 1 ∨ nr v < 1 ∨ 1024 < nr u * nr v
  · rw [show cellsv ⟨x, y, u, v⟩ = [] from if_pos h]; simp
  · obtain ⟨a, b, _, _, _, _, hab, e⟩ := cellsv_some (x := x) (y := y) h
    rw [e, rowsGo_len, Nat.mul_comm]; exact hab
end

section
open Go.RowKit Go.Lib

theorem same_below {e a : Ending} {w w' : World} (h : e = a ∧ w = w') : e = a ∧ Below w.heap.size w w' := ⟨h.1, h.2 ▸ Below.refl _ _⟩
theorem sval_n (w h : Int) (b : Bool) (W : World) (e : Hid (b = validv w h)) : Calls Tryd.prog 70 #[.int .i64 w, .int .i64 h] W fun e w' => e = .returned (.bool b) ∧ Below W.heap.size W w' := by
  rw [e.out]; exact (rvalid_any w h W).mono fun _ _ => same_below
theorem sin_n (w h x y : Int) (b : Bool) (W : World) (e : Hid (b = inv w h x y)) : Calls Tryd.prog 88 #[.int .i64 w, .int .i64 h, .agg #[.int .i64 x, .int .i64 y]] W fun e w' => e = .returned (.bool b) ∧ Below W.heap.size W w' := by
  rw [e.out]; exact rin_any w h x y W
theorem sindex_n (w x y n : Int) (W : World) (e : Hid (n = indexv w x y)) : Calls Tryd.prog 75 #[.int .i64 w, .agg #[.int .i64 x, .int .i64 y]] W fun e w' => e = .returned (.int .i64 n) ∧ Below W.heap.size W w' := by
  rw [e.out]; exact rindex_any w x y W
theorem sstep_n (x y d u v : Int) (W : World) (e : Hid (u = stx x d ∧ v = sty y d)) : Calls Tryd.prog 54 #[.agg #[.int .i64 x, .int .i64 y], .int .i64 d] W fun e w' => e = .returned (.agg #[.int .i64 u, .int .i64 v]) ∧ Below W.heap.size W w' := by
  rw [e.out.1, e.out.2]; exact rstep_any x y d W
theorem neiv_len (w h x y : Int) : (neiv w h x y).length ≤ 8 := by
  unfold neiv
  split
  · exact neiGo_len w h x y 8 0
  · simp
/-- A small number. -/
theorem small {n : Int} (h : -1000000 ≤ n ∧ n ≤ 1000000) : I64 n := by unfold I64; omega
theorem owns_at {w : World} {B : Nat} {v : Value} {l : List (Int × Int)} (h : w.ownsRow B 27 2 v l.length (pcells l)) (h0 : 1 ≤ l.length) : ∃ g cap, v = .slice (some ⟨g, 0, none⟩) l.length cap ∧ g < w.heap.size := by
  rcases h.2 with ⟨_, e⟩ | ⟨g, cap, cur, rfl, _, hg, _⟩
  · omega
  · exact ⟨g, cap, rfl, (Array.getElem?_eq_some_iff.1 hg).1⟩
theorem ex_clip : clipv 4 4 ⟨-1, 2, 3, 9⟩ = ⟨0, 2, 2, 2⟩ := by
  unfold clipv common R4.nrm nr
  dsimp only
  rw [if_neg (by omega), if_neg (by omega)]
  simp only [R4.mk.injEq]
  omega
theorem Held1.env2 {w W : World} {b : Nat} {p q : Value} {t : TypeId} (h : W.cell? ⟨b, 0, none⟩ = some p ∧ W.cell? ⟨b, 1, none⟩ = some q ∧ Held1 w W b [p, q] t) : Below w.heap.size w W := h.2.2.old
theorem Held2.env22 {w W : World} {b c : Nat} {p q u v : Value} {t s : TypeId} (h : W.cell? ⟨b, 0, none⟩ = some p ∧ W.cell? ⟨b, 1, none⟩ = some q ∧ W.cell? ⟨c, 0, none⟩ = some u ∧ W.cell? ⟨c, 1, none⟩ = some v ∧ Held2 w W b c [p, q] [u, v] t s) : Below w.heap.size w W := h.2.2.2.2.old
end

end Go.Proofs.YtbdgpldhfemejaaDoor
