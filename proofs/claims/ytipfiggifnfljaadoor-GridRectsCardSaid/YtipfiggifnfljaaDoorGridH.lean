/-
  What the reference of grid answers: the cells of a rectangle.
-/
import Derived.Test.YtipfiggifnfljaaDoorGridG
namespace Go.Proofs.YtipfiggifnfljaaDoor
open Go.RowKit Go.Lib

theorem rowGo_len (x y : Int) (k i : Nat) : (rowGo x y k i).length = k := by
  induction k generalizing i with
  | zero => rfl
  | succ k ih => simp [rowGo, ih]
theorem rowsGo_len (x y : Int) (w k j : Nat) : (rowsGo x y w k j).length = k * w := by
  induction k generalizing j with
  | zero => simp [rowsGo]
  | succ k ih => rw [rowsGo, List.length_append, rowGo_len, ih, Nat.succ_mul]; omega
set_option maxHeartbeats 2000000 in
theorem rcells_none (x y u v : Int) (w : World) (h : nr u < 1 ∨ nr v < 1 ∨ 1024 < nr u * nr v) :
    Calls Tryd.prog 34 #[.agg #[.int .i64 x, .int .i64 y, .int .i64 u, .int .i64 v]] w fun e w' => e = .returned (.slice none 0 0) ∧ Below w.heap.size w w' := by
  have bu := nr_bd u
  have bv := nr_bd v
  have bm := nr_mul u v
  have ew : IntKind.i64.wrap (nr u * nr v) = nr u * nr v := IntWalk.i64_in _ (by omega)
  go_enter Tryd.func34, Tryd.ntmps34
  go_wp2_with fail
  ((with_reducible refine (rrect_x x y u v _).mono ?_); rintro e w1 ⟨rfl, hb⟩)
  have hL := below_call ((Below.refl w.heap.size w).alloc (Nat.le_refl _) _) hb
  replace hL := hL.alloc hL.size (.cells [Value.int .i64 (nr x), .int .i64 (nr y), .int .i64 (nr u), .int .i64 (nr v)].toArray 36)
  by_cases h1 : nr u < 1
  · have z1 : decide (nr u < 1) = true := decide_eq_true h1
    go_wp2_with fail
    go_ret
    exact ⟨rfl, hL⟩
  · have z1 : decide (nr u < 1) = false := decide_eq_false h1
    by_cases h2 : nr v < 1
    · have z2 : decide (nr v < 1) = true := decide_eq_true h2
      go_wp2_with fail
      go_ret
      exact ⟨rfl, hL⟩
    · have z2 : decide (nr v < 1) = false := decide_eq_false h2
      have z3 : decide (1024 < nr u * nr v) = true := decide_eq_true (by omega)
      go_wp2_with fail
      go_ret
      exact ⟨rfl, hL⟩
set_option maxHeartbeats 4000000 in
theorem rcells_some (x y u v : Int) (a b : Nat) (w : World) (ha : nr u = a) (hb : nr v = b) (a1 : 1 ≤ a) (b1 : 1 ≤ b) (hab : a * b ≤ 1024) (L : List (Int × Int)) (hl : Hid (rowsGo (nr x) (nr y) a b 0 = L)) :
    Calls Tryd.prog 34 #[.agg #[.int .i64 x, .int .i64 y, .int .i64 u, .int .i64 v]] w fun e w' => ∃ s, e = .returned s ∧ w'.ownsRow w.heap.size 23 2 s L.length (pcells L) ∧ Below w.heap.size w w' := by
  obtain ⟨i0, hi, hz0, hz1, hz2⟩ := info_cut infoPos
  have bx := nr_bd x
  have by' := nr_bd y
  have bu := nr_bd u
  have bv := nr_bd v
  rw [ha] at bu
  rw [hb] at bv
  have hk := rrect_x x y u v
  rw [ha, hb] at hk
  generalize nr x = sx at *
  generalize nr y = sy at *
  have z1 : decide ((a : Int) < 1) = false := decide_eq_false (by omega)
  have z2 : decide ((b : Int) < 1) = false := decide_eq_false (by omega)
  have hab2 : (a : Int) * b ≤ 1024 := by rw [← Int.natCast_mul]; omega
  have hab0 : (0 : Int) ≤ (a : Int) * b := by rw [← Int.natCast_mul]; omega
  have z3 : decide (1024 < (a : Int) * b) = false := decide_eq_false (by omega)
  have ew : IntKind.i64.wrap ((a : Int) * b) = (a : Int) * b := IntWalk.i64_in _ (by omega)
  go_enter Tryd.func34, Tryd.ntmps34
  go_wp2_with fail
  ((with_reducible refine (hk _).mono ?_); rintro e w1 ⟨rfl, hb1⟩)
  have hL := below_call ((Below.refl w.heap.size w).alloc (Nat.le_refl _) _) hb1
  have hg := hL.size
  replace hL := hL.alloc hL.size (.cells [Value.int .i64 sx, .int .i64 sy, .int .i64 a, .int .i64 b].toArray 36)
  have B := Blk.new w1 [.int .i64 sx, .int .i64 sy, .int .i64 a, .int .i64 b] 36
  clear hb1 hk
  go_wp2_with fail
  generalize w1.alloc (.cells [Value.int .i64 sx, .int .i64 sy, .int .i64 a, .int .i64 b].toArray 36) = W at *
  generalize w1.heap.size = g at *
  clear ha hb z1 z2 z3 ew hab2 hab0
  go_loopw [4, 5] (fun vs vy wr => ∃ (j : Nat) (l : List (Int × Int)), vy = .int .i64 j ∧ j ≤ b ∧ l.length = j * a ∧ wr.ownsRow (g + 1) 23 2 vs l.length (pcells l) ∧ Blk wr g [.int .i64 sx, .int .i64 sy, .int .i64 a, .int .i64 b] 36 ∧ Below w.heap.size w wr ∧ Hid (l ++ rowsGo sx sy a (b - j) j = L)) (fun _ vy _ => b - (RowKit.intOf vy).toNat)
  case atStart => exact ⟨0, [], rfl, by omega, by simp, World.ownsRow_nil _ _ _ _, B, hL, hl⟩
  case round =>
    clear B hL hl
    obtain ⟨j, l, rfl, hj, hll, hown, B, hL, hR⟩ := hrel
    obtain ⟨c1, c2, c3, c4, -, -, -, -⟩ := B.four
    by_cases hlt : j < b
    · have d1 : (j : Int) < b := by omega
      have hja : (j + 1) * a ≤ b * a := Nat.mul_le_mul_right a hlt
      rw [Nat.mul_comm b a, Nat.succ_mul] at hja
      have hR2 : Hid (l ++ (rowGo sx (sy + j) (a - 0) 0 ++ rowsGo sx sy a (b - (j + 1)) (j + 1)) = L) := hid (by
        have e := hR.out
        rw [show b - j = (b - (j + 1)) + 1 by omega, rowsGo] at e
        exact e)
      go_wp2_with fail
      go_loopw [4, 6] (fun vs vx wr => ∃ (i : Nat) (l : List (Int × Int)), vx = .int .i64 i ∧ i ≤ a ∧ l.length = j * a + i ∧ wr.ownsRow (g + 1) 23 2 vs l.length (pcells l) ∧ Blk wr g [.int .i64 sx, .int .i64 sy, .int .i64 a, .int .i64 b] 36 ∧ Below w.heap.size w wr ∧ Hid (l ++ (rowGo sx (sy + j) (a - i) i ++ rowsGo sx sy a (b - (j + 1)) (j + 1)) = L)) (fun _ vx _ => a - (RowKit.intOf vx).toNat)
      case atStart => exact ⟨0, l, rfl, by omega, by omega, hown, B, hL, hR2⟩
      case round =>
        clear hown B hL hR hR2 c1 c2 c3 c4 hll
        obtain ⟨i, l, rfl, hia, hll, hown, B, hL, hR⟩ := hrel
        obtain ⟨c1, c2, c3, c4, -, -, -, -⟩ := B.four
        by_cases hlt2 : i < a
        · have d2 : (i : Int) < a := by omega
          have hN : Hid ((l ++ [(sx + i, sy + j)]) ++ (rowGo sx (sy + j) (a - (i + 1)) (i + 1) ++ rowsGo sx sy a (b - (j + 1)) (j + 1)) = L) := hid (by
            have e := hR.out
            rw [show a - i = (a - (i + 1)) + 1 by omega, rowGo] at e
            rw [← e]; simp)
          have hz := B.lt
          clear hR
          go_wp2_with (at_builtin; refine wpList_append_own _ rfl _ _ 31 rfl (g + 1) 23 i0 (.agg #[.int .i64 0, .int .i64 0]) 2 16 Tryd.underlying31 hi hz0 hz1 hz2 rfl (by decide) _ _ _ rfl (hown.alloc _) ⟨wr.heap.size, 0, none⟩ 1 1 [.int .i64 (sx + i), .int .i64 (sy + j)] rfl rfl cells_new ints_lone (by unfold maxLen; omega) (by omega) (by simp; omega) ?_)
          intro v' w' hown' hg' _
          have hb' := below_push (t := 23) hL.size hL hown (by omega) hg'
          have hB' := (B.alloc (.cells #[.int .i64 (sx + i), .int .i64 (sy + j)] 23)).grown hg' (own_not hown (by omega))
          have hown2 := own_to hown' (m := (l ++ [(sx + (i : Int), sy + (j : Int))]).length) (ys := pcells (l ++ [(sx + (i : Int), sy + (j : Int))])) (by simp [hll]) (pcells_snoc l _ _)
          clear hg' hown hL hown' B c1 c2 c3 c4 hz
          go_wp2_with fail
          go_roundw
          case rel => exact ⟨i + 1, _, by go_num, by omega, by simp; omega, hown2, hB', hb', hN⟩
          case measure => simp [RowKit.intOf]; omega
        · obtain rfl : i = a := by omega
          have hN : Hid (l ++ rowsGo sx sy i (b - (j + 1)) (j + 1) = L) := hid (by
            have e := hR.out
            rw [Nat.sub_self, rowGo, List.nil_append] at e
            exact e)
          clear hR
          go_wp2_with fail
          go_roundw
          case rel => exact ⟨j + 1, l, by go_num, by omega, by rw [Nat.succ_mul]; exact hll, hown, B, hL, hN⟩
          case measure => simp [RowKit.intOf]; omega
    · obtain rfl : j = b := by omega
      have hg2 := hR.out
      rw [Nat.sub_self, rowsGo, List.append_nil] at hg2
      subst hg2
      clear hR
      go_wp2_with fail
      go_ret
      exact ⟨_, rfl, own_base hown (by omega), hL⟩

theorem cellsv_some {x y u v : Int} (h : ¬ (nr u < 1 ∨ nr v < 1 ∨ 1024 < nr u * nr v)) : ∃ a b : Nat, nr u = a ∧ nr v = b ∧ 1 ≤ a ∧ 1 ≤ b ∧ a * b ≤ 1024 ∧ cellsv ⟨x, y, u, v⟩ = rowsGo (nr x) (nr y) a b 0 := by
  obtain ⟨a, ha⟩ := Int.eq_ofNat_of_zero_le (show 0 ≤ nr u by omega)
  obtain ⟨b, hb⟩ := Int.eq_ofNat_of_zero_le (show 0 ≤ nr v by omega)
  refine ⟨a, b, ha, hb, by omega, by omega, ?_, ?_⟩
  · have h2 : ¬ 1024 < nr u * nr v := by omega
    rw [ha, hb, ← Int.natCast_mul] at h2
    omega
  · unfold cellsv R4.nrm
    rw [if_neg h]
    simp only [ha, hb, Int.toNat_natCast]
theorem cellsv_len (r : R4) : (cellsv r).length ≤ 1024 := by
  obtain ⟨x, y, u, v⟩ := r
  by_cases h : nr u < 1 ∨ nr v < 1 ∨ 1024 < nr u * nr v
  · rw [show cellsv ⟨x, y, u, v⟩ = [] from if_pos h]; simp
  · obtain ⟨a, b, _, _, _, _, hab, e⟩ := cellsv_some (x := x) (y := y) h
    rw [e, rowsGo_len, Nat.mul_comm]; exact hab
theorem rcells_x (x y u v : Int) (w : World) (L : List (Int × Int)) (hl : Hid (cellsv ⟨x, y, u, v⟩ = L)) :
    Calls Tryd.prog 34 #[.agg #[.int .i64 x, .int .i64 y, .int .i64 u, .int .i64 v]] w fun e w' => ∃ s, e = .returned s ∧ w'.ownsRow w.heap.size 23 2 s L.length (pcells L) ∧ Below w.heap.size w w' := by
  by_cases h : nr u < 1 ∨ nr v < 1 ∨ 1024 < nr u * nr v
  · have e : L = [] := hl.out.symm.trans (if_pos h)
    subst e
    exact (rcells_none x y u v w h).mono fun e w' ⟨he, hb⟩ => ⟨_, he, World.ownsRow_nil _ _ _ _, hb⟩
  · obtain ⟨a, b, ha, hb, a1, b1, hab, e⟩ := cellsv_some (x := x) (y := y) h
    exact rcells_some x y u v a b w ha hb a1 b1 hab L (hid (e.symm.trans hl.out))

end Go.Proofs.YtipfiggifnfljaaDoor
