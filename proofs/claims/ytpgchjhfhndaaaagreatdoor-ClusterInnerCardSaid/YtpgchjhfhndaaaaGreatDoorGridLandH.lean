/-
  What the functions of grid answer as landed at da8c777: Cells.
-/
import Derived.Laws.MakeOwn
import Derived.Test.YtpgchjhfhndaaaaGreatDoorGridLandE
namespace Go.Proofs.YtpgchjhfhndaaaaGreatDoor
open Go.RowKit Go.Lib

set_option maxHeartbeats 2000000 in
theorem dcells_none (x y u v : Int) (w : World) (h : nr u < 1 ∨ nr v < 1 ∨ 1024 < nr u * nr v) :
    Calls Tryz.prog 95 #[.agg #[.int .i64 x, .int .i64 y, .int .i64 u, .int .i64 v]] w fun e w' => e = .returned (.slice none 0 0) ∧ Below w.heap.size w w' := by
  have bu := nr_bd u
  have bv := nr_bd v
  have bm := nr_mul u v
  have ew : IntKind.i64.wrap (nr u * nr v) = nr u * nr v := IntWalk.i64_in _ (by omega)
  go_enter Tryz.func95, Tryz.ntmps95
  go_wp2_with fail
  ((with_reducible refine (drect_x x y u v _).mono ?_); rintro e w1 ⟨rfl, hb⟩)
  have hT := (Held1.start w [.int .i64 x, .int .i64 y, .int .i64 u, .int .i64 v] 72).call hb
  clear hb
  have B := hT.l
  have hL := hT.old
  clear hT
  obtain ⟨_, _, _, _, _, _, _, _⟩ := B.four
  go_upto_region 1 with fail
  replace B := B.put4 (.int .i64 (nr x)) (.int .i64 (nr y)) (.int .i64 (nr u)) (.int .i64 (nr v))
  replace hL := (((hL.setCell (p := ⟨w.heap.size, 0, none⟩) (by simp) (.int .i64 (nr x))).setCell (p := ⟨w.heap.size, 1, none⟩) (by simp) (.int .i64 (nr y))).setCell (p := ⟨w.heap.size, 2, none⟩) (by simp) (.int .i64 (nr u))).setCell (p := ⟨w.heap.size, 3, none⟩) (by simp) (.int .i64 (nr v))
  generalize (((w1.setCell ⟨w.heap.size, 0, none⟩ (.int .i64 (nr x))).setCell ⟨w.heap.size, 1, none⟩ (.int .i64 (nr y))).setCell ⟨w.heap.size, 2, none⟩ (.int .i64 (nr u))).setCell ⟨w.heap.size, 3, none⟩ (.int .i64 (nr v)) = V at *
  obtain ⟨_, _, _, _, _, _, _, _⟩ := B.four
  go_wp2_with fail
  ((with_reducible refine (dempty_any _ _ _ _ _).mono ?_); rintro e w2 ⟨rfl, hb⟩)
  replace B := B.below hb
  replace hL := below_call hL hb
  clear hb
  obtain ⟨_, _, _, _, _, _, _, _⟩ := B.four
  cases he : emptyv ⟨nr x, nr y, nr u, nr v⟩ with
  | true =>
    go_wp2_with fail
    go_ret
    exact ⟨rfl, hL⟩
  | false =>
    have h2 := of_decide_eq_false he
    dsimp only at h2
    have z3 : decide (1024 < nr u * nr v) = true := decide_eq_true (by omega)
    go_wp2_with fail
    go_ret
    exact ⟨rfl, hL⟩
set_option maxHeartbeats 4000000 in
theorem dcells_some (x y u v : Int) (a b : Nat) (w : World) (ha : nr u = a) (hb : nr v = b) (a1 : 1 ≤ a) (b1 : 1 ≤ b) (hab : a * b ≤ 1024) (L : List (Int × Int)) (hl : Hid (rowsGo (nr x) (nr y) a b 0 = L)) :
    Calls Tryz.prog 95 #[.agg #[.int .i64 x, .int .i64 y, .int .i64 u, .int .i64 v]] w fun e w' => ∃ s, e = .returned s ∧ w'.ownsRow w.heap.size 29 2 s L.length (pcells L) ∧ Below w.heap.size w w' := by
  obtain ⟨i0, hi, hz0, hz1, hz2⟩ := info_cut infoPos
  have bx := nr_bd x
  have by' := nr_bd y
  have bu := nr_bd u
  have bv := nr_bd v
  rw [ha] at bu
  rw [hb] at bv
  have hk := drect_x x y u v
  rw [ha, hb] at hk
  generalize nr x = sx at *
  generalize nr y = sy at *
  have z1 : decide ((a : Int) < 1) = false := decide_eq_false (by omega)
  have z2 : decide ((b : Int) < 1) = false := decide_eq_false (by omega)
  have hab2 : (a : Int) * b ≤ 1024 := by rw [← Int.natCast_mul]; omega
  have hab0 : (0 : Int) ≤ (a : Int) * b := by rw [← Int.natCast_mul]; omega
  have z3 : decide (1024 < (a : Int) * b) = false := decide_eq_false (by omega)
  have ew : IntKind.i64.wrap ((a : Int) * b) = (a : Int) * b := IntWalk.i64_in _ (by omega)
  have z4 : emptyv ⟨sx, sy, a, b⟩ = false := decide_eq_false (by dsimp only; omega)
  go_enter Tryz.func95, Tryz.ntmps95
  go_wp2_with fail
  ((with_reducible refine (hk _).mono ?_); rintro e w1 ⟨rfl, hb1⟩)
  have hT := (Held1.start w [.int .i64 x, .int .i64 y, .int .i64 u, .int .i64 v] 72).call hb1
  clear hb1 hk
  have B := hT.l
  have hL := hT.old
  clear hT
  obtain ⟨_, _, _, _, _, _, _, _⟩ := B.four
  go_upto_region 1 with fail
  replace B := B.put4 (.int .i64 sx) (.int .i64 sy) (.int .i64 a) (.int .i64 b)
  replace hL := (((hL.setCell (p := ⟨w.heap.size, 0, none⟩) (by simp) (.int .i64 sx)).setCell (p := ⟨w.heap.size, 1, none⟩) (by simp) (.int .i64 sy)).setCell (p := ⟨w.heap.size, 2, none⟩) (by simp) (.int .i64 a)).setCell (p := ⟨w.heap.size, 3, none⟩) (by simp) (.int .i64 b)
  generalize (((w1.setCell ⟨w.heap.size, 0, none⟩ (.int .i64 sx)).setCell ⟨w.heap.size, 1, none⟩ (.int .i64 sy)).setCell ⟨w.heap.size, 2, none⟩ (.int .i64 a)).setCell ⟨w.heap.size, 3, none⟩ (.int .i64 b) = V at *
  obtain ⟨_, _, _, _, _, _, _, _⟩ := B.four
  have hke := dempty_any sx sy a b
  rw [z4] at hke
  go_wp2_with fail
  ((with_reducible refine (hke _).mono ?_); rintro e W0 ⟨rfl, hb⟩)
  replace B := B.below hb
  replace hL := below_call hL hb
  clear hb hke
  have hg1 := B.lt
  obtain ⟨W, hmk, hown, hg⟩ := run_make_own W0 (w.heap.size + 1) 51 29 i0 (.agg #[.int .i64 0, .int .i64 0]) 2 Tryz.underlying51 hi hz0 hz1 .i64 .i64 (a * b) (by rw [hz2]; omega) (by unfold maxLen; omega) (by omega)
  rw [show ((a * b : Nat) : Int) = (a : Int) * b by simp] at hmk
  obtain ⟨_, _, _, _, _, _, _, _⟩ := B.four
  replace B := B.grown hg (fun k hk => by simp at hk)
  replace hL := hL.grown hg hL.size (fun k hk => by simp at hk)
  obtain ⟨_, _, _, _, _, _, _, _⟩ := B.four
  go_wp2_with fail
  clear ha hb z1 z2 z3 z4 ew hab2 hab0 hmk hg hg1
  go_loopw [3, 26] (fun vs vy wr => ∃ (j : Nat) (l : List (Int × Int)), vy = .int .i64 j ∧ j ≤ b ∧ l.length = j * a ∧ wr.ownsRow (w.heap.size + 1) 29 2 vs l.length (pcells l) ∧ Blk wr w.heap.size [.int .i64 sx, .int .i64 sy, .int .i64 a, .int .i64 b] 72 ∧ Below w.heap.size w wr ∧ Hid (l ++ rowsGo sx sy a (b - j) j = L)) (fun _ vy _ => b - (RowKit.intOf vy).toNat)
  case atStart => exact ⟨0, [], rfl, by omega, by simp, hown, B, hL, hl⟩
  case round =>
    clear B hL hl hown
    obtain ⟨j, l, rfl, hj, hll, hown, B, hL, hR⟩ := hrel
    obtain ⟨c1, c2, c3, c4, -, -, -, -⟩ := B.four
    by_cases hlt : j < b
    · have d1 : (j : Int) < b := by omega
      have hja : (j + 1) * a ≤ b * a := Nat.mul_le_mul_right a hlt
      rw [Nat.mul_comm b a, Nat.succ_mul] at hja
      have hR2 : Hid (l ++ (rowGo sx (sy + j) (a - 0) 0 ++ rowsGo sx sy a (b - (j + 1)) (j + 1)) = L) := hid (by
        have e := hR.out
        rw [show b - j = (b - (j + 1)) + 1 by omega, rowsGo] at e
        exact e)
      go_wp2_with fail
      go_loopw [3, 31] (fun vs vx wr => ∃ (i : Nat) (l : List (Int × Int)), vx = .int .i64 i ∧ i ≤ a ∧ l.length = j * a + i ∧ wr.ownsRow (w.heap.size + 1) 29 2 vs l.length (pcells l) ∧ Blk wr w.heap.size [.int .i64 sx, .int .i64 sy, .int .i64 a, .int .i64 b] 72 ∧ Below w.heap.size w wr ∧ Hid (l ++ (rowGo sx (sy + j) (a - i) i ++ rowsGo sx sy a (b - (j + 1)) (j + 1)) = L)) (fun _ vx _ => a - (RowKit.intOf vx).toNat)
      case atStart => exact ⟨0, l, rfl, by omega, by omega, hown, B, hL, hR2⟩
      case round =>
        clear hown B hL hR hR2 c1 c2 c3 c4 hll
        obtain ⟨i, l, rfl, hia, hll, hown, B, hL, hR⟩ := hrel
        obtain ⟨c1, c2, c3, c4, -, -, -, -⟩ := B.four
        by_cases hlt2 : i < a
        · have d2 : (i : Int) < a := by omega
          have hN : Hid ((l ++ [(sx + i, sy + j)]) ++ (rowGo sx (sy + j) (a - (i + 1)) (i + 1) ++ rowsGo sx sy a (b - (j + 1)) (j + 1)) = L) := hid (by
            have e := hR.out
            rw [show a - i = (a - (i + 1)) + 1 by omega, rowGo] at e
            rw [← e]; simp)
          have hz := B.lt
          clear hR
          go_wp2_with (at_builtin; refine wpList_append_own _ rfl _ _ 51 rfl (w.heap.size + 1) 29 i0 (.agg #[.int .i64 0, .int .i64 0]) 2 16 Tryz.underlying51 hi hz0 hz1 hz2 rfl (by decide) _ _ _ rfl (hown.alloc _) ⟨wr.heap.size, 0, none⟩ 1 1 [.int .i64 (sx + i), .int .i64 (sy + j)] rfl rfl cells_new ints_lone (by unfold maxLen; omega) (by omega) (by simp; omega) ?_)
          intro v' w' hown' hg' _
          have hb' := below_push (t := 29) hL.size hL hown (by omega) hg'
          have hB' := (B.alloc (.cells #[.int .i64 (sx + i), .int .i64 (sy + j)] 29)).grown hg' (own_not hown (by omega))
          have hown2 := own_to hown' (m := (l ++ [(sx + (i : Int), sy + (j : Int))]).length) (ys := pcells (l ++ [(sx + (i : Int), sy + (j : Int))])) (by simp [hll]) (pcells_snoc l _ _)
          clear hg' hown hL hown' B c1 c2 c3 c4 hz
          go_wp2_with fail
          go_roundw
          case rel => exact ⟨i + 1, _, by go_num, by omega, by simp; omega, hown2, hB', hb', hN⟩
          case measure => simp [RowKit.intOf]; omega
        · obtain rfl : i = a := by omega
          have hN : Hid (l ++ rowsGo sx sy i (b - (j + 1)) (j + 1) = L) := hid (by
            have e := hR.out
            rw [Nat.sub_self, rowGo, List.nil_append] at e
            exact e)
          clear hR
          go_wp2_with fail
          go_roundw
          case rel => exact ⟨j + 1, l, by go_num, by omega, by rw [Nat.succ_mul]; exact hll, hown, B, hL, hN⟩
          case measure => simp [RowKit.intOf]; omega
    · obtain rfl : j = b := by omega
      have hg2 := hR.out
      rw [Nat.sub_self, rowsGo, List.append_nil] at hg2
      subst hg2
      clear hR
      go_wp2_with fail
      go_ret
      exact ⟨_, rfl, own_base hown (by omega), hL⟩

theorem dcells_x (x y u v : Int) (w : World) (L : List (Int × Int)) (hl : Hid (cellsv ⟨x, y, u, v⟩ = L)) :
    Calls Tryz.prog 95 #[.agg #[.int .i64 x, .int .i64 y, .int .i64 u, .int .i64 v]] w fun e w' => ∃ s, e = .returned s ∧ w'.ownsRow w.heap.size 29 2 s L.length (pcells L) ∧ Below w.heap.size w w' := by
  by_cases h : nr u < 1 ∨ nr v < 1 ∨ 1024 < nr u * nr v
  · have e : L = [] := hl.out.symm.trans (if_pos h)
    subst e
    exact (dcells_none x y u v w h).mono fun e w' ⟨he, hb⟩ => ⟨_, he, World.ownsRow_nil _ _ _ _, hb⟩
  · obtain ⟨a, b, ha, hb, a1, b1, hab, e⟩ := cellsv_some (x := x) (y := y) h
    exact dcells_some x y u v a b w ha hb a1 b1 hab L (hid (e.symm.trans hl.out))


end Go.Proofs.YtpgchjhfhndaaaaGreatDoor
