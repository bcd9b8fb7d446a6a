/-
  What the functions of grid answer.
-/
import Derived.Test.YtpgchjhfhndaaaaGreatDoorGridRef
namespace Go.Proofs.YtpgchjhfhndaaaaGreatDoor

section
open Go.RowKit Go.Lib

set_option maxHeartbeats 400000 in
theorem dclamp_any (n a b : Int) (w : World) :
    Calls Tryz.prog 141 #[.int .i64 n, .int .i64 a, .int .i64 b] w fun e w' => e = .returned (.int .i64 (max a (min n b))) ∧ w = w' := by
  go_enter Tryz.func141, Tryz.ntmps141
  go_wp2
  go_ret
  exact ⟨rfl, rfl⟩
set_option maxHeartbeats 400000 in
theorem dnr_any (n : Int) (w : World) :
    Calls Tryz.prog 96 #[.int .i64 n] w fun e w' => e = .returned (.int .i64 (nr n)) ∧ w = w' := by
  go_enter Tryz.func96, Tryz.ntmps96
  go_wp2_with fail
  ((with_reducible refine (dclamp_any _ _ _ _).mono ?_); rintro e w1 ⟨rfl, hw⟩)
  rw [← hw]
  clear hw
  go_wp2_with fail
  go_ret
  exact ⟨rfl, rfl⟩
set_option maxHeartbeats 400000 in
theorem dpos_any (x y : Int) (w : World) :
    Calls Tryz.prog 94 #[.agg #[.int .i64 x, .int .i64 y]] w fun e w' => e = .returned (.agg #[.int .i64 (nr x), .int .i64 (nr y)]) ∧ Below w.heap.size w w' := by
  go_enter Tryz.func94, Tryz.ntmps94
  go_wp2_with fail
  go_region_held3 (fun w' => w'.cell? ⟨w.heap.size, 0, none⟩ = some (.int .i64 x) ∧ w'.cell? ⟨w.heap.size, 1, none⟩ = some (.int .i64 y)) (go_keep)
    (first | (go_at_call 96; refine (dnr_any _ _).mono ?_; rintro e w' ⟨rfl, rfl⟩))
  go_wp2
  refine bodyPost_ret (v := .agg #[.int .i64 (nr x), .int .i64 (nr y)]) (by simp [results, Tryz.results94, go_sem]) rfl ⟨rfl, ?_⟩
  exact (((Below.refl _ _).alloc (Nat.le_refl _) _).alloc (by simp) _).drew
set_option maxHeartbeats 1000000 in
theorem drect_x (x y u v : Int) (w : World) :
    Calls Tryz.prog 93 #[.agg #[.int .i64 x, .int .i64 y, .int .i64 u, .int .i64 v]] w fun e w' => e = .returned (.agg #[.int .i64 (nr x), .int .i64 (nr y), .int .i64 (nr u), .int .i64 (nr v)]) ∧ Below w.heap.size w w' := by
  go_enter Tryz.func93, Tryz.ntmps93
  go_wp2_with fail
  go_region_held3 (fun w' => w'.cell? ⟨w.heap.size, 0, none⟩ = some (.int .i64 x) ∧ w'.cell? ⟨w.heap.size, 1, none⟩ = some (.int .i64 y) ∧ w'.cell? ⟨w.heap.size, 2, none⟩ = some (.int .i64 u) ∧ w'.cell? ⟨w.heap.size, 3, none⟩ = some (.int .i64 v)) (go_keep)
    (first | (go_at_call 96; refine (dnr_any _ _).mono ?_; rintro e w' ⟨rfl, rfl⟩))
  go_wp2
  refine bodyPost_ret (v := .agg #[.int .i64 (nr x), .int .i64 (nr y), .int .i64 (nr u), .int .i64 (nr v)]) (by simp [results, Tryz.results93, go_sem]) rfl ⟨rfl, ?_⟩
  exact (((Below.refl _ _).alloc (Nat.le_refl _) _).alloc (by simp) _).drew
def sidev (n : Int) : Bool := decide (1 ≤ n ∧ n ≤ 32)
set_option maxHeartbeats 400000 in
theorem dside_any (n : Int) (W : World) :
    Calls Tryz.prog 178 #[.int .i64 n] W fun e w' => e = .returned (.bool (sidev n)) ∧ W = w' := by
  go_enter Tryz.func178, Tryz.ntmps178
  go_wp2
  all_goals (go_ret; exact ⟨ret_bit (by unfold sidev; first | exact (decide_eq_false (by omega)).symm | exact decide_eq_decide.2 (by omega)), rfl⟩)
set_option maxHeartbeats 400000 in
theorem dvalid_any (w h : Int) (W : World) :
    Calls Tryz.prog 138 #[.int .i64 w, .int .i64 h] W fun e w' => e = .returned (.bool (validv w h)) ∧ W = w' := by
  cases a : sidev w with
  | true =>
    have z2 : validv w h = sidev h := decide_eq_decide.2 (by have := of_decide_eq_true a; omega)
    rw [z2]
    go_enter Tryz.func138, Tryz.ntmps138
    go_wp2_with fail
    ((with_reducible refine (dside_any _ _).mono ?_); rintro e w1 ⟨rfl, hw⟩)
    rw [← hw]
    clear hw
    go_wp2_with fail
    ((with_reducible refine (dside_any _ _).mono ?_); rintro e w1 ⟨rfl, hw⟩)
    rw [← hw]
    clear hw
    go_wp2_with fail
    go_ret
    exact ⟨rfl, rfl⟩
  | false =>
    have z2 : validv w h = false := decide_eq_false (by have := of_decide_eq_false a; omega)
    rw [z2]
    go_enter Tryz.func138, Tryz.ntmps138
    go_wp2_with fail
    ((with_reducible refine (dside_any _ _).mono ?_); rintro e w1 ⟨rfl, hw⟩)
    rw [← hw]
    clear hw
    go_wp2_with fail
    go_ret
    exact ⟨rfl, rfl⟩
set_option maxHeartbeats 400000 in
theorem din_any (w h x y : Int) (W : World) :
    Calls Tryz.prog 89 #[.int .i64 w, .int .i64 h, .agg #[.int .i64 x, .int .i64 y]] W fun e w' => e = .returned (.bool (inv w h x y)) ∧ Below W.heap.size W w' := by
  go_enter Tryz.func89, Tryz.ntmps89
  go_wp2
  all_goals (go_ret; exact ⟨ret_bit (by unfold inv; first | exact (decide_eq_false (by omega)).symm | exact decide_eq_decide.2 (by omega)), (Below.refl _ _).alloc (Nat.le_refl _) _⟩)
set_option maxHeartbeats 1000000 in
theorem dindex_any (w x y : Int) (W : World) :
    Calls Tryz.prog 43 #[.int .i64 w, .agg #[.int .i64 x, .int .i64 y]] W fun e w' => e = .returned (.int .i64 (indexv w x y)) ∧ Below W.heap.size W w' := by
  have m := nr_mul y w
  have bx := nr_bd x
  have v1 : IntKind.i64.wrap (nr y * nr w) = nr y * nr w := IntWalk.i64_in _ (by omega)
  have v2 : IntKind.i64.wrap (nr y * nr w + nr x) = nr y * nr w + nr x := IntWalk.i64_in _ (by omega)
  go_enter Tryz.func43, Tryz.ntmps43
  go_wp2_with fail
  ((with_reducible refine (dpos_any x y _).mono ?_); rintro e w1 ⟨rfl, hb⟩)
  have hL := below_call ((Below.refl W.heap.size W).alloc (Nat.le_refl _) _) hb
  have B := (Blk.new W [.int .i64 x, .int .i64 y] 29).below hb
  clear hb
  obtain ⟨_, _, _, _⟩ := B.two
  go_upto_region 1 with fail
  have B2 := B.put2 (.int .i64 (nr x)) (.int .i64 (nr y))
  replace hL := (hL.setCell (p := ⟨W.heap.size, 0, none⟩) (by simp) (.int .i64 (nr x))).setCell (p := ⟨W.heap.size, 1, none⟩) (by simp) (.int .i64 (nr y))
  generalize (w1.setCell ⟨W.heap.size, 0, none⟩ (.int .i64 (nr x))).setCell ⟨W.heap.size, 1, none⟩ (.int .i64 (nr y)) = V at *
  obtain ⟨_, _, _, _⟩ := B2.two
  go_region_held3 (fun w' => w'.cell? ⟨W.heap.size, 0, none⟩ = some (.int .i64 (nr x)) ∧ w'.cell? ⟨W.heap.size, 1, none⟩ = some (.int .i64 (nr y))) (go_keep)
    (first | (go_at_call 96; refine (dnr_any _ _).mono ?_; rintro e w' ⟨rfl, rfl⟩))
  go_wp2
  go_ret
  exact ⟨rfl, hL.drew⟩
set_option maxHeartbeats 1000000 in
theorem dat_any (w i : Int) (W : World) (hi : i ≤ 9223372036854775807) :
    Calls Tryz.prog 130 #[.int .i64 w, .int .i64 i] W fun e w' => e = .returned (.agg #[.int .i64 (atx w i), .int .i64 (aty w i)]) ∧ Below W.heap.size W w' := by
  by_cases h : w < 1 ∨ i < 0
  · rw [show atx w i = 0 from if_pos h, show aty w i = 0 from if_pos h]
    by_cases h1 : w < 1
    · go_enter Tryz.func130, Tryz.ntmps130
      go_wp2
      refine bodyPost_ret (v := .agg #[.int .i64 0, .int .i64 0]) (by simp [results, Tryz.results130, go_sem]) rfl ⟨rfl, ?_⟩
      exact ((Below.refl _ _).alloc (Nat.le_refl _) _)
    · have h2 : i < 0 := by omega
      go_enter Tryz.func130, Tryz.ntmps130
      go_wp2
      refine bodyPost_ret (v := .agg #[.int .i64 0, .int .i64 0]) (by simp [results, Tryz.results130, go_sem]) rfl ⟨rfl, ?_⟩
      exact ((Below.refl _ _).alloc (Nat.le_refl _) _)
  · rw [show atx w i = i % w from if_neg h, show aty w i = i / w from if_neg h]
    have h1 : 1 ≤ w := by omega
    have h2 : 0 ≤ i := by omega
    have z1 : decide (w < 1) = false := decide_eq_false (by omega)
    have z2 : decide (i < 0) = false := decide_eq_false (by omega)
    have n : ¬ w = 0 := by omega
    have e1 : i.tmod w = i % w := Int.tmod_eq_emod_of_nonneg h2
    have e2 : i.tdiv w = i / w := Int.tdiv_eq_ediv_of_nonneg h2
    have e3 : wrap64 (i / w) = i / w := IntWalk.wrap64_in _ (by have := Int.ediv_nonneg h2 (show 0 ≤ w by omega); have := Int.ediv_le_self w h2; omega)
    go_enter Tryz.func130, Tryz.ntmps130
    go_wp2
    go_region
    all_goals
      go_wp2
      refine bodyPost_ret (v := .agg #[.int .i64 (i % w), .int .i64 (i / w)]) (by simp [results, Tryz.results130, go_sem]) rfl ⟨rfl, ?_⟩
      exact ((Below.refl _ _).alloc (Nat.le_refl _) _).drew

end

section
open Go.RowKit Go.Lib

/-- What the functions of grid ask of the table of displacements. -/
structure EnvG (w : World) : Prop where
  tab : ∀ k : Nat, k < 8 → w.cell? ⟨0, k * 2, none⟩ = some (.int .i64 (shx k)) ∧ w.cell? ⟨0, k * 2 + 1, none⟩ = some (.int .i64 (shy k))
  big : 0 < w.heap.size
theorem EnvG.keep {w w' : World} (h : EnvG w) (hb : Below w.heap.size w w') : EnvG w' :=
  ⟨fun k hk => ⟨(hb.cell h.big).trans (h.tab k hk).1, (hb.cell h.big).trans (h.tab k hk).2⟩, Nat.lt_of_lt_of_le h.big hb.size⟩

set_option maxHeartbeats 1000000 in
theorem dstep_out (x y d : Int) (W : World) (h : d < 0 ∨ 7 < d) :
    Calls Tryz.prog 139 #[.agg #[.int .i64 x, .int .i64 y], .int .i64 d] W fun e w' => e = .returned (.agg #[.int .i64 (stx x d), .int .i64 (sty y d)]) ∧ Below W.heap.size W w' := by
  rw [show stx x d = x from if_pos h, show sty y d = y from if_pos h]
  by_cases h1 : d < 0
  · have z1 : decide (d < 0) = true := decide_eq_true h1
    go_enter Tryz.func139, Tryz.ntmps139
    go_wp2_with fail
    refine bodyPost_ret (v := .agg #[.int .i64 x, .int .i64 y]) (by simp [results, Tryz.results139, go_sem]) rfl ⟨rfl, ?_⟩
    exact ((Below.refl _ _).alloc (Nat.le_refl _) _).alloc (by simp) _
  · have z1 : decide (d < 0) = false := decide_eq_false h1
    have z2 : decide (8 ≤ d) = true := decide_eq_true (by omega)
    go_enter Tryz.func139, Tryz.ntmps139
    go_wp2_with fail
    refine bodyPost_ret (v := .agg #[.int .i64 x, .int .i64 y]) (by simp [results, Tryz.results139, go_sem]) rfl ⟨rfl, ?_⟩
    exact ((Below.refl _ _).alloc (Nat.le_refl _) _).alloc (by simp) _
set_option maxHeartbeats 1000000 in
theorem dstep_in (x y : Int) (k : Nat) (W : World) (hE : EnvG W) (h : k < 8) :
    Calls Tryz.prog 139 #[.agg #[.int .i64 x, .int .i64 y], .int .i64 k] W fun e w' => e = .returned (.agg #[.int .i64 (stx x k), .int .i64 (sty y k)]) ∧ Below W.heap.size W w' := by
  have hn : ¬ ((k : Int) < 0 ∨ 7 < (k : Int)) := by omega
  rw [show stx x k = nr x + shx k from if_neg hn, show sty y k = nr y + shy k from if_neg hn]
  have z1 : decide ((k : Int) < 0) = false := decide_eq_false (by omega)
  have z2 : decide (8 ≤ (k : Int)) = false := decide_eq_false (by omega)
  have i1 : (0 : Int) ≤ k := by omega
  have i2 : (k : Int) < 8 := by omega
  have bs := sh_bd k
  have bx := nr_bd x
  have by' := nr_bd y
  have v1 : IntKind.i64.wrap (nr x + shx k) = nr x + shx k := IntWalk.i64_in _ (by omega)
  have v2 : IntKind.i64.wrap (nr y + shy k) = nr y + shy k := IntWalk.i64_in _ (by omega)
  go_enter Tryz.func139, Tryz.ntmps139
  go_wp2_with fail
  ((with_reducible refine (dpos_any x y _).mono ?_); rintro e w1 ⟨rfl, hb⟩)
  have hL := below_call (((Below.refl W.heap.size W).alloc (Nat.le_refl _) (.cells #[.int .i64 x, .int .i64 y] 29)).alloc (by simp) (.cells #[.int .i64 0, .int .i64 0] 29)) hb
  have P := ((Blk.new W [.int .i64 x, .int .i64 y] 29).alloc (.cells #[.int .i64 0, .int .i64 0] 29)).below hb
  have B := ((Blk.new (W.alloc (.cells #[.int .i64 x, .int .i64 y] 29)) [.int .i64 0, .int .i64 0] 29).below hb).at (World.size_alloc _ _)
  clear hb
  obtain ⟨_, _, _, _⟩ := P.two
  go_upto_region 1 with fail
  replace P := P.put2 (.int .i64 (nr x)) (.int .i64 (nr y))
  replace B := (B.far (c := W.heap.size) (i := 0) (.int .i64 (nr x)) (by simp)).far (c := W.heap.size) (i := 1) (.int .i64 (nr y)) (by simp)
  replace hL := (hL.setCell (p := ⟨W.heap.size, 0, none⟩) (by simp) (.int .i64 (nr x))).setCell (p := ⟨W.heap.size, 1, none⟩) (by simp) (.int .i64 (nr y))
  generalize (w1.setCell ⟨W.heap.size, 0, none⟩ (.int .i64 (nr x))).setCell ⟨W.heap.size, 1, none⟩ (.int .i64 (nr y)) = V at *
  obtain ⟨t1, t2⟩ := (hE.keep hL).tab k h
  obtain ⟨_, _, _, _⟩ := P.two
  obtain ⟨_, _, _, _⟩ := B.two
  go_region
  all_goals
    go_wp2
    have Q := (B.put2 (.int .i64 (nr x + shx k)) (.int .i64 (nr y + shy k))).drew
    obtain ⟨c1, c2, -, -⟩ := Q.two
    refine bodyPost_ret (v := .agg #[.int .i64 (nr x + shx k), .int .i64 (nr y + shy k)]) (by simp [results, Tryz.results139, go_sem, c1, c2]) rfl ⟨rfl, ?_⟩
    exact ((hL.setCell (p := ⟨W.heap.size + 1, 0, none⟩) (by simp) _).setCell (p := ⟨W.heap.size + 1, 1, none⟩) (by simp) _).drew

theorem dstep_any (x y d : Int) (W : World) (hE : EnvG W) :
    Calls Tryz.prog 139 #[.agg #[.int .i64 x, .int .i64 y], .int .i64 d] W fun e w' => e = .returned (.agg #[.int .i64 (stx x d), .int .i64 (sty y d)]) ∧ Below W.heap.size W w' := by
  by_cases h : d < 0 ∨ 7 < d
  · exact dstep_out x y d W h
  · obtain ⟨k, rfl⟩ := Int.eq_ofNat_of_zero_le (show 0 ≤ d by omega)
    exact dstep_in x y k W hE (by omega)

set_option maxHeartbeats 400000 in
theorem dnei_no (w h x y : Int) (W : World) (hv : validv w h = false) :
    Calls Tryz.prog 91 #[.int .i64 w, .int .i64 h, .agg #[.int .i64 x, .int .i64 y]] W fun e w' => e = .returned (.slice none 0 0) ∧ Below W.heap.size W w' := by
  have hc := dvalid_any w h
  rw [hv] at hc
  go_enter Tryz.func91, Tryz.ntmps91
  go_wp2_with fail
  ((with_reducible refine (hc _).mono ?_); rintro e w1 ⟨rfl, hw⟩)
  rw [← hw]
  clear hw
  go_wp2_with fail
  go_ret
  exact ⟨rfl, (Below.refl _ _).alloc (Nat.le_refl _) _⟩
set_option maxHeartbeats 2000000 in
theorem dnei_yes (w h x y : Int) (W : World) (hv : validv w h = true) (L : List (Int × Int)) (hE : EnvG W) (hL : Hid (neiGo w h x y 8 0 = L)) :
    Calls Tryz.prog 91 #[.int .i64 w, .int .i64 h, .agg #[.int .i64 x, .int .i64 y]] W fun e w' => ∃ v, e = .returned v ∧ w'.ownsRow W.heap.size 29 2 v L.length (pcells L) ∧ Below W.heap.size W w' := by
  obtain ⟨i0, hi, hz0, hz1, hz2⟩ := info_cut infoPos
  have hc := dvalid_any w h
  rw [hv] at hc
  go_enter Tryz.func91, Tryz.ntmps91
  go_wp2_with fail
  ((with_reducible refine (hc _).mono ?_); rintro e w1 ⟨rfl, hw⟩)
  rw [← hw]
  clear hw
  go_wp2_with fail
  have hB := Blk.new W [.int .i64 x, .int .i64 y] 29
  have hb := (Below.refl W.heap.size W).alloc (Nat.le_refl _) (.cells #[.int .i64 x, .int .i64 y] 29)
  go_loopw [7, 14] (fun vs vi wr => ∃ (d : Nat) (l : List (Int × Int)), vi = .int .i64 d ∧ d ≤ 8 ∧ l.length ≤ d ∧ wr.ownsRow (W.heap.size + 1) 29 2 vs l.length (pcells l) ∧ Blk wr W.heap.size [.int .i64 x, .int .i64 y] 29 ∧ Below W.heap.size W wr ∧ Hid (l ++ neiGo w h x y (8 - d) d = L)) (fun _ vi _ => 8 - (RowKit.intOf vi).toNat)
  case atStart => exact ⟨0, [], rfl, by omega, by simp, World.ownsRow_nil _ _ _ _, hB, hb, hL⟩
  case round =>
    clear hB hb hL
    obtain ⟨d, l, rfl, hd, hl, hown, hB, hb, hR⟩ := hrel
    by_cases hlt : d < 8
    · have b1 : (d : Int) < 8 := by omega
      obtain ⟨c1, c2, f1, f2⟩ := hB.two
      go_wp2_with fail
      ((with_reducible refine (dstep_any x y d _ (hE.keep hb)).mono ?_); rintro e w1 ⟨rfl, hb1⟩)
      obtain ⟨sx, hsx⟩ : ∃ s, stx x d = s := ⟨_, rfl⟩
      obtain ⟨sy, hsy⟩ : ∃ s, sty y d = s := ⟨_, rfl⟩
      rw [hsx, hsy]
      replace hown := own_below hown hb1
      replace hB := hB.below hb1
      replace hb := below_call hb hb1
      clear hb1 c1 c2 f1 f2
      go_wp2_with fail
      have hQ := Blk.new w1 [.int .i64 sx, .int .i64 sy] 29
      replace hown := hown.alloc (.cells #[.int .i64 sx, .int .i64 sy] 29)
      replace hB := hB.alloc (.cells #[.int .i64 sx, .int .i64 sy] 29)
      replace hb := hb.alloc hb.size (.cells #[.int .i64 sx, .int .i64 sy] 29)
      ((with_reducible refine (din_any w h sx sy _).mono ?_); rintro e w2 ⟨rfl, hb2⟩)
      replace hown := own_below hown hb2
      replace hB := hB.below hb2
      replace hQ := hQ.below hb2
      replace hb := below_call hb hb2
      clear hb2
      have hg := hR.out
      rw [show 8 - d = (8 - (d + 1)) + 1 by omega, neiGo, hsx, hsy] at hg
      have hlt2 := hB.lt
      obtain ⟨c1, c2, f1, f2⟩ := hQ.two
      cases hin : inv w h sx sy with
      | true =>
        rw [if_pos hin] at hg
        have hN : Hid ((l ++ [(sx, sy)]) ++ neiGo w h x y (8 - (d + 1)) (d + 1) = L) := hid (by rw [← hg]; simp)
        clear hg hR hsx hsy
        go_wp2_with (at_builtin; refine wpList_append_own _ rfl _ _ 51 rfl (W.heap.size + 1) 29 i0 (.agg #[.int .i64 0, .int .i64 0]) 2 16 Tryz.underlying51 hi hz0 hz1 hz2 rfl (by decide) _ _ _ rfl (hown.alloc _) ⟨w2.heap.size, 0, none⟩ 1 1 [.int .i64 sx, .int .i64 sy] rfl rfl cells_new ints_lone (by unfold maxLen; omega) (by omega) (by simp; omega) ?_)
        intro v' w' hown' hg' _
        have hb' := below_push (t := 29) hb.size hb hown (by omega) hg'
        have hB' := (hB.alloc (.cells #[.int .i64 sx, .int .i64 sy] 29)).grown hg' (own_not hown (by omega))
        have hown2 := own_to hown' (m := (l ++ [(sx, sy)]).length) (ys := pcells (l ++ [(sx, sy)])) (by simp) (pcells_snoc l sx sy)
        clear hg' hown hb hown' hB hQ c1 c2 f1 f2
        go_wp2_with fail
        go_roundw
        case rel => exact ⟨d + 1, _, by go_num, by omega, by simp; omega, hown2, hB', hb', hN⟩
        case measure => simp [RowKit.intOf]; omega
      | false =>
        rw [if_neg (by rw [hin]; simp)] at hg
        have hN := hid hg
        clear hg hR hsx hsy
        go_wp2_with fail
        go_roundw
        case rel => exact ⟨d + 1, l, by go_num, by omega, by omega, hown, hB, hb, hN⟩
        case measure => simp [RowKit.intOf]; omega
    · obtain rfl : d = 8 := by omega
      have hg := hR.out
      rw [Nat.sub_self, neiGo, List.append_nil] at hg
      subst hg
      clear hR
      go_wp2_with fail
      go_ret
      exact ⟨_, rfl, own_base hown (by omega), hb⟩




end

end Go.Proofs.YtpgchjhfhndaaaaGreatDoor
