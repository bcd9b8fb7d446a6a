/-
  shadow as landed at 4bd78af: whether no cell blocks a line, in the coordinates of an octant.
-/
import Derived.Test.YtlcbkeieejmmbaaDoorShC
import Derived.Test.YtlcbkeieejmmbaaDoorGridRef
import Derived.Test.YtlcbkeieejmmbaaDoorAny
import Derived.Shelf.Abstract
namespace Go.Proofs.YtlcbkeieejmmbaaDoor
open Go.RowKit Go.Lib

theorem eg_place : ∀ args w, (callFunc 56 args).run Tryd.prog w = .ok (.enter 56 args) w := enters_of Tryd.func56 (by kernel_rfl) rfl
theorem ix2_0 (a b c d : Int) (W : World) : (Instr.index 72 (.agg #[.int .i64 a, .int .i64 b, .int .i64 c, .int .i64 d]) (.int .i64 0)).run Tryd.prog W = .ok (.agg #[.int .i64 a, .int .i64 b]) W := by kernel_rfl
theorem ix2_1 (a b c d : Int) (W : World) : (Instr.index 72 (.agg #[.int .i64 a, .int .i64 b, .int .i64 c, .int .i64 d]) (.int .i64 1)).run Tryd.prog W = .ok (.agg #[.int .i64 c, .int .i64 d]) W := by kernel_rfl
/-- What the walk holds of an octant. -/
structure OctAt (m : M3) (f g a b c d x y : Int) : Prop where
  ori : Ori a b c d x y
  y0 : 0 ≤ y
  yx : y ≤ x
  x1 : x ≤ 100
  sf : Sm f
  sg : Sm g
  sa : Sm a
  sb : Sm b
  sc : Sm c
  sd : Sm d
  fm : formedv m = true
  inn : inv m.w m.h f g = true
  far : inv m.w m.h (f + x * a + y * c) (g + x * b + y * d) = true
theorem OctAt.at {m : M3} {f g a b c d x y i j : Int} (h : OctAt m f g a b c d x y) (hh : hitv x y i j = true) : Hid (true = insidev m (f + i * a + j * c) (g + i * b + j * d)) :=
  hid (by unfold insidev; rw [h.fm, col_inside h.ori h.y0 h.yx h.inn h.far hh]; rfl)

set_option maxRecDepth 100000 in
set_option maxHeartbeats 8000000 in
theorem shunb_b (m : M3) (s : Value) (x y f g a b c d : Int) (p q r : Nat) (z : Bool) (W : World) (hE : EnvP W) (hr : RowAt W s m.cs) (hP : PlaceB W p q r f g a b c d) (hO : OctAt m f g a b c d x y) (hz : Hid (z = seesv m f g (f + x * a + y * c) (g + x * b + y * d))) :
    Calls Tryd.prog 35 #[.agg #[.int .i64 m.w, .int .i64 m.h, s], plc p q r, .int .i64 x, .int .i64 y] W fun e w' => e = .returned (.bool z) ∧ Below W.heap.size W w' := by
  obtain ⟨u, hu⟩ : ∃ u, Hid (f + x * a + y * c = u) := ⟨_, hid rfl⟩
  obtain ⟨v, hv⟩ : ∃ v, Hid (g + x * b + y * d = v) := ⟨_, hid rfl⟩
  obtain ⟨l, hl⟩ : ∃ l, Hid (l = upv m f g u v) := ⟨_, hid rfl⟩
  have x0 : 0 ≤ x := Int.le_trans hO.y0 hO.yx
  have y0 := hO.y0
  have yx := hO.yx
  have x1 := hO.x1
  have cp0 := fun (w : World) (hb : Below W.heap.size W w) => shplace_b 0 0 f g a b c d p q r w (hP.below hb) ⟨by decide, by decide⟩ ⟨by decide, by decide⟩ hO.sf hO.sg hO.sa hO.sb hO.sc hO.sd
  have cp1 := fun (w : World) (hb : Below W.heap.size W w) => shplace_b x y f g a b c d p q r w (hP.below hb) ⟨by omega, by omega⟩ ⟨by omega, by omega⟩ hO.sf hO.sg hO.sa hO.sb hO.sc hO.sd
  rw [show f + 0 * a + 0 * c = f by simp, show g + 0 * b + 0 * d = g by simp] at cp0
  rw [hu.out, hv.out] at cp1
  have i1 : Hid (true = insidev m f g) := hid (by unfold insidev; rw [hO.fm, hO.inn]; rfl)
  have i2 : Hid (true = insidev m u v) := hid (by rw [← hu.out, ← hv.out]; unfold insidev; rw [hO.fm, hO.far]; rfl)
  have cu := fun (w : World) (hb : Below W.heap.size W w) => shupper_b m s f g u v l w (hr.below hb) i1 i2 hl
  have eg := eg_place
  have hM := Blk.new W [.int .i64 m.w, .int .i64 m.h, s] 24
  have hL := (Below.refl W.heap.size W).alloc (Nat.le_refl _) (.cells [Value.int .i64 m.w, .int .i64 m.h, s].toArray 24)
  unfold plc
  go_enter Tryd.func35, Tryd.ntmps35
  go_upto_region 1 with fail
  generalize W.alloc (.cells [Value.int .i64 m.w, .int .i64 m.h, s].toArray 24) = V at *
  have hkeep := fun (w' : World) (hq : Below V.heap.size V w') => And.intro ((hM.below hq).cell 0) (And.intro ((hM.below hq).cell 1) (And.intro ((hM.below hq).cell 2) hq))
  have hq := (Below.refl V.heap.size V).drew
  have hz := hq.size
  obtain ⟨_, _, _, _⟩ := hkeep _ hq
  go_cut [9, 10] from 11 (fun s9 s10 wx => ∃ k : Nat, s9 = .pointer (some ⟨k, 0, none⟩) ∧ s10 = .int .i64 l ∧ V.heap.size ≤ k ∧ Blk wx k [.int .i64 x, .int .i64 y] 26 ∧ Below V.heap.size V wx)
  case first =>
    go_region_held3 (fun w' => w'.cell? ⟨W.heap.size, 0, none⟩ = some (.int .i64 m.w) ∧ w'.cell? ⟨W.heap.size, 1, none⟩ = some (.int .i64 m.h) ∧ w'.cell? ⟨W.heap.size, 2, none⟩ = some s ∧ Below V.heap.size V w')
      (first
        | (refine hkeep _ ?_; with_reducible first | assumption | ((repeat (first | assumption | exact Below.refl _ _ | refine Below.drew ?_ | refine Below.alloc ?_ ?_ _ | refine Below.setCell ?_ ?_ _)) <;> first | omega | (simp; omega) | (simp; done))))
      (first
        | (go_at_fn 56; first
            | (with_reducible refine (cp0 _ (below_call hL ?_)).mono ?_; with_reducible first | assumption | ((repeat (first | assumption | exact Below.refl _ _ | refine Below.drew ?_ | refine Below.alloc ?_ ?_ _)) <;> first | omega | (simp; omega) | (simp; done)))
            | (with_reducible refine (cp1 _ (below_call hL ?_)).mono ?_; with_reducible first | assumption | ((repeat (first | assumption | exact Below.refl _ _ | refine Below.drew ?_ | refine Below.alloc ?_ ?_ _)) <;> first | omega | (simp; omega) | (simp; done)))
           rintro e w' ⟨rfl, hb⟩; (first | have hq := below_call hq hb | have hq := below_call (hq.alloc hq.size _) hb | have hq := below_call ((Below.refl V.heap.size V).alloc (Nat.le_refl _) _).drew hb); have hz := hq.size; (try (with_reducible first | have n1 := (Blk.new _ _ _).below hb | have n1 := (Blk.new _ _ _).drew.below hb | have n1 := Blk.below n1 hb)); try (have v1 := n1.seen2; obtain ⟨_, _, _, _, _, _, _, _, _⟩ := v1))
        | (go_at_call 30; with_reducible refine (cu _ (below_call hL ?_)).mono ?_; with_reducible first | assumption | ((repeat (first | assumption | exact Below.refl _ _ | refine Below.drew ?_ | refine Below.alloc ?_ ?_ _)) <;> first | omega | (simp; omega) | (simp; done))
           rintro e w' ⟨rfl, hb⟩; (first | have hq := below_call hq hb | have hq := below_call (hq.alloc hq.size _) hb | have hq := below_call ((Below.refl V.heap.size V).alloc (Nat.le_refl _) _).drew hb); have hz := hq.size; (try (with_reducible first | have n1 := (Blk.new _ _ _).below hb | have n1 := (Blk.new _ _ _).drew.below hb | have n1 := Blk.below n1 hb)); try (have v1 := n1.seen2; obtain ⟨_, _, _, _, _, _, _, _, _⟩ := v1)))
    all_goals
      go_wp2_with fail
      go_meet
      case rel =>
        with_reducible
          refine ⟨_, rfl, rfl, ?_, ?_, ?_⟩
          · omega
          · repeat (first
              | assumption
              | exact Blk.new _ _ _
              | refine Blk.put2 (p := .int .i64 0) (q := .int .i64 0) ?_ _ _
              | refine Blk.alloc ?_ _)
          · (repeat (first | assumption | exact Below.refl _ _ | refine Below.drew ?_ | refine Below.alloc ?_ ?_ _ | refine Below.setCell ?_ ?_ _)) <;> first | omega | (simp; done) | (simp; omega)
  case rest =>
  obtain ⟨k, rfl, rfl, hk, hB, hq2⟩ := hcut
  clear hq hz cp0 cp1 cu i1 i2
  have cm := fun (i t : Int) (h : Bool) (w : World) (hi : Sm i) (ht : Sm t) (hh : Hid (h = hitv x y i t)) => shmeets_b x y i t h w ⟨by omega, by omega⟩ ⟨by omega, by omega⟩ hi ht hh
  have cpl := fun (i t : Int) (w : World) (hb : Below W.heap.size W w) (hi : Sm i) (ht : Sm t) => shplace_b i t f g a b c d p q r w (hP.below hb) hi ht hO.sf hO.sg hO.sa hO.sb hO.sc hO.sd
  have chd := fun (i t : Int) (o : Bool) (w : World) (hb : Below W.heap.size W w) (hh : hitv x y i t = true) (ho : Hid (o = hidev m (f + i * a + t * c) (g + i * b + t * d) l)) => shhides_b m s (f + i * a + t * c) (g + i * b + t * d) l o w (hE.keep hb) (hr.below hb) (hO.at hh) ho
  have kt : W.heap.size < V.heap.size := hM.lt
  clear hE hr hP
  go_wp2_with fail
  go_loopw [11] (fun vi wr => ∃ i : Int, vi = .int .i64 i ∧ 1 ≤ i ∧ i ≤ 101 ∧ Blk wr k [.int .i64 x, .int .i64 y] 26 ∧ Below V.heap.size V wr ∧ Hid (∀ j, 1 ≤ j → j < i → colv m f g a b c d x y l j (j * y / x) = false ∧ colv m f g a b c d x y l j (j * y / x + 1) = false)) (fun vi _ => (x - RowKit.intOf vi).toNat)
  case atStart => exact ⟨1, rfl, by omega, by omega, hB, hq2, hid (fun j h1 h2 => by omega)⟩
  case round =>
    clear hB hq2
    obtain ⟨i, rfl, i1, i2, hB, hq, hG⟩ := hrel
    by_cases hlt : i < x
    · have z1 : decide (i < x) = true := decide_eq_true hlt
      have z2 : (x == 0) = false := beq_eq_false_iff_ne.2 (by omega)
      have b1 : 0 ≤ i * y := Int.mul_nonneg (by omega) y0
      have b2 : i * y ≤ i * x := Int.mul_le_mul_of_nonneg_left yx (by omega)
      have b3 : i * y / x ≤ i := Int.le_of_lt_add_one (Int.ediv_lt_of_lt_mul (by omega) (by rw [Int.add_mul]; omega))
      have b4 : 0 ≤ i * y / x := Int.ediv_nonneg b1 x0
      have b5 : i * x ≤ 100 * 100 := Int.mul_le_mul (by omega) x1 x0 (by omega)
      have e1 : IntKind.i64.wrap (i * y) = i * y := IntWalk.i64_in _ (by omega)
      have e2 : (i * y).tdiv x = i * y / x := Int.tdiv_eq_ediv_of_nonneg b1
      obtain ⟨t0, ht0⟩ : ∃ t0, Hid (i * y / x = t0) := ⟨_, hid rfl⟩
      rw [ht0.out] at b3 b4 e2
      have e3 : IntKind.i64.wrap t0 = t0 := IntWalk.i64_in _ (by omega)
      have e4 : IntKind.i64.wrap (t0 + 1) = t0 + 1 := IntWalk.i64_in _ (by omega)
      have e5 : IntKind.i64.wrap (i + 1) = i + 1 := IntWalk.i64_in _ (by omega)
      clear b1 b2 b5
      go_wp2_with fail
      clear e1 e2 e3 e4 z1 z2
      go_loopw [44] (fun vj wr => ∃ j : Nat, vj = .int .i64 j ∧ j ≤ 2 ∧ Blk wr k [.int .i64 x, .int .i64 y] 26 ∧ Below V.heap.size V wr ∧ Hid (∀ t : Nat, t < j → colv m f g a b c d x y l i (t0 + t) = false)) (fun vj _ => 2 - (RowKit.intOf vj).toNat)
      case atStart => exact ⟨0, rfl, by omega, hB, hq, hid (fun t h => by omega)⟩
      case round =>
        clear hB hq
        obtain ⟨j, rfl, hj, hB, hq, hC⟩ := hrel
        by_cases hlt2 : j < 2
        · have z1 : decide ((j : Int) < 2) = true := decide_eq_true (by omega)
          obtain ⟨t, ht⟩ : ∃ t, Hid (t0 + (j : Int) = t) := ⟨_, hid rfl⟩
          have st : Sm t := by have := ht.out; unfold Sm; omega
          have si : Sm i := by unfold Sm; omega
          have hix : (Instr.index 72 (.agg #[.int .i64 i, .int .i64 t0, .int .i64 i, .int .i64 (t0 + 1)]) (.int .i64 j)).run Tryd.prog wr = .ok (.agg #[.int .i64 i, .int .i64 t]) wr := by
            rw [← ht.out]
            rcases (show j = 0 ∨ j = 1 by omega) with rfl | rfl
            · rw [show t0 + ((0 : Nat) : Int) = t0 by simp]; exact ix2_0 i t0 i (t0 + 1) wr
            · exact ix2_1 i t0 i (t0 + 1) wr
          have hB2 := hB.alloc (.cells [Value.int .i64 i, .int .i64 t].toArray 26)
          have hN := Blk.new wr [.int .i64 i, .int .i64 t] 26
          have hq2 := hq.alloc hq.size (.cells [Value.int .i64 i, .int .i64 t].toArray 26)
          go_wp2_with fail
          generalize wr.alloc (.cells [Value.int .i64 i, .int .i64 t].toArray 26) = Y at *
          generalize wr.heap.size = n at *
          clear hix hB hq
          have hM2 := hM.below hq2
          have hWY := below_call hL hq2
          have hkeep2 := fun (w' : World) (hb : Below Y.heap.size Y w') => And.intro ((hB2.below hb).cell 0) (And.intro ((hB2.below hb).cell 1) (And.intro ((hN.below hb).cell 0) (And.intro ((hN.below hb).cell 1) (And.intro ((hM2.below hb).cell 0) (And.intro ((hM2.below hb).cell 1) ((hM2.below hb).cell 2))))))
          have hY := (Below.refl Y.heap.size Y).drew
          obtain ⟨_, _, _, _, _, _, _⟩ := hkeep2 _ hY
          obtain ⟨h, hh⟩ : ∃ h, Hid (h = hitv x y i t) := ⟨_, hid rfl⟩
          have cmm := fun w => cm i t h w si st hh
          have cpp := fun w hb => cpl i t w hb si st
          clear cm cpl
          cases h with
          | false =>
            have hc : Hid (colv m f g a b c d x y l i t = false) := hid (by unfold colv; rw [← hh.out]; rfl)
            clear chd cpp
            have hmx : Tryd.prog.follows .mixedOrders = true := by kernel_rfl
            refine wp_region_held (S := fun w' => Below Y.heap.size Y w') hmx ?_
            show wpAnyH _ _ _ _ _ _ _ _ Y.drew
            have hS0 := (Below.refl Y.heap.size Y).drew
            refine reg_tk (i := 0) (v := .agg #[.int .i64 x, .int .i64 y]) (some 47) rfl (fun w' hS => by (have u0 := (hB2.below hS).cell 0; have u1 := (hB2.below hS).cell 1; go_simp)) hS0 ?_
            try simp only [Act.put, List.setIfInBounds_toArray, List.set_cons_zero, List.set_cons_succ]
            refine reg_tk (i := 1) (v := .agg #[.int .i64 i, .int .i64 t]) (some 48) rfl (fun w' hS => by (have u0 := (hN.below hS).cell 0; have u1 := (hN.below hS).cell 1; go_simp)) hS0 ?_
            try simp only [Act.put, List.setIfInBounds_toArray, List.set_cons_zero, List.set_cons_succ]
            refine held_one (i := 2) (by kernel_rfl) rfl (fun K hQ => ?_)
            go_simp
            ((with_reducible refine (cmm _).mono ?_); rintro e w1 ⟨rfl, hb⟩)
            have hS1 := below_call hS0 hb
            refine hQ.out _ _ hS1 ?_
            clear hQ
            try simp only [Act.put, List.setIfInBounds_toArray, List.set_cons_zero, List.set_cons_succ]
            refine reg_tk (i := 3) (v := .bool false) (some 50) rfl (fun w' hS => by skip; go_simp) hS1 ?_
            try simp only [Act.put, List.setIfInBounds_toArray, List.set_cons_zero, List.set_cons_succ]
            refine reg_skip (i := 4) (some 51) rfl rfl (by kernel_rfl) (by kernel_rfl) (by kernel_rfl) (fun _ _ _ h => h) (by kernel_rfl) hS1 ?_
            try simp only [Act.put, List.setIfInBounds_toArray, List.set_cons_zero, List.set_cons_succ]
            refine reg_skip (i := 5) (some 52) rfl rfl (by kernel_rfl) (by kernel_rfl) (by kernel_rfl) (fun _ _ _ h => h) (by kernel_rfl) hS1 ?_
            try simp only [Act.put, List.setIfInBounds_toArray, List.set_cons_zero, List.set_cons_succ]
            refine reg_skip (i := 6) (some 53) rfl rfl (by kernel_rfl) (by kernel_rfl) (by kernel_rfl) (fun _ _ _ h => h) (by kernel_rfl) hS1 ?_
            try simp only [Act.put, List.setIfInBounds_toArray, List.set_cons_zero, List.set_cons_succ]
            refine reg_skip (i := 7) (some 54) rfl rfl (by kernel_rfl) (by kernel_rfl) (by kernel_rfl) (fun _ _ _ h => h) (by kernel_rfl) hS1 ?_
            try simp only [Act.put, List.setIfInBounds_toArray, List.set_cons_zero, List.set_cons_succ]
            refine reg_skip (i := 8) (some 55) rfl rfl (by kernel_rfl) (by kernel_rfl) (by kernel_rfl) (fun _ _ _ h => h) (by kernel_rfl) hS1 ?_
            try simp only [Act.put, List.setIfInBounds_toArray, List.set_cons_zero, List.set_cons_succ]
            refine reg_skip (i := 9) (some 56) rfl rfl (by kernel_rfl) (by kernel_rfl) (by kernel_rfl) (fun _ _ _ h => h) (by kernel_rfl) hS1 ?_
            try simp only [Act.put, List.setIfInBounds_toArray, List.set_cons_zero, List.set_cons_succ]
            refine reg_skip (i := 10) (some 57) rfl rfl (by kernel_rfl) (by kernel_rfl) (by kernel_rfl) (fun _ _ _ h => h) (by kernel_rfl) hS1 ?_
            try simp only [Act.put, List.setIfInBounds_toArray, List.set_cons_zero, List.set_cons_succ]
            refine reg_skip (i := 11) (some 58) rfl rfl (by kernel_rfl) (by kernel_rfl) (by kernel_rfl) (fun _ _ _ h => h) (by kernel_rfl) hS1 ?_
            try simp only [Act.put, List.setIfInBounds_toArray, List.set_cons_zero, List.set_cons_succ]
            refine reg_skip (i := 12) (some 59) rfl rfl (by kernel_rfl) (by kernel_rfl) (by kernel_rfl) (fun _ _ _ h => h) (by kernel_rfl) hS1 ?_
            try simp only [Act.put, List.setIfInBounds_toArray, List.set_cons_zero, List.set_cons_succ]
            refine reg_tk (i := 13) (v := .bool false) (some 60) rfl (fun w' hS => by skip; go_simp) hS1 ?_
            try simp only [Act.put, List.setIfInBounds_toArray, List.set_cons_zero, List.set_cons_succ]
            refine wpAnyH_done (by kernel_rfl) ?_ _
            show Exit.then _ _ Exit.normal _ _
            have hY := hS1
            go_wp2_with fail
            go_roundw
            case rel => exact ⟨j + 1, by go_num, by omega, hB2.below hY, below_call hq2 hY, hid (fun t2 h2 => by
              by_cases e : t2 < j
              · exact hC.out t2 e
              · obtain rfl : t2 = j := by omega
                rw [ht.out]; exact hc.out)⟩
            case measure => simp [RowKit.intOf]; omega
          | true =>
            obtain ⟨o, ho⟩ : ∃ o, Hid (o = hidev m (f + i * a + t * c) (g + i * b + t * d) l) := ⟨_, hid rfl⟩
            have hc : Hid (colv m f g a b c d x y l i t = o) := hid (by unfold colv; rw [← hh.out, ho.out]; rfl)
            have chh := fun w hb => chd i t o w hb hh.out.symm ho
            clear chd
            generalize hP1 : f + i * a + t * c = P1 at *
            generalize hP2 : g + i * b + t * d = P2 at *
            clear hP1 hP2 ho
            go_region_held3 (fun w' => w'.cell? ⟨k, 0, none⟩ = some (.int .i64 x) ∧ w'.cell? ⟨k, 1, none⟩ = some (.int .i64 y) ∧ w'.cell? ⟨n, 0, none⟩ = some (.int .i64 i) ∧ w'.cell? ⟨n, 1, none⟩ = some (.int .i64 t) ∧ w'.cell? ⟨W.heap.size, 0, none⟩ = some (.int .i64 m.w) ∧ w'.cell? ⟨W.heap.size, 1, none⟩ = some (.int .i64 m.h) ∧ w'.cell? ⟨W.heap.size, 2, none⟩ = some s)
              (exact hkeep2 _ hY)
              (first
                | (go_at_call 27; with_reducible refine (cmm _).mono ?_; rintro e w' ⟨rfl, hb⟩; replace hY := below_call hY hb; clear hb)
                | (go_at_fn 56; with_reducible refine (cpp _ (below_call hWY hY)).mono ?_; rintro e w' ⟨rfl, hb⟩; replace hY := below_call hY hb; clear hb)
                | (go_at_call 29; with_reducible refine (chh _ (below_call hWY hY)).mono ?_; rintro e w' ⟨rfl, hb⟩; replace hY := below_call hY hb; clear hb))
            cases o with
            | false =>
              go_wp2_with fail
              go_roundw
              case rel => exact ⟨j + 1, by go_num, by omega, hB2.below hY, below_call hq2 hY, hid (fun t2 h2 => by
                by_cases e : t2 < j
                · exact hC.out t2 e
                · obtain rfl : t2 = j := by omega
                  rw [ht.out]; exact hc.out)⟩
              case measure => simp [RowKit.intOf]; omega
            | true =>
              have hF : z = false := by
                rw [hz.out]
                refine unb_no hO.ori hO.y0 hO.yx i1 hlt (j := t) ?_
                rw [hu.out, hv.out, ← hl.out]
                exact hc.out
              subst hF
              go_wp2_with fail
              go_ret
              exact ⟨rfl, below_call hWY hY⟩
        · obtain rfl : j = 2 := by omega
          have c0 := hC.out 0 (by omega)
          have c1 := hC.out 1 (by omega)
          rw [show t0 + ((0 : Nat) : Int) = t0 by simp] at c0
          have hN : Hid (∀ j, 1 ≤ j → j < i + 1 → colv m f g a b c d x y l j (j * y / x) = false ∧ colv m f g a b c d x y l j (j * y / x + 1) = false) := hid (fun j h1 h2 => by
            by_cases e : j < i
            · exact hG.out j h1 e
            · obtain rfl : j = i := by omega
              rw [ht0.out]; exact ⟨c0, c1⟩)
          clear c0 c1 hC hG
          go_wp2_with fail
          go_roundw
          case rel => exact ⟨i + 1, by go_num, by omega, by omega, hB, hq, hN⟩
          case measure => simp [RowKit.intOf]; omega
    · have z1 : decide (i < x) = false := decide_eq_false hlt
      have hT : z = true := by
        rw [hz.out]
        refine unb_yes hO.ori hO.y0 hO.yx fun j h1 h2 => ?_
        rw [hu.out, hv.out, ← hl.out]
        exact hG.out j h1 (by omega)
      subst hT
      clear hG
      go_wp2_with fail
      go_ret
      exact ⟨rfl, below_call hL hq⟩

end Go.Proofs.YtlcbkeieejmmbaaDoor
