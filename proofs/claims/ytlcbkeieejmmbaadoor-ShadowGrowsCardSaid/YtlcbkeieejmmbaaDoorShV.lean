/-
  The laws of shadow: a greater radius and a high position show at least as many cells.
-/
import Derived.Test.YtlcbkeieejmmbaaDoorShS
import Derived.Test.YtlcbkeieejmmbaaDoorTerRefH
namespace Go.Proofs.YtlcbkeieejmmbaaDoor
open Go.RowKit Go.Lib

/-- What the three lists hold at an index. -/
theorem grow_at {m : M3} {x y R S : Int} (hv : validm m = true) (ha : inv m.w m.h x y = true) (hR : 0 ≤ R) (hRS : R ≤ S) {i : Nat} (hi : i < m.cs.length) :
    ∃ (u v : Int) (d d2 z : Bool) (hA : i < (visv m x y R false).length) (hB : i < (visv m x y S false).length) (hC : i < (visv m x y R true).length),
      Hid (u = atx m.w i ∧ v = aty m.w i) ∧ (0 ≤ u ∧ u ≤ 31 ∧ 0 ≤ v ∧ v ≤ 31) ∧ Hid (decide ((u - x) * (u - x) + (v - y) * (v - y) ≤ min R 32 * min R 32) = d) ∧ (d = true → d2 = true) ∧
      (visv m x y R false)[i]'hA = (d && z) ∧ (visv m x y S false)[i]'hB = (d2 && z) ∧ (visv m x y R true)[i]'hC = d := by
  have hf := formed_of hv
  obtain ⟨X, Y, hX, hY, x1, x2, y1, y2, hlen, _⟩ := formed_num hf
  obtain ⟨a, b, hab, hin, -, ha1, hb1, -⟩ := cell_pick X Y i x1 x2 y2 (by omega)
  have hA : i < (visv m x y R false).length := by rw [vis_len hv ha hR]; exact hi
  have hB : i < (visv m x y S false).length := by rw [vis_len hv ha (by omega)]; exact hi
  have hC : i < (visv m x y R true).length := by rw [vis_len hv ha hR]; exact hi
  refine ⟨a, b, _, decide (((a : Int) - x) * (a - x) + (b - y) * (b - y) ≤ min S 32 * min S 32), seesv m x y a b, hA, hB, hC, hid ⟨by rw [hX]; exact hab.out.1, by rw [hX]; exact hab.out.2⟩, by omega, hid rfl, ?_, ?_, ?_, ?_⟩
  · intro h
    have h1 := of_decide_eq_true h
    exact decide_eq_true (Int.le_trans h1 (sq_mono (by omega) (by omega)))
  · rw [vis_get hA]; unfold visat; rw [hX, ← hab.out.1, ← hab.out.2, Bool.false_or]
  · rw [vis_get hB]; unfold visat; rw [hX, ← hab.out.1, ← hab.out.2, Bool.false_or]
  · rw [vis_get hC]; unfold visat; rw [hX, ← hab.out.1, ← hab.out.2, Bool.true_or, Bool.and_true]
theorem grow_self {m : M3} {x y R : Int} (hv : validm m = true) (ha : inv m.w m.h x y = true) (hR : 0 ≤ R) :
    ∃ n : Nat, ∃ hn : n < (visv m x y R false).length, Hid ((n : Int) = indexv m.w x y) ∧ (visv m x y R false)[n]'hn = true := by
  obtain ⟨n, hn, hx, e⟩ := vis_cell (high := false) hv ha hR ha
  refine ⟨n, hn, hx, ?_⟩
  have h0 : (x - x) * (x - x) + (y - y) * (y - y) ≤ min R 32 * min R 32 := by
    rw [Int.sub_self, Int.sub_self]
    exact Int.mul_nonneg (by omega) (by omega)
  rw [e, sees_self, decide_eq_true h0]
  rfl
set_option maxRecDepth 100000 in
set_option maxHeartbeats 16000000 in
theorem law12_grows (m : M3) (s : Value) (x y r t : Int) (W : World) (hE : EnvT W) (hr : RowAt W s m.cs) (r0 : 0 ≤ r) (r1 : r < 256) (t0 : 0 ≤ t) (t1 : t < 256) :
    Calls Tryd.prog 8 #[.agg #[.int .i64 m.w, .int .i64 m.h, s], .agg #[.int .i64 x, .int .i64 y], .int .u8 r, .int .u8 t] W fun e w' => e = .returned (.bool true) ∧ Below W.heap.size W w' := by
  obtain ⟨k0, h0⟩ : ∃ k, Hid (k = validm m) := ⟨_, hid rfl⟩
  obtain ⟨k1, h1⟩ : ∃ k, Hid (k = inv m.w m.h x y) := ⟨_, hid rfl⟩
  have cv := fun (w : World) (hb : Below W.heap.size W w) => rvalidm_c m s k0 w (hr.below hb) h0
  have ci := fun (w : World) => rin_b m.w m.h x y k1 w h1
  have ca := fun (w : World) (hb : Below W.heap.size W w) => awake12_b w (hE.keep hb)
  obtain ⟨R, hR⟩ : ∃ R, min r t = R := ⟨_, rfl⟩
  obtain ⟨S, hS⟩ : ∃ S, max r t = S := ⟨_, rfl⟩
  have cA := fun (w : World) (hb : Below W.heap.size W w) => shvisible_b m s x y R false w (hE.keep hb) (hr.below hb)
  have cB := fun (w : World) (hb : Below W.heap.size W w) => shvisible_b m s x y S false w (hE.keep hb) (hr.below hb)
  have cC := fun (w : World) (hb : Below W.heap.size W w) => shvisible_b m s x y R true w (hE.keep hb) (hr.below hb)
  have wR : IntKind.i64.wrap R = R := IntWalk.i64_in _ (by omega)
  have wS : IntKind.i64.wrap S = S := IntWalk.i64_in _ (by omega)
  obtain ⟨p0, c0, rfl⟩ := hr.slice
  have hT := Held2.start W [.int .i64 m.w, .int .i64 m.h, .slice p0 m.cs.length c0] [.int .i64 x, .int .i64 y] 24 26
  clear hr hE
  obtain ⟨_, _, _, _, _, _⟩ := hT.l.three
  obtain ⟨_, _, _, _⟩ := hT.r.two
  obtain ⟨L, hLn⟩ : ∃ b, decide ((1024 : Int) < (m.cs.length : Int)) = b := ⟨_, rfl⟩
  go_enter Tryd.func8, Tryd.ntmps8
  go_upto_region 1 with fail
  generalize (W.alloc (.cells [Value.int .i64 m.w, .int .i64 m.h, .slice p0 m.cs.length c0].toArray 24)).alloc (.cells [Value.int .i64 x, .int .i64 y].toArray 26) = X at *
  cases L with
  | true =>
    go_wp2_with (first | (go_at_call 10; with_reducible refine (ca _ hT.old).mono ?_; rintro e w9 ⟨rfl, hb⟩))
    go_ret
    exact ⟨rfl, below_call hT.old hb⟩
  | false =>
    cases k0 with
    | false =>
      go_wp2_with (first | (go_at_call 21; with_reducible refine (cv _ hT.old).mono ?_; rintro e w1 ⟨rfl, hb⟩; replace hT := hT.call hb; clear hb; obtain ⟨_, _, _, _, _, _⟩ := hT.l.three; obtain ⟨_, _, _, _⟩ := hT.r.two) | (go_at_call 10; with_reducible refine (ca _ hT.old).mono ?_; rintro e w9 ⟨rfl, hb⟩))
      go_ret
      exact ⟨rfl, below_call hT.old hb⟩
    | true =>
      cases k1 with
      | false =>
        go_wp2_with (first | (go_at_call 21; with_reducible refine (cv _ hT.old).mono ?_; rintro e w1 ⟨rfl, hb⟩; replace hT := hT.call hb; clear hb; obtain ⟨_, _, _, _, _, _⟩ := hT.l.three; obtain ⟨_, _, _, _⟩ := hT.r.two) | (go_at_call 22; with_reducible refine (ci _).mono ?_; rintro e w2 ⟨rfl, hb⟩; replace hT := hT.call hb; clear hb; obtain ⟨_, _, _, _, _, _⟩ := hT.l.three; obtain ⟨_, _, _, _⟩ := hT.r.two) | (go_at_call 10; with_reducible refine (ca _ hT.old).mono ?_; rintro e w9 ⟨rfl, hb⟩))
        go_ret
        exact ⟨rfl, below_call hT.old hb⟩
      | true =>
        have hv := h0.out.symm
        have hi := h1.out.symm
        have hR0 : 0 ≤ R := by omega
        have hRS : R ≤ S := by omega
        have bxy := (inv_sm (formed_of hv) hi).1
        have hat := hid (fun i hlt => grow_at (R := R) (S := S) (i := i) hv hi hR0 hRS hlt)
        have hself := hid (grow_self (R := R) hv hi hR0)
        have hlA := vis_len (high := false) hv hi hR0
        have hlB := vis_len (high := false) hv hi (show 0 ≤ S by omega)
        have hlC := vis_len (high := true) hv hi hR0
        have h1024 := vis_small m x y R false
        rw [hlA] at h1024
        have hN1 : 1 ≤ m.cs.length := by
          obtain ⟨n, hn, -⟩ := hself.out
          omega
        clear h0 h1 hv hi
        generalize visv m x y R false = A at *
        generalize visv m x y S false = B at *
        generalize visv m x y R true = C at *
        go_upto_region 3 with (first | (go_at_call 21; with_reducible refine (cv _ hT.old).mono ?_; rintro e w1 ⟨rfl, hb⟩; replace hT := hT.call hb; clear hb; obtain ⟨_, _, _, _, _, _⟩ := hT.l.three; obtain ⟨_, _, _, _⟩ := hT.r.two) | (go_at_call 22; with_reducible refine (ci _).mono ?_; rintro e w2 ⟨rfl, hb⟩; replace hT := hT.call hb; clear hb; obtain ⟨_, _, _, _, _, _⟩ := hT.l.three; obtain ⟨_, _, _, _⟩ := hT.r.two))
        have hmx : Tryd.prog.follows .mixedOrders = true := by kernel_rfl
        refine wp_region_held (S := fun w' => Below w2.heap.size w2 w') hmx ?_
        show wpAnyH _ _ _ _ _ _ _ _ w2.drew
        have hS0 := (Below.refl w2.heap.size w2).drew
        refine reg_tk (i := 0) (v := .agg #[.int .i64 m.w, .int .i64 m.h, .slice p0 m.cs.length c0]) (some 36) rfl (fun w' hS => by (have f0 := (hT.l.below hS).cell 0; have f1 := (hT.l.below hS).cell 1; have f2 := (hT.l.below hS).cell 2; go_simp)) hS0 ?_
        try simp only [Act.put, List.setIfInBounds_toArray, List.set_cons_zero, List.set_cons_succ]
        refine reg_tk (i := 1) (v := .agg #[.int .i64 x, .int .i64 y]) (some 37) rfl (fun w' hS => by (have f0 := (hT.r.below hS).cell 0; have f1 := (hT.r.below hS).cell 1; go_simp)) hS0 ?_
        try simp only [Act.put, List.setIfInBounds_toArray, List.set_cons_zero, List.set_cons_succ]
        refine reg_tk (i := 2) (v := .int .u8 r) (some 38) rfl (fun w' hS => by skip; go_simp) hS0 ?_
        try simp only [Act.put, List.setIfInBounds_toArray, List.set_cons_zero, List.set_cons_succ]
        refine reg_tk (i := 3) (v := .int .u8 t) (some 39) rfl (fun w' hS => by skip; go_simp) hS0 ?_
        try simp only [Act.put, List.setIfInBounds_toArray, List.set_cons_zero, List.set_cons_succ]
        refine reg_tk (i := 4) (v := .int .u8 R) (some 40) rfl (fun w' hS => by skip; go_simp) hS0 ?_
        try simp only [Act.put, List.setIfInBounds_toArray, List.set_cons_zero, List.set_cons_succ]
        refine reg_tk (i := 5) (v := .int .i64 R) (some 41) rfl (fun w' hS => by skip; go_simp) hS0 ?_
        try simp only [Act.put, List.setIfInBounds_toArray, List.set_cons_zero, List.set_cons_succ]
        refine reg_tk (i := 7) (v := .agg #[.int .i64 m.w, .int .i64 m.h, .slice p0 m.cs.length c0]) (some 43) rfl (fun w' hS => by (have f0 := (hT.l.below hS).cell 0; have f1 := (hT.l.below hS).cell 1; have f2 := (hT.l.below hS).cell 2; go_simp)) hS0 ?_
        try simp only [Act.put, List.setIfInBounds_toArray, List.set_cons_zero, List.set_cons_succ]
        refine reg_tk (i := 8) (v := .agg #[.int .i64 x, .int .i64 y]) (some 44) rfl (fun w' hS => by (have f0 := (hT.r.below hS).cell 0; have f1 := (hT.r.below hS).cell 1; go_simp)) hS0 ?_
        try simp only [Act.put, List.setIfInBounds_toArray, List.set_cons_zero, List.set_cons_succ]
        refine reg_tk (i := 9) (v := .int .u8 r) (some 45) rfl (fun w' hS => by skip; go_simp) hS0 ?_
        try simp only [Act.put, List.setIfInBounds_toArray, List.set_cons_zero, List.set_cons_succ]
        refine reg_tk (i := 10) (v := .int .u8 t) (some 46) rfl (fun w' hS => by skip; go_simp) hS0 ?_
        try simp only [Act.put, List.setIfInBounds_toArray, List.set_cons_zero, List.set_cons_succ]
        refine reg_tk (i := 11) (v := .int .u8 S) (some 47) rfl (fun w' hS => by skip; go_simp) hS0 ?_
        try simp only [Act.put, List.setIfInBounds_toArray, List.set_cons_zero, List.set_cons_succ]
        refine reg_tk (i := 12) (v := .int .i64 S) (some 48) rfl (fun w' hS => by skip; go_simp) hS0 ?_
        try simp only [Act.put, List.setIfInBounds_toArray, List.set_cons_zero, List.set_cons_succ]
        refine reg_tk (i := 14) (v := .agg #[.int .i64 m.w, .int .i64 m.h, .slice p0 m.cs.length c0]) (some 50) rfl (fun w' hS => by (have f0 := (hT.l.below hS).cell 0; have f1 := (hT.l.below hS).cell 1; have f2 := (hT.l.below hS).cell 2; go_simp)) hS0 ?_
        try simp only [Act.put, List.setIfInBounds_toArray, List.set_cons_zero, List.set_cons_succ]
        refine reg_tk (i := 15) (v := .agg #[.int .i64 x, .int .i64 y]) (some 51) rfl (fun w' hS => by (have f0 := (hT.r.below hS).cell 0; have f1 := (hT.r.below hS).cell 1; go_simp)) hS0 ?_
        try simp only [Act.put, List.setIfInBounds_toArray, List.set_cons_zero, List.set_cons_succ]
        refine reg_tk (i := 16) (v := .int .u8 r) (some 52) rfl (fun w' hS => by skip; go_simp) hS0 ?_
        try simp only [Act.put, List.setIfInBounds_toArray, List.set_cons_zero, List.set_cons_succ]
        refine reg_tk (i := 17) (v := .int .u8 t) (some 53) rfl (fun w' hS => by skip; go_simp) hS0 ?_
        try simp only [Act.put, List.setIfInBounds_toArray, List.set_cons_zero, List.set_cons_succ]
        refine reg_tk (i := 18) (v := .int .u8 R) (some 54) rfl (fun w' hS => by skip; go_simp) hS0 ?_
        try simp only [Act.put, List.setIfInBounds_toArray, List.set_cons_zero, List.set_cons_succ]
        refine reg_tk (i := 19) (v := .int .i64 R) (some 55) rfl (fun w' hS => by skip; go_simp) hS0 ?_
        try simp only [Act.put, List.setIfInBounds_toArray, List.set_cons_zero, List.set_cons_succ]
        refine held_one (i := 6) (by kernel_rfl) rfl (fun K hQ => ?_)
        go_simp
        ((with_reducible refine (cA _ (below_call hT.old hS0)).mono ?_); rintro e whS1 ⟨vA, rfl, gA, hbhS1⟩)
        have hS1 := below_call hS0 hbhS1
        refine hQ.out _ _ hS1 ?_
        clear hQ
        try simp only [Act.put, List.setIfInBounds_toArray, List.set_cons_zero, List.set_cons_succ]
        refine held_one (i := 13) (by kernel_rfl) rfl (fun K hQ => ?_)
        go_simp
        ((with_reducible refine (cB _ (below_call hT.old hS1)).mono ?_); rintro e whS2 ⟨vB, rfl, gB, hbhS2⟩)
        have hS2 := below_call hS1 hbhS2
        replace gA := gA.below hbhS2
        refine hQ.out _ _ hS2 ?_
        clear hQ
        try simp only [Act.put, List.setIfInBounds_toArray, List.set_cons_zero, List.set_cons_succ]
        refine held_one (i := 20) (by kernel_rfl) rfl (fun K hQ => ?_)
        go_simp
        ((with_reducible refine (cC _ (below_call hT.old hS2)).mono ?_); rintro e whS3 ⟨vC, rfl, gC, hbhS3⟩)
        have hS3 := below_call hS2 hbhS3
        replace gA := gA.below hbhS3
        replace gB := gB.below hbhS3
        refine hQ.out _ _ hS3 ?_
        clear hQ
        try simp only [Act.put, List.setIfInBounds_toArray, List.set_cons_zero, List.set_cons_succ]
        refine reg_tk (i := 21) (v := vA) (some 9) rfl (fun w' hS => by skip; go_simp) hS3 ?_
        try simp only [Act.put, List.setIfInBounds_toArray, List.set_cons_zero, List.set_cons_succ]
        refine reg_tk (i := 22) (v := vB) (some 10) rfl (fun w' hS => by skip; go_simp) hS3 ?_
        try simp only [Act.put, List.setIfInBounds_toArray, List.set_cons_zero, List.set_cons_succ]
        refine reg_tk (i := 23) (v := vC) (some 11) rfl (fun w' hS => by skip; go_simp) hS3 ?_
        try simp only [Act.put, List.setIfInBounds_toArray, List.set_cons_zero, List.set_cons_succ]
        refine wpAnyH_done (by kernel_rfl) ?_ _
        show Exit.then _ _ Exit.normal _ _
        replace hT := hT.call hS3
        clear hS0 hS1 hS2 hS3 hbhS1 hbhS2 hbhS3 cv ci cA cB cC
        obtain ⟨n, hn, hnx, hnv⟩ := hself.out
        clear hself
        obtain ⟨GA, oA, jA, rfl, onA⟩ := gA.on (by omega)
        obtain ⟨GB, oB, jB, rfl, onB⟩ := gB.on (by omega)
        obtain ⟨GC, oC, jC, rfl, onC⟩ := gC.on (by omega)
        clear gA gB gC
        have cix := fun (w : World) => rindex_b m.w x y n w hnx
        have n0 : (0 : Int) ≤ n := by omega
        have n1 : (n : Int) < m.cs.length := by omega
        have hnA := (onA n hn).trans (by rw [hnv])
        have hlA' := hid hlA
        have hlB' := hid hlB
        have hlC' := hid hlC
        obtain ⟨_, _, _, _, _, _⟩ := hT.l.three
        obtain ⟨_, _, _, _⟩ := hT.r.two
        rw [hlA, hlB, hlC]
        clear hlA hlB hlC hnx hnv
        obtain ⟨Q, hQ⟩ : ∃ Q, min R 32 = Q := ⟨_, rfl⟩
        have bQ : 0 ≤ Q ∧ Q ≤ 32 := by omega
        have bQQ : 0 ≤ Q * Q ∧ Q * Q ≤ 1024 := ⟨Int.mul_nonneg bQ.1 bQ.1, Int.mul_le_mul bQ.2 bQ.2 bQ.1 (by omega)⟩
        have wQQ : IntKind.i64.wrap (Q * Q) = Q * Q := IntWalk.i64_in _ (by omega)
        rw [hQ] at hat
        go_wp2_with (go_at_call 20; with_reducible refine (cix _).mono ?_; rintro e w4 ⟨rfl, hb⟩; replace hT := hT.call hb; replace onA := onA.below hb; replace onB := onB.below hb; replace onC := onC.below hb; replace hnA := (hb.cell (World.block_lt_of_cell? _ _ hnA)).trans hnA; clear hb)
        clear cix hnA n0 n1 hQ hS hR
        go_loopw [13] (fun vi wr => ∃ i : Nat, vi = .int .i64 i ∧ i ≤ m.cs.length ∧ Held2 W wr W.heap.size (W.heap.size + 1) [.int .i64 m.w, .int .i64 m.h, .slice p0 m.cs.length c0] [.int .i64 x, .int .i64 y] 24 26 ∧ BitsOn wr GA oA A ∧ BitsOn wr GB oB B ∧ BitsOn wr GC oC C) (fun vi _ => m.cs.length - (RowKit.intOf vi).toNat)
        case atStart => exact ⟨0, rfl, by omega, hT, onA, onB, onC⟩
        case round =>
          clear hT onA onB onC
          obtain ⟨i, rfl, hi, hT, onA, onB, onC⟩ := hrel
          obtain ⟨_, _, _, _, _, _⟩ := hT.l.three
          obtain ⟨_, _, _, _⟩ := hT.r.two
          by_cases hlt : i < m.cs.length
          · have z1 : decide ((i : Int) < (m.cs.length : Int)) = true := decide_eq_true (by omega)
            have wi : IntKind.i64.wrap ((i : Int) + 1) = (i : Int) + 1 := IntWalk.i64_in _ (by omega)
            have k0 : (0 : Int) ≤ i := by omega
            have k1 : (i : Int) < m.cs.length := by omega
            obtain ⟨u, v, d, d2, z, hA, hB, hC, huv, buv, hd, hdd, e1, e2, e3⟩ := hat.out i hlt
            have cat := fun w => sat_n m.w i u v w ⟨by omega, by omega⟩ huv
            obtain ⟨p, hp⟩ : ∃ p, p = u - x := ⟨_, rfl⟩
            obtain ⟨q, hq⟩ : ∃ q, q = v - y := ⟨_, rfl⟩
            have f1 : IntKind.i64.wrap (u - x) = p := by rw [hp]; exact IntWalk.i64_in _ (by omega)
            have f2 : IntKind.i64.wrap (v - y) = q := by rw [hq]; exact IntWalk.i64_in _ (by omega)
            have b1 := Sm.mul (a := p) (b := p) (by unfold Sm; omega) (by unfold Sm; omega)
            have b2 := Sm.mul (a := q) (b := q) (by unfold Sm; omega) (by unfold Sm; omega)
            have f3 : IntKind.i64.wrap (p * p) = p * p := IntWalk.i64_in _ (by omega)
            have f4 : IntKind.i64.wrap (q * q) = q * q := IntWalk.i64_in _ (by omega)
            have f5 : IntKind.i64.wrap (p * p + q * q) = p * p + q * q := IntWalk.i64_in _ (by omega)
            have d9 := hd.out
            rw [← hp, ← hq] at d9
            clear hp hq b1 b2 buv huv hd
            go_upto_region 11 with (go_at_call 23; with_reducible refine (cat _).mono ?_; rintro e w5 ⟨rfl, hb⟩)
            have ha := (Below.refl w5.heap.size w5).alloc (Nat.le_refl _) (.cells [Value.int .i64 u, .int .i64 v].toArray 26)
            have hP := Blk.new w5 [.int .i64 u, .int .i64 v] 26
            replace hT := (hT.call hb).call ha
            replace onA := (onA.below hb).below ha
            replace onB := (onB.below hb).below ha
            replace onC := (onC.below hb).below ha
            clear hb ha cat
            generalize w5.alloc (.cells [Value.int .i64 u, .int .i64 v].toArray 26) = Y at *
            generalize w5.heap.size = g9 at *
            obtain ⟨_, _, _, _⟩ := hP.two
            obtain ⟨_, _, _, _, _, _⟩ := hT.l.three
            obtain ⟨_, _, _, _⟩ := hT.r.two
            have c1 := (onA i hA).trans (by rw [e1])
            have c2 := (onB i hB).trans (by rw [e2])
            have c3 := (onC i hC).trans (by rw [e3])
            clear hP
            go_quiet (fail)
            go_upto_region 12 with fail
            have hT9 := fun k => Held2.mk (hT.l.drewN k) (hT.r.drewN k) (below_many hT.old k)
            have oA9 := fun k => BitsOn.below onA (below_many (Below.refl Y.heap.size Y) k)
            have oB9 := fun k => BitsOn.below onB (below_many (Below.refl Y.heap.size Y) k)
            have oC9 := fun k => BitsOn.below onC (below_many (Below.refl Y.heap.size Y) k)
            clear e1 e2 e3 hA hB hC hat onA onB onC hT
            cases d with
            | false =>
              cases d2 with
              | false =>
                go_quiet (fail)
                go_wp2_with fail
                go_roundw
                case rel => exact ⟨i + 1, by go_num, by omega, hT9 _, oA9 _, oB9 _, oC9 _⟩
                case measure => simp [RowKit.intOf]; omega
              | true =>
                cases z with
                | false =>
                  go_quiet (fail)
                  go_wp2_with fail
                  go_roundw
                  case rel => exact ⟨i + 1, by go_num, by omega, hT9 _, oA9 _, oB9 _, oC9 _⟩
                  case measure => simp [RowKit.intOf]; omega
                | true =>
                  go_quiet (fail)
                  go_wp2_with fail
                  go_roundw
                  case rel => exact ⟨i + 1, by go_num, by omega, hT9 _, oA9 _, oB9 _, oC9 _⟩
                  case measure => simp [RowKit.intOf]; omega
            | true =>
              obtain rfl := hdd rfl
              cases z with
              | false =>
                go_quiet (fail)
                go_wp2_with fail
                go_roundw
                case rel => exact ⟨i + 1, by go_num, by omega, hT9 _, oA9 _, oB9 _, oC9 _⟩
                case measure => simp [RowKit.intOf]; omega
              | true =>
                go_quiet (fail)
                go_wp2_with fail
                go_roundw
                case rel => exact ⟨i + 1, by go_num, by omega, hT9 _, oA9 _, oB9 _, oC9 _⟩
                case measure => simp [RowKit.intOf]; omega
          · have z1 : decide ((i : Int) < (m.cs.length : Int)) = false := decide_eq_false (by omega)
            clear hat
            go_wp2_with (go_at_call 10; with_reducible refine (ca _ hT.old).mono ?_; rintro e w9 ⟨rfl, hb⟩)
            go_ret
            exact ⟨rfl, below_call hT.old hb⟩

end Go.Proofs.YtlcbkeieejmmbaaDoor
