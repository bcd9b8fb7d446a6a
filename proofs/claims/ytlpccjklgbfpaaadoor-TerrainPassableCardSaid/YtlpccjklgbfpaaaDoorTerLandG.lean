/-
  What the functions of terrain answer, as landed at 6373918: both ways around a corner, costs, steps.
-/
import Derived.Test.YtlpccjklgbfpaaaDoorTerLandF
import Derived.Test.YtlpccjklgbfpaaaDoorTerL4
import Derived.Test.YtlpccjklgbfpaaaDoorTerL4
namespace Go.Proofs.YtlpccjklgbfpaaaDoor
open Go.RowKit Go.Lib

set_option maxHeartbeats 400000 in
theorem ddiag_b (d : Int) (b : Bool) (W : World) (d0 : 0 ≤ d) (e : Hid (b = decide (d % 2 = 1))) :
    Calls Tryd.prog 45 #[.int .i64 d] W fun e w' => e = .returned (.bool b) ∧ W = w' := by
  have e := e.out
  have hmod : d.tmod 2 = d % 2 := Int.tmod_eq_emod_of_nonneg d0
  go_enter Tryd.func45, Tryd.ntmps45
  go_wp2_with fail
  go_ret
  exact ⟨ret_bit (by rw [e]; by_cases h : d % 2 = 1 <;> simp [h]), rfl⟩

/-- The corner of a round, and whether its two steps are possible. -/
def dirv (d : Int) (i : Nat) : Int := if i = 0 then d - 1 else (d + 1) % 8
def wayv (m : M3) (bl : List Bool) (c x y d : Int) (i : Nat) : Bool :=
  nearv m bl c x y (stx x (dirv d i)) (sty y (dirv d i)) && nearv m bl c (stx x (dirv d i)) (sty y (dirv d i)) (stx x d) (sty y d)

theorem dstepq_b (x y d qx qy : Int) (W : World) (hE : EnvT W) (e : Hid (qx = stx x d)) (e' : Hid (qy = sty y d)) : Calls Tryd.prog 43 #[.agg #[.int .i64 x, .int .i64 y], .int .i64 d] W fun e w' => e = .returned (.agg #[.int .i64 qx, .int .i64 qy]) ∧ Below W.heap.size W w' := by
  rw [e.out, e'.out]; exact dstep_any x y d W hE.g

theorem ix_0 (a b : Int) (W : World) : (Instr.index 76 (.agg #[.int .i64 a, .int .i64 b]) (.int .i64 0)).run Tryd.prog W = .ok (.int .i64 a) W := by kernel_rfl
theorem ix_1 (a b : Int) (W : World) : (Instr.index 76 (.agg #[.int .i64 a, .int .i64 b]) (.int .i64 1)).run Tryd.prog W = .ok (.int .i64 b) W := by kernel_rfl

set_option maxRecDepth 100000 in
set_option maxHeartbeats 4000000 in
theorem dboth_b (m : M3) (s : Value) (bl : List Bool) (l : Value) (c x y d : Int) (b : Bool) (W : World) (hE : EnvT W) (hh : HighAt m) (hr : RowAt W s m.cs) (hl : BitsAt W l bl) (d1 : 1 ≤ d) (d7 : d ≤ 7) (e : Hid (b = (wayv m bl c x y d 0 && wayv m bl c x y d 1))) :
    Calls Tryd.prog 46 #[.agg #[.int .i64 m.w, .int .i64 m.h, s], l, .int .i64 c, .agg #[.int .i64 x, .int .i64 y], .int .i64 d] W fun e w' => e = .returned (.bool b) ∧ Below W.heap.size W w' := by
  obtain ⟨qx, hqx⟩ : ∃ q, Hid (q = stx x d) := ⟨_, hid rfl⟩
  obtain ⟨qy, hqy⟩ : ∃ q, Hid (q = sty y d) := ⟨_, hid rfl⟩
  have e1 : IntKind.i64.wrap (d - 1) = d - 1 := IntWalk.i64_in _ (by omega)
  have e2 : IntKind.i64.wrap (d + 1) = d + 1 := IntWalk.i64_in _ (by omega)
  have e3 : (d + 1).tmod 8 = (d + 1) % 8 := Int.tmod_eq_emod_of_nonneg (by omega)
  have e4 : IntKind.i64.wrap ((d + 1) % 8) = (d + 1) % 8 := IntWalk.i64_in _ (by omega)
  obtain ⟨u, hu⟩ : ∃ q, d - 1 = q := ⟨_, rfl⟩
  obtain ⟨v, hv⟩ : ∃ q, (d + 1) % 8 = q := ⟨_, rfl⟩
  rw [hu] at e1
  rw [hv] at e3 e4
  have hK := ((Keep.nil W).alloc [.int .i64 m.w, .int .i64 m.h, s] 24).alloc [.int .i64 x, .int .i64 y] 26
  have hr' := hr.below hK.old
  have hl' := hl.below hK.old
  simp only [World.size_alloc] at hK
  go_enter Tryd.func46, Tryd.ntmps46
  go_wp2_with fail
  ((with_reducible refine (dstepq_b x y d qx qy _ (hE.keep hK.old) hqx hqy).mono ?_); rintro e w1 ⟨rfl, hb1⟩)
  replace hr' := (hr'.below hb1).below ((Below.refl w1.heap.size w1).alloc (Nat.le_refl _) (.cells [Value.int .i64 qx, .int .i64 qy].toArray 26))
  replace hl' := (hl'.below hb1).below ((Below.refl w1.heap.size w1).alloc (Nat.le_refl _) (.cells [Value.int .i64 qx, .int .i64 qy].toArray 26))
  replace hK := (hK.call hb1).alloc [.int .i64 qx, .int .i64 qy] 26
  clear hb1
  go_wp2_with fail
  generalize w1.heap.size = z at *
  generalize w1.alloc (.cells #[Value.int .i64 qx, .int .i64 qy] 26) = W1 at *
  go_loopw [24] (fun vi wr => ∃ i : Nat, vi = .int .i64 i ∧ i ≤ 2 ∧ Keep W wr [(z, [Value.int .i64 qx, .int .i64 qy], 26), (W.heap.size + 1, [Value.int .i64 x, .int .i64 y], 26), (W.heap.size, [Value.int .i64 m.w, .int .i64 m.h, s], 24)] ∧ RowAt wr s m.cs ∧ BitsAt wr l bl ∧ Hid (∀ j, j < i → wayv m bl c x y d j = true)) (fun vi _ => 2 - (RowKit.intOf vi).toNat)
  case atStart => exact ⟨0, rfl, by omega, hK, hr', hl', hid (fun j h => by omega)⟩
  case round =>
    clear hK hr' hl'
    obtain ⟨i, rfl, hi, hK, hr', hl', hG⟩ := hrel
    obtain ⟨hQ, hP, hM⟩ := hK.three
    obtain ⟨_, _, _, _, _, _⟩ := hM.three
    obtain ⟨_, _, _, _⟩ := hP.two
    obtain ⟨_, _, _, _⟩ := hQ.two
    by_cases hlt : i < 2
    · obtain ⟨k, hk, hkk⟩ : ∃ k, k = dirv d i ∧ (i = 0 ∧ k = u ∨ i = 1 ∧ k = v) := by
        rcases (show i = 0 ∨ i = 1 by omega) with rfl | rfl
        · exact ⟨u, hu.symm, .inl ⟨rfl, rfl⟩⟩
        · exact ⟨v, hv.symm, .inr ⟨rfl, rfl⟩⟩
      obtain ⟨ox, hox⟩ : ∃ q, Hid (q = stx x k) := ⟨_, hid rfl⟩
      obtain ⟨oy, hoy⟩ : ∃ q, Hid (q = sty y k) := ⟨_, hid rfl⟩
      obtain ⟨n1, hn1⟩ : ∃ q, Hid (q = nearv m bl c x y ox oy) := ⟨_, hid rfl⟩
      obtain ⟨n2, hn2⟩ : ∃ q, Hid (q = nearv m bl c ox oy qx qy) := ⟨_, hid rfl⟩
      have hw : Hid (wayv m bl c x y d i = (n1 && n2)) := hid (by unfold wayv; rw [← hk, ← hox.out, ← hoy.out, ← hqx.out, ← hqy.out, ← hn1.out, ← hn2.out])
      have hF : Hid (wayv m bl c x y d i = false → b = false) := hid fun h => by
        rw [e.out]
        rcases (show i = 0 ∨ i = 1 by omega) with rfl | rfl
        · rw [h]; rfl
        · rw [h, Bool.and_false]
      have hS := fun W' hE' => dstepq_b x y k ox oy W' hE' hox hoy
      clear hox hoy hk hqx hqy e hu hv e1 e2 e3 e4
      have hi0 := fun a b => ix_0 a b wr
      have hi1 := fun a b => ix_1 a b wr
      rcases hkk with ⟨rfl, rfl⟩ | ⟨rfl, rfl⟩
      all_goals
        go_wp2_with fail
        ((with_reducible refine (hS _ (hE.keep hK.old)).mono ?_); rintro e w2 ⟨rfl, hb2⟩)
        replace hr' := (hr'.below hb2).below ((Below.refl w2.heap.size w2).alloc (Nat.le_refl _) (.cells [Value.int .i64 ox, .int .i64 oy].toArray 26))
        replace hl' := (hl'.below hb2).below ((Below.refl w2.heap.size w2).alloc (Nat.le_refl _) (.cells [Value.int .i64 ox, .int .i64 oy].toArray 26))
        replace hK := (hK.call hb2).alloc [.int .i64 ox, .int .i64 oy] 26
        clear hb2 hS hQ hP hM
        obtain ⟨hO, hQ, hP, hM⟩ := hK.four
        obtain ⟨_, _, _, _, _, _⟩ := hM.three
        obtain ⟨_, _, _, _⟩ := hP.two
        obtain ⟨_, _, _, _⟩ := hQ.two
        obtain ⟨_, _, _, _⟩ := hO.two
        go_wp2_with fail
        generalize w2.heap.size = z2 at *
        clear hi0 hi1
        have hj1 := fun W' hE' hr hl => djoin_b m s bl l c x y ox oy n1 W' hE' hh hr hl hn1
        have hj2 := fun W' hE' hr hl => djoin_b m s bl l c ox oy qx qy n2 W' hE' hh hr hl hn2
        clear hn1 hn2
        ((with_reducible refine (hj1 _ (hE.keep hK.old) hr' hl').mono ?_); rintro e w3 ⟨rfl, hb3⟩)
        replace hr' := hr'.below hb3
        replace hl' := hl'.below hb3
        replace hK := hK.call hb3
        clear hb3 hj1 hO hQ hP hM
        obtain ⟨hO, hQ, hP, hM⟩ := hK.four
        obtain ⟨_, _, _, _, _, _⟩ := hM.three
        obtain ⟨_, _, _, _⟩ := hP.two
        obtain ⟨_, _, _, _⟩ := hQ.two
        obtain ⟨_, _, _, _⟩ := hO.two
        cases n1 with
        | false =>
          obtain rfl := hF.out hw.out
          clear hF hw hG
          go_wp2_with fail
          go_ret
          exact ⟨rfl, hK.old⟩
        | true =>
          go_wp2_with fail
          ((with_reducible refine (hj2 _ (hE.keep hK.old) hr' hl').mono ?_); rintro e w4 ⟨rfl, hb4⟩)
          replace hr' := hr'.below hb4
          replace hl' := hl'.below hb4
          replace hK := hK.call hb4
          clear hb4 hj2 hO hQ hP hM
          cases n2 with
          | false =>
            obtain rfl := hF.out hw.out
            clear hF hw hG
            go_wp2_with fail
            go_ret
            exact ⟨rfl, hK.old⟩
          | true =>
            have hN := hid (show ∀ j, j < _ + 1 → wayv m bl c x y d j = true from fun j hj => (Nat.lt_succ_iff_lt_or_eq.1 hj).elim (hG.out j) fun h => by rw [h]; exact hw.out)
            clear hF hw hG
            go_wp2_with fail
            go_roundw
            case rel => exact ⟨_, by go_num, by omega, hK.tail, hr', hl', hN⟩
            case measure => simp [RowKit.intOf]
    · obtain rfl : i = 2 := by omega
      have hbt : b = true := by rw [e.out, hG.out 0 (by omega), hG.out 1 (by omega)]; rfl
      subst hbt
      clear hG e
      go_wp2_with fail
      go_ret
      exact ⟨rfl, hK.old⟩

end Go.Proofs.YtlpccjklgbfpaaaDoor
