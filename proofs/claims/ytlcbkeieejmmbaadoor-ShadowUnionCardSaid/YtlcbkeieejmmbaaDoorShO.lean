/-
  What the reference of shadow answers: Visible, Union, Same.
-/
import Derived.Test.YtlcbkeieejmmbaaDoorShN
import Derived.Test.YtlcbkeieejmmbaaDoorGridRef
namespace Go.Proofs.YtlcbkeieejmmbaaDoor
open Go.RowKit Go.Lib

theorem range_snoc {f : Nat → Bool} (n : Nat) : (List.range (n + 1)).map f = (List.range n).map f ++ [f n] := by rw [List.range_succ, List.map_append]; rfl
/-- The cells of the first i answers. -/
def vbits (m : M3) (x y R : Int) (high : Bool) (i : Nat) : List Value := ((List.range i).map (visat m x y R high)).map .bool
theorem vbits_next {m : M3} {x y R : Int} {high b : Bool} {i : Nat} (h : visat m x y R high i = b) : vbits m x y R high i ++ [.bool b] = vbits m x y R high (i + 1) := by unfold vbits; rw [range_snoc, List.map_append, h]; rfl
theorem BitsAt.any {w : World} {B n : Nat} {v : Value} {l : List Bool} (h : w.ownsRow B 4 1 v n (l.map .bool)) (hn : l.length = n) (hm : n ≤ maxLen) : BitsAt w v l := by
  subst hn
  rcases h.2 with ⟨rfl, h0⟩ | ⟨g, cap, cur, rfl, _⟩
  · have : l = [] := List.eq_nil_of_length_eq_zero h0
    subst this
    exact BitsAt.nil9 w
  · exact BitsAt.own h hm
set_option maxRecDepth 100000 in
set_option maxHeartbeats 8000000 in
theorem rvisible_b (m : M3) (s : Value) (x y r : Int) (high : Bool) (W : World) (hr : RowAt W s m.cs) (_hw : I64 r) :
    Calls Tryd.prog 17 #[.agg #[.int .i64 m.w, .int .i64 m.h, s], .agg #[.int .i64 x, .int .i64 y], .int .i64 r, .bool high] W fun e w' => ∃ v, e = .returned v ∧ BitsAt w' v (visv m x y r high) ∧ Below W.heap.size W w' := by
  obtain ⟨k0, h0⟩ : ∃ k, Hid (k = validm m) := ⟨_, hid rfl⟩
  obtain ⟨k1, h1⟩ : ∃ k, Hid (k = inv m.w m.h x y) := ⟨_, hid rfl⟩
  obtain ⟨k2, h2⟩ : ∃ k, Hid (decide (r < 0) = k) := ⟨_, hid rfl⟩
  have no : (k0 && k1 && !k2) = false → ∀ (w' : World), BitsAt w' (.slice none 0 0) (visv m x y r high) := fun h w' => by
    have e : visv m x y r high = [] := by
      unfold visv
      rw [if_neg]
      rintro ⟨e1, e2, e3⟩
      rw [h0.out, h1.out, e1, e2, ← h2.out, decide_eq_false (by omega)] at h
      cases h
    rw [e]
    exact BitsAt.nil9 w'
  have no := hid no
  have cv := fun (w : World) (hb : Below W.heap.size W w) => rvalidm_c m s k0 w (hr.below hb) h0
  have c1 := fun (w : World) => rinsd_b m.w m.h x y s k1 w h1
  have d2 := h2.out
  have hF := Held2.start W [.int .i64 m.w, .int .i64 m.h, s] [.int .i64 x, .int .i64 y] 24 26
  obtain ⟨_, _, _, _, _, _⟩ := hF.l.three
  obtain ⟨_, _, _, _⟩ := hF.r.two
  go_enter Tryd.func17, Tryd.ntmps17
  go_upto_region 1 with fail
  generalize (W.alloc (.cells [Value.int .i64 m.w, .int .i64 m.h, s].toArray 24)).alloc (.cells [Value.int .i64 x, .int .i64 y].toArray 26) = X at *
  cases k0 with
  | false =>
    go_wp2_with (first | (go_at_call 21; with_reducible refine (cv _ hF.old).mono ?_; rintro e w1 ⟨rfl, hb⟩; replace hF := hF.call hb; clear hb; obtain ⟨_, _, _, _, _, _⟩ := hF.l.three; obtain ⟨_, _, _, _⟩ := hF.r.two))
    go_ret
    exact ⟨_, rfl, no.out rfl _, hF.old⟩
  | true =>
    cases k1 with
    | false =>
      go_wp2_with (first | (go_at_call 21; with_reducible refine (cv _ hF.old).mono ?_; rintro e w1 ⟨rfl, hb⟩; replace hF := hF.call hb; clear hb; obtain ⟨_, _, _, _, _, _⟩ := hF.l.three; obtain ⟨_, _, _, _⟩ := hF.r.two) | (go_at_call 31; with_reducible refine (c1 _).mono ?_; rintro e w2 ⟨rfl, hb⟩; replace hF := hF.call hb; clear hb; obtain ⟨_, _, _, _, _, _⟩ := hF.l.three; obtain ⟨_, _, _, _⟩ := hF.r.two))
      go_ret
      exact ⟨_, rfl, no.out rfl _, hF.old⟩
    | true =>
      cases k2 with
      | true =>
        go_wp2_with (first | (go_at_call 21; with_reducible refine (cv _ hF.old).mono ?_; rintro e w1 ⟨rfl, hb⟩; replace hF := hF.call hb; clear hb; obtain ⟨_, _, _, _, _, _⟩ := hF.l.three; obtain ⟨_, _, _, _⟩ := hF.r.two) | (go_at_call 31; with_reducible refine (c1 _).mono ?_; rintro e w2 ⟨rfl, hb⟩; replace hF := hF.call hb; clear hb; obtain ⟨_, _, _, _, _, _⟩ := hF.l.three; obtain ⟨_, _, _, _⟩ := hF.r.two))
        go_ret
        exact ⟨_, rfl, no.out rfl _, hF.old⟩
      | false =>
        have hr0 : 0 ≤ r := by have := of_decide_eq_false h2.out; omega
        have hv := h0.out.symm
        have hi := h1.out.symm
        have hfm := formed_of hv
        obtain ⟨A, B, hA, hB, x1, x2, y1, y2, hlen, hmul⟩ := formed_num hfm
        have hAB : A * B ≤ 1024 := Nat.mul_le_mul x2 y2
        have hwr : IntKind.i64.wrap (m.w * m.h) = ((A * B : Nat) : Int) := by
          rw [hA, hB, ← Int.natCast_mul]
          exact IntWalk.i64_in _ (by omega)
        obtain ⟨N, hN⟩ : ∃ N, Hid (A * B = N) := ⟨_, hid rfl⟩
        rw [hN.out] at hwr hAB
        obtain ⟨R, hR⟩ : ∃ R, min r 32 = R := ⟨_, rfl⟩
        have hR0 : 0 ≤ R := by omega
        have hR1 : R ≤ 32 := by omega
        have bR : 0 ≤ R * R ∧ R * R ≤ 1024 := ⟨Int.mul_nonneg hR0 hR0, Int.mul_le_mul hR1 hR1 hR0 (by omega)⟩
        have wRR : IntKind.i64.wrap (R * R) = R * R := IntWalk.i64_in _ (by omega)
        have hvis : Hid (visv m x y r high = (List.range N).map (visat m x y R high)) := hid (by unfold visv; rw [if_pos ⟨hv, hi, hr0⟩, hmul, hR, hN.out])
        have bxy := (inv_sm hfm hi).1
        have hcell : Hid (∀ i : Nat, i < N → ∃ u v : Int, Hid (u = atx m.w i ∧ v = aty m.w i) ∧ inv m.w m.h u v = true) := hid (fun i h => by
          rw [← hN.out] at h
          obtain ⟨a, b, hab, hin, -⟩ := cell_pick A B i x1 x2 y2 h
          refine ⟨a, b, hid ⟨by rw [hA]; exact hab.out.1, by rw [hA]; exact hab.out.2⟩, by rw [hA, hB]; exact hin.out.symm⟩)
        have cs := fun (u v : Int) (z : Bool) (w : World) (hb : Below W.heap.size W w) (hi2 : inv m.w m.h u v = true) (hz : Hid (z = seesv m x y u v)) => rsees_b m s x y u v z w (hr.below hb) hfm hi hi2 hz
        have hbd := fun (u v : Int) (h : inv m.w m.h u v = true) => (inv_sm hfm h).1
        obtain ⟨i0, hi0, hz0, hz1, hz2⟩ := info_cut infoBoo
        clear hv hi hr0 no h0 h1 h2 hlen hmul hA hB hN x1 x2 y1 y2 hfm hR0 hR1
        go_wp2_with (first | (go_at_call 21; with_reducible refine (cv _ hF.old).mono ?_; rintro e w1 ⟨rfl, hb⟩; replace hF := hF.call hb; clear hb; obtain ⟨_, _, _, _, _, _⟩ := hF.l.three; obtain ⟨_, _, _, _⟩ := hF.r.two) | (go_at_call 31; with_reducible refine (c1 _).mono ?_; rintro e w2 ⟨rfl, hb⟩; replace hF := hF.call hb; clear hb; obtain ⟨_, _, _, _, _, _⟩ := hF.l.three; obtain ⟨_, _, _, _⟩ := hF.r.two))
        clear hR d2 cv c1
        go_loopw [10, 11] (fun vo vi wr => ∃ i : Nat, vi = .int .i64 i ∧ i ≤ N ∧ wr.ownsRow W.heap.size 4 1 vo i (vbits m x y R high i) ∧ Held2 W wr W.heap.size (W.heap.size + 1) [.int .i64 m.w, .int .i64 m.h, s] [.int .i64 x, .int .i64 y] 24 26) (fun _ vi _ => N - (RowKit.intOf vi).toNat)
        case atStart => exact ⟨0, rfl, by omega, World.ownsRow_nil _ _ _ _, hF⟩
        case round =>
          clear hF
          obtain ⟨i, rfl, hi, hown, hF⟩ := hrel
          obtain ⟨_, _, _, _, _, _⟩ := hF.l.three
          obtain ⟨_, _, _, _⟩ := hF.r.two
          by_cases hlt : i < N
          · have z1 : decide ((i : Int) < (N : Int)) = true := decide_eq_true (by omega)
            obtain ⟨u, v, huv, hin⟩ := hcell.out i hlt
            have buv := hbd u v hin
            have cat := fun w => sat_n m.w i u v w ⟨by omega, by omega⟩ huv
            obtain ⟨p, hp⟩ : ∃ p, p = u - x := ⟨_, rfl⟩
            obtain ⟨q, hq⟩ : ∃ q, q = v - y := ⟨_, rfl⟩
            have e1 : IntKind.i64.wrap (u - x) = p := by rw [hp]; exact IntWalk.i64_in _ (by omega)
            have e2 : IntKind.i64.wrap (v - y) = q := by rw [hq]; exact IntWalk.i64_in _ (by omega)
            have b1 := Sm.mul (a := p) (b := p) (by unfold Sm; omega) (by unfold Sm; omega)
            have b2 := Sm.mul (a := q) (b := q) (by unfold Sm; omega) (by unfold Sm; omega)
            have e3 : IntKind.i64.wrap (p * p) = p * p := IntWalk.i64_in _ (by omega)
            have e4 : IntKind.i64.wrap (q * q) = q * q := IntWalk.i64_in _ (by omega)
            have e5 : IntKind.i64.wrap (p * p + q * q) = p * p + q * q := IntWalk.i64_in _ (by omega)
            obtain ⟨d, hd⟩ : ∃ d, Hid (decide (p * p + q * q ≤ R * R) = d) := ⟨_, hid rfl⟩
            obtain ⟨z, hz⟩ : ∃ z, Hid (z = seesv m x y u v) := ⟨_, hid rfl⟩
            have hva : Hid (visat m x y R high i = (d && (high || z))) := hid (by unfold visat; rw [← huv.out.1, ← huv.out.2, ← hp, ← hq, hd.out, ← hz.out])
            have csz := fun (w : World) (hb : Below W.heap.size W w) => cs u v z w hb hin hz
            have d9 := hd.out
            clear hp hq b1 b2 buv huv hin hd hz cs
            go_upto_region 9 with (go_at_call 23; with_reducible refine (cat _).mono ?_; rintro e w3 ⟨rfl, hb⟩)
            have ha := (Below.refl w3.heap.size w3).alloc (Nat.le_refl _) (.cells [Value.int .i64 u, .int .i64 v].toArray 26)
            have hP := Blk.new w3 [.int .i64 u, .int .i64 v] 26
            replace hF := (hF.call hb).call ha
            replace hown := own_below (own_below hown hb) ha
            clear hb ha
            generalize w3.alloc (.cells [Value.int .i64 u, .int .i64 v].toArray 26) = Y at *
            generalize w3.heap.size = n at *
            obtain ⟨_, _, _, _⟩ := hP.two
            obtain ⟨_, _, _, _, _, _⟩ := hF.l.three
            obtain ⟨_, _, _, _⟩ := hF.r.two
            go_quiet (fail)
            replace hown : (Y.drewN nq).ownsRow W.heap.size 4 1 u10 i _ := hown
            have hF2 : Held2 W (Y.drewN nq) W.heap.size (W.heap.size + 1) [.int .i64 m.w, .int .i64 m.h, s] [.int .i64 x, .int .i64 y] 24 26 := ⟨hF.l.drewN nq, hF.r.drewN nq, below_many hF.old nq⟩
            replace hP := hP.drewN nq
            clear hF
            generalize Y.drewN nq = Z at *
            obtain ⟨_, _, _, _⟩ := hP.two
            obtain ⟨_, _, _, _, _, _⟩ := hF2.l.three
            obtain ⟨_, _, _, _⟩ := hF2.r.two
            have wi : IntKind.i64.wrap ((i : Int) + 1) = (i : Int) + 1 := IntWalk.i64_in _ (by omega)
            cases d with
            | false =>
              have hsz := hF2.old.size
              go_wp2_with (first | (at_builtin; refine wpList_append_own _ rfl _ _ 33 rfl W.heap.size 4 i0 (.bool false) 1 1 Tryd.underlying33 hi0 hz0 hz1 hz2 rfl (by decide) _ _ _ rfl (hown.alloc _) ⟨Z.heap.size, 0, none⟩ 1 1 [.bool false] rfl rfl cells_new (bools_lone [false]) (by unfold maxLen; omega) (by omega) (by simp; omega) ?_))
              intro v' w' hown' hg' _
              have hF3 : Held2 W w' W.heap.size (W.heap.size + 1) [.int .i64 m.w, .int .i64 m.h, s] [.int .i64 x, .int .i64 y] 24 26 := ⟨(hF2.l.alloc _).grownT (hown.alloc _) hg' (by decide), (hF2.r.alloc _).grownT (hown.alloc _) hg' (by decide), (hF2.old.alloc hF2.old.size _).grown hg' (by have := hF2.old.size; simp; omega) (fun j hj => (hown.lt j hj).1)⟩
              have hown2 := own_to hown' (m := i + 1) rfl (vbits_next (b := false) (by rw [hva.out]; rfl))
              clear hg' hown hown' hF2 hP hva hvis
              go_wp2_with fail
              go_roundw
              case rel => exact ⟨i + 1, by go_num, by omega, hown2, hF3⟩
              case measure => simp [RowKit.intOf]; omega
            | true =>
              cases high with
              | true =>
                have hsz := hF2.old.size
                go_wp2_with (first | (at_builtin; refine wpList_append_own _ rfl _ _ 33 rfl W.heap.size 4 i0 (.bool false) 1 1 Tryd.underlying33 hi0 hz0 hz1 hz2 rfl (by decide) _ _ _ rfl (hown.alloc _) ⟨Z.heap.size, 0, none⟩ 1 1 [.bool true] rfl rfl cells_new (bools_lone [true]) (by unfold maxLen; omega) (by omega) (by simp; omega) ?_))
                intro v' w' hown' hg' _
                have hF3 : Held2 W w' W.heap.size (W.heap.size + 1) [.int .i64 m.w, .int .i64 m.h, s] [.int .i64 x, .int .i64 y] 24 26 := ⟨(hF2.l.alloc _).grownT (hown.alloc _) hg' (by decide), (hF2.r.alloc _).grownT (hown.alloc _) hg' (by decide), (hF2.old.alloc hF2.old.size _).grown hg' (by have := hF2.old.size; simp; omega) (fun j hj => (hown.lt j hj).1)⟩
                have hown2 := own_to hown' (m := i + 1) rfl (vbits_next (b := true) (by rw [hva.out]; rfl))
                clear hg' hown hown' hF2 hP hva hvis
                go_wp2_with fail
                go_roundw
                case rel => exact ⟨i + 1, by go_num, by omega, hown2, hF3⟩
                case measure => simp [RowKit.intOf]; omega
              | false =>
                have hsz := hF2.old.size
                go_wp2_with (first | (go_at_call 37; with_reducible refine (csz _ hF2.old).mono ?_; rintro e w5 ⟨rfl, hb⟩; replace hF2 := hF2.call hb; replace hown := own_below hown hb; have hsz := hF2.old.size) | (at_builtin; refine wpList_append_own _ rfl _ _ 33 rfl W.heap.size 4 i0 (.bool false) 1 1 Tryd.underlying33 hi0 hz0 hz1 hz2 rfl (by decide) _ _ _ rfl (hown.alloc _) ⟨w5.heap.size, 0, none⟩ 1 1 [.bool z] rfl rfl cells_new (bools_lone [z]) (by unfold maxLen; omega) (by omega) (by simp; omega) ?_))
                intro v' w' hown' hg' _
                have hF3 : Held2 W w' W.heap.size (W.heap.size + 1) [.int .i64 m.w, .int .i64 m.h, s] [.int .i64 x, .int .i64 y] 24 26 := ⟨(hF2.l.alloc _).grownT (hown.alloc _) hg' (by decide), (hF2.r.alloc _).grownT (hown.alloc _) hg' (by decide), (hF2.old.alloc hF2.old.size _).grown hg' (by have := hF2.old.size; simp; omega) (fun j hj => (hown.lt j hj).1)⟩
                have hown2 := own_to hown' (m := i + 1) rfl (vbits_next (b := z) (by rw [hva.out]; simp))
                clear hg' hown hown' hF2 hP hva hvis
                go_wp2_with fail
                go_roundw
                case rel => exact ⟨i + 1, by go_num, by omega, hown2, hF3⟩
                case measure => simp [RowKit.intOf]; omega
          · obtain rfl : i = N := by omega
            have z1 : decide ((i : Int) < (i : Int)) = false := decide_eq_false (by omega)
            unfold vbits at hown
            have hBA := BitsAt.any hown (by simp) (by unfold maxLen; omega)
            rw [← hvis.out] at hBA
            clear hvis hown
            go_wp2_with fail
            go_ret
            exact ⟨_, rfl, hBA, hF.old⟩

end Go.Proofs.YtlcbkeieejmmbaaDoor
