/-
  shadow as landed at 4bd78af: Sees.
-/
import Derived.Test.YtlcbkeieejmmbaaDoorShF
namespace Go.Proofs.YtlcbkeieejmmbaaDoor
open Go.RowKit Go.Lib

theorem shoctant_c (f g a b c d : Int) (W : World) :
    Calls Tryd.prog 36 #[.agg #[.int .i64 f, .int .i64 g], .agg #[.int .i64 a, .int .i64 b], .agg #[.int .i64 c, .int .i64 d]] W fun e w' => ∃ p q r, e = .returned (plc p q r) ∧ PlaceB w' p q r f g a b c d ∧ Below W.heap.size W w' :=
  (shoctant_b f g a b c d W).mono fun _ _ ⟨h1, h2, h3⟩ => ⟨_, _, _, h1, h2, h3⟩
theorem sgn_abs (n : Int) : absv n * sgnv n = n := by
  unfold absv sgnv
  rcases Int.lt_trichotomy n 0 with h | h | h
  · rw [show max n (-n) = -n by omega, show min (max n (-1)) 1 = -1 by omega]; omega
  · subst h; rfl
  · rw [show max n (-n) = n by omega, show min (max n (-1)) 1 = 1 by omega]; omega
theorem sgn_way (n : Int) : sgnv n = 1 ∨ sgnv n = -1 ∨ (sgnv n = 0 ∧ absv n = 0) := by unfold absv sgnv; omega
/-- The octant of a line that goes farther along the first axis, and along the second one. -/
theorem oct_one {m : M3} {x y u v : Int} (hf : formedv m = true) (ha : inv m.w m.h x y = true) (hb : inv m.w m.h u v = true) (h : absv (v - y) ≤ absv (u - x)) :
    OctAt m x y (sgnv (u - x)) 0 0 (sgnv (v - y)) (absv (u - x)) (absv (v - y)) ∧ x + absv (u - x) * sgnv (u - x) + absv (v - y) * 0 = u ∧ y + absv (u - x) * 0 + absv (v - y) * sgnv (v - y) = v := by
  have e1 := sgn_abs (u - x)
  have e2 := sgn_abs (v - y)
  have w1 := sgn_way (u - x)
  have w2 := sgn_way (v - y)
  obtain ⟨ba, sx, sy⟩ := inv_sm hf ha
  obtain ⟨bb, -, -⟩ := inv_sm hf hb
  have r1 : x + absv (u - x) * sgnv (u - x) + absv (v - y) * 0 = u := by rw [e1, Int.mul_zero]; omega
  have r2 : y + absv (u - x) * 0 + absv (v - y) * sgnv (v - y) = v := by rw [e2, Int.mul_zero]; omega
  refine ⟨⟨.inl ⟨rfl, rfl, w1, w2⟩, ?_, h, ?_, sx, sy, ?_, ?_, ?_, ?_, hf, ha, ?_⟩, r1, r2⟩
  · unfold absv; omega
  · unfold absv; omega
  · unfold Sm; omega
  · unfold Sm; omega
  · unfold Sm; omega
  · unfold Sm; omega
  · rw [r1, r2]; exact hb
theorem oct_two {m : M3} {x y u v : Int} (hf : formedv m = true) (ha : inv m.w m.h x y = true) (hb : inv m.w m.h u v = true) (h : absv (u - x) ≤ absv (v - y)) :
    OctAt m x y 0 (sgnv (v - y)) (sgnv (u - x)) 0 (absv (v - y)) (absv (u - x)) ∧ x + absv (v - y) * 0 + absv (u - x) * sgnv (u - x) = u ∧ y + absv (v - y) * sgnv (v - y) + absv (u - x) * 0 = v := by
  have e1 := sgn_abs (u - x)
  have e2 := sgn_abs (v - y)
  have w1 := sgn_way (u - x)
  have w2 := sgn_way (v - y)
  obtain ⟨ba, sx, sy⟩ := inv_sm hf ha
  obtain ⟨bb, -, -⟩ := inv_sm hf hb
  have r1 : x + absv (v - y) * 0 + absv (u - x) * sgnv (u - x) = u := by rw [e1, Int.mul_zero]; omega
  have r2 : y + absv (v - y) * sgnv (v - y) + absv (u - x) * 0 = v := by rw [e2, Int.mul_zero]; omega
  refine ⟨⟨.inr ⟨rfl, rfl, w2, w1⟩, ?_, h, ?_, sx, sy, ?_, ?_, ?_, ?_, hf, ha, ?_⟩, r1, r2⟩
  · unfold absv; omega
  · unfold absv; omega
  · unfold Sm; omega
  · unfold Sm; omega
  · unfold Sm; omega
  · unfold Sm; omega
  · rw [r1, r2]; exact hb
theorem low2b {W w' : World} {b : Nat} {p q : Value} {t : TypeId} (hl : Blk W b [p, q] t) (h : Below W.heap.size W w') :
    w'.cell? ⟨b, 0, none⟩ = some p ∧ w'.cell? ⟨b, 1, none⟩ = some q ∧ Below W.heap.size W w' := ⟨(hl.below h).cell 0, (hl.below h).cell 1, h⟩
/-- Blocks of an own struct each: a map and two positions. -/
structure Thr (W X : World) (ma pa qa : List Value) (B : Nat) : Prop where
  m : Blk X B ma 24
  p : Blk X (B + 1) pa 26
  q : Blk X (B + 1 + 1) qa 26
  old : Below W.heap.size W X
theorem Thr.call {W X Y : World} {ma pa qa : List Value} {B : Nat} (h : Thr W X ma pa qa B) (hb : Below X.heap.size X Y) : Thr W Y ma pa qa B := ⟨h.m.below hb, h.p.below hb, h.q.below hb, below_call h.old hb⟩
theorem Thr.start (W : World) (ma pa qa : List Value) : Thr W (((W.alloc (.cells ma.toArray 24)).alloc (.cells pa.toArray 26)).alloc (.cells qa.toArray 26)) ma pa qa W.heap.size :=
  ⟨((Blk.new W ma _).alloc _).alloc _, ((Blk.new (W.alloc _) pa _).at (World.size_alloc _ _)).alloc _,
   (Blk.new ((W.alloc _).alloc _) qa _).at ((World.size_alloc _ _).trans (congrArg (· + 1) (World.size_alloc _ _))),
   (((Below.refl _ _).alloc (Nat.le_refl _) _).alloc (by simp) _).alloc (by simp; omega) _⟩
set_option maxRecDepth 100000 in
set_option maxHeartbeats 8000000 in
theorem shsees_b (m : M3) (s : Value) (x y u v : Int) (z : Bool) (W : World) (hE : EnvP W) (hr : RowAt W s m.cs) (hz : Hid (z = lookv m x y u v)) :
    Calls Tryd.prog 13 #[.agg #[.int .i64 m.w, .int .i64 m.h, s], .agg #[.int .i64 x, .int .i64 y], .agg #[.int .i64 u, .int .i64 v]] W fun e w' => e = .returned (.bool z) ∧ Below W.heap.size W w' := by
  obtain ⟨o, ho⟩ : ∃ o, Hid (o = (validm m && alliv m.w m.h [(x, y), (u, v)])) := ⟨_, hid rfl⟩
  have hF := Thr.start W [.int .i64 m.w, .int .i64 m.h, s] [.int .i64 x, .int .i64 y] [.int .i64 u, .int .i64 v]
  have ci := fun (w : World) (g : Nat) (hb : Below W.heap.size W w) (hG : Blk w g (pcells [(x, y), (u, v)]) 26) => shinside_b m s [(x, y), (u, v)] g 2 2 26 o w (hr.below hb) hG rfl (by decide) ho
  obtain ⟨_, _, _, _, _, _⟩ := hF.m.three
  obtain ⟨_, _, _, _⟩ := hF.p.two
  obtain ⟨_, _, _, _⟩ := hF.q.two
  cases o with
  | false =>
    have hx : z = false := by
      rw [hz.out]
      unfold lookv
      have h := ho.out
      unfold alliv at h
      simp only [List.all_cons, List.all_nil, Bool.and_true] at h
      rw [← Bool.and_assoc] at h
      rw [← h, Bool.false_and]
    rw [hx]
    go_enter Tryd.func13, Tryd.ntmps13
    go_upto_region 1 with fail
    generalize ((W.alloc (.cells [Value.int .i64 m.w, .int .i64 m.h, s].toArray 24)).alloc (.cells [Value.int .i64 x, .int .i64 y].toArray 26)).alloc (.cells [Value.int .i64 u, .int .i64 v].toArray 26) = X at *
    have hN := Blk.new X (pcells [(x, y), (u, v)]) 26
    have hX := (Below.refl X.heap.size X).alloc (Nat.le_refl _) (.cells (pcells [(x, y), (u, v)]).toArray 26)
    go_wp2_with (go_at_call 26; refine (ci _ X.heap.size (below_call hF.old hX) hN).mono ?_; rintro e w1 ⟨rfl, hb⟩)
    go_ret
    exact ⟨rfl, below_call hF.old (below_call hX hb)⟩
  | true =>
    have hvi := ho.out.symm
    rw [Bool.and_eq_true] at hvi
    obtain ⟨hv, hi⟩ := hvi
    unfold alliv at hi
    simp only [List.all_cons, List.all_nil, Bool.and_true, Bool.and_eq_true] at hi
    obtain ⟨ia, ib⟩ := hi
    have hfm := formed_of hv
    have hx : Hid (z = seesv m x y u v) := hid (by rw [hz.out]; unfold lookv; rw [hv, ia, ib]; rfl)
    have o1 := oct_one hfm ia ib
    have o2 := oct_two hfm ia ib
    obtain ⟨ba, sx, sy⟩ := inv_sm hfm ia
    obtain ⟨bb, su, sv⟩ := inv_sm hfm ib
    clear hz ho hv ia ib hfm
    have cm1 := fun (w : World) => shminus_b u v x y w su sv sx sy
    have cz1 := fun (w : World) => shsize_b (u - x) w (by omega)
    have cz2 := fun (w : World) => shsize_b (v - y) w (by omega)
    have cg1 := fun (w : World) => shsign_b (u - x) w
    have cg2 := fun (w : World) => shsign_b (v - y) w
    clear ba bb su sv sx sy
    generalize hg1 : sgnv (u - x) = g1 at *
    generalize hg2 : sgnv (v - y) = g2 at *
    generalize ha1 : absv (u - x) = a1 at *
    generalize ha2 : absv (v - y) = a2 at *
    generalize u - x = d1 at *
    generalize v - y = d2 at *
    clear hg1 hg2 ha1 ha2
    go_enter Tryd.func13, Tryd.ntmps13
    go_upto_region 1 with fail
    generalize ((W.alloc (.cells [Value.int .i64 m.w, .int .i64 m.h, s].toArray 24)).alloc (.cells [Value.int .i64 x, .int .i64 y].toArray 26)).alloc (.cells [Value.int .i64 u, .int .i64 v].toArray 26) = X at *
    have hN := Blk.new X (pcells [(x, y), (u, v)]) 26
    have hX := (Below.refl X.heap.size X).alloc (Nat.le_refl _) (.cells (pcells [(x, y), (u, v)]).toArray 26)
    go_wp2_with (first
      | (go_at_call 26; refine (ci _ X.heap.size (below_call hF.old hX) hN).mono ?_; rintro e w1 ⟨rfl, hb⟩; replace hF := hF.call (below_call hX hb); clear hb hX hN ci; obtain ⟨_, _, _, _, _, _⟩ := hF.m.three; obtain ⟨_, _, _, _⟩ := hF.p.two; obtain ⟨_, _, _, _⟩ := hF.q.two)
      | (go_at_call 28; with_reducible refine (cm1 _).mono ?_; rintro e w2 ⟨rfl, hb⟩; replace hF := hF.call hb; clear hb cm1))
    have hD := Blk.new w2 [.int .i64 d1, .int .i64 d2] 26
    have hF2 := hF.call ((Below.refl w2.heap.size w2).alloc (Nat.le_refl _) (.cells [Value.int .i64 d1, .int .i64 d2].toArray 26))
    clear hF
    generalize w2.alloc (.cells [Value.int .i64 d1, .int .i64 d2].toArray 26) = V at *
    generalize w2.heap.size = n at *
    have hq := (Below.refl V.heap.size V).drew
    have hz := hq.size
    have nn := hD.lt
    obtain ⟨_, _, _, _⟩ := hD.two
    go_cut [8, 9] from 10 (fun s8 s9 wx => ∃ (b c : Nat) (Y : World), Y = wx ∧ s8 = .pointer (some ⟨b, 0, none⟩) ∧ s9 = .pointer (some ⟨c, 0, none⟩) ∧ b ≠ c ∧ V.heap.size ≤ b ∧ V.heap.size ≤ c ∧ Blk wx b [.int .i64 g1, .int .i64 0] 26 ∧ Blk wx c [.int .i64 0, .int .i64 g2] 26 ∧ Below V.heap.size V wx)
    case first =>
      go_region_held3 (fun w' => w'.cell? ⟨n, 0, none⟩ = some (.int .i64 d1) ∧ w'.cell? ⟨n, 1, none⟩ = some (.int .i64 d2) ∧ Below V.heap.size V w')
        (first
          | (refine low2b hD ?_; with_reducible first | assumption | ((repeat (first | assumption | exact Below.refl _ _ | refine Below.drew ?_ | refine Below.alloc ?_ ?_ _ | refine Below.setCell ?_ ?_ _)) <;> first | omega | (simp; omega) | (simp; done))))
        (first
          | (go_at_call 33; with_reducible refine (cg1 _).mono ?_; rintro e w' ⟨rfl, rfl⟩)
          | (go_at_call 33; with_reducible refine (cg2 _).mono ?_; rintro e w' ⟨rfl, rfl⟩))
      all_goals
        go_wp2_with fail
        go_meet
        case rel =>
          with_reducible
            refine ⟨_, _, _, rfl, rfl, rfl, ?_, ?_, ?_, ?_, ?_, ?_⟩
            · omega
            · omega
            · omega
            · repeat (first
                | assumption
                | exact Blk.new _ _ _
                | exact (Blk.new _ _ _).at (World.size_alloc _ _)
                | refine Blk.put2 (p := .int .i64 0) (q := .int .i64 0) ?_ _ _
                | refine Blk.far ?_ _ (by omega)
                | refine Blk.alloc ?_ _
                | refine Blk.drew ?_)
            · repeat (first
                | assumption
                | exact Blk.new _ _ _
                | exact (Blk.new _ _ _).at (World.size_alloc _ _)
                | refine Blk.put2 (p := .int .i64 0) (q := .int .i64 0) ?_ _ _
                | refine Blk.far ?_ _ (by omega)
                | refine Blk.alloc ?_ _
                | refine Blk.drew ?_)
            · (repeat (first | assumption | exact Below.refl _ _ | refine Below.drew ?_ | refine Below.alloc ?_ ?_ _ | refine Below.setCell ?_ ?_ _)) <;> first | omega | (simp; done) | (simp; omega)
    case rest =>
    clear hq hz
    obtain ⟨b, c, Y, rfl, rfl, rfl, hbc, hb1, hc1, hB, hC, hq2⟩ := hcut
    have hF3 := hF2.call hq2
    have hD2 := hD.below hq2
    clear hD
    have h2 := hF3.m.lt
    have h3 := hF3.p.lt
    obtain ⟨_, _, _, _⟩ := hD2.two
    have hk := low2b hD2 (Below.refl _ _)
    go_upto_region 5 with fail
    go_region_held3 (fun w' => w'.cell? ⟨n, 0, none⟩ = some (.int .i64 d1) ∧ w'.cell? ⟨n, 1, none⟩ = some (.int .i64 d2)) (go_keep)
      (first
        | (go_at_call 34; with_reducible refine (cz1 _).mono ?_; rintro e w' ⟨rfl, rfl⟩)
        | (go_at_call 34; with_reducible refine (cz2 _).mono ?_; rintro e w' ⟨rfl, rfl⟩))
    by_cases hlt : a1 < a2
    · have z1 : decide (a1 < a2) = true := decide_eq_true hlt
      have oo := o2 (by omega)
      clear o1 o2
      obtain ⟨_, _, _, _⟩ := hB.two
      obtain ⟨_, _, _, _⟩ := hC.two
      have ncb := Ne.symm hbc
      have hB2 := ((hB.put2 (.int .i64 0) (.int .i64 g2)).far (c := c) (i := 0) (.int .i64 g1) hbc).far (c := c) (i := 1) (.int .i64 0) hbc
      have hC2 := ((hC.far (c := b) (i := 0) (.int .i64 0) ncb).far (c := b) (i := 1) (.int .i64 g2) ncb).put2 (.int .i64 g1) (.int .i64 0)
      have hq3 := (((hq2.setCell (p := ⟨b, 0, none⟩) hb1 (.int .i64 0)).setCell (p := ⟨b, 1, none⟩) hb1 (.int .i64 g2)).setCell (p := ⟨c, 0, none⟩) hc1 (.int .i64 g1)).setCell (p := ⟨c, 1, none⟩) hc1 (.int .i64 0)
      have hF4 := hF2.call hq3
      go_wp2_with fail
      generalize (((Y.setCell ⟨b, 0, none⟩ (.int .i64 0)).setCell ⟨b, 1, none⟩ (.int .i64 g2)).setCell ⟨c, 0, none⟩ (.int .i64 g1)).setCell ⟨c, 1, none⟩ (.int .i64 0) = U at *
      have hkeep2 := fun (w' : World) (hb : Below U.heap.size U w') => And.intro ((hF4.m.below hb).cell 0) (And.intro ((hF4.m.below hb).cell 1) (And.intro ((hF4.m.below hb).cell 2) (And.intro ((hF4.p.below hb).cell 0) (And.intro ((hF4.p.below hb).cell 1) (And.intro ((hB2.below hb).cell 0) (And.intro ((hB2.below hb).cell 1) (And.intro ((hC2.below hb).cell 0) ((hC2.below hb).cell 1))))))))
      have hU := (Below.refl U.heap.size U).drew.drew
      obtain ⟨_, _, _, _, _, _, _, _, _⟩ := hkeep2 _ hU
      have hWU := hF4.old
      have cub := fun (w : World) (p q r : Nat) (hb : Below W.heap.size W w) (hp : PlaceB w p q r x y 0 g2 g1 0) => shunb_b m s a2 a1 x y 0 g2 g1 0 p q r z w (hE.keep hb) (hr.below hb) hp oo.1 (hid (by rw [oo.2.1, oo.2.2]; exact hx.out))
      clear hx oo hE hr
      go_region_held3 (fun w' => w'.cell? ⟨W.heap.size, 0, none⟩ = some (.int .i64 m.w) ∧ w'.cell? ⟨W.heap.size, 1, none⟩ = some (.int .i64 m.h) ∧ w'.cell? ⟨W.heap.size, 2, none⟩ = some s ∧ w'.cell? ⟨W.heap.size + 1, 0, none⟩ = some (.int .i64 x) ∧ w'.cell? ⟨W.heap.size + 1, 1, none⟩ = some (.int .i64 y) ∧ w'.cell? ⟨b, 0, none⟩ = some (.int .i64 0) ∧ w'.cell? ⟨b, 1, none⟩ = some (.int .i64 g2) ∧ w'.cell? ⟨c, 0, none⟩ = some (.int .i64 g1) ∧ w'.cell? ⟨c, 1, none⟩ = some (.int .i64 0))
        (exact hkeep2 _ hU)
        (first
          | (go_at_call 36; with_reducible refine (shoctant_c x y 0 g2 g1 0 _).mono ?_; rintro e w' ⟨p9, q9, r9, rfl, hPl, hb⟩; replace hU := below_call hU hb; clear hb)
          | (go_at_call 35; with_reducible refine (cub _ _ _ _ (below_call hWU hU) hPl).mono ?_; rintro e w' ⟨rfl, hb⟩; replace hU := below_call hU hb; clear hb))
      go_wp2
      go_ret
      exact ⟨rfl, below_call hWU hU⟩
    · have z1 : decide (a1 < a2) = false := decide_eq_false hlt
      have oo := o1 (by omega)
      clear o1 o2
      have hB2 := hB
      have hC2 := hC
      have hF4 := hF3
      go_wp2_with fail
      generalize Y = U at *
      have hkeep2 := fun (w' : World) (hb : Below U.heap.size U w') => And.intro ((hF4.m.below hb).cell 0) (And.intro ((hF4.m.below hb).cell 1) (And.intro ((hF4.m.below hb).cell 2) (And.intro ((hF4.p.below hb).cell 0) (And.intro ((hF4.p.below hb).cell 1) (And.intro ((hB2.below hb).cell 0) (And.intro ((hB2.below hb).cell 1) (And.intro ((hC2.below hb).cell 0) ((hC2.below hb).cell 1))))))))
      have hU := (Below.refl U.heap.size U).drew.drew
      obtain ⟨_, _, _, _, _, _, _, _, _⟩ := hkeep2 _ hU
      have hWU := hF4.old
      have cub := fun (w : World) (p q r : Nat) (hb : Below W.heap.size W w) (hp : PlaceB w p q r x y g1 0 0 g2) => shunb_b m s a1 a2 x y g1 0 0 g2 p q r z w (hE.keep hb) (hr.below hb) hp oo.1 (hid (by rw [oo.2.1, oo.2.2]; exact hx.out))
      clear hx oo hE hr
      go_region_held3 (fun w' => w'.cell? ⟨W.heap.size, 0, none⟩ = some (.int .i64 m.w) ∧ w'.cell? ⟨W.heap.size, 1, none⟩ = some (.int .i64 m.h) ∧ w'.cell? ⟨W.heap.size, 2, none⟩ = some s ∧ w'.cell? ⟨W.heap.size + 1, 0, none⟩ = some (.int .i64 x) ∧ w'.cell? ⟨W.heap.size + 1, 1, none⟩ = some (.int .i64 y) ∧ w'.cell? ⟨b, 0, none⟩ = some (.int .i64 g1) ∧ w'.cell? ⟨b, 1, none⟩ = some (.int .i64 0) ∧ w'.cell? ⟨c, 0, none⟩ = some (.int .i64 0) ∧ w'.cell? ⟨c, 1, none⟩ = some (.int .i64 g2))
        (exact hkeep2 _ hU)
        (first
          | (go_at_call 36; with_reducible refine (shoctant_c x y g1 0 0 g2 _).mono ?_; rintro e w' ⟨p9, q9, r9, rfl, hPl, hb⟩; replace hU := below_call hU hb; clear hb)
          | (go_at_call 35; with_reducible refine (cub _ _ _ _ (below_call hWU hU) hPl).mono ?_; rintro e w' ⟨rfl, hb⟩; replace hU := below_call hU hb; clear hb))
      go_wp2
      go_ret
      exact ⟨rfl, below_call hWU hU⟩

end Go.Proofs.YtlcbkeieejmmbaaDoor
