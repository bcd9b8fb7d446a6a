/-
  What the reference of shadow answers: whether a line meets a square.
-/
import Derived.Test.YtlcbkeieejmmbaaDoorShK
namespace Go.Proofs.YtlcbkeieejmmbaaDoor
open Go.RowKit Go.Lib

def Sq (n : Int) : Prop := -1000 ≤ n ∧ n ≤ 1000
set_option maxHeartbeats 1000000 in
theorem rside_b (a b c d x y t : Int) (W : World) (ha : Sq a) (hb : Sq b) (hc : Sq c) (hd : Sq d) (hx : Sq x) (hy : Sq y) (ht : Hid (t = crossv a b c d x y)) :
    Calls Tryd.prog 66 #[.int .i64 a, .int .i64 b, .int .i64 c, .int .i64 d, .int .i64 x, .int .i64 y] W fun e w' => e = .returned (.int .i64 t) ∧ W = w' := by
  unfold Sq at *
  have m1 := Sm.mul (a := c - a) (b := y - b) (by unfold Sm; omega) (by unfold Sm; omega)
  have m2 := Sm.mul (a := d - b) (b := x - a) (by unfold Sm; omega) (by unfold Sm; omega)
  have e1 : IntKind.i64.wrap (c - a) = c - a := IntWalk.i64_in _ (by omega)
  have e2 : IntKind.i64.wrap (y - b) = y - b := IntWalk.i64_in _ (by omega)
  have e3 : IntKind.i64.wrap (d - b) = d - b := IntWalk.i64_in _ (by omega)
  have e4 : IntKind.i64.wrap (x - a) = x - a := IntWalk.i64_in _ (by omega)
  have e5 : IntKind.i64.wrap ((c - a) * (y - b)) = (c - a) * (y - b) := IntWalk.i64_in _ (by omega)
  have e6 : IntKind.i64.wrap ((d - b) * (x - a)) = (d - b) * (x - a) := IntWalk.i64_in _ (by omega)
  have e7 : IntKind.i64.wrap ((c - a) * (y - b) - (d - b) * (x - a)) = t := by rw [ht.out]; exact IntWalk.i64_in _ (by omega)
  clear m1 m2 ht ha hb hc hd hx hy
  go_enter Tryd.func66, Tryd.ntmps66
  go_wp2_with fail
  go_ret
  exact ⟨rfl, rfl⟩
def negs (l : List Int) : Bool := l.any fun n => decide (n < 0)
def poss (l : List Int) : Bool := l.any fun n => decide (0 < n)
theorem negs_take (l : List Int) (i : Nat) (h : i < l.length) : negs (l.take (i + 1)) = (negs (l.take i) || decide (l[i]'h < 0)) := by
  unfold negs; rw [List.take_succ_eq_append_getElem h, List.any_append]; simp
theorem poss_take (l : List Int) (i : Nat) (h : i < l.length) : poss (l.take (i + 1)) = (poss (l.take i) || decide (0 < l[i]'h)) := by
  unfold poss; rw [List.take_succ_eq_append_getElem h, List.any_append]; simp
/-- Positions within a map, as the reference's calls have them. -/
def B31 (n : Int) : Prop := 0 ≤ n ∧ n ≤ 31
set_option maxRecDepth 100000 in
set_option maxHeartbeats 8000000 in
theorem rmeets_b (x y u v p q : Int) (z : Bool) (W : World) (hx : B31 x) (hy : B31 y) (hu : B31 u) (hv : B31 v) (hp : B31 p) (hq : B31 q) (hz : Hid (z = hitv (u - x) (v - y) (p - x) (q - y))) :
    Calls Tryd.prog 55 #[.agg #[.int .i64 x, .int .i64 y], .agg #[.int .i64 u, .int .i64 v], .agg #[.int .i64 p, .int .i64 q]] W fun e w' => e = .returned (.bool z) ∧ Below W.heap.size W w' := by
  unfold B31 at *
  have hz1 := hz.out
  rw [hit_ref] at hz1
  have k1 := (((Blk.new W [.int .i64 x, .int .i64 y] 26).alloc (.cells [Value.int .i64 u, .int .i64 v].toArray 26))).alloc (.cells [Value.int .i64 p, .int .i64 q].toArray 26)
  have k2 := ((Blk.new (W.alloc (.cells [Value.int .i64 x, .int .i64 y].toArray 26)) [.int .i64 u, .int .i64 v] 26).at (World.size_alloc _ _)).alloc (.cells [Value.int .i64 p, .int .i64 q].toArray 26)
  have k3 := (Blk.new ((W.alloc (.cells [Value.int .i64 x, .int .i64 y].toArray 26)).alloc (.cells [Value.int .i64 u, .int .i64 v].toArray 26)) [.int .i64 p, .int .i64 q] 26).at ((World.size_alloc _ _).trans (congrArg (· + 1) (World.size_alloc _ _)))
  have hL := (((Below.refl W.heap.size W).alloc (Nat.le_refl _) (.cells [Value.int .i64 x, .int .i64 y].toArray 26)).alloc (by simp) (.cells [Value.int .i64 u, .int .i64 v].toArray 26)).alloc (by simp; omega) (.cells [Value.int .i64 p, .int .i64 q].toArray 26)
  obtain ⟨_, _, _, _⟩ := k1.two
  obtain ⟨_, _, _, _⟩ := k2.two
  obtain ⟨_, _, _, _⟩ := k3.two
  clear k1 k2 k3
  have eax : IntKind.i64.wrap (2 * x) = 2 * x := IntWalk.i64_in _ (by omega)
  obtain ⟨X1, hX⟩ : ∃ t, t = 2 * x + 1 := ⟨_, rfl⟩
  have ebx : IntKind.i64.wrap (2 * x + 1) = X1 := by rw [hX]; exact IntWalk.i64_in _ (by omega)
  have eay : IntKind.i64.wrap (2 * y) = 2 * y := IntWalk.i64_in _ (by omega)
  obtain ⟨Y1, hY⟩ : ∃ t, t = 2 * y + 1 := ⟨_, rfl⟩
  have eby : IntKind.i64.wrap (2 * y + 1) = Y1 := by rw [hY]; exact IntWalk.i64_in _ (by omega)
  have eau : IntKind.i64.wrap (2 * u) = 2 * u := IntWalk.i64_in _ (by omega)
  obtain ⟨U1, hU⟩ : ∃ t, t = 2 * u + 1 := ⟨_, rfl⟩
  have ebu : IntKind.i64.wrap (2 * u + 1) = U1 := by rw [hU]; exact IntWalk.i64_in _ (by omega)
  have eav : IntKind.i64.wrap (2 * v) = 2 * v := IntWalk.i64_in _ (by omega)
  obtain ⟨V1, hV⟩ : ∃ t, t = 2 * v + 1 := ⟨_, rfl⟩
  have ebv : IntKind.i64.wrap (2 * v + 1) = V1 := by rw [hV]; exact IntWalk.i64_in _ (by omega)
  obtain ⟨P1, hP⟩ : ∃ t, t = 2 * p := ⟨_, rfl⟩
  have ebp : IntKind.i64.wrap (2 * p) = P1 := by rw [hP]; exact IntWalk.i64_in _ (by omega)
  have ecp : IntKind.i64.wrap (P1 + 2) = P1 + 2 := IntWalk.i64_in _ (by omega)
  obtain ⟨Q1, hQ⟩ : ∃ t, t = 2 * q := ⟨_, rfl⟩
  have ebq : IntKind.i64.wrap (2 * q) = Q1 := by rw [hQ]; exact IntWalk.i64_in _ (by omega)
  have ecq : IntKind.i64.wrap (Q1 + 2) = Q1 + 2 := IntWalk.i64_in _ (by omega)
  rw [← hX, ← hY, ← hU, ← hV, ← hP, ← hQ] at hz1
  obtain ⟨s0, h0⟩ : ∃ s, Hid (s = crossv X1 Y1 U1 V1 P1 Q1) := ⟨_, hid rfl⟩
  obtain ⟨s1, h1⟩ : ∃ s, Hid (s = crossv X1 Y1 U1 V1 (P1 + 2) Q1) := ⟨_, hid rfl⟩
  obtain ⟨s2, h2⟩ : ∃ s, Hid (s = crossv X1 Y1 U1 V1 P1 (Q1 + 2)) := ⟨_, hid rfl⟩
  obtain ⟨s3, h3⟩ : ∃ s, Hid (s = crossv X1 Y1 U1 V1 (P1 + 2) (Q1 + 2)) := ⟨_, hid rfl⟩
  rw [← h0.out, ← h1.out, ← h2.out, ← h3.out] at hz1
  have qX : Sq X1 := by unfold Sq; omega
  have qY : Sq Y1 := by unfold Sq; omega
  have qU : Sq U1 := by unfold Sq; omega
  have qV : Sq V1 := by unfold Sq; omega
  have qP : Sq P1 := by unfold Sq; omega
  have qQ : Sq Q1 := by unfold Sq; omega
  have qP2 : Sq (P1 + 2) := by unfold Sq; omega
  have qQ2 : Sq (Q1 + 2) := by unfold Sq; omega
  have c0 := fun w => rside_b X1 Y1 U1 V1 P1 Q1 s0 w qX qY qU qV qP qQ h0
  have c1 := fun w => rside_b X1 Y1 U1 V1 (P1 + 2) Q1 s1 w qX qY qU qV qP2 qQ h1
  have c2 := fun w => rside_b X1 Y1 U1 V1 P1 (Q1 + 2) s2 w qX qY qU qV qP qQ2 h2
  have c3 := fun w => rside_b X1 Y1 U1 V1 (P1 + 2) (Q1 + 2) s3 w qX qY qU qV qP2 qQ2 h3
  clear h0 h1 h2 h3 qX qY qU qV qP qQ qP2 qQ2 hz hX hY hU hV hP hQ hx hy hu hv hp hq
  obtain ⟨d1, hd1⟩ : ∃ t, Hid (decide (max X1 U1 ≤ P1) = t) := ⟨_, hid rfl⟩
  obtain ⟨d2, hd2⟩ : ∃ t, Hid (decide (P1 + 2 ≤ min X1 U1) = t) := ⟨_, hid rfl⟩
  obtain ⟨d3, hd3⟩ : ∃ t, Hid (decide (max Y1 V1 ≤ Q1) = t) := ⟨_, hid rfl⟩
  obtain ⟨d4, hd4⟩ : ∃ t, Hid (decide (Q1 + 2 ≤ min Y1 V1) = t) := ⟨_, hid rfl⟩
  rw [hd1.out, hd2.out, hd3.out, hd4.out] at hz1
  have g1 := hd1.out
  have g2 := hd2.out
  have g3 := hd3.out
  have g4 := hd4.out
  have hz2 : Hid (z = (!(d1 || d2 || d3 || d4) && (negs [s0, s1, s2, s3] && poss [s0, s1, s2, s3]))) := hid (by rw [hz1]; unfold negs poss; simp only [List.any_cons, List.any_nil, Bool.or_false, Bool.or_assoc])
  clear hz1 hd1 hd2 hd3 hd4
  go_enter Tryd.func55, Tryd.ntmps55
  go_upto_region 1 with fail
  generalize ((W.alloc (.cells [Value.int .i64 x, .int .i64 y].toArray 26)).alloc (.cells [Value.int .i64 u, .int .i64 v].toArray 26)).alloc (.cells [Value.int .i64 p, .int .i64 q].toArray 26) = A at *
  go_quiet (fail)
  go_upto_region 2 with fail
  go_quiet (fail)
  clear eax eay eau eav ebx eby ebu ebv ebp ebq
  cases d1 with
  | true =>
    have hzf : z = false := by rw [hz2.out]; rfl
    subst hzf
    go_wp2_with fail
    go_ret
    exact ⟨rfl, below_many hL _⟩
  | false =>
    cases d2 with
    | true =>
      have hzf : z = false := by rw [hz2.out]; rfl
      subst hzf
      go_wp2_with fail
      go_ret
      exact ⟨rfl, below_many hL _⟩
    | false =>
      cases d3 with
      | true =>
        have hzf : z = false := by rw [hz2.out]; rfl
        subst hzf
        go_wp2_with fail
        go_ret
        exact ⟨rfl, below_many hL _⟩
      | false =>
        cases d4 with
        | true =>
          have hzf : z = false := by rw [hz2.out]; rfl
          subst hzf
          go_wp2_with fail
          go_ret
          exact ⟨rfl, below_many hL _⟩
        | false =>
          have hz3 : Hid (z = (negs [s0, s1, s2, s3] && poss [s0, s1, s2, s3])) := hid (by rw [hz2.out]; rfl)
          clear hz2
          go_wp2_with (go_at_call 66; first
            | (with_reducible refine (c0 _).mono ?_; rintro e w1 ⟨rfl, rfl⟩)
            | (with_reducible refine (c1 _).mono ?_; rintro e w1 ⟨rfl, rfl⟩)
            | (with_reducible refine (c2 _).mono ?_; rintro e w1 ⟨rfl, rfl⟩)
            | (with_reducible refine (c3 _).mono ?_; rintro e w1 ⟨rfl, rfl⟩))
          obtain ⟨S, hS⟩ : ∃ S, Hid (S = [s0, s1, s2, s3]) := ⟨_, hid rfl⟩
          have hB := fun n : Nat => (Blk.new (A.drewN n) [.int .i64 s0, .int .i64 s1, .int .i64 s2, .int .i64 s3] 3 : Blk _ A.heap.size _ _)
          have hN := fun n : Nat => (below_many hL n).alloc (below_many hL n).size (.cells [Value.int .i64 s0, .int .i64 s1, .int .i64 s2, .int .i64 s3].toArray 3)
          rw [← hS.out] at hz3
          have hat : ∀ i, i < 4 → ∃ t, S[i]? = some t ∧ [Value.int .i64 s0, .int .i64 s1, .int .i64 s2, .int .i64 s3][i]? = some (.int .i64 t) := fun i hi => by
            rw [hS.out]
            rcases (show i = 0 ∨ i = 1 ∨ i = 2 ∨ i = 3 by omega) with rfl | rfl | rfl | rfl <;> exact ⟨_, rfl, rfl⟩
          have hSl : Hid (S.length = 4) := hid (by rw [hS.out]; rfl)
          clear hS c0 c1 c2 c3
          go_loopw [14, 15, 16] (fun l r vi wr => ∃ (i : Nat) (lf rt : Bool), Hid (lf = negs (S.take i) ∧ rt = poss (S.take i)) ∧ vi = .int .i64 i ∧ l = .bool lf ∧ r = .bool rt ∧ i ≤ 4 ∧ Blk wr A.heap.size [.int .i64 s0, .int .i64 s1, .int .i64 s2, .int .i64 s3] 3 ∧ Below W.heap.size W wr) (fun _ _ vi _ => 4 - (RowKit.intOf vi).toNat)
          case atStart => exact ⟨0, false, false, hid ⟨rfl, rfl⟩, rfl, rfl, rfl, by omega, hB _, hN _⟩
          case round =>
            clear hB hN hL
            obtain ⟨i, lf, rt, hI, rfl, rfl, rfl, hi, hB, hL⟩ := hrel
            by_cases hlt : i < 4
            · have e1 : decide ((i : Int) < 4) = true := decide_eq_true (by omega)
              have i0 : (0 : Int) ≤ i := by omega
              have i1 : (i : Int) < 4 := by omega
              obtain ⟨t, ht, hc⟩ := hat i hlt
              have hc := (hB.cell i).trans hc
              have hil : i < S.length := by rw [hSl.out]; exact hlt
              have hti : S[i]'hil = t := by rw [List.getElem?_eq_getElem hil] at ht; exact Option.some.inj ht
              have hn := negs_take S i hil
              have hp := poss_take S i hil
              rw [hti, ← hI.out.1] at hn
              rw [hti, ← hI.out.2] at hp
              obtain ⟨l2, hl2⟩ : ∃ b, Hid (decide (t < 0) = b) := ⟨_, hid rfl⟩
              obtain ⟨r2, hr2⟩ : ∃ b, Hid (decide (0 < t) = b) := ⟨_, hid rfl⟩
              rw [hl2.out] at hn
              rw [hr2.out] at hp
              have hN := hid (And.intro hn.symm hp.symm)
              have f1 := hl2.out
              have f2 := hr2.out
              clear hn hp ht hti hil hI hl2 hr2
              cases lf with
              | true =>
                cases rt with
                | true =>
                  go_wp2_with fail
                  go_roundw
                  case rel => exact ⟨i + 1, _, _, hN, by go_num, rfl, rfl, by omega, hB, hL⟩
                  case measure => simp [RowKit.intOf]; omega
                | false =>
                  go_wp2_with fail
                  go_roundw
                  case rel => exact ⟨i + 1, _, _, hN, by go_num, rfl, by simp, by omega, hB, hL⟩
                  case measure => simp [RowKit.intOf]; omega
              | false =>
                cases rt with
                | true =>
                  go_wp2_with fail
                  go_roundw
                  case rel => exact ⟨i + 1, _, _, hN, by go_num, by simp, rfl, by omega, hB, hL⟩
                  case measure => simp [RowKit.intOf]; omega
                | false =>
                  go_wp2_with fail
                  go_roundw
                  case rel => exact ⟨i + 1, _, _, hN, by go_num, by simp, by simp, by omega, hB, hL⟩
                  case measure => simp [RowKit.intOf]; omega
            · obtain rfl : i = 4 := by omega
              have hfin : Hid (z = (lf && rt)) := hid (by rw [hz3.out, hI.out.1, hI.out.2, List.take_of_length_le (by rw [hSl.out]; exact Nat.le_refl _)])
              clear hI hz3
              cases lf with
              | false =>
                go_wp2_with fail
                go_ret
                exact ⟨by rw [hfin.out]; rfl, hL⟩
              | true =>
                go_wp2_with fail
                go_ret
                exact ⟨by rw [hfin.out]; simp, hL⟩

end Go.Proofs.YtlcbkeieejmmbaaDoor
