/-
  What the reference of terrain answers: steps.
-/
import Derived.Test.YtpgchjhfhndaaaaGreatDoorTerRefA
namespace Go.Proofs.YtpgchjhfhndaaaaGreatDoor

section
open Go.RowKit Go.Lib

/-- A slice of bools that can be read. -/
def BitsAt (W : World) (s : Value) (bl : List Bool) : Prop :=
  ∃ p c, s = .slice p bl.length c ∧ bl.length ≤ maxLen ∧ (1 ≤ bl.length → ∃ g o, p = some ⟨g, o, none⟩ ∧ ∀ i, (h : i < bl.length) → W.cell? ⟨g, o + i, none⟩ = some (.bool (bl[i]'h)))
theorem BitsAt.below {W w' : World} {s : Value} {bl : List Bool} (h : BitsAt W s bl) (hb : Below W.heap.size W w') : BitsAt w' s bl := by
  obtain ⟨p, c, rfl, hm, hc⟩ := h
  refine ⟨p, c, rfl, hm, fun h1 => ?_⟩
  obtain ⟨g, o, rfl, hi⟩ := hc h1
  refine ⟨g, o, rfl, fun i hi' => ?_⟩
  have a := hi i hi'
  exact (hb.cell (p := ⟨g, o + i, none⟩) (World.block_lt_of_cell? W _ a)).trans a
theorem pass_inside {m : M3} {c x y : Int} (h : passv m c x y = true) : insidev m x y = true := by
  cases hi : insidev m x y with
  | true => rfl
  | false => unfold passv at h; rw [hi] at h; simp at h

set_option maxHeartbeats 2000000 in
theorem ropen_b (m : M3) (s : Value) (bl : List Bool) (l : Value) (c x y : Int) (b : Bool) (W : World) (hr : RowAt W s m.cs) (hl : BitsAt W l bl) (e : Hid (b = openv m bl c x y)) :
    Calls Tryz.prog 66 #[.agg #[.int .i64 m.w, .int .i64 m.h, s], l, .int .i64 c, .agg #[.int .i64 x, .int .i64 y]] W fun e w' => e = .returned (.bool b) ∧ Below W.heap.size W w' := by
  obtain ⟨i, hi⟩ : ∃ i, Hid (i = passv m c x y) := ⟨_, hid rfl⟩
  have hb : b = (i && (decide (c = 3) || !(bl.getD (indexv m.w x y).toNat false))) := by rw [e.out, hi.out]; rfl
  clear e
  have hT := Held2.start W [.int .i64 m.w, .int .i64 m.h, s] [.int .i64 x, .int .i64 y] 24 29
  have hr' := hr.below hT.old
  cases i with
  | false =>
    subst hb
    go_enter Tryz.func66, Tryz.ntmps66
    go_wp2_with fail
    ((with_reducible refine (rpass_b m s c x y false _ hr' hi).mono ?_); rintro e w1 ⟨rfl, hb1⟩)
    go_wp2_with fail
    go_ret
    exact ⟨rfl, hT.old.trans (hb1.mono hT.old.size)⟩
  | true =>
    obtain ⟨n, hlt, hix, -⟩ := get_at (pass_inside hi.out.symm)
    rw [← hix.out, Int.toNat_natCast, Bool.true_and] at hb
    have hm := hr.choose_spec.choose_spec.2.1
    have hl' := (hl.below hT.old)
    obtain ⟨p, k, rfl, hk, -⟩ := id hl
    go_enter Tryz.func66, Tryz.ntmps66
    go_wp2_with fail
    ((with_reducible refine (rpass_b m s c x y true _ hr' hi).mono ?_); rintro e w1 ⟨rfl, hb1⟩)
    have hT1 := hT.call hb1
    replace hl' := hl'.below hb1
    obtain ⟨_, _, _, _, _, _⟩ := hT1.l.three
    obtain ⟨_, _, _, _⟩ := hT1.r.two
    go_wp2_with fail
    ((with_reducible refine (rindex_b _ x y n _ hix).mono ?_); rintro e w2 ⟨rfl, hb2⟩)
    have hT2 := hT1.call hb2
    replace hl' := hl'.below hb2
    unfold maxLen at hm hk
    by_cases c3 : c = 3
    · subst c3
      go_wp2_with fail
      go_ret
      exact ⟨ret_bit (by rw [hb]; rfl), hT2.old⟩
    · have z3 : (c == 3) = false := beq_eq_false_iff_ne.2 c3
      rw [decide_eq_false c3, Bool.false_or] at hb
      by_cases hnl : n < bl.length
      · obtain ⟨p', k', e', -, hc⟩ := hl'
        obtain ⟨g, o, rfl, hat⟩ := hc (by omega)
        obtain ⟨rfl, -, rfl⟩ : p = some ⟨g, o, none⟩ ∧ True ∧ k = k' := by injection e' with e1 _ e2; exact ⟨e1, trivial, e2⟩
        have h1 := hat n hnl
        obtain ⟨v, hv⟩ : ∃ v, v = bl[n]'hnl := ⟨_, rfl⟩
        rw [← hv] at h1
        have hb' : b = !v := by rw [hb, hv, List.getD_eq_getElem?_getD, List.getElem?_eq_getElem hnl]; rfl
        have g1 : decide ((bl.length : Int) ≤ (n : Int)) = false := decide_eq_false (by omega)
        have n1 : (0 : Int) ≤ n := by omega
        have n2 : (n : Int) < bl.length := by omega
        clear hat hc hb
        go_wp2_with fail
        go_ret
        exact ⟨ret_bit (by rw [hb', hv, decide_eq_false (by omega), Bool.false_or]), hT2.old⟩
      · have hb' : b = true := by rw [hb, List.getD_eq_getElem?_getD, List.getElem?_eq_none (by omega)]; rfl
        have g1 : decide ((bl.length : Int) ≤ (n : Int)) = true := decide_eq_true (by omega)
        go_wp2_with fail
        go_ret
        exact ⟨ret_bit hb'.symm, hT2.old⟩

set_option maxHeartbeats 1000000 in
theorem rrise_any (k h a k' h' a' n : Int) (W : World) (h0 : I64 h) (h1 : I64 h') (e : Hid (n = risev h h')) :
    Calls Tryz.prog 146 #[.agg #[.int .i64 k, .int .i64 h, .int .i64 a], .agg #[.int .i64 k', .int .i64 h', .int .i64 a']] W fun e w' => e = .returned (.int .i64 n) ∧ Below W.heap.size W w' := by
  have hT := Held2.start W [.int .i64 k, .int .i64 h, .int .i64 a] [.int .i64 k', .int .i64 h', .int .i64 a'] 53 53
  have e := e.out
  unfold risev at e
  obtain ⟨_, _, _, _, _, _⟩ := hT.l.three
  obtain ⟨_, _, _, _, _, _⟩ := hT.r.three
  go_enter Tryz.func146, Tryz.ntmps146
  go_wp2_with fail
  go_region
  have hL := hT.old.drew
  by_cases c0 : max h h' = min h h'
  · have z0 : (max h h' == min h h') = true := beq_iff_eq.2 c0
    rw [if_pos c0] at e
    go_wp2_with fail
    go_ret
    exact ⟨by rw [e]; rfl, hL⟩
  · have z0 : (max h h' == min h h') = false := beq_eq_false_iff_ne.2 c0
    rw [if_neg c0] at e
    unfold I64 at h0 h1
    have hw : IntKind.i64.wrap (max h h' - 1) = max h h' - 1 := IntWalk.i64_in _ (by omega)
    by_cases c1 : max h h' - 1 = min h h'
    · have z1 : (max h h' - 1 == min h h') = true := beq_iff_eq.2 c1
      rw [if_pos c1] at e
      go_wp2_with fail
      go_ret
      exact ⟨by rw [e]; rfl, hL⟩
    · have z1 : (max h h' - 1 == min h h') = false := beq_eq_false_iff_ne.2 c1
      rw [if_neg c1] at e
      go_wp2_with fail
      go_ret
      exact ⟨by rw [e]; rfl, hL⟩

end

section
open Go.RowKit Go.Lib

/-- The heights of a map are numbers of 64 bits. -/
def HighAt (m : M3) : Prop := ∀ c ∈ m.cs, I64 c.h
theorem HighAt.get {m : M3} (h : HighAt m) (x y : Int) : I64 (getv m x y).h := by
  unfold getv
  split
  · next hi =>
    obtain ⟨n, hn, _, e⟩ := get_at hi
    unfold getv at e
    rw [if_pos hi] at e
    rw [e]
    exact h _ (List.getElem_mem hn)
  · exact ⟨by decide, by decide⟩

set_option maxHeartbeats 2000000 in
theorem rnear_b (m : M3) (s : Value) (bl : List Bool) (l : Value) (c x y u v : Int) (b : Bool) (W : World) (hh : HighAt m) (hr : RowAt W s m.cs) (hl : BitsAt W l bl) (e : Hid (b = nearv m bl c x y u v)) :
    Calls Tryz.prog 144 #[.agg #[.int .i64 m.w, .int .i64 m.h, s], l, .int .i64 c, .agg #[.int .i64 x, .int .i64 y], .agg #[.int .i64 u, .int .i64 v]] W fun e w' => e = .returned (.bool b) ∧ Below W.heap.size W w' := by
  obtain ⟨o1, h1⟩ : ∃ i, Hid (i = openv m bl c x y) := ⟨_, hid rfl⟩
  obtain ⟨o2, h2⟩ : ∃ i, Hid (i = openv m bl c u v) := ⟨_, hid rfl⟩
  obtain ⟨q1, hq1⟩ : ∃ q, Hid (q = getv m x y) := ⟨_, hid rfl⟩
  obtain ⟨q2, hq2⟩ : ∃ q, Hid (q = getv m u v) := ⟨_, hid rfl⟩
  obtain ⟨i1, hi1⟩ : ∃ i, Hid (i = insidev m x y) := ⟨_, hid rfl⟩
  obtain ⟨i2, hi2⟩ : ∃ i, Hid (i = insidev m u v) := ⟨_, hid rfl⟩
  obtain ⟨r, hrv⟩ : ∃ r, Hid (r = risev q1.h q2.h) := ⟨_, hid rfl⟩
  have k1 : I64 q1.h := by rw [hq1.out]; exact hh.get x y
  have k2 : I64 q2.h := by rw [hq2.out]; exact hh.get u v
  have hb : b = (o1 && o2 && (decide (c = 3) || decide (r < 2))) := by rw [e.out, hrv.out, h1.out, h2.out, hq1.out, hq2.out]; rfl
  clear e
  have hK := (((Keep.nil W).alloc [.int .i64 m.w, .int .i64 m.h, s] 24).alloc [.int .i64 x, .int .i64 y] 29).alloc [.int .i64 u, .int .i64 v] 29
  have hr' := hr.below hK.old
  have hl' := hl.below hK.old
  simp only [World.size_alloc] at hK
  go_enter Tryz.func144, Tryz.ntmps144
  cases o1 with
  | false =>
    subst hb
    go_wp2_with fail
    ((with_reducible refine (ropen_b m s bl l c x y false _ hr' hl' h1).mono ?_); rintro e w1 ⟨rfl, hb1⟩)
    replace hK := hK.call hb1
    go_wp2_with fail
    go_ret
    exact ⟨rfl, hK.old⟩
  | true =>
    go_wp2_with fail
    ((with_reducible refine (ropen_b m s bl l c x y true _ hr' hl' h1).mono ?_); rintro e w1 ⟨rfl, hb1⟩)
    replace hK := hK.call hb1
    replace hr' := hr'.below hb1
    replace hl' := hl'.below hb1
    obtain ⟨hU, hP, hM⟩ := hK.three
    obtain ⟨_, _, _, _, _, _⟩ := hM.three
    obtain ⟨_, _, _, _⟩ := hP.two
    obtain ⟨_, _, _, _⟩ := hU.two
    cases o2 with
    | false =>
      subst hb
      go_wp2_with fail
      ((with_reducible refine (ropen_b m s bl l c u v false _ hr' hl' h2).mono ?_); rintro e w2 ⟨rfl, hb2⟩)
      replace hK := hK.call hb2
      go_wp2_with fail
      go_ret
      exact ⟨rfl, hK.old⟩
    | true =>
      go_wp2_with fail
      ((with_reducible refine (ropen_b m s bl l c u v true _ hr' hl' h2).mono ?_); rintro e w2 ⟨rfl, hb2⟩)
      replace hK := hK.call hb2
      replace hr' := hr'.below hb2
      clear hl' hl h1 h2
      obtain ⟨hU, hP, hM⟩ := hK.three
      obtain ⟨_, _, _, _, _, _⟩ := hM.three
      obtain ⟨_, _, _, _⟩ := hP.two
      obtain ⟨_, _, _, _⟩ := hU.two
      go_wp2_with fail
      ((with_reducible refine (rget_b m s x y q1 i1 _ hr' hi1 hq1).mono ?_); rintro e w3 ⟨rfl, hb3⟩)
      replace hK := hK.call hb3
      replace hr' := hr'.below hb3
      replace hK := hK.alloc [.int .i64 q1.k, .int .i64 q1.h, .int .i64 q1.a] 53
      obtain ⟨hC, hU, hP, hM⟩ := hK.four
      obtain ⟨_, _, _, _, _, _⟩ := hM.three
      obtain ⟨_, _, _, _⟩ := hP.two
      obtain ⟨_, _, _, _⟩ := hU.two
      replace hr' := hr'.below ((Below.refl w3.heap.size w3).alloc (Nat.le_refl _) (.cells [Value.int .i64 q1.k, .int .i64 q1.h, .int .i64 q1.a].toArray 53))
      go_wp2_with fail
      ((with_reducible refine (rget_b m s u v q2 i2 _ hr' hi2 hq2).mono ?_); rintro e w4 ⟨rfl, hb4⟩)
      replace hK := hK.call hb4
      replace hC := (hC.below hb4).alloc (.cells [Value.int .i64 q2.k, .int .i64 q2.h, .int .i64 q2.a].toArray 53)
      have hD := Blk.new w4 [.int .i64 q2.k, .int .i64 q2.h, .int .i64 q2.a] 53
      replace hK := hK.other (.cells [Value.int .i64 q2.k, .int .i64 q2.h, .int .i64 q2.a].toArray 53)
      obtain ⟨_, _, _, _, _, _⟩ := hC.three
      obtain ⟨_, _, _, _, _, _⟩ := hD.three
      by_cases c3 : c = 3
      · subst c3
        go_wp2_with fail
        go_ret
        exact ⟨ret_bit (by rw [hb]; rfl), hK.old⟩
      · have z3 : (c == 3) = false := beq_eq_false_iff_ne.2 c3
        rw [decide_eq_false c3, Bool.false_or, Bool.true_and, Bool.true_and] at hb
        go_wp2_with fail
        ((with_reducible refine (rrise_any q1.k q1.h q1.a q2.k q2.h q2.a r _ k1 k2 hrv).mono ?_); rintro e w5 ⟨rfl, hb5⟩)
        replace hK := hK.call hb5
        go_wp2_with fail
        go_ret
        exact ⟨ret_bit (by rw [hb]), hK.old⟩

end

section
open Go.RowKit Go.Lib

theorem rstepq_b (x y d qx qy : Int) (W : World) (e : Hid (qx = stx x d)) (e' : Hid (qy = sty y d)) : Calls Tryz.prog 102 #[.agg #[.int .i64 x, .int .i64 y], .int .i64 d] W fun e w' => e = .returned (.agg #[.int .i64 qx, .int .i64 qy]) ∧ Below W.heap.size W w' := by
  rw [e.out, e'.out]; exact rstep_any x y d W

set_option maxRecDepth 100000 in
set_option maxHeartbeats 4000000 in
theorem rcost_b (m : M3) (s : Value) (bl : List Bool) (l : Value) (c x y d : Int) (b : Bool) (k : Int) (W : World) (hh : HighAt m) (hr : RowAt W s m.cs) (hl : BitsAt W l bl) (e : Hid (b = mayv m bl c x y d)) (ek : Hid (k = costv m bl c x y d)) :
    Calls Tryz.prog 103 #[.agg #[.int .i64 m.w, .int .i64 m.h, s], l, .int .i64 c, .agg #[.int .i64 x, .int .i64 y], .int .i64 d] W fun e w' => e = .returned (.tuple #[.int .i64 k, .bool b]) ∧ Below W.heap.size W w' := by
  obtain ⟨qx, hqx⟩ : ∃ q, Hid (q = stx x d) := ⟨_, hid rfl⟩
  obtain ⟨qy, hqy⟩ : ∃ q, Hid (q = sty y d) := ⟨_, hid rfl⟩
  obtain ⟨n0, h0⟩ : ∃ i, Hid (i = nearv m bl c x y qx qy) := ⟨_, hid rfl⟩
  obtain ⟨n1, h1⟩ : ∃ i, Hid (i = nearv m bl c x y x qy) := ⟨_, hid rfl⟩
  obtain ⟨n2, h2⟩ : ∃ i, Hid (i = nearv m bl c x qy qx qy) := ⟨_, hid rfl⟩
  obtain ⟨n3, h3⟩ : ∃ i, Hid (i = nearv m bl c x y qx y) := ⟨_, hid rfl⟩
  obtain ⟨n4, h4⟩ : ∃ i, Hid (i = nearv m bl c qx y qx qy) := ⟨_, hid rfl⟩
  obtain ⟨q1, hq1⟩ : ∃ q, Hid (q = getv m x y) := ⟨_, hid rfl⟩
  obtain ⟨q2, hq2⟩ : ∃ q, Hid (q = getv m qx qy) := ⟨_, hid rfl⟩
  obtain ⟨i1, hi1⟩ : ∃ i, Hid (i = insidev m x y) := ⟨_, hid rfl⟩
  obtain ⟨i2, hi2⟩ : ∃ i, Hid (i = insidev m qx qy) := ⟨_, hid rfl⟩
  obtain ⟨r, hrv⟩ : ∃ r, Hid (r = risev q1.h q2.h) := ⟨_, hid rfl⟩
  have k1 : I64 q1.h := by rw [hq1.out]; exact hh.get x y
  have k2 : I64 q2.h := by rw [hq2.out]; exact hh.get qx qy
  have hb : Hid (b = (decide (0 ≤ d ∧ d ≤ 7) && n0 && (decide (d % 2 = 0) || decide (c = 3) || (n1 && n2 && n3 && n4)))) := hid (by rw [e.out, h0.out, h1.out, h2.out, h3.out, h4.out, hqx.out, hqy.out]; rfl)
  have hk : Hid (k = if b = true then (if d % 2 = 1 then 14 else 10) + (if c ≠ 3 ∧ r = 1 then 5 else 0) else 0) := hid (by rw [ek.out, e.out, hrv.out, hq1.out, hq2.out, hqx.out, hqy.out]; rfl)
  clear e ek
  have hK := ((Keep.nil W).alloc [.int .i64 m.w, .int .i64 m.h, s] 24).alloc [.int .i64 x, .int .i64 y] 29
  have hr' := hr.below hK.old
  have hl' := hl.below hK.old
  simp only [World.size_alloc] at hK
  go_enter Tryz.func103, Tryz.ntmps103
  by_cases hd : 0 ≤ d ∧ d ≤ 7
  · obtain ⟨d0, d7⟩ := hd
    have g1 : decide (d < 0) = false := decide_eq_false (by omega)
    have g2 : decide (7 < d) = false := decide_eq_false (by omega)
    obtain ⟨hP, hM⟩ := hK.two
    obtain ⟨_, _, _, _, _, _⟩ := hM.three
    obtain ⟨_, _, _, _⟩ := hP.two
    go_wp2_with fail
    ((with_reducible refine (rstepq_b x y d qx qy _ hqx hqy).mono ?_); rintro e w1 ⟨rfl, hb1⟩)
    replace hK := hK.call hb1
    replace hr' := hr'.below hb1
    replace hl' := hl'.below hb1
    replace hr' := hr'.below ((Below.refl w1.heap.size w1).alloc (Nat.le_refl _) (.cells [Value.int .i64 qx, .int .i64 qy].toArray 29))
    replace hl' := hl'.below ((Below.refl w1.heap.size w1).alloc (Nat.le_refl _) (.cells [Value.int .i64 qx, .int .i64 qy].toArray 29))
    replace hK := hK.alloc [.int .i64 qx, .int .i64 qy] 29
    obtain ⟨hQ, hP, hM⟩ := hK.three
    obtain ⟨_, _, _, _, _, _⟩ := hM.three
    obtain ⟨_, _, _, _⟩ := hP.two
    obtain ⟨_, _, _, _⟩ := hQ.two
    have hmod : d.tmod 2 = d % 2 := Int.tmod_eq_emod_of_nonneg d0
    cases n0 with
    | false =>
      have hbf : b = false := by rw [hb.out, Bool.and_false]; rfl
      have hk0 : k = 0 := by rw [hk.out, if_neg (by rw [hbf]; exact Bool.false_ne_true)]
      subst hbf hk0
      go_wp2_with fail
      ((with_reducible refine (rnear_b m s bl l c x y qx qy false _ hh hr' hl' h0).mono ?_); rintro e w2 ⟨rfl, hb2⟩)
      replace hK := hK.call hb2
      go_wp2_with fail
      exact bodyPost_ret (v := .tuple #[.int .i64 0, .bool false]) (by simp [results, Tryz.results103, go_sem, *]) rfl ⟨rfl, hK.old⟩
    | true =>
      go_wp2_with fail
      generalize w1.heap.size = z at *
      generalize w1.alloc (.cells [Value.int .i64 qx, .int .i64 qy].toArray 29) = W1 at *
      ((with_reducible refine (rnear_b m s bl l c x y qx qy true _ hh hr' hl' h0).mono ?_); rintro e w2 ⟨rfl, hb2⟩)
      replace hK := hK.call hb2
      replace hr' := hr'.below hb2
      replace hl' := hl'.below hb2
      clear hQ hP hM hb2
      obtain ⟨hQ, hP, hM⟩ := hK.three
      obtain ⟨_, _, _, _, _, _⟩ := hM.three
      obtain ⟨_, _, _, _⟩ := hP.two
      obtain ⟨_, _, _, _⟩ := hQ.two
      by_cases hp : d % 2 = 1
      · have g3 : (d.tmod 2 == 1) = true := by rw [hmod, hp]; rfl
        have u1 : ∀ o, (w2.alloc o).cell? ⟨W.heap.size + 1, 0, none⟩ = some (.int .i64 x) := fun o => (hP.alloc o).cell 0
        have u2 : ∀ o, (w2.alloc o).cell? ⟨W.heap.size + 1, 1, none⟩ = some (.int .i64 y) := fun o => (hP.alloc o).cell 1
        have u3 : ∀ o, (w2.alloc o).cell? ⟨z, 0, none⟩ = some (.int .i64 qx) := fun o => (hQ.alloc o).cell 0
        have u4 : ∀ o, (w2.alloc o).cell? ⟨z, 1, none⟩ = some (.int .i64 qy) := fun o => (hQ.alloc o).cell 1
        have u5 : ∀ o o', ((w2.alloc o).alloc o').cell? ⟨W.heap.size + 1, 0, none⟩ = some (.int .i64 x) := fun o o' => ((hP.alloc o).alloc o').cell 0
        have u6 : ∀ o o', ((w2.alloc o).alloc o').cell? ⟨W.heap.size + 1, 1, none⟩ = some (.int .i64 y) := fun o o' => ((hP.alloc o).alloc o').cell 1
        have u7 : ∀ o o', ((w2.alloc o).alloc o').cell? ⟨z, 0, none⟩ = some (.int .i64 qx) := fun o o' => ((hQ.alloc o).alloc o').cell 0
        have u8 : ∀ o o', ((w2.alloc o).alloc o').cell? ⟨z, 1, none⟩ = some (.int .i64 qy) := fun o o' => ((hQ.alloc o).alloc o').cell 1
        go_upto_region 9 with fail
        go_cut [14, 15] from 39 (fun s14 s15 wx => ∃ i j : Nat, s14 = .pointer (some ⟨i, 0, none⟩) ∧ s15 = .pointer (some ⟨j, 0, none⟩) ∧ Blk wx i [.int .i64 x, .int .i64 qy] 29 ∧ Blk wx j [.int .i64 qx, .int .i64 y] 29 ∧ Below w2.heap.size w2 wx)
        case first =>
          go_region
          all_goals
            clear u1 u2 u3 u4 u5 u6 u7 u8
            go_wp2_with fail
            go_meet
            case rel =>
              with_reducible
                refine ⟨_, _, rfl, rfl, ?_, ?_, (((Below.refl w2.heap.size w2).alloc (Nat.le_refl _) _).alloc (by simp) _).drew⟩
                · first | exact ((Blk.new _ _ _).at (World.size_alloc _ _)).drew | exact ((Blk.new _ _ _).alloc _).drew | exact (Blk.new _ _ _).at (World.size_alloc _ _) | exact (Blk.new _ _ _).alloc _
                · first | exact ((Blk.new _ _ _).at (World.size_alloc _ _)).drew | exact ((Blk.new _ _ _).alloc _).drew | exact (Blk.new _ _ _).at (World.size_alloc _ _) | exact (Blk.new _ _ _).alloc _
        case rest =>
        obtain ⟨i, j, rfl, rfl, hO, hU, hq⟩ := hcut
        clear u1 u2 u3 u4 u5 u6 u7 u8
        replace hK := hK.call hq
        replace hr' := hr'.below hq
        replace hl' := hl'.below hq
        clear hq hQ hP hM
        obtain ⟨hQ, hP, hM⟩ := hK.three
        obtain ⟨_, _, _, _, _, _⟩ := hM.three
        obtain ⟨_, _, _, _⟩ := hP.two
        obtain ⟨_, _, _, _⟩ := hQ.two
        obtain ⟨_, _, _, _⟩ := hO.two
        obtain ⟨_, _, _, _⟩ := hU.two
        by_cases c3 : c = 3
        · have z3 : (c == 3) = true := by rw [c3]; rfl
          have hbt : b = true := by rw [hb.out, decide_eq_true ⟨d0, d7⟩, decide_eq_true c3, Bool.or_true]; rfl
          have hkk := hid (hk.out.trans (by rw [hbt, if_pos rfl, if_pos hp]) : k = 14 + (if c ≠ 3 ∧ r = 1 then 5 else 0))
          clear hk hb
          subst hbt
          go_wp2_with fail
          ((with_reducible refine (rget_b m s x y q1 i1 _ hr' hi1 hq1).mono ?_); rintro e w3 ⟨rfl, hb3⟩)
          replace hK := hK.call hb3
          replace hr' := hr'.below hb3
          replace hr' := hr'.below ((Below.refl w3.heap.size w3).alloc (Nat.le_refl _) (.cells [Value.int .i64 q1.k, .int .i64 q1.h, .int .i64 q1.a].toArray 53))
          have hC := Blk.new w3 [.int .i64 q1.k, .int .i64 q1.h, .int .i64 q1.a] 53
          replace hK := hK.other (.cells [Value.int .i64 q1.k, .int .i64 q1.h, .int .i64 q1.a].toArray 53)
          clear hQ hP hM
          obtain ⟨hQ, hP, hM⟩ := hK.three
          obtain ⟨_, _, _, _, _, _⟩ := hM.three
          obtain ⟨_, _, _, _⟩ := hP.two
          obtain ⟨_, _, _, _⟩ := hQ.two
          go_wp2_with fail
          ((with_reducible refine (rget_b m s qx qy q2 i2 _ hr' hi2 hq2).mono ?_); rintro e w4 ⟨rfl, hb4⟩)
          replace hK := hK.call hb4
          replace hC := (hC.below hb4).alloc (.cells [Value.int .i64 q2.k, .int .i64 q2.h, .int .i64 q2.a].toArray 53)
          have hD := Blk.new w4 [.int .i64 q2.k, .int .i64 q2.h, .int .i64 q2.a] 53
          replace hK := hK.other (.cells [Value.int .i64 q2.k, .int .i64 q2.h, .int .i64 q2.a].toArray 53)
          obtain ⟨_, _, _, _, _, _⟩ := hC.three
          obtain ⟨_, _, _, _, _, _⟩ := hD.three
          have hke : k = 14 := by rw [hkk.out, if_neg (fun h => h.1 c3)]; rfl
          have z3 : (c == 3) = true := by rw [c3]; rfl
          subst hke
          go_wp2_with fail
          exact bodyPost_ret (v := .tuple #[.int .i64 14, .bool true]) (by simp [results, Tryz.results103, go_sem, *]) rfl ⟨rfl, hK.old⟩

        · have z3 : (c == 3) = false := beq_eq_false_iff_ne.2 c3
          cases n1 with
          | false =>
            have hbf : b = false := by rw [hb.out, decide_eq_false (show ¬ d % 2 = 0 by omega), decide_eq_false c3]; simp
            have hk0 : k = 0 := by rw [hk.out, if_neg (by rw [hbf]; exact Bool.false_ne_true)]
            clear hk hb
            subst hbf hk0
            go_wp2_with fail
            ((with_reducible refine (rnear_b m s bl l c x y x qy false _ hh hr' hl' h1).mono ?_); rintro e w3 ⟨rfl, hb3⟩)
            replace hK := hK.call hb3
            go_wp2_with fail
            exact bodyPost_ret (v := .tuple #[.int .i64 0, .bool false]) (by simp [results, Tryz.results103, go_sem, *]) rfl ⟨rfl, hK.old⟩
          | true =>
            go_wp2_with fail
            ((with_reducible refine (rnear_b m s bl l c x y x qy true _ hh hr' hl' h1).mono ?_); rintro e v1 ⟨rfl, hb3⟩)
            replace hK := hK.call hb3
            replace hr' := hr'.below hb3
            replace hl' := hl'.below hb3
            replace hO := hO.below hb3
            replace hU := hU.below hb3
            clear hb3 hQ hP hM
            obtain ⟨hQ, hP, hM⟩ := hK.three
            obtain ⟨_, _, _, _, _, _⟩ := hM.three
            obtain ⟨_, _, _, _⟩ := hP.two
            obtain ⟨_, _, _, _⟩ := hQ.two
            obtain ⟨_, _, _, _⟩ := hO.two
            obtain ⟨_, _, _, _⟩ := hU.two
            cases n2 with
            | false =>
              have hbf : b = false := by rw [hb.out, decide_eq_false (show ¬ d % 2 = 0 by omega), decide_eq_false c3]; simp
              have hk0 : k = 0 := by rw [hk.out, if_neg (by rw [hbf]; exact Bool.false_ne_true)]
              clear hk hb
              subst hbf hk0
              go_wp2_with fail
              ((with_reducible refine (rnear_b m s bl l c x qy qx qy false _ hh hr' hl' h2).mono ?_); rintro e w3 ⟨rfl, hb3⟩)
              replace hK := hK.call hb3
              go_wp2_with fail
              exact bodyPost_ret (v := .tuple #[.int .i64 0, .bool false]) (by simp [results, Tryz.results103, go_sem, *]) rfl ⟨rfl, hK.old⟩
            | true =>
              go_wp2_with fail
              ((with_reducible refine (rnear_b m s bl l c x qy qx qy true _ hh hr' hl' h2).mono ?_); rintro e v2 ⟨rfl, hb3⟩)
              replace hK := hK.call hb3
              replace hr' := hr'.below hb3
              replace hl' := hl'.below hb3
              replace hO := hO.below hb3
              replace hU := hU.below hb3
              clear hb3 hQ hP hM
              obtain ⟨hQ, hP, hM⟩ := hK.three
              obtain ⟨_, _, _, _, _, _⟩ := hM.three
              obtain ⟨_, _, _, _⟩ := hP.two
              obtain ⟨_, _, _, _⟩ := hQ.two
              obtain ⟨_, _, _, _⟩ := hO.two
              obtain ⟨_, _, _, _⟩ := hU.two
              cases n3 with
              | false =>
                have hbf : b = false := by rw [hb.out, decide_eq_false (show ¬ d % 2 = 0 by omega), decide_eq_false c3]; simp
                have hk0 : k = 0 := by rw [hk.out, if_neg (by rw [hbf]; exact Bool.false_ne_true)]
                clear hk hb
                subst hbf hk0
                go_wp2_with fail
                ((with_reducible refine (rnear_b m s bl l c x y qx y false _ hh hr' hl' h3).mono ?_); rintro e w3 ⟨rfl, hb3⟩)
                replace hK := hK.call hb3
                go_wp2_with fail
                exact bodyPost_ret (v := .tuple #[.int .i64 0, .bool false]) (by simp [results, Tryz.results103, go_sem, *]) rfl ⟨rfl, hK.old⟩
              | true =>
                go_wp2_with fail
                ((with_reducible refine (rnear_b m s bl l c x y qx y true _ hh hr' hl' h3).mono ?_); rintro e v3 ⟨rfl, hb3⟩)
                replace hK := hK.call hb3
                replace hr' := hr'.below hb3
                replace hl' := hl'.below hb3
                replace hO := hO.below hb3
                replace hU := hU.below hb3
                clear hb3 hQ hP hM
                obtain ⟨hQ, hP, hM⟩ := hK.three
                obtain ⟨_, _, _, _, _, _⟩ := hM.three
                obtain ⟨_, _, _, _⟩ := hP.two
                obtain ⟨_, _, _, _⟩ := hQ.two
                obtain ⟨_, _, _, _⟩ := hO.two
                obtain ⟨_, _, _, _⟩ := hU.two
                cases n4 with
                | false =>
                  have hbf : b = false := by rw [hb.out, decide_eq_false (show ¬ d % 2 = 0 by omega), decide_eq_false c3]; simp
                  have hk0 : k = 0 := by rw [hk.out, if_neg (by rw [hbf]; exact Bool.false_ne_true)]
                  clear hk hb
                  subst hbf hk0
                  go_wp2_with fail
                  ((with_reducible refine (rnear_b m s bl l c qx y qx qy false _ hh hr' hl' h4).mono ?_); rintro e w3 ⟨rfl, hb3⟩)
                  replace hK := hK.call hb3
                  go_wp2_with fail
                  exact bodyPost_ret (v := .tuple #[.int .i64 0, .bool false]) (by simp [results, Tryz.results103, go_sem, *]) rfl ⟨rfl, hK.old⟩
                | true =>
                  go_wp2_with fail
                  ((with_reducible refine (rnear_b m s bl l c qx y qx qy true _ hh hr' hl' h4).mono ?_); rintro e v4 ⟨rfl, hb3⟩)
                  replace hK := hK.call hb3
                  replace hr' := hr'.below hb3
                  replace hl' := hl'.below hb3
                  replace hO := hO.below hb3
                  replace hU := hU.below hb3
                  clear hb3 hQ hP hM
                  obtain ⟨hQ, hP, hM⟩ := hK.three
                  obtain ⟨_, _, _, _, _, _⟩ := hM.three
                  obtain ⟨_, _, _, _⟩ := hP.two
                  obtain ⟨_, _, _, _⟩ := hQ.two
                  obtain ⟨_, _, _, _⟩ := hO.two
                  obtain ⟨_, _, _, _⟩ := hU.two
                  have hbt : b = true := by rw [hb.out, decide_eq_true ⟨d0, d7⟩]; simp
                  have hkk := hid (hk.out.trans (by rw [hbt, if_pos rfl, if_pos hp]) : k = 14 + (if c ≠ 3 ∧ r = 1 then 5 else 0))
                  clear hk hb
                  subst hbt
                  go_wp2_with fail
                  ((with_reducible refine (rget_b m s x y q1 i1 _ hr' hi1 hq1).mono ?_); rintro e w3 ⟨rfl, hb3⟩)
                  replace hK := hK.call hb3
                  replace hr' := hr'.below hb3
                  replace hr' := hr'.below ((Below.refl w3.heap.size w3).alloc (Nat.le_refl _) (.cells [Value.int .i64 q1.k, .int .i64 q1.h, .int .i64 q1.a].toArray 53))
                  have hC := Blk.new w3 [.int .i64 q1.k, .int .i64 q1.h, .int .i64 q1.a] 53
                  replace hK := hK.other (.cells [Value.int .i64 q1.k, .int .i64 q1.h, .int .i64 q1.a].toArray 53)
                  clear hQ hP hM
                  obtain ⟨hQ, hP, hM⟩ := hK.three
                  obtain ⟨_, _, _, _, _, _⟩ := hM.three
                  obtain ⟨_, _, _, _⟩ := hP.two
                  obtain ⟨_, _, _, _⟩ := hQ.two
                  go_wp2_with fail
                  ((with_reducible refine (rget_b m s qx qy q2 i2 _ hr' hi2 hq2).mono ?_); rintro e w4 ⟨rfl, hb4⟩)
                  replace hK := hK.call hb4
                  replace hC := (hC.below hb4).alloc (.cells [Value.int .i64 q2.k, .int .i64 q2.h, .int .i64 q2.a].toArray 53)
                  have hD := Blk.new w4 [.int .i64 q2.k, .int .i64 q2.h, .int .i64 q2.a] 53
                  replace hK := hK.other (.cells [Value.int .i64 q2.k, .int .i64 q2.h, .int .i64 q2.a].toArray 53)
                  obtain ⟨_, _, _, _, _, _⟩ := hC.three
                  obtain ⟨_, _, _, _, _, _⟩ := hD.three
                  have z3 : (c == 3) = false := beq_eq_false_iff_ne.2 c3
                  go_wp2_with fail
                  ((with_reducible refine (rrise_any q1.k q1.h q1.a q2.k q2.h q2.a r _ k1 k2 hrv).mono ?_); rintro e w5 ⟨rfl, hb5⟩)
                  replace hK := hK.call hb5
                  by_cases r1 : r = 1
                  · have z4 : (r == 1) = true := by rw [r1]; rfl
                    have hke : k = 19 := by rw [hkk.out, if_pos ⟨c3, r1⟩]; rfl
                    subst hke
                    go_wp2_with fail
                    exact bodyPost_ret (v := .tuple #[.int .i64 19, .bool true]) (by simp [results, Tryz.results103, go_sem, *]) rfl ⟨rfl, hK.old⟩
                  · have z4 : (r == 1) = false := beq_eq_false_iff_ne.2 r1
                    have hke : k = 14 := by rw [hkk.out, if_neg (fun h => r1 h.2)]; rfl
                    subst hke
                    go_wp2_with fail
                    exact bodyPost_ret (v := .tuple #[.int .i64 14, .bool true]) (by simp [results, Tryz.results103, go_sem, *]) rfl ⟨rfl, hK.old⟩
      · have g3 : (d.tmod 2 == 1) = false := by rw [hmod]; exact beq_eq_false_iff_ne.2 hp
        have hbt : b = true := by rw [hb.out, decide_eq_true ⟨d0, d7⟩, decide_eq_true (show d % 2 = 0 by omega)]; rfl
        have hkk := hid (hk.out.trans (by rw [hbt, if_pos rfl, if_neg hp]) : k = 10 + (if c ≠ 3 ∧ r = 1 then 5 else 0))
        clear hk hb
        subst hbt
        go_wp2_with fail
        ((with_reducible refine (rget_b m s x y q1 i1 _ hr' hi1 hq1).mono ?_); rintro e w3 ⟨rfl, hb3⟩)
        replace hK := hK.call hb3
        replace hr' := hr'.below hb3
        replace hr' := hr'.below ((Below.refl w3.heap.size w3).alloc (Nat.le_refl _) (.cells [Value.int .i64 q1.k, .int .i64 q1.h, .int .i64 q1.a].toArray 53))
        have hC := Blk.new w3 [.int .i64 q1.k, .int .i64 q1.h, .int .i64 q1.a] 53
        replace hK := hK.other (.cells [Value.int .i64 q1.k, .int .i64 q1.h, .int .i64 q1.a].toArray 53)
        clear hQ hP hM
        obtain ⟨hQ, hP, hM⟩ := hK.three
        obtain ⟨_, _, _, _, _, _⟩ := hM.three
        obtain ⟨_, _, _, _⟩ := hP.two
        obtain ⟨_, _, _, _⟩ := hQ.two
        go_wp2_with fail
        ((with_reducible refine (rget_b m s qx qy q2 i2 _ hr' hi2 hq2).mono ?_); rintro e w4 ⟨rfl, hb4⟩)
        replace hK := hK.call hb4
        replace hC := (hC.below hb4).alloc (.cells [Value.int .i64 q2.k, .int .i64 q2.h, .int .i64 q2.a].toArray 53)
        have hD := Blk.new w4 [.int .i64 q2.k, .int .i64 q2.h, .int .i64 q2.a] 53
        replace hK := hK.other (.cells [Value.int .i64 q2.k, .int .i64 q2.h, .int .i64 q2.a].toArray 53)
        obtain ⟨_, _, _, _, _, _⟩ := hC.three
        obtain ⟨_, _, _, _, _, _⟩ := hD.three
        by_cases c3 : c = 3
        · have hke : k = 10 := by rw [hkk.out, if_neg (fun h => h.1 c3)]; rfl
          have z3 : (c == 3) = true := by rw [c3]; rfl
          subst hke
          go_wp2_with fail
          exact bodyPost_ret (v := .tuple #[.int .i64 10, .bool true]) (by simp [results, Tryz.results103, go_sem, *]) rfl ⟨rfl, hK.old⟩
        · have z3 : (c == 3) = false := beq_eq_false_iff_ne.2 c3
          go_wp2_with fail
          ((with_reducible refine (rrise_any q1.k q1.h q1.a q2.k q2.h q2.a r _ k1 k2 hrv).mono ?_); rintro e w5 ⟨rfl, hb5⟩)
          replace hK := hK.call hb5
          by_cases r1 : r = 1
          · have z4 : (r == 1) = true := by rw [r1]; rfl
            have hke : k = 15 := by rw [hkk.out, if_pos ⟨c3, r1⟩]; rfl
            subst hke
            go_wp2_with fail
            exact bodyPost_ret (v := .tuple #[.int .i64 15, .bool true]) (by simp [results, Tryz.results103, go_sem, *]) rfl ⟨rfl, hK.old⟩
          · have z4 : (r == 1) = false := beq_eq_false_iff_ne.2 r1
            have hke : k = 10 := by rw [hkk.out, if_neg (fun h => r1 h.2)]; rfl
            subst hke
            go_wp2_with fail
            exact bodyPost_ret (v := .tuple #[.int .i64 10, .bool true]) (by simp [results, Tryz.results103, go_sem, *]) rfl ⟨rfl, hK.old⟩
  · have hbf : b = false := by rw [hb.out, decide_eq_false hd]; rfl
    have hk0 : k = 0 := by rw [hk.out, if_neg (by rw [hbf]; exact Bool.false_ne_true)]
    subst hbf hk0
    by_cases d0 : d < 0
    · have g1 : decide (d < 0) = true := decide_eq_true d0
      go_wp2_with fail
      exact bodyPost_ret (v := .tuple #[.int .i64 0, .bool false]) (by simp [results, Tryz.results103, go_sem, *]) rfl ⟨rfl, hK.old⟩
    · have g1 : decide (d < 0) = false := decide_eq_false d0
      have g2 : decide (7 < d) = true := decide_eq_true (by omega)
      go_wp2_with fail
      exact bodyPost_ret (v := .tuple #[.int .i64 0, .bool false]) (by simp [results, Tryz.results103, go_sem, *]) rfl ⟨rfl, hK.old⟩

end

end Go.Proofs.YtpgchjhfhndaaaaGreatDoor
