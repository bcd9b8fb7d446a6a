/-
  What the functions of terrain answer: steps.
-/
import Derived.Test.YtpgchjhfhndaaaaGreatDoorTerLandP
import Derived.Test.YtpgchjhfhndaaaaGreatDoorGridLand
import Derived.Test.YtpgchjhfhndaaaaGreatDoorTerRefB
namespace Go.Proofs.YtpgchjhfhndaaaaGreatDoor

section
open Go.RowKit Go.Lib

/-- What a kind of terrain lets pass. -/
def footv (k : Int) : Bool := decide (k = 1 ∨ k = 5)
def hoverv (k : Int) : Bool := decide (k = 1 ∨ k = 5 ∨ k = 2)
def sightv (k : Int) : Bool := !decide (k = 3 ∨ k = 4)
/-- What the functions of terrain ask of the table of passages. -/
structure EnvP (w : World) : Prop where
  pas : ∀ k : Nat, k < 6 → w.cell? ⟨1, k * 3, none⟩ = some (.bool (footv k)) ∧ w.cell? ⟨1, k * 3 + 1, none⟩ = some (.bool (hoverv k)) ∧ w.cell? ⟨1, k * 3 + 2, none⟩ = some (.bool (sightv k))
  big : 1 < w.heap.size
theorem EnvP.keep {w w' : World} (h : EnvP w) (hb : Below w.heap.size w w') : EnvP w' :=
  ⟨fun k hk => ⟨(hb.cell h.big).trans (h.pas k hk).1, (hb.cell h.big).trans (h.pas k hk).2.1, (hb.cell h.big).trans (h.pas k hk).2.2⟩, Nat.lt_of_lt_of_le h.big hb.size⟩

set_option maxHeartbeats 1000000 in
theorem dpassage_b (k : Int) (a b c : Bool) (W : World) (hE : EnvP W) (ea : Hid (a = footv k)) (eb : Hid (b = hoverv k)) (ec : Hid (c = sightv k)) :
    Calls Tryz.prog 165 #[.int .i64 k] W fun e w' => e = .returned (.agg #[.bool a, .bool b, .bool c]) ∧ Below W.heap.size W w' := by
  have hB := Blk.new W [.bool false, .bool false, .bool false] 210
  have hL := (Below.refl W.heap.size W).alloc (Nat.le_refl _) (.cells #[.bool false, .bool false, .bool false] 210)
  have hE1 := hE.keep hL
  by_cases hk : 1 ≤ k ∧ k ≤ 5
  · obtain ⟨n, rfl⟩ := Int.eq_ofNat_of_zero_le (show 0 ≤ k by omega)
    have n0 : (0 : Int) ≤ n := by omega
    have n6 : (n : Int) < 6 := by omega
    obtain ⟨p1, p2, p3⟩ := hE1.pas n (by omega)
    rw [← ea.out] at p1
    rw [← eb.out] at p2
    rw [← ec.out] at p3
    have c1 := dkind_b n true
    have hk' := hid (decide_eq_true hk).symm
    clear hE hE1 ea eb ec hk
    go_enter Tryz.func165, Tryz.ntmps165
    go_wp2_with fail
    ((with_reducible refine (c1 _ hk').mono ?_); rintro e w1 ⟨rfl, hw⟩)
    rw [← hw]
    clear hw
    go_wp2_with fail
    refine bodyPost_ret (v := .agg #[.bool a, .bool b, .bool c]) (by simp [results, Tryz.results165, go_sem]) rfl ⟨rfl, ?_⟩
    exact (Below.refl _ _).alloc (Nat.le_refl _) _
  · obtain ⟨p1, p2, p3⟩ := hE1.pas 0 (by decide)
    rw [Nat.zero_mul] at p1 p2 p3
    have a0 : a = false := by rw [ea.out]; exact decide_eq_false (by omega)
    have b0 : b = false := by rw [eb.out]; exact decide_eq_false (by omega)
    have c0 : c = true := by rw [ec.out]; unfold sightv; rw [decide_eq_false (by omega)]; rfl
    subst a0 b0 c0
    have c1 := dkind_b k false
    have hk' := hid (decide_eq_false hk).symm
    have p1' : (W.alloc (.cells #[.bool false, .bool false, .bool false] 210)).cell? ⟨1, 0, none⟩ = some (.bool false) := p1
    have p2' : (W.alloc (.cells #[.bool false, .bool false, .bool false] 210)).cell? ⟨1, 1, none⟩ = some (.bool false) := p2
    have p3' : (W.alloc (.cells #[.bool false, .bool false, .bool false] 210)).cell? ⟨1, 2, none⟩ = some (.bool true) := p3
    clear hE hE1 ea eb ec hk p1 p2 p3
    go_enter Tryz.func165, Tryz.ntmps165
    go_wp2_with fail
    ((with_reducible refine (c1 _ hk').mono ?_); rintro e w1 ⟨rfl, hw⟩)
    rw [← hw]
    clear hw
    go_wp2_with fail
    refine bodyPost_ret (v := .agg #[.bool false, .bool false, .bool true]) (by simp [results, Tryz.results165, go_sem]) rfl ⟨rfl, ?_⟩
    exact (Below.refl _ _).alloc (Nat.le_refl _) _

theorem pas_f (a b c : Bool) (W : World) : (Instr.field 210 (.agg #[.bool a, .bool b, .bool c]) 0).run Tryz.prog W = .ok (.bool a) W := by kernel_rfl
theorem pas_h (a b c : Bool) (W : World) : (Instr.field 210 (.agg #[.bool a, .bool b, .bool c]) 1).run Tryz.prog W = .ok (.bool b) W := by kernel_rfl
theorem pas_s (a b c : Bool) (W : World) : (Instr.field 210 (.agg #[.bool a, .bool b, .bool c]) 2).run Tryz.prog W = .ok (.bool c) W := by kernel_rfl

set_option maxHeartbeats 2000000 in
theorem dpass_b (m : M3) (s : Value) (c x y : Int) (b : Bool) (W : World) (hE : EnvP W) (hr : RowAt W s m.cs) (e : Hid (b = passv m c x y)) :
    Calls Tryz.prog 121 #[.agg #[.int .i64 m.w, .int .i64 m.h, s], .int .i64 c, .agg #[.int .i64 x, .int .i64 y]] W fun e w' => e = .returned (.bool b) ∧ Below W.heap.size W w' := by
  obtain ⟨q, hq⟩ : ∃ q, Hid (q = getv m x y) := ⟨_, hid rfl⟩
  obtain ⟨i, hi⟩ : ∃ i, Hid (i = insidev m x y) := ⟨_, hid rfl⟩
  obtain ⟨f, hf⟩ : ∃ f, Hid (f = footv q.k) := ⟨_, hid rfl⟩
  obtain ⟨h, hh⟩ : ∃ f, Hid (f = hoverv q.k) := ⟨_, hid rfl⟩
  obtain ⟨g, hg⟩ : ∃ f, Hid (f = sightv q.k) := ⟨_, hid rfl⟩
  have hb : b = if c = 1 then i && f else if c = 2 then i && h else if c = 3 then i else false := by rw [e.out, hi.out, hf.out, hh.out, hq.out]; rfl
  clear e
  have hT := Held2.start W [.int .i64 m.w, .int .i64 m.h, s] [.int .i64 x, .int .i64 y] 24 29
  have hr' := hr.below hT.old
  go_enter Tryz.func121, Tryz.ntmps121
  go_wp2_with fail
  ((with_reducible refine (dget_b m s x y q i _ hr' hi hq).mono ?_); rintro e w1 ⟨rfl, hb1⟩)
  have hL := hT.old.trans (hb1.mono hT.old.size)
  have hC := Blk.new w1 [.int .i64 q.k, .int .i64 q.h, .int .i64 q.a] 53
  replace hL := hL.alloc hL.size (.cells [Value.int .i64 q.k, .int .i64 q.h, .int .i64 q.a].toArray 53)
  obtain ⟨_, _, _, _, _, _⟩ := hC.three
  cases i with
  | false =>
    have hbf : b = false := by rw [hb]; split; rfl; split; rfl; split <;> rfl
    subst hbf
    clear hb
    go_wp2_with fail
    go_ret
    exact ⟨rfl, hL⟩
  | true =>
    have hP := dpassage_b q.k f h g _ (hE.keep hL) hf hh hg
    by_cases c1 : c = 1
    · subst c1
      go_wp2_with fail
      ((with_reducible refine hP.mono ?_); rintro e w2 ⟨rfl, hb2⟩)
      have hs := pas_f f h g w2
      go_wp2_with fail
      go_ret
      exact ⟨ret_bit (by rw [hb]; rfl), below_call hL hb2⟩
    · have y1 : (c == 1) = false := beq_eq_false_iff_ne.2 c1
      rw [if_neg c1] at hb
      by_cases c2 : c = 2
      · subst c2
        go_wp2_with fail
        ((with_reducible refine hP.mono ?_); rintro e w2 ⟨rfl, hb2⟩)
        have hs := pas_h f h g w2
        go_wp2_with fail
        go_ret
        exact ⟨ret_bit (by rw [hb]; rfl), below_call hL hb2⟩
      · have y2 : (c == 2) = false := beq_eq_false_iff_ne.2 c2
        rw [if_neg c2] at hb
        by_cases c3 : c = 3
        · subst c3
          go_wp2_with fail
          go_ret
          exact ⟨ret_bit (by rw [hb]; rfl), hL⟩
        · have y3 : (c == 3) = false := beq_eq_false_iff_ne.2 c3
          go_wp2_with fail
          go_ret
          exact ⟨ret_bit (by rw [hb, if_neg c3]), hL⟩

theorem sub_wrap (D M m : Int) (h0 : 0 ≤ M - m) (h1 : M - m < D) : (M % D - m % D) % D = M - m := by
  rw [← Int.sub_emod]; exact Int.emod_eq_of_lt h0 h1
/-- The difference of two heights, unsigned: of 64 bits. -/
theorem rise_wrap (a b : Int) (ha : I64 a) (hb : I64 b) : IntKind.u64.wrap (IntKind.u64.wrap (max a b) - IntKind.u64.wrap (min a b)) = max a b - min a b := by
  obtain ⟨a0, a1⟩ := ha
  obtain ⟨b0, b1⟩ := hb
  exact sub_wrap 18446744073709551616 (max a b) (min a b) (by omega) (by omega)
set_option maxHeartbeats 1000000 in
theorem drise_b (m : M3) (s : Value) (x y u v : Int) (q r : C3) (W : World) (hr : RowAt W s m.cs) (iq : I64 q.h) (ir : I64 r.h) (hq : Hid (q = getv m x y)) (hq2 : Hid (r = getv m u v)) :
    Calls Tryz.prog 189 #[.agg #[.int .i64 m.w, .int .i64 m.h, s], .agg #[.int .i64 x, .int .i64 y], .agg #[.int .i64 u, .int .i64 v]] W fun e w' => ∃ n : Int, e = .returned (.int .u64 n) ∧ Hid (n = max q.h r.h - min q.h r.h) ∧ Below W.heap.size W w' := by
  obtain ⟨i, hi⟩ : ∃ i, Hid (i = insidev m x y) := ⟨_, hid rfl⟩
  obtain ⟨j, hj⟩ : ∃ i, Hid (i = insidev m u v) := ⟨_, hid rfl⟩
  have hw := rise_wrap q.h r.h iq ir
  have hK := (((Keep.nil W).alloc [.int .i64 m.w, .int .i64 m.h, s] 24).alloc [.int .i64 x, .int .i64 y] 29).alloc [.int .i64 u, .int .i64 v] 29
  have hr' := hr.below hK.old
  simp only [World.size_alloc] at hK
  go_enter Tryz.func189, Tryz.ntmps189
  go_wp2_with fail
  ((with_reducible refine (dget_b m s x y q i _ hr' hi hq).mono ?_); rintro e w1 ⟨rfl, hb1⟩)
  replace hr' := (hr'.below hb1).below ((Below.refl w1.heap.size w1).alloc (Nat.le_refl _) (.cells [Value.int .i64 q.k, .int .i64 q.h, .int .i64 q.a].toArray 53))
  replace hK := (hK.call hb1).alloc [.int .i64 q.k, .int .i64 q.h, .int .i64 q.a] 53
  obtain ⟨hC, hU, hP, hM⟩ := hK.four
  obtain ⟨_, _, _, _, _, _⟩ := hM.three
  obtain ⟨_, _, _, _⟩ := hU.two
  go_wp2_with fail
  generalize w1.heap.size = z at *
  ((with_reducible refine (dget_b m s u v r j _ hr' hj hq2).mono ?_); rintro e w2 ⟨rfl, hb2⟩)
  replace hC := (hC.below hb2).alloc (.cells [Value.int .i64 r.k, .int .i64 r.h, .int .i64 r.a].toArray 53)
  replace hK := (hK.call hb2).alloc [.int .i64 r.k, .int .i64 r.h, .int .i64 r.a] 53
  have hD := Blk.new w2 [.int .i64 r.k, .int .i64 r.h, .int .i64 r.a] 53
  obtain ⟨_, _, _, _, _, _⟩ := hC.three
  obtain ⟨_, _, _, _, _, _⟩ := hD.three
  go_wp2_with fail
  go_ret
  exact ⟨_, rfl, hid rfl, hK.old⟩

end

section
open Go.RowKit Go.Lib

/-- What the functions of terrain ask of the tables of displacements and passages. -/
structure EnvT (w : World) : Prop where
  g : EnvG w
  p : EnvP w
theorem EnvT.keep {w w' : World} (h : EnvT w) (hb : Below w.heap.size w w') : EnvT w' := ⟨h.g.keep hb, h.p.keep hb⟩

end

section
open Go.RowKit Go.Lib

set_option maxHeartbeats 2000000 in
theorem dopen_b (m : M3) (s : Value) (bl : List Bool) (l : Value) (c x y : Int) (b : Bool) (W : World) (hE : EnvT W) (hr : RowAt W s m.cs) (hl : BitsAt W l bl) (e : Hid (b = openv m bl c x y)) :
    Calls Tryz.prog 188 #[.agg #[.int .i64 m.w, .int .i64 m.h, s], l, .int .i64 c, .agg #[.int .i64 x, .int .i64 y]] W fun e w' => e = .returned (.bool b) ∧ Below W.heap.size W w' := by
  obtain ⟨i, hi⟩ : ∃ i, Hid (i = passv m c x y) := ⟨_, hid rfl⟩
  have hb : b = (i && (decide (c = 3) || !(bl.getD (indexv m.w x y).toNat false))) := by rw [e.out, hi.out]; rfl
  clear e
  have hT := Held2.start W [.int .i64 m.w, .int .i64 m.h, s] [.int .i64 x, .int .i64 y] 24 29
  have hr' := hr.below hT.old
  cases i with
  | false =>
    subst hb
    go_enter Tryz.func188, Tryz.ntmps188
    go_wp2_with fail
    ((with_reducible refine (dpass_b m s c x y false _ (hE.p.keep hT.old) hr' hi).mono ?_); rintro e w1 ⟨rfl, hb1⟩)
    go_wp2_with fail
    go_ret
    exact ⟨rfl, hT.old.trans (hb1.mono hT.old.size)⟩
  | true =>
    obtain ⟨n, hlt, hix, -⟩ := get_at (pass_inside hi.out.symm)
    rw [← hix.out, Int.toNat_natCast, Bool.true_and] at hb
    have hm := hr.choose_spec.choose_spec.2.1
    have hl' := (hl.below hT.old)
    obtain ⟨p, k, rfl, hk, -⟩ := id hl
    go_enter Tryz.func188, Tryz.ntmps188
    go_wp2_with fail
    ((with_reducible refine (dpass_b m s c x y true _ (hE.p.keep hT.old) hr' hi).mono ?_); rintro e w1 ⟨rfl, hb1⟩)
    have hT1 := hT.call hb1
    replace hl' := hl'.below hb1
    obtain ⟨_, _, _, _, _, _⟩ := hT1.l.three
    obtain ⟨_, _, _, _⟩ := hT1.r.two
    go_wp2_with fail
    ((with_reducible refine (dindex_b _ x y n _ hix).mono ?_); rintro e w2 ⟨rfl, hb2⟩)
    have hT2 := hT1.call hb2
    replace hl' := hl'.below hb2
    unfold maxLen at hm hk
    by_cases c3 : c = 3
    · subst c3
      go_wp2_with fail
      go_ret
      exact ⟨ret_bit (by rw [hb]; rfl), hT2.old⟩
    · have z3 : (c == 3) = false := beq_eq_false_iff_ne.2 c3
      rw [decide_eq_false c3, Bool.false_or] at hb
      by_cases hnl : n < bl.length
      · obtain ⟨p', k', e', -, hc⟩ := hl'
        obtain ⟨g, o, rfl, hat⟩ := hc (by omega)
        obtain ⟨rfl, -, rfl⟩ : p = some ⟨g, o, none⟩ ∧ True ∧ k = k' := by injection e' with e1 _ e2; exact ⟨e1, trivial, e2⟩
        have h1 := hat n hnl
        obtain ⟨v, hv⟩ : ∃ v, v = bl[n]'hnl := ⟨_, rfl⟩
        rw [← hv] at h1
        have hb' : b = !v := by rw [hb, hv, List.getD_eq_getElem?_getD, List.getElem?_eq_getElem hnl]; rfl
        have g1 : decide ((bl.length : Int) ≤ (n : Int)) = false := decide_eq_false (by omega)
        have n1 : (0 : Int) ≤ n := by omega
        have n2 : (n : Int) < bl.length := by omega
        clear hat hc hb
        go_wp2_with fail
        go_ret
        exact ⟨ret_bit (by rw [hb', hv, decide_eq_false (by omega), Bool.false_or]), hT2.old⟩
      · have hb' : b = true := by rw [hb, List.getD_eq_getElem?_getD, List.getElem?_eq_none (by omega)]; rfl
        have g1 : decide ((bl.length : Int) ≤ (n : Int)) = true := decide_eq_true (by omega)
        go_wp2_with fail
        go_ret
        exact ⟨ret_bit hb'.symm, hT2.old⟩

theorem rise_low (a b : Int) : decide (max a b - min a b ≤ 1) = decide (risev a b < 2) := by
  refine decide_eq_decide.2 ?_
  unfold risev
  split
  · omega
  · split <;> omega
theorem rise_pos (a b : Int) : decide (0 < max a b - min a b) = decide (risev a b ≠ 0) := by
  refine decide_eq_decide.2 ?_
  unfold risev
  split
  · omega
  · split <;> omega

set_option maxHeartbeats 2000000 in
theorem djoin_b (m : M3) (s : Value) (bl : List Bool) (l : Value) (c x y u v : Int) (b : Bool) (W : World) (hE : EnvT W) (hh : HighAt m) (hr : RowAt W s m.cs) (hl : BitsAt W l bl) (e : Hid (b = nearv m bl c x y u v)) :
    Calls Tryz.prog 170 #[.agg #[.int .i64 m.w, .int .i64 m.h, s], l, .int .i64 c, .agg #[.int .i64 x, .int .i64 y], .agg #[.int .i64 u, .int .i64 v]] W fun e w' => e = .returned (.bool b) ∧ Below W.heap.size W w' := by
  obtain ⟨o1, h1⟩ : ∃ i, Hid (i = openv m bl c x y) := ⟨_, hid rfl⟩
  obtain ⟨o2, h2⟩ : ∃ i, Hid (i = openv m bl c u v) := ⟨_, hid rfl⟩
  obtain ⟨q1, hq1⟩ : ∃ q, Hid (q = getv m x y) := ⟨_, hid rfl⟩
  obtain ⟨q2, hq2⟩ : ∃ q, Hid (q = getv m u v) := ⟨_, hid rfl⟩
  have k1 : I64 q1.h := by rw [hq1.out]; exact hh.get x y
  have k2 : I64 q2.h := by rw [hq2.out]; exact hh.get u v
  have hb : b = (o1 && o2 && (decide (c = 3) || decide (max q1.h q2.h - min q1.h q2.h ≤ 1))) := by rw [e.out, rise_low, h1.out, h2.out, hq1.out, hq2.out]; rfl
  clear e
  have hK := (((Keep.nil W).alloc [.int .i64 m.w, .int .i64 m.h, s] 24).alloc [.int .i64 x, .int .i64 y] 29).alloc [.int .i64 u, .int .i64 v] 29
  have hr' := hr.below hK.old
  have hl' := hl.below hK.old
  simp only [World.size_alloc] at hK
  go_enter Tryz.func170, Tryz.ntmps170
  cases o1 with
  | false =>
    subst hb
    go_wp2_with fail
    ((with_reducible refine (dopen_b m s bl l c x y false _ (hE.keep hK.old) hr' hl' h1).mono ?_); rintro e w1 ⟨rfl, hb1⟩)
    replace hK := hK.call hb1
    go_wp2_with fail
    go_ret
    exact ⟨rfl, hK.old⟩
  | true =>
    go_wp2_with fail
    ((with_reducible refine (dopen_b m s bl l c x y true _ (hE.keep hK.old) hr' hl' h1).mono ?_); rintro e w1 ⟨rfl, hb1⟩)
    replace hK := hK.call hb1
    replace hr' := hr'.below hb1
    replace hl' := hl'.below hb1
    obtain ⟨hU, hP, hM⟩ := hK.three
    obtain ⟨_, _, _, _, _, _⟩ := hM.three
    obtain ⟨_, _, _, _⟩ := hP.two
    obtain ⟨_, _, _, _⟩ := hU.two
    cases o2 with
    | false =>
      subst hb
      go_wp2_with fail
      ((with_reducible refine (dopen_b m s bl l c u v false _ (hE.keep hK.old) hr' hl' h2).mono ?_); rintro e w2 ⟨rfl, hb2⟩)
      replace hK := hK.call hb2
      go_wp2_with fail
      go_ret
      exact ⟨rfl, hK.old⟩
    | true =>
      go_wp2_with fail
      ((with_reducible refine (dopen_b m s bl l c u v true _ (hE.keep hK.old) hr' hl' h2).mono ?_); rintro e w2 ⟨rfl, hb2⟩)
      replace hK := hK.call hb2
      replace hr' := hr'.below hb2
      clear hl' hl h1 h2
      obtain ⟨hU, hP, hM⟩ := hK.three
      obtain ⟨_, _, _, _, _, _⟩ := hM.three
      obtain ⟨_, _, _, _⟩ := hP.two
      obtain ⟨_, _, _, _⟩ := hU.two
      by_cases c3 : c = 3
      · have z3 : (c == 3) = true := by rw [c3]; rfl
        go_wp2_with fail
        go_ret
        exact ⟨ret_bit (by rw [hb, decide_eq_true c3]; rfl), hK.old⟩
      · have z3 : (c == 3) = false := beq_eq_false_iff_ne.2 c3
        go_wp2_with fail
        ((with_reducible refine (drise_b m s x y u v q1 q2 _ hr' k1 k2 hq1 hq2).mono ?_); rintro e w3 ⟨n, rfl, hn, hb3⟩)
        replace hK := hK.call hb3
        go_wp2_with fail
        go_ret
        exact ⟨ret_bit (by rw [hb, decide_eq_false c3, ← hn.out]; rfl), hK.old⟩

end

section
open Go.RowKit Go.Lib

set_option maxHeartbeats 400000 in
theorem ddiag_b (d : Int) (b : Bool) (W : World) (d0 : 0 ≤ d) (e : Hid (b = decide (d % 2 = 1))) :
    Calls Tryz.prog 171 #[.int .i64 d] W fun e w' => e = .returned (.bool b) ∧ W = w' := by
  have e := e.out
  have hmod : d.tmod 2 = d % 2 := Int.tmod_eq_emod_of_nonneg d0
  go_enter Tryz.func171, Tryz.ntmps171
  go_wp2_with fail
  go_ret
  exact ⟨ret_bit (by rw [e]; by_cases h : d % 2 = 1 <;> simp [h]), rfl⟩

/-- The corner of a round, and whether its two steps are possible. -/
def dirv (d : Int) (i : Nat) : Int := if i = 0 then d - 1 else (d + 1) % 8
def wayv (m : M3) (bl : List Bool) (c x y d : Int) (i : Nat) : Bool :=
  nearv m bl c x y (stx x (dirv d i)) (sty y (dirv d i)) && nearv m bl c (stx x (dirv d i)) (sty y (dirv d i)) (stx x d) (sty y d)

theorem dstepq_b (x y d qx qy : Int) (W : World) (hE : EnvT W) (e : Hid (qx = stx x d)) (e' : Hid (qy = sty y d)) : Calls Tryz.prog 139 #[.agg #[.int .i64 x, .int .i64 y], .int .i64 d] W fun e w' => e = .returned (.agg #[.int .i64 qx, .int .i64 qy]) ∧ Below W.heap.size W w' := by
  rw [e.out, e'.out]; exact dstep_any x y d W hE.g

theorem ix_0 (a b : Int) (W : World) : (Instr.index 231 (.agg #[.int .i64 a, .int .i64 b]) (.int .i64 0)).run Tryz.prog W = .ok (.int .i64 a) W := by kernel_rfl
theorem ix_1 (a b : Int) (W : World) : (Instr.index 231 (.agg #[.int .i64 a, .int .i64 b]) (.int .i64 1)).run Tryz.prog W = .ok (.int .i64 b) W := by kernel_rfl

set_option maxRecDepth 100000 in
set_option maxHeartbeats 4000000 in
theorem dboth_b (m : M3) (s : Value) (bl : List Bool) (l : Value) (c x y d : Int) (b : Bool) (W : World) (hE : EnvT W) (hh : HighAt m) (hr : RowAt W s m.cs) (hl : BitsAt W l bl) (d1 : 1 ≤ d) (d7 : d ≤ 7) (e : Hid (b = (wayv m bl c x y d 0 && wayv m bl c x y d 1))) :
    Calls Tryz.prog 172 #[.agg #[.int .i64 m.w, .int .i64 m.h, s], l, .int .i64 c, .agg #[.int .i64 x, .int .i64 y], .int .i64 d] W fun e w' => e = .returned (.bool b) ∧ Below W.heap.size W w' := by
  obtain ⟨qx, hqx⟩ : ∃ q, Hid (q = stx x d) := ⟨_, hid rfl⟩
  obtain ⟨qy, hqy⟩ : ∃ q, Hid (q = sty y d) := ⟨_, hid rfl⟩
  have e1 : IntKind.i64.wrap (d - 1) = d - 1 := IntWalk.i64_in _ (by omega)
  have e2 : IntKind.i64.wrap (d + 1) = d + 1 := IntWalk.i64_in _ (by omega)
  have e3 : (d + 1).tmod 8 = (d + 1) % 8 := Int.tmod_eq_emod_of_nonneg (by omega)
  have e4 : IntKind.i64.wrap ((d + 1) % 8) = (d + 1) % 8 := IntWalk.i64_in _ (by omega)
  obtain ⟨u, hu⟩ : ∃ q, d - 1 = q := ⟨_, rfl⟩
  obtain ⟨v, hv⟩ : ∃ q, (d + 1) % 8 = q := ⟨_, rfl⟩
  rw [hu] at e1
  rw [hv] at e3 e4
  have hK := ((Keep.nil W).alloc [.int .i64 m.w, .int .i64 m.h, s] 24).alloc [.int .i64 x, .int .i64 y] 29
  have hr' := hr.below hK.old
  have hl' := hl.below hK.old
  simp only [World.size_alloc] at hK
  go_enter Tryz.func172, Tryz.ntmps172
  go_wp2_with fail
  ((with_reducible refine (dstepq_b x y d qx qy _ (hE.keep hK.old) hqx hqy).mono ?_); rintro e w1 ⟨rfl, hb1⟩)
  replace hr' := (hr'.below hb1).below ((Below.refl w1.heap.size w1).alloc (Nat.le_refl _) (.cells [Value.int .i64 qx, .int .i64 qy].toArray 29))
  replace hl' := (hl'.below hb1).below ((Below.refl w1.heap.size w1).alloc (Nat.le_refl _) (.cells [Value.int .i64 qx, .int .i64 qy].toArray 29))
  replace hK := (hK.call hb1).alloc [.int .i64 qx, .int .i64 qy] 29
  clear hb1
  go_wp2_with fail
  generalize w1.heap.size = z at *
  generalize w1.alloc (.cells #[Value.int .i64 qx, .int .i64 qy] 29) = W1 at *
  go_loopw [24] (fun vi wr => ∃ i : Nat, vi = .int .i64 i ∧ i ≤ 2 ∧ Keep W wr [(z, [Value.int .i64 qx, .int .i64 qy], 29), (W.heap.size + 1, [Value.int .i64 x, .int .i64 y], 29), (W.heap.size, [Value.int .i64 m.w, .int .i64 m.h, s], 24)] ∧ RowAt wr s m.cs ∧ BitsAt wr l bl ∧ Hid (∀ j, j < i → wayv m bl c x y d j = true)) (fun vi _ => 2 - (RowKit.intOf vi).toNat)
  case atStart => exact ⟨0, rfl, by omega, hK, hr', hl', hid (fun j h => by omega)⟩
  case round =>
    clear hK hr' hl'
    obtain ⟨i, rfl, hi, hK, hr', hl', hG⟩ := hrel
    obtain ⟨hQ, hP, hM⟩ := hK.three
    obtain ⟨_, _, _, _, _, _⟩ := hM.three
    obtain ⟨_, _, _, _⟩ := hP.two
    obtain ⟨_, _, _, _⟩ := hQ.two
    by_cases hlt : i < 2
    · obtain ⟨k, hk, hkk⟩ : ∃ k, k = dirv d i ∧ (i = 0 ∧ k = u ∨ i = 1 ∧ k = v) := by
        rcases (show i = 0 ∨ i = 1 by omega) with rfl | rfl
        · exact ⟨u, hu.symm, .inl ⟨rfl, rfl⟩⟩
        · exact ⟨v, hv.symm, .inr ⟨rfl, rfl⟩⟩
      obtain ⟨ox, hox⟩ : ∃ q, Hid (q = stx x k) := ⟨_, hid rfl⟩
      obtain ⟨oy, hoy⟩ : ∃ q, Hid (q = sty y k) := ⟨_, hid rfl⟩
      obtain ⟨n1, hn1⟩ : ∃ q, Hid (q = nearv m bl c x y ox oy) := ⟨_, hid rfl⟩
      obtain ⟨n2, hn2⟩ : ∃ q, Hid (q = nearv m bl c ox oy qx qy) := ⟨_, hid rfl⟩
      have hw : Hid (wayv m bl c x y d i = (n1 && n2)) := hid (by unfold wayv; rw [← hk, ← hox.out, ← hoy.out, ← hqx.out, ← hqy.out, ← hn1.out, ← hn2.out])
      have hF : Hid (wayv m bl c x y d i = false → b = false) := hid fun h => by
        rw [e.out]
        rcases (show i = 0 ∨ i = 1 by omega) with rfl | rfl
        · rw [h]; rfl
        · rw [h, Bool.and_false]
      have hS := fun W' hE' => dstepq_b x y k ox oy W' hE' hox hoy
      clear hox hoy hk hqx hqy e hu hv e1 e2 e3 e4
      have hi0 := fun a b => ix_0 a b wr
      have hi1 := fun a b => ix_1 a b wr
      rcases hkk with ⟨rfl, rfl⟩ | ⟨rfl, rfl⟩
      all_goals
        go_wp2_with fail
        ((with_reducible refine (hS _ (hE.keep hK.old)).mono ?_); rintro e w2 ⟨rfl, hb2⟩)
        replace hr' := (hr'.below hb2).below ((Below.refl w2.heap.size w2).alloc (Nat.le_refl _) (.cells [Value.int .i64 ox, .int .i64 oy].toArray 29))
        replace hl' := (hl'.below hb2).below ((Below.refl w2.heap.size w2).alloc (Nat.le_refl _) (.cells [Value.int .i64 ox, .int .i64 oy].toArray 29))
        replace hK := (hK.call hb2).alloc [.int .i64 ox, .int .i64 oy] 29
        clear hb2 hS hQ hP hM
        obtain ⟨hO, hQ, hP, hM⟩ := hK.four
        obtain ⟨_, _, _, _, _, _⟩ := hM.three
        obtain ⟨_, _, _, _⟩ := hP.two
        obtain ⟨_, _, _, _⟩ := hQ.two
        obtain ⟨_, _, _, _⟩ := hO.two
        go_wp2_with fail
        generalize w2.heap.size = z2 at *
        clear hi0 hi1
        have hj1 := fun W' hE' hr hl => djoin_b m s bl l c x y ox oy n1 W' hE' hh hr hl hn1
        have hj2 := fun W' hE' hr hl => djoin_b m s bl l c ox oy qx qy n2 W' hE' hh hr hl hn2
        clear hn1 hn2
        ((with_reducible refine (hj1 _ (hE.keep hK.old) hr' hl').mono ?_); rintro e w3 ⟨rfl, hb3⟩)
        replace hr' := hr'.below hb3
        replace hl' := hl'.below hb3
        replace hK := hK.call hb3
        clear hb3 hj1 hO hQ hP hM
        obtain ⟨hO, hQ, hP, hM⟩ := hK.four
        obtain ⟨_, _, _, _, _, _⟩ := hM.three
        obtain ⟨_, _, _, _⟩ := hP.two
        obtain ⟨_, _, _, _⟩ := hQ.two
        obtain ⟨_, _, _, _⟩ := hO.two
        cases n1 with
        | false =>
          obtain rfl := hF.out hw.out
          clear hF hw hG
          go_wp2_with fail
          go_ret
          exact ⟨rfl, hK.old⟩
        | true =>
          go_wp2_with fail
          ((with_reducible refine (hj2 _ (hE.keep hK.old) hr' hl').mono ?_); rintro e w4 ⟨rfl, hb4⟩)
          replace hr' := hr'.below hb4
          replace hl' := hl'.below hb4
          replace hK := hK.call hb4
          clear hb4 hj2 hO hQ hP hM
          cases n2 with
          | false =>
            obtain rfl := hF.out hw.out
            clear hF hw hG
            go_wp2_with fail
            go_ret
            exact ⟨rfl, hK.old⟩
          | true =>
            have hN := hid (show ∀ j, j < _ + 1 → wayv m bl c x y d j = true from fun j hj => (Nat.lt_succ_iff_lt_or_eq.1 hj).elim (hG.out j) fun h => by rw [h]; exact hw.out)
            clear hF hw hG
            go_wp2_with fail
            go_roundw
            case rel => exact ⟨_, by go_num, by omega, hK.tail, hr', hl', hN⟩
            case measure => simp [RowKit.intOf]
    · obtain rfl : i = 2 := by omega
      have hbt : b = true := by rw [e.out, hG.out 0 (by omega), hG.out 1 (by omega)]; rfl
      subst hbt
      clear hG e
      go_wp2_with fail
      go_ret
      exact ⟨rfl, hK.old⟩

end

section
open Go.RowKit Go.Lib

/-- Both corners: the same two, whichever comes first. -/
theorem way_both {m : M3} {bl : List Bool} {c x y d : Int} (hi : insidev m x y = true) (hd : d % 2 = 1) (d0 : 0 ≤ d) (d7 : d ≤ 7) :
    (wayv m bl c x y d 0 && wayv m bl c x y d 1) = (nearv m bl c x y x (sty y d) && nearv m bl c x (sty y d) (stx x d) (sty y d) && nearv m bl c x y (stx x d) y && nearv m bl c (stx x d) y (stx x d) (sty y d)) := by
  obtain ⟨X, Y, a, b, _, _, hx, hy, ha, hb, hX, hY, _, _, _⟩ := inside_at hi
  have nx : nr x = x := nr_in (by omega) (by omega)
  have ny : nr y = y := nr_in (by omega) (by omega)
  have bool4 : ∀ p q r s : Bool, ((p && q) && (r && s)) = (r && s && p && q) := by decide
  have bool4' : ∀ p q r s : Bool, ((p && q) && (r && s)) = (p && q && r && s) := by decide
  rcases (show d = 1 ∨ d = 3 ∨ d = 5 ∨ d = 7 by omega) with rfl | rfl | rfl | rfl
  · have e1 : dirv 1 0 = 0 := rfl
    have e2 : dirv 1 1 = 2 := rfl
    have f1 : stx x 0 = x + 1 := by rw [← nx]; simp [stx, shx, nx]
    have f2 : sty y 0 = y := by simp [sty, shy, ny]
    have f3 : stx x 2 = x := by simp [stx, shx, nx]
    have f4 : sty y 2 = y + 1 := by simp [sty, shy, ny]
    have f5 : stx x 1 = x + 1 := by simp [stx, shx, nx]
    have f6 : sty y 1 = y + 1 := by simp [sty, shy, ny]
    unfold wayv
    rw [e1, e2, f1, f2, f3, f4, f5, f6]
    exact bool4 _ _ _ _
  · have e1 : dirv 3 0 = 2 := rfl
    have e2 : dirv 3 1 = 4 := rfl
    have f1 : stx x 2 = x := by simp [stx, shx, nx]
    have f2 : sty y 2 = y + 1 := by simp [sty, shy, ny]
    have f3 : stx x 4 = x + -1 := by simp [stx, shx, nx]
    have f4 : sty y 4 = y := by simp [sty, shy, ny]
    have f5 : stx x 3 = x + -1 := by simp [stx, shx, nx]
    have f6 : sty y 3 = y + 1 := by simp [sty, shy, ny]
    unfold wayv
    rw [e1, e2, f1, f2, f3, f4, f5, f6]
    exact bool4' _ _ _ _
  · have e1 : dirv 5 0 = 4 := rfl
    have e2 : dirv 5 1 = 6 := rfl
    have f1 : stx x 4 = x + -1 := by simp [stx, shx, nx]
    have f2 : sty y 4 = y := by simp [sty, shy, ny]
    have f3 : stx x 6 = x := by simp [stx, shx, nx]
    have f4 : sty y 6 = y + -1 := by simp [sty, shy, ny]
    have f5 : stx x 5 = x + -1 := by simp [stx, shx, nx]
    have f6 : sty y 5 = y + -1 := by simp [sty, shy, ny]
    unfold wayv
    rw [e1, e2, f1, f2, f3, f4, f5, f6]
    exact bool4 _ _ _ _
  · have e1 : dirv 7 0 = 6 := rfl
    have e2 : dirv 7 1 = 0 := rfl
    have f1 : stx x 6 = x := by simp [stx, shx, nx]
    have f2 : sty y 6 = y + -1 := by simp [sty, shy, ny]
    have f3 : stx x 0 = x + 1 := by simp [stx, shx, nx]
    have f4 : sty y 0 = y := by simp [sty, shy, ny]
    have f5 : stx x 7 = x + 1 := by simp [stx, shx, nx]
    have f6 : sty y 7 = y + -1 := by simp [sty, shy, ny]
    unfold wayv
    rw [e1, e2, f1, f2, f3, f4, f5, f6]
    exact bool4' _ _ _ _

set_option maxHeartbeats 2000000 in
theorem dprice_b (m : M3) (s : Value) (c x y u v d : Int) (q1 q2 : C3) (k : Int) (W : World) (hr : RowAt W s m.cs) (k1 : I64 q1.h) (k2 : I64 q2.h) (hq1 : Hid (q1 = getv m x y)) (hq2 : Hid (q2 = getv m u v)) (d0 : 0 ≤ d)
    (e : Hid (k = (if d % 2 = 1 then 14 else 10) + (if c ≠ 3 ∧ risev q1.h q2.h ≠ 0 then 5 else 0))) :
    Calls Tryz.prog 173 #[.agg #[.int .i64 m.w, .int .i64 m.h, s], .int .i64 c, .agg #[.int .i64 x, .int .i64 y], .agg #[.int .i64 u, .int .i64 v], .int .i64 d] W fun e w' => e = .returned (.int .i64 k) ∧ Below W.heap.size W w' := by
  obtain ⟨g, hg⟩ : ∃ g, Hid (g = decide (d % 2 = 1)) := ⟨_, hid rfl⟩
  have hD := fun W' => ddiag_b d g W' d0 hg
  have hK := (((Keep.nil W).alloc [.int .i64 m.w, .int .i64 m.h, s] 24).alloc [.int .i64 x, .int .i64 y] 29).alloc [.int .i64 u, .int .i64 v] 29
  have hr' := hr.below hK.old
  simp only [World.size_alloc] at hK
  have hk : k = (if g = true then 14 else 10) + (if c ≠ 3 ∧ risev q1.h q2.h ≠ 0 then 5 else 0) := by rw [e.out, hg.out]; simp only [decide_eq_true_eq]
  clear e hg
  go_enter Tryz.func173, Tryz.ntmps173
  cases g
  all_goals
    simp only [Bool.false_eq_true, if_true, if_false] at hk
    go_wp2_with fail
    ((with_reducible refine (hD _).mono ?_); rintro e w1 ⟨rfl, hw⟩)
    rw [← hw]
    clear hw
    by_cases c3 : c = 3
    · have z3 : (c == 3) = true := by rw [c3]; rfl
      rw [if_neg (fun h => h.1 c3)] at hk
      go_wp2_with fail
      go_ret
      exact ⟨by rw [hk]; rfl, hK.old⟩
    · have z3 : (c == 3) = false := beq_eq_false_iff_ne.2 c3
      go_wp2_with fail
      ((with_reducible refine (drise_b m s x y u v q1 q2 _ hr' k1 k2 hq1 hq2).mono ?_); rintro e w2 ⟨n, rfl, hn, hb2⟩)
      have hL := below_call hK.old hb2
      have hp := rise_pos q1.h q2.h
      rw [← hn.out] at hp
      by_cases hz : risev q1.h q2.h ≠ 0
      · rw [decide_eq_true hz] at hp
        rw [if_pos ⟨c3, hz⟩] at hk
        clear hz hn
        go_wp2_with fail
        go_ret
        exact ⟨by rw [hk]; rfl, hL⟩
      · rw [decide_eq_false hz] at hp
        rw [if_neg (fun h => hz h.2)] at hk
        clear hz hn
        go_wp2_with fail
        go_ret
        exact ⟨by rw [hk]; rfl, hL⟩

theorem rise_three (a b : Int) : risev a b = 0 ∨ risev a b = 1 ∨ risev a b = 2 := by
  unfold risev; split
  · exact .inl rfl
  · split
    · exact .inr (.inl rfl)
    · exact .inr (.inr rfl)
/-- What a possible step costs. -/
theorem cost_eq {m : M3} {bl : List Bool} {c x y d : Int} (h : mayv m bl c x y d = true) :
    costv m bl c x y d = (if d % 2 = 1 then 14 else 10) + (if c ≠ 3 ∧ risev (getv m x y).h (getv m (stx x d) (sty y d)).h ≠ 0 then 5 else 0) := by
  unfold costv
  rw [if_pos h]
  congr 1
  by_cases c3 : c = 3
  · rw [if_neg (fun g => g.1 c3), if_neg (fun g => g.1 c3)]
  · have hr : risev (getv m x y).h (getv m (stx x d) (sty y d)).h < 2 := by
      unfold mayv nearv at h
      rw [decide_eq_false c3] at h
      simp only [Bool.and_eq_true, Bool.false_or, decide_eq_true_eq] at h
      exact h.1.2.2
    rcases rise_three (getv m x y).h (getv m (stx x d) (sty y d)).h with r | r | r
    · rw [r]; simp
    · rw [r]; simp
    · omega
theorem near_inside {m : M3} {bl : List Bool} {c x y u v : Int} (h : nearv m bl c x y u v = true) : insidev m x y = true := by
  unfold nearv openv at h
  simp only [Bool.and_eq_true] at h
  exact pass_inside h.1.1.1

set_option maxRecDepth 100000 in
set_option maxHeartbeats 4000000 in
theorem dcost_b (m : M3) (s : Value) (bl : List Bool) (l : Value) (c x y d : Int) (b : Bool) (k : Int) (W : World) (hE : EnvT W) (hh : HighAt m) (hr : RowAt W s m.cs) (hl : BitsAt W l bl) (e : Hid (b = mayv m bl c x y d)) (ek : Hid (k = costv m bl c x y d)) :
    Calls Tryz.prog 133 #[.agg #[.int .i64 m.w, .int .i64 m.h, s], l, .int .i64 c, .agg #[.int .i64 x, .int .i64 y], .int .i64 d] W fun e w' => e = .returned (.tuple #[.int .i64 k, .bool b]) ∧ Below W.heap.size W w' := by
  obtain ⟨qx, hqx⟩ : ∃ q, Hid (q = stx x d) := ⟨_, hid rfl⟩
  obtain ⟨qy, hqy⟩ : ∃ q, Hid (q = sty y d) := ⟨_, hid rfl⟩
  obtain ⟨n0, h0⟩ : ∃ i, Hid (i = nearv m bl c x y qx qy) := ⟨_, hid rfl⟩
  obtain ⟨n1, h1⟩ : ∃ i, Hid (i = (wayv m bl c x y d 0 && wayv m bl c x y d 1)) := ⟨_, hid rfl⟩
  obtain ⟨q1, hq1⟩ : ∃ q, Hid (q = getv m x y) := ⟨_, hid rfl⟩
  obtain ⟨q2, hq2⟩ : ∃ q, Hid (q = getv m qx qy) := ⟨_, hid rfl⟩
  have k1 : I64 q1.h := by rw [hq1.out]; exact hh.get x y
  have k2 : I64 q2.h := by rw [hq2.out]; exact hh.get qx qy
  have hb : Hid (0 ≤ d → d ≤ 7 → b = (n0 && (!decide (d % 2 = 1) || decide (c = 3) || n1))) := hid fun d0 d7 => by
    rw [e.out, h0.out, hqx.out, hqy.out]
    unfold mayv
    rw [decide_eq_true (show 0 ≤ d ∧ d ≤ 7 from ⟨d0, d7⟩), Bool.true_and]
    cases hn : nearv m bl c x y (stx x d) (sty y d) with
    | false => rfl
    | true =>
      rw [Bool.true_and, Bool.true_and]
      by_cases hp : d % 2 = 1
      · rw [h1.out, way_both (near_inside hn) hp d0 d7, decide_eq_true hp, decide_eq_false (show ¬ d % 2 = 0 by omega)]; rfl
      · rw [decide_eq_false hp, decide_eq_true (show d % 2 = 0 by omega)]; rfl
  have hk : Hid (b = true → k = (if d % 2 = 1 then 14 else 10) + (if c ≠ 3 ∧ risev q1.h q2.h ≠ 0 then 5 else 0)) := hid fun h => by
    rw [ek.out, cost_eq (e.out.symm.trans h), hq1.out, hq2.out, hqx.out, hqy.out]
  have hz : Hid (b = false → k = 0) := hid fun h => by rw [ek.out]; unfold costv; rw [if_neg (by rw [← e.out, h]; exact Bool.false_ne_true)]
  have hout : Hid (d < 0 ∨ 8 ≤ d → b = false) := hid fun h => by rw [e.out]; unfold mayv; rw [decide_eq_false (show ¬ (0 ≤ d ∧ d ≤ 7) by omega)]; rfl
  clear e ek
  have hK := ((Keep.nil W).alloc [.int .i64 m.w, .int .i64 m.h, s] 24).alloc [.int .i64 x, .int .i64 y] 29
  have hr' := hr.below hK.old
  have hl' := hl.below hK.old
  simp only [World.size_alloc] at hK
  go_enter Tryz.func133, Tryz.ntmps133
  by_cases hd : d < 0 ∨ 8 ≤ d
  · obtain rfl := hout.out hd
    obtain rfl := hz.out rfl
    clear hk hb hz hout
    by_cases g1 : d < 0
    · go_wp2_with fail
      exact bodyPost_ret (v := .tuple #[.int .i64 0, .bool false]) (by simp [results, Tryz.results133, go_sem, *]) rfl ⟨rfl, hK.old⟩
    · have g2 : decide (8 ≤ d) = true := decide_eq_true (by omega)
      go_wp2_with fail
      exact bodyPost_ret (v := .tuple #[.int .i64 0, .bool false]) (by simp [results, Tryz.results133, go_sem, *]) rfl ⟨rfl, hK.old⟩
  · have d0 : 0 ≤ d := by omega
    have d7 : d ≤ 7 := by omega
    have hb := hb.out d0 d7
    have g1 : decide (d < 0) = false := decide_eq_false (by omega)
    have g2 : decide (8 ≤ d) = false := decide_eq_false (by omega)
    clear hout
    go_wp2_with fail
    ((with_reducible refine (dstepq_b x y d qx qy _ (hE.keep hK.old) hqx hqy).mono ?_); rintro e w1 ⟨rfl, hb1⟩)
    replace hr' := (hr'.below hb1).below ((Below.refl w1.heap.size w1).alloc (Nat.le_refl _) (.cells [Value.int .i64 qx, .int .i64 qy].toArray 29))
    replace hl' := (hl'.below hb1).below ((Below.refl w1.heap.size w1).alloc (Nat.le_refl _) (.cells [Value.int .i64 qx, .int .i64 qy].toArray 29))
    replace hK := (hK.call hb1).alloc [.int .i64 qx, .int .i64 qy] 29
    clear hb1
    obtain ⟨hQ, hP, hM⟩ := hK.three
    obtain ⟨_, _, _, _, _, _⟩ := hM.three
    obtain ⟨_, _, _, _⟩ := hP.two
    go_wp2_with fail
    generalize w1.heap.size = z at *
    ((with_reducible refine (djoin_b m s bl l c x y qx qy n0 _ (hE.keep hK.old) hh hr' hl' h0).mono ?_); rintro e w2 ⟨rfl, hb2⟩)
    replace hr' := hr'.below hb2
    replace hl' := hl'.below hb2
    replace hK := hK.call hb2
    clear hb2 hQ hP hM
    obtain ⟨hQ, hP, hM⟩ := hK.three
    obtain ⟨_, _, _, _, _, _⟩ := hM.three
    obtain ⟨_, _, _, _⟩ := hP.two
    obtain ⟨_, _, _, _⟩ := hQ.two
    cases n0 with
    | false =>
      rw [Bool.false_and] at hb
      subst hb
      obtain rfl := hz.out rfl
      clear hk hz
      go_wp2_with fail
      exact bodyPost_ret (v := .tuple #[.int .i64 0, .bool false]) (by simp [results, Tryz.results133, go_sem, *]) rfl ⟨rfl, hK.old⟩
    | true =>
      rw [Bool.true_and] at hb
      obtain ⟨g, hg⟩ : ∃ g, Hid (g = decide (d % 2 = 1)) := ⟨_, hid rfl⟩
      have hD := fun W' => ddiag_b d g W' d0 hg
      rw [← hg.out] at hb
      go_wp2_with fail
      ((with_reducible refine (hD _).mono ?_); rintro e w3 ⟨rfl, hw⟩)
      rw [← hw]
      clear hw hD
      have tail : ∀ V : World, Hid (b = true) → Keep W V [(z, [Value.int .i64 qx, .int .i64 qy], 29), (W.heap.size + 1, [Value.int .i64 x, .int .i64 y], 29), (W.heap.size, [Value.int .i64 m.w, .int .i64 m.h, s], 24)] → RowAt V s m.cs →
        Calls Tryz.prog 173 #[.agg #[.int .i64 m.w, .int .i64 m.h, s], .int .i64 c, .agg #[.int .i64 x, .int .i64 y], .agg #[.int .i64 qx, .int .i64 qy], .int .i64 d] V fun e w' => e = .returned (.int .i64 k) ∧ Below V.heap.size V w' :=
        fun V hbt _ hr => dprice_b m s c x y qx qy d q1 q2 k V hr k1 k2 hq1 hq2 d0 (hid (hk.out hbt.out))
      by_cases hgo : g = true ∧ c ≠ 3
      · obtain ⟨rfl, c3⟩ := hgo
        have z3 : (c == 3) = false := beq_eq_false_iff_ne.2 c3
        rw [decide_eq_false c3] at hb
        have hp : d % 2 = 1 := of_decide_eq_true hg.out.symm
        go_wp2_with fail
        ((with_reducible refine (dboth_b m s bl l c x y d n1 _ (hE.keep hK.old) hh hr' hl' (by omega) d7 h1).mono ?_); rintro e w4 ⟨rfl, hb4⟩)
        replace hr' := hr'.below hb4
        replace hK := hK.call hb4
        clear hb4 hQ hP hM
        obtain ⟨hQ, hP, hM⟩ := hK.three
        obtain ⟨_, _, _, _, _, _⟩ := hM.three
        obtain ⟨_, _, _, _⟩ := hP.two
        obtain ⟨_, _, _, _⟩ := hQ.two
        cases n1 with
        | false =>
          obtain rfl : b = false := by rw [hb]; rfl
          obtain rfl := hz.out rfl
          clear hk hz tail hb
          go_wp2_with fail
          exact bodyPost_ret (v := .tuple #[.int .i64 0, .bool false]) (by simp [results, Tryz.results133, go_sem, *]) rfl ⟨rfl, hK.old⟩
        | true =>
          obtain rfl : b = true := by rw [hb]; rfl
          clear hk hz hb
          go_wp2_with fail
          ((with_reducible refine (tail _ (hid (by trivial)) hK hr').mono ?_); rintro e w5 ⟨rfl, hb5⟩)
          go_wp2_with fail
          exact bodyPost_ret (v := .tuple #[.int .i64 k, .bool true]) (by simp [results, Tryz.results133, go_sem, *]) rfl ⟨rfl, below_call hK.old hb5⟩
      · obtain rfl : b = true := by
          rw [hb]
          by_cases c3 : c = 3
          · rw [decide_eq_true c3]; simp
          · have : g = false := by cases g; rfl; exact absurd ⟨rfl, c3⟩ hgo
            rw [this]; rfl
        clear hk hz hb
        cases g with
        | false =>
          clear hgo
          go_wp2_with fail
          ((with_reducible refine (tail _ (hid (by trivial)) hK hr').mono ?_); rintro e w5 ⟨rfl, hb5⟩)
          go_wp2_with fail
          exact bodyPost_ret (v := .tuple #[.int .i64 k, .bool true]) (by simp [results, Tryz.results133, go_sem, *]) rfl ⟨rfl, below_call hK.old hb5⟩
        | true =>
          obtain rfl : c = 3 := Classical.byContradiction fun h => hgo ⟨rfl, h⟩
          clear hgo
          go_wp2_with fail
          ((with_reducible refine (tail _ (hid (by trivial)) hK hr').mono ?_); rintro e w5 ⟨rfl, hb5⟩)
          go_wp2_with fail
          exact bodyPost_ret (v := .tuple #[.int .i64 k, .bool true]) (by simp [results, Tryz.results133, go_sem, *]) rfl ⟨rfl, below_call hK.old hb5⟩

end

end Go.Proofs.YtpgchjhfhndaaaaGreatDoor
