/-
  What the functions of terrain answer: steps.
-/
import Derived.Test.YtoodnblhjopnlaaDoorTerLandP
import Derived.Test.YtoodnblhjopnlaaDoorGridLand
import Derived.Test.YtoodnblhjopnlaaDoorTerRefB
namespace Go.Proofs.YtoodnblhjopnlaaDoor

section
open Go.RowKit Go.Lib

/-- What a kind of terrain lets pass. -/
def footv (k : Int) : Bool := decide (k = 1 ∨ k = 5)
def hoverv (k : Int) : Bool := decide (k = 1 ∨ k = 5 ∨ k = 2)
def sightv (k : Int) : Bool := !decide (k = 3 ∨ k = 4)
/-- What the functions of terrain ask of the table of passages. -/
structure EnvP (w : World) : Prop where
  pas : ∀ k : Nat, k < 6 → w.cell? ⟨1, k * 3, none⟩ = some (.bool (footv k)) ∧ w.cell? ⟨1, k * 3 + 1, none⟩ = some (.bool (hoverv k)) ∧ w.cell? ⟨1, k * 3 + 2, none⟩ = some (.bool (sightv k))
  big : 1 < w.heap.size
theorem EnvP.keep {w w' : World} (h : EnvP w) (hb : Below w.heap.size w w') : EnvP w' :=
  ⟨fun k hk => ⟨(hb.cell h.big).trans (h.pas k hk).1, (hb.cell h.big).trans (h.pas k hk).2.1, (hb.cell h.big).trans (h.pas k hk).2.2⟩, Nat.lt_of_lt_of_le h.big hb.size⟩

set_option maxHeartbeats 1000000 in
theorem dpassage_b (k : Int) (a b c : Bool) (W : World) (hE : EnvP W) (ea : Hid (a = footv k)) (eb : Hid (b = hoverv k)) (ec : Hid (c = sightv k)) :
    Calls Tryd.prog 76 #[.int .i64 k] W fun e w' => e = .returned (.agg #[.bool a, .bool b, .bool c]) ∧ Below W.heap.size W w' := by
  have hB := Blk.new W [.bool false, .bool false, .bool false] 82
  have hL := (Below.refl W.heap.size W).alloc (Nat.le_refl _) (.cells #[.bool false, .bool false, .bool false] 82)
  have hE1 := hE.keep hL
  by_cases hk : 1 ≤ k ∧ k ≤ 5
  · obtain ⟨n, rfl⟩ := Int.eq_ofNat_of_zero_le (show 0 ≤ k by omega)
    have n0 : (0 : Int) ≤ n := by omega
    have n6 : (n : Int) < 6 := by omega
    obtain ⟨p1, p2, p3⟩ := hE1.pas n (by omega)
    rw [← ea.out] at p1
    rw [← eb.out] at p2
    rw [← ec.out] at p3
    have c1 := dkind_b n true
    have hk' := hid (decide_eq_true hk).symm
    clear hE hE1 ea eb ec hk
    go_enter Tryd.func76, Tryd.ntmps76
    go_wp2_with fail
    ((with_reducible refine (c1 _ hk').mono ?_); rintro e w1 ⟨rfl, hw⟩)
    rw [← hw]
    clear hw
    go_wp2_with fail
    refine bodyPost_ret (v := .agg #[.bool a, .bool b, .bool c]) (by simp [results, Tryd.results76, go_sem]) rfl ⟨rfl, ?_⟩
    exact (Below.refl _ _).alloc (Nat.le_refl _) _
  · obtain ⟨p1, p2, p3⟩ := hE1.pas 0 (by decide)
    rw [Nat.zero_mul] at p1 p2 p3
    have a0 : a = false := by rw [ea.out]; exact decide_eq_false (by omega)
    have b0 : b = false := by rw [eb.out]; exact decide_eq_false (by omega)
    have c0 : c = true := by rw [ec.out]; unfold sightv; rw [decide_eq_false (by omega)]; rfl
    subst a0 b0 c0
    have c1 := dkind_b k false
    have hk' := hid (decide_eq_false hk).symm
    have p1' : (W.alloc (.cells #[.bool false, .bool false, .bool false] 82)).cell? ⟨1, 0, none⟩ = some (.bool false) := p1
    have p2' : (W.alloc (.cells #[.bool false, .bool false, .bool false] 82)).cell? ⟨1, 1, none⟩ = some (.bool false) := p2
    have p3' : (W.alloc (.cells #[.bool false, .bool false, .bool false] 82)).cell? ⟨1, 2, none⟩ = some (.bool true) := p3
    clear hE hE1 ea eb ec hk p1 p2 p3
    go_enter Tryd.func76, Tryd.ntmps76
    go_wp2_with fail
    ((with_reducible refine (c1 _ hk').mono ?_); rintro e w1 ⟨rfl, hw⟩)
    rw [← hw]
    clear hw
    go_wp2_with fail
    refine bodyPost_ret (v := .agg #[.bool false, .bool false, .bool true]) (by simp [results, Tryd.results76, go_sem]) rfl ⟨rfl, ?_⟩
    exact (Below.refl _ _).alloc (Nat.le_refl _) _

theorem pas_f (a b c : Bool) (W : World) : (Instr.field 82 (.agg #[.bool a, .bool b, .bool c]) 0).run Tryd.prog W = .ok (.bool a) W := by kernel_rfl
theorem pas_h (a b c : Bool) (W : World) : (Instr.field 82 (.agg #[.bool a, .bool b, .bool c]) 1).run Tryd.prog W = .ok (.bool b) W := by kernel_rfl
theorem pas_s (a b c : Bool) (W : World) : (Instr.field 82 (.agg #[.bool a, .bool b, .bool c]) 2).run Tryd.prog W = .ok (.bool c) W := by kernel_rfl

set_option maxHeartbeats 2000000 in
theorem dpass_b (m : M3) (s : Value) (c x y : Int) (b : Bool) (W : World) (hE : EnvP W) (hr : RowAt W s m.cs) (e : Hid (b = passv m c x y)) :
    Calls Tryd.prog 66 #[.agg #[.int .i64 m.w, .int .i64 m.h, s], .int .i64 c, .agg #[.int .i64 x, .int .i64 y]] W fun e w' => e = .returned (.bool b) ∧ Below W.heap.size W w' := by
  obtain ⟨q, hq⟩ : ∃ q, Hid (q = getv m x y) := ⟨_, hid rfl⟩
  obtain ⟨i, hi⟩ : ∃ i, Hid (i = insidev m x y) := ⟨_, hid rfl⟩
  obtain ⟨f, hf⟩ : ∃ f, Hid (f = footv q.k) := ⟨_, hid rfl⟩
  obtain ⟨h, hh⟩ : ∃ f, Hid (f = hoverv q.k) := ⟨_, hid rfl⟩
  obtain ⟨g, hg⟩ : ∃ f, Hid (f = sightv q.k) := ⟨_, hid rfl⟩
  have hb : b = if c = 1 then i && f else if c = 2 then i && h else if c = 3 then i else false := by rw [e.out, hi.out, hf.out, hh.out, hq.out]; rfl
  clear e
  have hT := Held2.start W [.int .i64 m.w, .int .i64 m.h, s] [.int .i64 x, .int .i64 y] 24 42
  have hr' := hr.below hT.old
  go_enter Tryd.func66, Tryd.ntmps66
  go_wp2_with fail
  ((with_reducible refine (dget_b m s x y q i _ hr' hi hq).mono ?_); rintro e w1 ⟨rfl, hb1⟩)
  have hL := hT.old.trans (hb1.mono hT.old.size)
  have hC := Blk.new w1 [.int .i64 q.k, .int .i64 q.h, .int .i64 q.a] 57
  replace hL := hL.alloc hL.size (.cells [Value.int .i64 q.k, .int .i64 q.h, .int .i64 q.a].toArray 57)
  obtain ⟨_, _, _, _, _, _⟩ := hC.three
  cases i with
  | false =>
    have hbf : b = false := by rw [hb]; split; rfl; split; rfl; split <;> rfl
    subst hbf
    clear hb
    go_wp2_with fail
    go_ret
    exact ⟨rfl, hL⟩
  | true =>
    have hP := dpassage_b q.k f h g _ (hE.keep hL) hf hh hg
    by_cases c1 : c = 1
    · subst c1
      go_wp2_with fail
      ((with_reducible refine hP.mono ?_); rintro e w2 ⟨rfl, hb2⟩)
      have hs := pas_f f h g w2
      go_wp2_with fail
      go_ret
      exact ⟨ret_bit (by rw [hb]; rfl), below_call hL hb2⟩
    · have y1 : (c == 1) = false := beq_eq_false_iff_ne.2 c1
      rw [if_neg c1] at hb
      by_cases c2 : c = 2
      · subst c2
        go_wp2_with fail
        ((with_reducible refine hP.mono ?_); rintro e w2 ⟨rfl, hb2⟩)
        have hs := pas_h f h g w2
        go_wp2_with fail
        go_ret
        exact ⟨ret_bit (by rw [hb]; rfl), below_call hL hb2⟩
      · have y2 : (c == 2) = false := beq_eq_false_iff_ne.2 c2
        rw [if_neg c2] at hb
        by_cases c3 : c = 3
        · subst c3
          go_wp2_with fail
          go_ret
          exact ⟨ret_bit (by rw [hb]; rfl), hL⟩
        · have y3 : (c == 3) = false := beq_eq_false_iff_ne.2 c3
          go_wp2_with fail
          go_ret
          exact ⟨ret_bit (by rw [hb, if_neg c3]), hL⟩

theorem sub_wrap (D M m : Int) (h0 : 0 ≤ M - m) (h1 : M - m < D) : (M % D - m % D) % D = M - m := by
  rw [← Int.sub_emod]; exact Int.emod_eq_of_lt h0 h1
/-- The difference of two heights, unsigned: of 64 bits. -/
theorem rise_wrap (a b : Int) (ha : I64 a) (hb : I64 b) : IntKind.u64.wrap (IntKind.u64.wrap (max a b) - IntKind.u64.wrap (min a b)) = max a b - min a b := by
  obtain ⟨a0, a1⟩ := ha
  obtain ⟨b0, b1⟩ := hb
  exact sub_wrap 18446744073709551616 (max a b) (min a b) (by omega) (by omega)
end

section
open Go.RowKit Go.Lib

/-- What the functions of terrain ask of the tables of displacements and passages. -/
structure EnvT (w : World) : Prop where
  g : EnvG w
  p : EnvP w
theorem EnvT.keep {w w' : World} (h : EnvT w) (hb : Below w.heap.size w w') : EnvT w' := ⟨h.g.keep hb, h.p.keep hb⟩

end

section
open Go.RowKit Go.Lib

theorem rise_low (a b : Int) : decide (max a b - min a b ≤ 1) = decide (risev a b < 2) := by
  refine decide_eq_decide.2 ?_
  unfold risev
  split
  · omega
  · split <;> omega
theorem rise_pos (a b : Int) : decide (0 < max a b - min a b) = decide (risev a b ≠ 0) := by
  refine decide_eq_decide.2 ?_
  unfold risev
  split
  · omega
  · split <;> omega

end

section
open Go.RowKit Go.Lib

/-- The corner of a round, and whether its two steps are possible. -/
def dirv (d : Int) (i : Nat) : Int := if i = 0 then d - 1 else (d + 1) % 8
def wayv (m : M3) (bl : List Bool) (c x y d : Int) (i : Nat) : Bool :=
  nearv m bl c x y (stx x (dirv d i)) (sty y (dirv d i)) && nearv m bl c (stx x (dirv d i)) (sty y (dirv d i)) (stx x d) (sty y d)

theorem dstepq_b (x y d qx qy : Int) (W : World) (hE : EnvT W) (e : Hid (qx = stx x d)) (e' : Hid (qy = sty y d)) : Calls Tryd.prog 64 #[.agg #[.int .i64 x, .int .i64 y], .int .i64 d] W fun e w' => e = .returned (.agg #[.int .i64 qx, .int .i64 qy]) ∧ Below W.heap.size W w' := by
  rw [e.out, e'.out]; exact dstep_any x y d W hE.g

end

section
open Go.RowKit Go.Lib

/-- Both corners: the same two, whichever comes first. -/
theorem way_both {m : M3} {bl : List Bool} {c x y d : Int} (hi : insidev m x y = true) (hd : d % 2 = 1) (d0 : 0 ≤ d) (d7 : d ≤ 7) :
    (wayv m bl c x y d 0 && wayv m bl c x y d 1) = (nearv m bl c x y x (sty y d) && nearv m bl c x (sty y d) (stx x d) (sty y d) && nearv m bl c x y (stx x d) y && nearv m bl c (stx x d) y (stx x d) (sty y d)) := by
  obtain ⟨X, Y, a, b, _, _, hx, hy, ha, hb, hX, hY, _, _, _⟩ := inside_at hi
  have nx : nr x = x := nr_in (by omega) (by omega)
  have ny : nr y = y := nr_in (by omega) (by omega)
  have bool4 : ∀ p q r s : Bool, ((p && q) && (r && s)) = (r && s && p && q) := by decide
  have bool4' : ∀ p q r s : Bool, ((p && q) && (r && s)) = (p && q && r && s) := by decide
  rcases (show d = 1 ∨ d = 3 ∨ d = 5 ∨ d = 7 by omega) with rfl | rfl | rfl | rfl
  · have e1 : dirv 1 0 = 0 := rfl
    have e2 : dirv 1 1 = 2 := rfl
    have f1 : stx x 0 = x + 1 := by rw [← nx]; simp [stx, shx, nx]
    have f2 : sty y 0 = y := by simp [sty, shy, ny]
    have f3 : stx x 2 = x := by simp [stx, shx, nx]
    have f4 : sty y 2 = y + 1 := by simp [sty, shy, ny]
    have f5 : stx x 1 = x + 1 := by simp [stx, shx, nx]
    have f6 : sty y 1 = y + 1 := by simp [sty, shy, ny]
    unfold wayv
    rw [e1, e2, f1, f2, f3, f4, f5, f6]
    exact bool4 _ _ _ _
  · have e1 : dirv 3 0 = 2 := rfl
    have e2 : dirv 3 1 = 4 := rfl
    have f1 : stx x 2 = x := by simp [stx, shx, nx]
    have f2 : sty y 2 = y + 1 := by simp [sty, shy, ny]
    have f3 : stx x 4 = x + -1 := by simp [stx, shx, nx]
    have f4 : sty y 4 = y := by simp [sty, shy, ny]
    have f5 : stx x 3 = x + -1 := by simp [stx, shx, nx]
    have f6 : sty y 3 = y + 1 := by simp [sty, shy, ny]
    unfold wayv
    rw [e1, e2, f1, f2, f3, f4, f5, f6]
    exact bool4' _ _ _ _
  · have e1 : dirv 5 0 = 4 := rfl
    have e2 : dirv 5 1 = 6 := rfl
    have f1 : stx x 4 = x + -1 := by simp [stx, shx, nx]
    have f2 : sty y 4 = y := by simp [sty, shy, ny]
    have f3 : stx x 6 = x := by simp [stx, shx, nx]
    have f4 : sty y 6 = y + -1 := by simp [sty, shy, ny]
    have f5 : stx x 5 = x + -1 := by simp [stx, shx, nx]
    have f6 : sty y 5 = y + -1 := by simp [sty, shy, ny]
    unfold wayv
    rw [e1, e2, f1, f2, f3, f4, f5, f6]
    exact bool4 _ _ _ _
  · have e1 : dirv 7 0 = 6 := rfl
    have e2 : dirv 7 1 = 0 := rfl
    have f1 : stx x 6 = x := by simp [stx, shx, nx]
    have f2 : sty y 6 = y + -1 := by simp [sty, shy, ny]
    have f3 : stx x 0 = x + 1 := by simp [stx, shx, nx]
    have f4 : sty y 0 = y := by simp [sty, shy, ny]
    have f5 : stx x 7 = x + 1 := by simp [stx, shx, nx]
    have f6 : sty y 7 = y + -1 := by simp [sty, shy, ny]
    unfold wayv
    rw [e1, e2, f1, f2, f3, f4, f5, f6]
    exact bool4' _ _ _ _

theorem rise_three (a b : Int) : risev a b = 0 ∨ risev a b = 1 ∨ risev a b = 2 := by
  unfold risev; split
  · exact .inl rfl
  · split
    · exact .inr (.inl rfl)
    · exact .inr (.inr rfl)
/-- What a possible step costs. -/
theorem cost_eq {m : M3} {bl : List Bool} {c x y d : Int} (h : mayv m bl c x y d = true) :
    costv m bl c x y d = (if d % 2 = 1 then 14 else 10) + (if c ≠ 3 ∧ risev (getv m x y).h (getv m (stx x d) (sty y d)).h ≠ 0 then 5 else 0) := by
  unfold costv
  rw [if_pos h]
  congr 1
  by_cases c3 : c = 3
  · rw [if_neg (fun g => g.1 c3), if_neg (fun g => g.1 c3)]
  · have hr : risev (getv m x y).h (getv m (stx x d) (sty y d)).h < 2 := by
      unfold mayv nearv at h
      rw [decide_eq_false c3] at h
      simp only [Bool.and_eq_true, Bool.false_or, decide_eq_true_eq] at h
      exact h.1.2.2
    rcases rise_three (getv m x y).h (getv m (stx x d) (sty y d)).h with r | r | r
    · rw [r]; simp
    · rw [r]; simp
    · omega
theorem near_inside {m : M3} {bl : List Bool} {c x y u v : Int} (h : nearv m bl c x y u v = true) : insidev m x y = true := by
  unfold nearv openv at h
  simp only [Bool.and_eq_true] at h
  exact pass_inside h.1.1.1

end

end Go.Proofs.YtoodnblhjopnlaaDoor
