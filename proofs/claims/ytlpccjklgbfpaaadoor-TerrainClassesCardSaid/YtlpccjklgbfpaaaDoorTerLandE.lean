/-
  What the functions of terrain answer, as landed at 6373918: what lets pass. The table of passages is read.
-/
import Derived.Test.YtlpccjklgbfpaaaDoorTerLandB
import Derived.Test.YtlpccjklgbfpaaaDoorGridLandB
namespace Go.Proofs.YtlpccjklgbfpaaaDoor
open Go.RowKit Go.Lib

/-- What a kind of terrain lets pass. -/
def footv (k : Int) : Bool := decide (k = 1 ∨ k = 5)
def hoverv (k : Int) : Bool := decide (k = 1 ∨ k = 5 ∨ k = 2)
def sightv (k : Int) : Bool := !decide (k = 3 ∨ k = 4)
/-- What the functions of terrain ask of the tables of displacements and passages. -/
structure EnvT (w : World) : Prop where
  g : EnvG w
  pas : ∀ k : Nat, k < 6 → w.cell? ⟨0, k * 3, none⟩ = some (.bool (footv k)) ∧ w.cell? ⟨0, k * 3 + 1, none⟩ = some (.bool (hoverv k)) ∧ w.cell? ⟨0, k * 3 + 2, none⟩ = some (.bool (sightv k))
  big : 0 < w.heap.size
theorem EnvT.keep {w w' : World} (h : EnvT w) (hb : Below w.heap.size w w') : EnvT w' :=
  ⟨h.g.keep hb, fun k hk => ⟨(hb.cell h.big).trans (h.pas k hk).1, (hb.cell h.big).trans (h.pas k hk).2.1, (hb.cell h.big).trans (h.pas k hk).2.2⟩, Nat.lt_of_lt_of_le h.big hb.size⟩

set_option maxHeartbeats 1000000 in
theorem dpassage_b (k : Int) (a b c : Bool) (W : World) (hE : EnvT W) (ea : Hid (a = footv k)) (eb : Hid (b = hoverv k)) (ec : Hid (c = sightv k)) :
    Calls Tryd.prog 42 #[.int .i64 k] W fun e w' => e = .returned (.agg #[.bool a, .bool b, .bool c]) ∧ Below W.heap.size W w' := by
  have hB := Blk.new W [.bool false, .bool false, .bool false] 57
  have hL := (Below.refl W.heap.size W).alloc (Nat.le_refl _) (.cells #[.bool false, .bool false, .bool false] 57)
  have hE1 := hE.keep hL
  by_cases hk : 1 ≤ k ∧ k ≤ 5
  · obtain ⟨n, rfl⟩ := Int.eq_ofNat_of_zero_le (show 0 ≤ k by omega)
    have n0 : (0 : Int) ≤ n := by omega
    have n6 : (n : Int) < 6 := by omega
    obtain ⟨p1, p2, p3⟩ := hE1.pas n (by omega)
    rw [← ea.out] at p1
    rw [← eb.out] at p2
    rw [← ec.out] at p3
    have c1 := dkind_b n true
    have hk' := hid (decide_eq_true hk).symm
    clear hE hE1 ea eb ec hk
    go_enter Tryd.func42, Tryd.ntmps42
    go_wp2_with fail
    ((with_reducible refine (c1 _ hk').mono ?_); rintro e w1 ⟨rfl, hw⟩)
    rw [← hw]
    clear hw
    go_wp2_with fail
    refine bodyPost_ret (v := .agg #[.bool a, .bool b, .bool c]) (by simp [results, Tryd.results42, go_sem]) rfl ⟨rfl, ?_⟩
    exact (Below.refl _ _).alloc (Nat.le_refl _) _
  · obtain ⟨p1, p2, p3⟩ := hE1.pas 0 (by decide)
    rw [Nat.zero_mul] at p1 p2 p3
    have a0 : a = false := by rw [ea.out]; exact decide_eq_false (by omega)
    have b0 : b = false := by rw [eb.out]; exact decide_eq_false (by omega)
    have c0 : c = true := by rw [ec.out]; unfold sightv; rw [decide_eq_false (by omega)]; rfl
    subst a0 b0 c0
    have c1 := dkind_b k false
    have hk' := hid (decide_eq_false hk).symm
    have p1' : (W.alloc (.cells #[.bool false, .bool false, .bool false] 57)).cell? ⟨0, 0, none⟩ = some (.bool false) := p1
    have p2' : (W.alloc (.cells #[.bool false, .bool false, .bool false] 57)).cell? ⟨0, 1, none⟩ = some (.bool false) := p2
    have p3' : (W.alloc (.cells #[.bool false, .bool false, .bool false] 57)).cell? ⟨0, 2, none⟩ = some (.bool true) := p3
    clear hE hE1 ea eb ec hk p1 p2 p3
    go_enter Tryd.func42, Tryd.ntmps42
    go_wp2_with fail
    ((with_reducible refine (c1 _ hk').mono ?_); rintro e w1 ⟨rfl, hw⟩)
    rw [← hw]
    clear hw
    go_wp2_with fail
    refine bodyPost_ret (v := .agg #[.bool false, .bool false, .bool true]) (by simp [results, Tryd.results42, go_sem]) rfl ⟨rfl, ?_⟩
    exact (Below.refl _ _).alloc (Nat.le_refl _) _

theorem pas_f (a b c : Bool) (W : World) : (Instr.field 57 (.agg #[.bool a, .bool b, .bool c]) 0).run Tryd.prog W = .ok (.bool a) W := by kernel_rfl
theorem pas_h (a b c : Bool) (W : World) : (Instr.field 57 (.agg #[.bool a, .bool b, .bool c]) 1).run Tryd.prog W = .ok (.bool b) W := by kernel_rfl
theorem pas_s (a b c : Bool) (W : World) : (Instr.field 57 (.agg #[.bool a, .bool b, .bool c]) 2).run Tryd.prog W = .ok (.bool c) W := by kernel_rfl

set_option maxHeartbeats 1000000 in
theorem dopaque_b (m : M3) (s : Value) (x y : Int) (b : Bool) (W : World) (hE : EnvT W) (hr : RowAt W s m.cs) (e : Hid (b = opaquev m x y)) :
    Calls Tryd.prog 21 #[.agg #[.int .i64 m.w, .int .i64 m.h, s], .agg #[.int .i64 x, .int .i64 y]] W fun e w' => e = .returned (.bool b) ∧ Below W.heap.size W w' := by
  obtain ⟨q, hq⟩ : ∃ q, Hid (q = getv m x y) := ⟨_, hid rfl⟩
  obtain ⟨i, hi⟩ : ∃ i, Hid (i = insidev m x y) := ⟨_, hid rfl⟩
  obtain ⟨f, hf⟩ : ∃ f, Hid (f = footv q.k) := ⟨_, hid rfl⟩
  obtain ⟨h, hh⟩ : ∃ f, Hid (f = hoverv q.k) := ⟨_, hid rfl⟩
  obtain ⟨g, hg⟩ : ∃ f, Hid (f = sightv q.k) := ⟨_, hid rfl⟩
  have hb : b = (!i || !g) := by rw [e.out, hi.out, hg.out, hq.out]; unfold sightv; rw [Bool.not_not]; rfl
  clear e
  have hT := Held2.start W [.int .i64 m.w, .int .i64 m.h, s] [.int .i64 x, .int .i64 y] 24 26
  have hr' := hr.below hT.old
  go_enter Tryd.func21, Tryd.ntmps21
  go_wp2_with fail
  ((with_reducible refine (dget_b m s x y q i _ hr' hi hq).mono ?_); rintro e w1 ⟨rfl, hb1⟩)
  have hL := hT.old.trans (hb1.mono hT.old.size)
  have hC := Blk.new w1 [.int .i64 q.k, .int .i64 q.h, .int .i64 q.a] 28
  replace hL := hL.alloc hL.size (.cells [Value.int .i64 q.k, .int .i64 q.h, .int .i64 q.a].toArray 28)
  obtain ⟨_, _, _, _, _, _⟩ := hC.three
  cases i with
  | false =>
    go_wp2_with fail
    go_ret
    exact ⟨ret_bit (by rw [hb]; rfl), hL⟩
  | true =>
    go_wp2_with fail
    ((with_reducible refine (dpassage_b q.k f h g _ (hE.keep hL) hf hh hg).mono ?_); rintro e w2 ⟨rfl, hb2⟩)
    have hs := pas_s f h g w2
    go_wp2_with fail
    go_ret
    exact ⟨ret_bit (by rw [hb]; rfl), below_call hL hb2⟩

set_option maxHeartbeats 2000000 in
theorem dpass_b (m : M3) (s : Value) (c x y : Int) (b : Bool) (W : World) (hE : EnvT W) (hr : RowAt W s m.cs) (e : Hid (b = passv m c x y)) :
    Calls Tryd.prog 19 #[.agg #[.int .i64 m.w, .int .i64 m.h, s], .int .i64 c, .agg #[.int .i64 x, .int .i64 y]] W fun e w' => e = .returned (.bool b) ∧ Below W.heap.size W w' := by
  obtain ⟨q, hq⟩ : ∃ q, Hid (q = getv m x y) := ⟨_, hid rfl⟩
  obtain ⟨i, hi⟩ : ∃ i, Hid (i = insidev m x y) := ⟨_, hid rfl⟩
  obtain ⟨f, hf⟩ : ∃ f, Hid (f = footv q.k) := ⟨_, hid rfl⟩
  obtain ⟨h, hh⟩ : ∃ f, Hid (f = hoverv q.k) := ⟨_, hid rfl⟩
  obtain ⟨g, hg⟩ : ∃ f, Hid (f = sightv q.k) := ⟨_, hid rfl⟩
  have hb : b = if c = 1 then i && f else if c = 2 then i && h else if c = 3 then i else false := by rw [e.out, hi.out, hf.out, hh.out, hq.out]; rfl
  clear e
  have hT := Held2.start W [.int .i64 m.w, .int .i64 m.h, s] [.int .i64 x, .int .i64 y] 24 26
  have hr' := hr.below hT.old
  go_enter Tryd.func19, Tryd.ntmps19
  go_wp2_with fail
  ((with_reducible refine (dget_b m s x y q i _ hr' hi hq).mono ?_); rintro e w1 ⟨rfl, hb1⟩)
  have hL := hT.old.trans (hb1.mono hT.old.size)
  have hC := Blk.new w1 [.int .i64 q.k, .int .i64 q.h, .int .i64 q.a] 28
  replace hL := hL.alloc hL.size (.cells [Value.int .i64 q.k, .int .i64 q.h, .int .i64 q.a].toArray 28)
  obtain ⟨_, _, _, _, _, _⟩ := hC.three
  cases i with
  | false =>
    have hbf : b = false := by rw [hb]; split; rfl; split; rfl; split <;> rfl
    subst hbf
    clear hb
    go_wp2_with fail
    go_ret
    exact ⟨rfl, hL⟩
  | true =>
    have hP := dpassage_b q.k f h g _ (hE.keep hL) hf hh hg
    by_cases c1 : c = 1
    · subst c1
      go_wp2_with fail
      ((with_reducible refine hP.mono ?_); rintro e w2 ⟨rfl, hb2⟩)
      have hs := pas_f f h g w2
      go_wp2_with fail
      go_ret
      exact ⟨ret_bit (by rw [hb]; rfl), below_call hL hb2⟩
    · have y1 : (c == 1) = false := beq_eq_false_iff_ne.2 c1
      rw [if_neg c1] at hb
      by_cases c2 : c = 2
      · subst c2
        go_wp2_with fail
        ((with_reducible refine hP.mono ?_); rintro e w2 ⟨rfl, hb2⟩)
        have hs := pas_h f h g w2
        go_wp2_with fail
        go_ret
        exact ⟨ret_bit (by rw [hb]; rfl), below_call hL hb2⟩
      · have y2 : (c == 2) = false := beq_eq_false_iff_ne.2 c2
        rw [if_neg c2] at hb
        by_cases c3 : c = 3
        · subst c3
          go_wp2_with fail
          go_ret
          exact ⟨ret_bit (by rw [hb]; rfl), hL⟩
        · have y3 : (c == 3) = false := beq_eq_false_iff_ne.2 c3
          go_wp2_with fail
          go_ret
          exact ⟨ret_bit (by rw [hb, if_neg c3]), hL⟩

theorem sub_wrap (D M m : Int) (h0 : 0 ≤ M - m) (h1 : M - m < D) : (M % D - m % D) % D = M - m := by
  rw [← Int.sub_emod]; exact Int.emod_eq_of_lt h0 h1
/-- The difference of two heights, unsigned: of 64 bits. -/
theorem rise_wrap (a b : Int) (ha : I64 a) (hb : I64 b) : IntKind.u64.wrap (IntKind.u64.wrap (max a b) - IntKind.u64.wrap (min a b)) = max a b - min a b := by
  obtain ⟨a0, a1⟩ := ha
  obtain ⟨b0, b1⟩ := hb
  exact sub_wrap 18446744073709551616 (max a b) (min a b) (by omega) (by omega)
set_option maxHeartbeats 1000000 in
theorem drise_b (m : M3) (s : Value) (x y u v : Int) (q r : C3) (W : World) (hr : RowAt W s m.cs) (iq : I64 q.h) (ir : I64 r.h) (hq : Hid (q = getv m x y)) (hq2 : Hid (r = getv m u v)) :
    Calls Tryd.prog 64 #[.agg #[.int .i64 m.w, .int .i64 m.h, s], .agg #[.int .i64 x, .int .i64 y], .agg #[.int .i64 u, .int .i64 v]] W fun e w' => ∃ n : Int, e = .returned (.int .u64 n) ∧ Hid (n = max q.h r.h - min q.h r.h) ∧ Below W.heap.size W w' := by
  obtain ⟨i, hi⟩ : ∃ i, Hid (i = insidev m x y) := ⟨_, hid rfl⟩
  obtain ⟨j, hj⟩ : ∃ i, Hid (i = insidev m u v) := ⟨_, hid rfl⟩
  have hw := rise_wrap q.h r.h iq ir
  have hK := (((Keep.nil W).alloc [.int .i64 m.w, .int .i64 m.h, s] 24).alloc [.int .i64 x, .int .i64 y] 26).alloc [.int .i64 u, .int .i64 v] 26
  have hr' := hr.below hK.old
  simp only [World.size_alloc] at hK
  go_enter Tryd.func64, Tryd.ntmps64
  go_wp2_with fail
  ((with_reducible refine (dget_b m s x y q i _ hr' hi hq).mono ?_); rintro e w1 ⟨rfl, hb1⟩)
  replace hr' := (hr'.below hb1).below ((Below.refl w1.heap.size w1).alloc (Nat.le_refl _) (.cells [Value.int .i64 q.k, .int .i64 q.h, .int .i64 q.a].toArray 28))
  replace hK := (hK.call hb1).alloc [.int .i64 q.k, .int .i64 q.h, .int .i64 q.a] 28
  obtain ⟨hC, hU, hP, hM⟩ := hK.four
  obtain ⟨_, _, _, _, _, _⟩ := hM.three
  obtain ⟨_, _, _, _⟩ := hU.two
  go_wp2_with fail
  generalize w1.heap.size = z at *
  ((with_reducible refine (dget_b m s u v r j _ hr' hj hq2).mono ?_); rintro e w2 ⟨rfl, hb2⟩)
  replace hC := (hC.below hb2).alloc (.cells [Value.int .i64 r.k, .int .i64 r.h, .int .i64 r.a].toArray 28)
  replace hK := (hK.call hb2).alloc [.int .i64 r.k, .int .i64 r.h, .int .i64 r.a] 28
  have hD := Blk.new w2 [.int .i64 r.k, .int .i64 r.h, .int .i64 r.a] 28
  obtain ⟨_, _, _, _, _, _⟩ := hC.three
  obtain ⟨_, _, _, _, _, _⟩ := hD.three
  go_wp2_with fail
  go_ret
  exact ⟨_, rfl, hid rfl, hK.old⟩

end Go.Proofs.YtlpccjklgbfpaaaDoor
