/-
  What the reference of shadow answers: what blocks a line, Blocks.
-/
import Derived.Test.YtlcbkeieejmmbaaDoorShL
namespace Go.Proofs.YtlcbkeieejmmbaaDoor
open Go.RowKit Go.Lib

set_option maxHeartbeats 1000000 in
theorem rinsd_b (w h x y : Int) (s : Value) (b : Bool) (W : World) (e : Hid (b = inv w h x y)) :
    Calls Tryd.prog 31 #[.agg #[.int .i64 w, .int .i64 h, s], .agg #[.int .i64 x, .int .i64 y]] W fun e w' => e = .returned (.bool b) ∧ Below W.heap.size W w' := by
  have hT := Held2.start W [.int .i64 w, .int .i64 h, s] [.int .i64 x, .int .i64 y] 24 26
  obtain ⟨_, _, _, _, _, _⟩ := hT.l.three
  obtain ⟨_, _, _, _⟩ := hT.r.two
  go_enter Tryd.func31, Tryd.ntmps31
  go_upto_region 1 with fail
  generalize (W.alloc (.cells [Value.int .i64 w, .int .i64 h, s].toArray 24)).alloc (.cells [Value.int .i64 x, .int .i64 y].toArray 26) = X at *
  go_wp2_with (go_at_call 22; with_reducible refine (rin_b w h x y b _ e).mono ?_; rintro e w1 ⟨rfl, hb⟩)
  go_ret
  exact ⟨rfl, below_call hT.old hb⟩
set_option maxRecDepth 100000 in
set_option maxHeartbeats 8000000 in
theorem rblk_b (m : M3) (s : Value) (x y u v p q : Int) (z : Bool) (W : World) (hr : RowAt W s m.cs) (hf : formedv m = true) (ia : inv m.w m.h x y = true) (ib : inv m.w m.h u v = true) (ic : inv m.w m.h p q = true) (hz : Hid (z = blkv m x y u v p q)) :
    Calls Tryd.prog 32 #[.agg #[.int .i64 m.w, .int .i64 m.h, s], .agg #[.int .i64 x, .int .i64 y], .agg #[.int .i64 u, .int .i64 v], .agg #[.int .i64 p, .int .i64 q]] W fun e w' => e = .returned (.bool z) ∧ Below W.heap.size W w' := by
  have sa := (inv_sm hf ia).1
  have sb := (inv_sm hf ib).1
  have sc := (inv_sm hf ic).1
  have ja := in_inside hf ia
  have jb := in_inside hf ib
  have jc := in_inside hf ic
  obtain ⟨e1, he1⟩ : ∃ t, Hid (decide (p = x ∧ q = y) = t) := ⟨_, hid rfl⟩
  obtain ⟨e2, he2⟩ : ∃ t, Hid (decide (p = u ∧ q = v) = t) := ⟨_, hid rfl⟩
  obtain ⟨A, hA⟩ : ∃ c, Hid (c = getv m x y) := ⟨_, hid rfl⟩
  obtain ⟨B, hB⟩ : ∃ c, Hid (c = getv m u v) := ⟨_, hid rfl⟩
  obtain ⟨C, hC⟩ : ∃ c, Hid (c = getv m p q) := ⟨_, hid rfl⟩
  obtain ⟨o, ho⟩ : ∃ o, Hid (o = opaquev m p q) := ⟨_, hid rfl⟩
  obtain ⟨h, hh⟩ : ∃ o, Hid (o = hitv (u - x) (v - y) (p - x) (q - y)) := ⟨_, hid rfl⟩
  have hz1 : Hid (z = (!e1 && !e2 && h && (o || decide (max A.h B.h < C.h)))) := hid (by rw [hz.out, ← he1.out, ← he2.out, hh.out, ho.out, hA.out, hB.out, hC.out]; rfl)
  have q1 := fun w => (eqP p q x y w).trans (by rw [he1.out])
  have q2 := fun w => (eqP p q u v w).trans (by rw [he2.out])
  have ga := fun (w : World) (hb : Below W.heap.size W w) => rget_b m s x y A true w (hr.below hb) ja hA
  have gb := fun (w : World) (hb : Below W.heap.size W w) => rget_b m s u v B true w (hr.below hb) jb hB
  have gc := fun (w : World) (hb : Below W.heap.size W w) => rget_b m s p q C true w (hr.below hb) jc hC
  have co := fun (w : World) (hb : Below W.heap.size W w) => ropaque_b m s p q o w (hr.below hb) ho
  have cm := fun (w : World) => rmeets_b x y u v p q h w ⟨by omega, by omega⟩ ⟨by omega, by omega⟩ ⟨by omega, by omega⟩ ⟨by omega, by omega⟩ ⟨by omega, by omega⟩ ⟨by omega, by omega⟩ hh
  clear hz sa sb sc ja jb jc ia ib ic hf hr he1 he2 hA hB hC ho hh
  obtain ⟨a1, a2, a3⟩ := A
  obtain ⟨b1, b2, b3⟩ := B
  obtain ⟨c1, c2, c3⟩ := C
  dsimp only at hz1 ga gb gc
  have hF := Four.start W [.int .i64 m.w, .int .i64 m.h, s] [.int .i64 x, .int .i64 y] [.int .i64 u, .int .i64 v] [.int .i64 p, .int .i64 q]
  obtain ⟨_, _, _, _, _, _⟩ := hF.m.three
  obtain ⟨_, _, _, _⟩ := hF.p.two
  obtain ⟨_, _, _, _⟩ := hF.q.two
  obtain ⟨_, _, _, _⟩ := hF.r.two
  go_enter Tryd.func32, Tryd.ntmps32
  go_upto_region 1 with fail
  generalize (((W.alloc (.cells [Value.int .i64 m.w, .int .i64 m.h, s].toArray 24)).alloc (.cells [Value.int .i64 x, .int .i64 y].toArray 26)).alloc (.cells [Value.int .i64 u, .int .i64 v].toArray 26)).alloc (.cells [Value.int .i64 p, .int .i64 q].toArray 26) = X at *
  cases e1 with
  | true =>
    have hx : z = false := by rw [hz1.out]; rfl
    subst hx
    go_wp2_with fail
    go_ret
    exact ⟨rfl, hF.old⟩
  | false =>
    cases e2 with
    | true =>
      have hx : z = false := by rw [hz1.out]; rfl
      subst hx
      go_wp2_with fail
      go_ret
      exact ⟨rfl, hF.old⟩
    | false =>
      have hz2 : Hid (z = (h && (o || decide (max a2 b2 < c2)))) := hid (by rw [hz1.out]; rfl)
      clear hz1
      go_upto_region 4 with (go_at_call 53; with_reducible refine (ga _ hF.old).mono ?_; rintro e w1 ⟨rfl, hb⟩)
      have ha := (Below.refl w1.heap.size w1).alloc (Nat.le_refl _) (.cells [Value.int .i64 a1, .int .i64 a2, .int .i64 a3].toArray 46)
      have hA := Blk.new w1 [.int .i64 a1, .int .i64 a2, .int .i64 a3] 46
      replace hF := (hF.call hb).call ha
      clear hb ha
      generalize w1.alloc (.cells [Value.int .i64 a1, .int .i64 a2, .int .i64 a3].toArray 46) = Xa at *
      generalize w1.heap.size = n1 at *
      obtain ⟨_, _, _, _, _, _⟩ := hF.m.three
      obtain ⟨_, _, _, _⟩ := hF.p.two
      obtain ⟨_, _, _, _⟩ := hF.q.two
      obtain ⟨_, _, _, _⟩ := hF.r.two
      go_upto_region 5 with (go_at_call 53; with_reducible refine (gb _ hF.old).mono ?_; rintro e w2 ⟨rfl, hb⟩)
      have ha := (Below.refl w2.heap.size w2).alloc (Nat.le_refl _) (.cells [Value.int .i64 b1, .int .i64 b2, .int .i64 b3].toArray 46)
      have hB := Blk.new w2 [.int .i64 b1, .int .i64 b2, .int .i64 b3] 46
      replace hA := (hA.below hb).below ha
      replace hF := (hF.call hb).call ha
      clear hb ha
      generalize w2.alloc (.cells [Value.int .i64 b1, .int .i64 b2, .int .i64 b3].toArray 46) = Xb at *
      generalize w2.heap.size = n2 at *
      obtain ⟨_, _, _, _, _, _⟩ := hF.m.three
      obtain ⟨_, _, _, _⟩ := hF.p.two
      obtain ⟨_, _, _, _⟩ := hF.q.two
      obtain ⟨_, _, _, _⟩ := hF.r.two
      go_upto_region 6 with (go_at_call 53; with_reducible refine (gc _ hF.old).mono ?_; rintro e w3 ⟨rfl, hb⟩)
      have ha := (Below.refl w3.heap.size w3).alloc (Nat.le_refl _) (.cells [Value.int .i64 c1, .int .i64 c2, .int .i64 c3].toArray 46)
      have hC := Blk.new w3 [.int .i64 c1, .int .i64 c2, .int .i64 c3] 46
      replace hA := (hA.below hb).below ha
      replace hB := (hB.below hb).below ha
      replace hF := (hF.call hb).call ha
      clear hb ha
      generalize w3.alloc (.cells [Value.int .i64 c1, .int .i64 c2, .int .i64 c3].toArray 46) = Xc at *
      generalize w3.heap.size = n3 at *
      obtain ⟨_, _, _, _, _, _⟩ := hF.m.three
      obtain ⟨_, _, _, _⟩ := hF.p.two
      obtain ⟨_, _, _, _⟩ := hF.q.two
      obtain ⟨_, _, _, _⟩ := hF.r.two
      clear ga gb gc
      cases o with
      | true =>
        have hx : z = h := by rw [hz2.out]; simp
        subst hx
        go_wp2_with (first | (go_at_call 54; with_reducible refine (co _ hF.old).mono ?_; rintro e w4 ⟨rfl, hb⟩; replace hA := hA.below hb; replace hB := hB.below hb; replace hC := hC.below hb; replace hF := hF.call hb; clear hb; obtain ⟨_, _, _, _, _, _⟩ := hA.three; obtain ⟨_, _, _, _, _, _⟩ := hB.three; obtain ⟨_, _, _, _, _, _⟩ := hC.three; obtain ⟨_, _, _, _⟩ := hF.p.two; obtain ⟨_, _, _, _⟩ := hF.q.two; obtain ⟨_, _, _, _⟩ := hF.r.two) | (go_at_call 55; with_reducible refine (cm _).mono ?_; rintro e w5 ⟨rfl, hb⟩; replace hF := hF.call hb))
        go_ret
        exact ⟨rfl, hF.old⟩
      | false =>
        by_cases h1 : c2 ≤ a2
        · have hx : z = false := by rw [hz2.out, decide_eq_false (show ¬ max a2 b2 < c2 by omega)]; simp
          have g1 : decide (c2 ≤ a2) = true := decide_eq_true h1
          subst hx
          go_wp2_with (go_at_call 54; with_reducible refine (co _ hF.old).mono ?_; rintro e w4 ⟨rfl, hb⟩; replace hA := hA.below hb; replace hB := hB.below hb; replace hC := hC.below hb; replace hF := hF.call hb; clear hb; obtain ⟨_, _, _, _, _, _⟩ := hA.three; obtain ⟨_, _, _, _, _, _⟩ := hB.three; obtain ⟨_, _, _, _, _, _⟩ := hC.three; obtain ⟨_, _, _, _⟩ := hF.p.two; obtain ⟨_, _, _, _⟩ := hF.q.two; obtain ⟨_, _, _, _⟩ := hF.r.two)
          go_ret
          exact ⟨rfl, hF.old⟩
        · have g1 : decide (c2 ≤ a2) = false := decide_eq_false h1
          by_cases h2 : c2 ≤ b2
          · have hx : z = false := by rw [hz2.out, decide_eq_false (show ¬ max a2 b2 < c2 by omega)]; simp
            have g2 : decide (c2 ≤ b2) = true := decide_eq_true h2
            subst hx
            go_wp2_with (go_at_call 54; with_reducible refine (co _ hF.old).mono ?_; rintro e w4 ⟨rfl, hb⟩; replace hA := hA.below hb; replace hB := hB.below hb; replace hC := hC.below hb; replace hF := hF.call hb; clear hb; obtain ⟨_, _, _, _, _, _⟩ := hA.three; obtain ⟨_, _, _, _, _, _⟩ := hB.three; obtain ⟨_, _, _, _, _, _⟩ := hC.three; obtain ⟨_, _, _, _⟩ := hF.p.two; obtain ⟨_, _, _, _⟩ := hF.q.two; obtain ⟨_, _, _, _⟩ := hF.r.two)
            go_ret
            exact ⟨rfl, hF.old⟩
          · have g2 : decide (c2 ≤ b2) = false := decide_eq_false h2
            have hx : z = h := by rw [hz2.out, decide_eq_true (show max a2 b2 < c2 by omega)]; simp
            subst hx
            go_wp2_with (first | (go_at_call 54; with_reducible refine (co _ hF.old).mono ?_; rintro e w4 ⟨rfl, hb⟩; replace hA := hA.below hb; replace hB := hB.below hb; replace hC := hC.below hb; replace hF := hF.call hb; clear hb; obtain ⟨_, _, _, _, _, _⟩ := hA.three; obtain ⟨_, _, _, _, _, _⟩ := hB.three; obtain ⟨_, _, _, _, _, _⟩ := hC.three; obtain ⟨_, _, _, _⟩ := hF.p.two; obtain ⟨_, _, _, _⟩ := hF.q.two; obtain ⟨_, _, _, _⟩ := hF.r.two) | (go_at_call 55; with_reducible refine (cm _).mono ?_; rintro e w5 ⟨rfl, hb⟩; replace hF := hF.call hb))
            go_ret
            exact ⟨rfl, hF.old⟩

set_option maxRecDepth 100000 in
set_option maxHeartbeats 8000000 in
theorem rblocks_b (m : M3) (s : Value) (x y u v p q : Int) (z : Bool) (W : World) (hr : RowAt W s m.cs) (hz : Hid (z = blocksv m x y u v p q)) :
    Calls Tryd.prog 12 #[.agg #[.int .i64 m.w, .int .i64 m.h, s], .agg #[.int .i64 x, .int .i64 y], .agg #[.int .i64 u, .int .i64 v], .agg #[.int .i64 p, .int .i64 q]] W fun e w' => e = .returned (.bool z) ∧ Below W.heap.size W w' := by
  obtain ⟨k0, h0⟩ : ∃ k, Hid (k = validm m) := ⟨_, hid rfl⟩
  obtain ⟨k1, h1⟩ : ∃ k, Hid (k = inv m.w m.h x y) := ⟨_, hid rfl⟩
  obtain ⟨k2, h2⟩ : ∃ k, Hid (k = inv m.w m.h u v) := ⟨_, hid rfl⟩
  obtain ⟨k3, h3⟩ : ∃ k, Hid (k = inv m.w m.h p q) := ⟨_, hid rfl⟩
  have hz1 : Hid (z = (k0 && k1 && k2 && k3 && blkv m x y u v p q)) := hid (by rw [hz.out, h0.out, h1.out, h2.out, h3.out]; rfl)
  have cv := fun (w : World) (hb : Below W.heap.size W w) => rvalidm_c m s k0 w (hr.below hb) h0
  have c1 := fun (w : World) => rinsd_b m.w m.h x y s k1 w h1
  have c2 := fun (w : World) => rinsd_b m.w m.h u v s k2 w h2
  have c3 := fun (w : World) => rinsd_b m.w m.h p q s k3 w h3
  clear hz
  have hF := Four.start W [.int .i64 m.w, .int .i64 m.h, s] [.int .i64 x, .int .i64 y] [.int .i64 u, .int .i64 v] [.int .i64 p, .int .i64 q]
  obtain ⟨_, _, _, _, _, _⟩ := hF.m.three
  obtain ⟨_, _, _, _⟩ := hF.p.two
  obtain ⟨_, _, _, _⟩ := hF.q.two
  obtain ⟨_, _, _, _⟩ := hF.r.two
  go_enter Tryd.func12, Tryd.ntmps12
  go_upto_region 1 with fail
  generalize (((W.alloc (.cells [Value.int .i64 m.w, .int .i64 m.h, s].toArray 24)).alloc (.cells [Value.int .i64 x, .int .i64 y].toArray 26)).alloc (.cells [Value.int .i64 u, .int .i64 v].toArray 26)).alloc (.cells [Value.int .i64 p, .int .i64 q].toArray 26) = X at *
  cases k0 with
  | false =>
    have hx : z = false := by rw [hz1.out]; rfl
    subst hx
    go_wp2_with (first | (go_at_call 21; with_reducible refine (cv _ hF.old).mono ?_; rintro e w1 ⟨rfl, hb⟩; replace hF := hF.call hb; clear hb; obtain ⟨_, _, _, _, _, _⟩ := hF.m.three; obtain ⟨_, _, _, _⟩ := hF.p.two; obtain ⟨_, _, _, _⟩ := hF.q.two; obtain ⟨_, _, _, _⟩ := hF.r.two))
    go_ret
    exact ⟨rfl, hF.old⟩
  | true =>
    cases k1 with
    | false =>
      have hx : z = false := by rw [hz1.out]; rfl
      subst hx
      go_wp2_with (first | (go_at_call 21; with_reducible refine (cv _ hF.old).mono ?_; rintro e w1 ⟨rfl, hb⟩; replace hF := hF.call hb; clear hb; obtain ⟨_, _, _, _, _, _⟩ := hF.m.three; obtain ⟨_, _, _, _⟩ := hF.p.two; obtain ⟨_, _, _, _⟩ := hF.q.two; obtain ⟨_, _, _, _⟩ := hF.r.two) | (go_at_call 31; with_reducible refine (c1 _).mono ?_; rintro e w2 ⟨rfl, hb⟩; replace hF := hF.call hb; clear hb; obtain ⟨_, _, _, _, _, _⟩ := hF.m.three; obtain ⟨_, _, _, _⟩ := hF.p.two; obtain ⟨_, _, _, _⟩ := hF.q.two; obtain ⟨_, _, _, _⟩ := hF.r.two))
      go_ret
      exact ⟨rfl, hF.old⟩
    | true =>
      cases k2 with
      | false =>
        have hx : z = false := by rw [hz1.out]; rfl
        subst hx
        go_wp2_with (first | (go_at_call 21; with_reducible refine (cv _ hF.old).mono ?_; rintro e w1 ⟨rfl, hb⟩; replace hF := hF.call hb; clear hb; obtain ⟨_, _, _, _, _, _⟩ := hF.m.three; obtain ⟨_, _, _, _⟩ := hF.p.two; obtain ⟨_, _, _, _⟩ := hF.q.two; obtain ⟨_, _, _, _⟩ := hF.r.two) | (go_at_call 31; with_reducible refine (c1 _).mono ?_; rintro e w2 ⟨rfl, hb⟩; replace hF := hF.call hb; clear hb; obtain ⟨_, _, _, _, _, _⟩ := hF.m.three; obtain ⟨_, _, _, _⟩ := hF.p.two; obtain ⟨_, _, _, _⟩ := hF.q.two; obtain ⟨_, _, _, _⟩ := hF.r.two) | (go_at_call 31; with_reducible refine (c2 _).mono ?_; rintro e w2 ⟨rfl, hb⟩; replace hF := hF.call hb; clear hb; obtain ⟨_, _, _, _, _, _⟩ := hF.m.three; obtain ⟨_, _, _, _⟩ := hF.p.two; obtain ⟨_, _, _, _⟩ := hF.q.two; obtain ⟨_, _, _, _⟩ := hF.r.two))
        go_ret
        exact ⟨rfl, hF.old⟩
      | true =>
        cases k3 with
        | false =>
          have hx : z = false := by rw [hz1.out]; rfl
          subst hx
          go_wp2_with (first | (go_at_call 21; with_reducible refine (cv _ hF.old).mono ?_; rintro e w1 ⟨rfl, hb⟩; replace hF := hF.call hb; clear hb; obtain ⟨_, _, _, _, _, _⟩ := hF.m.three; obtain ⟨_, _, _, _⟩ := hF.p.two; obtain ⟨_, _, _, _⟩ := hF.q.two; obtain ⟨_, _, _, _⟩ := hF.r.two) | (go_at_call 31; with_reducible refine (c1 _).mono ?_; rintro e w2 ⟨rfl, hb⟩; replace hF := hF.call hb; clear hb; obtain ⟨_, _, _, _, _, _⟩ := hF.m.three; obtain ⟨_, _, _, _⟩ := hF.p.two; obtain ⟨_, _, _, _⟩ := hF.q.two; obtain ⟨_, _, _, _⟩ := hF.r.two) | (go_at_call 31; with_reducible refine (c2 _).mono ?_; rintro e w2 ⟨rfl, hb⟩; replace hF := hF.call hb; clear hb; obtain ⟨_, _, _, _, _, _⟩ := hF.m.three; obtain ⟨_, _, _, _⟩ := hF.p.two; obtain ⟨_, _, _, _⟩ := hF.q.two; obtain ⟨_, _, _, _⟩ := hF.r.two) | (go_at_call 31; with_reducible refine (c3 _).mono ?_; rintro e w2 ⟨rfl, hb⟩; replace hF := hF.call hb; clear hb; obtain ⟨_, _, _, _, _, _⟩ := hF.m.three; obtain ⟨_, _, _, _⟩ := hF.p.two; obtain ⟨_, _, _, _⟩ := hF.q.two; obtain ⟨_, _, _, _⟩ := hF.r.two))
          go_ret
          exact ⟨rfl, hF.old⟩
        | true =>
          have cb := fun (w : World) (hb : Below W.heap.size W w) => rblk_b m s x y u v p q z w (hr.below hb) (formed_of h0.out.symm) h1.out.symm h2.out.symm h3.out.symm (hid (by rw [hz1.out]; rfl))
          clear h0 h1 h2 h3 hz1
          go_wp2_with (first | (go_at_call 21; with_reducible refine (cv _ hF.old).mono ?_; rintro e w1 ⟨rfl, hb⟩; replace hF := hF.call hb; clear hb; obtain ⟨_, _, _, _, _, _⟩ := hF.m.three; obtain ⟨_, _, _, _⟩ := hF.p.two; obtain ⟨_, _, _, _⟩ := hF.q.two; obtain ⟨_, _, _, _⟩ := hF.r.two) | (go_at_call 31; with_reducible refine (c1 _).mono ?_; rintro e w2 ⟨rfl, hb⟩; replace hF := hF.call hb; clear hb; obtain ⟨_, _, _, _, _, _⟩ := hF.m.three; obtain ⟨_, _, _, _⟩ := hF.p.two; obtain ⟨_, _, _, _⟩ := hF.q.two; obtain ⟨_, _, _, _⟩ := hF.r.two) | (go_at_call 31; with_reducible refine (c2 _).mono ?_; rintro e w2 ⟨rfl, hb⟩; replace hF := hF.call hb; clear hb; obtain ⟨_, _, _, _, _, _⟩ := hF.m.three; obtain ⟨_, _, _, _⟩ := hF.p.two; obtain ⟨_, _, _, _⟩ := hF.q.two; obtain ⟨_, _, _, _⟩ := hF.r.two) | (go_at_call 31; with_reducible refine (c3 _).mono ?_; rintro e w2 ⟨rfl, hb⟩; replace hF := hF.call hb; clear hb; obtain ⟨_, _, _, _, _, _⟩ := hF.m.three; obtain ⟨_, _, _, _⟩ := hF.p.two; obtain ⟨_, _, _, _⟩ := hF.q.two; obtain ⟨_, _, _, _⟩ := hF.r.two) | (go_at_call 32; with_reducible refine (cb _ hF.old).mono ?_; rintro e w3 ⟨rfl, hb⟩; replace hF := hF.call hb))
          go_ret
          exact ⟨by simp, hF.old⟩

end Go.Proofs.YtlcbkeieejmmbaaDoor
