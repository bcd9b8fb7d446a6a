/-
  The laws of astar: what Path tells a law.
-/
import Derived.Test.YtbdgpldhfemejaaDoorAsLawP
namespace Go.Proofs.YtbdgpldhfemejaaDoor
open Go.RowKit Go.Lib

abbrev okA (m : M3) (c : Int) (a b : Pt) : Bool := validm m && classv c && insp m a && insp m b
abbrev frA (m : M3) (bl : List Bool) (c : Int) (a b : Pt) : Bool := openv m bl c a.1 a.2 && openv m bl c b.1 b.2
/-- What is known of Path's answers. -/
structure PathF (m : M3) (bl : List Bool) (c : Int) (a b : Pt) (v : Value) (n er : Int) (w' : World) : Prop where
  good : er = 0 → okA m c a b = true ∧ frA m bl c a b = true ∧ ∃ D, IsDist (nb m bl c) m.cs.length (idx m b) D ∧ 0 ≤ ga D (idx m a) ∧ n = ga D (idx m a) ∧ PsAt w' v ((pathG (nb m bl c) D (idx m a)).map (posn m))
  none_ : er = 22 → okA m c a b = true ∧ frA m bl c a b = true ∧ ∃ D, IsDist (nb m bl c) m.cs.length (idx m b) D ∧ ga D (idx m a) = -1
  bad : er ≠ 0 → v = .slice none 0 0 ∧ n = 0
  all : okA m c a b = true → frA m bl c a b = true → er = 0 ∨ er = 22
  num : 0 ≤ n ∧ n ≤ 30000
theorem aspath_f (m : M3) (sp : Option Addr) (sn sk : Nat) (bl : List Bool) (lp : Option Addr) (ln lk : Nat) (c x y x2 y2 : Int) (W : World) (hG : Gd W m (.slice sp sn sk) bl (.slice lp ln lk)) :
    Calls Tryd.prog 12 #[.agg #[.int .i64 m.w, .int .i64 m.h, .slice sp sn sk], .slice lp ln lk, .int .i64 c, .agg #[.int .i64 x, .int .i64 y], .agg #[.int .i64 x2, .int .i64 y2]] W fun e w' =>
      ∃ p k q n er, e = .returned (.tuple #[.slice p k q, .int .i64 n, .int .i64 er]) ∧ Below W.heap.size W w' ∧ PathF m bl c (x, y) (x2, y2) (.slice p k q) n er w' :=
  (aspath_b m sp sn sk bl lp ln lk c x y x2 y2 W hG).mono fun e w' ⟨hb, h⟩ => by
    cases h with
    | arg h => exact ⟨_, _, _, _, _, rfl, hb, ⟨fun h => by omega, fun h => by omega, fun _ => ⟨rfl, rfl⟩, fun h1 _ => absurd ((show okA m c (x, y) (x2, y2) = false from h).symm.trans h1) Bool.false_ne_true, by omega⟩⟩
    | blocked _ h => exact ⟨_, _, _, _, _, rfl, hb, ⟨fun h => by omega, fun h => by omega, fun _ => ⟨rfl, rfl⟩, fun _ h1 => absurd ((show frA m bl c (x, y) (x2, y2) = false from h).symm.trans h1) Bool.false_ne_true, by omega⟩⟩
    | none D h1 h2 hd h => exact ⟨_, _, _, _, _, rfl, hb, ⟨fun h => by omega, fun _ => ⟨h1, h2, D, hd, h⟩, fun _ => ⟨rfl, rfl⟩, fun _ _ => .inr rfl, by omega⟩⟩
    | way D v h1 h2 hd h3 h4 ho =>
      have hp := PsAt.any ho rfl
      obtain ⟨p, k, q, rfl⟩ : ∃ p k q, v = .slice p k q := by
        rcases ho.2 with ⟨e, _⟩ | ⟨g, cap, cur, e, _⟩
        · exact ⟨_, _, _, e⟩
        · exact ⟨_, _, _, e⟩
      exact ⟨_, _, _, _, _, rfl, hb, ⟨fun _ => ⟨h1, h2, D, hd, h3, rfl, hp⟩, fun h => by omega, fun h => absurd rfl h, fun _ _ => .inl rfl, ⟨h3, (h4 _).2⟩⟩⟩
theorem tri_least {m : M3} {bl : List Bool} {c : Int} {a b d : Pt} {v1 v2 v3 : Value} {ab bc ac e3 : Int} {w1 w2 w3 : World} (h1 : PathF m bl c a b v1 ab 0 w1) (h2 : PathF m bl c b d v2 bc 0 w2) (h3 : PathF m bl c a d v3 ac e3 w3) : e3 = 0 ∧ ac ≤ ab + bc := by
  obtain ⟨o1, f1, D1, d1, g1, n1, _⟩ := h1.good rfl
  obtain ⟨o2, f2, D2, d2, g2, n2, _⟩ := h2.good rfl
  unfold okA at o1 o2
  unfold frA at f1 f2
  simp only [Bool.and_eq_true] at o1 o2 f1 f2
  have hf : formedv m = true := classv_of (c := c) (by rw [o1.1.1.1, o1.1.1.2]; rfl)
  have ok := nb_ok hf bl c
  have hb : idx m b < m.cs.length := (posn_idx hf o1.2).2.1
  have hd : idx m d < m.cs.length := (posn_idx hf o2.2).2.1
  have o3 : okA m c a d = true := by unfold okA; rw [o1.1.1.1, o1.1.1.2, o1.1.2, o2.2]; rfl
  have f3 : frA m bl c a d = true := by unfold frA; rw [f1.1, f2.2]; rfl
  have wy : Way (nb m bl c) (idx m d) (idx m a) (bc + ab) := by
    have w2 := d2.way g2
    have w1 := d1.way g1
    rw [← n2] at w2
    rw [← n1] at w1
    exact w2.trans w1
  rcases h3.all o3 f3 with e | e
  · obtain ⟨_, _, D3, d3, g3, n3, _⟩ := h3.good e
    have := d3.least ok hd wy
    exact ⟨e, by omega⟩
  · obtain ⟨_, _, D3, d3, g3⟩ := h3.none_ e
    have := d3.least ok hd wy
    omega

set_option maxRecDepth 100000 in
set_option maxHeartbeats 8000000 in
theorem law14_triangles (m : M3) (s : Value) (bl : List Bool) (l : Value) (c : Int) (a b d : Pt) (W : World) (hE : EnvT W) (hn : HighAt m) (hr : RowAt W s m.cs) (hl : BitsAt W l bl) :
    Calls Tryd.prog 8 #[.agg #[.int .i64 m.w, .int .i64 m.h, s, l, .int .i64 c, .int .i64 a.1, .int .i64 a.2, .int .i64 b.1, .int .i64 b.2, .int .i64 d.1, .int .i64 d.2]] W fun e w' => e = .returned (.bool true) ∧ Below W.heap.size W w' := by
  have hG : Gd W m s bl l := ⟨hE, hn, hr, hl⟩
  obtain ⟨p0, c0, rfl⟩ := hr.slice
  obtain ⟨pl, kl, rfl, -⟩ := id hl
  obtain ⟨sm, hsm⟩ : ∃ sm, Hid (sm = decide (m.cs.length ≤ 1100 ∧ bl.length ≤ 2000)) := ⟨_, hid rfl⟩
  have ch := fun (w : World) => assmall_b m p0 pl bl.length c0 kl c a.1 a.2 b.1 b.2 d.1 d.2 sm w hsm
  have ca := fun (w : World) (hb : Below W.heap.size W w) => asalive_b w (hE.keep hb)
  have hB := Blk.new W [.int .i64 m.w, .int .i64 m.h, .slice p0 m.cs.length c0, .slice pl bl.length kl, .int .i64 c, .int .i64 a.1, .int .i64 a.2, .int .i64 b.1, .int .i64 b.2, .int .i64 d.1, .int .i64 d.2] 29
  have hW := (Below.refl W.heap.size W).alloc (Nat.le_refl _) (.cells [Value.int .i64 m.w, .int .i64 m.h, .slice p0 m.cs.length c0, .slice pl bl.length kl, .int .i64 c, .int .i64 a.1, .int .i64 a.2, .int .i64 b.1, .int .i64 b.2, .int .i64 d.1, .int .i64 d.2].toArray 29)
  go_enter Tryd.func8, Tryd.ntmps8
  go_upto_region 1 with fail
  obtain ⟨X, hX⟩ : ∃ X, X = W.alloc (.cells [Value.int .i64 m.w, .int .i64 m.h, .slice p0 m.cs.length c0, .slice pl bl.length kl, .int .i64 c, .int .i64 a.1, .int .i64 a.2, .int .i64 b.1, .int .i64 b.2, .int .i64 d.1, .int .i64 d.2].toArray 29) := ⟨_, rfl⟩
  rw [← hX] at hB hW ⊢
  clear hX
  have q0 := hB.cell 0
  have q1 := hB.cell 1
  have q2 := hB.cell 2
  have q3 := hB.cell 3
  have q4 := hB.cell 4
  have q5 := hB.cell 5
  have q6 := hB.cell 6
  have q7 := hB.cell 7
  have q8 := hB.cell 8
  have q9 := hB.cell 9
  have q10 := hB.cell 10
  simp only [List.getElem?_cons_zero, List.getElem?_cons_succ] at q0 q1 q2 q3 q4 q5 q6 q7 q8 q9 q10
  cases sm with
  | false =>
    go_wp2_with (first
      | (go_at_call 10; with_reducible refine (ch _).mono ?_; rintro e w1 ⟨rfl, hb⟩; replace hW := below_call hW hb; clear hb)
      | (go_at_call 11; with_reducible refine (ca _ hW).mono ?_; rintro e w2 ⟨rfl, hb⟩))
    go_ret
    exact ⟨rfl, below_call hW hb⟩
  | true =>
    go_wp2_with (go_at_call 10; with_reducible refine (ch _).mono ?_; rintro e w1 ⟨rfl, hb⟩; replace hW := below_call hW hb; replace hB := hB.below hb; clear hb ch; clear q0 q1 q2 q3 q4 q5 q6 q7 q8 q9 q10; have q0 := hB.cell 0; have q1 := hB.cell 1; have q2 := hB.cell 2; have q3 := hB.cell 3; have q4 := hB.cell 4; have q5 := hB.cell 5; have q6 := hB.cell 6; have q7 := hB.cell 7; have q8 := hB.cell 8; have q9 := hB.cell 9; have q10 := hB.cell 10; simp only [List.getElem?_cons_zero, List.getElem?_cons_succ] at q0 q1 q2 q3 q4 q5 q6 q7 q8 q9 q10)
    ((with_reducible refine (aspath_f m p0 m.cs.length c0 bl pl bl.length kl c a.1 a.2 b.1 b.2 w1 (hG.below hW)).mono ?_); rintro e w2 ⟨s1, s2, s3, ab, e1, rfl, hb, hp1⟩)
    replace hB := hB.below hb
    replace hW := below_call hW hb
    clear hb q0 q1 q2 q3 q4 q5 q6 q7 q8 q9 q10
    have q0 := hB.cell 0
    have q1 := hB.cell 1
    have q2 := hB.cell 2
    have q3 := hB.cell 3
    have q4 := hB.cell 4
    have q5 := hB.cell 5
    have q6 := hB.cell 6
    have q7 := hB.cell 7
    have q8 := hB.cell 8
    have q9 := hB.cell 9
    have q10 := hB.cell 10
    simp only [List.getElem?_cons_zero, List.getElem?_cons_succ] at q0 q1 q2 q3 q4 q5 q6 q7 q8 q9 q10
    go_wp2_with fail
    ((with_reducible refine (aspath_f m p0 m.cs.length c0 bl pl bl.length kl c b.1 b.2 d.1 d.2 w2 (hG.below hW)).mono ?_); rintro e w3 ⟨t1, t2, t3, bc, e2, rfl, hb, hp2⟩)
    replace hB := hB.below hb
    replace hW := below_call hW hb
    clear hb q0 q1 q2 q3 q4 q5 q6 q7 q8 q9 q10
    have q0 := hB.cell 0
    have q1 := hB.cell 1
    have q2 := hB.cell 2
    have q3 := hB.cell 3
    have q4 := hB.cell 4
    have q5 := hB.cell 5
    have q6 := hB.cell 6
    have q7 := hB.cell 7
    have q8 := hB.cell 8
    have q9 := hB.cell 9
    have q10 := hB.cell 10
    simp only [List.getElem?_cons_zero, List.getElem?_cons_succ] at q0 q1 q2 q3 q4 q5 q6 q7 q8 q9 q10
    have hp1h := hid hp1
    have hp2h := hid hp2
    have hab := hp1.num
    have hbc := hp2.num
    clear hp1 hp2
    by_cases h1 : e1 = 0
    · subst h1
      by_cases h2 : e2 = 0
      · subst h2
        go_wp2_with fail
        ((with_reducible refine (aspath_f m p0 m.cs.length c0 bl pl bl.length kl c a.1 a.2 d.1 d.2 w3 (hG.below hW)).mono ?_); rintro e w4 ⟨r1, r2, r3, ac, e3, rfl, hb, hp3⟩)
        replace hW := below_call hW hb
        obtain ⟨he3, hle⟩ := tri_least hp1h.out hp2h.out hp3
        subst he3
        have hsum : IntKind.i64.wrap (ab + bc) = ab + bc := IntWalk.i64_in _ (by omega)
        have hdec : decide (ac ≤ ab + bc) = true := decide_eq_true hle
        clear hb hp3 hp1h hp2h hle
        go_wp2_with (go_at_call 11; with_reducible refine (ca _ hW).mono ?_; rintro e w9 ⟨rfl, hb⟩)
        go_ret
        exact ⟨rfl, below_call hW hb⟩
      · have z2 : (e2 != 0) = true := bne_iff_ne.2 h2
        clear h2
        go_wp2_with (go_at_call 11; with_reducible refine (ca _ hW).mono ?_; rintro e w9 ⟨rfl, hb⟩)
        go_ret
        exact ⟨rfl, below_call hW hb⟩
    · have z1 : (e1 != 0) = true := bne_iff_ne.2 h1
      clear h1
      go_wp2_with (go_at_call 11; with_reducible refine (ca _ hW).mono ?_; rintro e w9 ⟨rfl, hb⟩)
      go_ret
      exact ⟨rfl, below_call hW hb⟩

end Go.Proofs.YtbdgpldhfemejaaDoor
