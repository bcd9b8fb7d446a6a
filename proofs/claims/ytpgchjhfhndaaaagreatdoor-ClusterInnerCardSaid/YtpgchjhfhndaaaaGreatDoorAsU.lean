/-
  The laws of astar: what Path tells a law.
-/
import Derived.Test.YtpgchjhfhndaaaaGreatDoorAsLawP
namespace Go.Proofs.YtpgchjhfhndaaaaGreatDoor
open Go.RowKit Go.Lib

abbrev okA (m : M3) (c : Int) (a b : Pt) : Bool := validm m && classv c && insp m a && insp m b
abbrev frA (m : M3) (bl : List Bool) (c : Int) (a b : Pt) : Bool := openv m bl c a.1 a.2 && openv m bl c b.1 b.2
/-- What is known of Path's answers. -/
structure PathF (m : M3) (bl : List Bool) (c : Int) (a b : Pt) (v : Value) (n er : Int) (w' : World) : Prop where
  good : er = 0 → okA m c a b = true ∧ frA m bl c a b = true ∧ ∃ D, IsDist (nb m bl c) m.cs.length (idx m b) D ∧ 0 ≤ ga D (idx m a) ∧ n = ga D (idx m a) ∧ PsAt w' v ((pathG (nb m bl c) D (idx m a)).map (posn m))
  none_ : er = 22 → okA m c a b = true ∧ frA m bl c a b = true ∧ ∃ D, IsDist (nb m bl c) m.cs.length (idx m b) D ∧ ga D (idx m a) = -1
  bad : er ≠ 0 → v = .slice none 0 0 ∧ n = 0
  all : okA m c a b = true → frA m bl c a b = true → er = 0 ∨ er = 22
  num : 0 ≤ n ∧ n ≤ 30000
theorem aspath_f (m : M3) (sp : Option Addr) (sn sk : Nat) (bl : List Bool) (lp : Option Addr) (ln lk : Nat) (c x y x2 y2 : Int) (W : World) (hG : Gd W m (.slice sp sn sk) bl (.slice lp ln lk)) :
    Calls Tryz.prog 28 #[.agg #[.int .i64 m.w, .int .i64 m.h, .slice sp sn sk], .slice lp ln lk, .int .i64 c, .agg #[.int .i64 x, .int .i64 y], .agg #[.int .i64 x2, .int .i64 y2]] W fun e w' =>
      ∃ p k q n er, e = .returned (.tuple #[.slice p k q, .int .i64 n, .int .i64 er]) ∧ Below W.heap.size W w' ∧ PathF m bl c (x, y) (x2, y2) (.slice p k q) n er w' :=
  (aspath_b m sp sn sk bl lp ln lk c x y x2 y2 W hG).mono fun e w' ⟨hb, h⟩ => by
    cases h with
    | arg h => exact ⟨_, _, _, _, _, rfl, hb, ⟨fun h => by omega, fun h => by omega, fun _ => ⟨rfl, rfl⟩, fun h1 _ => absurd ((show okA m c (x, y) (x2, y2) = false from h).symm.trans h1) Bool.false_ne_true, by omega⟩⟩
    | blocked _ h => exact ⟨_, _, _, _, _, rfl, hb, ⟨fun h => by omega, fun h => by omega, fun _ => ⟨rfl, rfl⟩, fun _ h1 => absurd ((show frA m bl c (x, y) (x2, y2) = false from h).symm.trans h1) Bool.false_ne_true, by omega⟩⟩
    | none D h1 h2 hd h => exact ⟨_, _, _, _, _, rfl, hb, ⟨fun h => by omega, fun _ => ⟨h1, h2, D, hd, h⟩, fun _ => ⟨rfl, rfl⟩, fun _ _ => .inr rfl, by omega⟩⟩
    | way D v h1 h2 hd h3 h4 ho =>
      have hp := PsAt.any ho rfl
      obtain ⟨p, k, q, rfl⟩ : ∃ p k q, v = .slice p k q := by
        rcases ho.2 with ⟨e, _⟩ | ⟨g, cap, cur, e, _⟩
        · exact ⟨_, _, _, e⟩
        · exact ⟨_, _, _, e⟩
      exact ⟨_, _, _, _, _, rfl, hb, ⟨fun _ => ⟨h1, h2, D, hd, h3, rfl, hp⟩, fun h => by omega, fun h => absurd rfl h, fun _ _ => .inl rfl, ⟨h3, (h4 _).2⟩⟩⟩
theorem tri_least {m : M3} {bl : List Bool} {c : Int} {a b d : Pt} {v1 v2 v3 : Value} {ab bc ac e3 : Int} {w1 w2 w3 : World} (h1 : PathF m bl c a b v1 ab 0 w1) (h2 : PathF m bl c b d v2 bc 0 w2) (h3 : PathF m bl c a d v3 ac e3 w3) : e3 = 0 ∧ ac ≤ ab + bc := by
  obtain ⟨o1, f1, D1, d1, g1, n1, _⟩ := h1.good rfl
  obtain ⟨o2, f2, D2, d2, g2, n2, _⟩ := h2.good rfl
  unfold okA at o1 o2
  unfold frA at f1 f2
  simp only [Bool.and_eq_true] at o1 o2 f1 f2
  have hf : formedv m = true := classv_of (c := c) (by rw [o1.1.1.1, o1.1.1.2]; rfl)
  have ok := nb_ok hf bl c
  have hb : idx m b < m.cs.length := (posn_idx hf o1.2).2.1
  have hd : idx m d < m.cs.length := (posn_idx hf o2.2).2.1
  have o3 : okA m c a d = true := by unfold okA; rw [o1.1.1.1, o1.1.1.2, o1.1.2, o2.2]; rfl
  have f3 : frA m bl c a d = true := by unfold frA; rw [f1.1, f2.2]; rfl
  have wy : Way (nb m bl c) (idx m d) (idx m a) (bc + ab) := by
    have w2 := d2.way g2
    have w1 := d1.way g1
    rw [← n2] at w2
    rw [← n1] at w1
    exact w2.trans w1
  rcases h3.all o3 f3 with e | e
  · obtain ⟨_, _, D3, d3, g3, n3, _⟩ := h3.good e
    have := d3.least ok hd wy
    exact ⟨e, by omega⟩
  · obtain ⟨_, _, D3, d3, g3⟩ := h3.none_ e
    have := d3.least ok hd wy
    omega

end Go.Proofs.YtpgchjhfhndaaaaGreatDoor
