/-
  What the functions of grid are held to; the chapter's examples.
-/
import Derived.Test.YtipfiggifnfljaaDoorGridH
namespace Go.Proofs.YtipfiggifnfljaaDoor
open Go.RowKit Go.Lib

/-- What the functions of grid are held to. -/
structure GridHave (E : World → Prop) : Prop where
  keep : ∀ {w w' : World}, E w → Below w.heap.size w w' → E w'
  valid : ∀ (w h : Int) (b : Bool) (W : World), I64 w → I64 h → Hid (b = validv w h) → Calls Tryd.prog 11 #[.int .i64 w, .int .i64 h] W fun e w' => e = .returned (.bool b) ∧ Below W.heap.size W w'
  inn : ∀ (w h x y : Int) (b : Bool) (W : World), I64 w → I64 h → I64 x → I64 y → Hid (b = inv w h x y) → Calls Tryd.prog 13 #[.int .i64 w, .int .i64 h, .agg #[.int .i64 x, .int .i64 y]] W fun e w' => e = .returned (.bool b) ∧ Below W.heap.size W w'
  index : ∀ (w x y : Int) (n : Int) (W : World), I64 w → I64 x → I64 y → Hid (n = indexv w x y) → Calls Tryd.prog 15 #[.int .i64 w, .agg #[.int .i64 x, .int .i64 y]] W fun e w' => e = .returned (.int .i64 n) ∧ Below W.heap.size W w'
  at_ : ∀ (w i : Int) (x y : Int) (W : World), I64 w → I64 i → Hid (x = atx w i ∧ y = aty w i) → Calls Tryd.prog 17 #[.int .i64 w, .int .i64 i] W fun e w' => e = .returned (.agg #[.int .i64 x, .int .i64 y]) ∧ Below W.heap.size W w'
  step : ∀ (x y d : Int) (u v : Int) (W : World), E W → I64 x → I64 y → I64 d → Hid (u = stx x d ∧ v = sty y d) → Calls Tryd.prog 20 #[.agg #[.int .i64 x, .int .i64 y], .int .i64 d] W fun e w' => e = .returned (.agg #[.int .i64 u, .int .i64 v]) ∧ Below W.heap.size W w'
  nei : ∀ (w h x y : Int) (L : List (Int × Int)) (W : World), E W → I64 w → I64 h → I64 x → I64 y → Hid (neiv w h x y = L) → Calls Tryd.prog 23 #[.int .i64 w, .int .i64 h, .agg #[.int .i64 x, .int .i64 y]] W fun e w' => ∃ s, e = .returned s ∧ w'.ownsRow W.heap.size 23 2 s L.length (pcells L) ∧ Below W.heap.size W w'
  oct : ∀ (x y u v : Int) (n : Int) (W : World), I64 x → I64 y → I64 u → I64 v → Hid (n = octv x y u v) → Calls Tryd.prog 25 #[.agg #[.int .i64 x, .int .i64 y], .agg #[.int .i64 u, .int .i64 v]] W fun e w' => e = .returned (.int .i64 n) ∧ Below W.heap.size W w'
  cheb : ∀ (x y u v : Int) (n : Int) (W : World), I64 x → I64 y → I64 u → I64 v → Hid (n = chebv x y u v) → Calls Tryd.prog 27 #[.agg #[.int .i64 x, .int .i64 y], .agg #[.int .i64 u, .int .i64 v]] W fun e w' => e = .returned (.int .i64 n) ∧ Below W.heap.size W w'
  inside : ∀ (x y u v p q : Int) (b : Bool) (W : World), I64 x → I64 y → I64 u → I64 v → I64 p → I64 q → Hid (b = insv ⟨x, y, u, v⟩ p q) → Calls Tryd.prog 29 #[.agg #[.int .i64 x, .int .i64 y, .int .i64 u, .int .i64 v], .agg #[.int .i64 p, .int .i64 q]] W fun e w' => e = .returned (.bool b) ∧ Below W.heap.size W w'
  clip : ∀ (g h x y u v : Int) (a b c d : Int) (W : World), I64 g → I64 h → I64 x → I64 y → I64 u → I64 v → Hid (clipv g h ⟨x, y, u, v⟩ = ⟨a, b, c, d⟩) → Calls Tryd.prog 31 #[.int .i64 g, .int .i64 h, .agg #[.int .i64 x, .int .i64 y, .int .i64 u, .int .i64 v]] W fun e w' => e = .returned (.agg #[.int .i64 a, .int .i64 b, .int .i64 c, .int .i64 d]) ∧ Below W.heap.size W w'
  cells : ∀ (x y u v : Int) (L : List (Int × Int)) (W : World), I64 x → I64 y → I64 u → I64 v → Hid (cellsv ⟨x, y, u, v⟩ = L) → Calls Tryd.prog 33 #[.agg #[.int .i64 x, .int .i64 y, .int .i64 u, .int .i64 v]] W fun e w' => ∃ s, e = .returned s ∧ w'.ownsRow W.heap.size 23 2 s L.length (pcells L) ∧ Below W.heap.size W w'
  meet : ∀ (x y u v p q m n : Int) (b : Bool) (W : World), I64 x → I64 y → I64 u → I64 v → I64 p → I64 q → I64 m → I64 n → Hid (b = meetv ⟨x, y, u, v⟩ ⟨p, q, m, n⟩) → Calls Tryd.prog 35 #[.agg #[.int .i64 x, .int .i64 y, .int .i64 u, .int .i64 v], .agg #[.int .i64 p, .int .i64 q, .int .i64 m, .int .i64 n]] W fun e w' => e = .returned (.bool b) ∧ Below W.heap.size W w'

theorem same_below {e a : Ending} {w w' : World} (h : e = a ∧ w = w') : e = a ∧ Below w.heap.size w w' := ⟨h.1, h.2 ▸ Below.refl _ _⟩
theorem sval_n (w h : Int) (b : Bool) (W : World) (e : Hid (b = validv w h)) : Calls Tryd.prog 12 #[.int .i64 w, .int .i64 h] W fun e w' => e = .returned (.bool b) ∧ Below W.heap.size W w' := by
  rw [e.out]; exact (rvalid_any w h W).mono fun _ _ => same_below
theorem sin_n (w h x y : Int) (b : Bool) (W : World) (e : Hid (b = inv w h x y)) : Calls Tryd.prog 14 #[.int .i64 w, .int .i64 h, .agg #[.int .i64 x, .int .i64 y]] W fun e w' => e = .returned (.bool b) ∧ Below W.heap.size W w' := by
  rw [e.out]; exact rin_any w h x y W
theorem sindex_n (w x y n : Int) (W : World) (e : Hid (n = indexv w x y)) : Calls Tryd.prog 16 #[.int .i64 w, .agg #[.int .i64 x, .int .i64 y]] W fun e w' => e = .returned (.int .i64 n) ∧ Below W.heap.size W w' := by
  rw [e.out]; exact rindex_any w x y W
theorem sat_n (w i x y : Int) (W : World) (hi : I64 i) (e : Hid (x = atx w i ∧ y = aty w i)) : Calls Tryd.prog 18 #[.int .i64 w, .int .i64 i] W fun e w' => e = .returned (.agg #[.int .i64 x, .int .i64 y]) ∧ Below W.heap.size W w' := by
  rw [e.out.1, e.out.2]; exact rat_any w i W hi.2
theorem sstep_n (x y d u v : Int) (W : World) (e : Hid (u = stx x d ∧ v = sty y d)) : Calls Tryd.prog 21 #[.agg #[.int .i64 x, .int .i64 y], .int .i64 d] W fun e w' => e = .returned (.agg #[.int .i64 u, .int .i64 v]) ∧ Below W.heap.size W w' := by
  rw [e.out.1, e.out.2]; exact rstep_any x y d W
theorem snei_n (w h x y : Int) (L : List (Int × Int)) (W : World) (e : Hid (neiv w h x y = L)) : Calls Tryd.prog 24 #[.int .i64 w, .int .i64 h, .agg #[.int .i64 x, .int .i64 y]] W fun e w' => ∃ s, e = .returned s ∧ w'.ownsRow W.heap.size 23 2 s L.length (pcells L) ∧ Below W.heap.size W w' := by
  have h1 := e.out
  unfold neiv at h1
  cases hv : validv w h with
  | true =>
    rw [if_pos hv] at h1
    exact rnei_yes w h x y W hv L (hid h1)
  | false =>
    rw [if_neg (by rw [hv]; simp)] at h1
    subst h1
    exact (rnei_no w h x y W hv).mono fun e w' ⟨he, hb⟩ => ⟨_, he, World.ownsRow_nil _ _ _ _, hb⟩
theorem neiv_len (w h x y : Int) : (neiv w h x y).length ≤ 8 := by
  unfold neiv
  split
  · exact neiGo_len w h x y 8 0
  · simp
theorem soct_n (x y u v n : Int) (W : World) (e : Hid (n = octv x y u v)) : Calls Tryd.prog 26 #[.agg #[.int .i64 x, .int .i64 y], .agg #[.int .i64 u, .int .i64 v]] W fun e w' => e = .returned (.int .i64 n) ∧ Below W.heap.size W w' := by
  rw [e.out]; exact roct_any x y u v W
theorem scheb_n (x y u v n : Int) (W : World) (e : Hid (n = chebv x y u v)) : Calls Tryd.prog 28 #[.agg #[.int .i64 x, .int .i64 y], .agg #[.int .i64 u, .int .i64 v]] W fun e w' => e = .returned (.int .i64 n) ∧ Below W.heap.size W w' := by
  rw [e.out]; exact rcheb_any x y u v W
theorem sins_n (x y u v p q : Int) (b : Bool) (W : World) (e : Hid (b = insv ⟨x, y, u, v⟩ p q)) : Calls Tryd.prog 30 #[.agg #[.int .i64 x, .int .i64 y, .int .i64 u, .int .i64 v], .agg #[.int .i64 p, .int .i64 q]] W fun e w' => e = .returned (.bool b) ∧ Below W.heap.size W w' := by
  rw [e.out]; exact rins_x x y u v p q W
theorem sclip_n (g h x y u v a b c d : Int) (W : World) (e : Hid (clipv g h ⟨x, y, u, v⟩ = ⟨a, b, c, d⟩)) : Calls Tryd.prog 32 #[.int .i64 g, .int .i64 h, .agg #[.int .i64 x, .int .i64 y, .int .i64 u, .int .i64 v]] W fun e w' => e = .returned (.agg #[.int .i64 a, .int .i64 b, .int .i64 c, .int .i64 d]) ∧ Below W.heap.size W w' := by
  have h1 := rclip_x g h x y u v W
  rw [e.out] at h1
  exact h1
theorem scells_n (x y u v : Int) (L : List (Int × Int)) (W : World) (e : Hid (cellsv ⟨x, y, u, v⟩ = L)) : Calls Tryd.prog 34 #[.agg #[.int .i64 x, .int .i64 y, .int .i64 u, .int .i64 v]] W fun e w' => ∃ s, e = .returned s ∧ w'.ownsRow W.heap.size 23 2 s L.length (pcells L) ∧ Below W.heap.size W w' := rcells_x x y u v W L e
theorem smeet_n (x y u v p q m n : Int) (b : Bool) (W : World) (e : Hid (b = meetv ⟨x, y, u, v⟩ ⟨p, q, m, n⟩)) : Calls Tryd.prog 36 #[.agg #[.int .i64 x, .int .i64 y, .int .i64 u, .int .i64 v], .agg #[.int .i64 p, .int .i64 q, .int .i64 m, .int .i64 n]] W fun e w' => e = .returned (.bool b) ∧ Below W.heap.size W w' := by
  rw [e.out]; exact rmeet_x x y u v p q m n W

/-- A small number. -/
theorem small {n : Int} (h : -1000000 ≤ n ∧ n ≤ 1000000) : I64 n := by unfold I64; omega
theorem owns_at {w : World} {B : Nat} {v : Value} {l : List (Int × Int)} (h : w.ownsRow B 23 2 v l.length (pcells l)) (h0 : 1 ≤ l.length) : ∃ g cap, v = .slice (some ⟨g, 0, none⟩) l.length cap ∧ g < w.heap.size := by
  rcases h.2 with ⟨_, e⟩ | ⟨g, cap, cur, rfl, _, hg, _⟩
  · omega
  · exact ⟨g, cap, rfl, (Array.getElem?_eq_some_iff.1 hg).1⟩
theorem ex_clip : clipv 4 4 ⟨-1, 2, 3, 9⟩ = ⟨0, 2, 2, 2⟩ := by
  unfold clipv common R4.nrm nr
  dsimp only
  rw [if_neg (by omega), if_neg (by omega)]
  simp only [R4.mk.injEq]
  omega
theorem Held1.env2 {w W : World} {b : Nat} {p q : Value} {t : TypeId} (h : W.cell? ⟨b, 0, none⟩ = some p ∧ W.cell? ⟨b, 1, none⟩ = some q ∧ Held1 w W b [p, q] t) : Below w.heap.size w W := h.2.2.old
theorem Held2.env22 {w W : World} {b c : Nat} {p q u v : Value} {t s : TypeId} (h : W.cell? ⟨b, 0, none⟩ = some p ∧ W.cell? ⟨b, 1, none⟩ = some q ∧ W.cell? ⟨c, 0, none⟩ = some u ∧ W.cell? ⟨c, 1, none⟩ = some v ∧ Held2 w W b c [p, q] [u, v] t s) : Below w.heap.size w W := h.2.2.2.2.old
set_option maxRecDepth 100000 in
set_option maxHeartbeats 4000000 in
theorem awake_any {E : World → Prop} (H : GridHave E) (w : World) (hE : E w) : Calls Tryd.prog 19 #[] w fun e w' => e = .returned (.bool true) ∧ Below w.heap.size w w' := by
  have s (n : Int) (h : -1000000 ≤ n ∧ n ≤ 1000000 := by decide) : I64 n := small h
  go_enter Tryd.func19, Tryd.ntmps19
  go_wp2_with fail
  ((with_reducible refine (H.nei 2 2 0 0 [(1, 0), (1, 1), (0, 1)] _ hE (s 2) (s 2) (s 0) (s 0) (hid (by decide))).mono ?_); rintro e w1 ⟨v, rfl, hown, hL⟩)
  obtain ⟨g, cap, rfl, hg⟩ := owns_at hown (by decide)
  have c0 := hown.cellAt 0 (by decide)
  have c1 := hown.cellAt 1 (by decide)
  have c4 := hown.cellAt 4 (by decide)
  have c5 := hown.cellAt 5 (by decide)
  go_wp2_with fail
  ((with_reducible refine (H.step 0 0 1 1 1 _ (H.keep hE hL) (s 0) (s 0) (s 1) (hid (by decide))).mono ?_); rintro e w2 ⟨rfl, hb⟩)
  rw [← hb.cell hg] at c0 c1 c4 c5
  replace hg := Nat.lt_of_lt_of_le hg hb.size
  replace hL := below_call hL hb
  clear hb
  go_wp2_with fail
  ((with_reducible refine (H.step 3 3 8 3 3 _ (H.keep hE hL) (s 3) (s 3) (s 8) (hid (by decide))).mono ?_); rintro e w3 ⟨rfl, hb⟩)
  rw [← hb.cell hg] at c0 c1 c4 c5
  replace hg := Nat.lt_of_lt_of_le hg hb.size
  replace hL := below_call hL hb
  clear hb
  have d0 : w3.cell? ⟨g, 0, none⟩ = some (.int .i64 1) := c0
  have d1 : w3.cell? ⟨g, 1, none⟩ = some (.int .i64 0) := c1
  have d4 : w3.cell? ⟨g, 4, none⟩ = some (.int .i64 0) := c4
  have d5 : w3.cell? ⟨g, 5, none⟩ = some (.int .i64 1) := c5
  clear c0 c1 c4 c5
  go_wp2_with fail
  ((with_reducible refine (H.oct 0 0 3 1 34 _ (s 0) (s 0) (s 3) (s 1) (hid (by decide))).mono ?_); rintro e w4 ⟨rfl, hb⟩)
  replace hL := below_call hL hb
  clear hb d0 d1 d4 d5
  go_wp2_with fail
  ((with_reducible refine (H.cheb 0 0 3 1 3 _ (s 0) (s 0) (s 3) (s 1) (hid (by decide))).mono ?_); rintro e w5 ⟨rfl, hb⟩)
  replace hL := below_call hL hb
  clear hb
  go_wp2_with fail
  ((with_reducible refine (H.clip 4 4 (-1) 2 3 9 0 2 2 2 _ (s 4) (s 4) (s (-1)) (s 2) (s 3) (s 9) (hid ex_clip)).mono ?_); rintro e w6 ⟨rfl, hb⟩)
  replace hL := below_call hL hb
  clear hb
  go_wp2_with fail
  ((with_reducible refine (H.valid 32 1 true _ (s 32) (s 1) (hid (by decide))).mono ?_); rintro e w7 ⟨rfl, hb⟩)
  replace hL := below_call hL hb
  clear hb
  go_wp2_with fail
  ((with_reducible refine (H.valid 33 1 false _ (s 33) (s 1) (hid (by decide))).mono ?_); rintro e w8 ⟨rfl, hb⟩)
  replace hL := below_call hL hb
  clear hb
  go_wp2_with fail
  ((with_reducible refine (H.inn 4 4 4 0 false _ (s 4) (s 4) (s 4) (s 0) (hid (by decide))).mono ?_); rintro e w9 ⟨rfl, hb⟩)
  replace hL := below_call hL hb
  clear hb
  go_wp2_with fail
  go_ret
  exact ⟨rfl, hL⟩

end Go.Proofs.YtipfiggifnfljaaDoor
