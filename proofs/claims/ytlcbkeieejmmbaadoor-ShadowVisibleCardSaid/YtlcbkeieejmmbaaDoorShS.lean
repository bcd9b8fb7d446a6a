/-
  The laws of shadow: Blocks, Sees, Visible and Union are the reference's.
-/
import Derived.Test.YtlcbkeieejmmbaaDoorShR
namespace Go.Proofs.YtlcbkeieejmmbaaDoor
open Go.RowKit Go.Lib

set_option maxRecDepth 100000 in
set_option maxHeartbeats 8000000 in
theorem law12_blocks (m : M3) (s : Value) (x y u v p q : Int) (W : World) (hE : EnvT W) (hr : RowAt W s m.cs) :
    Calls Tryd.prog 3 #[.agg #[.int .i64 m.w, .int .i64 m.h, s], .agg #[.int .i64 x, .int .i64 y, .int .i64 u, .int .i64 v, .int .i64 p, .int .i64 q]] W fun e w' => e = .returned (.bool true) ∧ Below W.heap.size W w' := by
  obtain ⟨z, hz⟩ : ∃ z, Hid (z = blocksv m x y u v p q) := ⟨_, hid rfl⟩
  have c1 := fun (w : World) (hb : Below W.heap.size W w) => shblocks_b m s x y u v p q z w (hE.p.keep hb) (hr.below hb) hz
  have c2 := fun (w : World) (hb : Below W.heap.size W w) => rblocks_b m s x y u v p q z w (hr.below hb) hz
  have ca := fun (w : World) (hb : Below W.heap.size W w) => awake12_b w (hE.keep hb)
  obtain ⟨p0, c0, rfl⟩ := hr.slice
  have hT := Held2.start W [.int .i64 m.w, .int .i64 m.h, .slice p0 m.cs.length c0] [.int .i64 x, .int .i64 y, .int .i64 u, .int .i64 v, .int .i64 p, .int .i64 q] 24 27
  clear hr hz
  by_cases hlen : 1024 < m.cs.length
  · have z1 : decide ((1024 : Int) < (m.cs.length : Int)) = true := decide_eq_true (by omega)
    obtain ⟨_, _, _, _, _, _⟩ := hT.l.three
    go_enter Tryd.func3, Tryd.ntmps3
    go_wp2_with (go_at_call 10; with_reducible refine (ca _ hT.old).mono ?_; rintro e w1 ⟨rfl, hb⟩)
    go_ret
    exact ⟨rfl, below_call hT.old hb⟩
  · have z1 : decide ((1024 : Int) < (m.cs.length : Int)) = false := decide_eq_false (by omega)
    obtain ⟨_, _, _, _, _, _⟩ := hT.l.three
    go_enter Tryd.func3, Tryd.ntmps3
    go_upto_region 3 with fail
    generalize (W.alloc (.cells [Value.int .i64 m.w, .int .i64 m.h, .slice p0 m.cs.length c0].toArray 24)).alloc (.cells [Value.int .i64 x, .int .i64 y, .int .i64 u, .int .i64 v, .int .i64 p, .int .i64 q].toArray 27) = X at *
    have hk := fun (w' : World) (hb : Below X.heap.size X w') => And.intro ((hT.l.below hb).cell 0) (And.intro ((hT.l.below hb).cell 1) (And.intro ((hT.l.below hb).cell 2) (And.intro ((hT.r.below hb).cell 0) (And.intro ((hT.r.below hb).cell 1) (And.intro ((hT.r.below hb).cell 2) (And.intro ((hT.r.below hb).cell 3) (And.intro ((hT.r.below hb).cell 4) ((hT.r.below hb).cell 5))))))))
    have hq := (Below.refl X.heap.size X).drew
    have hW := hT.old
    obtain ⟨_, _, _, _, _, _, _, _, _⟩ := hk _ hq
    clear hE
    cases z
    all_goals
      go_region_held3 (fun w' => w'.cell? ⟨W.heap.size, 0, none⟩ = some (.int .i64 m.w) ∧ w'.cell? ⟨W.heap.size, 1, none⟩ = some (.int .i64 m.h) ∧ w'.cell? ⟨W.heap.size, 2, none⟩ = some (.slice p0 m.cs.length c0) ∧ w'.cell? ⟨W.heap.size + 1, 0, none⟩ = some (.int .i64 x) ∧ w'.cell? ⟨W.heap.size + 1, 1, none⟩ = some (.int .i64 y) ∧ w'.cell? ⟨W.heap.size + 1, 2, none⟩ = some (.int .i64 u) ∧ w'.cell? ⟨W.heap.size + 1, 3, none⟩ = some (.int .i64 v) ∧ w'.cell? ⟨W.heap.size + 1, 4, none⟩ = some (.int .i64 p) ∧ w'.cell? ⟨W.heap.size + 1, 5, none⟩ = some (.int .i64 q))
        (exact hk _ hq)
        (first
          | (go_at_call 11; with_reducible refine (c1 _ (below_call hW hq)).mono ?_; rintro e w' ⟨rfl, hb⟩; replace hq := below_call hq hb; clear hb)
          | (go_at_call 12; with_reducible refine (c2 _ (below_call hW hq)).mono ?_; rintro e w' ⟨rfl, hb⟩; replace hq := below_call hq hb; clear hb)
          | (go_at_call 10; with_reducible refine (ca _ (below_call hW hq)).mono ?_; rintro e w' ⟨rfl, hb⟩; replace hq := below_call hq hb; clear hb))
      go_wp2
      go_ret
      exact ⟨rfl, below_call hW hq⟩
set_option maxRecDepth 100000 in
set_option maxHeartbeats 8000000 in
theorem law12_sees (m : M3) (s : Value) (x y u v : Int) (W : World) (hE : EnvT W) (hr : RowAt W s m.cs) :
    Calls Tryd.prog 4 #[.agg #[.int .i64 m.w, .int .i64 m.h, s], .agg #[.int .i64 x, .int .i64 y], .agg #[.int .i64 u, .int .i64 v]] W fun e w' => e = .returned (.bool true) ∧ Below W.heap.size W w' := by
  obtain ⟨z, hz⟩ : ∃ z, Hid (z = lookv m x y u v) := ⟨_, hid rfl⟩
  have c1 := fun (w : World) (hb : Below W.heap.size W w) => shsees_b m s x y u v z w (hE.p.keep hb) (hr.below hb) hz
  have c2 := fun (w : World) (hb : Below W.heap.size W w) => rlook_b m s x y u v z w (hr.below hb) hz
  have ca := fun (w : World) (hb : Below W.heap.size W w) => awake12_b w (hE.keep hb)
  obtain ⟨p0, c0, rfl⟩ := hr.slice
  have hF := Thr.start W [.int .i64 m.w, .int .i64 m.h, .slice p0 m.cs.length c0] [.int .i64 x, .int .i64 y] [.int .i64 u, .int .i64 v]
  clear hr hz
  obtain ⟨_, _, _, _, _, _⟩ := hF.m.three
  by_cases hlen : 1024 < m.cs.length
  · have z1 : decide ((1024 : Int) < (m.cs.length : Int)) = true := decide_eq_true (by omega)
    go_enter Tryd.func4, Tryd.ntmps4
    go_wp2_with (go_at_call 10; with_reducible refine (ca _ hF.old).mono ?_; rintro e w1 ⟨rfl, hb⟩)
    go_ret
    exact ⟨rfl, below_call hF.old hb⟩
  · have z1 : decide ((1024 : Int) < (m.cs.length : Int)) = false := decide_eq_false (by omega)
    go_enter Tryd.func4, Tryd.ntmps4
    go_upto_region 3 with fail
    generalize ((W.alloc (.cells [Value.int .i64 m.w, .int .i64 m.h, .slice p0 m.cs.length c0].toArray 24)).alloc (.cells [Value.int .i64 x, .int .i64 y].toArray 26)).alloc (.cells [Value.int .i64 u, .int .i64 v].toArray 26) = X at *
    have hk := fun (w' : World) (hb : Below X.heap.size X w') => And.intro ((hF.m.below hb).cell 0) (And.intro ((hF.m.below hb).cell 1) (And.intro ((hF.m.below hb).cell 2) (And.intro ((hF.p.below hb).cell 0) (And.intro ((hF.p.below hb).cell 1) (And.intro ((hF.q.below hb).cell 0) ((hF.q.below hb).cell 1))))))
    have hq := (Below.refl X.heap.size X).drew
    have hW := hF.old
    obtain ⟨_, _, _, _, _, _, _⟩ := hk _ hq
    clear hE
    cases z
    all_goals
      go_region_held3 (fun w' => w'.cell? ⟨W.heap.size, 0, none⟩ = some (.int .i64 m.w) ∧ w'.cell? ⟨W.heap.size, 1, none⟩ = some (.int .i64 m.h) ∧ w'.cell? ⟨W.heap.size, 2, none⟩ = some (.slice p0 m.cs.length c0) ∧ w'.cell? ⟨W.heap.size + 1, 0, none⟩ = some (.int .i64 x) ∧ w'.cell? ⟨W.heap.size + 1, 1, none⟩ = some (.int .i64 y) ∧ w'.cell? ⟨W.heap.size + 1 + 1, 0, none⟩ = some (.int .i64 u) ∧ w'.cell? ⟨W.heap.size + 1 + 1, 1, none⟩ = some (.int .i64 v))
        (exact hk _ hq)
        (first
          | (go_at_call 13; with_reducible refine (c1 _ (below_call hW hq)).mono ?_; rintro e w' ⟨rfl, hb⟩; replace hq := below_call hq hb; clear hb)
          | (go_at_call 14; with_reducible refine (c2 _ (below_call hW hq)).mono ?_; rintro e w' ⟨rfl, hb⟩; replace hq := below_call hq hb; clear hb)
          | (go_at_call 10; with_reducible refine (ca _ (below_call hW hq)).mono ?_; rintro e w' ⟨rfl, hb⟩; replace hq := below_call hq hb; clear hb))
      go_wp2
      go_ret
      exact ⟨rfl, below_call hW hq⟩
set_option maxRecDepth 100000 in
set_option maxHeartbeats 8000000 in
theorem law12_visible (m : M3) (s : Value) (x y r : Int) (high : Bool) (W : World) (hE : EnvT W) (hr : RowAt W s m.cs) (hi : I64 r) :
    Calls Tryd.prog 5 #[.agg #[.int .i64 m.w, .int .i64 m.h, s], .agg #[.int .i64 x, .int .i64 y], .int .i64 r, .bool high] W fun e w' => e = .returned (.bool true) ∧ Below W.heap.size W w' := by
  have c1 := fun (w : World) (hb : Below W.heap.size W w) => shvisible_b m s x y r high w (hE.keep hb) (hr.below hb)
  have c2 := fun (w : World) (hb : Below W.heap.size W w) => rvisible_b m s x y r high w (hr.below hb) hi
  have hvs := vis_small m x y r high
  obtain ⟨V, hV⟩ : ∃ V, V = visv m x y r high := ⟨_, rfl⟩
  rw [← hV] at c1 c2 hvs
  have c3 := fun (w : World) (v1 v2 : Value) (h1 : BitsAt w v1 V) (h2 : BitsAt w v2 V) => rsamebits_b V V v1 v2 true w h1 h2 (by omega) (by omega) (hid (decide_eq_true rfl).symm)
  have ca := fun (w : World) (hb : Below W.heap.size W w) => awake12_b w (hE.keep hb)
  obtain ⟨p0, c0, rfl⟩ := hr.slice
  have hT := Held2.start W [.int .i64 m.w, .int .i64 m.h, .slice p0 m.cs.length c0] [.int .i64 x, .int .i64 y] 24 26
  clear hr hV hi
  obtain ⟨_, _, _, _, _, _⟩ := hT.l.three
  by_cases hlen : 1024 < m.cs.length
  · have z1 : decide ((1024 : Int) < (m.cs.length : Int)) = true := decide_eq_true (by omega)
    go_enter Tryd.func5, Tryd.ntmps5
    go_wp2_with (go_at_call 10; with_reducible refine (ca _ hT.old).mono ?_; rintro e w1 ⟨rfl, hb⟩)
    go_ret
    exact ⟨rfl, below_call hT.old hb⟩
  · have z1 : decide ((1024 : Int) < (m.cs.length : Int)) = false := decide_eq_false (by omega)
    go_enter Tryd.func5, Tryd.ntmps5
    go_upto_region 3 with fail
    generalize (W.alloc (.cells [Value.int .i64 m.w, .int .i64 m.h, .slice p0 m.cs.length c0].toArray 24)).alloc (.cells [Value.int .i64 x, .int .i64 y].toArray 26) = X at *
    have hk := fun (w' : World) (hb : Below X.heap.size X w') => And.intro ((hT.l.below hb).cell 0) (And.intro ((hT.l.below hb).cell 1) (And.intro ((hT.l.below hb).cell 2) (And.intro ((hT.r.below hb).cell 0) ((hT.r.below hb).cell 1))))
    have hq := (Below.refl X.heap.size X).drew
    have hW := hT.old
    obtain ⟨_, _, _, _, _⟩ := hk _ hq
    clear hE
    go_region_held3 (fun w' => w'.cell? ⟨W.heap.size, 0, none⟩ = some (.int .i64 m.w) ∧ w'.cell? ⟨W.heap.size, 1, none⟩ = some (.int .i64 m.h) ∧ w'.cell? ⟨W.heap.size, 2, none⟩ = some (.slice p0 m.cs.length c0) ∧ w'.cell? ⟨W.heap.size + 1, 0, none⟩ = some (.int .i64 x) ∧ w'.cell? ⟨W.heap.size + 1, 1, none⟩ = some (.int .i64 y))
      (exact hk _ hq)
      (first
        | (go_at_call 16; with_reducible refine (c1 _ (below_call hW hq)).mono ?_; rintro e w' ⟨v1, rfl, h1, hb⟩; replace hq := below_call hq hb; clear hb)
        | (go_at_call 17; with_reducible refine (c2 _ (below_call hW hq)).mono ?_; rintro e w' ⟨v2, rfl, h2, hb⟩; replace hq := below_call hq hb; replace h1 := h1.below hb; clear hb)
        | (go_at_call 15; with_reducible refine (c3 _ _ _ h1 h2).mono ?_; rintro e w' ⟨rfl, hb⟩; replace hq := below_call hq hb; clear hb)
        | (go_at_call 10; with_reducible refine (ca _ (below_call hW hq)).mono ?_; rintro e w' ⟨rfl, hb⟩; replace hq := below_call hq hb; clear hb))
    go_wp2
    go_ret
    exact ⟨rfl, below_call hW hq⟩
set_option maxRecDepth 100000 in
set_option maxHeartbeats 8000000 in
theorem law12_union (a b : List Bool) (sa sb : Value) (W : World) (hE : EnvT W) (ha : BitsAt W sa a) (hb : BitsAt W sb b) :
    Calls Tryd.prog 6 #[sa, sb] W fun e w' => e = .returned (.bool true) ∧ Below W.heap.size W w' := by
  have ca := fun (w : World) (hb : Below W.heap.size W w) => awake12_b w (hE.keep hb)
  obtain ⟨p1, k1, rfl⟩ := ha.len
  obtain ⟨p2, k2, rfl⟩ := hb.len
  clear hE
  by_cases h1 : 5000 < a.length
  · have z1 : decide ((5000 : Int) < (a.length : Int)) = true := decide_eq_true (by omega)
    go_enter Tryd.func6, Tryd.ntmps6
    go_wp2_with (go_at_call 10; with_reducible refine (ca _ (Below.refl _ _)).mono ?_; rintro e w1 ⟨rfl, hb9⟩)
    go_ret
    exact ⟨rfl, hb9⟩
  · have z1 : decide ((5000 : Int) < (a.length : Int)) = false := decide_eq_false (by omega)
    by_cases h2 : 5000 < b.length
    · have z2 : decide ((5000 : Int) < (b.length : Int)) = true := decide_eq_true (by omega)
      go_enter Tryd.func6, Tryd.ntmps6
      go_wp2_with (go_at_call 10; with_reducible refine (ca _ (Below.refl _ _)).mono ?_; rintro e w1 ⟨rfl, hb9⟩)
      go_ret
      exact ⟨rfl, hb9⟩
    · have z2 : decide ((5000 : Int) < (b.length : Int)) = false := decide_eq_false (by omega)
      have hul := union_len a b
      have hua := union_again a b
      have huc := union_comm a b
      obtain ⟨U, hU⟩ : ∃ U, U = unionv a b := ⟨_, rfl⟩
      have c1 := fun (w : World) (g1 : BitsAt w (.slice p1 a.length k1) a) (g2 : BitsAt w (.slice p2 b.length k2) b) => shunion_b a b _ _ w g1 g2 (by omega) (by omega)
      have c2 := fun (w : World) (g1 : BitsAt w (.slice p1 a.length k1) a) (g2 : BitsAt w (.slice p2 b.length k2) b) => runion_b a b _ _ w g1 g2 (by omega) (by omega)
      have c3 := fun (w : World) (g1 : BitsAt w (.slice p1 a.length k1) a) (g2 : BitsAt w (.slice p2 b.length k2) b) => shunion_b b a _ _ w g2 g1 (by omega) (by omega)
      have c4 := fun (w : World) (v : Value) (g1 : BitsAt w (.slice p1 a.length k1) a) (g2 : BitsAt w v (unionv a b)) => shunion_b (unionv a b) a _ _ w g2 g1 (by omega) (by omega)
      rw [huc] at c3
      rw [hua] at c4
      rw [← hU] at c1 c2 c3 c4 hul
      have c5 := fun (w : World) (v1 v2 : Value) (g1 : BitsAt w v1 U) (g2 : BitsAt w v2 U) => rsamebits_b U U v1 v2 true w g1 g2 (by omega) (by omega) (hid (decide_eq_true rfl).symm)
      clear hul hua huc hU
      have hL := Below.refl W.heap.size W
      go_enter Tryd.func6, Tryd.ntmps6
      go_wp2_with (first
        | (go_at_call 18; with_reducible refine (c1 _ (ha.below hL) (hb.below hL)).mono ?_; rintro e w1 ⟨v1, rfl, g1, hx⟩; obtain ⟨q1, j1, rfl⟩ := g1.len; replace hL := below_call hL hx; clear hx)
        | (go_at_call 19; with_reducible refine (c2 _ (ha.below hL) (hb.below hL)).mono ?_; rintro e w2 ⟨v2, rfl, g2, hx⟩; obtain ⟨q2, j2, rfl⟩ := g2.len; replace hL := below_call hL hx; replace g1 := g1.below hx; clear hx)
        | (go_at_call 18; with_reducible refine (c3 _ (ha.below hL) (hb.below hL)).mono ?_; rintro e w3 ⟨v3, rfl, g2, hx⟩; obtain ⟨q3, j3, rfl⟩ := g2.len; replace hL := below_call hL hx; replace g1 := g1.below hx; clear hx)
        | (go_at_call 18; with_reducible refine (c4 _ _ (ha.below hL) g1).mono ?_; rintro e w4 ⟨v4, rfl, g2, hx⟩; obtain ⟨q4, j4, rfl⟩ := g2.len; replace hL := below_call hL hx; replace g1 := g1.below hx; clear hx)
        | (go_at_call 15; first
            | (with_reducible refine (c5 _ _ _ g1 g2).mono ?_; rintro e w5 ⟨rfl, hx⟩; replace hL := below_call hL hx; replace g1 := g1.below hx; clear hx g2)
            | (with_reducible refine (c5 _ _ _ g2 g1).mono ?_; rintro e w5 ⟨rfl, hx⟩; replace hL := below_call hL hx; replace g1 := g1.below hx; clear hx g2))
        | (go_at_call 10; with_reducible refine (ca _ hL).mono ?_; rintro e w6 ⟨rfl, hx⟩; replace hL := below_call hL hx; clear hx))
      go_ret
      exact ⟨rfl, hL⟩

end Go.Proofs.YtlcbkeieejmmbaaDoor
