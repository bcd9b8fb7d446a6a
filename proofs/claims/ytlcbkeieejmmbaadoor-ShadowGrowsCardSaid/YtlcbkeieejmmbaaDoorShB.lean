/-
  shadow as landed at 4bd78af: octants, heights, what hides.
-/
import Derived.Test.YtlcbkeieejmmbaaDoorShA
namespace Go.Proofs.YtlcbkeieejmmbaaDoor
open Go.RowKit Go.Lib

/-- The transformation of an octant's coordinates: a function value with its three boxes. -/
def plc (p q r : Nat) : Value := .func (.func 56) #[] #[.pointer (some ⟨p, 0, none⟩), .pointer (some ⟨q, 0, none⟩), .pointer (some ⟨r, 0, none⟩)]
structure PlaceB (W : World) (p q r : Nat) (f g a b c d : Int) : Prop where
  p : Blk W p [.int .i64 f, .int .i64 g] 26
  q : Blk W q [.int .i64 a, .int .i64 b] 26
  r : Blk W r [.int .i64 c, .int .i64 d] 26
theorem PlaceB.below {W w' : World} {p q r : Nat} {f g a b c d : Int} (h : PlaceB W p q r f g a b c d) (hb : Below W.heap.size W w') : PlaceB w' p q r f g a b c d := ⟨h.p.below hb, h.q.below hb, h.r.below hb⟩
theorem PlaceB.under {B : Nat} {W w' : World} {p q r : Nat} {f g a b c d : Int} (h : PlaceB W p q r f g a b c d) (hb : Below B W w') (lp : p < B) (lq : q < B) (lr : r < B) : PlaceB w' p q r f g a b c d := ⟨h.p.under hb lp, h.q.under hb lq, h.r.under hb lr⟩
set_option maxHeartbeats 2000000 in
theorem shplace_b (s t f g a b c d : Int) (p q r : Nat) (W : World) (hP : PlaceB W p q r f g a b c d) (hs : Sm s) (ht : Sm t) (hf : Sm f) (hg : Sm g) (ha : Sm a) (hb : Sm b) (hc : Sm c) (hd : Sm d) :
    Calls Tryd.prog 56 #[.int .i64 s, .int .i64 t, .pointer (some ⟨p, 0, none⟩), .pointer (some ⟨q, 0, none⟩), .pointer (some ⟨r, 0, none⟩)] W fun e w' => e = .returned (.agg #[.int .i64 (f + s * a + t * c), .int .i64 (g + s * b + t * d)]) ∧ Below W.heap.size W w' := by
  have m1 := hs.mul ha
  have m2 := hs.mul hb
  have m3 := ht.mul hc
  have m4 := ht.mul hd
  unfold Sm at *
  have e1 : IntKind.i64.wrap (s * a) = s * a := IntWalk.i64_in _ (by omega)
  have e2 : IntKind.i64.wrap (s * b) = s * b := IntWalk.i64_in _ (by omega)
  have e3 : IntKind.i64.wrap (t * c) = t * c := IntWalk.i64_in _ (by omega)
  have e4 : IntKind.i64.wrap (t * d) = t * d := IntWalk.i64_in _ (by omega)
  have e5 : IntKind.i64.wrap (f + s * a) = f + s * a := IntWalk.i64_in _ (by omega)
  have e6 : IntKind.i64.wrap (g + s * b) = g + s * b := IntWalk.i64_in _ (by omega)
  have e7 : IntKind.i64.wrap (f + s * a + t * c) = f + s * a + t * c := IntWalk.i64_in _ (by omega)
  have e8 : IntKind.i64.wrap (g + s * b + t * d) = g + s * b + t * d := IntWalk.i64_in _ (by omega)
  have hL := (Below.refl W.heap.size W).alloc (Nat.le_refl _) (.cells [Value.int .i64 0, .int .i64 0].toArray 26)
  have hQ := hP.below hL
  have hR := Blk.new W [.int .i64 0, .int .i64 0] 26
  obtain ⟨_, _, _, _⟩ := hQ.p.two
  obtain ⟨_, _, _, _⟩ := hQ.q.two
  obtain ⟨_, _, _, _⟩ := hQ.r.two
  obtain ⟨_, _, _, _⟩ := hR.two
  clear hP hQ m1 m2 m3 m4 hs ht hf hg ha hb hc hd
  go_enter Tryd.func56, Tryd.ntmps56
  go_upto_region 1 with fail
  generalize W.alloc (.cells [Value.int .i64 0, .int .i64 0].toArray 26) = X at *
  go_wp2_with fail
  have hR2 := hR.put2 (.int .i64 (f + s * a + t * c)) (.int .i64 (g + s * b + t * d))
  obtain ⟨_, _, _, _⟩ := hR2.two
  refine bodyPost_ret (v := .agg #[.int .i64 (f + s * a + t * c), .int .i64 (g + s * b + t * d)]) (by simp [results, Tryd.results56, go_sem, *]) rfl ⟨rfl, ?_⟩
  exact (hL.setCell (p := ⟨W.heap.size, 0, none⟩) (Nat.le_refl _) _).setCell (p := ⟨W.heap.size, 1, none⟩) (Nat.le_refl _) _
set_option maxHeartbeats 1000000 in
theorem shoctant_b (f g a b c d : Int) (W : World) :
    Calls Tryd.prog 36 #[.agg #[.int .i64 f, .int .i64 g], .agg #[.int .i64 a, .int .i64 b], .agg #[.int .i64 c, .int .i64 d]] W fun e w' => e = .returned (plc W.heap.size (W.heap.size + 1) (W.heap.size + 1 + 1)) ∧ PlaceB w' W.heap.size (W.heap.size + 1) (W.heap.size + 1 + 1) f g a b c d ∧ Below W.heap.size W w' := by
  have h1 := ((Blk.new W [.int .i64 f, .int .i64 g] 26).alloc (.cells [Value.int .i64 a, .int .i64 b].toArray 26)).alloc (.cells [Value.int .i64 c, .int .i64 d].toArray 26)
  have h2 := ((Blk.new (W.alloc (.cells [Value.int .i64 f, .int .i64 g].toArray 26)) [.int .i64 a, .int .i64 b] 26).at (World.size_alloc _ _)).alloc (.cells [Value.int .i64 c, .int .i64 d].toArray 26)
  have h3 := (Blk.new ((W.alloc (.cells [Value.int .i64 f, .int .i64 g].toArray 26)).alloc (.cells [Value.int .i64 a, .int .i64 b].toArray 26)) [.int .i64 c, .int .i64 d] 26).at ((World.size_alloc _ _).trans (congrArg (· + 1) (World.size_alloc _ _)))
  have hL := (((Below.refl W.heap.size W).alloc (Nat.le_refl _) (.cells [Value.int .i64 f, .int .i64 g].toArray 26)).alloc (by simp) (.cells [Value.int .i64 a, .int .i64 b].toArray 26)).alloc (by simp; omega) (.cells [Value.int .i64 c, .int .i64 d].toArray 26)
  go_enter Tryd.func36, Tryd.ntmps36
  go_wp2_with fail
  go_ret
  exact ⟨rfl, ⟨h1, h2, h3⟩, hL⟩

/-- The displacement of a quarter turn. -/
def qx (k : Int) : Int := shx (2 * k % 8)
def qy (k : Int) : Int := shy (2 * k % 8)
set_option maxHeartbeats 1000000 in
theorem shstraight_b (k : Int) (W : World) (hE : EnvG W) (h0 : 0 ≤ k) (h1 : k ≤ 100) :
    Calls Tryd.prog 57 #[.int .i64 k] W fun e w' => e = .returned (.agg #[.int .i64 (qx k), .int .i64 (qy k)]) ∧ Below W.heap.size W w' := by
  have e1 : IntKind.i64.wrap (2 * k) = 2 * k := IntWalk.i64_in _ (by omega)
  have e2 : (2 * k).tmod 8 = 2 * k % 8 := Int.tmod_eq_emod_of_nonneg (by omega)
  have e3 : IntKind.i64.wrap (2 * k % 8) = 2 * k % 8 := IntWalk.i64_in _ (by omega)
  have hst := fun (w : World) (hE : EnvG w) => dstep_any 0 0 (2 * k % 8) w hE
  have s1 : stx 0 (2 * k % 8) = qx k := by unfold stx qx; rw [if_neg (by omega)]; unfold nr; omega
  have s2 : sty 0 (2 * k % 8) = qy k := by unfold sty qy; rw [if_neg (by omega)]; unfold nr; omega
  rw [s1, s2] at hst
  clear s1 s2
  generalize qx k = u at *
  generalize qy k = v at *
  obtain ⟨d, hd⟩ : ∃ d, Hid (2 * k % 8 = d) := ⟨_, hid rfl⟩
  rw [hd.out] at hst e2 e3
  have hL := (Below.refl W.heap.size W).alloc (Nat.le_refl _) (.cells [Value.int .i64 0, .int .i64 0].toArray 26)
  have hR := Blk.new W [.int .i64 0, .int .i64 0] 26
  go_enter Tryd.func57, Tryd.ntmps57
  go_upto_region 1 with fail
  generalize W.alloc (.cells [Value.int .i64 0, .int .i64 0].toArray 26) = X at *
  go_wp2_with (go_at_call 67; with_reducible refine (hst _ (hE.keep hL)).mono ?_; rintro e w1 ⟨rfl, hb⟩; replace hR := hR.below hb; replace hL := below_call hL hb; obtain ⟨_, _, _, _⟩ := hR.two)
  have hR2 := hR.put2 (.int .i64 u) (.int .i64 v)
  obtain ⟨_, _, _, _⟩ := hR2.two
  refine bodyPost_ret (v := .agg #[.int .i64 u, .int .i64 v]) (by simp [results, Tryd.results57, go_sem, *]) rfl ⟨rfl, ?_⟩
  exact (hL.setCell (p := ⟨W.heap.size, 0, none⟩) (Nat.le_refl _) _).setCell (p := ⟨W.heap.size, 1, none⟩) (Nat.le_refl _) _

set_option maxHeartbeats 2000000 in
theorem shheight_b (m : M3) (s : Value) (x y : Int) (n : Int) (W : World) (hr : RowAt W s m.cs) (e : Hid (true = insidev m x y)) (hn : Hid (n = (getv m x y).h)) :
    Calls Tryd.prog 52 #[.agg #[.int .i64 m.w, .int .i64 m.h, s], .agg #[.int .i64 x, .int .i64 y]] W fun e w' => e = .returned (.int .i64 n) ∧ Below W.heap.size W w' := by
  obtain ⟨k, hk, hix, hg⟩ := get_at e.out.symm
  obtain ⟨p, c, rfl, hm, hc⟩ := id hr
  obtain ⟨g, o, rfl, hat⟩ := hc (by omega)
  obtain ⟨_, a2, _⟩ := hat k hk
  rw [← hg, ← hn.out] at a2
  have n1 : (0 : Int) ≤ k := by omega
  have n2 : (k : Int) < m.cs.length := by omega
  have hlt : g < W.heap.size := World.block_lt_of_cell? W _ a2
  clear hat hc hg hn
  have hl := (Blk.new W [.int .i64 m.w, .int .i64 m.h, .slice (some ⟨g, o, none⟩) m.cs.length c] 24).alloc (.cells [Value.int .i64 x, .int .i64 y].toArray 26)
  have hr2 := (Blk.new (W.alloc (.cells [Value.int .i64 m.w, .int .i64 m.h, .slice (some ⟨g, o, none⟩) m.cs.length c].toArray 24)) [.int .i64 x, .int .i64 y] 26).at (World.size_alloc _ _)
  have hL := ((Below.refl W.heap.size W).alloc (Nat.le_refl _) (.cells [Value.int .i64 m.w, .int .i64 m.h, .slice (some ⟨g, o, none⟩) m.cs.length c].toArray 24)).alloc (by simp) (.cells [Value.int .i64 x, .int .i64 y].toArray 26)
  rw [← hL.cell (p := ⟨g, _, none⟩) hlt] at a2
  go_enter Tryd.func52, Tryd.ntmps52
  go_upto_region 1 with fail
  generalize (W.alloc (.cells [Value.int .i64 m.w, .int .i64 m.h, .slice (some ⟨g, o, none⟩) m.cs.length c].toArray 24)).alloc (.cells [Value.int .i64 x, .int .i64 y].toArray 26) = V at *
  obtain ⟨_, _, _, _, _, _⟩ := hl.three
  obtain ⟨_, _, _, _⟩ := hr2.two
  have hkeep := fun (w' : World) (hq : Below V.heap.size V w') => And.intro ((hl.below hq).cell 0) (And.intro ((hl.below hq).cell 2) (And.intro ((hr2.below hq).cell 0) (And.intro ((hr2.below hq).cell 1) ((hq.cell (p := ⟨g, o + k * 3 + 1, none⟩) (World.block_lt_of_cell? V _ a2)).trans a2))))
  have hq := Below.refl V.heap.size V
  replace hq := hq.drew
  go_region_held3 (fun w' => w'.cell? ⟨W.heap.size, 0, none⟩ = some (.int .i64 m.w) ∧ w'.cell? ⟨W.heap.size, 2, none⟩ = some (.slice (some ⟨g, o, none⟩) m.cs.length c) ∧ w'.cell? ⟨W.heap.size + 1, 0, none⟩ = some (.int .i64 x) ∧ w'.cell? ⟨W.heap.size + 1, 1, none⟩ = some (.int .i64 y) ∧ w'.cell? ⟨g, o + k * 3 + 1, none⟩ = some (.int .i64 n))
    (exact hkeep _ hq)
    (first | (go_at_call 58; with_reducible refine (dindex_b _ x y k _ hix).mono ?_; rintro e w' ⟨rfl, hb⟩; replace hq := below_call hq hb; clear hb))
  go_wp2
  go_ret
  exact ⟨rfl, below_call hL hq⟩

end Go.Proofs.YtlcbkeieejmmbaaDoor
