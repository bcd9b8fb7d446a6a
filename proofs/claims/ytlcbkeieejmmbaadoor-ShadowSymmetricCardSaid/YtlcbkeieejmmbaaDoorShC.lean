/-
  shadow as landed at 4bd78af: which of two cells is higher, what hides, whether a line meets a square.
-/
import Derived.Test.YtlcbkeieejmmbaaDoorShB
import Derived.Deep.QuietTactic
import Derived.BigQuiet
namespace Go.Proofs.YtlcbkeieejmmbaaDoor
open Go.RowKit Go.Lib

set_option maxHeartbeats 4000000 in
theorem shupper_b (m : M3) (s : Value) (x y u v : Int) (n : Int) (W : World) (hr : RowAt W s m.cs) (e1 : Hid (true = insidev m x y)) (e2 : Hid (true = insidev m u v)) (hn : Hid (n = upv m x y u v)) :
    Calls Tryd.prog 30 #[.agg #[.int .i64 m.w, .int .i64 m.h, s], .agg #[.int .i64 x, .int .i64 y], .agg #[.int .i64 u, .int .i64 v]] W fun e w' => e = .returned (.int .i64 n) ∧ Below W.heap.size W w' := by
  obtain ⟨h1, hh1⟩ : ∃ h, Hid (h = (getv m x y).h) := ⟨_, hid rfl⟩
  obtain ⟨h2, hh2⟩ : ∃ h, Hid (h = (getv m u v).h) := ⟨_, hid rfl⟩
  have hx : n = max h1 h2 := by rw [hn.out, hh1.out, hh2.out]; rfl
  have c1 := fun (w : World) (hb : Below W.heap.size W w) => shheight_b m s x y h1 w (hr.below hb) e1 hh1
  have c2 := fun (w : World) (hb : Below W.heap.size W w) => shheight_b m s u v h2 w (hr.below hb) e2 hh2
  rw [hx]
  clear hx hn
  have k1 := (((Blk.new W [.int .i64 m.w, .int .i64 m.h, s] 24).alloc (.cells [Value.int .i64 x, .int .i64 y].toArray 26))).alloc (.cells [Value.int .i64 u, .int .i64 v].toArray 26)
  have k2 := ((Blk.new (W.alloc (.cells [Value.int .i64 m.w, .int .i64 m.h, s].toArray 24)) [.int .i64 x, .int .i64 y] 26).at (World.size_alloc _ _)).alloc (.cells [Value.int .i64 u, .int .i64 v].toArray 26)
  have k3 := (Blk.new ((W.alloc (.cells [Value.int .i64 m.w, .int .i64 m.h, s].toArray 24)).alloc (.cells [Value.int .i64 x, .int .i64 y].toArray 26)) [.int .i64 u, .int .i64 v] 26).at ((World.size_alloc _ _).trans (congrArg (· + 1) (World.size_alloc _ _)))
  have hL := (((Below.refl W.heap.size W).alloc (Nat.le_refl _) (.cells [Value.int .i64 m.w, .int .i64 m.h, s].toArray 24)).alloc (by simp) (.cells [Value.int .i64 x, .int .i64 y].toArray 26)).alloc (by simp; omega) (.cells [Value.int .i64 u, .int .i64 v].toArray 26)
  go_enter Tryd.func30, Tryd.ntmps30
  go_upto_region 1 with fail
  generalize ((W.alloc (.cells [Value.int .i64 m.w, .int .i64 m.h, s].toArray 24)).alloc (.cells [Value.int .i64 x, .int .i64 y].toArray 26)).alloc (.cells [Value.int .i64 u, .int .i64 v].toArray 26) = V at *
  have hkeep := fun (w' : World) (hq : Below V.heap.size V w') => And.intro ((k1.below hq).cell 0) (And.intro ((k1.below hq).cell 1) (And.intro ((k1.below hq).cell 2) (And.intro ((k2.below hq).cell 0) (And.intro ((k2.below hq).cell 1) (And.intro ((k3.below hq).cell 0) ((k3.below hq).cell 1))))))
  have hq := (Below.refl V.heap.size V).drew
  obtain ⟨_, _, _, _, _, _, _⟩ := hkeep _ hq
  go_region_held3 (fun w' => w'.cell? ⟨W.heap.size, 0, none⟩ = some (.int .i64 m.w) ∧ w'.cell? ⟨W.heap.size, 1, none⟩ = some (.int .i64 m.h) ∧ w'.cell? ⟨W.heap.size, 2, none⟩ = some s ∧ w'.cell? ⟨W.heap.size + 1, 0, none⟩ = some (.int .i64 x) ∧ w'.cell? ⟨W.heap.size + 1, 1, none⟩ = some (.int .i64 y) ∧ w'.cell? ⟨W.heap.size + 1 + 1, 0, none⟩ = some (.int .i64 u) ∧ w'.cell? ⟨W.heap.size + 1 + 1, 1, none⟩ = some (.int .i64 v))
    (exact hkeep _ hq)
    (first
      | (go_at_call 52; with_reducible refine (c1 _ (below_call hL hq)).mono ?_; rintro e w' ⟨rfl, hb⟩; replace hq := below_call hq hb; clear hb)
      | (go_at_call 52; with_reducible refine (c2 _ (below_call hL hq)).mono ?_; rintro e w' ⟨rfl, hb⟩; replace hq := below_call hq hb; clear hb))
  go_wp2
  go_ret
  exact ⟨rfl, below_call hL hq⟩

set_option maxHeartbeats 4000000 in
theorem shhides_b (m : M3) (s : Value) (x y l : Int) (b : Bool) (W : World) (hE : EnvP W) (hr : RowAt W s m.cs) (e1 : Hid (true = insidev m x y)) (hb : Hid (b = hidev m x y l)) :
    Calls Tryd.prog 29 #[.agg #[.int .i64 m.w, .int .i64 m.h, s], .agg #[.int .i64 x, .int .i64 y], .int .i64 l] W fun e w' => e = .returned (.bool b) ∧ Below W.heap.size W w' := by
  obtain ⟨h1, hh1⟩ : ∃ h, Hid (h = (getv m x y).h) := ⟨_, hid rfl⟩
  obtain ⟨o, ho⟩ : ∃ h, Hid (h = opaquev m x y) := ⟨_, hid rfl⟩
  have hx : b = (o || decide (l < h1)) := by rw [hb.out, hh1.out, ho.out]; rfl
  have c1 := fun (w : World) (hb : Below W.heap.size W w) => dopaque_b m s x y o w (hE.keep hb) (hr.below hb) ho
  have c2 := fun (w : World) (hb : Below W.heap.size W w) => shheight_b m s x y h1 w (hr.below hb) e1 hh1
  rw [hx]
  clear hx hb
  have hT := Held2.start W [.int .i64 m.w, .int .i64 m.h, s] [.int .i64 x, .int .i64 y] 24 26
  obtain ⟨_, _, _, _, _, _⟩ := hT.l.three
  obtain ⟨_, _, _, _⟩ := hT.r.two
  go_enter Tryd.func29, Tryd.ntmps29
  go_upto_region 1 with fail
  generalize (W.alloc (.cells [Value.int .i64 m.w, .int .i64 m.h, s].toArray 24)).alloc (.cells [Value.int .i64 x, .int .i64 y].toArray 26) = V at *
  cases o with
  | true =>
    go_wp2_with (go_at_call 51; with_reducible refine (c1 _ hT.old).mono ?_; rintro e w1 ⟨rfl, hb⟩)
    go_ret
    exact ⟨rfl, below_call hT.old hb⟩
  | false =>
    go_wp2_with (first | (go_at_call 51; with_reducible refine (c1 _ hT.old).mono ?_; rintro e w1 ⟨rfl, hb⟩; replace hT := hT.call hb; obtain ⟨_, _, _, _, _, _⟩ := hT.l.three; obtain ⟨_, _, _, _⟩ := hT.r.two) | (go_at_call 52; with_reducible refine (c2 _ hT.old).mono ?_; rintro e w2 ⟨rfl, hb2⟩))
    go_ret
    exact ⟨by simp, below_call hT.old hb2⟩

set_option maxHeartbeats 4000000 in
theorem shmeets_b (d e p q : Int) (b : Bool) (W : World) (hd : Sm d) (he : Sm e) (hp : Sm p) (hq : Sm q) (hb : Hid (b = hitv d e p q)) :
    Calls Tryd.prog 27 #[.agg #[.int .i64 d, .int .i64 e], .agg #[.int .i64 p, .int .i64 q]] W fun r w' => r = .returned (.bool b) ∧ Below W.heap.size W w' := by
  have m1 := hd.mul hq
  have m2 := he.mul hp
  unfold Sm at *
  obtain ⟨i, hi⟩ : ∃ i, Hid (i = btwv d p) := ⟨_, hid rfl⟩
  obtain ⟨j, hj⟩ : ∃ j, Hid (j = btwv e q) := ⟨_, hid rfl⟩
  obtain ⟨K, hK⟩ : ∃ K, K = d * q - e * p := ⟨_, rfl⟩
  have hx : b = (i && j && decide (2 * absv K < absv d + absv e)) := by rw [hb.out, hi.out, hj.out, hK]; rfl
  have w1 : IntKind.i64.wrap (d * q) = d * q := IntWalk.i64_in _ (by omega)
  have w2 : IntKind.i64.wrap (e * p) = e * p := IntWalk.i64_in _ (by omega)
  have w3 : IntKind.i64.wrap (d * q - e * p) = K := by rw [hK]; exact IntWalk.i64_in _ (by omega)
  have c1 := fun w => (shbtw_b d p w).mono fun _ _ h => And.intro h.1 h.2.symm
  have c2 := fun w => (shbtw_b e q w).mono fun _ _ h => And.intro h.1 h.2.symm
  have c3 := fun w => (shsize_b K w (by omega)).mono fun _ _ h => And.intro h.1 h.2.symm
  have c4 := fun w => (shsize_b d w (by omega)).mono fun _ _ h => And.intro h.1 h.2.symm
  have c5 := fun w => (shsize_b e w (by omega)).mono fun _ _ h => And.intro h.1 h.2.symm
  have aK : 0 ≤ absv K ∧ absv K ≤ 1000000000 := by unfold absv; omega
  have ad : 0 ≤ absv d ∧ absv d ≤ 10000 := by unfold absv; omega
  have ae : 0 ≤ absv e ∧ absv e ≤ 10000 := by unfold absv; omega
  rw [← hi.out] at c1
  rw [← hj.out] at c2
  obtain ⟨sK, hsK⟩ : ∃ s, Hid (absv K = s) := ⟨_, hid rfl⟩
  obtain ⟨sd, hsd⟩ : ∃ s, Hid (absv d = s) := ⟨_, hid rfl⟩
  obtain ⟨se, hse⟩ : ∃ s, Hid (absv e = s) := ⟨_, hid rfl⟩
  rw [hsK.out] at c3 aK hx
  rw [hsd.out] at c4 ad hx
  rw [hse.out] at c5 ae hx
  have w4 : IntKind.i64.wrap (2 * sK) = 2 * sK := IntWalk.i64_in _ (by omega)
  have w5 : IntKind.i64.wrap (sd + se) = sd + se := IntWalk.i64_in _ (by omega)
  rw [hx]
  clear hx hb hi hj m1 m2 hd he hp hq hK aK ad ae
  have hT := Held2.start W [.int .i64 d, .int .i64 e] [.int .i64 p, .int .i64 q] 26 26
  obtain ⟨_, _, _, _⟩ := hT.l.two
  obtain ⟨_, _, _, _⟩ := hT.r.two
  have hL := hT.old
  clear hT
  go_enter Tryd.func27, Tryd.ntmps27
  go_upto_region 1 with fail
  generalize (W.alloc (.cells [Value.int .i64 d, .int .i64 e].toArray 26)).alloc (.cells [Value.int .i64 p, .int .i64 q].toArray 26) = V at *
  cases i with
  | false =>
    go_quiet (first
      | (go_at_call 50; with_reducible exact Calls.quiet_of_same (c1 _)))
    go_wp2
    go_ret
    exact ⟨rfl, below_many hL _⟩
  | true =>
    cases j with
    | false =>
      go_quiet (first
        | (go_at_call 50; first | with_reducible exact Calls.quiet_of_same (c1 _) | with_reducible exact Calls.quiet_of_same (c2 _)))
      go_wp2
      go_ret
      exact ⟨rfl, below_many hL _⟩
    | true =>
      go_quiet (first
        | (go_at_call 50; first | with_reducible exact Calls.quiet_of_same (c1 _) | with_reducible exact Calls.quiet_of_same (c2 _))
        | (go_at_call 34; first | with_reducible exact Calls.quiet_of_same (c3 _) | with_reducible exact Calls.quiet_of_same (c4 _) | with_reducible exact Calls.quiet_of_same (c5 _)))
      go_wp2
      go_ret
      exact ⟨rfl, below_many hL _⟩

end Go.Proofs.YtlcbkeieejmmbaaDoor
