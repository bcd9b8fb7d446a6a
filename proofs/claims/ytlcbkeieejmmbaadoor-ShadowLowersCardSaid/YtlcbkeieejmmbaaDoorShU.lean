/-
  The laws of shadow: lowering a cell hides nothing.
-/
import Derived.Test.YtlcbkeieejmmbaaDoorShS
import Derived.Test.YtlcbkeieejmmbaaDoorTerRefH
namespace Go.Proofs.YtlcbkeieejmmbaaDoor
open Go.RowKit Go.Lib

set_option maxRecDepth 100000 in
set_option maxHeartbeats 16000000 in
theorem law12_lowers (m : M3) (s : Value) (x y u v p q : Int) (W : World) (hE : EnvT W) (hr : RowAt W s m.cs) :
    Calls Tryd.prog 9 #[.agg #[.int .i64 m.w, .int .i64 m.h, s], .agg #[.int .i64 x, .int .i64 y], .agg #[.int .i64 u, .int .i64 v], .agg #[.int .i64 p, .int .i64 q]] W fun e w' => e = .returned (.bool true) ∧ Below W.heap.size W w' := by
  obtain ⟨k0, h0⟩ : ∃ k, Hid (k = validm m) := ⟨_, hid rfl⟩
  obtain ⟨k1, h1⟩ : ∃ k, Hid (k = inv m.w m.h p q) := ⟨_, hid rfl⟩
  obtain ⟨e1, he1⟩ : ∃ t, Hid (decide (x = p ∧ y = q) = t) := ⟨_, hid rfl⟩
  obtain ⟨e2, he2⟩ : ∃ t, Hid (decide (u = p ∧ v = q) = t) := ⟨_, hid rfl⟩
  obtain ⟨z, hz⟩ : ∃ z, Hid (z = lookv m x y u v) := ⟨_, hid rfl⟩
  have q1 := fun w => (eqP x y p q w).trans (by rw [he1.out])
  have q2 := fun w => (eqP u v p q w).trans (by rw [he2.out])
  have cv := fun (w : World) (hb : Below W.heap.size W w) => rvalidm_c m s k0 w (hr.below hb) h0
  have ci := fun (w : World) => rin_b m.w m.h p q k1 w h1
  have cs := fun (w : World) (hb : Below W.heap.size W w) => shsees_b m s x y u v z w (hE.p.keep hb) (hr.below hb) hz
  have ca := fun (w : World) (hb : Below W.heap.size W w) => awake12_b w (hE.keep hb)
  have cset := fun (w : World) (hb : Below W.heap.size W w) (M : M3) (h : Hid (setv m p q ⟨1, 0, 0⟩ = (M, 0))) => rset_b m s p q ⟨1, 0, 0⟩ w M 0 (hr.below hb) h
  have cs2 := fun (M : M3) (s' : Value) (w : World) (hb : Below W.heap.size W w) (h2 : RowAt w s' M.cs) (h : Hid (true = lookv M x y u v)) => shsees_b M s' x y u v true w (hE.p.keep hb) h2 h
  obtain ⟨p0, c0, rfl⟩ := hr.slice
  have hF := Four.start W [.int .i64 m.w, .int .i64 m.h, .slice p0 m.cs.length c0] [.int .i64 x, .int .i64 y] [.int .i64 u, .int .i64 v] [.int .i64 p, .int .i64 q]
  clear hr hE
  obtain ⟨_, _, _, _, _, _⟩ := hF.m.three
  obtain ⟨_, _, _, _⟩ := hF.p.two
  obtain ⟨_, _, _, _⟩ := hF.q.two
  obtain ⟨_, _, _, _⟩ := hF.r.two
  obtain ⟨L, hLn⟩ : ∃ b, decide ((1024 : Int) < (m.cs.length : Int)) = b := ⟨_, rfl⟩
  go_enter Tryd.func9, Tryd.ntmps9
  go_upto_region 1 with fail
  generalize (((W.alloc (.cells [Value.int .i64 m.w, .int .i64 m.h, .slice p0 m.cs.length c0].toArray 24)).alloc (.cells [Value.int .i64 x, .int .i64 y].toArray 26)).alloc (.cells [Value.int .i64 u, .int .i64 v].toArray 26)).alloc (.cells [Value.int .i64 p, .int .i64 q].toArray 26) = X at *
  cases L with
  | true =>
    go_wp2_with (first | (go_at_call 10; with_reducible refine (ca _ hF.old).mono ?_; rintro e w9 ⟨rfl, hb⟩))
    go_ret
    exact ⟨rfl, below_call hF.old hb⟩
  | false =>
    cases k0 with
    | false =>
      go_wp2_with (first | (go_at_call 21; with_reducible refine (cv _ hF.old).mono ?_; rintro e w1 ⟨rfl, hb⟩; replace hF := hF.call hb; clear hb; obtain ⟨_, _, _, _, _, _⟩ := hF.m.three; obtain ⟨_, _, _, _⟩ := hF.p.two; obtain ⟨_, _, _, _⟩ := hF.q.two; obtain ⟨_, _, _, _⟩ := hF.r.two) | (go_at_call 10; with_reducible refine (ca _ hF.old).mono ?_; rintro e w9 ⟨rfl, hb⟩))
      go_ret
      exact ⟨rfl, below_call hF.old hb⟩
    | true =>
      cases k1 with
      | false =>
        go_wp2_with (first | (go_at_call 21; with_reducible refine (cv _ hF.old).mono ?_; rintro e w1 ⟨rfl, hb⟩; replace hF := hF.call hb; clear hb; obtain ⟨_, _, _, _, _, _⟩ := hF.m.three; obtain ⟨_, _, _, _⟩ := hF.p.two; obtain ⟨_, _, _, _⟩ := hF.q.two; obtain ⟨_, _, _, _⟩ := hF.r.two) | (go_at_call 22; with_reducible refine (ci _).mono ?_; rintro e w2 ⟨rfl, hb⟩; replace hF := hF.call hb; clear hb; obtain ⟨_, _, _, _, _, _⟩ := hF.m.three; obtain ⟨_, _, _, _⟩ := hF.p.two; obtain ⟨_, _, _, _⟩ := hF.q.two; obtain ⟨_, _, _, _⟩ := hF.r.two) | (go_at_call 10; with_reducible refine (ca _ hF.old).mono ?_; rintro e w9 ⟨rfl, hb⟩))
        go_ret
        exact ⟨rfl, below_call hF.old hb⟩
      | true =>
        cases e1 with
        | true =>
          go_wp2_with (first | (go_at_call 21; with_reducible refine (cv _ hF.old).mono ?_; rintro e w1 ⟨rfl, hb⟩; replace hF := hF.call hb; clear hb; obtain ⟨_, _, _, _, _, _⟩ := hF.m.three; obtain ⟨_, _, _, _⟩ := hF.p.two; obtain ⟨_, _, _, _⟩ := hF.q.two; obtain ⟨_, _, _, _⟩ := hF.r.two) | (go_at_call 22; with_reducible refine (ci _).mono ?_; rintro e w2 ⟨rfl, hb⟩; replace hF := hF.call hb; clear hb; obtain ⟨_, _, _, _, _, _⟩ := hF.m.three; obtain ⟨_, _, _, _⟩ := hF.p.two; obtain ⟨_, _, _, _⟩ := hF.q.two; obtain ⟨_, _, _, _⟩ := hF.r.two) | (go_at_call 10; with_reducible refine (ca _ hF.old).mono ?_; rintro e w9 ⟨rfl, hb⟩))
          go_ret
          exact ⟨rfl, below_call hF.old hb⟩
        | false =>
          cases e2 with
          | true =>
            go_wp2_with (first | (go_at_call 21; with_reducible refine (cv _ hF.old).mono ?_; rintro e w1 ⟨rfl, hb⟩; replace hF := hF.call hb; clear hb; obtain ⟨_, _, _, _, _, _⟩ := hF.m.three; obtain ⟨_, _, _, _⟩ := hF.p.two; obtain ⟨_, _, _, _⟩ := hF.q.two; obtain ⟨_, _, _, _⟩ := hF.r.two) | (go_at_call 22; with_reducible refine (ci _).mono ?_; rintro e w2 ⟨rfl, hb⟩; replace hF := hF.call hb; clear hb; obtain ⟨_, _, _, _, _, _⟩ := hF.m.three; obtain ⟨_, _, _, _⟩ := hF.p.two; obtain ⟨_, _, _, _⟩ := hF.q.two; obtain ⟨_, _, _, _⟩ := hF.r.two) | (go_at_call 10; with_reducible refine (ca _ hF.old).mono ?_; rintro e w9 ⟨rfl, hb⟩))
            go_ret
            exact ⟨rfl, below_call hF.old hb⟩
          | false =>
            cases z with
            | false =>
              go_wp2_with (first | (go_at_call 21; with_reducible refine (cv _ hF.old).mono ?_; rintro e w1 ⟨rfl, hb⟩; replace hF := hF.call hb; clear hb; obtain ⟨_, _, _, _, _, _⟩ := hF.m.three; obtain ⟨_, _, _, _⟩ := hF.p.two; obtain ⟨_, _, _, _⟩ := hF.q.two; obtain ⟨_, _, _, _⟩ := hF.r.two) | (go_at_call 22; with_reducible refine (ci _).mono ?_; rintro e w2 ⟨rfl, hb⟩; replace hF := hF.call hb; clear hb; obtain ⟨_, _, _, _, _, _⟩ := hF.m.three; obtain ⟨_, _, _, _⟩ := hF.p.two; obtain ⟨_, _, _, _⟩ := hF.q.two; obtain ⟨_, _, _, _⟩ := hF.r.two) | (go_at_call 13; with_reducible refine (cs _ hF.old).mono ?_; rintro e w3 ⟨rfl, hb⟩; replace hF := hF.call hb; clear hb; obtain ⟨_, _, _, _, _, _⟩ := hF.m.three; obtain ⟨_, _, _, _⟩ := hF.p.two; obtain ⟨_, _, _, _⟩ := hF.q.two; obtain ⟨_, _, _, _⟩ := hF.r.two) | (go_at_call 10; with_reducible refine (ca _ hF.old).mono ?_; rintro e w9 ⟨rfl, hb⟩))
              go_ret
              exact ⟨rfl, below_call hF.old hb⟩
            | true =>
              have hv := h0.out.symm
              have hi := h1.out.symm
              have hin : insidev m p q = true := by unfold insidev; rw [formed_of hv, hi]; rfl
              have hst : Hid (setv m p q ⟨1, 0, 0⟩ = (withv m p q ⟨1, 0, 0⟩, 0)) := hid (by unfold setv; rw [if_pos ⟨hv, by decide⟩, if_pos hin])
              have hlow : Hid (true = lookv (withv m p q ⟨1, 0, 0⟩) x y u v) := hid (sees_lower hv hi (of_decide_eq_false he1.out) (of_decide_eq_false he2.out) hz.out.symm).symm
              have cset1 := fun (w : World) (hb : Below W.heap.size W w) => cset w hb _ hst
              have cs3 := fun (s' : Value) (w : World) (hb : Below W.heap.size W w) (h2 : RowAt w s' (withv m p q ⟨1, 0, 0⟩).cs) => cs2 _ s' w hb h2 hlow
              have hWw : (withv m p q ⟨1, 0, 0⟩).w = m.w := rfl
              have hWh : (withv m p q ⟨1, 0, 0⟩).h = m.h := rfl
              rw [hWw, hWh] at cset1 cs3
              clear h0 h1 he1 he2 hz hv hi hin hst hlow cset cs2 hWw hWh
              generalize (withv m p q ⟨1, 0, 0⟩).cs = ncs at *
              go_upto_region 3 with (first | (go_at_call 21; with_reducible refine (cv _ hF.old).mono ?_; rintro e w1 ⟨rfl, hb⟩; replace hF := hF.call hb; clear hb; obtain ⟨_, _, _, _, _, _⟩ := hF.m.three; obtain ⟨_, _, _, _⟩ := hF.p.two; obtain ⟨_, _, _, _⟩ := hF.q.two; obtain ⟨_, _, _, _⟩ := hF.r.two) | (go_at_call 22; with_reducible refine (ci _).mono ?_; rintro e w2 ⟨rfl, hb⟩; replace hF := hF.call hb; clear hb; obtain ⟨_, _, _, _, _, _⟩ := hF.m.three; obtain ⟨_, _, _, _⟩ := hF.p.two; obtain ⟨_, _, _, _⟩ := hF.q.two; obtain ⟨_, _, _, _⟩ := hF.r.two) | (go_at_call 13; with_reducible refine (cs _ hF.old).mono ?_; rintro e w3 ⟨rfl, hb⟩; replace hF := hF.call hb; clear hb; obtain ⟨_, _, _, _, _, _⟩ := hF.m.three; obtain ⟨_, _, _, _⟩ := hF.p.two; obtain ⟨_, _, _, _⟩ := hF.q.two; obtain ⟨_, _, _, _⟩ := hF.r.two))
              clear q1 q2 cv ci cs
              go_upto_region 4 with (go_at_call 24; with_reducible refine (cset1 _ hF.old).mono ?_; rintro e w4 ⟨s', rfl, hr2, hb⟩; obtain ⟨p9, c9, rfl⟩ := hr2.slice)
              have ha := (Below.refl w4.heap.size w4).alloc (Nat.le_refl _) (.cells [Value.int .i64 m.w, .int .i64 m.h, .slice p9 ncs.length c9].toArray 24)
              have hN := Blk.new w4 [.int .i64 m.w, .int .i64 m.h, .slice p9 ncs.length c9] 24
              replace hr2 := hr2.below ha
              replace hF := (hF.call hb).call ha
              clear hb ha cset1
              generalize w4.alloc (.cells [Value.int .i64 m.w, .int .i64 m.h, .slice p9 ncs.length c9].toArray 24) = Z at *
              generalize w4.heap.size = n at *
              obtain ⟨_, _, _, _, _, _⟩ := hN.three
              obtain ⟨_, _, _, _⟩ := hF.p.two
              obtain ⟨_, _, _, _⟩ := hF.q.two
              go_wp2_with (first
                | (go_at_call 13; with_reducible refine (cs3 _ _ hF.old hr2).mono ?_; rintro e w5 ⟨rfl, hb⟩; replace hF := hF.call hb; clear hb)
                | (go_at_call 10; with_reducible refine (ca _ hF.old).mono ?_; rintro e w9 ⟨rfl, hb⟩))
              go_ret
              exact ⟨rfl, below_call hF.old hb⟩

end Go.Proofs.YtlcbkeieejmmbaaDoor
