/-
  Laws of map files: Mirror.
-/
import Derived.Test.YtmpbgfobiceehaaGreatDoorMapLaws
import Derived.Test.YtmpbgfobiceehaaGreatDoorMapRefH
namespace Go.Proofs.YtmpbgfobiceehaaGreatDoor
open Go.RowKit Go.Lib

/-- What Mirror leaves, its slices opened. -/
theorem mir_open {R : F3} {er : Int} {V w' : World} {e : Ending} (h : MirPost R er V e w') : ∃ q d qs qd, e = .returned (.tuple #[.agg #[.string (bs R.name), .int .i64 R.m.w, .int .i64 R.m.h, .slice q R.m.cs.length d, .slice qs R.st.length qd], .int .i64 er]) ∧ RowAt w' (.slice q R.m.cs.length d) R.m.cs ∧ PosAt w' (.slice qs R.st.length qd) R.st ∧ Below V.heap.size V w' := by
  obtain ⟨tc, ts, he, h1, h2, _, h4⟩ := h
  obtain ⟨q, d, rfl, -, -⟩ := id h1
  obtain ⟨qs, qd, rfl, -, -⟩ := id h2
  exact ⟨q, d, qs, qd, he, h1, h2, h4⟩
theorem same_this (f : F3) : samef f f = true := by unfold samef samev; simp

set_option maxRecDepth 100000 in
set_option maxHeartbeats 8000000 in
theorem law_mirrors (f : F3) (sc ss : Value) (W : World) (hE : EnvM W) (hr : RowAt W sc f.m.cs) (hp : PosAt W ss f.st) (hc : CapOk sc) :
    Calls Tryz.prog 6 #[.agg #[.string (bs f.name), .int .i64 f.m.w, .int .i64 f.m.h, sc, ss]] W fun e w' => e = .returned (.bool true) ∧ Below W.heap.size W w' := by
  obtain ⟨p, c, rfl, -, -⟩ := id hr
  obtain ⟨ps, pc, rfl, -, -⟩ := id hp
  have hK := (Keep.nil W).alloc [.string (bs f.name), .int .i64 f.m.w, .int .i64 f.m.h, .slice p f.m.cs.length c, .slice ps f.st.length pc] 27
  replace hr := hr.below hK.old
  replace hp := hp.below hK.old
  obtain ⟨sb, hsb⟩ : ∃ b, Hid (b = decide (f.m.cs.length ≤ 1100 ∧ f.st.length ≤ 20 ∧ (bs f.name).size ≤ 1000)) := ⟨_, hid rfl⟩
  have c0 := fun V a b => dsmall_b (bs f.name) f.m.w f.m.h f.m.cs f.st (.slice p f.m.cs.length c) (.slice ps f.st.length pc) sb V a b hsb
  go_enter Tryz.func6, Tryz.ntmps6
  go_wp2_with fail
  ((with_reducible refine (c0 _ hr hp).mono ?_); rintro e w1 ⟨rfl, hb⟩)
  replace hK := hK.call hb
  replace hr := hr.below hb
  replace hp := hp.below hb
  clear hb c0
  cases sb with
  | false =>
    go_wp2_with fail
    ((with_reducible refine (dalive_any _ (hE.keep hK.old)).mono ?_); rintro e w2 ⟨rfl, hb⟩)
    replace hK := hK.call hb
    go_wp2_with fail
    go_ret
    exact ⟨rfl, hK.old⟩
  | true =>
    have hs := of_decide_eq_true hsb.out.symm
    rw [bs_size] at hs
    obtain ⟨-, hs2, hs3⟩ := hs
    obtain ⟨R, er, hR⟩ : ∃ R er, mirrorv f = (R, er) := ⟨_, _, rfl⟩
    have c1 := fun V hE a b => (dmirror_b f.name f.m f.st p c (.slice ps f.st.length pc) R er V hE a b (by omega) (by omega) (hid hR)).mono fun _ _ h => mir_open h
    have c2 := fun V a b => (rmirror_b f.name f.m f.st p c (.slice ps f.st.length pc) R er V a b hc (by omega) (by omega) (hid hR)).mono fun _ _ h => mir_open h
    have c4 := fun q d qs qd tc ts V a b k l => rsamef_b R R (.slice q R.m.cs.length d) (.slice qs R.st.length qd) tc ts true V a b k l (hid (same_this R).symm)
    have hF := hK.one
    obtain ⟨F0, F1, F2, F3, F4⟩ := low5 hF (Below.refl _ _)
    clear hsb hR
    go_wp2_with fail
    ((with_reducible refine (c1 _ (hE.keep hK.old) hr hp).mono ?_); rintro e w2 ⟨q, d, qs, qd, rfl, hr2, hp2, hb⟩)
    replace hK := hK.call hb
    replace hr := hr.below hb
    replace hp := hp.below hb
    clear hb c1 F0 F1 F2 F3 F4 hF
    have hb2 := (Below.refl w2.heap.size w2).alloc (Nat.le_refl _) (.cells #[.string (bs R.name), .int .i64 R.m.w, .int .i64 R.m.h, .slice q R.m.cs.length d, .slice qs R.st.length qd] 27)
    replace hr := hr.below hb2
    replace hp := hp.below hb2
    replace hr2 := hr2.below hb2
    replace hp2 := hp2.below hb2
    replace hK := hK.alloc [.string (bs R.name), .int .i64 R.m.w, .int .i64 R.m.h, .slice q R.m.cs.length d, .slice qs R.st.length qd] 27
    obtain ⟨-, hF⟩ := hK.two
    obtain ⟨F0, F1, F2, F3, F4⟩ := low5 hF (Below.refl _ _)
    clear hb2
    go_wp2_with fail
    ((with_reducible refine (c2 _ hr hp).mono ?_); rintro e w3 ⟨q3, d3, qs3, qd3, rfl, hr3, hp3, hb⟩)
    replace hK := hK.call hb
    replace hr2 := hr2.below hb
    replace hp2 := hp2.below hb
    clear hb c2 F0 F1 F2 F3 F4 hF hr hp
    have hb2 := (Below.refl w3.heap.size w3).alloc (Nat.le_refl _) (.cells #[.string (bs R.name), .int .i64 R.m.w, .int .i64 R.m.h, .slice q3 R.m.cs.length d3, .slice qs3 R.st.length qd3] 27)
    replace hr2 := hr2.below hb2
    replace hp2 := hp2.below hb2
    replace hr3 := hr3.below hb2
    replace hp3 := hp3.below hb2
    replace hK := hK.alloc [.string (bs R.name), .int .i64 R.m.w, .int .i64 R.m.h, .slice q3 R.m.cs.length d3, .slice qs3 R.st.length qd3] 27
    obtain ⟨-, hG, -⟩ := hK.three
    obtain ⟨G0, G1, G2, G3, G4⟩ := low5 hG (Below.refl _ _)
    clear hb2
    go_wp2_with fail
    ((with_reducible refine (c4 _ _ _ _ _ _ _ hr2 hp2 hr3 hp3).mono ?_); rintro e w4 ⟨rfl, hb⟩)
    replace hK := hK.call hb
    clear hb c4
    go_wp2_with fail
    ((with_reducible refine (dalive_any _ (hE.keep hK.old)).mono ?_); rintro e w5 ⟨rfl, hb⟩)
    replace hK := hK.call hb
    go_wp2_with fail
    go_ret
    exact ⟨rfl, hK.old⟩

end Go.Proofs.YtmpbgfobiceehaaGreatDoor
