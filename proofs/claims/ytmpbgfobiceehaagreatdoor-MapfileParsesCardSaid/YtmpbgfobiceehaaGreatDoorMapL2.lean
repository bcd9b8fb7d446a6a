/-
  Laws of map files: Parse.
-/
import Derived.Test.YtmpbgfobiceehaaGreatDoorMapLaws
import Derived.Test.YtmpbgfobiceehaaGreatDoorMapRefO
namespace Go.Proofs.YtmpbgfobiceehaaGreatDoor
open Go.RowKit Go.Lib

/-- What Parse leaves, its slices opened. -/
theorem par_open {R : F3} {rl re : Int} {V w' : World} {e : Ending} (h : ParsePost R rl re V e w') : ∃ q d qs qd, e = .returned (.tuple #[.agg #[.string (bs R.name), .int .i64 R.m.w, .int .i64 R.m.h, .slice q R.m.cs.length d, .slice qs R.st.length qd], .int .i64 rl, .int .i64 re]) ∧ RowAt w' (.slice q R.m.cs.length d) R.m.cs ∧ PosAt w' (.slice qs R.st.length qd) R.st ∧ Below V.heap.size V w' := by
  obtain ⟨tc, ts, he, h1, h2, _, h4⟩ := h
  obtain ⟨q, d, rfl, -, -⟩ := id h1
  obtain ⟨qs, qd, rfl, -, -⟩ := id h2
  exact ⟨q, d, qs, qd, he, h1, h2, h4⟩
theorem same_own (f : F3) : samef f f = true := by unfold samef samev; simp

set_option maxRecDepth 100000 in
set_option maxHeartbeats 8000000 in
theorem law_parses (s : ByteArray) (W : World) (hE : EnvM W) :
    Calls Tryz.prog 4 #[.string s] W fun e w' => e = .returned (.bool true) ∧ Below W.heap.size W w' := by
  by_cases h1 : 6000 < s.size
  · have z1 : decide ((6000 : Int) < s.size) = true := decide_eq_true (by omega)
    go_enter Tryz.func4, Tryz.ntmps4
    go_wp2_with fail
    ((with_reducible refine (dalive_any _ hE).mono ?_); rintro e w1 ⟨rfl, hb⟩)
    go_wp2_with fail
    go_ret
    exact ⟨rfl, hb⟩
  · have z1 : decide ((6000 : Int) < s.size) = false := decide_eq_false (by omega)
    obtain ⟨R, rl, re, hP⟩ : ∃ f l er, parsev s.data.toList = (f, l, er) := ⟨_, _, _, rfl⟩
    have c1 := fun V hE => dparse_b s V hE (by omega)
    rw [hP] at c1
    have c2 : ∀ V, EnvM V → Calls Tryz.prog 16 #[.string s] V _ := fun V hE => (c1 V hE).mono fun _ _ h => par_open h
    have c3 := fun V => (rparse_b s V (by omega) R rl re (hid hP)).mono fun _ _ h => par_open h
    have c4 := fun q d qs qd tc ts V a b k l => rsamef_b R R (.slice q R.m.cs.length d) (.slice qs R.st.length qd) tc ts true V a b k l (hid (same_own R).symm)
    dsimp only at c2
    clear c1 hP
    go_enter Tryz.func4, Tryz.ntmps4
    go_wp2_with fail
    ((with_reducible refine (c2 _ hE).mono ?_); rintro e w2 ⟨q, d, qs, qd, rfl, hr2, hp2, hb⟩)
    have hb2 := (Below.refl w2.heap.size w2).alloc (Nat.le_refl _) (.cells #[.string (bs R.name), .int .i64 R.m.w, .int .i64 R.m.h, .slice q R.m.cs.length d, .slice qs R.st.length qd] 27)
    replace hr2 := hr2.below hb2
    replace hp2 := hp2.below hb2
    have hK := (show Keep W w2 [] from ⟨fun e he => by simp at he, hb⟩).alloc [.string (bs R.name), .int .i64 R.m.w, .int .i64 R.m.h, .slice q R.m.cs.length d, .slice qs R.st.length qd] 27
    clear hb2 hb c2
    go_wp2_with fail
    ((with_reducible refine (c3 _).mono ?_); rintro e w3 ⟨q3, d3, qs3, qd3, rfl, hr3, hp3, hb⟩)
    replace hK := hK.call hb
    replace hr2 := hr2.below hb
    replace hp2 := hp2.below hb
    clear hb c3
    have hb2 := (Below.refl w3.heap.size w3).alloc (Nat.le_refl _) (.cells #[.string (bs R.name), .int .i64 R.m.w, .int .i64 R.m.h, .slice q3 R.m.cs.length d3, .slice qs3 R.st.length qd3] 27)
    replace hr2 := hr2.below hb2
    replace hp2 := hp2.below hb2
    replace hr3 := hr3.below hb2
    replace hp3 := hp3.below hb2
    replace hK := hK.alloc [.string (bs R.name), .int .i64 R.m.w, .int .i64 R.m.h, .slice q3 R.m.cs.length d3, .slice qs3 R.st.length qd3] 27
    obtain ⟨hF, hG⟩ := hK.two
    obtain ⟨F0, F1, F2, F3, F4⟩ := low5 hF (Below.refl _ _)
    obtain ⟨G0, G1, G2, G3, G4⟩ := low5 hG (Below.refl _ _)
    clear hb2
    go_wp2_with fail
    ((with_reducible refine (c4 _ _ _ _ _ _ _ hr2 hp2 hr3 hp3).mono ?_); rintro e w4 ⟨rfl, hb⟩)
    replace hK := hK.call hb
    clear hb c4
    go_wp2_with fail
    ((with_reducible refine (dalive_any _ (hE.keep hK.old)).mono ?_); rintro e w5 ⟨rfl, hb⟩)
    replace hK := hK.call hb
    go_wp2_with fail
    go_ret
    exact ⟨rfl, hK.old⟩

end Go.Proofs.YtmpbgfobiceehaaGreatDoor
