/-
  Laws of map files: the round trip, the symmetry of mirrored starts.
-/
import Derived.Test.YtmpbgfobiceehaaGreatDoorMapLaws
import Derived.Test.YtmpbgfobiceehaaGreatDoorMapRefG
namespace Go.Proofs.YtmpbgfobiceehaaGreatDoor
open Go.RowKit Go.Lib

theorem samef_self (f : F3) : samef f f = true := by unfold samef samev; simp
theorem round_text {f : F3} (h : validf f = 0) : (printv f).1.length ≤ 32768 ∧ parsev (printv f).1 = (f, 0, 0) := by
  unfold printv
  rw [if_pos h]
  exact ⟨text_len (good_of h), parse_print f h⟩

set_option maxRecDepth 100000 in
set_option maxHeartbeats 8000000 in
theorem law_round (f : F3) (sc ss : Value) (W : World) (hE : EnvM W) (hr : RowAt W sc f.m.cs) (hp : PosAt W ss f.st) (hc : CapOk sc) :
    Calls Tryz.prog 7 #[.agg #[.string (bs f.name), .int .i64 f.m.w, .int .i64 f.m.h, sc, ss]] W fun e w' => e = .returned (.bool true) ∧ Below W.heap.size W w' := by
  obtain ⟨p, c, rfl, -, -⟩ := id hr
  obtain ⟨ps, pc, rfl, -, -⟩ := id hp
  have hK := (Keep.nil W).alloc [.string (bs f.name), .int .i64 f.m.w, .int .i64 f.m.h, .slice p f.m.cs.length c, .slice ps f.st.length pc] 27
  replace hr := hr.below hK.old
  replace hp := hp.below hK.old
  obtain ⟨sb, hsb⟩ : ∃ b, Hid (b = decide (f.m.cs.length ≤ 1100 ∧ f.st.length ≤ 20 ∧ (bs f.name).size ≤ 1000)) := ⟨_, hid rfl⟩
  have c0 := fun V a b => dsmall_b (bs f.name) f.m.w f.m.h f.m.cs f.st (.slice p f.m.cs.length c) (.slice ps f.st.length pc) sb V a b hsb
  go_enter Tryz.func7, Tryz.ntmps7
  go_wp2_with fail
  ((with_reducible refine (c0 _ hr hp).mono ?_); rintro e w1 ⟨rfl, hb⟩)
  replace hK := hK.call hb
  replace hr := hr.below hb
  replace hp := hp.below hb
  clear hb c0
  cases sb with
  | false =>
    go_wp2_with fail
    ((with_reducible refine (dalive_any _ (hE.keep hK.old)).mono ?_); rintro e w2 ⟨rfl, hb⟩)
    replace hK := hK.call hb
    go_wp2_with fail
    go_ret
    exact ⟨rfl, hK.old⟩
  | true =>
    have hs := of_decide_eq_true hsb.out.symm
    rw [bs_size] at hs
    have hn : f.name.length ≤ 100000 := by omega
    obtain ⟨v, hv⟩ : ∃ v, Hid (v = validf f) := ⟨_, hid rfl⟩
    have c1 := fun V a b => rvalidf_b f (.slice p f.m.cs.length c) (.slice ps f.st.length pc) v V a b hn hv
    have hF := hK.one
    obtain ⟨F0, F1, F2, F3, F4⟩ := low5 hF (Below.refl _ _)
    clear hsb hs
    go_wp2_with fail
    ((with_reducible refine (c1 _ hr hp).mono ?_); rintro e w2 ⟨rfl, hb⟩)
    replace hK := hK.call hb
    replace hr := hr.below hb
    replace hp := hp.below hb
    clear hb c1 F0 F1 F2 F3 F4 hF
    by_cases h0 : v = 0
    · subst h0
      obtain ⟨hpl, hpr⟩ := round_text hv.out.symm
      obtain ⟨T, hT⟩ : ∃ T : ByteArray, T = bs (printv f).1 := ⟨_, rfl⟩
      have hTl : T.data.toList = (printv f).1 := by rw [hT, bs_list]
      have c1 := fun V hE a b => dprint_b f (.slice p f.m.cs.length c) (.slice ps f.st.length pc) T 0 V hE a b hc hn (hid ⟨hTl, by unfold printv; rw [if_pos hv.out.symm]⟩)
      unfold fileV at c1
      have c2 := fun V hE => dparse_b T V hE (by rw [hT, bs_size]; omega)
      rw [hTl, hpr] at c2
      have c3 : ∀ V, EnvM V → Calls Tryz.prog 16 #[.string T] V fun e w' => ∃ sc ss, e = .returned (.tuple #[.agg #[.string (bs f.name), .int .i64 f.m.w, .int .i64 f.m.h, sc, ss], .int .i64 0, .int .i64 0]) ∧ RowAt w' sc f.m.cs ∧ PosAt w' ss f.st ∧ CapOk sc ∧ Below V.heap.size V w' := fun V hE => c2 V hE
      have c4 := fun tc ts V a b k l => rsamef_b f f (.slice p f.m.cs.length c) (.slice ps f.st.length pc) tc ts true V a b k l (hid (samef_self f).symm)
      clear c2 hT hTl hpl hpr hv
      have hF := hK.one
      obtain ⟨F0, F1, F2, F3, F4⟩ := low5 hF (Below.refl _ _)
      go_wp2_with fail
      ((with_reducible refine (c1 _ (hE.keep hK.old) hr hp).mono ?_); rintro e w3 ⟨rfl, hb⟩)
      replace hK := hK.call hb
      replace hr := hr.below hb
      replace hp := hp.below hb
      clear hb c1 F0 F1 F2 F3 F4 hF
      go_wp2_with fail
      ((with_reducible refine (c3 _ (hE.keep hK.old)).mono ?_); rintro e w4 ⟨tc, ts, rfl, hr2, hp2, -, hb⟩)
      replace hK := hK.call hb
      replace hr := hr.below hb
      replace hp := hp.below hb
      clear hb c3
      obtain ⟨q, d, rfl, -, -⟩ := id hr2
      obtain ⟨qs, qd, rfl, -, -⟩ := id hp2
      have hb2 := (Below.refl w4.heap.size w4).alloc (Nat.le_refl _) (.cells #[.string (bs f.name), .int .i64 f.m.w, .int .i64 f.m.h, .slice q f.m.cs.length d, .slice qs f.st.length qd] 27)
      replace hr := hr.below hb2
      replace hp := hp.below hb2
      replace hr2 := hr2.below hb2
      replace hp2 := hp2.below hb2
      replace hK := hK.alloc [.string (bs f.name), .int .i64 f.m.w, .int .i64 f.m.h, .slice q f.m.cs.length d, .slice qs f.st.length qd] 27
      obtain ⟨hG, hF⟩ := hK.two
      obtain ⟨F0, F1, F2, F3, F4⟩ := low5 hF (Below.refl _ _)
      clear hb2
      go_wp2_with fail
      ((with_reducible refine (c4 _ _ _ hr hp hr2 hp2).mono ?_); rintro e w5 ⟨rfl, hb⟩)
      replace hK := hK.call hb
      clear hb c4
      go_wp2_with fail
      ((with_reducible refine (dalive_any _ (hE.keep hK.old)).mono ?_); rintro e w6 ⟨rfl, hb⟩)
      replace hK := hK.call hb
      go_wp2_with fail
      go_ret
      exact ⟨rfl, hK.old⟩
    · have z : (v != 0) = true := by simpa using h0
      clear h0
      go_wp2_with fail
      ((with_reducible refine (dalive_any _ (hE.keep hK.old)).mono ?_); rintro e w3 ⟨rfl, hb⟩)
      replace hK := hK.call hb
      go_wp2_with fail
      go_ret
      exact ⟨rfl, hK.old⟩

theorem turn_turn {m : M3} {x y : Int} (hw : 1 ≤ m.w ∧ m.w ≤ 32) (hh : 1 ≤ m.h ∧ m.h ≤ 32) (hx : 0 ≤ x ∧ x ≤ 31) (hy : 0 ≤ y ∧ y ≤ 31) : turnv m (turnv m (x, y)) = (x, y) := by
  have e1 : IntKind.i64.wrap (m.w - 1) = m.w - 1 := IntWalk.i64_in _ (by omega)
  have e2 : IntKind.i64.wrap (m.h - 1) = m.h - 1 := IntWalk.i64_in _ (by omega)
  have e3 : IntKind.i64.wrap (m.w - 1 - x) = m.w - 1 - x := IntWalk.i64_in _ (by omega)
  have e4 : IntKind.i64.wrap (m.h - 1 - y) = m.h - 1 - y := IntWalk.i64_in _ (by omega)
  unfold turnv
  simp only
  rw [e1, e2, e3, e4, IntWalk.i64_in _ (by omega), IntWalk.i64_in _ (by omega)]
  congr 1 <;> omega
/-- What Mirror returns where it succeeds. -/
theorem mir_yes {f R : F3} (e : mirrorv f = (R, 0)) : R = ⟨f.name, f.m, f.st ++ f.st.map (turnv f.m)⟩ ∧ validf R = 0 := by
  unfold mirrorv at e
  split at e
  · split at e
    · split at e
      · rename_i hv
        injection e with e1 _
        subst e1
        exact ⟨rfl, hv⟩
      · rename_i hv
        injection e with _ e2
        exact absurd e2 hv
    · injection e with _ e2
      cases e2
  · injection e with _ e2
    cases e2

set_option maxRecDepth 100000 in
set_option maxHeartbeats 8000000 in
theorem law_symmetry (f : F3) (sc ss : Value) (W : World) (hE : EnvM W) (hr : RowAt W sc f.m.cs) (hp : PosAt W ss f.st) :
    Calls Tryz.prog 9 #[.agg #[.string (bs f.name), .int .i64 f.m.w, .int .i64 f.m.h, sc, ss]] W fun e w' => e = .returned (.bool true) ∧ Below W.heap.size W w' := by
  obtain ⟨p, c, rfl, -, -⟩ := id hr
  obtain ⟨ps, pc, rfl, -, -⟩ := id hp
  have hK := (Keep.nil W).alloc [.string (bs f.name), .int .i64 f.m.w, .int .i64 f.m.h, .slice p f.m.cs.length c, .slice ps f.st.length pc] 27
  replace hr := hr.below hK.old
  replace hp := hp.below hK.old
  obtain ⟨sb, hsb⟩ : ∃ b, Hid (b = decide (f.m.cs.length ≤ 1100 ∧ f.st.length ≤ 20 ∧ (bs f.name).size ≤ 1000)) := ⟨_, hid rfl⟩
  have c0 := fun V a b => dsmall_b (bs f.name) f.m.w f.m.h f.m.cs f.st (.slice p f.m.cs.length c) (.slice ps f.st.length pc) sb V a b hsb
  go_enter Tryz.func9, Tryz.ntmps9
  go_wp2_with fail
  ((with_reducible refine (c0 _ hr hp).mono ?_); rintro e w1 ⟨rfl, hb⟩)
  replace hK := hK.call hb
  replace hr := hr.below hb
  replace hp := hp.below hb
  clear hb c0
  cases sb with
  | false =>
    go_wp2_with fail
    ((with_reducible refine (dalive_any _ (hE.keep hK.old)).mono ?_); rintro e w2 ⟨rfl, hb⟩)
    replace hK := hK.call hb
    go_wp2_with fail
    go_ret
    exact ⟨rfl, hK.old⟩
  | true =>
    have hs := of_decide_eq_true hsb.out.symm
    rw [bs_size] at hs
    obtain ⟨-, hs2, hs3⟩ := hs
    obtain ⟨R, er, hR⟩ : ∃ R er, mirrorv f = (R, er) := ⟨_, _, rfl⟩
    have c1 := fun V hE a b => dmirror_b f.name f.m f.st p c (.slice ps f.st.length pc) R er V hE a b (by omega) (by omega) (hid hR)
    have c2 : ∀ V, EnvM V → RowAt V (.slice p f.m.cs.length c) f.m.cs → PosAt V (.slice ps f.st.length pc) f.st → Calls Tryz.prog 19 #[.agg #[.string (bs f.name), .int .i64 f.m.w, .int .i64 f.m.h, .slice p f.m.cs.length c, .slice ps f.st.length pc]] V fun e w' => ∃ q d qs qd, e = .returned (.tuple #[.agg #[.string (bs R.name), .int .i64 R.m.w, .int .i64 R.m.h, .slice q R.m.cs.length d, .slice qs R.st.length qd], .int .i64 er]) ∧ RowAt w' (.slice q R.m.cs.length d) R.m.cs ∧ PosAt w' (.slice qs R.st.length qd) R.st ∧ Below V.heap.size V w' := fun V hE a b => (c1 V hE a b).mono fun e w' ⟨tc, ts, he, h1, h2, _, h4⟩ => by
      obtain ⟨q, d, rfl, -, -⟩ := id h1
      obtain ⟨qs, qd, rfl, -, -⟩ := id h2
      exact ⟨q, d, qs, qd, he, h1, h2, h4⟩
    have hF := hK.one
    obtain ⟨F0, F1, F2, F3, F4⟩ := low5 hF (Below.refl _ _)
    clear hsb c1
    go_wp2_with fail
    ((with_reducible refine (c2 _ (hE.keep hK.old) hr hp).mono ?_); rintro e w2 ⟨q, d, qs, qd, rfl, hr2, hp2, hb⟩)
    replace hK := hK.call hb
    replace hr := hr.below hb
    replace hp := hp.below hb
    clear hb c2 F0 F1 F2 F3 F4 hF
    obtain ⟨L, hL⟩ : ∃ L, L = R.st.length := ⟨_, rfl⟩
    rw [← hL] at hp2 ⊢
    replace hL := hid hL
    have hb2 := (Below.refl w2.heap.size w2).alloc (Nat.le_refl _) (.cells #[.string (bs R.name), .int .i64 R.m.w, .int .i64 R.m.h, .slice q R.m.cs.length d, .slice qs L qd] 27)
    replace hr := hr.below hb2
    replace hp := hp.below hb2
    replace hr2 := hr2.below hb2
    replace hp2 := hp2.below hb2
    replace hK := hK.alloc [.string (bs R.name), .int .i64 R.m.w, .int .i64 R.m.h, .slice q R.m.cs.length d, .slice qs L qd] 27
    clear hb2
    by_cases h0 : er = 0
    · subst h0
      obtain ⟨hRe, hv⟩ := mir_yes hR
      have hG := good_of hv
      have hat := hid hG.at
      have hw := hG.w
      have hh := hG.h
      have hnm : R.name.length ≤ 100000 := by have := (name_len hG.name).2; omega
      have c3 := fun V hE a b => dvalidf_b R (.slice q R.m.cs.length d) (.slice qs L qd) 0 V hE a b hnm (hid hv.symm)
      unfold fileV at c3
      have hlen : R.st.length = f.st.length + f.st.length := by rw [hRe]; simp
      have hm : R.m = f.m := by rw [hRe]
      have hst : R.st = f.st ++ f.st.map (turnv f.m) := by rw [hRe]
      rw [hm] at hw hh
      have HH := hid (And.intro hw hh)
      have HST := hid hst
      obtain ⟨hGk, hF⟩ := hK.two
      obtain ⟨F0, F1, F2, F3, F4⟩ := low5 hF (Below.refl _ _)
      clear hR hRe hv hG hnm hm hst hw hh
      have hLn : L = f.st.length + f.st.length := hL.out.trans hlen
      have z1 : ((L : Int) != 2 * (f.st.length : Int)) = false := by simp; omega
      have HLn := hid hLn
      have hL40 : L ≤ 40 := by omega
      clear hlen hLn
      go_wp2_with fail
      ((with_reducible refine (c3 _ (hE.keep hK.old).p hr2 hp2).mono ?_); rintro e w3 ⟨rfl, hb⟩)
      replace hK := hK.call hb
      replace hp := hp.below hb
      replace hp2 := hp2.below hb
      have hI := hid (show ∀ i, (h : i < f.st.length) → ∃ (h1 : i < R.st.length) (h2 : f.st.length + i < R.st.length), R.st[i]'h1 = f.st[i]'h ∧ R.st[f.st.length + i]'h2 = turnv f.m (f.st[i]'h) from fun i h => by
        have e := HST.out
        have h1 : i < R.st.length := by rw [e, List.length_append, List.length_map]; omega
        have h2 : f.st.length + i < R.st.length := by rw [e, List.length_append, List.length_map]; omega
        refine ⟨h1, h2, ?_, ?_⟩
        · simp only [e]
          rw [List.getElem_append_left h]
        · simp only [e]
          rw [List.getElem_append_right (by omega), List.getElem_map]
          simp)
      clear hb c3 F0 F1 F2 F3 F4 hF hGk hr hr2 HST
      obtain ⟨hGk, hF⟩ := hK.two
      obtain ⟨F0, F1, F2, F3, F4⟩ := low5 hF (Below.refl _ _)
      obtain ⟨G0, G1, G2, G3, G4⟩ := low5 hGk (Below.refl _ _)
      go_wp2_with fail
      clear z1
      go_loopw [6] (fun vi wr => ∃ i : Nat, vi = .int .i64 i ∧ i ≤ f.st.length ∧ Keep W wr [(w2.heap.size, [.string (bs R.name), .int .i64 R.m.w, .int .i64 R.m.h, .slice q R.m.cs.length d, .slice qs L qd], 27), (W.heap.size, [.string (bs f.name), .int .i64 f.m.w, .int .i64 f.m.h, .slice p f.m.cs.length c, .slice ps f.st.length pc], 27)] ∧ PosAt wr (.slice ps f.st.length pc) f.st ∧ PosAt wr (.slice qs L qd) R.st) (fun vi _ => f.st.length - (RowKit.intOf vi).toNat)
      case atStart => exact ⟨0, rfl, by omega, hK, hp, hp2⟩
      case round =>
        clear hK hp hp2 F0 F1 F2 F3 F4 G0 G1 G2 G3 G4 hF hGk
        obtain ⟨i, rfl, hi, hK, hp, hp2⟩ := hrel
        by_cases hlt : i < f.st.length
        · have d1 : (i : Int) < f.st.length := by omega
          have i0 : (0 : Int) ≤ i := by omega
          obtain ⟨h1, h2, v1, v2⟩ := hI.out i hlt
          have l1 : (i : Int) < L := by have := HLn.out; omega
          have l2 : (f.st.length : Int) + (i : Int) < L := by have := HLn.out; omega
          have l3 : (0 : Int) ≤ (f.st.length : Int) + (i : Int) := by omega
          have en : IntKind.i64.wrap ((f.st.length : Int) + (i : Int)) = (f.st.length : Int) + (i : Int) := IntWalk.i64_in _ (by omega)
          obtain ⟨g1, o1, j1, e1, -, a1, a2⟩ := hp.at hlt
          injection e1 with e1 k2 k3
          subst e1
          clear k2 k3
          obtain ⟨g2, o2, j2, e2, -, b1, b2⟩ := hp2.at h1
          obtain ⟨g3, o3, j3, e3, -, c1, c2⟩ := hp2.at h2
          injection e2 with e2 k2 k3
          subst e2
          clear k2 k3
          injection e3 with e3 k2 k3
          injection e3 with e3
          injection e3 with e3 e4
          subst e3 e4
          clear k2 k3
          have hxy := hat.out _ (List.getElem_mem h1)
          rw [v1] at b1 b2 hxy
          rw [v2] at c1 c2
          have en3 : ((f.st.length : Int) + (i : Int)).toNat = f.st.length + i := by omega
          rw [← en3] at c1 c2
          clear en3
          obtain ⟨v, hv⟩ : ∃ v, f.st[i]'hlt = v := ⟨_, rfl⟩
          rw [hv] at a1 a2 b1 b2 c1 c2 hxy
          obtain ⟨x, y⟩ := v
          dsimp only at a1 a2 b1 b2 hxy
          have htt := turn_turn HH.out.1 HH.out.2 ⟨hxy.1, hxy.2.1⟩ ⟨hxy.2.2.1, hxy.2.2.2⟩
          obtain ⟨t, ht⟩ : ∃ t, turnv f.m (x, y) = t := ⟨_, rfl⟩
          rw [ht] at c1 c2 htt
          obtain ⟨tx, ty⟩ := t
          dsimp only at c1 c2
          have c5 := fun V => rturned_b f.m tx ty p f.m.cs.length c V
          rw [htt] at c5
          dsimp only at c5
          obtain ⟨hGk, hF⟩ := hK.two
          have kg1 : g1 < wr.heap.size := World.block_lt_of_cell? wr _ a1
          have kg2 : g2 < wr.heap.size := World.block_lt_of_cell? wr _ b1
          have hS : ∀ w', Below wr.heap.size wr w' → w'.cell? ⟨W.heap.size, 1, none⟩ = some (.int .i64 f.m.w) ∧ w'.cell? ⟨W.heap.size, 2, none⟩ = some (.int .i64 f.m.h) ∧ w'.cell? ⟨W.heap.size, 3, none⟩ = some (.slice p f.m.cs.length c) ∧ w'.cell? ⟨W.heap.size, 4, none⟩ = some (.slice (some ⟨g1, o1, none⟩) f.st.length pc) ∧ w'.cell? ⟨w2.heap.size, 4, none⟩ = some (.slice (some ⟨g2, o2, none⟩) L qd) ∧ w'.cell? ⟨g1, o1 + i * 2, none⟩ = some (.int .i64 x) ∧ w'.cell? ⟨g1, o1 + i * 2 + 1, none⟩ = some (.int .i64 y) ∧ w'.cell? ⟨g2, o2 + i * 2, none⟩ = some (.int .i64 x) ∧ w'.cell? ⟨g2, o2 + i * 2 + 1, none⟩ = some (.int .i64 y) ∧ w'.cell? ⟨g2, o2 + ((f.st.length : Int) + (i : Int)).toNat * 2, none⟩ = some (.int .i64 tx) ∧ w'.cell? ⟨g2, o2 + ((f.st.length : Int) + (i : Int)).toNat * 2 + 1, none⟩ = some (.int .i64 ty) := fun w' hb => by
            obtain ⟨-, F1, F2, F3, F4⟩ := low5 hF hb
            obtain ⟨-, -, -, -, G4⟩ := low5 hGk hb
            exact ⟨F1, F2, F3, F4, G4, (hb.cell (p := ⟨g1, _, none⟩) kg1).trans a1, (hb.cell (p := ⟨g1, _, none⟩) kg1).trans a2, (hb.cell (p := ⟨g2, _, none⟩) kg2).trans b1, (hb.cell (p := ⟨g2, _, none⟩) kg2).trans b2, (hb.cell (p := ⟨g2, _, none⟩) kg2).trans c1, (hb.cell (p := ⟨g2, _, none⟩) kg2).trans c2⟩
          have hq := (Below.refl wr.heap.size wr).drew
          obtain ⟨-, -, -, -, F4⟩ := low5 hF (Below.refl _ _)
          clear a1 a2 b1 b2 c1 c2 v1 v2 hv htt ht hxy h1 h2 hF hGk kg1 kg2
          go_wp2_with fail
          go_region_held3 (fun w' => w'.cell? ⟨W.heap.size, 1, none⟩ = some (.int .i64 f.m.w) ∧ w'.cell? ⟨W.heap.size, 2, none⟩ = some (.int .i64 f.m.h) ∧ w'.cell? ⟨W.heap.size, 3, none⟩ = some (.slice p f.m.cs.length c) ∧ w'.cell? ⟨W.heap.size, 4, none⟩ = some (.slice (some ⟨g1, o1, none⟩) f.st.length pc) ∧ w'.cell? ⟨w2.heap.size, 4, none⟩ = some (.slice (some ⟨g2, o2, none⟩) L qd) ∧ w'.cell? ⟨g1, o1 + i * 2, none⟩ = some (.int .i64 x) ∧ w'.cell? ⟨g1, o1 + i * 2 + 1, none⟩ = some (.int .i64 y) ∧ w'.cell? ⟨g2, o2 + i * 2, none⟩ = some (.int .i64 x) ∧ w'.cell? ⟨g2, o2 + i * 2 + 1, none⟩ = some (.int .i64 y) ∧ w'.cell? ⟨g2, o2 + ((f.st.length : Int) + (i : Int)).toNat * 2, none⟩ = some (.int .i64 tx) ∧ w'.cell? ⟨g2, o2 + ((f.st.length : Int) + (i : Int)).toNat * 2 + 1, none⟩ = some (.int .i64 ty))
            (first | exact hS _ (by assumption))
            (first
              | (go_at_call 21; with_reducible refine (c5 _).mono ?_; rintro e w' ⟨rfl, hb⟩; replace hq := below_call hq hb; clear hb))
          replace hK := hK.call hq
          replace hp := hp.below hq
          replace hp2 := hp2.below hq
          clear hS hq c5
          go_wp2_with fail
          go_roundw
          case rel => exact ⟨i + 1, by go_num, by omega, hK, hp, hp2⟩
          case measure => simp [RowKit.intOf]; omega
        · obtain rfl : i = f.st.length := by omega
          go_wp2_with fail
          ((with_reducible refine (dalive_any _ (hE.keep hK.old)).mono ?_); rintro e w4 ⟨rfl, hb⟩)
          replace hK := hK.call hb
          go_wp2_with fail
          go_ret
          exact ⟨rfl, hK.old⟩
    · have z : (er != 0) = true := by simpa using h0
      clear h0 hR hs2 hs3
      go_wp2_with fail
      ((with_reducible refine (dalive_any _ (hE.keep hK.old)).mono ?_); rintro e w3 ⟨rfl, hb⟩)
      replace hK := hK.call hb
      go_wp2_with fail
      go_ret
      exact ⟨rfl, hK.old⟩

end Go.Proofs.YtmpbgfobiceehaaGreatDoor
