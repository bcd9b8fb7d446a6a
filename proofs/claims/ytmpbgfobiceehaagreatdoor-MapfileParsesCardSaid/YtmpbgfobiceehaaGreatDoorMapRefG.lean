/-
  What the reference of mapfile answers: rotated positions, map files that are the same.
-/
import Derived.Test.YtmpbgfobiceehaaGreatDoorMapRefQ
import Derived.Test.YtmpbgfobiceehaaGreatDoorMapMir
namespace Go.Proofs.YtmpbgfobiceehaaGreatDoor
open Go.RowKit Go.Lib

theorem low5 {V w' : World} {b : Nat} {p q r x y : Value} {t : TypeId} (hF : Blk V b [p, q, r, x, y] t) (h : Below V.heap.size V w') :
    w'.cell? ⟨b, 0, none⟩ = some p ∧ w'.cell? ⟨b, 1, none⟩ = some q ∧ w'.cell? ⟨b, 2, none⟩ = some r ∧ w'.cell? ⟨b, 3, none⟩ = some x ∧ w'.cell? ⟨b, 4, none⟩ = some y :=
  ⟨(hF.below h).cell 0, (hF.below h).cell 1, (hF.below h).cell 2, (hF.below h).cell 3, (hF.below h).cell 4⟩
set_option maxHeartbeats 2000000 in
/-- Turned. -/
theorem rturned_b (m : M3) (x y : Int) (p : Option Addr) (n c : Nat) (W : World) :
    Calls Tryz.prog 21 #[.agg #[.int .i64 m.w, .int .i64 m.h, .slice p n c], .agg #[.int .i64 x, .int .i64 y]] W fun e w' =>
      e = .returned (.agg #[.int .i64 (turnv m (x, y)).1, .int .i64 (turnv m (x, y)).2]) ∧ Below W.heap.size W w' := by
  obtain ⟨w, h, cs⟩ := m
  show Calls Tryz.prog 21 #[.agg #[.int .i64 w, .int .i64 h, .slice p n c], .agg #[.int .i64 x, .int .i64 y]] W fun e w' =>
      e = .returned (.agg #[.int .i64 (IntKind.i64.wrap (IntKind.i64.wrap (w - 1) - x)), .int .i64 (IntKind.i64.wrap (IntKind.i64.wrap (h - 1) - y))]) ∧ Below W.heap.size W w'
  simp only [← w64]
  have hK := (((Keep.nil W).alloc [.int .i64 w, .int .i64 h, .slice p n c] 24).alloc [.int .i64 x, .int .i64 y] 41).alloc [.int .i64 (wrap64 (wrap64 (w - 1) - x)), .int .i64 (wrap64 (wrap64 (h - 1) - y))] 41
  go_enter Tryz.func21, Tryz.ntmps21
  go_wp2_with fail
  refine bodyPost_ret (v := .agg #[.int .i64 (wrap64 (wrap64 (w - 1) - x)), .int .i64 (wrap64 (wrap64 (h - 1) - y))]) (by simp [results, Tryz.results21, go_sem]) rfl ⟨rfl, hK.old⟩

theorem same_names (a b : F3) : samef a b = (decide (bs a.name = bs b.name) && samev a.m b.m && decide (a.st = b.st)) := by
  unfold samef
  congr 2
  refine decide_eq_decide.2 ⟨fun h => by rw [h], fun h => ?_⟩
  have := congrArg (fun s : ByteArray => s.data.toList) h
  simpa only [bs_list] using this
theorem st_same {a b : List (Int × Int)} (hl : a.length = b.length) (h : ∀ j, (h1 : j < a.length) → (h2 : j < b.length) → a[j]'h1 = b[j]'h2) : a = b := List.ext_getElem hl h
theorem st_not {a b : List (Int × Int)} {i : Nat} (h1 : i < a.length) (h2 : i < b.length) (h : ¬ a[i]'h1 = b[i]'h2) : ¬ a = b := by
  rintro rfl
  exact h rfl

set_option maxRecDepth 100000 in
set_option maxHeartbeats 4000000 in
theorem rsamef_b (f g : F3) (sc ss tc ts : Value) (b : Bool) (W : World) (hr : RowAt W sc f.m.cs) (hp : PosAt W ss f.st) (hr2 : RowAt W tc g.m.cs) (hp2 : PosAt W ts g.st) (e : Hid (b = samef f g)) :
    Calls Tryz.prog 18 #[.agg #[.string (bs f.name), .int .i64 f.m.w, .int .i64 f.m.h, sc, ss], .agg #[.string (bs g.name), .int .i64 g.m.w, .int .i64 g.m.h, tc, ts]] W fun e w' => e = .returned (.bool b) ∧ Below W.heap.size W w' := by
  obtain ⟨p, c, rfl, -, -⟩ := id hr
  obtain ⟨ps, pc, rfl, hq1, -⟩ := id hp
  obtain ⟨q, d, rfl, -, -⟩ := id hr2
  obtain ⟨qs, qd, rfl, hq2, -⟩ := id hp2
  unfold maxLen at hq1 hq2
  replace hq1 := Nat.le_trans hq1.1 hq1.2
  replace hq2 := Nat.le_trans hq2.1 hq2.2
  have hK := ((Keep.nil W).alloc [.string (bs f.name), .int .i64 f.m.w, .int .i64 f.m.h, .slice p f.m.cs.length c, .slice ps f.st.length pc] 27).alloc [.string (bs g.name), .int .i64 g.m.w, .int .i64 g.m.h, .slice q g.m.cs.length d, .slice qs g.st.length qd] 27
  simp only [World.size_alloc] at hK
  replace hr := hr.below hK.old
  replace hp := hp.below hK.old
  replace hr2 := hr2.below hK.old
  replace hp2 := hp2.below hK.old
  have hb := e.out
  rw [same_names] at hb
  obtain ⟨nf, hnf⟩ : ∃ n, n = bs f.name := ⟨_, rfl⟩
  obtain ⟨ng, hng⟩ : ∃ n, n = bs g.name := ⟨_, rfl⟩
  rw [← hnf] at hK hb hr hp hr2 hp2 ⊢
  rw [← hng] at hK hb hr hp hr2 hp2 ⊢
  clear e hnf hng
  obtain ⟨hG, hF⟩ := hK.two
  obtain ⟨F0, F1, F2, F3, F4⟩ := low5 hF (Below.refl _ _)
  obtain ⟨G0, G1, G2, G3, G4⟩ := low5 hG (Below.refl _ _)
  by_cases hn : nf = ng
  · have z1 : decide (nf = ng) = true := decide_eq_true hn
    rw [z1, Bool.true_and] at hb
    subst hn
    clear z1
    obtain ⟨mb, hmb⟩ : ∃ m, Hid (m = samev f.m g.m) := ⟨_, hid rfl⟩
    rw [← hmb.out] at hb
    have c1 := fun V a b => rsame_b f.m g.m (.slice p f.m.cs.length c) (.slice q g.m.cs.length d) mb V a b hmb
    go_enter Tryz.func18, Tryz.ntmps18
    go_wp2_with fail
    ((with_reducible refine (c1 _ hr hr2).mono ?_); rintro e w1 ⟨rfl, hb1⟩)
    replace hK := hK.call hb1
    replace hp := hp.below hb1
    replace hp2 := hp2.below hb1
    clear c1 hr hr2 hb1 F0 F1 F2 F3 F4 G0 G1 G2 G3 G4 hF hG hmb
    obtain ⟨hG, hF⟩ := hK.two
    obtain ⟨F0, F1, F2, F3, F4⟩ := low5 hF (Below.refl _ _)
    obtain ⟨G0, G1, G2, G3, G4⟩ := low5 hG (Below.refl _ _)
    cases mb with
    | false =>
      rw [Bool.false_and] at hb
      subst hb
      go_wp2_with fail
      go_ret
      exact ⟨rfl, hK.old⟩
    | true =>
      rw [Bool.true_and] at hb
      by_cases hl : f.st.length = g.st.length
      · have z2 : ((f.st.length : Int) != (g.st.length : Int)) = false := by rw [hl]; simp
        have HB := hid hb
        have HL := hid hl
        have hlL : g.st.length ≤ f.st.length := by omega
        clear hb hl
        go_wp2_with fail
        clear z2
        go_loopw [5] (fun vi wr => ∃ i : Nat, vi = .int .i64 i ∧ i ≤ f.st.length ∧ Keep W wr [(W.heap.size + 1, [.string nf, .int .i64 g.m.w, .int .i64 g.m.h, .slice q g.m.cs.length d, .slice qs g.st.length qd], 27), (W.heap.size, [.string nf, .int .i64 f.m.w, .int .i64 f.m.h, .slice p f.m.cs.length c, .slice ps f.st.length pc], 27)] ∧ PosAt wr (.slice ps f.st.length pc) f.st ∧ PosAt wr (.slice qs g.st.length qd) g.st ∧ Hid (∀ j, (h1 : j < f.st.length) → (h2 : j < g.st.length) → j < i → f.st[j]'h1 = g.st[j]'h2)) (fun vi _ => f.st.length - (RowKit.intOf vi).toNat)
        case atStart => exact ⟨0, rfl, by omega, hK, hp, hp2, hid (fun j _ _ h => by omega)⟩
        case round =>
          clear hK hp hp2 F0 F1 F2 F3 F4 G0 G1 G2 G3 G4 hF hG
          obtain ⟨i, rfl, hi, hK, hp, hp2, hA⟩ := hrel
          obtain ⟨hG, hF⟩ := hK.two
          obtain ⟨F0, F1, F2, F3, F4⟩ := low5 hF (Below.refl _ _)
          obtain ⟨G0, G1, G2, G3, G4⟩ := low5 hG (Below.refl _ _)
          by_cases hlt : i < f.st.length
          · have d1 : (i : Int) < f.st.length := by omega
            have i0 : (0 : Int) ≤ i := by omega
            have hlt2 : i < g.st.length := by have := HL.out; omega
            have d2 : (i : Int) < g.st.length := by omega
            obtain ⟨g1, o1, k1, e1, -, a1, a2⟩ := hp.at hlt
            injection e1 with e1 k2 k3
            subst e1
            clear k2 k3
            obtain ⟨g2, o2, k1', e2, -, b1, b2⟩ := hp2.at hlt2
            injection e2 with e2 k2 k3
            subst e2
            clear k2 k3
            have hD := hid (show ∀ n, Keep W (wr.drewN n) _ ∧ PosAt (wr.drewN n) _ f.st ∧ PosAt (wr.drewN n) _ g.st from fun n => ⟨hK.call (below_many (Below.refl _ _) n), hp.below (below_many (Below.refl _ _) n), hp2.below (below_many (Below.refl _ _) n)⟩)
            by_cases hq : f.st[i]'hlt = g.st[i]'hlt2
            · have HN := hid (show ∀ j, (h1 : j < f.st.length) → (h2 : j < g.st.length) → j < i + 1 → f.st[j]'h1 = g.st[j]'h2 from fun j h1 h2 hj => by
                by_cases hji : j < i
                · exact hA.out j h1 h2 hji
                · obtain rfl : j = i := by omega
                  exact hq)
              rw [hq] at a1 a2
              obtain ⟨v, hv⟩ : ∃ v, g.st[i]'hlt2 = v := ⟨_, rfl⟩
              rw [hv] at a1 a2 b1 b2
              obtain ⟨x, y⟩ := v
              dsimp only at a1 a2 b1 b2
              clear hA hq hv hK hp hp2 hF hG
              go_wp2_with fail
              go_quiet (fail)
              go_wp2_with fail
              go_roundw
              case rel => exact ⟨i + 1, by go_num, by omega, (hD.out _).1, (hD.out _).2.1, (hD.out _).2.2, HN⟩
              case measure => simp [RowKit.intOf]; omega
            · have hbf : b = false := by rw [HB.out]; exact decide_eq_false (st_not hlt hlt2 hq)
              subst hbf
              obtain ⟨v, hv⟩ : ∃ v, f.st[i]'hlt = v := ⟨_, rfl⟩
              obtain ⟨u, hu⟩ : ∃ v, g.st[i]'hlt2 = v := ⟨_, rfl⟩
              rw [hv] at a1 a2 hq
              rw [hu] at b1 b2 hq
              obtain ⟨x, y⟩ := v
              obtain ⟨s, t⟩ := u
              dsimp only at a1 a2 b1 b2
              clear hA hv hu hK hp hp2 hF hG HB
              by_cases f1 : x = s
              · subst f1
                have f2 : (y == t) = false := beq_eq_false_iff_ne.2 fun h => hq (by rw [h])
                clear hq
                go_wp2_with fail
                go_quiet (fail)
                go_wp2_with fail
                go_ret
                exact ⟨rfl, (hD.out _).1.old⟩
              · have f2 : (x == s) = false := beq_eq_false_iff_ne.2 f1
                clear hq f1
                go_wp2_with fail
                go_quiet (fail)
                go_wp2_with fail
                go_ret
                exact ⟨rfl, (hD.out _).1.old⟩
          · obtain rfl : i = f.st.length := by omega
            have hbt : b = true := by rw [HB.out]; exact decide_eq_true (st_same HL.out (fun j h1 h2 => hA.out j h1 h2 h1))
            subst hbt
            clear hA HB
            go_wp2_with fail
            go_ret
            exact ⟨rfl, hK.old⟩
      · have z2 : ((f.st.length : Int) != (g.st.length : Int)) = true := by simp; omega
        rw [decide_eq_false (fun q => hl (congrArg List.length q))] at hb
        subst hb
        clear hl
        go_wp2_with fail
        go_ret
        exact ⟨rfl, hK.old⟩
  · have z1 : decide (nf = ng) = false := decide_eq_false hn
    rw [z1, Bool.false_and, Bool.false_and] at hb
    subst hb
    have z3 := ba_ne hn
    clear z1
    go_enter Tryz.func18, Tryz.ntmps18
    go_wp2_with fail
    go_ret
    exact ⟨rfl, hK.old⟩

end Go.Proofs.YtmpbgfobiceehaaGreatDoor
