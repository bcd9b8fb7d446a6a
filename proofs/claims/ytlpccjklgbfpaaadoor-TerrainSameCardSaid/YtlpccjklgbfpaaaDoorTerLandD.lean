/-
  What the functions of terrain answer, as landed at 6373918: Take, Same.
-/
import Derived.Test.YtlpccjklgbfpaaaDoorTerLandC
import Derived.Test.YtlpccjklgbfpaaaDoorTerK
namespace Go.Proofs.YtlpccjklgbfpaaaDoor
open Go.RowKit Go.Lib

set_option maxHeartbeats 4000000 in
theorem dtake_b (m : M3) (s : Value) (x y n : Int) (W : World) (M : M3) (k er : Int) (hr : RowAt W s m.cs) (e : Hid (takev m x y n = (M, k, er))) :
    Calls Tryd.prog 27 #[.agg #[.int .i64 m.w, .int .i64 m.h, s], .agg #[.int .i64 x, .int .i64 y], .int .i64 n] W fun e w' => ∃ s', e = .returned (.tuple #[.agg #[.int .i64 M.w, .int .i64 M.h, s'], .int .i64 k, .int .i64 er]) ∧ RowAt w' s' M.cs ∧ Below W.heap.size W w' := by
  have hK := (((Keep.nil W).alloc [.int .i64 m.w, .int .i64 m.h, s] 24).alloc [.int .i64 x, .int .i64 y] 26).alloc [.int .i64 0, .int .i64 0, .slice none 0 0] 24
  have hr' := hr.below hK.old
  simp only [World.size_alloc] at hK
  obtain ⟨v, hv⟩ : ∃ v, Hid (v = validm m) := ⟨_, hid rfl⟩
  obtain ⟨i, hi⟩ : ∃ v, Hid (v = insidev m x y) := ⟨_, hid rfl⟩
  obtain ⟨q, hq⟩ : ∃ v, Hid (v = getv m x y) := ⟨_, hid rfl⟩
  have he : (if v = true ∧ 1 ≤ n then (if i = true ∧ q.a ≠ 0 then (withv m x y (lessv q n), min n q.a, 0) else (M3.zero, 0, 8)) else (M3.zero, 0, 1)) = (M, k, er) := by rw [hv.out, hi.out, hq.out]; exact e.out
  clear e
  go_enter Tryd.func27, Tryd.ntmps27
  go_upto_region 1 with fail
  generalize (((W.alloc (.cells [Value.int .i64 m.w, .int .i64 m.h, s].toArray 24)).alloc (.cells [Value.int .i64 x, .int .i64 y].toArray 26)).alloc (.cells [Value.int .i64 0, .int .i64 0, .slice none 0 0].toArray 24)) = V at *
  obtain ⟨hR, hP, hM⟩ := hK.three
  obtain ⟨_, _, _, _, _, _⟩ := hM.three
  cases v with
  | false =>
    rw [if_neg (by simp)] at he
    injection he with e1 he; injection he with e2 e3
    subst e1 e2 e3
    go_wp2_with fail
    ((with_reducible refine (dvalidm_b m s false _ hr' hv).mono ?_); rintro e w1 ⟨rfl, hb1⟩)
    replace hK := hK.call hb1
    replace hR := hR.below hb1
    obtain ⟨_, _, _, _, _, _⟩ := hR.three
    go_wp2_with fail
    obtain ⟨_, _, _, -, -, -⟩ := (hR.put3 (.int .i64 0) (.int .i64 0) (.slice none 0 0)).three
    refine bodyPost_ret (v := .tuple #[.agg #[.int .i64 0, .int .i64 0, .slice none 0 0], .int .i64 0, .int .i64 1]) (by simp [results, Tryd.results27, go_sem, *]) rfl ⟨_, rfl, RowAt.zero _, below_put3 hK.old (by omega) _ _ _⟩
  | true =>
    by_cases n1 : 1 ≤ n
    · have d1 : decide (n < 1) = false := decide_eq_false (by omega)
      rw [if_pos ⟨rfl, n1⟩] at he
      have ha := get_valid (x := x) (y := y) hv.out.symm
      rw [← hq.out] at ha
      go_wp2_with fail
      ((with_reducible refine (dvalidm_b m s true _ hr' hv).mono ?_); rintro e w1 ⟨rfl, hb1⟩)
      replace hK := hK.call hb1
      replace hr' := hr'.below hb1
      clear hR hP hM hb1
      obtain ⟨hR, hP, hM⟩ := hK.three
      obtain ⟨_, _, _, _, _, _⟩ := hM.three
      obtain ⟨_, _, _, _⟩ := hP.two
      go_wp2_with fail
      ((with_reducible refine (dget_b m s x y q i _ hr' hi hq).mono ?_); rintro e w2 ⟨rfl, hb2⟩)
      replace hK := hK.call hb2
      replace hr' := hr'.below hb2
      clear hR hP hM hb2
      obtain ⟨hR, hP, hM⟩ := hK.three
      cases i with
      | false =>
        rw [if_neg (by simp)] at he
        injection he with e1 he; injection he with e2 e3
        subst e1 e2 e3
        replace hR := hR.alloc (.cells [Value.int .i64 q.k, .int .i64 q.h, .int .i64 q.a].toArray 28)
        replace hK := hK.other (.cells [Value.int .i64 q.k, .int .i64 q.h, .int .i64 q.a].toArray 28)
        obtain ⟨_, _, _, _, _, _⟩ := hR.three
        go_wp2_with fail
        obtain ⟨_, _, _, -, -, -⟩ := (hR.put3 (.int .i64 0) (.int .i64 0) (.slice none 0 0)).three
        refine bodyPost_ret (v := .tuple #[.agg #[.int .i64 0, .int .i64 0, .slice none 0 0], .int .i64 0, .int .i64 8]) (by simp [results, Tryd.results27, go_sem, *]) rfl ⟨_, rfl, RowAt.zero _, below_put3 hK.old (by omega) _ _ _⟩
      | true =>
        by_cases a0 : q.a = 0
        · rw [if_neg (fun h => h.2 a0)] at he
          injection he with e1 he; injection he with e2 e3
          subst e1 e2 e3
          have hC := Blk.new w2 [.int .i64 q.k, .int .i64 q.h, .int .i64 q.a] 28
          replace hR := hR.alloc (.cells [Value.int .i64 q.k, .int .i64 q.h, .int .i64 q.a].toArray 28)
          replace hK := hK.other (.cells [Value.int .i64 q.k, .int .i64 q.h, .int .i64 q.a].toArray 28)
          obtain ⟨_, _, _, _, _, _⟩ := hR.three
          obtain ⟨_, _, _, _, _, _⟩ := hC.three
          have z : (q.a == 0) = true := by rw [a0]; rfl
          clear a0
          go_wp2_with fail
          obtain ⟨_, _, _, -, -, -⟩ := (hR.put3 (.int .i64 0) (.int .i64 0) (.slice none 0 0)).three
          refine bodyPost_ret (v := .tuple #[.agg #[.int .i64 0, .int .i64 0, .slice none 0 0], .int .i64 0, .int .i64 8]) (by simp [results, Tryd.results27, go_sem, *]) rfl ⟨_, rfl, RowAt.zero _, below_put3 hK.old (by omega) _ _ _⟩
        · rw [if_pos ⟨rfl, a0⟩] at he
          injection he with e1 he; injection he with e2 e3
          have z : (q.a == 0) = false := beq_eq_false_iff_ne.2 a0
          have hL : lessv q n = ⟨if q.a - min n q.a = 0 then 1 else q.k, q.h, q.a - min n q.a⟩ := rfl
          obtain ⟨t, ht⟩ : ∃ t, min n q.a = t := ⟨_, rfl⟩
          rw [ht] at e2 hL
          subst e2 e3
          have hw : IntKind.i64.wrap (q.a - t) = q.a - t := IntWalk.i64_in _ (by omega)
          have hb3 := fun l => (Below.refl w2.heap.size w2).alloc (Nat.le_refl _) (.cells (List.toArray l) 28)
          clear hR hP hM
          have hC := Blk.new w2 [.int .i64 q.k, .int .i64 q.h, .int .i64 q.a] 28
          obtain ⟨_, _, _, _, _, _⟩ := hC.three
          clear hC a0
          by_cases t0 : q.a - t = 0
          · have z2 : (q.a - t == 0) = true := by rw [t0]; rfl
            rw [if_pos t0] at hL
            clear t0
            go_upto_region 10 with fail
            replace hK := hK.alloc [.int .i64 1, .int .i64 q.h, .int .i64 (q.a - t)] 28
            replace hr' := hr'.below (hb3 [.int .i64 1, .int .i64 q.h, .int .i64 (q.a - t)])
            clear hb3
            obtain ⟨hC, hR, hP, hM⟩ := hK.four
            obtain ⟨_, _, _, _, _, _⟩ := hM.three
            obtain ⟨_, _, _, _⟩ := hP.two
            obtain ⟨_, _, _, _, _, _⟩ := hC.three
            have hwi := dwith_any m s x y ⟨1, q.h, q.a - t⟩ _ hr' hi
            rw [hL] at e1
            dsimp only at hwi
            have hlt := hR.lt
            go_wp2_with fail
            ((with_reducible refine hwi.mono ?_); rintro e w4 ⟨s', rfl, hrs, hup, hb4⟩)
            rw [e1] at hrs
            obtain ⟨p', c', rfl, _, _⟩ := id hrs
            have hMw : M.w = m.w := by rw [← e1]; rfl
            have hMh : M.h = m.h := by rw [← e1]; rfl
            replace hK := hK.call hb4
            replace hR := hR.below hb4
            obtain ⟨_, _, _, _, _, _⟩ := hR.three
            clear hC hP hM hwi e1 hL
            go_wp2_with fail
            obtain ⟨_, _, _, -, -, -⟩ := (hR.put3 (.int .i64 m.w) (.int .i64 m.h) (.slice p' M.cs.length c')).three
            have h3 := hrs.put3 (b := W.heap.size + 1 + 1) (.int .i64 m.w) (.int .i64 m.h) (.slice p' M.cs.length c') (fun g o c n h => by
              have := hup g o n c h
              omega)
            refine bodyPost_ret (v := .tuple #[.agg #[.int .i64 m.w, .int .i64 m.h, .slice p' M.cs.length c'], .int .i64 t, .int .i64 0]) (by simp [results, Tryd.results27, go_sem, *]) rfl ⟨_, by rw [hMw, hMh], h3, below_put3 hK.old (by omega) _ _ _⟩
          · have z2 : (q.a - t == 0) = false := beq_eq_false_iff_ne.2 t0
            rw [if_neg t0] at hL
            clear t0
            go_upto_region 10 with fail
            replace hK := hK.alloc [.int .i64 q.k, .int .i64 q.h, .int .i64 (q.a - t)] 28
            replace hr' := hr'.below (hb3 [.int .i64 q.k, .int .i64 q.h, .int .i64 (q.a - t)])
            clear hb3
            obtain ⟨hC, hR, hP, hM⟩ := hK.four
            obtain ⟨_, _, _, _, _, _⟩ := hM.three
            obtain ⟨_, _, _, _⟩ := hP.two
            obtain ⟨_, _, _, _, _, _⟩ := hC.three
            have hwi := dwith_any m s x y ⟨q.k, q.h, q.a - t⟩ _ hr' hi
            rw [hL] at e1
            dsimp only at hwi
            have hlt := hR.lt
            go_wp2_with fail
            ((with_reducible refine hwi.mono ?_); rintro e w4 ⟨s', rfl, hrs, hup, hb4⟩)
            rw [e1] at hrs
            obtain ⟨p', c', rfl, _, _⟩ := id hrs
            have hMw : M.w = m.w := by rw [← e1]; rfl
            have hMh : M.h = m.h := by rw [← e1]; rfl
            replace hK := hK.call hb4
            replace hR := hR.below hb4
            obtain ⟨_, _, _, _, _, _⟩ := hR.three
            clear hC hP hM hwi e1 hL
            go_wp2_with fail
            obtain ⟨_, _, _, -, -, -⟩ := (hR.put3 (.int .i64 m.w) (.int .i64 m.h) (.slice p' M.cs.length c')).three
            have h3 := hrs.put3 (b := W.heap.size + 1 + 1) (.int .i64 m.w) (.int .i64 m.h) (.slice p' M.cs.length c') (fun g o c n h => by
              have := hup g o n c h
              omega)
            refine bodyPost_ret (v := .tuple #[.agg #[.int .i64 m.w, .int .i64 m.h, .slice p' M.cs.length c'], .int .i64 t, .int .i64 0]) (by simp [results, Tryd.results27, go_sem, *]) rfl ⟨_, by rw [hMw, hMh], h3, below_put3 hK.old (by omega) _ _ _⟩
    · have d1 : decide (n < 1) = true := decide_eq_true (by omega)
      rw [if_neg (fun h => n1 h.2)] at he
      injection he with e1 he; injection he with e2 e3
      subst e1 e2 e3
      go_wp2_with fail
      ((with_reducible refine (dvalidm_b m s true _ hr' hv).mono ?_); rintro e w1 ⟨rfl, hb1⟩)
      replace hK := hK.call hb1
      replace hR := hR.below hb1
      obtain ⟨_, _, _, _, _, _⟩ := hR.three
      go_wp2_with fail
      obtain ⟨_, _, _, -, -, -⟩ := (hR.put3 (.int .i64 0) (.int .i64 0) (.slice none 0 0)).three
      refine bodyPost_ret (v := .tuple #[.agg #[.int .i64 0, .int .i64 0, .slice none 0 0], .int .i64 0, .int .i64 1]) (by simp [results, Tryd.results27, go_sem, *]) rfl ⟨_, rfl, RowAt.zero _, below_put3 hK.old (by omega) _ _ _⟩

set_option maxRecDepth 100000 in
set_option maxHeartbeats 2000000 in
/-- Equal slices of cells, of one length. -/
theorem deq_cells (ms ns : List C3) (L cm cn : Nat) (pm pn : Option Addr) (b : Bool) (W : World) (hL1 : ms.length = L) (hL2 : ns.length = L) (hm : L ≤ maxLen) (hr : RowAt W (.slice pm L cm) ms) (hr2 : RowAt W (.slice pn L cn) ns) (hb : Hid (b = decide (ms = ns))) :
    Calls Tryd.prog 52 #[.slice pm L cm, .slice pn L cn] W fun e w' => e = .returned (.bool b) ∧ Below W.heap.size W w' := by
  unfold maxLen at hm
  go_enter Tryd.func52, Tryd.ntmps52
  go_wp2_with fail
  go_loopw [13] (fun vi wr => ∃ i : Nat, vi = .int .i64 i ∧ i ≤ L ∧ Below W.heap.size W wr ∧ Hid (ms.take i = ns.take i)) (fun vi _ => L - (RowKit.intOf vi).toNat)
  case atStart => exact ⟨0, rfl, by omega, Below.refl _ _, hid rfl⟩
  case round =>
    obtain ⟨i, rfl, hi, hK, hG⟩ := hrel
    by_cases hlt : i < L
    · have d1 : (i : Int) < L := by omega
      have i0 : (0 : Int) ≤ i := by omega
      obtain ⟨g, o, c, e1, a1, a2, a3⟩ := row_cells hr hK (show i < ms.length by omega)
      obtain ⟨g', o', c', e2, b1, b2, b3⟩ := row_cells hr2 hK (show i < ns.length by omega)
      injection e1 with e1 k1 k2
      injection e2 with e2 k3 k4
      subst e1 e2
      clear k1 k2 k3 k4
      obtain ⟨q, hq⟩ : ∃ q, ms[i]'(show i < ms.length by omega) = q := ⟨_, rfl⟩
      obtain ⟨r, hr⟩ : ∃ q, ns[i]'(show i < ns.length by omega) = q := ⟨_, rfl⟩
      rw [hq] at a1 a2 a3
      rw [hr] at b1 b2 b3
      have hqq := hid hq
      have hrr := hid hr
      clear hq hr
      by_cases hqr : q = r
      · subst hqr
        have hN2 : Hid (ms.take (i + 1) = ns.take (i + 1)) := hid (by
          rw [List.take_succ_eq_append_getElem (show i < ms.length by omega), List.take_succ_eq_append_getElem (show i < ns.length by omega), hG.out, hqq.out, hrr.out])
        clear hG
        go_wp2_with fail
        go_quiet (fail)
        go_wp2_with fail
        go_roundw
        case rel => exact ⟨i + 1, by go_num, by omega, below_many hK _, hN2⟩
        case measure => simp [RowKit.intOf]; omega
      · have hbf : b = false := by
          rw [hb.out]
          refine decide_eq_false fun h => hqr ?_
          rw [← hqq.out, ← hrr.out]
          simp only [h]
        subst hbf
        clear hG
        obtain ⟨k1, h1, a1'⟩ := q
        obtain ⟨k2, h2, a2'⟩ := r
        dsimp only at a1 a2 a3 b1 b2 b3
        by_cases c1 : k1 = k2
        · subst c1
          by_cases c2 : h1 = h2
          · subst c2
            have c3 : (a1' == a2') = false := beq_eq_false_iff_ne.2 fun h => hqr (by rw [h])
            clear hqr
            go_wp2_with fail
            go_quiet (fail)
            go_wp2_with fail
            go_ret
            exact ⟨rfl, below_many hK _⟩
          · have c3 : (h1 == h2) = false := beq_eq_false_iff_ne.2 c2
            clear hqr
            go_wp2_with fail
            go_quiet (fail)
            go_wp2_with fail
            go_ret
            exact ⟨rfl, below_many hK _⟩
        · have c3 : (k1 == k2) = false := beq_eq_false_iff_ne.2 c1
          clear hqr
          go_wp2_with fail
          go_quiet (fail)
          go_wp2_with fail
          go_ret
          exact ⟨rfl, below_many hK _⟩
    · obtain rfl : i = L := by omega
      have hbt : b = true := by
        have e := hG.out
        rw [List.take_of_length_le (by omega), List.take_of_length_le (by omega)] at e
        rw [hb.out]
        exact decide_eq_true e
      subst hbt
      clear hG
      go_wp2_with fail
      go_ret
      exact ⟨rfl, hK⟩

set_option maxHeartbeats 1000000 in
theorem deq_b (ms ns : List C3) (s t : Value) (b : Bool) (W : World) (hr : RowAt W s ms) (hr2 : RowAt W t ns) (hb : Hid (b = decide (ms = ns))) :
    Calls Tryd.prog 52 #[s, t] W fun e w' => e = .returned (.bool b) ∧ Below W.heap.size W w' := by
  obtain ⟨pm, cm, rfl, hm, -⟩ := id hr
  obtain ⟨pn, cn, rfl, hn, -⟩ := id hr2
  by_cases hl : ms.length = ns.length
  · have h2 := hr2
    rw [← hl] at h2 ⊢
    exact deq_cells ms ns ms.length cm cn pm pn b W rfl hl.symm hm hr h2 hb
  · have hbf : b = false := by rw [hb.out]; exact decide_eq_false fun h => hl (by rw [h])
    subst hbf
    clear hb hr hr2
    unfold maxLen at hm hn
    generalize ms.length = L at *
    generalize ns.length = M at *
    have z : ((L : Int) == (M : Int)) = false := beq_eq_false_iff_ne.2 (by omega)
    go_enter Tryd.func52, Tryd.ntmps52
    go_wp2_with fail
    go_ret
    exact ⟨rfl, Below.refl _ _⟩

set_option maxHeartbeats 1000000 in
theorem dsame_b (m n : M3) (s t : Value) (b : Bool) (W : World) (hr : RowAt W s m.cs) (hr2 : RowAt W t n.cs) (e : Hid (b = samev m n)) :
    Calls Tryd.prog 29 #[.agg #[.int .i64 m.w, .int .i64 m.h, s], .agg #[.int .i64 n.w, .int .i64 n.h, t]] W fun e w' => e = .returned (.bool b) ∧ Below W.heap.size W w' := by
  have hT := Held2.start W [.int .i64 m.w, .int .i64 m.h, s] [.int .i64 n.w, .int .i64 n.h, t] 24 24
  have hr' := hr.below hT.old
  have hr2' := hr2.below hT.old
  have hb := e.out
  unfold samev at hb
  clear e
  by_cases h1 : m.w = n.w
  · have z1 : (m.w == n.w) = true := by rw [h1]; exact beq_self_eq_true _
    by_cases h2 : m.h = n.h
    · have z2 : (m.h == n.h) = true := by rw [h2]; exact beq_self_eq_true _
      have hb' : Hid (b = decide (m.cs = n.cs)) := hid (by rw [hb]; exact decide_eq_decide.2 ⟨fun h => h.2.2, fun h => ⟨h1, h2, h⟩⟩)
      clear hb h1 h2
      go_enter Tryd.func29, Tryd.ntmps29
      go_wp2_with fail
      ((with_reducible refine (deq_b m.cs n.cs s t b _ hr' hr2' hb').mono ?_); rintro e w1 ⟨rfl, hb1⟩)
      go_wp2_with fail
      go_ret
      exact ⟨rfl, below_call hT.old hb1⟩
    · have z2 : (m.h == n.h) = false := beq_eq_false_iff_ne.2 h2
      have hbf : b = false := by rw [hb]; exact decide_eq_false fun h => h2 h.2.1
      subst hbf
      clear hb h1 h2
      go_enter Tryd.func29, Tryd.ntmps29
      go_wp2_with fail
      go_ret
      exact ⟨rfl, hT.old⟩
  · have z1 : (m.w == n.w) = false := beq_eq_false_iff_ne.2 h1
    have hbf : b = false := by rw [hb]; exact decide_eq_false fun h => h1 h.1
    subst hbf
    clear hb h1
    go_enter Tryd.func29, Tryd.ntmps29
    go_wp2_with fail
    go_ret
    exact ⟨rfl, hT.old⟩

end Go.Proofs.YtlpccjklgbfpaaaDoor
