/-
  What the reference of terrain answers: Take.
-/
import Derived.Test.YtlpccjklgbfpaaaDoorTerI
namespace Go.Proofs.YtlpccjklgbfpaaaDoor
open Go.RowKit Go.Lib

/-- The cells of a valid map. -/
theorem get_valid {m : M3} {x y : Int} (hv : validm m = true) : 0 ≤ (getv m x y).a ∧ (getv m x y).a ≤ 1000000 := by
  unfold getv
  split
  · next hi =>
    obtain ⟨n, hn, _, e⟩ := get_at hi
    unfold getv at e
    rw [if_pos hi] at e
    rw [e]
    unfold validm at hv
    rw [Bool.and_eq_true, List.all_eq_true] at hv
    have h := hv.2 _ (List.getElem_mem hn)
    unfold validc at h
    rw [Bool.and_eq_true, decide_eq_true_iff] at h
    exact ⟨h.1.2.2.2.2.1, h.1.2.2.2.2.2⟩
  · exact ⟨by decide, by decide⟩

set_option maxHeartbeats 4000000 in
theorem rtake_b (m : M3) (s : Value) (x y n : Int) (W : World) (M : M3) (k er : Int) (hr : RowAt W s m.cs) (e : Hid (takev m x y n = (M, k, er))) :
    Calls Tryd.prog 28 #[.agg #[.int .i64 m.w, .int .i64 m.h, s], .agg #[.int .i64 x, .int .i64 y], .int .i64 n] W fun e w' => ∃ s', e = .returned (.tuple #[.agg #[.int .i64 M.w, .int .i64 M.h, s'], .int .i64 k, .int .i64 er]) ∧ RowAt w' s' M.cs ∧ Below W.heap.size W w' := by
  have hK := (((Keep.nil W).alloc [.int .i64 m.w, .int .i64 m.h, s] 24).alloc [.int .i64 x, .int .i64 y] 26).alloc [.int .i64 0, .int .i64 0, .slice none 0 0] 24
  have hr' := hr.below hK.old
  simp only [World.size_alloc] at hK
  obtain ⟨v, hv⟩ : ∃ v, Hid (v = validm m) := ⟨_, hid rfl⟩
  obtain ⟨i, hi⟩ : ∃ v, Hid (v = insidev m x y) := ⟨_, hid rfl⟩
  obtain ⟨q, hq⟩ : ∃ v, Hid (v = getv m x y) := ⟨_, hid rfl⟩
  have he : (if v = true ∧ 1 ≤ n then (if i = true ∧ q.a ≠ 0 then (withv m x y (lessv q n), min n q.a, 0) else (M3.zero, 0, 8)) else (M3.zero, 0, 1)) = (M, k, er) := by rw [hv.out, hi.out, hq.out]; exact e.out
  clear e
  go_enter Tryd.func28, Tryd.ntmps28
  go_upto_region 1 with fail
  generalize (((W.alloc (.cells [Value.int .i64 m.w, .int .i64 m.h, s].toArray 24)).alloc (.cells [Value.int .i64 x, .int .i64 y].toArray 26)).alloc (.cells [Value.int .i64 0, .int .i64 0, .slice none 0 0].toArray 24)) = V at *
  obtain ⟨hR, hP, hM⟩ := hK.three
  obtain ⟨_, _, _, _, _, _⟩ := hM.three
  cases v with
  | false =>
    rw [if_neg (by simp)] at he
    injection he with e1 he; injection he with e2 e3
    subst e1 e2 e3
    go_wp2_with fail
    ((with_reducible refine (rvalidm_c m s false _ hr' hv).mono ?_); rintro e w1 ⟨rfl, hb1⟩)
    replace hK := hK.call hb1
    replace hR := hR.below hb1
    obtain ⟨_, _, _, _, _, _⟩ := hR.three
    go_wp2_with fail
    obtain ⟨_, _, _, -, -, -⟩ := (hR.put3 (.int .i64 0) (.int .i64 0) (.slice none 0 0)).three
    refine bodyPost_ret (v := .tuple #[.agg #[.int .i64 0, .int .i64 0, .slice none 0 0], .int .i64 0, .int .i64 1]) (by simp [results, Tryd.results28, go_sem, *]) rfl ⟨_, rfl, RowAt.zero _, below_put3 hK.old (by omega) _ _ _⟩
  | true =>
    by_cases n1 : 1 ≤ n
    · have d1 : decide (n < 1) = false := decide_eq_false (by omega)
      rw [if_pos ⟨rfl, n1⟩] at he
      have ha := get_valid (x := x) (y := y) hv.out.symm
      rw [← hq.out] at ha
      go_wp2_with fail
      ((with_reducible refine (rvalidm_c m s true _ hr' hv).mono ?_); rintro e w1 ⟨rfl, hb1⟩)
      replace hK := hK.call hb1
      replace hr' := hr'.below hb1
      clear hR hP hM hb1
      obtain ⟨hR, hP, hM⟩ := hK.three
      obtain ⟨_, _, _, _, _, _⟩ := hM.three
      obtain ⟨_, _, _, _⟩ := hP.two
      go_wp2_with fail
      ((with_reducible refine (rget_b m s x y q i _ hr' hi hq).mono ?_); rintro e w2 ⟨rfl, hb2⟩)
      replace hK := hK.call hb2
      replace hr' := hr'.below hb2
      clear hR hP hM hb2
      obtain ⟨hR, hP, hM⟩ := hK.three
      cases i with
      | false =>
        rw [if_neg (by simp)] at he
        injection he with e1 he; injection he with e2 e3
        subst e1 e2 e3
        replace hR := hR.alloc (.cells [Value.int .i64 q.k, .int .i64 q.h, .int .i64 q.a].toArray 28)
        replace hK := hK.other (.cells [Value.int .i64 q.k, .int .i64 q.h, .int .i64 q.a].toArray 28)
        obtain ⟨_, _, _, _, _, _⟩ := hR.three
        go_wp2_with fail
        obtain ⟨_, _, _, -, -, -⟩ := (hR.put3 (.int .i64 0) (.int .i64 0) (.slice none 0 0)).three
        refine bodyPost_ret (v := .tuple #[.agg #[.int .i64 0, .int .i64 0, .slice none 0 0], .int .i64 0, .int .i64 8]) (by simp [results, Tryd.results28, go_sem, *]) rfl ⟨_, rfl, RowAt.zero _, below_put3 hK.old (by omega) _ _ _⟩
      | true =>
        by_cases a0 : q.a = 0
        · rw [if_neg (fun h => h.2 a0)] at he
          injection he with e1 he; injection he with e2 e3
          subst e1 e2 e3
          have hC := Blk.new w2 [.int .i64 q.k, .int .i64 q.h, .int .i64 q.a] 28
          replace hR := hR.alloc (.cells [Value.int .i64 q.k, .int .i64 q.h, .int .i64 q.a].toArray 28)
          replace hK := hK.other (.cells [Value.int .i64 q.k, .int .i64 q.h, .int .i64 q.a].toArray 28)
          obtain ⟨_, _, _, _, _, _⟩ := hR.three
          obtain ⟨_, _, _, _, _, _⟩ := hC.three
          have z : (q.a == 0) = true := by rw [a0]; rfl
          clear a0
          go_wp2_with fail
          obtain ⟨_, _, _, -, -, -⟩ := (hR.put3 (.int .i64 0) (.int .i64 0) (.slice none 0 0)).three
          refine bodyPost_ret (v := .tuple #[.agg #[.int .i64 0, .int .i64 0, .slice none 0 0], .int .i64 0, .int .i64 8]) (by simp [results, Tryd.results28, go_sem, *]) rfl ⟨_, rfl, RowAt.zero _, below_put3 hK.old (by omega) _ _ _⟩
        · rw [if_pos ⟨rfl, a0⟩] at he
          injection he with e1 he; injection he with e2 e3
          have z : (q.a == 0) = false := beq_eq_false_iff_ne.2 a0
          have hL : lessv q n = ⟨if q.a - min n q.a = 0 then 1 else q.k, q.h, q.a - min n q.a⟩ := rfl
          obtain ⟨t, ht⟩ : ∃ t, min n q.a = t := ⟨_, rfl⟩
          rw [ht] at e2 hL
          subst e2 e3
          have hw : IntKind.i64.wrap (q.a - t) = q.a - t := IntWalk.i64_in _ (by omega)
          have hb3 := fun l => (Below.refl w2.heap.size w2).alloc (Nat.le_refl _) (.cells (List.toArray l) 28)
          clear hR hP hM
          have hC := Blk.new w2 [.int .i64 q.k, .int .i64 q.h, .int .i64 q.a] 28
          obtain ⟨_, _, _, _, _, _⟩ := hC.three
          clear hC a0
          by_cases t0 : q.a - t = 0
          · have z2 : (q.a - t == 0) = true := by rw [t0]; rfl
            rw [if_pos t0] at hL
            clear t0
            go_upto_region 10 with fail
            replace hK := hK.alloc [.int .i64 1, .int .i64 q.h, .int .i64 (q.a - t)] 28
            replace hr' := hr'.below (hb3 [.int .i64 1, .int .i64 q.h, .int .i64 (q.a - t)])
            clear hb3
            obtain ⟨hC, hR, hP, hM⟩ := hK.four
            obtain ⟨_, _, _, _, _, _⟩ := hM.three
            obtain ⟨_, _, _, _⟩ := hP.two
            obtain ⟨_, _, _, _, _, _⟩ := hC.three
            have hwi := rwith_any m s x y ⟨1, q.h, q.a - t⟩ _ hr' hi
            rw [hL] at e1
            dsimp only at hwi
            have hlt := hR.lt
            go_wp2_with fail
            ((with_reducible refine hwi.mono ?_); rintro e w4 ⟨s', rfl, hrs, hup, hb4⟩)
            rw [e1] at hrs
            obtain ⟨p', c', rfl, _, _⟩ := id hrs
            have hMw : M.w = m.w := by rw [← e1]; rfl
            have hMh : M.h = m.h := by rw [← e1]; rfl
            replace hK := hK.call hb4
            replace hR := hR.below hb4
            obtain ⟨_, _, _, _, _, _⟩ := hR.three
            clear hC hP hM hwi e1 hL
            go_wp2_with fail
            obtain ⟨_, _, _, -, -, -⟩ := (hR.put3 (.int .i64 m.w) (.int .i64 m.h) (.slice p' M.cs.length c')).three
            have h3 := hrs.put3 (b := W.heap.size + 1 + 1) (.int .i64 m.w) (.int .i64 m.h) (.slice p' M.cs.length c') (fun g o c n h => by
              have := hup g o n c h
              omega)
            refine bodyPost_ret (v := .tuple #[.agg #[.int .i64 m.w, .int .i64 m.h, .slice p' M.cs.length c'], .int .i64 t, .int .i64 0]) (by simp [results, Tryd.results28, go_sem, *]) rfl ⟨_, by rw [hMw, hMh], h3, below_put3 hK.old (by omega) _ _ _⟩
          · have z2 : (q.a - t == 0) = false := beq_eq_false_iff_ne.2 t0
            rw [if_neg t0] at hL
            clear t0
            go_upto_region 10 with fail
            replace hK := hK.alloc [.int .i64 q.k, .int .i64 q.h, .int .i64 (q.a - t)] 28
            replace hr' := hr'.below (hb3 [.int .i64 q.k, .int .i64 q.h, .int .i64 (q.a - t)])
            clear hb3
            obtain ⟨hC, hR, hP, hM⟩ := hK.four
            obtain ⟨_, _, _, _, _, _⟩ := hM.three
            obtain ⟨_, _, _, _⟩ := hP.two
            obtain ⟨_, _, _, _, _, _⟩ := hC.three
            have hwi := rwith_any m s x y ⟨q.k, q.h, q.a - t⟩ _ hr' hi
            rw [hL] at e1
            dsimp only at hwi
            have hlt := hR.lt
            go_wp2_with fail
            ((with_reducible refine hwi.mono ?_); rintro e w4 ⟨s', rfl, hrs, hup, hb4⟩)
            rw [e1] at hrs
            obtain ⟨p', c', rfl, _, _⟩ := id hrs
            have hMw : M.w = m.w := by rw [← e1]; rfl
            have hMh : M.h = m.h := by rw [← e1]; rfl
            replace hK := hK.call hb4
            replace hR := hR.below hb4
            obtain ⟨_, _, _, _, _, _⟩ := hR.three
            clear hC hP hM hwi e1 hL
            go_wp2_with fail
            obtain ⟨_, _, _, -, -, -⟩ := (hR.put3 (.int .i64 m.w) (.int .i64 m.h) (.slice p' M.cs.length c')).three
            have h3 := hrs.put3 (b := W.heap.size + 1 + 1) (.int .i64 m.w) (.int .i64 m.h) (.slice p' M.cs.length c') (fun g o c n h => by
              have := hup g o n c h
              omega)
            refine bodyPost_ret (v := .tuple #[.agg #[.int .i64 m.w, .int .i64 m.h, .slice p' M.cs.length c'], .int .i64 t, .int .i64 0]) (by simp [results, Tryd.results28, go_sem, *]) rfl ⟨_, by rw [hMw, hMh], h3, below_put3 hK.old (by omega) _ _ _⟩
    · have d1 : decide (n < 1) = true := decide_eq_true (by omega)
      rw [if_neg (fun h => n1 h.2)] at he
      injection he with e1 he; injection he with e2 e3
      subst e1 e2 e3
      go_wp2_with fail
      ((with_reducible refine (rvalidm_c m s true _ hr' hv).mono ?_); rintro e w1 ⟨rfl, hb1⟩)
      replace hK := hK.call hb1
      replace hR := hR.below hb1
      obtain ⟨_, _, _, _, _, _⟩ := hR.three
      go_wp2_with fail
      obtain ⟨_, _, _, -, -, -⟩ := (hR.put3 (.int .i64 0) (.int .i64 0) (.slice none 0 0)).three
      refine bodyPost_ret (v := .tuple #[.agg #[.int .i64 0, .int .i64 0, .slice none 0 0], .int .i64 0, .int .i64 1]) (by simp [results, Tryd.results28, go_sem, *]) rfl ⟨_, rfl, RowAt.zero _, below_put3 hK.old (by omega) _ _ _⟩

end Go.Proofs.YtlpccjklgbfpaaaDoor
