/-
  What the functions of terrain answer, as landed at 6373918: a map with another cell, Set.
-/
import Derived.Test.YtlpccjklgbfpaaaDoorTerLandB
import Derived.Test.YtlpccjklgbfpaaaDoorTerJ
namespace Go.Proofs.YtlpccjklgbfpaaaDoor
open Go.RowKit Go.Lib

/-- A store into a held block. -/
theorem Keep.put {w W : World} {L : List (Nat × List Value × TypeId)} (h : Keep w W L) (b i : Nat) (x : Value) (hb : w.heap.size ≤ b) : Keep w (W.setCell ⟨b, i, none⟩ x) (L.map fun e => if e.1 = b then (e.1, e.2.1.set i x, e.2.2) else e) :=
  ⟨fun e he => by
    obtain ⟨d, hd, rfl⟩ := List.mem_map.1 he
    have k := h.blks d hd
    obtain ⟨n, us, t⟩ := d
    dsimp only at k ⊢
    split
    · next e1 =>
      subst e1
      exact k.set i x
    · next e1 => exact k.other ⟨b, i, none⟩ x e1, h.old.setCell hb x⟩

set_option maxHeartbeats 2000000 in
theorem dclone_b (cs : List C3) (s : Value) (W : World) (hr : RowAt W s cs) (h1 : 1 ≤ cs.length) (hsm : cs.length ≤ 100000) :
    Calls Tryd.prog 59 #[s] W fun e w' => ∃ g cap, e = .returned (.slice (some ⟨g, 0, none⟩) cs.length cap) ∧ w'.ownsRow W.heap.size 28 3 (.slice (some ⟨g, 0, none⟩) cs.length cap) cs.length (ccells cs) ∧ Below W.heap.size W w' := by
  obtain ⟨i0, hi, hz0, hz1, hz2⟩ := info_cut infoCell
  obtain ⟨p, c, rfl, hm, hc⟩ := id hr
  obtain ⟨g, o, rfl, hat⟩ := hc h1
  have hat' := fun (V : World) (hV : Below W.heap.size W V) => RowAt.news (W := V) (g := g) (o := o) (cs := cs) fun i h => by
    obtain ⟨a, b, d⟩ := hat i h
    have k : g < W.heap.size := World.block_lt_of_cell? W _ a
    exact ⟨(hV.cell (p := ⟨g, o + i * 3, none⟩) k).trans a, (hV.cell (p := ⟨g, o + i * 3 + 1, none⟩) k).trans b, (hV.cell (p := ⟨g, o + i * 3 + 2, none⟩) k).trans d⟩
  clear hat hc hr
  have q22 : ∀ (w : World) (a : Option Addr) (n c n' c' : Nat), (binOp .eql 22 (.slice a n c) (.slice none n' c')).run Tryd.prog w = .ok (.bool a.isNone) w := fun w a n c n' c' => Lib.run_eql_slice_nil w _ _ a n c n' c' Tryd.underlying22
  have hown0 := World.ownsRow_made (e := 28) (base := W.heap.size) (size := 3) W #[] 0 (Nat.le_refl _) (by unfold maxLen; omega) rfl
  go_enter Tryd.func59, Tryd.ntmps59
  go_wp2_with (at_builtin; refine wpList_append_own _ rfl _ _ 22 rfl W.heap.size 28 i0 (.agg #[.int .i64 0, .int .i64 0, .int .i64 0]) 3 24 Tryd.underlying22 hi hz0 hz1 hz2 rfl (by decide) _ _ _ rfl hown0 ⟨g, o, none⟩ cs.length c (ccells cs) rfl (ccells_len _) (hat' _ ((Below.refl _ _).alloc (Nat.le_refl _) _)) (cs_one _) (by unfold maxLen; omega) (by omega) (by first | (simp; done) | (simp; omega)) ?_)
  intro v' X hown hg _
  obtain ⟨g3, cap, rfl⟩ := own_some hown (by omega)
  go_wp2_with fail
  go_ret
  exact ⟨g3, cap, by simp, by simpa using hown, ((Below.refl _ W).alloc (Nat.le_refl _) _).grown hg (by simp) (by intro k hk; simp [Value.ownBlock] at hk; omega)⟩

set_option maxHeartbeats 2000000 in
theorem dwith_any (m : M3) (s : Value) (x y : Int) (q : C3) (W : World) (hr : RowAt W s m.cs) (e : Hid (true = insidev m x y)) :
    Calls Tryd.prog 36 #[.agg #[.int .i64 m.w, .int .i64 m.h, s], .agg #[.int .i64 x, .int .i64 y], .agg #[.int .i64 q.k, .int .i64 q.h, .int .i64 q.a]] W fun e w' => ∃ s', e = .returned (.agg #[.int .i64 m.w, .int .i64 m.h, s']) ∧ RowAt w' s' (withv m x y q).cs ∧ Upon W.heap.size s' ∧ Below W.heap.size W w' := by
  obtain ⟨n, hn, hix, _⟩ := get_at e.out.symm
  have n1 : (0 : Int) ≤ n := by omega
  have n2 : (n : Int) < m.cs.length := by omega
  have hsm : m.cs.length ≤ 1024 := by
    obtain ⟨X, Y, a, b, _, _, _, _, _, _, hX, hY, hxy, _, _⟩ := inside_at e.out.symm
    rw [hxy]
    exact Nat.mul_le_mul hX hY
  have hK := ((((Keep.nil W).alloc [.int .i64 m.w, .int .i64 m.h, s] 24).alloc [.int .i64 x, .int .i64 y] 26).alloc [.int .i64 q.k, .int .i64 q.h, .int .i64 q.a] 28).alloc [.int .i64 0, .int .i64 0, .slice none 0 0] 24
  have hr' := hr.below hK.old
  obtain ⟨p, c, rfl, hm, _⟩ := id hr
  simp only [World.size_alloc] at hK
  have hcs : (withv m x y q).cs = m.cs.set n q := by unfold withv; rw [← hix.out, Int.toNat_natCast]
  rw [hcs]
  clear hcs
  go_enter Tryd.func36, Tryd.ntmps36
  go_upto_region 1 with fail
  have hsz : ((((W.alloc (.cells [Value.int .i64 m.w, .int .i64 m.h, .slice p m.cs.length c].toArray 24)).alloc (.cells [Value.int .i64 x, .int .i64 y].toArray 26)).alloc (.cells [Value.int .i64 q.k, .int .i64 q.h, .int .i64 q.a].toArray 28)).alloc (.cells [Value.int .i64 0, .int .i64 0, .slice none 0 0].toArray 24)).heap.size = W.heap.size + 1 + 1 + 1 + 1 := by simp
  generalize ((((W.alloc (.cells [Value.int .i64 m.w, .int .i64 m.h, .slice p m.cs.length c].toArray 24)).alloc (.cells [Value.int .i64 x, .int .i64 y].toArray 26)).alloc (.cells [Value.int .i64 q.k, .int .i64 q.h, .int .i64 q.a].toArray 28)).alloc (.cells [Value.int .i64 0, .int .i64 0, .slice none 0 0].toArray 24)) = V at *
  obtain ⟨hR, hC, hP, hM⟩ := hK.four
  obtain ⟨_, _, _, _, _, _⟩ := hM.three
  go_wp2_with fail
  ((with_reducible refine (dclone_b m.cs _ _ hr' (by omega) (by omega)).mono ?_); rintro e X ⟨g3, cap, rfl, hown, hb1⟩)
  rw [hsz] at hown hb1
  replace hK := hK.call (by rw [hsz]; exact hb1)
  have hg3 := hown.lt g3 rfl
  have hX := hb1.size
  clear hR hC hP hM hr' hsz hb1
  obtain ⟨hR, hC, hP, hM⟩ := hK.four
  obtain ⟨_, _, _, _, _, _⟩ := hM.three
  go_upto_region 2 with fail
  replace hK := hK.put W.heap.size 2 (.slice (some ⟨g3, 0, none⟩) m.cs.length cap) (Nat.le_refl _)
  simp only [List.map_cons, List.map_nil, if_neg (show ¬ W.heap.size + 1 + 1 + 1 = W.heap.size by omega), if_neg (show ¬ W.heap.size + 1 + 1 = W.heap.size by omega), if_neg (show ¬ W.heap.size + 1 = W.heap.size by omega), if_true, List.set_cons_succ, List.set_cons_zero] at hK
  replace hown := own_other hown ⟨W.heap.size, 2, none⟩ (.slice (some ⟨g3, 0, none⟩) m.cs.length cap) (fun j hj => by
    simp only [Value.ownBlock, Option.some.injEq] at hj
    show j ≠ W.heap.size
    omega)
  have hX2 : (X.setCell ⟨W.heap.size, 2, none⟩ (.slice (some ⟨g3, 0, none⟩) m.cs.length cap)).heap.size = X.heap.size := by simp
  generalize X.setCell ⟨W.heap.size, 2, none⟩ (.slice (some ⟨g3, 0, none⟩) m.cs.length cap) = Y at *
  rw [← hX2] at hX
  clear hR hC hP hM
  replace hK := hK.drew
  replace hown := own_drew hown
  obtain ⟨hR, hC, hP, hM⟩ := hK.four
  have hq := Below.refl (W.heap.size + 1 + 1 + 1 + 1) Y.drew
  have hf := own_three hown hn
  go_wp2_with fail
  go_region_held3 (fun w' => w'.cell? ⟨W.heap.size, 0, none⟩ = some (.int .i64 m.w) ∧ w'.cell? ⟨W.heap.size, 1, none⟩ = some (.int .i64 m.h) ∧ w'.cell? ⟨W.heap.size, 2, none⟩ = some (.slice (some ⟨g3, 0, none⟩) m.cs.length cap) ∧ w'.cell? ⟨W.heap.size + 1, 0, none⟩ = some (.int .i64 x) ∧ w'.cell? ⟨W.heap.size + 1, 1, none⟩ = some (.int .i64 y) ∧ w'.cell? ⟨W.heap.size + 1 + 1, 0, none⟩ = some (.int .i64 q.k) ∧ w'.cell? ⟨W.heap.size + 1 + 1, 1, none⟩ = some (.int .i64 q.h) ∧ w'.cell? ⟨W.heap.size + 1 + 1, 2, none⟩ = some (.int .i64 q.a))
    (first | exact with_keep hM hP hC (by omega) (by omega) (by omega) hq | exact with_keep hM hP hC (by omega) (by omega) (show W.heap.size + 1 + 1 < W.heap.size + 1 + 1 + 1 + 1 by omega) (((hq.setCell (by simp; omega) _).setCell (by simp; omega) _).setCell (by simp; omega) _))
    (first | (go_at_call 32; with_reducible refine (dindex_b _ x y n _ hix).mono ?_; rintro e w' ⟨rfl, hb⟩; replace hq := hq.trans (hb.mono (by simp; omega)); replace hK := hK.call hb; replace hown := own_below hown hb; clear hb; replace hf := own_three hown hn; obtain ⟨_, _, _, _, _, _⟩ := hf))
  have g3lo := hg3.1
  replace hK := ((hK.store ⟨g3, n * 3, none⟩ (.int .i64 q.k) (by intro e he; simp only [List.mem_cons, List.not_mem_nil, or_false] at he; rcases he with rfl | rfl | rfl | rfl <;> simp <;> omega) (by simp; omega)).store ⟨g3, n * 3 + 1, none⟩ (.int .i64 q.h) (by intro e he; simp only [List.mem_cons, List.not_mem_nil, or_false] at he; rcases he with rfl | rfl | rfl | rfl <;> simp <;> omega) (by simp; omega)).store ⟨g3, n * 3 + 2, none⟩ (.int .i64 q.a) (by intro e he; simp only [List.mem_cons, List.not_mem_nil, or_false] at he; rcases he with rfl | rfl | rfl | rfl <;> simp <;> omega) (by simp; omega)
  replace hown := (((hown.stored (n * 3) (.int .i64 q.k)).1.stored (n * 3 + 1) (.int .i64 q.h)).1.stored (n * 3 + 2) (.int .i64 q.a)).1
  rw [ccells_set _ _ _ hn] at hown
  clear hM hP hC hR hq
  generalize ((w'.setCell ⟨g3, n * 3, none⟩ (.int .i64 q.k)).setCell ⟨g3, n * 3 + 1, none⟩ (.int .i64 q.h)).setCell ⟨g3, n * 3 + 2, none⟩ (.int .i64 q.a) = Z at *
  obtain ⟨hR, hC, hP, hM⟩ := hK.four
  obtain ⟨_, _, _, _, _, _⟩ := hR.three
  obtain ⟨_, _, _, _, _, _⟩ := hM.three
  go_wp2_with fail
  have hR2 := ((hR.set 0 (.int .i64 m.w)).set 1 (.int .i64 m.h)).set 2 (.slice (some ⟨g3, 0, none⟩) m.cs.length cap)
  obtain ⟨_, _, _, -, -, -⟩ := hR2.three
  refine bodyPost_ret (v := .agg #[.int .i64 m.w, .int .i64 m.h, .slice (some ⟨g3, 0, none⟩) m.cs.length cap]) (by simp [results, Tryd.results36, go_sem, *]) rfl ⟨_, rfl, ?_, fun g' o' n' c' h => by injection h with h _ _; injection h with h; injection h with h _ _; omega, ?_⟩
  · have ne : ∀ i j, (Value.slice (some ⟨g3, 0, none⟩) m.cs.length cap).ownBlock = some j → j ≠ (⟨W.heap.size + 1 + 1 + 1, i, none⟩ : Addr).block := fun i j hj => by
      simp only [Value.ownBlock, Option.some.injEq] at hj
      show j ≠ W.heap.size + 1 + 1 + 1
      omega
    have hown2 := own_other (own_other (own_other hown ⟨W.heap.size + 1 + 1 + 1, 0, none⟩ (.int .i64 m.w) (ne 0)) ⟨W.heap.size + 1 + 1 + 1, 1, none⟩ (.int .i64 m.h) (ne 1)) ⟨W.heap.size + 1 + 1 + 1, 2, none⟩ (.slice (some ⟨g3, 0, none⟩) m.cs.length cap) (ne 2)
    have hlen : m.cs.length = (m.cs.set n q).length := by simp
    rw [hlen] at hown2 ⊢
    exact RowAt.own hown2 (by rw [← hlen]; exact hm)
  · exact ((hK.old.setCell (by simp; omega) _).setCell (by simp; omega) _).setCell (by simp; omega) _

set_option maxHeartbeats 2000000 in
theorem dset_b (m : M3) (s : Value) (x y : Int) (q : C3) (W : World) (M : M3) (er : Int) (hr : RowAt W s m.cs) (e : Hid (setv m x y q = (M, er))) :
    Calls Tryd.prog 14 #[.agg #[.int .i64 m.w, .int .i64 m.h, s], .agg #[.int .i64 x, .int .i64 y], .agg #[.int .i64 q.k, .int .i64 q.h, .int .i64 q.a]] W fun e w' => ∃ s', e = .returned (.tuple #[.agg #[.int .i64 M.w, .int .i64 M.h, s'], .int .i64 er]) ∧ RowAt w' s' M.cs ∧ Below W.heap.size W w' := by
  have hK := ((((Keep.nil W).alloc [.int .i64 m.w, .int .i64 m.h, s] 24).alloc [.int .i64 x, .int .i64 y] 26).alloc [.int .i64 q.k, .int .i64 q.h, .int .i64 q.a] 28).alloc [.int .i64 0, .int .i64 0, .slice none 0 0] 24
  have hr' := hr.below hK.old
  simp only [World.size_alloc] at hK
  obtain ⟨v, hv⟩ : ∃ v, Hid (v = validm m) := ⟨_, hid rfl⟩
  obtain ⟨u, hu⟩ : ∃ v, Hid (v = validc q) := ⟨_, hid rfl⟩
  obtain ⟨i, hi⟩ : ∃ v, Hid (v = insidev m x y) := ⟨_, hid rfl⟩
  have he : (if v = true ∧ u = true then (if i = true then (withv m x y q, 0) else (M3.zero, 8)) else (M3.zero, 1)) = (M, er) := by rw [hv.out, hu.out, hi.out]; exact e.out
  clear e
  go_enter Tryd.func14, Tryd.ntmps14
  go_upto_region 1 with fail
  generalize ((((W.alloc (.cells [Value.int .i64 m.w, .int .i64 m.h, s].toArray 24)).alloc (.cells [Value.int .i64 x, .int .i64 y].toArray 26)).alloc (.cells [Value.int .i64 q.k, .int .i64 q.h, .int .i64 q.a].toArray 28)).alloc (.cells [Value.int .i64 0, .int .i64 0, .slice none 0 0].toArray 24)) = V at *
  obtain ⟨hR, hC, hP, hM⟩ := hK.four
  obtain ⟨_, _, _, _, _, _⟩ := hM.three
  cases v with
  | false =>
    rw [if_neg (by simp)] at he
    injection he with e1 e2
    subst e1 e2
    go_wp2_with fail
    ((with_reducible refine (dvalidm_b m s false _ hr' hv).mono ?_); rintro e w1 ⟨rfl, hb1⟩)
    replace hK := hK.call hb1
    replace hR := hR.below hb1
    obtain ⟨_, _, _, _, _, _⟩ := hR.three
    go_wp2_with fail
    obtain ⟨_, _, _, -, -, -⟩ := (hR.put3 (.int .i64 0) (.int .i64 0) (.slice none 0 0)).three
    refine bodyPost_ret (v := .tuple #[.agg #[.int .i64 0, .int .i64 0, .slice none 0 0], .int .i64 1]) (by simp [results, Tryd.results14, go_sem, *]) rfl ⟨_, rfl, RowAt.zero _, below_put3 hK.old (by omega) _ _ _⟩
  | true =>
    cases u with
    | false =>
      rw [if_neg (by simp)] at he
      injection he with e1 e2
      subst e1 e2
      go_wp2_with fail
      ((with_reducible refine (dvalidm_b m s true _ hr' hv).mono ?_); rintro e w1 ⟨rfl, hb1⟩)
      replace hK := hK.call hb1
      replace hC := hC.below hb1
      obtain ⟨_, _, _, _, _, _⟩ := hC.three
      go_wp2_with fail
      ((with_reducible refine (dinvalid_b q false _ hu).mono ?_); rintro e w2 ⟨rfl, hb2⟩)
      replace hK := hK.call hb2
      obtain ⟨hR, _, _, _⟩ := hK.four
      obtain ⟨_, _, _, _, _, _⟩ := hR.three
      go_wp2_with fail
      obtain ⟨_, _, _, -, -, -⟩ := (hR.put3 (.int .i64 0) (.int .i64 0) (.slice none 0 0)).three
      refine bodyPost_ret (v := .tuple #[.agg #[.int .i64 0, .int .i64 0, .slice none 0 0], .int .i64 1]) (by simp [results, Tryd.results14, go_sem, *]) rfl ⟨_, rfl, RowAt.zero _, below_put3 hK.old (by omega) _ _ _⟩
    | true =>
      rw [if_pos ⟨rfl, rfl⟩] at he
      go_wp2_with fail
      ((with_reducible refine (dvalidm_b m s true _ hr' hv).mono ?_); rintro e w1 ⟨rfl, hb1⟩)
      replace hK := hK.call hb1
      replace hr' := hr'.below hb1
      replace hC := hC.below hb1
      obtain ⟨_, _, _, _, _, _⟩ := hC.three
      go_wp2_with fail
      ((with_reducible refine (dinvalid_b q true _ hu).mono ?_); rintro e w2 ⟨rfl, hb2⟩)
      replace hK := hK.call hb2
      replace hr' := hr'.below hb2
      clear hC hR hP hM hb1 hb2
      obtain ⟨hR, hC, hP, hM⟩ := hK.four
      obtain ⟨_, _, _, _, _, _⟩ := hM.three
      obtain ⟨_, _, _, _⟩ := hP.two
      cases i with
      | false =>
        rw [if_neg (by simp)] at he
        injection he with e1 e2
        subst e1 e2
        go_wp2_with fail
        ((with_reducible refine (dinside_b m s x y false _ hr' hi).mono ?_); rintro e w3 ⟨rfl, hb3⟩)
        replace hK := hK.call hb3
        replace hR := hR.below hb3
        obtain ⟨_, _, _, _, _, _⟩ := hR.three
        go_wp2_with fail
        obtain ⟨_, _, _, -, -, -⟩ := (hR.put3 (.int .i64 0) (.int .i64 0) (.slice none 0 0)).three
        refine bodyPost_ret (v := .tuple #[.agg #[.int .i64 0, .int .i64 0, .slice none 0 0], .int .i64 8]) (by simp [results, Tryd.results14, go_sem, *]) rfl ⟨_, rfl, RowAt.zero _, below_put3 hK.old (by omega) _ _ _⟩
      | true =>
        rw [if_pos rfl] at he
        injection he with e1 e2
        subst e1 e2
        go_wp2_with fail
        ((with_reducible refine (dinside_b m s x y true _ hr' hi).mono ?_); rintro e w3 ⟨rfl, hb3⟩)
        replace hK := hK.call hb3
        replace hr' := hr'.below hb3
        clear hb3 hR hC hP hM
        obtain ⟨hR, hC, hP, hM⟩ := hK.four
        obtain ⟨_, _, _, _, _, _⟩ := hM.three
        obtain ⟨_, _, _, _⟩ := hP.two
        obtain ⟨_, _, _, _, _, _⟩ := hC.three
        go_wp2_with fail
        ((with_reducible refine (dwith_any m s x y q _ hr' hi).mono ?_); rintro e w4 ⟨s', rfl, hrs, hup, hb4⟩)
        have hlt := hR.lt
        obtain ⟨p', c', rfl, _, _⟩ := id hrs
        replace hK := hK.call hb4
        replace hR := hR.below hb4
        obtain ⟨_, _, _, _, _, _⟩ := hR.three
        go_wp2_with fail
        obtain ⟨_, _, _, -, -, -⟩ := (hR.put3 (.int .i64 m.w) (.int .i64 m.h) (.slice p' (withv m x y q).cs.length c')).three
        have h3 := hrs.put3 (b := W.heap.size + 1 + 1 + 1) (.int .i64 m.w) (.int .i64 m.h) (.slice p' (withv m x y q).cs.length c') (fun g o c n h => by
          have := hup g o n c h
          omega)
        refine bodyPost_ret (v := .tuple #[.agg #[.int .i64 m.w, .int .i64 m.h, .slice p' (withv m x y q).cs.length c'], .int .i64 0]) (by simp [results, Tryd.results14, go_sem, *]) rfl ⟨_, rfl, h3, below_put3 hK.old (by omega) _ _ _⟩

end Go.Proofs.YtlpccjklgbfpaaaDoor
