/-
  Laws of terrain: valid maps, taking.
-/
import Derived.Test.YtlpccjklgbfpaaaDoorTerL1
namespace Go.Proofs.YtlpccjklgbfpaaaDoor
open Go.RowKit Go.Lib

theorem Keep.nth {w W : World} {L : List (Nat × List Value × TypeId)} (h : Keep w W L) (i : Nat) {b : Nat} {vs : List Value} {t : TypeId} (hi : L[i]? = some (b, vs, t)) : Blk W b vs t := h.blks (b, vs, t) (List.mem_of_getElem? hi)
theorem with_inside {m : M3} {x y : Int} {q : C3} : insidev (withv m x y q) x y = insidev m x y := by
  unfold insidev formedv withv; rw [List.length_set]
theorem with_get {m : M3} {x y : Int} {q : C3} (h : insidev m x y = true) : getv (withv m x y q) x y = q := by
  obtain ⟨n, hn, hix, _⟩ := get_at h
  unfold getv
  rw [if_pos (by rw [with_inside]; exact h)]
  unfold withv
  dsimp only
  rw [← hix.out, Int.toNat_natCast, List.getD_eq_getElem?_getD, List.getElem?_set_self hn]
  rfl
theorem with_valid {m : M3} {x y : Int} {q : C3} (h : validm m = true) (hq : validc q = true) : validm (withv m x y q) = true := by
  unfold validm at h ⊢
  rw [Bool.and_eq_true] at h ⊢
  refine ⟨?_, ?_⟩
  · have := h.1
    unfold formedv at this ⊢
    unfold withv
    dsimp only
    rw [List.length_set]
    exact this
  · rw [List.all_eq_true]
    intro c hc
    rcases List.mem_or_eq_of_mem_set hc with h1 | rfl
    · exact List.all_eq_true.1 h.2 c h1
    · exact hq
theorem set_ok {m M : M3} {x y : Int} {q : C3} (e : setv m x y q = (M, 0)) : validm m = true ∧ validc q = true ∧ insidev m x y = true ∧ M = withv m x y q := by
  unfold setv at e
  split at e
  · next h =>
    split at e
    · next hi => injection e with e1 _; exact ⟨h.1, h.2, hi, e1.symm⟩
    · injection e with _ e2; omega
  · injection e with _ e2; omega

theorem low33333 {W w' : World} {b1 b2 b3 b4 b5 : Nat} {p1 q1 r1 p2 q2 r2 p3 q3 r3 p4 q4 r4 p5 q5 r5 : Value} {t1 t2 t3 t4 t5 : TypeId} (h1 : Blk W b1 [p1, q1, r1] t1) (h2 : Blk W b2 [p2, q2, r2] t2) (h3 : Blk W b3 [p3, q3, r3] t3) (h4 : Blk W b4 [p4, q4, r4] t4) (h5 : Blk W b5 [p5, q5, r5] t5) (h : Below W.heap.size W w') :
    w'.cell? ⟨b1, 0, none⟩ = some p1 ∧ w'.cell? ⟨b1, 1, none⟩ = some q1 ∧ w'.cell? ⟨b1, 2, none⟩ = some r1 ∧ w'.cell? ⟨b2, 0, none⟩ = some p2 ∧ w'.cell? ⟨b2, 1, none⟩ = some q2 ∧ w'.cell? ⟨b2, 2, none⟩ = some r2 ∧ w'.cell? ⟨b3, 0, none⟩ = some p3 ∧ w'.cell? ⟨b3, 1, none⟩ = some q3 ∧ w'.cell? ⟨b3, 2, none⟩ = some r3 ∧ w'.cell? ⟨b4, 0, none⟩ = some p4 ∧ w'.cell? ⟨b4, 1, none⟩ = some q4 ∧ w'.cell? ⟨b4, 2, none⟩ = some r4 ∧ w'.cell? ⟨b5, 0, none⟩ = some p5 ∧ w'.cell? ⟨b5, 1, none⟩ = some q5 ∧ w'.cell? ⟨b5, 2, none⟩ = some r5 :=
  ⟨(h1.below h).cell 0, (h1.below h).cell 1, (h1.below h).cell 2, (h2.below h).cell 0, (h2.below h).cell 1, (h2.below h).cell 2, (h3.below h).cell 0, (h3.below h).cell 1, (h3.below h).cell 2, (h4.below h).cell 0, (h4.below h).cell 1, (h4.below h).cell 2, (h5.below h).cell 0, (h5.below h).cell 1, (h5.below h).cell 2⟩

set_option maxRecDepth 100000 in
set_option maxHeartbeats 8000000 in
theorem law_valid {E : World → Prop} (H : TerHave E) (m : M3) (s : Value) (x y : Int) (q : C3) (W : World) (hE : E W) (hn : MapNum m) (ix : I64 x) (iy : I64 y) (jk : I64 q.k) (jh : I64 q.h) (ja : I64 q.a) (hr : RowAt W s m.cs) :
    Calls Tryd.prog 3 #[.agg #[.int .i64 m.w, .int .i64 m.h, s], .agg #[.int .i64 x, .int .i64 y], .agg #[.int .i64 q.k, .int .i64 q.h, .int .i64 q.a]] W fun e w' => e = .returned (.bool true) ∧ Below W.heap.size W w' := by
  obtain ⟨v, hv⟩ : ∃ b, Hid (b = validm m) := ⟨_, hid rfl⟩
  obtain ⟨i, hi⟩ : ∃ b, Hid (b = insidev m x y) := ⟨_, hid rfl⟩
  obtain ⟨g, hg⟩ : ∃ b, Hid (b = getv m x y) := ⟨_, hid rfl⟩
  obtain ⟨M, er, he⟩ : ∃ M er, Hid (setv m x y q = (M, er)) := ⟨_, _, hid rfl⟩
  have hsM := hid (same_self M).symm
  have hK := (((Keep.nil W).alloc [.int .i64 m.w, .int .i64 m.h, s] 24).alloc [.int .i64 x, .int .i64 y] 26).alloc [.int .i64 q.k, .int .i64 q.h, .int .i64 q.a] 28
  replace hr := hr.below hK.old
  simp only [World.size_alloc] at hK
  go_enter Tryd.func3, Tryd.ntmps3
  go_upto_region 1 with fail
  generalize (((W.alloc (.cells [Value.int .i64 m.w, .int .i64 m.h, s].toArray 24)).alloc (.cells [Value.int .i64 x, .int .i64 y].toArray 26)).alloc (.cells [Value.int .i64 q.k, .int .i64 q.h, .int .i64 q.a].toArray 28)) = V at *
  obtain ⟨hC, hP, hM⟩ := hK.three
  obtain ⟨q0, r0, rfl⟩ := hr.slice
  obtain ⟨_, _, _, _, _⟩ := low32 hM hP (Below.refl _ _)
  by_cases h1 : 2000 < m.cs.length
  · go_wp2_with fail
    ((with_reducible refine (huge_any m _ true _ hr (hid (decide_eq_true h1).symm)).mono ?_); rintro e w1 ⟨rfl, hb1⟩)
    replace hK := hK.call hb1
    go_wp2_with fail
    ((with_reducible refine (awake_any H _ (H.keep hE hK.old)).mono ?_); rintro e w2 ⟨rfl, hb2⟩)
    replace hK := hK.call hb2
    go_wp2_with fail
    go_ret
    exact ⟨rfl, hK.old⟩
  · have hh := hid (decide_eq_false h1).symm
    have hO := hn.ok (by omega)
    have hMO : MapOk M := by
      have e := he.out
      unfold setv at e
      split at e
      · split at e
        · injection e with e1 _; rw [← e1]; exact hO.with x y q ⟨jk, jh, ja⟩
        · injection e with e1 _; rw [← e1]; exact MapOk.zero
      · injection e with e1 _; rw [← e1]; exact MapOk.zero
    go_wp2_with fail
    ((with_reducible refine (huge_any m _ false _ hr hh).mono ?_); rintro e w1 ⟨rfl, hb1⟩)
    replace hK := hK.call hb1
    replace hr := hr.below hb1
    obtain ⟨_, _, _, _, _⟩ := low32 hM hP hb1
    clear hC hP hM hb1
    go_wp2_with fail
    ((with_reducible refine (H.get m _ x y g i _ hO ix iy hr hi hg).mono ?_); rintro e w2 ⟨rfl, hb2⟩)
    replace hK := hK.call hb2
    replace hr := hr.below hb2
    clear hb2
    replace hr := hr.below ((Below.refl w2.heap.size w2).alloc (Nat.le_refl _) (.cells [Value.int .i64 g.k, .int .i64 g.h, .int .i64 g.a].toArray 28))
    replace hK := hK.alloc [.int .i64 g.k, .int .i64 g.h, .int .i64 g.a] 28
    obtain ⟨_, _, _, _, _⟩ := low32 (hK.nth 3 rfl) (hK.nth 2 rfl) (Below.refl _ _)
    go_wp2_with fail
    generalize w2.heap.size = b2 at *
    ((with_reducible refine (rget_b m _ x y g i _ hr hi hg).mono ?_); rintro e w3 ⟨rfl, hb3⟩)
    replace hK := hK.call hb3
    replace hr := hr.below hb3
    clear hb3
    replace hr := hr.below ((Below.refl w3.heap.size w3).alloc (Nat.le_refl _) (.cells [Value.int .i64 g.k, .int .i64 g.h, .int .i64 g.a].toArray 28))
    replace hK := hK.alloc [.int .i64 g.k, .int .i64 g.h, .int .i64 g.a] 28
    obtain ⟨_, _, _, _, _⟩ := low32 (hK.nth 4 rfl) (hK.nth 3 rfl) (Below.refl _ _)
    obtain ⟨_, _, _, _, _, _⟩ := (hK.nth 2 rfl).three
    go_wp2_with fail
    generalize w3.heap.size = b3 at *
    ((with_reducible refine (H.set m _ x y q _ M er hO ix iy jk jh ja hr he).mono ?_); rintro e w4 ⟨s4, rfl, hr4, hb4⟩)
    replace hK := hK.call hb4
    replace hr := hr.below hb4
    clear hb4
    obtain ⟨p4, k4, rfl⟩ := hr4.slice
    replace hr := hr.below ((Below.refl w4.heap.size w4).alloc (Nat.le_refl _) (.cells [Value.int .i64 M.w, .int .i64 M.h, .slice p4 M.cs.length k4].toArray 24))
    replace hr4 := hr4.below ((Below.refl w4.heap.size w4).alloc (Nat.le_refl _) (.cells [Value.int .i64 M.w, .int .i64 M.h, .slice p4 M.cs.length k4].toArray 24))
    replace hK := hK.alloc [.int .i64 M.w, .int .i64 M.h, .slice p4 M.cs.length k4] 24
    obtain ⟨_, _, _, _, _⟩ := low32 (hK.nth 5 rfl) (hK.nth 4 rfl) (Below.refl _ _)
    obtain ⟨_, _, _, _, _, _⟩ := (hK.nth 3 rfl).three
    go_wp2_with fail
    generalize w4.heap.size = b4 at *
    ((with_reducible refine (rset_b m _ x y q _ M er hr he).mono ?_); rintro e w5 ⟨s5, rfl, hr5, hb5⟩)
    replace hK := hK.call hb5
    replace hr := hr.below hb5
    replace hr4 := hr4.below hb5
    clear hb5
    obtain ⟨p5, k5, rfl⟩ := hr5.slice
    have ha5 := (Below.refl w5.heap.size w5).alloc (Nat.le_refl _) (.cells [Value.int .i64 M.w, .int .i64 M.h, .slice p5 M.cs.length k5].toArray 24)
    replace hr := hr.below ha5
    replace hr4 := hr4.below ha5
    replace hr5 := hr5.below ha5
    clear ha5
    replace hK := hK.alloc [.int .i64 M.w, .int .i64 M.h, .slice p5 M.cs.length k5] 24
    go_wp2_with fail
    generalize w5.heap.size = b5 at *
    generalize w5.alloc (.cells [Value.int .i64 M.w, .int .i64 M.h, .slice p5 M.cs.length k5].toArray 24) = V5 at *
    have hq := (Below.refl V5.heap.size V5).drew
    go_region_held3 (fun w' => w'.cell? ⟨W.heap.size, 0, none⟩ = some (.int .i64 m.w) ∧ w'.cell? ⟨W.heap.size, 1, none⟩ = some (.int .i64 m.h) ∧ w'.cell? ⟨W.heap.size, 2, none⟩ = some (.slice q0 m.cs.length r0) ∧ w'.cell? ⟨b2, 0, none⟩ = some (.int .i64 g.k) ∧ w'.cell? ⟨b2, 1, none⟩ = some (.int .i64 g.h) ∧ w'.cell? ⟨b2, 2, none⟩ = some (.int .i64 g.a) ∧ w'.cell? ⟨b3, 0, none⟩ = some (.int .i64 g.k) ∧ w'.cell? ⟨b3, 1, none⟩ = some (.int .i64 g.h) ∧ w'.cell? ⟨b3, 2, none⟩ = some (.int .i64 g.a) ∧ w'.cell? ⟨b4, 0, none⟩ = some (.int .i64 M.w) ∧ w'.cell? ⟨b4, 1, none⟩ = some (.int .i64 M.h) ∧ w'.cell? ⟨b4, 2, none⟩ = some (.slice p4 M.cs.length k4) ∧ w'.cell? ⟨b5, 0, none⟩ = some (.int .i64 M.w) ∧ w'.cell? ⟨b5, 1, none⟩ = some (.int .i64 M.h) ∧ w'.cell? ⟨b5, 2, none⟩ = some (.slice p5 M.cs.length k5))
      (first | exact low33333 (hK.nth 6 rfl) (hK.nth 3 rfl) (hK.nth 2 rfl) (hK.nth 1 rfl) (hK.nth 0 rfl) (by assumption))
      (first
        | (go_at_call 16; with_reducible refine (H.valid m _ v _ hO (hr.below hq) hv).mono ?_; rintro e w' ⟨rfl, hb⟩; replace hq := below_call hq hb; clear hb)
        | (go_at_call 17; with_reducible refine (rvalidm_c m _ v _ (hr.below hq) hv).mono ?_; rintro e w' ⟨rfl, hb⟩; replace hq := below_call hq hb; clear hb)
        | (go_at_call 18; with_reducible refine (rsame_b M M _ _ true _ (hr4.below hq) (hr5.below hq) hsM).mono ?_; rintro e w' ⟨rfl, hb⟩; replace hq := below_call hq hb; clear hb))
    replace hK := hK.call hq
    replace hr4 := hr4.below hq
    clear hr hr5 hq
    obtain ⟨_, _, _, _, _⟩ := low32 (hK.nth 1 rfl) (hK.nth 5 rfl) (Below.refl _ _)
    by_cases h0 : er = 0
    · subst h0
      obtain ⟨t1, t2, t3, t4⟩ := set_ok he.out
      have hiM : Hid (true = insidev M x y) := hid (by rw [t4, with_inside, t3])
      have hgM : Hid (q = getv M x y) := hid (by rw [t4, with_get t3])
      have hvM : Hid (true = validm M) := hid (by rw [t4, with_valid t1 t2])
      clear t1 t2 t3 t4
      go_wp2_with fail
      ((with_reducible refine (H.get M _ x y q true _ hMO ix iy hr4 hiM hgM).mono ?_); rintro e w6 ⟨rfl, hb6⟩)
      replace hK := hK.call hb6
      replace hr4 := hr4.below hb6
      clear hb6
      have ha6 := (Below.refl w6.heap.size w6).alloc (Nat.le_refl _) (.cells [Value.int .i64 q.k, .int .i64 q.h, .int .i64 q.a].toArray 28)
      replace hr4 := hr4.below ha6
      clear ha6
      replace hK := hK.alloc [.int .i64 q.k, .int .i64 q.h, .int .i64 q.a] 28
      obtain ⟨_, _, _, _, _, _⟩ := low33 (hK.nth 0 rfl) (hK.nth 5 rfl) (Below.refl _ _)
      obtain ⟨_, _, _, _, _, _⟩ := (hK.nth 2 rfl).three
      go_wp2_with fail
      ((with_reducible refine (H.valid M _ true _ hMO hr4 hvM).mono ?_); rintro e w7 ⟨rfl, hb7⟩)
      replace hK := hK.call hb7
      clear hb7
      go_wp2_with fail
      ((with_reducible refine (awake_any H _ (H.keep hE hK.old)).mono ?_); rintro e w8 ⟨rfl, hb8⟩)
      replace hK := hK.call hb8
      go_wp2_with fail
      go_ret
      exact ⟨rfl, hK.old⟩
    · have z1 : (er == 0) = false := beq_eq_false_iff_ne.2 h0
      clear h0
      go_wp2_with fail
      ((with_reducible refine (awake_any H _ (H.keep hE hK.old)).mono ?_); rintro e w8 ⟨rfl, hb8⟩)
      replace hK := hK.call hb8
      go_wp2_with fail
      go_ret
      exact ⟨rfl, hK.old⟩

end Go.Proofs.YtlpccjklgbfpaaaDoor
