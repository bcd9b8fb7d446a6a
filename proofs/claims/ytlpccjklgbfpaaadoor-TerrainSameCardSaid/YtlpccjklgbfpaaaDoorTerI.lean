/-
  What the reference of terrain answers: Set.
-/
import Derived.Test.YtlpccjklgbfpaaaDoorTerH
namespace Go.Proofs.YtlpccjklgbfpaaaDoor
open Go.RowKit Go.Lib

theorem rvalidm_c (m : M3) (s : Value) (b : Bool) (W : World) (hr : RowAt W s m.cs) (e : Hid (b = validm m)) :
    Calls Tryd.prog 17 #[.agg #[.int .i64 m.w, .int .i64 m.h, s]] W fun e w' => e = .returned (.bool b) ∧ Below W.heap.size W w' := rvalidm_b m s b W hr e
theorem RowAt.zero (W : World) : RowAt W (.slice none 0 0) M3.zero.cs := ⟨none, 0, rfl, Nat.zero_le _, fun h => by simp [M3.zero] at h⟩
theorem Blk.put3 {W : World} {b : Nat} {p q r : Value} {t : TypeId} (h : Blk W b [p, q, r] t) (x y u : Value) : Blk (((W.setCell ⟨b, 0, none⟩ x).setCell ⟨b, 1, none⟩ y).setCell ⟨b, 2, none⟩ u) b [x, y, u] t := ((h.set 0 x).set 1 y).set 2 u
/-- Three stores into a block above. -/
theorem below_put3 {w W : World} {b : Nat} (h : Below w.heap.size w W) (hb : w.heap.size ≤ b) (x y u : Value) : Below w.heap.size w (((W.setCell ⟨b, 0, none⟩ x).setCell ⟨b, 1, none⟩ y).setCell ⟨b, 2, none⟩ u) :=
  ((h.setCell (p := ⟨b, 0, none⟩) hb x).setCell (p := ⟨b, 1, none⟩) hb y).setCell (p := ⟨b, 2, none⟩) hb u
theorem RowAt.other {W : World} {s : Value} {l : List C3} (h : RowAt W s l) (a : Addr) (x : Value) (ne : ∀ g o c n, s = .slice (some ⟨g, o, none⟩) n c → g ≠ a.block) : RowAt (W.setCell a x) s l := by
  obtain ⟨p, c, rfl, hm, hc⟩ := h
  refine ⟨p, c, rfl, hm, fun h1 => ?_⟩
  obtain ⟨g, o, rfl, hi⟩ := hc h1
  have hg := ne g o c l.length rfl
  refine ⟨g, o, rfl, fun i hi' => ?_⟩
  obtain ⟨b1, b2, b3⟩ := hi i hi'
  have e : ∀ j, (W.setCell a x).cell? ⟨g, j, none⟩ = W.cell? ⟨g, j, none⟩ := fun j => by
    unfold World.cell?
    rw [Below.heap_setCell W a x g hg]
  rw [e, e, e]
  exact ⟨b1, b2, b3⟩
theorem RowAt.put3 {W : World} {s : Value} {l : List C3} (h : RowAt W s l) {b : Nat} (x y u : Value) (ne : ∀ g o c n, s = .slice (some ⟨g, o, none⟩) n c → g ≠ b) : RowAt (((W.setCell ⟨b, 0, none⟩ x).setCell ⟨b, 1, none⟩ y).setCell ⟨b, 2, none⟩ u) s l :=
  ((h.other ⟨b, 0, none⟩ x ne).other ⟨b, 1, none⟩ y ne).other ⟨b, 2, none⟩ u ne

set_option maxHeartbeats 2000000 in
theorem rset_b (m : M3) (s : Value) (x y : Int) (q : C3) (W : World) (M : M3) (er : Int) (hr : RowAt W s m.cs) (e : Hid (setv m x y q = (M, er))) :
    Calls Tryd.prog 15 #[.agg #[.int .i64 m.w, .int .i64 m.h, s], .agg #[.int .i64 x, .int .i64 y], .agg #[.int .i64 q.k, .int .i64 q.h, .int .i64 q.a]] W fun e w' => ∃ s', e = .returned (.tuple #[.agg #[.int .i64 M.w, .int .i64 M.h, s'], .int .i64 er]) ∧ RowAt w' s' M.cs ∧ Below W.heap.size W w' := by
  have hK := ((((Keep.nil W).alloc [.int .i64 m.w, .int .i64 m.h, s] 24).alloc [.int .i64 x, .int .i64 y] 26).alloc [.int .i64 q.k, .int .i64 q.h, .int .i64 q.a] 28).alloc [.int .i64 0, .int .i64 0, .slice none 0 0] 24
  have hr' := hr.below hK.old
  simp only [World.size_alloc] at hK
  obtain ⟨v, hv⟩ : ∃ v, Hid (v = validm m) := ⟨_, hid rfl⟩
  obtain ⟨u, hu⟩ : ∃ v, Hid (v = validc q) := ⟨_, hid rfl⟩
  obtain ⟨i, hi⟩ : ∃ v, Hid (v = insidev m x y) := ⟨_, hid rfl⟩
  have he : (if v = true ∧ u = true then (if i = true then (withv m x y q, 0) else (M3.zero, 8)) else (M3.zero, 1)) = (M, er) := by rw [hv.out, hu.out, hi.out]; exact e.out
  clear e
  go_enter Tryd.func15, Tryd.ntmps15
  go_upto_region 1 with fail
  generalize ((((W.alloc (.cells [Value.int .i64 m.w, .int .i64 m.h, s].toArray 24)).alloc (.cells [Value.int .i64 x, .int .i64 y].toArray 26)).alloc (.cells [Value.int .i64 q.k, .int .i64 q.h, .int .i64 q.a].toArray 28)).alloc (.cells [Value.int .i64 0, .int .i64 0, .slice none 0 0].toArray 24)) = V at *
  obtain ⟨hR, hC, hP, hM⟩ := hK.four
  obtain ⟨_, _, _, _, _, _⟩ := hM.three
  cases v with
  | false =>
    rw [if_neg (by simp)] at he
    injection he with e1 e2
    subst e1 e2
    go_wp2_with fail
    ((with_reducible refine (rvalidm_c m s false _ hr' hv).mono ?_); rintro e w1 ⟨rfl, hb1⟩)
    replace hK := hK.call hb1
    replace hR := hR.below hb1
    obtain ⟨_, _, _, _, _, _⟩ := hR.three
    go_wp2_with fail
    obtain ⟨_, _, _, -, -, -⟩ := (hR.put3 (.int .i64 0) (.int .i64 0) (.slice none 0 0)).three
    refine bodyPost_ret (v := .tuple #[.agg #[.int .i64 0, .int .i64 0, .slice none 0 0], .int .i64 1]) (by simp [results, Tryd.results15, go_sem, *]) rfl ⟨_, rfl, RowAt.zero _, below_put3 hK.old (by omega) _ _ _⟩
  | true =>
    cases u with
    | false =>
      rw [if_neg (by simp)] at he
      injection he with e1 e2
      subst e1 e2
      go_wp2_with fail
      ((with_reducible refine (rvalidm_c m s true _ hr' hv).mono ?_); rintro e w1 ⟨rfl, hb1⟩)
      replace hK := hK.call hb1
      replace hC := hC.below hb1
      obtain ⟨_, _, _, _, _, _⟩ := hC.three
      go_wp2_with fail
      ((with_reducible refine (rvalidc_b q false _ hu).mono ?_); rintro e w2 ⟨rfl, hb2⟩)
      replace hK := hK.call hb2
      obtain ⟨hR, _, _, _⟩ := hK.four
      obtain ⟨_, _, _, _, _, _⟩ := hR.three
      go_wp2_with fail
      obtain ⟨_, _, _, -, -, -⟩ := (hR.put3 (.int .i64 0) (.int .i64 0) (.slice none 0 0)).three
      refine bodyPost_ret (v := .tuple #[.agg #[.int .i64 0, .int .i64 0, .slice none 0 0], .int .i64 1]) (by simp [results, Tryd.results15, go_sem, *]) rfl ⟨_, rfl, RowAt.zero _, below_put3 hK.old (by omega) _ _ _⟩
    | true =>
      rw [if_pos ⟨rfl, rfl⟩] at he
      go_wp2_with fail
      ((with_reducible refine (rvalidm_c m s true _ hr' hv).mono ?_); rintro e w1 ⟨rfl, hb1⟩)
      replace hK := hK.call hb1
      replace hr' := hr'.below hb1
      replace hC := hC.below hb1
      obtain ⟨_, _, _, _, _, _⟩ := hC.three
      go_wp2_with fail
      ((with_reducible refine (rvalidc_b q true _ hu).mono ?_); rintro e w2 ⟨rfl, hb2⟩)
      replace hK := hK.call hb2
      replace hr' := hr'.below hb2
      clear hC hR hP hM hb1 hb2
      obtain ⟨hR, hC, hP, hM⟩ := hK.four
      obtain ⟨_, _, _, _, _, _⟩ := hM.three
      obtain ⟨_, _, _, _⟩ := hP.two
      cases i with
      | false =>
        rw [if_neg (by simp)] at he
        injection he with e1 e2
        subst e1 e2
        go_wp2_with fail
        ((with_reducible refine (rinside_b m s x y false _ hr' hi).mono ?_); rintro e w3 ⟨rfl, hb3⟩)
        replace hK := hK.call hb3
        replace hR := hR.below hb3
        obtain ⟨_, _, _, _, _, _⟩ := hR.three
        go_wp2_with fail
        obtain ⟨_, _, _, -, -, -⟩ := (hR.put3 (.int .i64 0) (.int .i64 0) (.slice none 0 0)).three
        refine bodyPost_ret (v := .tuple #[.agg #[.int .i64 0, .int .i64 0, .slice none 0 0], .int .i64 8]) (by simp [results, Tryd.results15, go_sem, *]) rfl ⟨_, rfl, RowAt.zero _, below_put3 hK.old (by omega) _ _ _⟩
      | true =>
        rw [if_pos rfl] at he
        injection he with e1 e2
        subst e1 e2
        go_wp2_with fail
        ((with_reducible refine (rinside_b m s x y true _ hr' hi).mono ?_); rintro e w3 ⟨rfl, hb3⟩)
        replace hK := hK.call hb3
        replace hr' := hr'.below hb3
        clear hb3 hR hC hP hM
        obtain ⟨hR, hC, hP, hM⟩ := hK.four
        obtain ⟨_, _, _, _, _, _⟩ := hM.three
        obtain ⟨_, _, _, _⟩ := hP.two
        obtain ⟨_, _, _, _, _, _⟩ := hC.three
        go_wp2_with fail
        ((with_reducible refine (rwith_any m s x y q _ hr' hi).mono ?_); rintro e w4 ⟨s', rfl, hrs, hup, hb4⟩)
        have hlt := hR.lt
        obtain ⟨p', c', rfl, _, _⟩ := id hrs
        replace hK := hK.call hb4
        replace hR := hR.below hb4
        obtain ⟨_, _, _, _, _, _⟩ := hR.three
        go_wp2_with fail
        obtain ⟨_, _, _, -, -, -⟩ := (hR.put3 (.int .i64 m.w) (.int .i64 m.h) (.slice p' (withv m x y q).cs.length c')).three
        have h3 := hrs.put3 (b := W.heap.size + 1 + 1 + 1) (.int .i64 m.w) (.int .i64 m.h) (.slice p' (withv m x y q).cs.length c') (fun g o c n h => by
          have := hup g o n c h
          omega)
        refine bodyPost_ret (v := .tuple #[.agg #[.int .i64 m.w, .int .i64 m.h, .slice p' (withv m x y q).cs.length c'], .int .i64 0]) (by simp [results, Tryd.results15, go_sem, *]) rfl ⟨_, rfl, h3, below_put3 hK.old (by omega) _ _ _⟩

end Go.Proofs.YtlpccjklgbfpaaaDoor
