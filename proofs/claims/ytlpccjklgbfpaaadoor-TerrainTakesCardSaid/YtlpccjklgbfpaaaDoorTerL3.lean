/-
  Laws of terrain: taking.
-/
import Derived.Test.YtlpccjklgbfpaaaDoorTerL2
namespace Go.Proofs.YtlpccjklgbfpaaaDoor
open Go.RowKit Go.Lib

theorem get_validc {m : M3} {x y : Int} (hv : validm m = true) (hi : insidev m x y = true) : validc (getv m x y) = true := by
  obtain ⟨n, hn, _, e⟩ := get_at hi
  rw [e]
  unfold validm at hv
  rw [Bool.and_eq_true, List.all_eq_true] at hv
  exact hv.2 _ (List.getElem_mem hn)
theorem less_valid {q : C3} {n : Int} (h : validc q = true) (h1 : 1 ≤ n) (h0 : q.a ≠ 0) : validc (lessv q n) = true := by
  obtain ⟨k, g, a⟩ := q
  unfold validc at h ⊢
  unfold lessv
  dsimp only at *
  rw [Bool.and_eq_true, decide_eq_true_iff] at h
  obtain ⟨hb, hd⟩ := h
  have hk : k = 4 ∨ k = 5 := by
    rw [decide_eq_true (show 0 < a by omega)] at hd
    simpa using hd
  by_cases c : a - min n a = 0
  · rw [if_pos c, Bool.and_eq_true, decide_eq_true_iff, c]
    exact ⟨by omega, by simp⟩
  · rw [if_neg c, Bool.and_eq_true, decide_eq_true_iff, decide_eq_true (show 0 < a - min n a by omega), decide_eq_true hk]
    exact ⟨by omega, by simp⟩
theorem take_ok {m M : M3} {x y n k : Int} (e : takev m x y n = (M, k, 0)) : validm m = true ∧ 1 ≤ n ∧ insidev m x y = true ∧ (getv m x y).a ≠ 0 ∧ M = withv m x y (lessv (getv m x y) n) ∧ k = min n (getv m x y).a := by
  unfold takev at e
  split at e
  · next h =>
    split at e
    · next hi =>
      injection e with e1 e
      injection e with e2 _
      exact ⟨h.1, h.2, hi.1, hi.2, e1.symm, e2.symm⟩
    · injection e with _ e; injection e with _ e; omega
  · injection e with _ e; injection e with _ e; omega
theorem validc_nums {c : C3} (h : validc c = true) : I64 c.k ∧ I64 c.h ∧ I64 c.a := by
  unfold validc at h
  rw [Bool.and_eq_true, decide_eq_true_iff] at h
  exact ⟨⟨by omega, by omega⟩, ⟨by omega, by omega⟩, ⟨by omega, by omega⟩⟩

set_option maxRecDepth 100000 in
set_option maxHeartbeats 8000000 in
theorem law_takes {E : World → Prop} (H : TerHave E) (m : M3) (s : Value) (x y n : Int) (W : World) (hE : E W) (hn : MapNum m) (ix : I64 x) (iy : I64 y) (jn : I64 n) (hr : RowAt W s m.cs) :
    Calls Tryd.prog 8 #[.agg #[.int .i64 m.w, .int .i64 m.h, s], .agg #[.int .i64 x, .int .i64 y], .int .i64 n] W fun e w' => e = .returned (.bool true) ∧ Below W.heap.size W w' := by
  obtain ⟨i, hi⟩ : ∃ b, Hid (b = insidev m x y) := ⟨_, hid rfl⟩
  obtain ⟨g, hg⟩ : ∃ b, Hid (b = getv m x y) := ⟨_, hid rfl⟩
  obtain ⟨M, k, er, he⟩ : ∃ M k er, Hid (takev m x y n = (M, k, er)) := ⟨_, _, _, hid rfl⟩
  have hsM := hid (same_self M).symm
  have hK := ((Keep.nil W).alloc [.int .i64 m.w, .int .i64 m.h, s] 24).alloc [.int .i64 x, .int .i64 y] 26
  replace hr := hr.below hK.old
  simp only [World.size_alloc] at hK
  go_enter Tryd.func8, Tryd.ntmps8
  go_upto_region 1 with fail
  generalize ((W.alloc (.cells [Value.int .i64 m.w, .int .i64 m.h, s].toArray 24)).alloc (.cells [Value.int .i64 x, .int .i64 y].toArray 26)) = V at *
  obtain ⟨hP, hM⟩ := hK.two
  obtain ⟨q0, r0, rfl⟩ := hr.slice
  obtain ⟨_, _, _, _, _⟩ := low32 hM hP (Below.refl _ _)
  by_cases h1 : 2000 < m.cs.length
  · go_wp2_with fail
    ((with_reducible refine (huge_any m _ true _ hr (hid (decide_eq_true h1).symm)).mono ?_); rintro e w1 ⟨rfl, hb1⟩)
    replace hK := hK.call hb1
    go_wp2_with fail
    ((with_reducible refine (awake_any H _ (H.keep hE hK.old)).mono ?_); rintro e w2 ⟨rfl, hb2⟩)
    replace hK := hK.call hb2
    go_wp2_with fail
    go_ret
    exact ⟨rfl, hK.old⟩
  · have hh := hid (decide_eq_false h1).symm
    have hO := hn.ok (by omega)
    have hMO : MapOk M := by
      have e := he.out
      unfold takev at e
      split at e
      · next h =>
        split at e
        · next h2 => injection e with e1 _; rw [← e1]; exact hO.with x y _ (validc_nums (less_valid (get_validc h.1 h2.1) h.2 h2.2))
        · injection e with e1 _; rw [← e1]; exact MapOk.zero
      · injection e with e1 _; rw [← e1]; exact MapOk.zero
    go_wp2_with fail
    ((with_reducible refine (huge_any m _ false _ hr hh).mono ?_); rintro e w1 ⟨rfl, hb1⟩)
    replace hK := hK.call hb1
    replace hr := hr.below hb1
    obtain ⟨_, _, _, _, _⟩ := low32 hM hP hb1
    clear hP hM hb1
    go_wp2_with fail
    ((with_reducible refine (H.take m _ x y n _ M k er hO ix iy jn hr he).mono ?_); rintro e w4 ⟨s4, rfl, hr4, hb4⟩)
    replace hK := hK.call hb4
    replace hr := hr.below hb4
    clear hb4
    obtain ⟨p4, k4, rfl⟩ := hr4.slice
    have ha4 := (Below.refl w4.heap.size w4).alloc (Nat.le_refl _) (.cells [Value.int .i64 M.w, .int .i64 M.h, .slice p4 M.cs.length k4].toArray 24)
    replace hr := hr.below ha4
    replace hr4 := hr4.below ha4
    clear ha4
    replace hK := hK.alloc [.int .i64 M.w, .int .i64 M.h, .slice p4 M.cs.length k4] 24
    obtain ⟨_, _, _, _, _⟩ := low32 (hK.nth 2 rfl) (hK.nth 1 rfl) (Below.refl _ _)
    go_wp2_with fail
    generalize w4.heap.size = b4 at *
    ((with_reducible refine (rtake_b m _ x y n _ M k er hr he).mono ?_); rintro e w5 ⟨s5, rfl, hr5, hb5⟩)
    replace hK := hK.call hb5
    replace hr := hr.below hb5
    replace hr4 := hr4.below hb5
    clear hb5
    obtain ⟨p5, k5, rfl⟩ := hr5.slice
    have ha5 := (Below.refl w5.heap.size w5).alloc (Nat.le_refl _) (.cells [Value.int .i64 M.w, .int .i64 M.h, .slice p5 M.cs.length k5].toArray 24)
    replace hr := hr.below ha5
    replace hr4 := hr4.below ha5
    replace hr5 := hr5.below ha5
    clear ha5
    replace hK := hK.alloc [.int .i64 M.w, .int .i64 M.h, .slice p5 M.cs.length k5] 24
    obtain ⟨_, _, _, _, _, _⟩ := low33 (hK.nth 0 rfl) (hK.nth 1 rfl) (Below.refl _ _)
    go_wp2_with fail
    generalize w5.heap.size = b5 at *
    ((with_reducible refine (rsame_b M M _ _ true _ hr4 hr5 hsM).mono ?_); rintro e w6 ⟨rfl, hb6⟩)
    replace hK := hK.call hb6
    replace hr := hr.below hb6
    replace hr4 := hr4.below hb6
    clear hb6 hr5
    obtain ⟨_, _, _, _, _⟩ := low32 (hK.nth 3 rfl) (hK.nth 2 rfl) (Below.refl _ _)
    by_cases h0 : er = 0
    · subst h0
      obtain ⟨t1, t2, t3, t4, t5, t6⟩ := take_ok he.out
      rw [← hg.out] at t4 t5 t6
      have hgv := get_validc t1 t3
      rw [← hg.out] at hgv
      have hlv := less_valid hgv t2 t4
      have ha := get_valid (x := x) (y := y) t1
      rw [← hg.out] at ha
      have hi2 : Hid (true = insidev m x y) := hid t3.symm
      have hiM : Hid (true = insidev M x y) := hid (by rw [t5, with_inside, t3])
      have hgM : Hid (lessv g n = getv M x y) := hid (by rw [t5, with_get t3])
      have hvM : Hid (true = validm M) := hid (by rw [t5, with_valid t1 hlv])
      have hla : (lessv g n).a = g.a - k := by rw [t6]; rfl
      generalize lessv g n = r at *
      have hw : IntKind.i64.wrap (g.a - k) = g.a - k := IntWalk.i64_in _ (by omega)
      have k1 : decide ((1 : Int) ≤ k) = true := decide_eq_true (by omega)
      have k2 : decide (k ≤ n) = true := decide_eq_true (by omega)
      clear t1 t3 t4 t5 t6 hlv hgv ha t2
      go_wp2_with fail
      ((with_reducible refine (H.get m _ x y g true _ hO ix iy hr hi2 hg).mono ?_); rintro e w7 ⟨rfl, hb7⟩)
      replace hK := hK.call hb7
      replace hr4 := hr4.below hb7
      clear hb7
      have ha7 := (Below.refl w7.heap.size w7).alloc (Nat.le_refl _) (.cells [Value.int .i64 g.k, .int .i64 g.h, .int .i64 g.a].toArray 28)
      replace hr4 := hr4.below ha7
      clear ha7
      replace hK := hK.alloc [.int .i64 g.k, .int .i64 g.h, .int .i64 g.a] 28
      obtain ⟨_, _, _, _, _⟩ := low32 (hK.nth 2 rfl) (hK.nth 3 rfl) (Below.refl _ _)
      go_wp2_with fail
      generalize w7.heap.size = b7 at *
      ((with_reducible refine (H.get M _ x y r true _ hMO ix iy hr4 hiM hgM).mono ?_); rintro e w8 ⟨rfl, hb8⟩)
      replace hK := hK.call hb8
      replace hr4 := hr4.below hb8
      clear hb8
      have ha8 := (Below.refl w8.heap.size w8).alloc (Nat.le_refl _) (.cells [Value.int .i64 r.k, .int .i64 r.h, .int .i64 r.a].toArray 28)
      replace hr4 := hr4.below ha8
      clear ha8
      replace hK := hK.alloc [.int .i64 r.k, .int .i64 r.h, .int .i64 r.a] 28
      rw [hla] at hK hr4
      obtain ⟨_, _, _, _, _, _⟩ := low33 (hK.nth 0 rfl) (hK.nth 1 rfl) (Below.refl _ _)
      obtain ⟨_, _, _, _, _, _⟩ := (hK.nth 3 rfl).three
      go_wp2_with fail
      ((with_reducible refine (H.valid M _ true _ hMO hr4 hvM).mono ?_); rintro e w9 ⟨rfl, hb9⟩)
      replace hK := hK.call hb9
      clear hb9
      go_wp2_with fail
      ((with_reducible refine (awake_any H _ (H.keep hE hK.old)).mono ?_); rintro e wa ⟨rfl, hba⟩)
      replace hK := hK.call hba
      go_wp2_with fail
      go_ret
      exact ⟨rfl, hK.old⟩
    · have z1 : (er == 0) = false := beq_eq_false_iff_ne.2 h0
      clear h0
      go_wp2_with fail
      ((with_reducible refine (awake_any H _ (H.keep hE hK.old)).mono ?_); rintro e w8 ⟨rfl, hb8⟩)
      replace hK := hK.call hb8
      go_wp2_with fail
      go_ret
      exact ⟨rfl, hK.old⟩

end Go.Proofs.YtlpccjklgbfpaaaDoor
