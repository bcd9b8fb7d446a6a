/-
  What the reference of terrain answers: cells.
-/
import Derived.Test.YtpgchjhfhndaaaaGreatDoorGridRef
import Derived.Test.YtpgchjhfhndaaaaGreatDoorNumsG
import Derived.Deep.Cut
namespace Go.Proofs.YtpgchjhfhndaaaaGreatDoor

section
open Go.RowKit Go.Lib

/-- A slice of cells that can be read. -/
def RowAt (W : World) (s : Value) (cs : List C3) : Prop :=
  ∃ p c, s = .slice p cs.length c ∧ cs.length ≤ maxLen ∧ (1 ≤ cs.length → ∃ g o, p = some ⟨g, o, none⟩ ∧ ∀ i, (h : i < cs.length) →
    W.cell? ⟨g, o + i * 3, none⟩ = some (.int .i64 (cs[i]'h).k) ∧ W.cell? ⟨g, o + i * 3 + 1, none⟩ = some (.int .i64 (cs[i]'h).h) ∧ W.cell? ⟨g, o + i * 3 + 2, none⟩ = some (.int .i64 (cs[i]'h).a))
theorem RowAt.below {W w' : World} {s : Value} {cs : List C3} (h : RowAt W s cs) (hb : Below W.heap.size W w') : RowAt w' s cs := by
  obtain ⟨p, c, rfl, hm, hc⟩ := h
  refine ⟨p, c, rfl, hm, fun h1 => ?_⟩
  obtain ⟨g, o, rfl, hi⟩ := hc h1
  refine ⟨g, o, rfl, fun i hi' => ?_⟩
  obtain ⟨a, b, d⟩ := hi i hi'
  have k : g < W.heap.size := World.block_lt_of_cell? W _ a
  exact ⟨(hb.cell (p := ⟨g, o + i * 3, none⟩) k).trans a, (hb.cell (p := ⟨g, o + i * 3 + 1, none⟩) k).trans b, (hb.cell (p := ⟨g, o + i * 3 + 2, none⟩) k).trans d⟩
/-- A map, as its value and the memory behind it have it. -/
def mapV (m : M3) (s : Value) : Value := .agg #[.int .i64 m.w, .int .i64 m.h, s]

set_option maxHeartbeats 400000 in
theorem rvalidc_any (k h a : Int) (W : World) :
    Calls Tryz.prog 55 #[.agg #[.int .i64 k, .int .i64 h, .int .i64 a]] W fun e w' => e = .returned (.bool (validc ⟨k, h, a⟩)) ∧ Below W.heap.size W w' := by
  by_cases hc : 1 ≤ k ∧ k ≤ 5 ∧ 0 ≤ h ∧ h ≤ 3 ∧ 0 ≤ a ∧ a ≤ 1000000
  · have hv : validc ⟨k, h, a⟩ = (decide (0 < a) == decide (k = 4 ∨ k = 5)) := by unfold validc; rw [decide_eq_true hc, Bool.true_and]
    rw [hv]
    obtain ⟨k0, k1, h0, h1, a0, a1⟩ := hc
    have z1 : decide (k < 1) = false := decide_eq_false (by omega)
    have z2 : decide (5 < k) = false := decide_eq_false (by omega)
    have z3 : decide (h < 0) = false := decide_eq_false (by omega)
    have z4 : decide (3 < h) = false := decide_eq_false (by omega)
    have z5 : decide (a < 0) = false := decide_eq_false (by omega)
    have z6 : decide (1000000 < a) = false := decide_eq_false (by omega)
    by_cases k4 : k = 4
    · subst k4
      go_enter Tryz.func55, Tryz.ntmps55
      go_wp2_with fail
      go_ret
      exact ⟨ret_bit (by simp), (Below.refl _ _).alloc (Nat.le_refl _) _⟩
    · have y1 : (k == 4) = false := beq_eq_false_iff_ne.2 k4
      go_enter Tryz.func55, Tryz.ntmps55
      go_wp2_with fail
      go_ret
      exact ⟨ret_bit (by simp [k4]; rfl), (Below.refl _ _).alloc (Nat.le_refl _) _⟩
  · have hv : validc ⟨k, h, a⟩ = false := by unfold validc; rw [decide_eq_false hc, Bool.false_and]
    rw [hv]
    go_enter Tryz.func55, Tryz.ntmps55
    go_wp2
    all_goals first
      | (exfalso; omega)
      | (go_ret; exact ⟨rfl, (Below.refl _ _).alloc (Nat.le_refl _) _⟩)

set_option maxHeartbeats 1000000 in
theorem rformed_any (m : M3) (s : Value) (W : World) (hr : RowAt W s m.cs) :
    Calls Tryz.prog 54 #[mapV m s] W fun e w' => e = .returned (.bool (formedv m)) ∧ Below W.heap.size W w' := by
  obtain ⟨w, h, cs⟩ := m
  obtain ⟨p, c, rfl, hm, -⟩ := hr
  unfold maxLen at hm
  show Calls Tryz.prog 54 #[.agg #[.int .i64 w, .int .i64 h, .slice p cs.length c]] W _
  dsimp only at hm
  have hc := rvalid_any w h
  cases hv : validv w h with
  | true =>
    have hf : formedv ⟨w, h, cs⟩ = decide ((cs.length : Int) = w * h) := by unfold formedv; rw [hv, Bool.true_and]
    have hd := hv
    unfold validv at hd
    have hd := of_decide_eq_true hd
    obtain ⟨X, rfl⟩ := Int.eq_ofNat_of_zero_le (show 0 ≤ w by omega)
    obtain ⟨Y, rfl⟩ := Int.eq_ofNat_of_zero_le (show 0 ≤ h by omega)
    have hxy : X * Y ≤ 32 * 32 := Nat.mul_le_mul (by omega) (by omega)
    have e : (X : Int) * Y = ((X * Y : Nat) : Int) := by simp
    have ew : IntKind.i64.wrap ((X : Int) * Y) = (X : Int) * Y := IntWalk.i64_in _ (by rw [e]; omega)
    rw [hv] at hc
    rw [hf]
    clear e
    go_enter Tryz.func54, Tryz.ntmps54
    go_wp2_with fail
    ((with_reducible refine (hc _).mono ?_); rintro e w1 ⟨rfl, hw⟩)
    rw [← hw]
    clear hw
    go_wp2_with fail
    go_ret
    exact ⟨ret_bit (by rfl), (Below.refl _ _).alloc (Nat.le_refl _) _⟩
  | false =>
    have hf : formedv ⟨w, h, cs⟩ = false := by unfold formedv; rw [hv, Bool.false_and]
    rw [hv] at hc
    rw [hf]
    go_enter Tryz.func54, Tryz.ntmps54
    go_wp2_with fail
    ((with_reducible refine (hc _).mono ?_); rintro e w1 ⟨rfl, hw⟩)
    rw [← hw]
    clear hw
    go_wp2_with fail
    go_ret
    exact ⟨rfl, (Below.refl _ _).alloc (Nat.le_refl _) _⟩

theorem rin_b (w h x y : Int) (b : Bool) (W : World) (e : Hid (b = inv w h x y)) : Calls Tryz.prog 109 #[.int .i64 w, .int .i64 h, .agg #[.int .i64 x, .int .i64 y]] W fun e w' => e = .returned (.bool b) ∧ Below W.heap.size W w' := by
  rw [e.out]; exact rin_any w h x y W
set_option maxHeartbeats 1000000 in
theorem rinside_any (m : M3) (s : Value) (x y : Int) (W : World) (hr : RowAt W s m.cs) :
    Calls Tryz.prog 56 #[mapV m s, .agg #[.int .i64 x, .int .i64 y]] W fun e w' => e = .returned (.bool (insidev m x y)) ∧ Below W.heap.size W w' := by
  have hT := Held2.start W [.int .i64 m.w, .int .i64 m.h, s] [.int .i64 x, .int .i64 y] 24 29
  have hF := rformed_any m s _ (hr.below hT.old)
  have hI : insidev m x y = (formedv m && inv m.w m.h x y) := rfl
  rw [hI]
  clear hI
  unfold mapV at hF ⊢
  cases hf : formedv m with
  | true =>
    rw [hf] at hF
    rw [Bool.true_and]
    obtain ⟨b, hb⟩ : ∃ b, Hid (b = inv m.w m.h x y) := ⟨_, hid rfl⟩
    rw [← hb.out]
    go_enter Tryz.func56, Tryz.ntmps56
    go_wp2_with fail
    (refine hF.mono ?_; rintro e w1 ⟨rfl, hb1⟩)
    replace hT := hT.call hb1
    obtain ⟨_, _, _, _, _, _⟩ := hT.l.three
    obtain ⟨_, _, _, _⟩ := hT.r.two
    go_wp2_with fail
    ((with_reducible refine (rin_b m.w m.h x y b _ hb).mono ?_); rintro e w2 ⟨rfl, hb2⟩)
    go_wp2_with fail
    go_ret
    exact ⟨rfl, below_call hT.old hb2⟩
  | false =>
    rw [hf] at hF
    rw [Bool.false_and]
    go_enter Tryz.func56, Tryz.ntmps56
    go_wp2_with fail
    (refine hF.mono ?_; rintro e w1 ⟨rfl, hb1⟩)
    go_wp2_with fail
    go_ret
    exact ⟨rfl, below_call hT.old hb1⟩

end

section
open Go.RowKit Go.Lib

theorem rvalidc_b (c : C3) (b : Bool) (W : World) (e : Hid (b = validc c)) : Calls Tryz.prog 55 #[.agg #[.int .i64 c.k, .int .i64 c.h, .int .i64 c.a]] W fun e w' => e = .returned (.bool b) ∧ Below W.heap.size W w' := by
  rw [e.out]; exact rvalidc_any c.k c.h c.a W
set_option maxHeartbeats 1000000 in
theorem rvalidm_b (m : M3) (s : Value) (b : Bool) (W : World) (hr : RowAt W s m.cs) (e : Hid (b = validm m)) :
    Calls Tryz.prog 19 #[mapV m s] W fun e w' => e = .returned (.bool b) ∧ Below W.heap.size W w' := by
  have hT := Held1.start W [.int .i64 m.w, .int .i64 m.h, s] 24
  have hF := rformed_any m s _ (hr.below hT.old)
  unfold mapV at hF ⊢
  cases hf : formedv m with
  | false =>
    have hb : b = false := by rw [e.out]; unfold validm; rw [hf, Bool.false_and]
    subst hb
    rw [hf] at hF
    go_enter Tryz.func19, Tryz.ntmps19
    go_wp2_with fail
    (refine hF.mono ?_; rintro e w1 ⟨rfl, hb1⟩)
    go_wp2_with fail
    go_ret
    exact ⟨rfl, below_call hT.old hb1⟩
  | true =>
    have hv : Hid (b = m.cs.all validc) := hid (by rw [e.out]; unfold validm; rw [hf, Bool.true_and])
    rw [hf] at hF
    clear e
    obtain ⟨p, c, rfl, hm, hc⟩ := id hr
    unfold maxLen at hm
    go_enter Tryz.func19, Tryz.ntmps19
    go_wp2_with fail
    (refine hF.mono ?_; rintro e w1 ⟨rfl, hb1⟩)
    replace hT := hT.call hb1
    clear hb1 hF
    go_wp2_with fail
    go_loopw [3] (fun vi wr => ∃ i : Nat, vi = .int .i64 i ∧ i ≤ m.cs.length ∧ Held1 W wr W.heap.size [.int .i64 m.w, .int .i64 m.h, .slice p m.cs.length c] 24 ∧ Hid (∀ j, (h : j < m.cs.length) → j < i → validc (m.cs[j]'h) = true)) (fun vi _ => m.cs.length - (RowKit.intOf vi).toNat)
    case atStart => exact ⟨0, rfl, by omega, hT, hid (fun j _ h => by omega)⟩
    case round =>
      clear hT
      obtain ⟨i, rfl, hi, hT, hG⟩ := hrel
      obtain ⟨_, _, _, _, _, _⟩ := hT.l.three
      by_cases hlt : i < m.cs.length
      · have d1 : (i : Int) < m.cs.length := by omega
        obtain ⟨g, o, rfl, hat⟩ := hc (by omega)
        obtain ⟨a1, a2, a3⟩ := hat i hlt
        have hk : g < W.heap.size := World.block_lt_of_cell? W _ a1
        rw [← hT.old.cell (p := ⟨g, _, none⟩) hk] at a1 a2 a3
        obtain ⟨q, hq⟩ : ∃ q, m.cs[i]'hlt = q := ⟨_, rfl⟩
        rw [hq] at a1 a2 a3
        obtain ⟨bb, hbb⟩ : ∃ t, Hid (t = validc q) := ⟨_, hid rfl⟩
        clear hat hc hr
        cases bb with
        | true =>
          have hN := hid (show ∀ j, (h : j < m.cs.length) → j < i + 1 → validc (m.cs[j]'h) = true from fun j h hj => by
            by_cases e : j < i
            · exact hG.out j h e
            · obtain rfl : j = i := by omega
              rw [hq]; exact hbb.out.symm)
          clear hG
          go_wp2_with fail
          ((with_reducible refine (rvalidc_b q true _ hbb).mono ?_); rintro e w2 ⟨rfl, hb2⟩)
          replace hT := hT.call hb2
          clear hb2
          go_wp2_with fail
          go_roundw
          case rel => exact ⟨i + 1, by go_num, by omega, hT, hN⟩
          case measure => simp [RowKit.intOf]; omega
        | false =>
          have hb : b = false := by
            rw [hv.out, List.all_eq_false]
            exact ⟨m.cs[i]'hlt, List.getElem_mem hlt, by rw [hq, ← hbb.out]; simp⟩
          subst hb
          clear hG
          go_wp2_with fail
          ((with_reducible refine (rvalidc_b q false _ hbb).mono ?_); rintro e w2 ⟨rfl, hb2⟩)
          replace hT := hT.call hb2
          go_wp2_with fail
          go_ret
          exact ⟨rfl, hT.old⟩
      · obtain rfl : i = m.cs.length := by omega
        have hb : b = true := by
          rw [hv.out, List.all_eq_true]
          intro x hx
          obtain ⟨j, hj, rfl⟩ := List.getElem_of_mem hx
          exact hG.out j hj hj
        subst hb
        clear hG
        go_wp2_with fail
        go_ret
        exact ⟨rfl, hT.old⟩

end

section
open Go.RowKit Go.Lib

theorem get_keep {W w' : World} {B b c g i : Nat} {u v s p q x y z : Value} {t r : TypeId} (hl : Blk W b [u, v, s] t) (hr : Blk W c [p, q] r) (a1 : W.cell? ⟨g, i, none⟩ = some x) (a2 : W.cell? ⟨g, i + 1, none⟩ = some y) (a3 : W.cell? ⟨g, i + 2, none⟩ = some z)
    (lb : b < B) (lc : c < B) (lg : g < B) (h : Below B W w') :
    w'.cell? ⟨b, 0, none⟩ = some u ∧ w'.cell? ⟨b, 1, none⟩ = some v ∧ w'.cell? ⟨b, 2, none⟩ = some s ∧ w'.cell? ⟨c, 0, none⟩ = some p ∧ w'.cell? ⟨c, 1, none⟩ = some q ∧ w'.cell? ⟨g, i, none⟩ = some x ∧ w'.cell? ⟨g, i + 1, none⟩ = some y ∧ w'.cell? ⟨g, i + 2, none⟩ = some z :=
  ⟨(hl.under h lb).cell 0, (hl.under h lb).cell 1, (hl.under h lb).cell 2, (hr.under h lc).cell 0, (hr.under h lc).cell 1, (h.cell (p := ⟨g, i, none⟩) lg).trans a1, (h.cell (p := ⟨g, i + 1, none⟩) lg).trans a2, (h.cell (p := ⟨g, i + 2, none⟩) lg).trans a3⟩
theorem rindex_b (w x y n : Int) (W : World) (e : Hid (n = indexv w x y)) : Calls Tryz.prog 22 #[.int .i64 w, .agg #[.int .i64 x, .int .i64 y]] W fun e w' => e = .returned (.int .i64 n) ∧ Below W.heap.size W w' := by
  rw [e.out]; exact rindex_any w x y W
theorem rinside_b (m : M3) (s : Value) (x y : Int) (b : Bool) (W : World) (hr : RowAt W s m.cs) (e : Hid (b = insidev m x y)) :
    Calls Tryz.prog 56 #[.agg #[.int .i64 m.w, .int .i64 m.h, s], .agg #[.int .i64 x, .int .i64 y]] W fun e w' => e = .returned (.bool b) ∧ Below W.heap.size W w' := by
  rw [e.out]; exact rinside_any m s x y W hr
set_option maxHeartbeats 2000000 in
theorem rget_no (m : M3) (s : Value) (x y : Int) (W : World) (hr : RowAt W s m.cs) (e : Hid (false = insidev m x y)) :
    Calls Tryz.prog 145 #[.agg #[.int .i64 m.w, .int .i64 m.h, s], .agg #[.int .i64 x, .int .i64 y]] W fun e w' => e = .returned (.tuple #[.agg #[.int .i64 0, .int .i64 0, .int .i64 0], .bool false]) ∧ Below W.heap.size W w' := by
  have hT := (Held2.start W [.int .i64 m.w, .int .i64 m.h, s] [.int .i64 x, .int .i64 y] 24 29).alloc (.cells [Value.int .i64 0, .int .i64 0, .int .i64 0].toArray 53)
  have hB := (Blk.new ((W.alloc (.cells [Value.int .i64 m.w, .int .i64 m.h, s].toArray 24)).alloc (.cells [Value.int .i64 x, .int .i64 y].toArray 29)) [.int .i64 0, .int .i64 0, .int .i64 0] 53).at ((World.size_alloc _ _).trans (congrArg (· + 1) (World.size_alloc _ _)))
  go_enter Tryz.func145, Tryz.ntmps145
  go_wp2_with fail
  ((with_reducible refine (rinside_b m s x y false _ (hr.below hT.old) e).mono ?_); rintro e w1 ⟨rfl, hb⟩)
  replace hT := hT.call hb
  replace hB := hB.below hb
  obtain ⟨_, _, _, _, _, _⟩ := hB.three
  go_wp2_with fail
  have hB2 := ((hB.set 0 (.int .i64 0)).set 1 (.int .i64 0)).set 2 (.int .i64 0)
  obtain ⟨_, _, _, -, -, -⟩ := hB2.three
  refine bodyPost_ret (v := .tuple #[.agg #[.int .i64 0, .int .i64 0, .int .i64 0], .bool false]) (by simp [results, Tryz.results145, go_sem, *]) rfl ⟨rfl, ?_⟩
  exact ((hT.old.setCell (by simp; omega) _).setCell (by simp; omega) _).setCell (by simp; omega) _

/-- The cell at a position inside. -/
theorem get_at {m : M3} {x y : Int} (h : insidev m x y = true) : ∃ n : Nat, ∃ hn : n < m.cs.length, Hid ((n : Int) = indexv m.w x y) ∧ getv m x y = m.cs[n]'hn := by
  obtain ⟨X, Y, a, b, _, _, _, _, _, _, _, _, _, hi, hl⟩ := inside_at h
  refine ⟨b * X + a, hl, hid hi.symm, ?_⟩
  unfold getv
  rw [if_pos h, hi, Int.toNat_natCast, List.getD_eq_getElem?_getD, List.getElem?_eq_getElem hl]
  rfl
set_option maxHeartbeats 2000000 in
theorem rget_yes (m : M3) (s : Value) (x y : Int) (q : C3) (W : World) (hr : RowAt W s m.cs) (e : Hid (true = insidev m x y)) (hq : Hid (q = getv m x y)) :
    Calls Tryz.prog 145 #[.agg #[.int .i64 m.w, .int .i64 m.h, s], .agg #[.int .i64 x, .int .i64 y]] W fun e w' => e = .returned (.tuple #[.agg #[.int .i64 q.k, .int .i64 q.h, .int .i64 q.a], .bool true]) ∧ Below W.heap.size W w' := by
  obtain ⟨n, hn, hix, hg⟩ := get_at e.out.symm
  obtain ⟨p, c, rfl, hm, hc⟩ := id hr
  obtain ⟨g, o, rfl, hat⟩ := hc (by omega)
  obtain ⟨a1, a2, a3⟩ := hat n hn
  rw [← hg, ← hq.out] at a1 a2 a3
  have n1 : (0 : Int) ≤ n := by omega
  have n2 : (n : Int) < m.cs.length := by omega
  have hk : g < W.heap.size := World.block_lt_of_cell? W _ a1
  clear hat hc hg hq
  have hl := (Blk.new W [.int .i64 m.w, .int .i64 m.h, .slice (some ⟨g, o, none⟩) m.cs.length c] 24).alloc (.cells [Value.int .i64 x, .int .i64 y].toArray 29)
  have hr2 := (Blk.new (W.alloc (.cells [Value.int .i64 m.w, .int .i64 m.h, .slice (some ⟨g, o, none⟩) m.cs.length c].toArray 24)) [.int .i64 x, .int .i64 y] 29).at (World.size_alloc _ _)
  have hB := (Blk.new ((W.alloc (.cells [Value.int .i64 m.w, .int .i64 m.h, .slice (some ⟨g, o, none⟩) m.cs.length c].toArray 24)).alloc (.cells [Value.int .i64 x, .int .i64 y].toArray 29)) [.int .i64 0, .int .i64 0, .int .i64 0] 53).at ((World.size_alloc _ _).trans (congrArg (· + 1) (World.size_alloc _ _)))
  have hL := (((Below.refl W.heap.size W).alloc (Nat.le_refl _) (.cells [Value.int .i64 m.w, .int .i64 m.h, .slice (some ⟨g, o, none⟩) m.cs.length c].toArray 24)).alloc (by simp) (.cells [Value.int .i64 x, .int .i64 y].toArray 29)).alloc (by simp; omega) (.cells [Value.int .i64 0, .int .i64 0, .int .i64 0].toArray 53)
  replace hl := hl.alloc (.cells [Value.int .i64 0, .int .i64 0, .int .i64 0].toArray 53)
  replace hr2 := hr2.alloc (.cells [Value.int .i64 0, .int .i64 0, .int .i64 0].toArray 53)
  rw [← hL.cell (p := ⟨g, _, none⟩) hk] at a1 a2 a3
  have hr3 := hr.below hL
  go_enter Tryz.func145, Tryz.ntmps145
  go_wp2_with fail
  generalize ((W.alloc (.cells [Value.int .i64 m.w, .int .i64 m.h, .slice (some ⟨g, o, none⟩) m.cs.length c].toArray 24)).alloc (.cells [Value.int .i64 x, .int .i64 y].toArray 29)).alloc (.cells [Value.int .i64 0, .int .i64 0, .int .i64 0].toArray 53) = V at *
  ((with_reducible refine (rinside_b m _ x y true _ hr3 e).mono ?_); rintro e w1 ⟨rfl, hb⟩)
  have hq := hb.mono (Nat.le_of_lt hB.lt)
  have hL2 := below_call hL hb
  have hB2 := hB.below hb
  clear hb
  obtain ⟨_, _, _, _, _, _, _, _⟩ := get_keep hl hr2 a1 a2 a3 (by omega) (by omega) (show g < W.heap.size + 1 + 1 by omega) hq
  replace hq := hq.drew
  replace hL2 := hL2.drew
  replace hB2 := hB2.drew
  obtain ⟨_, _, _, _, _, _⟩ := hB2.three
  go_wp2_with fail
  go_region_held3 (fun w' => w'.cell? ⟨W.heap.size, 0, none⟩ = some (.int .i64 m.w) ∧ w'.cell? ⟨W.heap.size, 1, none⟩ = some (.int .i64 m.h) ∧ w'.cell? ⟨W.heap.size, 2, none⟩ = some (.slice (some ⟨g, o, none⟩) m.cs.length c) ∧ w'.cell? ⟨W.heap.size + 1, 0, none⟩ = some (.int .i64 x) ∧ w'.cell? ⟨W.heap.size + 1, 1, none⟩ = some (.int .i64 y) ∧ w'.cell? ⟨g, o + n * 3, none⟩ = some (.int .i64 q.k) ∧ w'.cell? ⟨g, o + n * 3 + 1, none⟩ = some (.int .i64 q.h) ∧ w'.cell? ⟨g, o + n * 3 + 2, none⟩ = some (.int .i64 q.a))
    (first | exact get_keep hl hr2 a1 a2 a3 (by omega) (by omega) (show g < W.heap.size + 1 + 1 by omega) hq | exact get_keep hl hr2 a1 a2 a3 (by omega) (by omega) (show g < W.heap.size + 1 + 1 by omega) (((hq.setCell (by simp) _).setCell (by simp) _).setCell (by simp) _))
    (first | (go_at_call 22; with_reducible refine (rindex_b _ x y n _ hix).mono ?_; rintro e w' ⟨rfl, hb⟩; replace hq := hq.trans (hb.mono (by have := hB2.lt; omega)); replace hL2 := below_call hL2 hb; replace hB2 := hB2.below hb; clear hb; obtain ⟨_, _, _, _, _, _⟩ := hB2.three))
  go_wp2
  have hB3 := ((hB2.set 0 (.int .i64 q.k)).set 1 (.int .i64 q.h)).set 2 (.int .i64 q.a)
  obtain ⟨_, _, _, -, -, -⟩ := hB3.three
  refine bodyPost_ret (v := .tuple #[.agg #[.int .i64 q.k, .int .i64 q.h, .int .i64 q.a], .bool true]) (by simp [results, Tryz.results145, go_sem, *]) rfl ⟨rfl, ?_⟩
  exact ((hL2.setCell (by simp; omega) _).setCell (by simp; omega) _).setCell (by simp; omega) _

end

section
open Go.RowKit Go.Lib

theorem rget_b (m : M3) (s : Value) (x y : Int) (q : C3) (b : Bool) (W : World) (hr : RowAt W s m.cs) (e : Hid (b = insidev m x y)) (hq : Hid (q = getv m x y)) :
    Calls Tryz.prog 145 #[.agg #[.int .i64 m.w, .int .i64 m.h, s], .agg #[.int .i64 x, .int .i64 y]] W fun e w' => e = .returned (.tuple #[.agg #[.int .i64 q.k, .int .i64 q.h, .int .i64 q.a], .bool b]) ∧ Below W.heap.size W w' := by
  cases b with
  | true => exact rget_yes m s x y q W hr e hq
  | false =>
    have h : q = C3.zero := by rw [hq.out]; unfold getv; rw [← e.out]; rfl
    subst h
    exact rget_no m s x y W hr e

set_option maxHeartbeats 2000000 in
theorem rpass_b (m : M3) (s : Value) (c x y : Int) (b : Bool) (W : World) (hr : RowAt W s m.cs) (e : Hid (b = passv m c x y)) :
    Calls Tryz.prog 120 #[.agg #[.int .i64 m.w, .int .i64 m.h, s], .int .i64 c, .agg #[.int .i64 x, .int .i64 y]] W fun e w' => e = .returned (.bool b) ∧ Below W.heap.size W w' := by
  obtain ⟨q, hq⟩ : ∃ q, Hid (q = getv m x y) := ⟨_, hid rfl⟩
  obtain ⟨i, hi⟩ : ∃ i, Hid (i = insidev m x y) := ⟨_, hid rfl⟩
  have hb : b = if c = 1 then i && decide (q.k = 1 ∨ q.k = 5) else if c = 2 then i && decide (q.k = 1 ∨ q.k = 5 ∨ q.k = 2) else if c = 3 then i else false := by rw [e.out, hi.out, hq.out]; rfl
  clear e
  have hT := Held2.start W [.int .i64 m.w, .int .i64 m.h, s] [.int .i64 x, .int .i64 y] 24 29
  have hr' := hr.below hT.old
  go_enter Tryz.func120, Tryz.ntmps120
  go_wp2_with fail
  ((with_reducible refine (rget_b m s x y q i _ hr' hi hq).mono ?_); rintro e w1 ⟨rfl, hb1⟩)
  have hL := hT.old.trans (hb1.mono hT.old.size)
  have hC := Blk.new w1 [.int .i64 q.k, .int .i64 q.h, .int .i64 q.a] 53
  have hs := hL.size
  obtain ⟨_, _, _, _, _, _⟩ := hC.three
  by_cases c1 : c = 1
  · subst c1
    cases i with
    | false =>
      go_wp2_with fail
      go_ret
      exact ⟨ret_bit (by rw [hb]; rfl), hL.alloc hs _⟩
    | true =>
      by_cases h1 : q.k = 1
      · have z : (q.k == 1) = true := by rw [h1]; rfl
        go_wp2_with fail
        go_ret
        exact ⟨ret_bit (by rw [hb]; simp [h1]), hL.alloc hs _⟩
      · have z : (q.k == 1) = false := beq_eq_false_iff_ne.2 h1
        go_wp2_with fail
        go_ret
        exact ⟨ret_bit (by rw [hb]; simp [h1]; rfl), hL.alloc hs _⟩
  · have y1 : (c == 1) = false := beq_eq_false_iff_ne.2 c1
    by_cases c2 : c = 2
    · subst c2
      cases i with
      | false =>
        go_wp2_with fail
        go_ret
        exact ⟨ret_bit (by rw [hb]; rfl), hL.alloc hs _⟩
      | true =>
        by_cases h1 : q.k = 1
        · have z : (q.k == 1) = true := by rw [h1]; rfl
          go_wp2_with fail
          go_ret
          exact ⟨ret_bit (by rw [hb]; simp [h1]), hL.alloc hs _⟩
        · have z : (q.k == 1) = false := beq_eq_false_iff_ne.2 h1
          by_cases h5 : q.k = 5
          · have z5 : (q.k == 5) = true := by rw [h5]; rfl
            go_wp2_with fail
            go_ret
            exact ⟨ret_bit (by rw [hb]; simp [h5]), hL.alloc hs _⟩
          · have z5 : (q.k == 5) = false := beq_eq_false_iff_ne.2 h5
            go_wp2_with fail
            go_ret
            exact ⟨ret_bit (by rw [hb]; simp [h1, h5]; rfl), hL.alloc hs _⟩
    · have y2 : (c == 2) = false := beq_eq_false_iff_ne.2 c2
      rw [if_neg c1, if_neg c2] at hb
      by_cases c3 : c = 3
      · subst c3
        go_wp2_with fail
        go_ret
        exact ⟨ret_bit (by rw [hb]; rfl), hL.alloc hs _⟩
      · have y3 : (c == 3) = false := beq_eq_false_iff_ne.2 c3
        go_wp2_with fail
        go_ret
        exact ⟨ret_bit (by rw [hb, if_neg c3]), hL.alloc hs _⟩

end

end Go.Proofs.YtpgchjhfhndaaaaGreatDoor
