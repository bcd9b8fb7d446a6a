/-
  What the functions of terrain answer: cells and maps.
-/
import Derived.Test.YtpgchjhfhndaaaaGreatDoorGridLand
import Derived.Test.YtpgchjhfhndaaaaGreatDoorTerRefA
import Derived.Deep.Cut
import Derived.Test.YtpgchjhfhndaaaaGreatDoorTerRefH
namespace Go.Proofs.YtpgchjhfhndaaaaGreatDoor

section
open Go.RowKit Go.Lib

set_option maxHeartbeats 400000 in
theorem dkind_b (k : Int) (b : Bool) (W : World) (e : Hid (b = decide (1 ≤ k ∧ k ≤ 5))) :
    Calls Tryz.prog 176 #[.int .i64 k] W fun e w' => e = .returned (.bool b) ∧ W = w' := by
  have e := e.out
  by_cases h1 : 1 ≤ k
  · have z1 : decide (1 ≤ k) = true := decide_eq_true h1
    go_enter Tryz.func176, Tryz.ntmps176
    go_wp2_with fail
    go_ret
    exact ⟨ret_bit (by rw [e]; exact decide_eq_decide.2 (by omega)), rfl⟩
  · have z1 : decide (1 ≤ k) = false := decide_eq_false h1
    go_enter Tryz.func176, Tryz.ntmps176
    go_wp2_with fail
    go_ret
    exact ⟨ret_bit (by first | rfl | (rw [e]; exact (decide_eq_false (by omega)).symm)), rfl⟩
set_option maxHeartbeats 400000 in
theorem dres_b (k : Int) (b : Bool) (W : World) (e : Hid (b = decide (k = 4 ∨ k = 5))) :
    Calls Tryz.prog 177 #[.int .i64 k] W fun e w' => e = .returned (.bool b) ∧ W = w' := by
  have e := e.out
  by_cases h1 : k = 4
  · have z1 : (k == 4) = true := by rw [h1]; rfl
    go_enter Tryz.func177, Tryz.ntmps177
    go_wp2_with fail
    go_ret
    exact ⟨ret_bit (by rw [e]; exact (decide_eq_true (Or.inl h1)).symm), rfl⟩
  · have z1 : (k == 4) = false := beq_eq_false_iff_ne.2 h1
    go_enter Tryz.func177, Tryz.ntmps177
    go_wp2_with fail
    go_ret
    exact ⟨ret_bit (by rw [e]; simp [h1]; rfl), rfl⟩

set_option maxHeartbeats 2000000 in
theorem dinvalid_any (k h a : Int) (W : World) :
    Calls Tryz.prog 137 #[.agg #[.int .i64 k, .int .i64 h, .int .i64 a]] W fun e w' => e = .returned (.bool (!validc ⟨k, h, a⟩)) ∧ Below W.heap.size W w' := by
  have hL := (Below.refl W.heap.size W).alloc (Nat.le_refl _) (.cells #[.int .i64 k, .int .i64 h, .int .i64 a] 53)
  by_cases hk : 1 ≤ k ∧ k ≤ 5
  · have c1 := dkind_b k true
    have hk' := hid (decide_eq_true hk).symm
    by_cases hh : 0 ≤ h ∧ h ≤ 3
    · obtain ⟨h0, h1⟩ := hh
      have z3 : decide (h < 0) = false := decide_eq_false (by omega)
      have z4 : decide (3 < h) = false := decide_eq_false (by omega)
      by_cases ha : 0 ≤ a ∧ a ≤ 1000000
      · obtain ⟨a0, a1⟩ := ha
        have z5 : decide (a < 0) = false := decide_eq_false (by omega)
        have z6 : decide (1000000 < a) = false := decide_eq_false (by omega)
        obtain ⟨r, hr⟩ : ∃ r, Hid (r = decide (k = 4 ∨ k = 5)) := ⟨_, hid rfl⟩
        obtain ⟨p, hp⟩ : ∃ p, p = decide (0 < a) := ⟨_, rfl⟩
        have hv : (!validc ⟨k, h, a⟩) = (p != r) := by unfold validc; rw [decide_eq_true (show 1 ≤ k ∧ k ≤ 5 ∧ 0 ≤ h ∧ h ≤ 3 ∧ 0 ≤ a ∧ a ≤ 1000000 by omega), Bool.true_and, hr.out, hp]; rfl
        rw [hv]
        clear hv
        go_enter Tryz.func137, Tryz.ntmps137
        go_wp2_with fail
        ((with_reducible refine (c1 _ hk').mono ?_); rintro e w1 ⟨rfl, hw⟩)
        rw [← hw]
        clear hw
        go_wp2_with fail
        go_region_held3 (fun w' => w'.cell? ⟨W.heap.size, 0, none⟩ = some (.int .i64 k) ∧ w'.cell? ⟨W.heap.size, 2, none⟩ = some (.int .i64 a)) (go_keep)
          (first | (go_at_call 177; with_reducible refine (dres_b k r _ hr).mono ?_; rintro e w' ⟨rfl, rfl⟩))
        go_wp2_with fail
        go_ret
        exact ⟨ret_bit (by rw [hp]; rfl), hL.drew⟩
      · have hv : (!validc ⟨k, h, a⟩) = true := by unfold validc; rw [decide_eq_false (show ¬ (1 ≤ k ∧ k ≤ 5 ∧ 0 ≤ h ∧ h ≤ 3 ∧ 0 ≤ a ∧ a ≤ 1000000) by omega)]; rfl
        rw [hv]
        clear hv
        go_enter Tryz.func137, Tryz.ntmps137
        go_wp2_with fail
        ((with_reducible refine (c1 _ hk').mono ?_); rintro e w1 ⟨rfl, hw⟩)
        rw [← hw]
        clear hw
        go_wp2
        all_goals first
          | (exfalso; omega)
          | (go_ret; exact ⟨rfl, hL⟩)
    · have hv : (!validc ⟨k, h, a⟩) = true := by unfold validc; rw [decide_eq_false (show ¬ (1 ≤ k ∧ k ≤ 5 ∧ 0 ≤ h ∧ h ≤ 3 ∧ 0 ≤ a ∧ a ≤ 1000000) by omega)]; rfl
      rw [hv]
      clear hv
      go_enter Tryz.func137, Tryz.ntmps137
      go_wp2_with fail
      ((with_reducible refine (c1 _ hk').mono ?_); rintro e w1 ⟨rfl, hw⟩)
      rw [← hw]
      clear hw
      by_cases h0 : h < 0
      · go_wp2_with fail
        go_ret
        exact ⟨rfl, hL⟩
      · have z4 : decide (3 < h) = true := decide_eq_true (by omega)
        go_wp2_with fail
        go_ret
        exact ⟨rfl, hL⟩
  · have c1 := dkind_b k false
    have hk' := hid (decide_eq_false hk).symm
    have hv : (!validc ⟨k, h, a⟩) = true := by unfold validc; rw [decide_eq_false (show ¬ (1 ≤ k ∧ k ≤ 5 ∧ 0 ≤ h ∧ h ≤ 3 ∧ 0 ≤ a ∧ a ≤ 1000000) by omega)]; rfl
    rw [hv]
    clear hv
    go_enter Tryz.func137, Tryz.ntmps137
    go_wp2_with fail
    ((with_reducible refine (c1 _ hk').mono ?_); rintro e w1 ⟨rfl, hw⟩)
    rw [← hw]
    clear hw
    go_wp2_with fail
    go_ret
    exact ⟨rfl, hL⟩
theorem dinvalid_b (c : C3) (b : Bool) (W : World) (e : Hid (b = validc c)) : Calls Tryz.prog 137 #[.agg #[.int .i64 c.k, .int .i64 c.h, .int .i64 c.a]] W fun e w' => e = .returned (.bool (!b)) ∧ Below W.heap.size W w' := by
  rw [e.out]; exact dinvalid_any c.k c.h c.a W

set_option maxHeartbeats 1000000 in
theorem dformed_any (m : M3) (s : Value) (W : World) (hr : RowAt W s m.cs) :
    Calls Tryz.prog 135 #[mapV m s] W fun e w' => e = .returned (.bool (formedv m)) ∧ Below W.heap.size W w' := by
  obtain ⟨w, h, cs⟩ := m
  obtain ⟨p, c, rfl, hm, -⟩ := hr
  unfold maxLen at hm
  show Calls Tryz.prog 135 #[.agg #[.int .i64 w, .int .i64 h, .slice p cs.length c]] W _
  dsimp only at hm
  have hc := dvalid_any w h
  cases hv : validv w h with
  | true =>
    have hf : formedv ⟨w, h, cs⟩ = decide ((cs.length : Int) = w * h) := by unfold formedv; rw [hv, Bool.true_and]
    have hd := hv
    unfold validv at hd
    have hd := of_decide_eq_true hd
    obtain ⟨X, rfl⟩ := Int.eq_ofNat_of_zero_le (show 0 ≤ w by omega)
    obtain ⟨Y, rfl⟩ := Int.eq_ofNat_of_zero_le (show 0 ≤ h by omega)
    have hxy : X * Y ≤ 32 * 32 := Nat.mul_le_mul (by omega) (by omega)
    have e : (X : Int) * Y = ((X * Y : Nat) : Int) := by simp
    have ew : IntKind.i64.wrap ((X : Int) * Y) = (X : Int) * Y := IntWalk.i64_in _ (by rw [e]; omega)
    rw [hv] at hc
    rw [hf]
    clear e
    go_enter Tryz.func135, Tryz.ntmps135
    go_wp2_with fail
    ((with_reducible refine (hc _).mono ?_); rintro e w1 ⟨rfl, hw⟩)
    rw [← hw]
    clear hw
    go_wp2_with fail
    go_ret
    exact ⟨ret_bit (by rfl), (Below.refl _ _).alloc (Nat.le_refl _) _⟩
  | false =>
    have hf : formedv ⟨w, h, cs⟩ = false := by unfold formedv; rw [hv, Bool.false_and]
    rw [hv] at hc
    rw [hf]
    go_enter Tryz.func135, Tryz.ntmps135
    go_wp2_with fail
    ((with_reducible refine (hc _).mono ?_); rintro e w1 ⟨rfl, hw⟩)
    rw [← hw]
    clear hw
    go_wp2_with fail
    go_ret
    exact ⟨rfl, (Below.refl _ _).alloc (Nat.le_refl _) _⟩

theorem din_b (w h x y : Int) (b : Bool) (W : World) (e : Hid (b = inv w h x y)) : Calls Tryz.prog 89 #[.int .i64 w, .int .i64 h, .agg #[.int .i64 x, .int .i64 y]] W fun e w' => e = .returned (.bool b) ∧ Below W.heap.size W w' := by
  rw [e.out]; exact din_any w h x y W
set_option maxHeartbeats 1000000 in
theorem dinside_b (m : M3) (s : Value) (x y : Int) (b : Bool) (W : World) (hr : RowAt W s m.cs) (e : Hid (b = insidev m x y)) :
    Calls Tryz.prog 186 #[.agg #[.int .i64 m.w, .int .i64 m.h, s], .agg #[.int .i64 x, .int .i64 y]] W fun e w' => e = .returned (.bool b) ∧ Below W.heap.size W w' := by
  have hT := Held2.start W [.int .i64 m.w, .int .i64 m.h, s] [.int .i64 x, .int .i64 y] 24 29
  have hF := dformed_any m s _ (hr.below hT.old)
  have hI : b = (formedv m && inv m.w m.h x y) := e.out
  rw [hI]
  clear hI e
  unfold mapV at hF
  cases hf : formedv m with
  | true =>
    rw [hf] at hF
    rw [Bool.true_and]
    obtain ⟨b, hb⟩ : ∃ b, Hid (b = inv m.w m.h x y) := ⟨_, hid rfl⟩
    rw [← hb.out]
    go_enter Tryz.func186, Tryz.ntmps186
    go_wp2_with fail
    (refine hF.mono ?_; rintro e w1 ⟨rfl, hb1⟩)
    replace hT := hT.call hb1
    obtain ⟨_, _, _, _, _, _⟩ := hT.l.three
    obtain ⟨_, _, _, _⟩ := hT.r.two
    go_wp2_with fail
    ((with_reducible refine (din_b m.w m.h x y b _ hb).mono ?_); rintro e w2 ⟨rfl, hb2⟩)
    go_wp2_with fail
    go_ret
    exact ⟨rfl, below_call hT.old hb2⟩
  | false =>
    rw [hf] at hF
    rw [Bool.false_and]
    go_enter Tryz.func186, Tryz.ntmps186
    go_wp2_with fail
    (refine hF.mono ?_; rintro e w1 ⟨rfl, hb1⟩)
    go_wp2_with fail
    go_ret
    exact ⟨rfl, below_call hT.old hb1⟩

end

section
open Go.RowKit Go.Lib

theorem dindex_b (w x y n : Int) (W : World) (e : Hid (n = indexv w x y)) : Calls Tryz.prog 43 #[.int .i64 w, .agg #[.int .i64 x, .int .i64 y]] W fun e w' => e = .returned (.int .i64 n) ∧ Below W.heap.size W w' := by
  rw [e.out]; exact dindex_any w x y W
set_option maxHeartbeats 2000000 in
theorem dget_no (m : M3) (s : Value) (x y : Int) (W : World) (hr : RowAt W s m.cs) (e : Hid (false = insidev m x y)) :
    Calls Tryz.prog 164 #[.agg #[.int .i64 m.w, .int .i64 m.h, s], .agg #[.int .i64 x, .int .i64 y]] W fun e w' => e = .returned (.tuple #[.agg #[.int .i64 0, .int .i64 0, .int .i64 0], .bool false]) ∧ Below W.heap.size W w' := by
  have hT := (Held2.start W [.int .i64 m.w, .int .i64 m.h, s] [.int .i64 x, .int .i64 y] 24 29).alloc (.cells [Value.int .i64 0, .int .i64 0, .int .i64 0].toArray 53)
  have hB := (Blk.new ((W.alloc (.cells [Value.int .i64 m.w, .int .i64 m.h, s].toArray 24)).alloc (.cells [Value.int .i64 x, .int .i64 y].toArray 29)) [.int .i64 0, .int .i64 0, .int .i64 0] 53).at ((World.size_alloc _ _).trans (congrArg (· + 1) (World.size_alloc _ _)))
  go_enter Tryz.func164, Tryz.ntmps164
  go_wp2_with fail
  ((with_reducible refine (dinside_b m s x y false _ (hr.below hT.old) e).mono ?_); rintro e w1 ⟨rfl, hb⟩)
  replace hT := hT.call hb
  replace hB := hB.below hb
  obtain ⟨_, _, _, _, _, _⟩ := hB.three
  go_wp2_with fail
  have hB2 := ((hB.set 0 (.int .i64 0)).set 1 (.int .i64 0)).set 2 (.int .i64 0)
  obtain ⟨_, _, _, -, -, -⟩ := hB2.three
  refine bodyPost_ret (v := .tuple #[.agg #[.int .i64 0, .int .i64 0, .int .i64 0], .bool false]) (by simp [results, Tryz.results164, go_sem, *]) rfl ⟨rfl, ?_⟩
  exact ((hT.old.setCell (by simp; omega) _).setCell (by simp; omega) _).setCell (by simp; omega) _

set_option maxHeartbeats 2000000 in
theorem dget_yes (m : M3) (s : Value) (x y : Int) (q : C3) (W : World) (hr : RowAt W s m.cs) (e : Hid (true = insidev m x y)) (hq : Hid (q = getv m x y)) :
    Calls Tryz.prog 164 #[.agg #[.int .i64 m.w, .int .i64 m.h, s], .agg #[.int .i64 x, .int .i64 y]] W fun e w' => e = .returned (.tuple #[.agg #[.int .i64 q.k, .int .i64 q.h, .int .i64 q.a], .bool true]) ∧ Below W.heap.size W w' := by
  obtain ⟨n, hn, hix, hg⟩ := get_at e.out.symm
  obtain ⟨p, c, rfl, hm, hc⟩ := id hr
  obtain ⟨g, o, rfl, hat⟩ := hc (by omega)
  obtain ⟨a1, a2, a3⟩ := hat n hn
  rw [← hg, ← hq.out] at a1 a2 a3
  have n1 : (0 : Int) ≤ n := by omega
  have n2 : (n : Int) < m.cs.length := by omega
  have hk : g < W.heap.size := World.block_lt_of_cell? W _ a1
  clear hat hc hg hq
  have hl := (Blk.new W [.int .i64 m.w, .int .i64 m.h, .slice (some ⟨g, o, none⟩) m.cs.length c] 24).alloc (.cells [Value.int .i64 x, .int .i64 y].toArray 29)
  have hr2 := (Blk.new (W.alloc (.cells [Value.int .i64 m.w, .int .i64 m.h, .slice (some ⟨g, o, none⟩) m.cs.length c].toArray 24)) [.int .i64 x, .int .i64 y] 29).at (World.size_alloc _ _)
  have hB := (Blk.new ((W.alloc (.cells [Value.int .i64 m.w, .int .i64 m.h, .slice (some ⟨g, o, none⟩) m.cs.length c].toArray 24)).alloc (.cells [Value.int .i64 x, .int .i64 y].toArray 29)) [.int .i64 0, .int .i64 0, .int .i64 0] 53).at ((World.size_alloc _ _).trans (congrArg (· + 1) (World.size_alloc _ _)))
  have hL := (((Below.refl W.heap.size W).alloc (Nat.le_refl _) (.cells [Value.int .i64 m.w, .int .i64 m.h, .slice (some ⟨g, o, none⟩) m.cs.length c].toArray 24)).alloc (by simp) (.cells [Value.int .i64 x, .int .i64 y].toArray 29)).alloc (by simp; omega) (.cells [Value.int .i64 0, .int .i64 0, .int .i64 0].toArray 53)
  replace hl := hl.alloc (.cells [Value.int .i64 0, .int .i64 0, .int .i64 0].toArray 53)
  replace hr2 := hr2.alloc (.cells [Value.int .i64 0, .int .i64 0, .int .i64 0].toArray 53)
  rw [← hL.cell (p := ⟨g, _, none⟩) hk] at a1 a2 a3
  have hr3 := hr.below hL
  go_enter Tryz.func164, Tryz.ntmps164
  go_wp2_with fail
  generalize ((W.alloc (.cells [Value.int .i64 m.w, .int .i64 m.h, .slice (some ⟨g, o, none⟩) m.cs.length c].toArray 24)).alloc (.cells [Value.int .i64 x, .int .i64 y].toArray 29)).alloc (.cells [Value.int .i64 0, .int .i64 0, .int .i64 0].toArray 53) = V at *
  ((with_reducible refine (dinside_b m _ x y true _ hr3 e).mono ?_); rintro e w1 ⟨rfl, hb⟩)
  have hq := hb.mono (Nat.le_of_lt hB.lt)
  have hL2 := below_call hL hb
  have hB2 := hB.below hb
  clear hb
  obtain ⟨_, _, _, _, _, _, _, _⟩ := get_keep hl hr2 a1 a2 a3 (by omega) (by omega) (show g < W.heap.size + 1 + 1 by omega) hq
  replace hq := hq.drew
  replace hL2 := hL2.drew
  replace hB2 := hB2.drew
  obtain ⟨_, _, _, _, _, _⟩ := hB2.three
  go_wp2_with fail
  go_region_held3 (fun w' => w'.cell? ⟨W.heap.size, 0, none⟩ = some (.int .i64 m.w) ∧ w'.cell? ⟨W.heap.size, 1, none⟩ = some (.int .i64 m.h) ∧ w'.cell? ⟨W.heap.size, 2, none⟩ = some (.slice (some ⟨g, o, none⟩) m.cs.length c) ∧ w'.cell? ⟨W.heap.size + 1, 0, none⟩ = some (.int .i64 x) ∧ w'.cell? ⟨W.heap.size + 1, 1, none⟩ = some (.int .i64 y) ∧ w'.cell? ⟨g, o + n * 3, none⟩ = some (.int .i64 q.k) ∧ w'.cell? ⟨g, o + n * 3 + 1, none⟩ = some (.int .i64 q.h) ∧ w'.cell? ⟨g, o + n * 3 + 2, none⟩ = some (.int .i64 q.a))
    (first | exact get_keep hl hr2 a1 a2 a3 (by omega) (by omega) (show g < W.heap.size + 1 + 1 by omega) hq | exact get_keep hl hr2 a1 a2 a3 (by omega) (by omega) (show g < W.heap.size + 1 + 1 by omega) (((hq.setCell (by simp) _).setCell (by simp) _).setCell (by simp) _))
    (first | (go_at_call 43; with_reducible refine (dindex_b _ x y n _ hix).mono ?_; rintro e w' ⟨rfl, hb⟩; replace hq := hq.trans (hb.mono (by have := hB2.lt; omega)); replace hL2 := below_call hL2 hb; replace hB2 := hB2.below hb; clear hb; obtain ⟨_, _, _, _, _, _⟩ := hB2.three))
  go_wp2
  have hB3 := ((hB2.set 0 (.int .i64 q.k)).set 1 (.int .i64 q.h)).set 2 (.int .i64 q.a)
  obtain ⟨_, _, _, -, -, -⟩ := hB3.three
  refine bodyPost_ret (v := .tuple #[.agg #[.int .i64 q.k, .int .i64 q.h, .int .i64 q.a], .bool true]) (by simp [results, Tryz.results164, go_sem, *]) rfl ⟨rfl, ?_⟩
  exact ((hL2.setCell (by simp; omega) _).setCell (by simp; omega) _).setCell (by simp; omega) _

theorem dget_b (m : M3) (s : Value) (x y : Int) (q : C3) (b : Bool) (W : World) (hr : RowAt W s m.cs) (e : Hid (b = insidev m x y)) (hq : Hid (q = getv m x y)) :
    Calls Tryz.prog 164 #[.agg #[.int .i64 m.w, .int .i64 m.h, s], .agg #[.int .i64 x, .int .i64 y]] W fun e w' => e = .returned (.tuple #[.agg #[.int .i64 q.k, .int .i64 q.h, .int .i64 q.a], .bool b]) ∧ Below W.heap.size W w' := by
  cases b with
  | true => exact dget_yes m s x y q W hr e hq
  | false =>
    have h : q = C3.zero := by rw [hq.out]; unfold getv; rw [← e.out]; rfl
    subst h
    exact dget_no m s x y W hr e

set_option maxHeartbeats 2000000 in
/-- The first cell that is not valid. -/
theorem didx_b (cs : List C3) (s : Value) (W : World) (hr : RowAt W s cs) :
    Calls Tryz.prog 175 #[s, .func (.func 137) #[] #[]] W fun e w' => ∃ n : Int, e = .returned (.int .i64 n) ∧ Hid (decide (0 ≤ n) = !cs.all validc) ∧ Below W.heap.size W w' := by
  obtain ⟨p, c, rfl, hm, hc⟩ := id hr
  unfold maxLen at hm
  go_enter Tryz.func175, Tryz.ntmps175
  go_wp2_with fail
  go_loopw [8] (fun vi wr => ∃ i : Nat, vi = .int .i64 i ∧ i ≤ cs.length ∧ Below W.heap.size W wr ∧ Hid (∀ j, (h : j < cs.length) → j < i → validc (cs[j]'h) = true)) (fun vi _ => cs.length - (RowKit.intOf vi).toNat)
  case atStart => exact ⟨0, rfl, by omega, Below.refl _ _, hid (fun j _ h => by omega)⟩
  case round =>
    obtain ⟨i, rfl, hi, hT, hG⟩ := hrel
    by_cases hlt : i < cs.length
    · have d1 : (i : Int) < cs.length := by omega
      obtain ⟨g, o, rfl, hat⟩ := hc (by omega)
      obtain ⟨a1, a2, a3⟩ := hat i hlt
      have hk : g < W.heap.size := World.block_lt_of_cell? W _ a1
      rw [← hT.cell (p := ⟨g, _, none⟩) hk] at a1 a2 a3
      obtain ⟨q, hq⟩ : ∃ q, cs[i]'hlt = q := ⟨_, rfl⟩
      rw [hq] at a1 a2 a3
      obtain ⟨bb, hbb⟩ : ∃ t, Hid (t = validc q) := ⟨_, hid rfl⟩
      clear hat hc hr
      cases bb with
      | true =>
        have hN := hid (show ∀ j, (h : j < cs.length) → j < i + 1 → validc (cs[j]'h) = true from fun j h hj => by
          by_cases e : j < i
          · exact hG.out j h e
          · obtain rfl : j = i := by omega
            rw [hq]; exact hbb.out.symm)
        clear hG
        go_wp2_with (go_at_call 137; with_reducible refine (dinvalid_b q true _ hbb).mono ?_; rintro e w2 ⟨rfl, hb2⟩)
        go_roundw
        case rel => exact ⟨i + 1, by go_num, by omega, below_call hT hb2, hN⟩
        case measure => simp [RowKit.intOf]; omega
      | false =>
        have hA : cs.all validc = false := by
          rw [List.all_eq_false]
          exact ⟨cs[i]'hlt, List.getElem_mem hlt, by rw [hq, ← hbb.out]; simp⟩
        clear hG
        go_wp2_with (go_at_call 137; with_reducible refine (dinvalid_b q false _ hbb).mono ?_; rintro e w2 ⟨rfl, hb2⟩)
        go_ret
        exact ⟨_, rfl, hid (by rw [hA]; exact decide_eq_true (by omega)), below_call hT hb2⟩
    · obtain rfl : i = cs.length := by omega
      have hA : cs.all validc = true := by
        rw [List.all_eq_true]
        intro x hx
        obtain ⟨j, hj, rfl⟩ := List.getElem_of_mem hx
        exact hG.out j hj hj
      clear hG
      go_wp2_with fail
      go_ret
      exact ⟨_, rfl, hid (by rw [hA]; rfl), hT⟩

set_option maxHeartbeats 1000000 in
theorem dany_b (cs : List C3) (s : Value) (b : Bool) (W : World) (hr : RowAt W s cs) (e : Hid (b = cs.all validc)) :
    Calls Tryz.prog 136 #[s, .func (.func 137) #[] #[]] W fun e w' => e = .returned (.bool (!b)) ∧ Below W.heap.size W w' := by
  obtain ⟨p, c, rfl, _, _⟩ := id hr
  go_enter Tryz.func136, Tryz.ntmps136
  go_wp2_with fail
  ((with_reducible refine (didx_b cs _ _ hr).mono ?_); rintro e w1 ⟨n, rfl, hn, hb1⟩)
  go_wp2_with fail
  go_ret
  exact ⟨ret_bit (by rw [e.out]; exact hn.out), hb1⟩

set_option maxHeartbeats 1000000 in
theorem dvalidm_b (m : M3) (s : Value) (b : Bool) (W : World) (hr : RowAt W s m.cs) (e : Hid (b = validm m)) :
    Calls Tryz.prog 87 #[.agg #[.int .i64 m.w, .int .i64 m.h, s]] W fun e w' => e = .returned (.bool b) ∧ Below W.heap.size W w' := by
  have hT := Held1.start W [.int .i64 m.w, .int .i64 m.h, s] 24
  have hF := dformed_any m s _ (hr.below hT.old)
  unfold mapV at hF
  have hI : b = (formedv m && m.cs.all validc) := e.out
  clear e
  cases hf : formedv m with
  | false =>
    rw [hf, Bool.false_and] at hI
    subst hI
    rw [hf] at hF
    go_enter Tryz.func87, Tryz.ntmps87
    go_wp2_with fail
    (refine hF.mono ?_; rintro e w1 ⟨rfl, hb1⟩)
    go_wp2_with fail
    go_ret
    exact ⟨rfl, below_call hT.old hb1⟩
  | true =>
    rw [hf, Bool.true_and] at hI
    have hI' := hid hI
    clear hI
    rw [hf] at hF
    go_enter Tryz.func87, Tryz.ntmps87
    go_wp2_with fail
    (refine hF.mono ?_; rintro e w1 ⟨rfl, hb1⟩)
    replace hT := hT.call hb1
    obtain ⟨_, _, _, _, _, _⟩ := hT.l.three
    clear hb1 hF
    have hr1 := hr.below hT.old
    go_wp2_with fail
    ((with_reducible refine (dany_b m.cs s b _ hr1 hI').mono ?_); rintro e w2 ⟨rfl, hb2⟩)
    go_wp2_with fail
    go_ret
    exact ⟨ret_bit (by simp), below_call hT.old hb2⟩

end

section
open Go.RowKit Go.Lib

/-- A store into a held block. -/
theorem Keep.put {w W : World} {L : List (Nat × List Value × TypeId)} (h : Keep w W L) (b i : Nat) (x : Value) (hb : w.heap.size ≤ b) : Keep w (W.setCell ⟨b, i, none⟩ x) (L.map fun e => if e.1 = b then (e.1, e.2.1.set i x, e.2.2) else e) :=
  ⟨fun e he => by
    obtain ⟨d, hd, rfl⟩ := List.mem_map.1 he
    have k := h.blks d hd
    obtain ⟨n, us, t⟩ := d
    dsimp only at k ⊢
    split
    · next e1 =>
      subst e1
      exact k.set i x
    · next e1 => exact k.other ⟨b, i, none⟩ x e1, h.old.setCell hb x⟩

end

end Go.Proofs.YtpgchjhfhndaaaaGreatDoor
