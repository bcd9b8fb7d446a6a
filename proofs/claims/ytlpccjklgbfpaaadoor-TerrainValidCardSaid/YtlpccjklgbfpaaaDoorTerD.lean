/-
  What the reference of terrain answers: the cell of any position, opaque, passable.
-/
import Derived.Test.YtlpccjklgbfpaaaDoorTerC
namespace Go.Proofs.YtlpccjklgbfpaaaDoor
open Go.RowKit Go.Lib

theorem rget_b (m : M3) (s : Value) (x y : Int) (q : C3) (b : Bool) (W : World) (hr : RowAt W s m.cs) (e : Hid (b = insidev m x y)) (hq : Hid (q = getv m x y)) :
    Calls Tryd.prog 13 #[.agg #[.int .i64 m.w, .int .i64 m.h, s], .agg #[.int .i64 x, .int .i64 y]] W fun e w' => e = .returned (.tuple #[.agg #[.int .i64 q.k, .int .i64 q.h, .int .i64 q.a], .bool b]) ∧ Below W.heap.size W w' := by
  cases b with
  | true => exact rget_yes m s x y q W hr e hq
  | false =>
    have h : q = C3.zero := by rw [hq.out]; unfold getv; rw [← e.out]; rfl
    subst h
    exact rget_no m s x y W hr e

set_option maxHeartbeats 1000000 in
theorem ropaque_b (m : M3) (s : Value) (x y : Int) (b : Bool) (W : World) (hr : RowAt W s m.cs) (e : Hid (b = opaquev m x y)) :
    Calls Tryd.prog 22 #[.agg #[.int .i64 m.w, .int .i64 m.h, s], .agg #[.int .i64 x, .int .i64 y]] W fun e w' => e = .returned (.bool b) ∧ Below W.heap.size W w' := by
  obtain ⟨q, hq⟩ : ∃ q, Hid (q = getv m x y) := ⟨_, hid rfl⟩
  obtain ⟨i, hi⟩ : ∃ i, Hid (i = insidev m x y) := ⟨_, hid rfl⟩
  have hb : b = (!i || decide (q.k = 3 ∨ q.k = 4)) := by rw [e.out, hi.out, hq.out]; rfl
  clear e
  have hT := Held2.start W [.int .i64 m.w, .int .i64 m.h, s] [.int .i64 x, .int .i64 y] 24 26
  have hr' := hr.below hT.old
  go_enter Tryd.func22, Tryd.ntmps22
  go_wp2_with fail
  ((with_reducible refine (rget_b m s x y q i _ hr' hi hq).mono ?_); rintro e w1 ⟨rfl, hb1⟩)
  have hL := hT.old.trans (hb1.mono hT.old.size)
  have hC := Blk.new w1 [.int .i64 q.k, .int .i64 q.h, .int .i64 q.a] 28
  have hs := hL.size
  obtain ⟨_, _, _, _, _, _⟩ := hC.three
  cases i with
  | false =>
    go_wp2_with fail
    go_ret
    exact ⟨ret_bit (by rw [hb]; rfl), hL.alloc hs _⟩
  | true =>
    by_cases h3 : q.k = 3
    · have z : (q.k == 3) = true := by rw [h3]; rfl
      go_wp2_with fail
      go_ret
      exact ⟨ret_bit (by rw [hb]; simp [h3]), hL.alloc hs _⟩
    · have z : (q.k == 3) = false := beq_eq_false_iff_ne.2 h3
      go_wp2_with fail
      go_ret
      exact ⟨ret_bit (by rw [hb]; simp [h3]; rfl), hL.alloc hs _⟩

set_option maxHeartbeats 2000000 in
theorem rpass_b (m : M3) (s : Value) (c x y : Int) (b : Bool) (W : World) (hr : RowAt W s m.cs) (e : Hid (b = passv m c x y)) :
    Calls Tryd.prog 20 #[.agg #[.int .i64 m.w, .int .i64 m.h, s], .int .i64 c, .agg #[.int .i64 x, .int .i64 y]] W fun e w' => e = .returned (.bool b) ∧ Below W.heap.size W w' := by
  obtain ⟨q, hq⟩ : ∃ q, Hid (q = getv m x y) := ⟨_, hid rfl⟩
  obtain ⟨i, hi⟩ : ∃ i, Hid (i = insidev m x y) := ⟨_, hid rfl⟩
  have hb : b = if c = 1 then i && decide (q.k = 1 ∨ q.k = 5) else if c = 2 then i && decide (q.k = 1 ∨ q.k = 5 ∨ q.k = 2) else if c = 3 then i else false := by rw [e.out, hi.out, hq.out]; rfl
  clear e
  have hT := Held2.start W [.int .i64 m.w, .int .i64 m.h, s] [.int .i64 x, .int .i64 y] 24 26
  have hr' := hr.below hT.old
  go_enter Tryd.func20, Tryd.ntmps20
  go_wp2_with fail
  ((with_reducible refine (rget_b m s x y q i _ hr' hi hq).mono ?_); rintro e w1 ⟨rfl, hb1⟩)
  have hL := hT.old.trans (hb1.mono hT.old.size)
  have hC := Blk.new w1 [.int .i64 q.k, .int .i64 q.h, .int .i64 q.a] 28
  have hs := hL.size
  obtain ⟨_, _, _, _, _, _⟩ := hC.three
  by_cases c1 : c = 1
  · subst c1
    cases i with
    | false =>
      go_wp2_with fail
      go_ret
      exact ⟨ret_bit (by rw [hb]; rfl), hL.alloc hs _⟩
    | true =>
      by_cases h1 : q.k = 1
      · have z : (q.k == 1) = true := by rw [h1]; rfl
        go_wp2_with fail
        go_ret
        exact ⟨ret_bit (by rw [hb]; simp [h1]), hL.alloc hs _⟩
      · have z : (q.k == 1) = false := beq_eq_false_iff_ne.2 h1
        go_wp2_with fail
        go_ret
        exact ⟨ret_bit (by rw [hb]; simp [h1]; rfl), hL.alloc hs _⟩
  · have y1 : (c == 1) = false := beq_eq_false_iff_ne.2 c1
    by_cases c2 : c = 2
    · subst c2
      cases i with
      | false =>
        go_wp2_with fail
        go_ret
        exact ⟨ret_bit (by rw [hb]; rfl), hL.alloc hs _⟩
      | true =>
        by_cases h1 : q.k = 1
        · have z : (q.k == 1) = true := by rw [h1]; rfl
          go_wp2_with fail
          go_ret
          exact ⟨ret_bit (by rw [hb]; simp [h1]), hL.alloc hs _⟩
        · have z : (q.k == 1) = false := beq_eq_false_iff_ne.2 h1
          by_cases h5 : q.k = 5
          · have z5 : (q.k == 5) = true := by rw [h5]; rfl
            go_wp2_with fail
            go_ret
            exact ⟨ret_bit (by rw [hb]; simp [h5]), hL.alloc hs _⟩
          · have z5 : (q.k == 5) = false := beq_eq_false_iff_ne.2 h5
            go_wp2_with fail
            go_ret
            exact ⟨ret_bit (by rw [hb]; simp [h1, h5]; rfl), hL.alloc hs _⟩
    · have y2 : (c == 2) = false := beq_eq_false_iff_ne.2 c2
      rw [if_neg c1, if_neg c2] at hb
      by_cases c3 : c = 3
      · subst c3
        go_wp2_with fail
        go_ret
        exact ⟨ret_bit (by rw [hb]; rfl), hL.alloc hs _⟩
      · have y3 : (c == 3) = false := beq_eq_false_iff_ne.2 c3
        go_wp2_with fail
        go_ret
        exact ⟨ret_bit (by rw [hb, if_neg c3]), hL.alloc hs _⟩

end Go.Proofs.YtlpccjklgbfpaaaDoor
