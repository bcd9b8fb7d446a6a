/-
  What the reference of terrain answers: two positions near each other.
-/
import Derived.Test.YtlpccjklgbfpaaaDoorTerE
namespace Go.Proofs.YtlpccjklgbfpaaaDoor
open Go.RowKit Go.Lib

/-- The heights of a map are numbers of 64 bits. -/
def HighAt (m : M3) : Prop := ∀ c ∈ m.cs, I64 c.h
theorem HighAt.get {m : M3} (h : HighAt m) (x y : Int) : I64 (getv m x y).h := by
  unfold getv
  split
  · next hi =>
    obtain ⟨n, hn, _, e⟩ := get_at hi
    unfold getv at e
    rw [if_pos hi] at e
    rw [e]
    exact h _ (List.getElem_mem hn)
  · exact ⟨by decide, by decide⟩

set_option maxHeartbeats 2000000 in
theorem rnear_b (m : M3) (s : Value) (bl : List Bool) (l : Value) (c x y u v : Int) (b : Bool) (W : World) (hh : HighAt m) (hr : RowAt W s m.cs) (hl : BitsAt W l bl) (e : Hid (b = nearv m bl c x y u v)) :
    Calls Tryd.prog 48 #[.agg #[.int .i64 m.w, .int .i64 m.h, s], l, .int .i64 c, .agg #[.int .i64 x, .int .i64 y], .agg #[.int .i64 u, .int .i64 v]] W fun e w' => e = .returned (.bool b) ∧ Below W.heap.size W w' := by
  obtain ⟨o1, h1⟩ : ∃ i, Hid (i = openv m bl c x y) := ⟨_, hid rfl⟩
  obtain ⟨o2, h2⟩ : ∃ i, Hid (i = openv m bl c u v) := ⟨_, hid rfl⟩
  obtain ⟨q1, hq1⟩ : ∃ q, Hid (q = getv m x y) := ⟨_, hid rfl⟩
  obtain ⟨q2, hq2⟩ : ∃ q, Hid (q = getv m u v) := ⟨_, hid rfl⟩
  obtain ⟨i1, hi1⟩ : ∃ i, Hid (i = insidev m x y) := ⟨_, hid rfl⟩
  obtain ⟨i2, hi2⟩ : ∃ i, Hid (i = insidev m u v) := ⟨_, hid rfl⟩
  obtain ⟨r, hrv⟩ : ∃ r, Hid (r = risev q1.h q2.h) := ⟨_, hid rfl⟩
  have k1 : I64 q1.h := by rw [hq1.out]; exact hh.get x y
  have k2 : I64 q2.h := by rw [hq2.out]; exact hh.get u v
  have hb : b = (o1 && o2 && (decide (c = 3) || decide (r < 2))) := by rw [e.out, hrv.out, h1.out, h2.out, hq1.out, hq2.out]; rfl
  clear e
  have hK := (((Keep.nil W).alloc [.int .i64 m.w, .int .i64 m.h, s] 24).alloc [.int .i64 x, .int .i64 y] 26).alloc [.int .i64 u, .int .i64 v] 26
  have hr' := hr.below hK.old
  have hl' := hl.below hK.old
  simp only [World.size_alloc] at hK
  go_enter Tryd.func48, Tryd.ntmps48
  cases o1 with
  | false =>
    subst hb
    go_wp2_with fail
    ((with_reducible refine (ropen_b m s bl l c x y false _ hr' hl' h1).mono ?_); rintro e w1 ⟨rfl, hb1⟩)
    replace hK := hK.call hb1
    go_wp2_with fail
    go_ret
    exact ⟨rfl, hK.old⟩
  | true =>
    go_wp2_with fail
    ((with_reducible refine (ropen_b m s bl l c x y true _ hr' hl' h1).mono ?_); rintro e w1 ⟨rfl, hb1⟩)
    replace hK := hK.call hb1
    replace hr' := hr'.below hb1
    replace hl' := hl'.below hb1
    obtain ⟨hU, hP, hM⟩ := hK.three
    obtain ⟨_, _, _, _, _, _⟩ := hM.three
    obtain ⟨_, _, _, _⟩ := hP.two
    obtain ⟨_, _, _, _⟩ := hU.two
    cases o2 with
    | false =>
      subst hb
      go_wp2_with fail
      ((with_reducible refine (ropen_b m s bl l c u v false _ hr' hl' h2).mono ?_); rintro e w2 ⟨rfl, hb2⟩)
      replace hK := hK.call hb2
      go_wp2_with fail
      go_ret
      exact ⟨rfl, hK.old⟩
    | true =>
      go_wp2_with fail
      ((with_reducible refine (ropen_b m s bl l c u v true _ hr' hl' h2).mono ?_); rintro e w2 ⟨rfl, hb2⟩)
      replace hK := hK.call hb2
      replace hr' := hr'.below hb2
      clear hl' hl h1 h2
      obtain ⟨hU, hP, hM⟩ := hK.three
      obtain ⟨_, _, _, _, _, _⟩ := hM.three
      obtain ⟨_, _, _, _⟩ := hP.two
      obtain ⟨_, _, _, _⟩ := hU.two
      go_wp2_with fail
      ((with_reducible refine (rget_b m s x y q1 i1 _ hr' hi1 hq1).mono ?_); rintro e w3 ⟨rfl, hb3⟩)
      replace hK := hK.call hb3
      replace hr' := hr'.below hb3
      replace hK := hK.alloc [.int .i64 q1.k, .int .i64 q1.h, .int .i64 q1.a] 28
      obtain ⟨hC, hU, hP, hM⟩ := hK.four
      obtain ⟨_, _, _, _, _, _⟩ := hM.three
      obtain ⟨_, _, _, _⟩ := hP.two
      obtain ⟨_, _, _, _⟩ := hU.two
      replace hr' := hr'.below ((Below.refl w3.heap.size w3).alloc (Nat.le_refl _) (.cells [Value.int .i64 q1.k, .int .i64 q1.h, .int .i64 q1.a].toArray 28))
      go_wp2_with fail
      ((with_reducible refine (rget_b m s u v q2 i2 _ hr' hi2 hq2).mono ?_); rintro e w4 ⟨rfl, hb4⟩)
      replace hK := hK.call hb4
      replace hC := (hC.below hb4).alloc (.cells [Value.int .i64 q2.k, .int .i64 q2.h, .int .i64 q2.a].toArray 28)
      have hD := Blk.new w4 [.int .i64 q2.k, .int .i64 q2.h, .int .i64 q2.a] 28
      replace hK := hK.other (.cells [Value.int .i64 q2.k, .int .i64 q2.h, .int .i64 q2.a].toArray 28)
      obtain ⟨_, _, _, _, _, _⟩ := hC.three
      obtain ⟨_, _, _, _, _, _⟩ := hD.three
      by_cases c3 : c = 3
      · subst c3
        go_wp2_with fail
        go_ret
        exact ⟨ret_bit (by rw [hb]; rfl), hK.old⟩
      · have z3 : (c == 3) = false := beq_eq_false_iff_ne.2 c3
        rw [decide_eq_false c3, Bool.false_or, Bool.true_and, Bool.true_and] at hb
        go_wp2_with fail
        ((with_reducible refine (rrise_any q1.k q1.h q1.a q2.k q2.h q2.a r _ k1 k2 hrv).mono ?_); rintro e w5 ⟨rfl, hb5⟩)
        replace hK := hK.call hb5
        go_wp2_with fail
        go_ret
        exact ⟨ret_bit (by rw [hb]), hK.old⟩

end Go.Proofs.YtlpccjklgbfpaaaDoor
