/-
  The laws of occupy: Fits, Fewer.
-/
import Derived.Test.YtoodnblhjopnlaaDoorOcO1
namespace Go.Proofs.YtoodnblhjopnlaaDoor
open Go.RowKit Go.Lib

theorem fits_within {m : M3} {l : List R4} {r : R4} (h : withinv m r = false) : fitsv m l r = false := by unfold fitsv freev; rw [h]; rfl
set_option maxRecDepth 100000 in
set_option maxHeartbeats 8000000 in
theorem law13_fits (m : M3) (s : Value) (l : List R4) (sl : Value) (r : R4) (W : World) (hE : EnvT W) (hr : RowAt W s m.cs) (hl : RecsAt W sl l) :
    Calls Tryd.prog 5 #[.agg #[.int .i64 m.w, .int .i64 m.h, s], sl, .agg #[.int .i64 r.x, .int .i64 r.y, .int .i64 r.w, .int .i64 r.h]] W fun e w' => e = .returned (.bool true) ∧ Below W.heap.size W w' := by
  obtain ⟨z, hz⟩ : ∃ z, Hid (z = fitsv m l r) := ⟨_, hid rfl⟩
  obtain ⟨t, ht⟩ : ∃ t, Hid (t = withinv m r) := ⟨_, hid rfl⟩
  have c1 := fun (w : World) (hb : Below W.heap.size W w) => ocfits_b m s l sl r z w (hr.below hb) (hl.below hb) hz
  have c2 := fun (w : World) (hb : Below W.heap.size W w) => rfits_b m s l sl r z w (hr.below hb) (hl.below hb) hz
  have c3 := fun (w : World) (hb : Below W.heap.size W w) => rwithin_b m s r t w (hr.below hb) ht
  have c4 := fun (hw : withinv m r = true) (w : World) (hb : Below W.heap.size W w) => ocloose_b m s l sl r z w (hr.below hb) (hl.below hb) hw hz
  have ca := fun (w : World) (hb : Below W.heap.size W w) => awake13_b w (hE.keep hb)
  obtain ⟨p0, c0, rfl⟩ := hr.slice
  obtain ⟨pl, kl, rfl⟩ := hl.len
  obtain ⟨hu, hhu⟩ : ∃ b, Hid (decide (1100 < m.cs.length ∨ 3000 < 0 ∨ 100 < l.length) = b) := ⟨_, hid rfl⟩
  have ch := fun (w : World) => ochuge_b m p0 none pl 0 l.length c0 0 kl hu w hhu
  have hT := Held2.start W [.int .i64 m.w, .int .i64 m.h, .slice p0 m.cs.length c0] [.int .i64 r.x, .int .i64 r.y, .int .i64 r.w, .int .i64 r.h] 24 33
  clear hr hl hE hhu
  cases hu with
  | true =>
    obtain ⟨_, _, _, _, _, _⟩ := hT.l.three; obtain ⟨_, _, _, _, _, _, _, _⟩ := hT.r.four
    go_enter Tryd.func5, Tryd.ntmps5
    go_wp2_with (first
      | (go_at_call 9; with_reducible refine (ch _).mono ?_; rintro e w1 ⟨rfl, hb⟩; replace hT := hT.call hb; clear hb)
      | (go_at_call 10; with_reducible refine (ca _ hT.old).mono ?_; rintro e w2 ⟨rfl, hb⟩))
    go_ret
    exact ⟨rfl, below_call hT.old hb⟩
  | false =>
    cases t with
    | false =>
      have hz9 : z = false := by rw [hz.out]; exact fits_within ht.out.symm
      subst hz9
      clear c4
      obtain ⟨_, _, _, _, _, _⟩ := hT.l.three; obtain ⟨_, _, _, _, _, _, _, _⟩ := hT.r.four
      go_enter Tryd.func5, Tryd.ntmps5
      go_wp2_with (first
        | (go_at_call 9; with_reducible refine (ch _).mono ?_; rintro e w1 ⟨rfl, hb⟩; replace hT := hT.call hb; clear hb; obtain ⟨_, _, _, _, _, _⟩ := hT.l.three; obtain ⟨_, _, _, _, _, _, _, _⟩ := hT.r.four)
        | (go_at_call 16; with_reducible refine (c1 _ hT.old).mono ?_; rintro e w2 ⟨rfl, hb⟩; replace hT := hT.call hb; clear hb; obtain ⟨_, _, _, _, _, _⟩ := hT.l.three; obtain ⟨_, _, _, _, _, _, _, _⟩ := hT.r.four)
        | (go_at_call 17; with_reducible refine (c2 _ hT.old).mono ?_; rintro e w3 ⟨rfl, hb⟩; replace hT := hT.call hb; clear hb; obtain ⟨_, _, _, _, _, _⟩ := hT.l.three; obtain ⟨_, _, _, _, _, _, _, _⟩ := hT.r.four)
        | (go_at_call 18; with_reducible refine (c3 _ hT.old).mono ?_; rintro e w4 ⟨rfl, hb⟩; replace hT := hT.call hb; clear hb; obtain ⟨_, _, _, _, _, _⟩ := hT.l.three; obtain ⟨_, _, _, _, _, _, _, _⟩ := hT.r.four)
        | (go_at_call 10; with_reducible refine (ca _ hT.old).mono ?_; rintro e w6 ⟨rfl, hb⟩))
      go_ret
      exact ⟨rfl, below_call hT.old hb⟩
    | true =>
      have c5 := c4 ht.out.symm
      clear c4 ht hz
      obtain ⟨_, _, _, _, _, _⟩ := hT.l.three; obtain ⟨_, _, _, _, _, _, _, _⟩ := hT.r.four
      cases z
      all_goals
        go_enter Tryd.func5, Tryd.ntmps5
        go_wp2_with (first
          | (go_at_call 9; with_reducible refine (ch _).mono ?_; rintro e w1 ⟨rfl, hb⟩; replace hT := hT.call hb; clear hb; obtain ⟨_, _, _, _, _, _⟩ := hT.l.three; obtain ⟨_, _, _, _, _, _, _, _⟩ := hT.r.four)
          | (go_at_call 16; with_reducible refine (c1 _ hT.old).mono ?_; rintro e w2 ⟨rfl, hb⟩; replace hT := hT.call hb; clear hb; obtain ⟨_, _, _, _, _, _⟩ := hT.l.three; obtain ⟨_, _, _, _, _, _, _, _⟩ := hT.r.four)
          | (go_at_call 17; with_reducible refine (c2 _ hT.old).mono ?_; rintro e w3 ⟨rfl, hb⟩; replace hT := hT.call hb; clear hb; obtain ⟨_, _, _, _, _, _⟩ := hT.l.three; obtain ⟨_, _, _, _, _, _, _, _⟩ := hT.r.four)
          | (go_at_call 18; with_reducible refine (c3 _ hT.old).mono ?_; rintro e w4 ⟨rfl, hb⟩; replace hT := hT.call hb; clear hb; obtain ⟨_, _, _, _, _, _⟩ := hT.l.three; obtain ⟨_, _, _, _, _, _, _, _⟩ := hT.r.four)
          | (go_at_call 19; with_reducible refine (c5 _ hT.old).mono ?_; rintro e w5 ⟨rfl, hb⟩; replace hT := hT.call hb; clear hb; obtain ⟨_, _, _, _, _, _⟩ := hT.l.three; obtain ⟨_, _, _, _, _, _, _, _⟩ := hT.r.four)
          | (go_at_call 10; with_reducible refine (ca _ hT.old).mono ?_; rintro e w6 ⟨rfl, hb⟩))
        go_ret
        exact ⟨rfl, below_call hT.old hb⟩

end Go.Proofs.YtoodnblhjopnlaaDoor
