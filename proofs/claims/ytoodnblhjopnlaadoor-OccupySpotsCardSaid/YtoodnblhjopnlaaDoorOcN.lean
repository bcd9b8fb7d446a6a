/-
  The laws of occupy: Blocked, Free and Ring are the reference's.
-/
import Derived.Test.YtoodnblhjopnlaaDoorOcM
import Derived.Test.YtoodnblhjopnlaaDoorOcRb
import Derived.Test.YtoodnblhjopnlaaDoorOcRc
namespace Go.Proofs.YtoodnblhjopnlaaDoor
open Go.RowKit Go.Lib

theorem BitsAt.lenO {W : World} {v : Value} {l : List Bool} (h : BitsAt W v l) : ∃ p c, v = .slice p l.length c := by
  obtain ⟨p, c, rfl, -⟩ := h
  exact ⟨p, c, rfl⟩
set_option maxRecDepth 100000 in
set_option maxHeartbeats 8000000 in
theorem ochuge_b (m : M3) (p0 pb pl : Option Addr) (nb nl c0 cb cl : Nat) (b : Bool) (W : World) (hb : Hid (decide (1100 < m.cs.length ∨ 3000 < nb ∨ 100 < nl) = b)) :
    Calls Tryd.prog 9 #[.agg #[.int .i64 m.w, .int .i64 m.h, .slice p0 m.cs.length c0], .slice pb nb cb, .slice pl nl cl] W fun e w' => e = .returned (.bool b) ∧ Below W.heap.size W w' := by
  have hB := Blk.new W [.int .i64 m.w, .int .i64 m.h, .slice p0 m.cs.length c0] 24
  have hA := (Below.refl W.heap.size W).alloc (Nat.le_refl _) (.cells [Value.int .i64 m.w, .int .i64 m.h, .slice p0 m.cs.length c0].toArray 24)
  obtain ⟨_, _, _, _, _, _⟩ := hB.three
  by_cases h1 : 1100 < m.cs.length
  · have z1 : decide ((1100 : Int) < (m.cs.length : Int)) = true := decide_eq_true (by omega)
    have hb9 : b = true := hb.out.symm.trans (decide_eq_true (.inl h1))
    subst hb9
    go_enter Tryd.func9, Tryd.ntmps9
    go_wp2_with fail
    go_ret
    exact ⟨rfl, hA⟩
  · have z1 : decide ((1100 : Int) < (m.cs.length : Int)) = false := decide_eq_false (by omega)
    by_cases h2 : 3000 < nb
    · have z2 : decide ((3000 : Int) < (nb : Int)) = true := decide_eq_true (by omega)
      have hb9 : b = true := hb.out.symm.trans (decide_eq_true (.inr (.inl h2)))
      subst hb9
      go_enter Tryd.func9, Tryd.ntmps9
      go_wp2_with fail
      go_ret
      exact ⟨rfl, hA⟩
    · have z2 : decide ((3000 : Int) < (nb : Int)) = false := decide_eq_false (by omega)
      by_cases h3 : 100 < nl
      · have z3 : decide ((100 : Int) < (nl : Int)) = true := decide_eq_true (by omega)
        have hb9 : b = true := hb.out.symm.trans (decide_eq_true (.inr (.inr h3)))
        subst hb9
        go_enter Tryd.func9, Tryd.ntmps9
        go_wp2_with fail
        go_ret
        exact ⟨rfl, hA⟩
      · have z3 : decide ((100 : Int) < (nl : Int)) = false := decide_eq_false (by omega)
        have hb9 : b = false := hb.out.symm.trans (decide_eq_false (by omega))
        subst hb9
        go_enter Tryd.func9, Tryd.ntmps9
        go_wp2_with fail
        go_ret
        exact ⟨rfl, hA⟩
set_option maxRecDepth 100000 in
set_option maxHeartbeats 8000000 in
theorem ocsame_b (l : List Bool) (u v : Value) (W : World) (hu : BitsAt W u l) (hv : BitsAt W v l) :
    Calls Tryd.prog 11 #[u, v] W fun e w' => e = .returned (.bool true) ∧ Below W.heap.size W w' := by
  obtain ⟨p, c, rfl, hm, hp⟩ := hu
  obtain ⟨q, d, rfl, -, hq⟩ := hv
  unfold maxLen at hm
  go_enter Tryd.func11, Tryd.ntmps11
  go_wp2_with fail
  go_loopw [5] (fun vi wr => ∃ i : Nat, vi = .int .i64 i ∧ i ≤ l.length ∧ Below W.heap.size W wr) (fun vi _ => l.length - (RowKit.intOf vi).toNat)
  case atStart => exact ⟨0, rfl, by omega, Below.refl _ _⟩
  case round =>
    obtain ⟨i, rfl, hi, hL⟩ := hrel
    by_cases hlt : i < l.length
    · have d1 : (i : Int) < l.length := by omega
      have d0 : (0 : Int) ≤ i := by omega
      obtain ⟨g, o, rfl, hg⟩ := hp (by omega)
      obtain ⟨k, n, rfl, hk⟩ := hq (by omega)
      have a1 := hg i hlt
      have a2 := hk i hlt
      rw [← hL.cell (p := ⟨g, o + i, none⟩) (World.block_lt_of_cell? W _ a1)] at a1
      rw [← hL.cell (p := ⟨k, n + i, none⟩) (World.block_lt_of_cell? W _ a2)] at a2
      generalize l[i]'hlt = z at *
      have z1 : (z != z) = false := by simp
      clear hg hk
      go_upto_region 6 with fail
      go_quiet (fail)
      rename_i nq
      have hL2 := below_many hL nq
      clear a1 a2 hL
      go_wp2_with fail
      go_roundw
      case rel => exact ⟨i + 1, by go_num, by omega, hL2⟩
      case measure => simp [RowKit.intOf]; omega
    · obtain rfl : i = l.length := by omega
      go_wp2_with fail
      go_ret
      exact ⟨rfl, hL⟩
set_option maxRecDepth 100000 in
set_option maxHeartbeats 8000000 in
theorem law13_blocked (m : M3) (s : Value) (l : List R4) (sl : Value) (W : World) (hE : EnvT W) (hr : RowAt W s m.cs) (hl : RecsAt W sl l) :
    Calls Tryd.prog 3 #[.agg #[.int .i64 m.w, .int .i64 m.h, s], sl] W fun e w' => e = .returned (.bool true) ∧ Below W.heap.size W w' := by
  obtain ⟨L, hL⟩ : ∃ L, Hid (blockedv m l = L) := ⟨_, hid rfl⟩
  have c1 := fun (w : World) (hb : Below W.heap.size W w) => ocblocked_b m s l sl L w (hr.below hb) (hl.below hb) hL
  have c2 := fun (w : World) (hb : Below W.heap.size W w) => rblocked_b m s l sl L w (hr.below hb) (hl.below hb) hL
  have c3 := fun (w : World) (v1 v2 : Value) (h1 : BitsAt w v1 L) (h2 : BitsAt w v2 L) => ocsame_b L v1 v2 w h1 h2
  have ca := fun (w : World) (hb : Below W.heap.size W w) => awake13_b w (hE.keep hb)
  obtain ⟨p0, c0, rfl⟩ := hr.slice
  obtain ⟨pl, kl, rfl⟩ := hl.len
  obtain ⟨hu, hhu⟩ : ∃ b, Hid (decide (1100 < m.cs.length ∨ 3000 < 0 ∨ 100 < l.length) = b) := ⟨_, hid rfl⟩
  have ch := fun (w : World) => ochuge_b m p0 none pl 0 l.length c0 0 kl hu w hhu
  have hB := Blk.new W [.int .i64 m.w, .int .i64 m.h, .slice p0 m.cs.length c0] 24
  have hW := (Below.refl W.heap.size W).alloc (Nat.le_refl _) (.cells [Value.int .i64 m.w, .int .i64 m.h, .slice p0 m.cs.length c0].toArray 24)
  clear hr hl hL hE hhu
  go_enter Tryd.func3, Tryd.ntmps3
  go_upto_region 1 with fail
  generalize W.alloc (.cells [Value.int .i64 m.w, .int .i64 m.h, .slice p0 m.cs.length c0].toArray 24) = X at *
  obtain ⟨_, _, _, _, _, _⟩ := hB.three
  cases hu with
  | true =>
    go_wp2_with (first
      | (go_at_call 9; with_reducible refine (ch _).mono ?_; rintro e w1 ⟨rfl, hb⟩; replace hW := below_call hW hb; clear hb)
      | (go_at_call 10; with_reducible refine (ca _ hW).mono ?_; rintro e w2 ⟨rfl, hb⟩))
    go_ret
    exact ⟨rfl, below_call hW hb⟩
  | false =>
    go_upto_region 3 with (go_at_call 9; with_reducible refine (ch _).mono ?_; rintro e Y ⟨rfl, hb⟩; replace hW := below_call hW hb; replace hB := hB.below hb; clear hb)
    have hk := fun (w' : World) (hb : Below Y.heap.size Y w') => And.intro ((hB.below hb).cell 0) (And.intro ((hB.below hb).cell 1) ((hB.below hb).cell 2))
    have hq := (Below.refl Y.heap.size Y).drew
    obtain ⟨_, _, _⟩ := hk _ hq
    go_region_held3 (fun w' => w'.cell? ⟨W.heap.size, 0, none⟩ = some (.int .i64 m.w) ∧ w'.cell? ⟨W.heap.size, 1, none⟩ = some (.int .i64 m.h) ∧ w'.cell? ⟨W.heap.size, 2, none⟩ = some (.slice p0 m.cs.length c0))
      (exact hk _ hq)
      (first
        | (go_at_call 12; with_reducible refine (c1 _ (below_call hW hq)).mono ?_; rintro e w' ⟨v1, rfl, h1, hb⟩; replace hq := below_call hq hb; clear hb)
        | (go_at_call 13; with_reducible refine (c2 _ (below_call hW hq)).mono ?_; rintro e w' ⟨v2, rfl, h2, hb⟩; replace hq := below_call hq hb; replace h1 := h1.below hb; clear hb)
        | (go_at_call 11; with_reducible refine (c3 _ _ _ h1 h2).mono ?_; rintro e w' ⟨rfl, hb⟩; replace hq := below_call hq hb; clear hb)
        | (go_at_call 10; with_reducible refine (ca _ (below_call hW hq)).mono ?_; rintro e w' ⟨rfl, hb⟩; replace hq := below_call hq hb; clear hb))
    go_wp2
    go_ret
    exact ⟨rfl, below_call hW hq⟩
set_option maxRecDepth 100000 in
set_option maxHeartbeats 8000000 in
theorem law13_free (m : M3) (s : Value) (bl : List Bool) (sb : Value) (r : R4) (W : World) (hE : EnvT W) (hr : RowAt W s m.cs) (hl : BitsAt W sb bl) :
    Calls Tryd.prog 4 #[.agg #[.int .i64 m.w, .int .i64 m.h, s], sb, .agg #[.int .i64 r.x, .int .i64 r.y, .int .i64 r.w, .int .i64 r.h]] W fun e w' => e = .returned (.bool true) ∧ Below W.heap.size W w' := by
  obtain ⟨z, hz⟩ : ∃ z, Hid (z = freev m bl r) := ⟨_, hid rfl⟩
  have c1 := fun (w : World) (hb : Below W.heap.size W w) => ocfree_b m s bl sb r z w (hr.below hb) (hl.below hb) hz
  have c2 := fun (w : World) (hb : Below W.heap.size W w) => rfree_b m s bl sb r z w (hr.below hb) (hl.below hb) hz
  have ca := fun (w : World) (hb : Below W.heap.size W w) => awake13_b w (hE.keep hb)
  obtain ⟨p0, c0, rfl⟩ := hr.slice
  obtain ⟨pl, kl, rfl⟩ := hl.lenO
  obtain ⟨hu, hhu⟩ : ∃ b, Hid (decide (1100 < m.cs.length ∨ 3000 < bl.length ∨ 100 < 0) = b) := ⟨_, hid rfl⟩
  have ch := fun (w : World) => ochuge_b m p0 pl none bl.length 0 c0 kl 0 hu w hhu
  clear hr hl hz hE hhu
  have hT := Held2.start W [.int .i64 m.w, .int .i64 m.h, .slice p0 m.cs.length c0] [.int .i64 r.x, .int .i64 r.y, .int .i64 r.w, .int .i64 r.h] 24 33
  go_enter Tryd.func4, Tryd.ntmps4
  go_upto_region 1 with fail
  generalize (W.alloc (.cells [Value.int .i64 m.w, .int .i64 m.h, .slice p0 m.cs.length c0].toArray 24)).alloc (.cells [Value.int .i64 r.x, .int .i64 r.y, .int .i64 r.w, .int .i64 r.h].toArray 33) = X at *
  obtain ⟨_, _, _, _, _, _⟩ := hT.l.three; obtain ⟨_, _, _, _, _, _, _, _⟩ := hT.r.four
  cases hu with
  | true =>
    go_wp2_with (first
      | (go_at_call 9; with_reducible refine (ch _).mono ?_; rintro e w1 ⟨rfl, hb⟩; replace hT := hT.call hb; clear hb)
      | (go_at_call 10; with_reducible refine (ca _ hT.old).mono ?_; rintro e w2 ⟨rfl, hb⟩))
    go_ret
    exact ⟨rfl, below_call hT.old hb⟩
  | false =>
    go_upto_region 3 with (go_at_call 9; with_reducible refine (ch _).mono ?_; rintro e Y ⟨rfl, hb⟩; replace hT := hT.call hb; clear hb)
    have hk := fun (w' : World) (hb : Below Y.heap.size Y w') => And.intro ((hT.l.below hb).cell 0) (And.intro ((hT.l.below hb).cell 1) (And.intro ((hT.l.below hb).cell 2) (And.intro ((hT.r.below hb).cell 0) (And.intro ((hT.r.below hb).cell 1) (And.intro ((hT.r.below hb).cell 2) ((hT.r.below hb).cell 3))))))
    have hq := (Below.refl Y.heap.size Y).drew
    have hW := hT.old
    obtain ⟨_, _, _, _, _, _, _⟩ := hk _ hq
    cases z
    all_goals
      go_region_held3 (fun w' => w'.cell? ⟨W.heap.size, 0, none⟩ = some (.int .i64 m.w) ∧ w'.cell? ⟨W.heap.size, 1, none⟩ = some (.int .i64 m.h) ∧ w'.cell? ⟨W.heap.size, 2, none⟩ = some (.slice p0 m.cs.length c0) ∧ w'.cell? ⟨W.heap.size + 1, 0, none⟩ = some (.int .i64 r.x) ∧ w'.cell? ⟨W.heap.size + 1, 1, none⟩ = some (.int .i64 r.y) ∧ w'.cell? ⟨W.heap.size + 1, 2, none⟩ = some (.int .i64 r.w) ∧ w'.cell? ⟨W.heap.size + 1, 3, none⟩ = some (.int .i64 r.h))
        (exact hk _ hq)
        (first
          | (go_at_call 14; with_reducible refine (c1 _ (below_call hW hq)).mono ?_; rintro e w' ⟨rfl, hb⟩; replace hq := below_call hq hb; clear hb)
          | (go_at_call 15; with_reducible refine (c2 _ (below_call hW hq)).mono ?_; rintro e w' ⟨rfl, hb⟩; replace hq := below_call hq hb; clear hb)
          | (go_at_call 10; with_reducible refine (ca _ (below_call hW hq)).mono ?_; rintro e w' ⟨rfl, hb⟩; replace hq := below_call hq hb; clear hb))
      go_wp2
      go_ret
      exact ⟨rfl, below_call hW hq⟩
set_option maxRecDepth 100000 in
set_option maxHeartbeats 8000000 in
theorem law13_ring (m : M3) (s : Value) (r : R4) (W : World) (hE : EnvT W) (hr : RowAt W s m.cs) :
    Calls Tryd.prog 7 #[.agg #[.int .i64 m.w, .int .i64 m.h, s], .agg #[.int .i64 r.x, .int .i64 r.y, .int .i64 r.w, .int .i64 r.h]] W fun e w' => e = .returned (.bool true) ∧ Below W.heap.size W w' := by
  obtain ⟨L, hL⟩ : ∃ L, Hid (ringv m r = L) := ⟨_, hid rfl⟩
  have hLl : L.length ≤ maxLen := by rw [← hL.out]; exact Nat.le_trans (filter_len m _) (by unfold maxLen; decide)
  have c1 := fun (w : World) (hb : Below W.heap.size W w) => ocring_b m s r L w (hE.g.keep hb) (hr.below hb) hL
  have c2 := fun (w : World) (hb : Below W.heap.size W w) => rring_b m s r L w (hr.below hb) hL
  have c3 := fun (w : World) (A B : Nat) (v1 v2 : Value) (h1 : w.ownsRow A 42 2 v1 L.length (pcells L)) (h2 : w.ownsRow B 42 2 v2 L.length (pcells L)) => rsame_t w L A B v1 v2 hLl h1 h2
  have ca := fun (w : World) (hb : Below W.heap.size W w) => awake13_b w (hE.keep hb)
  obtain ⟨p0, c0, rfl⟩ := hr.slice
  obtain ⟨hu, hhu⟩ : ∃ b, Hid (decide (1100 < m.cs.length ∨ 3000 < 0 ∨ 100 < 0) = b) := ⟨_, hid rfl⟩
  have ch := fun (w : World) => ochuge_b m p0 none none 0 0 c0 0 0 hu w hhu
  clear hr hL hE hhu
  have hT := Held2.start W [.int .i64 m.w, .int .i64 m.h, .slice p0 m.cs.length c0] [.int .i64 r.x, .int .i64 r.y, .int .i64 r.w, .int .i64 r.h] 24 33
  go_enter Tryd.func7, Tryd.ntmps7
  go_upto_region 1 with fail
  generalize (W.alloc (.cells [Value.int .i64 m.w, .int .i64 m.h, .slice p0 m.cs.length c0].toArray 24)).alloc (.cells [Value.int .i64 r.x, .int .i64 r.y, .int .i64 r.w, .int .i64 r.h].toArray 33) = X at *
  obtain ⟨_, _, _, _, _, _⟩ := hT.l.three; obtain ⟨_, _, _, _, _, _, _, _⟩ := hT.r.four
  cases hu with
  | true =>
    go_wp2_with (first
      | (go_at_call 9; with_reducible refine (ch _).mono ?_; rintro e w1 ⟨rfl, hb⟩; replace hT := hT.call hb; clear hb)
      | (go_at_call 10; with_reducible refine (ca _ hT.old).mono ?_; rintro e w2 ⟨rfl, hb⟩))
    go_ret
    exact ⟨rfl, below_call hT.old hb⟩
  | false =>
    go_upto_region 3 with (go_at_call 9; with_reducible refine (ch _).mono ?_; rintro e Y ⟨rfl, hb⟩; replace hT := hT.call hb; clear hb)
    have hk := fun (w' : World) (hb : Below Y.heap.size Y w') => And.intro ((hT.l.below hb).cell 0) (And.intro ((hT.l.below hb).cell 1) (And.intro ((hT.l.below hb).cell 2) (And.intro ((hT.r.below hb).cell 0) (And.intro ((hT.r.below hb).cell 1) (And.intro ((hT.r.below hb).cell 2) ((hT.r.below hb).cell 3))))))
    have hq := (Below.refl Y.heap.size Y).drew
    have hW := hT.old
    obtain ⟨_, _, _, _, _, _, _⟩ := hk _ hq
    go_region_held3 (fun w' => w'.cell? ⟨W.heap.size, 0, none⟩ = some (.int .i64 m.w) ∧ w'.cell? ⟨W.heap.size, 1, none⟩ = some (.int .i64 m.h) ∧ w'.cell? ⟨W.heap.size, 2, none⟩ = some (.slice p0 m.cs.length c0) ∧ w'.cell? ⟨W.heap.size + 1, 0, none⟩ = some (.int .i64 r.x) ∧ w'.cell? ⟨W.heap.size + 1, 1, none⟩ = some (.int .i64 r.y) ∧ w'.cell? ⟨W.heap.size + 1, 2, none⟩ = some (.int .i64 r.w) ∧ w'.cell? ⟨W.heap.size + 1, 3, none⟩ = some (.int .i64 r.h))
      (exact hk _ hq)
      (first
        | (go_at_call 22; with_reducible refine (c1 _ (below_call hW hq)).mono ?_; rintro e w' ⟨v1, rfl, h1, hb⟩; replace hq := below_call hq hb; clear hb)
        | (go_at_call 23; with_reducible refine (c2 _ (below_call hW hq)).mono ?_; rintro e w' ⟨v2, rfl, h2, hb⟩; replace hq := below_call hq hb; replace h1 := own_below h1 hb; clear hb)
        | (go_at_call 21; with_reducible refine (c3 _ _ _ _ _ h1 h2).mono ?_; rintro e w' ⟨rfl, hb⟩; replace hq := below_call hq hb; clear hb)
        | (go_at_call 10; with_reducible refine (ca _ (below_call hW hq)).mono ?_; rintro e w' ⟨rfl, hb⟩; replace hq := below_call hq hb; clear hb))
    go_wp2
    go_ret
    exact ⟨rfl, below_call hW hq⟩

end Go.Proofs.YtoodnblhjopnlaaDoor
