/-
  shadow as landed at 4bd78af: the eight octants.
-/
import Derived.Test.YtlcbkeieejmmbaaDoorShG
namespace Go.Proofs.YtlcbkeieejmmbaaDoor
open Go.RowKit Go.Lib

theorem Blk.grownT {w w' : World} {b : Nat} {vs : List Value} {t e : TypeId} {B k n : Nat} {v : Value} {xs : List Value} (h : Blk w b vs t) (hown : w.ownsRow B e k v n xs) (hg : w.grownBy w' v.ownBlock) (ne : t ≠ e) : Blk w' b vs t := by
  refine h.grown hg fun j hj e2 => ?_
  rcases hown.2 with ⟨rfl, -⟩ | ⟨g, cap, cur, rfl, -, hgg, -⟩
  · cases hj
  · injection hj with hj
    subst hj
    subst e2
    unfold Blk at h
    rw [h] at hgg
    injection hgg with e3
    injection e3 with _ e4
    exact ne e4
/-- A closure by its three boxes; what it does. -/
def plv (t : Nat × Nat × Nat) : Value := plc t.1 t.2.1 t.2.2
def PlaceO (W : World) (x y : Int) (t : Nat × Nat × Nat) (o : Int × Int × Int × Int) : Prop := PlaceB W t.1 t.2.1 t.2.2 x y o.1 o.2.1 o.2.2.1 o.2.2.2
theorem PlaceO.below {W w' : World} {x y : Int} {t : Nat × Nat × Nat} {o : Int × Int × Int × Int} (h : PlaceO W x y t o) (hb : Below W.heap.size W w') : PlaceO w' x y t o := PlaceB.below h hb
theorem PlaceO.grownT {w w' : World} {x y : Int} {t : Nat × Nat × Nat} {o : Int × Int × Int × Int} {B k n : Nat} {v : Value} {xs : List Value} (h : PlaceO w x y t o) (hown : w.ownsRow B 56 k v n xs) (hg : w.grownBy w' v.ownBlock) : PlaceO w' x y t o :=
  ⟨h.p.grownT hown hg (by decide), h.q.grownT hown hg (by decide), h.r.grownT hown hg (by decide)⟩
def EightAt (W : World) (x y : Int) (ps : List (Nat × Nat × Nat)) : Prop := ∀ i, (h : i < ps.length) → PlaceO W x y (ps[i]'h) (eight.getD i (0, 0, 0, 0))
theorem EightAt.below {W w' : World} {x y : Int} {ps : List (Nat × Nat × Nat)} (h : EightAt W x y ps) (hb : Below W.heap.size W w') : EightAt w' x y ps := fun i hi => (h i hi).below hb
theorem EightAt.drew {W : World} {x y : Int} {ps : List (Nat × Nat × Nat)} (h : EightAt W x y ps) : EightAt W.drew x y ps := fun i hi => ⟨(h i hi).p.drew, (h i hi).q.drew, (h i hi).r.drew⟩
theorem EightAt.grownT {w w' : World} {x y : Int} {ps : List (Nat × Nat × Nat)} {B k n : Nat} {v : Value} {xs : List Value} (h : EightAt w x y ps) (hown : w.ownsRow B 56 k v n xs) (hg : w.grownBy w' v.ownBlock) : EightAt w' x y ps := fun i hi => (h i hi).grownT hown hg
theorem EightAt.two {W : World} {x y : Int} {ps : List (Nat × Nat × Nat)} {s t : Nat × Nat × Nat} (h : EightAt W x y ps) (h1 : PlaceO W x y s (eight.getD ps.length (0, 0, 0, 0))) (h2 : PlaceO W x y t (eight.getD (ps.length + 1) (0, 0, 0, 0))) : EightAt W x y (ps ++ [s, t]) := by
  intro i hi
  by_cases e : i < ps.length
  · rw [List.getElem_append_left e]
    exact h i e
  · have hl : (ps ++ [s, t]).length = ps.length + 2 := by simp
    rcases (show i = ps.length ∨ i = ps.length + 1 by omega) with rfl | rfl
    · rw [List.getElem_append_right (Nat.le_refl _)]
      simpa using h1
    · rw [List.getElem_append_right (Nat.le_succ _)]
      simpa using h2
theorem infoPlc : (Tryd.prog.info? 56).map (fun i => (i.zero, i.size, i.bytes)) = some (some Value.nilFunc, 1, 8) := by kernel_rfl
theorem plv_lone (s t : Nat × Nat × Nat) : ∀ u ∈ [plv s, plv t], u.oneCell' = true := by
  intro u hu
  simp only [List.mem_cons, List.not_mem_nil, or_false] at hu
  rcases hu with rfl | rfl <;> rfl
theorem eight_at (k : Nat) (h : k < 4) : eight.getD (2 * k) (0, 0, 0, 0) = (qx k, qy k, qx (k + 1), qy (k + 1)) ∧ eight.getD (2 * k + 1) (0, 0, 0, 0) = (qx k, qy k, qx (k + 3), qy (k + 3)) := by
  rcases (show k = 0 ∨ k = 1 ∨ k = 2 ∨ k = 3 by omega) with rfl | rfl | rfl | rfl <;> exact ⟨by decide, by decide⟩
theorem eight_mem (i : Nat) (h : i < 8) : eight.getD i (0, 0, 0, 0) ∈ eight := by
  rw [List.getD_eq_getElem?_getD, List.getElem?_eq_getElem (show i < eight.length from h)]
  exact List.getElem_mem _
theorem eight_is {o : Int × Int × Int × Int} (h : o ∈ eight) : ∃ i, i < 8 ∧ eight.getD i (0, 0, 0, 0) = o := by
  obtain ⟨i, hi, rfl⟩ := List.getElem_of_mem h
  exact ⟨i, hi, by rw [List.getD_eq_getElem?_getD, List.getElem?_eq_getElem hi]; rfl⟩

set_option maxRecDepth 100000 in
set_option maxHeartbeats 8000000 in
theorem shoctants_b (x y : Int) (W : World) (hE : EnvG W) :
    Calls Tryd.prog 38 #[.agg #[.int .i64 x, .int .i64 y]] W fun e w' => ∃ s ps, e = .returned s ∧ ps.length = 8 ∧ w'.ownsRow W.heap.size 56 1 s 8 (ps.map plv) ∧ EightAt w' x y ps ∧ Below W.heap.size W w' := by
  obtain ⟨i0, hi0, hz0, hz1, hz2⟩ := info_cut infoPlc
  have hT := Held1.start W [.int .i64 x, .int .i64 y] 26
  have cs := fun (k : Int) (w : World) (hb : Below W.heap.size W w) (h0 : 0 ≤ k) (h1 : k ≤ 100) => shstraight_b k w (hE.keep hb) h0 h1
  clear hE
  go_enter Tryd.func38, Tryd.ntmps38
  go_wp2_with fail
  generalize W.alloc (.cells [Value.int .i64 x, .int .i64 y].toArray 26) = V at *
  go_loopw [3, 6] (fun vs vk wr => ∃ (k : Nat) (ps : List (Nat × Nat × Nat)), vk = .int .i64 k ∧ k ≤ 4 ∧ ps.length = 2 * k ∧ wr.ownsRow W.heap.size 56 1 vs ps.length (ps.map plv) ∧ EightAt wr x y ps ∧ Held1 W wr W.heap.size [.int .i64 x, .int .i64 y] 26) (fun _ vk _ => 4 - (RowKit.intOf vk).toNat)
  case atStart => exact ⟨0, [], rfl, by omega, rfl, World.ownsRow_nil _ _ _ _, fun i h => (Nat.not_lt_zero _ h).elim, hT⟩
  case round =>
    clear hT
    obtain ⟨k, ps, rfl, hk, hlen, hown, hP, hT⟩ := hrel
    by_cases hlt : k < 4
    · have z1 : decide ((k : Int) < 4) = true := decide_eq_true (by omega)
      obtain ⟨e1, e2⟩ := eight_at k hlt
      rw [← hlen] at e1 e2
      have c0 := fun (w : World) (hb : Below W.heap.size W w) => cs k w hb (by omega) (by omega)
      have c1 := fun (w : World) (hb : Below W.heap.size W w) => cs (k + 1) w hb (by omega) (by omega)
      have c3 := fun (w : World) (hb : Below W.heap.size W w) => cs (k + 3) w hb (by omega) (by omega)
      have w1 : IntKind.i64.wrap ((k : Int) + 1) = (k : Int) + 1 := IntWalk.i64_in _ (by omega)
      have w3 : IntKind.i64.wrap ((k : Int) + 3) = (k : Int) + 3 := IntWalk.i64_in _ (by omega)
      generalize qx k = a at *
      generalize qy k = b at *
      generalize qx (k + 1) = a1 at *
      generalize qy (k + 1) = b1 at *
      generalize qx (k + 3) = a3 at *
      generalize qy (k + 3) = b3 at *
      have e1 := hid e1
      have e2 := hid e2
      go_wp2_with (go_at_call 57; with_reducible refine (c0 _ hT.old).mono ?_; rintro e w0 ⟨rfl, hb⟩)
      replace hown := own_below hown hb
      replace hP := hP.below hb
      replace hT := hT.call hb
      clear hb c0
      have hX0 := (Below.refl w0.heap.size w0).alloc (Nat.le_refl _) (.cells [Value.int .i64 a, .int .i64 b].toArray 26)
      have hQ0 := Blk.new w0 [.int .i64 a, .int .i64 b] 26
      replace hown := own_below hown hX0
      replace hP := hP.below hX0
      replace hT := hT.call hX0
      clear hX0
      generalize w0.alloc (.cells [Value.int .i64 a, .int .i64 b].toArray 26) = X at *
      generalize w0.heap.size = n at *
      have hmx : Tryd.prog.follows .mixedOrders = true := by kernel_rfl
      refine wp_region_held (S := fun w' => Held2 W w' W.heap.size n [.int .i64 x, .int .i64 y] [.int .i64 a, .int .i64 b] 26 26) hmx ?_
      show wpAnyH _ _ _ _ _ _ _ _ X.drew
      have hS0 : Held2 W X.drew W.heap.size n [.int .i64 x, .int .i64 y] [.int .i64 a, .int .i64 b] 26 26 := ⟨hT.l, hQ0, hT.old.drew⟩
      refine reg_tk (i := 0) (v := u3) (some 11) rfl (fun w' hS => by skip; go_simp) hS0 ?_
      try simp only [Act.put, List.setIfInBounds_toArray, List.set_cons_zero, List.set_cons_succ]
      refine reg_tk (i := 1) (v := .agg #[.int .i64 x, .int .i64 y]) (some 12) rfl (fun w' hS => by (have u0 := hS.l.cell 0; have u1 := hS.l.cell 1; go_simp)) hS0 ?_
      try simp only [Act.put, List.setIfInBounds_toArray, List.set_cons_zero, List.set_cons_succ]
      refine reg_tk (i := 2) (v := .agg #[.int .i64 a, .int .i64 b]) (some 13) rfl (fun w' hS => by (have u0 := hS.r.cell 0; have u1 := hS.r.cell 1; go_simp)) hS0 ?_
      try simp only [Act.put, List.setIfInBounds_toArray, List.set_cons_zero, List.set_cons_succ]
      refine reg_tk (i := 3) (v := .int .i64 k) (some 14) rfl (fun w' hS => by skip; go_simp) hS0 ?_
      try simp only [Act.put, List.setIfInBounds_toArray, List.set_cons_zero, List.set_cons_succ]
      refine reg_tk (i := 4) (v := .int .i64 (k + 1)) (some 15) rfl (fun w' hS => by skip; go_simp) hS0 ?_
      try simp only [Act.put, List.setIfInBounds_toArray, List.set_cons_zero, List.set_cons_succ]
      refine reg_tk (i := 7) (v := .agg #[.int .i64 x, .int .i64 y]) (some 18) rfl (fun w' hS => by (have u0 := hS.l.cell 0; have u1 := hS.l.cell 1; go_simp)) hS0 ?_
      try simp only [Act.put, List.setIfInBounds_toArray, List.set_cons_zero, List.set_cons_succ]
      refine reg_tk (i := 8) (v := .agg #[.int .i64 a, .int .i64 b]) (some 19) rfl (fun w' hS => by (have u0 := hS.r.cell 0; have u1 := hS.r.cell 1; go_simp)) hS0 ?_
      try simp only [Act.put, List.setIfInBounds_toArray, List.set_cons_zero, List.set_cons_succ]
      refine reg_tk (i := 9) (v := .int .i64 k) (some 20) rfl (fun w' hS => by skip; go_simp) hS0 ?_
      try simp only [Act.put, List.setIfInBounds_toArray, List.set_cons_zero, List.set_cons_succ]
      refine reg_tk (i := 10) (v := .int .i64 (k + 3)) (some 21) rfl (fun w' hS => by skip; go_simp) hS0 ?_
      try simp only [Act.put, List.setIfInBounds_toArray, List.set_cons_zero, List.set_cons_succ]
      refine held_one (i := 5) (by kernel_rfl) rfl (fun K hQ => ?_)
      go_simp
      ((with_reducible refine (c1 _ hS0.old).mono ?_); rintro e w1 ⟨rfl, hbw1⟩)
      have hS1 := hS0.call hbw1
      refine hQ.out _ _ hS1 ?_
      clear hQ
      try simp only [Act.put, List.setIfInBounds_toArray, List.set_cons_zero, List.set_cons_succ]
      refine held_one (i := 6) (by kernel_rfl) rfl (fun K hQ => ?_)
      go_simp
      ((with_reducible refine (shoctant_c x y a b a1 b1 _).mono ?_); rintro e w2 ⟨p1, q1, r1, rfl, hP1, hbw2⟩)
      have hS2 := hS1.call hbw2
      refine hQ.out _ _ hS2 ?_
      clear hQ
      try simp only [Act.put, List.setIfInBounds_toArray, List.set_cons_zero, List.set_cons_succ]
      refine held_one (i := 11) (by kernel_rfl) rfl (fun K hQ => ?_)
      go_simp
      ((with_reducible refine (c3 _ hS2.old).mono ?_); rintro e w3 ⟨rfl, hbw3⟩)
      have hS3 := hS2.call hbw3
      refine hQ.out _ _ hS3 ?_
      clear hQ
      try simp only [Act.put, List.setIfInBounds_toArray, List.set_cons_zero, List.set_cons_succ]
      refine held_one (i := 12) (by kernel_rfl) rfl (fun K hQ => ?_)
      go_simp
      ((with_reducible refine (shoctant_c x y a b a3 b3 _).mono ?_); rintro e w4 ⟨p2, q2, r2, rfl, hP2, hbw4⟩)
      have hS4 := hS3.call hbw4
      refine hQ.out _ _ hS4 ?_
      clear hQ
      try simp only [Act.put, List.setIfInBounds_toArray, List.set_cons_zero, List.set_cons_succ]
      have hbb := below_call (below_call (below_call hbw1 hbw2) hbw3) hbw4
      replace hown := own_below (own_drew hown) hbb
      replace hP := EightAt.below hP.drew hbb
      have hQ1 : PlaceO w4 x y (p1, q1, r1) (a, b, a1, b1) := hP1.below (below_call hbw3 hbw4)
      have hQ2 : PlaceO w4 x y (p2, q2, r2) (a, b, a3, b3) := hP2
      have hX5 := (Below.refl w4.heap.size w4).alloc (Nat.le_refl _) (.cells [plv (p1, q1, r1), plv (p2, q2, r2)].toArray 56)
      have hS5 := hS4.call hX5
      have hc := cells_new (w := w4) (vs := [plv (p1, q1, r1), plv (p2, q2, r2)]) (t := 56)
      replace hown := own_below hown hX5
      replace hP := hP.below hX5
      replace hQ1 := hQ1.below hX5
      replace hQ2 := hQ2.below hX5
      refine held_one (i := 13) (by kernel_rfl) rfl (fun K hQ => ?_)
      go_simp
      refine hQ.out _ _ hS5 ?_
      clear hQ
      try simp only [Act.put, List.setIfInBounds_toArray, List.set_cons_zero, List.set_cons_succ]
      obtain ⟨v', w6, hrun, hown', hgrow, -⟩ := run_append_own (P := Tryd.prog) (w4.alloc (.cells [plv (p1, q1, r1), plv (p2, q2, r2)].toArray 56)) W.heap.size 58 58 56 i0 Value.nilFunc 1 8 Tryd.underlying58 hi0 hz0 hz1 hz2 rfl (by decide) u3 ps.length _ hown ⟨w4.heap.size, 0, none⟩ 2 2 [plv (p1, q1, r1), plv (p2, q2, r2)] rfl hc (plv_lone _ _) (by unfold maxLen; omega) (by omega) hS5.old.size
      have hS6 : Held2 W w6 W.heap.size n [.int .i64 x, .int .i64 y] [.int .i64 a, .int .i64 b] 26 26 := ⟨hS5.l.grownT hown hgrow (by decide), hS5.r.grownT hown hgrow (by decide), hS5.old.grown hgrow hS5.old.size (fun j hj => (hown.lt j hj).1)⟩
      replace hP := hP.grownT hown hgrow
      replace hQ1 := hQ1.grownT hown hgrow
      replace hQ2 := hQ2.grownT hown hgrow
      rw [← e1.out] at hQ1
      rw [← e2.out] at hQ2
      replace hP := hP.two hQ1 hQ2
      replace hown := own_to hown' (m := (ps ++ [(p1, q1, r1), (p2, q2, r2)]).length) (ys := (ps ++ [(p1, q1, r1), (p2, q2, r2)]).map plv) (by simp) (by simp)
      clear hown' hQ1 hQ2 hgrow hc hX5
      refine held_one (i := 14) (by kernel_rfl) rfl (fun K hQ => ?_)
      refine step_append_run rfl (.tmp 11) (.tmp 24) 58 rfl u3 (.slice (some ⟨w4.heap.size, 0, none⟩) 2 2) _ rfl rfl hrun ?_
      refine hQ.out _ _ hS6 ?_
      clear hQ
      try simp only [Act.put, List.setIfInBounds_toArray]
      refine reg_tk (i := 15) (v := v') (some 3) rfl (fun w' hS => by skip; go_simp) hS6 ?_
      try simp only [Act.put]
      refine wpAnyH_done (by kernel_rfl) ?_ _
      go_wp2_with fail
      go_roundw
      case rel => exact ⟨k + 1, _, by go_num, by omega, by simp; omega, hown, hP, ⟨hS6.l, hS6.old⟩⟩
      case measure => simp [RowKit.intOf]; omega
    · obtain rfl : k = 4 := by omega
      go_wp2_with fail
      go_ret
      exact ⟨_, ps, rfl, hlen, own_to hown hlen rfl, hP, hT.old⟩

end Go.Proofs.YtlcbkeieejmmbaaDoor
