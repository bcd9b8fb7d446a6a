/-
  'a.f == b.f && a.g == b.g && ..': one comparison after the other, whatever the frame holds beside it. No program is named here.
-/
import Derived.Test.YtaefioikflllcaaGreatAny
namespace Go.Proofs.YtaefioikflllcaaGreat
open Go.RowKit Go.Lib

section
variable {P : Program} {ops : Array Oper} {Q : Exit → Act → World → Prop} {a : Act} {w : World} {rest : List Oper} {o : Oper}
theorem wpList_val {v : Value} (hw : Region.wanted o (yielded ops a.tmps) = true) (he : (execOp a.eval o).run P w = .ok (.value v) w) (h : wpList P ops Q rest (a.put o.dst v) w) : wpList P ops Q (o :: rest) a w := by
  unfold wpList
  rw [if_pos hw]
  left
  unfold Oper.wp
  rw [he]
  exact h
theorem wpList_called {f : FuncId} {args : Array Value} {v : Value} {R : World → Prop} (hw : Region.wanted o (yielded ops a.tmps) = true) (he : (execOp a.eval o).run P w = .ok (.enter f args) w) (hc : Calls P f args w fun e w' => e = .returned v ∧ R w')
    (h : ∀ w', R w' → wpList P ops Q rest (a.put o.dst v) w') : wpList P ops Q (o :: rest) a w := by
  unfold wpList
  rw [if_pos hw]
  left
  unfold Oper.wp
  rw [he, Oper.upon_enter]
  refine hc.mono fun e w' ⟨e1, hR⟩ => ?_
  subst e1
  exact h w' hR
end

/-- What is known of a frame: its length, two pointers, one Boolean. -/
structure Tr (a : Act) (n : Nat) (p q : Value) (t : Nat) (b : Bool) : Prop where
  size : a.tmps.size = n
  l : a.tmps[2]? = some p
  r : a.tmps[3]? = some q
  b : a.tmps[t]? = some (.bool b)
  d : a.defers = []
theorem eval_of {a : Act} {k : Nat} {v : Value} (h : a.tmps[k]? = some v) : a.eval (.tmp k) = v := by
  unfold Act.eval
  simp [Array.getD_eq_getD_getElem?, h]
theorem put_same {a : Act} {d : Nat} {v : Value} (h : d < a.tmps.size) : (a.put (some d) v).tmps[d]? = some v := by simp [Act.put, h]
theorem put_far {a : Act} {d k : Nat} {v : Value} (h : k ≠ d) : (a.put (some d) v).tmps[k]? = a.tmps[k]? := by
  simp [Act.put, Ne.symm h]
theorem put_size {a : Act} {d : Nat} {v : Value} : (a.put (some d) v).tmps.size = a.tmps.size := by simp [Act.put]
theorem put_defers {a : Act} {d : Nat} {v : Value} : (a.put (some d) v).defers = a.defers := rfl

theorem Tr.put {a : Act} {n : Nat} {p q : Value} {t d : Nat} {b : Bool} {v : Value} (h : Tr a n p q t b) (h2 : d ≠ 2) (h3 : d ≠ 3) (ht : d ≠ t) : Tr (a.put (some d) v) n p q t b :=
  ⟨put_size.trans h.size, (put_far (Ne.symm h2)).trans h.l, (put_far (Ne.symm h3)).trans h.r, (put_far (Ne.symm ht)).trans h.b, put_defers.trans h.d⟩
theorem Tr.yes {a : Act} {n : Nat} {p q : Value} {t d : Nat} {b c : Bool} (h : Tr a n p q t b) (h2 : d ≠ 2) (h3 : d ≠ 3) (hd : d < n) : Tr (a.put (some d) (.bool c)) n p q d c :=
  ⟨put_size.trans h.size, (put_far (Ne.symm h2)).trans h.l, (put_far (Ne.symm h3)).trans h.r, put_same (by rw [h.size]; exact hd), put_defers.trans h.d⟩
section
variable {P : Program} {ops : Array Oper} {Q : Exit → Act → World → Prop} {a : Act} {w : World} {rest : List Oper}
theorem wanted_at {o o1 : Oper} {j d : Nat} {b : Bool} (hg : o.guard = some (j, true)) (hj : ops[j]? = some o1) (hd : o1.dst = some d) (hb : a.tmps[d]? = some (.bool b)) : Region.wanted o (yielded ops a.tmps) = b := by
  unfold Region.wanted yielded
  rw [hg]
  simp only [hj, hd, hb, Option.bind_some]
  cases b <;> rfl
theorem wanted_free {o : Oper} (hg : o.guard = none) : Region.wanted o (yielded ops a.tmps) = true := by unfold Region.wanted; rw [hg]
/-- One comparison, guarded by what came before: whatever that was, the walk goes on in one way. -/
theorem wpList_and7 {o1 o2 o3 o4 o5 o6 o7 : Oper} {n t0 d1 d2 d3 d4 d5 d6 d7 j : Nat} {p q x y ax ay : Value} {b e : Bool} (T : Tr a n p q t0 b) (h0 : 3 < d1) (hd : d1 < d2 ∧ d2 < d3 ∧ d3 < d4 ∧ d4 < d5 ∧ d5 < d6 ∧ d6 < d7 ∧ d7 < n) (_ht : t0 < d1)
    (g1 : o1.guard = none) (g2 : o2.guard = some (j, true)) (g3 : o3.guard = some (j, true)) (g4 : o4.guard = some (j, true)) (g5 : o5.guard = some (j, true)) (g6 : o6.guard = some (j, true)) (g7 : o7.guard = none) (hj : ops[j]? = some o1)
    (s1 : o1.dst = some d1) (s2 : o2.dst = some d2) (s3 : o3.dst = some d3) (s4 : o4.dst = some d4) (s5 : o5.dst = some d5) (s6 : o6.dst = some d6) (s7 : o7.dst = some d7)
    (e1 : ∀ ρ : Operand → Value, ρ (.tmp t0) = .bool b → (execOp ρ o1).run P w = .ok (.value (.bool b)) w)
    (e2 : ∀ ρ : Operand → Value, ρ (.tmp 2) = p → (execOp ρ o2).run P w = .ok (.value ax) w) (e3 : ∀ ρ : Operand → Value, ρ (.tmp d2) = ax → (execOp ρ o3).run P w = .ok (.value x) w)
    (e4 : ∀ ρ : Operand → Value, ρ (.tmp 3) = q → (execOp ρ o4).run P w = .ok (.value ay) w) (e5 : ∀ ρ : Operand → Value, ρ (.tmp d4) = ay → (execOp ρ o5).run P w = .ok (.value y) w)
    (e6 : ∀ ρ : Operand → Value, ρ (.tmp d3) = x → ρ (.tmp d5) = y → (execOp ρ o6).run P w = .ok (.value (.bool e)) w)
    (e7 : ∀ (ρ : Operand → Value) (_v : Value), (∀ c, ρ (.const c) = c) → ρ (.tmp d1) = .bool b → (b = true → ρ (.tmp d6) = .bool e) → (execOp ρ o7).run P w = .ok (.value (.bool (b && e))) w)
    (h : ∀ a', Tr a' n p q d7 (b && e) → wpList P ops Q rest a' w) : wpList P ops Q (o1 :: o2 :: o3 :: o4 :: o5 :: o6 :: o7 :: rest) a w := by
  obtain ⟨l1, l2, l3, l4, l5, l6, l7⟩ := hd
  refine wpList_val (wanted_free g1) (e1 _ (eval_of T.b)) ?_
  rw [s1]
  have T1 := T.yes (d := d1) (c := b) (by omega) (by omega) (by omega)
  generalize a.put (some d1) (.bool b) = a1 at T1
  clear T
  cases b with
  | true =>
    refine wpList_val (wanted_at g2 hj s1 T1.b) (e2 _ (eval_of T1.l)) ?_
    rw [s2]
    have T2 := T1.put (d := d2) (v := ax) (by omega) (by omega) (by omega)
    have k2 : (a1.put (some d2) ax).tmps[d2]? = some ax := put_same (by rw [T1.size]; omega)
    refine wpList_val (wanted_at g3 hj s1 T2.b) (e3 _ (eval_of k2)) ?_
    rw [s3]
    generalize a1.put (some d2) ax = a2 at *
    have T3 := T2.put (d := d3) (v := x) (by omega) (by omega) (by omega)
    have k3 : (a2.put (some d3) x).tmps[d3]? = some x := put_same (by rw [T2.size]; omega)
    refine wpList_val (wanted_at g4 hj s1 T3.b) (e4 _ (eval_of T3.r)) ?_
    rw [s4]
    generalize a2.put (some d3) x = a3 at *
    have T4 := T3.put (d := d4) (v := ay) (by omega) (by omega) (by omega)
    have k4 : (a3.put (some d4) ay).tmps[d4]? = some ay := put_same (by rw [T3.size]; omega)
    have k3' : (a3.put (some d4) ay).tmps[d3]? = some x := (put_far (by omega)).trans k3
    refine wpList_val (wanted_at g5 hj s1 T4.b) (e5 _ (eval_of k4)) ?_
    rw [s5]
    generalize a3.put (some d4) ay = a4 at *
    have T5 := T4.put (d := d5) (v := y) (by omega) (by omega) (by omega)
    have k5 : (a4.put (some d5) y).tmps[d5]? = some y := put_same (by rw [T4.size]; omega)
    have k5' : (a4.put (some d5) y).tmps[d3]? = some x := (put_far (by omega)).trans k3'
    refine wpList_val (wanted_at g6 hj s1 T5.b) (e6 _ (eval_of k5') (eval_of k5)) ?_
    rw [s6]
    generalize a4.put (some d5) y = a5 at *
    have T6 := T5.put (d := d6) (v := .bool e) (by omega) (by omega) (by omega)
    have k6 : (a5.put (some d6) (.bool e)).tmps[d6]? = some (.bool e) := put_same (by rw [T5.size]; omega)
    refine wpList_val (wanted_free g7) (e7 _ (.bool e) (fun _ => rfl) (eval_of T6.b) (fun _ => eval_of k6)) ?_
    rw [s7]
    exact h _ (T6.yes (by omega) (by omega) (by omega))
  | false =>
    refine wpList_skip (wanted_at g2 hj s1 T1.b) ?_
    rw [s2]
    have T2 := T1.put (d := d2) (v := undef) (by omega) (by omega) (by omega)
    refine wpList_skip (wanted_at g3 hj s1 T2.b) ?_
    rw [s3]
    have T3 := T2.put (d := d3) (v := undef) (by omega) (by omega) (by omega)
    refine wpList_skip (wanted_at g4 hj s1 T3.b) ?_
    rw [s4]
    have T4 := T3.put (d := d4) (v := undef) (by omega) (by omega) (by omega)
    refine wpList_skip (wanted_at g5 hj s1 T4.b) ?_
    rw [s5]
    have T5 := T4.put (d := d5) (v := undef) (by omega) (by omega) (by omega)
    refine wpList_skip (wanted_at g6 hj s1 T5.b) ?_
    rw [s6]
    have T6 := T5.put (d := d6) (v := undef) (by omega) (by omega) (by omega)
    refine wpList_val (wanted_free g7) (e7 _ undef (fun _ => rfl) (eval_of T6.b) (fun h => by cases h)) ?_
    rw [s7]
    exact h _ (T6.yes (by omega) (by omega) (by omega))
/-- .. a call that compares. -/
theorem wpList_and7c {o1 o2 o3 o4 o5 o6 o7 : Oper} {n t0 d1 d2 d3 d4 d5 d6 d7 j f : Nat} {p q x y ax ay : Value} {b e : Bool} (T : Tr a n p q t0 b) (h0 : 3 < d1) (hd : d1 < d2 ∧ d2 < d3 ∧ d3 < d4 ∧ d4 < d5 ∧ d5 < d6 ∧ d6 < d7 ∧ d7 < n) (_ht : t0 < d1)
    (g1 : o1.guard = none) (g2 : o2.guard = some (j, true)) (g3 : o3.guard = some (j, true)) (g4 : o4.guard = some (j, true)) (g5 : o5.guard = some (j, true)) (g6 : o6.guard = some (j, true)) (g7 : o7.guard = none) (hj : ops[j]? = some o1)
    (s1 : o1.dst = some d1) (s2 : o2.dst = some d2) (s3 : o3.dst = some d3) (s4 : o4.dst = some d4) (s5 : o5.dst = some d5) (s6 : o6.dst = some d6) (s7 : o7.dst = some d7)
    (e1 : ∀ ρ : Operand → Value, ρ (.tmp t0) = .bool b → (execOp ρ o1).run P w = .ok (.value (.bool b)) w)
    (e2 : ∀ ρ : Operand → Value, ρ (.tmp 2) = p → (execOp ρ o2).run P w = .ok (.value ax) w) (e3 : ∀ ρ : Operand → Value, ρ (.tmp d2) = ax → (execOp ρ o3).run P w = .ok (.value x) w)
    (e4 : ∀ ρ : Operand → Value, ρ (.tmp 3) = q → (execOp ρ o4).run P w = .ok (.value ay) w) (e5 : ∀ ρ : Operand → Value, ρ (.tmp d4) = ay → (execOp ρ o5).run P w = .ok (.value y) w)
    (e6 : ∀ ρ : Operand → Value, (∀ g, ρ (.func g) = .func (.func g) #[] #[]) → ρ (.tmp d3) = x → ρ (.tmp d5) = y → (execOp ρ o6).run P w = .ok (.enter f #[x, y]) w) (hc : Calls P f #[x, y] w fun e' w' => e' = .returned (.bool e) ∧ Below w.heap.size w w')
    (e7 : ∀ (ρ : Operand → Value) (_v : Value) (w' : World), (∀ c, ρ (.const c) = c) → ρ (.tmp d1) = .bool b → (b = true → ρ (.tmp d6) = .bool e) → (execOp ρ o7).run P w' = .ok (.value (.bool (b && e))) w')
    (h : ∀ a' w', Tr a' n p q d7 (b && e) → Below w.heap.size w w' → wpList P ops Q rest a' w') : wpList P ops Q (o1 :: o2 :: o3 :: o4 :: o5 :: o6 :: o7 :: rest) a w := by
  obtain ⟨l1, l2, l3, l4, l5, l6, l7⟩ := hd
  refine wpList_val (wanted_free g1) (e1 _ (eval_of T.b)) ?_
  rw [s1]
  have T1 := T.yes (d := d1) (c := b) (by omega) (by omega) (by omega)
  generalize a.put (some d1) (.bool b) = a1 at T1
  clear T
  cases b with
  | true =>
    refine wpList_val (wanted_at g2 hj s1 T1.b) (e2 _ (eval_of T1.l)) ?_
    rw [s2]
    have T2 := T1.put (d := d2) (v := ax) (by omega) (by omega) (by omega)
    have k2 : (a1.put (some d2) ax).tmps[d2]? = some ax := put_same (by rw [T1.size]; omega)
    refine wpList_val (wanted_at g3 hj s1 T2.b) (e3 _ (eval_of k2)) ?_
    rw [s3]
    generalize a1.put (some d2) ax = a2 at *
    have T3 := T2.put (d := d3) (v := x) (by omega) (by omega) (by omega)
    have k3 : (a2.put (some d3) x).tmps[d3]? = some x := put_same (by rw [T2.size]; omega)
    refine wpList_val (wanted_at g4 hj s1 T3.b) (e4 _ (eval_of T3.r)) ?_
    rw [s4]
    generalize a2.put (some d3) x = a3 at *
    have T4 := T3.put (d := d4) (v := ay) (by omega) (by omega) (by omega)
    have k4 : (a3.put (some d4) ay).tmps[d4]? = some ay := put_same (by rw [T3.size]; omega)
    have k3' : (a3.put (some d4) ay).tmps[d3]? = some x := (put_far (by omega)).trans k3
    refine wpList_val (wanted_at g5 hj s1 T4.b) (e5 _ (eval_of k4)) ?_
    rw [s5]
    generalize a3.put (some d4) ay = a4 at *
    have T5 := T4.put (d := d5) (v := y) (by omega) (by omega) (by omega)
    have k5 : (a4.put (some d5) y).tmps[d5]? = some y := put_same (by rw [T4.size]; omega)
    have k5' : (a4.put (some d5) y).tmps[d3]? = some x := (put_far (by omega)).trans k3'
    refine wpList_called (wanted_at g6 hj s1 T5.b) (e6 _ (fun _ => rfl) (eval_of k5') (eval_of k5)) hc fun w' hb => ?_
    rw [s6]
    generalize a4.put (some d5) y = a5 at *
    have T6 := T5.put (d := d6) (v := .bool e) (by omega) (by omega) (by omega)
    have k6 : (a5.put (some d6) (.bool e)).tmps[d6]? = some (.bool e) := put_same (by rw [T5.size]; omega)
    refine wpList_val (wanted_free g7) (e7 _ (.bool e) w' (fun _ => rfl) (eval_of T6.b) (fun _ => eval_of k6)) ?_
    rw [s7]
    exact h _ _ (T6.yes (by omega) (by omega) (by omega)) hb
  | false =>
    refine wpList_skip (wanted_at g2 hj s1 T1.b) ?_
    rw [s2]
    have T2 := T1.put (d := d2) (v := undef) (by omega) (by omega) (by omega)
    refine wpList_skip (wanted_at g3 hj s1 T2.b) ?_
    rw [s3]
    have T3 := T2.put (d := d3) (v := undef) (by omega) (by omega) (by omega)
    refine wpList_skip (wanted_at g4 hj s1 T3.b) ?_
    rw [s4]
    have T4 := T3.put (d := d4) (v := undef) (by omega) (by omega) (by omega)
    refine wpList_skip (wanted_at g5 hj s1 T4.b) ?_
    rw [s5]
    have T5 := T4.put (d := d5) (v := undef) (by omega) (by omega) (by omega)
    refine wpList_skip (wanted_at g6 hj s1 T5.b) ?_
    rw [s6]
    have T6 := T5.put (d := d6) (v := undef) (by omega) (by omega) (by omega)
    refine wpList_val (wanted_free g7) (e7 _ undef w (fun _ => rfl) (eval_of T6.b) (fun h => by cases h)) ?_
    rw [s7]
    exact h _ _ (T6.yes (by omega) (by omega) (by omega)) (Below.refl _ _)
theorem tr_start {n t : Nat} {p q : Value} {b : Bool} (h : ∀ a', Tr a' n p q t b → wpList P ops Q rest a' w) (hT : Tr a n p q t b) : wpList P ops Q rest a w := h a hT
end

end Go.Proofs.YtaefioikflllcaaGreat
