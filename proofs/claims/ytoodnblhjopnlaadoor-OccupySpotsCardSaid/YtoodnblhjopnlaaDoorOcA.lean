/-
  occupy as landed at 785be24: formed maps, rectangles within a map, positions, what is blocked and open, neighbors in a rectangle.
-/
import Derived.Test.YtoodnblhjopnlaaDoorOcMath
import Derived.Test.YtoodnblhjopnlaaDoorTerLandQ
import Derived.Test.YtoodnblhjopnlaaDoorGridLandH
import Derived.Test.YtoodnblhjopnlaaDoorAny
import Derived.Deep.Cut
namespace Go.Proofs.YtoodnblhjopnlaaDoor
open Go.RowKit Go.Lib

theorem doins_b (x y u v p q : Int) (b : Bool) (W : World) (e : Hid (b = insv ⟨x, y, u, v⟩ p q)) : Calls Tryd.prog 42 #[.agg #[.int .i64 x, .int .i64 y, .int .i64 u, .int .i64 v], .agg #[.int .i64 p, .int .i64 q]] W fun e w' => e = .returned (.bool b) ∧ Below W.heap.size W w' := by
  rw [e.out]; exact dins_x x y u v p q W
theorem dostep_b (x y d u v : Int) (W : World) (hE : EnvG W) (e : Hid (u = stx x d ∧ v = sty y d)) : Calls Tryd.prog 64 #[.agg #[.int .i64 x, .int .i64 y], .int .i64 d] W fun e w' => e = .returned (.agg #[.int .i64 u, .int .i64 v]) ∧ Below W.heap.size W w' := by
  rw [e.out.1, e.out.2]; exact dstep_any x y d W hE
theorem dooct_b (x y u v n : Int) (W : World) (e : Hid (n = octv x y u v)) : Calls Tryd.prog 29 #[.agg #[.int .i64 x, .int .i64 y], .agg #[.int .i64 u, .int .i64 v]] W fun e w' => e = .returned (.int .i64 n) ∧ Below W.heap.size W w' := by
  rw [e.out]; exact doct_any x y u v W
theorem doclip_b (g h : Int) (r : R4) (a b c d : Int) (W : World) (e : Hid (clipv g h r = ⟨a, b, c, d⟩)) : Calls Tryd.prog 34 #[.int .i64 g, .int .i64 h, .agg #[.int .i64 r.x, .int .i64 r.y, .int .i64 r.w, .int .i64 r.h]] W fun e w' => e = .returned (.agg #[.int .i64 a, .int .i64 b, .int .i64 c, .int .i64 d]) ∧ Below W.heap.size W w' := by
  have h9 := dclip_x g h r.x r.y r.w r.h W
  rw [show (⟨r.x, r.y, r.w, r.h⟩ : R4) = r from rfl, e.out] at h9
  exact h9
set_option maxHeartbeats 1000000 in
theorem exec_neR {o : Oper} {ρ : Operand → Value} {w : World} (a b c d : Int) (p1 p2 : Operand) (t : TypeId) (ho : o.op = .binOp .neq 33 p1 p2 t) (h1 : ρ p1 = .agg #[.int .i64 a, .int .i64 b, .int .i64 c, .int .i64 d]) (h2 : ρ p2 = .agg #[.int .i64 0, .int .i64 0, .int .i64 0, .int .i64 0]) :
    (execOp ρ o).run Tryd.prog w = .ok (.value (.bool (!decide (a = 0 ∧ b = 0 ∧ c = 0 ∧ d = 0)))) w := by
  unfold execOp
  simp only [ho, h1, h2]
  go_simp
  by_cases c1 : a = 0
  · by_cases c2 : b = 0
    · by_cases c3 : c = 0 <;> by_cases c4 : d = 0 <;> simp [c1, c2, c3, c4]
    · simp [c1, c2]
  · simp [c1]
set_option maxHeartbeats 1000000 in
theorem exec_eqR {o : Oper} {ρ : Operand → Value} {w : World} (a b c d x y z u : Int) (p1 p2 : Operand) (t : TypeId) (ho : o.op = .binOp .eql 33 p1 p2 t) (h1 : ρ p1 = .agg #[.int .i64 a, .int .i64 b, .int .i64 c, .int .i64 d]) (h2 : ρ p2 = .agg #[.int .i64 x, .int .i64 y, .int .i64 z, .int .i64 u]) :
    (execOp ρ o).run Tryd.prog w = .ok (.value (.bool (decide (a = x ∧ b = y ∧ c = z ∧ d = u)))) w := by
  unfold execOp
  simp only [ho, h1, h2]
  go_simp
  by_cases c1 : a = x
  · by_cases c2 : b = y
    · by_cases c3 : c = z <;> by_cases c4 : d = u <;> simp [c1, c2, c3, c4]
    · simp [c1, c2]
  · simp [c1]
instance r4Dec : DecidableEq R4 := fun a b => decidable_of_iff (a.x = b.x ∧ a.y = b.y ∧ a.w = b.w ∧ a.h = b.h) (by cases a; cases b; simp [R4.mk.injEq])
theorem r4_ext (r q : R4) : decide (r = q) = decide (r.x = q.x ∧ r.y = q.y ∧ r.w = q.w ∧ r.h = q.h) := by
  obtain ⟨a, b, c, d⟩ := r
  obtain ⟨x, y, z, u⟩ := q
  exact decide_eq_decide.2 (by rw [R4.mk.injEq])
theorem within_cases (m : M3) (r : R4) : withinv m r = (formedv m && !decide (r = R4.zero) && decide (clipv m.w m.h r = r)) := by
  cases hf : formedv m with
  | false => unfold withinv; rw [hf]; rfl
  | true =>
    rw [Bool.true_and, Bool.eq_iff_iff, within_clip hf, Bool.and_eq_true, Bool.not_eq_true', decide_eq_false_iff_not, decide_eq_true_iff]

set_option maxHeartbeats 1000000 in
theorem ocformed_any (m : M3) (s : Value) (W : World) (hr : RowAt W s m.cs) :
    Calls Tryd.prog 32 #[mapV m s] W fun e w' => e = .returned (.bool (formedv m)) ∧ Below W.heap.size W w' := by
  obtain ⟨w, h, cs⟩ := m
  obtain ⟨p, c, rfl, hm, -⟩ := hr
  unfold maxLen at hm
  show Calls Tryd.prog 32 #[.agg #[.int .i64 w, .int .i64 h, .slice p cs.length c]] W _
  dsimp only at hm
  have hc := dvalid_any w h
  cases hv : validv w h with
  | true =>
    have hf : formedv ⟨w, h, cs⟩ = decide ((cs.length : Int) = w * h) := by unfold formedv; rw [hv, Bool.true_and]
    have hd := hv
    unfold validv at hd
    have hd := of_decide_eq_true hd
    obtain ⟨X, rfl⟩ := Int.eq_ofNat_of_zero_le (show 0 ≤ w by omega)
    obtain ⟨Y, rfl⟩ := Int.eq_ofNat_of_zero_le (show 0 ≤ h by omega)
    have hxy : X * Y ≤ 32 * 32 := Nat.mul_le_mul (by omega) (by omega)
    have e : (X : Int) * Y = ((X * Y : Nat) : Int) := by simp
    have ew : IntKind.i64.wrap ((X : Int) * Y) = (X : Int) * Y := IntWalk.i64_in _ (by rw [e]; omega)
    rw [hv] at hc
    rw [hf]
    clear e
    go_enter Tryd.func32, Tryd.ntmps32
    go_wp2_with fail
    ((with_reducible refine (hc _).mono ?_); rintro e w1 ⟨rfl, hw⟩)
    rw [← hw]
    clear hw
    go_wp2_with fail
    go_ret
    exact ⟨ret_bit (by rfl), (Below.refl _ _).alloc (Nat.le_refl _) _⟩
  | false =>
    have hf : formedv ⟨w, h, cs⟩ = false := by unfold formedv; rw [hv, Bool.false_and]
    rw [hv] at hc
    rw [hf]
    go_enter Tryd.func32, Tryd.ntmps32
    go_wp2_with fail
    ((with_reducible refine (hc _).mono ?_); rintro e w1 ⟨rfl, hw⟩)
    rw [← hw]
    clear hw
    go_wp2_with fail
    go_ret
    exact ⟨rfl, (Below.refl _ _).alloc (Nat.le_refl _) _⟩

theorem ocformed_b (m : M3) (s : Value) (b : Bool) (W : World) (hr : RowAt W s m.cs) (e : Hid (b = formedv m)) :
    Calls Tryd.prog 32 #[.agg #[.int .i64 m.w, .int .i64 m.h, s]] W fun e w' => e = .returned (.bool b) ∧ Below W.heap.size W w' := by
  rw [e.out]; exact ocformed_any m s W hr
set_option maxHeartbeats 4000000 in
set_option maxRecDepth 100000 in
theorem ocwithin_b (m : M3) (s : Value) (r : R4) (b : Bool) (W : World) (hr : RowAt W s m.cs) (e : Hid (b = withinv m r)) :
    Calls Tryd.prog 37 #[.agg #[.int .i64 m.w, .int .i64 m.h, s], .agg #[.int .i64 r.x, .int .i64 r.y, .int .i64 r.w, .int .i64 r.h]] W fun e w' => e = .returned (.bool b) ∧ Below W.heap.size W w' := by
  obtain ⟨g, hg⟩ : ∃ g, Hid (g = formedv m) := ⟨_, hid rfl⟩
  have hb := e.out
  rw [within_cases, ← hg.out] at hb
  clear e
  have hF := Held2.start W [.int .i64 m.w, .int .i64 m.h, s] [.int .i64 r.x, .int .i64 r.y, .int .i64 r.w, .int .i64 r.h] 24 33
  have cf := fun (w : World) (hb : Below W.heap.size W w) => ocformed_b m s g w (hr.below hb) hg
  obtain ⟨a, b', c, d, hq⟩ : ∃ a b' c d, clipv m.w m.h r = ⟨a, b', c, d⟩ := ⟨_, _, _, _, rfl⟩
  have cc := fun (w : World) => doclip_b m.w m.h r a b' c d w (hid hq)
  clear hr
  cases g with
  | false =>
    subst hb
    clear cc hq hg
    go_enter Tryd.func37, Tryd.ntmps37
    go_upto_region 1 with fail
    generalize (W.alloc (.cells [Value.int .i64 m.w, .int .i64 m.h, s].toArray 24)).alloc (.cells [Value.int .i64 r.x, .int .i64 r.y, .int .i64 r.w, .int .i64 r.h].toArray 33) = V at *
    have hmx : Tryd.prog.follows .mixedOrders = true := by kernel_rfl
    refine wp_region_held (S := (fun w' => Below V.heap.size V w')) hmx ?_
    show wpAnyH _ _ _ _ _ _ _ _ V.drew
    have hS0 := (Below.refl V.heap.size V).drew
    refine reg_tk (i := 0) (v := .agg #[.int .i64 m.w, .int .i64 m.h, s]) (some 5) rfl (fun w' hS => by (have u0 := (hF.l.below hS).cell 0; have u1 := (hF.l.below hS).cell 1; have u2 := (hF.l.below hS).cell 2; go_simp)) hS0 ?_
    try simp only [Act.put, List.setIfInBounds_toArray, List.set_cons_zero, List.set_cons_succ]
    refine held_one (i := 1) (by kernel_rfl) rfl (fun K hQ => ?_)
    go_simp
    ((with_reducible refine (cf _ (below_call hF.old hS0)).mono ?_); rintro e w1 ⟨rfl, hb⟩)
    have hS1 := below_call hS0 hb
    clear hb
    refine hQ.out _ _ hS1 ?_
    clear hQ
    try simp only [Act.put, List.setIfInBounds_toArray, List.set_cons_zero, List.set_cons_succ]
    refine reg_tk (i := 2) (v := .bool false) (some 7) rfl (fun w' hS => by skip; go_simp) hS1 ?_
    try simp only [Act.put, List.setIfInBounds_toArray, List.set_cons_zero, List.set_cons_succ]
    refine reg_skip (i := 3) (some 8) rfl rfl (by kernel_rfl) (by kernel_rfl) (by kernel_rfl) (fun _ _ _ h => h) (by kernel_rfl) hS1 ?_
    try simp only [Act.put, List.setIfInBounds_toArray, List.set_cons_zero, List.set_cons_succ]
    refine reg_skip (i := 4) (some 9) rfl rfl (by kernel_rfl) (by kernel_rfl) (by kernel_rfl) (fun _ _ _ h => h) (by kernel_rfl) hS1 ?_
    try simp only [Act.put, List.setIfInBounds_toArray, List.set_cons_zero, List.set_cons_succ]
    refine reg_skip (i := 5) (some 10) rfl rfl (by kernel_rfl) (by kernel_rfl) (by kernel_rfl) (fun _ _ _ h => h) (by kernel_rfl) hS1 ?_
    try simp only [Act.put, List.setIfInBounds_toArray, List.set_cons_zero, List.set_cons_succ]
    refine reg_tk (i := 6) (v := .bool false) (some 11) rfl (fun w' hS => by skip; go_simp) hS1 ?_
    try simp only [Act.put, List.setIfInBounds_toArray, List.set_cons_zero, List.set_cons_succ]
    refine reg_tk (i := 7) (v := .bool false) (some 12) rfl (fun w' hS => by skip; go_simp) hS1 ?_
    try simp only [Act.put, List.setIfInBounds_toArray, List.set_cons_zero, List.set_cons_succ]
    refine reg_skip (i := 8) (some 13) rfl rfl (by kernel_rfl) (by kernel_rfl) (by kernel_rfl) (fun _ _ _ h => h) (by kernel_rfl) hS1 ?_
    try simp only [Act.put, List.setIfInBounds_toArray, List.set_cons_zero, List.set_cons_succ]
    refine reg_skip (i := 9) (some 14) rfl rfl (by kernel_rfl) (by kernel_rfl) (by kernel_rfl) (fun _ _ _ h => h) (by kernel_rfl) hS1 ?_
    try simp only [Act.put, List.setIfInBounds_toArray, List.set_cons_zero, List.set_cons_succ]
    refine reg_skip (i := 10) (some 15) rfl rfl (by kernel_rfl) (by kernel_rfl) (by kernel_rfl) (fun _ _ _ h => h) (by kernel_rfl) hS1 ?_
    try simp only [Act.put, List.setIfInBounds_toArray, List.set_cons_zero, List.set_cons_succ]
    refine reg_skip (i := 11) (some 16) rfl rfl (by kernel_rfl) (by kernel_rfl) (by kernel_rfl) (fun _ _ _ h => h) (by kernel_rfl) hS1 ?_
    try simp only [Act.put, List.setIfInBounds_toArray, List.set_cons_zero, List.set_cons_succ]
    refine reg_skip (i := 12) (some 17) rfl rfl (by kernel_rfl) (by kernel_rfl) (by kernel_rfl) (fun _ _ _ h => h) (by kernel_rfl) hS1 ?_
    try simp only [Act.put, List.setIfInBounds_toArray, List.set_cons_zero, List.set_cons_succ]
    refine reg_skip (i := 13) (some 18) rfl rfl (by kernel_rfl) (by kernel_rfl) (by kernel_rfl) (fun _ _ _ h => h) (by kernel_rfl) hS1 ?_
    try simp only [Act.put, List.setIfInBounds_toArray, List.set_cons_zero, List.set_cons_succ]
    refine reg_skip (i := 14) (some 19) rfl rfl (by kernel_rfl) (by kernel_rfl) (by kernel_rfl) (fun _ _ _ h => h) (by kernel_rfl) hS1 ?_
    try simp only [Act.put, List.setIfInBounds_toArray, List.set_cons_zero, List.set_cons_succ]
    refine reg_skip (i := 15) (some 20) rfl rfl (by kernel_rfl) (by kernel_rfl) (by kernel_rfl) (fun _ _ _ h => h) (by kernel_rfl) hS1 ?_
    try simp only [Act.put, List.setIfInBounds_toArray, List.set_cons_zero, List.set_cons_succ]
    refine reg_tk (i := 16) (v := .bool false) (some 21) rfl (fun w' hS => by skip; go_simp) hS1 ?_
    try simp only [Act.put, List.setIfInBounds_toArray, List.set_cons_zero, List.set_cons_succ]
    refine reg_tk (i := 17) (v := .bool false) (some 4) rfl (fun w' hS => by skip; go_simp) hS1 ?_
    try simp only [Act.put, List.setIfInBounds_toArray, List.set_cons_zero, List.set_cons_succ]
    refine wpAnyH_done (by kernel_rfl) ?_ _
    show Exit.then _ _ Exit.normal _ _
    go_wp2
    go_ret
    exact ⟨rfl, below_call hF.old hS1⟩
  | true =>
    rw [Bool.true_and] at hb
    obtain ⟨n, hn⟩ : ∃ n, n = decide (r = R4.zero) := ⟨_, rfl⟩
    rw [← hn] at hb
    have n1 : (!decide (r.x = 0 ∧ r.y = 0 ∧ r.w = 0 ∧ r.h = 0)) = !n := by rw [hn, r4_ext]; rfl
    cases n with
    | true =>
      subst hb
      clear cc hq hg hn
      go_enter Tryd.func37, Tryd.ntmps37
      go_upto_region 1 with fail
      generalize (W.alloc (.cells [Value.int .i64 m.w, .int .i64 m.h, s].toArray 24)).alloc (.cells [Value.int .i64 r.x, .int .i64 r.y, .int .i64 r.w, .int .i64 r.h].toArray 33) = V at *
      have hmx : Tryd.prog.follows .mixedOrders = true := by kernel_rfl
      refine wp_region_held (S := (fun w' => Below V.heap.size V w')) hmx ?_
      show wpAnyH _ _ _ _ _ _ _ _ V.drew
      have hS0 := (Below.refl V.heap.size V).drew
      refine reg_tk (i := 0) (v := .agg #[.int .i64 m.w, .int .i64 m.h, s]) (some 5) rfl (fun w' hS => by (have u0 := (hF.l.below hS).cell 0; have u1 := (hF.l.below hS).cell 1; have u2 := (hF.l.below hS).cell 2; go_simp)) hS0 ?_
      try simp only [Act.put, List.setIfInBounds_toArray, List.set_cons_zero, List.set_cons_succ]
      refine held_one (i := 1) (by kernel_rfl) rfl (fun K hQ => ?_)
      go_simp
      ((with_reducible refine (cf _ (below_call hF.old hS0)).mono ?_); rintro e w1 ⟨rfl, hb⟩)
      have hS1 := below_call hS0 hb
      clear hb
      refine hQ.out _ _ hS1 ?_
      clear hQ
      try simp only [Act.put, List.setIfInBounds_toArray, List.set_cons_zero, List.set_cons_succ]
      refine reg_tk (i := 2) (v := .bool true) (some 7) rfl (fun w' hS => by skip; go_simp) hS1 ?_
      try simp only [Act.put, List.setIfInBounds_toArray, List.set_cons_zero, List.set_cons_succ]
      refine reg_tk (i := 3) (v := .agg #[.int .i64 r.x, .int .i64 r.y, .int .i64 r.w, .int .i64 r.h]) (some 8) rfl (fun w' hS => by (have u0 := (hF.r.below hS).cell 0; have u1 := (hF.r.below hS).cell 1; have u2 := (hF.r.below hS).cell 2; have u3 := (hF.r.below hS).cell 3; go_simp)) hS1 ?_
      try simp only [Act.put, List.setIfInBounds_toArray, List.set_cons_zero, List.set_cons_succ]
      refine reg_tk (i := 4) (v := .agg #[.int .i64 0, .int .i64 0, .int .i64 0, .int .i64 0]) (some 9) rfl (fun w' hS => by skip; go_simp) hS1 ?_
      try simp only [Act.put, List.setIfInBounds_toArray, List.set_cons_zero, List.set_cons_succ]
      refine reg_tk (i := 5) (v := .bool false) (some 10) rfl (fun w' hS => (exec_neR r.x r.y r.w r.h (.tmp 8) (.tmp 9) _ rfl rfl rfl).trans (by rw [n1]; rfl)) hS1 ?_
      try simp only [Act.put, List.setIfInBounds_toArray, List.set_cons_zero, List.set_cons_succ]
      refine reg_tk (i := 6) (v := .bool false) (some 11) rfl (fun w' hS => by skip; go_simp) hS1 ?_
      try simp only [Act.put, List.setIfInBounds_toArray, List.set_cons_zero, List.set_cons_succ]
      refine reg_tk (i := 7) (v := .bool false) (some 12) rfl (fun w' hS => by skip; go_simp) hS1 ?_
      try simp only [Act.put, List.setIfInBounds_toArray, List.set_cons_zero, List.set_cons_succ]
      refine reg_skip (i := 8) (some 13) rfl rfl (by kernel_rfl) (by kernel_rfl) (by kernel_rfl) (fun _ _ _ h => h) (by kernel_rfl) hS1 ?_
      try simp only [Act.put, List.setIfInBounds_toArray, List.set_cons_zero, List.set_cons_succ]
      refine reg_skip (i := 9) (some 14) rfl rfl (by kernel_rfl) (by kernel_rfl) (by kernel_rfl) (fun _ _ _ h => h) (by kernel_rfl) hS1 ?_
      try simp only [Act.put, List.setIfInBounds_toArray, List.set_cons_zero, List.set_cons_succ]
      refine reg_skip (i := 10) (some 15) rfl rfl (by kernel_rfl) (by kernel_rfl) (by kernel_rfl) (fun _ _ _ h => h) (by kernel_rfl) hS1 ?_
      try simp only [Act.put, List.setIfInBounds_toArray, List.set_cons_zero, List.set_cons_succ]
      refine reg_skip (i := 11) (some 16) rfl rfl (by kernel_rfl) (by kernel_rfl) (by kernel_rfl) (fun _ _ _ h => h) (by kernel_rfl) hS1 ?_
      try simp only [Act.put, List.setIfInBounds_toArray, List.set_cons_zero, List.set_cons_succ]
      refine reg_skip (i := 12) (some 17) rfl rfl (by kernel_rfl) (by kernel_rfl) (by kernel_rfl) (fun _ _ _ h => h) (by kernel_rfl) hS1 ?_
      try simp only [Act.put, List.setIfInBounds_toArray, List.set_cons_zero, List.set_cons_succ]
      refine reg_skip (i := 13) (some 18) rfl rfl (by kernel_rfl) (by kernel_rfl) (by kernel_rfl) (fun _ _ _ h => h) (by kernel_rfl) hS1 ?_
      try simp only [Act.put, List.setIfInBounds_toArray, List.set_cons_zero, List.set_cons_succ]
      refine reg_skip (i := 14) (some 19) rfl rfl (by kernel_rfl) (by kernel_rfl) (by kernel_rfl) (fun _ _ _ h => h) (by kernel_rfl) hS1 ?_
      try simp only [Act.put, List.setIfInBounds_toArray, List.set_cons_zero, List.set_cons_succ]
      refine reg_skip (i := 15) (some 20) rfl rfl (by kernel_rfl) (by kernel_rfl) (by kernel_rfl) (fun _ _ _ h => h) (by kernel_rfl) hS1 ?_
      try simp only [Act.put, List.setIfInBounds_toArray, List.set_cons_zero, List.set_cons_succ]
      refine reg_tk (i := 16) (v := .bool false) (some 21) rfl (fun w' hS => by skip; go_simp) hS1 ?_
      try simp only [Act.put, List.setIfInBounds_toArray, List.set_cons_zero, List.set_cons_succ]
      refine reg_tk (i := 17) (v := .bool false) (some 4) rfl (fun w' hS => by skip; go_simp) hS1 ?_
      try simp only [Act.put, List.setIfInBounds_toArray, List.set_cons_zero, List.set_cons_succ]
      refine wpAnyH_done (by kernel_rfl) ?_ _
      show Exit.then _ _ Exit.normal _ _
      go_wp2
      go_ret
      exact ⟨rfl, below_call hF.old hS1⟩
    | false =>
      rw [Bool.not_false, Bool.true_and, hq] at hb
      obtain ⟨z, hz⟩ : ∃ z, z = b := ⟨_, rfl⟩
      rw [← hz] at hb ⊢
      have n2 : decide (a = r.x ∧ b' = r.y ∧ c = r.w ∧ d = r.h) = z := by rw [hb, r4_ext]
      clear hq hg hn hz hb
      go_enter Tryd.func37, Tryd.ntmps37
      go_upto_region 1 with fail
      generalize (W.alloc (.cells [Value.int .i64 m.w, .int .i64 m.h, s].toArray 24)).alloc (.cells [Value.int .i64 r.x, .int .i64 r.y, .int .i64 r.w, .int .i64 r.h].toArray 33) = V at *
      have hmx : Tryd.prog.follows .mixedOrders = true := by kernel_rfl
      refine wp_region_held (S := (fun w' => Below V.heap.size V w')) hmx ?_
      show wpAnyH _ _ _ _ _ _ _ _ V.drew
      have hS0 := (Below.refl V.heap.size V).drew
      refine reg_tk (i := 0) (v := .agg #[.int .i64 m.w, .int .i64 m.h, s]) (some 5) rfl (fun w' hS => by (have u0 := (hF.l.below hS).cell 0; have u1 := (hF.l.below hS).cell 1; have u2 := (hF.l.below hS).cell 2; go_simp)) hS0 ?_
      try simp only [Act.put, List.setIfInBounds_toArray, List.set_cons_zero, List.set_cons_succ]
      refine held_one (i := 1) (by kernel_rfl) rfl (fun K hQ => ?_)
      go_simp
      ((with_reducible refine (cf _ (below_call hF.old hS0)).mono ?_); rintro e w1 ⟨rfl, hb⟩)
      have hS1 := below_call hS0 hb
      clear hb
      refine hQ.out _ _ hS1 ?_
      clear hQ
      try simp only [Act.put, List.setIfInBounds_toArray, List.set_cons_zero, List.set_cons_succ]
      refine reg_tk (i := 2) (v := .bool true) (some 7) rfl (fun w' hS => by skip; go_simp) hS1 ?_
      try simp only [Act.put, List.setIfInBounds_toArray, List.set_cons_zero, List.set_cons_succ]
      refine reg_tk (i := 3) (v := .agg #[.int .i64 r.x, .int .i64 r.y, .int .i64 r.w, .int .i64 r.h]) (some 8) rfl (fun w' hS => by (have u0 := (hF.r.below hS).cell 0; have u1 := (hF.r.below hS).cell 1; have u2 := (hF.r.below hS).cell 2; have u3 := (hF.r.below hS).cell 3; go_simp)) hS1 ?_
      try simp only [Act.put, List.setIfInBounds_toArray, List.set_cons_zero, List.set_cons_succ]
      refine reg_tk (i := 4) (v := .agg #[.int .i64 0, .int .i64 0, .int .i64 0, .int .i64 0]) (some 9) rfl (fun w' hS => by skip; go_simp) hS1 ?_
      try simp only [Act.put, List.setIfInBounds_toArray, List.set_cons_zero, List.set_cons_succ]
      refine reg_tk (i := 5) (v := .bool true) (some 10) rfl (fun w' hS => (exec_neR r.x r.y r.w r.h (.tmp 8) (.tmp 9) _ rfl rfl rfl).trans (by rw [n1]; rfl)) hS1 ?_
      try simp only [Act.put, List.setIfInBounds_toArray, List.set_cons_zero, List.set_cons_succ]
      refine reg_tk (i := 6) (v := .bool true) (some 11) rfl (fun w' hS => by skip; go_simp) hS1 ?_
      try simp only [Act.put, List.setIfInBounds_toArray, List.set_cons_zero, List.set_cons_succ]
      refine reg_tk (i := 7) (v := .bool true) (some 12) rfl (fun w' hS => by skip; go_simp) hS1 ?_
      try simp only [Act.put, List.setIfInBounds_toArray, List.set_cons_zero, List.set_cons_succ]
      refine reg_tk (i := 8) (v := .pointer (some ⟨W.heap.size, 0, none⟩)) (some 13) rfl (fun w' hS => by skip; go_simp) hS1 ?_
      try simp only [Act.put, List.setIfInBounds_toArray, List.set_cons_zero, List.set_cons_succ]
      refine reg_tk (i := 9) (v := .int .i64 m.w) (some 14) rfl (fun w' hS => by (have u0 := (hF.l.below hS).cell 0; have u1 := (hF.l.below hS).cell 1; have u2 := (hF.l.below hS).cell 2; go_simp)) hS1 ?_
      try simp only [Act.put, List.setIfInBounds_toArray, List.set_cons_zero, List.set_cons_succ]
      refine reg_tk (i := 10) (v := .pointer (some ⟨W.heap.size, 1, none⟩)) (some 15) rfl (fun w' hS => by skip; go_simp) hS1 ?_
      try simp only [Act.put, List.setIfInBounds_toArray, List.set_cons_zero, List.set_cons_succ]
      refine reg_tk (i := 11) (v := .int .i64 m.h) (some 16) rfl (fun w' hS => by (have u0 := (hF.l.below hS).cell 0; have u1 := (hF.l.below hS).cell 1; have u2 := (hF.l.below hS).cell 2; go_simp)) hS1 ?_
      try simp only [Act.put, List.setIfInBounds_toArray, List.set_cons_zero, List.set_cons_succ]
      refine reg_tk (i := 12) (v := .agg #[.int .i64 r.x, .int .i64 r.y, .int .i64 r.w, .int .i64 r.h]) (some 17) rfl (fun w' hS => by (have u0 := (hF.r.below hS).cell 0; have u1 := (hF.r.below hS).cell 1; have u2 := (hF.r.below hS).cell 2; have u3 := (hF.r.below hS).cell 3; go_simp)) hS1 ?_
      try simp only [Act.put, List.setIfInBounds_toArray, List.set_cons_zero, List.set_cons_succ]
      refine reg_tk (i := 14) (v := .agg #[.int .i64 r.x, .int .i64 r.y, .int .i64 r.w, .int .i64 r.h]) (some 19) rfl (fun w' hS => by (have u0 := (hF.r.below hS).cell 0; have u1 := (hF.r.below hS).cell 1; have u2 := (hF.r.below hS).cell 2; have u3 := (hF.r.below hS).cell 3; go_simp)) hS1 ?_
      try simp only [Act.put, List.setIfInBounds_toArray, List.set_cons_zero, List.set_cons_succ]
      refine held_one (i := 13) (by kernel_rfl) rfl (fun K hQ => ?_)
      go_simp
      ((with_reducible refine (cc _).mono ?_); rintro e w2 ⟨rfl, hb⟩)
      have hS2 := below_call hS1 hb
      clear hb
      refine hQ.out _ _ hS2 ?_
      clear hQ
      try simp only [Act.put, List.setIfInBounds_toArray, List.set_cons_zero, List.set_cons_succ]
      refine reg_tk (i := 15) (v := .bool z) (some 20) rfl (fun w' hS => (exec_eqR a b' c d r.x r.y r.w r.h (.tmp 18) (.tmp 19) _ rfl rfl rfl).trans (by rw [n2])) hS2 ?_
      try simp only [Act.put, List.setIfInBounds_toArray, List.set_cons_zero, List.set_cons_succ]
      refine reg_tk (i := 16) (v := .bool z) (some 21) rfl (fun w' hS => by skip; go_simp) hS2 ?_
      try simp only [Act.put, List.setIfInBounds_toArray, List.set_cons_zero, List.set_cons_succ]
      refine reg_tk (i := 17) (v := .bool z) (some 4) rfl (fun w' hS => by skip; go_simp) hS2 ?_
      try simp only [Act.put, List.setIfInBounds_toArray, List.set_cons_zero, List.set_cons_succ]
      refine wpAnyH_done (by kernel_rfl) ?_ _
      show Exit.then _ _ Exit.normal _ _
      go_wp2
      go_ret
      exact ⟨rfl, below_call hF.old hS2⟩

set_option maxHeartbeats 2000000 in
theorem ocpos_b (m : M3) (s : Value) (L : List (Int × Int)) (W : World) (hr : RowAt W s m.cs) (e : Hid (allp m = L)) :
    Calls Tryd.prog 45 #[.agg #[.int .i64 m.w, .int .i64 m.h, s]] W fun e w' => ∃ v, e = .returned v ∧ w'.ownsRow W.heap.size 42 2 v L.length (pcells L) ∧ Below W.heap.size W w' := by
  obtain ⟨g, hg⟩ : ∃ g, Hid (g = formedv m) := ⟨_, hid rfl⟩
  have hB := Blk.new W [.int .i64 m.w, .int .i64 m.h, s] 24
  have hA := (Below.refl W.heap.size W).alloc (Nat.le_refl _) (.cells [.int .i64 m.w, .int .i64 m.h, s].toArray 24)
  have cf := fun (w : World) (hb : Below W.heap.size W w) => ocformed_b m s g w (hr.below hb) hg
  obtain ⟨_, _, _, _, _, _⟩ := hB.three
  cases g with
  | false =>
    have hL : L = [] := by rw [← e.out]; unfold allp; rw [if_neg (by rw [← hg.out]; decide)]
    subst hL
    go_enter Tryd.func45, Tryd.ntmps45
    go_wp2_with (go_at_call 32; with_reducible refine (cf _ hA).mono ?_; rintro e w1 ⟨rfl, hb⟩)
    go_ret
    exact ⟨_, rfl, World.ownsRow_nil _ _ _ _, below_call hA hb⟩
  | true =>
    have hc : Hid (cellsv ⟨0, 0, m.w, m.h⟩ = L) := hid (by rw [cells_all hg.out.symm]; exact e.out)
    have cl := fun (w : World) => dcells_x 0 0 m.w m.h w L hc
    clear e hc
    go_enter Tryd.func45, Tryd.ntmps45
    go_wp2_with (first
      | (go_at_call 32; with_reducible refine (cf _ hA).mono ?_; rintro e w1 ⟨rfl, hb⟩; replace hB := hB.below hb; replace hA := below_call hA hb; clear hb; obtain ⟨_, _, _, _, _, _⟩ := hB.three)
      | (go_at_call 33; with_reducible refine (cl _).mono ?_; rintro e w2 ⟨v, rfl, hown, hb⟩))
    go_ret
    exact ⟨_, rfl, own_base hown hA.size, below_call hA hb⟩

theorem index_in {m : M3} {x y : Int} (h : insidev m x y = true) : ∃ n : Nat, Hid ((n : Int) = indexv m.w x y) ∧ n < 1024 := by
  obtain ⟨X, Y, a, b, h1, h2, h3, h4, h5, h6, h7, h8, h9, h10, h11⟩ := inside_at h
  have hf : formedv m = true := by unfold insidev at h; rw [Bool.and_eq_true] at h; exact h.1
  have := formed_len hf
  exact ⟨b * X + a, hid h10.symm, by omega⟩
set_option maxHeartbeats 2000000 in
theorem ocblk_b (m : M3) (s : Value) (bl : List Bool) (l : Value) (x y : Int) (b : Bool) (W : World) (hl : BitsAt W l bl) (hi : insidev m x y = true) (e : Hid (b = blkat m bl x y)) :
    Calls Tryd.prog 39 #[.agg #[.int .i64 m.w, .int .i64 m.h, s], l, .agg #[.int .i64 x, .int .i64 y]] W fun e w' => e = .returned (.bool b) ∧ Below W.heap.size W w' := by
  obtain ⟨n, hix, hn⟩ := index_in hi
  have hb := e.out
  unfold blkat at hb
  rw [← hix.out, Int.toNat_natCast] at hb
  clear e
  have hT := Held2.start W [.int .i64 m.w, .int .i64 m.h, s] [.int .i64 x, .int .i64 y] 24 42
  have hl' := hl.below hT.old
  obtain ⟨p, k, rfl, hk, -⟩ := id hl
  unfold maxLen at hk
  obtain ⟨_, _, _, _, _, _⟩ := hT.l.three
  obtain ⟨_, _, _, _⟩ := hT.r.two
  have ci := fun (w : World) => dindex_b m.w x y n w hix
  clear hl hi hix
  go_enter Tryd.func39, Tryd.ntmps39
  go_upto_region 2 with (go_at_call 30; with_reducible refine (ci _).mono ?_; rintro e w1 ⟨rfl, hb1⟩)
  have hT1 := hT.call hb1
  replace hl' := hl'.below hb1
  clear hb1 hT ci
  have hW := hT1.old
  clear hT1
  by_cases hnl : n < bl.length
  · obtain ⟨p', k', e', -, hc⟩ := hl'
    obtain ⟨g, o, rfl, hat⟩ := hc (by omega)
    obtain ⟨rfl, -, rfl⟩ : p = some ⟨g, o, none⟩ ∧ True ∧ k = k' := by injection e' with e1 _ e2; exact ⟨e1, trivial, e2⟩
    have h1 := hat n hnl
    obtain ⟨v, hv⟩ : ∃ v, v = bl[n]'hnl := ⟨_, rfl⟩
    rw [← hv] at h1
    have hb' : b = v := by rw [hb, hv, List.getD_eq_getElem?_getD, List.getElem?_eq_getElem hnl]; rfl
    have g1 : decide ((n : Int) < (bl.length : Int)) = true := decide_eq_true (by omega)
    have n1 : (0 : Int) ≤ n := by omega
    have n2 : (n : Int) < bl.length := by omega
    subst hb'
    clear hat hc hb hv
    go_wp2_with fail
    go_ret
    exact ⟨rfl, hW⟩
  · have hb' : b = false := by rw [hb, List.getD_eq_getElem?_getD, List.getElem?_eq_none (by omega)]; rfl
    subst hb'
    have g1 : decide ((n : Int) < (bl.length : Int)) = false := decide_eq_false (by omega)
    clear hb hl'
    go_wp2_with fail
    go_ret
    exact ⟨rfl, hW⟩

set_option maxHeartbeats 2000000 in
theorem ocopen_b (m : M3) (s : Value) (bl : List Bool) (l : Value) (c x y : Int) (b : Bool) (W : World) (hE : EnvT W) (hr : RowAt W s m.cs) (hl : BitsAt W l bl) (e : Hid (b = openv m bl c x y)) :
    Calls Tryd.prog 48 #[.agg #[.int .i64 m.w, .int .i64 m.h, s], l, .int .i64 c, .agg #[.int .i64 x, .int .i64 y]] W fun e w' => e = .returned (.bool b) ∧ Below W.heap.size W w' := by
  obtain ⟨i, hi⟩ : ∃ i, Hid (i = passv m c x y) := ⟨_, hid rfl⟩
  obtain ⟨k, hk⟩ : ∃ k, Hid (k = blkat m bl x y) := ⟨_, hid rfl⟩
  have hb : b = (i && (decide (c = 3) || !k)) := by rw [e.out, hi.out, hk.out]; rfl
  clear e
  have hT := Held2.start W [.int .i64 m.w, .int .i64 m.h, s] [.int .i64 x, .int .i64 y] 24 42
  have cp := fun (w : World) (hb : Below W.heap.size W w) => dpass_b m s c x y i w (hE.p.keep hb) (hr.below hb) hi
  obtain ⟨_, _, _, _, _, _⟩ := hT.l.three
  obtain ⟨_, _, _, _⟩ := hT.r.two
  cases i with
  | false =>
    subst hb
    go_enter Tryd.func48, Tryd.ntmps48
    go_wp2_with (go_at_call 66; with_reducible refine (cp _ hT.old).mono ?_; rintro e w1 ⟨rfl, hb1⟩)
    go_ret
    exact ⟨rfl, below_call hT.old hb1⟩
  | true =>
    have hin := pass_inside hi.out.symm
    have cb := fun (w : World) (hb : Below W.heap.size W w) => ocblk_b m s bl l x y k w (hl.below hb) hin hk
    clear hin
    rw [Bool.true_and] at hb
    by_cases c3 : c = 3
    · subst c3
      rw [decide_eq_true rfl, Bool.true_or] at hb
      subst hb
      go_enter Tryd.func48, Tryd.ntmps48
      go_wp2_with (go_at_call 66; with_reducible refine (cp _ hT.old).mono ?_; rintro e w1 ⟨rfl, hb1⟩)
      go_ret
      exact ⟨rfl, below_call hT.old hb1⟩
    · have z3 : (c == 3) = false := beq_eq_false_iff_ne.2 c3
      rw [decide_eq_false c3, Bool.false_or] at hb
      subst hb
      go_enter Tryd.func48, Tryd.ntmps48
      go_wp2_with (first
        | (go_at_call 66; with_reducible refine (cp _ hT.old).mono ?_; rintro e w1 ⟨rfl, hb1⟩; replace hT := hT.call hb1; clear hb1; obtain ⟨_, _, _, _, _, _⟩ := hT.l.three; obtain ⟨_, _, _, _⟩ := hT.r.two)
        | (go_at_call 39; with_reducible refine (cb _ hT.old).mono ?_; rintro e w2 ⟨rfl, hb2⟩))
      go_ret
      exact ⟨by simp, below_call hT.old hb2⟩

set_option maxHeartbeats 4000000 in
set_option maxRecDepth 100000 in
theorem ocbord_b (r : R4) (x y : Int) (b : Bool) (W : World) (hE : EnvG W) (e : Hid (b = touchv r (x, y))) :
    Calls Tryd.prog 46 #[.agg #[.int .i64 r.x, .int .i64 r.y, .int .i64 r.w, .int .i64 r.h], .agg #[.int .i64 x, .int .i64 y]] W fun e w' => e = .returned (.bool b) ∧ Below W.heap.size W w' := by
  have hT := Held2.start W [.int .i64 r.x, .int .i64 r.y, .int .i64 r.w, .int .i64 r.h] [.int .i64 x, .int .i64 y] 33 42
  have cs := fun (d u v : Int) (w : World) (hb : Below W.heap.size W w) (e : Hid (u = stx x d ∧ v = sty y d)) => dostep_b x y d u v w (hE.keep hb) e
  have ci := fun (u v : Int) (z : Bool) (w : World) (e : Hid (z = insv r u v)) => doins_b r.x r.y r.w r.h u v z w e
  have I0 : Hid (((List.range 0).any fun (d : Nat) => insv r (stx x d) (sty y d)) = false) := hid rfl
  clear hE
  go_enter Tryd.func46, Tryd.ntmps46
  go_wp2_with fail
  go_loopw [6] (fun vi wr => ∃ d : Nat, vi = .int .i64 d ∧ d ≤ 8 ∧ Held2 W wr W.heap.size (W.heap.size + 1) [.int .i64 r.x, .int .i64 r.y, .int .i64 r.w, .int .i64 r.h] [.int .i64 x, .int .i64 y] 33 42 ∧ Hid (((List.range d).any fun (d : Nat) => insv r (stx x d) (sty y d)) = false)) (fun vi _ => 8 - (RowKit.intOf vi).toNat)
  case atStart => exact ⟨0, rfl, by omega, hT, I0⟩
  case round =>
    clear hT I0
    obtain ⟨d, rfl, hd, hT, hI⟩ := hrel
    by_cases hlt : d < 8
    · have d1 : (d : Int) < 8 := by omega
      obtain ⟨u, v, huv⟩ : ∃ u v, Hid (u = stx x d ∧ v = sty y d) := ⟨_, _, hid ⟨rfl, rfl⟩⟩
      obtain ⟨z, hz⟩ : ∃ z, Hid (z = insv r u v) := ⟨_, hid rfl⟩
      have hN : Hid (((List.range (d + 1)).any fun (d : Nat) => insv r (stx x d) (sty y d)) = z) := hid (by
        rw [List.range_succ, List.any_append, hI.out, Bool.false_or, List.any_cons, List.any_nil, Bool.or_false, hz.out, huv.out.1, huv.out.2])
      have c1 := fun (w : World) (hb : Below W.heap.size W w) => cs d u v w hb huv
      have c2 := fun (w : World) => ci u v z w hz
      have hk := fun (w' : World) (hb : Below wr.heap.size wr w') => And.intro ((hT.l.below hb).cell 0) (And.intro ((hT.l.below hb).cell 1) (And.intro ((hT.l.below hb).cell 2) (And.intro ((hT.l.below hb).cell 3) (And.intro ((hT.r.below hb).cell 0) ((hT.r.below hb).cell 1)))))
      have hq := (Below.refl wr.heap.size wr).drew
      have hW := hT.old
      obtain ⟨_, _, _, _, _, _⟩ := hk _ hq
      clear cs ci hI
      go_upto_region 4 with fail
      go_region_held3 (fun w' => w'.cell? ⟨W.heap.size, 0, none⟩ = some (.int .i64 r.x) ∧ w'.cell? ⟨W.heap.size, 1, none⟩ = some (.int .i64 r.y) ∧ w'.cell? ⟨W.heap.size, 2, none⟩ = some (.int .i64 r.w) ∧ w'.cell? ⟨W.heap.size, 3, none⟩ = some (.int .i64 r.h) ∧ w'.cell? ⟨W.heap.size + 1, 0, none⟩ = some (.int .i64 x) ∧ w'.cell? ⟨W.heap.size + 1, 1, none⟩ = some (.int .i64 y))
        (exact hk _ hq)
        (first
          | (go_at_call 64; with_reducible refine (c1 _ (below_call hW hq)).mono ?_; rintro e w' ⟨rfl, hb⟩; replace hq := below_call hq hb; clear hb)
          | (go_at_call 42; with_reducible refine (c2 _).mono ?_; rintro e w' ⟨rfl, hb⟩; replace hq := below_call hq hb; clear hb))
      replace hT := hT.call hq
      clear hq hk c1 c2
      cases z with
      | true =>
        have hb : b = true := by
          rw [e.out]
          unfold touchv
          rw [List.any_eq_true]
          exact ⟨d, List.mem_range.2 hlt, by dsimp only; rw [← huv.out.1, ← huv.out.2, ← hz.out]⟩
        subst hb
        go_wp2_with fail
        go_ret
        exact ⟨rfl, hT.old⟩
      | false =>
        clear hz huv
        go_wp2_with fail
        go_roundw
        case rel => exact ⟨d + 1, by go_num, by omega, hT, hN⟩
        case measure => simp [RowKit.intOf]; omega
    · obtain rfl : d = 8 := by omega
      have hb : b = false := by rw [e.out]; exact hI.out
      subst hb
      go_wp2_with fail
      go_ret
      exact ⟨rfl, hT.old⟩

end Go.Proofs.YtoodnblhjopnlaaDoor
