/-
  shadow as landed at 4bd78af: Blocks.
-/
import Derived.Test.YtlcbkeieejmmbaaDoorShE
namespace Go.Proofs.YtlcbkeieejmmbaaDoor
open Go.RowKit Go.Lib

/-- Blocks of an own struct each: a map and three positions. -/
structure Four (W X : World) (ma pa qa ra : List Value) (B : Nat) : Prop where
  m : Blk X B ma 24
  p : Blk X (B + 1) pa 26
  q : Blk X (B + 1 + 1) qa 26
  r : Blk X (B + 1 + 1 + 1) ra 26
  old : Below W.heap.size W X
theorem Four.call {W X Y : World} {ma pa qa ra : List Value} {B : Nat} (h : Four W X ma pa qa ra B) (hb : Below X.heap.size X Y) : Four W Y ma pa qa ra B := ⟨h.m.below hb, h.p.below hb, h.q.below hb, h.r.below hb, below_call h.old hb⟩
theorem Four.start (W : World) (ma pa qa ra : List Value) : Four W ((((W.alloc (.cells ma.toArray 24)).alloc (.cells pa.toArray 26)).alloc (.cells qa.toArray 26)).alloc (.cells ra.toArray 26)) ma pa qa ra W.heap.size :=
  ⟨(((Blk.new W ma _).alloc _).alloc _).alloc _, (((Blk.new (W.alloc _) pa _).at (World.size_alloc _ _)).alloc _).alloc _,
   ((Blk.new ((W.alloc _).alloc _) qa _).at ((World.size_alloc _ _).trans (congrArg (· + 1) (World.size_alloc _ _)))).alloc _,
   (Blk.new (((W.alloc _).alloc _).alloc _) ra _).at ((World.size_alloc _ _).trans (congrArg (· + 1) ((World.size_alloc _ _).trans (congrArg (· + 1) (World.size_alloc _ _))))),
   ((((Below.refl _ _).alloc (Nat.le_refl _) _).alloc (by simp) _).alloc (by simp; omega) _).alloc (by simp; omega) _⟩
set_option maxRecDepth 100000 in
set_option maxHeartbeats 8000000 in
theorem shblocksN_b (m : M3) (s : Value) (x y u v p q : Int) (z : Bool) (W : World) (_hE : EnvP W) (hr : RowAt W s m.cs) (ho : Hid (false = (validm m && alliv m.w m.h [(x, y), (u, v), (p, q)]))) (hz : Hid (z = blocksv m x y u v p q)) :
    Calls Tryd.prog 11 #[.agg #[.int .i64 m.w, .int .i64 m.h, s], .agg #[.int .i64 x, .int .i64 y], .agg #[.int .i64 u, .int .i64 v], .agg #[.int .i64 p, .int .i64 q]] W fun e w' => e = .returned (.bool z) ∧ Below W.heap.size W w' := by
  have hF := Four.start W [.int .i64 m.w, .int .i64 m.h, s] [.int .i64 x, .int .i64 y] [.int .i64 u, .int .i64 v] [.int .i64 p, .int .i64 q]
  have ci := fun (w : World) (g : Nat) (hb : Below W.heap.size W w) (hG : Blk w g (pcells [(x, y), (u, v), (p, q)]) 26) => shinside_b m s [(x, y), (u, v), (p, q)] g 3 3 26 false w (hr.below hb) hG rfl (by decide) ho
  have hx : z = false := by
    rw [hz.out]
    unfold blocksv
    have h := ho.out
    unfold alliv at h
    simp only [List.all_cons, List.all_nil, Bool.and_true] at h
    rw [← Bool.and_assoc, ← Bool.and_assoc] at h
    rw [← h, Bool.false_and]
  rw [hx]
  obtain ⟨_, _, _, _, _, _⟩ := hF.m.three
  obtain ⟨_, _, _, _⟩ := hF.p.two
  obtain ⟨_, _, _, _⟩ := hF.q.two
  obtain ⟨_, _, _, _⟩ := hF.r.two
  go_enter Tryd.func11, Tryd.ntmps11
  go_upto_region 1 with fail
  generalize (((W.alloc (.cells [Value.int .i64 m.w, .int .i64 m.h, s].toArray 24)).alloc (.cells [Value.int .i64 x, .int .i64 y].toArray 26)).alloc (.cells [Value.int .i64 u, .int .i64 v].toArray 26)).alloc (.cells [Value.int .i64 p, .int .i64 q].toArray 26) = X at *
  have hN := Blk.new X (pcells [(x, y), (u, v), (p, q)]) 26
  have hX := (Below.refl X.heap.size X).alloc (Nat.le_refl _) (.cells (pcells [(x, y), (u, v), (p, q)]).toArray 26)
  go_wp2_with (go_at_call 26; refine (ci _ X.heap.size (below_call hF.old hX) hN).mono ?_; rintro e w1 ⟨rfl, hb⟩)
  replace hb := below_call hX hb
  go_ret
  exact ⟨rfl, below_call hF.old hb⟩
set_option maxRecDepth 100000 in
set_option maxHeartbeats 8000000 in
theorem shblocksA_b (m : M3) (s : Value) (x y u v p q : Int) (z : Bool) (W : World) (_hE : EnvP W) (hr : RowAt W s m.cs) (ho : Hid (true = (validm m && alliv m.w m.h [(x, y), (u, v), (p, q)]))) (hz : Hid (z = blocksv m x y u v p q)) (h1 : p = x ∧ q = y) :
    Calls Tryd.prog 11 #[.agg #[.int .i64 m.w, .int .i64 m.h, s], .agg #[.int .i64 x, .int .i64 y], .agg #[.int .i64 u, .int .i64 v], .agg #[.int .i64 p, .int .i64 q]] W fun e w' => e = .returned (.bool z) ∧ Below W.heap.size W w' := by
  have hF := Four.start W [.int .i64 m.w, .int .i64 m.h, s] [.int .i64 x, .int .i64 y] [.int .i64 u, .int .i64 v] [.int .i64 p, .int .i64 q]
  have ci := fun (w : World) (g : Nat) (hb : Below W.heap.size W w) (hG : Blk w g (pcells [(x, y), (u, v), (p, q)]) 26) => shinside_b m s [(x, y), (u, v), (p, q)] g 3 3 26 true w (hr.below hb) hG rfl (by decide) ho
  have hvi := ho.out.symm
  rw [Bool.and_eq_true] at hvi
  obtain ⟨hv, hi⟩ := hvi
  unfold alliv at hi
  simp only [List.all_cons, List.all_nil, Bool.and_true, Bool.and_eq_true] at hi
  obtain ⟨ia, ib, ic⟩ := hi
  have hfm := formed_of hv
  have hx : z = blkv m x y u v p q := by rw [hz.out]; unfold blocksv; rw [hv, ia, ib, ic]; rfl
  have n1 : (!decide (p = x ∧ q = y)) = false := by rw [decide_eq_true h1]; rfl
  have hx2 : z = false := by rw [hx]; unfold blkv; rw [n1]; rfl
  subst hx2
  clear hx hz hv ia ib ic hfm h1
  obtain ⟨_, _, _, _, _, _⟩ := hF.m.three
  obtain ⟨_, _, _, _⟩ := hF.p.two
  obtain ⟨_, _, _, _⟩ := hF.q.two
  obtain ⟨_, _, _, _⟩ := hF.r.two
  go_enter Tryd.func11, Tryd.ntmps11
  go_upto_region 1 with fail
  generalize (((W.alloc (.cells [Value.int .i64 m.w, .int .i64 m.h, s].toArray 24)).alloc (.cells [Value.int .i64 x, .int .i64 y].toArray 26)).alloc (.cells [Value.int .i64 u, .int .i64 v].toArray 26)).alloc (.cells [Value.int .i64 p, .int .i64 q].toArray 26) = X at *
  have hN := Blk.new X (pcells [(x, y), (u, v), (p, q)]) 26
  have hX := (Below.refl X.heap.size X).alloc (Nat.le_refl _) (.cells (pcells [(x, y), (u, v), (p, q)]).toArray 26)
  go_wp2_with (go_at_call 26; refine (ci _ X.heap.size (below_call hF.old hX) hN).mono ?_; rintro e w1 ⟨rfl, hb⟩)
  replace hb := below_call hX hb
  have hF1 := hF.call hb
  have hW := hF1.old
  clear hF hb hX hN ci ho
  have hmx : Tryd.prog.follows .mixedOrders = true := by kernel_rfl
  refine wp_region_held (S := fun w' => Below w1.heap.size w1 w') hmx ?_
  show wpAnyH _ _ _ _ _ _ _ _ w1.drew
  have hS0 := (Below.refl w1.heap.size w1).drew
  refine reg_tk (i := 0) (v := .agg #[.int .i64 p, .int .i64 q]) (some 16) rfl (fun w' hS => by (have u0 := (hF1.r.below hS).cell 0; have u1 := (hF1.r.below hS).cell 1; go_simp)) hS0 ?_
  try simp only [Act.put, List.setIfInBounds_toArray, List.set_cons_zero, List.set_cons_succ]
  refine reg_tk (i := 1) (v := .agg #[.int .i64 x, .int .i64 y]) (some 17) rfl (fun w' hS => by (have u0 := (hF1.p.below hS).cell 0; have u1 := (hF1.p.below hS).cell 1; go_simp)) hS0 ?_
  try simp only [Act.put, List.setIfInBounds_toArray, List.set_cons_zero, List.set_cons_succ]
  refine reg_tk (i := 2) (v := .bool false) (some 18) rfl (fun w' hS => by exact (exec_neP p q x y (.tmp 16) (.tmp 17) _ rfl rfl rfl).trans (by rw [n1])) hS0 ?_
  try simp only [Act.put, List.setIfInBounds_toArray, List.set_cons_zero, List.set_cons_succ]
  refine reg_tk (i := 3) (v := .bool false) (some 19) rfl (fun w' hS => by skip; go_simp) hS0 ?_
  try simp only [Act.put, List.setIfInBounds_toArray, List.set_cons_zero, List.set_cons_succ]
  refine reg_skip (i := 4) (some 20) rfl rfl (by kernel_rfl) (by kernel_rfl) (by kernel_rfl) (fun _ _ _ h => h) (by kernel_rfl) hS0 ?_
  try simp only [Act.put, List.setIfInBounds_toArray, List.set_cons_zero, List.set_cons_succ]
  refine reg_skip (i := 5) (some 21) rfl rfl (by kernel_rfl) (by kernel_rfl) (by kernel_rfl) (fun _ _ _ h => h) (by kernel_rfl) hS0 ?_
  try simp only [Act.put, List.setIfInBounds_toArray, List.set_cons_zero, List.set_cons_succ]
  refine reg_skip (i := 6) (some 22) rfl rfl (by kernel_rfl) (by kernel_rfl) (by kernel_rfl) (fun _ _ _ h => h) (by kernel_rfl) hS0 ?_
  try simp only [Act.put, List.setIfInBounds_toArray, List.set_cons_zero, List.set_cons_succ]
  refine reg_tk (i := 7) (v := .bool false) (some 23) rfl (fun w' hS => by skip; go_simp) hS0 ?_
  try simp only [Act.put, List.setIfInBounds_toArray, List.set_cons_zero, List.set_cons_succ]
  refine reg_tk (i := 8) (v := .bool false) (some 24) rfl (fun w' hS => by skip; go_simp) hS0 ?_
  try simp only [Act.put, List.setIfInBounds_toArray, List.set_cons_zero, List.set_cons_succ]
  refine reg_skip (i := 9) (some 25) rfl rfl (by kernel_rfl) (by kernel_rfl) (by kernel_rfl) (fun _ _ _ h => h) (by kernel_rfl) hS0 ?_
  try simp only [Act.put, List.setIfInBounds_toArray, List.set_cons_zero, List.set_cons_succ]
  refine reg_skip (i := 10) (some 26) rfl rfl (by kernel_rfl) (by kernel_rfl) (by kernel_rfl) (fun _ _ _ h => h) (by kernel_rfl) hS0 ?_
  try simp only [Act.put, List.setIfInBounds_toArray, List.set_cons_zero, List.set_cons_succ]
  refine reg_skip (i := 11) (some 27) rfl rfl (by kernel_rfl) (by kernel_rfl) (by kernel_rfl) (fun _ _ _ h => h) (by kernel_rfl) hS0 ?_
  try simp only [Act.put, List.setIfInBounds_toArray, List.set_cons_zero, List.set_cons_succ]
  refine reg_skip (i := 12) (some 28) rfl rfl (by kernel_rfl) (by kernel_rfl) (by kernel_rfl) (fun _ _ _ h => h) (by kernel_rfl) hS0 ?_
  try simp only [Act.put, List.setIfInBounds_toArray, List.set_cons_zero, List.set_cons_succ]
  refine reg_skip (i := 13) (some 29) rfl rfl (by kernel_rfl) (by kernel_rfl) (by kernel_rfl) (fun _ _ _ h => h) (by kernel_rfl) hS0 ?_
  try simp only [Act.put, List.setIfInBounds_toArray, List.set_cons_zero, List.set_cons_succ]
  refine reg_skip (i := 14) (some 30) rfl rfl (by kernel_rfl) (by kernel_rfl) (by kernel_rfl) (fun _ _ _ h => h) (by kernel_rfl) hS0 ?_
  try simp only [Act.put, List.setIfInBounds_toArray, List.set_cons_zero, List.set_cons_succ]
  refine reg_skip (i := 15) (some 31) rfl rfl (by kernel_rfl) (by kernel_rfl) (by kernel_rfl) (fun _ _ _ h => h) (by kernel_rfl) hS0 ?_
  try simp only [Act.put, List.setIfInBounds_toArray, List.set_cons_zero, List.set_cons_succ]
  refine reg_tk (i := 16) (v := .bool false) (some 32) rfl (fun w' hS => by skip; go_simp) hS0 ?_
  try simp only [Act.put, List.setIfInBounds_toArray, List.set_cons_zero, List.set_cons_succ]
  refine reg_tk (i := 17) (v := .bool false) (some 33) rfl (fun w' hS => by skip; go_simp) hS0 ?_
  try simp only [Act.put, List.setIfInBounds_toArray, List.set_cons_zero, List.set_cons_succ]
  refine reg_skip (i := 18) (some 34) rfl rfl (by kernel_rfl) (by kernel_rfl) (by kernel_rfl) (fun _ _ _ h => h) (by kernel_rfl) hS0 ?_
  try simp only [Act.put, List.setIfInBounds_toArray, List.set_cons_zero, List.set_cons_succ]
  refine reg_skip (i := 19) (some 35) rfl rfl (by kernel_rfl) (by kernel_rfl) (by kernel_rfl) (fun _ _ _ h => h) (by kernel_rfl) hS0 ?_
  try simp only [Act.put, List.setIfInBounds_toArray, List.set_cons_zero, List.set_cons_succ]
  refine reg_skip (i := 20) (some 36) rfl rfl (by kernel_rfl) (by kernel_rfl) (by kernel_rfl) (fun _ _ _ h => h) (by kernel_rfl) hS0 ?_
  try simp only [Act.put, List.setIfInBounds_toArray, List.set_cons_zero, List.set_cons_succ]
  refine reg_skip (i := 21) (some 37) rfl rfl (by kernel_rfl) (by kernel_rfl) (by kernel_rfl) (fun _ _ _ h => h) (by kernel_rfl) hS0 ?_
  try simp only [Act.put, List.setIfInBounds_toArray, List.set_cons_zero, List.set_cons_succ]
  refine reg_skip (i := 22) (some 38) rfl rfl (by kernel_rfl) (by kernel_rfl) (by kernel_rfl) (fun _ _ _ h => h) (by kernel_rfl) hS0 ?_
  try simp only [Act.put, List.setIfInBounds_toArray, List.set_cons_zero, List.set_cons_succ]
  refine reg_skip (i := 23) (some 39) rfl rfl (by kernel_rfl) (by kernel_rfl) (by kernel_rfl) (fun _ _ _ h => h) (by kernel_rfl) hS0 ?_
  try simp only [Act.put, List.setIfInBounds_toArray, List.set_cons_zero, List.set_cons_succ]
  refine reg_skip (i := 24) (some 40) rfl rfl (by kernel_rfl) (by kernel_rfl) (by kernel_rfl) (fun _ _ _ h => h) (by kernel_rfl) hS0 ?_
  try simp only [Act.put, List.setIfInBounds_toArray, List.set_cons_zero, List.set_cons_succ]
  refine reg_tk (i := 25) (v := .bool false) (some 41) rfl (fun w' hS => by skip; go_simp) hS0 ?_
  try simp only [Act.put, List.setIfInBounds_toArray, List.set_cons_zero, List.set_cons_succ]
  refine reg_tk (i := 26) (v := .bool false) (some 8) rfl (fun w' hS => by skip; go_simp) hS0 ?_
  try simp only [Act.put, List.setIfInBounds_toArray, List.set_cons_zero, List.set_cons_succ]
  refine wpAnyH_done (by kernel_rfl) ?_ _
  show Exit.then _ _ Exit.normal _ _
  go_wp2_with fail
  go_ret
  exact ⟨rfl, below_call hW hS0⟩
set_option maxRecDepth 100000 in
set_option maxHeartbeats 8000000 in
theorem shblocksB_b (m : M3) (s : Value) (x y u v p q : Int) (z : Bool) (W : World) (_hE : EnvP W) (hr : RowAt W s m.cs) (ho : Hid (true = (validm m && alliv m.w m.h [(x, y), (u, v), (p, q)]))) (hz : Hid (z = blocksv m x y u v p q)) (h1 : ¬ (p = x ∧ q = y)) (h2 : p = u ∧ q = v) :
    Calls Tryd.prog 11 #[.agg #[.int .i64 m.w, .int .i64 m.h, s], .agg #[.int .i64 x, .int .i64 y], .agg #[.int .i64 u, .int .i64 v], .agg #[.int .i64 p, .int .i64 q]] W fun e w' => e = .returned (.bool z) ∧ Below W.heap.size W w' := by
  have hF := Four.start W [.int .i64 m.w, .int .i64 m.h, s] [.int .i64 x, .int .i64 y] [.int .i64 u, .int .i64 v] [.int .i64 p, .int .i64 q]
  have ci := fun (w : World) (g : Nat) (hb : Below W.heap.size W w) (hG : Blk w g (pcells [(x, y), (u, v), (p, q)]) 26) => shinside_b m s [(x, y), (u, v), (p, q)] g 3 3 26 true w (hr.below hb) hG rfl (by decide) ho
  have hvi := ho.out.symm
  rw [Bool.and_eq_true] at hvi
  obtain ⟨hv, hi⟩ := hvi
  unfold alliv at hi
  simp only [List.all_cons, List.all_nil, Bool.and_true, Bool.and_eq_true] at hi
  obtain ⟨ia, ib, ic⟩ := hi
  have hfm := formed_of hv
  have hx : z = blkv m x y u v p q := by rw [hz.out]; unfold blocksv; rw [hv, ia, ib, ic]; rfl
  have n1 : (!decide (p = x ∧ q = y)) = true := by rw [decide_eq_false h1]; rfl
  have n2 : (!decide (p = u ∧ q = v)) = false := by rw [decide_eq_true h2]; rfl
  have hx2 : z = false := by rw [hx]; unfold blkv; rw [n2, Bool.and_false, Bool.false_and, Bool.false_and]
  subst hx2
  clear hx hz hv ia ib ic hfm h1 h2
  obtain ⟨_, _, _, _, _, _⟩ := hF.m.three
  obtain ⟨_, _, _, _⟩ := hF.p.two
  obtain ⟨_, _, _, _⟩ := hF.q.two
  obtain ⟨_, _, _, _⟩ := hF.r.two
  go_enter Tryd.func11, Tryd.ntmps11
  go_upto_region 1 with fail
  generalize (((W.alloc (.cells [Value.int .i64 m.w, .int .i64 m.h, s].toArray 24)).alloc (.cells [Value.int .i64 x, .int .i64 y].toArray 26)).alloc (.cells [Value.int .i64 u, .int .i64 v].toArray 26)).alloc (.cells [Value.int .i64 p, .int .i64 q].toArray 26) = X at *
  have hN := Blk.new X (pcells [(x, y), (u, v), (p, q)]) 26
  have hX := (Below.refl X.heap.size X).alloc (Nat.le_refl _) (.cells (pcells [(x, y), (u, v), (p, q)]).toArray 26)
  go_wp2_with (go_at_call 26; refine (ci _ X.heap.size (below_call hF.old hX) hN).mono ?_; rintro e w1 ⟨rfl, hb⟩)
  replace hb := below_call hX hb
  have hF1 := hF.call hb
  have hW := hF1.old
  clear hF hb hX hN ci ho
  have hmx : Tryd.prog.follows .mixedOrders = true := by kernel_rfl
  refine wp_region_held (S := fun w' => Below w1.heap.size w1 w') hmx ?_
  show wpAnyH _ _ _ _ _ _ _ _ w1.drew
  have hS0 := (Below.refl w1.heap.size w1).drew
  refine reg_tk (i := 0) (v := .agg #[.int .i64 p, .int .i64 q]) (some 16) rfl (fun w' hS => by (have u0 := (hF1.r.below hS).cell 0; have u1 := (hF1.r.below hS).cell 1; go_simp)) hS0 ?_
  try simp only [Act.put, List.setIfInBounds_toArray, List.set_cons_zero, List.set_cons_succ]
  refine reg_tk (i := 1) (v := .agg #[.int .i64 x, .int .i64 y]) (some 17) rfl (fun w' hS => by (have u0 := (hF1.p.below hS).cell 0; have u1 := (hF1.p.below hS).cell 1; go_simp)) hS0 ?_
  try simp only [Act.put, List.setIfInBounds_toArray, List.set_cons_zero, List.set_cons_succ]
  refine reg_tk (i := 2) (v := .bool true) (some 18) rfl (fun w' hS => by exact (exec_neP p q x y (.tmp 16) (.tmp 17) _ rfl rfl rfl).trans (by rw [n1])) hS0 ?_
  try simp only [Act.put, List.setIfInBounds_toArray, List.set_cons_zero, List.set_cons_succ]
  refine reg_tk (i := 3) (v := .bool true) (some 19) rfl (fun w' hS => by skip; go_simp) hS0 ?_
  try simp only [Act.put, List.setIfInBounds_toArray, List.set_cons_zero, List.set_cons_succ]
  refine reg_tk (i := 4) (v := .agg #[.int .i64 p, .int .i64 q]) (some 20) rfl (fun w' hS => by (have u0 := (hF1.r.below hS).cell 0; have u1 := (hF1.r.below hS).cell 1; go_simp)) hS0 ?_
  try simp only [Act.put, List.setIfInBounds_toArray, List.set_cons_zero, List.set_cons_succ]
  refine reg_tk (i := 5) (v := .agg #[.int .i64 u, .int .i64 v]) (some 21) rfl (fun w' hS => by (have u0 := (hF1.q.below hS).cell 0; have u1 := (hF1.q.below hS).cell 1; go_simp)) hS0 ?_
  try simp only [Act.put, List.setIfInBounds_toArray, List.set_cons_zero, List.set_cons_succ]
  refine reg_tk (i := 6) (v := .bool false) (some 22) rfl (fun w' hS => by exact (exec_neP p q u v (.tmp 20) (.tmp 21) _ rfl rfl rfl).trans (by rw [n2])) hS0 ?_
  try simp only [Act.put, List.setIfInBounds_toArray, List.set_cons_zero, List.set_cons_succ]
  refine reg_tk (i := 7) (v := .bool false) (some 23) rfl (fun w' hS => by skip; go_simp) hS0 ?_
  try simp only [Act.put, List.setIfInBounds_toArray, List.set_cons_zero, List.set_cons_succ]
  refine reg_tk (i := 8) (v := .bool false) (some 24) rfl (fun w' hS => by skip; go_simp) hS0 ?_
  try simp only [Act.put, List.setIfInBounds_toArray, List.set_cons_zero, List.set_cons_succ]
  refine reg_skip (i := 9) (some 25) rfl rfl (by kernel_rfl) (by kernel_rfl) (by kernel_rfl) (fun _ _ _ h => h) (by kernel_rfl) hS0 ?_
  try simp only [Act.put, List.setIfInBounds_toArray, List.set_cons_zero, List.set_cons_succ]
  refine reg_skip (i := 10) (some 26) rfl rfl (by kernel_rfl) (by kernel_rfl) (by kernel_rfl) (fun _ _ _ h => h) (by kernel_rfl) hS0 ?_
  try simp only [Act.put, List.setIfInBounds_toArray, List.set_cons_zero, List.set_cons_succ]
  refine reg_skip (i := 11) (some 27) rfl rfl (by kernel_rfl) (by kernel_rfl) (by kernel_rfl) (fun _ _ _ h => h) (by kernel_rfl) hS0 ?_
  try simp only [Act.put, List.setIfInBounds_toArray, List.set_cons_zero, List.set_cons_succ]
  refine reg_skip (i := 12) (some 28) rfl rfl (by kernel_rfl) (by kernel_rfl) (by kernel_rfl) (fun _ _ _ h => h) (by kernel_rfl) hS0 ?_
  try simp only [Act.put, List.setIfInBounds_toArray, List.set_cons_zero, List.set_cons_succ]
  refine reg_skip (i := 13) (some 29) rfl rfl (by kernel_rfl) (by kernel_rfl) (by kernel_rfl) (fun _ _ _ h => h) (by kernel_rfl) hS0 ?_
  try simp only [Act.put, List.setIfInBounds_toArray, List.set_cons_zero, List.set_cons_succ]
  refine reg_skip (i := 14) (some 30) rfl rfl (by kernel_rfl) (by kernel_rfl) (by kernel_rfl) (fun _ _ _ h => h) (by kernel_rfl) hS0 ?_
  try simp only [Act.put, List.setIfInBounds_toArray, List.set_cons_zero, List.set_cons_succ]
  refine reg_skip (i := 15) (some 31) rfl rfl (by kernel_rfl) (by kernel_rfl) (by kernel_rfl) (fun _ _ _ h => h) (by kernel_rfl) hS0 ?_
  try simp only [Act.put, List.setIfInBounds_toArray, List.set_cons_zero, List.set_cons_succ]
  refine reg_tk (i := 16) (v := .bool false) (some 32) rfl (fun w' hS => by skip; go_simp) hS0 ?_
  try simp only [Act.put, List.setIfInBounds_toArray, List.set_cons_zero, List.set_cons_succ]
  refine reg_tk (i := 17) (v := .bool false) (some 33) rfl (fun w' hS => by skip; go_simp) hS0 ?_
  try simp only [Act.put, List.setIfInBounds_toArray, List.set_cons_zero, List.set_cons_succ]
  refine reg_skip (i := 18) (some 34) rfl rfl (by kernel_rfl) (by kernel_rfl) (by kernel_rfl) (fun _ _ _ h => h) (by kernel_rfl) hS0 ?_
  try simp only [Act.put, List.setIfInBounds_toArray, List.set_cons_zero, List.set_cons_succ]
  refine reg_skip (i := 19) (some 35) rfl rfl (by kernel_rfl) (by kernel_rfl) (by kernel_rfl) (fun _ _ _ h => h) (by kernel_rfl) hS0 ?_
  try simp only [Act.put, List.setIfInBounds_toArray, List.set_cons_zero, List.set_cons_succ]
  refine reg_skip (i := 20) (some 36) rfl rfl (by kernel_rfl) (by kernel_rfl) (by kernel_rfl) (fun _ _ _ h => h) (by kernel_rfl) hS0 ?_
  try simp only [Act.put, List.setIfInBounds_toArray, List.set_cons_zero, List.set_cons_succ]
  refine reg_skip (i := 21) (some 37) rfl rfl (by kernel_rfl) (by kernel_rfl) (by kernel_rfl) (fun _ _ _ h => h) (by kernel_rfl) hS0 ?_
  try simp only [Act.put, List.setIfInBounds_toArray, List.set_cons_zero, List.set_cons_succ]
  refine reg_skip (i := 22) (some 38) rfl rfl (by kernel_rfl) (by kernel_rfl) (by kernel_rfl) (fun _ _ _ h => h) (by kernel_rfl) hS0 ?_
  try simp only [Act.put, List.setIfInBounds_toArray, List.set_cons_zero, List.set_cons_succ]
  refine reg_skip (i := 23) (some 39) rfl rfl (by kernel_rfl) (by kernel_rfl) (by kernel_rfl) (fun _ _ _ h => h) (by kernel_rfl) hS0 ?_
  try simp only [Act.put, List.setIfInBounds_toArray, List.set_cons_zero, List.set_cons_succ]
  refine reg_skip (i := 24) (some 40) rfl rfl (by kernel_rfl) (by kernel_rfl) (by kernel_rfl) (fun _ _ _ h => h) (by kernel_rfl) hS0 ?_
  try simp only [Act.put, List.setIfInBounds_toArray, List.set_cons_zero, List.set_cons_succ]
  refine reg_tk (i := 25) (v := .bool false) (some 41) rfl (fun w' hS => by skip; go_simp) hS0 ?_
  try simp only [Act.put, List.setIfInBounds_toArray, List.set_cons_zero, List.set_cons_succ]
  refine reg_tk (i := 26) (v := .bool false) (some 8) rfl (fun w' hS => by skip; go_simp) hS0 ?_
  try simp only [Act.put, List.setIfInBounds_toArray, List.set_cons_zero, List.set_cons_succ]
  refine wpAnyH_done (by kernel_rfl) ?_ _
  show Exit.then _ _ Exit.normal _ _
  go_wp2_with fail
  go_ret
  exact ⟨rfl, below_call hW hS0⟩
set_option maxRecDepth 100000 in
set_option maxHeartbeats 8000000 in
theorem shblocksC_b (m : M3) (s : Value) (x y u v p q : Int) (z : Bool) (W : World) (_hE : EnvP W) (hr : RowAt W s m.cs) (ho : Hid (true = (validm m && alliv m.w m.h [(x, y), (u, v), (p, q)]))) (hz : Hid (z = blocksv m x y u v p q)) (h1 : ¬ (p = x ∧ q = y)) (h2 : ¬ (p = u ∧ q = v)) (hh : Hid (false = hitv (u - x) (v - y) (p - x) (q - y))) :
    Calls Tryd.prog 11 #[.agg #[.int .i64 m.w, .int .i64 m.h, s], .agg #[.int .i64 x, .int .i64 y], .agg #[.int .i64 u, .int .i64 v], .agg #[.int .i64 p, .int .i64 q]] W fun e w' => e = .returned (.bool z) ∧ Below W.heap.size W w' := by
  have hF := Four.start W [.int .i64 m.w, .int .i64 m.h, s] [.int .i64 x, .int .i64 y] [.int .i64 u, .int .i64 v] [.int .i64 p, .int .i64 q]
  have ci := fun (w : World) (g : Nat) (hb : Below W.heap.size W w) (hG : Blk w g (pcells [(x, y), (u, v), (p, q)]) 26) => shinside_b m s [(x, y), (u, v), (p, q)] g 3 3 26 true w (hr.below hb) hG rfl (by decide) ho
  have hvi := ho.out.symm
  rw [Bool.and_eq_true] at hvi
  obtain ⟨hv, hi⟩ := hvi
  unfold alliv at hi
  simp only [List.all_cons, List.all_nil, Bool.and_true, Bool.and_eq_true] at hi
  obtain ⟨ia, ib, ic⟩ := hi
  have hfm := formed_of hv
  have hx : z = blkv m x y u v p q := by rw [hz.out]; unfold blocksv; rw [hv, ia, ib, ic]; rfl
  have sa := (inv_sm hfm ia)
  have sb := (inv_sm hfm ib)
  have sc := (inv_sm hfm ic)
  have n1 : (!decide (p = x ∧ q = y)) = true := by rw [decide_eq_false h1]; rfl
  have n2 : (!decide (p = u ∧ q = v)) = true := by rw [decide_eq_false h2]; rfl
  obtain ⟨d1, hd1⟩ : ∃ d, Hid (u - x = d) := ⟨_, hid rfl⟩
  obtain ⟨d2, hd2⟩ : ∃ d, Hid (v - y = d) := ⟨_, hid rfl⟩
  obtain ⟨e1, he1⟩ : ∃ d, Hid (p - x = d) := ⟨_, hid rfl⟩
  obtain ⟨e2, he2⟩ : ∃ d, Hid (q - y = d) := ⟨_, hid rfl⟩
  have cm1 := fun (w : World) (_ : Below W.heap.size W w) => shminus_b u v x y w sb.2.1 sb.2.2 sa.2.1 sa.2.2
  have cm2 := fun (w : World) (_ : Below W.heap.size W w) => shminus_b p q x y w sc.2.1 sc.2.2 sa.2.1 sa.2.2
  rw [hd1.out, hd2.out] at cm1
  rw [he1.out, he2.out] at cm2
  have hy : blkv m x y u v p q = (hitv d1 d2 e1 e2 && hidev m p q (upv m x y u v)) := by unfold blkv; rw [n1, n2, hd1.out, hd2.out, he1.out, he2.out]; rfl
  rw [hy] at hx
  clear hy
  have cmt := fun (w : World) (_ : Below W.heap.size W w) => shmeets_b d1 d2 e1 e2 false w (by rw [← hd1.out]; unfold Sm; omega) (by rw [← hd2.out]; unfold Sm; omega) (by rw [← he1.out]; unfold Sm; omega) (by rw [← he2.out]; unfold Sm; omega) (hid (by rw [← hd1.out, ← hd2.out, ← he1.out, ← he2.out]; exact hh.out))
  have hx2 : z = false := by rw [hx, ← hd1.out, ← hd2.out, ← he1.out, ← he2.out, ← hh.out]; rfl
  subst hx2
  clear hx hz hv ia ib ic hfm h1 h2 sa sb sc hd1 hd2 he1 he2 hh
  obtain ⟨_, _, _, _, _, _⟩ := hF.m.three
  obtain ⟨_, _, _, _⟩ := hF.p.two
  obtain ⟨_, _, _, _⟩ := hF.q.two
  obtain ⟨_, _, _, _⟩ := hF.r.two
  go_enter Tryd.func11, Tryd.ntmps11
  go_upto_region 1 with fail
  generalize (((W.alloc (.cells [Value.int .i64 m.w, .int .i64 m.h, s].toArray 24)).alloc (.cells [Value.int .i64 x, .int .i64 y].toArray 26)).alloc (.cells [Value.int .i64 u, .int .i64 v].toArray 26)).alloc (.cells [Value.int .i64 p, .int .i64 q].toArray 26) = X at *
  have hN := Blk.new X (pcells [(x, y), (u, v), (p, q)]) 26
  have hX := (Below.refl X.heap.size X).alloc (Nat.le_refl _) (.cells (pcells [(x, y), (u, v), (p, q)]).toArray 26)
  go_wp2_with (go_at_call 26; refine (ci _ X.heap.size (below_call hF.old hX) hN).mono ?_; rintro e w1 ⟨rfl, hb⟩)
  replace hb := below_call hX hb
  have hF1 := hF.call hb
  have hW := hF1.old
  clear hF hb hX hN ci ho
  have hmx : Tryd.prog.follows .mixedOrders = true := by kernel_rfl
  refine wp_region_held (S := fun w' => Below w1.heap.size w1 w') hmx ?_
  show wpAnyH _ _ _ _ _ _ _ _ w1.drew
  have hS0 := (Below.refl w1.heap.size w1).drew
  refine reg_tk (i := 0) (v := .agg #[.int .i64 p, .int .i64 q]) (some 16) rfl (fun w' hS => by (have u0 := (hF1.r.below hS).cell 0; have u1 := (hF1.r.below hS).cell 1; go_simp)) hS0 ?_
  try simp only [Act.put, List.setIfInBounds_toArray, List.set_cons_zero, List.set_cons_succ]
  refine reg_tk (i := 1) (v := .agg #[.int .i64 x, .int .i64 y]) (some 17) rfl (fun w' hS => by (have u0 := (hF1.p.below hS).cell 0; have u1 := (hF1.p.below hS).cell 1; go_simp)) hS0 ?_
  try simp only [Act.put, List.setIfInBounds_toArray, List.set_cons_zero, List.set_cons_succ]
  refine reg_tk (i := 2) (v := .bool true) (some 18) rfl (fun w' hS => by exact (exec_neP p q x y (.tmp 16) (.tmp 17) _ rfl rfl rfl).trans (by rw [n1])) hS0 ?_
  try simp only [Act.put, List.setIfInBounds_toArray, List.set_cons_zero, List.set_cons_succ]
  refine reg_tk (i := 3) (v := .bool true) (some 19) rfl (fun w' hS => by skip; go_simp) hS0 ?_
  try simp only [Act.put, List.setIfInBounds_toArray, List.set_cons_zero, List.set_cons_succ]
  refine reg_tk (i := 4) (v := .agg #[.int .i64 p, .int .i64 q]) (some 20) rfl (fun w' hS => by (have u0 := (hF1.r.below hS).cell 0; have u1 := (hF1.r.below hS).cell 1; go_simp)) hS0 ?_
  try simp only [Act.put, List.setIfInBounds_toArray, List.set_cons_zero, List.set_cons_succ]
  refine reg_tk (i := 5) (v := .agg #[.int .i64 u, .int .i64 v]) (some 21) rfl (fun w' hS => by (have u0 := (hF1.q.below hS).cell 0; have u1 := (hF1.q.below hS).cell 1; go_simp)) hS0 ?_
  try simp only [Act.put, List.setIfInBounds_toArray, List.set_cons_zero, List.set_cons_succ]
  refine reg_tk (i := 6) (v := .bool true) (some 22) rfl (fun w' hS => by exact (exec_neP p q u v (.tmp 20) (.tmp 21) _ rfl rfl rfl).trans (by rw [n2])) hS0 ?_
  try simp only [Act.put, List.setIfInBounds_toArray, List.set_cons_zero, List.set_cons_succ]
  refine reg_tk (i := 7) (v := .bool true) (some 23) rfl (fun w' hS => by skip; go_simp) hS0 ?_
  try simp only [Act.put, List.setIfInBounds_toArray, List.set_cons_zero, List.set_cons_succ]
  refine reg_tk (i := 8) (v := .bool true) (some 24) rfl (fun w' hS => by skip; go_simp) hS0 ?_
  try simp only [Act.put, List.setIfInBounds_toArray, List.set_cons_zero, List.set_cons_succ]
  refine reg_tk (i := 9) (v := .agg #[.int .i64 u, .int .i64 v]) (some 25) rfl (fun w' hS => by (have u0 := (hF1.q.below hS).cell 0; have u1 := (hF1.q.below hS).cell 1; go_simp)) hS0 ?_
  try simp only [Act.put, List.setIfInBounds_toArray, List.set_cons_zero, List.set_cons_succ]
  refine reg_tk (i := 10) (v := .agg #[.int .i64 x, .int .i64 y]) (some 26) rfl (fun w' hS => by (have u0 := (hF1.p.below hS).cell 0; have u1 := (hF1.p.below hS).cell 1; go_simp)) hS0 ?_
  try simp only [Act.put, List.setIfInBounds_toArray, List.set_cons_zero, List.set_cons_succ]
  refine reg_tk (i := 12) (v := .agg #[.int .i64 p, .int .i64 q]) (some 28) rfl (fun w' hS => by (have u0 := (hF1.r.below hS).cell 0; have u1 := (hF1.r.below hS).cell 1; go_simp)) hS0 ?_
  try simp only [Act.put, List.setIfInBounds_toArray, List.set_cons_zero, List.set_cons_succ]
  refine reg_tk (i := 13) (v := .agg #[.int .i64 x, .int .i64 y]) (some 29) rfl (fun w' hS => by (have u0 := (hF1.p.below hS).cell 0; have u1 := (hF1.p.below hS).cell 1; go_simp)) hS0 ?_
  try simp only [Act.put, List.setIfInBounds_toArray, List.set_cons_zero, List.set_cons_succ]
  refine held_one (i := 11) (by kernel_rfl) rfl (fun K hQ => ?_)
  go_simp
  ((with_reducible refine (cm1 _ (below_call hW hS0)).mono ?_); rintro e whS1 ⟨rfl, hbhS1⟩)
  have hS1 := below_call hS0 hbhS1
  refine hQ.out _ _ hS1 ?_
  clear hQ
  try simp only [Act.put, List.setIfInBounds_toArray, List.set_cons_zero, List.set_cons_succ]
  refine held_one (i := 14) (by kernel_rfl) rfl (fun K hQ => ?_)
  go_simp
  ((with_reducible refine (cm2 _ (below_call hW hS1)).mono ?_); rintro e whS2 ⟨rfl, hbhS2⟩)
  have hS2 := below_call hS1 hbhS2
  refine hQ.out _ _ hS2 ?_
  clear hQ
  try simp only [Act.put, List.setIfInBounds_toArray, List.set_cons_zero, List.set_cons_succ]
  refine held_one (i := 15) (by kernel_rfl) rfl (fun K hQ => ?_)
  go_simp
  ((with_reducible refine (cmt _ (below_call hW hS2)).mono ?_); rintro e whS3 ⟨rfl, hbhS3⟩)
  have hS3 := below_call hS2 hbhS3
  refine hQ.out _ _ hS3 ?_
  clear hQ
  try simp only [Act.put, List.setIfInBounds_toArray, List.set_cons_zero, List.set_cons_succ]
  refine reg_tk (i := 16) (v := .bool false) (some 32) rfl (fun w' hS => by skip; go_simp) hS3 ?_
  try simp only [Act.put, List.setIfInBounds_toArray, List.set_cons_zero, List.set_cons_succ]
  refine reg_tk (i := 17) (v := .bool false) (some 33) rfl (fun w' hS => by skip; go_simp) hS3 ?_
  try simp only [Act.put, List.setIfInBounds_toArray, List.set_cons_zero, List.set_cons_succ]
  refine reg_skip (i := 18) (some 34) rfl rfl (by kernel_rfl) (by kernel_rfl) (by kernel_rfl) (fun _ _ _ h => h) (by kernel_rfl) hS3 ?_
  try simp only [Act.put, List.setIfInBounds_toArray, List.set_cons_zero, List.set_cons_succ]
  refine reg_skip (i := 19) (some 35) rfl rfl (by kernel_rfl) (by kernel_rfl) (by kernel_rfl) (fun _ _ _ h => h) (by kernel_rfl) hS3 ?_
  try simp only [Act.put, List.setIfInBounds_toArray, List.set_cons_zero, List.set_cons_succ]
  refine reg_skip (i := 20) (some 36) rfl rfl (by kernel_rfl) (by kernel_rfl) (by kernel_rfl) (fun _ _ _ h => h) (by kernel_rfl) hS3 ?_
  try simp only [Act.put, List.setIfInBounds_toArray, List.set_cons_zero, List.set_cons_succ]
  refine reg_skip (i := 21) (some 37) rfl rfl (by kernel_rfl) (by kernel_rfl) (by kernel_rfl) (fun _ _ _ h => h) (by kernel_rfl) hS3 ?_
  try simp only [Act.put, List.setIfInBounds_toArray, List.set_cons_zero, List.set_cons_succ]
  refine reg_skip (i := 22) (some 38) rfl rfl (by kernel_rfl) (by kernel_rfl) (by kernel_rfl) (fun _ _ _ h => h) (by kernel_rfl) hS3 ?_
  try simp only [Act.put, List.setIfInBounds_toArray, List.set_cons_zero, List.set_cons_succ]
  refine reg_skip (i := 23) (some 39) rfl rfl (by kernel_rfl) (by kernel_rfl) (by kernel_rfl) (fun _ _ _ h => h) (by kernel_rfl) hS3 ?_
  try simp only [Act.put, List.setIfInBounds_toArray, List.set_cons_zero, List.set_cons_succ]
  refine reg_skip (i := 24) (some 40) rfl rfl (by kernel_rfl) (by kernel_rfl) (by kernel_rfl) (fun _ _ _ h => h) (by kernel_rfl) hS3 ?_
  try simp only [Act.put, List.setIfInBounds_toArray, List.set_cons_zero, List.set_cons_succ]
  refine reg_tk (i := 25) (v := .bool false) (some 41) rfl (fun w' hS => by skip; go_simp) hS3 ?_
  try simp only [Act.put, List.setIfInBounds_toArray, List.set_cons_zero, List.set_cons_succ]
  refine reg_tk (i := 26) (v := .bool false) (some 8) rfl (fun w' hS => by skip; go_simp) hS3 ?_
  try simp only [Act.put, List.setIfInBounds_toArray, List.set_cons_zero, List.set_cons_succ]
  refine wpAnyH_done (by kernel_rfl) ?_ _
  show Exit.then _ _ Exit.normal _ _
  go_wp2_with fail
  go_ret
  exact ⟨rfl, below_call hW hS3⟩
set_option maxRecDepth 100000 in
set_option maxHeartbeats 8000000 in
theorem shblocksD_b (m : M3) (s : Value) (x y u v p q : Int) (z : Bool) (W : World) (hE : EnvP W) (hr : RowAt W s m.cs) (ho : Hid (true = (validm m && alliv m.w m.h [(x, y), (u, v), (p, q)]))) (hz : Hid (z = blocksv m x y u v p q)) (h1 : ¬ (p = x ∧ q = y)) (h2 : ¬ (p = u ∧ q = v)) (hh : Hid (true = hitv (u - x) (v - y) (p - x) (q - y))) :
    Calls Tryd.prog 11 #[.agg #[.int .i64 m.w, .int .i64 m.h, s], .agg #[.int .i64 x, .int .i64 y], .agg #[.int .i64 u, .int .i64 v], .agg #[.int .i64 p, .int .i64 q]] W fun e w' => e = .returned (.bool z) ∧ Below W.heap.size W w' := by
  have hF := Four.start W [.int .i64 m.w, .int .i64 m.h, s] [.int .i64 x, .int .i64 y] [.int .i64 u, .int .i64 v] [.int .i64 p, .int .i64 q]
  have ci := fun (w : World) (g : Nat) (hb : Below W.heap.size W w) (hG : Blk w g (pcells [(x, y), (u, v), (p, q)]) 26) => shinside_b m s [(x, y), (u, v), (p, q)] g 3 3 26 true w (hr.below hb) hG rfl (by decide) ho
  have hvi := ho.out.symm
  rw [Bool.and_eq_true] at hvi
  obtain ⟨hv, hi⟩ := hvi
  unfold alliv at hi
  simp only [List.all_cons, List.all_nil, Bool.and_true, Bool.and_eq_true] at hi
  obtain ⟨ia, ib, ic⟩ := hi
  have hfm := formed_of hv
  have hx : z = blkv m x y u v p q := by rw [hz.out]; unfold blocksv; rw [hv, ia, ib, ic]; rfl
  have sa := (inv_sm hfm ia)
  have sb := (inv_sm hfm ib)
  have sc := (inv_sm hfm ic)
  have n1 : (!decide (p = x ∧ q = y)) = true := by rw [decide_eq_false h1]; rfl
  have n2 : (!decide (p = u ∧ q = v)) = true := by rw [decide_eq_false h2]; rfl
  obtain ⟨d1, hd1⟩ : ∃ d, Hid (u - x = d) := ⟨_, hid rfl⟩
  obtain ⟨d2, hd2⟩ : ∃ d, Hid (v - y = d) := ⟨_, hid rfl⟩
  obtain ⟨e1, he1⟩ : ∃ d, Hid (p - x = d) := ⟨_, hid rfl⟩
  obtain ⟨e2, he2⟩ : ∃ d, Hid (q - y = d) := ⟨_, hid rfl⟩
  have cm1 := fun (w : World) (_ : Below W.heap.size W w) => shminus_b u v x y w sb.2.1 sb.2.2 sa.2.1 sa.2.2
  have cm2 := fun (w : World) (_ : Below W.heap.size W w) => shminus_b p q x y w sc.2.1 sc.2.2 sa.2.1 sa.2.2
  rw [hd1.out, hd2.out] at cm1
  rw [he1.out, he2.out] at cm2
  have hy : blkv m x y u v p q = (hitv d1 d2 e1 e2 && hidev m p q (upv m x y u v)) := by unfold blkv; rw [n1, n2, hd1.out, hd2.out, he1.out, he2.out]; rfl
  rw [hy] at hx
  clear hy
  have cmt := fun (w : World) (_ : Below W.heap.size W w) => shmeets_b d1 d2 e1 e2 true w (by rw [← hd1.out]; unfold Sm; omega) (by rw [← hd2.out]; unfold Sm; omega) (by rw [← he1.out]; unfold Sm; omega) (by rw [← he2.out]; unfold Sm; omega) (hid (by rw [← hd1.out, ← hd2.out, ← he1.out, ← he2.out]; exact hh.out))
  obtain ⟨l, hl⟩ : ∃ l, Hid (l = upv m x y u v) := ⟨_, hid rfl⟩
  have hx2 : Hid (z = hidev m p q l) := hid (by rw [hx, ← hd1.out, ← hd2.out, ← he1.out, ← he2.out, ← hh.out, hl.out]; rfl)
  have cup := fun (w : World) (hb : Below W.heap.size W w) => shupper_b m s x y u v l w (hr.below hb) (in_inside hfm ia) (in_inside hfm ib) hl
  have chd := fun (w : World) (hb : Below W.heap.size W w) => shhides_b m s p q l z w (hE.keep hb) (hr.below hb) (in_inside hfm ic) hx2
  clear hx hz hv ia ib ic hfm h1 h2 sa sb sc hd1 hd2 he1 he2 hh hl hx2
  obtain ⟨_, _, _, _, _, _⟩ := hF.m.three
  obtain ⟨_, _, _, _⟩ := hF.p.two
  obtain ⟨_, _, _, _⟩ := hF.q.two
  obtain ⟨_, _, _, _⟩ := hF.r.two
  go_enter Tryd.func11, Tryd.ntmps11
  go_upto_region 1 with fail
  generalize (((W.alloc (.cells [Value.int .i64 m.w, .int .i64 m.h, s].toArray 24)).alloc (.cells [Value.int .i64 x, .int .i64 y].toArray 26)).alloc (.cells [Value.int .i64 u, .int .i64 v].toArray 26)).alloc (.cells [Value.int .i64 p, .int .i64 q].toArray 26) = X at *
  have hN := Blk.new X (pcells [(x, y), (u, v), (p, q)]) 26
  have hX := (Below.refl X.heap.size X).alloc (Nat.le_refl _) (.cells (pcells [(x, y), (u, v), (p, q)]).toArray 26)
  go_wp2_with (go_at_call 26; refine (ci _ X.heap.size (below_call hF.old hX) hN).mono ?_; rintro e w1 ⟨rfl, hb⟩)
  replace hb := below_call hX hb
  have hF1 := hF.call hb
  have hW := hF1.old
  clear hF hb hX hN ci ho
  have hmx : Tryd.prog.follows .mixedOrders = true := by kernel_rfl
  refine wp_region_held (S := fun w' => Below w1.heap.size w1 w') hmx ?_
  show wpAnyH _ _ _ _ _ _ _ _ w1.drew
  have hS0 := (Below.refl w1.heap.size w1).drew
  refine reg_tk (i := 0) (v := .agg #[.int .i64 p, .int .i64 q]) (some 16) rfl (fun w' hS => by (have u0 := (hF1.r.below hS).cell 0; have u1 := (hF1.r.below hS).cell 1; go_simp)) hS0 ?_
  try simp only [Act.put, List.setIfInBounds_toArray, List.set_cons_zero, List.set_cons_succ]
  refine reg_tk (i := 1) (v := .agg #[.int .i64 x, .int .i64 y]) (some 17) rfl (fun w' hS => by (have u0 := (hF1.p.below hS).cell 0; have u1 := (hF1.p.below hS).cell 1; go_simp)) hS0 ?_
  try simp only [Act.put, List.setIfInBounds_toArray, List.set_cons_zero, List.set_cons_succ]
  refine reg_tk (i := 2) (v := .bool true) (some 18) rfl (fun w' hS => by exact (exec_neP p q x y (.tmp 16) (.tmp 17) _ rfl rfl rfl).trans (by rw [n1])) hS0 ?_
  try simp only [Act.put, List.setIfInBounds_toArray, List.set_cons_zero, List.set_cons_succ]
  refine reg_tk (i := 3) (v := .bool true) (some 19) rfl (fun w' hS => by skip; go_simp) hS0 ?_
  try simp only [Act.put, List.setIfInBounds_toArray, List.set_cons_zero, List.set_cons_succ]
  refine reg_tk (i := 4) (v := .agg #[.int .i64 p, .int .i64 q]) (some 20) rfl (fun w' hS => by (have u0 := (hF1.r.below hS).cell 0; have u1 := (hF1.r.below hS).cell 1; go_simp)) hS0 ?_
  try simp only [Act.put, List.setIfInBounds_toArray, List.set_cons_zero, List.set_cons_succ]
  refine reg_tk (i := 5) (v := .agg #[.int .i64 u, .int .i64 v]) (some 21) rfl (fun w' hS => by (have u0 := (hF1.q.below hS).cell 0; have u1 := (hF1.q.below hS).cell 1; go_simp)) hS0 ?_
  try simp only [Act.put, List.setIfInBounds_toArray, List.set_cons_zero, List.set_cons_succ]
  refine reg_tk (i := 6) (v := .bool true) (some 22) rfl (fun w' hS => by exact (exec_neP p q u v (.tmp 20) (.tmp 21) _ rfl rfl rfl).trans (by rw [n2])) hS0 ?_
  try simp only [Act.put, List.setIfInBounds_toArray, List.set_cons_zero, List.set_cons_succ]
  refine reg_tk (i := 7) (v := .bool true) (some 23) rfl (fun w' hS => by skip; go_simp) hS0 ?_
  try simp only [Act.put, List.setIfInBounds_toArray, List.set_cons_zero, List.set_cons_succ]
  refine reg_tk (i := 8) (v := .bool true) (some 24) rfl (fun w' hS => by skip; go_simp) hS0 ?_
  try simp only [Act.put, List.setIfInBounds_toArray, List.set_cons_zero, List.set_cons_succ]
  refine reg_tk (i := 9) (v := .agg #[.int .i64 u, .int .i64 v]) (some 25) rfl (fun w' hS => by (have u0 := (hF1.q.below hS).cell 0; have u1 := (hF1.q.below hS).cell 1; go_simp)) hS0 ?_
  try simp only [Act.put, List.setIfInBounds_toArray, List.set_cons_zero, List.set_cons_succ]
  refine reg_tk (i := 10) (v := .agg #[.int .i64 x, .int .i64 y]) (some 26) rfl (fun w' hS => by (have u0 := (hF1.p.below hS).cell 0; have u1 := (hF1.p.below hS).cell 1; go_simp)) hS0 ?_
  try simp only [Act.put, List.setIfInBounds_toArray, List.set_cons_zero, List.set_cons_succ]
  refine reg_tk (i := 12) (v := .agg #[.int .i64 p, .int .i64 q]) (some 28) rfl (fun w' hS => by (have u0 := (hF1.r.below hS).cell 0; have u1 := (hF1.r.below hS).cell 1; go_simp)) hS0 ?_
  try simp only [Act.put, List.setIfInBounds_toArray, List.set_cons_zero, List.set_cons_succ]
  refine reg_tk (i := 13) (v := .agg #[.int .i64 x, .int .i64 y]) (some 29) rfl (fun w' hS => by (have u0 := (hF1.p.below hS).cell 0; have u1 := (hF1.p.below hS).cell 1; go_simp)) hS0 ?_
  try simp only [Act.put, List.setIfInBounds_toArray, List.set_cons_zero, List.set_cons_succ]
  refine held_one (i := 11) (by kernel_rfl) rfl (fun K hQ => ?_)
  go_simp
  ((with_reducible refine (cm1 _ (below_call hW hS0)).mono ?_); rintro e whS1 ⟨rfl, hbhS1⟩)
  have hS1 := below_call hS0 hbhS1
  refine hQ.out _ _ hS1 ?_
  clear hQ
  try simp only [Act.put, List.setIfInBounds_toArray, List.set_cons_zero, List.set_cons_succ]
  refine held_one (i := 14) (by kernel_rfl) rfl (fun K hQ => ?_)
  go_simp
  ((with_reducible refine (cm2 _ (below_call hW hS1)).mono ?_); rintro e whS2 ⟨rfl, hbhS2⟩)
  have hS2 := below_call hS1 hbhS2
  refine hQ.out _ _ hS2 ?_
  clear hQ
  try simp only [Act.put, List.setIfInBounds_toArray, List.set_cons_zero, List.set_cons_succ]
  refine held_one (i := 15) (by kernel_rfl) rfl (fun K hQ => ?_)
  go_simp
  ((with_reducible refine (cmt _ (below_call hW hS2)).mono ?_); rintro e whS3 ⟨rfl, hbhS3⟩)
  have hS3 := below_call hS2 hbhS3
  refine hQ.out _ _ hS3 ?_
  clear hQ
  try simp only [Act.put, List.setIfInBounds_toArray, List.set_cons_zero, List.set_cons_succ]
  refine reg_tk (i := 16) (v := .bool true) (some 32) rfl (fun w' hS => by skip; go_simp) hS3 ?_
  try simp only [Act.put, List.setIfInBounds_toArray, List.set_cons_zero, List.set_cons_succ]
  refine reg_tk (i := 17) (v := .bool true) (some 33) rfl (fun w' hS => by skip; go_simp) hS3 ?_
  try simp only [Act.put, List.setIfInBounds_toArray, List.set_cons_zero, List.set_cons_succ]
  refine reg_tk (i := 18) (v := .agg #[.int .i64 m.w, .int .i64 m.h, s]) (some 34) rfl (fun w' hS => by (have u0 := (hF1.m.below hS).cell 0; have u1 := (hF1.m.below hS).cell 1; have u2 := (hF1.m.below hS).cell 2; go_simp)) hS3 ?_
  try simp only [Act.put, List.setIfInBounds_toArray, List.set_cons_zero, List.set_cons_succ]
  refine reg_tk (i := 19) (v := .agg #[.int .i64 p, .int .i64 q]) (some 35) rfl (fun w' hS => by (have u0 := (hF1.r.below hS).cell 0; have u1 := (hF1.r.below hS).cell 1; go_simp)) hS3 ?_
  try simp only [Act.put, List.setIfInBounds_toArray, List.set_cons_zero, List.set_cons_succ]
  refine reg_tk (i := 20) (v := .agg #[.int .i64 m.w, .int .i64 m.h, s]) (some 36) rfl (fun w' hS => by (have u0 := (hF1.m.below hS).cell 0; have u1 := (hF1.m.below hS).cell 1; have u2 := (hF1.m.below hS).cell 2; go_simp)) hS3 ?_
  try simp only [Act.put, List.setIfInBounds_toArray, List.set_cons_zero, List.set_cons_succ]
  refine reg_tk (i := 21) (v := .agg #[.int .i64 x, .int .i64 y]) (some 37) rfl (fun w' hS => by (have u0 := (hF1.p.below hS).cell 0; have u1 := (hF1.p.below hS).cell 1; go_simp)) hS3 ?_
  try simp only [Act.put, List.setIfInBounds_toArray, List.set_cons_zero, List.set_cons_succ]
  refine reg_tk (i := 22) (v := .agg #[.int .i64 u, .int .i64 v]) (some 38) rfl (fun w' hS => by (have u0 := (hF1.q.below hS).cell 0; have u1 := (hF1.q.below hS).cell 1; go_simp)) hS3 ?_
  try simp only [Act.put, List.setIfInBounds_toArray, List.set_cons_zero, List.set_cons_succ]
  refine held_one (i := 23) (by kernel_rfl) rfl (fun K hQ => ?_)
  go_simp
  ((with_reducible refine (cup _ (below_call hW hS3)).mono ?_); rintro e whS4 ⟨rfl, hbhS4⟩)
  have hS4 := below_call hS3 hbhS4
  refine hQ.out _ _ hS4 ?_
  clear hQ
  try simp only [Act.put, List.setIfInBounds_toArray, List.set_cons_zero, List.set_cons_succ]
  refine held_one (i := 24) (by kernel_rfl) rfl (fun K hQ => ?_)
  go_simp
  ((with_reducible refine (chd _ (below_call hW hS4)).mono ?_); rintro e whS5 ⟨rfl, hbhS5⟩)
  have hS5 := below_call hS4 hbhS5
  refine hQ.out _ _ hS5 ?_
  clear hQ
  try simp only [Act.put, List.setIfInBounds_toArray, List.set_cons_zero, List.set_cons_succ]
  refine reg_tk (i := 25) (v := .bool z) (some 41) rfl (fun w' hS => by skip; go_simp) hS5 ?_
  try simp only [Act.put, List.setIfInBounds_toArray, List.set_cons_zero, List.set_cons_succ]
  refine reg_tk (i := 26) (v := .bool z) (some 8) rfl (fun w' hS => by skip; go_simp) hS5 ?_
  try simp only [Act.put, List.setIfInBounds_toArray, List.set_cons_zero, List.set_cons_succ]
  refine wpAnyH_done (by kernel_rfl) ?_ _
  show Exit.then _ _ Exit.normal _ _
  go_wp2_with fail
  go_ret
  exact ⟨rfl, below_call hW hS5⟩

theorem shblocks_b (m : M3) (s : Value) (x y u v p q : Int) (z : Bool) (W : World) (hE : EnvP W) (hr : RowAt W s m.cs) (hz : Hid (z = blocksv m x y u v p q)) :
    Calls Tryd.prog 11 #[.agg #[.int .i64 m.w, .int .i64 m.h, s], .agg #[.int .i64 x, .int .i64 y], .agg #[.int .i64 u, .int .i64 v], .agg #[.int .i64 p, .int .i64 q]] W fun e w' => e = .returned (.bool z) ∧ Below W.heap.size W w' := by
  cases ho : (validm m && alliv m.w m.h [(x, y), (u, v), (p, q)]) with
  | false => exact shblocksN_b m s x y u v p q z W hE hr (hid ho.symm) hz
  | true =>
    by_cases h1 : p = x ∧ q = y
    · exact shblocksA_b m s x y u v p q z W hE hr (hid ho.symm) hz h1
    · by_cases h2 : p = u ∧ q = v
      · exact shblocksB_b m s x y u v p q z W hE hr (hid ho.symm) hz h1 h2
      · cases hh : hitv (u - x) (v - y) (p - x) (q - y) with
        | false => exact shblocksC_b m s x y u v p q z W hE hr (hid ho.symm) hz h1 h2 (hid hh.symm)
        | true => exact shblocksD_b m s x y u v p q z W hE hr (hid ho.symm) hz h1 h2 (hid hh.symm)

end Go.Proofs.YtlcbkeieejmmbaaDoor
