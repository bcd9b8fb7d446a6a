/-
  The laws of cluster: ClusterAreas, ClusterEntrances, ClusterTouched, ClusterParts.
-/
import Derived.Test.YtpgchjhfhndaaaaDoorClLawP
import Derived.Test.YtpgchjhfhndaaaaDoorClW
import Derived.Test.YtpgchjhfhndaaaaDoorClRefP
namespace Go.Proofs.YtpgchjhfhndaaaaDoor

section
open Go.RowKit Go.Lib

set_option maxHeartbeats 4000000 in
theorem clfew_b (m : M3) (p0 pl : Option Addr) (nb c0 kl : Nat) (c : Int) (b : Bool) (W : World) (e : Hid (b = decide (m.cs.length ≤ 1024 ∧ nb ≤ 1024))) :
    Calls Tryd.prog 15 #[.agg #[.int .i64 m.w, .int .i64 m.h, .slice p0 m.cs.length c0, .slice pl nb kl, .int .i64 c]] W fun e w' => e = .returned (.bool b) ∧ Below W.heap.size W w' := by
  have hL := (Below.refl W.heap.size W).alloc (Nat.le_refl _) (.cells [Value.int .i64 m.w, .int .i64 m.h, .slice p0 m.cs.length c0, .slice pl nb kl, .int .i64 c].toArray 37)
  generalize m.cs.length = n at *
  by_cases h1 : n ≤ 1024
  · have z1 : decide ((n : Int) ≤ 1024) = true := decide_eq_true (by omega)
    by_cases h2 : nb ≤ 1024
    · have z2 : decide ((nb : Int) ≤ 1024) = true := decide_eq_true (by omega)
      have hb : b = true := by rw [e.out]; exact decide_eq_true ⟨h1, h2⟩
      subst hb
      clear e h1 h2
      go_enter Tryd.func15, Tryd.ntmps15
      go_wp2_with fail
      go_ret
      exact ⟨rfl, hL⟩
    · have z2 : decide ((nb : Int) ≤ 1024) = false := decide_eq_false (by omega)
      have hb : b = false := by rw [e.out]; exact decide_eq_false (fun h => h2 h.2)
      subst hb
      clear e h1 h2
      go_enter Tryd.func15, Tryd.ntmps15
      go_wp2_with fail
      go_ret
      exact ⟨rfl, hL⟩
  · have z1 : decide ((n : Int) ≤ 1024) = false := decide_eq_false (by omega)
    have hb : b = false := by rw [e.out]; exact decide_eq_false (fun h => h1 h.1)
    subst hb
    clear e h1
    go_enter Tryd.func15, Tryd.ntmps15
    go_wp2_with fail
    go_ret
    exact ⟨rfl, hL⟩

set_option maxRecDepth 100000 in
set_option maxHeartbeats 8000000 in
theorem law15_areas (m : M3) (s : Value) (p : Pt) (k : Int) (W : World) (hE : EnvT W) (hr : RowAt W s m.cs) :
    Calls Tryd.prog 3 #[.agg #[.int .i64 m.w, .int .i64 m.h, s], .agg #[.int .i64 p.1, .int .i64 p.2], .int .i64 k] W fun e w' => e = .returned (.bool true) ∧ Below W.heap.size W w' := by
  have hmx : Tryd.prog.follows .mixedOrders = true := by kernel_rfl
  obtain ⟨sp, sk, rfl⟩ := hr.slice
  obtain ⟨n, hn⟩ : ∃ n, Hid (n = m.cs.length) := ⟨_, hid rfl⟩
  rw [← hn.out] at hr ⊢
  obtain ⟨x, hx⟩ : ∃ x, Hid (x = exv m k) := ⟨_, hid rfl⟩
  obtain ⟨r, hra⟩ : ∃ r, Hid (r = areav m k) := ⟨_, hid rfl⟩
  obtain ⟨q, hq⟩ : ∃ q, Hid (q = ofv m p) := ⟨_, hid rfl⟩
  obtain ⟨t, ht⟩ : ∃ t, Hid (t = countv m) := ⟨_, hid rfl⟩
  have hT := Held2.start W [.int .i64 m.w, .int .i64 m.h, .slice sp n sk] [.int .i64 p.1, .int .i64 p.2] 24 26
  obtain ⟨k0, ek⟩ : ∃ k0, Hid (k0 = W.heap.size) := ⟨_, hid rfl⟩
  obtain ⟨k1, ek1⟩ : ∃ k1, Hid (k1 = W.heap.size + 1) := ⟨_, hid rfl⟩
  go_enter Tryd.func3, Tryd.ntmps3
  go_upto_region 1 with fail
  obtain ⟨X, hX⟩ : ∃ X, X = (W.alloc (.cells [Value.int .i64 m.w, .int .i64 m.h, .slice sp n sk].toArray 24)).alloc (.cells [Value.int .i64 p.1, .int .i64 p.2].toArray 26) := ⟨_, rfl⟩
  rw [← hX] at hT ⊢
  clear hX
  have zm := hT.l.at ek.out.symm
  have zp := hT.r.at ek1.out.symm
  have hW := hT.old
  rw [← ek1.out]
  rw [← ek.out]
  clear hT
  have m2 := zm.cell 2
  simp only [List.getElem?_cons_zero, List.getElem?_cons_succ] at m2
  by_cases hbig : 1024 < n
  · have z1 : decide ((1024 : Int) < (n : Int)) = true := decide_eq_true (by omega)
    have ca := awake15_b X (hE.keep hW)
    go_wp2_with fail
    ((with_reducible refine ca.mono ?_); rintro e w1 ⟨rfl, hb1⟩)
    go_wp2_with fail
    go_ret
    exact ⟨rfl, below_call hW hb1⟩
  have z1 : decide ((1024 : Int) < (n : Int)) = false := decide_eq_false (by omega)
  have m0 := zm.cell 0
  have m1 := zm.cell 1
  have m2 := zm.cell 2
  simp only [List.getElem?_cons_zero, List.getElem?_cons_succ] at m0 m1 m2
  go_wp2_with fail
  ((with_reducible refine (clarea_b m sp n sk k r x X (hr.below hW) hx hra).mono ?_); rintro e w1 ⟨rfl, hb1⟩)
  have hb2 := hb1.alloc hb1.size (.cells ([.int .i64 r.x, .int .i64 r.y, .int .i64 r.w, .int .i64 r.h] : List Value).toArray 29)
  have zr := Blk.new w1 [.int .i64 r.x, .int .i64 r.y, .int .i64 r.w, .int .i64 r.h] 29
  go_upto_region 4 with fail
  obtain ⟨w1', hX⟩ : ∃ Y, Y = w1.alloc (.cells #[Value.int .i64 r.x, .int .i64 r.y, .int .i64 r.w, .int .i64 r.h] 29) := ⟨_, rfl⟩
  rw [← hX]
  rw [show w1.alloc (.cells ([.int .i64 r.x, .int .i64 r.y, .int .i64 r.w, .int .i64 r.h] : List Value).toArray 29) = w1' from hX.symm] at hb2 zr
  replace hW := below_call hW hb2
  replace zm := zm.below hb2
  replace zp := zp.below hb2
  obtain ⟨k2, ek2⟩ : ∃ q, Hid (q = w1.heap.size) := ⟨_, hid rfl⟩
  rw [← ek2.out] at zr ⊢
  clear hX hb1 hb2 m0 m1 m2
  have m0 := zm.cell 0
  have m1 := zm.cell 1
  have m2 := zm.cell 2
  simp only [List.getElem?_cons_zero, List.getElem?_cons_succ] at m0 m1 m2
  go_wp2_with fail
  ((with_reducible refine (rarea_b m sp n sk k r x w1' (hr.below hW) hx hra).mono ?_); rintro e w2 ⟨rfl, hb1⟩)
  have hb2 := hb1.alloc hb1.size (.cells ([.int .i64 r.x, .int .i64 r.y, .int .i64 r.w, .int .i64 r.h] : List Value).toArray 29)
  have zs := Blk.new w2 [.int .i64 r.x, .int .i64 r.y, .int .i64 r.w, .int .i64 r.h] 29
  go_upto_region 5 with fail
  obtain ⟨w2', hX⟩ : ∃ Y, Y = w2.alloc (.cells #[Value.int .i64 r.x, .int .i64 r.y, .int .i64 r.w, .int .i64 r.h] 29) := ⟨_, rfl⟩
  rw [← hX]
  rw [show w2.alloc (.cells ([.int .i64 r.x, .int .i64 r.y, .int .i64 r.w, .int .i64 r.h] : List Value).toArray 29) = w2' from hX.symm] at hb2 zs
  replace hW := below_call hW hb2
  replace zm := zm.below hb2
  replace zp := zp.below hb2
  obtain ⟨k3, ek3⟩ : ∃ q, Hid (q = w2.heap.size) := ⟨_, hid rfl⟩
  rw [← ek3.out] at zs ⊢
  replace zr := zr.below hb2
  clear hX hb1 hb2 m0 m1 m2
  have hmx : Tryd.prog.follows .mixedOrders = true := by kernel_rfl
  go_upto_region 5 with fail
  refine wp_onlyN (wp_region_held (S := fun w' => Below w2'.heap.size w2' w') hmx ?_)
  show wpAnyH _ _ _ _ _ _ _ _ w2'.drew
  have hS0 := (Below.refl w2'.heap.size w2').drew
  refine reg_tk (i := 0) (v := .agg #[.int .i64 m.w, .int .i64 m.h, .slice sp n sk]) (some 28) rfl (fun w' hS => by (have c0 := (zm.below hS).cell 0; have c1 := (zm.below hS).cell 1; have c2 := (zm.below hS).cell 2; simp only [List.getElem?_cons_zero, List.getElem?_cons_succ] at c0 c1 c2); go_simp) hS0 ?_
  try simp only [Act.put, List.setIfInBounds_toArray, List.set_cons_zero, List.set_cons_succ]
  refine reg_tk (i := 1) (v := .agg #[.int .i64 p.1, .int .i64 p.2]) (some 29) rfl (fun w' hS => by (have c0 := (zp.below hS).cell 0; have c1 := (zp.below hS).cell 1; simp only [List.getElem?_cons_zero, List.getElem?_cons_succ] at c0 c1); go_simp) hS0 ?_
  try simp only [Act.put, List.setIfInBounds_toArray, List.set_cons_zero, List.set_cons_succ]
  refine reg_tk (i := 3) (v := .agg #[.int .i64 m.w, .int .i64 m.h, .slice sp n sk]) (some 31) rfl (fun w' hS => by (have c0 := (zm.below hS).cell 0; have c1 := (zm.below hS).cell 1; have c2 := (zm.below hS).cell 2; simp only [List.getElem?_cons_zero, List.getElem?_cons_succ] at c0 c1 c2); go_simp) hS0 ?_
  try simp only [Act.put, List.setIfInBounds_toArray, List.set_cons_zero, List.set_cons_succ]
  refine reg_tk (i := 4) (v := .agg #[.int .i64 p.1, .int .i64 p.2]) (some 32) rfl (fun w' hS => by (have c0 := (zp.below hS).cell 0; have c1 := (zp.below hS).cell 1; simp only [List.getElem?_cons_zero, List.getElem?_cons_succ] at c0 c1); go_simp) hS0 ?_
  try simp only [Act.put, List.setIfInBounds_toArray, List.set_cons_zero, List.set_cons_succ]
  refine held_one (i := 2) (by kernel_rfl) rfl (fun K hQ => ?_)
  go_simp
  ((with_reducible refine (clof_b m sp n sk p q _ (hr.below (below_call hW hS0)) hq).mono ?_); rintro e w3 ⟨rfl, hb1⟩)
  have hS1 := below_call hS0 hb1
  clear hb1
  refine hQ.out _ _ hS1 ?_
  clear hQ
  try simp only [Act.put, List.setIfInBounds_toArray, List.set_cons_zero, List.set_cons_succ]
  refine held_one (i := 5) (by kernel_rfl) rfl (fun K hQ => ?_)
  go_simp
  ((with_reducible refine (rof_b m sp n sk p q _ (hr.below (below_call hW hS1)) hq).mono ?_); rintro e w4 ⟨rfl, hb1⟩)
  have hS2 := below_call hS1 hb1
  clear hb1
  refine hQ.out _ _ hS2 ?_
  clear hQ
  try simp only [Act.put, List.setIfInBounds_toArray, List.set_cons_zero, List.set_cons_succ]
  refine reg_tk (i := 6) (v := .bool true) (some 34) rfl (fun w' hS => by (skip); go_simp) hS2 ?_
  try simp only [Act.put, List.setIfInBounds_toArray, List.set_cons_zero, List.set_cons_succ]
  refine reg_tk (i := 7) (v := .bool true) (some 35) rfl (fun w' hS => by (skip); go_simp) hS2 ?_
  try simp only [Act.put, List.setIfInBounds_toArray, List.set_cons_zero, List.set_cons_succ]
  refine reg_tk (i := 8) (v := .agg #[.int .i64 r.x, .int .i64 r.y, .int .i64 r.w, .int .i64 r.h]) (some 36) rfl (fun w' hS => by (have c0 := (zr.below hS).cell 0; have c1 := (zr.below hS).cell 1; have c2 := (zr.below hS).cell 2; have c3 := (zr.below hS).cell 3; simp only [List.getElem?_cons_zero, List.getElem?_cons_succ] at c0 c1 c2 c3); go_simp) hS2 ?_
  try simp only [Act.put, List.setIfInBounds_toArray, List.set_cons_zero, List.set_cons_succ]
  refine reg_tk (i := 9) (v := .agg #[.int .i64 r.x, .int .i64 r.y, .int .i64 r.w, .int .i64 r.h]) (some 37) rfl (fun w' hS => by (have c0 := (zs.below hS).cell 0; have c1 := (zs.below hS).cell 1; have c2 := (zs.below hS).cell 2; have c3 := (zs.below hS).cell 3; simp only [List.getElem?_cons_zero, List.getElem?_cons_succ] at c0 c1 c2 c3); go_simp) hS2 ?_
  try simp only [Act.put, List.setIfInBounds_toArray, List.set_cons_zero, List.set_cons_succ]
  refine reg_tk (i := 10) (v := .bool true) (some 38) rfl (fun w' hS => by (skip); go_simp) hS2 ?_
  try simp only [Act.put, List.setIfInBounds_toArray, List.set_cons_zero, List.set_cons_succ]
  refine reg_tk (i := 11) (v := .bool true) (some 39) rfl (fun w' hS => by (skip); go_simp) hS2 ?_
  try simp only [Act.put, List.setIfInBounds_toArray, List.set_cons_zero, List.set_cons_succ]
  refine reg_tk (i := 12) (v := .bool true) (some 40) rfl (fun w' hS => by (skip); go_simp) hS2 ?_
  try simp only [Act.put, List.setIfInBounds_toArray, List.set_cons_zero, List.set_cons_succ]
  refine reg_tk (i := 13) (v := .bool x) (some 41) rfl (fun w' hS => by (skip); go_simp) hS2 ?_
  try simp only [Act.put, List.setIfInBounds_toArray, List.set_cons_zero, List.set_cons_succ]
  refine reg_tk (i := 14) (v := .bool x) (some 42) rfl (fun w' hS => by (skip); go_simp) hS2 ?_
  try simp only [Act.put, List.setIfInBounds_toArray, List.set_cons_zero, List.set_cons_succ]
  refine reg_tk (i := 15) (v := .bool true) (some 43) rfl (fun w' hS => by (skip); go_simp) hS2 ?_
  try simp only [Act.put, List.setIfInBounds_toArray, List.set_cons_zero, List.set_cons_succ]
  refine reg_tk (i := 16) (v := .bool true) (some 44) rfl (fun w' hS => by (skip); go_simp) hS2 ?_
  try simp only [Act.put, List.setIfInBounds_toArray, List.set_cons_zero, List.set_cons_succ]
  refine reg_tk (i := 17) (v := .bool true) (some 45) rfl (fun w' hS => by (skip); go_simp) hS2 ?_
  try simp only [Act.put, List.setIfInBounds_toArray, List.set_cons_zero, List.set_cons_succ]
  refine reg_tk (i := 18) (v := .agg #[.int .i64 m.w, .int .i64 m.h, .slice sp n sk]) (some 46) rfl (fun w' hS => by (have c0 := (zm.below hS).cell 0; have c1 := (zm.below hS).cell 1; have c2 := (zm.below hS).cell 2; simp only [List.getElem?_cons_zero, List.getElem?_cons_succ] at c0 c1 c2); go_simp) hS2 ?_
  try simp only [Act.put, List.setIfInBounds_toArray, List.set_cons_zero, List.set_cons_succ]
  refine reg_tk (i := 20) (v := .agg #[.int .i64 m.w, .int .i64 m.h, .slice sp n sk]) (some 48) rfl (fun w' hS => by (have c0 := (zm.below hS).cell 0; have c1 := (zm.below hS).cell 1; have c2 := (zm.below hS).cell 2; simp only [List.getElem?_cons_zero, List.getElem?_cons_succ] at c0 c1 c2); go_simp) hS2 ?_
  try simp only [Act.put, List.setIfInBounds_toArray, List.set_cons_zero, List.set_cons_succ]
  refine held_one (i := 19) (by kernel_rfl) rfl (fun K hQ => ?_)
  rw [if_pos (show Region.wanted _ _ = true by kernel_rfl)]
  go_simp
  ((with_reducible refine (clcount_b m sp n sk t _ (hr.below (below_call hW hS2)) ht).mono ?_); rintro e w5 ⟨rfl, hb1⟩)
  have hS3 := below_call hS2 hb1
  clear hb1
  refine hQ.out _ _ hS3 ?_
  clear hQ
  try simp only [Act.put, List.setIfInBounds_toArray, List.set_cons_zero, List.set_cons_succ]
  refine held_one (i := 21) (by kernel_rfl) rfl (fun K hQ => ?_)
  rw [if_pos (show Region.wanted _ _ = true by kernel_rfl)]
  go_simp
  ((with_reducible refine (rcount_b m sp n sk t _ (hr.below (below_call hW hS3)) ht).mono ?_); rintro e w6 ⟨rfl, hb1⟩)
  have hS4 := below_call hS3 hb1
  clear hb1
  refine hQ.out _ _ hS4 ?_
  clear hQ
  try simp only [Act.put, List.setIfInBounds_toArray, List.set_cons_zero, List.set_cons_succ]
  refine reg_tk (i := 22) (v := .bool true) (some 50) rfl (fun w' hS => by (skip); go_simp) hS4 ?_
  try simp only [Act.put, List.setIfInBounds_toArray, List.set_cons_zero, List.set_cons_succ]
  refine reg_tk (i := 23) (v := .bool true) (some 51) rfl (fun w' hS => by (skip); go_simp) hS4 ?_
  try simp only [Act.put, List.setIfInBounds_toArray, List.set_cons_zero, List.set_cons_succ]
  refine reg_tk (i := 24) (v := .bool true) (some 52) rfl (fun w' hS => by (skip); go_simp) hS4 ?_
  try simp only [Act.put, List.setIfInBounds_toArray, List.set_cons_zero, List.set_cons_succ]
  refine held_one (i := 25) (by kernel_rfl) rfl (fun K hQ => ?_)
  rw [if_pos (show Region.wanted _ _ = true by kernel_rfl)]
  go_simp
  ((with_reducible refine (awake15_b _ (hE.keep (below_call hW hS4))).mono ?_); rintro e w7 ⟨rfl, hb1⟩)
  have hS5 := below_call hS4 hb1
  clear hb1
  refine hQ.out _ _ hS5 ?_
  clear hQ
  try simp only [Act.put, List.setIfInBounds_toArray, List.set_cons_zero, List.set_cons_succ]
  refine reg_tk (i := 26) (v := .bool true) (some 54) rfl (fun w' hS => by (skip); go_simp) hS5 ?_
  try simp only [Act.put, List.setIfInBounds_toArray, List.set_cons_zero, List.set_cons_succ]
  refine reg_tk (i := 27) (v := .bool true) (some 6) rfl (fun w' hS => by (skip); go_simp) hS5 ?_
  try simp only [Act.put, List.setIfInBounds_toArray, List.set_cons_zero, List.set_cons_succ]
  refine wpAnyH_done (by kernel_rfl) ?_ _
  try simp only [onlyN]
  go_wp2_with fail
  go_ret
  exact ⟨rfl, below_call hW hS5⟩

theorem entr_len (m : M3) (bl : List Bool) (c a b : Int) : (entrv m bl c a b).length ≤ 1000 := by
  unfold entrv
  split
  · next h =>
    simp only [Bool.and_eq_true] at h
    obtain ⟨⟨h1, h2⟩, h3⟩ := h
    have ok := bord_ok h1 h2 (o := (bordv (arv m a) (arv m b)).1) (by rw [← h3])
    have hf := (runs_fit (crossA m bl c (bordv (arv m a) (arv m b)).1) (crossG m bl c (bordv (arv m a) (arv m b)).1) (bcells (bordv (arv m a) (arv m b)).1 (bordv (arv m a) (arv m b)).1.n.toNat)).1
    rw [bcells_len] at hf
    have := flat_len _ 8 (Nat.le_trans hf (by have := ok.n8; omega))
    unfold lineE
    omega
  · exact Nat.zero_le _

set_option maxRecDepth 100000 in
set_option maxHeartbeats 8000000 in
theorem law15_entrances (m : M3) (s : Value) (bl : List Bool) (l : Value) (c a b : Int) (W : World) (hE : EnvT W) (hh : HighAt m) (hr : RowAt W s m.cs) (hl : BitsAt W l bl) :
    Calls Tryd.prog 4 #[.agg #[.int .i64 m.w, .int .i64 m.h, s, l, .int .i64 c], .int .i64 a, .int .i64 b] W fun e w' => e = .returned (.bool true) ∧ Below W.heap.size W w' := by
  have hmx : Tryd.prog.follows .mixedOrders = true := by kernel_rfl
  obtain ⟨sp, sk, rfl⟩ := hr.slice
  obtain ⟨lp, lk, rfl, -⟩ := id hl
  obtain ⟨n, hn⟩ : ∃ n, Hid (n = m.cs.length) := ⟨_, hid rfl⟩
  obtain ⟨ln, hln⟩ : ∃ n, Hid (n = bl.length) := ⟨_, hid rfl⟩
  obtain ⟨sm, hsm⟩ : ∃ sm, Hid (sm = decide (m.cs.length ≤ 1024 ∧ bl.length ≤ 1024)) := ⟨_, hid rfl⟩
  have ch := fun (w : World) => clfew_b m sp lp bl.length sk lk c sm w hsm
  rw [← hn.out, ← hln.out] at ch
  rw [← hn.out] at hr ⊢
  rw [← hln.out] at hl ⊢
  have hT := Held1.start W [.int .i64 m.w, .int .i64 m.h, .slice sp n sk, .slice lp ln lk, .int .i64 c] 37
  obtain ⟨k0, ek⟩ : ∃ k0, Hid (k0 = W.heap.size) := ⟨_, hid rfl⟩
  go_enter Tryd.func4, Tryd.ntmps4
  go_upto_region 1 with fail
  obtain ⟨X, hX⟩ : ∃ X, X = W.alloc (.cells ([.int .i64 m.w, .int .i64 m.h, .slice sp n sk, .slice lp ln lk, .int .i64 c] : List Value).toArray 37) := ⟨_, rfl⟩
  rw [← hX] at hT ⊢
  clear hX
  have zf := hT.l.at ek.out.symm
  have hW := hT.old
  rw [← ek.out]
  clear hT
  have f0 := zf.cell 0
  have f1 := zf.cell 1
  have f2 := zf.cell 2
  have f3 := zf.cell 3
  have f4 := zf.cell 4
  simp only [List.getElem?_cons_zero, List.getElem?_cons_succ] at f0 f1 f2 f3 f4
  go_wp2_with fail
  ((with_reducible refine (ch X).mono ?_); rintro e w1 ⟨rfl, hb1⟩)
  replace zf := zf.below hb1
  replace hW := below_call hW hb1
  clear hb1 f0 f1 f2 f3 f4 ch hsm
  cases sm with
  | false =>
    have ca := awake15_b w1 (hE.keep hW)
    go_wp2_with fail
    ((with_reducible refine ca.mono ?_); rintro e w2 ⟨rfl, hb2⟩)
    go_wp2_with fail
    go_ret
    exact ⟨rfl, below_call hW hb2⟩
  | true =>
    have hmx : Tryd.prog.follows .mixedOrders = true := by kernel_rfl
    go_upto_region 3 with fail
    refine wp_onlyN (wp_region_held (S := fun w' => Below w1.heap.size w1 w') hmx ?_)
    show wpAnyH _ _ _ _ _ _ _ _ w1.drew
    have hS0 := (Below.refl w1.heap.size w1).drew
    refine reg_tk (i := 0) (v := .pointer (some ⟨k0, 0, none⟩)) (some 11) rfl (fun w' hS => by (skip); go_simp) hS0 ?_
    try simp only [Act.put, List.setIfInBounds_toArray, List.set_cons_zero, List.set_cons_succ]
    refine reg_tk (i := 1) (v := .agg #[.int .i64 m.w, .int .i64 m.h, .slice sp n sk]) (some 12) rfl (fun w' hS => by (have c0 := (zf.below hS).cell 0; have c1 := (zf.below hS).cell 1; have c2 := (zf.below hS).cell 2; simp only [List.getElem?_cons_zero, List.getElem?_cons_succ] at c0 c1 c2); go_simp) hS0 ?_
    try simp only [Act.put, List.setIfInBounds_toArray, List.set_cons_zero, List.set_cons_succ]
    refine reg_tk (i := 2) (v := .pointer (some ⟨k0, 3, none⟩)) (some 13) rfl (fun w' hS => by (skip); go_simp) hS0 ?_
    try simp only [Act.put, List.setIfInBounds_toArray, List.set_cons_zero, List.set_cons_succ]
    refine reg_tk (i := 3) (v := .slice lp ln lk) (some 14) rfl (fun w' hS => by (have c3 := (zf.below hS).cell 3; simp only [List.getElem?_cons_zero, List.getElem?_cons_succ] at c3); go_simp) hS0 ?_
    try simp only [Act.put, List.setIfInBounds_toArray, List.set_cons_zero, List.set_cons_succ]
    refine reg_tk (i := 4) (v := .pointer (some ⟨k0, 4, none⟩)) (some 15) rfl (fun w' hS => by (skip); go_simp) hS0 ?_
    try simp only [Act.put, List.setIfInBounds_toArray, List.set_cons_zero, List.set_cons_succ]
    refine reg_tk (i := 5) (v := .int .i64 c) (some 16) rfl (fun w' hS => by (have c4 := (zf.below hS).cell 4; simp only [List.getElem?_cons_zero, List.getElem?_cons_succ] at c4); go_simp) hS0 ?_
    try simp only [Act.put, List.setIfInBounds_toArray, List.set_cons_zero, List.set_cons_succ]
    refine reg_tk (i := 6) (v := .int .i64 a) (some 17) rfl (fun w' hS => by (skip); go_simp) hS0 ?_
    try simp only [Act.put, List.setIfInBounds_toArray, List.set_cons_zero, List.set_cons_succ]
    refine reg_tk (i := 7) (v := .int .i64 b) (some 18) rfl (fun w' hS => by (skip); go_simp) hS0 ?_
    try simp only [Act.put, List.setIfInBounds_toArray, List.set_cons_zero, List.set_cons_succ]
    refine reg_tk (i := 9) (v := .pointer (some ⟨k0, 0, none⟩)) (some 20) rfl (fun w' hS => by (skip); go_simp) hS0 ?_
    try simp only [Act.put, List.setIfInBounds_toArray, List.set_cons_zero, List.set_cons_succ]
    refine reg_tk (i := 10) (v := .agg #[.int .i64 m.w, .int .i64 m.h, .slice sp n sk]) (some 21) rfl (fun w' hS => by (have c0 := (zf.below hS).cell 0; have c1 := (zf.below hS).cell 1; have c2 := (zf.below hS).cell 2; simp only [List.getElem?_cons_zero, List.getElem?_cons_succ] at c0 c1 c2); go_simp) hS0 ?_
    try simp only [Act.put, List.setIfInBounds_toArray, List.set_cons_zero, List.set_cons_succ]
    refine reg_tk (i := 11) (v := .pointer (some ⟨k0, 3, none⟩)) (some 22) rfl (fun w' hS => by (skip); go_simp) hS0 ?_
    try simp only [Act.put, List.setIfInBounds_toArray, List.set_cons_zero, List.set_cons_succ]
    refine reg_tk (i := 12) (v := .slice lp ln lk) (some 23) rfl (fun w' hS => by (have c3 := (zf.below hS).cell 3; simp only [List.getElem?_cons_zero, List.getElem?_cons_succ] at c3); go_simp) hS0 ?_
    try simp only [Act.put, List.setIfInBounds_toArray, List.set_cons_zero, List.set_cons_succ]
    refine reg_tk (i := 13) (v := .pointer (some ⟨k0, 4, none⟩)) (some 24) rfl (fun w' hS => by (skip); go_simp) hS0 ?_
    try simp only [Act.put, List.setIfInBounds_toArray, List.set_cons_zero, List.set_cons_succ]
    refine reg_tk (i := 14) (v := .int .i64 c) (some 25) rfl (fun w' hS => by (have c4 := (zf.below hS).cell 4; simp only [List.getElem?_cons_zero, List.getElem?_cons_succ] at c4); go_simp) hS0 ?_
    try simp only [Act.put, List.setIfInBounds_toArray, List.set_cons_zero, List.set_cons_succ]
    refine reg_tk (i := 15) (v := .int .i64 a) (some 26) rfl (fun w' hS => by (skip); go_simp) hS0 ?_
    try simp only [Act.put, List.setIfInBounds_toArray, List.set_cons_zero, List.set_cons_succ]
    refine reg_tk (i := 16) (v := .int .i64 b) (some 27) rfl (fun w' hS => by (skip); go_simp) hS0 ?_
    try simp only [Act.put, List.setIfInBounds_toArray, List.set_cons_zero, List.set_cons_succ]
    refine held_one (i := 8) (by kernel_rfl) rfl (fun K hQ => ?_)
    go_simp
    ((with_reducible refine (clentrances_b m sp n sk bl lp ln lk c a b _ (hE.keep (below_call hW hS0)) hh (hr.below (below_call hW hS0)) (hl.below (below_call hW hS0))).mono ?_); rintro e w2 ⟨u1, rfl, ho1, hb1⟩)
    have hS1 := below_call hS0 hb1
    clear hb1
    refine hQ.out _ _ hS1 ?_
    clear hQ
    try simp only [Act.put, List.setIfInBounds_toArray, List.set_cons_zero, List.set_cons_succ]
    refine held_one (i := 17) (by kernel_rfl) rfl (fun K hQ => ?_)
    go_simp
    ((with_reducible refine (rentrances_b m sp n sk bl lp ln lk c a b _ hh (hr.below (below_call hW hS1)) (hl.below (below_call hW hS1))).mono ?_); rintro e w3 ⟨u2, rfl, ho2, hb2⟩)
    have hS2 := below_call hS1 hb2
    refine hQ.out _ _ hS2 ?_
    clear hQ
    try simp only [Act.put, List.setIfInBounds_toArray, List.set_cons_zero, List.set_cons_succ]
    refine held_one (i := 18) (by kernel_rfl) rfl (fun K hQ => ?_)
    go_simp
    ((with_reducible refine (rsame15_b u1 u2 (entrv m bl c a b) _ _ _ w3 rfl (entr_len m bl c a b) (own_below ho1 hb2) ho2).mono ?_); rintro e w4 ⟨rfl, hb3⟩)
    have hS3 := below_call hS2 hb3
    clear hb3
    refine hQ.out _ _ hS3 ?_
    clear hQ
    try simp only [Act.put, List.setIfInBounds_toArray, List.set_cons_zero, List.set_cons_succ]
    refine reg_tk (i := 19) (v := .bool true) (some 30) rfl (fun w' hS => by (skip); go_simp) hS3 ?_
    try simp only [Act.put, List.setIfInBounds_toArray, List.set_cons_zero, List.set_cons_succ]
    refine held_one (i := 20) (by kernel_rfl) rfl (fun K hQ => ?_)
    rw [if_pos (show Region.wanted _ _ = true by kernel_rfl)]
    go_simp
    ((with_reducible refine (awake15_b _ (hE.keep (below_call hW hS3))).mono ?_); rintro e w5 ⟨rfl, hb4⟩)
    have hS4 := below_call hS3 hb4
    clear hb4
    refine hQ.out _ _ hS4 ?_
    clear hQ
    try simp only [Act.put, List.setIfInBounds_toArray, List.set_cons_zero, List.set_cons_succ]
    refine reg_tk (i := 21) (v := .bool true) (some 32) rfl (fun w' hS => by (skip); go_simp) hS4 ?_
    try simp only [Act.put, List.setIfInBounds_toArray, List.set_cons_zero, List.set_cons_succ]
    refine reg_tk (i := 22) (v := .bool true) (some 6) rfl (fun w' hS => by (skip); go_simp) hS4 ?_
    try simp only [Act.put, List.setIfInBounds_toArray, List.set_cons_zero, List.set_cons_succ]
    refine wpAnyH_done (by kernel_rfl) ?_ _
    try simp only [onlyN]
    go_wp2_with fail
    go_ret
    exact ⟨rfl, below_call hW hS4⟩

end

section
open Go.RowKit Go.Lib

/-- Where the number of a true element stands among the numbers. -/
theorem numsTo_mem {L : List Bool} {n k : Nat} (hk : k < n) (h : gb L k = true) : (k : Int) ∈ numsTo L n := by
  unfold numsTo
  exact List.mem_map.2 ⟨k, List.mem_filter.2 ⟨List.mem_range.2 hk, h⟩, rfl⟩
/-- The cluster of a cell of the list is in what Touched returns. -/
theorem touched_of {m : M3} {ps : List Pt} {p : Pt} (hp : p ∈ ps) (h : 0 ≤ ofv m p) : ofv m p ∈ touchedv m ps := by
  have hvi : validm m = true ∧ insp m p = true := by
    unfold ofv at h
    by_cases hc : (validm m && insp m p) = true
    · simpa using hc
    · rw [if_neg hc] at h; omega
  obtain ⟨hv, hi⟩ := hvi
  have e1 : ofv m p = numv m p := by unfold ofv numv; rw [hv, hi, Bool.and_self, if_pos rfl]
  have hlt := num_nat hv hi
  unfold touchedv
  rw [if_pos hv]
  obtain ⟨k, hk⟩ := Int.eq_ofNat_of_zero_le h
  have hkn : (numv m p).toNat = k := by rw [← e1, hk]; rfl
  rw [hk]
  rw [hkn] at hlt
  refine numsTo_mem hlt ?_
  rw [gb_touch m hv k ps _ (by rw [List.length_replicate])]
  rw [Bool.or_eq_true]
  refine .inr (List.any_eq_true.2 ⟨p, hp, ?_⟩)
  unfold hitB
  rw [hi, hkn, decide_eq_true rfl]
  rfl

set_option maxRecDepth 100000 in
set_option maxHeartbeats 8000000 in
theorem law15_touched (m : M3) (s : Value) (ps : List Pt) (v : Value) (W : World) (hE : EnvT W) (hr : RowAt W s m.cs) (hv : PsAt W v ps) :
    Calls Tryd.prog 5 #[.agg #[.int .i64 m.w, .int .i64 m.h, s], v] W fun e w' => e = .returned (.bool true) ∧ Below W.heap.size W w' := by
  have hmx : Tryd.prog.follows .mixedOrders = true := by kernel_rfl
  obtain ⟨sp, sk, rfl⟩ := hr.slice
  obtain ⟨n, hn⟩ : ∃ n, Hid (n = m.cs.length) := ⟨_, hid rfl⟩
  rw [← hn.out] at hr ⊢
  obtain ⟨pp, cp, rfl, hc1, hc2, hpc⟩ := id hv
  obtain ⟨kn, hkn⟩ : ∃ kn, Hid (ps.length = kn) := ⟨_, hid rfl⟩
  rw [hkn.out] at hv ⊢
  have hT := Held1.start W [.int .i64 m.w, .int .i64 m.h, .slice sp n sk] 24
  obtain ⟨k0, ek⟩ : ∃ k0, Hid (k0 = W.heap.size) := ⟨_, hid rfl⟩
  go_enter Tryd.func5, Tryd.ntmps5
  go_upto_region 1 with fail
  obtain ⟨X, hX⟩ : ∃ X, X = W.alloc (.cells [Value.int .i64 m.w, .int .i64 m.h, .slice sp n sk].toArray 24) := ⟨_, rfl⟩
  rw [← hX] at hT ⊢
  clear hX
  have zm := hT.l.at ek.out.symm
  have hW := hT.old
  rw [← ek.out]
  clear hT
  have m2 := zm.cell 2
  simp only [List.getElem?_cons_zero, List.getElem?_cons_succ] at m2
  have ca := fun (w : World) (h : Below W.heap.size W w) => awake15_b w (hE.keep h)
  by_cases hbig : 1024 < n
  · have z1 : decide ((1024 : Int) < (n : Int)) = true := decide_eq_true (by omega)
    go_wp2_with fail
    ((with_reducible refine (ca X hW).mono ?_); rintro e w1 ⟨rfl, hb1⟩)
    go_wp2_with fail
    go_ret
    exact ⟨rfl, below_call hW hb1⟩
  have z1 : decide ((1024 : Int) < (n : Int)) = false := decide_eq_false (by omega)
  by_cases hfew : 50 < kn
  · have z2 : decide ((50 : Int) < (kn : Int)) = true := decide_eq_true (by omega)
    go_wp2_with fail
    ((with_reducible refine (ca X hW).mono ?_); rintro e w1 ⟨rfl, hb1⟩)
    go_wp2_with fail
    go_ret
    exact ⟨rfl, below_call hW hb1⟩
  have z2 : decide ((50 : Int) < (kn : Int)) = false := decide_eq_false (by omega)
  have hps : ps.length ≤ 100000 := by rw [hkn.out]; omega
  have hmx : Tryd.prog.follows .mixedOrders = true := by kernel_rfl
  go_upto_region 3 with fail
  refine wp_onlyN (wp_region_held (S := fun w' => Below X.heap.size X w') hmx ?_)
  show wpAnyH _ _ _ _ _ _ _ _ X.drew
  have hS0 := (Below.refl X.heap.size X).drew
  refine reg_tk (i := 0) (v := .agg #[.int .i64 m.w, .int .i64 m.h, .slice sp n sk]) (some 22) rfl (fun w' hS => by (have c0 := (zm.below hS).cell 0; have c1 := (zm.below hS).cell 1; have c2 := (zm.below hS).cell 2; simp only [List.getElem?_cons_zero, List.getElem?_cons_succ] at c0 c1 c2); go_simp) hS0 ?_
  try simp only [Act.put, List.setIfInBounds_toArray, List.set_cons_zero, List.set_cons_succ]
  refine reg_tk (i := 1) (v := .slice pp kn cp) (some 23) rfl (fun w' hS => by (skip); go_simp) hS0 ?_
  try simp only [Act.put, List.setIfInBounds_toArray, List.set_cons_zero, List.set_cons_succ]
  refine reg_tk (i := 3) (v := .agg #[.int .i64 m.w, .int .i64 m.h, .slice sp n sk]) (some 25) rfl (fun w' hS => by (have c0 := (zm.below hS).cell 0; have c1 := (zm.below hS).cell 1; have c2 := (zm.below hS).cell 2; simp only [List.getElem?_cons_zero, List.getElem?_cons_succ] at c0 c1 c2); go_simp) hS0 ?_
  try simp only [Act.put, List.setIfInBounds_toArray, List.set_cons_zero, List.set_cons_succ]
  refine reg_tk (i := 4) (v := .slice pp kn cp) (some 26) rfl (fun w' hS => by (skip); go_simp) hS0 ?_
  try simp only [Act.put, List.setIfInBounds_toArray, List.set_cons_zero, List.set_cons_succ]
  refine held_one (i := 2) (by kernel_rfl) rfl (fun K hQ => ?_)
  go_simp
  ((with_reducible refine (cltouched_b m sp n sk ps _ _ (hE.keep (below_call hW hS0)) (hr.below (below_call hW hS0)) (hv.below (below_call hW hS0)) hps).mono ?_); rintro e w1 ⟨u1, rfl, hi1, hb1⟩)
  have hS1 := below_call hS0 hb1
  clear hb1
  refine hQ.out _ _ hS1 ?_
  clear hQ
  try simp only [Act.put, List.setIfInBounds_toArray, List.set_cons_zero, List.set_cons_succ]
  refine held_one (i := 5) (by kernel_rfl) rfl (fun K hQ => ?_)
  go_simp
  ((with_reducible refine (rtouched_b m sp n sk ps _ _ (hr.below (below_call hW hS1)) (hv.below (below_call hW hS1)) hps).mono ?_); rintro e w2 ⟨u2, rfl, hi2, hb2⟩)
  have hS2 := below_call hS1 hb2
  refine hQ.out _ _ hS2 ?_
  clear hQ
  try simp only [Act.put, List.setIfInBounds_toArray, List.set_cons_zero, List.set_cons_succ]
  refine reg_tk (i := 6) (v := u1) (some 5) rfl (fun w' hS => by (skip); go_simp) hS2 ?_
  try simp only [Act.put, List.setIfInBounds_toArray, List.set_cons_zero, List.set_cons_succ]
  refine reg_tk (i := 7) (v := u2) (some 6) rfl (fun w' hS => by (skip); go_simp) hS2 ?_
  try simp only [Act.put, List.setIfInBounds_toArray, List.set_cons_zero, List.set_cons_succ]
  refine wpAnyH_done (by kernel_rfl) ?_ _
  try simp only [onlyN]
  replace zm := zm.below hS2
  replace hW := below_call hW hS2
  replace hi1 := hi1.below hb2
  rw [← touched_eq] at hi2
  obtain ⟨D, hD⟩ : ∃ D, Hid (D = touchedv m ps) := ⟨_, hid rfl⟩
  rw [← hD.out] at hi1 hi2
  obtain ⟨p1, c1, rfl, hD2, hg1⟩ := id hi1
  obtain ⟨p2, c2, rfl, _, hg2⟩ := id hi2
  obtain ⟨dn, hdn⟩ : ∃ dn, Hid (D.length = dn) := ⟨_, hid rfl⟩
  rw [hdn.out] at hD2 hg1 hg2 ⊢
  clear hb2 hS2 hi1 hi2 m2
  obtain ⟨U, hU⟩ : ∃ U, U = w2 := ⟨_, rfl⟩
  rw [← hU] at hW zm hg1 hg2 ⊢
  clear hU
  have hUs : ∀ {w : World}, Below U.heap.size U w → Below W.heap.size W w := fun h => below_call hW h
  go_wp2_with fail
  go_loopw [7] (fun vi wr => ∃ i : Nat, vi = .int .i64 i ∧ i ≤ dn ∧ Below U.heap.size U wr) (fun vi _ => dn - (RowKit.intOf vi).toNat)
  case atStart => exact ⟨0, rfl, by omega, Below.refl _ _⟩
  case round =>
    obtain ⟨i, rfl, hi, hb⟩ := hrel
    by_cases hlt : i < dn
    · have y1 : decide ((i : Int) < (dn : Int)) = true := decide_eq_true (by omega)
      have i0 : (0 : Int) ≤ (i : Int) := by omega
      have i1 : (i : Int) < (dn : Int) := by omega
      have nadd : IntKind.i64.wrap ((i : Int) + 1) = ((i + 1 : Nat) : Int) := by rw [IntWalk.i64_in _ (by omega)]; simp
      obtain ⟨q1, rfl, l1, d1⟩ := hg1 (by omega)
      obtain ⟨q2, rfl, l2, d2⟩ := hg2 (by omega)
      have e1 := (hb.cell (p := ⟨q1, i, none⟩) l1).trans (d1 i hlt)
      have e2 := (hb.cell (p := ⟨q2, i, none⟩) l2).trans (d2 i hlt)
      obtain ⟨x, hx⟩ : ∃ x, Hid (x = ga D i) := ⟨_, hid rfl⟩
      rw [← hx.out] at e1 e2
      go_wp2_with fail
      go_quiet (fail)
      go_wp2_with fail
      go_roundw
      case rel => exact ⟨i + 1, by go_num, by omega, below_many hb _⟩
      case measure => simp [RowKit.intOf]; omega
    · obtain rfl : dn = i := by omega
      have y1 : decide ((dn : Int) < (dn : Int)) = false := decide_eq_false (by omega)
      have zm2 := zm.below hb
      have hU2 := hb
      clear zm hb hg2 z1 z2
      go_wp2_with fail
      go_loopw [8] (fun vi wr => ∃ i : Nat, vi = .int .i64 i ∧ i ≤ kn ∧ Below U.heap.size U wr ∧ Blk wr k0 [.int .i64 m.w, .int .i64 m.h, .slice sp n sk] 24) (fun vi _ => kn - (RowKit.intOf vi).toNat)
      case atStart => exact ⟨0, rfl, by omega, hU2, zm2⟩
      case round =>
        clear hU2 zm2
        obtain ⟨i, rfl, hi, hb, zm⟩ := hrel
        have hW2 := hUs hb
        by_cases hlt : i < kn
        · have y2 : decide ((i : Int) < (kn : Int)) = true := decide_eq_true (by omega)
          have i0 : (0 : Int) ≤ (i : Int) := by omega
          have i1 : (i : Int) < (kn : Int) := by omega
          have nadd : IntKind.i64.wrap ((i : Int) + 1) = ((i + 1 : Nat) : Int) := by rw [IntWalk.i64_in _ (by omega)]; simp
          have hmeas : kn - (RowKit.intOf (Value.int .i64 ((i : Int) + 1))).toNat < kn - (RowKit.intOf (Value.int .i64 (i : Int))).toNat := by simp [RowKit.intOf]; omega
          have hil : i < ps.length := by rw [hkn.out]; exact hlt
          obtain ⟨gp, op, rfl, hgl, hpg⟩ := hpc (by rw [hkn.out]; omega)
          obtain ⟨p, hp⟩ : ∃ p, Hid (p = ps[i]'hil) := ⟨_, hid rfl⟩
          obtain ⟨hp1, hp2⟩ := hpg i hil
          rw [← hp.out] at hp1 hp2
          obtain ⟨k, hk⟩ : ∃ k, Hid (k = ofv m p) := ⟨_, hid rfl⟩
          have hmem : 0 ≤ k → ∃ j, j < dn ∧ ga D j = k := fun h => by
            have h1 := touched_of (m := m) (ps := ps) (p := p) (by rw [hp.out]; exact List.getElem_mem hil) (by rw [← hk.out]; exact h)
            rw [← hD.out, ← hk.out] at h1
            obtain ⟨j, hj, e⟩ := List.getElem_of_mem h1
            exact ⟨j, by rw [← hdn.out]; exact hj, by rw [ga_at hj]; exact e⟩
          replace hmem := hid hmem
          have hpc1 : ∀ w' : World, Below wr.heap.size wr w' → w'.cell? ⟨gp, op + i * 2, none⟩ = some (.int .i64 p.1) := fun w' h => ((below_call hW2 h).cell (p := ⟨gp, _, none⟩) hgl).trans hp1
          have hpc2 : ∀ w' : World, Below wr.heap.size wr w' → w'.cell? ⟨gp, op + i * 2 + 1, none⟩ = some (.int .i64 p.2) := fun w' h => ((below_call hW2 h).cell (p := ⟨gp, _, none⟩) hgl).trans hp2
          clear hpg hp1 hp2 hp hil
          have hmx : Tryd.prog.follows .mixedOrders = true := by kernel_rfl
          go_upto_region 14 with fail
          refine wp_onlyN (wp_region_held (S := fun w' => Below wr.heap.size wr w') hmx ?_)
          show wpAnyH _ _ _ _ _ _ _ _ wr.drew
          have hS0 := (Below.refl wr.heap.size wr).drew
          refine reg_tk (i := 0) (v := .agg #[.int .i64 m.w, .int .i64 m.h, .slice sp n sk]) (some 54) rfl (fun w' hS => by (have c0 := (zm.below hS).cell 0; have c1 := (zm.below hS).cell 1; have c2 := (zm.below hS).cell 2; simp only [List.getElem?_cons_zero, List.getElem?_cons_succ] at c0 c1 c2); go_simp) hS0 ?_
          try simp only [Act.put, List.setIfInBounds_toArray, List.set_cons_zero, List.set_cons_succ]
          refine reg_tk (i := 1) (v := .slice (some ⟨gp, op, none⟩) kn cp) (some 55) rfl (fun w' hS => by (skip); go_simp) hS0 ?_
          try simp only [Act.put, List.setIfInBounds_toArray, List.set_cons_zero, List.set_cons_succ]
          refine reg_tk (i := 2) (v := .int .i64 i) (some 56) rfl (fun w' hS => by (skip); go_simp) hS0 ?_
          try simp only [Act.put, List.setIfInBounds_toArray, List.set_cons_zero, List.set_cons_succ]
          refine reg_tk (i := 3) (v := .pointer (some ⟨gp, op + i * 2, none⟩)) (some 57) rfl (fun w' hS => by (skip); go_simp) hS0 ?_
          try simp only [Act.put, List.setIfInBounds_toArray, List.set_cons_zero, List.set_cons_succ]
          refine reg_tk (i := 4) (v := .agg #[.int .i64 p.1, .int .i64 p.2]) (some 58) rfl (fun w' hS => by (have c1 := hpc1 _ hS; have c2 := hpc2 _ hS); go_simp) hS0 ?_
          try simp only [Act.put, List.setIfInBounds_toArray, List.set_cons_zero, List.set_cons_succ]
          refine held_one (i := 5) (by kernel_rfl) rfl (fun K hQ => ?_)
          go_simp
          ((with_reducible refine (clof_b m sp n sk p k _ (hr.below (below_call hW2 hS0)) hk).mono ?_); rintro e w3 ⟨rfl, hb1⟩)
          have hS1 := below_call hS0 hb1
          clear hb1
          refine hQ.out _ _ hS1 ?_
          clear hQ
          try simp only [Act.put, List.setIfInBounds_toArray, List.set_cons_zero, List.set_cons_succ]
          refine reg_tk (i := 6) (v := .int .i64 k) (some 9) rfl (fun w' hS => by (skip); go_simp) hS1 ?_
          try simp only [Act.put, List.setIfInBounds_toArray, List.set_cons_zero, List.set_cons_succ]
          refine wpAnyH_done (by kernel_rfl) ?_ _
          try simp only [onlyN]
          replace zm := zm.below hS1
          replace hb := below_call hb hS1
          clear hS1 hpc1 hpc2 hW2 hS0
          obtain ⟨f0, hf0⟩ : ∃ f0, decide (k < 0) = f0 := ⟨_, rfl⟩
          have hfd : Hid (f0 = false → 0 ≤ k) := hid (fun h => by have := of_decide_eq_false (hf0.trans h); omega)
          go_wp2_with fail
          go_loopw [10, 11] (fun vf vj wr => ∃ (j : Nat) (fb : Bool), vf = .bool fb ∧ vj = .int .i64 j ∧ j ≤ dn ∧ Hid (fb = false → 0 ≤ k ∧ ∀ x, x < j → ga D x ≠ k) ∧ Below U.heap.size U wr ∧ Blk wr k0 [.int .i64 m.w, .int .i64 m.h, .slice sp n sk] 24) (fun _ vj _ => dn - (RowKit.intOf vj).toNat)
          case atStart => exact ⟨0, f0, rfl, rfl, by omega, hid (fun h => ⟨hfd.out h, fun x hx => by omega⟩), hb, zm⟩
          case round =>
            clear hb zm
            obtain ⟨j, fb, rfl, rfl, hj, hfb, hb, zm⟩ := hrel
            by_cases hlj : j < dn
            · have y3 : decide ((j : Int) < (dn : Int)) = true := decide_eq_true (by omega)
              have j0 : (0 : Int) ≤ (j : Int) := by omega
              have j1 : (j : Int) < (dn : Int) := by omega
              have naddj : IntKind.i64.wrap ((j : Int) + 1) = ((j + 1 : Nat) : Int) := by rw [IntWalk.i64_in _ (by omega)]; simp
              have hmeasj : dn - (RowKit.intOf (Value.int .i64 ((j : Int) + 1))).toNat < dn - (RowKit.intOf (Value.int .i64 (j : Int))).toNat := by simp [RowKit.intOf]; omega
              obtain ⟨q1, rfl, l1, d1⟩ := hg1 (by omega)
              have e1 := (hb.cell (p := ⟨q1, j, none⟩) l1).trans (d1 j hlj)
              obtain ⟨x, hx⟩ : ∃ x, Hid (x = ga D j) := ⟨_, hid rfl⟩
              rw [← hx.out] at e1
              cases fb with
              | true =>
                go_wp2_with fail
                have hadd : Value.int .i64 ((j : Int) + 1) = Value.int .i64 ((j + 1 : Nat) : Int) := by push_cast; rfl
                exact ⟨⟨j + 1, true, rfl, hadd, by omega, hid (fun h => by cases h), hb, zm⟩, hmeasj⟩
              | false =>
                obtain ⟨b9, hb9⟩ : ∃ b9, (x == k) = b9 := ⟨_, rfl⟩
                have hN : Hid (b9 = false → 0 ≤ k ∧ ∀ y, y < j + 1 → ga D y ≠ k) := hid (fun h => ⟨(hfb.out rfl).1, fun y hy => by
                  by_cases hyj : y < j
                  · exact (hfb.out rfl).2 y hyj
                  · obtain rfl : y = j := by omega
                    rw [← hx.out]
                    exact fun e => by rw [e, beq_self_eq_true] at hb9; rw [← hb9] at h; cases h⟩)
                clear hfb
                go_wp2_with fail
                have hadd : Value.int .i64 ((j : Int) + 1) = Value.int .i64 ((j + 1 : Nat) : Int) := by push_cast; rfl
                exact ⟨⟨j + 1, b9, rfl, hadd, by omega, hN, hb, zm⟩, hmeasj⟩
            · obtain rfl : dn = j := by omega
              have y3 : decide ((dn : Int) < (dn : Int)) = false := decide_eq_false (by omega)
              cases fb with
              | true =>
                go_wp2_with fail
                have hadd : Value.int .i64 ((i : Int) + 1) = Value.int .i64 ((i + 1 : Nat) : Int) := by push_cast; rfl
                exact ⟨⟨i + 1, hadd, by omega, hb, zm⟩, hmeas⟩
              | false =>
                obtain ⟨g1, g2⟩ := hfb.out rfl
                obtain ⟨x, hx, e⟩ := hmem.out g1
                exact absurd e (g2 x hx)
        · obtain rfl : kn = i := by omega
          have y2 : decide ((kn : Int) < (kn : Int)) = false := decide_eq_false (by omega)
          have caw := ca wr hW2
          go_wp2_with fail
          ((with_reducible refine caw.mono ?_); rintro e w9 ⟨rfl, hb9⟩)
          go_wp2_with fail
          go_ret
          exact ⟨rfl, below_call hW2 hb9⟩

end

section
open Go.RowKit Go.Lib

/-- How many cells the areas below k have. -/
def sumA (w h : Int) : Nat → Int
  | 0 => 0
  | k + 1 => sumA w h k + min 8 (w - (k : Int) % sqc w * 8) * min 8 (h - (k : Int) / sqc w * 8)
theorem sum_fin : ∀ w : Fin 32, ∀ h : Fin 32, sumA (((w.val + 1 : Nat)) : Int) ((h.val + 1 : Nat) : Int) (sqc ((w.val + 1 : Nat) : Int) * sqc ((h.val + 1 : Nat) : Int)).toNat = ((w.val + 1 : Nat) : Int) * ((h.val + 1 : Nat) : Int) := by decide +kernel
theorem sum_all {m : M3} (hf : formedv m = true) : sumA m.w m.h (sqc m.w * sqc m.h).toNat = m.w * m.h := by
  obtain ⟨_, _, s1, s2, s3, s4⟩ := col_num hf
  have h := sum_fin ⟨(m.w - 1).toNat, by omega⟩ ⟨(m.h - 1).toNat, by omega⟩
  rw [show (((m.w - 1).toNat + 1 : Nat) : Int) = m.w by omega, show (((m.h - 1).toNat + 1 : Nat) : Int) = m.h by omega] at h
  exact h
theorem rins_q (r : R4) (p : Pt) (b : Bool) (W : World) (e : Hid (b = insv r p.1 p.2)) : Calls Tryd.prog 23 #[.agg #[.int .i64 r.x, .int .i64 r.y, .int .i64 r.w, .int .i64 r.h], .agg #[.int .i64 p.1, .int .i64 p.2]] W fun e w' => e = .returned (.bool b) ∧ Below W.heap.size W w' := by
  rw [e.out]; exact rins_x r.x r.y r.w r.h p.1 p.2 W

set_option maxRecDepth 100000 in
set_option maxHeartbeats 8000000 in
theorem law15_parts (m : M3) (s : Value) (p : Pt) (W : World) (hE : EnvT W) (hr : RowAt W s m.cs) :
    Calls Tryd.prog 7 #[.agg #[.int .i64 m.w, .int .i64 m.h, s], .agg #[.int .i64 p.1, .int .i64 p.2]] W fun e w' => e = .returned (.bool true) ∧ Below W.heap.size W w' := by
  have hmx : Tryd.prog.follows .mixedOrders = true := by kernel_rfl
  obtain ⟨sp, sk, rfl⟩ := hr.slice
  obtain ⟨n, hn⟩ : ∃ n, Hid (n = m.cs.length) := ⟨_, hid rfl⟩
  rw [← hn.out] at hr ⊢
  obtain ⟨b1, h1⟩ : ∃ b1, Hid (b1 = validm m) := ⟨_, hid rfl⟩
  obtain ⟨b2, h2⟩ : ∃ b2, Hid (b2 = inv m.w m.h p.1 p.2) := ⟨_, hid rfl⟩
  obtain ⟨q, hq⟩ : ∃ q, Hid (q = ofv m p) := ⟨_, hid rfl⟩
  obtain ⟨t, ht⟩ : ∃ t, Hid (t = countv m) := ⟨_, hid rfl⟩
  have hT := Held2.start W [.int .i64 m.w, .int .i64 m.h, .slice sp n sk] [.int .i64 p.1, .int .i64 p.2] 24 26
  obtain ⟨k0, ek⟩ : ∃ k0, Hid (k0 = W.heap.size) := ⟨_, hid rfl⟩
  obtain ⟨k1, ek1⟩ : ∃ k1, Hid (k1 = W.heap.size + 1) := ⟨_, hid rfl⟩
  go_enter Tryd.func7, Tryd.ntmps7
  go_upto_region 1 with fail
  obtain ⟨X, hX⟩ : ∃ X, X = (W.alloc (.cells [Value.int .i64 m.w, .int .i64 m.h, .slice sp n sk].toArray 24)).alloc (.cells [Value.int .i64 p.1, .int .i64 p.2].toArray 26) := ⟨_, rfl⟩
  rw [← hX] at hT ⊢
  clear hX
  have zm := hT.l.at ek.out.symm
  have zp := hT.r.at ek1.out.symm
  have hW := hT.old
  rw [← ek1.out]
  rw [← ek.out]
  clear hT
  have ca := fun (w : World) (h : Below W.heap.size W w) => awake15_b w (hE.keep h)
  have m0 := zm.cell 0
  have m1 := zm.cell 1
  have m2 := zm.cell 2
  simp only [List.getElem?_cons_zero, List.getElem?_cons_succ] at m0 m1 m2
  by_cases hbig : 1024 < n
  · have z1 : decide ((1024 : Int) < (n : Int)) = true := decide_eq_true (by omega)
    go_wp2_with fail
    ((with_reducible refine (ca _ hW).mono ?_); rintro e w9 ⟨rfl, hb9⟩)
    go_wp2_with fail
    go_ret
    exact ⟨rfl, below_call hW hb9⟩
  have z1 : decide ((1024 : Int) < (n : Int)) = false := decide_eq_false (by omega)
  go_wp2_with fail
  ((with_reducible refine (rvalidm_c m (.slice sp n sk) b1 X (hr.below hW) h1).mono ?_); rintro e w1 ⟨rfl, hb1⟩)
  replace zm := zm.below hb1
  replace zp := zp.below hb1
  replace hW := below_call hW hb1
  clear hb1 m0 m1 m2
  cases b1 with
  | false =>
    go_wp2_with fail
    ((with_reducible refine (ca _ hW).mono ?_); rintro e w9 ⟨rfl, hb9⟩)
    go_wp2_with fail
    go_ret
    exact ⟨rfl, below_call hW hb9⟩
  | true =>
    have m0 := zm.cell 0
    have m1 := zm.cell 1
    have p0 := zp.cell 0
    have p1 := zp.cell 1
    simp only [List.getElem?_cons_zero, List.getElem?_cons_succ] at m0 m1 p0 p1
    go_wp2_with fail
    ((with_reducible refine (rin_b m.w m.h p.1 p.2 b2 w1 h2).mono ?_); rintro e w2 ⟨rfl, hb2⟩)
    replace zm := zm.below hb2
    replace zp := zp.below hb2
    replace hW := below_call hW hb2
    clear hb2 m0 m1 p0 p1
    cases b2 with
    | false =>
      go_wp2_with fail
      ((with_reducible refine (ca _ hW).mono ?_); rintro e w9 ⟨rfl, hb9⟩)
      go_wp2_with fail
      go_ret
      exact ⟨rfl, below_call hW hb9⟩
    | true =>
    have hv := h1.out.symm
    have hin : insp m p = true := h2.out.symm
    have hf := valid_formed hv
    obtain ⟨⟨c1, c2, c3, c4⟩, ⟨d1, d2, d3, d4⟩, s1, s2, s3, s4⟩ := col_num hf
    have ht2 : t = sqc m.w * sqc m.h := by rw [ht.out]; unfold countv; rw [if_pos hv]
    have hnl : (n : Int) = m.w * m.h := by
      obtain ⟨X1, Y1, e1, e2, _, _, _, _, hl, _⟩ := formed_num hf
      rw [hn.out, hl, e1, e2]; push_cast; rfl
    have ht16 : 0 ≤ t ∧ t ≤ 16 := by
      rw [ht2]
      exact ⟨Int.mul_nonneg (by omega) (by omega), Int.mul_le_mul (c := 4) (d := 4) (by omega) (by omega) (by omega) (by omega)⟩
    have htn : t ≤ (n : Int) := by
      rw [ht2, hnl]
      exact Int.mul_le_mul (by omega) (by omega) (by omega) (by omega)
    obtain ⟨hqx, hq0⟩ := of_ex hv hin
    rw [← hq.out] at hqx hq0
    have hqt : q < t := by
      unfold exv at hqx
      rw [← ht.out] at hqx
      exact (of_decide_eq_true hqx).2
    have hsum := sum_all hf
    rw [← ht2] at hsum
    have hwh : IntKind.i64.wrap (m.w * m.h) = m.w * m.h := IntWalk.i64_in _ (by have := Int.mul_le_mul (c := 32) (d := 32) s2 s4 (by omega) (by omega); have := Int.mul_nonneg (show 0 ≤ m.w by omega) (show 0 ≤ m.h by omega); omega)
    have zc : decide ((n : Int) < t) = false := decide_eq_false (by omega)
    obtain ⟨tn, htn2⟩ : ∃ tn : Nat, Hid (t = tn) := ⟨t.toNat, hid (by omega)⟩
    have htn16 : tn ≤ 16 := by have := htn2.out; omega
    replace hsum := hid hsum
    clear ht2 hnl htn hqx c1 c2 c3 c4 d1 d2 d3 d4
    go_wp2_with fail
    have hmx : Tryd.prog.follows .mixedOrders = true := by kernel_rfl
    go_upto_region 4 with fail
    refine wp_onlyN (wp_region_held (S := fun w' => Below w2.heap.size w2 w') hmx ?_)
    show wpAnyH _ _ _ _ _ _ _ _ w2.drew
    have hS0 := (Below.refl w2.heap.size w2).drew
    refine reg_tk (i := 0) (v := .agg #[.int .i64 m.w, .int .i64 m.h, .slice sp n sk]) (some 29) rfl (fun w' hS => by (have c0 := (zm.below hS).cell 0; have c1 := (zm.below hS).cell 1; have c2 := (zm.below hS).cell 2; simp only [List.getElem?_cons_zero, List.getElem?_cons_succ] at c0 c1 c2); go_simp) hS0 ?_
    try simp only [Act.put, List.setIfInBounds_toArray, List.set_cons_zero, List.set_cons_succ]
    refine reg_tk (i := 2) (v := .pointer (some ⟨k0, 2, none⟩)) (some 31) rfl (fun w' hS => by (skip); go_simp) hS0 ?_
    try simp only [Act.put, List.setIfInBounds_toArray, List.set_cons_zero, List.set_cons_succ]
    refine reg_tk (i := 3) (v := .slice sp n sk) (some 32) rfl (fun w' hS => by (have c2 := (zm.below hS).cell 2; simp only [List.getElem?_cons_zero, List.getElem?_cons_succ] at c2); go_simp) hS0 ?_
    try simp only [Act.put, List.setIfInBounds_toArray, List.set_cons_zero, List.set_cons_succ]
    refine reg_tk (i := 4) (v := .int .i64 n) (some 33) rfl (fun w' hS => by (skip); go_simp) hS0 ?_
    try simp only [Act.put, List.setIfInBounds_toArray, List.set_cons_zero, List.set_cons_succ]
    refine held_one (i := 1) (by kernel_rfl) rfl (fun K hQ => ?_)
    go_simp
    ((with_reducible refine (clcount_b m sp n sk t _ (hr.below (below_call hW hS0)) ht).mono ?_); rintro e w3 ⟨rfl, hb1⟩)
    have hS1 := below_call hS0 hb1
    clear hb1
    refine hQ.out _ _ hS1 ?_
    clear hQ
    try simp only [Act.put, List.setIfInBounds_toArray, List.set_cons_zero, List.set_cons_succ]
    refine reg_tk (i := 5) (v := .bool false) (some 34) rfl (fun w' hS => by (have z := zc); go_simp) hS1 ?_
    try simp only [Act.put, List.setIfInBounds_toArray, List.set_cons_zero, List.set_cons_succ]
    refine wpAnyH_done (by kernel_rfl) ?_ _
    try simp only [onlyN]
    replace zm := zm.below hS1
    replace zp := zp.below hS1
    replace hW := below_call hW hS1
    clear hS1 zc
    go_wp2_with fail
    go_loopw [5, 6, 7] (fun vn vc vk wr => ∃ (k : Nat) (cc nv : Int), vk = .int .i64 k ∧ k ≤ tn ∧ vn = .int .i64 nv ∧ vc = .int .i64 cc ∧ Hid (nv = if q < (k : Int) then 1 else 0) ∧ (0 ≤ nv ∧ nv ≤ 1) ∧ Hid (cc = sumA m.w m.h k) ∧ 0 ≤ cc ∧ cc ≤ 64 * k ∧ Blk wr k0 [.int .i64 m.w, .int .i64 m.h, .slice sp n sk] 24 ∧ Blk wr k1 (ptL p) 26 ∧ Below W.heap.size W wr) (fun _ _ vk _ => tn - (RowKit.intOf vk).toNat)
    case atStart => exact ⟨0, 0, 0, rfl, by omega, rfl, rfl, hid (by rw [if_neg (by omega)]), by omega, hid rfl, by omega, by omega, zm, zp, hW⟩
    case round =>
      clear zm zp hW
      obtain ⟨k, cc, nv, rfl, hk, rfl, rfl, hnv, hnb, hcc, hc0, hc1, zm, zp, hW⟩ := hrel
      have m0 := zm.cell 0
      have m1 := zm.cell 1
      have m2 := zm.cell 2
      simp only [List.getElem?_cons_zero, List.getElem?_cons_succ] at m0 m1 m2
      have cct := clcount_b m sp n sk t wr (hr.below hW) ht
      go_wp2_with fail
      ((with_reducible refine cct.mono ?_); rintro e w4 ⟨rfl, hb4⟩)
      replace zm := zm.below hb4
      replace zp := zp.below hb4
      replace hW := below_call hW hb4
      clear hb4 m0 m1 m2 cct
      by_cases hlt : k < tn
      · have z9 : decide ((k : Int) < t) = true := decide_eq_true (by have := htn2.out; omega)
        have hx : exv m k = true := by
          unfold exv
          rw [← ht.out]
          exact decide_eq_true (by have := htn2.out; omega)
        have okr := ar_ok hx
        have hof := of_area hx hin
        rw [← hq.out] at hof
        obtain ⟨r, hra⟩ : ∃ r, Hid (r = areav m k) := ⟨_, hid rfl⟩
        have er : r = arv m k := by rw [hra.out, ar_val hx]
        rw [← er] at okr hof
        have hsz : sumA m.w m.h (k + 1) = cc + r.w * r.h := by rw [hcc.out, er]; rfl
        replace hsz := hid hsz
        obtain ⟨rx, ry, rw1, rh1, rw8, rh8, rxw, ryh⟩ := okr
        have hrr : 1 ≤ r.w * r.h ∧ r.w * r.h ≤ 64 := ⟨Int.mul_le_mul (a := 1) (b := 1) rw1 rh1 (by omega) (by omega), Int.mul_le_mul (c := 8) (d := 8) rw8 rh8 (by omega) (by omega)⟩
        obtain ⟨bi, hri⟩ : ∃ bi, Hid (bi = insv r p.1 p.2) := ⟨_, hid rfl⟩
        have hbi : (q == (k : Int)) = bi := by
          rw [hri.out]
          cases hc : insv r p.1 p.2 with
          | true => exact beq_iff_eq.2 (hof.1 hc)
          | false => exact beq_eq_false_iff_ne.2 (fun e => by rw [hof.2 e] at hc; cases hc)
        clear hof er rx ry rxw ryh
        have v1 : decide (r.w < 1) = false := decide_eq_false (by omega)
        have v2 : decide (r.h < 1) = false := decide_eq_false (by omega)
        have v3 : decide (8 < r.w) = false := decide_eq_false (by omega)
        have v4 : decide (8 < r.h) = false := decide_eq_false (by omega)
        have g1 : IntKind.i64.wrap (r.w * r.h) = r.w * r.h := IntWalk.i64_in _ (by omega)
        have g2 : IntKind.i64.wrap (cc + r.w * r.h) = cc + r.w * r.h := IntWalk.i64_in _ (by omega)
        have nadd : IntKind.i64.wrap ((k : Int) + 1) = ((k + 1 : Nat) : Int) := by rw [IntWalk.i64_in _ (by omega)]; simp
        have hmeas : tn - (RowKit.intOf (Value.int .i64 ((k : Int) + 1))).toNat < tn - (RowKit.intOf (Value.int .i64 (k : Int))).toNat := by simp [RowKit.intOf]; omega
        have m0 := zm.cell 0
        have m1 := zm.cell 1
        have m2 := zm.cell 2
        simp only [List.getElem?_cons_zero, List.getElem?_cons_succ] at m0 m1 m2
        have cra := clarea_b m sp n sk k r true w4 (hr.below hW) (hid hx.symm) hra
        go_wp2_with fail
        ((with_reducible refine cra.mono ?_); rintro e w5 ⟨rfl, hb5⟩)
        have hb6 := hb5.alloc hb5.size (.cells ([.int .i64 r.x, .int .i64 r.y, .int .i64 r.w, .int .i64 r.h] : List Value).toArray 29)
        have zr := Blk.new w5 [.int .i64 r.x, .int .i64 r.y, .int .i64 r.w, .int .i64 r.h] 29
        go_upto_region 10 with fail
        obtain ⟨V5, hX⟩ : ∃ Y, Y = w5.alloc (.cells #[Value.int .i64 r.x, .int .i64 r.y, .int .i64 r.w, .int .i64 r.h] 29) := ⟨_, rfl⟩
        rw [← hX]
        rw [show w5.alloc (.cells ([.int .i64 r.x, .int .i64 r.y, .int .i64 r.w, .int .i64 r.h] : List Value).toArray 29) = V5 from hX.symm] at hb6 zr
        replace zm := zm.below hb6
        replace zp := zp.below hb6
        replace hW := below_call hW hb6
        obtain ⟨k2, ek2⟩ : ∃ q, Hid (q = w5.heap.size) := ⟨_, hid rfl⟩
        rw [← ek2.out] at zr ⊢
        clear hX hb5 hb6 m0 m1 m2 cra ek2
        have r0 := zr.cell 0
        have r1 := zr.cell 1
        have r2 := zr.cell 2
        have r3 := zr.cell 3
        have p0 := zp.cell 0
        have p1 := zp.cell 1
        simp only [List.getElem?_cons_zero, List.getElem?_cons_succ] at r0 r1 r2 r3 p0 p1
        have cri := rins_q r p bi V5 hri
        go_wp2_with fail
        ((with_reducible refine cri.mono ?_); rintro e w6 ⟨rfl, hb6⟩)
        replace zm := zm.below hb6
        replace zp := zp.below hb6
        replace zr := zr.below hb6
        replace hW := below_call hW hb6
        have hsz2 : Hid (cc + r.w * r.h = sumA m.w m.h (k + 1)) := hid hsz.out.symm
        have hq2 : bi = true ↔ q = (k : Int) := by rw [← hbi]; exact beq_iff_eq
        clear hb6 r0 r1 r2 r3 p0 p1 cri v1 v2 v3 v4 hsz hcc
        obtain ⟨x, hxx⟩ : ∃ x, Hid (x = r.w * r.h) := ⟨_, hid rfl⟩
        cases bi with
        | false =>
          have hnq : Hid (nv = if q < ((k + 1 : Nat) : Int) then 1 else 0) := hid (by
            have h9 : ¬ q = (k : Int) := fun e => by have := hq2.2 e; cases this
            rw [hnv.out]
            by_cases h : q < (k : Int)
            · rw [if_pos h, if_pos (by push_cast; omega)]
            · rw [if_neg h, if_neg (by push_cast; omega)])
          clear hq2 hnv
          have hmx : Tryd.prog.follows .mixedOrders = true := by kernel_rfl
          go_upto_region 15 with fail
          refine wp_onlyN (wp_region_held (S := fun w' => Below w6.heap.size w6 w') hmx ?_)
          show wpAnyH _ _ _ _ _ _ _ _ w6.drew
          have hS0 := (Below.refl w6.heap.size w6).drew
          refine reg_tk (i := 0) (v := .agg #[.int .i64 r.x, .int .i64 r.y, .int .i64 r.w, .int .i64 r.h]) (some 81) rfl (fun w' hS => by (have c0 := (zr.below hS).cell 0; have c1 := (zr.below hS).cell 1; have c2 := (zr.below hS).cell 2; have c3 := (zr.below hS).cell 3; simp only [List.getElem?_cons_zero, List.getElem?_cons_succ] at c0 c1 c2 c3); go_simp) hS0 ?_
          try simp only [Act.put, List.setIfInBounds_toArray, List.set_cons_zero, List.set_cons_succ]
          refine reg_tk (i := 1) (v := .agg #[.int .i64 p.1, .int .i64 p.2]) (some 82) rfl (fun w' hS => by (have c0 := (zp.below hS).cell 0; have c1 := (zp.below hS).cell 1; simp only [List.getElem?_cons_zero, List.getElem?_cons_succ] at c0 c1); go_simp) hS0 ?_
          try simp only [Act.put, List.setIfInBounds_toArray, List.set_cons_zero, List.set_cons_succ]
          refine reg_tk (i := 3) (v := .agg #[.int .i64 m.w, .int .i64 m.h, .slice sp n sk]) (some 84) rfl (fun w' hS => by (have c0 := (zm.below hS).cell 0; have c1 := (zm.below hS).cell 1; have c2 := (zm.below hS).cell 2; simp only [List.getElem?_cons_zero, List.getElem?_cons_succ] at c0 c1 c2); go_simp) hS0 ?_
          try simp only [Act.put, List.setIfInBounds_toArray, List.set_cons_zero, List.set_cons_succ]
          refine reg_tk (i := 4) (v := .agg #[.int .i64 p.1, .int .i64 p.2]) (some 85) rfl (fun w' hS => by (have c0 := (zp.below hS).cell 0; have c1 := (zp.below hS).cell 1; simp only [List.getElem?_cons_zero, List.getElem?_cons_succ] at c0 c1); go_simp) hS0 ?_
          try simp only [Act.put, List.setIfInBounds_toArray, List.set_cons_zero, List.set_cons_succ]
          refine reg_tk (i := 6) (v := .int .i64 k) (some 87) rfl (fun w' hS => by (skip); go_simp) hS0 ?_
          try simp only [Act.put, List.setIfInBounds_toArray, List.set_cons_zero, List.set_cons_succ]
          refine held_one (i := 2) (by kernel_rfl) rfl (fun K hQ => ?_)
          go_simp
          ((with_reducible refine (rins_q r p false _ hri).mono ?_); rintro e w7 ⟨rfl, hb1⟩)
          have hS1 := below_call hS0 hb1
          clear hb1
          refine hQ.out _ _ hS1 ?_
          clear hQ
          try simp only [Act.put, List.setIfInBounds_toArray, List.set_cons_zero, List.set_cons_succ]
          refine held_one (i := 5) (by kernel_rfl) rfl (fun K hQ => ?_)
          go_simp
          ((with_reducible refine (clof_b m sp n sk p q _ (hr.below (below_call hW hS1)) hq).mono ?_); rintro e w8 ⟨rfl, hb1⟩)
          have hS2 := below_call hS1 hb1
          clear hb1
          refine hQ.out _ _ hS2 ?_
          clear hQ
          try simp only [Act.put, List.setIfInBounds_toArray, List.set_cons_zero, List.set_cons_succ]
          refine reg_tk (i := 7) (v := .bool false) (some 88) rfl (fun w' hS => by (have z := hbi); go_simp) hS2 ?_
          try simp only [Act.put, List.setIfInBounds_toArray, List.set_cons_zero, List.set_cons_succ]
          refine reg_tk (i := 8) (v := .bool false) (some 89) rfl (fun w' hS => by (skip); go_simp) hS2 ?_
          try simp only [Act.put, List.setIfInBounds_toArray, List.set_cons_zero, List.set_cons_succ]
          refine wpAnyH_done (by kernel_rfl) ?_ _
          try simp only [onlyN]
          replace zm := zm.below hS2
          replace zp := zp.below hS2
          replace hW := below_call hW hS2
          go_wp2_with fail
          have hadd : Value.int .i64 ((k : Int) + 1) = Value.int .i64 ((k + 1 : Nat) : Int) := by push_cast; rfl
          exact ⟨⟨k + 1, cc + r.w * r.h, nv, hadd, by omega, rfl, rfl, hnq, by omega, hsz2, by omega, by push_cast; omega, zm, zp, hW⟩, hmeas⟩
        | true =>
          have h9 : q = (k : Int) := hq2.1 rfl
          have hn0 : nv = 0 := by rw [hnv.out, if_neg (by omega)]
          have hnq : Hid ((1 : Int) = if q < ((k + 1 : Nat) : Int) then 1 else 0) := hid (by rw [if_pos (by push_cast; omega)])
          have hw9 : IntKind.i64.wrap (nv + 1) = 1 := by rw [hn0]; decide
          replace h9 := hid h9
          replace hn0 := hid hn0
          clear hq2 hnv
          have hmx : Tryd.prog.follows .mixedOrders = true := by kernel_rfl
          go_upto_region 15 with fail
          refine wp_onlyN (wp_region_held (S := fun w' => Below w6.heap.size w6 w') hmx ?_)
          show wpAnyH _ _ _ _ _ _ _ _ w6.drew
          have hS0 := (Below.refl w6.heap.size w6).drew
          refine reg_tk (i := 0) (v := .agg #[.int .i64 r.x, .int .i64 r.y, .int .i64 r.w, .int .i64 r.h]) (some 81) rfl (fun w' hS => by (have c0 := (zr.below hS).cell 0; have c1 := (zr.below hS).cell 1; have c2 := (zr.below hS).cell 2; have c3 := (zr.below hS).cell 3; simp only [List.getElem?_cons_zero, List.getElem?_cons_succ] at c0 c1 c2 c3); go_simp) hS0 ?_
          try simp only [Act.put, List.setIfInBounds_toArray, List.set_cons_zero, List.set_cons_succ]
          refine reg_tk (i := 1) (v := .agg #[.int .i64 p.1, .int .i64 p.2]) (some 82) rfl (fun w' hS => by (have c0 := (zp.below hS).cell 0; have c1 := (zp.below hS).cell 1; simp only [List.getElem?_cons_zero, List.getElem?_cons_succ] at c0 c1); go_simp) hS0 ?_
          try simp only [Act.put, List.setIfInBounds_toArray, List.set_cons_zero, List.set_cons_succ]
          refine reg_tk (i := 3) (v := .agg #[.int .i64 m.w, .int .i64 m.h, .slice sp n sk]) (some 84) rfl (fun w' hS => by (have c0 := (zm.below hS).cell 0; have c1 := (zm.below hS).cell 1; have c2 := (zm.below hS).cell 2; simp only [List.getElem?_cons_zero, List.getElem?_cons_succ] at c0 c1 c2); go_simp) hS0 ?_
          try simp only [Act.put, List.setIfInBounds_toArray, List.set_cons_zero, List.set_cons_succ]
          refine reg_tk (i := 4) (v := .agg #[.int .i64 p.1, .int .i64 p.2]) (some 85) rfl (fun w' hS => by (have c0 := (zp.below hS).cell 0; have c1 := (zp.below hS).cell 1; simp only [List.getElem?_cons_zero, List.getElem?_cons_succ] at c0 c1); go_simp) hS0 ?_
          try simp only [Act.put, List.setIfInBounds_toArray, List.set_cons_zero, List.set_cons_succ]
          refine reg_tk (i := 6) (v := .int .i64 k) (some 87) rfl (fun w' hS => by (skip); go_simp) hS0 ?_
          try simp only [Act.put, List.setIfInBounds_toArray, List.set_cons_zero, List.set_cons_succ]
          refine held_one (i := 2) (by kernel_rfl) rfl (fun K hQ => ?_)
          go_simp
          ((with_reducible refine (rins_q r p true _ hri).mono ?_); rintro e w7 ⟨rfl, hb1⟩)
          have hS1 := below_call hS0 hb1
          clear hb1
          refine hQ.out _ _ hS1 ?_
          clear hQ
          try simp only [Act.put, List.setIfInBounds_toArray, List.set_cons_zero, List.set_cons_succ]
          refine held_one (i := 5) (by kernel_rfl) rfl (fun K hQ => ?_)
          go_simp
          ((with_reducible refine (clof_b m sp n sk p q _ (hr.below (below_call hW hS1)) hq).mono ?_); rintro e w8 ⟨rfl, hb1⟩)
          have hS2 := below_call hS1 hb1
          clear hb1
          refine hQ.out _ _ hS2 ?_
          clear hQ
          try simp only [Act.put, List.setIfInBounds_toArray, List.set_cons_zero, List.set_cons_succ]
          refine reg_tk (i := 7) (v := .bool true) (some 88) rfl (fun w' hS => by (have z := hbi); go_simp) hS2 ?_
          try simp only [Act.put, List.setIfInBounds_toArray, List.set_cons_zero, List.set_cons_succ]
          refine reg_tk (i := 8) (v := .bool false) (some 89) rfl (fun w' hS => by (skip); go_simp) hS2 ?_
          try simp only [Act.put, List.setIfInBounds_toArray, List.set_cons_zero, List.set_cons_succ]
          refine wpAnyH_done (by kernel_rfl) ?_ _
          try simp only [onlyN]
          replace zm := zm.below hS2
          replace zp := zp.below hS2
          replace hW := below_call hW hS2
          go_wp2_with fail
          have hadd : Value.int .i64 ((k : Int) + 1) = Value.int .i64 ((k + 1 : Nat) : Int) := by push_cast; rfl
          exact ⟨⟨k + 1, cc + r.w * r.h, 1, hadd, by omega, rfl, rfl, hnq, by omega, hsz2, by omega, by push_cast; omega, zm, zp, hW⟩, hmeas⟩
      · obtain rfl : tn = k := by omega
        have z9 : decide ((tn : Int) < t) = false := decide_eq_false (by have := htn2.out; omega)
        have hn1 : nv = 1 := by rw [hnv.out, if_pos (by have := htn2.out; omega)]
        have hcs : cc = m.w * m.h := by rw [hcc.out, ← hsum.out, htn2.out]; rfl
        have z5 : (nv == 1) = true := beq_iff_eq.2 hn1
        have z6 : (cc == m.w * m.h) = true := beq_iff_eq.2 hcs
        have m0 := zm.cell 0
        have m1 := zm.cell 1
        simp only [List.getElem?_cons_zero, List.getElem?_cons_succ] at m0 m1
        have caw := ca w4 hW
        clear hn1 hcs hnv hcc
        go_wp2_with fail
        ((with_reducible refine caw.mono ?_); rintro e w9 ⟨rfl, hb9⟩)
        go_wp2_with fail
        go_ret
        exact ⟨rfl, below_call hW hb9⟩

end

end Go.Proofs.YtpgchjhfhndaaaaDoor
