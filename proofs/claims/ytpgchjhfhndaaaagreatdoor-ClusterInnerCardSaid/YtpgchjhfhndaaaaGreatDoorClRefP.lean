/-
  What the reference of cluster answers: numbers, areas, Touched.
-/
import Derived.Test.YtpgchjhfhndaaaaGreatDoorClLandP
import Derived.Test.YtpgchjhfhndaaaaGreatDoorTerRefB
import Derived.Test.YtpgchjhfhndaaaaGreatDoorClLandQ
namespace Go.Proofs.YtpgchjhfhndaaaaGreatDoor

section
open Go.RowKit Go.Lib

set_option maxHeartbeats 1000000 in
theorem rcol_b (m : M3) (sp : Option Addr) (sn sk : Nat) (q : Int) (W : World) (h0 : 0 ≤ m.w) (h1 : m.w ≤ 1000) (e : Hid (q = sqc m.w)) : Calls Tryz.prog 110 #[.agg #[.int .i64 m.w, .int .i64 m.h, .slice sp sn sk]] W fun e w' => e = .returned (.int .i64 q) ∧ Below W.heap.size W w' := by
  have s1 : IntKind.i64.wrap (m.w + 8) = m.w + 8 := IntWalk.i64_in _ (by omega)
  have s2 : IntKind.i64.wrap (m.w + 8 - 1) = m.w + 7 := by rw [IntWalk.i64_in _ (by omega)]; omega
  have s3 : (m.w + 7).tdiv 8 = q := by rw [e.out]; unfold sqc; exact Int.tdiv_eq_ediv_of_nonneg (by omega)
  have hq : 0 ≤ q ∧ q ≤ 1000 := by rw [e.out]; unfold sqc; omega
  have s4 : wrap64 q = q := IntWalk.wrap64_in _ (by omega)
  have s5 : IntKind.i64.wrap q = q := IntWalk.i64_in _ (by omega)
  have hT := Held1.start W [.int .i64 m.w, .int .i64 m.h, .slice sp sn sk] 24
  obtain ⟨k0, ek⟩ : ∃ k0, Hid (k0 = W.heap.size) := ⟨_, hid rfl⟩
  clear e
  go_enter Tryz.func110, Tryz.ntmps110
  go_upto_region 1 with fail
  obtain ⟨X, hX⟩ : ∃ X, X = W.alloc (.cells [Value.int .i64 m.w, .int .i64 m.h, .slice sp sn sk].toArray 24) := ⟨_, rfl⟩
  rw [← hX] at hT ⊢
  clear hX
  have zm := hT.l.at ek.out.symm
  have hW := hT.old
  rw [← ek.out]
  clear hT
  have m0 := zm.cell 0
  simp only [List.getElem?_cons_zero] at m0
  go_wp2_with fail
  go_ret
  exact ⟨rfl, hW⟩

set_option maxRecDepth 100000 in
set_option maxHeartbeats 4000000 in
theorem rcount_b (m : M3) (sp : Option Addr) (sn sk : Nat) (n : Int) (W : World) (hr : RowAt W (.slice sp sn sk) m.cs) (e : Hid (n = countv m)) : Calls Tryz.prog 106 #[.agg #[.int .i64 m.w, .int .i64 m.h, .slice sp sn sk]] W fun e w' => e = .returned (.int .i64 n) ∧ Below W.heap.size W w' := by
  obtain ⟨b1, h1⟩ : ∃ b1, Hid (b1 = validm m) := ⟨_, hid rfl⟩
  have hT := Held1.start W [.int .i64 m.w, .int .i64 m.h, .slice sp sn sk] 24
  obtain ⟨k0, ek⟩ : ∃ k0, Hid (k0 = W.heap.size) := ⟨_, hid rfl⟩
  go_enter Tryz.func106, Tryz.ntmps106
  go_upto_region 1 with fail
  obtain ⟨X, hX⟩ : ∃ X, X = W.alloc (.cells [Value.int .i64 m.w, .int .i64 m.h, .slice sp sn sk].toArray 24) := ⟨_, rfl⟩
  rw [← hX] at hT ⊢
  clear hX
  have zm := hT.l.at ek.out.symm
  have hW := hT.old
  rw [← ek.out]
  clear hT
  have m0 := zm.cell 0
  have m1 := zm.cell 1
  have m2 := zm.cell 2
  simp only [List.getElem?_cons_zero, List.getElem?_cons_succ] at m0 m1 m2
  go_wp2_with fail
  ((with_reducible refine (rvalidm_c m (.slice sp sn sk) b1 X (hr.below hW) h1).mono ?_); rintro e w1 ⟨rfl, hb1⟩)
  replace zm := zm.below hb1
  replace hW := below_call hW hb1
  clear hb1 m0 m1 m2
  cases b1 with
  | false =>
    obtain rfl : n = 0 := by rw [e.out]; unfold countv; rw [if_neg (by rw [← h1.out]; decide)]
    clear e
    go_wp2_with fail
    go_ret
    exact ⟨rfl, hW⟩
  | true =>
    obtain ⟨cw, hcw⟩ : ∃ q, Hid (q = sqc m.w) := ⟨_, hid rfl⟩
    obtain ⟨ch, hch⟩ : ∃ q, Hid (q = sqc m.h) := ⟨_, hid rfl⟩
    obtain ⟨⟨c1, c2, _, _⟩, ⟨d1, d2, _, _⟩, s1, s2, s3, s4⟩ := col_num (valid_formed h1.out.symm)
    rw [← hcw.out] at c1 c2
    rw [← hch.out] at d1 d2
    obtain rfl : n = cw * ch := by rw [e.out, hcw.out, hch.out]; unfold countv; rw [if_pos h1.out.symm]
    have hb : 0 ≤ cw * ch ∧ cw * ch ≤ 16 := ⟨Int.mul_nonneg (by omega) (by omega), Int.mul_le_mul (c := 4) (d := 4) (by omega) (by omega) (by omega) (by omega)⟩
    have hmul : IntKind.i64.wrap (cw * ch) = cw * ch := IntWalk.i64_in _ (by omega)
    have g1 : IntKind.i64.wrap (m.h + 8) = m.h + 8 := IntWalk.i64_in _ (by omega)
    have g2 : IntKind.i64.wrap (m.h + 8 - 1) = m.h + 7 := by rw [IntWalk.i64_in _ (by omega)]; omega
    have g3 : (m.h + 7).tdiv 8 = ch := by rw [hch.out]; unfold sqc; exact Int.tdiv_eq_ediv_of_nonneg (by omega)
    have g4 : wrap64 ch = ch := IntWalk.wrap64_in _ (by omega)
    have g5 : IntKind.i64.wrap ch = ch := IntWalk.i64_in _ (by omega)
    clear e
    have hmx : Tryz.prog.follows .mixedOrders = true := by kernel_rfl
    go_upto_region 3 with fail
    refine wp_onlyN (wp_region_held (S := fun w' => Below w1.heap.size w1 w') hmx ?_)
    show wpAnyH _ _ _ _ _ _ _ _ w1.drew
    have hS0 := (Below.refl w1.heap.size w1).drew
    refine reg_tk (i := 0) (v := .agg #[.int .i64 m.w, .int .i64 m.h, .slice sp sn sk]) (some 6) rfl (fun w' hS => by (have c0 := (zm.below hS).cell 0; have c1 := (zm.below hS).cell 1; have c2 := (zm.below hS).cell 2; simp only [List.getElem?_cons_zero, List.getElem?_cons_succ] at c0 c1 c2); go_simp) hS0 ?_
    try simp only [Act.put, List.setIfInBounds_toArray, List.set_cons_zero, List.set_cons_succ]
    refine reg_tk (i := 2) (v := .pointer (some ⟨k0, 1, none⟩)) (some 8) rfl (fun w' hS => by (skip); go_simp) hS0 ?_
    try simp only [Act.put, List.setIfInBounds_toArray, List.set_cons_zero, List.set_cons_succ]
    refine reg_tk (i := 3) (v := .int .i64 m.h) (some 9) rfl (fun w' hS => by (have c1 := (zm.below hS).cell 1; simp only [List.getElem?_cons_zero, List.getElem?_cons_succ] at c1); go_simp) hS0 ?_
    try simp only [Act.put, List.setIfInBounds_toArray, List.set_cons_zero, List.set_cons_succ]
    refine reg_tk (i := 4) (v := .int .i64 (m.h + 8)) (some 10) rfl (fun w' hS => by (skip); go_simp) hS0 ?_
    try simp only [Act.put, List.setIfInBounds_toArray, List.set_cons_zero, List.set_cons_succ]
    refine reg_tk (i := 5) (v := .int .i64 (m.h + 7)) (some 11) rfl (fun w' hS => by (skip); go_simp) hS0 ?_
    try simp only [Act.put, List.setIfInBounds_toArray, List.set_cons_zero, List.set_cons_succ]
    refine reg_tk (i := 6) (v := .int .i64 ch) (some 12) rfl (fun w' hS => by (skip); go_simp) hS0 ?_
    try simp only [Act.put, List.setIfInBounds_toArray, List.set_cons_zero, List.set_cons_succ]
    refine held_one (i := 1) (by kernel_rfl) rfl (fun K hQ => ?_)
    go_simp
    ((with_reducible refine (rcol_b m sp sn sk cw _ (by omega) (by omega) hcw).mono ?_); rintro e w2 ⟨rfl, hb2⟩)
    have hS1 := below_call hS0 hb2
    clear hb2
    refine hQ.out _ _ hS1 ?_
    clear hQ
    try simp only [Act.put, List.setIfInBounds_toArray, List.set_cons_zero, List.set_cons_succ]
    refine reg_tk (i := 7) (v := .int .i64 (cw * ch)) (some 13) rfl (fun w' hS => by (skip); go_simp) hS1 ?_
    try simp only [Act.put, List.setIfInBounds_toArray, List.set_cons_zero, List.set_cons_succ]
    refine reg_tk (i := 8) (v := .int .i64 (cw * ch)) (some 2) rfl (fun w' hS => by (skip); go_simp) hS1 ?_
    try simp only [Act.put, List.setIfInBounds_toArray, List.set_cons_zero, List.set_cons_succ]
    refine wpAnyH_done (by kernel_rfl) ?_ _
    try simp only [onlyN]
    go_wp2_with fail
    go_ret
    exact ⟨rfl, below_call hW hS1⟩

set_option maxRecDepth 100000 in
set_option maxHeartbeats 4000000 in
theorem rof_b (m : M3) (sp : Option Addr) (sn sk : Nat) (p : Pt) (k : Int) (W : World) (hr : RowAt W (.slice sp sn sk) m.cs) (e : Hid (k = ofv m p)) : Calls Tryz.prog 51 #[.agg #[.int .i64 m.w, .int .i64 m.h, .slice sp sn sk], .agg #[.int .i64 p.1, .int .i64 p.2]] W fun e w' => e = .returned (.int .i64 k) ∧ Below W.heap.size W w' := by
  obtain ⟨b1, h1⟩ : ∃ b1, Hid (b1 = validm m) := ⟨_, hid rfl⟩
  obtain ⟨b2, h2⟩ : ∃ b2, Hid (b2 = insp m p) := ⟨_, hid rfl⟩
  have hk : Hid (k = if (b1 && b2) = true then p.2 / 8 * sqc m.w + p.1 / 8 else -1) := hid (by rw [e.out, h1.out, h2.out]; rfl)
  clear e
  have hT := Held2.start W [.int .i64 m.w, .int .i64 m.h, .slice sp sn sk] [.int .i64 p.1, .int .i64 p.2] 24 29
  obtain ⟨k0, ek⟩ : ∃ k0, Hid (k0 = W.heap.size) := ⟨_, hid rfl⟩
  obtain ⟨k1, ek1⟩ : ∃ k1, Hid (k1 = W.heap.size + 1) := ⟨_, hid rfl⟩
  go_enter Tryz.func51, Tryz.ntmps51
  go_upto_region 1 with fail
  obtain ⟨X, hX⟩ : ∃ X, X = (W.alloc (.cells [Value.int .i64 m.w, .int .i64 m.h, .slice sp sn sk].toArray 24)).alloc (.cells [Value.int .i64 p.1, .int .i64 p.2].toArray 29) := ⟨_, rfl⟩
  rw [← hX] at hT ⊢
  clear hX
  have zm := hT.l.at ek.out.symm
  have zp := hT.r.at ek1.out.symm
  have hW := hT.old
  rw [← ek1.out]
  rw [← ek.out]
  clear hT
  have m0 := zm.cell 0
  have m1 := zm.cell 1
  have m2 := zm.cell 2
  simp only [List.getElem?_cons_zero, List.getElem?_cons_succ] at m0 m1 m2
  go_wp2_with fail
  ((with_reducible refine (rvalidm_c m (.slice sp sn sk) b1 X (hr.below hW) h1).mono ?_); rintro e w1 ⟨rfl, hb1⟩)
  replace zm := zm.below hb1
  replace zp := zp.below hb1
  replace hW := below_call hW hb1
  clear hb1 m0 m1 m2
  cases b1 with
  | false =>
    obtain rfl : k = -1 := hk.out
    clear hk
    go_wp2_with fail
    go_ret
    exact ⟨rfl, hW⟩
  | true =>
    have hf := valid_formed h1.out.symm
    have h2v : Hid (b2 = inv m.w m.h p.1 p.2) := hid h2.out
    have m0 := zm.cell 0
    have m1 := zm.cell 1
    have p0 := zp.cell 0
    have p1 := zp.cell 1
    simp only [List.getElem?_cons_zero, List.getElem?_cons_succ] at m0 m1 p0 p1
    go_wp2_with fail
    ((with_reducible refine (rin_b m.w m.h p.1 p.2 b2 w1 h2v).mono ?_); rintro e w2 ⟨rfl, hb2⟩)
    replace zm := zm.below hb2
    replace zp := zp.below hb2
    replace hW := below_call hW hb2
    clear hb2 m0 m1 p0 p1
    cases b2 with
    | false =>
      obtain rfl : k = -1 := hk.out
      clear hk
      go_wp2_with fail
      go_ret
      exact ⟨rfl, hW⟩
    | true =>
      have hk2 : Hid (k = p.2 / 8 * sqc m.w + p.1 / 8) := hid hk.out
      clear hk
      obtain ⟨cw, hcw⟩ : ∃ q, Hid (q = sqc m.w) := ⟨_, hid rfl⟩
      obtain ⟨⟨c1, c2, _, _⟩, _, s1, s2, s3, s4⟩ := col_num hf
      rw [← hcw.out] at c1 c2 hk2
      obtain ⟨⟨x1, x2⟩, y1, y2⟩ := ins_small hf h2.out.symm
      obtain ⟨a, ha⟩ : ∃ a, Hid (a = p.1 / 8) := ⟨_, hid rfl⟩
      obtain ⟨b, hb⟩ : ∃ b, Hid (b = p.2 / 8) := ⟨_, hid rfl⟩
      rw [← ha.out, ← hb.out] at hk2
      have t1 : p.1.tdiv 8 = a := by rw [ha.out]; exact Int.tdiv_eq_ediv_of_nonneg x1
      have t2 : p.2.tdiv 8 = b := by rw [hb.out]; exact Int.tdiv_eq_ediv_of_nonneg y1
      have ab : (0 ≤ a ∧ a ≤ 31) ∧ (0 ≤ b ∧ b ≤ 31) := by rw [ha.out, hb.out]; omega
      have hbc : 0 ≤ b * cw ∧ b * cw ≤ 124 := ⟨Int.mul_nonneg (by omega) (by omega), Int.mul_le_mul (c := 31) (d := 4) (by omega) (by omega) (by omega) (by omega)⟩
      have t3 : IntKind.i64.wrap a = a := IntWalk.i64_in _ (by omega)
      have t4 : IntKind.i64.wrap b = b := IntWalk.i64_in _ (by omega)
      have t5 : wrap64 a = a := IntWalk.wrap64_in _ (by omega)
      have t6 : wrap64 b = b := IntWalk.wrap64_in _ (by omega)
      have t7 : IntKind.i64.wrap (b * cw) = b * cw := IntWalk.i64_in _ (by omega)
      have t8 : IntKind.i64.wrap (b * cw + a) = k := by rw [hk2.out]; exact IntWalk.i64_in _ (by omega)
      have hmx : Tryz.prog.follows .mixedOrders = true := by kernel_rfl
      go_upto_region 3 with fail
      refine wp_onlyN (wp_region_held (S := fun w' => Below w2.heap.size w2 w') hmx ?_)
      show wpAnyH _ _ _ _ _ _ _ _ w2.drew
      have hS0 := (Below.refl w2.heap.size w2).drew
      refine reg_tk (i := 0) (v := .pointer (some ⟨k1, 1, none⟩)) (some 17) rfl (fun w' hS => by (skip); go_simp) hS0 ?_
      try simp only [Act.put, List.setIfInBounds_toArray, List.set_cons_zero, List.set_cons_succ]
      refine reg_tk (i := 1) (v := .int .i64 p.2) (some 18) rfl (fun w' hS => by (have c1 := (zp.below hS).cell 1; simp only [List.getElem?_cons_zero, List.getElem?_cons_succ] at c1); go_simp) hS0 ?_
      try simp only [Act.put, List.setIfInBounds_toArray, List.set_cons_zero, List.set_cons_succ]
      refine reg_tk (i := 2) (v := .int .i64 b) (some 19) rfl (fun w' hS => by (skip); go_simp) hS0 ?_
      try simp only [Act.put, List.setIfInBounds_toArray, List.set_cons_zero, List.set_cons_succ]
      refine reg_tk (i := 3) (v := .agg #[.int .i64 m.w, .int .i64 m.h, .slice sp sn sk]) (some 20) rfl (fun w' hS => by (have c0 := (zm.below hS).cell 0; have c1 := (zm.below hS).cell 1; have c2 := (zm.below hS).cell 2; simp only [List.getElem?_cons_zero, List.getElem?_cons_succ] at c0 c1 c2); go_simp) hS0 ?_
      try simp only [Act.put, List.setIfInBounds_toArray, List.set_cons_zero, List.set_cons_succ]
      refine reg_tk (i := 6) (v := .pointer (some ⟨k1, 0, none⟩)) (some 23) rfl (fun w' hS => by (skip); go_simp) hS0 ?_
      try simp only [Act.put, List.setIfInBounds_toArray, List.set_cons_zero, List.set_cons_succ]
      refine reg_tk (i := 7) (v := .int .i64 p.1) (some 24) rfl (fun w' hS => by (have c0 := (zp.below hS).cell 0; simp only [List.getElem?_cons_zero] at c0); go_simp) hS0 ?_
      try simp only [Act.put, List.setIfInBounds_toArray, List.set_cons_zero, List.set_cons_succ]
      refine reg_tk (i := 8) (v := .int .i64 a) (some 25) rfl (fun w' hS => by (skip); go_simp) hS0 ?_
      try simp only [Act.put, List.setIfInBounds_toArray, List.set_cons_zero, List.set_cons_succ]
      refine held_one (i := 4) (by kernel_rfl) rfl (fun K hQ => ?_)
      go_simp
      ((with_reducible refine (rcol_b m sp sn sk cw _ (by omega) (by omega) hcw).mono ?_); rintro e w3 ⟨rfl, hb3⟩)
      have hS1 := below_call hS0 hb3
      clear hb3
      refine hQ.out _ _ hS1 ?_
      clear hQ
      try simp only [Act.put, List.setIfInBounds_toArray, List.set_cons_zero, List.set_cons_succ]
      refine reg_tk (i := 5) (v := .int .i64 (b * cw)) (some 22) rfl (fun w' hS => by (skip); go_simp) hS1 ?_
      try simp only [Act.put, List.setIfInBounds_toArray, List.set_cons_zero, List.set_cons_succ]
      refine reg_tk (i := 9) (v := .int .i64 k) (some 26) rfl (fun w' hS => by (skip); go_simp) hS1 ?_
      try simp only [Act.put, List.setIfInBounds_toArray, List.set_cons_zero, List.set_cons_succ]
      refine reg_tk (i := 10) (v := .int .i64 k) (some 4) rfl (fun w' hS => by (skip); go_simp) hS1 ?_
      try simp only [Act.put, List.setIfInBounds_toArray, List.set_cons_zero, List.set_cons_succ]
      refine wpAnyH_done (by kernel_rfl) ?_ _
      try simp only [onlyN]
      go_wp2_with fail
      go_ret
      exact ⟨rfl, below_call hW hS1⟩

set_option maxRecDepth 100000 in
set_option maxHeartbeats 4000000 in
theorem rarea_b (m : M3) (sp : Option Addr) (sn sk : Nat) (k : Int) (r : R4) (x : Bool) (W : World) (hr : RowAt W (.slice sp sn sk) m.cs) (hb : Hid (x = exv m k)) (e : Hid (r = areav m k)) : Calls Tryz.prog 97 #[.agg #[.int .i64 m.w, .int .i64 m.h, .slice sp sn sk], .int .i64 k] W fun e w' => e = .returned (.tuple #[.agg #[.int .i64 r.x, .int .i64 r.y, .int .i64 r.w, .int .i64 r.h], .bool x]) ∧ Below W.heap.size W w' := by
  obtain ⟨n, hn⟩ : ∃ n, Hid (n = countv m) := ⟨_, hid rfl⟩
  have hT := (Held1.start W [.int .i64 m.w, .int .i64 m.h, .slice sp sn sk] 24).alloc (.cells [Value.int .i64 0, .int .i64 0, .int .i64 0, .int .i64 0].toArray 72)
  have hB := (Blk.new (W.alloc (.cells [Value.int .i64 m.w, .int .i64 m.h, .slice sp sn sk].toArray 24)) [.int .i64 0, .int .i64 0, .int .i64 0, .int .i64 0] 72).at (World.size_alloc _ _)
  obtain ⟨k0, ek⟩ : ∃ k0, Hid (k0 = W.heap.size) := ⟨_, hid rfl⟩
  obtain ⟨k1, ek1⟩ : ∃ k1, Hid (k1 = W.heap.size + 1) := ⟨_, hid rfl⟩
  go_enter Tryz.func97, Tryz.ntmps97
  go_upto_region 1 with fail
  obtain ⟨X, hX⟩ : ∃ X, X = (W.alloc (.cells [Value.int .i64 m.w, .int .i64 m.h, .slice sp sn sk].toArray 24)).alloc (.cells [Value.int .i64 0, .int .i64 0, .int .i64 0, .int .i64 0].toArray 72) := ⟨_, rfl⟩
  have zm := hT.l.at ek.out.symm
  have zr := hB.at ek1.out.symm
  have hW := hT.old
  rw [← hX] at zm zr hW ⊢
  clear hX hT hB
  rw [← ek1.out]
  rw [← ek.out]
  have hk1 : W.heap.size ≤ k1 := by rw [ek1.out]; omega
  have m0 := zm.cell 0
  have m1 := zm.cell 1
  have m2 := zm.cell 2
  simp only [List.getElem?_cons_zero, List.getElem?_cons_succ] at m0 m1 m2
  by_cases hneg : k < 0
  · have z0 : decide (k < 0) = true := decide_eq_true hneg
    obtain rfl : x = false := by rw [hb.out]; exact decide_eq_false (by omega)
    obtain rfl : r = R4.zero := by rw [e.out]; unfold areav; rw [if_neg (by rw [← hb.out]; decide)]
    clear e
    obtain ⟨_, _, _, _, _, _, _, _⟩ := zr.four
    go_wp2_with fail
    have zr2 := zr.put4 (.int .i64 0) (.int .i64 0) (.int .i64 0) (.int .i64 0)
    obtain ⟨_, _, _, _, -, -, -, -⟩ := zr2.four
    refine bodyPost_ret (v := .tuple #[.agg #[.int .i64 0, .int .i64 0, .int .i64 0, .int .i64 0], .bool false]) (by simp [results, Tryz.results97, go_sem, *]) rfl ⟨rfl, ?_⟩
    exact (((hW.setCell hk1 _).setCell hk1 _).setCell hk1 _).setCell hk1 _
  have z0 : decide (k < 0) = false := decide_eq_false hneg
  go_wp2_with fail
  ((with_reducible refine (rcount_b m sp sn sk n X (hr.below hW) hn).mono ?_); rintro e1 w1 ⟨rfl, hb1⟩)
  replace zm := zm.below hb1
  replace zr := zr.below hb1
  replace hW := below_call hW hb1
  clear hb1 m0 m1 m2
  cases x with
  | false =>
    have z1 : decide (n ≤ k) = true := decide_eq_true (by have h := of_decide_eq_false (show decide (0 ≤ k ∧ k < countv m) = false from hb.out.symm); rw [← hn.out] at h; omega)
    obtain rfl : r = R4.zero := by rw [e.out]; unfold areav; rw [if_neg (by rw [← hb.out]; decide)]
    clear e
    obtain ⟨_, _, _, _, _, _, _, _⟩ := zr.four
    go_wp2_with fail
    have zr2 := zr.put4 (.int .i64 0) (.int .i64 0) (.int .i64 0) (.int .i64 0)
    obtain ⟨_, _, _, _, -, -, -, -⟩ := zr2.four
    refine bodyPost_ret (v := .tuple #[.agg #[.int .i64 0, .int .i64 0, .int .i64 0, .int .i64 0], .bool false]) (by simp [results, Tryz.results97, go_sem, *]) rfl ⟨rfl, ?_⟩
    exact (((hW.setCell hk1 _).setCell hk1 _).setCell hk1 _).setCell hk1 _
  | true =>
    have hx := hb.out.symm
    have hf := valid_formed (ex_valid hx).1
    obtain ⟨⟨c1, c2, _, _⟩, ⟨d1, d2, _, _⟩, s1, s2, s3, s4⟩ := col_num hf
    obtain ⟨⟨g1, g2⟩, ⟨g3, g4⟩, _⟩ := place_num hx
    obtain ⟨_, k0', k1'⟩ := ex_valid hx
    have z1 : decide (n ≤ k) = false := decide_eq_false (by have h := of_decide_eq_true (show decide (0 ≤ k ∧ k < countv m) = true from hx); rw [← hn.out] at h; omega)
    have hkb : k ≤ 1000 := by
      have := Int.mul_le_mul (c := 4) (d := 4) (show sqc m.w ≤ 4 by omega) (show sqc m.h ≤ 4 by omega) (by omega) (by omega)
      omega
    have hr2 : Hid (r = arv m k) := hid (by rw [e.out, ar_val hb.out.symm])
    obtain ⟨cw, hcw⟩ : ∃ q, Hid (q = sqc m.w) := ⟨_, hid rfl⟩
    obtain ⟨a, ha⟩ : ∃ a, Hid (a = k % sqc m.w) := ⟨_, hid rfl⟩
    obtain ⟨b, hbb⟩ : ∃ b, Hid (b = k / sqc m.w) := ⟨_, hid rfl⟩
    have t1 : k.tmod cw = a := by rw [ha.out, hcw.out]; exact Int.tmod_eq_emod_of_nonneg k0'
    have t2 : k.tdiv cw = b := by rw [hbb.out, hcw.out]; exact Int.tdiv_eq_ediv_of_nonneg k0'
    have hc0 : ¬ cw = 0 := by rw [hcw.out]; omega
    have hc1 : (cw == 0) = false := beq_eq_false_iff_ne.2 hc0
    rw [← ha.out] at g1 g2
    rw [← hbb.out] at g3 g4
    have hra : r = ⟨a * 8, b * 8, min 8 (m.w - a * 8), min 8 (m.h - b * 8)⟩ := by rw [hr2.out, ha.out, hbb.out]; rfl
    subst hra
    have t3 : IntKind.i64.wrap (a * 8) = a * 8 := IntWalk.i64_in _ (by omega)
    have t4 : IntKind.i64.wrap (b * 8) = b * 8 := IntWalk.i64_in _ (by omega)
    have t5 : IntKind.i64.wrap (m.w - a * 8) = m.w - a * 8 := IntWalk.i64_in _ (by omega)
    have t6 : IntKind.i64.wrap (m.h - b * 8) = m.h - b * 8 := IntWalk.i64_in _ (by omega)
    have t7 : IntKind.i64.wrap a = a := IntWalk.i64_in _ (by omega)
    have t8 : IntKind.i64.wrap b = b := IntWalk.i64_in _ (by omega)
    have t9 : wrap64 a = a := IntWalk.wrap64_in _ (by omega)
    have t10 : wrap64 b = b := IntWalk.wrap64_in _ (by omega)
    clear e hr2 hx hb
    have hmx : Tryz.prog.follows .mixedOrders = true := by kernel_rfl
    go_upto_region 3 with fail
    refine wp_onlyN (wp_region_held (S := fun w' => Below w1.heap.size w1 w') hmx ?_)
    show wpAnyH _ _ _ _ _ _ _ _ w1.drew
    have hS0 := (Below.refl w1.heap.size w1).drew
    refine reg_tk (i := 0) (v := .int .i64 k) (some 17) rfl (fun w' hS => by (skip); go_simp) hS0 ?_
    try simp only [Act.put, List.setIfInBounds_toArray, List.set_cons_zero, List.set_cons_succ]
    refine reg_tk (i := 1) (v := .agg #[.int .i64 m.w, .int .i64 m.h, .slice sp sn sk]) (some 18) rfl (fun w' hS => by (have c0 := (zm.below hS).cell 0; have c1 := (zm.below hS).cell 1; have c2 := (zm.below hS).cell 2; simp only [List.getElem?_cons_zero, List.getElem?_cons_succ] at c0 c1 c2); go_simp) hS0 ?_
    try simp only [Act.put, List.setIfInBounds_toArray, List.set_cons_zero, List.set_cons_succ]
    refine reg_tk (i := 5) (v := .int .i64 k) (some 22) rfl (fun w' hS => by (skip); go_simp) hS0 ?_
    try simp only [Act.put, List.setIfInBounds_toArray, List.set_cons_zero, List.set_cons_succ]
    refine reg_tk (i := 6) (v := .agg #[.int .i64 m.w, .int .i64 m.h, .slice sp sn sk]) (some 23) rfl (fun w' hS => by (have c0 := (zm.below hS).cell 0; have c1 := (zm.below hS).cell 1; have c2 := (zm.below hS).cell 2; simp only [List.getElem?_cons_zero, List.getElem?_cons_succ] at c0 c1 c2); go_simp) hS0 ?_
    try simp only [Act.put, List.setIfInBounds_toArray, List.set_cons_zero, List.set_cons_succ]
    refine held_one (i := 2) (by kernel_rfl) rfl (fun K hQ => ?_)
    go_simp
    ((with_reducible refine (rcol_b m sp sn sk cw _ (by omega) (by omega) hcw).mono ?_); rintro e w2 ⟨rfl, hb2⟩)
    have hS1 := below_call hS0 hb2
    clear hb2
    refine hQ.out _ _ hS1 ?_
    clear hQ
    try simp only [Act.put, List.setIfInBounds_toArray, List.set_cons_zero, List.set_cons_succ]
    refine reg_tk (i := 3) (v := .int .i64 a) (some 20) rfl (fun w' hS => by (skip); go_simp) hS1 ?_
    try simp only [Act.put, List.setIfInBounds_toArray, List.set_cons_zero, List.set_cons_succ]
    refine reg_tk (i := 4) (v := .int .i64 (a * 8)) (some 21) rfl (fun w' hS => by (skip); go_simp) hS1 ?_
    try simp only [Act.put, List.setIfInBounds_toArray, List.set_cons_zero, List.set_cons_succ]
    refine held_one (i := 7) (by kernel_rfl) rfl (fun K hQ => ?_)
    go_simp
    ((with_reducible refine (rcol_b m sp sn sk cw _ (by omega) (by omega) hcw).mono ?_); rintro e w3 ⟨rfl, hb3⟩)
    have hS2 := below_call hS1 hb3
    clear hb3
    refine hQ.out _ _ hS2 ?_
    clear hQ
    try simp only [Act.put, List.setIfInBounds_toArray, List.set_cons_zero, List.set_cons_succ]
    refine reg_tk (i := 8) (v := .int .i64 b) (some 25) rfl (fun w' hS => by (skip); go_simp) hS2 ?_
    try simp only [Act.put, List.setIfInBounds_toArray, List.set_cons_zero, List.set_cons_succ]
    refine reg_tk (i := 9) (v := .int .i64 (b * 8)) (some 26) rfl (fun w' hS => by (skip); go_simp) hS2 ?_
    try simp only [Act.put, List.setIfInBounds_toArray, List.set_cons_zero, List.set_cons_succ]
    refine reg_tk (i := 10) (v := .int .i64 (a * 8)) (some 6) rfl (fun w' hS => by (skip); go_simp) hS2 ?_
    try simp only [Act.put, List.setIfInBounds_toArray, List.set_cons_zero, List.set_cons_succ]
    refine reg_tk (i := 11) (v := .int .i64 (b * 8)) (some 7) rfl (fun w' hS => by (skip); go_simp) hS2 ?_
    try simp only [Act.put, List.setIfInBounds_toArray, List.set_cons_zero, List.set_cons_succ]
    refine wpAnyH_done (by kernel_rfl) ?_ _
    try simp only [onlyN]
    obtain ⟨_, _, _, _, _, _, _, _⟩ := (zr.below hS2).four
    have m0 := (zm.below hS2).cell 0
    have m1 := (zm.below hS2).cell 1
    simp only [List.getElem?_cons_zero, List.getElem?_cons_succ] at m0 m1
    go_wp2_with fail
    have zr2 := (zr.below hS2).put4 (.int .i64 (a * 8)) (.int .i64 (b * 8)) (.int .i64 (min 8 (m.w - a * 8))) (.int .i64 (min 8 (m.h - b * 8)))
    obtain ⟨_, _, _, _, -, -, -, -⟩ := zr2.four
    refine bodyPost_ret (v := .tuple #[.agg #[.int .i64 (a * 8), .int .i64 (b * 8), .int .i64 (min 8 (m.w - a * 8)), .int .i64 (min 8 (m.h - b * 8))], .bool true]) (by simp [results, Tryz.results97, go_sem, *]) rfl ⟨rfl, ?_⟩
    exact ((((below_call hW hS2).setCell hk1 _).setCell hk1 _).setCell hk1 _).setCell hk1 _

end

section
open Go.RowKit Go.Lib

set_option maxHeartbeats 1000000 in
theorem rcls15_b (c : Int) (b : Bool) (W : World) (e : Hid (b = decide (c = 1 ∨ c = 2 ∨ c = 3))) : Calls Tryz.prog 99 #[.int .i64 c] W fun e w' => e = .returned (.bool b) ∧ Below W.heap.size W w' := by
  by_cases h1 : c = 1
  · obtain rfl : b = true := by rw [e.out]; exact decide_eq_true (.inl h1)
    have z1 : (c == 1) = true := beq_iff_eq.2 h1
    clear e h1
    go_enter Tryz.func99, Tryz.ntmps99
    go_wp2_with fail
    go_ret
    exact ⟨rfl, Below.refl _ _⟩
  have z1 : (c == 1) = false := beq_eq_false_iff_ne.2 h1
  by_cases h2 : c = 2
  · obtain rfl : b = true := by rw [e.out]; exact decide_eq_true (.inr (.inl h2))
    have z2 : (c == 2) = true := beq_iff_eq.2 h2
    clear e h1 h2
    go_enter Tryz.func99, Tryz.ntmps99
    go_wp2_with fail
    go_ret
    exact ⟨rfl, Below.refl _ _⟩
  have z2 : (c == 2) = false := beq_eq_false_iff_ne.2 h2
  have hb : (c == 3) = b := by
    rw [e.out]
    by_cases h3 : c = 3
    · rw [decide_eq_true (.inr (.inr h3)), beq_iff_eq]; exact h3
    · rw [decide_eq_false (by omega)]; exact beq_eq_false_iff_ne.2 h3
  clear e h1 h2
  go_enter Tryz.func99, Tryz.ntmps99
  go_wp2_with fail
  go_ret
  exact ⟨rfl, Below.refl _ _⟩

set_option maxRecDepth 100000 in
set_option maxHeartbeats 4000000 in
theorem rpos15_b (m : M3) (s : Value) (bl : List Bool) (l : Value) (c : Int) (p : Pt) (d : Int) (b : Bool) (W : World) (hh : HighAt m) (hr : RowAt W s m.cs) (hl : BitsAt W l bl) (e : Hid (b = mayv m bl c p.1 p.2 d)) :
    Calls Tryz.prog 151 #[.agg #[.int .i64 m.w, .int .i64 m.h, s], l, .int .i64 c, .agg #[.int .i64 p.1, .int .i64 p.2], .int .i64 d] W fun e w' => e = .returned (.bool b) ∧ Below W.heap.size W w' := by
  obtain ⟨k, hk⟩ : ∃ k, Hid (k = costv m bl c p.1 p.2 d) := ⟨_, hid rfl⟩
  have hT := Held2.start W [.int .i64 m.w, .int .i64 m.h, s] [.int .i64 p.1, .int .i64 p.2] 24 29
  obtain ⟨k0, ek⟩ : ∃ k0, Hid (k0 = W.heap.size) := ⟨_, hid rfl⟩
  obtain ⟨k1, ek1⟩ : ∃ k1, Hid (k1 = W.heap.size + 1) := ⟨_, hid rfl⟩
  go_enter Tryz.func151, Tryz.ntmps151
  go_upto_region 1 with fail
  obtain ⟨X, hX⟩ : ∃ X, X = (W.alloc (.cells [Value.int .i64 m.w, .int .i64 m.h, s].toArray 24)).alloc (.cells [Value.int .i64 p.1, .int .i64 p.2].toArray 29) := ⟨_, rfl⟩
  rw [← hX] at hT ⊢
  clear hX
  have zm := hT.l.at ek.out.symm
  have zp := hT.r.at ek1.out.symm
  have hW := hT.old
  rw [← ek1.out]
  rw [← ek.out]
  clear hT
  have m0 := zm.cell 0
  have m1 := zm.cell 1
  have m2 := zm.cell 2
  have p0 := zp.cell 0
  have p1 := zp.cell 1
  simp only [List.getElem?_cons_zero, List.getElem?_cons_succ] at m0 m1 m2 p0 p1
  go_wp2_with fail
  ((with_reducible refine (rcost_b m s bl l c p.1 p.2 d b k X hh (hr.below hW) (hl.below hW) e hk).mono ?_); rintro e w1 ⟨rfl, hb1⟩)
  go_wp2_with fail
  go_ret
  exact ⟨rfl, below_call hW hb1⟩

/-- Is p in cluster k's area or beside it, and in the map? -/
def nearB (m : M3) (k : Nat) (p : Pt) : Bool := insv ⟨(arv m k).x - 1, (arv m k).y - 1, (arv m k).w + 2, (arv m k).h + 2⟩ p.1 p.2 && inv m.w m.h p.1 p.2
def foundB (m : M3) (ps : List Pt) (k : Nat) : Bool := ps.any (nearB m k)
def rtouchB (m : M3) (ps : List Pt) : List Bool := (List.range (countv m).toNat).map (foundB m ps)
def rtouchv (m : M3) (ps : List Pt) : List Int := numsTo (rtouchB m ps) (countv m).toNat
theorem rtouchB_at (m : M3) (ps : List Pt) (k : Nat) (h : k < (countv m).toNat) : gb (rtouchB m ps) k = foundB m ps k := by
  unfold gb rtouchB
  rw [List.getD_eq_getElem?_getD, List.getElem?_map, List.getElem?_range h]
  rfl
theorem any_take (f : Pt → Bool) (ps : List Pt) (i : Nat) (h : (ps.take i).any f = true) : ps.any f = true := by
  rw [List.any_eq_true] at h ⊢
  obtain ⟨x, hx, hf⟩ := h
  exact ⟨x, List.mem_of_mem_take hx, hf⟩
theorem any_next (f : Pt → Bool) (ps : List Pt) (i : Nat) (h : i < ps.length) (g : (ps.take i).any f = false) : (ps.take (i + 1)).any f = f (ps[i]'h) := by
  rw [List.take_add_one, List.getElem?_eq_getElem h, List.any_append, g]
  simp

end

section
open Go.RowKit Go.Lib

theorem mem_neiGo (w h x y : Int) (q : Pt) : ∀ (k d : Nat), q ∈ neiGo w h x y k d ↔ ∃ j : Nat, d ≤ j ∧ j < d + k ∧ inv w h (stx x j) (sty y j) = true ∧ q = (stx x j, sty y j)
  | 0, d => ⟨fun h => by simp [neiGo] at h, fun ⟨j, h1, h2, _⟩ => by omega⟩
  | k + 1, d => by
    have ih := mem_neiGo w h x y q k (d + 1)
    rw [neiGo]
    constructor
    · intro hq
      split at hq
      · next hi =>
        rcases List.mem_cons.1 hq with e | hq
        · exact ⟨d, Nat.le_refl _, by omega, hi, e⟩
        · obtain ⟨j, h1, h2, h3, h4⟩ := ih.1 hq
          exact ⟨j, by omega, by omega, h3, h4⟩
      · obtain ⟨j, h1, h2, h3, h4⟩ := ih.1 hq
        exact ⟨j, by omega, by omega, h3, h4⟩
    · rintro ⟨j, h1, h2, h3, h4⟩
      by_cases e : j = d
      · subst e
        rw [if_pos h3]
        exact List.mem_cons.2 (.inl h4)
      · have := ih.2 ⟨j, by omega, by omega, h3, h4⟩
        split
        · exact List.mem_cons_of_mem _ this
        · exact this

theorem gb_mark (m : M3) (i : Nat) : ∀ (qs : List Pt) (L : List Bool), (∀ q, q ∈ qs → (numv m q).toNat < L.length) → (markN m L qs).length = L.length ∧ gb (markN m L qs) i = (gb L i || qs.any fun q => decide ((numv m q).toNat = i))
  | [], L, _ => ⟨rfl, by rw [List.any_nil, Bool.or_false]; rfl⟩
  | q :: qs, L, h => by
    have h0 := h q (List.mem_cons_self ..)
    have ih := gb_mark m i qs (L.set (numv m q).toNat true) (fun x hx => by rw [List.length_set]; exact h x (List.mem_cons_of_mem _ hx))
    have e : markN m L (q :: qs) = markN m (L.set (numv m q).toNat true) qs := rfl
    rw [e, ih.1, ih.2, List.length_set, gb_set _ _ _ _ h0, List.any_cons]
    refine ⟨rfl, ?_⟩
    by_cases hi : i = (numv m q).toNat
    · rw [if_pos hi, decide_eq_true hi.symm, Bool.true_or, Bool.or_true]
    · rw [if_neg hi, decide_eq_false (fun h => hi h.symm), Bool.false_or]

/-- What one cell touches. -/
def hitB (m : M3) (i : Nat) (p : Pt) : Bool := insp m p && (decide ((numv m p).toNat = i) || (neisv m p).any fun q => decide ((numv m q).toNat = i))
theorem num_nat {m : M3} (hv : validm m = true) {p : Pt} (hp : insp m p = true) : (numv m p).toNat < (countv m).toNat := by
  obtain ⟨h1, h2⟩ := num_lt hv hp
  omega
theorem gb_touch (m : M3) (hv : validm m = true) (i : Nat) : ∀ (ps : List Pt) (L : List Bool), L.length = (countv m).toNat → gb (touchL m L ps) i = (gb L i || ps.any (hitB m i))
  | [], L, _ => by rw [List.any_nil, Bool.or_false]; rfl
  | p :: ps, L, h => by
    have e : touchL m L (p :: ps) = touchL m (touchF m L p) ps := rfl
    have hN : ∀ q, q ∈ neisv m p → insp m q = true := fun q hq => nei_in _ _ _ _ _ _ q hq
    have key : (touchF m L p).length = L.length ∧ gb (touchF m L p) i = (gb L i || hitB m i p) := by
      unfold touchF hitB
      by_cases hp : insp m p = true
      · have hlt := num_nat hv hp
        rw [← h] at hlt
        obtain ⟨k1, k2⟩ := gb_mark m i (neisv m p) (L.set (numv m p).toNat true) (fun q hq => by rw [List.length_set, h]; exact num_nat hv (hN q hq))
        rw [if_pos hp, k1, k2, List.length_set, gb_set _ _ _ _ hlt, hp, Bool.true_and]
        refine ⟨rfl, ?_⟩
        by_cases hi : i = (numv m p).toNat
        · rw [if_pos hi, decide_eq_true hi.symm, Bool.true_or, Bool.or_true]
        · rw [if_neg hi, decide_eq_false (fun h => hi h.symm), Bool.false_or]
      · rw [if_neg hp, Bool.eq_false_iff.2 hp, Bool.false_and, Bool.or_false]
        exact ⟨rfl, rfl⟩
    rw [e, gb_touch m hv i ps (touchF m L p) (by rw [key.1, h]), key.2, List.any_cons, Bool.or_assoc]

theorem hit_near {m : M3} (i : Nat) (hx : exv m i = true) (p : Pt) : hitB m i p = nearB m i p := by
  have hv := (ex_valid hx).1
  have hf := valid_formed hv
  obtain ⟨_, _, s1, s2, s3, s4⟩ := col_num hf
  have ok := ar_ok hx
  have hnum : ∀ q : Pt, insp m q = true → ((numv m q).toNat = i ↔ insv (arv m i) q.1 q.2 = true) := fun q hq => by
    have h := of_area hx hq
    have h2 := num_lt hv hq
    have e : ofv m q = numv m q := by unfold ofv; rw [hv, hq, Bool.and_self, if_pos rfl]; rfl
    rw [h, e]
    omega
  unfold nearB
  have hin : inv m.w m.h p.1 p.2 = insp m p := rfl
  rw [hin]
  by_cases hp : insp m p = true
  · unfold hitB
    rw [hp, Bool.true_and, Bool.and_true]
    have hp0 := hp
    unfold insp inv at hp0
    replace hp0 := of_decide_eq_true hp0
    have hr : insv ⟨(arv m i).x - 1, (arv m i).y - 1, (arv m i).w + 2, (arv m i).h + 2⟩ p.1 p.2 = decide ((arv m i).x - 1 ≤ p.1 ∧ p.1 < (arv m i).x + (arv m i).w + 1 ∧ (arv m i).y - 1 ≤ p.2 ∧ p.2 < (arv m i).y + (arv m i).h + 1) := by
      obtain ⟨h1, h2, h3, h4, h5, h6, h7, h8⟩ := ok
      unfold insv R4.nrm
      dsimp only
      rw [nr_in (n := (arv m i).x - 1) (by omega) (by omega), nr_in (n := (arv m i).y - 1) (by omega) (by omega), nr_in (n := (arv m i).w + 2) (by omega) (by omega), nr_in (n := (arv m i).h + 2) (by omega) (by omega), nr_in (n := p.1) (by omega) (by omega), nr_in (n := p.2) (by omega) (by omega)]
      refine decide_eq_decide.2 ?_
      omega
    rw [hr, Bool.eq_iff_iff, Bool.or_eq_true, decide_eq_true_iff, List.any_eq_true, decide_eq_true_iff, hnum p hp, ar_ins ok hf, decide_eq_true_iff]
    have hstp : ∀ j : Nat, j < 8 → stx p.1 j = p.1 + shx j ∧ sty p.2 j = p.2 + shy j := fun j hj => by
      unfold stx sty
      rw [if_neg (by omega), if_neg (by omega), nr_in (n := p.1) (by omega) (by omega), nr_in (n := p.2) (by omega) (by omega)]
      exact ⟨rfl, rfl⟩
    obtain ⟨h1, h2, h3, h4, h5, h6, h7, h8⟩ := id ok
    constructor
    · rintro (h | ⟨q, hq, hd⟩)
      · omega
      · have hqi : insp m q = true := nei_in _ _ _ _ _ _ q hq
        unfold neisv at hq
        obtain ⟨j, _, hj, _, rfl⟩ := (mem_neiGo _ _ _ _ _ _ _).1 hq
        have hd2 := ar_in ok hf ((hnum _ hqi).1 (of_decide_eq_true hd))
        obtain ⟨e1, e2⟩ := hstp j (by omega)
        dsimp only at hd2
        rw [e1, e2] at hd2
        have b1 : -1 ≤ shx j ∧ shx j ≤ 1 := by unfold shx; split <;> (try split) <;> omega
        have b2 : -1 ≤ shy j ∧ shy j ≤ 1 := by unfold shy; split <;> (try split) <;> omega
        omega
    · intro h
      by_cases h0 : (arv m i).x ≤ p.1 ∧ p.1 < (arv m i).x + (arv m i).w ∧ (arv m i).y ≤ p.2 ∧ p.2 < (arv m i).y + (arv m i).h
      · exact .inl h0
      · refine .inr ?_
        have go : ∀ (j : Nat) (dx dy : Int), j < 8 → shx j = dx → shy j = dy → ((arv m i).x ≤ p.1 + dx ∧ p.1 + dx < (arv m i).x + (arv m i).w ∧ (arv m i).y ≤ p.2 + dy ∧ p.2 + dy < (arv m i).y + (arv m i).h) → ∃ q, q ∈ neisv m p ∧ decide ((numv m q).toNat = i) = true := fun j dx dy hj ex ey hA => by
          obtain ⟨e1, e2⟩ := hstp j hj
          rw [ex] at e1
          rw [ey] at e2
          have hI : inv m.w m.h (p.1 + dx) (p.2 + dy) = true := decide_eq_true (by omega)
          refine ⟨(p.1 + dx, p.2 + dy), ?_, ?_⟩
          · unfold neisv
            exact (mem_neiGo _ _ _ _ _ _ _).2 ⟨j, by omega, by omega, by rw [e1, e2]; exact hI, by rw [e1, e2]⟩
          · refine decide_eq_true ((hnum (p.1 + dx, p.2 + dy) hI).2 ?_)
            rw [ar_ins ok hf]
            exact decide_eq_true hA
        rcases (show p.1 = (arv m i).x - 1 ∨ p.1 = (arv m i).x + (arv m i).w ∨ ((arv m i).x ≤ p.1 ∧ p.1 < (arv m i).x + (arv m i).w) by omega) with a | a | a <;>
          rcases (show p.2 = (arv m i).y - 1 ∨ p.2 = (arv m i).y + (arv m i).h ∨ ((arv m i).y ≤ p.2 ∧ p.2 < (arv m i).y + (arv m i).h) by omega) with b | b | b
        · exact go 1 1 1 (by omega) rfl rfl (by omega)
        · exact go 7 1 (-1) (by omega) rfl rfl (by omega)
        · exact go 0 1 0 (by omega) rfl rfl (by omega)
        · exact go 3 (-1) 1 (by omega) rfl rfl (by omega)
        · exact go 5 (-1) (-1) (by omega) rfl rfl (by omega)
        · exact go 4 (-1) 0 (by omega) rfl rfl (by omega)
        · exact go 2 0 1 (by omega) rfl rfl (by omega)
        · exact go 6 0 (-1) (by omega) rfl rfl (by omega)
        · exact (h0 (by omega)).elim
  · unfold hitB
    rw [Bool.eq_false_iff.2 hp, Bool.false_and, Bool.and_false]

theorem nums_congr {L M : List Bool} : ∀ {n : Nat}, (∀ i, i < n → gb L i = gb M i) → numsTo L n = numsTo M n
  | 0, _ => rfl
  | n + 1, h => by rw [numsTo_next, numsTo_next, nums_congr (n := n) (fun i hi => h i (by omega)), h n (by omega)]
theorem any_congr15 {f g : Pt → Bool} (h : ∀ p, f p = g p) (ps : List Pt) : ps.any f = ps.any g := by rw [funext h]
/-- The program's answer is the reference's. -/
theorem touched_eq (m : M3) (ps : List Pt) : touchedv m ps = rtouchv m ps := by
  unfold touchedv rtouchv
  by_cases hv : validm m = true
  · rw [if_pos hv]
    refine nums_congr fun i hi => ?_
    have hx : exv m i = true := decide_eq_true (by omega)
    rw [gb_touch m hv i ps _ List.length_replicate, rtouchB_at m ps i hi]
    have h0 : gb (List.replicate (countv m).toNat false) i = false := by
      unfold gb
      rw [List.getD_eq_getElem?_getD, List.getElem?_replicate, if_pos hi]
      rfl
    rw [h0, Bool.false_or]
    exact any_congr15 (hit_near i hx) ps
  · rw [if_neg hv]
    have : countv m = 0 := by unfold countv; rw [if_neg hv]
    rw [this]
    rfl

end

end Go.Proofs.YtpgchjhfhndaaaaGreatDoor
