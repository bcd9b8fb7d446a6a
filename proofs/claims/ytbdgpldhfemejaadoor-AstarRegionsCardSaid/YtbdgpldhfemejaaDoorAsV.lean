/-
  The laws of astar: regions tell where there are ways.
-/
import Derived.Test.YtbdgpldhfemejaaDoorAsU
namespace Go.Proofs.YtbdgpldhfemejaaDoor
open Go.RowKit Go.Lib

/-- A position's number, as a law works it out. -/
theorem law_idx {m : M3} (hf : formedv m = true) {p : Pt} (h : insp m p = true) : IntKind.i64.wrap (p.2 * m.w) = p.2 * m.w ∧ IntKind.i64.wrap (p.2 * m.w + p.1) = (idx m p : Int) := by
  obtain ⟨X, Y, e1, e2, x1, x2, y1, y2, _⟩ := formed_num hf
  obtain ⟨s1, s2⟩ := ins_small hf h
  have hi := (posn_idx hf h).2.2
  unfold indexv at hi
  rw [nr_in (by omega) (by omega), nr_in (by omega) (by omega), nr_in (by omega) (by omega)] at hi
  have hm : 0 ≤ p.2 * m.w := Int.mul_nonneg s2.1 (by omega)
  have hm2 : p.2 * m.w ≤ 31 * 32 := Int.mul_le_mul s2.2 (by omega) (by omega) (by omega)
  exact ⟨IntWalk.i64_in _ (by omega), by rw [IntWalk.i64_in _ (by omega)]; exact hi⟩
theorem regs_told {m : M3} {bl : List Bool} {c : Int} {a b : Pt} {v : Value} {n er : Int} {w : World} {R : List Int} (h : PathF m bl c a b v n er w) (he : er = 0 ∨ er = 22) (hR : Regs (nb m bl c) m.cs.length (opn m bl c) m.cs.length R) :
    0 ≤ ga R (idx m a) ∧ ga R (idx m a) ≤ (idx m a : Int) ∧ (er = 0 ↔ ga R (idx m a) = ga R (idx m b)) := by
  have hok : okA m c a b = true ∧ frA m bl c a b = true := by
    rcases he with e | e
    · exact ⟨(h.good e).1, (h.good e).2.1⟩
    · exact ⟨(h.none_ e).1, (h.none_ e).2.1⟩
  obtain ⟨o1, f1⟩ := hok
  unfold okA at o1
  unfold frA at f1
  simp only [Bool.and_eq_true] at o1 f1
  have hf : formedv m = true := classv_of (c := c) (by rw [o1.1.1.1, o1.1.1.2]; rfl)
  have ok := nb_ok hf bl c
  obtain ⟨pa, la, _⟩ := posn_idx hf o1.1.2
  obtain ⟨pb, lb, _⟩ := posn_idx hf o1.2
  have fa : opn m bl c (idx m a) := by unfold opn; rw [pa]; exact f1.1
  have fb : opn m bl c (idx m b) := by unfold opn; rw [pb]; exact f1.2
  obtain ⟨ka, ea, a1, a2, a3⟩ := hR.yes _ la fa _ la (.refl _)
  obtain ⟨kb, eb, _, b2, b3⟩ := hR.yes _ lb fb _ lb (.refl _)
  refine ⟨by omega, by omega, fun e => ?_, fun e => ?_⟩
  · obtain ⟨_, _, D, d1, g1, _⟩ := h.good e
    have hc : Conn (nb m bl c) (idx m b) (idx m a) := ⟨_, d1.way g1⟩
    have := a3 kb (b2.trans hc)
    have := b3 ka (a2.trans (hc.symm ok))
    omega
  · rcases he with he | he
    · exact he
    · obtain ⟨_, _, D, d1, g1⟩ := h.none_ he
      have hk : ka = kb := by omega
      subst hk
      obtain ⟨w, hw⟩ := (b2.symm ok).trans a2
      have := d1.least ok lb hw
      omega

set_option maxRecDepth 100000 in
set_option maxHeartbeats 8000000 in
theorem law14_regions (m : M3) (s : Value) (bl : List Bool) (l : Value) (c : Int) (a b d : Pt) (W : World) (hE : EnvT W) (hn : HighAt m) (hr : RowAt W s m.cs) (hl : BitsAt W l bl) :
    Calls Tryd.prog 7 #[.agg #[.int .i64 m.w, .int .i64 m.h, s, l, .int .i64 c, .int .i64 a.1, .int .i64 a.2, .int .i64 b.1, .int .i64 b.2, .int .i64 d.1, .int .i64 d.2]] W fun e w' => e = .returned (.bool true) ∧ Below W.heap.size W w' := by
  have hG : Gd W m s bl l := ⟨hE, hn, hr, hl⟩
  obtain ⟨p0, c0, rfl⟩ := hr.slice
  obtain ⟨pl, kl, rfl, -⟩ := id hl
  obtain ⟨sm, hsm⟩ : ∃ sm, Hid (sm = decide (m.cs.length ≤ 1100 ∧ bl.length ≤ 2000)) := ⟨_, hid rfl⟩
  have ch := fun (w : World) => assmall_b m p0 pl bl.length c0 kl c a.1 a.2 b.1 b.2 d.1 d.2 sm w hsm
  have ca := fun (w : World) (hb : Below W.heap.size W w) => asalive_b w (hE.keep hb)
  have hB := Blk.new W [.int .i64 m.w, .int .i64 m.h, .slice p0 m.cs.length c0, .slice pl bl.length kl, .int .i64 c, .int .i64 a.1, .int .i64 a.2, .int .i64 b.1, .int .i64 b.2, .int .i64 d.1, .int .i64 d.2] 29
  have hW := (Below.refl W.heap.size W).alloc (Nat.le_refl _) (.cells [Value.int .i64 m.w, .int .i64 m.h, .slice p0 m.cs.length c0, .slice pl bl.length kl, .int .i64 c, .int .i64 a.1, .int .i64 a.2, .int .i64 b.1, .int .i64 b.2, .int .i64 d.1, .int .i64 d.2].toArray 29)
  go_enter Tryd.func7, Tryd.ntmps7
  go_upto_region 1 with fail
  obtain ⟨X, hX⟩ : ∃ X, X = W.alloc (.cells [Value.int .i64 m.w, .int .i64 m.h, .slice p0 m.cs.length c0, .slice pl bl.length kl, .int .i64 c, .int .i64 a.1, .int .i64 a.2, .int .i64 b.1, .int .i64 b.2, .int .i64 d.1, .int .i64 d.2].toArray 29) := ⟨_, rfl⟩
  rw [← hX] at hB hW ⊢
  clear hX
  have q0 := hB.cell 0
  have q1 := hB.cell 1
  have q2 := hB.cell 2
  have q3 := hB.cell 3
  have q4 := hB.cell 4
  have q5 := hB.cell 5
  have q6 := hB.cell 6
  have q7 := hB.cell 7
  have q8 := hB.cell 8
  have q9 := hB.cell 9
  have q10 := hB.cell 10
  simp only [List.getElem?_cons_zero, List.getElem?_cons_succ] at q0 q1 q2 q3 q4 q5 q6 q7 q8 q9 q10
  cases sm with
  | false =>
    go_wp2_with (first
      | (go_at_call 10; with_reducible refine (ch _).mono ?_; rintro e w1 ⟨rfl, hb⟩; replace hW := below_call hW hb; clear hb)
      | (go_at_call 11; with_reducible refine (ca _ hW).mono ?_; rintro e w2 ⟨rfl, hb⟩))
    go_ret
    exact ⟨rfl, below_call hW hb⟩
  | true =>
    go_wp2_with (go_at_call 10; with_reducible refine (ch _).mono ?_; rintro e w1 ⟨rfl, hb⟩; replace hW := below_call hW hb; replace hB := hB.below hb; clear hb ch; clear q0 q1 q2 q3 q4 q5 q6 q7 q8 q9 q10; have q0 := hB.cell 0; have q1 := hB.cell 1; have q2 := hB.cell 2; have q3 := hB.cell 3; have q4 := hB.cell 4; have q5 := hB.cell 5; have q6 := hB.cell 6; have q7 := hB.cell 7; have q8 := hB.cell 8; have q9 := hB.cell 9; have q10 := hB.cell 10; simp only [List.getElem?_cons_zero, List.getElem?_cons_succ] at q0 q1 q2 q3 q4 q5 q6 q7 q8 q9 q10)
    ((with_reducible refine (aspath_f m p0 m.cs.length c0 bl pl bl.length kl c a.1 a.2 b.1 b.2 w1 (hG.below hW)).mono ?_); rintro e w2 ⟨s1, s2, s3, ab, e1, rfl, hb, hp1⟩)
    replace hB := hB.below hb
    replace hW := below_call hW hb
    clear hb q0 q1 q2 q3 q4 q5 q6 q7 q8 q9 q10
    have q0 := hB.cell 0
    have q1 := hB.cell 1
    have q2 := hB.cell 2
    have q3 := hB.cell 3
    have q4 := hB.cell 4
    have q5 := hB.cell 5
    have q6 := hB.cell 6
    have q7 := hB.cell 7
    have q8 := hB.cell 8
    have q9 := hB.cell 9
    have q10 := hB.cell 10
    simp only [List.getElem?_cons_zero, List.getElem?_cons_succ] at q0 q1 q2 q3 q4 q5 q6 q7 q8 q9 q10
    by_cases h1 : e1 = 0 ∨ e1 = 22
    · have hmx : Tryd.prog.follows .mixedOrders = true := by kernel_rfl
      have hok : okA m c a b = true := by
        rcases h1 with e | e
        · exact (hp1.good e).1
        · exact (hp1.none_ e).1
      unfold okA at hok
      simp only [Bool.and_eq_true] at hok
      have hv : Hid (true = (validm m && classv c)) := hid (by rw [hok.1.1.1, hok.1.1.2]; rfl)
      have hf := classv_of hv.out.symm
      obtain ⟨m1, i1⟩ := law_idx hf hok.1.2
      obtain ⟨m2, i2⟩ := law_idx hf hok.2
      have la := (posn_idx hf hok.1.2).2.1
      have lb := (posn_idx hf hok.2).2.1
      have ht := fun (R : List Int) (hR : Regs (nb m bl c) m.cs.length (opn m bl c) m.cs.length R) => regs_told hp1 h1 hR
      obtain ⟨ia, hia⟩ : ∃ ia, Hid (ia = idx m a) := ⟨_, hid rfl⟩
      obtain ⟨ib, hib⟩ : ∃ ib, Hid (ib = idx m b) := ⟨_, hid rfl⟩
      rw [← hia.out] at i1 la ht
      rw [← hib.out] at i2 lb ht
      have cr := asregs_b m p0 m.cs.length c0 bl pl bl.length kl c m.cs.length true w2 (hG.below hW) (hid rfl) hv
      clear hp1
      rcases h1 with rfl | rfl
      · go_wp2_with fail
        ((with_reducible refine cr.mono ?_); rintro e w3 hx)
        rcases hx with ⟨h, _⟩ | ⟨_, rb, R, rfl, _, hBk, hR, hb⟩
        · cases h
        · obtain ⟨t1, t2, t3⟩ := ht R hR
          have gA := ints_at (D := R) (i := ia) (by rw [hR.len]; exact la)
          have gB := ints_at (D := R) (i := ib) (by rw [hR.len]; exact lb)
          obtain ⟨rA, hrA⟩ : ∃ rA, Hid (rA = ga R ia) := ⟨_, hid rfl⟩
          obtain ⟨rB, hrB⟩ : ∃ rB, Hid (rB = ga R ib) := ⟨_, hid rfl⟩
          rw [← hrA.out] at gA t1 t2 t3
          rw [← hrB.out] at gB t3
          have cA := hBk.cell ia
          have cB := hBk.cell ib
          rw [gA] at cA
          rw [gB] at cB
          have y1 : decide ((0 : Int) ≤ rA) = true := decide_eq_true t1
          have y2 : decide (rA ≤ (ia : Int)) = true := decide_eq_true t2
          have y3 : (rA == rB) = true := beq_iff_eq.2 (t3.1 (by simp))
          have y4 : decide ((m.cs.length : Int) ≤ (ia : Int)) = false := decide_eq_false (by omega)
          have y5 : decide ((m.cs.length : Int) ≤ (ib : Int)) = false := decide_eq_false (by omega)
          have y6 : decide ((ia : Int) < 0) = false := decide_eq_false (by omega)
          have y7 : decide ((ib : Int) < 0) = false := decide_eq_false (by omega)
          have y8 : (ia : Int) < (m.cs.length : Int) := by omega
          have y9 : (ib : Int) < (m.cs.length : Int) := by omega
          have yA : (0 : Int) ≤ (ia : Int) := by omega
          have yB : (0 : Int) ≤ (ib : Int) := by omega
          replace hB := hB.below hb
          replace hW := below_call hW hb
          clear hb t1 t2 t3 gA gB hBk hR hok hv hf la lb ht cr q0 q1 q2 q3 q4 q5 q6 q7 q8 q9 q10
          have q0 := hB.cell 0
          have q1 := hB.cell 1
          have q2 := hB.cell 2
          have q3 := hB.cell 3
          have q4 := hB.cell 4
          have q5 := hB.cell 5
          have q6 := hB.cell 6
          have q7 := hB.cell 7
          have q8 := hB.cell 8
          have q9 := hB.cell 9
          have q10 := hB.cell 10
          simp only [List.getElem?_cons_zero, List.getElem?_cons_succ] at q0 q1 q2 q3 q4 q5 q6 q7 q8 q9 q10
          go_upto_region 7 with fail
          refine wp_onlyN (wp_region_held (S := fun w' => Below w3.heap.size w3 w') hmx ?_)
          show wpAnyH _ _ _ _ _ _ _ _ w3.drew
          have hS0 := (Below.refl w3.heap.size w3).drew
          refine reg_tk (i := 0) (v := .pointer (some ⟨W.heap.size, 5, none⟩)) (some 42) rfl (fun w' hS => by (skip); go_simp) hS0 ?_
          try simp only [Act.put, List.setIfInBounds_toArray, List.set_cons_zero, List.set_cons_succ]
          refine reg_tk (i := 1) (v := .pointer (some ⟨W.heap.size, 6, none⟩)) (some 43) rfl (fun w' hS => by (skip); go_simp) hS0 ?_
          try simp only [Act.put, List.setIfInBounds_toArray, List.set_cons_zero, List.set_cons_succ]
          refine reg_tk (i := 2) (v := .int .i64 a.2) (some 44) rfl (fun w' hS => by (have c6 := (hB.below hS).cell 6; simp only [List.getElem?_cons_zero, List.getElem?_cons_succ] at c6); go_simp) hS0 ?_
          try simp only [Act.put, List.setIfInBounds_toArray, List.set_cons_zero, List.set_cons_succ]
          refine reg_tk (i := 3) (v := .pointer (some ⟨W.heap.size, 0, none⟩)) (some 45) rfl (fun w' hS => by (skip); go_simp) hS0 ?_
          try simp only [Act.put, List.setIfInBounds_toArray, List.set_cons_zero, List.set_cons_succ]
          refine reg_tk (i := 4) (v := .pointer (some ⟨W.heap.size, 0, none⟩)) (some 46) rfl (fun w' hS => by (skip); go_simp) hS0 ?_
          try simp only [Act.put, List.setIfInBounds_toArray, List.set_cons_zero, List.set_cons_succ]
          refine reg_tk (i := 5) (v := .int .i64 m.w) (some 47) rfl (fun w' hS => by (have c0 := (hB.below hS).cell 0; simp only [List.getElem?_cons_zero] at c0); go_simp) hS0 ?_
          try simp only [Act.put, List.setIfInBounds_toArray, List.set_cons_zero, List.set_cons_succ]
          refine reg_tk (i := 6) (v := .int .i64 (a.2 * m.w)) (some 48) rfl (fun w' hS => by (skip); go_simp) hS0 ?_
          try simp only [Act.put, List.setIfInBounds_toArray, List.set_cons_zero, List.set_cons_succ]
          refine reg_tk (i := 7) (v := .pointer (some ⟨W.heap.size, 5, none⟩)) (some 49) rfl (fun w' hS => by (skip); go_simp) hS0 ?_
          try simp only [Act.put, List.setIfInBounds_toArray, List.set_cons_zero, List.set_cons_succ]
          refine reg_tk (i := 8) (v := .pointer (some ⟨W.heap.size, 5, none⟩)) (some 50) rfl (fun w' hS => by (skip); go_simp) hS0 ?_
          try simp only [Act.put, List.setIfInBounds_toArray, List.set_cons_zero, List.set_cons_succ]
          refine reg_tk (i := 9) (v := .int .i64 a.1) (some 51) rfl (fun w' hS => by (have c5 := (hB.below hS).cell 5; simp only [List.getElem?_cons_zero, List.getElem?_cons_succ] at c5); go_simp) hS0 ?_
          try simp only [Act.put, List.setIfInBounds_toArray, List.set_cons_zero, List.set_cons_succ]
          refine reg_tk (i := 10) (v := .int .i64 ia) (some 52) rfl (fun w' hS => by (skip); go_simp) hS0 ?_
          try simp only [Act.put, List.setIfInBounds_toArray, List.set_cons_zero, List.set_cons_succ]
          refine reg_tk (i := 11) (v := .pointer (some ⟨W.heap.size, 7, none⟩)) (some 53) rfl (fun w' hS => by (skip); go_simp) hS0 ?_
          try simp only [Act.put, List.setIfInBounds_toArray, List.set_cons_zero, List.set_cons_succ]
          refine reg_tk (i := 12) (v := .pointer (some ⟨W.heap.size, 8, none⟩)) (some 54) rfl (fun w' hS => by (skip); go_simp) hS0 ?_
          try simp only [Act.put, List.setIfInBounds_toArray, List.set_cons_zero, List.set_cons_succ]
          refine reg_tk (i := 13) (v := .int .i64 b.2) (some 55) rfl (fun w' hS => by (have c8 := (hB.below hS).cell 8; simp only [List.getElem?_cons_zero, List.getElem?_cons_succ] at c8); go_simp) hS0 ?_
          try simp only [Act.put, List.setIfInBounds_toArray, List.set_cons_zero, List.set_cons_succ]
          refine reg_tk (i := 14) (v := .pointer (some ⟨W.heap.size, 0, none⟩)) (some 56) rfl (fun w' hS => by (skip); go_simp) hS0 ?_
          try simp only [Act.put, List.setIfInBounds_toArray, List.set_cons_zero, List.set_cons_succ]
          refine reg_tk (i := 15) (v := .pointer (some ⟨W.heap.size, 0, none⟩)) (some 57) rfl (fun w' hS => by (skip); go_simp) hS0 ?_
          try simp only [Act.put, List.setIfInBounds_toArray, List.set_cons_zero, List.set_cons_succ]
          refine reg_tk (i := 16) (v := .int .i64 m.w) (some 58) rfl (fun w' hS => by (have c0 := (hB.below hS).cell 0; simp only [List.getElem?_cons_zero] at c0); go_simp) hS0 ?_
          try simp only [Act.put, List.setIfInBounds_toArray, List.set_cons_zero, List.set_cons_succ]
          refine reg_tk (i := 17) (v := .int .i64 (b.2 * m.w)) (some 59) rfl (fun w' hS => by (skip); go_simp) hS0 ?_
          try simp only [Act.put, List.setIfInBounds_toArray, List.set_cons_zero, List.set_cons_succ]
          refine reg_tk (i := 18) (v := .pointer (some ⟨W.heap.size, 7, none⟩)) (some 60) rfl (fun w' hS => by (skip); go_simp) hS0 ?_
          try simp only [Act.put, List.setIfInBounds_toArray, List.set_cons_zero, List.set_cons_succ]
          refine reg_tk (i := 19) (v := .pointer (some ⟨W.heap.size, 7, none⟩)) (some 61) rfl (fun w' hS => by (skip); go_simp) hS0 ?_
          try simp only [Act.put, List.setIfInBounds_toArray, List.set_cons_zero, List.set_cons_succ]
          refine reg_tk (i := 20) (v := .int .i64 b.1) (some 62) rfl (fun w' hS => by (have c7 := (hB.below hS).cell 7; simp only [List.getElem?_cons_zero, List.getElem?_cons_succ] at c7); go_simp) hS0 ?_
          try simp only [Act.put, List.setIfInBounds_toArray, List.set_cons_zero, List.set_cons_succ]
          refine reg_tk (i := 21) (v := .int .i64 ib) (some 63) rfl (fun w' hS => by (skip); go_simp) hS0 ?_
          try simp only [Act.put, List.setIfInBounds_toArray, List.set_cons_zero, List.set_cons_succ]
          refine reg_tk (i := 22) (v := .int .i64 ia) (some 7) rfl (fun w' hS => by (skip); go_simp) hS0 ?_
          try simp only [Act.put, List.setIfInBounds_toArray, List.set_cons_zero, List.set_cons_succ]
          refine reg_tk (i := 23) (v := .int .i64 ib) (some 8) rfl (fun w' hS => by (skip); go_simp) hS0 ?_
          try simp only [Act.put, List.setIfInBounds_toArray, List.set_cons_zero, List.set_cons_succ]
          refine wpAnyH_done (by kernel_rfl) ?_ _
          simp only [onlyN]
          replace hW := hW.drew
          clear hS0
          replace hB := hB.drew
          replace cA : w3.drew.cell? ⟨rb, ia, none⟩ = some (.int .i64 rA) := cA
          replace cB : w3.drew.cell? ⟨rb, ib, none⟩ = some (.int .i64 rB) := cB
          obtain ⟨Z, hZ⟩ : ∃ Z, Z = w3.drew := ⟨_, rfl⟩
          rw [← hZ] at hB cA cB hW ⊢
          clear hZ q0 q1 q2 q3 q4 q5 q6 q7 q8 q9 q10
          have hkb := World.block_lt_of_cell? Z _ cA
          go_upto_region 10 with fail
          refine wp_onlyN (wp_region_held (S := fun w' => Below Z.heap.size Z w') hmx ?_)
          show wpAnyH _ _ _ _ _ _ _ _ Z.drew
          have hS0 := (Below.refl Z.heap.size Z).drew
          refine reg_tk (i := 0) (v := .slice (some ⟨rb, 0, none⟩) m.cs.length m.cs.length) (some 82) rfl (fun w' hS => by (skip); go_simp) hS0 ?_
          try simp only [Act.put, List.setIfInBounds_toArray, List.set_cons_zero, List.set_cons_succ]
          refine reg_tk (i := 1) (v := .int .i64 m.cs.length) (some 83) rfl (fun w' hS => by (skip); go_simp) hS0 ?_
          try simp only [Act.put, List.setIfInBounds_toArray, List.set_cons_zero, List.set_cons_succ]
          refine reg_tk (i := 2) (v := .pointer (some ⟨W.heap.size, 0, none⟩)) (some 84) rfl (fun w' hS => by (skip); go_simp) hS0 ?_
          try simp only [Act.put, List.setIfInBounds_toArray, List.set_cons_zero, List.set_cons_succ]
          refine reg_tk (i := 3) (v := .pointer (some ⟨W.heap.size, 2, none⟩)) (some 85) rfl (fun w' hS => by (skip); go_simp) hS0 ?_
          try simp only [Act.put, List.setIfInBounds_toArray, List.set_cons_zero, List.set_cons_succ]
          refine reg_tk (i := 4) (v := .slice p0 m.cs.length c0) (some 86) rfl (fun w' hS => by (have c0 := (hB.below hS).cell 2; simp only [List.getElem?_cons_zero, List.getElem?_cons_succ] at c0); go_simp) hS0 ?_
          try simp only [Act.put, List.setIfInBounds_toArray, List.set_cons_zero, List.set_cons_succ]
          refine reg_tk (i := 5) (v := .int .i64 m.cs.length) (some 87) rfl (fun w' hS => by (skip); go_simp) hS0 ?_
          try simp only [Act.put, List.setIfInBounds_toArray, List.set_cons_zero, List.set_cons_succ]
          refine reg_tk (i := 6) (v := .bool true) (some 88) rfl (fun w' hS => by (skip); go_simp) hS0 ?_
          try simp only [Act.put, List.setIfInBounds_toArray, List.set_cons_zero, List.set_cons_succ]
          refine reg_tk (i := 7) (v := .bool true) (some 89) rfl (fun w' hS => by (skip); go_simp) hS0 ?_
          try simp only [Act.put, List.setIfInBounds_toArray, List.set_cons_zero, List.set_cons_succ]
          refine reg_tk (i := 8) (v := .slice (some ⟨rb, 0, none⟩) m.cs.length m.cs.length) (some 90) rfl (fun w' hS => by (skip); go_simp) hS0 ?_
          try simp only [Act.put, List.setIfInBounds_toArray, List.set_cons_zero, List.set_cons_succ]
          refine reg_tk (i := 9) (v := .int .i64 ia) (some 91) rfl (fun w' hS => by (skip); go_simp) hS0 ?_
          try simp only [Act.put, List.setIfInBounds_toArray, List.set_cons_zero, List.set_cons_succ]
          refine reg_tk (i := 10) (v := .pointer (some ⟨rb, ia, none⟩)) (some 92) rfl (fun w' hS => by (skip); go_simp) hS0 ?_
          try simp only [Act.put, List.setIfInBounds_toArray, List.set_cons_zero, List.set_cons_succ]
          refine reg_tk (i := 11) (v := .int .i64 rA) (some 93) rfl (fun w' hS => by (have c0 := (hS.cell (p := ⟨rb, ia, none⟩) hkb).trans cA); go_simp) hS0 ?_
          try simp only [Act.put, List.setIfInBounds_toArray, List.set_cons_zero, List.set_cons_succ]
          refine reg_tk (i := 12) (v := .bool true) (some 94) rfl (fun w' hS => by (skip); go_simp) hS0 ?_
          try simp only [Act.put, List.setIfInBounds_toArray, List.set_cons_zero, List.set_cons_succ]
          refine reg_tk (i := 13) (v := .bool true) (some 95) rfl (fun w' hS => by (skip); go_simp) hS0 ?_
          try simp only [Act.put, List.setIfInBounds_toArray, List.set_cons_zero, List.set_cons_succ]
          refine reg_tk (i := 14) (v := .bool true) (some 96) rfl (fun w' hS => by (skip); go_simp) hS0 ?_
          try simp only [Act.put, List.setIfInBounds_toArray, List.set_cons_zero, List.set_cons_succ]
          refine reg_tk (i := 15) (v := .slice (some ⟨rb, 0, none⟩) m.cs.length m.cs.length) (some 97) rfl (fun w' hS => by (skip); go_simp) hS0 ?_
          try simp only [Act.put, List.setIfInBounds_toArray, List.set_cons_zero, List.set_cons_succ]
          refine reg_tk (i := 16) (v := .int .i64 ia) (some 98) rfl (fun w' hS => by (skip); go_simp) hS0 ?_
          try simp only [Act.put, List.setIfInBounds_toArray, List.set_cons_zero, List.set_cons_succ]
          refine reg_tk (i := 17) (v := .pointer (some ⟨rb, ia, none⟩)) (some 99) rfl (fun w' hS => by (skip); go_simp) hS0 ?_
          try simp only [Act.put, List.setIfInBounds_toArray, List.set_cons_zero, List.set_cons_succ]
          refine reg_tk (i := 18) (v := .int .i64 rA) (some 100) rfl (fun w' hS => by (have c0 := (hS.cell (p := ⟨rb, ia, none⟩) hkb).trans cA); go_simp) hS0 ?_
          try simp only [Act.put, List.setIfInBounds_toArray, List.set_cons_zero, List.set_cons_succ]
          refine reg_tk (i := 19) (v := .slice (some ⟨rb, 0, none⟩) m.cs.length m.cs.length) (some 101) rfl (fun w' hS => by (skip); go_simp) hS0 ?_
          try simp only [Act.put, List.setIfInBounds_toArray, List.set_cons_zero, List.set_cons_succ]
          refine reg_tk (i := 20) (v := .int .i64 ib) (some 102) rfl (fun w' hS => by (skip); go_simp) hS0 ?_
          try simp only [Act.put, List.setIfInBounds_toArray, List.set_cons_zero, List.set_cons_succ]
          refine reg_tk (i := 21) (v := .pointer (some ⟨rb, ib, none⟩)) (some 103) rfl (fun w' hS => by (skip); go_simp) hS0 ?_
          try simp only [Act.put, List.setIfInBounds_toArray, List.set_cons_zero, List.set_cons_succ]
          refine reg_tk (i := 22) (v := .int .i64 rB) (some 104) rfl (fun w' hS => by (have c0 := (hS.cell (p := ⟨rb, ib, none⟩) hkb).trans cB); go_simp) hS0 ?_
          try simp only [Act.put, List.setIfInBounds_toArray, List.set_cons_zero, List.set_cons_succ]
          refine reg_tk (i := 23) (v := .bool true) (some 105) rfl (fun w' hS => by (skip); go_simp) hS0 ?_
          try simp only [Act.put, List.setIfInBounds_toArray, List.set_cons_zero, List.set_cons_succ]
          refine reg_tk (i := 24) (v := .int .i64 0) (some 106) rfl (fun w' hS => by (skip); go_simp) hS0 ?_
          try simp only [Act.put, List.setIfInBounds_toArray, List.set_cons_zero, List.set_cons_succ]
          refine reg_tk (i := 25) (v := .bool true) (some 107) rfl (fun w' hS => by (skip); go_simp) hS0 ?_
          try simp only [Act.put, List.setIfInBounds_toArray, List.set_cons_zero, List.set_cons_succ]
          refine reg_tk (i := 26) (v := .bool true) (some 108) rfl (fun w' hS => by (skip); go_simp) hS0 ?_
          try simp only [Act.put, List.setIfInBounds_toArray, List.set_cons_zero, List.set_cons_succ]
          refine reg_tk (i := 27) (v := .bool true) (some 109) rfl (fun w' hS => by (skip); go_simp) hS0 ?_
          try simp only [Act.put, List.setIfInBounds_toArray, List.set_cons_zero, List.set_cons_succ]
          refine reg_tk (i := 28) (v := .bool true) (some 110) rfl (fun w' hS => by (skip); go_simp) hS0 ?_
          try simp only [Act.put, List.setIfInBounds_toArray, List.set_cons_zero, List.set_cons_succ]
          refine reg_tk (i := 29) (v := .slice (some ⟨rb, 0, none⟩) m.cs.length m.cs.length) (some 111) rfl (fun w' hS => by (skip); go_simp) hS0 ?_
          try simp only [Act.put, List.setIfInBounds_toArray, List.set_cons_zero, List.set_cons_succ]
          refine reg_tk (i := 30) (v := .int .i64 ia) (some 112) rfl (fun w' hS => by (skip); go_simp) hS0 ?_
          try simp only [Act.put, List.setIfInBounds_toArray, List.set_cons_zero, List.set_cons_succ]
          refine reg_tk (i := 31) (v := .pointer (some ⟨rb, ia, none⟩)) (some 113) rfl (fun w' hS => by (skip); go_simp) hS0 ?_
          try simp only [Act.put, List.setIfInBounds_toArray, List.set_cons_zero, List.set_cons_succ]
          refine reg_tk (i := 32) (v := .int .i64 rA) (some 114) rfl (fun w' hS => by (have c0 := (hS.cell (p := ⟨rb, ia, none⟩) hkb).trans cA); go_simp) hS0 ?_
          try simp only [Act.put, List.setIfInBounds_toArray, List.set_cons_zero, List.set_cons_succ]
          refine reg_tk (i := 33) (v := .int .i64 ia) (some 115) rfl (fun w' hS => by (skip); go_simp) hS0 ?_
          try simp only [Act.put, List.setIfInBounds_toArray, List.set_cons_zero, List.set_cons_succ]
          refine reg_tk (i := 34) (v := .bool true) (some 116) rfl (fun w' hS => by (skip); go_simp) hS0 ?_
          try simp only [Act.put, List.setIfInBounds_toArray, List.set_cons_zero, List.set_cons_succ]
          refine reg_tk (i := 35) (v := .bool true) (some 117) rfl (fun w' hS => by (skip); go_simp) hS0 ?_
          try simp only [Act.put, List.setIfInBounds_toArray, List.set_cons_zero, List.set_cons_succ]
          refine reg_tk (i := 36) (v := .bool true) (some 118) rfl (fun w' hS => by (skip); go_simp) hS0 ?_
          try simp only [Act.put, List.setIfInBounds_toArray, List.set_cons_zero, List.set_cons_succ]
          refine held_one (i := 37) (by kernel_rfl) rfl (fun K hQ => ?_)
          rw [if_pos (show Region.wanted _ _ = true by kernel_rfl)]
          go_simp
          ((with_reducible refine (ca _ (below_call hW hS0)).mono ?_); rintro e w9 ⟨rfl, hb9⟩)
          have hS1 := below_call hS0 hb9
          clear hb9
          refine hQ.out _ _ hS1 ?_
          clear hQ
          try simp only [Act.put, List.setIfInBounds_toArray, List.set_cons_zero, List.set_cons_succ]
          refine reg_tk (i := 38) (v := .bool true) (some 120) rfl (fun w' hS => by (skip); go_simp) hS1 ?_
          try simp only [Act.put, List.setIfInBounds_toArray, List.set_cons_zero, List.set_cons_succ]
          refine reg_tk (i := 39) (v := .bool true) (some 2) rfl (fun w' hS => by (skip); go_simp) hS1 ?_
          try simp only [Act.put, List.setIfInBounds_toArray, List.set_cons_zero, List.set_cons_succ]
          refine wpAnyH_done (by kernel_rfl) ?_ _
          try simp only [onlyN]
          go_wp2_with fail
          go_ret
          exact ⟨rfl, below_call hW hS1⟩
      · go_wp2_with fail
        ((with_reducible refine cr.mono ?_); rintro e w3 hx)
        rcases hx with ⟨h, _⟩ | ⟨_, rb, R, rfl, _, hBk, hR, hb⟩
        · cases h
        · obtain ⟨t1, t2, t3⟩ := ht R hR
          have gA := ints_at (D := R) (i := ia) (by rw [hR.len]; exact la)
          have gB := ints_at (D := R) (i := ib) (by rw [hR.len]; exact lb)
          obtain ⟨rA, hrA⟩ : ∃ rA, Hid (rA = ga R ia) := ⟨_, hid rfl⟩
          obtain ⟨rB, hrB⟩ : ∃ rB, Hid (rB = ga R ib) := ⟨_, hid rfl⟩
          rw [← hrA.out] at gA t1 t2 t3
          rw [← hrB.out] at gB t3
          have cA := hBk.cell ia
          have cB := hBk.cell ib
          rw [gA] at cA
          rw [gB] at cB
          have y1 : decide ((0 : Int) ≤ rA) = true := decide_eq_true t1
          have y2 : decide (rA ≤ (ia : Int)) = true := decide_eq_true t2
          have y3 : (rA == rB) = false := beq_eq_false_iff_ne.2 (fun h => absurd (t3.2 h) (by decide))
          have y4 : decide ((m.cs.length : Int) ≤ (ia : Int)) = false := decide_eq_false (by omega)
          have y5 : decide ((m.cs.length : Int) ≤ (ib : Int)) = false := decide_eq_false (by omega)
          have y6 : decide ((ia : Int) < 0) = false := decide_eq_false (by omega)
          have y7 : decide ((ib : Int) < 0) = false := decide_eq_false (by omega)
          have y8 : (ia : Int) < (m.cs.length : Int) := by omega
          have y9 : (ib : Int) < (m.cs.length : Int) := by omega
          have yA : (0 : Int) ≤ (ia : Int) := by omega
          have yB : (0 : Int) ≤ (ib : Int) := by omega
          replace hB := hB.below hb
          replace hW := below_call hW hb
          clear hb t1 t2 t3 gA gB hBk hR hok hv hf la lb ht cr q0 q1 q2 q3 q4 q5 q6 q7 q8 q9 q10
          have q0 := hB.cell 0
          have q1 := hB.cell 1
          have q2 := hB.cell 2
          have q3 := hB.cell 3
          have q4 := hB.cell 4
          have q5 := hB.cell 5
          have q6 := hB.cell 6
          have q7 := hB.cell 7
          have q8 := hB.cell 8
          have q9 := hB.cell 9
          have q10 := hB.cell 10
          simp only [List.getElem?_cons_zero, List.getElem?_cons_succ] at q0 q1 q2 q3 q4 q5 q6 q7 q8 q9 q10
          go_upto_region 7 with fail
          refine wp_onlyN (wp_region_held (S := fun w' => Below w3.heap.size w3 w') hmx ?_)
          show wpAnyH _ _ _ _ _ _ _ _ w3.drew
          have hS0 := (Below.refl w3.heap.size w3).drew
          refine reg_tk (i := 0) (v := .pointer (some ⟨W.heap.size, 5, none⟩)) (some 42) rfl (fun w' hS => by (skip); go_simp) hS0 ?_
          try simp only [Act.put, List.setIfInBounds_toArray, List.set_cons_zero, List.set_cons_succ]
          refine reg_tk (i := 1) (v := .pointer (some ⟨W.heap.size, 6, none⟩)) (some 43) rfl (fun w' hS => by (skip); go_simp) hS0 ?_
          try simp only [Act.put, List.setIfInBounds_toArray, List.set_cons_zero, List.set_cons_succ]
          refine reg_tk (i := 2) (v := .int .i64 a.2) (some 44) rfl (fun w' hS => by (have c6 := (hB.below hS).cell 6; simp only [List.getElem?_cons_zero, List.getElem?_cons_succ] at c6); go_simp) hS0 ?_
          try simp only [Act.put, List.setIfInBounds_toArray, List.set_cons_zero, List.set_cons_succ]
          refine reg_tk (i := 3) (v := .pointer (some ⟨W.heap.size, 0, none⟩)) (some 45) rfl (fun w' hS => by (skip); go_simp) hS0 ?_
          try simp only [Act.put, List.setIfInBounds_toArray, List.set_cons_zero, List.set_cons_succ]
          refine reg_tk (i := 4) (v := .pointer (some ⟨W.heap.size, 0, none⟩)) (some 46) rfl (fun w' hS => by (skip); go_simp) hS0 ?_
          try simp only [Act.put, List.setIfInBounds_toArray, List.set_cons_zero, List.set_cons_succ]
          refine reg_tk (i := 5) (v := .int .i64 m.w) (some 47) rfl (fun w' hS => by (have c0 := (hB.below hS).cell 0; simp only [List.getElem?_cons_zero] at c0); go_simp) hS0 ?_
          try simp only [Act.put, List.setIfInBounds_toArray, List.set_cons_zero, List.set_cons_succ]
          refine reg_tk (i := 6) (v := .int .i64 (a.2 * m.w)) (some 48) rfl (fun w' hS => by (skip); go_simp) hS0 ?_
          try simp only [Act.put, List.setIfInBounds_toArray, List.set_cons_zero, List.set_cons_succ]
          refine reg_tk (i := 7) (v := .pointer (some ⟨W.heap.size, 5, none⟩)) (some 49) rfl (fun w' hS => by (skip); go_simp) hS0 ?_
          try simp only [Act.put, List.setIfInBounds_toArray, List.set_cons_zero, List.set_cons_succ]
          refine reg_tk (i := 8) (v := .pointer (some ⟨W.heap.size, 5, none⟩)) (some 50) rfl (fun w' hS => by (skip); go_simp) hS0 ?_
          try simp only [Act.put, List.setIfInBounds_toArray, List.set_cons_zero, List.set_cons_succ]
          refine reg_tk (i := 9) (v := .int .i64 a.1) (some 51) rfl (fun w' hS => by (have c5 := (hB.below hS).cell 5; simp only [List.getElem?_cons_zero, List.getElem?_cons_succ] at c5); go_simp) hS0 ?_
          try simp only [Act.put, List.setIfInBounds_toArray, List.set_cons_zero, List.set_cons_succ]
          refine reg_tk (i := 10) (v := .int .i64 ia) (some 52) rfl (fun w' hS => by (skip); go_simp) hS0 ?_
          try simp only [Act.put, List.setIfInBounds_toArray, List.set_cons_zero, List.set_cons_succ]
          refine reg_tk (i := 11) (v := .pointer (some ⟨W.heap.size, 7, none⟩)) (some 53) rfl (fun w' hS => by (skip); go_simp) hS0 ?_
          try simp only [Act.put, List.setIfInBounds_toArray, List.set_cons_zero, List.set_cons_succ]
          refine reg_tk (i := 12) (v := .pointer (some ⟨W.heap.size, 8, none⟩)) (some 54) rfl (fun w' hS => by (skip); go_simp) hS0 ?_
          try simp only [Act.put, List.setIfInBounds_toArray, List.set_cons_zero, List.set_cons_succ]
          refine reg_tk (i := 13) (v := .int .i64 b.2) (some 55) rfl (fun w' hS => by (have c8 := (hB.below hS).cell 8; simp only [List.getElem?_cons_zero, List.getElem?_cons_succ] at c8); go_simp) hS0 ?_
          try simp only [Act.put, List.setIfInBounds_toArray, List.set_cons_zero, List.set_cons_succ]
          refine reg_tk (i := 14) (v := .pointer (some ⟨W.heap.size, 0, none⟩)) (some 56) rfl (fun w' hS => by (skip); go_simp) hS0 ?_
          try simp only [Act.put, List.setIfInBounds_toArray, List.set_cons_zero, List.set_cons_succ]
          refine reg_tk (i := 15) (v := .pointer (some ⟨W.heap.size, 0, none⟩)) (some 57) rfl (fun w' hS => by (skip); go_simp) hS0 ?_
          try simp only [Act.put, List.setIfInBounds_toArray, List.set_cons_zero, List.set_cons_succ]
          refine reg_tk (i := 16) (v := .int .i64 m.w) (some 58) rfl (fun w' hS => by (have c0 := (hB.below hS).cell 0; simp only [List.getElem?_cons_zero] at c0); go_simp) hS0 ?_
          try simp only [Act.put, List.setIfInBounds_toArray, List.set_cons_zero, List.set_cons_succ]
          refine reg_tk (i := 17) (v := .int .i64 (b.2 * m.w)) (some 59) rfl (fun w' hS => by (skip); go_simp) hS0 ?_
          try simp only [Act.put, List.setIfInBounds_toArray, List.set_cons_zero, List.set_cons_succ]
          refine reg_tk (i := 18) (v := .pointer (some ⟨W.heap.size, 7, none⟩)) (some 60) rfl (fun w' hS => by (skip); go_simp) hS0 ?_
          try simp only [Act.put, List.setIfInBounds_toArray, List.set_cons_zero, List.set_cons_succ]
          refine reg_tk (i := 19) (v := .pointer (some ⟨W.heap.size, 7, none⟩)) (some 61) rfl (fun w' hS => by (skip); go_simp) hS0 ?_
          try simp only [Act.put, List.setIfInBounds_toArray, List.set_cons_zero, List.set_cons_succ]
          refine reg_tk (i := 20) (v := .int .i64 b.1) (some 62) rfl (fun w' hS => by (have c7 := (hB.below hS).cell 7; simp only [List.getElem?_cons_zero, List.getElem?_cons_succ] at c7); go_simp) hS0 ?_
          try simp only [Act.put, List.setIfInBounds_toArray, List.set_cons_zero, List.set_cons_succ]
          refine reg_tk (i := 21) (v := .int .i64 ib) (some 63) rfl (fun w' hS => by (skip); go_simp) hS0 ?_
          try simp only [Act.put, List.setIfInBounds_toArray, List.set_cons_zero, List.set_cons_succ]
          refine reg_tk (i := 22) (v := .int .i64 ia) (some 7) rfl (fun w' hS => by (skip); go_simp) hS0 ?_
          try simp only [Act.put, List.setIfInBounds_toArray, List.set_cons_zero, List.set_cons_succ]
          refine reg_tk (i := 23) (v := .int .i64 ib) (some 8) rfl (fun w' hS => by (skip); go_simp) hS0 ?_
          try simp only [Act.put, List.setIfInBounds_toArray, List.set_cons_zero, List.set_cons_succ]
          refine wpAnyH_done (by kernel_rfl) ?_ _
          simp only [onlyN]
          replace hW := hW.drew
          clear hS0
          replace hB := hB.drew
          replace cA : w3.drew.cell? ⟨rb, ia, none⟩ = some (.int .i64 rA) := cA
          replace cB : w3.drew.cell? ⟨rb, ib, none⟩ = some (.int .i64 rB) := cB
          obtain ⟨Z, hZ⟩ : ∃ Z, Z = w3.drew := ⟨_, rfl⟩
          rw [← hZ] at hB cA cB hW ⊢
          clear hZ q0 q1 q2 q3 q4 q5 q6 q7 q8 q9 q10
          have hkb := World.block_lt_of_cell? Z _ cA
          go_upto_region 10 with fail
          refine wp_onlyN (wp_region_held (S := fun w' => Below Z.heap.size Z w') hmx ?_)
          show wpAnyH _ _ _ _ _ _ _ _ Z.drew
          have hS0 := (Below.refl Z.heap.size Z).drew
          refine reg_tk (i := 0) (v := .slice (some ⟨rb, 0, none⟩) m.cs.length m.cs.length) (some 82) rfl (fun w' hS => by (skip); go_simp) hS0 ?_
          try simp only [Act.put, List.setIfInBounds_toArray, List.set_cons_zero, List.set_cons_succ]
          refine reg_tk (i := 1) (v := .int .i64 m.cs.length) (some 83) rfl (fun w' hS => by (skip); go_simp) hS0 ?_
          try simp only [Act.put, List.setIfInBounds_toArray, List.set_cons_zero, List.set_cons_succ]
          refine reg_tk (i := 2) (v := .pointer (some ⟨W.heap.size, 0, none⟩)) (some 84) rfl (fun w' hS => by (skip); go_simp) hS0 ?_
          try simp only [Act.put, List.setIfInBounds_toArray, List.set_cons_zero, List.set_cons_succ]
          refine reg_tk (i := 3) (v := .pointer (some ⟨W.heap.size, 2, none⟩)) (some 85) rfl (fun w' hS => by (skip); go_simp) hS0 ?_
          try simp only [Act.put, List.setIfInBounds_toArray, List.set_cons_zero, List.set_cons_succ]
          refine reg_tk (i := 4) (v := .slice p0 m.cs.length c0) (some 86) rfl (fun w' hS => by (have c0 := (hB.below hS).cell 2; simp only [List.getElem?_cons_zero, List.getElem?_cons_succ] at c0); go_simp) hS0 ?_
          try simp only [Act.put, List.setIfInBounds_toArray, List.set_cons_zero, List.set_cons_succ]
          refine reg_tk (i := 5) (v := .int .i64 m.cs.length) (some 87) rfl (fun w' hS => by (skip); go_simp) hS0 ?_
          try simp only [Act.put, List.setIfInBounds_toArray, List.set_cons_zero, List.set_cons_succ]
          refine reg_tk (i := 6) (v := .bool true) (some 88) rfl (fun w' hS => by (skip); go_simp) hS0 ?_
          try simp only [Act.put, List.setIfInBounds_toArray, List.set_cons_zero, List.set_cons_succ]
          refine reg_tk (i := 7) (v := .bool true) (some 89) rfl (fun w' hS => by (skip); go_simp) hS0 ?_
          try simp only [Act.put, List.setIfInBounds_toArray, List.set_cons_zero, List.set_cons_succ]
          refine reg_tk (i := 8) (v := .slice (some ⟨rb, 0, none⟩) m.cs.length m.cs.length) (some 90) rfl (fun w' hS => by (skip); go_simp) hS0 ?_
          try simp only [Act.put, List.setIfInBounds_toArray, List.set_cons_zero, List.set_cons_succ]
          refine reg_tk (i := 9) (v := .int .i64 ia) (some 91) rfl (fun w' hS => by (skip); go_simp) hS0 ?_
          try simp only [Act.put, List.setIfInBounds_toArray, List.set_cons_zero, List.set_cons_succ]
          refine reg_tk (i := 10) (v := .pointer (some ⟨rb, ia, none⟩)) (some 92) rfl (fun w' hS => by (skip); go_simp) hS0 ?_
          try simp only [Act.put, List.setIfInBounds_toArray, List.set_cons_zero, List.set_cons_succ]
          refine reg_tk (i := 11) (v := .int .i64 rA) (some 93) rfl (fun w' hS => by (have c0 := (hS.cell (p := ⟨rb, ia, none⟩) hkb).trans cA); go_simp) hS0 ?_
          try simp only [Act.put, List.setIfInBounds_toArray, List.set_cons_zero, List.set_cons_succ]
          refine reg_tk (i := 12) (v := .bool true) (some 94) rfl (fun w' hS => by (skip); go_simp) hS0 ?_
          try simp only [Act.put, List.setIfInBounds_toArray, List.set_cons_zero, List.set_cons_succ]
          refine reg_tk (i := 13) (v := .bool true) (some 95) rfl (fun w' hS => by (skip); go_simp) hS0 ?_
          try simp only [Act.put, List.setIfInBounds_toArray, List.set_cons_zero, List.set_cons_succ]
          refine reg_tk (i := 14) (v := .bool true) (some 96) rfl (fun w' hS => by (skip); go_simp) hS0 ?_
          try simp only [Act.put, List.setIfInBounds_toArray, List.set_cons_zero, List.set_cons_succ]
          refine reg_tk (i := 15) (v := .slice (some ⟨rb, 0, none⟩) m.cs.length m.cs.length) (some 97) rfl (fun w' hS => by (skip); go_simp) hS0 ?_
          try simp only [Act.put, List.setIfInBounds_toArray, List.set_cons_zero, List.set_cons_succ]
          refine reg_tk (i := 16) (v := .int .i64 ia) (some 98) rfl (fun w' hS => by (skip); go_simp) hS0 ?_
          try simp only [Act.put, List.setIfInBounds_toArray, List.set_cons_zero, List.set_cons_succ]
          refine reg_tk (i := 17) (v := .pointer (some ⟨rb, ia, none⟩)) (some 99) rfl (fun w' hS => by (skip); go_simp) hS0 ?_
          try simp only [Act.put, List.setIfInBounds_toArray, List.set_cons_zero, List.set_cons_succ]
          refine reg_tk (i := 18) (v := .int .i64 rA) (some 100) rfl (fun w' hS => by (have c0 := (hS.cell (p := ⟨rb, ia, none⟩) hkb).trans cA); go_simp) hS0 ?_
          try simp only [Act.put, List.setIfInBounds_toArray, List.set_cons_zero, List.set_cons_succ]
          refine reg_tk (i := 19) (v := .slice (some ⟨rb, 0, none⟩) m.cs.length m.cs.length) (some 101) rfl (fun w' hS => by (skip); go_simp) hS0 ?_
          try simp only [Act.put, List.setIfInBounds_toArray, List.set_cons_zero, List.set_cons_succ]
          refine reg_tk (i := 20) (v := .int .i64 ib) (some 102) rfl (fun w' hS => by (skip); go_simp) hS0 ?_
          try simp only [Act.put, List.setIfInBounds_toArray, List.set_cons_zero, List.set_cons_succ]
          refine reg_tk (i := 21) (v := .pointer (some ⟨rb, ib, none⟩)) (some 103) rfl (fun w' hS => by (skip); go_simp) hS0 ?_
          try simp only [Act.put, List.setIfInBounds_toArray, List.set_cons_zero, List.set_cons_succ]
          refine reg_tk (i := 22) (v := .int .i64 rB) (some 104) rfl (fun w' hS => by (have c0 := (hS.cell (p := ⟨rb, ib, none⟩) hkb).trans cB); go_simp) hS0 ?_
          try simp only [Act.put, List.setIfInBounds_toArray, List.set_cons_zero, List.set_cons_succ]
          refine reg_tk (i := 23) (v := .bool false) (some 105) rfl (fun w' hS => by (skip); go_simp) hS0 ?_
          try simp only [Act.put, List.setIfInBounds_toArray, List.set_cons_zero, List.set_cons_succ]
          refine reg_tk (i := 24) (v := .int .i64 22) (some 106) rfl (fun w' hS => by (skip); go_simp) hS0 ?_
          try simp only [Act.put, List.setIfInBounds_toArray, List.set_cons_zero, List.set_cons_succ]
          refine reg_tk (i := 25) (v := .bool false) (some 107) rfl (fun w' hS => by (skip); go_simp) hS0 ?_
          try simp only [Act.put, List.setIfInBounds_toArray, List.set_cons_zero, List.set_cons_succ]
          refine reg_tk (i := 26) (v := .bool true) (some 108) rfl (fun w' hS => by (skip); go_simp) hS0 ?_
          try simp only [Act.put, List.setIfInBounds_toArray, List.set_cons_zero, List.set_cons_succ]
          refine reg_tk (i := 27) (v := .bool true) (some 109) rfl (fun w' hS => by (skip); go_simp) hS0 ?_
          try simp only [Act.put, List.setIfInBounds_toArray, List.set_cons_zero, List.set_cons_succ]
          refine reg_tk (i := 28) (v := .bool true) (some 110) rfl (fun w' hS => by (skip); go_simp) hS0 ?_
          try simp only [Act.put, List.setIfInBounds_toArray, List.set_cons_zero, List.set_cons_succ]
          refine reg_tk (i := 29) (v := .slice (some ⟨rb, 0, none⟩) m.cs.length m.cs.length) (some 111) rfl (fun w' hS => by (skip); go_simp) hS0 ?_
          try simp only [Act.put, List.setIfInBounds_toArray, List.set_cons_zero, List.set_cons_succ]
          refine reg_tk (i := 30) (v := .int .i64 ia) (some 112) rfl (fun w' hS => by (skip); go_simp) hS0 ?_
          try simp only [Act.put, List.setIfInBounds_toArray, List.set_cons_zero, List.set_cons_succ]
          refine reg_tk (i := 31) (v := .pointer (some ⟨rb, ia, none⟩)) (some 113) rfl (fun w' hS => by (skip); go_simp) hS0 ?_
          try simp only [Act.put, List.setIfInBounds_toArray, List.set_cons_zero, List.set_cons_succ]
          refine reg_tk (i := 32) (v := .int .i64 rA) (some 114) rfl (fun w' hS => by (have c0 := (hS.cell (p := ⟨rb, ia, none⟩) hkb).trans cA); go_simp) hS0 ?_
          try simp only [Act.put, List.setIfInBounds_toArray, List.set_cons_zero, List.set_cons_succ]
          refine reg_tk (i := 33) (v := .int .i64 ia) (some 115) rfl (fun w' hS => by (skip); go_simp) hS0 ?_
          try simp only [Act.put, List.setIfInBounds_toArray, List.set_cons_zero, List.set_cons_succ]
          refine reg_tk (i := 34) (v := .bool true) (some 116) rfl (fun w' hS => by (skip); go_simp) hS0 ?_
          try simp only [Act.put, List.setIfInBounds_toArray, List.set_cons_zero, List.set_cons_succ]
          refine reg_tk (i := 35) (v := .bool true) (some 117) rfl (fun w' hS => by (skip); go_simp) hS0 ?_
          try simp only [Act.put, List.setIfInBounds_toArray, List.set_cons_zero, List.set_cons_succ]
          refine reg_tk (i := 36) (v := .bool true) (some 118) rfl (fun w' hS => by (skip); go_simp) hS0 ?_
          try simp only [Act.put, List.setIfInBounds_toArray, List.set_cons_zero, List.set_cons_succ]
          refine held_one (i := 37) (by kernel_rfl) rfl (fun K hQ => ?_)
          rw [if_pos (show Region.wanted _ _ = true by kernel_rfl)]
          go_simp
          ((with_reducible refine (ca _ (below_call hW hS0)).mono ?_); rintro e w9 ⟨rfl, hb9⟩)
          have hS1 := below_call hS0 hb9
          clear hb9
          refine hQ.out _ _ hS1 ?_
          clear hQ
          try simp only [Act.put, List.setIfInBounds_toArray, List.set_cons_zero, List.set_cons_succ]
          refine reg_tk (i := 38) (v := .bool true) (some 120) rfl (fun w' hS => by (skip); go_simp) hS1 ?_
          try simp only [Act.put, List.setIfInBounds_toArray, List.set_cons_zero, List.set_cons_succ]
          refine reg_tk (i := 39) (v := .bool true) (some 2) rfl (fun w' hS => by (skip); go_simp) hS1 ?_
          try simp only [Act.put, List.setIfInBounds_toArray, List.set_cons_zero, List.set_cons_succ]
          refine wpAnyH_done (by kernel_rfl) ?_ _
          try simp only [onlyN]
          go_wp2_with fail
          go_ret
          exact ⟨rfl, below_call hW hS1⟩
    · have z1 : (e1 != 0) = true := bne_iff_ne.2 (fun h => h1 (.inl h))
      have z2 : (e1 != 22) = true := bne_iff_ne.2 (fun h => h1 (.inr h))
      clear h1
      go_wp2_with (go_at_call 11; with_reducible refine (ca _ hW).mono ?_; rintro e w9 ⟨rfl, hb⟩)
      go_ret
      exact ⟨rfl, below_call hW hb⟩

end Go.Proofs.YtbdgpldhfemejaaDoor
