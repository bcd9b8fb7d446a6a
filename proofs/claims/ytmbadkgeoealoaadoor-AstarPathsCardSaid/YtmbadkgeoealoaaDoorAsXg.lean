/-
  The laws of astar: what Reach and Regions return.
-/
import Derived.Test.YtmbadkgeoealoaaDoorAsXf
import Derived.Test.YtmbadkgeoealoaaDoorAsU
namespace Go.Proofs.YtmbadkgeoealoaaDoor
open Go.RowKit Go.Lib

theorem dst_len {m : M3} {bl : List Bool} {c : Int} {a : Nat} {D : List Int} (h : Dst m bl c a D) : D.length = m.cs.length := by
  unfold Dst at h
  split at h
  · exact h.len
  · rw [h, List.length_replicate]
theorem reach_eq {m : M3} {bl : List Bool} {c : Int} {p : Pt} {b : Bool} {D E : List Int} (h : ReachR m bl c p b D) (k : ReachR m bl c p b E) : D = E := by
  cases b with
  | false => rw [h.no rfl, k.no rfl]
  | true =>
    have h1 := h.yes rfl
    have k1 := k.yes rfl
    unfold Dst at h1 k1
    split at h1
    · rw [if_pos (by assumption)] at k1
      exact h1.eq k1
    · rw [if_neg (by assumption)] at k1
      rw [h1, k1]
theorem regs_eq14 {m : M3} {bl : List Bool} {c : Int} {b : Bool} {D E : List Int} (h : RegsR m bl c b D) (k : RegsR m bl c b E) : D = E := by
  cases b with
  | false => rw [h.no rfl, k.no rfl]
  | true => exact (h.yes rfl).eq (k.yes rfl)
theorem asreach_r (m : M3) (sp : Option Addr) (sn sk : Nat) (bl : List Bool) (lp : Option Addr) (ln lk : Nat) (c : Int) (p : Pt) (b : Bool) (W : World) (hG : Gd W m (.slice sp sn sk) bl (.slice lp ln lk)) (hb : Hid (b = (validm m && classv c && insp m p))) :
    Calls Tryd.prog 21 #[.agg #[.int .i64 m.w, .int .i64 m.h, .slice sp sn sk], .slice lp ln lk, .int .i64 c, .agg #[.int .i64 p.1, .int .i64 p.2]] W fun e w' =>
      ∃ v E, e = .returned v ∧ IntsAt w' v E ∧ ReachR m bl c p b E ∧ Below W.heap.size W w' :=
  (asreach_b m sp sn sk bl lp ln lk c p.1 p.2 b m.cs.length W hG (hid rfl) (hid (by rw [hb.out]))).mono fun e w' h => by
    rcases h with ⟨h, e, h2⟩ | ⟨h, g, D, h1, h2, h3, h4, h5, h6⟩
    · exact ⟨_, [], e, IntsAt.nil _, ⟨fun _ => rfl, fun h' => (by rw [h] at h'; cases h'), num_nil⟩, h2⟩
    · have hv : (validm m && classv c) = true := by
        have := hb.out
        rw [h] at this
        rw [eq_comm, Bool.and_eq_true] at this
        exact this.1
      exact ⟨_, D, h1, IntsAt.blk h3 (dst_len h4) (by have := formed_len (classv_of hv); omega), ⟨fun h' => (by rw [h] at h'; cases h'), fun _ => h4, h5⟩, h6⟩
theorem asregs_r (m : M3) (sp : Option Addr) (sn sk : Nat) (bl : List Bool) (lp : Option Addr) (ln lk : Nat) (c : Int) (b : Bool) (W : World) (hG : Gd W m (.slice sp sn sk) bl (.slice lp ln lk)) (hb : Hid (b = (validm m && classv c))) :
    Calls Tryd.prog 23 #[.agg #[.int .i64 m.w, .int .i64 m.h, .slice sp sn sk], .slice lp ln lk, .int .i64 c] W fun e w' =>
      ∃ v R, e = .returned v ∧ IntsAt w' v R ∧ RegsR m bl c b R ∧ Below W.heap.size W w' :=
  (asregs_b m sp sn sk bl lp ln lk c m.cs.length b W hG (hid rfl) hb).mono fun e w' h => by
    rcases h with ⟨h, e, h2⟩ | ⟨h, g, R, h1, h2, h3, h4, h6⟩
    · exact ⟨_, [], e, IntsAt.nil _, ⟨fun _ => rfl, fun h' => by rw [h] at h'; cases h'⟩, h2⟩
    · have hv : (validm m && classv c) = true := by rw [← hb.out]; exact h
      exact ⟨_, R, h1, IntsAt.blk h3 h4.len (by have := formed_len (classv_of hv); omega), ⟨fun h' => (by rw [h] at h'; cases h'), fun _ => h4⟩, h6⟩

set_option maxRecDepth 100000 in
set_option maxHeartbeats 8000000 in
theorem law14_reaches (m : M3) (s : Value) (bl : List Bool) (l : Value) (c : Int) (a b d : Pt) (W : World) (hE : EnvT W) (hn : HighAt m) (hr : RowAt W s m.cs) (hl : BitsAt W l bl) :
    Calls Tryd.prog 5 #[.agg #[.int .i64 m.w, .int .i64 m.h, s, l, .int .i64 c, .int .i64 a.1, .int .i64 a.2, .int .i64 b.1, .int .i64 b.2, .int .i64 d.1, .int .i64 d.2]] W fun e w' => e = .returned (.bool true) ∧ Below W.heap.size W w' := by
  have hG : Gd W m s bl l := ⟨hE, hn, hr, hl⟩
  obtain ⟨p0, c0, rfl⟩ := hr.slice
  obtain ⟨pl, kl, rfl, -⟩ := id hl
  obtain ⟨sm, hsm⟩ : ∃ sm, Hid (sm = decide (m.cs.length ≤ 1100 ∧ bl.length ≤ 2000)) := ⟨_, hid rfl⟩
  have ch := fun (w : World) => assmall_b m p0 pl bl.length c0 kl c a.1 a.2 b.1 b.2 d.1 d.2 sm w hsm
  have ca := fun (w : World) (hb : Below W.heap.size W w) => asalive_b w (hE.keep hb)
  have hB := Blk.new W [.int .i64 m.w, .int .i64 m.h, .slice p0 m.cs.length c0, .slice pl bl.length kl, .int .i64 c, .int .i64 a.1, .int .i64 a.2, .int .i64 b.1, .int .i64 b.2, .int .i64 d.1, .int .i64 d.2] 29
  have hW := (Below.refl W.heap.size W).alloc (Nat.le_refl _) (.cells [Value.int .i64 m.w, .int .i64 m.h, .slice p0 m.cs.length c0, .slice pl bl.length kl, .int .i64 c, .int .i64 a.1, .int .i64 a.2, .int .i64 b.1, .int .i64 b.2, .int .i64 d.1, .int .i64 d.2].toArray 29)
  go_enter Tryd.func5, Tryd.ntmps5
  go_upto_region 1 with fail
  obtain ⟨X, hX⟩ : ∃ X, X = W.alloc (.cells [Value.int .i64 m.w, .int .i64 m.h, .slice p0 m.cs.length c0, .slice pl bl.length kl, .int .i64 c, .int .i64 a.1, .int .i64 a.2, .int .i64 b.1, .int .i64 b.2, .int .i64 d.1, .int .i64 d.2].toArray 29) := ⟨_, rfl⟩
  rw [← hX] at hB hW ⊢
  clear hX
  have q0 := hB.cell 0
  have q1 := hB.cell 1
  have q2 := hB.cell 2
  have q3 := hB.cell 3
  have q4 := hB.cell 4
  have q5 := hB.cell 5
  have q6 := hB.cell 6
  have q7 := hB.cell 7
  have q8 := hB.cell 8
  have q9 := hB.cell 9
  have q10 := hB.cell 10
  simp only [List.getElem?_cons_zero, List.getElem?_cons_succ] at q0 q1 q2 q3 q4 q5 q6 q7 q8 q9 q10
  go_wp2_with fail
  ((with_reducible refine (ch _).mono ?_); rintro e w1 ⟨rfl, hb⟩)
  replace hW := below_call hW hb
  replace hB := hB.below hb
  clear hb ch q0 q1 q2 q3 q4 q5 q6 q7 q8 q9 q10
  cases sm with
  | false =>
    go_wp2_with (go_at_call 14; with_reducible refine (ca _ hW).mono ?_; rintro e w2 ⟨rfl, hb⟩)
    go_ret
    exact ⟨rfl, below_call hW hb⟩
  | true =>
    obtain ⟨bb, hbb⟩ : ∃ bb, Hid (bb = (validm m && classv c && insp m a)) := ⟨_, hid rfl⟩
    obtain ⟨bc, hbc⟩ : ∃ bc, Hid (bc = (validm m && classv c)) := ⟨_, hid rfl⟩
    have ra := fun w (hS : Below w1.heap.size w1 w) => asreach_r m p0 m.cs.length c0 bl pl bl.length kl c a bb w (hG.below (below_call hW hS)) hbb
    have rb := fun w (hS : Below w1.heap.size w1 w) => r14reach_b m p0 m.cs.length c0 bl pl bl.length kl c a bb w hn (hr.below (below_call hW hS)) (hl.below (below_call hW hS)) hbb
    have ga := fun w (hS : Below w1.heap.size w1 w) => asregs_r m p0 m.cs.length c0 bl pl bl.length kl c bc w (hG.below (below_call hW hS)) hbc
    have gb := fun w (hS : Below w1.heap.size w1 w) => r14regions_b m p0 m.cs.length c0 bl pl bl.length kl c bc w hn (hr.below (below_call hW hS)) (hl.below (below_call hW hS)) hbc
    have hmx : Tryd.prog.follows .mixedOrders = true := by kernel_rfl
    go_upto_region 3 with fail
    refine wp_onlyN (wp_region_held (S := fun w' => Below w1.heap.size w1 w') hmx ?_)
    show wpAnyH _ _ _ _ _ _ _ _ w1.drew
    have hS0 := (Below.refl w1.heap.size w1).drew
    refine reg_tk (i := 0) (v := .pointer (some ⟨W.heap.size, 0, none⟩)) (some 7) rfl (fun w' hS => by (skip); go_simp) hS0 ?_
    try simp only [Act.put, List.setIfInBounds_toArray, List.set_cons_zero, List.set_cons_succ]
    refine reg_tk (i := 1) (v := .agg #[.int .i64 m.w, .int .i64 m.h, .slice p0 m.cs.length c0]) (some 8) rfl (fun w' hS => by (have c0 := (hB.below hS).cell 0; have c1 := (hB.below hS).cell 1; have c2 := (hB.below hS).cell 2; simp only [List.getElem?_cons_zero, List.getElem?_cons_succ] at c0 c1 c2); go_simp) hS0 ?_
    try simp only [Act.put, List.setIfInBounds_toArray, List.set_cons_zero, List.set_cons_succ]
    refine reg_tk (i := 2) (v := .pointer (some ⟨W.heap.size, 3, none⟩)) (some 9) rfl (fun w' hS => by (skip); go_simp) hS0 ?_
    try simp only [Act.put, List.setIfInBounds_toArray, List.set_cons_zero, List.set_cons_succ]
    refine reg_tk (i := 3) (v := .slice pl bl.length kl) (some 10) rfl (fun w' hS => by (have c3 := (hB.below hS).cell 3; simp only [List.getElem?_cons_zero, List.getElem?_cons_succ] at c3); go_simp) hS0 ?_
    try simp only [Act.put, List.setIfInBounds_toArray, List.set_cons_zero, List.set_cons_succ]
    refine reg_tk (i := 4) (v := .pointer (some ⟨W.heap.size, 4, none⟩)) (some 11) rfl (fun w' hS => by (skip); go_simp) hS0 ?_
    try simp only [Act.put, List.setIfInBounds_toArray, List.set_cons_zero, List.set_cons_succ]
    refine reg_tk (i := 5) (v := .int .i64 c) (some 12) rfl (fun w' hS => by (have c4 := (hB.below hS).cell 4; simp only [List.getElem?_cons_zero, List.getElem?_cons_succ] at c4); go_simp) hS0 ?_
    try simp only [Act.put, List.setIfInBounds_toArray, List.set_cons_zero, List.set_cons_succ]
    refine reg_tk (i := 6) (v := .pointer (some ⟨W.heap.size, 5, none⟩)) (some 13) rfl (fun w' hS => by (skip); go_simp) hS0 ?_
    try simp only [Act.put, List.setIfInBounds_toArray, List.set_cons_zero, List.set_cons_succ]
    refine reg_tk (i := 7) (v := .agg #[.int .i64 a.1, .int .i64 a.2]) (some 14) rfl (fun w' hS => by (have c5 := (hB.below hS).cell 5; have c6 := (hB.below hS).cell 6; simp only [List.getElem?_cons_zero, List.getElem?_cons_succ] at c5 c6); go_simp) hS0 ?_
    try simp only [Act.put, List.setIfInBounds_toArray, List.set_cons_zero, List.set_cons_succ]
    refine reg_tk (i := 9) (v := .pointer (some ⟨W.heap.size, 0, none⟩)) (some 16) rfl (fun w' hS => by (skip); go_simp) hS0 ?_
    try simp only [Act.put, List.setIfInBounds_toArray, List.set_cons_zero, List.set_cons_succ]
    refine reg_tk (i := 10) (v := .agg #[.int .i64 m.w, .int .i64 m.h, .slice p0 m.cs.length c0]) (some 17) rfl (fun w' hS => by (have c0 := (hB.below hS).cell 0; have c1 := (hB.below hS).cell 1; have c2 := (hB.below hS).cell 2; simp only [List.getElem?_cons_zero, List.getElem?_cons_succ] at c0 c1 c2); go_simp) hS0 ?_
    try simp only [Act.put, List.setIfInBounds_toArray, List.set_cons_zero, List.set_cons_succ]
    refine reg_tk (i := 11) (v := .pointer (some ⟨W.heap.size, 3, none⟩)) (some 18) rfl (fun w' hS => by (skip); go_simp) hS0 ?_
    try simp only [Act.put, List.setIfInBounds_toArray, List.set_cons_zero, List.set_cons_succ]
    refine reg_tk (i := 12) (v := .slice pl bl.length kl) (some 19) rfl (fun w' hS => by (have c3 := (hB.below hS).cell 3; simp only [List.getElem?_cons_zero, List.getElem?_cons_succ] at c3); go_simp) hS0 ?_
    try simp only [Act.put, List.setIfInBounds_toArray, List.set_cons_zero, List.set_cons_succ]
    refine reg_tk (i := 13) (v := .pointer (some ⟨W.heap.size, 4, none⟩)) (some 20) rfl (fun w' hS => by (skip); go_simp) hS0 ?_
    try simp only [Act.put, List.setIfInBounds_toArray, List.set_cons_zero, List.set_cons_succ]
    refine reg_tk (i := 14) (v := .int .i64 c) (some 21) rfl (fun w' hS => by (have c4 := (hB.below hS).cell 4; simp only [List.getElem?_cons_zero, List.getElem?_cons_succ] at c4); go_simp) hS0 ?_
    try simp only [Act.put, List.setIfInBounds_toArray, List.set_cons_zero, List.set_cons_succ]
    refine reg_tk (i := 15) (v := .pointer (some ⟨W.heap.size, 5, none⟩)) (some 22) rfl (fun w' hS => by (skip); go_simp) hS0 ?_
    try simp only [Act.put, List.setIfInBounds_toArray, List.set_cons_zero, List.set_cons_succ]
    refine reg_tk (i := 16) (v := .agg #[.int .i64 a.1, .int .i64 a.2]) (some 23) rfl (fun w' hS => by (have c5 := (hB.below hS).cell 5; have c6 := (hB.below hS).cell 6; simp only [List.getElem?_cons_zero, List.getElem?_cons_succ] at c5 c6); go_simp) hS0 ?_
    try simp only [Act.put, List.setIfInBounds_toArray, List.set_cons_zero, List.set_cons_succ]
    refine held_one (i := 8) (by kernel_rfl) rfl (fun K hQ => ?_)
    go_simp
    ((with_reducible refine (ra _ hS0).mono ?_); rintro e w2 ⟨va, Ea, rfl, hIa, hRa, hb1⟩)
    have hS1 := below_call hS0 hb1
    clear hb1
    refine hQ.out _ _ hS1 ?_
    clear hQ
    try simp only [Act.put, List.setIfInBounds_toArray, List.set_cons_zero, List.set_cons_succ]
    refine held_one (i := 17) (by kernel_rfl) rfl (fun K hQ => ?_)
    go_simp
    ((with_reducible refine (rb _ hS1).mono ?_); rintro e w3 ⟨vb, Eb, rfl, hIb, hb2, -, hRb⟩)
    replace hIa := hIa.below hb2
    have hS2 := below_call hS1 hb2
    clear hb2
    refine hQ.out _ _ hS2 ?_
    clear hQ
    try simp only [Act.put, List.setIfInBounds_toArray, List.set_cons_zero, List.set_cons_succ]
    refine held_one (i := 18) (by kernel_rfl) rfl (fun K hQ => ?_)
    go_simp
    ((with_reducible refine (r14same_b va vb Ea Eb _ hIa hIb (reach_eq hRa hRb)).mono ?_); rintro e w4 ⟨rfl, hb3⟩)
    have hS3 := below_call hS2 hb3
    clear hb3
    refine hQ.out _ _ hS3 ?_
    clear hQ
    try simp only [Act.put, List.setIfInBounds_toArray, List.set_cons_zero, List.set_cons_succ]
    refine reg_tk (i := 19) (v := .bool true) (some 26) rfl (fun w' hS => by (skip); go_simp) hS3 ?_
    try simp only [Act.put, List.setIfInBounds_toArray, List.set_cons_zero, List.set_cons_succ]
    refine reg_tk (i := 20) (v := .pointer (some ⟨W.heap.size, 0, none⟩)) (some 27) rfl (fun w' hS => by (skip); go_simp) hS3 ?_
    try simp only [Act.put, List.setIfInBounds_toArray, List.set_cons_zero, List.set_cons_succ]
    refine reg_tk (i := 21) (v := .agg #[.int .i64 m.w, .int .i64 m.h, .slice p0 m.cs.length c0]) (some 28) rfl (fun w' hS => by (have c0 := (hB.below hS).cell 0; have c1 := (hB.below hS).cell 1; have c2 := (hB.below hS).cell 2; simp only [List.getElem?_cons_zero, List.getElem?_cons_succ] at c0 c1 c2); go_simp) hS3 ?_
    try simp only [Act.put, List.setIfInBounds_toArray, List.set_cons_zero, List.set_cons_succ]
    refine reg_tk (i := 22) (v := .pointer (some ⟨W.heap.size, 3, none⟩)) (some 29) rfl (fun w' hS => by (skip); go_simp) hS3 ?_
    try simp only [Act.put, List.setIfInBounds_toArray, List.set_cons_zero, List.set_cons_succ]
    refine reg_tk (i := 23) (v := .slice pl bl.length kl) (some 30) rfl (fun w' hS => by (have c3 := (hB.below hS).cell 3; simp only [List.getElem?_cons_zero, List.getElem?_cons_succ] at c3); go_simp) hS3 ?_
    try simp only [Act.put, List.setIfInBounds_toArray, List.set_cons_zero, List.set_cons_succ]
    refine reg_tk (i := 24) (v := .pointer (some ⟨W.heap.size, 4, none⟩)) (some 31) rfl (fun w' hS => by (skip); go_simp) hS3 ?_
    try simp only [Act.put, List.setIfInBounds_toArray, List.set_cons_zero, List.set_cons_succ]
    refine reg_tk (i := 25) (v := .int .i64 c) (some 32) rfl (fun w' hS => by (have c4 := (hB.below hS).cell 4; simp only [List.getElem?_cons_zero, List.getElem?_cons_succ] at c4); go_simp) hS3 ?_
    try simp only [Act.put, List.setIfInBounds_toArray, List.set_cons_zero, List.set_cons_succ]
    refine reg_tk (i := 27) (v := .pointer (some ⟨W.heap.size, 0, none⟩)) (some 34) rfl (fun w' hS => by (skip); go_simp) hS3 ?_
    try simp only [Act.put, List.setIfInBounds_toArray, List.set_cons_zero, List.set_cons_succ]
    refine reg_tk (i := 28) (v := .agg #[.int .i64 m.w, .int .i64 m.h, .slice p0 m.cs.length c0]) (some 35) rfl (fun w' hS => by (have c0 := (hB.below hS).cell 0; have c1 := (hB.below hS).cell 1; have c2 := (hB.below hS).cell 2; simp only [List.getElem?_cons_zero, List.getElem?_cons_succ] at c0 c1 c2); go_simp) hS3 ?_
    try simp only [Act.put, List.setIfInBounds_toArray, List.set_cons_zero, List.set_cons_succ]
    refine reg_tk (i := 29) (v := .pointer (some ⟨W.heap.size, 3, none⟩)) (some 36) rfl (fun w' hS => by (skip); go_simp) hS3 ?_
    try simp only [Act.put, List.setIfInBounds_toArray, List.set_cons_zero, List.set_cons_succ]
    refine reg_tk (i := 30) (v := .slice pl bl.length kl) (some 37) rfl (fun w' hS => by (have c3 := (hB.below hS).cell 3; simp only [List.getElem?_cons_zero, List.getElem?_cons_succ] at c3); go_simp) hS3 ?_
    try simp only [Act.put, List.setIfInBounds_toArray, List.set_cons_zero, List.set_cons_succ]
    refine reg_tk (i := 31) (v := .pointer (some ⟨W.heap.size, 4, none⟩)) (some 38) rfl (fun w' hS => by (skip); go_simp) hS3 ?_
    try simp only [Act.put, List.setIfInBounds_toArray, List.set_cons_zero, List.set_cons_succ]
    refine reg_tk (i := 32) (v := .int .i64 c) (some 39) rfl (fun w' hS => by (have c4 := (hB.below hS).cell 4; simp only [List.getElem?_cons_zero, List.getElem?_cons_succ] at c4); go_simp) hS3 ?_
    try simp only [Act.put, List.setIfInBounds_toArray, List.set_cons_zero, List.set_cons_succ]
    refine held_one (i := 26) (by kernel_rfl) rfl (fun K hQ => ?_)
    rw [if_pos (show Region.wanted _ _ = true by kernel_rfl)]
    go_simp
    ((with_reducible refine (ga _ hS3).mono ?_); rintro e w5 ⟨vc, Ec, rfl, hIc, hRc, hb4⟩)
    have hS4 := below_call hS3 hb4
    clear hb4
    refine hQ.out _ _ hS4 ?_
    clear hQ
    try simp only [Act.put, List.setIfInBounds_toArray, List.set_cons_zero, List.set_cons_succ]
    refine held_one (i := 33) (by kernel_rfl) rfl (fun K hQ => ?_)
    rw [if_pos (show Region.wanted _ _ = true by kernel_rfl)]
    go_simp
    ((with_reducible refine (gb _ hS4).mono ?_); rintro e w6 ⟨vd, Ed, rfl, hId, hb5, hRd⟩)
    replace hIc := hIc.below hb5
    have hS5 := below_call hS4 hb5
    clear hb5
    refine hQ.out _ _ hS5 ?_
    clear hQ
    try simp only [Act.put, List.setIfInBounds_toArray, List.set_cons_zero, List.set_cons_succ]
    refine held_one (i := 34) (by kernel_rfl) rfl (fun K hQ => ?_)
    rw [if_pos (show Region.wanted _ _ = true by kernel_rfl)]
    go_simp
    ((with_reducible refine (r14same_b vc vd Ec Ed _ hIc hId (regs_eq14 hRc hRd)).mono ?_); rintro e w7 ⟨rfl, hb6⟩)
    have hS6 := below_call hS5 hb6
    clear hb6
    refine hQ.out _ _ hS6 ?_
    clear hQ
    try simp only [Act.put, List.setIfInBounds_toArray, List.set_cons_zero, List.set_cons_succ]
    refine reg_tk (i := 35) (v := .bool true) (some 42) rfl (fun w' hS => by (skip); go_simp) hS6 ?_
    try simp only [Act.put, List.setIfInBounds_toArray, List.set_cons_zero, List.set_cons_succ]
    refine reg_tk (i := 36) (v := .bool true) (some 43) rfl (fun w' hS => by (skip); go_simp) hS6 ?_
    try simp only [Act.put, List.setIfInBounds_toArray, List.set_cons_zero, List.set_cons_succ]
    refine held_one (i := 37) (by kernel_rfl) rfl (fun K hQ => ?_)
    rw [if_pos (show Region.wanted _ _ = true by kernel_rfl)]
    go_simp
    ((with_reducible refine (ca _ (below_call hW hS6)).mono ?_); rintro e w8 ⟨rfl, hb7⟩)
    have hS7 := below_call hS6 hb7
    clear hb7
    refine hQ.out _ _ hS7 ?_
    clear hQ
    try simp only [Act.put, List.setIfInBounds_toArray, List.set_cons_zero, List.set_cons_succ]
    refine reg_tk (i := 38) (v := .bool true) (some 45) rfl (fun w' hS => by (skip); go_simp) hS7 ?_
    try simp only [Act.put, List.setIfInBounds_toArray, List.set_cons_zero, List.set_cons_succ]
    refine reg_tk (i := 39) (v := .bool true) (some 2) rfl (fun w' hS => by (skip); go_simp) hS7 ?_
    try simp only [Act.put, List.setIfInBounds_toArray, List.set_cons_zero, List.set_cons_succ]
    refine wpAnyH_done (by kernel_rfl) ?_ _
    try simp only [onlyN]
    go_wp2_with fail
    go_ret
    exact ⟨rfl, below_call hW hS7⟩

end Go.Proofs.YtmbadkgeoealoaaDoor
