/-
  The laws of occupy: what fits meets nothing, and fits among fewer.
-/
import Derived.Test.YtoodnblhjopnlaaDoorOcO
namespace Go.Proofs.YtoodnblhjopnlaaDoor
open Go.RowKit Go.Lib

theorem docmeet_b (r q : R4) (b : Bool) (W : World) (e : Hid (b = meetv r q)) : Calls Tryd.prog 20 #[.agg #[.int .i64 r.x, .int .i64 r.y, .int .i64 r.w, .int .i64 r.h], .agg #[.int .i64 q.x, .int .i64 q.y, .int .i64 q.w, .int .i64 q.h]] W fun e w' => e = .returned (.bool b) ∧ Below W.heap.size W w' := by
  rw [e.out]; exact dmeet_x r.x r.y r.w r.h q.x q.y q.w q.h W
theorem exec_slH {o : Oper} {ρ : Operand → Value} {w : World} (t : TypeId) (x y : Operand) (ho : o.op = .slice t x none (some y) none) (v u v' : Value) (hx : ρ x = v) (hy : ρ y = u) (hz : ∀ w, Sem.run Tryd.prog (Instr.sliceAt t v none (some u) none) w = .ok v' w) : (execOp ρ o).run Tryd.prog w = .ok (.value v') w := by
  unfold execOp
  simp only [ho, hx, hy, Option.map_some, Option.map_none, Sem.run_bind, Result.andThen_ok, hz]
  rfl
theorem RecsAt.take {W : World} {p : Option Addr} {n c k : Nat} {l : List R4} (h : RecsAt W (.slice p n c) l) (hk : k ≤ l.length) : RecsAt W (.slice p k c) (l.take k) := by
  obtain ⟨p', c', e, hm, hat⟩ := h
  injection e with e1 e2 e3
  subst e1
  subst e3
  have hl : k = (l.take k).length := by rw [List.length_take]; omega
  refine ⟨p, c, by rw [← hl], by rw [List.length_take]; omega, fun h1 => ?_⟩
  rw [List.length_take] at h1
  obtain ⟨g, o, hp, hg, hc⟩ := hat (by omega)
  refine ⟨g, o, hp, hg, fun i hi => ?_⟩
  have hi2 : i < l.length := by rw [List.length_take] at hi; omega
  have := hc i hi2
  rw [List.getElem_take]
  exact this
theorem takeR {W : World} {p : Option Addr} {n c k : Nat} {l : List R4} (h : RecsAt W (.slice p n c) l) (hk : k ≤ l.length) (hc : n ≤ c) (_hb : c ≤ maxLen) :
    ∃ p', (∀ w, Sem.run Tryd.prog (Instr.sliceAt 25 (.slice p n c) none (some (.int .i64 k)) none) w = .ok (.slice p' k c) w) ∧ RecsAt W (.slice p' k c) (l.take k) := by
  have hn : n = l.length := by obtain ⟨_, _, e, _⟩ := h; injection e
  refine ⟨p, fun w => ?_, h.take hk⟩
  rw [hn] at hc ⊢
  have hb := _hb
  unfold maxLen at hb
  cases p with
  | none =>
    unfold Instr.sliceAt Instr.slice
    go_simp
    intro h9
    exfalso; omega
  | some a =>
    obtain ⟨g, o, sp⟩ := a
    have h1 : 1 ≤ l.length → sp = none := fun h1 => by
      obtain ⟨_, _, e, _⟩ := h.at (i := 0) (by omega)
      injection e with e
      injection e
    unfold Instr.sliceAt Instr.slice
    go_simp
    intro h9
    exfalso; omega
set_option maxRecDepth 100000 in
set_option maxHeartbeats 8000000 in
theorem law13_fewer (m : M3) (s : Value) (l : List R4) (sl : Value) (r : R4) (W : World) (hE : EnvT W) (hr : RowAt W s m.cs) (hl : RecsAt W sl l) (hcap : ∀ p n c, sl = .slice p n c → n ≤ c ∧ c ≤ maxLen) :
    Calls Tryd.prog 6 #[.agg #[.int .i64 m.w, .int .i64 m.h, s], sl, .agg #[.int .i64 r.x, .int .i64 r.y, .int .i64 r.w, .int .i64 r.h]] W fun e w' => e = .returned (.bool true) ∧ Below W.heap.size W w' := by
  obtain ⟨z, hz'⟩ : ∃ z, Hid (z = fitsv m l r) := ⟨_, hid rfl⟩
  have c1 := fun (w : World) (hb : Below W.heap.size W w) => ocfits_b m s l sl r z w (hr.below hb) (hl.below hb) hz'
  have ca := fun (w : World) (hb : Below W.heap.size W w) => awake13_b w (hE.keep hb)
  obtain ⟨p0, c0, rfl⟩ := hr.slice
  obtain ⟨pl, kl, rfl⟩ := hl.len
  obtain ⟨hlk, hkm⟩ := hcap _ _ _ rfl
  obtain ⟨k2, hk2⟩ : ∃ k2, k2 = l.length / 2 := ⟨_, rfl⟩
  obtain ⟨pt, ht1, ht2⟩ := takeR hl (k := k2) (by omega) hlk hkm
  unfold maxLen at hkm
  have c5 := fun (hz : z = true) (w : World) (hb : Below W.heap.size W w) => ocfits_b m (.slice p0 m.cs.length c0) (l.take k2) (.slice pt k2 kl) r true w (hr.below hb) (ht2.below hb) (hid (fits_fewer (hz.symm.trans hz'.out).symm (fun q hq => List.mem_of_mem_take hq)).symm)
  have c6 := fun (hz : z = true) (w : World) (hb : Below W.heap.size W w) => ocfits_b m (.slice p0 m.cs.length c0) [] (.slice none 0 0) r true w (hr.below hb) (RecsAt.nil w) (hid (fits_fewer (hz.symm.trans hz'.out).symm (fun q hq => absurd hq List.not_mem_nil)).symm)
  have hmt : Hid (z = true → ∀ i (h : i < l.length), meetv r (l[i]'h) = false) := hid (fun h i hi => fits_meets (h.symm.trans hz'.out).symm (List.getElem_mem hi))
  have q1 : IntKind.i64.wrap ((l.length : Int).tdiv 2) = (k2 : Int) := by
    rw [show (l.length : Int).tdiv 2 = (k2 : Int) by rw [hk2]; rfl, IntKind.wrap_i64]; omega
  have q2 : IntKind.i64.wrap ((l.length : Int) / 2) = (k2 : Int) := by rw [IntKind.wrap_i64]; omega
  have q3 : (l.length : Int).tdiv 2 = (k2 : Int) := by rw [hk2]; rfl
  have q4 : IntKind.i64.wrap (k2 : Int) = (k2 : Int) := by rw [IntKind.wrap_i64]; omega
  obtain ⟨hu, hhu⟩ : ∃ b, Hid (decide (1100 < m.cs.length ∨ 3000 < 0 ∨ 100 < l.length) = b) := ⟨_, hid rfl⟩
  have ch := fun (w : World) => ochuge_b m p0 none pl 0 l.length c0 0 kl hu w hhu
  have hT := Held2.start W [.int .i64 m.w, .int .i64 m.h, .slice p0 m.cs.length c0] [.int .i64 r.x, .int .i64 r.y, .int .i64 r.w, .int .i64 r.h] 24 33
  clear hr hE hhu hcap ht2 hz' hk2
  cases hu with
  | true =>
    obtain ⟨_, _, _, _, _, _⟩ := hT.l.three; obtain ⟨_, _, _, _, _, _, _, _⟩ := hT.r.four
    go_enter Tryd.func6, Tryd.ntmps6
    go_wp2_with (first
      | (go_at_call 9; with_reducible refine (ch _).mono ?_; rintro e w1 ⟨rfl, hb⟩; replace hT := hT.call hb; clear hb)
      | (go_at_call 10; with_reducible refine (ca _ hT.old).mono ?_; rintro e w2 ⟨rfl, hb⟩))
    go_ret
    exact ⟨rfl, below_call hT.old hb⟩
  | false =>
    cases z with
    | false =>
      clear c5 c6
      obtain ⟨_, _, _, _, _, _⟩ := hT.l.three; obtain ⟨_, _, _, _, _, _, _, _⟩ := hT.r.four
      go_enter Tryd.func6, Tryd.ntmps6
      go_wp2_with (first
        | (go_at_call 9; with_reducible refine (ch _).mono ?_; rintro e w1 ⟨rfl, hb⟩; replace hT := hT.call hb; clear hb; obtain ⟨_, _, _, _, _, _⟩ := hT.l.three; obtain ⟨_, _, _, _, _, _, _, _⟩ := hT.r.four)
        | (go_at_call 16; with_reducible refine (c1 _ hT.old).mono ?_; rintro e w2 ⟨rfl, hb⟩; replace hT := hT.call hb; clear hb; obtain ⟨_, _, _, _, _, _⟩ := hT.l.three; obtain ⟨_, _, _, _, _, _, _, _⟩ := hT.r.four)
        | (go_at_call 10; with_reducible refine (ca _ hT.old).mono ?_; rintro e w6 ⟨rfl, hb⟩))
      go_ret
      exact ⟨rfl, below_call hT.old hb⟩
    | true =>
      replace c5 := c5 rfl
      replace c6 := c6 rfl
      have hmt' := hid (hmt.out rfl)
      clear hmt
      obtain ⟨_, _, _, _, _, _⟩ := hT.l.three; obtain ⟨_, _, _, _, _, _, _, _⟩ := hT.r.four
      go_enter Tryd.func6, Tryd.ntmps6
      go_wp2_with (first
        | (go_at_call 9; with_reducible refine (ch _).mono ?_; rintro e w1 ⟨rfl, hb⟩; replace hT := hT.call hb; clear hb; obtain ⟨_, _, _, _, _, _⟩ := hT.l.three; obtain ⟨_, _, _, _, _, _, _, _⟩ := hT.r.four)
        | (go_at_call 16; with_reducible refine (c1 _ hT.old).mono ?_; rintro e w2 ⟨rfl, hb⟩; replace hT := hT.call hb; clear hb; obtain ⟨_, _, _, _, _, _⟩ := hT.l.three; obtain ⟨_, _, _, _, _, _, _, _⟩ := hT.r.four))
      clear c1 ch
      go_loopw [7] (fun vi wr => ∃ i : Nat, vi = .int .i64 i ∧ i ≤ l.length ∧ Held2 W wr W.heap.size (W.heap.size + 1) [.int .i64 m.w, .int .i64 m.h, .slice p0 m.cs.length c0] [.int .i64 r.x, .int .i64 r.y, .int .i64 r.w, .int .i64 r.h] 24 33) (fun vi _ => l.length - (RowKit.intOf vi).toNat)
      case atStart => exact ⟨0, rfl, by omega, hT⟩
      case round =>
      clear hT
      obtain ⟨i, rfl, hi, hT⟩ := hrel
      by_cases hlt : i < l.length
      · have d1 : (i : Int) < l.length := by omega
        have d0 : (0 : Int) ≤ i := by omega
        obtain ⟨g, o, rfl, hg, q0, q1, q2, q3⟩ := (hl.below hT.old).at hlt
        have hm9 := hmt'.out i hlt
        have c3 := fun (w : World) => docmeet_b r (l[i]'hlt) false w (hid hm9.symm)
        clear hm9
        generalize l[i]'hlt = rr at *
        have hkp := fun (w' : World) (hb : Below wr.heap.size wr w') => And.intro ((hT.r.below hb).cell 0) (And.intro ((hT.r.below hb).cell 1) (And.intro ((hT.r.below hb).cell 2) (And.intro ((hT.r.below hb).cell 3) (And.intro ((hb.cell (p := ⟨g, o + i * 4, none⟩) hg).trans q0) (And.intro ((hb.cell (p := ⟨g, o + i * 4 + 1, none⟩) hg).trans q1) (And.intro ((hb.cell (p := ⟨g, o + i * 4 + 2, none⟩) hg).trans q2) ((hb.cell (p := ⟨g, o + i * 4 + 3, none⟩) hg).trans q3)))))))
        have hq := (Below.refl wr.heap.size wr).drew
        obtain ⟨_, _, _, _, _, _, _, _⟩ := hkp _ hq
        clear q0 q1 q2 q3
        go_upto_region 6 with fail
        go_region_held3 (fun w' => w'.cell? ⟨W.heap.size + 1, 0, none⟩ = some (.int .i64 r.x) ∧ w'.cell? ⟨W.heap.size + 1, 1, none⟩ = some (.int .i64 r.y) ∧ w'.cell? ⟨W.heap.size + 1, 2, none⟩ = some (.int .i64 r.w) ∧ w'.cell? ⟨W.heap.size + 1, 3, none⟩ = some (.int .i64 r.h) ∧ w'.cell? ⟨g, o + i * 4, none⟩ = some (.int .i64 rr.x) ∧ w'.cell? ⟨g, o + i * 4 + 1, none⟩ = some (.int .i64 rr.y) ∧ w'.cell? ⟨g, o + i * 4 + 2, none⟩ = some (.int .i64 rr.w) ∧ w'.cell? ⟨g, o + i * 4 + 3, none⟩ = some (.int .i64 rr.h))
          (exact hkp _ hq)
          (first | (go_at_call 20; with_reducible refine (c3 _).mono ?_; rintro e w' ⟨rfl, hb⟩; replace hq := below_call hq hb; clear hb))
        have hT9 := hT.call hq
        clear hkp hq c3 hT
        go_wp2_with fail
        go_roundw
        case rel => exact ⟨i + 1, by go_num, by omega, hT9⟩
        case measure => simp [RowKit.intOf]; omega
      · obtain rfl : i = l.length := by omega
        clear hmt' hl
        go_upto_region 8 with fail
        have hmx : Tryd.prog.follows .mixedOrders = true := by kernel_rfl
        refine wp_region_held (S := (fun w' => Below wr.heap.size wr w')) hmx ?_
        show wpAnyH _ _ _ _ _ _ _ _ wr.drew
        have hS0 := (Below.refl wr.heap.size wr).drew
        refine reg_tk (i := 0) (v := .agg #[.int .i64 m.w, .int .i64 m.h, .slice p0 m.cs.length c0]) (some 31) rfl (fun w' hS => by (have u0 := (hT.l.below hS).cell 0; have u1 := (hT.l.below hS).cell 1; have u2 := (hT.l.below hS).cell 2; go_simp)) hS0 ?_
        try simp only [Act.put, List.setIfInBounds_toArray, List.set_cons_zero, List.set_cons_succ]
        refine reg_tk (i := 1) (v := .slice pl l.length kl) (some 32) rfl (fun w' hS => by skip; go_simp) hS0 ?_
        try simp only [Act.put, List.setIfInBounds_toArray, List.set_cons_zero, List.set_cons_succ]
        refine reg_tk (i := 2) (v := .slice pl l.length kl) (some 33) rfl (fun w' hS => by skip; go_simp) hS0 ?_
        try simp only [Act.put, List.setIfInBounds_toArray, List.set_cons_zero, List.set_cons_succ]
        refine reg_tk (i := 3) (v := .int .i64 l.length) (some 34) rfl (fun w' hS => by skip; go_simp) hS0 ?_
        try simp only [Act.put, List.setIfInBounds_toArray, List.set_cons_zero, List.set_cons_succ]
        refine reg_tk (i := 4) (v := .int .i64 k2) (some 35) rfl (fun w' hS => by skip; go_simp) hS0 ?_
        try simp only [Act.put, List.setIfInBounds_toArray, List.set_cons_zero, List.set_cons_succ]
        refine reg_tk (i := 5) (v := .slice pt k2 kl) (some 36) rfl (fun w' hS => exec_slH 25 (.tmp 32) (.tmp 35) rfl _ _ _ rfl rfl ht1) hS0 ?_
        try simp only [Act.put, List.setIfInBounds_toArray, List.set_cons_zero, List.set_cons_succ]
        refine reg_tk (i := 6) (v := .agg #[.int .i64 r.x, .int .i64 r.y, .int .i64 r.w, .int .i64 r.h]) (some 37) rfl (fun w' hS => by (have u0 := (hT.r.below hS).cell 0; have u1 := (hT.r.below hS).cell 1; have u2 := (hT.r.below hS).cell 2; have u3 := (hT.r.below hS).cell 3; go_simp)) hS0 ?_
        try simp only [Act.put, List.setIfInBounds_toArray, List.set_cons_zero, List.set_cons_succ]
        refine held_one (i := 7) (by kernel_rfl) rfl (fun K hQ => ?_)
        go_simp
        ((with_reducible refine (c5 _ (below_call hT.old hS0)).mono ?_); rintro e whS1 ⟨rfl, hb⟩)
        have hS1 := below_call hS0 hb
        clear hb
        refine hQ.out _ _ hS1 ?_
        clear hQ
        try simp only [Act.put, List.setIfInBounds_toArray, List.set_cons_zero, List.set_cons_succ]
        refine reg_tk (i := 8) (v := .bool true) (some 39) rfl (fun w' hS => by skip; go_simp) hS1 ?_
        try simp only [Act.put, List.setIfInBounds_toArray, List.set_cons_zero, List.set_cons_succ]
        refine reg_tk (i := 9) (v := .agg #[.int .i64 m.w, .int .i64 m.h, .slice p0 m.cs.length c0]) (some 40) rfl (fun w' hS => by (have u0 := (hT.l.below hS).cell 0; have u1 := (hT.l.below hS).cell 1; have u2 := (hT.l.below hS).cell 2; go_simp)) hS1 ?_
        try simp only [Act.put, List.setIfInBounds_toArray, List.set_cons_zero, List.set_cons_succ]
        refine reg_tk (i := 10) (v := .agg #[.int .i64 r.x, .int .i64 r.y, .int .i64 r.w, .int .i64 r.h]) (some 41) rfl (fun w' hS => by (have u0 := (hT.r.below hS).cell 0; have u1 := (hT.r.below hS).cell 1; have u2 := (hT.r.below hS).cell 2; have u3 := (hT.r.below hS).cell 3; go_simp)) hS1 ?_
        try simp only [Act.put, List.setIfInBounds_toArray, List.set_cons_zero, List.set_cons_succ]
        refine held_one (i := 11) (by kernel_rfl) rfl (fun K hQ => ?_)
        go_simp
        ((with_reducible refine (c6 _ (below_call hT.old hS1)).mono ?_); rintro e whS2 ⟨rfl, hb⟩)
        have hS2 := below_call hS1 hb
        clear hb
        refine hQ.out _ _ hS2 ?_
        clear hQ
        try simp only [Act.put, List.setIfInBounds_toArray, List.set_cons_zero, List.set_cons_succ]
        refine reg_tk (i := 12) (v := .bool true) (some 43) rfl (fun w' hS => by skip; go_simp) hS2 ?_
        try simp only [Act.put, List.setIfInBounds_toArray, List.set_cons_zero, List.set_cons_succ]
        refine reg_tk (i := 13) (v := .bool true) (some 44) rfl (fun w' hS => by skip; go_simp) hS2 ?_
        try simp only [Act.put, List.setIfInBounds_toArray, List.set_cons_zero, List.set_cons_succ]
        refine held_one (i := 14) (by kernel_rfl) rfl (fun K hQ => ?_)
        go_simp
        ((with_reducible refine (ca _ (below_call hT.old hS2)).mono ?_); rintro e whS3 ⟨rfl, hb⟩)
        have hS3 := below_call hS2 hb
        clear hb
        refine hQ.out _ _ hS3 ?_
        clear hQ
        try simp only [Act.put, List.setIfInBounds_toArray, List.set_cons_zero, List.set_cons_succ]
        refine reg_tk (i := 15) (v := .bool true) (some 46) rfl (fun w' hS => by skip; go_simp) hS3 ?_
        try simp only [Act.put, List.setIfInBounds_toArray, List.set_cons_zero, List.set_cons_succ]
        refine reg_tk (i := 16) (v := .bool true) (some 6) rfl (fun w' hS => by skip; go_simp) hS3 ?_
        try simp only [Act.put, List.setIfInBounds_toArray, List.set_cons_zero, List.set_cons_succ]
        refine wpAnyH_done (by kernel_rfl) ?_ _
        show Exit.then _ _ Exit.normal _ _
        go_wp2
        go_ret
        exact ⟨rfl, below_call hT.old hS3⟩

end Go.Proofs.YtoodnblhjopnlaaDoor
