/-
  The laws of layer 15: ClusterEntrancesJoin.
-/
import Derived.Test.YtpgchjhfhndaaaaDoorClLawQ
namespace Go.Proofs.YtpgchjhfhndaaaaDoor
open Go.RowKit Go.Lib

/-- What Inner says, with the lists' lengths named. -/
theorem clinner_q (m : M3) (sp : Option Addr) (n sk : Nat) (bl : List Bool) (lp : Option Addr) (ln lk : Nat) (c k : Int) (a b : Pt) (W : World) (hln : Hid (ln = bl.length)) (hE : EnvT W) (hh : HighAt m) (hr : RowAt W (.slice sp n sk) m.cs) (hl : BitsAt W (.slice lp ln lk) bl) :
    Calls Tryd.prog 29 #[.agg #[.int .i64 m.w, .int .i64 m.h, .slice sp n sk], .slice lp ln lk, .int .i64 c, .int .i64 k, .agg #[.int .i64 a.1, .int .i64 a.2], .agg #[.int .i64 b.1, .int .i64 b.2]] W fun e w' => ∃ n o, e = .returned (.tuple #[.int .i64 n, .bool o]) ∧ InnerR m bl c k a b n o ∧ Below W.heap.size W w' := by
  have h := hln.out
  subst h
  exact (clinner_b m sp n sk bl lp lk c k a b W hE hh hr hl).mono (fun e w h => by obtain ⟨n, o, h1, h2, h3⟩ := h; exact ⟨n, o, h1, h3, h2⟩)

set_option maxRecDepth 100000 in
set_option maxHeartbeats 8000000 in
theorem cljoined_b (m : M3) (sp : Option Addr) (n sk : Nat) (bl : List Bool) (lp : Option Addr) (ln lk : Nat) (c a b : Int) (p q : Pt) (L : List PP) (u : Value) (kn B1 : Nat) (W : World) (hln : Hid (ln = bl.length)) (_hn : Hid (n = m.cs.length)) (_hsm : n ≤ 1024 ∧ ln ≤ 1024) (hE : EnvT W) (hh : HighAt m) (hr : RowAt W (.slice sp n sk) m.cs) (hl : BitsAt W (.slice lp ln lk) bl)
    (hkn : Hid (L.length = kn)) (hk16 : kn ≤ 16) (hov : W.ownsRow B1 49 4 u kn (qcells L)) (hex : ∃ x ∈ L, InReach m bl c a p x.1 ∧ InReach m bl c b q x.2) :
    Calls Tryd.prog 25 #[.agg #[.int .i64 m.w, .int .i64 m.h, .slice sp n sk, .slice lp ln lk, .int .i64 c], .int .i64 a, .int .i64 b, .agg #[.int .i64 p.1, .int .i64 p.2], .agg #[.int .i64 q.1, .int .i64 q.2], u] W fun e w' => e = .returned (.bool true) ∧ Below W.heap.size W w' := by
  have hmx : Tryd.prog.follows .mixedOrders = true := by kernel_rfl
  have hL0 : 1 ≤ kn := by obtain ⟨x, hx, _⟩ := hex; rw [← hkn.out]; exact List.length_pos_of_mem hx
  obtain ⟨g, cap, rfl⟩ := own_some hov hL0
  have hex2 : ∃ i, ∃ h : i < L.length, InReach m bl c a p (L[i]'h).1 ∧ InReach m bl c b q (L[i]'h).2 := by
    obtain ⟨x, hx, h1⟩ := hex
    obtain ⟨i, hi, e⟩ := List.getElem_of_mem hx
    exact ⟨i, hi, by rw [e]; exact h1⟩
  replace hex2 := hid hex2
  clear hex
  have hK := ((((Keep.nil W).alloc [.int .i64 m.w, .int .i64 m.h, .slice sp n sk, .slice lp ln lk, .int .i64 c] 37).alloc [.int .i64 p.1, .int .i64 p.2] 26).alloc [.int .i64 q.1, .int .i64 q.2] 26)
  simp only [World.size_alloc] at hK
  go_enter Tryd.func25, Tryd.ntmps25
  go_upto_region 1 with fail
  obtain ⟨X, hX⟩ : ∃ X, X = ((W.alloc (.cells ([.int .i64 m.w, .int .i64 m.h, .slice sp n sk, .slice lp ln lk, .int .i64 c] : List Value).toArray 37)).alloc (.cells [Value.int .i64 p.1, .int .i64 p.2].toArray 26)).alloc (.cells [Value.int .i64 q.1, .int .i64 q.2].toArray 26) := ⟨_, rfl⟩
  rw [← hX] at hK ⊢
  clear hX
  obtain ⟨k2, e2⟩ : ∃ k2, Hid (k2 = W.heap.size + 1 + 1) := ⟨_, hid rfl⟩
  obtain ⟨k1, e1⟩ : ∃ k1, Hid (k1 = W.heap.size + 1) := ⟨_, hid rfl⟩
  obtain ⟨k0, e0⟩ : ∃ k0, Hid (k0 = W.heap.size) := ⟨_, hid rfl⟩
  have zf : Blk X k0 [.int .i64 m.w, .int .i64 m.h, .slice sp n sk, .slice lp ln lk, .int .i64 c] 37 := (hK.blks (W.heap.size, [.int .i64 m.w, .int .i64 m.h, .slice sp n sk, .slice lp ln lk, .int .i64 c], 37) (by simp)).at e0.out.symm
  have zp : Blk X k1 (ptL p) 26 := (hK.blks (W.heap.size + 1, ptL p, 26) (by simp)).at e1.out.symm
  have zq : Blk X k2 (ptL q) 26 := (hK.blks (W.heap.size + 1 + 1, ptL q, 26) (by simp)).at e2.out.symm
  have hW := hK.old
  rw [← e2.out, ← e1.out]
  rw [← e0.out]
  clear hK e0 e1 e2
  go_wp2_with fail
  go_loopw [13] (fun vi wr => ∃ i : Nat, vi = .int .i64 i ∧ i ≤ kn ∧ Hid (∀ x, (h : x < L.length) → x < i → ¬ (InReach m bl c a p (L[x]'h).1 ∧ InReach m bl c b q (L[x]'h).2)) ∧ Blk wr k0 [.int .i64 m.w, .int .i64 m.h, .slice sp n sk, .slice lp ln lk, .int .i64 c] 37 ∧ Blk wr k1 (ptL p) 26 ∧ Blk wr k2 (ptL q) 26 ∧ Below W.heap.size W wr) (fun vi _ => kn - (RowKit.intOf vi).toNat)
  case atStart => exact ⟨0, rfl, by omega, hid (fun x h h0 => by omega), zf, zp, zq, hW⟩
  case round =>
    clear zf zp zq hW
    obtain ⟨i, rfl, hi, hno, zf, zp, zq, hW⟩ := hrel
    by_cases hlt : i < kn
    · have z1 : decide ((i : Int) < (kn : Int)) = true := decide_eq_true (by omega)
      have i0 : (0 : Int) ≤ (i : Int) := by omega
      have i1 : (i : Int) < (kn : Int) := by omega
      have nadd : IntKind.i64.wrap ((i : Int) + 1) = ((i + 1 : Nat) : Int) := by rw [IntWalk.i64_in _ (by omega)]; simp
      have hmeas : kn - (RowKit.intOf (Value.int .i64 ((i : Int) + 1))).toNat < kn - (RowKit.intOf (Value.int .i64 (i : Int))).toNat := by simp [RowKit.intOf]; omega
      have hil : i < L.length := by rw [hkn.out]; exact hlt
      obtain ⟨a0, a1, a2, a3⟩ := qcells_at L i hil
      obtain ⟨y, hy⟩ : ∃ y, Hid (y = (L[i]'hil).1) := ⟨_, hid rfl⟩
      obtain ⟨z, hz⟩ : ∃ z, Hid (z = (L[i]'hil).2) := ⟨_, hid rfl⟩
      rw [← hy.out] at a0 a1
      rw [← hz.out] at a2 a3
      have hgl := (hov.lt g rfl).2
      have cell : ∀ (x : Nat) (v : Value), x < kn * 4 → (qcells L)[x]? = some v → ∀ w', Below wr.heap.size wr w' → w'.cell? ⟨g, x, none⟩ = some v := fun x v h1 h2 w' h => ((below_call hW h).cell (p := ⟨g, x, none⟩) hgl).trans ((hov.cellAt x h1).trans h2)
      have hc0 := cell (i * 4) _ (by omega) a0
      have hc1 := cell (i * 4 + 1) _ (by omega) a1
      have hc2 : ∀ w', Below wr.heap.size wr w' → w'.cell? ⟨g, i * 4 + 2, none⟩ = some (.int .i64 z.1) := cell (i * 4 + 2) _ (by omega) a2
      have hc3 : ∀ w', Below wr.heap.size wr w' → w'.cell? ⟨g, i * 4 + 2 + 1, none⟩ = some (.int .i64 z.2) := cell (i * 4 + 3) _ (by omega) a3
      clear cell a0 a1 a2 a3
      have hmx : Tryd.prog.follows .mixedOrders = true := by kernel_rfl
      go_upto_region 4 with fail
      refine wp_onlyN (wp_region_held (S := fun w' => Below wr.heap.size wr w') hmx ?_)
      show wpAnyH _ _ _ _ _ _ _ _ wr.drew
      have hS0 := (Below.refl wr.heap.size wr).drew
      refine reg_tk (i := 0) (v := .pointer (some ⟨k0, 0, none⟩)) (some 25) rfl (fun w' hS => by (skip); go_simp) hS0 ?_
      try simp only [Act.put, List.setIfInBounds_toArray, List.set_cons_zero, List.set_cons_succ]
      refine reg_tk (i := 1) (v := .agg #[.int .i64 m.w, .int .i64 m.h, .slice sp n sk]) (some 26) rfl (fun w' hS => by (have c0 := (zf.below hS).cell 0; have c1 := (zf.below hS).cell 1; have c2 := (zf.below hS).cell 2; simp only [List.getElem?_cons_zero, List.getElem?_cons_succ] at c0 c1 c2); go_simp) hS0 ?_
      try simp only [Act.put, List.setIfInBounds_toArray, List.set_cons_zero, List.set_cons_succ]
      refine reg_tk (i := 2) (v := .pointer (some ⟨k0, 3, none⟩)) (some 27) rfl (fun w' hS => by (skip); go_simp) hS0 ?_
      try simp only [Act.put, List.setIfInBounds_toArray, List.set_cons_zero, List.set_cons_succ]
      refine reg_tk (i := 3) (v := .slice lp ln lk) (some 28) rfl (fun w' hS => by (have c3 := (zf.below hS).cell 3; simp only [List.getElem?_cons_zero, List.getElem?_cons_succ] at c3); go_simp) hS0 ?_
      try simp only [Act.put, List.setIfInBounds_toArray, List.set_cons_zero, List.set_cons_succ]
      refine reg_tk (i := 4) (v := .pointer (some ⟨k0, 4, none⟩)) (some 29) rfl (fun w' hS => by (skip); go_simp) hS0 ?_
      try simp only [Act.put, List.setIfInBounds_toArray, List.set_cons_zero, List.set_cons_succ]
      refine reg_tk (i := 5) (v := .int .i64 c) (some 30) rfl (fun w' hS => by (have c4 := (zf.below hS).cell 4; simp only [List.getElem?_cons_zero, List.getElem?_cons_succ] at c4); go_simp) hS0 ?_
      try simp only [Act.put, List.setIfInBounds_toArray, List.set_cons_zero, List.set_cons_succ]
      refine reg_tk (i := 6) (v := .int .i64 a) (some 31) rfl (fun w' hS => by (skip); go_simp) hS0 ?_
      try simp only [Act.put, List.setIfInBounds_toArray, List.set_cons_zero, List.set_cons_succ]
      refine reg_tk (i := 7) (v := .agg #[.int .i64 p.1, .int .i64 p.2]) (some 32) rfl (fun w' hS => by (have c0 := (zp.below hS).cell 0; have c1 := (zp.below hS).cell 1; simp only [List.getElem?_cons_zero, List.getElem?_cons_succ] at c0 c1); go_simp) hS0 ?_
      try simp only [Act.put, List.setIfInBounds_toArray, List.set_cons_zero, List.set_cons_succ]
      refine reg_tk (i := 8) (v := .slice (some ⟨g, 0, none⟩) kn cap) (some 33) rfl (fun w' hS => by (skip); go_simp) hS0 ?_
      try simp only [Act.put, List.setIfInBounds_toArray, List.set_cons_zero, List.set_cons_succ]
      refine reg_tk (i := 9) (v := .int .i64 i) (some 34) rfl (fun w' hS => by (skip); go_simp) hS0 ?_
      try simp only [Act.put, List.setIfInBounds_toArray, List.set_cons_zero, List.set_cons_succ]
      refine reg_tk (i := 10) (v := .pointer (some ⟨g, i * 4, none⟩)) (some 35) rfl (fun w' hS => by (skip); go_simp) hS0 ?_
      try simp only [Act.put, List.setIfInBounds_toArray, List.set_cons_zero, List.set_cons_succ]
      refine reg_tk (i := 11) (v := .pointer (some ⟨g, i * 4, none⟩)) (some 36) rfl (fun w' hS => by (skip); go_simp) hS0 ?_
      try simp only [Act.put, List.setIfInBounds_toArray, List.set_cons_zero, List.set_cons_succ]
      refine reg_tk (i := 12) (v := .agg #[.int .i64 y.1, .int .i64 y.2]) (some 37) rfl (fun w' hS => by (have c1 := hc0 _ hS; have c2 := hc1 _ hS); go_simp) hS0 ?_
      try simp only [Act.put, List.setIfInBounds_toArray, List.set_cons_zero, List.set_cons_succ]
      refine held_one (i := 13) (by kernel_rfl) rfl (fun K hQ => ?_)
      go_simp
      ((with_reducible refine (clinner_q m sp n sk bl lp ln lk c a p y _ hln (hE.keep (below_call hW hS0)) hh (hr.below (below_call hW hS0)) (hl.below (below_call hW hS0))).mono ?_); rintro e w1 ⟨ny, oy, rfl, hiny, hby⟩)
      have hS1 := below_call hS0 hby
      clear hby
      refine hQ.out _ _ hS1 ?_
      clear hQ
      try simp only [Act.put, List.setIfInBounds_toArray, List.set_cons_zero, List.set_cons_succ]
      refine reg_tk (i := 14) (v := .tuple #[.int .i64 ny, .bool oy]) (some 24) rfl (fun w' hS => by (skip); go_simp) hS1 ?_
      try simp only [Act.put, List.setIfInBounds_toArray, List.set_cons_zero, List.set_cons_succ]
      refine reg_tk (i := 15) (v := .int .i64 ny) (some 39) rfl (fun w' hS => by (skip); go_simp) hS1 ?_
      try simp only [Act.put, List.setIfInBounds_toArray, List.set_cons_zero, List.set_cons_succ]
      refine reg_tk (i := 16) (v := .bool oy) (some 40) rfl (fun w' hS => by (skip); go_simp) hS1 ?_
      try simp only [Act.put, List.setIfInBounds_toArray, List.set_cons_zero, List.set_cons_succ]
      refine reg_tk (i := 17) (v := .int .i64 ny) (some 14) rfl (fun w' hS => by (skip); go_simp) hS1 ?_
      try simp only [Act.put, List.setIfInBounds_toArray, List.set_cons_zero, List.set_cons_succ]
      refine reg_tk (i := 18) (v := .bool oy) (some 15) rfl (fun w' hS => by (skip); go_simp) hS1 ?_
      try simp only [Act.put, List.setIfInBounds_toArray, List.set_cons_zero, List.set_cons_succ]
      refine wpAnyH_done (by kernel_rfl) ?_ _
      try simp only [onlyN]
      have hbz := hS1
      replace zf := zf.below hS1
      replace zq := zq.below hS1
      replace hW := below_call hW hS1
      replace hc2 : ∀ w', Below w1.heap.size w1 w' → w'.cell? ⟨g, i * 4 + 2, none⟩ = some (.int .i64 z.1) := fun w' h => hc2 w' (below_call hbz h)
      replace hc3 : ∀ w', Below w1.heap.size w1 w' → w'.cell? ⟨g, i * 4 + 2 + 1, none⟩ = some (.int .i64 z.2) := fun w' h => hc3 w' (below_call hbz h)
      replace zp := zp.below hbz
      clear hS1 hbz hc0 hc1
      have hmx : Tryd.prog.follows .mixedOrders = true := by kernel_rfl
      go_upto_region 5 with fail
      refine wp_onlyN (wp_region_held (S := fun w' => Below w1.heap.size w1 w') hmx ?_)
      show wpAnyH _ _ _ _ _ _ _ _ w1.drew
      have hS0 := (Below.refl w1.heap.size w1).drew
      refine reg_tk (i := 0) (v := .pointer (some ⟨k0, 0, none⟩)) (some 42) rfl (fun w' hS => by (skip); go_simp) hS0 ?_
      try simp only [Act.put, List.setIfInBounds_toArray, List.set_cons_zero, List.set_cons_succ]
      refine reg_tk (i := 1) (v := .agg #[.int .i64 m.w, .int .i64 m.h, .slice sp n sk]) (some 43) rfl (fun w' hS => by (have c0 := (zf.below hS).cell 0; have c1 := (zf.below hS).cell 1; have c2 := (zf.below hS).cell 2; simp only [List.getElem?_cons_zero, List.getElem?_cons_succ] at c0 c1 c2); go_simp) hS0 ?_
      try simp only [Act.put, List.setIfInBounds_toArray, List.set_cons_zero, List.set_cons_succ]
      refine reg_tk (i := 2) (v := .pointer (some ⟨k0, 3, none⟩)) (some 44) rfl (fun w' hS => by (skip); go_simp) hS0 ?_
      try simp only [Act.put, List.setIfInBounds_toArray, List.set_cons_zero, List.set_cons_succ]
      refine reg_tk (i := 3) (v := .slice lp ln lk) (some 45) rfl (fun w' hS => by (have c3 := (zf.below hS).cell 3; simp only [List.getElem?_cons_zero, List.getElem?_cons_succ] at c3); go_simp) hS0 ?_
      try simp only [Act.put, List.setIfInBounds_toArray, List.set_cons_zero, List.set_cons_succ]
      refine reg_tk (i := 4) (v := .pointer (some ⟨k0, 4, none⟩)) (some 46) rfl (fun w' hS => by (skip); go_simp) hS0 ?_
      try simp only [Act.put, List.setIfInBounds_toArray, List.set_cons_zero, List.set_cons_succ]
      refine reg_tk (i := 5) (v := .int .i64 c) (some 47) rfl (fun w' hS => by (have c4 := (zf.below hS).cell 4; simp only [List.getElem?_cons_zero, List.getElem?_cons_succ] at c4); go_simp) hS0 ?_
      try simp only [Act.put, List.setIfInBounds_toArray, List.set_cons_zero, List.set_cons_succ]
      refine reg_tk (i := 6) (v := .int .i64 b) (some 48) rfl (fun w' hS => by (skip); go_simp) hS0 ?_
      try simp only [Act.put, List.setIfInBounds_toArray, List.set_cons_zero, List.set_cons_succ]
      refine reg_tk (i := 7) (v := .agg #[.int .i64 q.1, .int .i64 q.2]) (some 49) rfl (fun w' hS => by (have c0 := (zq.below hS).cell 0; have c1 := (zq.below hS).cell 1; simp only [List.getElem?_cons_zero, List.getElem?_cons_succ] at c0 c1); go_simp) hS0 ?_
      try simp only [Act.put, List.setIfInBounds_toArray, List.set_cons_zero, List.set_cons_succ]
      refine reg_tk (i := 8) (v := .slice (some ⟨g, 0, none⟩) kn cap) (some 50) rfl (fun w' hS => by (skip); go_simp) hS0 ?_
      try simp only [Act.put, List.setIfInBounds_toArray, List.set_cons_zero, List.set_cons_succ]
      refine reg_tk (i := 9) (v := .int .i64 i) (some 51) rfl (fun w' hS => by (skip); go_simp) hS0 ?_
      try simp only [Act.put, List.setIfInBounds_toArray, List.set_cons_zero, List.set_cons_succ]
      refine reg_tk (i := 10) (v := .pointer (some ⟨g, i * 4, none⟩)) (some 52) rfl (fun w' hS => by (skip); go_simp) hS0 ?_
      try simp only [Act.put, List.setIfInBounds_toArray, List.set_cons_zero, List.set_cons_succ]
      refine reg_tk (i := 11) (v := .pointer (some ⟨g, i * 4 + 2, none⟩)) (some 53) rfl (fun w' hS => by (skip); go_simp) hS0 ?_
      try simp only [Act.put, List.setIfInBounds_toArray, List.set_cons_zero, List.set_cons_succ]
      refine reg_tk (i := 12) (v := .agg #[.int .i64 z.1, .int .i64 z.2]) (some 54) rfl (fun w' hS => by (have c1 := hc2 _ hS; have c2 := hc3 _ hS); go_simp) hS0 ?_
      try simp only [Act.put, List.setIfInBounds_toArray, List.set_cons_zero, List.set_cons_succ]
      refine held_one (i := 13) (by kernel_rfl) rfl (fun K hQ => ?_)
      go_simp
      ((with_reducible refine (clinner_q m sp n sk bl lp ln lk c b q z _ hln (hE.keep (below_call hW hS0)) hh (hr.below (below_call hW hS0)) (hl.below (below_call hW hS0))).mono ?_); rintro e w2 ⟨nz, oz, rfl, hinz, hbz⟩)
      have hS1 := below_call hS0 hbz
      clear hbz
      refine hQ.out _ _ hS1 ?_
      clear hQ
      try simp only [Act.put, List.setIfInBounds_toArray, List.set_cons_zero, List.set_cons_succ]
      refine reg_tk (i := 14) (v := .tuple #[.int .i64 nz, .bool oz]) (some 41) rfl (fun w' hS => by (skip); go_simp) hS1 ?_
      try simp only [Act.put, List.setIfInBounds_toArray, List.set_cons_zero, List.set_cons_succ]
      refine reg_tk (i := 15) (v := .int .i64 nz) (some 56) rfl (fun w' hS => by (skip); go_simp) hS1 ?_
      try simp only [Act.put, List.setIfInBounds_toArray, List.set_cons_zero, List.set_cons_succ]
      refine reg_tk (i := 16) (v := .bool oz) (some 57) rfl (fun w' hS => by (skip); go_simp) hS1 ?_
      try simp only [Act.put, List.setIfInBounds_toArray, List.set_cons_zero, List.set_cons_succ]
      refine reg_tk (i := 17) (v := .int .i64 nz) (some 16) rfl (fun w' hS => by (skip); go_simp) hS1 ?_
      try simp only [Act.put, List.setIfInBounds_toArray, List.set_cons_zero, List.set_cons_succ]
      refine reg_tk (i := 18) (v := .bool oz) (some 17) rfl (fun w' hS => by (skip); go_simp) hS1 ?_
      try simp only [Act.put, List.setIfInBounds_toArray, List.set_cons_zero, List.set_cons_succ]
      refine wpAnyH_done (by kernel_rfl) ?_ _
      try simp only [onlyN]
      replace zf := zf.below hS1
      replace zp := zp.below hS1
      replace zq := zq.below hS1
      replace hW := below_call hW hS1
      clear hS1 hc2 hc3
      cases oy with
      | true =>
        cases oz with
        | true =>
          clear hiny hinz
          go_wp2_with fail
          go_ret
          exact ⟨rfl, hW⟩
        | false =>
          have hN := hid (show ∀ x, (h : x < L.length) → x < i + 1 → ¬ (InReach m bl c a p (L[x]'h).1 ∧ InReach m bl c b q (L[x]'h).2) from fun x h hx => by
            by_cases hxi : x < i
            · exact hno.out x h hxi
            · obtain rfl : x = i := by omega
              rw [← hz.out]
              exact fun hh => by have := hinz.ok.2 hh.2; cases this)
          clear hno hiny hinz
          go_wp2_with fail
          have hadd : Value.int .i64 ((i : Int) + 1) = Value.int .i64 ((i + 1 : Nat) : Int) := by push_cast; rfl
          exact ⟨⟨i + 1, hadd, by omega, hN, zf, zp, zq, hW⟩, hmeas⟩
      | false =>
        have hN := hid (show ∀ x, (h : x < L.length) → x < i + 1 → ¬ (InReach m bl c a p (L[x]'h).1 ∧ InReach m bl c b q (L[x]'h).2) from fun x h hx => by
          by_cases hxi : x < i
          · exact hno.out x h hxi
          · obtain rfl : x = i := by omega
            rw [← hy.out]
            exact fun hh => by have := hiny.ok.2 hh.1; cases this)
        clear hno hiny hinz
        go_wp2_with fail
        have hadd : Value.int .i64 ((i : Int) + 1) = Value.int .i64 ((i + 1 : Nat) : Int) := by push_cast; rfl
        exact ⟨⟨i + 1, hadd, by omega, hN, zf, zp, zq, hW⟩, hmeas⟩
    · obtain ⟨x, hx, h1⟩ := hex2.out
      exact absurd h1 (hno.out x hx (by rw [hkn.out] at hx; omega))

end Go.Proofs.YtpgchjhfhndaaaaDoor
