/-
  The laws of layer 15: ClusterInner.
-/
import Derived.Test.YtpgchjhfhndaaaaGreatDoorClAb
import Derived.Test.YtpgchjhfhndaaaaGreatDoorClLawP
namespace Go.Proofs.YtpgchjhfhndaaaaGreatDoor
open Go.RowKit Go.Lib

theorem reach_symm {m : M3} {bl : List Bool} {c k : Int} {a b : Pt} (h : InReach m bl c k a b) : InReach m bl c k b a := by
  have hf := valid_formed (ex_valid h.ex).1
  have ok := ar_ok h.ex
  have okG := cls_nb h.ex bl c
  refine ⟨h.ex, h.cls, h.ib, h.ia, ?_, h.way.symm okG⟩
  by_cases e : cix m k a = cix m k b
  · have e2 : shp (arv m k) a = shp (arv m k) b := idx_inj (part_formed ok hf) (by rw [part_insp ok hf]; exact h.ia) (by rw [part_insp ok hf]; exact h.ib) e
    have e3 : a = b := by
      unfold shp at e2
      injection e2 with e4 e5
      exact Prod.ext (by omega) (by omega)
    rw [← e3]; exact h.opn
  · have h2 := (conn_open (part_formed ok hf) (partb m bl (arv m k)) c _ _ h.way e).2
    unfold opn at h2
    rw [(cls_posn h.ex h.ib).1] at h2
    have h3 := part_open ok hf bl c h.ib
    unfold shp at h2
    dsimp only at h2
    rw [h3] at h2
    exact h2
theorem inner_symm {m : M3} {bl : List Bool} {c k : Int} {a b : Pt} {n : Int} {o : Bool} (h : InnerR m bl c k a b n o) : InnerR m bl c k b a n o := by
  cases h with
  | yes n h1 h2 h3 =>
    have okG := cls_nb h1.ex bl c
    exact .yes n (reach_symm h1) (h2.symm okG) (fun e w => h3 e (w.symm okG))
  | no h1 => exact .no (fun hr => h1 (reach_symm hr))

set_option maxRecDepth 100000 in
set_option maxHeartbeats 4000000 in
theorem rinner15_b (m : M3) (sp : Option Addr) (sn sk : Nat) (bl : List Bool) (lp : Option Addr) (ln lk : Nat) (c k : Int) (a b : Pt) (W : World) (hh : HighAt m) (hr : RowAt W (.slice sp sn sk) m.cs) (hl : BitsAt W (.slice lp ln lk) bl) :
    Calls Tryz.prog 13 #[.agg #[.int .i64 m.w, .int .i64 m.h, .slice sp sn sk], .slice lp ln lk, .int .i64 c, .int .i64 k, .agg #[.int .i64 a.1, .int .i64 a.2], .agg #[.int .i64 b.1, .int .i64 b.2]] W fun e w' => ∃ n o, e = .returned (.tuple #[.int .i64 n, .bool o]) ∧ InnerR m bl c k a b n o ∧ Below W.heap.size W w' := by
  have hK := ((((Keep.nil W).alloc [.int .i64 m.w, .int .i64 m.h, .slice sp sn sk] 24).alloc [.int .i64 a.1, .int .i64 a.2] 29).alloc [.int .i64 b.1, .int .i64 b.2] 29)
  simp only [World.size_alloc] at hK
  go_enter Tryz.func13, Tryz.ntmps13
  go_upto_region 1 with fail
  obtain ⟨X, hX⟩ : ∃ X, X = ((W.alloc (.cells ([.int .i64 m.w, .int .i64 m.h, .slice sp sn sk] : List Value).toArray 24)).alloc (.cells [Value.int .i64 a.1, .int .i64 a.2].toArray 29)).alloc (.cells [Value.int .i64 b.1, .int .i64 b.2].toArray 29) := ⟨_, rfl⟩
  rw [← hX] at hK ⊢
  clear hX
  obtain ⟨k2, e2⟩ : ∃ k2, Hid (k2 = W.heap.size + 1 + 1) := ⟨_, hid rfl⟩
  obtain ⟨k1, e1⟩ : ∃ k1, Hid (k1 = W.heap.size + 1) := ⟨_, hid rfl⟩
  obtain ⟨k0, e0⟩ : ∃ k0, Hid (k0 = W.heap.size) := ⟨_, hid rfl⟩
  have zm : Blk X k0 [.int .i64 m.w, .int .i64 m.h, .slice sp sn sk] 24 := (hK.blks (W.heap.size, [.int .i64 m.w, .int .i64 m.h, .slice sp sn sk], 24) (by simp)).at e0.out.symm
  have za : Blk X k1 (ptL a) 29 := (hK.blks (W.heap.size + 1, ptL a, 29) (by simp)).at e1.out.symm
  have zb : Blk X k2 (ptL b) 29 := (hK.blks (W.heap.size + 1 + 1, ptL b, 29) (by simp)).at e2.out.symm
  have hW := hK.old
  rw [← e2.out, ← e1.out]
  rw [← e0.out]
  clear hK e0 e1 e2
  have hmx : Tryz.prog.follows .mixedOrders = true := by kernel_rfl
  go_upto_region 1 with fail
  refine wp_onlyN (wp_region_held (S := fun w' => Below X.heap.size X w') hmx ?_)
  show wpAnyH _ _ _ _ _ _ _ _ X.drew
  have hS0 := (Below.refl X.heap.size X).drew
  refine reg_tk (i := 0) (v := .agg #[.int .i64 m.w, .int .i64 m.h, .slice sp sn sk]) (some 14) rfl (fun w' hS => by (have c0 := (zm.below hS).cell 0; have c1 := (zm.below hS).cell 1; have c2 := (zm.below hS).cell 2; simp only [List.getElem?_cons_zero, List.getElem?_cons_succ] at c0 c1 c2); go_simp) hS0 ?_
  try simp only [Act.put, List.setIfInBounds_toArray, List.set_cons_zero, List.set_cons_succ]
  refine reg_tk (i := 1) (v := .int .i64 k) (some 15) rfl (fun w' hS => by (skip); go_simp) hS0 ?_
  try simp only [Act.put, List.setIfInBounds_toArray, List.set_cons_zero, List.set_cons_succ]
  refine reg_tk (i := 2) (v := .agg #[.int .i64 m.w, .int .i64 m.h, .slice sp sn sk]) (some 16) rfl (fun w' hS => by (have c0 := (zm.below hS).cell 0; have c1 := (zm.below hS).cell 1; have c2 := (zm.below hS).cell 2; simp only [List.getElem?_cons_zero, List.getElem?_cons_succ] at c0 c1 c2); go_simp) hS0 ?_
  try simp only [Act.put, List.setIfInBounds_toArray, List.set_cons_zero, List.set_cons_succ]
  refine reg_tk (i := 3) (v := .slice lp ln lk) (some 17) rfl (fun w' hS => by (skip); go_simp) hS0 ?_
  try simp only [Act.put, List.setIfInBounds_toArray, List.set_cons_zero, List.set_cons_succ]
  refine reg_tk (i := 4) (v := .int .i64 c) (some 18) rfl (fun w' hS => by (skip); go_simp) hS0 ?_
  try simp only [Act.put, List.setIfInBounds_toArray, List.set_cons_zero, List.set_cons_succ]
  refine reg_tk (i := 5) (v := .int .i64 k) (some 19) rfl (fun w' hS => by (skip); go_simp) hS0 ?_
  try simp only [Act.put, List.setIfInBounds_toArray, List.set_cons_zero, List.set_cons_succ]
  refine reg_tk (i := 6) (v := .agg #[.int .i64 a.1, .int .i64 a.2]) (some 20) rfl (fun w' hS => by (have c0 := (za.below hS).cell 0; have c1 := (za.below hS).cell 1; simp only [List.getElem?_cons_zero, List.getElem?_cons_succ] at c0 c1); go_simp) hS0 ?_
  try simp only [Act.put, List.setIfInBounds_toArray, List.set_cons_zero, List.set_cons_succ]
  refine reg_tk (i := 8) (v := .agg #[.int .i64 b.1, .int .i64 b.2]) (some 22) rfl (fun w' hS => by (have c0 := (zb.below hS).cell 0; have c1 := (zb.below hS).cell 1; simp only [List.getElem?_cons_zero, List.getElem?_cons_succ] at c0 c1); go_simp) hS0 ?_
  try simp only [Act.put, List.setIfInBounds_toArray, List.set_cons_zero, List.set_cons_succ]
  refine held_one (i := 7) (by kernel_rfl) rfl (fun K hQ => ?_)
  go_simp
  ((with_reducible refine (rcosts15_b m sp sn sk bl lp ln lk c k a _ hh (hr.below (below_call hW hS0)) (hl.below (below_call hW hS0))).mono ?_); rintro e w1 ⟨v1, D, rfl, hI, hC, hb1⟩)
  have hS1 := below_call hS0 hb1
  clear hb1
  refine hQ.out _ _ hS1 ?_
  clear hQ
  try simp only [Act.put, List.setIfInBounds_toArray, List.set_cons_zero, List.set_cons_succ]
  refine held_one (i := 9) (by kernel_rfl) rfl (fun K hQ => ?_)
  go_simp
  ((with_reducible refine (rcost15_b m sp sn sk bl c k a b v1 D w1 (hr.below (below_call hW hS1)) hI hC).mono ?_); rintro e w2 ⟨n1, o1, rfl, hin, hb2⟩)
  have hS2 := below_call hS1 hb2
  clear hb2
  refine hQ.out _ _ hS2 ?_
  clear hQ
  try simp only [Act.put, List.setIfInBounds_toArray, List.set_cons_zero, List.set_cons_succ]
  refine reg_tk (i := 10) (v := .int .i64 n1) (some 24) rfl (fun w' hS => by (skip); go_simp) hS2 ?_
  try simp only [Act.put, List.setIfInBounds_toArray, List.set_cons_zero, List.set_cons_succ]
  refine reg_tk (i := 11) (v := .bool o1) (some 25) rfl (fun w' hS => by (skip); go_simp) hS2 ?_
  try simp only [Act.put, List.setIfInBounds_toArray, List.set_cons_zero, List.set_cons_succ]
  refine reg_tk (i := 12) (v := .int .i64 n1) (some 12) rfl (fun w' hS => by (skip); go_simp) hS2 ?_
  try simp only [Act.put, List.setIfInBounds_toArray, List.set_cons_zero, List.set_cons_succ]
  refine reg_tk (i := 13) (v := .bool o1) (some 13) rfl (fun w' hS => by (skip); go_simp) hS2 ?_
  try simp only [Act.put, List.setIfInBounds_toArray, List.set_cons_zero, List.set_cons_succ]
  refine wpAnyH_done (by kernel_rfl) ?_ _
  try simp only [onlyN]
  go_wp2_with fail
  refine bodyPost_ret (v := .tuple #[.int .i64 n1, .bool o1]) (by simp [results, Tryz.results13, go_sem]) rfl ?_
  exact ⟨n1, o1, rfl, hin, below_call hW hS2⟩

theorem clinner_q2 (m : M3) (sp : Option Addr) (n sk : Nat) (bl : List Bool) (lp : Option Addr) (ln lk : Nat) (c k : Int) (a b : Pt) (W : World) (hln : Hid (ln = bl.length)) (hE : EnvT W) (hh : HighAt m) (hr : RowAt W (.slice sp n sk) m.cs) (hl : BitsAt W (.slice lp ln lk) bl) :
    Calls Tryz.prog 12 #[.agg #[.int .i64 m.w, .int .i64 m.h, .slice sp n sk], .slice lp ln lk, .int .i64 c, .int .i64 k, .agg #[.int .i64 a.1, .int .i64 a.2], .agg #[.int .i64 b.1, .int .i64 b.2]] W fun e w' => ∃ n o, e = .returned (.tuple #[.int .i64 n, .bool o]) ∧ InnerR m bl c k a b n o ∧ Below W.heap.size W w' := by
  have h := hln.out
  subst h
  exact (clinner_b m sp n sk bl lp lk c k a b W hE hh hr hl).mono (fun e w h => by obtain ⟨n, o, h1, h2, h3⟩ := h; exact ⟨n, o, h1, h3, h2⟩)

set_option maxHeartbeats 4000000 in
theorem clfew2_b (m : M3) (p0 pl : Option Addr) (nb c0 kl : Nat) (c : Int) (b : Bool) (W : World) (e : Hid (b = decide (m.cs.length ≤ 1024 ∧ nb ≤ 1024))) :
    Calls Tryz.prog 10 #[.agg #[.int .i64 m.w, .int .i64 m.h, .slice p0 m.cs.length c0, .slice pl nb kl, .int .i64 c]] W fun e w' => e = .returned (.bool b) ∧ Below W.heap.size W w' := by
  have hL := (Below.refl W.heap.size W).alloc (Nat.le_refl _) (.cells [Value.int .i64 m.w, .int .i64 m.h, .slice p0 m.cs.length c0, .slice pl nb kl, .int .i64 c].toArray 27)
  generalize m.cs.length = n at *
  by_cases h1 : n ≤ 1024
  · have z1 : decide ((n : Int) ≤ 1024) = true := decide_eq_true (by omega)
    by_cases h2 : nb ≤ 1024
    · have z2 : decide ((nb : Int) ≤ 1024) = true := decide_eq_true (by omega)
      have hb : b = true := by rw [e.out]; exact decide_eq_true ⟨h1, h2⟩
      subst hb
      clear e h1 h2
      go_enter Tryz.func10, Tryz.ntmps10
      go_wp2_with fail
      go_ret
      exact ⟨rfl, hL⟩
    · have z2 : decide ((nb : Int) ≤ 1024) = false := decide_eq_false (by omega)
      have hb : b = false := by rw [e.out]; exact decide_eq_false (fun h => h2 h.2)
      subst hb
      clear e h1 h2
      go_enter Tryz.func10, Tryz.ntmps10
      go_wp2_with fail
      go_ret
      exact ⟨rfl, hL⟩
  · have z1 : decide ((n : Int) ≤ 1024) = false := decide_eq_false (by omega)
    have hb : b = false := by rw [e.out]; exact decide_eq_false (fun h => h1 h.1)
    subst hb
    clear e h1
    go_enter Tryz.func10, Tryz.ntmps10
    go_wp2_with fail
    go_ret
    exact ⟨rfl, hL⟩

set_option maxRecDepth 100000 in
set_option maxHeartbeats 8000000 in
theorem law15_inner (m : M3) (s0 : Value) (bl : List Bool) (l : Value) (c k : Int) (p q : Pt) (W : World) (hE : EnvT W) (hh : HighAt m) (hr : RowAt W s0 m.cs) (hl : BitsAt W l bl) :
    Calls Tryz.prog 3 #[.agg #[.int .i64 m.w, .int .i64 m.h, s0, l, .int .i64 c], .int .i64 k, .agg #[.int .i64 p.1, .int .i64 p.2, .int .i64 q.1, .int .i64 q.2]] W fun e w' => e = .returned (.bool true) ∧ Below W.heap.size W w' := by
  obtain ⟨sp, sk, rfl⟩ := hr.slice
  obtain ⟨lp, lk, rfl, -⟩ := id hl
  obtain ⟨n, hn⟩ : ∃ n, Hid (n = m.cs.length) := ⟨_, hid rfl⟩
  obtain ⟨ln, hln⟩ : ∃ n, Hid (n = bl.length) := ⟨_, hid rfl⟩
  obtain ⟨sm, hsm⟩ : ∃ sm, Hid (sm = decide (m.cs.length ≤ 1024 ∧ bl.length ≤ 1024)) := ⟨_, hid rfl⟩
  have ch := fun (w : World) => clfew2_b m sp lp bl.length sk lk c sm w hsm
  rw [← hn.out, ← hln.out] at ch
  rw [← hn.out] at hr ⊢
  rw [← hln.out] at hl ⊢
  have hT := Held2.start W [.int .i64 m.w, .int .i64 m.h, .slice sp n sk, .slice lp ln lk, .int .i64 c] [.int .i64 p.1, .int .i64 p.2, .int .i64 q.1, .int .i64 q.2] 27 30
  obtain ⟨k0, ek⟩ : ∃ k0, Hid (k0 = W.heap.size) := ⟨_, hid rfl⟩
  obtain ⟨k1, ek1⟩ : ∃ k1, Hid (k1 = W.heap.size + 1) := ⟨_, hid rfl⟩
  go_enter Tryz.func3, Tryz.ntmps3
  go_upto_region 1 with fail
  obtain ⟨X, hX⟩ : ∃ X, X = (W.alloc (.cells ([.int .i64 m.w, .int .i64 m.h, .slice sp n sk, .slice lp ln lk, .int .i64 c] : List Value).toArray 27)).alloc (.cells ([.int .i64 p.1, .int .i64 p.2, .int .i64 q.1, .int .i64 q.2] : List Value).toArray 30) := ⟨_, rfl⟩
  rw [← hX] at hT ⊢
  clear hX
  have zf := hT.l.at ek.out.symm
  have zq := hT.r.at ek1.out.symm
  have hW := hT.old
  rw [← ek1.out]
  rw [← ek.out]
  clear hT
  have f0 := zf.cell 0
  have f1 := zf.cell 1
  have f2 := zf.cell 2
  have f3 := zf.cell 3
  have f4 := zf.cell 4
  have q0 := zq.cell 0
  have q1 := zq.cell 1
  have q2 := zq.cell 2
  have q3 := zq.cell 3
  simp only [List.getElem?_cons_zero, List.getElem?_cons_succ] at f0 f1 f2 f3 f4 q0 q1 q2 q3
  go_wp2_with fail
  ((with_reducible refine (ch X).mono ?_); rintro e w1 ⟨rfl, hb1⟩)
  replace zf := zf.below hb1
  replace zq := zq.below hb1
  replace hW := below_call hW hb1
  clear hb1 ch f0 f1 f2 f3 f4 q0 q1 q2 q3
  cases sm with
  | false =>
    have ca := awake15_b w1 (hE.keep hW)
    go_wp2_with fail
    ((with_reducible refine ca.mono ?_); rintro e w2 ⟨rfl, hb2⟩)
    go_wp2_with fail
    go_ret
    exact ⟨rfl, below_call hW hb2⟩
  | true =>
  have c1 := clinner_q2 m sp n sk bl lp ln lk c k p q w1 hln (hE.keep hW) hh (hr.below hW) (hl.below hW)
  have f0 := zf.cell 0
  have f1 := zf.cell 1
  have f2 := zf.cell 2
  have f3 := zf.cell 3
  have f4 := zf.cell 4
  have q0 := zq.cell 0
  have q1 := zq.cell 1
  have q2 := zq.cell 2
  have q3 := zq.cell 3
  simp only [List.getElem?_cons_zero, List.getElem?_cons_succ] at f0 f1 f2 f3 f4 q0 q1 q2 q3
  go_wp2_with fail
  ((with_reducible refine c1.mono ?_); rintro e w2 ⟨n1, o1, rfl, h1, hb2⟩)
  replace zf := zf.below hb2
  replace zq := zq.below hb2
  replace hW := below_call hW hb2
  clear hb2 c1 f0 f1 f2 f3 f4 q0 q1 q2 q3
  have c2 := rinner15_b m sp n sk bl lp ln lk c k p q w2 hh (hr.below hW) (hl.below hW)
  have f0 := zf.cell 0
  have f1 := zf.cell 1
  have f2 := zf.cell 2
  have f3 := zf.cell 3
  have f4 := zf.cell 4
  have q0 := zq.cell 0
  have q1 := zq.cell 1
  have q2 := zq.cell 2
  have q3 := zq.cell 3
  simp only [List.getElem?_cons_zero, List.getElem?_cons_succ] at f0 f1 f2 f3 f4 q0 q1 q2 q3
  go_wp2_with fail
  ((with_reducible refine c2.mono ?_); rintro e w3 ⟨n2, o2, rfl, h2, hb3⟩)
  obtain ⟨rfl, rfl⟩ := h1.eq h2
  replace zf := zf.below hb3
  replace zq := zq.below hb3
  replace hW := below_call hW hb3
  clear hb3 c2 h2 f0 f1 f2 f3 f4 q0 q1 q2 q3
  have c3 := clinner_q2 m sp n sk bl lp ln lk c k q p w3 hln (hE.keep hW) hh (hr.below hW) (hl.below hW)
  have f0 := zf.cell 0
  have f1 := zf.cell 1
  have f2 := zf.cell 2
  have f3 := zf.cell 3
  have f4 := zf.cell 4
  have q0 := zq.cell 0
  have q1 := zq.cell 1
  have q2 := zq.cell 2
  have q3 := zq.cell 3
  simp only [List.getElem?_cons_zero, List.getElem?_cons_succ] at f0 f1 f2 f3 f4 q0 q1 q2 q3
  go_wp2_with fail
  ((with_reducible refine c3.mono ?_); rintro e w4 ⟨n3, o3, rfl, h3, hb4⟩)
  obtain ⟨rfl, rfl⟩ := (inner_symm h1).eq h3
  replace hW := below_call hW hb4
  have ca := awake15_b w4 (hE.keep hW)
  clear hb4 c3 h1 h3 f0 f1 f2 f3 f4 q0 q1 q2 q3
  go_wp2_with fail
  ((with_reducible refine ca.mono ?_); rintro e w5 ⟨rfl, hb5⟩)
  go_wp2_with fail
  go_ret
  exact ⟨rfl, below_call hW hb5⟩

end Go.Proofs.YtpgchjhfhndaaaaGreatDoor
