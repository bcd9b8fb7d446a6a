/-
  The laws of layer 15: ClusterEntrancesJoin: the law.
-/
import Derived.Test.YtpgchjhfhndaaaaDoorClZd
namespace Go.Proofs.YtpgchjhfhndaaaaDoor
open Go.RowKit Go.Lib

theorem entr_len16 (m : M3) (bl : List Bool) (c a b : Int) : (entrv m bl c a b).length ≤ 16 := by
  unfold entrv
  split
  · next h =>
    simp only [Bool.and_eq_true] at h
    obtain ⟨⟨h1, h2⟩, h3⟩ := h
    have ok := bord_ok h1 h2 (o := (bordv (arv m a) (arv m b)).1) (by rw [← h3])
    have hf := (runs_fit (crossA m bl c (bordv (arv m a) (arv m b)).1) (crossG m bl c (bordv (arv m a) (arv m b)).1) (bcells (bordv (arv m a) (arv m b)).1 (bordv (arv m a) (arv m b)).1.n.toNat)).1
    rw [bcells_len] at hf
    have := flat_len _ 8 (Nat.le_trans hf (by have := ok.n8; omega))
    unfold lineE
    omega
  · exact Nat.zero_le _

set_option maxRecDepth 100000 in
set_option maxHeartbeats 16000000 in
theorem law15_join (m : M3) (s0 : Value) (bl : List Bool) (l : Value) (c a b : Int) (W : World) (hE : EnvT W) (hh : HighAt m) (hr : RowAt W s0 m.cs) (hl : BitsAt W l bl) :
    Calls Tryd.prog 6 #[.agg #[.int .i64 m.w, .int .i64 m.h, s0, l, .int .i64 c], .int .i64 a, .int .i64 b] W fun e w' => e = .returned (.bool true) ∧ Below W.heap.size W w' := by
  have hmx : Tryd.prog.follows .mixedOrders = true := by kernel_rfl
  obtain ⟨sp, sk, rfl⟩ := hr.slice
  obtain ⟨lp, lk, rfl, -⟩ := id hl
  obtain ⟨n, hn⟩ : ∃ n, Hid (n = m.cs.length) := ⟨_, hid rfl⟩
  obtain ⟨ln, hln⟩ : ∃ n, Hid (n = bl.length) := ⟨_, hid rfl⟩
  obtain ⟨sm, hsm⟩ : ∃ sm, Hid (sm = decide (m.cs.length ≤ 1024 ∧ bl.length ≤ 1024)) := ⟨_, hid rfl⟩
  have ch := fun (w : World) => clfew_b m sp lp bl.length sk lk c sm w hsm
  rw [← hn.out, ← hln.out] at ch
  rw [← hn.out] at hr ⊢
  rw [← hln.out] at hl ⊢
  have ca := fun (w : World) (h : Below W.heap.size W w) => awake15_b w (hE.keep h)
  obtain ⟨x1, hx1⟩ : ∃ x, Hid (x = exv m a) := ⟨_, hid rfl⟩
  obtain ⟨x2, hx2⟩ : ∃ x, Hid (x = exv m b) := ⟨_, hid rfl⟩
  obtain ⟨r, hra⟩ : ∃ r, Hid (r = areav m a) := ⟨_, hid rfl⟩
  obtain ⟨s, hsa⟩ : ∃ r, Hid (r = areav m b) := ⟨_, hid rfl⟩
  have hT := Held1.start W [.int .i64 m.w, .int .i64 m.h, .slice sp n sk, .slice lp ln lk, .int .i64 c] 37
  obtain ⟨k0, ek⟩ : ∃ k0, Hid (k0 = W.heap.size) := ⟨_, hid rfl⟩
  go_enter Tryd.func6, Tryd.ntmps6
  go_upto_region 1 with fail
  obtain ⟨X, hX⟩ : ∃ X, X = W.alloc (.cells ([.int .i64 m.w, .int .i64 m.h, .slice sp n sk, .slice lp ln lk, .int .i64 c] : List Value).toArray 37) := ⟨_, rfl⟩
  rw [← hX] at hT ⊢
  clear hX
  have zf := hT.l.at ek.out.symm
  have hW := hT.old
  rw [← ek.out]
  clear hT
  have f0 := zf.cell 0
  have f1 := zf.cell 1
  have f2 := zf.cell 2
  simp only [List.getElem?_cons_zero, List.getElem?_cons_succ] at f0 f1 f2
  go_wp2_with fail
  ((with_reducible refine (clarea_b m sp n sk a r x1 X (hr.below hW) hx1 hra).mono ?_); rintro e w1 ⟨rfl, hb1⟩)
  have hb2 := hb1.alloc hb1.size (.cells ([.int .i64 r.x, .int .i64 r.y, .int .i64 r.w, .int .i64 r.h] : List Value).toArray 29)
  have zr := Blk.new w1 [.int .i64 r.x, .int .i64 r.y, .int .i64 r.w, .int .i64 r.h] 29
  go_upto_region 2 with fail
  obtain ⟨w1', hX⟩ : ∃ Y, Y = w1.alloc (.cells #[Value.int .i64 r.x, .int .i64 r.y, .int .i64 r.w, .int .i64 r.h] 29) := ⟨_, rfl⟩
  rw [← hX]
  rw [show w1.alloc (.cells ([.int .i64 r.x, .int .i64 r.y, .int .i64 r.w, .int .i64 r.h] : List Value).toArray 29) = w1' from hX.symm] at hb2 zr
  replace hW := below_call hW hb2
  replace zf := zf.below hb2
  obtain ⟨k1, ek1⟩ : ∃ q, Hid (q = w1.heap.size) := ⟨_, hid rfl⟩
  rw [← ek1.out] at zr ⊢
  clear hX hb1 hb2 f0 f1 f2
  have f0 := zf.cell 0
  have f1 := zf.cell 1
  have f2 := zf.cell 2
  simp only [List.getElem?_cons_zero, List.getElem?_cons_succ] at f0 f1 f2
  go_wp2_with fail
  ((with_reducible refine (clarea_b m sp n sk b s x2 w1' (hr.below hW) hx2 hsa).mono ?_); rintro e w2 ⟨rfl, hb1⟩)
  have hb2 := hb1.alloc hb1.size (.cells ([.int .i64 s.x, .int .i64 s.y, .int .i64 s.w, .int .i64 s.h] : List Value).toArray 29)
  have zs := Blk.new w2 [.int .i64 s.x, .int .i64 s.y, .int .i64 s.w, .int .i64 s.h] 29
  go_upto_region 3 with fail
  obtain ⟨w2', hX⟩ : ∃ Y, Y = w2.alloc (.cells #[Value.int .i64 s.x, .int .i64 s.y, .int .i64 s.w, .int .i64 s.h] 29) := ⟨_, rfl⟩
  rw [← hX]
  rw [show w2.alloc (.cells ([.int .i64 s.x, .int .i64 s.y, .int .i64 s.w, .int .i64 s.h] : List Value).toArray 29) = w2' from hX.symm] at hb2 zs
  replace hW := below_call hW hb2
  replace zf := zf.below hb2
  obtain ⟨k2, ek2⟩ : ∃ q, Hid (q = w2.heap.size) := ⟨_, hid rfl⟩
  rw [← ek2.out] at zs ⊢
  replace zr := zr.below hb2
  clear hX hb1 hb2 f0 f1 f2
  have f0 := zf.cell 0
  have f1 := zf.cell 1
  have f2 := zf.cell 2
  have f3 := zf.cell 3
  have f4 := zf.cell 4
  simp only [List.getElem?_cons_zero, List.getElem?_cons_succ] at f0 f1 f2 f3 f4
  go_wp2_with fail
  ((with_reducible refine (ch w2').mono ?_); rintro e w3 ⟨rfl, hb3⟩)
  replace zf := zf.below hb3
  replace zr := zr.below hb3
  replace zs := zs.below hb3
  replace hW := below_call hW hb3
  clear hb3 f0 f1 f2 f3 f4 ch
  cases sm with
  | false =>
    go_wp2_with fail
    ((with_reducible refine (ca _ hW).mono ?_); rintro e w9 ⟨rfl, hb9⟩)
    go_wp2_with fail
    go_ret
    exact ⟨rfl, below_call hW hb9⟩
  | true =>
  cases x1 with
  | false =>
    go_wp2_with fail
    ((with_reducible refine (ca _ hW).mono ?_); rintro e w9 ⟨rfl, hb9⟩)
    go_wp2_with fail
    go_ret
    exact ⟨rfl, below_call hW hb9⟩
  | true =>
  cases x2 with
  | false =>
    go_wp2_with fail
    ((with_reducible refine (ca _ hW).mono ?_); rintro e w9 ⟨rfl, hb9⟩)
    go_wp2_with fail
    go_ret
    exact ⟨rfl, below_call hW hb9⟩
  | true =>
  have ha := hx1.out.symm
  have hb := hx2.out.symm
  have hnl : n ≤ 1024 ∧ ln ≤ 1024 := by
    have h := of_decide_eq_true hsm.out.symm
    rw [hn.out, hln.out]
    exact h
  have er : Hid (r = arv m a) := hid (by rw [hra.out, ar_val ha])
  have es : Hid (s = arv m b) := hid (by rw [hsa.out, ar_val hb])
  have hmf := valid_formed (ex_valid ha).1
  have okr := ar_ok ha
  have oks := ar_ok hb
  have hmw : m.w ≤ 32 ∧ m.h ≤ 32 := by obtain ⟨_, _, s1, s2, s3, s4⟩ := col_num hmf; omega
  rw [← er.out] at okr
  rw [← es.out] at oks
  have okr0 := hid okr
  obtain ⟨rx, ry, rw1, rh1, rw8, rh8, rxw, ryh⟩ := okr
  obtain ⟨sx, sy, sw1, sh1, sw8, sh8, sxw, syh⟩ := oks
  have g1 : IntKind.i64.wrap (r.x + r.w) = r.x + r.w := IntWalk.i64_in _ (by omega)
  have g2 : IntKind.i64.wrap (r.y + r.h) = r.y + r.h := IntWalk.i64_in _ (by omega)
  obtain ⟨L, hL⟩ : ∃ L, Hid (L = entrv m bl c a b) := ⟨_, hid rfl⟩
  obtain ⟨kn, hkn⟩ : ∃ kn, Hid (L.length = kn) := ⟨_, hid rfl⟩
  have hk16 : kn ≤ 16 := by rw [← hkn.out, hL.out]; exact entr_len16 m bl c a b
  have f0 := zf.cell 0
  have f1 := zf.cell 1
  have f2 := zf.cell 2
  have f3 := zf.cell 3
  have f4 := zf.cell 4
  simp only [List.getElem?_cons_zero, List.getElem?_cons_succ] at f0 f1 f2 f3 f4
  have cen := clentrances_b m sp n sk bl lp ln lk c a b w3 (hE.keep hW) hh (hr.below hW) (hl.below hW)
  clear hx1 hx2 hra hsa hsm
  go_wp2_with fail
  ((with_reducible refine cen.mono ?_); rintro e w4 ⟨u, rfl, hov, hb4⟩)
  rw [← hL.out, hkn.out] at hov
  replace zf := zf.below hb4
  replace zr := zr.below hb4
  replace zs := zs.below hb4
  replace hW := below_call hW hb4
  obtain ⟨pu, cu, rfl⟩ := own_slice hov
  clear cen hb4 f0 f1 f2 f3 f4
  have r0 := zr.cell 0
  have r1 := zr.cell 1
  have r2 := zr.cell 2
  have r3 := zr.cell 3
  have t0 := zs.cell 0
  have t1 := zs.cell 1
  simp only [List.getElem?_cons_zero, List.getElem?_cons_succ] at r0 r1 r2 r3 t0 t1
  obtain ⟨o, xo, ho⟩ : ∃ (o : B5) (xo : Bool), Hid ((o, xo) = bordv (arv m a) (arv m b)) := ⟨_, _, hid rfl⟩
  cases xo with
  | false =>
    have hL0 : L = [] := by rw [hL.out]; unfold entrv; rw [if_neg (by rw [← ho.out]; simp)]
    have hk0 : kn = 0 := by rw [← hkn.out, hL0]; rfl
    have hnb : ¬ (s.y = r.y ∧ s.x = r.x + r.w) ∧ ¬ (s.x = r.x ∧ s.y = r.y + r.h) := by
      have h := ho.out
      unfold bordv at h
      rw [← er.out, ← es.out] at h
      split at h
      · injection h with _ h; cases h
      · split at h
        · injection h with _ h; cases h
        · exact ⟨by assumption, by assumption⟩
    subst hk0
    replace hL0 := hid hL0
    by_cases hd : r.y < s.y
    · have v0 : decide (r.y < s.y) = true := decide_eq_true (by assumption)
      go_wp2_with fail
      go_loopw [13] (fun vi wr => vi = .int .i64 0 ∧ Blk wr k1 [.int .i64 r.x, .int .i64 r.y, .int .i64 r.w, .int .i64 r.h] 29 ∧ Blk wr k2 [.int .i64 s.x, .int .i64 s.y, .int .i64 s.w, .int .i64 s.h] 29 ∧ Below W.heap.size W wr) (fun _ _ => 0)
      case atStart => exact ⟨rfl, zr, zs, hW⟩
      case round =>
        clear zr zs hW r0 r1 r2 r3 t0 t1
        obtain ⟨rfl, zr, zs, hW⟩ := hrel
        have v9 : decide ((0 : Int) < ((0 : Nat) : Int)) = false := by decide
        have r0 := zr.cell 0
        have r1 := zr.cell 1
        have r2 := zr.cell 2
        have r3 := zr.cell 3
        have t0 := zs.cell 0
        have t1 := zs.cell 1
        simp only [List.getElem?_cons_zero, List.getElem?_cons_succ] at r0 r1 r2 r3 t0 t1
        have caw := ca wr hW
        by_cases c1 : s.x = r.x
        · have v1 : (s.x == r.x) = true := beq_iff_eq.2 c1
          have v2 : (s.y == r.y + r.h) = false := beq_eq_false_iff_ne.2 (fun h => hnb.2 ⟨c1, h⟩)
          have w4' : (s.x == r.x + r.w) = false := beq_eq_false_iff_ne.2 (by omega)
          by_cases c3 : s.y = r.y
          · have v3 : (s.y == r.y) = true := beq_iff_eq.2 c3
            replace c1 := hid c1
            replace c3 := hid c3
            clear hnb
            go_wp2_with fail
            ((with_reducible refine caw.mono ?_); rintro e w9 ⟨rfl, hb9⟩)
            go_wp2_with fail
            go_ret
            exact ⟨rfl, below_call hW hb9⟩
          · have v3 : (s.y == r.y) = false := beq_eq_false_iff_ne.2 c3
            replace c1 := hid c1
            clear hnb
            go_wp2_with fail
            ((with_reducible refine caw.mono ?_); rintro e w9 ⟨rfl, hb9⟩)
            go_wp2_with fail
            go_ret
            exact ⟨rfl, below_call hW hb9⟩
        · have v1 : (s.x == r.x) = false := beq_eq_false_iff_ne.2 c1
          by_cases c3 : s.y = r.y
          · have v3 : (s.y == r.y) = true := beq_iff_eq.2 c3
            have v4 : (s.x == r.x + r.w) = false := beq_eq_false_iff_ne.2 (fun h => hnb.1 ⟨c3, h⟩)
            replace c3 := hid c3
            clear hnb
            go_wp2_with fail
            ((with_reducible refine caw.mono ?_); rintro e w9 ⟨rfl, hb9⟩)
            go_wp2_with fail
            go_ret
            exact ⟨rfl, below_call hW hb9⟩
          · have v3 : (s.y == r.y) = false := beq_eq_false_iff_ne.2 c3
            clear hnb
            go_wp2_with fail
            ((with_reducible refine caw.mono ?_); rintro e w9 ⟨rfl, hb9⟩)
            go_wp2_with fail
            go_ret
            exact ⟨rfl, below_call hW hb9⟩
    · have v0 : decide (r.y < s.y) = false := decide_eq_false (by assumption)
      go_wp2_with fail
      go_loopw [13] (fun vi wr => vi = .int .i64 0 ∧ Blk wr k1 [.int .i64 r.x, .int .i64 r.y, .int .i64 r.w, .int .i64 r.h] 29 ∧ Blk wr k2 [.int .i64 s.x, .int .i64 s.y, .int .i64 s.w, .int .i64 s.h] 29 ∧ Below W.heap.size W wr) (fun _ _ => 0)
      case atStart => exact ⟨rfl, zr, zs, hW⟩
      case round =>
        clear zr zs hW r0 r1 r2 r3 t0 t1
        obtain ⟨rfl, zr, zs, hW⟩ := hrel
        have v9 : decide ((0 : Int) < ((0 : Nat) : Int)) = false := by decide
        have r0 := zr.cell 0
        have r1 := zr.cell 1
        have r2 := zr.cell 2
        have r3 := zr.cell 3
        have t0 := zs.cell 0
        have t1 := zs.cell 1
        simp only [List.getElem?_cons_zero, List.getElem?_cons_succ] at r0 r1 r2 r3 t0 t1
        have caw := ca wr hW
        by_cases c1 : s.x = r.x
        · have v1 : (s.x == r.x) = true := beq_iff_eq.2 c1
          have v2 : (s.y == r.y + r.h) = false := beq_eq_false_iff_ne.2 (fun h => hnb.2 ⟨c1, h⟩)
          have w4' : (s.x == r.x + r.w) = false := beq_eq_false_iff_ne.2 (by omega)
          by_cases c3 : s.y = r.y
          · have v3 : (s.y == r.y) = true := beq_iff_eq.2 c3
            replace c1 := hid c1
            replace c3 := hid c3
            clear hnb
            go_wp2_with fail
            ((with_reducible refine caw.mono ?_); rintro e w9 ⟨rfl, hb9⟩)
            go_wp2_with fail
            go_ret
            exact ⟨rfl, below_call hW hb9⟩
          · have v3 : (s.y == r.y) = false := beq_eq_false_iff_ne.2 c3
            replace c1 := hid c1
            clear hnb
            go_wp2_with fail
            ((with_reducible refine caw.mono ?_); rintro e w9 ⟨rfl, hb9⟩)
            go_wp2_with fail
            go_ret
            exact ⟨rfl, below_call hW hb9⟩
        · have v1 : (s.x == r.x) = false := beq_eq_false_iff_ne.2 c1
          by_cases c3 : s.y = r.y
          · have v3 : (s.y == r.y) = true := beq_iff_eq.2 c3
            have v4 : (s.x == r.x + r.w) = false := beq_eq_false_iff_ne.2 (fun h => hnb.1 ⟨c3, h⟩)
            replace c3 := hid c3
            clear hnb
            go_wp2_with fail
            ((with_reducible refine caw.mono ?_); rintro e w9 ⟨rfl, hb9⟩)
            go_wp2_with fail
            go_ret
            exact ⟨rfl, below_call hW hb9⟩
          · have v3 : (s.y == r.y) = false := beq_eq_false_iff_ne.2 c3
            clear hnb
            go_wp2_with fail
            ((with_reducible refine caw.mono ?_); rintro e w9 ⟨rfl, hb9⟩)
            go_wp2_with fail
            go_ret
            exact ⟨rfl, below_call hW hb9⟩
  | true =>
    have ok := bord_ok ha hb ho.out.symm
    have hLo : Hid (L = lineE m bl c o) := hid (by rw [hL.out]; unfold entrv; rw [← ho.out, ha, hb, if_pos (show (true && true && (o, true).2) = true from rfl)])
    have hsound : Hid (∀ x ∈ L, mayv m bl c x.1.1 x.1.2 o.ac = true ∧ x.2 = (stx x.1.1 o.ac, sty x.1.2 o.ac) ∧ insv r x.1.1 x.1.2 = true ∧ insv s x.2.1 x.2.2 = true) := hid (fun x hx => by
      rw [hLo.out] at hx
      have := line_sound ha hb ok hx
      rw [← er.out, ← es.out] at this
      exact this)
    have hjoin : Hid (∀ p : Pt, insv r p.1 p.2 = true → insv s (stx p.1 o.ac) (sty p.2 o.ac) = true → mayv m bl c p.1 p.2 o.ac = true → ∃ x ∈ L, InReach m bl c a p x.1 ∧ InReach m bl c b (stx p.1 o.ac, sty p.2 o.ac) x.2) := hid (fun p h1 h2 h3 => by
      rw [hLo.out]
      exact line_joins ha hb ok (by rw [← er.out]; exact h1) (by rw [← es.out]; exact h2) h3)
    rcases ok.xy with ⟨q1, _, q3, q4, _, _, _⟩ | ⟨q1, _, q3, q4, _, _, _⟩
    · rw [← er.out, ← es.out] at q3
      rw [← er.out, ← es.out] at q4
      rw [q1] at hsound hjoin
      have v0 : decide (r.y < s.y) = false := decide_eq_false (by omega)
      have v1 : (s.x == r.x) = false := beq_eq_false_iff_ne.2 (by omega)
      have v3 : (s.y == r.y) = true := beq_iff_eq.2 q3
      have v4 : (s.x == r.x + r.w) = true := beq_iff_eq.2 q4
      clear q1 q3 q4 ok hLo hL rx ry rw1 rh1 rw8 rh8 rxw ryh sx sy sw1 sh1 sw8 sh8 sxw syh
      go_wp2_with fail
      obtain ⟨U, hU⟩ : ∃ U, U = w4 := ⟨_, rfl⟩
      rw [← hU] at zf zr zs hW hov ⊢
      clear hU r0 r1 r2 r3 t0 t1
      go_loopw [13] (fun vi wr => ∃ i : Nat, vi = .int .i64 i ∧ i ≤ kn ∧ Blk wr k0 [.int .i64 m.w, .int .i64 m.h, .slice sp n sk, .slice lp ln lk, .int .i64 c] 37 ∧ Blk wr k1 [.int .i64 r.x, .int .i64 r.y, .int .i64 r.w, .int .i64 r.h] 29 ∧ Blk wr k2 [.int .i64 s.x, .int .i64 s.y, .int .i64 s.w, .int .i64 s.h] 29 ∧ Below W.heap.size W wr ∧ Below U.heap.size U wr) (fun vi _ => kn - (RowKit.intOf vi).toNat)
      case atStart => exact ⟨0, rfl, by omega, zf, zr, zs, hW, Below.refl _ _⟩
      case round =>
        clear zf zr zs hW
        obtain ⟨i, rfl, hi, zf, zr, zs, hW, hbU⟩ := hrel
        have hovr := own_below hov hbU
        by_cases hlt : i < kn
        · have z1 : decide ((i : Int) < (kn : Int)) = true := decide_eq_true (by omega)
          have i0 : (0 : Int) ≤ (i : Int) := by omega
          have i1 : (i : Int) < (kn : Int) := by omega
          have nadd : IntKind.i64.wrap ((i : Int) + 1) = ((i + 1 : Nat) : Int) := by rw [IntWalk.i64_in _ (by omega)]; simp
          have hmeas : kn - (RowKit.intOf (Value.int .i64 ((i : Int) + 1))).toNat < kn - (RowKit.intOf (Value.int .i64 (i : Int))).toNat := by simp [RowKit.intOf]; omega
          have hil : i < L.length := by rw [hkn.out]; exact hlt
          obtain ⟨g, cap, eu⟩ := own_some hov (by omega)
          injection eu with eu1 _ eu3
          subst eu1 eu3
          obtain ⟨a0, a1, a2, a3⟩ := qcells_at L i hil
          obtain ⟨b1, b2, b3, b4⟩ := hsound.out _ (List.getElem_mem hil)
          obtain ⟨y, hy⟩ : ∃ y, Hid (y = (L[i]'hil).1) := ⟨_, hid rfl⟩
          rw [← hy.out] at a0 a1 b1 b2 b3
          rw [b2] at a2 a3 b4
          obtain ⟨zx, hz1⟩ : ∃ q, Hid (q = stx y.1 0) := ⟨_, hid rfl⟩
          obtain ⟨zy, hz2⟩ : ∃ q, Hid (q = sty y.2 0) := ⟨_, hid rfl⟩
          dsimp only at a2 a3 b4
          rw [← hz1.out] at a2 b4
          rw [← hz2.out] at a3 b4
          have hmy : Hid (true = mayv m bl c y.1 y.2 0) := hid b1.symm
          obtain ⟨kw, hkw⟩ : ∃ kw, Hid (kw = costv m bl c y.1 y.2 0) := ⟨_, hid rfl⟩
          have hir : Hid (true = insv r y.1 y.2) := hid b3.symm
          have his : Hid (true = insv s zx zy) := hid b4.symm
          have hgl := (hovr.lt g rfl).2
          have cell : ∀ (x : Nat) (v : Value), x < kn * 4 → (qcells L)[x]? = some v → ∀ w', Below wr.heap.size wr w' → w'.cell? ⟨g, x, none⟩ = some v := fun x v h1 h2 w' h => (h.cell (p := ⟨g, x, none⟩) hgl).trans ((hovr.cellAt x h1).trans h2)
          have hc0 := cell (i * 4) _ (by omega) a0
          have hc1 := cell (i * 4 + 1) _ (by omega) a1
          have hc2 : ∀ w', Below wr.heap.size wr w' → w'.cell? ⟨g, i * 4 + 2, none⟩ = some (.int .i64 zx) := cell (i * 4 + 2) _ (by omega) a2
          have hc3 : ∀ w', Below wr.heap.size wr w' → w'.cell? ⟨g, i * 4 + 2 + 1, none⟩ = some (.int .i64 zy) := cell (i * 4 + 3) _ (by omega) a3
          clear cell a0 a1 a2 a3 b1 b2 b3 b4 hy
          have hmx : Tryd.prog.follows .mixedOrders = true := by kernel_rfl
          go_upto_region 12 with fail
          refine wp_onlyN (wp_region_held (S := fun w' => Below wr.heap.size wr w') hmx ?_)
          show wpAnyH _ _ _ _ _ _ _ _ wr.drew
          have hS0 := (Below.refl wr.heap.size wr).drew
          refine reg_tk (i := 0) (v := .pointer (some ⟨k0, 0, none⟩)) (some 68) rfl (fun w' hS => by (skip); go_simp) hS0 ?_
          try simp only [Act.put, List.setIfInBounds_toArray, List.set_cons_zero, List.set_cons_succ]
          refine reg_tk (i := 1) (v := .agg #[.int .i64 m.w, .int .i64 m.h, .slice sp n sk]) (some 69) rfl (fun w' hS => by (have c0 := (zf.below hS).cell 0; have c1 := (zf.below hS).cell 1; have c2 := (zf.below hS).cell 2; simp only [List.getElem?_cons_zero, List.getElem?_cons_succ] at c0 c1 c2); go_simp) hS0 ?_
          try simp only [Act.put, List.setIfInBounds_toArray, List.set_cons_zero, List.set_cons_succ]
          refine reg_tk (i := 2) (v := .pointer (some ⟨k0, 3, none⟩)) (some 70) rfl (fun w' hS => by (skip); go_simp) hS0 ?_
          try simp only [Act.put, List.setIfInBounds_toArray, List.set_cons_zero, List.set_cons_succ]
          refine reg_tk (i := 3) (v := .slice lp ln lk) (some 71) rfl (fun w' hS => by (have c3 := (zf.below hS).cell 3; simp only [List.getElem?_cons_zero, List.getElem?_cons_succ] at c3); go_simp) hS0 ?_
          try simp only [Act.put, List.setIfInBounds_toArray, List.set_cons_zero, List.set_cons_succ]
          refine reg_tk (i := 4) (v := .pointer (some ⟨k0, 4, none⟩)) (some 72) rfl (fun w' hS => by (skip); go_simp) hS0 ?_
          try simp only [Act.put, List.setIfInBounds_toArray, List.set_cons_zero, List.set_cons_succ]
          refine reg_tk (i := 5) (v := .int .i64 c) (some 73) rfl (fun w' hS => by (have c4 := (zf.below hS).cell 4; simp only [List.getElem?_cons_zero, List.getElem?_cons_succ] at c4); go_simp) hS0 ?_
          try simp only [Act.put, List.setIfInBounds_toArray, List.set_cons_zero, List.set_cons_succ]
          refine reg_tk (i := 6) (v := .slice (some ⟨g, 0, none⟩) kn cu) (some 74) rfl (fun w' hS => by (skip); go_simp) hS0 ?_
          try simp only [Act.put, List.setIfInBounds_toArray, List.set_cons_zero, List.set_cons_succ]
          refine reg_tk (i := 7) (v := .int .i64 i) (some 75) rfl (fun w' hS => by (skip); go_simp) hS0 ?_
          try simp only [Act.put, List.setIfInBounds_toArray, List.set_cons_zero, List.set_cons_succ]
          refine reg_tk (i := 8) (v := .pointer (some ⟨g, i * 4, none⟩)) (some 76) rfl (fun w' hS => by (skip); go_simp) hS0 ?_
          try simp only [Act.put, List.setIfInBounds_toArray, List.set_cons_zero, List.set_cons_succ]
          refine reg_tk (i := 9) (v := .pointer (some ⟨g, i * 4, none⟩)) (some 77) rfl (fun w' hS => by (skip); go_simp) hS0 ?_
          try simp only [Act.put, List.setIfInBounds_toArray, List.set_cons_zero, List.set_cons_succ]
          refine reg_tk (i := 10) (v := .agg #[.int .i64 y.1, .int .i64 y.2]) (some 78) rfl (fun w' hS => by (have c1 := hc0 _ hS; have c2 := hc1 _ hS); go_simp) hS0 ?_
          try simp only [Act.put, List.setIfInBounds_toArray, List.set_cons_zero, List.set_cons_succ]
          refine reg_tk (i := 11) (v := .int .i64 0) (some 79) rfl (fun w' hS => by (skip); go_simp) hS0 ?_
          try simp only [Act.put, List.setIfInBounds_toArray, List.set_cons_zero, List.set_cons_succ]
          refine held_one (i := 12) (by kernel_rfl) rfl (fun K hQ => ?_)
          go_simp
          ((with_reducible refine (rcost_b m (.slice sp n sk) bl (.slice lp ln lk) c y.1 y.2 0 true kw _ hh (hr.below (below_call hW hS0)) (hl.below (below_call hW hS0)) hmy hkw).mono ?_); rintro e w1 ⟨rfl, hb1⟩)
          have hS1 := below_call hS0 hb1
          clear hb1
          refine hQ.out _ _ hS1 ?_
          clear hQ
          try simp only [Act.put, List.setIfInBounds_toArray, List.set_cons_zero, List.set_cons_succ]
          refine reg_tk (i := 13) (v := .tuple #[.int .i64 kw, .bool true]) (some 67) rfl (fun w' hS => by (skip); go_simp) hS1 ?_
          try simp only [Act.put, List.setIfInBounds_toArray, List.set_cons_zero, List.set_cons_succ]
          refine reg_tk (i := 14) (v := .int .i64 kw) (some 81) rfl (fun w' hS => by (skip); go_simp) hS1 ?_
          try simp only [Act.put, List.setIfInBounds_toArray, List.set_cons_zero, List.set_cons_succ]
          refine reg_tk (i := 15) (v := .bool true) (some 82) rfl (fun w' hS => by (skip); go_simp) hS1 ?_
          try simp only [Act.put, List.setIfInBounds_toArray, List.set_cons_zero, List.set_cons_succ]
          refine reg_tk (i := 16) (v := .int .i64 kw) (some 14) rfl (fun w' hS => by (skip); go_simp) hS1 ?_
          try simp only [Act.put, List.setIfInBounds_toArray, List.set_cons_zero, List.set_cons_succ]
          refine reg_tk (i := 17) (v := .bool true) (some 15) rfl (fun w' hS => by (skip); go_simp) hS1 ?_
          try simp only [Act.put, List.setIfInBounds_toArray, List.set_cons_zero, List.set_cons_succ]
          refine wpAnyH_done (by kernel_rfl) ?_ _
          try simp only [onlyN]
          have hw1 := hS1
          replace zf := zf.below hw1
          replace zr := zr.below hw1
          replace zs := zs.below hw1
          replace hW := below_call hW hw1
          clear hS1
          have hmx : Tryd.prog.follows .mixedOrders = true := by kernel_rfl
          go_upto_region 13 with fail
          refine wp_onlyN (wp_region_held (S := fun w' => Below w1.heap.size w1 w') hmx ?_)
          show wpAnyH _ _ _ _ _ _ _ _ w1.drew
          have hS0 := (Below.refl w1.heap.size w1).drew
          refine reg_tk (i := 0) (v := .bool true) (some 83) rfl (fun w' hS => by (skip); go_simp) hS0 ?_
          try simp only [Act.put, List.setIfInBounds_toArray, List.set_cons_zero, List.set_cons_succ]
          refine reg_tk (i := 1) (v := .bool false) (some 84) rfl (fun w' hS => by (skip); go_simp) hS0 ?_
          try simp only [Act.put, List.setIfInBounds_toArray, List.set_cons_zero, List.set_cons_succ]
          refine reg_tk (i := 2) (v := .bool false) (some 85) rfl (fun w' hS => by (skip); go_simp) hS0 ?_
          try simp only [Act.put, List.setIfInBounds_toArray, List.set_cons_zero, List.set_cons_succ]
          refine reg_tk (i := 3) (v := .slice (some ⟨g, 0, none⟩) kn cu) (some 86) rfl (fun w' hS => by (skip); go_simp) hS0 ?_
          try simp only [Act.put, List.setIfInBounds_toArray, List.set_cons_zero, List.set_cons_succ]
          refine reg_tk (i := 4) (v := .int .i64 i) (some 87) rfl (fun w' hS => by (skip); go_simp) hS0 ?_
          try simp only [Act.put, List.setIfInBounds_toArray, List.set_cons_zero, List.set_cons_succ]
          refine reg_tk (i := 5) (v := .pointer (some ⟨g, i * 4, none⟩)) (some 88) rfl (fun w' hS => by (skip); go_simp) hS0 ?_
          try simp only [Act.put, List.setIfInBounds_toArray, List.set_cons_zero, List.set_cons_succ]
          refine reg_tk (i := 6) (v := .pointer (some ⟨g, i * 4 + 2, none⟩)) (some 89) rfl (fun w' hS => by (skip); go_simp) hS0 ?_
          try simp only [Act.put, List.setIfInBounds_toArray, List.set_cons_zero, List.set_cons_succ]
          refine reg_tk (i := 7) (v := .agg #[.int .i64 zx, .int .i64 zy]) (some 90) rfl (fun w' hS => by (have c1 := hc2 _ (below_call hw1 hS); have c2 := hc3 _ (below_call hw1 hS)); go_simp) hS0 ?_
          try simp only [Act.put, List.setIfInBounds_toArray, List.set_cons_zero, List.set_cons_succ]
          refine reg_tk (i := 8) (v := .slice (some ⟨g, 0, none⟩) kn cu) (some 91) rfl (fun w' hS => by (skip); go_simp) hS0 ?_
          try simp only [Act.put, List.setIfInBounds_toArray, List.set_cons_zero, List.set_cons_succ]
          refine reg_tk (i := 9) (v := .int .i64 i) (some 92) rfl (fun w' hS => by (skip); go_simp) hS0 ?_
          try simp only [Act.put, List.setIfInBounds_toArray, List.set_cons_zero, List.set_cons_succ]
          refine reg_tk (i := 10) (v := .pointer (some ⟨g, i * 4, none⟩)) (some 93) rfl (fun w' hS => by (skip); go_simp) hS0 ?_
          try simp only [Act.put, List.setIfInBounds_toArray, List.set_cons_zero, List.set_cons_succ]
          refine reg_tk (i := 11) (v := .pointer (some ⟨g, i * 4, none⟩)) (some 94) rfl (fun w' hS => by (skip); go_simp) hS0 ?_
          try simp only [Act.put, List.setIfInBounds_toArray, List.set_cons_zero, List.set_cons_succ]
          refine reg_tk (i := 12) (v := .agg #[.int .i64 y.1, .int .i64 y.2]) (some 95) rfl (fun w' hS => by (have c1 := hc0 _ (below_call hw1 hS); have c2 := hc1 _ (below_call hw1 hS)); go_simp) hS0 ?_
          try simp only [Act.put, List.setIfInBounds_toArray, List.set_cons_zero, List.set_cons_succ]
          refine reg_tk (i := 13) (v := .int .i64 0) (some 96) rfl (fun w' hS => by (skip); go_simp) hS0 ?_
          try simp only [Act.put, List.setIfInBounds_toArray, List.set_cons_zero, List.set_cons_succ]
          refine held_one (i := 14) (by kernel_rfl) rfl (fun K hQ => ?_)
          rw [if_pos (show Region.wanted _ _ = true by kernel_rfl)]
          go_simp
          ((with_reducible refine (rstepq_b y.1 y.2 0 zx zy _ hz1 hz2).mono ?_); rintro e w2 ⟨rfl, hb1⟩)
          have hS1 := below_call hS0 hb1
          clear hb1
          refine hQ.out _ _ hS1 ?_
          clear hQ
          try simp only [Act.put, List.setIfInBounds_toArray, List.set_cons_zero, List.set_cons_succ]
          refine reg_tk (i := 15) (v := .bool false) (some 98) rfl (fun w' hS => by (skip); go_simp) hS1 ?_
          try simp only [Act.put, List.setIfInBounds_toArray, List.set_cons_zero, List.set_cons_succ]
          refine reg_tk (i := 16) (v := .bool false) (some 99) rfl (fun w' hS => by (skip); go_simp) hS1 ?_
          try simp only [Act.put, List.setIfInBounds_toArray, List.set_cons_zero, List.set_cons_succ]
          refine reg_tk (i := 17) (v := .bool false) (some 100) rfl (fun w' hS => by (skip); go_simp) hS1 ?_
          try simp only [Act.put, List.setIfInBounds_toArray, List.set_cons_zero, List.set_cons_succ]
          refine reg_tk (i := 18) (v := .agg #[.int .i64 r.x, .int .i64 r.y, .int .i64 r.w, .int .i64 r.h]) (some 101) rfl (fun w' hS => by (have c0 := (zr.below hS).cell 0; have c1 := (zr.below hS).cell 1; have c2 := (zr.below hS).cell 2; have c3 := (zr.below hS).cell 3; simp only [List.getElem?_cons_zero, List.getElem?_cons_succ] at c0 c1 c2 c3); go_simp) hS1 ?_
          try simp only [Act.put, List.setIfInBounds_toArray, List.set_cons_zero, List.set_cons_succ]
          refine reg_tk (i := 19) (v := .slice (some ⟨g, 0, none⟩) kn cu) (some 102) rfl (fun w' hS => by (skip); go_simp) hS1 ?_
          try simp only [Act.put, List.setIfInBounds_toArray, List.set_cons_zero, List.set_cons_succ]
          refine reg_tk (i := 20) (v := .int .i64 i) (some 103) rfl (fun w' hS => by (skip); go_simp) hS1 ?_
          try simp only [Act.put, List.setIfInBounds_toArray, List.set_cons_zero, List.set_cons_succ]
          refine reg_tk (i := 21) (v := .pointer (some ⟨g, i * 4, none⟩)) (some 104) rfl (fun w' hS => by (skip); go_simp) hS1 ?_
          try simp only [Act.put, List.setIfInBounds_toArray, List.set_cons_zero, List.set_cons_succ]
          refine reg_tk (i := 22) (v := .pointer (some ⟨g, i * 4, none⟩)) (some 105) rfl (fun w' hS => by (skip); go_simp) hS1 ?_
          try simp only [Act.put, List.setIfInBounds_toArray, List.set_cons_zero, List.set_cons_succ]
          refine reg_tk (i := 23) (v := .agg #[.int .i64 y.1, .int .i64 y.2]) (some 106) rfl (fun w' hS => by (have c1 := hc0 _ (below_call hw1 hS); have c2 := hc1 _ (below_call hw1 hS)); go_simp) hS1 ?_
          try simp only [Act.put, List.setIfInBounds_toArray, List.set_cons_zero, List.set_cons_succ]
          refine held_one (i := 24) (by kernel_rfl) rfl (fun K hQ => ?_)
          rw [if_pos (show Region.wanted _ _ = true by kernel_rfl)]
          go_simp
          ((with_reducible refine (rins_q r y true _ hir).mono ?_); rintro e w3 ⟨rfl, hb1⟩)
          have hS2 := below_call hS1 hb1
          clear hb1
          refine hQ.out _ _ hS2 ?_
          clear hQ
          try simp only [Act.put, List.setIfInBounds_toArray, List.set_cons_zero, List.set_cons_succ]
          refine reg_tk (i := 25) (v := .bool false) (some 108) rfl (fun w' hS => by (skip); go_simp) hS2 ?_
          try simp only [Act.put, List.setIfInBounds_toArray, List.set_cons_zero, List.set_cons_succ]
          refine reg_tk (i := 26) (v := .bool false) (some 109) rfl (fun w' hS => by (skip); go_simp) hS2 ?_
          try simp only [Act.put, List.setIfInBounds_toArray, List.set_cons_zero, List.set_cons_succ]
          refine reg_tk (i := 27) (v := .bool false) (some 110) rfl (fun w' hS => by (skip); go_simp) hS2 ?_
          try simp only [Act.put, List.setIfInBounds_toArray, List.set_cons_zero, List.set_cons_succ]
          refine reg_tk (i := 28) (v := .agg #[.int .i64 s.x, .int .i64 s.y, .int .i64 s.w, .int .i64 s.h]) (some 111) rfl (fun w' hS => by (have c0 := (zs.below hS).cell 0; have c1 := (zs.below hS).cell 1; have c2 := (zs.below hS).cell 2; have c3 := (zs.below hS).cell 3; simp only [List.getElem?_cons_zero, List.getElem?_cons_succ] at c0 c1 c2 c3); go_simp) hS2 ?_
          try simp only [Act.put, List.setIfInBounds_toArray, List.set_cons_zero, List.set_cons_succ]
          refine reg_tk (i := 29) (v := .slice (some ⟨g, 0, none⟩) kn cu) (some 112) rfl (fun w' hS => by (skip); go_simp) hS2 ?_
          try simp only [Act.put, List.setIfInBounds_toArray, List.set_cons_zero, List.set_cons_succ]
          refine reg_tk (i := 30) (v := .int .i64 i) (some 113) rfl (fun w' hS => by (skip); go_simp) hS2 ?_
          try simp only [Act.put, List.setIfInBounds_toArray, List.set_cons_zero, List.set_cons_succ]
          refine reg_tk (i := 31) (v := .pointer (some ⟨g, i * 4, none⟩)) (some 114) rfl (fun w' hS => by (skip); go_simp) hS2 ?_
          try simp only [Act.put, List.setIfInBounds_toArray, List.set_cons_zero, List.set_cons_succ]
          refine reg_tk (i := 32) (v := .pointer (some ⟨g, i * 4 + 2, none⟩)) (some 115) rfl (fun w' hS => by (skip); go_simp) hS2 ?_
          try simp only [Act.put, List.setIfInBounds_toArray, List.set_cons_zero, List.set_cons_succ]
          refine reg_tk (i := 33) (v := .agg #[.int .i64 zx, .int .i64 zy]) (some 116) rfl (fun w' hS => by (have c1 := hc2 _ (below_call hw1 hS); have c2 := hc3 _ (below_call hw1 hS)); go_simp) hS2 ?_
          try simp only [Act.put, List.setIfInBounds_toArray, List.set_cons_zero, List.set_cons_succ]
          refine held_one (i := 34) (by kernel_rfl) rfl (fun K hQ => ?_)
          rw [if_pos (show Region.wanted _ _ = true by kernel_rfl)]
          go_simp
          ((with_reducible refine (rins_q s (zx, zy) true _ his).mono ?_); rintro e w4 ⟨rfl, hb1⟩)
          have hS3 := below_call hS2 hb1
          clear hb1
          refine hQ.out _ _ hS3 ?_
          clear hQ
          try simp only [Act.put, List.setIfInBounds_toArray, List.set_cons_zero, List.set_cons_succ]
          refine reg_tk (i := 35) (v := .bool false) (some 118) rfl (fun w' hS => by (skip); go_simp) hS3 ?_
          try simp only [Act.put, List.setIfInBounds_toArray, List.set_cons_zero, List.set_cons_succ]
          refine reg_tk (i := 36) (v := .bool false) (some 119) rfl (fun w' hS => by (skip); go_simp) hS3 ?_
          try simp only [Act.put, List.setIfInBounds_toArray, List.set_cons_zero, List.set_cons_succ]
          refine wpAnyH_done (by kernel_rfl) ?_ _
          try simp only [onlyN]
          replace zf := zf.below hS3
          replace zr := zr.below hS3
          replace zs := zs.below hS3
          replace hW := below_call hW hS3
          replace hbU := below_call hbU (below_call hw1 hS3)
          go_wp2_with fail
          have hadd : Value.int .i64 ((i : Int) + 1) = Value.int .i64 ((i + 1 : Nat) : Int) := by push_cast; rfl
          exact ⟨⟨i + 1, hadd, by omega, zf, zr, zs, hW, hbU⟩, hmeas⟩
        · obtain rfl : kn = i := by omega
          have z1 : decide ((kn : Int) < (kn : Int)) = false := decide_eq_false (by omega)
          have r0 := zr.cell 0
          have r1 := zr.cell 1
          have r2 := zr.cell 2
          have r3 := zr.cell 3
          have t0 := zs.cell 0
          have t1 := zs.cell 1
          simp only [List.getElem?_cons_zero, List.getElem?_cons_succ] at r0 r1 r2 r3 t0 t1
          obtain ⟨Lc, hLc⟩ : ∃ Lc, Hid (cellsv ⟨r.x, r.y, r.w, r.h⟩ = Lc) := ⟨_, hid rfl⟩
          have cce := rcells_x r.x r.y r.w r.h wr Lc hLc
          have hLc64 : Lc.length ≤ 64 := by
            obtain ⟨w', h', _, _, _, b1, _, b2, e⟩ := cells_ar okr0.out hmf
            rw [← hLc.out]
            have : cellsv ⟨r.x, r.y, r.w, r.h⟩ = cellsv r := rfl
            rw [this, e, List.length_map, List.length_range]
            exact Nat.mul_le_mul b2 b1
          have hin : Hid (∀ x ∈ Lc, insv r x.1 x.2 = true) := hid (fun x hx => by
            rw [← hLc.out] at hx
            exact (mem_ar okr0.out hmf).1 hx)
          obtain ⟨cn, hcn⟩ : ∃ cn, Hid (Lc.length = cn) := ⟨_, hid rfl⟩
          rw [hcn.out] at cce hLc64
          clear hov hbU
          go_wp2_with fail
          ((with_reducible refine cce.mono ?_); rintro e w5 ⟨uc, rfl, hoc, hb5⟩)
          replace zf := zf.below hb5
          replace zr := zr.below hb5
          replace zs := zs.below hb5
          replace hovr := own_below hovr hb5
          replace hW := below_call hW hb5
          clear hb5 cce r0 r1 r2 r3 t0 t1 hLc z1
          obtain ⟨pc, cc, rfl⟩ := own_slice hoc
          have hov := hovr
          clear hovr
          go_wp2_with fail
          go_loopw [17] (fun vi wr => ∃ i : Nat, vi = .int .i64 i ∧ i ≤ cn ∧ Blk wr k0 [.int .i64 m.w, .int .i64 m.h, .slice sp n sk, .slice lp ln lk, .int .i64 c] 37 ∧ Blk wr k1 [.int .i64 r.x, .int .i64 r.y, .int .i64 r.w, .int .i64 r.h] 29 ∧ Blk wr k2 [.int .i64 s.x, .int .i64 s.y, .int .i64 s.w, .int .i64 s.h] 29 ∧ Below W.heap.size W wr ∧ Below w5.heap.size w5 wr) (fun vi _ => cn - (RowKit.intOf vi).toNat)
          case atStart => exact ⟨0, rfl, by omega, zf, zr, zs, hW, Below.refl _ _⟩
          case round =>
            clear zf zr zs hW
            obtain ⟨i, rfl, hi, zf, zr, zs, hW, hbV⟩ := hrel
            have hovr := own_below hov hbV
            have hocr := own_below hoc hbV
            by_cases hlt : i < cn
            · have z1 : decide ((i : Int) < (cn : Int)) = true := decide_eq_true (by omega)
              have i0 : (0 : Int) ≤ (i : Int) := by omega
              have i1 : (i : Int) < (cn : Int) := by omega
              have nadd : IntKind.i64.wrap ((i : Int) + 1) = ((i + 1 : Nat) : Int) := by rw [IntWalk.i64_in _ (by omega)]; simp
              have hmeas : cn - (RowKit.intOf (Value.int .i64 ((i : Int) + 1))).toNat < cn - (RowKit.intOf (Value.int .i64 (i : Int))).toNat := by simp [RowKit.intOf]; omega
              have hil : i < Lc.length := by rw [hcn.out]; exact hlt
              obtain ⟨gc, cc', eu⟩ := own_some hoc (by omega)
              injection eu with eu1 _ eu3
              subst eu1 eu3
              obtain ⟨x, hx⟩ : ∃ x, Hid (x = Lc[i]'hil) := ⟨_, hid rfl⟩
              have hxr : insv r x.1 x.2 = true := by rw [hx.out]; exact hin.out _ (List.getElem_mem hil)
              have a0 := hocr.cellAt (i * 2) (by omega)
              have a1 := hocr.cellAt (i * 2 + 1) (by omega)
              have hpc := pcells_at Lc i hil
              rw [Nat.mul_comm 2 i] at hpc
              rw [hpc.1, ← hx.out] at a0
              rw [hpc.2, ← hx.out] at a1
              have hgl := (hocr.lt gc rfl).2
              have hd0 : ∀ w', Below wr.heap.size wr w' → w'.cell? ⟨gc, i * 2, none⟩ = some (.int .i64 x.1) := fun w' h => (h.cell (p := ⟨gc, _, none⟩) hgl).trans a0
              have hd1 : ∀ w', Below wr.heap.size wr w' → w'.cell? ⟨gc, i * 2 + 1, none⟩ = some (.int .i64 x.2) := fun w' h => (h.cell (p := ⟨gc, _, none⟩) hgl).trans a1
              obtain ⟨qx, hqx⟩ : ∃ q, Hid (q = stx x.1 0) := ⟨_, hid rfl⟩
              obtain ⟨qy, hqy⟩ : ∃ q, Hid (q = sty x.2 0) := ⟨_, hid rfl⟩
              obtain ⟨bm, hbm⟩ : ∃ q, Hid (q = mayv m bl c x.1 x.2 0) := ⟨_, hid rfl⟩
              obtain ⟨kw, hkw⟩ : ∃ q, Hid (q = costv m bl c x.1 x.2 0) := ⟨_, hid rfl⟩
              obtain ⟨bi, hbi⟩ : ∃ q, Hid (q = insv s qx qy) := ⟨_, hid rfl⟩
              have hjx : Hid (bi = true → bm = true → ∃ y ∈ L, InReach m bl c a x y.1 ∧ InReach m bl c b (qx, qy) y.2) := hid (fun h1 h2 => by
                rw [hqx.out, hqy.out]
                exact hjoin.out x hxr (by rw [← hqx.out, ← hqy.out, ← hbi.out]; exact h1) (by rw [← hbm.out]; exact h2))
              clear hpc hx hxr
              have cst := rstepq_b x.1 x.2 0 qx qy wr hqx hqy
              go_wp2_with fail
              ((with_reducible refine cst.mono ?_); rintro e w6 ⟨rfl, hb6⟩)
              have hv1 := hb6.alloc hb6.size (.cells (ptL (qx, qy)).toArray 26)
              have zq := Blk.new w6 (ptL (qx, qy)) 26
              go_upto_region 22 with fail
              obtain ⟨V1, hX⟩ : ∃ Y, Y = w6.alloc (.cells #[Value.int .i64 qx, .int .i64 qy] 26) := ⟨_, rfl⟩
              rw [← hX]
              rw [show w6.alloc (.cells (ptL (qx, qy)).toArray 26) = V1 from hX.symm] at hv1 zq
              replace zf := zf.below hv1
              replace zr := zr.below hv1
              replace zs := zs.below hv1
              replace hW := below_call hW hv1
              obtain ⟨k3, ek3⟩ : ∃ q, Hid (q = w6.heap.size) := ⟨_, hid rfl⟩
              rw [← ek3.out] at zq ⊢
              clear hX hb6 cst a0 a1 ek3
              have hmx : Tryd.prog.follows .mixedOrders = true := by kernel_rfl
              go_upto_region 22 with fail
              refine wp_onlyN (wp_region_held (S := fun w' => Below V1.heap.size V1 w') hmx ?_)
              show wpAnyH _ _ _ _ _ _ _ _ V1.drew
              have hS0 := (Below.refl V1.heap.size V1).drew
              refine reg_tk (i := 0) (v := .pointer (some ⟨k0, 0, none⟩)) (some 175) rfl (fun w' hS => by (skip); go_simp) hS0 ?_
              try simp only [Act.put, List.setIfInBounds_toArray, List.set_cons_zero, List.set_cons_succ]
              refine reg_tk (i := 1) (v := .agg #[.int .i64 m.w, .int .i64 m.h, .slice sp n sk]) (some 176) rfl (fun w' hS => by (have c0 := (zf.below hS).cell 0; have c1 := (zf.below hS).cell 1; have c2 := (zf.below hS).cell 2; simp only [List.getElem?_cons_zero, List.getElem?_cons_succ] at c0 c1 c2); go_simp) hS0 ?_
              try simp only [Act.put, List.setIfInBounds_toArray, List.set_cons_zero, List.set_cons_succ]
              refine reg_tk (i := 2) (v := .pointer (some ⟨k0, 3, none⟩)) (some 177) rfl (fun w' hS => by (skip); go_simp) hS0 ?_
              try simp only [Act.put, List.setIfInBounds_toArray, List.set_cons_zero, List.set_cons_succ]
              refine reg_tk (i := 3) (v := .slice lp ln lk) (some 178) rfl (fun w' hS => by (have c3 := (zf.below hS).cell 3; simp only [List.getElem?_cons_zero, List.getElem?_cons_succ] at c3); go_simp) hS0 ?_
              try simp only [Act.put, List.setIfInBounds_toArray, List.set_cons_zero, List.set_cons_succ]
              refine reg_tk (i := 4) (v := .pointer (some ⟨k0, 4, none⟩)) (some 179) rfl (fun w' hS => by (skip); go_simp) hS0 ?_
              try simp only [Act.put, List.setIfInBounds_toArray, List.set_cons_zero, List.set_cons_succ]
              refine reg_tk (i := 5) (v := .int .i64 c) (some 180) rfl (fun w' hS => by (have c4 := (zf.below hS).cell 4; simp only [List.getElem?_cons_zero, List.getElem?_cons_succ] at c4); go_simp) hS0 ?_
              try simp only [Act.put, List.setIfInBounds_toArray, List.set_cons_zero, List.set_cons_succ]
              refine reg_tk (i := 6) (v := .slice (some ⟨gc, 0, none⟩) cn cc) (some 181) rfl (fun w' hS => by (skip); go_simp) hS0 ?_
              try simp only [Act.put, List.setIfInBounds_toArray, List.set_cons_zero, List.set_cons_succ]
              refine reg_tk (i := 7) (v := .int .i64 i) (some 182) rfl (fun w' hS => by (skip); go_simp) hS0 ?_
              try simp only [Act.put, List.setIfInBounds_toArray, List.set_cons_zero, List.set_cons_succ]
              refine reg_tk (i := 8) (v := .pointer (some ⟨gc, i * 2, none⟩)) (some 183) rfl (fun w' hS => by (skip); go_simp) hS0 ?_
              try simp only [Act.put, List.setIfInBounds_toArray, List.set_cons_zero, List.set_cons_succ]
              refine reg_tk (i := 9) (v := .agg #[.int .i64 x.1, .int .i64 x.2]) (some 184) rfl (fun w' hS => by (have c1 := hd0 _ (below_call hv1 hS); have c2 := hd1 _ (below_call hv1 hS)); go_simp) hS0 ?_
              try simp only [Act.put, List.setIfInBounds_toArray, List.set_cons_zero, List.set_cons_succ]
              refine reg_tk (i := 10) (v := .int .i64 0) (some 185) rfl (fun w' hS => by (skip); go_simp) hS0 ?_
              try simp only [Act.put, List.setIfInBounds_toArray, List.set_cons_zero, List.set_cons_succ]
              refine held_one (i := 11) (by kernel_rfl) rfl (fun K hQ => ?_)
              go_simp
              ((with_reducible refine (rcost_b m (.slice sp n sk) bl (.slice lp ln lk) c x.1 x.2 0 bm kw _ hh (hr.below (below_call hW hS0)) (hl.below (below_call hW hS0)) hbm hkw).mono ?_); rintro e w2 ⟨rfl, hb1⟩)
              have hS1 := below_call hS0 hb1
              clear hb1
              refine hQ.out _ _ hS1 ?_
              clear hQ
              try simp only [Act.put, List.setIfInBounds_toArray, List.set_cons_zero, List.set_cons_succ]
              refine reg_tk (i := 12) (v := .tuple #[.int .i64 kw, .bool bm]) (some 174) rfl (fun w' hS => by (skip); go_simp) hS1 ?_
              try simp only [Act.put, List.setIfInBounds_toArray, List.set_cons_zero, List.set_cons_succ]
              refine reg_tk (i := 13) (v := .int .i64 kw) (some 187) rfl (fun w' hS => by (skip); go_simp) hS1 ?_
              try simp only [Act.put, List.setIfInBounds_toArray, List.set_cons_zero, List.set_cons_succ]
              refine reg_tk (i := 14) (v := .bool bm) (some 188) rfl (fun w' hS => by (skip); go_simp) hS1 ?_
              try simp only [Act.put, List.setIfInBounds_toArray, List.set_cons_zero, List.set_cons_succ]
              refine reg_tk (i := 15) (v := .int .i64 kw) (some 19) rfl (fun w' hS => by (skip); go_simp) hS1 ?_
              try simp only [Act.put, List.setIfInBounds_toArray, List.set_cons_zero, List.set_cons_succ]
              refine reg_tk (i := 16) (v := .bool bm) (some 20) rfl (fun w' hS => by (skip); go_simp) hS1 ?_
              try simp only [Act.put, List.setIfInBounds_toArray, List.set_cons_zero, List.set_cons_succ]
              refine wpAnyH_done (by kernel_rfl) ?_ _
              try simp only [onlyN]
              have hv2 := below_call hv1 hS1
              replace zf := zf.below hS1
              replace zr := zr.below hS1
              replace zs := zs.below hS1
              replace hW := below_call hW hS1
              replace zq := zq.below hS1
              clear hS1 hv1
              cases bm with
              | false =>
                have hmx : Tryd.prog.follows .mixedOrders = true := by kernel_rfl
                go_upto_region 23 with fail
                refine wp_onlyN (wp_region_held (S := fun w' => Below w2.heap.size w2 w') hmx ?_)
                show wpAnyH _ _ _ _ _ _ _ _ w2.drew
                have hS0 := (Below.refl w2.heap.size w2).drew
                refine reg_tk (i := 0) (v := .bool false) (some 189) rfl (fun w' hS => by (skip); go_simp) hS0 ?_
                try simp only [Act.put, List.setIfInBounds_toArray, List.set_cons_zero, List.set_cons_succ]
                refine reg_tk (i := 1) (v := .bool false) (some 190) rfl (fun w' hS => by (skip); go_simp) hS0 ?_
                try simp only [Act.put, List.setIfInBounds_toArray, List.set_cons_zero, List.set_cons_succ]
                refine reg_skip (i := 2) (some 191) rfl rfl (by kernel_rfl) (by kernel_rfl) (by kernel_rfl) (fun _ _ _ h => h) (by kernel_rfl) hS0 ?_
                try simp only [Act.put, List.setIfInBounds_toArray, List.set_cons_zero, List.set_cons_succ]
                refine reg_skip (i := 3) (some 192) rfl rfl (by kernel_rfl) (by kernel_rfl) (by kernel_rfl) (fun _ _ _ h => h) (by kernel_rfl) hS0 ?_
                try simp only [Act.put, List.setIfInBounds_toArray, List.set_cons_zero, List.set_cons_succ]
                refine reg_skip (i := 4) (some 193) rfl rfl (by kernel_rfl) (by kernel_rfl) (by kernel_rfl) (fun _ _ _ h => h) (by kernel_rfl) hS0 ?_
                try simp only [Act.put, List.setIfInBounds_toArray, List.set_cons_zero, List.set_cons_succ]
                refine reg_tk (i := 5) (v := .bool false) (some 194) rfl (fun w' hS => by (skip); go_simp) hS0 ?_
                try simp only [Act.put, List.setIfInBounds_toArray, List.set_cons_zero, List.set_cons_succ]
                refine reg_tk (i := 6) (v := .bool false) (some 195) rfl (fun w' hS => by (skip); go_simp) hS0 ?_
                try simp only [Act.put, List.setIfInBounds_toArray, List.set_cons_zero, List.set_cons_succ]
                refine reg_skip (i := 7) (some 196) rfl rfl (by kernel_rfl) (by kernel_rfl) (by kernel_rfl) (fun _ _ _ h => h) (by kernel_rfl) hS0 ?_
                try simp only [Act.put, List.setIfInBounds_toArray, List.set_cons_zero, List.set_cons_succ]
                refine reg_skip (i := 8) (some 197) rfl rfl (by kernel_rfl) (by kernel_rfl) (by kernel_rfl) (fun _ _ _ h => h) (by kernel_rfl) hS0 ?_
                try simp only [Act.put, List.setIfInBounds_toArray, List.set_cons_zero, List.set_cons_succ]
                refine reg_skip (i := 9) (some 198) rfl rfl (by kernel_rfl) (by kernel_rfl) (by kernel_rfl) (fun _ _ _ h => h) (by kernel_rfl) hS0 ?_
                try simp only [Act.put, List.setIfInBounds_toArray, List.set_cons_zero, List.set_cons_succ]
                refine reg_skip (i := 10) (some 199) rfl rfl (by kernel_rfl) (by kernel_rfl) (by kernel_rfl) (fun _ _ _ h => h) (by kernel_rfl) hS0 ?_
                try simp only [Act.put, List.setIfInBounds_toArray, List.set_cons_zero, List.set_cons_succ]
                refine reg_skip (i := 11) (some 200) rfl rfl (by kernel_rfl) (by kernel_rfl) (by kernel_rfl) (fun _ _ _ h => h) (by kernel_rfl) hS0 ?_
                try simp only [Act.put, List.setIfInBounds_toArray, List.set_cons_zero, List.set_cons_succ]
                refine reg_skip (i := 12) (some 201) rfl rfl (by kernel_rfl) (by kernel_rfl) (by kernel_rfl) (fun _ _ _ h => h) (by kernel_rfl) hS0 ?_
                try simp only [Act.put, List.setIfInBounds_toArray, List.set_cons_zero, List.set_cons_succ]
                refine reg_skip (i := 13) (some 202) rfl rfl (by kernel_rfl) (by kernel_rfl) (by kernel_rfl) (fun _ _ _ h => h) (by kernel_rfl) hS0 ?_
                try simp only [Act.put, List.setIfInBounds_toArray, List.set_cons_zero, List.set_cons_succ]
                refine reg_skip (i := 14) (some 203) rfl rfl (by kernel_rfl) (by kernel_rfl) (by kernel_rfl) (fun _ _ _ h => h) (by kernel_rfl) hS0 ?_
                try simp only [Act.put, List.setIfInBounds_toArray, List.set_cons_zero, List.set_cons_succ]
                refine reg_skip (i := 15) (some 204) rfl rfl (by kernel_rfl) (by kernel_rfl) (by kernel_rfl) (fun _ _ _ h => h) (by kernel_rfl) hS0 ?_
                try simp only [Act.put, List.setIfInBounds_toArray, List.set_cons_zero, List.set_cons_succ]
                refine reg_skip (i := 16) (some 205) rfl rfl (by kernel_rfl) (by kernel_rfl) (by kernel_rfl) (fun _ _ _ h => h) (by kernel_rfl) hS0 ?_
                try simp only [Act.put, List.setIfInBounds_toArray, List.set_cons_zero, List.set_cons_succ]
                refine reg_skip (i := 17) (some 206) rfl rfl (by kernel_rfl) (by kernel_rfl) (by kernel_rfl) (fun _ _ _ h => h) (by kernel_rfl) hS0 ?_
                try simp only [Act.put, List.setIfInBounds_toArray, List.set_cons_zero, List.set_cons_succ]
                refine reg_tk (i := 18) (v := .bool false) (some 207) rfl (fun w' hS => by (skip); go_simp) hS0 ?_
                try simp only [Act.put, List.setIfInBounds_toArray, List.set_cons_zero, List.set_cons_succ]
                refine wpAnyH_done (by kernel_rfl) ?_ _
                try simp only [onlyN]
                replace zf := zf.below hS0
                replace zr := zr.below hS0
                replace zs := zs.below hS0
                replace hW := below_call hW hS0
                replace hbV := below_call hbV (below_call hv2 hS0)
                go_wp2_with fail
                have hadd : Value.int .i64 ((i : Int) + 1) = Value.int .i64 ((i + 1 : Nat) : Int) := by push_cast; rfl
                exact ⟨⟨i + 1, hadd, by omega, zf, zr, zs, hW, hbV⟩, hmeas⟩
              | true =>
                cases bi with
                | false =>
                  have hmx : Tryd.prog.follows .mixedOrders = true := by kernel_rfl
                  go_upto_region 23 with fail
                  refine wp_onlyN (wp_region_held (S := fun w' => Below w2.heap.size w2 w') hmx ?_)
                  show wpAnyH _ _ _ _ _ _ _ _ w2.drew
                  have hS0 := (Below.refl w2.heap.size w2).drew
                  refine reg_tk (i := 0) (v := .bool true) (some 189) rfl (fun w' hS => by (skip); go_simp) hS0 ?_
                  try simp only [Act.put, List.setIfInBounds_toArray, List.set_cons_zero, List.set_cons_succ]
                  refine reg_tk (i := 1) (v := .bool true) (some 190) rfl (fun w' hS => by (skip); go_simp) hS0 ?_
                  try simp only [Act.put, List.setIfInBounds_toArray, List.set_cons_zero, List.set_cons_succ]
                  refine reg_tk (i := 2) (v := .agg #[.int .i64 s.x, .int .i64 s.y, .int .i64 s.w, .int .i64 s.h]) (some 191) rfl (fun w' hS => by (have c0 := (zs.below hS).cell 0; have c1 := (zs.below hS).cell 1; have c2 := (zs.below hS).cell 2; have c3 := (zs.below hS).cell 3; simp only [List.getElem?_cons_zero, List.getElem?_cons_succ] at c0 c1 c2 c3); go_simp) hS0 ?_
                  try simp only [Act.put, List.setIfInBounds_toArray, List.set_cons_zero, List.set_cons_succ]
                  refine reg_tk (i := 3) (v := .agg #[.int .i64 qx, .int .i64 qy]) (some 192) rfl (fun w' hS => by (have c0 := (zq.below hS).cell 0; have c1 := (zq.below hS).cell 1; simp only [List.getElem?_cons_zero, List.getElem?_cons_succ] at c0 c1); go_simp) hS0 ?_
                  try simp only [Act.put, List.setIfInBounds_toArray, List.set_cons_zero, List.set_cons_succ]
                  refine held_one (i := 4) (by kernel_rfl) rfl (fun K hQ => ?_)
                  rw [if_pos (show Region.wanted _ _ = true by kernel_rfl)]
                  go_simp
                  ((with_reducible refine (rins_q s (qx, qy) false _ hbi).mono ?_); rintro e w3 ⟨rfl, hb1⟩)
                  have hS1 := below_call hS0 hb1
                  clear hb1
                  refine hQ.out _ _ hS1 ?_
                  clear hQ
                  try simp only [Act.put, List.setIfInBounds_toArray, List.set_cons_zero, List.set_cons_succ]
                  refine reg_tk (i := 5) (v := .bool false) (some 194) rfl (fun w' hS => by (skip); go_simp) hS1 ?_
                  try simp only [Act.put, List.setIfInBounds_toArray, List.set_cons_zero, List.set_cons_succ]
                  refine reg_tk (i := 6) (v := .bool false) (some 195) rfl (fun w' hS => by (skip); go_simp) hS1 ?_
                  try simp only [Act.put, List.setIfInBounds_toArray, List.set_cons_zero, List.set_cons_succ]
                  refine reg_skip (i := 7) (some 196) rfl rfl (by kernel_rfl) (by kernel_rfl) (by kernel_rfl) (fun _ _ _ h => h) (by kernel_rfl) hS1 ?_
                  try simp only [Act.put, List.setIfInBounds_toArray, List.set_cons_zero, List.set_cons_succ]
                  refine reg_skip (i := 8) (some 197) rfl rfl (by kernel_rfl) (by kernel_rfl) (by kernel_rfl) (fun _ _ _ h => h) (by kernel_rfl) hS1 ?_
                  try simp only [Act.put, List.setIfInBounds_toArray, List.set_cons_zero, List.set_cons_succ]
                  refine reg_skip (i := 9) (some 198) rfl rfl (by kernel_rfl) (by kernel_rfl) (by kernel_rfl) (fun _ _ _ h => h) (by kernel_rfl) hS1 ?_
                  try simp only [Act.put, List.setIfInBounds_toArray, List.set_cons_zero, List.set_cons_succ]
                  refine reg_skip (i := 10) (some 199) rfl rfl (by kernel_rfl) (by kernel_rfl) (by kernel_rfl) (fun _ _ _ h => h) (by kernel_rfl) hS1 ?_
                  try simp only [Act.put, List.setIfInBounds_toArray, List.set_cons_zero, List.set_cons_succ]
                  refine reg_skip (i := 11) (some 200) rfl rfl (by kernel_rfl) (by kernel_rfl) (by kernel_rfl) (fun _ _ _ h => h) (by kernel_rfl) hS1 ?_
                  try simp only [Act.put, List.setIfInBounds_toArray, List.set_cons_zero, List.set_cons_succ]
                  refine reg_skip (i := 12) (some 201) rfl rfl (by kernel_rfl) (by kernel_rfl) (by kernel_rfl) (fun _ _ _ h => h) (by kernel_rfl) hS1 ?_
                  try simp only [Act.put, List.setIfInBounds_toArray, List.set_cons_zero, List.set_cons_succ]
                  refine reg_skip (i := 13) (some 202) rfl rfl (by kernel_rfl) (by kernel_rfl) (by kernel_rfl) (fun _ _ _ h => h) (by kernel_rfl) hS1 ?_
                  try simp only [Act.put, List.setIfInBounds_toArray, List.set_cons_zero, List.set_cons_succ]
                  refine reg_skip (i := 14) (some 203) rfl rfl (by kernel_rfl) (by kernel_rfl) (by kernel_rfl) (fun _ _ _ h => h) (by kernel_rfl) hS1 ?_
                  try simp only [Act.put, List.setIfInBounds_toArray, List.set_cons_zero, List.set_cons_succ]
                  refine reg_skip (i := 15) (some 204) rfl rfl (by kernel_rfl) (by kernel_rfl) (by kernel_rfl) (fun _ _ _ h => h) (by kernel_rfl) hS1 ?_
                  try simp only [Act.put, List.setIfInBounds_toArray, List.set_cons_zero, List.set_cons_succ]
                  refine reg_skip (i := 16) (some 205) rfl rfl (by kernel_rfl) (by kernel_rfl) (by kernel_rfl) (fun _ _ _ h => h) (by kernel_rfl) hS1 ?_
                  try simp only [Act.put, List.setIfInBounds_toArray, List.set_cons_zero, List.set_cons_succ]
                  refine reg_skip (i := 17) (some 206) rfl rfl (by kernel_rfl) (by kernel_rfl) (by kernel_rfl) (fun _ _ _ h => h) (by kernel_rfl) hS1 ?_
                  try simp only [Act.put, List.setIfInBounds_toArray, List.set_cons_zero, List.set_cons_succ]
                  refine reg_tk (i := 18) (v := .bool false) (some 207) rfl (fun w' hS => by (skip); go_simp) hS1 ?_
                  try simp only [Act.put, List.setIfInBounds_toArray, List.set_cons_zero, List.set_cons_succ]
                  refine wpAnyH_done (by kernel_rfl) ?_ _
                  try simp only [onlyN]
                  replace zf := zf.below hS1
                  replace zr := zr.below hS1
                  replace zs := zs.below hS1
                  replace hW := below_call hW hS1
                  replace hbV := below_call hbV (below_call hv2 hS1)
                  go_wp2_with fail
                  have hadd : Value.int .i64 ((i : Int) + 1) = Value.int .i64 ((i + 1 : Nat) : Int) := by push_cast; rfl
                  exact ⟨⟨i + 1, hadd, by omega, zf, zr, zs, hW, hbV⟩, hmeas⟩
                | true =>
                  have hex := hjx.out rfl rfl
                  have hmx : Tryd.prog.follows .mixedOrders = true := by kernel_rfl
                  go_upto_region 23 with fail
                  refine wp_onlyN (wp_region_held (S := fun w' => Below w2.heap.size w2 w') hmx ?_)
                  show wpAnyH _ _ _ _ _ _ _ _ w2.drew
                  have hS0 := (Below.refl w2.heap.size w2).drew
                  refine reg_tk (i := 0) (v := .bool true) (some 189) rfl (fun w' hS => by (skip); go_simp) hS0 ?_
                  try simp only [Act.put, List.setIfInBounds_toArray, List.set_cons_zero, List.set_cons_succ]
                  refine reg_tk (i := 1) (v := .bool true) (some 190) rfl (fun w' hS => by (skip); go_simp) hS0 ?_
                  try simp only [Act.put, List.setIfInBounds_toArray, List.set_cons_zero, List.set_cons_succ]
                  refine reg_tk (i := 2) (v := .agg #[.int .i64 s.x, .int .i64 s.y, .int .i64 s.w, .int .i64 s.h]) (some 191) rfl (fun w' hS => by (have c0 := (zs.below hS).cell 0; have c1 := (zs.below hS).cell 1; have c2 := (zs.below hS).cell 2; have c3 := (zs.below hS).cell 3; simp only [List.getElem?_cons_zero, List.getElem?_cons_succ] at c0 c1 c2 c3); go_simp) hS0 ?_
                  try simp only [Act.put, List.setIfInBounds_toArray, List.set_cons_zero, List.set_cons_succ]
                  refine reg_tk (i := 3) (v := .agg #[.int .i64 qx, .int .i64 qy]) (some 192) rfl (fun w' hS => by (have c0 := (zq.below hS).cell 0; have c1 := (zq.below hS).cell 1; simp only [List.getElem?_cons_zero, List.getElem?_cons_succ] at c0 c1); go_simp) hS0 ?_
                  try simp only [Act.put, List.setIfInBounds_toArray, List.set_cons_zero, List.set_cons_succ]
                  refine held_one (i := 4) (by kernel_rfl) rfl (fun K hQ => ?_)
                  rw [if_pos (show Region.wanted _ _ = true by kernel_rfl)]
                  go_simp
                  ((with_reducible refine (rins_q s (qx, qy) true _ hbi).mono ?_); rintro e w3 ⟨rfl, hb1⟩)
                  have hS1 := below_call hS0 hb1
                  clear hb1
                  refine hQ.out _ _ hS1 ?_
                  clear hQ
                  try simp only [Act.put, List.setIfInBounds_toArray, List.set_cons_zero, List.set_cons_succ]
                  refine reg_tk (i := 5) (v := .bool true) (some 194) rfl (fun w' hS => by (skip); go_simp) hS1 ?_
                  try simp only [Act.put, List.setIfInBounds_toArray, List.set_cons_zero, List.set_cons_succ]
                  refine reg_tk (i := 6) (v := .bool true) (some 195) rfl (fun w' hS => by (skip); go_simp) hS1 ?_
                  try simp only [Act.put, List.setIfInBounds_toArray, List.set_cons_zero, List.set_cons_succ]
                  refine reg_tk (i := 7) (v := .agg #[.int .i64 m.w, .int .i64 m.h, .slice sp n sk, .slice lp ln lk, .int .i64 c]) (some 196) rfl (fun w' hS => by (have c0 := (zf.below hS).cell 0; have c1 := (zf.below hS).cell 1; have c2 := (zf.below hS).cell 2; have c3 := (zf.below hS).cell 3; have c4 := (zf.below hS).cell 4; simp only [List.getElem?_cons_zero, List.getElem?_cons_succ] at c0 c1 c2 c3 c4); go_simp) hS1 ?_
                  try simp only [Act.put, List.setIfInBounds_toArray, List.set_cons_zero, List.set_cons_succ]
                  refine reg_tk (i := 8) (v := .int .i64 a) (some 197) rfl (fun w' hS => by (skip); go_simp) hS1 ?_
                  try simp only [Act.put, List.setIfInBounds_toArray, List.set_cons_zero, List.set_cons_succ]
                  refine reg_tk (i := 9) (v := .int .i64 b) (some 198) rfl (fun w' hS => by (skip); go_simp) hS1 ?_
                  try simp only [Act.put, List.setIfInBounds_toArray, List.set_cons_zero, List.set_cons_succ]
                  refine reg_tk (i := 10) (v := .slice (some ⟨gc, 0, none⟩) cn cc) (some 199) rfl (fun w' hS => by (skip); go_simp) hS1 ?_
                  try simp only [Act.put, List.setIfInBounds_toArray, List.set_cons_zero, List.set_cons_succ]
                  refine reg_tk (i := 11) (v := .int .i64 i) (some 200) rfl (fun w' hS => by (skip); go_simp) hS1 ?_
                  try simp only [Act.put, List.setIfInBounds_toArray, List.set_cons_zero, List.set_cons_succ]
                  refine reg_tk (i := 12) (v := .pointer (some ⟨gc, i * 2, none⟩)) (some 201) rfl (fun w' hS => by (skip); go_simp) hS1 ?_
                  try simp only [Act.put, List.setIfInBounds_toArray, List.set_cons_zero, List.set_cons_succ]
                  refine reg_tk (i := 13) (v := .agg #[.int .i64 x.1, .int .i64 x.2]) (some 202) rfl (fun w' hS => by (have c1 := hd0 _ (below_call hv2 hS); have c2 := hd1 _ (below_call hv2 hS)); go_simp) hS1 ?_
                  try simp only [Act.put, List.setIfInBounds_toArray, List.set_cons_zero, List.set_cons_succ]
                  refine reg_tk (i := 14) (v := .agg #[.int .i64 qx, .int .i64 qy]) (some 203) rfl (fun w' hS => by (have c0 := (zq.below hS).cell 0; have c1 := (zq.below hS).cell 1; simp only [List.getElem?_cons_zero, List.getElem?_cons_succ] at c0 c1); go_simp) hS1 ?_
                  try simp only [Act.put, List.setIfInBounds_toArray, List.set_cons_zero, List.set_cons_succ]
                  refine reg_tk (i := 15) (v := .slice pu kn cu) (some 204) rfl (fun w' hS => by (skip); go_simp) hS1 ?_
                  try simp only [Act.put, List.setIfInBounds_toArray, List.set_cons_zero, List.set_cons_succ]
                  refine held_one (i := 16) (by kernel_rfl) rfl (fun K hQ => ?_)
                  rw [if_pos (show Region.wanted _ _ = true by kernel_rfl)]
                  go_simp
                  ((with_reducible refine (cljoined_b m sp n sk bl lp ln lk c a b x (qx, qy) L (.slice pu kn cu) kn _ _ hln hn hnl (hE.keep (below_call hW hS1)) hh (hr.below (below_call hW hS1)) (hl.below (below_call hW hS1)) hkn hk16 (own_below hovr (below_call hv2 hS1)) hex).mono ?_); rintro e w4 ⟨rfl, hb1⟩)
                  have hS2 := below_call hS1 hb1
                  clear hb1
                  refine hQ.out _ _ hS2 ?_
                  clear hQ
                  try simp only [Act.put, List.setIfInBounds_toArray, List.set_cons_zero, List.set_cons_succ]
                  refine reg_tk (i := 17) (v := .bool false) (some 206) rfl (fun w' hS => by (skip); go_simp) hS2 ?_
                  try simp only [Act.put, List.setIfInBounds_toArray, List.set_cons_zero, List.set_cons_succ]
                  refine reg_tk (i := 18) (v := .bool false) (some 207) rfl (fun w' hS => by (skip); go_simp) hS2 ?_
                  try simp only [Act.put, List.setIfInBounds_toArray, List.set_cons_zero, List.set_cons_succ]
                  refine wpAnyH_done (by kernel_rfl) ?_ _
                  try simp only [onlyN]
                  replace zf := zf.below hS2
                  replace zr := zr.below hS2
                  replace zs := zs.below hS2
                  replace hW := below_call hW hS2
                  replace hbV := below_call hbV (below_call hv2 hS2)
                  go_wp2_with fail
                  have hadd : Value.int .i64 ((i : Int) + 1) = Value.int .i64 ((i + 1 : Nat) : Int) := by push_cast; rfl
                  exact ⟨⟨i + 1, hadd, by omega, zf, zr, zs, hW, hbV⟩, hmeas⟩
            · obtain rfl : cn = i := by omega
              have z1 : decide ((cn : Int) < (cn : Int)) = false := decide_eq_false (by omega)
              have caw := ca wr hW
              go_wp2_with fail
              ((with_reducible refine caw.mono ?_); rintro e w9 ⟨rfl, hb9⟩)
              go_wp2_with fail
              go_ret
              exact ⟨rfl, below_call hW hb9⟩
    · rw [← er.out, ← es.out] at q3
      rw [← er.out, ← es.out] at q4
      rw [q1] at hsound hjoin
      have v0 : decide (r.y < s.y) = true := decide_eq_true (by omega)
      have v1 : (s.x == r.x) = true := beq_iff_eq.2 q3
      have v2 : (s.y == r.y + r.h) = true := beq_iff_eq.2 q4
      clear q1 q3 q4 ok hLo hL rx ry rw1 rh1 rw8 rh8 rxw ryh sx sy sw1 sh1 sw8 sh8 sxw syh
      go_wp2_with fail
      obtain ⟨U, hU⟩ : ∃ U, U = w4 := ⟨_, rfl⟩
      rw [← hU] at zf zr zs hW hov ⊢
      clear hU r0 r1 r2 r3 t0 t1
      go_loopw [13] (fun vi wr => ∃ i : Nat, vi = .int .i64 i ∧ i ≤ kn ∧ Blk wr k0 [.int .i64 m.w, .int .i64 m.h, .slice sp n sk, .slice lp ln lk, .int .i64 c] 37 ∧ Blk wr k1 [.int .i64 r.x, .int .i64 r.y, .int .i64 r.w, .int .i64 r.h] 29 ∧ Blk wr k2 [.int .i64 s.x, .int .i64 s.y, .int .i64 s.w, .int .i64 s.h] 29 ∧ Below W.heap.size W wr ∧ Below U.heap.size U wr) (fun vi _ => kn - (RowKit.intOf vi).toNat)
      case atStart => exact ⟨0, rfl, by omega, zf, zr, zs, hW, Below.refl _ _⟩
      case round =>
        clear zf zr zs hW
        obtain ⟨i, rfl, hi, zf, zr, zs, hW, hbU⟩ := hrel
        have hovr := own_below hov hbU
        by_cases hlt : i < kn
        · have z1 : decide ((i : Int) < (kn : Int)) = true := decide_eq_true (by omega)
          have i0 : (0 : Int) ≤ (i : Int) := by omega
          have i1 : (i : Int) < (kn : Int) := by omega
          have nadd : IntKind.i64.wrap ((i : Int) + 1) = ((i + 1 : Nat) : Int) := by rw [IntWalk.i64_in _ (by omega)]; simp
          have hmeas : kn - (RowKit.intOf (Value.int .i64 ((i : Int) + 1))).toNat < kn - (RowKit.intOf (Value.int .i64 (i : Int))).toNat := by simp [RowKit.intOf]; omega
          have hil : i < L.length := by rw [hkn.out]; exact hlt
          obtain ⟨g, cap, eu⟩ := own_some hov (by omega)
          injection eu with eu1 _ eu3
          subst eu1 eu3
          obtain ⟨a0, a1, a2, a3⟩ := qcells_at L i hil
          obtain ⟨b1, b2, b3, b4⟩ := hsound.out _ (List.getElem_mem hil)
          obtain ⟨y, hy⟩ : ∃ y, Hid (y = (L[i]'hil).1) := ⟨_, hid rfl⟩
          rw [← hy.out] at a0 a1 b1 b2 b3
          rw [b2] at a2 a3 b4
          obtain ⟨zx, hz1⟩ : ∃ q, Hid (q = stx y.1 2) := ⟨_, hid rfl⟩
          obtain ⟨zy, hz2⟩ : ∃ q, Hid (q = sty y.2 2) := ⟨_, hid rfl⟩
          dsimp only at a2 a3 b4
          rw [← hz1.out] at a2 b4
          rw [← hz2.out] at a3 b4
          have hmy : Hid (true = mayv m bl c y.1 y.2 2) := hid b1.symm
          obtain ⟨kw, hkw⟩ : ∃ kw, Hid (kw = costv m bl c y.1 y.2 2) := ⟨_, hid rfl⟩
          have hir : Hid (true = insv r y.1 y.2) := hid b3.symm
          have his : Hid (true = insv s zx zy) := hid b4.symm
          have hgl := (hovr.lt g rfl).2
          have cell : ∀ (x : Nat) (v : Value), x < kn * 4 → (qcells L)[x]? = some v → ∀ w', Below wr.heap.size wr w' → w'.cell? ⟨g, x, none⟩ = some v := fun x v h1 h2 w' h => (h.cell (p := ⟨g, x, none⟩) hgl).trans ((hovr.cellAt x h1).trans h2)
          have hc0 := cell (i * 4) _ (by omega) a0
          have hc1 := cell (i * 4 + 1) _ (by omega) a1
          have hc2 : ∀ w', Below wr.heap.size wr w' → w'.cell? ⟨g, i * 4 + 2, none⟩ = some (.int .i64 zx) := cell (i * 4 + 2) _ (by omega) a2
          have hc3 : ∀ w', Below wr.heap.size wr w' → w'.cell? ⟨g, i * 4 + 2 + 1, none⟩ = some (.int .i64 zy) := cell (i * 4 + 3) _ (by omega) a3
          clear cell a0 a1 a2 a3 b1 b2 b3 b4 hy
          have hmx : Tryd.prog.follows .mixedOrders = true := by kernel_rfl
          go_upto_region 12 with fail
          refine wp_onlyN (wp_region_held (S := fun w' => Below wr.heap.size wr w') hmx ?_)
          show wpAnyH _ _ _ _ _ _ _ _ wr.drew
          have hS0 := (Below.refl wr.heap.size wr).drew
          refine reg_tk (i := 0) (v := .pointer (some ⟨k0, 0, none⟩)) (some 68) rfl (fun w' hS => by (skip); go_simp) hS0 ?_
          try simp only [Act.put, List.setIfInBounds_toArray, List.set_cons_zero, List.set_cons_succ]
          refine reg_tk (i := 1) (v := .agg #[.int .i64 m.w, .int .i64 m.h, .slice sp n sk]) (some 69) rfl (fun w' hS => by (have c0 := (zf.below hS).cell 0; have c1 := (zf.below hS).cell 1; have c2 := (zf.below hS).cell 2; simp only [List.getElem?_cons_zero, List.getElem?_cons_succ] at c0 c1 c2); go_simp) hS0 ?_
          try simp only [Act.put, List.setIfInBounds_toArray, List.set_cons_zero, List.set_cons_succ]
          refine reg_tk (i := 2) (v := .pointer (some ⟨k0, 3, none⟩)) (some 70) rfl (fun w' hS => by (skip); go_simp) hS0 ?_
          try simp only [Act.put, List.setIfInBounds_toArray, List.set_cons_zero, List.set_cons_succ]
          refine reg_tk (i := 3) (v := .slice lp ln lk) (some 71) rfl (fun w' hS => by (have c3 := (zf.below hS).cell 3; simp only [List.getElem?_cons_zero, List.getElem?_cons_succ] at c3); go_simp) hS0 ?_
          try simp only [Act.put, List.setIfInBounds_toArray, List.set_cons_zero, List.set_cons_succ]
          refine reg_tk (i := 4) (v := .pointer (some ⟨k0, 4, none⟩)) (some 72) rfl (fun w' hS => by (skip); go_simp) hS0 ?_
          try simp only [Act.put, List.setIfInBounds_toArray, List.set_cons_zero, List.set_cons_succ]
          refine reg_tk (i := 5) (v := .int .i64 c) (some 73) rfl (fun w' hS => by (have c4 := (zf.below hS).cell 4; simp only [List.getElem?_cons_zero, List.getElem?_cons_succ] at c4); go_simp) hS0 ?_
          try simp only [Act.put, List.setIfInBounds_toArray, List.set_cons_zero, List.set_cons_succ]
          refine reg_tk (i := 6) (v := .slice (some ⟨g, 0, none⟩) kn cu) (some 74) rfl (fun w' hS => by (skip); go_simp) hS0 ?_
          try simp only [Act.put, List.setIfInBounds_toArray, List.set_cons_zero, List.set_cons_succ]
          refine reg_tk (i := 7) (v := .int .i64 i) (some 75) rfl (fun w' hS => by (skip); go_simp) hS0 ?_
          try simp only [Act.put, List.setIfInBounds_toArray, List.set_cons_zero, List.set_cons_succ]
          refine reg_tk (i := 8) (v := .pointer (some ⟨g, i * 4, none⟩)) (some 76) rfl (fun w' hS => by (skip); go_simp) hS0 ?_
          try simp only [Act.put, List.setIfInBounds_toArray, List.set_cons_zero, List.set_cons_succ]
          refine reg_tk (i := 9) (v := .pointer (some ⟨g, i * 4, none⟩)) (some 77) rfl (fun w' hS => by (skip); go_simp) hS0 ?_
          try simp only [Act.put, List.setIfInBounds_toArray, List.set_cons_zero, List.set_cons_succ]
          refine reg_tk (i := 10) (v := .agg #[.int .i64 y.1, .int .i64 y.2]) (some 78) rfl (fun w' hS => by (have c1 := hc0 _ hS; have c2 := hc1 _ hS); go_simp) hS0 ?_
          try simp only [Act.put, List.setIfInBounds_toArray, List.set_cons_zero, List.set_cons_succ]
          refine reg_tk (i := 11) (v := .int .i64 2) (some 79) rfl (fun w' hS => by (skip); go_simp) hS0 ?_
          try simp only [Act.put, List.setIfInBounds_toArray, List.set_cons_zero, List.set_cons_succ]
          refine held_one (i := 12) (by kernel_rfl) rfl (fun K hQ => ?_)
          go_simp
          ((with_reducible refine (rcost_b m (.slice sp n sk) bl (.slice lp ln lk) c y.1 y.2 2 true kw _ hh (hr.below (below_call hW hS0)) (hl.below (below_call hW hS0)) hmy hkw).mono ?_); rintro e w1 ⟨rfl, hb1⟩)
          have hS1 := below_call hS0 hb1
          clear hb1
          refine hQ.out _ _ hS1 ?_
          clear hQ
          try simp only [Act.put, List.setIfInBounds_toArray, List.set_cons_zero, List.set_cons_succ]
          refine reg_tk (i := 13) (v := .tuple #[.int .i64 kw, .bool true]) (some 67) rfl (fun w' hS => by (skip); go_simp) hS1 ?_
          try simp only [Act.put, List.setIfInBounds_toArray, List.set_cons_zero, List.set_cons_succ]
          refine reg_tk (i := 14) (v := .int .i64 kw) (some 81) rfl (fun w' hS => by (skip); go_simp) hS1 ?_
          try simp only [Act.put, List.setIfInBounds_toArray, List.set_cons_zero, List.set_cons_succ]
          refine reg_tk (i := 15) (v := .bool true) (some 82) rfl (fun w' hS => by (skip); go_simp) hS1 ?_
          try simp only [Act.put, List.setIfInBounds_toArray, List.set_cons_zero, List.set_cons_succ]
          refine reg_tk (i := 16) (v := .int .i64 kw) (some 14) rfl (fun w' hS => by (skip); go_simp) hS1 ?_
          try simp only [Act.put, List.setIfInBounds_toArray, List.set_cons_zero, List.set_cons_succ]
          refine reg_tk (i := 17) (v := .bool true) (some 15) rfl (fun w' hS => by (skip); go_simp) hS1 ?_
          try simp only [Act.put, List.setIfInBounds_toArray, List.set_cons_zero, List.set_cons_succ]
          refine wpAnyH_done (by kernel_rfl) ?_ _
          try simp only [onlyN]
          have hw1 := hS1
          replace zf := zf.below hw1
          replace zr := zr.below hw1
          replace zs := zs.below hw1
          replace hW := below_call hW hw1
          clear hS1
          have hmx : Tryd.prog.follows .mixedOrders = true := by kernel_rfl
          go_upto_region 13 with fail
          refine wp_onlyN (wp_region_held (S := fun w' => Below w1.heap.size w1 w') hmx ?_)
          show wpAnyH _ _ _ _ _ _ _ _ w1.drew
          have hS0 := (Below.refl w1.heap.size w1).drew
          refine reg_tk (i := 0) (v := .bool true) (some 83) rfl (fun w' hS => by (skip); go_simp) hS0 ?_
          try simp only [Act.put, List.setIfInBounds_toArray, List.set_cons_zero, List.set_cons_succ]
          refine reg_tk (i := 1) (v := .bool false) (some 84) rfl (fun w' hS => by (skip); go_simp) hS0 ?_
          try simp only [Act.put, List.setIfInBounds_toArray, List.set_cons_zero, List.set_cons_succ]
          refine reg_tk (i := 2) (v := .bool false) (some 85) rfl (fun w' hS => by (skip); go_simp) hS0 ?_
          try simp only [Act.put, List.setIfInBounds_toArray, List.set_cons_zero, List.set_cons_succ]
          refine reg_tk (i := 3) (v := .slice (some ⟨g, 0, none⟩) kn cu) (some 86) rfl (fun w' hS => by (skip); go_simp) hS0 ?_
          try simp only [Act.put, List.setIfInBounds_toArray, List.set_cons_zero, List.set_cons_succ]
          refine reg_tk (i := 4) (v := .int .i64 i) (some 87) rfl (fun w' hS => by (skip); go_simp) hS0 ?_
          try simp only [Act.put, List.setIfInBounds_toArray, List.set_cons_zero, List.set_cons_succ]
          refine reg_tk (i := 5) (v := .pointer (some ⟨g, i * 4, none⟩)) (some 88) rfl (fun w' hS => by (skip); go_simp) hS0 ?_
          try simp only [Act.put, List.setIfInBounds_toArray, List.set_cons_zero, List.set_cons_succ]
          refine reg_tk (i := 6) (v := .pointer (some ⟨g, i * 4 + 2, none⟩)) (some 89) rfl (fun w' hS => by (skip); go_simp) hS0 ?_
          try simp only [Act.put, List.setIfInBounds_toArray, List.set_cons_zero, List.set_cons_succ]
          refine reg_tk (i := 7) (v := .agg #[.int .i64 zx, .int .i64 zy]) (some 90) rfl (fun w' hS => by (have c1 := hc2 _ (below_call hw1 hS); have c2 := hc3 _ (below_call hw1 hS)); go_simp) hS0 ?_
          try simp only [Act.put, List.setIfInBounds_toArray, List.set_cons_zero, List.set_cons_succ]
          refine reg_tk (i := 8) (v := .slice (some ⟨g, 0, none⟩) kn cu) (some 91) rfl (fun w' hS => by (skip); go_simp) hS0 ?_
          try simp only [Act.put, List.setIfInBounds_toArray, List.set_cons_zero, List.set_cons_succ]
          refine reg_tk (i := 9) (v := .int .i64 i) (some 92) rfl (fun w' hS => by (skip); go_simp) hS0 ?_
          try simp only [Act.put, List.setIfInBounds_toArray, List.set_cons_zero, List.set_cons_succ]
          refine reg_tk (i := 10) (v := .pointer (some ⟨g, i * 4, none⟩)) (some 93) rfl (fun w' hS => by (skip); go_simp) hS0 ?_
          try simp only [Act.put, List.setIfInBounds_toArray, List.set_cons_zero, List.set_cons_succ]
          refine reg_tk (i := 11) (v := .pointer (some ⟨g, i * 4, none⟩)) (some 94) rfl (fun w' hS => by (skip); go_simp) hS0 ?_
          try simp only [Act.put, List.setIfInBounds_toArray, List.set_cons_zero, List.set_cons_succ]
          refine reg_tk (i := 12) (v := .agg #[.int .i64 y.1, .int .i64 y.2]) (some 95) rfl (fun w' hS => by (have c1 := hc0 _ (below_call hw1 hS); have c2 := hc1 _ (below_call hw1 hS)); go_simp) hS0 ?_
          try simp only [Act.put, List.setIfInBounds_toArray, List.set_cons_zero, List.set_cons_succ]
          refine reg_tk (i := 13) (v := .int .i64 2) (some 96) rfl (fun w' hS => by (skip); go_simp) hS0 ?_
          try simp only [Act.put, List.setIfInBounds_toArray, List.set_cons_zero, List.set_cons_succ]
          refine held_one (i := 14) (by kernel_rfl) rfl (fun K hQ => ?_)
          rw [if_pos (show Region.wanted _ _ = true by kernel_rfl)]
          go_simp
          ((with_reducible refine (rstepq_b y.1 y.2 2 zx zy _ hz1 hz2).mono ?_); rintro e w2 ⟨rfl, hb1⟩)
          have hS1 := below_call hS0 hb1
          clear hb1
          refine hQ.out _ _ hS1 ?_
          clear hQ
          try simp only [Act.put, List.setIfInBounds_toArray, List.set_cons_zero, List.set_cons_succ]
          refine reg_tk (i := 15) (v := .bool false) (some 98) rfl (fun w' hS => by (skip); go_simp) hS1 ?_
          try simp only [Act.put, List.setIfInBounds_toArray, List.set_cons_zero, List.set_cons_succ]
          refine reg_tk (i := 16) (v := .bool false) (some 99) rfl (fun w' hS => by (skip); go_simp) hS1 ?_
          try simp only [Act.put, List.setIfInBounds_toArray, List.set_cons_zero, List.set_cons_succ]
          refine reg_tk (i := 17) (v := .bool false) (some 100) rfl (fun w' hS => by (skip); go_simp) hS1 ?_
          try simp only [Act.put, List.setIfInBounds_toArray, List.set_cons_zero, List.set_cons_succ]
          refine reg_tk (i := 18) (v := .agg #[.int .i64 r.x, .int .i64 r.y, .int .i64 r.w, .int .i64 r.h]) (some 101) rfl (fun w' hS => by (have c0 := (zr.below hS).cell 0; have c1 := (zr.below hS).cell 1; have c2 := (zr.below hS).cell 2; have c3 := (zr.below hS).cell 3; simp only [List.getElem?_cons_zero, List.getElem?_cons_succ] at c0 c1 c2 c3); go_simp) hS1 ?_
          try simp only [Act.put, List.setIfInBounds_toArray, List.set_cons_zero, List.set_cons_succ]
          refine reg_tk (i := 19) (v := .slice (some ⟨g, 0, none⟩) kn cu) (some 102) rfl (fun w' hS => by (skip); go_simp) hS1 ?_
          try simp only [Act.put, List.setIfInBounds_toArray, List.set_cons_zero, List.set_cons_succ]
          refine reg_tk (i := 20) (v := .int .i64 i) (some 103) rfl (fun w' hS => by (skip); go_simp) hS1 ?_
          try simp only [Act.put, List.setIfInBounds_toArray, List.set_cons_zero, List.set_cons_succ]
          refine reg_tk (i := 21) (v := .pointer (some ⟨g, i * 4, none⟩)) (some 104) rfl (fun w' hS => by (skip); go_simp) hS1 ?_
          try simp only [Act.put, List.setIfInBounds_toArray, List.set_cons_zero, List.set_cons_succ]
          refine reg_tk (i := 22) (v := .pointer (some ⟨g, i * 4, none⟩)) (some 105) rfl (fun w' hS => by (skip); go_simp) hS1 ?_
          try simp only [Act.put, List.setIfInBounds_toArray, List.set_cons_zero, List.set_cons_succ]
          refine reg_tk (i := 23) (v := .agg #[.int .i64 y.1, .int .i64 y.2]) (some 106) rfl (fun w' hS => by (have c1 := hc0 _ (below_call hw1 hS); have c2 := hc1 _ (below_call hw1 hS)); go_simp) hS1 ?_
          try simp only [Act.put, List.setIfInBounds_toArray, List.set_cons_zero, List.set_cons_succ]
          refine held_one (i := 24) (by kernel_rfl) rfl (fun K hQ => ?_)
          rw [if_pos (show Region.wanted _ _ = true by kernel_rfl)]
          go_simp
          ((with_reducible refine (rins_q r y true _ hir).mono ?_); rintro e w3 ⟨rfl, hb1⟩)
          have hS2 := below_call hS1 hb1
          clear hb1
          refine hQ.out _ _ hS2 ?_
          clear hQ
          try simp only [Act.put, List.setIfInBounds_toArray, List.set_cons_zero, List.set_cons_succ]
          refine reg_tk (i := 25) (v := .bool false) (some 108) rfl (fun w' hS => by (skip); go_simp) hS2 ?_
          try simp only [Act.put, List.setIfInBounds_toArray, List.set_cons_zero, List.set_cons_succ]
          refine reg_tk (i := 26) (v := .bool false) (some 109) rfl (fun w' hS => by (skip); go_simp) hS2 ?_
          try simp only [Act.put, List.setIfInBounds_toArray, List.set_cons_zero, List.set_cons_succ]
          refine reg_tk (i := 27) (v := .bool false) (some 110) rfl (fun w' hS => by (skip); go_simp) hS2 ?_
          try simp only [Act.put, List.setIfInBounds_toArray, List.set_cons_zero, List.set_cons_succ]
          refine reg_tk (i := 28) (v := .agg #[.int .i64 s.x, .int .i64 s.y, .int .i64 s.w, .int .i64 s.h]) (some 111) rfl (fun w' hS => by (have c0 := (zs.below hS).cell 0; have c1 := (zs.below hS).cell 1; have c2 := (zs.below hS).cell 2; have c3 := (zs.below hS).cell 3; simp only [List.getElem?_cons_zero, List.getElem?_cons_succ] at c0 c1 c2 c3); go_simp) hS2 ?_
          try simp only [Act.put, List.setIfInBounds_toArray, List.set_cons_zero, List.set_cons_succ]
          refine reg_tk (i := 29) (v := .slice (some ⟨g, 0, none⟩) kn cu) (some 112) rfl (fun w' hS => by (skip); go_simp) hS2 ?_
          try simp only [Act.put, List.setIfInBounds_toArray, List.set_cons_zero, List.set_cons_succ]
          refine reg_tk (i := 30) (v := .int .i64 i) (some 113) rfl (fun w' hS => by (skip); go_simp) hS2 ?_
          try simp only [Act.put, List.setIfInBounds_toArray, List.set_cons_zero, List.set_cons_succ]
          refine reg_tk (i := 31) (v := .pointer (some ⟨g, i * 4, none⟩)) (some 114) rfl (fun w' hS => by (skip); go_simp) hS2 ?_
          try simp only [Act.put, List.setIfInBounds_toArray, List.set_cons_zero, List.set_cons_succ]
          refine reg_tk (i := 32) (v := .pointer (some ⟨g, i * 4 + 2, none⟩)) (some 115) rfl (fun w' hS => by (skip); go_simp) hS2 ?_
          try simp only [Act.put, List.setIfInBounds_toArray, List.set_cons_zero, List.set_cons_succ]
          refine reg_tk (i := 33) (v := .agg #[.int .i64 zx, .int .i64 zy]) (some 116) rfl (fun w' hS => by (have c1 := hc2 _ (below_call hw1 hS); have c2 := hc3 _ (below_call hw1 hS)); go_simp) hS2 ?_
          try simp only [Act.put, List.setIfInBounds_toArray, List.set_cons_zero, List.set_cons_succ]
          refine held_one (i := 34) (by kernel_rfl) rfl (fun K hQ => ?_)
          rw [if_pos (show Region.wanted _ _ = true by kernel_rfl)]
          go_simp
          ((with_reducible refine (rins_q s (zx, zy) true _ his).mono ?_); rintro e w4 ⟨rfl, hb1⟩)
          have hS3 := below_call hS2 hb1
          clear hb1
          refine hQ.out _ _ hS3 ?_
          clear hQ
          try simp only [Act.put, List.setIfInBounds_toArray, List.set_cons_zero, List.set_cons_succ]
          refine reg_tk (i := 35) (v := .bool false) (some 118) rfl (fun w' hS => by (skip); go_simp) hS3 ?_
          try simp only [Act.put, List.setIfInBounds_toArray, List.set_cons_zero, List.set_cons_succ]
          refine reg_tk (i := 36) (v := .bool false) (some 119) rfl (fun w' hS => by (skip); go_simp) hS3 ?_
          try simp only [Act.put, List.setIfInBounds_toArray, List.set_cons_zero, List.set_cons_succ]
          refine wpAnyH_done (by kernel_rfl) ?_ _
          try simp only [onlyN]
          replace zf := zf.below hS3
          replace zr := zr.below hS3
          replace zs := zs.below hS3
          replace hW := below_call hW hS3
          replace hbU := below_call hbU (below_call hw1 hS3)
          go_wp2_with fail
          have hadd : Value.int .i64 ((i : Int) + 1) = Value.int .i64 ((i + 1 : Nat) : Int) := by push_cast; rfl
          exact ⟨⟨i + 1, hadd, by omega, zf, zr, zs, hW, hbU⟩, hmeas⟩
        · obtain rfl : kn = i := by omega
          have z1 : decide ((kn : Int) < (kn : Int)) = false := decide_eq_false (by omega)
          have r0 := zr.cell 0
          have r1 := zr.cell 1
          have r2 := zr.cell 2
          have r3 := zr.cell 3
          have t0 := zs.cell 0
          have t1 := zs.cell 1
          simp only [List.getElem?_cons_zero, List.getElem?_cons_succ] at r0 r1 r2 r3 t0 t1
          obtain ⟨Lc, hLc⟩ : ∃ Lc, Hid (cellsv ⟨r.x, r.y, r.w, r.h⟩ = Lc) := ⟨_, hid rfl⟩
          have cce := rcells_x r.x r.y r.w r.h wr Lc hLc
          have hLc64 : Lc.length ≤ 64 := by
            obtain ⟨w', h', _, _, _, b1, _, b2, e⟩ := cells_ar okr0.out hmf
            rw [← hLc.out]
            have : cellsv ⟨r.x, r.y, r.w, r.h⟩ = cellsv r := rfl
            rw [this, e, List.length_map, List.length_range]
            exact Nat.mul_le_mul b2 b1
          have hin : Hid (∀ x ∈ Lc, insv r x.1 x.2 = true) := hid (fun x hx => by
            rw [← hLc.out] at hx
            exact (mem_ar okr0.out hmf).1 hx)
          obtain ⟨cn, hcn⟩ : ∃ cn, Hid (Lc.length = cn) := ⟨_, hid rfl⟩
          rw [hcn.out] at cce hLc64
          clear hov hbU
          go_wp2_with fail
          ((with_reducible refine cce.mono ?_); rintro e w5 ⟨uc, rfl, hoc, hb5⟩)
          replace zf := zf.below hb5
          replace zr := zr.below hb5
          replace zs := zs.below hb5
          replace hovr := own_below hovr hb5
          replace hW := below_call hW hb5
          clear hb5 cce r0 r1 r2 r3 t0 t1 hLc z1
          obtain ⟨pc, cc, rfl⟩ := own_slice hoc
          have hov := hovr
          clear hovr
          go_wp2_with fail
          go_loopw [17] (fun vi wr => ∃ i : Nat, vi = .int .i64 i ∧ i ≤ cn ∧ Blk wr k0 [.int .i64 m.w, .int .i64 m.h, .slice sp n sk, .slice lp ln lk, .int .i64 c] 37 ∧ Blk wr k1 [.int .i64 r.x, .int .i64 r.y, .int .i64 r.w, .int .i64 r.h] 29 ∧ Blk wr k2 [.int .i64 s.x, .int .i64 s.y, .int .i64 s.w, .int .i64 s.h] 29 ∧ Below W.heap.size W wr ∧ Below w5.heap.size w5 wr) (fun vi _ => cn - (RowKit.intOf vi).toNat)
          case atStart => exact ⟨0, rfl, by omega, zf, zr, zs, hW, Below.refl _ _⟩
          case round =>
            clear zf zr zs hW
            obtain ⟨i, rfl, hi, zf, zr, zs, hW, hbV⟩ := hrel
            have hovr := own_below hov hbV
            have hocr := own_below hoc hbV
            by_cases hlt : i < cn
            · have z1 : decide ((i : Int) < (cn : Int)) = true := decide_eq_true (by omega)
              have i0 : (0 : Int) ≤ (i : Int) := by omega
              have i1 : (i : Int) < (cn : Int) := by omega
              have nadd : IntKind.i64.wrap ((i : Int) + 1) = ((i + 1 : Nat) : Int) := by rw [IntWalk.i64_in _ (by omega)]; simp
              have hmeas : cn - (RowKit.intOf (Value.int .i64 ((i : Int) + 1))).toNat < cn - (RowKit.intOf (Value.int .i64 (i : Int))).toNat := by simp [RowKit.intOf]; omega
              have hil : i < Lc.length := by rw [hcn.out]; exact hlt
              obtain ⟨gc, cc', eu⟩ := own_some hoc (by omega)
              injection eu with eu1 _ eu3
              subst eu1 eu3
              obtain ⟨x, hx⟩ : ∃ x, Hid (x = Lc[i]'hil) := ⟨_, hid rfl⟩
              have hxr : insv r x.1 x.2 = true := by rw [hx.out]; exact hin.out _ (List.getElem_mem hil)
              have a0 := hocr.cellAt (i * 2) (by omega)
              have a1 := hocr.cellAt (i * 2 + 1) (by omega)
              have hpc := pcells_at Lc i hil
              rw [Nat.mul_comm 2 i] at hpc
              rw [hpc.1, ← hx.out] at a0
              rw [hpc.2, ← hx.out] at a1
              have hgl := (hocr.lt gc rfl).2
              have hd0 : ∀ w', Below wr.heap.size wr w' → w'.cell? ⟨gc, i * 2, none⟩ = some (.int .i64 x.1) := fun w' h => (h.cell (p := ⟨gc, _, none⟩) hgl).trans a0
              have hd1 : ∀ w', Below wr.heap.size wr w' → w'.cell? ⟨gc, i * 2 + 1, none⟩ = some (.int .i64 x.2) := fun w' h => (h.cell (p := ⟨gc, _, none⟩) hgl).trans a1
              obtain ⟨qx, hqx⟩ : ∃ q, Hid (q = stx x.1 2) := ⟨_, hid rfl⟩
              obtain ⟨qy, hqy⟩ : ∃ q, Hid (q = sty x.2 2) := ⟨_, hid rfl⟩
              obtain ⟨bm, hbm⟩ : ∃ q, Hid (q = mayv m bl c x.1 x.2 2) := ⟨_, hid rfl⟩
              obtain ⟨kw, hkw⟩ : ∃ q, Hid (q = costv m bl c x.1 x.2 2) := ⟨_, hid rfl⟩
              obtain ⟨bi, hbi⟩ : ∃ q, Hid (q = insv s qx qy) := ⟨_, hid rfl⟩
              have hjx : Hid (bi = true → bm = true → ∃ y ∈ L, InReach m bl c a x y.1 ∧ InReach m bl c b (qx, qy) y.2) := hid (fun h1 h2 => by
                rw [hqx.out, hqy.out]
                exact hjoin.out x hxr (by rw [← hqx.out, ← hqy.out, ← hbi.out]; exact h1) (by rw [← hbm.out]; exact h2))
              clear hpc hx hxr
              have cst := rstepq_b x.1 x.2 2 qx qy wr hqx hqy
              go_wp2_with fail
              ((with_reducible refine cst.mono ?_); rintro e w6 ⟨rfl, hb6⟩)
              have hv1 := hb6.alloc hb6.size (.cells (ptL (qx, qy)).toArray 26)
              have zq := Blk.new w6 (ptL (qx, qy)) 26
              go_upto_region 22 with fail
              obtain ⟨V1, hX⟩ : ∃ Y, Y = w6.alloc (.cells #[Value.int .i64 qx, .int .i64 qy] 26) := ⟨_, rfl⟩
              rw [← hX]
              rw [show w6.alloc (.cells (ptL (qx, qy)).toArray 26) = V1 from hX.symm] at hv1 zq
              replace zf := zf.below hv1
              replace zr := zr.below hv1
              replace zs := zs.below hv1
              replace hW := below_call hW hv1
              obtain ⟨k3, ek3⟩ : ∃ q, Hid (q = w6.heap.size) := ⟨_, hid rfl⟩
              rw [← ek3.out] at zq ⊢
              clear hX hb6 cst a0 a1 ek3
              have hmx : Tryd.prog.follows .mixedOrders = true := by kernel_rfl
              go_upto_region 22 with fail
              refine wp_onlyN (wp_region_held (S := fun w' => Below V1.heap.size V1 w') hmx ?_)
              show wpAnyH _ _ _ _ _ _ _ _ V1.drew
              have hS0 := (Below.refl V1.heap.size V1).drew
              refine reg_tk (i := 0) (v := .pointer (some ⟨k0, 0, none⟩)) (some 175) rfl (fun w' hS => by (skip); go_simp) hS0 ?_
              try simp only [Act.put, List.setIfInBounds_toArray, List.set_cons_zero, List.set_cons_succ]
              refine reg_tk (i := 1) (v := .agg #[.int .i64 m.w, .int .i64 m.h, .slice sp n sk]) (some 176) rfl (fun w' hS => by (have c0 := (zf.below hS).cell 0; have c1 := (zf.below hS).cell 1; have c2 := (zf.below hS).cell 2; simp only [List.getElem?_cons_zero, List.getElem?_cons_succ] at c0 c1 c2); go_simp) hS0 ?_
              try simp only [Act.put, List.setIfInBounds_toArray, List.set_cons_zero, List.set_cons_succ]
              refine reg_tk (i := 2) (v := .pointer (some ⟨k0, 3, none⟩)) (some 177) rfl (fun w' hS => by (skip); go_simp) hS0 ?_
              try simp only [Act.put, List.setIfInBounds_toArray, List.set_cons_zero, List.set_cons_succ]
              refine reg_tk (i := 3) (v := .slice lp ln lk) (some 178) rfl (fun w' hS => by (have c3 := (zf.below hS).cell 3; simp only [List.getElem?_cons_zero, List.getElem?_cons_succ] at c3); go_simp) hS0 ?_
              try simp only [Act.put, List.setIfInBounds_toArray, List.set_cons_zero, List.set_cons_succ]
              refine reg_tk (i := 4) (v := .pointer (some ⟨k0, 4, none⟩)) (some 179) rfl (fun w' hS => by (skip); go_simp) hS0 ?_
              try simp only [Act.put, List.setIfInBounds_toArray, List.set_cons_zero, List.set_cons_succ]
              refine reg_tk (i := 5) (v := .int .i64 c) (some 180) rfl (fun w' hS => by (have c4 := (zf.below hS).cell 4; simp only [List.getElem?_cons_zero, List.getElem?_cons_succ] at c4); go_simp) hS0 ?_
              try simp only [Act.put, List.setIfInBounds_toArray, List.set_cons_zero, List.set_cons_succ]
              refine reg_tk (i := 6) (v := .slice (some ⟨gc, 0, none⟩) cn cc) (some 181) rfl (fun w' hS => by (skip); go_simp) hS0 ?_
              try simp only [Act.put, List.setIfInBounds_toArray, List.set_cons_zero, List.set_cons_succ]
              refine reg_tk (i := 7) (v := .int .i64 i) (some 182) rfl (fun w' hS => by (skip); go_simp) hS0 ?_
              try simp only [Act.put, List.setIfInBounds_toArray, List.set_cons_zero, List.set_cons_succ]
              refine reg_tk (i := 8) (v := .pointer (some ⟨gc, i * 2, none⟩)) (some 183) rfl (fun w' hS => by (skip); go_simp) hS0 ?_
              try simp only [Act.put, List.setIfInBounds_toArray, List.set_cons_zero, List.set_cons_succ]
              refine reg_tk (i := 9) (v := .agg #[.int .i64 x.1, .int .i64 x.2]) (some 184) rfl (fun w' hS => by (have c1 := hd0 _ (below_call hv1 hS); have c2 := hd1 _ (below_call hv1 hS)); go_simp) hS0 ?_
              try simp only [Act.put, List.setIfInBounds_toArray, List.set_cons_zero, List.set_cons_succ]
              refine reg_tk (i := 10) (v := .int .i64 2) (some 185) rfl (fun w' hS => by (skip); go_simp) hS0 ?_
              try simp only [Act.put, List.setIfInBounds_toArray, List.set_cons_zero, List.set_cons_succ]
              refine held_one (i := 11) (by kernel_rfl) rfl (fun K hQ => ?_)
              go_simp
              ((with_reducible refine (rcost_b m (.slice sp n sk) bl (.slice lp ln lk) c x.1 x.2 2 bm kw _ hh (hr.below (below_call hW hS0)) (hl.below (below_call hW hS0)) hbm hkw).mono ?_); rintro e w2 ⟨rfl, hb1⟩)
              have hS1 := below_call hS0 hb1
              clear hb1
              refine hQ.out _ _ hS1 ?_
              clear hQ
              try simp only [Act.put, List.setIfInBounds_toArray, List.set_cons_zero, List.set_cons_succ]
              refine reg_tk (i := 12) (v := .tuple #[.int .i64 kw, .bool bm]) (some 174) rfl (fun w' hS => by (skip); go_simp) hS1 ?_
              try simp only [Act.put, List.setIfInBounds_toArray, List.set_cons_zero, List.set_cons_succ]
              refine reg_tk (i := 13) (v := .int .i64 kw) (some 187) rfl (fun w' hS => by (skip); go_simp) hS1 ?_
              try simp only [Act.put, List.setIfInBounds_toArray, List.set_cons_zero, List.set_cons_succ]
              refine reg_tk (i := 14) (v := .bool bm) (some 188) rfl (fun w' hS => by (skip); go_simp) hS1 ?_
              try simp only [Act.put, List.setIfInBounds_toArray, List.set_cons_zero, List.set_cons_succ]
              refine reg_tk (i := 15) (v := .int .i64 kw) (some 19) rfl (fun w' hS => by (skip); go_simp) hS1 ?_
              try simp only [Act.put, List.setIfInBounds_toArray, List.set_cons_zero, List.set_cons_succ]
              refine reg_tk (i := 16) (v := .bool bm) (some 20) rfl (fun w' hS => by (skip); go_simp) hS1 ?_
              try simp only [Act.put, List.setIfInBounds_toArray, List.set_cons_zero, List.set_cons_succ]
              refine wpAnyH_done (by kernel_rfl) ?_ _
              try simp only [onlyN]
              have hv2 := below_call hv1 hS1
              replace zf := zf.below hS1
              replace zr := zr.below hS1
              replace zs := zs.below hS1
              replace hW := below_call hW hS1
              replace zq := zq.below hS1
              clear hS1 hv1
              cases bm with
              | false =>
                have hmx : Tryd.prog.follows .mixedOrders = true := by kernel_rfl
                go_upto_region 23 with fail
                refine wp_onlyN (wp_region_held (S := fun w' => Below w2.heap.size w2 w') hmx ?_)
                show wpAnyH _ _ _ _ _ _ _ _ w2.drew
                have hS0 := (Below.refl w2.heap.size w2).drew
                refine reg_tk (i := 0) (v := .bool false) (some 189) rfl (fun w' hS => by (skip); go_simp) hS0 ?_
                try simp only [Act.put, List.setIfInBounds_toArray, List.set_cons_zero, List.set_cons_succ]
                refine reg_tk (i := 1) (v := .bool false) (some 190) rfl (fun w' hS => by (skip); go_simp) hS0 ?_
                try simp only [Act.put, List.setIfInBounds_toArray, List.set_cons_zero, List.set_cons_succ]
                refine reg_skip (i := 2) (some 191) rfl rfl (by kernel_rfl) (by kernel_rfl) (by kernel_rfl) (fun _ _ _ h => h) (by kernel_rfl) hS0 ?_
                try simp only [Act.put, List.setIfInBounds_toArray, List.set_cons_zero, List.set_cons_succ]
                refine reg_skip (i := 3) (some 192) rfl rfl (by kernel_rfl) (by kernel_rfl) (by kernel_rfl) (fun _ _ _ h => h) (by kernel_rfl) hS0 ?_
                try simp only [Act.put, List.setIfInBounds_toArray, List.set_cons_zero, List.set_cons_succ]
                refine reg_skip (i := 4) (some 193) rfl rfl (by kernel_rfl) (by kernel_rfl) (by kernel_rfl) (fun _ _ _ h => h) (by kernel_rfl) hS0 ?_
                try simp only [Act.put, List.setIfInBounds_toArray, List.set_cons_zero, List.set_cons_succ]
                refine reg_tk (i := 5) (v := .bool false) (some 194) rfl (fun w' hS => by (skip); go_simp) hS0 ?_
                try simp only [Act.put, List.setIfInBounds_toArray, List.set_cons_zero, List.set_cons_succ]
                refine reg_tk (i := 6) (v := .bool false) (some 195) rfl (fun w' hS => by (skip); go_simp) hS0 ?_
                try simp only [Act.put, List.setIfInBounds_toArray, List.set_cons_zero, List.set_cons_succ]
                refine reg_skip (i := 7) (some 196) rfl rfl (by kernel_rfl) (by kernel_rfl) (by kernel_rfl) (fun _ _ _ h => h) (by kernel_rfl) hS0 ?_
                try simp only [Act.put, List.setIfInBounds_toArray, List.set_cons_zero, List.set_cons_succ]
                refine reg_skip (i := 8) (some 197) rfl rfl (by kernel_rfl) (by kernel_rfl) (by kernel_rfl) (fun _ _ _ h => h) (by kernel_rfl) hS0 ?_
                try simp only [Act.put, List.setIfInBounds_toArray, List.set_cons_zero, List.set_cons_succ]
                refine reg_skip (i := 9) (some 198) rfl rfl (by kernel_rfl) (by kernel_rfl) (by kernel_rfl) (fun _ _ _ h => h) (by kernel_rfl) hS0 ?_
                try simp only [Act.put, List.setIfInBounds_toArray, List.set_cons_zero, List.set_cons_succ]
                refine reg_skip (i := 10) (some 199) rfl rfl (by kernel_rfl) (by kernel_rfl) (by kernel_rfl) (fun _ _ _ h => h) (by kernel_rfl) hS0 ?_
                try simp only [Act.put, List.setIfInBounds_toArray, List.set_cons_zero, List.set_cons_succ]
                refine reg_skip (i := 11) (some 200) rfl rfl (by kernel_rfl) (by kernel_rfl) (by kernel_rfl) (fun _ _ _ h => h) (by kernel_rfl) hS0 ?_
                try simp only [Act.put, List.setIfInBounds_toArray, List.set_cons_zero, List.set_cons_succ]
                refine reg_skip (i := 12) (some 201) rfl rfl (by kernel_rfl) (by kernel_rfl) (by kernel_rfl) (fun _ _ _ h => h) (by kernel_rfl) hS0 ?_
                try simp only [Act.put, List.setIfInBounds_toArray, List.set_cons_zero, List.set_cons_succ]
                refine reg_skip (i := 13) (some 202) rfl rfl (by kernel_rfl) (by kernel_rfl) (by kernel_rfl) (fun _ _ _ h => h) (by kernel_rfl) hS0 ?_
                try simp only [Act.put, List.setIfInBounds_toArray, List.set_cons_zero, List.set_cons_succ]
                refine reg_skip (i := 14) (some 203) rfl rfl (by kernel_rfl) (by kernel_rfl) (by kernel_rfl) (fun _ _ _ h => h) (by kernel_rfl) hS0 ?_
                try simp only [Act.put, List.setIfInBounds_toArray, List.set_cons_zero, List.set_cons_succ]
                refine reg_skip (i := 15) (some 204) rfl rfl (by kernel_rfl) (by kernel_rfl) (by kernel_rfl) (fun _ _ _ h => h) (by kernel_rfl) hS0 ?_
                try simp only [Act.put, List.setIfInBounds_toArray, List.set_cons_zero, List.set_cons_succ]
                refine reg_skip (i := 16) (some 205) rfl rfl (by kernel_rfl) (by kernel_rfl) (by kernel_rfl) (fun _ _ _ h => h) (by kernel_rfl) hS0 ?_
                try simp only [Act.put, List.setIfInBounds_toArray, List.set_cons_zero, List.set_cons_succ]
                refine reg_skip (i := 17) (some 206) rfl rfl (by kernel_rfl) (by kernel_rfl) (by kernel_rfl) (fun _ _ _ h => h) (by kernel_rfl) hS0 ?_
                try simp only [Act.put, List.setIfInBounds_toArray, List.set_cons_zero, List.set_cons_succ]
                refine reg_tk (i := 18) (v := .bool false) (some 207) rfl (fun w' hS => by (skip); go_simp) hS0 ?_
                try simp only [Act.put, List.setIfInBounds_toArray, List.set_cons_zero, List.set_cons_succ]
                refine wpAnyH_done (by kernel_rfl) ?_ _
                try simp only [onlyN]
                replace zf := zf.below hS0
                replace zr := zr.below hS0
                replace zs := zs.below hS0
                replace hW := below_call hW hS0
                replace hbV := below_call hbV (below_call hv2 hS0)
                go_wp2_with fail
                have hadd : Value.int .i64 ((i : Int) + 1) = Value.int .i64 ((i + 1 : Nat) : Int) := by push_cast; rfl
                exact ⟨⟨i + 1, hadd, by omega, zf, zr, zs, hW, hbV⟩, hmeas⟩
              | true =>
                cases bi with
                | false =>
                  have hmx : Tryd.prog.follows .mixedOrders = true := by kernel_rfl
                  go_upto_region 23 with fail
                  refine wp_onlyN (wp_region_held (S := fun w' => Below w2.heap.size w2 w') hmx ?_)
                  show wpAnyH _ _ _ _ _ _ _ _ w2.drew
                  have hS0 := (Below.refl w2.heap.size w2).drew
                  refine reg_tk (i := 0) (v := .bool true) (some 189) rfl (fun w' hS => by (skip); go_simp) hS0 ?_
                  try simp only [Act.put, List.setIfInBounds_toArray, List.set_cons_zero, List.set_cons_succ]
                  refine reg_tk (i := 1) (v := .bool true) (some 190) rfl (fun w' hS => by (skip); go_simp) hS0 ?_
                  try simp only [Act.put, List.setIfInBounds_toArray, List.set_cons_zero, List.set_cons_succ]
                  refine reg_tk (i := 2) (v := .agg #[.int .i64 s.x, .int .i64 s.y, .int .i64 s.w, .int .i64 s.h]) (some 191) rfl (fun w' hS => by (have c0 := (zs.below hS).cell 0; have c1 := (zs.below hS).cell 1; have c2 := (zs.below hS).cell 2; have c3 := (zs.below hS).cell 3; simp only [List.getElem?_cons_zero, List.getElem?_cons_succ] at c0 c1 c2 c3); go_simp) hS0 ?_
                  try simp only [Act.put, List.setIfInBounds_toArray, List.set_cons_zero, List.set_cons_succ]
                  refine reg_tk (i := 3) (v := .agg #[.int .i64 qx, .int .i64 qy]) (some 192) rfl (fun w' hS => by (have c0 := (zq.below hS).cell 0; have c1 := (zq.below hS).cell 1; simp only [List.getElem?_cons_zero, List.getElem?_cons_succ] at c0 c1); go_simp) hS0 ?_
                  try simp only [Act.put, List.setIfInBounds_toArray, List.set_cons_zero, List.set_cons_succ]
                  refine held_one (i := 4) (by kernel_rfl) rfl (fun K hQ => ?_)
                  rw [if_pos (show Region.wanted _ _ = true by kernel_rfl)]
                  go_simp
                  ((with_reducible refine (rins_q s (qx, qy) false _ hbi).mono ?_); rintro e w3 ⟨rfl, hb1⟩)
                  have hS1 := below_call hS0 hb1
                  clear hb1
                  refine hQ.out _ _ hS1 ?_
                  clear hQ
                  try simp only [Act.put, List.setIfInBounds_toArray, List.set_cons_zero, List.set_cons_succ]
                  refine reg_tk (i := 5) (v := .bool false) (some 194) rfl (fun w' hS => by (skip); go_simp) hS1 ?_
                  try simp only [Act.put, List.setIfInBounds_toArray, List.set_cons_zero, List.set_cons_succ]
                  refine reg_tk (i := 6) (v := .bool false) (some 195) rfl (fun w' hS => by (skip); go_simp) hS1 ?_
                  try simp only [Act.put, List.setIfInBounds_toArray, List.set_cons_zero, List.set_cons_succ]
                  refine reg_skip (i := 7) (some 196) rfl rfl (by kernel_rfl) (by kernel_rfl) (by kernel_rfl) (fun _ _ _ h => h) (by kernel_rfl) hS1 ?_
                  try simp only [Act.put, List.setIfInBounds_toArray, List.set_cons_zero, List.set_cons_succ]
                  refine reg_skip (i := 8) (some 197) rfl rfl (by kernel_rfl) (by kernel_rfl) (by kernel_rfl) (fun _ _ _ h => h) (by kernel_rfl) hS1 ?_
                  try simp only [Act.put, List.setIfInBounds_toArray, List.set_cons_zero, List.set_cons_succ]
                  refine reg_skip (i := 9) (some 198) rfl rfl (by kernel_rfl) (by kernel_rfl) (by kernel_rfl) (fun _ _ _ h => h) (by kernel_rfl) hS1 ?_
                  try simp only [Act.put, List.setIfInBounds_toArray, List.set_cons_zero, List.set_cons_succ]
                  refine reg_skip (i := 10) (some 199) rfl rfl (by kernel_rfl) (by kernel_rfl) (by kernel_rfl) (fun _ _ _ h => h) (by kernel_rfl) hS1 ?_
                  try simp only [Act.put, List.setIfInBounds_toArray, List.set_cons_zero, List.set_cons_succ]
                  refine reg_skip (i := 11) (some 200) rfl rfl (by kernel_rfl) (by kernel_rfl) (by kernel_rfl) (fun _ _ _ h => h) (by kernel_rfl) hS1 ?_
                  try simp only [Act.put, List.setIfInBounds_toArray, List.set_cons_zero, List.set_cons_succ]
                  refine reg_skip (i := 12) (some 201) rfl rfl (by kernel_rfl) (by kernel_rfl) (by kernel_rfl) (fun _ _ _ h => h) (by kernel_rfl) hS1 ?_
                  try simp only [Act.put, List.setIfInBounds_toArray, List.set_cons_zero, List.set_cons_succ]
                  refine reg_skip (i := 13) (some 202) rfl rfl (by kernel_rfl) (by kernel_rfl) (by kernel_rfl) (fun _ _ _ h => h) (by kernel_rfl) hS1 ?_
                  try simp only [Act.put, List.setIfInBounds_toArray, List.set_cons_zero, List.set_cons_succ]
                  refine reg_skip (i := 14) (some 203) rfl rfl (by kernel_rfl) (by kernel_rfl) (by kernel_rfl) (fun _ _ _ h => h) (by kernel_rfl) hS1 ?_
                  try simp only [Act.put, List.setIfInBounds_toArray, List.set_cons_zero, List.set_cons_succ]
                  refine reg_skip (i := 15) (some 204) rfl rfl (by kernel_rfl) (by kernel_rfl) (by kernel_rfl) (fun _ _ _ h => h) (by kernel_rfl) hS1 ?_
                  try simp only [Act.put, List.setIfInBounds_toArray, List.set_cons_zero, List.set_cons_succ]
                  refine reg_skip (i := 16) (some 205) rfl rfl (by kernel_rfl) (by kernel_rfl) (by kernel_rfl) (fun _ _ _ h => h) (by kernel_rfl) hS1 ?_
                  try simp only [Act.put, List.setIfInBounds_toArray, List.set_cons_zero, List.set_cons_succ]
                  refine reg_skip (i := 17) (some 206) rfl rfl (by kernel_rfl) (by kernel_rfl) (by kernel_rfl) (fun _ _ _ h => h) (by kernel_rfl) hS1 ?_
                  try simp only [Act.put, List.setIfInBounds_toArray, List.set_cons_zero, List.set_cons_succ]
                  refine reg_tk (i := 18) (v := .bool false) (some 207) rfl (fun w' hS => by (skip); go_simp) hS1 ?_
                  try simp only [Act.put, List.setIfInBounds_toArray, List.set_cons_zero, List.set_cons_succ]
                  refine wpAnyH_done (by kernel_rfl) ?_ _
                  try simp only [onlyN]
                  replace zf := zf.below hS1
                  replace zr := zr.below hS1
                  replace zs := zs.below hS1
                  replace hW := below_call hW hS1
                  replace hbV := below_call hbV (below_call hv2 hS1)
                  go_wp2_with fail
                  have hadd : Value.int .i64 ((i : Int) + 1) = Value.int .i64 ((i + 1 : Nat) : Int) := by push_cast; rfl
                  exact ⟨⟨i + 1, hadd, by omega, zf, zr, zs, hW, hbV⟩, hmeas⟩
                | true =>
                  have hex := hjx.out rfl rfl
                  have hmx : Tryd.prog.follows .mixedOrders = true := by kernel_rfl
                  go_upto_region 23 with fail
                  refine wp_onlyN (wp_region_held (S := fun w' => Below w2.heap.size w2 w') hmx ?_)
                  show wpAnyH _ _ _ _ _ _ _ _ w2.drew
                  have hS0 := (Below.refl w2.heap.size w2).drew
                  refine reg_tk (i := 0) (v := .bool true) (some 189) rfl (fun w' hS => by (skip); go_simp) hS0 ?_
                  try simp only [Act.put, List.setIfInBounds_toArray, List.set_cons_zero, List.set_cons_succ]
                  refine reg_tk (i := 1) (v := .bool true) (some 190) rfl (fun w' hS => by (skip); go_simp) hS0 ?_
                  try simp only [Act.put, List.setIfInBounds_toArray, List.set_cons_zero, List.set_cons_succ]
                  refine reg_tk (i := 2) (v := .agg #[.int .i64 s.x, .int .i64 s.y, .int .i64 s.w, .int .i64 s.h]) (some 191) rfl (fun w' hS => by (have c0 := (zs.below hS).cell 0; have c1 := (zs.below hS).cell 1; have c2 := (zs.below hS).cell 2; have c3 := (zs.below hS).cell 3; simp only [List.getElem?_cons_zero, List.getElem?_cons_succ] at c0 c1 c2 c3); go_simp) hS0 ?_
                  try simp only [Act.put, List.setIfInBounds_toArray, List.set_cons_zero, List.set_cons_succ]
                  refine reg_tk (i := 3) (v := .agg #[.int .i64 qx, .int .i64 qy]) (some 192) rfl (fun w' hS => by (have c0 := (zq.below hS).cell 0; have c1 := (zq.below hS).cell 1; simp only [List.getElem?_cons_zero, List.getElem?_cons_succ] at c0 c1); go_simp) hS0 ?_
                  try simp only [Act.put, List.setIfInBounds_toArray, List.set_cons_zero, List.set_cons_succ]
                  refine held_one (i := 4) (by kernel_rfl) rfl (fun K hQ => ?_)
                  rw [if_pos (show Region.wanted _ _ = true by kernel_rfl)]
                  go_simp
                  ((with_reducible refine (rins_q s (qx, qy) true _ hbi).mono ?_); rintro e w3 ⟨rfl, hb1⟩)
                  have hS1 := below_call hS0 hb1
                  clear hb1
                  refine hQ.out _ _ hS1 ?_
                  clear hQ
                  try simp only [Act.put, List.setIfInBounds_toArray, List.set_cons_zero, List.set_cons_succ]
                  refine reg_tk (i := 5) (v := .bool true) (some 194) rfl (fun w' hS => by (skip); go_simp) hS1 ?_
                  try simp only [Act.put, List.setIfInBounds_toArray, List.set_cons_zero, List.set_cons_succ]
                  refine reg_tk (i := 6) (v := .bool true) (some 195) rfl (fun w' hS => by (skip); go_simp) hS1 ?_
                  try simp only [Act.put, List.setIfInBounds_toArray, List.set_cons_zero, List.set_cons_succ]
                  refine reg_tk (i := 7) (v := .agg #[.int .i64 m.w, .int .i64 m.h, .slice sp n sk, .slice lp ln lk, .int .i64 c]) (some 196) rfl (fun w' hS => by (have c0 := (zf.below hS).cell 0; have c1 := (zf.below hS).cell 1; have c2 := (zf.below hS).cell 2; have c3 := (zf.below hS).cell 3; have c4 := (zf.below hS).cell 4; simp only [List.getElem?_cons_zero, List.getElem?_cons_succ] at c0 c1 c2 c3 c4); go_simp) hS1 ?_
                  try simp only [Act.put, List.setIfInBounds_toArray, List.set_cons_zero, List.set_cons_succ]
                  refine reg_tk (i := 8) (v := .int .i64 a) (some 197) rfl (fun w' hS => by (skip); go_simp) hS1 ?_
                  try simp only [Act.put, List.setIfInBounds_toArray, List.set_cons_zero, List.set_cons_succ]
                  refine reg_tk (i := 9) (v := .int .i64 b) (some 198) rfl (fun w' hS => by (skip); go_simp) hS1 ?_
                  try simp only [Act.put, List.setIfInBounds_toArray, List.set_cons_zero, List.set_cons_succ]
                  refine reg_tk (i := 10) (v := .slice (some ⟨gc, 0, none⟩) cn cc) (some 199) rfl (fun w' hS => by (skip); go_simp) hS1 ?_
                  try simp only [Act.put, List.setIfInBounds_toArray, List.set_cons_zero, List.set_cons_succ]
                  refine reg_tk (i := 11) (v := .int .i64 i) (some 200) rfl (fun w' hS => by (skip); go_simp) hS1 ?_
                  try simp only [Act.put, List.setIfInBounds_toArray, List.set_cons_zero, List.set_cons_succ]
                  refine reg_tk (i := 12) (v := .pointer (some ⟨gc, i * 2, none⟩)) (some 201) rfl (fun w' hS => by (skip); go_simp) hS1 ?_
                  try simp only [Act.put, List.setIfInBounds_toArray, List.set_cons_zero, List.set_cons_succ]
                  refine reg_tk (i := 13) (v := .agg #[.int .i64 x.1, .int .i64 x.2]) (some 202) rfl (fun w' hS => by (have c1 := hd0 _ (below_call hv2 hS); have c2 := hd1 _ (below_call hv2 hS)); go_simp) hS1 ?_
                  try simp only [Act.put, List.setIfInBounds_toArray, List.set_cons_zero, List.set_cons_succ]
                  refine reg_tk (i := 14) (v := .agg #[.int .i64 qx, .int .i64 qy]) (some 203) rfl (fun w' hS => by (have c0 := (zq.below hS).cell 0; have c1 := (zq.below hS).cell 1; simp only [List.getElem?_cons_zero, List.getElem?_cons_succ] at c0 c1); go_simp) hS1 ?_
                  try simp only [Act.put, List.setIfInBounds_toArray, List.set_cons_zero, List.set_cons_succ]
                  refine reg_tk (i := 15) (v := .slice pu kn cu) (some 204) rfl (fun w' hS => by (skip); go_simp) hS1 ?_
                  try simp only [Act.put, List.setIfInBounds_toArray, List.set_cons_zero, List.set_cons_succ]
                  refine held_one (i := 16) (by kernel_rfl) rfl (fun K hQ => ?_)
                  rw [if_pos (show Region.wanted _ _ = true by kernel_rfl)]
                  go_simp
                  ((with_reducible refine (cljoined_b m sp n sk bl lp ln lk c a b x (qx, qy) L (.slice pu kn cu) kn _ _ hln hn hnl (hE.keep (below_call hW hS1)) hh (hr.below (below_call hW hS1)) (hl.below (below_call hW hS1)) hkn hk16 (own_below hovr (below_call hv2 hS1)) hex).mono ?_); rintro e w4 ⟨rfl, hb1⟩)
                  have hS2 := below_call hS1 hb1
                  clear hb1
                  refine hQ.out _ _ hS2 ?_
                  clear hQ
                  try simp only [Act.put, List.setIfInBounds_toArray, List.set_cons_zero, List.set_cons_succ]
                  refine reg_tk (i := 17) (v := .bool false) (some 206) rfl (fun w' hS => by (skip); go_simp) hS2 ?_
                  try simp only [Act.put, List.setIfInBounds_toArray, List.set_cons_zero, List.set_cons_succ]
                  refine reg_tk (i := 18) (v := .bool false) (some 207) rfl (fun w' hS => by (skip); go_simp) hS2 ?_
                  try simp only [Act.put, List.setIfInBounds_toArray, List.set_cons_zero, List.set_cons_succ]
                  refine wpAnyH_done (by kernel_rfl) ?_ _
                  try simp only [onlyN]
                  replace zf := zf.below hS2
                  replace zr := zr.below hS2
                  replace zs := zs.below hS2
                  replace hW := below_call hW hS2
                  replace hbV := below_call hbV (below_call hv2 hS2)
                  go_wp2_with fail
                  have hadd : Value.int .i64 ((i : Int) + 1) = Value.int .i64 ((i + 1 : Nat) : Int) := by push_cast; rfl
                  exact ⟨⟨i + 1, hadd, by omega, zf, zr, zs, hW, hbV⟩, hmeas⟩
            · obtain rfl : cn = i := by omega
              have z1 : decide ((cn : Int) < (cn : Int)) = false := decide_eq_false (by omega)
              have caw := ca wr hW
              go_wp2_with fail
              ((with_reducible refine caw.mono ?_); rintro e w9 ⟨rfl, hb9⟩)
              go_wp2_with fail
              go_ret
              exact ⟨rfl, below_call hW hb9⟩

end Go.Proofs.YtpgchjhfhndaaaaDoor
