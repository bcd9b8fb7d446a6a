/-
  astar as landed at 35fbd81: Regions.
-/
import Derived.Test.YtbdgpldhfemejaaDoorAsN
namespace Go.Proofs.YtbdgpldhfemejaaDoor
open Go.RowKit Go.Lib Go.Shelf

/-- A cell that units may be on. -/
def opn (m : M3) (bl : List Bool) (c : Int) (i : Nat) : Prop := openv m bl c (posn m i).1 (posn m i).2 = true
theorem conn_open {m : M3} (hf : formedv m = true) (bl : List Bool) (c : Int) (p q : Nat) (h : Conn (nb m bl c) p q) (hne : p ≠ q) : opn m bl c p ∧ opn m bl c q := by
  obtain ⟨w, h⟩ := h
  induction h with
  | here => exact absurd rfl hne
  | step k mm ih =>
    rename_i r t d w
    obtain ⟨hr, x, hx, rfl, _⟩ := mem_nb.1 mm
    have hin := nbp_in hx
    have h2 : opn m bl c (idx m x.1) := by unfold opn; rw [(posn_idx hf hin.1).1]; exact hin.2.2.1
    refine ⟨?_, h2⟩
    by_cases e : p = r
    · rw [e]; exact hin.2.2.2
    · exact (ih e).1
def RegsP (m : M3) (bl : List Bool) (c : Int) (n : Nat) (W : World) (e : Ending) (w' : World) : Prop :=
  ∃ rb R, e = .returned (.slice (some ⟨rb, 0, none⟩) n n) ∧ W.heap.size ≤ rb ∧ Blk w' rb (ints R) 3 ∧ Regs (nb m bl c) m.cs.length (opn m bl c) m.cs.length R ∧ Below W.heap.size W w'

set_option maxRecDepth 100000 in
set_option maxHeartbeats 8000000 in
theorem asregs_b (m : M3) (sp : Option Addr) (sn sk : Nat) (bl : List Bool) (lp : Option Addr) (ln lk : Nat) (c : Int) (n : Nat) (b : Bool) (W : World) (hG : Gd W m (.slice sp sn sk) bl (.slice lp ln lk)) (hn : Hid (m.cs.length = n)) (hb : Hid (b = (validm m && classv c))) :
    Calls Tryd.prog 20 #[.agg #[.int .i64 m.w, .int .i64 m.h, .slice sp sn sk], .slice lp ln lk, .int .i64 c] W fun e w' => (b = false ∧ e = .returned (.slice none 0 0) ∧ Below W.heap.size W w') ∨ (b = true ∧ RegsP m bl c n W e w') := by
  have hK := (((Keep.nil W).alloc [.int .i64 m.w, .int .i64 m.h, .slice sp sn sk] 24)).alloc [.int .i64 m.w, .int .i64 m.h, .slice sp sn sk, .slice lp ln lk, .int .i64 c] 46
  simp only [World.size_alloc] at hK
  go_enter Tryd.func20, Tryd.ntmps20
  go_wp2_with fail
  obtain ⟨X, hX⟩ : ∃ X, X = (W.alloc (.cells [Value.int .i64 m.w, .int .i64 m.h, .slice sp sn sk].toArray 24)).alloc (.cells [Value.int .i64 m.w, .int .i64 m.h, .slice sp sn sk, .slice lp ln lk, .int .i64 c].toArray 46) := ⟨_, rfl⟩
  have hsX : X.heap.size = W.heap.size + 2 := by rw [hX]; simp
  rw [← hX] at hK ⊢
  clear hX
  obtain ⟨k1, e1⟩ : ∃ k1, k1 = W.heap.size + 1 := ⟨_, rfl⟩
  obtain ⟨k0, e0⟩ : ∃ k0, k0 = W.heap.size := ⟨_, rfl⟩
  have z1 : Blk X k1 (grdL m (.slice sp sn sk) (.slice lp ln lk) c) 46 := (hK.blks (W.heap.size + 1, grdL m (.slice sp sn sk) (.slice lp ln lk) c, 46) (by simp)).at e1.symm
  have z0 : Blk X k0 [.int .i64 m.w, .int .i64 m.h, .slice sp sn sk] 24 := (hK.blks (W.heap.size, [.int .i64 m.w, .int .i64 m.h, .slice sp sn sk], 24) (by simp)).at e0.symm
  have hWX := hK.old
  have kk : k0 < k1 ∧ k1 < X.heap.size := by omega
  rw [← e1, ← e0]
  clear hK e1 e0 hsX
  ((with_reducible refine (asvalid_b m (.slice sp sn sk) (.slice lp ln lk) c b X (hG.row.below hWX) hb).mono ?_); rintro e w1 ⟨rfl, hb1⟩)
  replace z1 := z1.below hb1
  replace z0 := z0.below hb1
  have hW1 := below_call hWX hb1
  have hs1 := hb1.size
  have hWs := hW1.size
  clear hb1
  have q0 := z1.cell 0
  have q1 := z1.cell 1
  have q2 := z1.cell 2
  have q3 := z1.cell 3
  have q4 := z1.cell 4
  simp only [List.getElem?_cons_zero, List.getElem?_cons_succ] at q0 q1 q2 q3 q4
  cases b with
  | false =>
    go_wp2_with fail
    go_ret
    exact ⟨rfl, hW1⟩
  | true =>
    have hf := classv_of hb.out.symm
    have hcl := formed_len hf
    have ok := nb_ok hf bl c
    have hfr := conn_open hf bl c
    have h1 : 1 ≤ m.cs.length := by obtain ⟨X0, Y0, _, _, x1, _, y1, _, hl, _⟩ := formed_num hf; rw [hl]; exact Nat.mul_pos (by omega) (by omega)
    have cn := asnumbers_b m (.slice sp sn sk) (.slice lp ln lk) c w1 (hG.row.below hW1) h1 hcl
    rw [hn.out] at cn
    go_wp2_with fail
    ((with_reducible refine cn.mono ?_); rintro e w2 ⟨rb, rfl, hrb, hB, hb2⟩)
    rw [ints_none] at hB
    replace z1 := z1.below hb2
    replace z0 := z0.below hb2
    have hW2 := below_call hW1 hb2
    have hs2 := hb2.size
    have hst : Regs (nb m bl c) m.cs.length (opn m bl c) 0 (List.replicate n (-1)) := by have h := Regs.start (nb := nb m bl c) (n := m.cs.length) (opn m bl c); rw [hn.out] at h ⊢; exact h
    have hsW := hW2.size
    clear q0 q1 q2 q3 q4 cn hb2
    go_upto_region 6 with fail
    go_loopw [22] (fun y w' => ∃ (i : Nat) (R : List Int), y = .int .i64 i ∧ i ≤ n ∧ Regs (nb m bl c) m.cs.length (opn m bl c) i R ∧ Blk w' rb (ints R) 3 ∧ Below W.heap.size W w' ∧ w2.heap.size ≤ w'.heap.size ∧ Blk w' k0 [.int .i64 m.w, .int .i64 m.h, .slice sp sn sk] 24 ∧ Blk w' k1 (grdL m (.slice sp sn sk) (.slice lp ln lk) c) 46) (fun y _ => n - (intOf y).toNat)
    case atStart => exact ⟨0, _, rfl, Nat.zero_le _, hst, hB, hW2, Nat.le_refl _, z0, z1⟩
    case round =>
      clear hst hB z0 z1 hW2
      obtain ⟨i, R, rfl, hi, hR, hB, hWr, hsr, z0, z1⟩ := hrel
      have hnn := hn.out
      by_cases hlt : i < n
      · have hil : i < m.cs.length := by omega
        have hip := idx_posn hf hil
        have ip : (0 : Int) ≤ (i : Int) := by omega
        have ipn : (i : Int) < (n : Int) := by omega
        have z9 : decide ((i : Int) < (n : Int)) = true := decide_eq_true ipn
        have m0 := z0.cell 0
        simp only [List.getElem?_cons_zero] at m0
        have ca := dat_any m.w i wr (by omega)
        clear hnn
        go_upto_region 9 with (go_at_call 41; refine ca.mono ?_; rintro e w3 ⟨rfl, hb3⟩)
        have hX3 := (Below.refl w3.heap.size w3).alloc (Nat.le_refl _) (.cells [Value.int .i64 (atx m.w i), .int .i64 (aty m.w i)].toArray 27)
        have zp := Blk.new w3 (ptL (posn m i)) 27
        have hb4 := below_call hb3 hX3
        have hw3s := hb3.size
        obtain ⟨w4, hw4⟩ : ∃ w4, w4 = w3.alloc (.cells [Value.int .i64 (atx m.w i), .int .i64 (aty m.w i)].toArray 27) := ⟨_, rfl⟩
        have hw4' : w3.alloc (.cells (ptL (posn m i)).toArray 27) = w4 := hw4.symm
        rw [hw4'] at zp
        rw [← hw4] at hb4
        replace z0 := z0.below hb4
        replace z1 := z1.below hb4
        replace hB := hB.below hb4
        have hW4 := below_call hWr hb4
        have hs4 := hb4.size
        have diE := ints_at (D := R) (i := i) (by rw [hR.len]; exact hil)
        obtain ⟨di, hdi⟩ : ∃ di, Hid (di = ga R i) := ⟨_, hid rfl⟩
        rw [← hdi.out] at diE
        have rI := hB.cell i
        rw [diE] at rI
        clear m0 ca hX3 hb3 hb4
        have q0 := z1.cell 0
        have q1 := z1.cell 1
        have q2 := z1.cell 2
        have q3 := z1.cell 3
        have q4 := z1.cell 4
        simp only [List.getElem?_cons_zero, List.getElem?_cons_succ] at q0 q1 q2 q3 q4
        have p0 := zp.cell 0
        have p1 := zp.cell 1
        simp only [List.getElem?_cons_zero, List.getElem?_cons_succ] at p0 p1
        obtain ⟨x, hx⟩ : ∃ x, Hid (x = atx m.w i) := ⟨_, hid rfl⟩
        obtain ⟨y, hy⟩ : ∃ y, Hid (y = aty m.w i) := ⟨_, hid rfl⟩
        have hpx : (posn m i).1 = x := hx.out.symm
        have hpy : (posn m i).2 = y := hy.out.symm
        rw [hpx] at p0
        rw [hpy] at p1
        rw [← hx.out, ← hy.out] at hw4 ⊢
        obtain ⟨bp, hbp⟩ : ∃ bp, bp = w3.heap.size := ⟨_, rfl⟩
        rw [← hbp] at p0 p1 zp ⊢
        rw [← hw4]
        clear hw4 hw4'
        have hbp4 : bp < w4.heap.size := zp.lt
        have hkb : w2.heap.size ≤ bp := by omega
        replace hbp := hid hbp
        have nadd : IntKind.i64.wrap ((i : Int) + 1) = ((i + 1 : Nat) : Int) := by rw [IntWalk.i64_in _ (by omega)]; simp
        by_cases e1 : di = -1
        · have z8 : (di == -1) = true := beq_iff_eq.2 e1
          obtain ⟨fr, hfo⟩ : ∃ fr, Hid (fr = openv m bl c x y) := ⟨_, hid rfl⟩
          have cf := asfree_b m (.slice sp sn sk) bl (.slice lp ln lk) c x y fr w4 (hG.below hW4) hfo
          have hRi : ga R i = -1 := by rw [← hdi.out]; exact e1
          have hfop : Hid (fr = openv m bl c (posn m i).1 (posn m i).2) := hid (by rw [hpx, hpy]; exact hfo.out)
          clear e1
          go_wp2_with fail
          ((with_reducible refine cf.mono ?_); rintro e w5 ⟨rfl, hb5⟩)
          replace z0 := z0.below hb5
          replace z1 := z1.below hb5
          replace zp := zp.below hb5
          replace hB := hB.below hb5
          have hW5 := below_call hW4 hb5
          have hs5 := hb5.size
          clear q0 q1 q2 q3 q4 p0 p1 cf hb5 rI
          have q0 := z1.cell 0
          have q1 := z1.cell 1
          have q2 := z1.cell 2
          have q3 := z1.cell 3
          have q4 := z1.cell 4
          simp only [List.getElem?_cons_zero, List.getElem?_cons_succ] at q0 q1 q2 q3 q4
          have p0 := zp.cell 0
          have p1 := zp.cell 1
          simp only [List.getElem?_cons_zero, List.getElem?_cons_succ] at p0 p1
          rw [hpx] at p0
          rw [hpy] at p1
          cases fr with
          | false =>
            have hnx := hR.skip ok hfr hil (.inr (by unfold opn; rw [← hfop.out]; exact Bool.false_ne_true))
            go_wp2_with fail
            go_roundw
            case rel => exact ⟨i + 1, R, by simp, by omega, hnx, hB, hW5, by omega, z0, z1⟩
            case measure => simp [intOf]; omega
          | true =>
            have cfl := asfill_b m (.slice sp sn sk) bl (.slice lp ln lk) c i rb n R W w5 hG hW5 (by omega) hf hil hn hB hR.len hRi
            rw [hpx, hpy] at cfl
            go_wp2_with fail
            ((with_reducible refine cfl.mono ?_); rintro e w6 ⟨rfl, R', hB', hF', hft⟩)
            have hnx := hF'.over ok hR hfr hil hfop.out.symm hRi
            have y0 := hft.blk z0 (by omega)
            have y1 := hft.blk z1 (by omega)
            have hW6 := hW5.trans (hft.below (fun b hb => by omega) (by omega))
            have hs6 := hft.size
            clear cfl q0 q1 q2 q3 q4 p0 p1 hF'
            go_wp2_with fail
            go_roundw
            case rel => exact ⟨i + 1, R', by simp, by omega, hnx, hB', hW6, by omega, y0, y1⟩
            case measure => simp [intOf]; omega
        · have z8 : (di == -1) = false := beq_eq_false_iff_ne.2 e1
          have hnx := hR.skip ok hfr hil (.inl (by rw [← hdi.out]; exact e1))
          clear e1
          go_wp2_with fail
          go_roundw
          case rel => exact ⟨i + 1, R, by simp, by omega, hnx, hB, hW4, by omega, z0, z1⟩
          case measure => simp [intOf]; omega
      · obtain rfl : i = n := by omega
        have z9 : decide ((i : Int) < (i : Int)) = false := decide_eq_false (by omega)
        rw [← hnn] at hR
        have hfin : RegsP m bl c i W (.returned (.slice (some ⟨rb, 0, none⟩) i i)) wr := ⟨rb, R, rfl, by omega, hB, by rw [← hnn] at *; exact hR, hWr⟩
        clear hnn
        go_wp2_with fail
        go_ret
        exact hfin

end Go.Proofs.YtbdgpldhfemejaaDoor
