/-
  What the reference of astar answers: Reach.
-/
import Derived.Test.YtmbadkgeoealoaaDoorAsXd
namespace Go.Proofs.YtmbadkgeoealoaaDoor
open Go.RowKit Go.Lib

/-- What a call made is new. -/
def FreshV (W : World) (v : Value) : Prop := ∀ k, v.ownBlock = some k → W.heap.size ≤ k
theorem valid_formed14 {m : M3} (h : validm m = true) : formedv m = true := by
  unfold validm at h
  simp only [Bool.and_eq_true] at h
  exact h.1
theorem area14 {m : M3} (hf : formedv m = true) : IntKind.i64.wrap (m.w * m.h) = (m.cs.length : Int) := by
  obtain ⟨X, Y, e1, e2, x1, x2, y1, y2, hl, _⟩ := formed_num hf
  have h : X * Y ≤ 32 * 32 := Nat.mul_le_mul x2 y2
  rw [e1, e2, hl, ← Int.natCast_mul]
  exact IntWalk.i64_in _ (by omega)
/-- What Reach gives: least costs, -1 everywhere if the cell is not free, nothing without a map, a class, a cell. -/
structure ReachR (m : M3) (bl : List Bool) (c : Int) (p : Pt) (b : Bool) (E : List Int) : Prop where
  no : b = false → E = []
  yes : b = true → Dst m bl c (idx m p) E
  num : ∀ q, -1 ≤ ga E q ∧ ga E q ≤ 30000
theorem num_nil (q : Nat) : -1 ≤ ga [] q ∧ ga [] q ≤ 30000 := by unfold ga; simp
theorem num_none (n q : Nat) : -1 ≤ ga (List.replicate n (-1)) q ∧ ga (List.replicate n (-1)) q ≤ 30000 := by rw [ga_none]; omega

set_option maxRecDepth 100000 in
set_option maxHeartbeats 8000000 in
theorem r14reach_b (m : M3) (sp : Option Addr) (sn sk : Nat) (bl : List Bool) (lp : Option Addr) (ln lk : Nat) (c : Int) (p : Pt) (b : Bool) (W : World) (hh : HighAt m) (hrow : RowAt W (.slice sp sn sk) m.cs) (hbit : BitsAt W (.slice lp ln lk) bl) (hb : Hid (b = (validm m && classv c && insp m p))) :
    Calls Tryd.prog 22 #[.agg #[.int .i64 m.w, .int .i64 m.h, .slice sp sn sk], .slice lp ln lk, .int .i64 c, .agg #[.int .i64 p.1, .int .i64 p.2]] W fun e w' => ∃ v E, e = .returned v ∧ IntsAt w' v E ∧ Below W.heap.size W w' ∧ FreshV W v ∧ ReachR m bl c p b E := by
  obtain ⟨b1, h1⟩ : ∃ b1, Hid (b1 = validm m) := ⟨_, hid rfl⟩
  obtain ⟨b2, h2⟩ : ∃ b2, Hid (b2 = classv c) := ⟨_, hid rfl⟩
  obtain ⟨b3, h3⟩ : ∃ b3, Hid (b3 = insp m p) := ⟨_, hid rfl⟩
  have hbb : Hid (b = (b1 && b2 && b3)) := hid (by rw [hb.out, h1.out, h2.out, h3.out])
  clear hb
  have hT := Held2.start W [.int .i64 m.w, .int .i64 m.h, .slice sp sn sk] [.int .i64 p.1, .int .i64 p.2] 24 27
  obtain ⟨k0, ek⟩ : ∃ k0, Hid (k0 = W.heap.size) := ⟨_, hid rfl⟩
  obtain ⟨k1, ek1⟩ : ∃ k1, Hid (k1 = W.heap.size + 1) := ⟨_, hid rfl⟩
  go_enter Tryd.func22, Tryd.ntmps22
  go_upto_region 1 with fail
  obtain ⟨X, hX⟩ : ∃ X, X = (W.alloc (.cells [Value.int .i64 m.w, .int .i64 m.h, .slice sp sn sk].toArray 24)).alloc (.cells [Value.int .i64 p.1, .int .i64 p.2].toArray 27) := ⟨_, rfl⟩
  rw [← hX] at hT ⊢
  clear hX
  have zm := hT.l.at ek.out.symm
  have zp := hT.r.at ek1.out.symm
  have hW := hT.old
  rw [← ek1.out]
  rw [← ek.out]
  clear hT
  have m0 := zm.cell 0
  have m1 := zm.cell 1
  have m2 := zm.cell 2
  simp only [List.getElem?_cons_zero, List.getElem?_cons_succ] at m0 m1 m2
  go_wp2_with fail
  ((with_reducible refine (rvalidm_c m (.slice sp sn sk) b1 X (hrow.below hW) h1).mono ?_); rintro e w1 ⟨rfl, hb1⟩)
  replace zm := zm.below hb1
  replace zp := zp.below hb1
  replace hW := below_call hW hb1
  clear hb1 m0 m1 m2
  cases b1 with
  | false =>
    have hbf : b = false := hbb.out
    clear hbb
    go_wp2_with fail
    go_ret
    exact ⟨_, [], rfl, IntsAt.nil _, hW, fun _ h => (by cases h), fun _ => rfl, fun h => (by rw [hbf] at h; cases h), num_nil⟩
  | true =>
    go_wp2_with fail
    ((with_reducible refine (r14class_b c b2 w1 h2).mono ?_); rintro e w2 ⟨rfl, hb2⟩)
    replace zm := zm.below hb2
    replace zp := zp.below hb2
    replace hW := below_call hW hb2
    clear hb2
    cases b2 with
    | false =>
      have hbf : b = false := hbb.out
      clear hbb
      go_wp2_with fail
      go_ret
      exact ⟨_, [], rfl, IntsAt.nil _, hW, fun _ h => (by cases h), fun _ => rfl, fun h => (by rw [hbf] at h; cases h), num_nil⟩
    | true =>
      have m0 := zm.cell 0
      have m1 := zm.cell 1
      have m2 := zm.cell 2
      have p0 := zp.cell 0
      have p1 := zp.cell 1
      simp only [List.getElem?_cons_zero, List.getElem?_cons_succ] at m0 m1 m2 p0 p1
      go_wp2_with fail
      ((with_reducible refine (r14inside_b m (.slice sp sn sk) p b3 w2 h3).mono ?_); rintro e w3 ⟨rfl, hb3⟩)
      replace zm := zm.below hb3
      replace zp := zp.below hb3
      replace hW := below_call hW hb3
      clear hb3 m0 m1 m2 p0 p1
      cases b3 with
      | false =>
        have hbf : b = false := hbb.out
        clear hbb
        go_wp2_with fail
        go_ret
        exact ⟨_, [], rfl, IntsAt.nil _, hW, fun _ h => (by cases h), fun _ => rfl, fun h => (by rw [hbf] at h; cases h), num_nil⟩
      | true =>
        obtain rfl : b = true := hbb.out
        have hv := h1.out.symm
        have hf := valid_formed14 hv
        have hin := h3.out.symm
        obtain ⟨hpi, hil, _⟩ := posn_idx hf hin
        obtain ⟨n, hn⟩ : ∃ n, Hid (m.cs.length = n) := ⟨_, hid rfl⟩
        have hn2 : n ≤ 1024 := by rw [← hn.out]; exact formed_len hf
        have hn1 : 1 ≤ n := by rw [← hn.out]; omega
        have hmul : IntKind.i64.wrap (m.w * m.h) = (n : Int) := by rw [← hn.out]; exact area14 hf
        obtain ⟨i, hi, hix, n3, n4⟩ := r14idx (m := m) (x := p.1) (y := p.2) (by unfold insidev; rw [hf]; exact hin)
        have hidx : idx m p = i := by unfold idx; rw [← hix.out]; rfl
        rw [hn.out] at hi
        obtain ⟨b4, h4⟩ : ∃ b4, Hid (b4 = openv m bl c p.1 p.2) := ⟨_, hid rfl⟩
        have hdst : ∀ E, (b4 = true → IsDist (nb m bl c) n i E) → (b4 = false → E = List.replicate n (-1)) → (∀ q, -1 ≤ ga E q ∧ ga E q ≤ 30000) → ReachR m bl c p true E := by
          intro E e1 e2 e3
          refine ⟨fun h => (by cases h), fun _ => ?_, e3⟩
          unfold Dst
          rw [hpi, ← h4.out, hidx, hn.out]
          cases b4 with
          | true => rw [if_pos rfl]; exact e1 rfl
          | false => rw [if_neg (by decide)]; exact e2 rfl
        have m0 := zm.cell 0
        have m1 := zm.cell 1
        have m2 := zm.cell 2
        have p0 := zp.cell 0
        have p1 := zp.cell 1
        simp only [List.getElem?_cons_zero, List.getElem?_cons_succ] at m0 m1 m2 p0 p1
        clear hbb h3 h2 h1 hv hin hpi hil hix hidx
        go_wp2_with fail
        ((with_reducible refine (r14none_b n w3 hn1 (by omega)).mono ?_); rintro e w4 ⟨g, cap, rfl, hown, hb4⟩)
        have hkg : k0 < g := Nat.lt_of_lt_of_le zm.lt (hown.lt g rfl).1
        replace zm := zm.below hb4
        replace zp := zp.below hb4
        have hW4 := below_call hW hb4
        replace hown := own_base hown hW.size
        clear hb4 m0 m1 m2 p0 p1 hW
        have m0 := zm.cell 0
        have m1 := zm.cell 1
        have m2 := zm.cell 2
        have p0 := zp.cell 0
        have p1 := zp.cell 1
        simp only [List.getElem?_cons_zero, List.getElem?_cons_succ] at m0 m1 m2 p0 p1
        go_wp2_with fail
        ((with_reducible refine (r14free_b m (.slice sp sn sk) bl (.slice lp ln lk) c p b4 w4 (hrow.below hW4) (hbit.below hW4) h4).mono ?_); rintro e w5 ⟨rfl, hb5⟩)
        replace zm := zm.below hb5
        replace zp := zp.below hb5
        have hW5 := below_call hW4 hb5
        replace hown := own_below hown hb5
        clear hb5 m0 m1 m2 p0 p1 hW4
        have hgl := hown.lt g rfl
        cases b4 with
        | false =>
          have hr := hdst (List.replicate n (-1)) (fun h => by cases h) (fun _ => rfl) (num_none n)
          clear hdst h4
          go_wp2_with fail
          go_ret
          exact ⟨_, _, rfl, IntsAt.own hown List.length_replicate (by omega), hW5, fun k hk => (hown.lt k hk).1, hr⟩
        | true =>
          have m0 := zm.cell 0
          have m1 := zm.cell 1
          have m2 := zm.cell 2
          have p0 := zp.cell 0
          have p1 := zp.cell 1
          simp only [List.getElem?_cons_zero, List.getElem?_cons_succ] at m0 m1 m2 p0 p1
          have cI := hown.cellAt i (by omega)
          rw [ints_at (by rw [List.length_replicate]; exact hi), ga_none] at cI
          have fI := hown.frozenAt i
          have i0 : (0 : Int) ≤ (i : Int) := by omega
          have i1 : (i : Int) < (n : Int) := by omega
          have hown6 := (hown.stored i (.int .i64 0)).1
          rw [ints_set] at hown6
          have hW6 := hW5.setCell (p := ⟨g, i, none⟩) hgl.1 (.int .i64 0)
          have zm6 := zm.far (c := g) (i := i) (.int .i64 0) (by omega)
          go_upto_region 7 with fail
          obtain ⟨Y, hY⟩ : ∃ Y, Y = w5.setCell ⟨g, i, none⟩ (.int .i64 0) := ⟨_, rfl⟩
          rw [← hY] at hown6 hW6 zm6 ⊢
          clear hY m0 m1 m2 p0 p1 cI fI zm zp
          have m0 := zm6.cell 0
          have m1 := zm6.cell 1
          have m2 := zm6.cell 2
          simp only [List.getElem?_cons_zero, List.getElem?_cons_succ] at m0 m1 m2
          go_wp2_with fail
          ((with_reducible refine (r14spread_b m sp sn sk bl lp ln lk c i g cap n W Y hf hn hi hh hrow hbit hW6 hown6).mono ?_); rintro e w7 ⟨D, rfl, hD, hown7, hW7, hnum⟩)
          have hr := hdst D (fun _ => hD) (fun h => by cases h) hnum
          have hl := hD.len
          clear hdst h4 hD
          go_wp2_with fail
          go_ret
          exact ⟨_, D, rfl, IntsAt.own hown7 hl (by omega), hW7, fun k hk => (hown7.lt k hk).1, hr⟩

end Go.Proofs.YtmbadkgeoealoaaDoor
