/-
  What the functions of astar answer: regions, Path, Reach, Cost.
-/
import Derived.Test.YtpgchjhfhndaaaaGreatDoorAsLandQ
namespace Go.Proofs.YtpgchjhfhndaaaaGreatDoor

section
open Go.RowKit Go.Lib Go.Shelf

attribute [local go_sem] Oper.semAt_some
def FillP (m : M3) (bl : List Bool) (c : Int) (i rb : Nat) (R0 : List Int) (W w' : World) : Prop := ∃ R, Blk w' rb (ints R) 3 ∧ Fill (nb m bl c) m.cs.length i R0 R [] (fun _ => False) ∧ Foot (fun b => b = rb) W (fun b => b = rb) w'

end

section
open Go.RowKit Go.Lib Go.Shelf

theorem own_le2 {w : World} {B B' size n : Nat} {e : TypeId} {v : Value} {xs : List Value} (h : w.ownsRow B e size v n xs) (hb : B' ≤ B) : w.ownsRow B' e size v n xs :=
  ⟨h.1, h.2.imp id fun ⟨g, cap, cur, e, hB, rest⟩ => ⟨g, cap, cur, e, Nat.le_trans hb hB, rest⟩⟩
theorem classv_of {m : M3} {c : Int} (h : (validm m && classv c) = true) : formedv m = true := by
  unfold validm at h
  simp only [Bool.and_eq_true] at h
  exact h.1.1
/-- The costs from a position inside. -/
theorem ascosts_at (m : M3) (s : Value) (bl : List Bool) (l : Value) (c x y : Int) (n : Nat) (W : World) (hG : Gd W m s bl l) (hf : formedv m = true) (hi : insp m (x, y) = true) (hn : Hid (m.cs.length = n)) :
    Calls Tryz.prog 74 #[.agg #[.int .i64 m.w, .int .i64 m.h, s, l, .int .i64 c], .agg #[.int .i64 x, .int .i64 y]] W (CostsP m bl c (idx m (x, y)) n W) := by
  have hp := posn_idx hf hi
  have h := ascosts_b m s bl l c (idx m (x, y)) n W hG hf hp.2.1 hn
  rw [hp.1] at h
  exact h

set_option maxHeartbeats 2000000 in
theorem asreach_b (m : M3) (sp : Option Addr) (sn sk : Nat) (bl : List Bool) (lp : Option Addr) (ln lk : Nat) (c x y : Int) (b : Bool) (n : Nat) (W : World) (hG : Gd W m (.slice sp sn sk) bl (.slice lp ln lk)) (hn : Hid (m.cs.length = n)) (hb : Hid (b = (validm m && classv c && insp m (x, y)))) :
    Calls Tryz.prog 41 #[.agg #[.int .i64 m.w, .int .i64 m.h, .slice sp sn sk], .slice lp ln lk, .int .i64 c, .agg #[.int .i64 x, .int .i64 y]] W fun e w' => (b = false ∧ e = .returned (.slice none 0 0) ∧ Below W.heap.size W w') ∨ (b = true ∧ CostsP m bl c (idx m (x, y)) n W e w') := by
  obtain ⟨b1, h1⟩ : ∃ b1, Hid (b1 = (validm m && classv c)) := ⟨_, hid rfl⟩
  obtain ⟨b2, h2⟩ : ∃ b2, Hid (b2 = insp m (x, y)) := ⟨_, hid rfl⟩
  have hbb : Hid (b = (b1 && b2)) := hid (by rw [hb.out, h1.out, h2.out])
  clear hb
  have hK := (((Keep.nil W).alloc [.int .i64 m.w, .int .i64 m.h, .slice sp sn sk] 24).alloc [.int .i64 x, .int .i64 y] 29).alloc [.int .i64 m.w, .int .i64 m.h, .slice sp sn sk, .slice lp ln lk, .int .i64 c] 124
  simp only [World.size_alloc] at hK
  go_enter Tryz.func41, Tryz.ntmps41
  go_wp2_with fail
  obtain ⟨X, hX⟩ : ∃ X, X = ((W.alloc (.cells [Value.int .i64 m.w, .int .i64 m.h, .slice sp sn sk].toArray 24)).alloc (.cells [Value.int .i64 x, .int .i64 y].toArray 29)).alloc (.cells [Value.int .i64 m.w, .int .i64 m.h, .slice sp sn sk, .slice lp ln lk, .int .i64 c].toArray 124) := ⟨_, rfl⟩
  rw [← hX] at hK ⊢
  clear hX
  obtain ⟨k2, e2⟩ : ∃ k2, k2 = W.heap.size + 1 + 1 := ⟨_, rfl⟩
  obtain ⟨k1, e1⟩ : ∃ k1, k1 = W.heap.size + 1 := ⟨_, rfl⟩
  have z2 : Blk X k2 (grdL m (.slice sp sn sk) (.slice lp ln lk) c) 124 := (hK.blks (W.heap.size + 1 + 1, grdL m (.slice sp sn sk) (.slice lp ln lk) c, 124) (by simp)).at e2.symm
  have z1 : Blk X k1 (ptL (x, y)) 29 := (hK.blks (W.heap.size + 1, ptL (x, y), 29) (by simp)).at e1.symm
  have hWX := hK.old
  rw [← e2, ← e1]
  clear hK e1 e2
  ((with_reducible refine (asvalid_b m (.slice sp sn sk) (.slice lp ln lk) c b1 X (hG.row.below hWX) h1).mono ?_); rintro e w1 ⟨rfl, hb1⟩)
  replace z1 := z1.below hb1
  replace z2 := z2.below hb1
  have hW1 := below_call hWX hb1
  clear hb1
  have p0 := z1.cell 0
  have p1 := z1.cell 1
  simp only [List.getElem?_cons_zero, List.getElem?_cons_succ] at p0 p1
  have q0 := z2.cell 0
  have q1 := z2.cell 1
  have q2 := z2.cell 2
  have q3 := z2.cell 3
  have q4 := z2.cell 4
  simp only [List.getElem?_cons_zero, List.getElem?_cons_succ] at q0 q1 q2 q3 q4
  cases b1 with
  | false =>
    have hbf : b = false := hbb.out
    clear hbb
    go_wp2_with fail
    go_ret
    exact .inl ⟨hbf, rfl, hW1⟩
  | true =>
    have hf := classv_of h1.out.symm
    go_wp2_with fail
    ((with_reducible refine (asinside_b m (.slice sp sn sk) (.slice lp ln lk) c x y b2 w1 h2).mono ?_); rintro e w2 ⟨rfl, hb2⟩)
    replace z1 := z1.below hb2
    replace z2 := z2.below hb2
    have hW2 := below_call hW1 hb2
    clear p0 p1 q0 q1 q2 q3 q4 hb2
    have p0 := z1.cell 0
    have p1 := z1.cell 1
    simp only [List.getElem?_cons_zero, List.getElem?_cons_succ] at p0 p1
    have q0 := z2.cell 0
    have q1 := z2.cell 1
    have q2 := z2.cell 2
    have q3 := z2.cell 3
    have q4 := z2.cell 4
    simp only [List.getElem?_cons_zero, List.getElem?_cons_succ] at q0 q1 q2 q3 q4
    cases b2 with
    | false =>
      have hbf : b = false := hbb.out
      clear hbb
      go_wp2_with fail
      go_ret
      exact .inl ⟨hbf, rfl, hW2⟩
    | true =>
      have hbf : b = true := hbb.out
      clear hbb
      have cc := ascosts_at m (.slice sp sn sk) bl (.slice lp ln lk) c x y n w2 (hG.below hW2) hf h2.out.symm hn
      go_wp2_with fail
      ((with_reducible refine cc.mono ?_); rintro e w3 ⟨cb, D, rfl, k3, k4, k5, k6, k7⟩)
      clear cc
      have hs2 := hW2.size
      go_wp2_with fail
      go_ret
      exact .inr ⟨hbf, cb, D, rfl, by omega, k4, k5, k6, below_call hW2 k7⟩

/-- What Path answers. -/
inductive PathA (m : M3) (bl : List Bool) (c : Int) (a b : Pt) (W : World) : Ending → World → Prop
  | arg {w' : World} : (validm m && classv c && insp m a && insp m b) = false → PathA m bl c a b W (.returned (.tuple #[.slice none 0 0, .int .i64 0, .int .i64 1])) w'
  | blocked {w' : World} : (validm m && classv c && insp m a && insp m b) = true → (openv m bl c a.1 a.2 && openv m bl c b.1 b.2) = false → PathA m bl c a b W (.returned (.tuple #[.slice none 0 0, .int .i64 0, .int .i64 9])) w'
  | none {w' : World} (D : List Int) : (validm m && classv c && insp m a && insp m b) = true → (openv m bl c a.1 a.2 && openv m bl c b.1 b.2) = true → IsDist (nb m bl c) m.cs.length (idx m b) D → ga D (idx m a) = -1 → PathA m bl c a b W (.returned (.tuple #[.slice none 0 0, .int .i64 0, .int .i64 22])) w'
  | way {w' : World} (D : List Int) (v : Value) : (validm m && classv c && insp m a && insp m b) = true → (openv m bl c a.1 a.2 && openv m bl c b.1 b.2) = true → IsDist (nb m bl c) m.cs.length (idx m b) D → 0 ≤ ga D (idx m a) → (∀ q, -1 ≤ ga D q ∧ ga D q ≤ 30000) →
    w'.ownsRow W.heap.size 29 2 v (pathG (nb m bl c) D (idx m a)).length (pls m (pathG (nb m bl c) D (idx m a))) → PathA m bl c a b W (.returned (.tuple #[v, .int .i64 (ga D (idx m a)), .int .i64 0])) w'

set_option maxRecDepth 100000 in
set_option maxHeartbeats 4000000 in
theorem aspath_b (m : M3) (sp : Option Addr) (sn sk : Nat) (bl : List Bool) (lp : Option Addr) (ln lk : Nat) (c x y x2 y2 : Int) (W : World) (hG : Gd W m (.slice sp sn sk) bl (.slice lp ln lk)) :
    Calls Tryz.prog 28 #[.agg #[.int .i64 m.w, .int .i64 m.h, .slice sp sn sk], .slice lp ln lk, .int .i64 c, .agg #[.int .i64 x, .int .i64 y], .agg #[.int .i64 x2, .int .i64 y2]] W fun e w' => Below W.heap.size W w' ∧ PathA m bl c (x, y) (x2, y2) W e w' := by
  obtain ⟨n, hn⟩ : ∃ n, Hid (m.cs.length = n) := ⟨_, hid rfl⟩
  obtain ⟨b1, h1⟩ : ∃ b1, Hid (b1 = (validm m && classv c)) := ⟨_, hid rfl⟩
  obtain ⟨b2, h2⟩ : ∃ b2, Hid (b2 = insp m (x, y)) := ⟨_, hid rfl⟩
  obtain ⟨b3, h3⟩ : ∃ b3, Hid (b3 = insp m (x2, y2)) := ⟨_, hid rfl⟩
  obtain ⟨b4, h4⟩ : ∃ b4, Hid (b4 = openv m bl c x y) := ⟨_, hid rfl⟩
  obtain ⟨b5, h5⟩ : ∃ b5, Hid (b5 = openv m bl c x2 y2) := ⟨_, hid rfl⟩
  have hA : Hid ((validm m && classv c && insp m (x, y) && insp m (x2, y2)) = (b1 && b2 && b3)) := hid (by rw [h1.out, h2.out, h3.out])
  have hO : Hid ((openv m bl c x y && openv m bl c x2 y2) = (b4 && b5)) := hid (by rw [h4.out, h5.out])
  have hK := ((((Keep.nil W).alloc [.int .i64 m.w, .int .i64 m.h, .slice sp sn sk] 24).alloc [.int .i64 x, .int .i64 y] 29).alloc [.int .i64 x2, .int .i64 y2] 29).alloc [.int .i64 m.w, .int .i64 m.h, .slice sp sn sk, .slice lp ln lk, .int .i64 c] 124
  simp only [World.size_alloc] at hK
  go_enter Tryz.func28, Tryz.ntmps28
  go_wp2_with fail
  obtain ⟨X, hX⟩ : ∃ X, X = (((W.alloc (.cells [Value.int .i64 m.w, .int .i64 m.h, .slice sp sn sk].toArray 24)).alloc (.cells [Value.int .i64 x, .int .i64 y].toArray 29)).alloc (.cells [Value.int .i64 x2, .int .i64 y2].toArray 29)).alloc (.cells [Value.int .i64 m.w, .int .i64 m.h, .slice sp sn sk, .slice lp ln lk, .int .i64 c].toArray 124) := ⟨_, rfl⟩
  rw [← hX] at hK ⊢
  clear hX
  obtain ⟨k3, e3⟩ : ∃ k3, k3 = W.heap.size + 1 + 1 + 1 := ⟨_, rfl⟩
  obtain ⟨k2, e2⟩ : ∃ k2, k2 = W.heap.size + 1 + 1 := ⟨_, rfl⟩
  obtain ⟨k1, e1⟩ : ∃ k1, k1 = W.heap.size + 1 := ⟨_, rfl⟩
  have z3 : Blk X k3 (grdL m (.slice sp sn sk) (.slice lp ln lk) c) 124 := (hK.blks (W.heap.size + 1 + 1 + 1, grdL m (.slice sp sn sk) (.slice lp ln lk) c, 124) (by simp)).at e3.symm
  have z2 : Blk X k2 (ptL (x2, y2)) 29 := (hK.blks (W.heap.size + 1 + 1, ptL (x2, y2), 29) (by simp)).at e2.symm
  have z1 : Blk X k1 (ptL (x, y)) 29 := (hK.blks (W.heap.size + 1, ptL (x, y), 29) (by simp)).at e1.symm
  have hWX := hK.old
  rw [← e3, ← e2, ← e1]
  clear hK e1 e2 e3
  ((with_reducible refine (asvalid_b m (.slice sp sn sk) (.slice lp ln lk) c b1 X (hG.row.below hWX) h1).mono ?_); rintro e w1 ⟨rfl, hb1⟩)
  replace z1 := z1.below hb1
  replace z2 := z2.below hb1
  replace z3 := z3.below hb1
  have hW1 := below_call hWX hb1
  have hb1K := hid hb1
  clear hb1
  have p0 := z1.cell 0
  have p1 := z1.cell 1
  simp only [List.getElem?_cons_zero, List.getElem?_cons_succ] at p0 p1
  have r0 := z2.cell 0
  have r1 := z2.cell 1
  simp only [List.getElem?_cons_zero, List.getElem?_cons_succ] at r0 r1
  have q0 := z3.cell 0
  have q1 := z3.cell 1
  have q2 := z3.cell 2
  have q3 := z3.cell 3
  have q4 := z3.cell 4
  simp only [List.getElem?_cons_zero, List.getElem?_cons_succ] at q0 q1 q2 q3 q4
  cases b1 with
  | false =>
    have hAf := hA.out
    simp only [Bool.false_and] at hAf
    clear hA hO
    go_wp2_with fail
    go_ret3
    exact ⟨hW1, .arg hAf⟩
  | true =>
    have hf := classv_of h1.out.symm
    go_wp2_with fail
    ((with_reducible refine (asinside_b m (.slice sp sn sk) (.slice lp ln lk) c x y b2 w1 h2).mono ?_); rintro e w2 ⟨rfl, hb2⟩)
    clear p0 p1 r0 r1 q0 q1 q2 q3 q4
    replace z1 := z1.below hb2
    replace z2 := z2.below hb2
    replace z3 := z3.below hb2
    have hW2 := below_call hW1 hb2
    have hb2K := hid hb2
    clear hb2
    have p0 := z1.cell 0
    have p1 := z1.cell 1
    simp only [List.getElem?_cons_zero, List.getElem?_cons_succ] at p0 p1
    have r0 := z2.cell 0
    have r1 := z2.cell 1
    simp only [List.getElem?_cons_zero, List.getElem?_cons_succ] at r0 r1
    have q0 := z3.cell 0
    have q1 := z3.cell 1
    have q2 := z3.cell 2
    have q3 := z3.cell 3
    have q4 := z3.cell 4
    simp only [List.getElem?_cons_zero, List.getElem?_cons_succ] at q0 q1 q2 q3 q4
    cases b2 with
    | false =>
      have hAf := hA.out
      simp only [Bool.false_and, Bool.and_false] at hAf
      clear hA hO
      go_wp2_with fail
      go_ret3
      exact ⟨hW2, .arg hAf⟩
    | true =>
      go_wp2_with fail
      ((with_reducible refine (asinside_b m (.slice sp sn sk) (.slice lp ln lk) c x2 y2 b3 w2 h3).mono ?_); rintro e w3 ⟨rfl, hb3⟩)
      clear p0 p1 r0 r1 q0 q1 q2 q3 q4
      replace z1 := z1.below hb3
      replace z2 := z2.below hb3
      replace z3 := z3.below hb3
      have hW3 := below_call hW2 hb3
      have hb3K := hid hb3
      clear hb3
      have p0 := z1.cell 0
      have p1 := z1.cell 1
      simp only [List.getElem?_cons_zero, List.getElem?_cons_succ] at p0 p1
      have r0 := z2.cell 0
      have r1 := z2.cell 1
      simp only [List.getElem?_cons_zero, List.getElem?_cons_succ] at r0 r1
      have q0 := z3.cell 0
      have q1 := z3.cell 1
      have q2 := z3.cell 2
      have q3 := z3.cell 3
      have q4 := z3.cell 4
      simp only [List.getElem?_cons_zero, List.getElem?_cons_succ] at q0 q1 q2 q3 q4
      cases b3 with
      | false =>
        have hAf := hA.out
        simp only [Bool.and_false] at hAf
        clear hA hO
        go_wp2_with fail
        go_ret3
        exact ⟨hW3, .arg hAf⟩
      | true =>
        have hAt := hA.out
        simp only [Bool.and_self] at hAt
        clear hA
        replace hAt := hid hAt
        go_wp2_with fail
        ((with_reducible refine (asfree_b m (.slice sp sn sk) bl (.slice lp ln lk) c x y b4 w3 (hG.below hW3) h4).mono ?_); rintro e w4 ⟨rfl, hb4⟩)
        clear p0 p1 r0 r1 q0 q1 q2 q3 q4
        replace z1 := z1.below hb4
        replace z2 := z2.below hb4
        replace z3 := z3.below hb4
        have hW4 := below_call hW3 hb4
        have hb4K := hid hb4
        clear hb4
        have p0 := z1.cell 0
        have p1 := z1.cell 1
        simp only [List.getElem?_cons_zero, List.getElem?_cons_succ] at p0 p1
        have r0 := z2.cell 0
        have r1 := z2.cell 1
        simp only [List.getElem?_cons_zero, List.getElem?_cons_succ] at r0 r1
        have q0 := z3.cell 0
        have q1 := z3.cell 1
        have q2 := z3.cell 2
        have q3 := z3.cell 3
        have q4 := z3.cell 4
        simp only [List.getElem?_cons_zero, List.getElem?_cons_succ] at q0 q1 q2 q3 q4
        cases b4 with
        | false =>
          have hOf := hO.out
          simp only [Bool.false_and] at hOf
          clear hO
          go_wp2_with fail
          go_ret3
          exact ⟨hW4, .blocked hAt.out hOf⟩
        | true =>
          go_wp2_with fail
          ((with_reducible refine (asfree_b m (.slice sp sn sk) bl (.slice lp ln lk) c x2 y2 b5 w4 (hG.below hW4) h5).mono ?_); rintro e w5 ⟨rfl, hb5⟩)
          clear p0 p1 r0 r1 q0 q1 q2 q3 q4
          replace z1 := z1.below hb5
          replace z2 := z2.below hb5
          replace z3 := z3.below hb5
          have hW5 := below_call hW4 hb5
          have hb5K := hid hb5
          clear hb5
          have p0 := z1.cell 0
          have p1 := z1.cell 1
          simp only [List.getElem?_cons_zero, List.getElem?_cons_succ] at p0 p1
          have r0 := z2.cell 0
          have r1 := z2.cell 1
          simp only [List.getElem?_cons_zero, List.getElem?_cons_succ] at r0 r1
          have q0 := z3.cell 0
          have q1 := z3.cell 1
          have q2 := z3.cell 2
          have q3 := z3.cell 3
          have q4 := z3.cell 4
          simp only [List.getElem?_cons_zero, List.getElem?_cons_succ] at q0 q1 q2 q3 q4
          cases b5 with
          | false =>
            have hOf := hO.out
            simp only [Bool.and_false] at hOf
            clear hO
            go_wp2_with fail
            go_ret3
            exact ⟨hW5, .blocked hAt.out hOf⟩
          | true =>
            have hOt := hO.out
            simp only [Bool.and_self] at hOt
            clear hO
            replace hOt := hid hOt
            have hp1 := posn_idx hf h2.out.symm
            have hp2 := posn_idx hf h3.out.symm
            have cc := ascosts_at m (.slice sp sn sk) bl (.slice lp ln lk) c x2 y2 n w5 (hG.below hW5) hf h3.out.symm hn
            go_wp2_with fail
            ((with_reducible refine cc.mono ?_); rintro e w6 ⟨cb, D, rfl, j1, j2, j3, j4, hb6⟩)
            clear cc
            clear p0 p1 r0 r1 q0 q1 q2 q3 q4
            replace z1 := z1.below hb6
            replace z2 := z2.below hb6
            replace z3 := z3.below hb6
            have hW6 := below_call hW5 hb6
            have hb6K := hid hb6
            clear hb6
            have p0 := z1.cell 0
            have p1 := z1.cell 1
            simp only [List.getElem?_cons_zero, List.getElem?_cons_succ] at p0 p1
            have r0 := z2.cell 0
            have r1 := z2.cell 1
            simp only [List.getElem?_cons_zero, List.getElem?_cons_succ] at r0 r1
            have q0 := z3.cell 0
            have q1 := z3.cell 1
            have q2 := z3.cell 2
            have q3 := z3.cell 3
            have q4 := z3.cell 4
            simp only [List.getElem?_cons_zero, List.getElem?_cons_succ] at q0 q1 q2 q3 q4
            unfold Dst at j3
            rw [hp2.1, if_pos h5.out.symm] at j3
            obtain ⟨ia, hia⟩ : ∃ ia, Hid (ia = idx m (x, y)) := ⟨_, hid rfl⟩
            have hil : ia < D.length := by rw [j3.len, hia.out]; exact hp1.2.1
            have dI := ints_at hil
            obtain ⟨da, hda⟩ : ∃ da, Hid (da = ga D ia) := ⟨_, hid rfl⟩
            rw [← hda.out] at dI
            have ipn : (ia : Int) < (n : Int) := by have := hn.out; have := j3.len; omega
            have ip : (0 : Int) ≤ (ia : Int) := by omega
            have ck := asidx_b m (.slice sp sn sk) (.slice lp ln lk) c (x, y) ia w6 hf h2.out.symm hia
            have hs5 := hW5.size
            go_wp2_with fail
            ((with_reducible refine ck.mono ?_); rintro e w7 ⟨rfl, hb7⟩)
            clear ck
            clear p0 p1 r0 r1 q0 q1 q2 q3 q4
            replace z1 := z1.below hb7
            replace z2 := z2.below hb7
            replace z3 := z3.below hb7
            have hW7 := below_call hW6 hb7
            have hb7K := hid hb7
            clear hb7
            have p0 := z1.cell 0
            have p1 := z1.cell 1
            simp only [List.getElem?_cons_zero, List.getElem?_cons_succ] at p0 p1
            have r0 := z2.cell 0
            have r1 := z2.cell 1
            simp only [List.getElem?_cons_zero, List.getElem?_cons_succ] at r0 r1
            have q0 := z3.cell 0
            have q1 := z3.cell 1
            have q2 := z3.cell 2
            have q3 := z3.cell 3
            have q4 := z3.cell 4
            simp only [List.getElem?_cons_zero, List.getElem?_cons_succ] at q0 q1 q2 q3 q4
            have dI2 := (j2.below hb7K.out).cell ia
            rw [dI] at dI2
            by_cases e1 : da = -1
            · have z9 : (da == -1) = true := beq_iff_eq.2 e1
              have hda1 : ga D (idx m (x, y)) = -1 := by rw [← hia.out, ← hda.out]; exact e1
              clear e1
              go_wp2_with fail
              go_ret3
              exact ⟨hW7, .none D hAt.out hOt.out j3 hda1⟩
            · have z9 : (da == -1) = false := beq_eq_false_iff_ne.2 e1
              have hda1 : 0 ≤ ga D (idx m (x, y)) := by have := (j4 (idx m (x, y))).1; have h9 := hda.out; rw [hia.out] at h9; omega
              have hde : da = ga D (idx m (x, y)) := by rw [hda.out, hia.out]
              have cd := asdesc_b m (.slice sp sn sk) bl (.slice lp ln lk) c (idx m (x, y)) (idx m (x2, y2)) cb n D w7 (hG.below hW7) hf hp1.2.1 hp2.2.1 hn (j2.below hb7K.out) j3 hda1 j4
              rw [hp1.1] at cd
              replace hde := hid hde
              clear e1
              go_wp2_with fail
              ((with_reducible refine cd.mono ?_); rintro e w8 ⟨v8, rfl, r1, r2⟩)
              clear cd
              have hs7 := hW7.size
              go_wp2_with fail
              go_ret3
              rw [hde.out]
              exact ⟨below_call hW7 r2, .way D v8 hAt.out hOt.out j3 hda1 j4 (own_le2 r1 hs7)⟩

end

section
open Go.RowKit Go.Lib Go.Shelf

/-- A cell that units may be on. -/
def opn (m : M3) (bl : List Bool) (c : Int) (i : Nat) : Prop := openv m bl c (posn m i).1 (posn m i).2 = true
theorem conn_open {m : M3} (hf : formedv m = true) (bl : List Bool) (c : Int) (p q : Nat) (h : Conn (nb m bl c) p q) (hne : p ≠ q) : opn m bl c p ∧ opn m bl c q := by
  obtain ⟨w, h⟩ := h
  induction h with
  | here => exact absurd rfl hne
  | step k mm ih =>
    rename_i r t d w
    obtain ⟨hr, x, hx, rfl, _⟩ := mem_nb.1 mm
    have hin := nbp_in hx
    have h2 : opn m bl c (idx m x.1) := by unfold opn; rw [(posn_idx hf hin.1).1]; exact hin.2.2.1
    refine ⟨?_, h2⟩
    by_cases e : p = r
    · rw [e]; exact hin.2.2.2
    · exact (ih e).1
def RegsP (m : M3) (bl : List Bool) (c : Int) (n : Nat) (W : World) (e : Ending) (w' : World) : Prop :=
  ∃ rb R, e = .returned (.slice (some ⟨rb, 0, none⟩) n n) ∧ W.heap.size ≤ rb ∧ Blk w' rb (ints R) 3 ∧ Regs (nb m bl c) m.cs.length (opn m bl c) m.cs.length R ∧ Below W.heap.size W w'

end

section
open Go.RowKit Go.Lib Go.Shelf

/-- A slice of positions that can be read. -/
def PsAt (W : World) (s : Value) (l : List Pt) : Prop :=
  ∃ p c, s = .slice p l.length c ∧ l.length ≤ c ∧ l.length ≤ maxLen ∧ (1 ≤ l.length → ∃ g o, p = some ⟨g, o, none⟩ ∧ g < W.heap.size ∧ ∀ i, (h : i < l.length) → W.cell? ⟨g, o + i * 2, none⟩ = some (.int .i64 (l[i]'h).1) ∧ W.cell? ⟨g, o + i * 2 + 1, none⟩ = some (.int .i64 (l[i]'h).2))
theorem PsAt.below {W w' : World} {s : Value} {l : List Pt} (h : PsAt W s l) (hb : Below W.heap.size W w') : PsAt w' s l := by
  obtain ⟨p, c, rfl, hc1, hm, hc⟩ := h
  refine ⟨p, c, rfl, hc1, hm, fun h1 => ?_⟩
  obtain ⟨g, o, rfl, hg, hi⟩ := hc h1
  refine ⟨g, o, rfl, Nat.lt_of_lt_of_le hg hb.size, fun i hi' => ?_⟩
  obtain ⟨a, b⟩ := hi i hi'
  exact ⟨(hb.cell (p := ⟨g, o + i * 2, none⟩) hg).trans a, (hb.cell (p := ⟨g, o + i * 2 + 1, none⟩) hg).trans b⟩
theorem PsAt.any {w : World} {B n : Nat} {v : Value} {m : M3} {F : List Nat} (h : w.ownsRow B 29 2 v n (pls m F)) (hn : F.length = n) : PsAt w v (F.map (posn m)) := by
  subst hn
  rcases id h.2 with ⟨rfl, h0⟩ | ⟨g, cap, cur, rfl, _, _, hc1, hc2, _⟩
  · have : F = [] := List.eq_nil_of_length_eq_zero h0
    subst this
    exact ⟨none, 0, rfl, Nat.zero_le _, Nat.zero_le _, fun h => by simp at h⟩
  · refine ⟨some ⟨g, 0, none⟩, cap, by rw [List.length_map], by rw [List.length_map]; exact hc1, by rw [List.length_map]; omega, fun _ => ⟨g, 0, rfl, (h.lt g rfl).2, fun i hi => ?_⟩⟩
    have hi2 : i < F.length := by rw [List.length_map] at hi; exact hi
    have pj := pcells_at (F.map (posn m)) i hi
    rw [Nat.mul_comm 2 i] at pj
    rw [Nat.zero_add]
    exact ⟨(h.cellAt (i * 2) (by omega)).trans pj.1, (h.cellAt (i * 2 + 1) (by omega)).trans pj.2⟩

set_option maxHeartbeats 2000000 in
theorem asclos_b (m : M3) (s l : Value) (c x y : Int) (k : Nat) (b : Bool) (W : World) (hg : Blk W k (grdL m s l c) 124) (e : Hid (b = insp m (x, y))) :
    Calls Tryz.prog 128 #[.agg #[.int .i64 x, .int .i64 y], .pointer (some ⟨k, 0, none⟩)] W fun e w' => e = .returned (.bool (!b)) ∧ Below W.heap.size W w' := by
  have hT := Held1.start W [.int .i64 x, .int .i64 y] 29
  have hg2 := hg.below hT.old
  have q0 := hg2.cell 0
  have q1 := hg2.cell 1
  have q2 := hg2.cell 2
  have q3 := hg2.cell 3
  have q4 := hg2.cell 4
  simp only [List.getElem?_cons_zero, List.getElem?_cons_succ] at q0 q1 q2 q3 q4
  go_enter Tryz.func128, Tryz.ntmps128
  go_upto_region 1 with fail
  obtain ⟨X, hX⟩ : ∃ X, X = W.alloc (.cells [Value.int .i64 x, .int .i64 y].toArray 29) := ⟨_, rfl⟩
  rw [← hX] at hT hg2 q0 q1 q2 q3 q4 ⊢
  have p0 := hT.l.cell 0
  have p1 := hT.l.cell 1
  simp only [List.getElem?_cons_zero, List.getElem?_cons_succ] at p0 p1
  clear hX
  have ci := asinside_b m s l c x y b X e
  go_wp2_with fail
  ((with_reducible refine ci.mono ?_); rintro e w1 ⟨rfl, hb1⟩)
  clear q0 q1 q2 q3 q4 p0 p1 ci
  go_wp2_with fail
  go_ret
  exact ⟨rfl, below_call hT.old hb1⟩
theorem eg_asclos : ∀ args w, (callFunc 128 args).run Tryz.prog w = .ok (.enter 128 args) w := enters_of Tryz.func128 (by kernel_rfl) rfl

set_option maxHeartbeats 4000000 in
theorem asidxf_b (m : M3) (s l : Value) (c : Int) (k : Nat) (ps : List Pt) (v : Value) (W : World) (hr : PsAt W v ps) (hg : Blk W k (grdL m s l c) 124) :
    Calls Tryz.prog 167 #[v, .func (.func 128) #[] #[.pointer (some ⟨k, 0, none⟩)]] W fun e w' => ∃ n : Int, e = .returned (.int .i64 n) ∧ Hid (decide (0 ≤ n) = !ps.all (insp m)) ∧ Below W.heap.size W w' := by
  obtain ⟨p, cap, rfl, -, hm, hc⟩ := id hr
  unfold maxLen at hm
  go_enter Tryz.func167, Tryz.ntmps167
  go_wp2_with fail
  go_loopw [8] (fun vi wr => ∃ i : Nat, vi = .int .i64 i ∧ i ≤ ps.length ∧ Below W.heap.size W wr ∧ Hid (∀ j, (h : j < ps.length) → j < i → insp m (ps[j]'h) = true)) (fun vi _ => ps.length - (RowKit.intOf vi).toNat)
  case atStart => exact ⟨0, rfl, by omega, Below.refl _ _, hid (fun j _ h => by omega)⟩
  case round =>
    obtain ⟨i, rfl, hi, hT, hG⟩ := hrel
    by_cases hlt : i < ps.length
    · have d1 : (i : Int) < ps.length := by omega
      obtain ⟨g, o, rfl, hk, hat⟩ := hc (by omega)
      obtain ⟨a1, a2⟩ := hat i hlt
      rw [← hT.cell (p := ⟨g, _, none⟩) hk] at a1 a2
      obtain ⟨q, hq⟩ : ∃ q, ps[i]'hlt = q := ⟨_, rfl⟩
      rw [hq] at a1 a2
      obtain ⟨bb, hbb⟩ : ∃ t, Hid (t = insp m q) := ⟨_, hid rfl⟩
      have cf := asclos_b m s l c q.1 q.2 k bb wr (hg.below hT) hbb
      have eg := eg_asclos
      clear hat hc hr
      cases bb with
      | true =>
        have hN := hid (show ∀ j, (h : j < ps.length) → j < i + 1 → insp m (ps[j]'h) = true from fun j h hj => by
          by_cases e : j < i
          · exact hG.out j h e
          · obtain rfl : j = i := by omega
            rw [hq]; exact hbb.out.symm)
        clear hG
        go_wp2_with (go_at_fn 128; refine cf.mono ?_; rintro e w2 ⟨rfl, hb2⟩)
        go_roundw
        case rel => exact ⟨i + 1, by go_num, by omega, below_call hT hb2, hN⟩
        case measure => simp [RowKit.intOf]; omega
      | false =>
        have hA : ps.all (insp m) = false := by
          rw [List.all_eq_false]
          exact ⟨ps[i]'hlt, List.getElem_mem hlt, by rw [hq, ← hbb.out]; simp⟩
        clear hG
        go_wp2_with (go_at_fn 128; refine cf.mono ?_; rintro e w2 ⟨rfl, hb2⟩)
        go_ret
        exact ⟨_, rfl, hid (by rw [hA]; exact decide_eq_true (by omega)), below_call hT hb2⟩
    · obtain rfl : i = ps.length := by omega
      have hA : ps.all (insp m) = true := by
        rw [List.all_eq_true]
        intro x hx
        obtain ⟨j, hj, rfl⟩ := List.getElem_of_mem hx
        exact hG.out j hj hj
      clear hG
      go_wp2_with fail
      go_ret
      exact ⟨_, rfl, hid (by rw [hA]; rfl), hT⟩

set_option maxHeartbeats 1000000 in
theorem asany_b (m : M3) (s l : Value) (c : Int) (k : Nat) (ps : List Pt) (v : Value) (b : Bool) (W : World) (hr : PsAt W v ps) (hg : Blk W k (grdL m s l c) 124) (e : Hid (b = ps.all (insp m))) :
    Calls Tryz.prog 127 #[v, .func (.func 128) #[] #[.pointer (some ⟨k, 0, none⟩)]] W fun e w' => e = .returned (.bool (!b)) ∧ Below W.heap.size W w' := by
  have hc := asidxf_b m s l c k ps v W hr hg
  obtain ⟨p, cap, rfl, _, _⟩ := id hr
  go_enter Tryz.func127, Tryz.ntmps127
  go_wp2_with (go_at_call 167; refine hc.mono ?_; rintro e w1 ⟨n, rfl, hn, hb1⟩)
  go_ret
  exact ⟨ret_bit (by rw [e.out]; exact hn.out), hb1⟩

set_option maxHeartbeats 2000000 in
theorem ascont_b (m : M3) (s l : Value) (c : Int) (ps : List Pt) (v : Value) (b : Bool) (W : World) (hr : PsAt W v ps) (e : Hid (b = ps.all (insp m))) :
    Calls Tryz.prog 77 #[.agg #[.int .i64 m.w, .int .i64 m.h, s, l, .int .i64 c], v] W fun e w' => e = .returned (.bool b) ∧ Below W.heap.size W w' := by
  have hmf : ∀ (fn : Fn) (first cap : Array Value) (w : World), (Instr.makeFunc fn first cap).run Tryz.prog w = .ok (.func fn first cap) w := fun _ _ _ _ => rfl
  have hT := Held1.start W [.int .i64 m.w, .int .i64 m.h, s, l, .int .i64 c] 124
  have hB := Blk.new W (grdL m s l c) 124
  have hca := asany_b m s l c W.heap.size ps v b _ (hr.below hT.old) hB e
  go_enter Tryz.func77, Tryz.ntmps77
  go_wp2_with (go_at_call 127; refine hca.mono ?_; rintro e w1 ⟨rfl, hb1⟩)
  go_ret
  refine ⟨ret_bit ?_, below_call hT.old hb1⟩
  cases b <;> rfl

end

section
open Go.RowKit Go.Lib Go.Shelf

/-- What the steps of a way cost together. -/
def sumC (m : M3) (bl : List Bool) (c : Int) : Pt → List Pt → Option Int
  | _, [] => some 0
  | p, q :: t => match stepC m bl c p q with
    | none => none
    | some w => (sumC m bl c q t).map (w + ·)
def costA (m : M3) (bl : List Bool) (c : Int) (ps : List Pt) : Int × Int :=
  if (validm m && classv c && !ps.isEmpty && ps.all (insp m)) = false then (0, 1) else
  match ps with
  | [] => (0, 1)
  | p :: t => if openv m bl c p.1 p.2 = false then (0, 9) else
    match sumC m bl c p t with
    | none => (0, 9)
    | some s => (s, 0)

set_option maxRecDepth 100000 in
set_option maxHeartbeats 8000000 in
theorem ascostw_b (m : M3) (sp : Option Addr) (sn sk : Nat) (bl : List Bool) (lp : Option Addr) (ln lk : Nat) (c : Int) (ps : List Pt) (v : Value) (r : Int × Int) (W : World) (hG : Gd W m (.slice sp sn sk) bl (.slice lp ln lk)) (hr : PsAt W v ps) (hs : ps.length ≤ 100000) (hA : Hid (r = costA m bl c ps)) :
    Calls Tryz.prog 29 #[.agg #[.int .i64 m.w, .int .i64 m.h, .slice sp sn sk], .slice lp ln lk, .int .i64 c, v] W fun e w' => e = .returned (.tuple #[.int .i64 r.1, .int .i64 r.2]) ∧ Below W.heap.size W w' := by
  obtain ⟨b1, h1⟩ : ∃ b1, Hid (b1 = (validm m && classv c)) := ⟨_, hid rfl⟩
  obtain ⟨b2, h2⟩ : ∃ b2, Hid (b2 = ps.all (insp m)) := ⟨_, hid rfl⟩
  have hK := (((Keep.nil W).alloc [.int .i64 m.w, .int .i64 m.h, .slice sp sn sk] 24)).alloc [.int .i64 m.w, .int .i64 m.h, .slice sp sn sk, .slice lp ln lk, .int .i64 c] 124
  simp only [World.size_alloc] at hK
  obtain ⟨p, cap, rfl, hc1, hm, hc⟩ := id hr
  go_enter Tryz.func29, Tryz.ntmps29
  go_upto_region 2 with fail
  obtain ⟨X, hX⟩ : ∃ X, X = (W.alloc (.cells [Value.int .i64 m.w, .int .i64 m.h, .slice sp sn sk].toArray 24)).alloc (.cells [Value.int .i64 m.w, .int .i64 m.h, .slice sp sn sk, .slice lp ln lk, .int .i64 c].toArray 124) := ⟨_, rfl⟩
  rw [← hX] at hK ⊢
  clear hX
  obtain ⟨k1, e1⟩ : ∃ k1, k1 = W.heap.size + 1 := ⟨_, rfl⟩
  have z1 : Blk X k1 (grdL m (.slice sp sn sk) (.slice lp ln lk) c) 124 := (hK.blks (W.heap.size + 1, grdL m (.slice sp sn sk) (.slice lp ln lk) c, 124) (by simp)).at e1.symm
  have hWX := hK.old
  rw [← e1]
  clear hK e1
  have q0 := z1.cell 0
  have q1 := z1.cell 1
  have q2 := z1.cell 2
  have q3 := z1.cell 3
  have q4 := z1.cell 4
  simp only [List.getElem?_cons_zero, List.getElem?_cons_succ] at q0 q1 q2 q3 q4
  go_wp2_with fail
  ((with_reducible refine (asvalid_b m (.slice sp sn sk) (.slice lp ln lk) c b1 X (hG.row.below hWX) h1).mono ?_); rintro e w1 ⟨rfl, hb1⟩)
  replace z1 := z1.below hb1
  have hW1 := below_call hWX hb1
  clear hb1 q0 q1 q2 q3 q4
  have q0 := z1.cell 0
  have q1 := z1.cell 1
  have q2 := z1.cell 2
  have q3 := z1.cell 3
  have q4 := z1.cell 4
  simp only [List.getElem?_cons_zero, List.getElem?_cons_succ] at q0 q1 q2 q3 q4
  cases b1 with
  | false =>
    have hr1 : r = (0, 1) := by rw [hA.out]; unfold costA; rw [← h1.out]; rfl
    subst hr1
    go_wp2_with fail
    go_ret2
    exact ⟨rfl, hW1⟩
  | true =>
    have hf := classv_of h1.out.symm
    have hcl := formed_len hf
    have ok := nb_ok hf bl c
    rcases (show ps = [] ∨ ∃ p0 t, Hid (ps = p0 :: t) by cases ps with | nil => exact .inl rfl | cons a t => exact .inr ⟨a, t, hid rfl⟩) with hps | ⟨p0, t, hps⟩
    · subst hps
      have hr1 : r = (0, 1) := by rw [hA.out]; unfold costA; simp
      subst hr1
      clear hc
      go_wp2_with fail
      go_ret2
      exact ⟨rfl, hW1⟩
    · have hlen : Hid (ps.length = t.length + 1) := hid (by rw [hps.out]; rfl)
      have hl0 : ((ps.length : Int) == 0) = false := beq_eq_false_iff_ne.2 (by have := hlen.out; omega)
      obtain ⟨g, o, rfl, hk, hat⟩ := hc (by have := hlen.out; omega)
      have cc := ascont_b m (.slice sp sn sk) (.slice lp ln lk) c ps _ b2 w1 (hr.below hW1) h2
      go_wp2_with fail
      ((with_reducible refine cc.mono ?_); rintro e w2 ⟨rfl, hb2⟩)
      replace z1 := z1.below hb2
      have hW2 := below_call hW1 hb2
      clear hb2 q0 q1 q2 q3 q4 cc hc
      have q0 := z1.cell 0
      have q1 := z1.cell 1
      have q2 := z1.cell 2
      have q3 := z1.cell 3
      have q4 := z1.cell 4
      simp only [List.getElem?_cons_zero, List.getElem?_cons_succ] at q0 q1 q2 q3 q4
      cases b2 with
      | false =>
        have hr1 : r = (0, 1) := by rw [hA.out]; unfold costA; rw [← h2.out, Bool.and_false]; rfl
        subst hr1
        clear hat
        go_wp2_with fail
        go_ret2
        exact ⟨rfl, hW2⟩
      | true =>
        have hrB : Hid (r = if openv m bl c p0.1 p0.2 = false then ((0, 9) : Int × Int) else match sumC m bl c p0 t with | none => (0, 9) | some s => (s, 0)) := hid (by
          rw [hA.out]; unfold costA; rw [← h2.out, ← h1.out, hps.out]; rfl)
        obtain ⟨b4, h4⟩ : ∃ b4, Hid (b4 = openv m bl c p0.1 p0.2) := ⟨_, hid rfl⟩
        have hne : ¬ ps = [] := by rw [hps.out]; exact List.cons_ne_nil _ _
        have hat0 := hat 0 (by have := hlen.out; omega)
        have hp0 : ps[0]'(by have := hlen.out; omega) = p0 := by simp [hps.out]
        rw [hp0] at hat0
        simp only [Nat.zero_mul, Nat.add_zero] at hat0
        obtain ⟨a1, a2⟩ := hat0
        rw [← hW2.cell (p := ⟨g, _, none⟩) hk] at a1 a2
        have hk3 : g < w2.heap.size := by have := hW2.size; omega
        have cf := fun w (hS : Below w2.heap.size w2 w) => asfree_b m (.slice sp sn sk) bl (.slice lp ln lk) c p0.1 p0.2 b4 w (hG.below (below_call hW2 hS)) h4
        have hmx : Tryz.prog.follows .mixedOrders = true := by kernel_rfl
        go_upto_region 4 with fail
        refine wp_onlyN (wp_region_held (S := fun w' => Below w2.heap.size w2 w') hmx ?_)
        show wpAnyH _ _ _ _ _ _ _ _ w2.drew
        have hS0 := (Below.refl w2.heap.size w2).drew
        refine reg_tk (i := 0) (v := .agg #[.int .i64 m.w, .int .i64 m.h, .slice sp sn sk, .slice lp ln lk, .int .i64 c]) (some 34) rfl (fun w' hS => by (have q0 := (z1.below hS).cell 0; have q1 := (z1.below hS).cell 1; have q2 := (z1.below hS).cell 2; have q3 := (z1.below hS).cell 3; have q4 := (z1.below hS).cell 4); go_simp) hS0 ?_
        try simp only [Act.put, List.setIfInBounds_toArray, List.set_cons_zero, List.set_cons_succ]
        refine reg_tk (i := 1) (v := .slice (some ⟨g, o, none⟩) ps.length cap) (some 35) rfl (fun w' hS => by (skip); go_simp) hS0 ?_
        try simp only [Act.put, List.setIfInBounds_toArray, List.set_cons_zero, List.set_cons_succ]
        refine reg_tk (i := 2) (v := .pointer (some ⟨g, o, none⟩)) (some 36) rfl (fun w' hS => by (skip); go_simp) hS0 ?_
        try simp only [Act.put, List.setIfInBounds_toArray, List.set_cons_zero, List.set_cons_succ]
        refine reg_tk (i := 3) (v := .agg #[.int .i64 p0.1, .int .i64 p0.2]) (some 37) rfl (fun w' hS => by (have q0 := (hS.cell (p := ⟨g, o, none⟩) hk3).trans a1; have q1 := (hS.cell (p := ⟨g, o + 1, none⟩) hk3).trans a2); go_simp) hS0 ?_
        try simp only [Act.put, List.setIfInBounds_toArray, List.set_cons_zero, List.set_cons_succ]
        refine held_one (i := 4) (by kernel_rfl) rfl (fun K hQ => ?_)
        go_simp
        ((with_reducible refine (cf _ hS0).mono ?_); rintro e w4 ⟨rfl, hb4⟩)
        have hS1 := below_call hS0 hb4
        clear hb4
        refine hQ.out _ _ hS1 ?_
        clear hQ
        try simp only [Act.put, List.setIfInBounds_toArray, List.set_cons_zero, List.set_cons_succ]
        refine reg_tk (i := 5) (v := .bool (!b4)) (some 39) rfl (fun w' hS => by (skip); go_simp) hS1 ?_
        try simp only [Act.put, List.setIfInBounds_toArray, List.set_cons_zero, List.set_cons_succ]
        refine wpAnyH_done (by kernel_rfl) ?_ _
        simp only [onlyN]
        replace z1 := z1.below hS1
        have hW4 := below_call hW2 hS1
        clear hS0 hS1 cf a1 a2 q0 q1 q2 q3 q4
        cases b4 with
        | false =>
          have hr1 : r = (0, 9) := by rw [hrB.out, ← h4.out]; rfl
          subst hr1
          clear hat
          go_wp2_with fail
          go_ret2
          exact ⟨rfl, hW4⟩
        | true =>
          have hrC : Hid (r = match sumC m bl c p0 t with | none => ((0, 9) : Int × Int) | some s => (s, 0)) := hid (by rw [hrB.out, ← h4.out]; rfl)
          clear hrB hA
          have d1 : (1 : Int) ≤ (ps.length : Int) := by have := hlen.out; omega
          have n1 : IntKind.i64.wrap ((ps.length : Int) - 1) = (t.length : Int) := by have := hlen.out; unfold maxLen at hm; rw [IntWalk.i64_in _ (by omega)]; omega
          by_cases hcap : cap = 1
          · have ht : t = [] := List.eq_nil_of_length_eq_zero (by have := hlen.out; omega)
            have hl1 : ps.length = 1 := by have := hlen.out; omega
            have hr1 : r = (0, 0) := by rw [hrC.out, ht]; rfl
            subst hr1
            subst hcap
            clear hat hrC hp0
            go_upto_region 8 with fail
            go_loopw [11, 43] (fun yt y wr => yt = .int .i64 0 ∧ y = .int .i64 0 ∧ Below W.heap.size W wr) (fun _ _ _ => 0)
            case atStart => exact ⟨rfl, rfl, hW4⟩
            case round =>
              obtain ⟨rfl, rfl, hWr⟩ := hrel
              have hl2 : ps.length - 1 = 0 := by omega
              go_wp2_with fail
              go_ret2
              exact ⟨rfl, hWr⟩
          · have hcap2 : Hid (2 ≤ cap) := hid (by have := hlen.out; omega)
            obtain ⟨nt, hnt⟩ : ∃ nt, Hid (nt = ps.length - 1) := ⟨_, hid rfl⟩
            go_upto_region 8 with fail
            rw [← hnt.out]
            go_loopw [11, 43] (fun yt yi wr => ∃ (i : Nat) (tot : Int) (a : Pt), yt = .int .i64 tot ∧ yi = .int .i64 i ∧ i ≤ nt ∧ ps[i]? = some a ∧ Hid (sumC m bl c p0 t = (sumC m bl c a (ps.drop (i + 1))).map (tot + ·)) ∧ (0 ≤ tot ∧ tot ≤ 19 * (i : Int)) ∧ Below W.heap.size W wr ∧ Blk wr k1 (grdL m (.slice sp sn sk) (.slice lp ln lk) c) 124) (fun _ yi _ => nt - (RowKit.intOf yi).toNat)
            case atStart => exact ⟨0, 0, p0, rfl, rfl, Nat.zero_le _, by rw [hps.out]; rfl, hid (by rw [hps.out]; show sumC m bl c p0 t = (sumC m bl c p0 t).map (0 + ·); simp), by omega, hW4, z1⟩
            case round =>
              clear z1 hW4
              obtain ⟨i, tot, a, rfl, rfl, hi, hia, hsum, htot, hWr, z1⟩ := hrel
              by_cases hlt : i < nt
              · have hnl : nt = ps.length - 1 := hnt.out
                have hi1 : i + 1 < ps.length := by omega
                obtain ⟨q, hq⟩ : ∃ q, q = ps[i + 1]'hi1 := ⟨_, rfl⟩
                have hdr : ps.drop (i + 1) = q :: ps.drop (i + 2) := by rw [hq]; exact List.drop_eq_getElem_cons hi1
                have hqq : ps[i + 1]? = some q := by rw [List.getElem?_eq_getElem hi1, hq]
                have hca := hat i (by omega)
                have haa : ps[i]'(by omega) = a := by have := List.getElem?_eq_getElem (show i < ps.length by omega); rw [hia] at this; injection this with e; exact e.symm
                rw [haa] at hca
                have hcq := hat (i + 1) hi1
                rw [← hq, show o + (i + 1) * 2 = o + 2 + i * 2 by omega] at hcq
                obtain ⟨a1, a2⟩ := hca
                obtain ⟨c1, c2⟩ := hcq
                rw [← hWr.cell (p := ⟨g, _, none⟩) hk] at a1 a2 c1 c2
                have hkr : g < wr.heap.size := by have := hWr.size; omega
                have ip : (0 : Int) ≤ (i : Int) := by omega
                have ipn : (i : Int) < (nt : Int) := by omega
                have ipl : (i : Int) < (ps.length : Int) := by omega
                have z9 : decide ((i : Int) < (nt : Int)) = true := decide_eq_true ipn
                obtain ⟨kw, b5, hst⟩ : ∃ kw b5, Hid (((kw, b5) : Int × Bool) = match stepC m bl c a q with | some w => (w, true) | none => (0, false)) := ⟨_, _, hid rfl⟩
                have hkw : 0 ≤ kw ∧ kw ≤ 19 := by
                  have h := hst.out
                  cases h5 : stepC m bl c a q with
                  | none => rw [h5] at h; injection h with h _; omega
                  | some w =>
                    rw [h5] at h
                    injection h with h _
                    unfold stepC at h5
                    cases h6 : (nbp m bl c a).find? fun x => decide (x.1 = q) with
                    | none => rw [h6] at h5; cases h5
                    | some x =>
                      rw [h6] at h5
                      injection h5 with h5
                      have h7 : x.2 = w := h5
                      have := nbp_w (List.mem_of_find?_eq_some h6)
                      omega
                clear hnl hq haa
                replace hdr := hid hdr
                go_upto_region 10 with fail
                have hX5 := (Below.refl wr.heap.size wr).alloc (Nat.le_refl _) (.cells [Value.int .i64 q.1, .int .i64 q.2].toArray 29)
                have zq := Blk.new wr (ptL q) 29
                obtain ⟨w5, hw5⟩ : ∃ w5, w5 = wr.alloc (.cells [Value.int .i64 q.1, .int .i64 q.2].toArray 29) := ⟨_, rfl⟩
                rw [← hw5] at hX5 ⊢
                rw [show wr.alloc (.cells (ptL q).toArray 29) = w5 from hw5.symm] at zq
                clear hw5
                obtain ⟨bq, hbq⟩ : ∃ bq, bq = wr.heap.size := ⟨_, rfl⟩
                rw [← hbq] at zq ⊢
                have z1' := z1.below hX5
                have hW5 := below_call hWr hX5
                have hk5 : g < w5.heap.size := by have := hX5.size; omega
                rw [← hX5.cell (p := ⟨g, _, none⟩) hkr] at a1 a2
                have nadd : IntKind.i64.wrap ((i : Int) + 1) = ((i + 1 : Nat) : Int) := by rw [IntWalk.i64_in _ (by have := hnt.out; omega)]; simp
                have nsum : IntKind.i64.wrap (tot + kw) = tot + kw := IntWalk.i64_in _ (by have := hnt.out; omega)
                clear c1 c2 hX5 hbq z1
                have cs := fun w (hS : Below w5.heap.size w5 w) => ascost_b m (.slice sp sn sk) bl (.slice lp ln lk) c a q kw b5 w (hG.below (below_call hW5 hS)) hst
                refine wp_region_held (S := fun w' => Below w5.heap.size w5 w') hmx ?_
                show wpAnyH _ _ _ _ _ _ _ _ w5.drew
                have hS0 := (Below.refl w5.heap.size w5).drew
                refine reg_tk (i := 0) (v := .agg #[.int .i64 m.w, .int .i64 m.h, .slice sp sn sk, .slice lp ln lk, .int .i64 c]) (some 49) rfl (fun w' hS => by (have q0 := (z1'.below hS).cell 0; have q1 := (z1'.below hS).cell 1; have q2 := (z1'.below hS).cell 2; have q3 := (z1'.below hS).cell 3; have q4 := (z1'.below hS).cell 4); go_simp) hS0 ?_
                try simp only [Act.put, List.setIfInBounds_toArray, List.set_cons_zero, List.set_cons_succ]
                refine reg_tk (i := 1) (v := .slice (some ⟨g, o, none⟩) ps.length cap) (some 50) rfl (fun w' hS => by (skip); go_simp) hS0 ?_
                try simp only [Act.put, List.setIfInBounds_toArray, List.set_cons_zero, List.set_cons_succ]
                refine reg_tk (i := 2) (v := .int .i64 i) (some 51) rfl (fun w' hS => by (skip); go_simp) hS0 ?_
                try simp only [Act.put, List.setIfInBounds_toArray, List.set_cons_zero, List.set_cons_succ]
                refine reg_tk (i := 3) (v := .pointer (some ⟨g, o + i * 2, none⟩)) (some 52) rfl (fun w' hS => by (skip); go_simp) hS0 ?_
                try simp only [Act.put, List.setIfInBounds_toArray, List.set_cons_zero, List.set_cons_succ]
                refine reg_tk (i := 4) (v := .agg #[.int .i64 a.1, .int .i64 a.2]) (some 53) rfl (fun w' hS => by (have q0 := (hS.cell (p := ⟨g, o + i * 2, none⟩) hk5).trans a1; have q1 := (hS.cell (p := ⟨g, o + i * 2 + 1, none⟩) hk5).trans a2); go_simp) hS0 ?_
                try simp only [Act.put, List.setIfInBounds_toArray, List.set_cons_zero, List.set_cons_succ]
                refine reg_tk (i := 5) (v := .agg #[.int .i64 q.1, .int .i64 q.2]) (some 54) rfl (fun w' hS => by (have q0 := (zq.below hS).cell 0; have q1 := (zq.below hS).cell 1); go_simp) hS0 ?_
                try simp only [Act.put, List.setIfInBounds_toArray, List.set_cons_zero, List.set_cons_succ]
                refine held_one (i := 6) (by kernel_rfl) rfl (fun K hQ => ?_)
                go_simp
                ((with_reducible refine (cs _ hS0).mono ?_); rintro e w6 ⟨rfl, hb6⟩)
                have hS1 := below_call hS0 hb6
                clear hb6
                refine hQ.out _ _ hS1 ?_
                clear hQ
                try simp only [Act.put, List.setIfInBounds_toArray, List.set_cons_zero, List.set_cons_succ]
                refine reg_tk (i := 7) (v := .tuple #[.int .i64 kw, .bool b5]) (some 48) rfl (fun w' hS => by (skip); go_simp) hS1 ?_
                try simp only [Act.put, List.setIfInBounds_toArray, List.set_cons_zero, List.set_cons_succ]
                refine reg_tk (i := 8) (v := .int .i64 kw) (some 56) rfl (fun w' hS => by (skip); go_simp) hS1 ?_
                try simp only [Act.put, List.setIfInBounds_toArray, List.set_cons_zero, List.set_cons_succ]
                refine reg_tk (i := 9) (v := .bool b5) (some 57) rfl (fun w' hS => by (skip); go_simp) hS1 ?_
                try simp only [Act.put, List.setIfInBounds_toArray, List.set_cons_zero, List.set_cons_succ]
                refine reg_tk (i := 10) (v := .int .i64 kw) (some 14) rfl (fun w' hS => by (skip); go_simp) hS1 ?_
                try simp only [Act.put, List.setIfInBounds_toArray, List.set_cons_zero, List.set_cons_succ]
                refine reg_tk (i := 11) (v := .bool b5) (some 15) rfl (fun w' hS => by (skip); go_simp) hS1 ?_
                try simp only [Act.put, List.setIfInBounds_toArray, List.set_cons_zero, List.set_cons_succ]
                refine wpAnyH_done (by kernel_rfl) ?_ _
                try simp only [onlyN]
                replace z1' := z1'.below hS1
                have hW6 := below_call hW5 hS1
                clear hS0 hS1 cs a1 a2 zq hW5
                cases b5 with
                | false =>
                  have hno : stepC m bl c a q = none := by
                    have h := hst.out
                    cases h5 : stepC m bl c a q with
                    | none => rfl
                    | some w => rw [h5] at h; injection h with _ h; cases h
                  have hr1 : r = (0, 9) := by rw [hrC.out, hsum.out, hdr.out]; simp only [sumC]; rw [hno]; rfl
                  subst hr1
                  clear hat hrC hsum hst hno
                  go_wp2_with fail
                  go_ret2
                  exact ⟨rfl, hW6⟩
                | true =>
                  have hyes : stepC m bl c a q = some kw := by
                    have h := hst.out
                    cases h5 : stepC m bl c a q with
                    | none => rw [h5] at h; injection h with _ h; cases h
                    | some w => rw [h5] at h; injection h with h _; rw [h]
                  have hsn : Hid (sumC m bl c p0 t = (sumC m bl c q (ps.drop (i + 1 + 1))).map (tot + kw + ·)) := hid (by
                    rw [hsum.out, hdr.out]; simp only [sumC]; rw [hyes]
                    cases sumC m bl c q (ps.drop (i + 2)) with
                    | none => rfl
                    | some z => simp [Int.add_assoc])
                  clear hat hrC hsum hst hyes
                  go_wp2_with fail
                  have hcast : Value.int .i64 ((i : Int) + 1) = Value.int .i64 ((i + 1 : Nat) : Int) := by push_cast; rfl
                  have hmeas : nt - (RowKit.intOf (Value.int .i64 ((i : Int) + 1))).toNat < nt - (RowKit.intOf (Value.int .i64 (i : Int))).toNat := by simp [RowKit.intOf]; omega
                  refine ⟨⟨_, _, _, _, _, _, _, _, _, _, _, _, _, _, _, _, _, _, _, _, _, _, _, _, _, _, _, _, ⟨i + 1, tot + kw, q, rfl, hcast, by omega, hqq, hsn, by push_cast; omega, hW6, z1'⟩, rfl⟩, hmeas⟩
              · obtain rfl : i = nt := by omega
                have z9 : decide ((i : Int) < (i : Int)) = false := decide_eq_false (by omega)
                have hr1 : r = (tot, 0) := by
                  rw [hrC.out, hsum.out, List.drop_eq_nil_of_le (by have := hnt.out; have := hlen.out; omega)]
                  show (match (sumC m bl c a []).map (tot + ·) with | none => ((0, 9) : Int × Int) | some s => (s, 0)) = (tot, 0)
                  simp [sumC]
                subst hr1
                clear hat hrC hsum
                go_wp2_with fail
                go_ret2
                exact ⟨rfl, hWr⟩

end

end Go.Proofs.YtpgchjhfhndaaaaGreatDoor
