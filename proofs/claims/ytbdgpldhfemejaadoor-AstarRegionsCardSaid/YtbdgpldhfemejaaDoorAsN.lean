/-
  astar as landed at 35fbd81: Reach, Path.
-/
import Derived.Test.YtbdgpldhfemejaaDoorAsM
import Derived.Test.YtbdgpldhfemejaaDoorAsK
namespace Go.Proofs.YtbdgpldhfemejaaDoor
open Go.RowKit Go.Lib Go.Shelf

theorem own_le2 {w : World} {B B' size n : Nat} {e : TypeId} {v : Value} {xs : List Value} (h : w.ownsRow B e size v n xs) (hb : B' ≤ B) : w.ownsRow B' e size v n xs :=
  ⟨h.1, h.2.imp id fun ⟨g, cap, cur, e, hB, rest⟩ => ⟨g, cap, cur, e, Nat.le_trans hb hB, rest⟩⟩
theorem classv_of {m : M3} {c : Int} (h : (validm m && classv c) = true) : formedv m = true := by
  unfold validm at h
  simp only [Bool.and_eq_true] at h
  exact h.1.1
/-- The costs from a position inside. -/
theorem ascosts_at (m : M3) (s : Value) (bl : List Bool) (l : Value) (c x y : Int) (n : Nat) (W : World) (hG : Gd W m s bl l) (hf : formedv m = true) (hi : insp m (x, y) = true) (hn : Hid (m.cs.length = n)) :
    Calls Tryd.prog 26 #[.agg #[.int .i64 m.w, .int .i64 m.h, s, l, .int .i64 c], .agg #[.int .i64 x, .int .i64 y]] W (CostsP m bl c (idx m (x, y)) n W) := by
  have hp := posn_idx hf hi
  have h := ascosts_b m s bl l c (idx m (x, y)) n W hG hf hp.2.1 hn
  rw [hp.1] at h
  exact h

set_option maxHeartbeats 2000000 in
theorem asreach_b (m : M3) (sp : Option Addr) (sn sk : Nat) (bl : List Bool) (lp : Option Addr) (ln lk : Nat) (c x y : Int) (b : Bool) (n : Nat) (W : World) (hG : Gd W m (.slice sp sn sk) bl (.slice lp ln lk)) (hn : Hid (m.cs.length = n)) (hb : Hid (b = (validm m && classv c && insp m (x, y)))) :
    Calls Tryd.prog 18 #[.agg #[.int .i64 m.w, .int .i64 m.h, .slice sp sn sk], .slice lp ln lk, .int .i64 c, .agg #[.int .i64 x, .int .i64 y]] W fun e w' => (b = false ∧ e = .returned (.slice none 0 0) ∧ Below W.heap.size W w') ∨ (b = true ∧ CostsP m bl c (idx m (x, y)) n W e w') := by
  obtain ⟨b1, h1⟩ : ∃ b1, Hid (b1 = (validm m && classv c)) := ⟨_, hid rfl⟩
  obtain ⟨b2, h2⟩ : ∃ b2, Hid (b2 = insp m (x, y)) := ⟨_, hid rfl⟩
  have hbb : Hid (b = (b1 && b2)) := hid (by rw [hb.out, h1.out, h2.out])
  clear hb
  have hK := (((Keep.nil W).alloc [.int .i64 m.w, .int .i64 m.h, .slice sp sn sk] 24).alloc [.int .i64 x, .int .i64 y] 27).alloc [.int .i64 m.w, .int .i64 m.h, .slice sp sn sk, .slice lp ln lk, .int .i64 c] 46
  simp only [World.size_alloc] at hK
  go_enter Tryd.func18, Tryd.ntmps18
  go_wp2_with fail
  obtain ⟨X, hX⟩ : ∃ X, X = ((W.alloc (.cells [Value.int .i64 m.w, .int .i64 m.h, .slice sp sn sk].toArray 24)).alloc (.cells [Value.int .i64 x, .int .i64 y].toArray 27)).alloc (.cells [Value.int .i64 m.w, .int .i64 m.h, .slice sp sn sk, .slice lp ln lk, .int .i64 c].toArray 46) := ⟨_, rfl⟩
  rw [← hX] at hK ⊢
  clear hX
  obtain ⟨k2, e2⟩ : ∃ k2, k2 = W.heap.size + 1 + 1 := ⟨_, rfl⟩
  obtain ⟨k1, e1⟩ : ∃ k1, k1 = W.heap.size + 1 := ⟨_, rfl⟩
  have z2 : Blk X k2 (grdL m (.slice sp sn sk) (.slice lp ln lk) c) 46 := (hK.blks (W.heap.size + 1 + 1, grdL m (.slice sp sn sk) (.slice lp ln lk) c, 46) (by simp)).at e2.symm
  have z1 : Blk X k1 (ptL (x, y)) 27 := (hK.blks (W.heap.size + 1, ptL (x, y), 27) (by simp)).at e1.symm
  have hWX := hK.old
  rw [← e2, ← e1]
  clear hK e1 e2
  ((with_reducible refine (asvalid_b m (.slice sp sn sk) (.slice lp ln lk) c b1 X (hG.row.below hWX) h1).mono ?_); rintro e w1 ⟨rfl, hb1⟩)
  replace z1 := z1.below hb1
  replace z2 := z2.below hb1
  have hW1 := below_call hWX hb1
  clear hb1
  have p0 := z1.cell 0
  have p1 := z1.cell 1
  simp only [List.getElem?_cons_zero, List.getElem?_cons_succ] at p0 p1
  have q0 := z2.cell 0
  have q1 := z2.cell 1
  have q2 := z2.cell 2
  have q3 := z2.cell 3
  have q4 := z2.cell 4
  simp only [List.getElem?_cons_zero, List.getElem?_cons_succ] at q0 q1 q2 q3 q4
  cases b1 with
  | false =>
    have hbf : b = false := hbb.out
    clear hbb
    go_wp2_with fail
    go_ret
    exact .inl ⟨hbf, rfl, hW1⟩
  | true =>
    have hf := classv_of h1.out.symm
    go_wp2_with fail
    ((with_reducible refine (asinside_b m (.slice sp sn sk) (.slice lp ln lk) c x y b2 w1 h2).mono ?_); rintro e w2 ⟨rfl, hb2⟩)
    replace z1 := z1.below hb2
    replace z2 := z2.below hb2
    have hW2 := below_call hW1 hb2
    clear p0 p1 q0 q1 q2 q3 q4 hb2
    have p0 := z1.cell 0
    have p1 := z1.cell 1
    simp only [List.getElem?_cons_zero, List.getElem?_cons_succ] at p0 p1
    have q0 := z2.cell 0
    have q1 := z2.cell 1
    have q2 := z2.cell 2
    have q3 := z2.cell 3
    have q4 := z2.cell 4
    simp only [List.getElem?_cons_zero, List.getElem?_cons_succ] at q0 q1 q2 q3 q4
    cases b2 with
    | false =>
      have hbf : b = false := hbb.out
      clear hbb
      go_wp2_with fail
      go_ret
      exact .inl ⟨hbf, rfl, hW2⟩
    | true =>
      have hbf : b = true := hbb.out
      clear hbb
      have cc := ascosts_at m (.slice sp sn sk) bl (.slice lp ln lk) c x y n w2 (hG.below hW2) hf h2.out.symm hn
      go_wp2_with fail
      ((with_reducible refine cc.mono ?_); rintro e w3 ⟨cb, D, rfl, k3, k4, k5, k6, k7⟩)
      clear cc
      have hs2 := hW2.size
      go_wp2_with fail
      go_ret
      exact .inr ⟨hbf, cb, D, rfl, by omega, k4, k5, k6, below_call hW2 k7⟩

/-- What Path answers. -/
inductive PathA (m : M3) (bl : List Bool) (c : Int) (a b : Pt) (W : World) : Ending → World → Prop
  | arg {w' : World} : (validm m && classv c && insp m a && insp m b) = false → PathA m bl c a b W (.returned (.tuple #[.slice none 0 0, .int .i64 0, .int .i64 1])) w'
  | blocked {w' : World} : (validm m && classv c && insp m a && insp m b) = true → (openv m bl c a.1 a.2 && openv m bl c b.1 b.2) = false → PathA m bl c a b W (.returned (.tuple #[.slice none 0 0, .int .i64 0, .int .i64 9])) w'
  | none {w' : World} (D : List Int) : (validm m && classv c && insp m a && insp m b) = true → (openv m bl c a.1 a.2 && openv m bl c b.1 b.2) = true → IsDist (nb m bl c) m.cs.length (idx m b) D → ga D (idx m a) = -1 → PathA m bl c a b W (.returned (.tuple #[.slice none 0 0, .int .i64 0, .int .i64 22])) w'
  | way {w' : World} (D : List Int) (v : Value) : (validm m && classv c && insp m a && insp m b) = true → (openv m bl c a.1 a.2 && openv m bl c b.1 b.2) = true → IsDist (nb m bl c) m.cs.length (idx m b) D → 0 ≤ ga D (idx m a) → (∀ q, -1 ≤ ga D q ∧ ga D q ≤ 30000) →
    w'.ownsRow W.heap.size 27 2 v (pathG (nb m bl c) D (idx m a)).length (pls m (pathG (nb m bl c) D (idx m a))) → PathA m bl c a b W (.returned (.tuple #[v, .int .i64 (ga D (idx m a)), .int .i64 0])) w'

set_option maxRecDepth 100000 in
set_option maxHeartbeats 4000000 in
theorem aspath_b (m : M3) (sp : Option Addr) (sn sk : Nat) (bl : List Bool) (lp : Option Addr) (ln lk : Nat) (c x y x2 y2 : Int) (W : World) (hG : Gd W m (.slice sp sn sk) bl (.slice lp ln lk)) :
    Calls Tryd.prog 12 #[.agg #[.int .i64 m.w, .int .i64 m.h, .slice sp sn sk], .slice lp ln lk, .int .i64 c, .agg #[.int .i64 x, .int .i64 y], .agg #[.int .i64 x2, .int .i64 y2]] W fun e w' => Below W.heap.size W w' ∧ PathA m bl c (x, y) (x2, y2) W e w' := by
  obtain ⟨n, hn⟩ : ∃ n, Hid (m.cs.length = n) := ⟨_, hid rfl⟩
  obtain ⟨b1, h1⟩ : ∃ b1, Hid (b1 = (validm m && classv c)) := ⟨_, hid rfl⟩
  obtain ⟨b2, h2⟩ : ∃ b2, Hid (b2 = insp m (x, y)) := ⟨_, hid rfl⟩
  obtain ⟨b3, h3⟩ : ∃ b3, Hid (b3 = insp m (x2, y2)) := ⟨_, hid rfl⟩
  obtain ⟨b4, h4⟩ : ∃ b4, Hid (b4 = openv m bl c x y) := ⟨_, hid rfl⟩
  obtain ⟨b5, h5⟩ : ∃ b5, Hid (b5 = openv m bl c x2 y2) := ⟨_, hid rfl⟩
  have hA : Hid ((validm m && classv c && insp m (x, y) && insp m (x2, y2)) = (b1 && b2 && b3)) := hid (by rw [h1.out, h2.out, h3.out])
  have hO : Hid ((openv m bl c x y && openv m bl c x2 y2) = (b4 && b5)) := hid (by rw [h4.out, h5.out])
  have hK := ((((Keep.nil W).alloc [.int .i64 m.w, .int .i64 m.h, .slice sp sn sk] 24).alloc [.int .i64 x, .int .i64 y] 27).alloc [.int .i64 x2, .int .i64 y2] 27).alloc [.int .i64 m.w, .int .i64 m.h, .slice sp sn sk, .slice lp ln lk, .int .i64 c] 46
  simp only [World.size_alloc] at hK
  go_enter Tryd.func12, Tryd.ntmps12
  go_wp2_with fail
  obtain ⟨X, hX⟩ : ∃ X, X = (((W.alloc (.cells [Value.int .i64 m.w, .int .i64 m.h, .slice sp sn sk].toArray 24)).alloc (.cells [Value.int .i64 x, .int .i64 y].toArray 27)).alloc (.cells [Value.int .i64 x2, .int .i64 y2].toArray 27)).alloc (.cells [Value.int .i64 m.w, .int .i64 m.h, .slice sp sn sk, .slice lp ln lk, .int .i64 c].toArray 46) := ⟨_, rfl⟩
  rw [← hX] at hK ⊢
  clear hX
  obtain ⟨k3, e3⟩ : ∃ k3, k3 = W.heap.size + 1 + 1 + 1 := ⟨_, rfl⟩
  obtain ⟨k2, e2⟩ : ∃ k2, k2 = W.heap.size + 1 + 1 := ⟨_, rfl⟩
  obtain ⟨k1, e1⟩ : ∃ k1, k1 = W.heap.size + 1 := ⟨_, rfl⟩
  have z3 : Blk X k3 (grdL m (.slice sp sn sk) (.slice lp ln lk) c) 46 := (hK.blks (W.heap.size + 1 + 1 + 1, grdL m (.slice sp sn sk) (.slice lp ln lk) c, 46) (by simp)).at e3.symm
  have z2 : Blk X k2 (ptL (x2, y2)) 27 := (hK.blks (W.heap.size + 1 + 1, ptL (x2, y2), 27) (by simp)).at e2.symm
  have z1 : Blk X k1 (ptL (x, y)) 27 := (hK.blks (W.heap.size + 1, ptL (x, y), 27) (by simp)).at e1.symm
  have hWX := hK.old
  rw [← e3, ← e2, ← e1]
  clear hK e1 e2 e3
  ((with_reducible refine (asvalid_b m (.slice sp sn sk) (.slice lp ln lk) c b1 X (hG.row.below hWX) h1).mono ?_); rintro e w1 ⟨rfl, hb1⟩)
  replace z1 := z1.below hb1
  replace z2 := z2.below hb1
  replace z3 := z3.below hb1
  have hW1 := below_call hWX hb1
  have hb1K := hid hb1
  clear hb1
  have p0 := z1.cell 0
  have p1 := z1.cell 1
  simp only [List.getElem?_cons_zero, List.getElem?_cons_succ] at p0 p1
  have r0 := z2.cell 0
  have r1 := z2.cell 1
  simp only [List.getElem?_cons_zero, List.getElem?_cons_succ] at r0 r1
  have q0 := z3.cell 0
  have q1 := z3.cell 1
  have q2 := z3.cell 2
  have q3 := z3.cell 3
  have q4 := z3.cell 4
  simp only [List.getElem?_cons_zero, List.getElem?_cons_succ] at q0 q1 q2 q3 q4
  cases b1 with
  | false =>
    have hAf := hA.out
    simp only [Bool.false_and] at hAf
    clear hA hO
    go_wp2_with fail
    go_ret3
    exact ⟨hW1, .arg hAf⟩
  | true =>
    have hf := classv_of h1.out.symm
    go_wp2_with fail
    ((with_reducible refine (asinside_b m (.slice sp sn sk) (.slice lp ln lk) c x y b2 w1 h2).mono ?_); rintro e w2 ⟨rfl, hb2⟩)
    clear p0 p1 r0 r1 q0 q1 q2 q3 q4
    replace z1 := z1.below hb2
    replace z2 := z2.below hb2
    replace z3 := z3.below hb2
    have hW2 := below_call hW1 hb2
    have hb2K := hid hb2
    clear hb2
    have p0 := z1.cell 0
    have p1 := z1.cell 1
    simp only [List.getElem?_cons_zero, List.getElem?_cons_succ] at p0 p1
    have r0 := z2.cell 0
    have r1 := z2.cell 1
    simp only [List.getElem?_cons_zero, List.getElem?_cons_succ] at r0 r1
    have q0 := z3.cell 0
    have q1 := z3.cell 1
    have q2 := z3.cell 2
    have q3 := z3.cell 3
    have q4 := z3.cell 4
    simp only [List.getElem?_cons_zero, List.getElem?_cons_succ] at q0 q1 q2 q3 q4
    cases b2 with
    | false =>
      have hAf := hA.out
      simp only [Bool.false_and, Bool.and_false] at hAf
      clear hA hO
      go_wp2_with fail
      go_ret3
      exact ⟨hW2, .arg hAf⟩
    | true =>
      go_wp2_with fail
      ((with_reducible refine (asinside_b m (.slice sp sn sk) (.slice lp ln lk) c x2 y2 b3 w2 h3).mono ?_); rintro e w3 ⟨rfl, hb3⟩)
      clear p0 p1 r0 r1 q0 q1 q2 q3 q4
      replace z1 := z1.below hb3
      replace z2 := z2.below hb3
      replace z3 := z3.below hb3
      have hW3 := below_call hW2 hb3
      have hb3K := hid hb3
      clear hb3
      have p0 := z1.cell 0
      have p1 := z1.cell 1
      simp only [List.getElem?_cons_zero, List.getElem?_cons_succ] at p0 p1
      have r0 := z2.cell 0
      have r1 := z2.cell 1
      simp only [List.getElem?_cons_zero, List.getElem?_cons_succ] at r0 r1
      have q0 := z3.cell 0
      have q1 := z3.cell 1
      have q2 := z3.cell 2
      have q3 := z3.cell 3
      have q4 := z3.cell 4
      simp only [List.getElem?_cons_zero, List.getElem?_cons_succ] at q0 q1 q2 q3 q4
      cases b3 with
      | false =>
        have hAf := hA.out
        simp only [Bool.and_false] at hAf
        clear hA hO
        go_wp2_with fail
        go_ret3
        exact ⟨hW3, .arg hAf⟩
      | true =>
        have hAt := hA.out
        simp only [Bool.and_self] at hAt
        clear hA
        replace hAt := hid hAt
        go_wp2_with fail
        ((with_reducible refine (asfree_b m (.slice sp sn sk) bl (.slice lp ln lk) c x y b4 w3 (hG.below hW3) h4).mono ?_); rintro e w4 ⟨rfl, hb4⟩)
        clear p0 p1 r0 r1 q0 q1 q2 q3 q4
        replace z1 := z1.below hb4
        replace z2 := z2.below hb4
        replace z3 := z3.below hb4
        have hW4 := below_call hW3 hb4
        have hb4K := hid hb4
        clear hb4
        have p0 := z1.cell 0
        have p1 := z1.cell 1
        simp only [List.getElem?_cons_zero, List.getElem?_cons_succ] at p0 p1
        have r0 := z2.cell 0
        have r1 := z2.cell 1
        simp only [List.getElem?_cons_zero, List.getElem?_cons_succ] at r0 r1
        have q0 := z3.cell 0
        have q1 := z3.cell 1
        have q2 := z3.cell 2
        have q3 := z3.cell 3
        have q4 := z3.cell 4
        simp only [List.getElem?_cons_zero, List.getElem?_cons_succ] at q0 q1 q2 q3 q4
        cases b4 with
        | false =>
          have hOf := hO.out
          simp only [Bool.false_and] at hOf
          clear hO
          go_wp2_with fail
          go_ret3
          exact ⟨hW4, .blocked hAt.out hOf⟩
        | true =>
          go_wp2_with fail
          ((with_reducible refine (asfree_b m (.slice sp sn sk) bl (.slice lp ln lk) c x2 y2 b5 w4 (hG.below hW4) h5).mono ?_); rintro e w5 ⟨rfl, hb5⟩)
          clear p0 p1 r0 r1 q0 q1 q2 q3 q4
          replace z1 := z1.below hb5
          replace z2 := z2.below hb5
          replace z3 := z3.below hb5
          have hW5 := below_call hW4 hb5
          have hb5K := hid hb5
          clear hb5
          have p0 := z1.cell 0
          have p1 := z1.cell 1
          simp only [List.getElem?_cons_zero, List.getElem?_cons_succ] at p0 p1
          have r0 := z2.cell 0
          have r1 := z2.cell 1
          simp only [List.getElem?_cons_zero, List.getElem?_cons_succ] at r0 r1
          have q0 := z3.cell 0
          have q1 := z3.cell 1
          have q2 := z3.cell 2
          have q3 := z3.cell 3
          have q4 := z3.cell 4
          simp only [List.getElem?_cons_zero, List.getElem?_cons_succ] at q0 q1 q2 q3 q4
          cases b5 with
          | false =>
            have hOf := hO.out
            simp only [Bool.and_false] at hOf
            clear hO
            go_wp2_with fail
            go_ret3
            exact ⟨hW5, .blocked hAt.out hOf⟩
          | true =>
            have hOt := hO.out
            simp only [Bool.and_self] at hOt
            clear hO
            replace hOt := hid hOt
            have hp1 := posn_idx hf h2.out.symm
            have hp2 := posn_idx hf h3.out.symm
            have cc := ascosts_at m (.slice sp sn sk) bl (.slice lp ln lk) c x2 y2 n w5 (hG.below hW5) hf h3.out.symm hn
            go_wp2_with fail
            ((with_reducible refine cc.mono ?_); rintro e w6 ⟨cb, D, rfl, j1, j2, j3, j4, hb6⟩)
            clear cc
            clear p0 p1 r0 r1 q0 q1 q2 q3 q4
            replace z1 := z1.below hb6
            replace z2 := z2.below hb6
            replace z3 := z3.below hb6
            have hW6 := below_call hW5 hb6
            have hb6K := hid hb6
            clear hb6
            have p0 := z1.cell 0
            have p1 := z1.cell 1
            simp only [List.getElem?_cons_zero, List.getElem?_cons_succ] at p0 p1
            have r0 := z2.cell 0
            have r1 := z2.cell 1
            simp only [List.getElem?_cons_zero, List.getElem?_cons_succ] at r0 r1
            have q0 := z3.cell 0
            have q1 := z3.cell 1
            have q2 := z3.cell 2
            have q3 := z3.cell 3
            have q4 := z3.cell 4
            simp only [List.getElem?_cons_zero, List.getElem?_cons_succ] at q0 q1 q2 q3 q4
            unfold Dst at j3
            rw [hp2.1, if_pos h5.out.symm] at j3
            obtain ⟨ia, hia⟩ : ∃ ia, Hid (ia = idx m (x, y)) := ⟨_, hid rfl⟩
            have hil : ia < D.length := by rw [j3.len, hia.out]; exact hp1.2.1
            have dI := ints_at hil
            obtain ⟨da, hda⟩ : ∃ da, Hid (da = ga D ia) := ⟨_, hid rfl⟩
            rw [← hda.out] at dI
            have ipn : (ia : Int) < (n : Int) := by have := hn.out; have := j3.len; omega
            have ip : (0 : Int) ≤ (ia : Int) := by omega
            have ck := asidx_b m (.slice sp sn sk) (.slice lp ln lk) c (x, y) ia w6 hf h2.out.symm hia
            have hs5 := hW5.size
            go_wp2_with fail
            ((with_reducible refine ck.mono ?_); rintro e w7 ⟨rfl, hb7⟩)
            clear ck
            clear p0 p1 r0 r1 q0 q1 q2 q3 q4
            replace z1 := z1.below hb7
            replace z2 := z2.below hb7
            replace z3 := z3.below hb7
            have hW7 := below_call hW6 hb7
            have hb7K := hid hb7
            clear hb7
            have p0 := z1.cell 0
            have p1 := z1.cell 1
            simp only [List.getElem?_cons_zero, List.getElem?_cons_succ] at p0 p1
            have r0 := z2.cell 0
            have r1 := z2.cell 1
            simp only [List.getElem?_cons_zero, List.getElem?_cons_succ] at r0 r1
            have q0 := z3.cell 0
            have q1 := z3.cell 1
            have q2 := z3.cell 2
            have q3 := z3.cell 3
            have q4 := z3.cell 4
            simp only [List.getElem?_cons_zero, List.getElem?_cons_succ] at q0 q1 q2 q3 q4
            have dI2 := (j2.below hb7K.out).cell ia
            rw [dI] at dI2
            by_cases e1 : da = -1
            · have z9 : (da == -1) = true := beq_iff_eq.2 e1
              have hda1 : ga D (idx m (x, y)) = -1 := by rw [← hia.out, ← hda.out]; exact e1
              clear e1
              go_wp2_with fail
              go_ret3
              exact ⟨hW7, .none D hAt.out hOt.out j3 hda1⟩
            · have z9 : (da == -1) = false := beq_eq_false_iff_ne.2 e1
              have hda1 : 0 ≤ ga D (idx m (x, y)) := by have := (j4 (idx m (x, y))).1; have h9 := hda.out; rw [hia.out] at h9; omega
              have hde : da = ga D (idx m (x, y)) := by rw [hda.out, hia.out]
              have cd := asdesc_b m (.slice sp sn sk) bl (.slice lp ln lk) c (idx m (x, y)) (idx m (x2, y2)) cb n D w7 (hG.below hW7) hf hp1.2.1 hp2.2.1 hn (j2.below hb7K.out) j3 hda1 j4
              rw [hp1.1] at cd
              replace hde := hid hde
              clear e1
              go_wp2_with fail
              ((with_reducible refine cd.mono ?_); rintro e w8 ⟨v8, rfl, r1, r2⟩)
              clear cd
              have hs7 := hW7.size
              go_wp2_with fail
              go_ret3
              rw [hde.out]
              exact ⟨below_call hW7 r2, .way D v8 hAt.out hOt.out j3 hda1 j4 (own_le2 r1 hs7)⟩

end Go.Proofs.YtbdgpldhfemejaaDoor
