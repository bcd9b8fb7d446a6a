/-
  What the functions of astar answer: regions, Path, Reach, Cost.
-/
import Derived.Test.YtpgchjhfhndaaaaDoorAsLandQ
namespace Go.Proofs.YtpgchjhfhndaaaaDoor

section
open Go.RowKit Go.Lib Go.Shelf

attribute [local go_sem] Oper.semAt_some
def FillP (m : M3) (bl : List Bool) (c : Int) (i rb : Nat) (R0 : List Int) (W w' : World) : Prop := ∃ R, Blk w' rb (ints R) 3 ∧ Fill (nb m bl c) m.cs.length i R0 R [] (fun _ => False) ∧ Foot (fun b => b = rb) W (fun b => b = rb) w'

end

section
open Go.RowKit Go.Lib Go.Shelf

theorem own_le2 {w : World} {B B' size n : Nat} {e : TypeId} {v : Value} {xs : List Value} (h : w.ownsRow B e size v n xs) (hb : B' ≤ B) : w.ownsRow B' e size v n xs :=
  ⟨h.1, h.2.imp id fun ⟨g, cap, cur, e, hB, rest⟩ => ⟨g, cap, cur, e, Nat.le_trans hb hB, rest⟩⟩
theorem classv_of {m : M3} {c : Int} (h : (validm m && classv c) = true) : formedv m = true := by
  unfold validm at h
  simp only [Bool.and_eq_true] at h
  exact h.1.1
/-- The costs from a position inside. -/
theorem ascosts_at (m : M3) (s : Value) (bl : List Bool) (l : Value) (c x y : Int) (n : Nat) (W : World) (hG : Gd W m s bl l) (hf : formedv m = true) (hi : insp m (x, y) = true) (hn : Hid (m.cs.length = n)) :
    Calls Tryd.prog 78 #[.agg #[.int .i64 m.w, .int .i64 m.h, s, l, .int .i64 c], .agg #[.int .i64 x, .int .i64 y]] W (CostsP m bl c (idx m (x, y)) n W) := by
  have hp := posn_idx hf hi
  have h := ascosts_b m s bl l c (idx m (x, y)) n W hG hf hp.2.1 hn
  rw [hp.1] at h
  exact h

set_option maxHeartbeats 2000000 in
theorem asreach_b (m : M3) (sp : Option Addr) (sn sk : Nat) (bl : List Bool) (lp : Option Addr) (ln lk : Nat) (c x y : Int) (b : Bool) (n : Nat) (W : World) (hG : Gd W m (.slice sp sn sk) bl (.slice lp ln lk)) (hn : Hid (m.cs.length = n)) (hb : Hid (b = (validm m && classv c && insp m (x, y)))) :
    Calls Tryd.prog 55 #[.agg #[.int .i64 m.w, .int .i64 m.h, .slice sp sn sk], .slice lp ln lk, .int .i64 c, .agg #[.int .i64 x, .int .i64 y]] W fun e w' => (b = false ∧ e = .returned (.slice none 0 0) ∧ Below W.heap.size W w') ∨ (b = true ∧ CostsP m bl c (idx m (x, y)) n W e w') := by
  obtain ⟨b1, h1⟩ : ∃ b1, Hid (b1 = (validm m && classv c)) := ⟨_, hid rfl⟩
  obtain ⟨b2, h2⟩ : ∃ b2, Hid (b2 = insp m (x, y)) := ⟨_, hid rfl⟩
  have hbb : Hid (b = (b1 && b2)) := hid (by rw [hb.out, h1.out, h2.out])
  clear hb
  have hK := (((Keep.nil W).alloc [.int .i64 m.w, .int .i64 m.h, .slice sp sn sk] 24).alloc [.int .i64 x, .int .i64 y] 26).alloc [.int .i64 m.w, .int .i64 m.h, .slice sp sn sk, .slice lp ln lk, .int .i64 c] 98
  simp only [World.size_alloc] at hK
  go_enter Tryd.func55, Tryd.ntmps55
  go_wp2_with fail
  obtain ⟨X, hX⟩ : ∃ X, X = ((W.alloc (.cells [Value.int .i64 m.w, .int .i64 m.h, .slice sp sn sk].toArray 24)).alloc (.cells [Value.int .i64 x, .int .i64 y].toArray 26)).alloc (.cells [Value.int .i64 m.w, .int .i64 m.h, .slice sp sn sk, .slice lp ln lk, .int .i64 c].toArray 98) := ⟨_, rfl⟩
  rw [← hX] at hK ⊢
  clear hX
  obtain ⟨k2, e2⟩ : ∃ k2, k2 = W.heap.size + 1 + 1 := ⟨_, rfl⟩
  obtain ⟨k1, e1⟩ : ∃ k1, k1 = W.heap.size + 1 := ⟨_, rfl⟩
  have z2 : Blk X k2 (grdL m (.slice sp sn sk) (.slice lp ln lk) c) 98 := (hK.blks (W.heap.size + 1 + 1, grdL m (.slice sp sn sk) (.slice lp ln lk) c, 98) (by simp)).at e2.symm
  have z1 : Blk X k1 (ptL (x, y)) 26 := (hK.blks (W.heap.size + 1, ptL (x, y), 26) (by simp)).at e1.symm
  have hWX := hK.old
  rw [← e2, ← e1]
  clear hK e1 e2
  ((with_reducible refine (asvalid_b m (.slice sp sn sk) (.slice lp ln lk) c b1 X (hG.row.below hWX) h1).mono ?_); rintro e w1 ⟨rfl, hb1⟩)
  replace z1 := z1.below hb1
  replace z2 := z2.below hb1
  have hW1 := below_call hWX hb1
  clear hb1
  have p0 := z1.cell 0
  have p1 := z1.cell 1
  simp only [List.getElem?_cons_zero, List.getElem?_cons_succ] at p0 p1
  have q0 := z2.cell 0
  have q1 := z2.cell 1
  have q2 := z2.cell 2
  have q3 := z2.cell 3
  have q4 := z2.cell 4
  simp only [List.getElem?_cons_zero, List.getElem?_cons_succ] at q0 q1 q2 q3 q4
  cases b1 with
  | false =>
    have hbf : b = false := hbb.out
    clear hbb
    go_wp2_with fail
    go_ret
    exact .inl ⟨hbf, rfl, hW1⟩
  | true =>
    have hf := classv_of h1.out.symm
    go_wp2_with fail
    ((with_reducible refine (asinside_b m (.slice sp sn sk) (.slice lp ln lk) c x y b2 w1 h2).mono ?_); rintro e w2 ⟨rfl, hb2⟩)
    replace z1 := z1.below hb2
    replace z2 := z2.below hb2
    have hW2 := below_call hW1 hb2
    clear p0 p1 q0 q1 q2 q3 q4 hb2
    have p0 := z1.cell 0
    have p1 := z1.cell 1
    simp only [List.getElem?_cons_zero, List.getElem?_cons_succ] at p0 p1
    have q0 := z2.cell 0
    have q1 := z2.cell 1
    have q2 := z2.cell 2
    have q3 := z2.cell 3
    have q4 := z2.cell 4
    simp only [List.getElem?_cons_zero, List.getElem?_cons_succ] at q0 q1 q2 q3 q4
    cases b2 with
    | false =>
      have hbf : b = false := hbb.out
      clear hbb
      go_wp2_with fail
      go_ret
      exact .inl ⟨hbf, rfl, hW2⟩
    | true =>
      have hbf : b = true := hbb.out
      clear hbb
      have cc := ascosts_at m (.slice sp sn sk) bl (.slice lp ln lk) c x y n w2 (hG.below hW2) hf h2.out.symm hn
      go_wp2_with fail
      ((with_reducible refine cc.mono ?_); rintro e w3 ⟨cb, D, rfl, k3, k4, k5, k6, k7⟩)
      clear cc
      have hs2 := hW2.size
      go_wp2_with fail
      go_ret
      exact .inr ⟨hbf, cb, D, rfl, by omega, k4, k5, k6, below_call hW2 k7⟩

/-- What Path answers. -/
inductive PathA (m : M3) (bl : List Bool) (c : Int) (a b : Pt) (W : World) : Ending → World → Prop
  | arg {w' : World} : (validm m && classv c && insp m a && insp m b) = false → PathA m bl c a b W (.returned (.tuple #[.slice none 0 0, .int .i64 0, .int .i64 1])) w'
  | blocked {w' : World} : (validm m && classv c && insp m a && insp m b) = true → (openv m bl c a.1 a.2 && openv m bl c b.1 b.2) = false → PathA m bl c a b W (.returned (.tuple #[.slice none 0 0, .int .i64 0, .int .i64 9])) w'
  | none {w' : World} (D : List Int) : (validm m && classv c && insp m a && insp m b) = true → (openv m bl c a.1 a.2 && openv m bl c b.1 b.2) = true → IsDist (nb m bl c) m.cs.length (idx m b) D → ga D (idx m a) = -1 → PathA m bl c a b W (.returned (.tuple #[.slice none 0 0, .int .i64 0, .int .i64 22])) w'
  | way {w' : World} (D : List Int) (v : Value) : (validm m && classv c && insp m a && insp m b) = true → (openv m bl c a.1 a.2 && openv m bl c b.1 b.2) = true → IsDist (nb m bl c) m.cs.length (idx m b) D → 0 ≤ ga D (idx m a) → (∀ q, -1 ≤ ga D q ∧ ga D q ≤ 30000) →
    w'.ownsRow W.heap.size 26 2 v (pathG (nb m bl c) D (idx m a)).length (pls m (pathG (nb m bl c) D (idx m a))) → PathA m bl c a b W (.returned (.tuple #[v, .int .i64 (ga D (idx m a)), .int .i64 0])) w'

end

section
open Go.RowKit Go.Lib Go.Shelf

/-- A cell that units may be on. -/
def opn (m : M3) (bl : List Bool) (c : Int) (i : Nat) : Prop := openv m bl c (posn m i).1 (posn m i).2 = true
theorem conn_open {m : M3} (hf : formedv m = true) (bl : List Bool) (c : Int) (p q : Nat) (h : Conn (nb m bl c) p q) (hne : p ≠ q) : opn m bl c p ∧ opn m bl c q := by
  obtain ⟨w, h⟩ := h
  induction h with
  | here => exact absurd rfl hne
  | step k mm ih =>
    rename_i r t d w
    obtain ⟨hr, x, hx, rfl, _⟩ := mem_nb.1 mm
    have hin := nbp_in hx
    have h2 : opn m bl c (idx m x.1) := by unfold opn; rw [(posn_idx hf hin.1).1]; exact hin.2.2.1
    refine ⟨?_, h2⟩
    by_cases e : p = r
    · rw [e]; exact hin.2.2.2
    · exact (ih e).1
def RegsP (m : M3) (bl : List Bool) (c : Int) (n : Nat) (W : World) (e : Ending) (w' : World) : Prop :=
  ∃ rb R, e = .returned (.slice (some ⟨rb, 0, none⟩) n n) ∧ W.heap.size ≤ rb ∧ Blk w' rb (ints R) 3 ∧ Regs (nb m bl c) m.cs.length (opn m bl c) m.cs.length R ∧ Below W.heap.size W w'

end

section
open Go.RowKit Go.Lib Go.Shelf

/-- A slice of positions that can be read. -/
def PsAt (W : World) (s : Value) (l : List Pt) : Prop :=
  ∃ p c, s = .slice p l.length c ∧ l.length ≤ c ∧ l.length ≤ maxLen ∧ (1 ≤ l.length → ∃ g o, p = some ⟨g, o, none⟩ ∧ g < W.heap.size ∧ ∀ i, (h : i < l.length) → W.cell? ⟨g, o + i * 2, none⟩ = some (.int .i64 (l[i]'h).1) ∧ W.cell? ⟨g, o + i * 2 + 1, none⟩ = some (.int .i64 (l[i]'h).2))
theorem PsAt.below {W w' : World} {s : Value} {l : List Pt} (h : PsAt W s l) (hb : Below W.heap.size W w') : PsAt w' s l := by
  obtain ⟨p, c, rfl, hc1, hm, hc⟩ := h
  refine ⟨p, c, rfl, hc1, hm, fun h1 => ?_⟩
  obtain ⟨g, o, rfl, hg, hi⟩ := hc h1
  refine ⟨g, o, rfl, Nat.lt_of_lt_of_le hg hb.size, fun i hi' => ?_⟩
  obtain ⟨a, b⟩ := hi i hi'
  exact ⟨(hb.cell (p := ⟨g, o + i * 2, none⟩) hg).trans a, (hb.cell (p := ⟨g, o + i * 2 + 1, none⟩) hg).trans b⟩
theorem PsAt.any {w : World} {B n : Nat} {v : Value} {m : M3} {F : List Nat} (h : w.ownsRow B 26 2 v n (pls m F)) (hn : F.length = n) : PsAt w v (F.map (posn m)) := by
  subst hn
  rcases id h.2 with ⟨rfl, h0⟩ | ⟨g, cap, cur, rfl, _, _, hc1, hc2, _⟩
  · have : F = [] := List.eq_nil_of_length_eq_zero h0
    subst this
    exact ⟨none, 0, rfl, Nat.zero_le _, Nat.zero_le _, fun h => by simp at h⟩
  · refine ⟨some ⟨g, 0, none⟩, cap, by rw [List.length_map], by rw [List.length_map]; exact hc1, by rw [List.length_map]; omega, fun _ => ⟨g, 0, rfl, (h.lt g rfl).2, fun i hi => ?_⟩⟩
    have hi2 : i < F.length := by rw [List.length_map] at hi; exact hi
    have pj := pcells_at (F.map (posn m)) i hi
    rw [Nat.mul_comm 2 i] at pj
    rw [Nat.zero_add]
    exact ⟨(h.cellAt (i * 2) (by omega)).trans pj.1, (h.cellAt (i * 2 + 1) (by omega)).trans pj.2⟩

end

section
open Go.RowKit Go.Lib Go.Shelf

/-- What the steps of a way cost together. -/
def sumC (m : M3) (bl : List Bool) (c : Int) : Pt → List Pt → Option Int
  | _, [] => some 0
  | p, q :: t => match stepC m bl c p q with
    | none => none
    | some w => (sumC m bl c q t).map (w + ·)
def costA (m : M3) (bl : List Bool) (c : Int) (ps : List Pt) : Int × Int :=
  if (validm m && classv c && !ps.isEmpty && ps.all (insp m)) = false then (0, 1) else
  match ps with
  | [] => (0, 1)
  | p :: t => if openv m bl c p.1 p.2 = false then (0, 9) else
    match sumC m bl c p t with
    | none => (0, 9)
    | some s => (s, 0)

end

end Go.Proofs.YtpgchjhfhndaaaaDoor
