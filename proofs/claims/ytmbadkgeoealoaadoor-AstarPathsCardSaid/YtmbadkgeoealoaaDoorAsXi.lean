/-
  The laws of astar: what Path returns.
-/
import Derived.Test.YtmbadkgeoealoaaDoorAsXh
namespace Go.Proofs.YtmbadkgeoealoaaDoor
open Go.RowKit Go.Lib

set_option maxHeartbeats 4000000 in
theorem r14samep_b (u v : Value) (ps qs : List Pt) (W : World) (hu : PsAt W u ps) (hv : PsAt W v qs) (e : ps = qs) :
    Calls Tryd.prog 17 #[u, v] W fun e w' => e = .returned (.bool true) ∧ Below W.heap.size W w' := by
  subst e
  obtain ⟨p, c, rfl, -, h2, hp⟩ := hu
  obtain ⟨p', c', rfl, -, -, hp'⟩ := hv
  obtain ⟨n, hn⟩ : ∃ n, Hid (ps.length = n) := ⟨_, hid rfl⟩
  rw [show (Value.slice p ps.length c) = .slice p n c by rw [hn.out], show (Value.slice p' ps.length c') = .slice p' n c' by rw [hn.out]]
  rw [hn.out] at h2
  unfold maxLen at h2
  go_enter Tryd.func17, Tryd.ntmps17
  go_wp2_with fail
  go_loopw [5] (fun vi wr => ∃ i : Nat, vi = .int .i64 i ∧ i ≤ n ∧ Below W.heap.size W wr) (fun vi _ => n - (RowKit.intOf vi).toNat)
  case atStart => exact ⟨0, rfl, by omega, Below.refl _ _⟩
  case round =>
    obtain ⟨i, rfl, hi, hL⟩ := hrel
    by_cases hlt : i < n
    · have z1 : decide ((i : Int) < (n : Int)) = true := decide_eq_true (by omega)
      have hip : i < ps.length := by rw [hn.out]; exact hlt
      obtain ⟨g, o, rfl, kg, hc⟩ := hp (by omega)
      obtain ⟨g', o', rfl, kg', hc'⟩ := hp' (by omega)
      obtain ⟨a1, a2⟩ := hc i hip
      obtain ⟨a3, a4⟩ := hc' i hip
      rw [← hL.cell (p := ⟨g, _, none⟩) kg] at a1 a2
      rw [← hL.cell (p := ⟨g', _, none⟩) kg'] at a3 a4
      obtain ⟨q, hq⟩ : ∃ q, ps[i]'hip = q := ⟨_, rfl⟩
      rw [hq] at a1 a2 a3 a4
      have b0 : (0 : Int) ≤ (i : Int) := by omega
      have b1 : (i : Int) < (n : Int) := by omega
      have nadd : IntKind.i64.wrap ((i : Int) + 1) = ((i + 1 : Nat) : Int) := by rw [IntWalk.i64_in _ (by omega)]; simp
      clear hc hc' hp hp' hq
      go_wp2_with fail
      go_quiet (fail)
      go_wp2_with fail
      go_roundw
      case rel => exact ⟨i + 1, by go_num, by omega, below_many hL _⟩
      case measure => simp [RowKit.intOf]; omega
    · obtain rfl : n = i := by omega
      have z1 : decide ((n : Int) < (n : Int)) = false := decide_eq_false (by omega)
      go_wp2_with fail
      go_ret
      exact ⟨rfl, hL⟩
theorem aspath_q (m : M3) (sp : Option Addr) (sn sk : Nat) (bl : List Bool) (lp : Option Addr) (ln lk : Nat) (c : Int) (a b : Pt) (W : World) (hG : Gd W m (.slice sp sn sk) bl (.slice lp ln lk)) :
    Calls Tryd.prog 15 #[.agg #[.int .i64 m.w, .int .i64 m.h, .slice sp sn sk], .slice lp ln lk, .int .i64 c, .agg #[.int .i64 a.1, .int .i64 a.2], .agg #[.int .i64 b.1, .int .i64 b.2]] W fun e w' =>
      Below W.heap.size W w' ∧ ∃ v ps n er, e = .returned (.tuple #[v, .int .i64 n, .int .i64 er]) ∧ PsAt w' v ps ∧ PathQ m bl c a b ps n er :=
  (aspath_b m sp sn sk bl lp ln lk c a.1 a.2 b.1 b.2 W hG).mono fun e w' ⟨hb, h⟩ => ⟨hb, by
    cases h with
    | arg h => exact ⟨_, [], _, _, rfl, PsAt.nil _, .arg h⟩
    | blocked h1 h2 => exact ⟨_, [], _, _, rfl, PsAt.nil _, .shut h1 h2⟩
    | none D h1 h2 hd h => exact ⟨_, [], _, _, rfl, PsAt.nil _, .none D h1 h2 hd (show ga D (idx m a) < 0 by have h' : ga D (idx m a) = -1 := h; omega)⟩
    | way D v h1 h2 hd h3 h4 ho => exact ⟨v, _, _, _, rfl, PsAt.any ho rfl, .way D h1 h2 hd h3⟩⟩

set_option maxRecDepth 100000 in
set_option maxHeartbeats 8000000 in
theorem law14_paths (m : M3) (s : Value) (bl : List Bool) (l : Value) (c : Int) (a b d : Pt) (W : World) (hE : EnvT W) (hn : HighAt m) (hr : RowAt W s m.cs) (hl : BitsAt W l bl) :
    Calls Tryd.prog 3 #[.agg #[.int .i64 m.w, .int .i64 m.h, s, l, .int .i64 c, .int .i64 a.1, .int .i64 a.2, .int .i64 b.1, .int .i64 b.2, .int .i64 d.1, .int .i64 d.2]] W fun e w' => e = .returned (.bool true) ∧ Below W.heap.size W w' := by
  have hG : Gd W m s bl l := ⟨hE, hn, hr, hl⟩
  obtain ⟨p0, c0, rfl⟩ := hr.slice
  obtain ⟨pl, kl, rfl, -⟩ := id hl
  obtain ⟨sm, hsm⟩ : ∃ sm, Hid (sm = decide (m.cs.length ≤ 1100 ∧ bl.length ≤ 2000)) := ⟨_, hid rfl⟩
  have ch := fun (w : World) => assmall_b m p0 pl bl.length c0 kl c a.1 a.2 b.1 b.2 d.1 d.2 sm w hsm
  have ca := fun (w : World) (hb : Below W.heap.size W w) => asalive_b w (hE.keep hb)
  have hB := Blk.new W [.int .i64 m.w, .int .i64 m.h, .slice p0 m.cs.length c0, .slice pl bl.length kl, .int .i64 c, .int .i64 a.1, .int .i64 a.2, .int .i64 b.1, .int .i64 b.2, .int .i64 d.1, .int .i64 d.2] 29
  have hW := (Below.refl W.heap.size W).alloc (Nat.le_refl _) (.cells [Value.int .i64 m.w, .int .i64 m.h, .slice p0 m.cs.length c0, .slice pl bl.length kl, .int .i64 c, .int .i64 a.1, .int .i64 a.2, .int .i64 b.1, .int .i64 b.2, .int .i64 d.1, .int .i64 d.2].toArray 29)
  go_enter Tryd.func3, Tryd.ntmps3
  go_upto_region 1 with fail
  obtain ⟨X, hX⟩ : ∃ X, X = W.alloc (.cells [Value.int .i64 m.w, .int .i64 m.h, .slice p0 m.cs.length c0, .slice pl bl.length kl, .int .i64 c, .int .i64 a.1, .int .i64 a.2, .int .i64 b.1, .int .i64 b.2, .int .i64 d.1, .int .i64 d.2].toArray 29) := ⟨_, rfl⟩
  rw [← hX] at hB hW ⊢
  clear hX
  have q0 := hB.cell 0
  have q1 := hB.cell 1
  have q2 := hB.cell 2
  have q3 := hB.cell 3
  have q4 := hB.cell 4
  have q5 := hB.cell 5
  have q6 := hB.cell 6
  have q7 := hB.cell 7
  have q8 := hB.cell 8
  have q9 := hB.cell 9
  have q10 := hB.cell 10
  simp only [List.getElem?_cons_zero, List.getElem?_cons_succ] at q0 q1 q2 q3 q4 q5 q6 q7 q8 q9 q10
  go_wp2_with fail
  ((with_reducible refine (ch _).mono ?_); rintro e w1 ⟨rfl, hb⟩)
  replace hW := below_call hW hb
  replace hB := hB.below hb
  clear hb ch q0 q1 q2 q3 q4 q5 q6 q7 q8 q9 q10
  cases sm with
  | false =>
    go_wp2_with (go_at_call 14; with_reducible refine (ca _ hW).mono ?_; rintro e w2 ⟨rfl, hb⟩)
    go_ret
    exact ⟨rfl, below_call hW hb⟩
  | true =>
    have q0 := hB.cell 0
    have q1 := hB.cell 1
    have q2 := hB.cell 2
    have q3 := hB.cell 3
    have q4 := hB.cell 4
    have q5 := hB.cell 5
    have q6 := hB.cell 6
    have q7 := hB.cell 7
    have q8 := hB.cell 8
    have q9 := hB.cell 9
    have q10 := hB.cell 10
    simp only [List.getElem?_cons_zero, List.getElem?_cons_succ] at q0 q1 q2 q3 q4 q5 q6 q7 q8 q9 q10
    go_wp2_with fail
    ((with_reducible refine (aspath_q m p0 m.cs.length c0 bl pl bl.length kl c a b w1 (hG.below hW)).mono ?_); rintro e w2 ⟨hb, v1, ps1, n1, e1, rfl, hp1, hq1⟩)
    replace hB := hB.below hb
    replace hW := below_call hW hb
    clear hb q0 q1 q2 q3 q4 q5 q6 q7 q8 q9 q10
    have q0 := hB.cell 0
    have q1 := hB.cell 1
    have q2 := hB.cell 2
    have q3 := hB.cell 3
    have q4 := hB.cell 4
    have q5 := hB.cell 5
    have q6 := hB.cell 6
    have q7 := hB.cell 7
    have q8 := hB.cell 8
    have q9 := hB.cell 9
    have q10 := hB.cell 10
    simp only [List.getElem?_cons_zero, List.getElem?_cons_succ] at q0 q1 q2 q3 q4 q5 q6 q7 q8 q9 q10
    go_wp2_with fail
    ((with_reducible refine (r14path_b m p0 m.cs.length c0 bl pl bl.length kl c a b w2 hn (hr.below hW) (hl.below hW)).mono ?_); rintro e w3 ⟨hb, v2, ps2, n2, e2, rfl, hp2, hq2⟩)
    replace hp1 := hp1.below hb
    replace hW := below_call hW hb
    obtain ⟨g1, g2, g3⟩ := hq1.eq hq2
    subst g2 g3
    clear hb hq1 hq2 q0 q1 q2 q3 q4 q5 q6 q7 q8 q9 q10
    have cs := r14samep_b v1 v2 ps1 ps2 w3 hp1 hp2 g1
    clear g1 hp1 hp2
    go_wp2_with fail
    ((with_reducible refine cs.mono ?_); rintro e w4 ⟨rfl, hb⟩)
    replace hW := below_call hW hb
    clear hb
    go_wp2_with (go_at_call 14; with_reducible refine (ca _ hW).mono ?_; rintro e w9 ⟨rfl, hb⟩)
    go_ret
    exact ⟨rfl, below_call hW hb⟩

end Go.Proofs.YtmbadkgeoealoaaDoor
