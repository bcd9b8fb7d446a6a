/-
  The laws of astar: what a path costs, and what least costs are in both directions.
-/
import Derived.Test.YtmbadkgeoealoaaDoorAsU
namespace Go.Proofs.YtmbadkgeoealoaaDoor
open Go.RowKit Go.Lib

theorem step_pos {m : M3} (hf : formedv m = true) {bl : List Bool} {c : Int} {p q : Nat} {w : Int} (h : (q, w) ∈ nb m bl c p) : stepC m bl c (posn m p) (posn m q) = some w := by
  obtain ⟨hp, x, hx, e1, e2⟩ := mem_nb.1 h
  have hin := (nbp_in hx).1
  have hq : posn m q = x.1 := by rw [e1]; exact (posn_idx hf hin).1
  unfold stepC
  rw [hq]
  cases hfd : (nbp m bl c (posn m p)).find? fun y => decide (y.1 = x.1) with
  | none =>
    have := List.find?_eq_none.1 hfd x hx
    simp at this
  | some y =>
    have hy := List.mem_of_find?_eq_some hfd
    have hd := List.find?_some hfd
    simp only [decide_eq_true_eq] at hd
    have hm : (q, y.2) ∈ nb m bl c p := mem_nb.2 ⟨hp, y, hy, by rw [hd]; exact e1, rfl⟩
    have := (nb_ok hf bl c).one _ _ _ _ h hm
    show some y.2 = some w
    rw [this]
theorem run_sum {m : M3} (hf : formedv m = true) {bl : List Bool} {c : Int} : ∀ (t : List Nat) (p : Nat) (s : Int), Run (nb m bl c) (p :: t) s → sumC m bl c (posn m p) (t.map (posn m)) = some s
  | [], p, s, h => by
    cases h with
    | one => rfl
  | q :: t, p, s, h => by
    cases h with
    | cons hm hr =>
      have ih := run_sum hf t q _ hr
      rw [List.map_cons]
      simp only [sumC]
      rw [step_pos hf hm, ih]
      rfl
theorem run_in {m : M3} (hf : formedv m = true) {bl : List Bool} {c : Int} : ∀ (t : List Nat) (p : Nat) (s : Int), p < m.cs.length → Run (nb m bl c) (p :: t) s → ((p :: t).map (posn m)).all (insp m) = true
  | [], p, _, hp, _ => by
    simp only [List.map_cons, List.map_nil, List.all_cons, List.all_nil, Bool.and_true]
    exact (idx_posn hf hp).2
  | q :: t, p, _, hp, h => by
    cases h with
    | cons hm hr =>
      have hq := ((nb_ok hf bl c).lt _ _ _ hm).2
      have ih := run_in hf t q _ hq hr
      rw [List.map_cons, List.all_cons, ih, (idx_posn hf hp).2]
      rfl
/-- What Cost says of a path that Path gives. -/
theorem path_cost {m : M3} {bl : List Bool} {c : Int} {a b : Pt} {D : List Int} (h1 : okA m c a b = true) (h2 : frA m bl c a b = true) (hd : IsDist (nb m bl c) m.cs.length (idx m b) D) (h0 : 0 ≤ ga D (idx m a)) :
    costA m bl c ((pathG (nb m bl c) D (idx m a)).map (posn m)) = (ga D (idx m a), 0) ∧ (∃ t, (pathG (nb m bl c) D (idx m a)).map (posn m) = a :: t) ∧ ((pathG (nb m bl c) D (idx m a)).map (posn m)).getLast? = some b := by
  unfold okA at h1
  unfold frA at h2
  simp only [Bool.and_eq_true] at h1 h2
  have hf : formedv m = true := classv_of (c := c) (by rw [h1.1.1.1, h1.1.1.2]; rfl)
  obtain ⟨pa, la, _⟩ := posn_idx hf h1.1.2
  obtain ⟨pb, lb, _⟩ := posn_idx hf h1.2
  obtain ⟨r1, r2, _⟩ := path_run (nb_ok hf bl c) lb hd (ga D (idx m a)).toNat (idx m a) h0 (by omega)
  obtain ⟨t, ht⟩ := path_head (nb := nb m bl c) D (idx m a)
  rw [ht] at r1 r2 ⊢
  have hs := run_sum hf t _ _ r1
  have hi := run_in hf t _ _ la r1
  refine ⟨?_, ⟨t.map (posn m), by rw [List.map_cons, pa]⟩, by rw [List.getLast?_map, r2]; show some (posn m (idx m b)) = some b; rw [pb]⟩
  unfold costA
  rw [List.map_cons, pa] at hi ⊢
  rw [pa] at hs
  rw [if_neg (by rw [hi, h1.1.1.1, h1.1.1.2]; exact (show ¬ (true = false) by decide))]
  show (if openv m bl c a.1 a.2 = false then ((0, 9) : Int × Int) else match sumC m bl c a (t.map (posn m)) with | none => (0, 9) | some s => (s, 0)) = _
  rw [if_neg (by rw [h2.1]; decide), hs]
/-- Least costs are the same in both directions. -/
theorem dist_both {nb : Nb} {n a b : Nat} {D E : List Int} (ok : GOk nb n) (ha : a < n) (hb : b < n) (hd : IsDist nb n b D) (he : IsDist nb n a E) (h0 : 0 ≤ ga D a) : ga E b = ga D a := by
  have w1 := (hd.way h0).symm ok
  have k1 := he.least ok ha w1
  have w2 := (he.way k1.1).symm ok
  have k2 := hd.least ok hb w2
  omega

end Go.Proofs.YtmbadkgeoealoaaDoor
