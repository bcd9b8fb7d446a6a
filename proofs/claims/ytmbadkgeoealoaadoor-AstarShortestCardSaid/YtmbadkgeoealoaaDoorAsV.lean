/-
  The laws of astar: regions tell where there are ways.
-/
import Derived.Test.YtmbadkgeoealoaaDoorAsU
namespace Go.Proofs.YtmbadkgeoealoaaDoor
open Go.RowKit Go.Lib

/-- A position's number, as a law works it out. -/
theorem law_idx {m : M3} (hf : formedv m = true) {p : Pt} (h : insp m p = true) : IntKind.i64.wrap (p.2 * m.w) = p.2 * m.w ∧ IntKind.i64.wrap (p.2 * m.w + p.1) = (idx m p : Int) := by
  obtain ⟨X, Y, e1, e2, x1, x2, y1, y2, _⟩ := formed_num hf
  obtain ⟨s1, s2⟩ := ins_small hf h
  have hi := (posn_idx hf h).2.2
  unfold indexv at hi
  rw [nr_in (by omega) (by omega), nr_in (by omega) (by omega), nr_in (by omega) (by omega)] at hi
  have hm : 0 ≤ p.2 * m.w := Int.mul_nonneg s2.1 (by omega)
  have hm2 : p.2 * m.w ≤ 31 * 32 := Int.mul_le_mul s2.2 (by omega) (by omega) (by omega)
  exact ⟨IntWalk.i64_in _ (by omega), by rw [IntWalk.i64_in _ (by omega)]; exact hi⟩
theorem regs_told {m : M3} {bl : List Bool} {c : Int} {a b : Pt} {v : Value} {n er : Int} {w : World} {R : List Int} (h : PathF m bl c a b v n er w) (he : er = 0 ∨ er = 22) (hR : Regs (nb m bl c) m.cs.length (opn m bl c) m.cs.length R) :
    0 ≤ ga R (idx m a) ∧ ga R (idx m a) ≤ (idx m a : Int) ∧ (er = 0 ↔ ga R (idx m a) = ga R (idx m b)) := by
  have hok : okA m c a b = true ∧ frA m bl c a b = true := by
    rcases he with e | e
    · exact ⟨(h.good e).1, (h.good e).2.1⟩
    · exact ⟨(h.none_ e).1, (h.none_ e).2.1⟩
  obtain ⟨o1, f1⟩ := hok
  unfold okA at o1
  unfold frA at f1
  simp only [Bool.and_eq_true] at o1 f1
  have hf : formedv m = true := classv_of (c := c) (by rw [o1.1.1.1, o1.1.1.2]; rfl)
  have ok := nb_ok hf bl c
  obtain ⟨pa, la, _⟩ := posn_idx hf o1.1.2
  obtain ⟨pb, lb, _⟩ := posn_idx hf o1.2
  have fa : opn m bl c (idx m a) := by unfold opn; rw [pa]; exact f1.1
  have fb : opn m bl c (idx m b) := by unfold opn; rw [pb]; exact f1.2
  obtain ⟨ka, ea, a1, a2, a3⟩ := hR.yes _ la fa _ la (.refl _)
  obtain ⟨kb, eb, _, b2, b3⟩ := hR.yes _ lb fb _ lb (.refl _)
  refine ⟨by omega, by omega, fun e => ?_, fun e => ?_⟩
  · obtain ⟨_, _, D, d1, g1, _⟩ := h.good e
    have hc : Conn (nb m bl c) (idx m b) (idx m a) := ⟨_, d1.way g1⟩
    have := a3 kb (b2.trans hc)
    have := b3 ka (a2.trans (hc.symm ok))
    omega
  · rcases he with he | he
    · exact he
    · obtain ⟨_, _, D, d1, g1⟩ := h.none_ he
      have hk : ka = kb := by omega
      subst hk
      obtain ⟨w, hw⟩ := (b2.symm ok).trans a2
      have := d1.least ok lb hw
      omega

end Go.Proofs.YtmbadkgeoealoaaDoor
