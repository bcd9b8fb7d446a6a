/-
  What the functions of grid answer, as landed at da8c777: distances.
-/
import Derived.Deep.Cut
import Derived.StillTailTactics
import Derived.Deep.RegionWith
import Derived.Test.YtpgchjhfhndaaaaGreatDoorGridLand
namespace Go.Proofs.YtpgchjhfhndaaaaGreatDoor
open Go.RowKit Go.Lib

theorem Held2.setl {w W : World} {b c : Nat} {us vs : List Value} {t s : TypeId} (h : Held2 w W b c us vs t s) (n : b ≠ c) (hb : w.heap.size ≤ b) (i : Nat) (x : Value) : Held2 w (W.setCell ⟨b, i, none⟩ x) b c (us.set i x) vs t s :=
  ⟨h.l.set i x, h.r.far x (Ne.symm n), h.old.setCell (p := ⟨b, i, none⟩) hb x⟩
theorem Held2.setr {w W : World} {b c : Nat} {us vs : List Value} {t s : TypeId} (h : Held2 w W b c us vs t s) (n : b ≠ c) (hc : w.heap.size ≤ c) (i : Nat) (x : Value) : Held2 w (W.setCell ⟨c, i, none⟩ x) b c us (vs.set i x) t s :=
  ⟨h.l.far x n, h.r.set i x, h.old.setCell (p := ⟨c, i, none⟩) hc x⟩
theorem Held2.stored22 {w W : World} {b c : Nat} {p q u v p' q' u' v' : Value} {t s : TypeId} (h : Held2 w W b c [p, q] [u, v] t s) (n : b ≠ c) (hb : w.heap.size ≤ b) (hc : w.heap.size ≤ c) :
    Held2 w ((((W.setCell ⟨b, 0, none⟩ p').setCell ⟨b, 1, none⟩ q').setCell ⟨c, 0, none⟩ u').setCell ⟨c, 1, none⟩ v') b c [p', q'] [u', v'] t s :=
  (((h.setl n hb 0 p').setl n hb 1 q').setr n hc 0 u').setr n hc 1 v'
theorem Held2.stored22r {w W : World} {b c : Nat} {p q u v p' q' u' v' : Value} {t s : TypeId} (h : Held2 w W b c [p, q] [u, v] t s) (n : b ≠ c) (hb : w.heap.size ≤ b) (hc : w.heap.size ≤ c) :
    Held2 w ((((W.setCell ⟨c, 0, none⟩ u').setCell ⟨c, 1, none⟩ v').setCell ⟨b, 0, none⟩ p').setCell ⟨b, 1, none⟩ q') b c [p', q'] [u', v'] t s :=
  (((h.setr n hc 0 u').setr n hc 1 v').setl n hb 0 p').setl n hb 1 q'
theorem Held2.seen22 {w W : World} {b c : Nat} {p q u v : Value} {t s : TypeId} (h : Held2 w W b c [p, q] [u, v] t s) :
    W.cell? ⟨b, 0, none⟩ = some p ∧ W.cell? ⟨b, 1, none⟩ = some q ∧ W.cell? ⟨c, 0, none⟩ = some u ∧ W.cell? ⟨c, 1, none⟩ = some v ∧ W.frozen? ⟨b, 0, none⟩ = false ∧ W.frozen? ⟨b, 1, none⟩ = false ∧ W.frozen? ⟨c, 0, none⟩ = false ∧ W.frozen? ⟨c, 1, none⟩ = false :=
  ⟨h.l.cell 0, h.l.cell 1, h.r.cell 0, h.r.cell 1, h.l.frozen 0, h.l.frozen 1, h.r.frozen 0, h.r.frozen 1⟩

end Go.Proofs.YtpgchjhfhndaaaaGreatDoor
