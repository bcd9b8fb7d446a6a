/-
  What the reference of astar answers: least costs, spread from cell to cell.
-/
import Derived.Test.YtpgchjhfhndaaaaGreatDoorAsXc
namespace Go.Proofs.YtpgchjhfhndaaaaGreatDoor
open Go.RowKit Go.Lib

theorem own_drewN {w : World} {B k n : Nat} {e : TypeId} {v : Value} {xs : List Value} (h : w.ownsRow B e k v n xs) (j : Nat) : (w.drewN j).ownsRow B e k v n xs := by
  induction j with
  | zero => exact h
  | succ j ih => exact ih.drew
def bools (s : List Bool) : List Value := s.map .bool
theorem bools_at {s : List Bool} {i : Nat} (h : i < s.length) : (bools s)[i]? = some (.bool (gb s i)) := by
  unfold bools gb
  rw [List.getElem?_map, List.getElem?_eq_getElem h, List.getD_eq_getElem?_getD, List.getElem?_eq_getElem h]
  rfl
theorem bools_set (s : List Bool) (i : Nat) (v : Bool) : (bools s).set i (.bool v) = bools (s.set i v) := by unfold bools; rw [List.map_set]
def isFv : Value → Bool | .bool b => !b | _ => false
/-- How many cells are not settled, read off the world. -/
def leftMu (sb : Nat) (w : World) : Nat := match w.heap[sb]? with | some (.cells cur _ _) => cur.toList.countP isFv | _ => 0
theorem left_mu {w : World} {sb : Nat} {s : List Bool} {t : TypeId} (h : Blk w sb (bools s) t) : leftMu sb w = s.countP (! ·) := by
  unfold Blk at h
  unfold leftMu
  rw [h]
  show (bools s).countP isFv = _
  unfold bools
  rw [List.countP_map]
  rfl
theorem left_set {s : List Bool} {j : Nat} (hj : j < s.length) (h : gb s j = false) : (s.set j true).countP (! ·) < s.countP (! ·) := by
  have e : s[j] = false := by
    unfold gb at h
    rw [List.getD_eq_getElem?_getD, List.getElem?_eq_getElem hj] at h
    exact h
  rw [List.countP_set hj, e]
  have hp : 0 < s.countP (! ·) := List.countP_pos_iff.2 ⟨s[j], List.getElem_mem hj, by rw [e]; rfl⟩
  simp
  omega
theorem asinfoBool : (Tryz.prog.info? 4).map (fun i => (i.zero, i.size, i.bytes)) = some (some (.bool false), 1, 1) := by kernel_rfl
theorem made_blk {w w1 : World} {B n : Nat} {z : Value} {t : TypeId} (hc : z.cells = #[z]) (h : w1.ownsRow B t 1 (.slice (some ⟨w.heap.size, 0, none⟩) n n) n (madeCells z.cells (n * 1)).toList) : Blk w1 w.heap.size (List.replicate n z) t := by
  rw [Nat.mul_one, hc, toList_madeCells_one] at h
  rcases h.2 with ⟨e, _⟩ | ⟨g', cap, cur, e, _, hh, _, _, hs, ht⟩
  · cases e
  · injection e with e1 _ e2
    injection e1 with e1
    injection e1 with e1
    subst e1 e2
    unfold Blk
    rw [hh]
    rw [Nat.mul_one, List.take_of_length_le (by simp [hs])] at ht
    congr 2
    rw [← ht]
/-- The steps of a cell in the directions below d, by the cells' numbers. -/
def preD (m : M3) (bl : List Bool) (c : Int) (p : Pt) (d : Nat) : List (Nat × Int) := (nbGo m bl c p d).map fun x => (idx m x.1, x.2)
theorem preD_no {m : M3} {bl : List Bool} {c : Int} {p : Pt} {d : Nat} (h : mayv m bl c p.1 p.2 d = false) : preD m bl c p (d + 1) = preD m bl c p d := by
  unfold preD
  rw [nbGo_next, if_neg (by rw [h]; exact Bool.false_ne_true), List.append_nil]
theorem preD_yes {m : M3} {bl : List Bool} {c : Int} {p : Pt} {d : Nat} (h : mayv m bl c p.1 p.2 d = true) : preD m bl c p (d + 1) = preD m bl c p d ++ [(idx m (stx p.1 d, sty p.2 d), costv m bl c p.1 p.2 d)] := by
  unfold preD
  rw [nbGo_next, if_pos h, List.map_append]
  rfl
theorem preD_all {m : M3} {bl : List Bool} {c : Int} {j : Nat} (hj : j < m.cs.length) : preD m bl c (posn m j) 8 = nb m bl c j := by
  unfold preD nb
  rw [if_pos hj]
  rfl
theorem step_nb {m : M3} {bl : List Bool} {c : Int} {j d : Nat} (hj : j < m.cs.length) (hd : d < 8) (h : mayv m bl c (posn m j).1 (posn m j).2 d = true) : (idx m (stx (posn m j).1 d, sty (posn m j).2 d), costv m bl c (posn m j).1 (posn m j).2 d) ∈ nb m bl c j :=
  mem_nb.2 ⟨hj, ((stx (posn m j).1 d, sty (posn m j).2 d), costv m bl c (posn m j).1 (posn m j).2 d), mem_nbGo.2 ⟨d, hd, h, rfl⟩, rfl, rfl⟩
/-- The quotient and the rest that tell where a cell lies. -/
theorem posn_quo {m : M3} (hf : formedv m = true) (j : Nat) (hj : j < m.cs.length) : ¬ m.w = 0 ∧ (j : Int).tmod m.w = (posn m j).1 ∧ (j : Int).tdiv m.w = (posn m j).2 ∧ wrap64 (posn m j).2 = (posn m j).2 ∧ IntKind.i64.wrap (posn m j).2 = (posn m j).2 := by
  obtain ⟨X, Y, e1, e2, x1, x2, y1, y2, hl, _⟩ := formed_num hf
  have e := at_nat X j x1
  have hs := ins_small hf (idx_posn hf hj).2
  unfold posn at hs ⊢
  rw [e1] at hs ⊢
  dsimp only at hs ⊢
  refine ⟨by omega, ?_, ?_, IntWalk.wrap64_in _ (by omega), IntWalk.i64_in _ (by omega)⟩
  · rw [Int.tmod_eq_emod_of_nonneg (by omega), e.1, Int.natCast_emod]
  · rw [Int.tdiv_eq_ediv_of_nonneg (by omega), e.2, Int.natCast_ediv]

end Go.Proofs.YtpgchjhfhndaaaaGreatDoor
