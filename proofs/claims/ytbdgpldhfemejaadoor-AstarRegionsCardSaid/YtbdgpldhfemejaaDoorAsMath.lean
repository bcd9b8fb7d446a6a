/-
  The steps between the cells of a map, as a graph of numbered cells. No program is named here.
-/
import Derived.Test.YtbdgpldhfemejaaDoorAsBk
import Derived.Test.YtbdgpldhfemejaaDoorOcMath
import Derived.Test.YtbdgpldhfemejaaDoorNumsG
namespace Go.Proofs.YtbdgpldhfemejaaDoor
open Go.RowKit Go.Lib

abbrev Pt := Int × Int
def posn (m : M3) (i : Nat) : Pt := (atx m.w i, aty m.w i)
def idx (m : M3) (p : Pt) : Nat := (indexv m.w p.1 p.2).toNat
def insp (m : M3) (p : Pt) : Bool := inv m.w m.h p.1 p.2
/-- The possible steps from a position in the directions below k: where they lead, what they cost. -/
def oneD (m : M3) (bl : List Bool) (c : Int) (p : Pt) (d : Nat) : List (Pt × Int) := if mayv m bl c p.1 p.2 d = true then [((stx p.1 d, sty p.2 d), costv m bl c p.1 p.2 d)] else []
def nbGo (m : M3) (bl : List Bool) (c : Int) (p : Pt) (k : Nat) : List (Pt × Int) := (List.range k).flatMap (oneD m bl c p)
def nbp (m : M3) (bl : List Bool) (c : Int) (p : Pt) : List (Pt × Int) := nbGo m bl c p 8
theorem nbGo_succ (m : M3) (bl : List Bool) (c : Int) (p : Pt) (k : Nat) : nbGo m bl c p (k + 1) = nbGo m bl c p k ++ oneD m bl c p k := by
  unfold nbGo; rw [List.range_succ, List.flatMap_append]; simp
theorem nbGo_pre (m : M3) (bl : List Bool) (c : Int) (p : Pt) {j k : Nat} (h : j ≤ k) : nbGo m bl c p j <+: nbGo m bl c p k := by
  obtain ⟨d, rfl⟩ := Nat.exists_eq_add_of_le h
  induction d with
  | zero => exact List.prefix_refl _
  | succ d ih => exact (ih (by omega)).trans (by rw [← Nat.add_assoc, nbGo_succ]; exact List.prefix_append _ _)
theorem mem_nbGo {m : M3} {bl : List Bool} {c : Int} {p : Pt} {k : Nat} {x : Pt × Int} : x ∈ nbGo m bl c p k ↔ ∃ d : Nat, d < k ∧ mayv m bl c p.1 p.2 d = true ∧ x = ((stx p.1 d, sty p.2 d), costv m bl c p.1 p.2 d) := by
  unfold nbGo oneD
  rw [List.mem_flatMap]
  constructor
  · rintro ⟨d, hd, hx⟩
    split at hx
    · next h => exact ⟨d, List.mem_range.1 hd, h, List.mem_singleton.1 hx⟩
    · simp at hx
  · rintro ⟨d, hd, h, rfl⟩
    exact ⟨d, List.mem_range.2 hd, by rw [if_pos h]; simp⟩
theorem nbGo_len (m : M3) (bl : List Bool) (c : Int) (p : Pt) (k : Nat) : (nbGo m bl c p k).length ≤ k := by
  induction k with
  | zero => simp [nbGo]
  | succ k ih =>
    rw [nbGo_succ, List.length_append]
    unfold oneD
    split <;> simp <;> omega
def nb (m : M3) (bl : List Bool) (c : Int) : Nb := fun i => if i < m.cs.length then (nbp m bl c (posn m i)).map fun x => (idx m x.1, x.2) else []

theorem idx_posn {m : M3} (hf : formedv m = true) {i : Nat} (hi : i < m.cs.length) : idx m (posn m i) = i ∧ insp m (posn m i) = true := by
  have := pos_at hf hi
  unfold idx posn insp
  dsimp only
  rw [this.2]
  exact ⟨rfl, this.1⟩
theorem posn_idx {m : M3} (hf : formedv m = true) {p : Pt} (h : insp m p = true) : posn m (idx m p) = p ∧ idx m p < m.cs.length ∧ indexv m.w p.1 p.2 = idx m p := by
  obtain ⟨n, h1, h2, h3, h4⟩ := pos_of hf h
  have e : idx m p = n := by unfold idx; rw [h2]; rfl
  rw [e]
  exact ⟨by unfold posn; rw [← h3, ← h4], h1, h2⟩
theorem idx_inj {m : M3} (hf : formedv m = true) {p q : Pt} (hp : insp m p = true) (hq : insp m q = true) (h : idx m p = idx m q) : p = q := by
  rw [← (posn_idx hf hp).1, ← (posn_idx hf hq).1, h]
theorem ins_small {m : M3} (hf : formedv m = true) {p : Pt} (h : insp m p = true) : (0 ≤ p.1 ∧ p.1 ≤ 31) ∧ (0 ≤ p.2 ∧ p.2 ≤ 31) := by
  obtain ⟨X, Y, e1, e2, _, x2, _, y2, _⟩ := formed_num hf
  unfold insp inv at h
  have h := of_decide_eq_true h
  omega
theorem nbp_mem {m : M3} {bl : List Bool} {c : Int} {p : Pt} {x : Pt × Int} (h : x ∈ nbp m bl c p) :
    ∃ d : Int, (0 ≤ d ∧ d ≤ 7) ∧ mayv m bl c p.1 p.2 d = true ∧ x = ((stx p.1 d, sty p.2 d), costv m bl c p.1 p.2 d) := by
  obtain ⟨d, hd, hm, e⟩ := mem_nbGo.1 h
  exact ⟨d, by omega, hm, e⟩
theorem nbp_in {m : M3} {bl : List Bool} {c : Int} {p : Pt} {x : Pt × Int} (h : x ∈ nbp m bl c p) : insp m x.1 = true ∧ insp m p = true ∧ openv m bl c x.1.1 x.1.2 = true ∧ openv m bl c p.1 p.2 = true := by
  obtain ⟨d, _, hm, rfl⟩ := nbp_mem h
  have hn := may_near hm
  unfold nearv at hn
  simp only [Bool.and_eq_true] at hn
  exact ⟨(may_in hm).1, (may_in hm).2, hn.1.2, hn.1.1⟩
theorem nbp_w {m : M3} {bl : List Bool} {c : Int} {p : Pt} {x : Pt × Int} (h : x ∈ nbp m bl c p) : 10 ≤ x.2 ∧ x.2 ≤ 19 := by
  obtain ⟨d, _, hm, rfl⟩ := nbp_mem h
  dsimp only
  unfold costv
  rw [if_pos hm]
  split <;> split <;> omega
theorem nbp_sym {m : M3} {bl : List Bool} {c : Int} {p : Pt} {x : Pt × Int} (h : x ∈ nbp m bl c p) : (p, x.2) ∈ nbp m bl c x.1 := by
  obtain ⟨d, hd, hm, rfl⟩ := nbp_mem h
  obtain ⟨h1, h2, h3, h4⟩ := may_dir hd hm
  refine mem_nbGo.2 ⟨((d + 4) % 8).toNat, by omega, ?_, ?_⟩
  · rw [show ((((d + 4) % 8).toNat : Nat) : Int) = (d + 4) % 8 by omega]; exact h1
  · rw [show ((((d + 4) % 8).toNat : Nat) : Int) = (d + 4) % 8 by omega]
    dsimp only
    rw [h2, h3, h4]
theorem dir_one {p : Pt} (_hp : (0 ≤ p.1 ∧ p.1 ≤ 31) ∧ (0 ≤ p.2 ∧ p.2 ≤ 31)) {d e : Int} (hd : 0 ≤ d ∧ d ≤ 7) (he : 0 ≤ e ∧ e ≤ 7) (h1 : stx p.1 d = stx p.1 e) (h2 : sty p.2 d = sty p.2 e) : d = e := by
  unfold stx at h1
  unfold sty at h2
  rw [if_neg (by omega), if_neg (by omega)] at h1 h2
  have k1 : shx d = shx e := by omega
  have k2 : shy d = shy e := by omega
  clear h1 h2
  rcases dir_cases hd with rfl | rfl | rfl | rfl | rfl | rfl | rfl | rfl <;> rcases dir_cases he with rfl | rfl | rfl | rfl | rfl | rfl | rfl | rfl <;> first | rfl | (simp [shx, shy] at k1 k2)
theorem nbp_one {m : M3} {bl : List Bool} {c : Int} (hf : formedv m = true) {p : Pt} {x y : Pt × Int} (hx : x ∈ nbp m bl c p) (hy : y ∈ nbp m bl c p) (h : x.1 = y.1) : x = y := by
  have hp := ins_small hf (nbp_in hx).2.1
  obtain ⟨d, hd, _, rfl⟩ := nbp_mem hx
  obtain ⟨e, he, _, rfl⟩ := nbp_mem hy
  rw [Prod.mk.injEq] at h
  rw [dir_one hp hd he h.1 h.2]
theorem mem_nb {m : M3} {bl : List Bool} {c : Int} {p q : Nat} {w : Int} : (q, w) ∈ nb m bl c p ↔ p < m.cs.length ∧ ∃ x ∈ nbp m bl c (posn m p), q = idx m x.1 ∧ w = x.2 := by
  unfold nb
  split
  · next h =>
    rw [List.mem_map]
    constructor
    · rintro ⟨x, hx, e⟩
      rw [Prod.mk.injEq] at e
      exact ⟨h, x, hx, e.1.symm, e.2.symm⟩
    · rintro ⟨_, x, hx, rfl, rfl⟩
      exact ⟨x, hx, rfl⟩
  · next h => exact ⟨fun h => by simp at h, fun k => absurd k.1 h⟩
theorem nb_ok {m : M3} (hf : formedv m = true) (bl : List Bool) (c : Int) : GOk (nb m bl c) m.cs.length where
  lt := fun p q w h => by
    obtain ⟨hp, x, hx, rfl, rfl⟩ := mem_nb.1 h
    exact ⟨hp, (posn_idx hf (nbp_in hx).1).2.1⟩
  pos := fun p q w h => by
    obtain ⟨hp, x, hx, rfl, rfl⟩ := mem_nb.1 h
    have := nbp_w hx; omega
  sym := fun p q w h => by
    obtain ⟨hp, x, hx, rfl, rfl⟩ := mem_nb.1 h
    have k := posn_idx hf (nbp_in hx).1
    refine mem_nb.2 ⟨k.2.1, (posn m p, x.2), ?_, (idx_posn hf hp).1.symm, rfl⟩
    rw [k.1]; exact nbp_sym hx
  one := fun p q w w' h h' => by
    obtain ⟨hp, x, hx, e, rfl⟩ := mem_nb.1 h
    obtain ⟨_, y, hy, e', rfl⟩ := mem_nb.1 h'
    rw [nbp_one hf hx hy (idx_inj hf (nbp_in hx).1 (nbp_in hy).1 (e.symm.trans e'))]
/-- The steps from a position inside, by its number. -/
theorem nb_at {m : M3} (hf : formedv m = true) (bl : List Bool) (c : Int) {p : Pt} (h : insp m p = true) : nb m bl c (idx m p) = (nbp m bl c p).map fun x => (idx m x.1, x.2) := by
  have k := posn_idx hf h
  unfold nb
  rw [if_pos k.2.1, k.1]
theorem valid_class (q : Int) : (q = 1 ∨ q = 2 ∨ q = 3) ↔ 1 ≤ q ∧ q ≤ 3 := by omega

end Go.Proofs.YtbdgpldhfemejaaDoor
