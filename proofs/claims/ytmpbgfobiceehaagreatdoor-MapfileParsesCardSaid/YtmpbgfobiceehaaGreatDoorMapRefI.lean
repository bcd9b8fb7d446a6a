/-
  What the reference of mapfile answers: the first line, the lines of starts.
-/
import Derived.Test.YtmpbgfobiceehaaGreatDoorMapRefG
namespace Go.Proofs.YtmpbgfobiceehaaGreatDoor
open Go.RowKit Go.Lib

/-- A row of texts that can be read. -/
def StrAt (W : World) (g : Nat) (ls : List (List UInt8)) : Prop := ∀ i, (h : i < ls.length) → W.cell? ⟨g, i, none⟩ = some (.string (bs (ls[i]'h)))
theorem StrAt.own {W : World} {B g cap n : Nat} {e : TypeId} {ls : List (List UInt8)} (h : W.ownsRow B e 1 (.slice (some ⟨g, 0, none⟩) n cap) n (strV ls)) (hn : n = ls.length) : StrAt W g ls := by
  subst hn
  intro i hi
  rw [h.cellAt i (by omega), strV_at hi]
theorem StrAt.below {W w' : World} {g B : Nat} {ls : List (List UInt8)} (h : StrAt W g ls) (hb : Below B W w') (hg : g < B) : StrAt w' g ls := fun i hi => (hb.cell (p := ⟨g, i, none⟩) hg).trans (h i hi)
theorem StrAt.call {W w' : World} {g : Nat} {ls : List (List UInt8)} (h : StrAt W g ls) (hb : Below W.heap.size W w') (hg : g < W.heap.size) : StrAt w' g ls := h.below hb hg
/-- The pieces, as the walks take them. -/
theorem rparts_c (s : ByteArray) (c : UInt8) (W : World) (hs : s.size ≤ 100000) (ls : List (List UInt8)) (e : Hid (ls = parts c s.data.toList)) :
    Calls Tryz.prog 46 #[.string s, .int .u8 (c.toNat : Int)] W fun e w' => ∃ g cap, e = .returned (.slice (some ⟨g, 0, none⟩) ls.length cap) ∧ StrAt w' g ls ∧ W.heap.size ≤ g ∧ g < w'.heap.size ∧ ls.length ≤ cap ∧ Below W.heap.size W w' := by
  refine (rparts_b s c W hs ls e).mono ?_
  rintro e w' ⟨g, cap, rfl, ho, hb⟩
  have hl := ho.lt g rfl
  obtain ⟨-, ⟨e1, _⟩ | ⟨g2, cap2, cur, e1, -, -, h1, -⟩⟩ := id ho
  · cases e1
  · injection e1 with _ _ e3
    subst e3
    exact ⟨g, cap, rfl, StrAt.own ho rfl, hl.1, hl.2, h1, hb⟩
theorem rparts_space (s : ByteArray) (W : World) (hs : s.size ≤ 100000) (ls : List (List UInt8)) (e : Hid (ls = parts 32 s.data.toList)) :
    Calls Tryz.prog 46 #[.string s, .int .u8 32] W fun e w' => ∃ g cap, e = .returned (.slice (some ⟨g, 0, none⟩) ls.length cap) ∧ StrAt w' g ls ∧ W.heap.size ≤ g ∧ g < w'.heap.size ∧ ls.length ≤ cap ∧ Below W.heap.size W w' := rparts_c s 32 W hs ls e
theorem rparts_lf (s : ByteArray) (W : World) (hs : s.size ≤ 100000) (ls : List (List UInt8)) (e : Hid (ls = parts 10 s.data.toList)) :
    Calls Tryz.prog 46 #[.string s, .int .u8 10] W fun e w' => ∃ g cap, e = .returned (.slice (some ⟨g, 0, none⟩) ls.length cap) ∧ StrAt w' g ls ∧ W.heap.size ≤ g ∧ g < w'.heap.size ∧ ls.length ≤ cap ∧ Below W.heap.size W w' := rparts_c s 10 W hs ls e
/-- No piece is longer than the text. -/
theorem parts_le (c : UInt8) : ∀ (l : List UInt8), ∀ x ∈ parts c l, x.length ≤ l.length := by
  intro l
  induction l with
  | nil => intro x hx; rw [List.mem_singleton.1 (show x ∈ [[]] from hx)]; simp
  | cons b l ih =>
    intro x hx
    rw [parts] at hx
    split at hx
    · rcases List.mem_cons.1 hx with rfl | hx
      · simp
      · have := ih x hx; simp; omega
    · cases hp : parts c l with
      | nil => rw [hp] at hx; rw [List.mem_singleton.1 hx]; simp
      | cons y ys =>
        rw [hp] at hx ih
        rcases List.mem_cons.1 hx with rfl | hx
        · have := ih y (List.mem_cons_self ..); simp; omega
        · have := ih x (List.mem_cons_of_mem _ hx); simp; omega

theorem cell_far {w : World} {g j T i : Nat} {x v : Value} (h : w.cell? ⟨g, j, none⟩ = some v) (ne : g ≠ T) : (w.setCell ⟨T, i, none⟩ x).cell? ⟨g, j, none⟩ = some v := (World.cell?_of_block (w := w) (a := ⟨g, j, none⟩) (Below.heap_setCell w ⟨T, i, none⟩ x g ne)).trans h
theorem ba_lit {u : ByteArray} {l : List UInt8} (h : ¬ u = bs l) : ¬ u.toList = l := fun e => h (by rw [← bs_of u, ← ba_list, e])
/-- What the first line's reader leaves. -/
def FirstPost (s : List UInt8) (W : World) (e : Ending) (w' : World) : Prop :=
  (headv s = none ∧ e = .returned (.tuple #[.agg #[.string ⟨#[]⟩, .int .i64 0, .int .i64 0, .slice none 0 0, .slice none 0 0], .bool false]) ∧ Below W.heap.size W w') ∨
  (∃ nm w h G, headv s = some (nm, w, h) ∧ e = .returned (.tuple #[.agg #[.string (bs nm), .int .i64 w, .int .i64 h, .slice (some ⟨G, 0, none⟩) (w * h) (w * h), .slice none 0 0], .bool true]) ∧ CB w' G (List.replicate (w * h) C3.zero) ∧ W.heap.size ≤ G ∧ Below W.heap.size W w')
theorem four_of {α : Type} (l : List α) (h : l.length = 4) : ∃ a b c d, l = [a, b, c, d] := by
  match l, h with
  | [a, b, c, d], _ => exact ⟨a, b, c, d, rfl⟩
theorem three_of {α : Type} (l : List α) (h : l.length = 3) : ∃ a b c, l = [a, b, c] := by
  match l, h with
  | [a, b, c], _ => exact ⟨a, b, c, rfl⟩
theorem head_not4 {s : List UInt8} (h : ¬ (parts 32 s).length = 4) : headv s = none := by
  rw [head_parts]
  match hp : parts 32 s with
  | [] => rfl
  | [_] => rfl
  | [_, _] => rfl
  | [_, _, _] => rfl
  | [_, _, _, _] => rw [hp] at h; simp at h
  | _ :: _ :: _ :: _ :: _ :: _ => rfl
theorem start_not3 {s : List UInt8} (h : ¬ (parts 32 s).length = 3) : startv s = none := by
  rw [start_parts]
  match hp : parts 32 s with
  | [] => rfl
  | [_] => rfl
  | [_, _] => rfl
  | [_, _, _] => rw [hp] at h; simp at h
  | _ :: _ :: _ :: _ :: _ => rfl
theorem both_ref (c d : List UInt8) (lo hi : Nat) (hh : hi ≤ 1000000) : bothR c d lo hi = if (lo : Int) ≤ refNum c ∧ refNum c ≤ (hi : Int) ∧ (lo : Int) ≤ refNum d ∧ refNum d ≤ (hi : Int) then some ((refNum c).toNat, (refNum d).toNat) else none := by
  unfold bothR
  rw [numR_ref c lo hi hh, numR_ref d lo hi hh]
  by_cases h1 : (lo : Int) ≤ refNum c ∧ refNum c ≤ (hi : Int)
  · by_cases h2 : (lo : Int) ≤ refNum d ∧ refNum d ≤ (hi : Int)
    · rw [if_pos h1, if_pos h2, if_pos ⟨h1.1, h1.2, h2.1, h2.2⟩]
    · rw [if_pos h1, if_neg h2, if_neg (fun q => h2 ⟨q.2.2.1, q.2.2.2⟩)]
  · have hn : ¬ ((lo : Int) ≤ refNum c ∧ refNum c ≤ (hi : Int) ∧ (lo : Int) ≤ refNum d ∧ refNum d ≤ (hi : Int)) := fun q => h1 ⟨q.1, q.2.1⟩
    rw [if_neg h1, if_neg hn]

end Go.Proofs.YtmpbgfobiceehaaGreatDoor
