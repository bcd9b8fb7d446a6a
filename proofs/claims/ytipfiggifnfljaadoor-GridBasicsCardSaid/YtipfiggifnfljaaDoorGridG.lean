/-
  What the reference of grid answers: the same lists; the cells of a rectangle.
-/
import Derived.Test.YtipfiggifnfljaaDoorGridF
namespace Go.Proofs.YtipfiggifnfljaaDoor
open Go.RowKit Go.Lib

set_option maxHeartbeats 1000000 in
theorem rsame_nil (W : World) :
    Calls Tryd.prog 22 #[.slice none 0 0, .slice none 0 0] W fun e w' => e = .returned (.bool true) ∧ Below W.heap.size W w' := by
  go_enter Tryd.func22, Tryd.ntmps22
  go_wp2
  refine wp_loop_rounds 1 ?_
  rw [rounds_succ]
  go_wp2
  go_ret
  exact ⟨rfl, Below.refl _ _⟩
set_option maxHeartbeats 1000000 in
theorem rsame_nila (W : World) (g c : Nat) :
    Calls Tryd.prog 22 #[.slice (some ⟨g, 0, none⟩) 0 c, .slice none 0 0] W fun e w' => e = .returned (.bool true) ∧ Below W.heap.size W w' := by
  go_enter Tryd.func22, Tryd.ntmps22
  go_wp2
  refine wp_loop_rounds 1 ?_
  rw [rounds_succ]
  go_wp2
  go_ret
  exact ⟨rfl, Below.refl _ _⟩
set_option maxHeartbeats 1000000 in
theorem rsame_nilb (W : World) (g c : Nat) :
    Calls Tryd.prog 22 #[.slice none 0 0, .slice (some ⟨g, 0, none⟩) 0 c] W fun e w' => e = .returned (.bool true) ∧ Below W.heap.size W w' := by
  go_enter Tryd.func22, Tryd.ntmps22
  go_wp2
  refine wp_loop_rounds 1 ?_
  rw [rounds_succ]
  go_wp2
  go_ret
  exact ⟨rfl, Below.refl _ _⟩
set_option maxHeartbeats 2000000 in
theorem rsame_some (W : World) (n : Nat) (xs : List Value) (A B g k c d : Nat) (hp : ∀ i, i < n → ∃ x y, xs[i * 2]? = some (.int .i64 x) ∧ xs[i * 2 + 1]? = some (.int .i64 y)) (hm : n ≤ maxLen)
    (h1 : W.ownsRow A 23 2 (.slice (some ⟨g, 0, none⟩) n c) n xs) (h2 : W.ownsRow B 23 2 (.slice (some ⟨k, 0, none⟩) n d) n xs) :
    Calls Tryd.prog 22 #[.slice (some ⟨g, 0, none⟩) n c, .slice (some ⟨k, 0, none⟩) n d] W fun e w' => e = .returned (.bool true) ∧ Below W.heap.size W w' := by
  unfold maxLen at hm
  go_enter Tryd.func22, Tryd.ntmps22
  go_wp2
  go_loopw [5] (fun vi wr => ∃ i : Nat, vi = .int .i64 i ∧ i ≤ n ∧ Below W.heap.size W wr) (fun vi _ => n - (RowKit.intOf vi).toNat)
  case atStart => exact ⟨0, rfl, by omega, Below.refl _ _⟩
  case round =>
    obtain ⟨i, rfl, hi, hb⟩ := hrel
    by_cases hlt : i < n
    · have b1 : (i : Int) < n := by omega
      obtain ⟨x, y, hx, hy⟩ := hp i hlt
      have o1 := own_below h1 hb
      have o2 := own_below h2 hb
      have a1 := (o1.cellAt (i * 2) (by omega)).trans hx
      have a2 := (o1.cellAt (i * 2 + 1) (by omega)).trans hy
      have a3 := (o2.cellAt (i * 2) (by omega)).trans hx
      have a4 := (o2.cellAt (i * 2 + 1) (by omega)).trans hy
      clear hx hy o1 o2
      go_wp2_with fail
      go_quiet (fail)
      go_wp2_with fail
      go_roundw
      case rel => exact ⟨i + 1, by go_num, by omega, below_many hb _⟩
      case measure => simp [RowKit.intOf]; omega
    · obtain rfl : i = n := by omega
      go_wp2_with fail
      go_ret
      exact ⟨rfl, hb⟩
theorem pcells_two (l : List (Int × Int)) : ∀ i, i < l.length → ∃ x y, (pcells l)[i * 2]? = some (.int .i64 x) ∧ (pcells l)[i * 2 + 1]? = some (.int .i64 y) := fun i h =>
  ⟨_, _, by rw [Nat.mul_comm]; exact (pcells_at l i h).1, by rw [Nat.mul_comm]; exact (pcells_at l i h).2⟩
/-- Two rows with the same cells are the same. -/
theorem rsame_t (W : World) (l : List (Int × Int)) (A B : Nat) (u v : Value) (hm : l.length ≤ maxLen)
    (h1 : W.ownsRow A 23 2 u l.length (pcells l)) (h2 : W.ownsRow B 23 2 v l.length (pcells l)) :
    Calls Tryd.prog 22 #[u, v] W fun e w' => e = .returned (.bool true) ∧ Below W.heap.size W w' := by
  have k1 := h1
  have k2 := h2
  rcases h1.2 with ⟨rfl, e1⟩ | ⟨g, c, _, rfl, _⟩
  · rcases h2.2 with ⟨rfl, e2⟩ | ⟨k, d, _, rfl, _⟩
    · exact rsame_nil W
    · rw [e1] at k1 k2 ⊢
      exact rsame_nilb W k d
  · rcases h2.2 with ⟨rfl, e2⟩ | ⟨k, d, _, rfl, _⟩
    · rw [e2] at k1 k2 ⊢
      exact rsame_nila W g c
    · exact rsame_some W l.length (pcells l) A B g k c d (pcells_two l) hm k1 k2

end Go.Proofs.YtipfiggifnfljaaDoor
