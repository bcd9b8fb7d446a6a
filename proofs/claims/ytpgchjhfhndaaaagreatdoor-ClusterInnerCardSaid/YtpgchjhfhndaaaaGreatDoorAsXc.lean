/-
  What the reference of astar answers: lists of -1, the nearest cell that is not settled, lists compared.
-/
import Derived.Test.YtpgchjhfhndaaaaGreatDoorAsXb
namespace Go.Proofs.YtpgchjhfhndaaaaGreatDoor
open Go.RowKit Go.Lib

def lenV : Value → Nat | .slice _ n _ => n | _ => 0
theorem ints_next (n : Nat) : ints (List.replicate n (-1)) ++ [.int .i64 (-1)] = ints (List.replicate (n + 1) (-1)) := by
  unfold ints
  rw [List.replicate_succ', List.map_append]
  rfl
theorem ints_lone1 (x : Int) : ∀ u ∈ [Value.int .i64 x], u.oneCell' = true := by
  intro u h
  rw [List.mem_singleton.1 h]
  rfl
theorem own_slice {w : World} {B n k : Nat} {e : TypeId} {v : Value} {xs : List Value} (h : w.ownsRow B e k v n xs) : ∃ p cap, v = .slice p n cap := by
  rcases h.2 with ⟨rfl, rfl⟩ | ⟨g, cap, cur, rfl, _⟩
  · exact ⟨_, _, rfl⟩
  · exact ⟨_, _, rfl⟩

/-- A slice of numbers that can be read. -/
def IntsAt (W : World) (v : Value) (D : List Int) : Prop :=
  ∃ p c, v = .slice p D.length c ∧ D.length ≤ 2000 ∧ (1 ≤ D.length → ∃ g, p = some ⟨g, 0, none⟩ ∧ g < W.heap.size ∧ ∀ i, i < D.length → W.cell? ⟨g, i, none⟩ = some (.int .i64 (ga D i)))
theorem IntsAt.below {W w' : World} {v : Value} {D : List Int} (h : IntsAt W v D) (hb : Below W.heap.size W w') : IntsAt w' v D := by
  obtain ⟨p, c, rfl, h1, h2⟩ := h
  refine ⟨p, c, rfl, h1, fun h0 => ?_⟩
  obtain ⟨g, rfl, hg, hi⟩ := h2 h0
  exact ⟨g, rfl, Nat.lt_of_lt_of_le hg hb.size, fun i hi' => (hb.cell (p := ⟨g, i, none⟩) hg).trans (hi i hi')⟩
theorem IntsAt.nil (W : World) : IntsAt W (.slice none 0 0) [] := ⟨none, 0, rfl, Nat.zero_le _, fun h => by simp at h⟩
theorem IntsAt.blk {W : World} {b n c : Nat} {t : TypeId} {D : List Int} (h : Blk W b (ints D) t) (hn : D.length = n) (h2 : n ≤ 2000) : IntsAt W (.slice (some ⟨b, 0, none⟩) n c) D := by
  subst hn
  exact ⟨_, _, rfl, h2, fun _ => ⟨b, rfl, h.lt, fun i hi => by rw [h.cell, ints_at hi]⟩⟩
theorem IntsAt.own {W : World} {B n c g : Nat} {t : TypeId} {D : List Int} (h : W.ownsRow B t 1 (.slice (some ⟨g, 0, none⟩) n c) n (ints D)) (hn : D.length = n) (h2 : n ≤ 2000) : IntsAt W (.slice (some ⟨g, 0, none⟩) n c) D := by
  subst hn
  exact ⟨_, _, rfl, h2, fun _ => ⟨g, rfl, (h.lt g rfl).2, fun i hi => by rw [h.cellAt i (by omega), ints_at hi]⟩⟩

end Go.Proofs.YtpgchjhfhndaaaaGreatDoor
