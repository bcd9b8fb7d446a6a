/-
  What the functions of terrain are held to; the chapter's examples.
-/
import Derived.Test.YtpgchjhfhndaaaaGreatDoorTerRefB
import Derived.Test.YtpgchjhfhndaaaaGreatDoorTerRefH
namespace Go.Proofs.YtpgchjhfhndaaaaGreatDoor
open Go.RowKit Go.Lib

/-- A map of numbers of 64 bits, with not too many cells. -/
structure MapOk (m : M3) : Prop where
  w : I64 m.w
  h : I64 m.h
  c : ∀ c ∈ m.cs, I64 c.k ∧ I64 c.h ∧ I64 c.a
  len : m.cs.length ≤ 2000
theorem MapOk.high {m : M3} (h : MapOk m) : HighAt m := fun c hc => (h.c c hc).2.1
theorem MapOk.with {m : M3} (h : MapOk m) (x y : Int) (q : C3) (hq : I64 q.k ∧ I64 q.h ∧ I64 q.a) : MapOk (withv m x y q) := by
  refine ⟨h.w, h.h, fun c hc => ?_, ?_⟩
  · rcases List.mem_or_eq_of_mem_set hc with h1 | rfl
    · exact h.c c h1
    · exact hq
  · show (m.cs.set _ q).length ≤ 2000
    rw [List.length_set]; exact h.len
theorem MapOk.zero : MapOk M3.zero := ⟨⟨by decide, by decide⟩, ⟨by decide, by decide⟩, fun c hc => by simp [M3.zero] at hc, by simp [M3.zero]⟩

/-- A map of numbers of 64 bits. -/
structure MapNum (m : M3) : Prop where
  w : I64 m.w
  h : I64 m.h
  c : ∀ c ∈ m.cs, I64 c.k ∧ I64 c.h ∧ I64 c.a
theorem MapNum.ok {m : M3} (h : MapNum m) (hl : m.cs.length ≤ 2000) : MapOk m := ⟨h.w, h.h, h.c, hl⟩

/-- What grid's In is held to. -/
abbrev InHave : Prop := ∀ (w h x y : Int) (b : Bool) (W : World), I64 w → I64 h → I64 x → I64 y → Hid (b = inv w h x y) → Calls Tryz.prog 89 #[.int .i64 w, .int .i64 h, .agg #[.int .i64 x, .int .i64 y]] W fun e w' => e = .returned (.bool b) ∧ Below W.heap.size W w'
/-- The map of the examples. -/
def flatM : M3 := ⟨2, 2, [⟨1, 0, 0⟩, ⟨1, 0, 0⟩, ⟨5, 0, 3⟩, ⟨1, 0, 0⟩]⟩
theorem RowAt.blk {W : World} {b : Nat} {l : List C3} {e : TypeId} {n : Nat} (h : Blk W b (ccells l) e) (hn : l.length = n) (hm : l.length ≤ maxLen) : RowAt W (.slice (some ⟨b, 0, none⟩) n n) l := by
  subst hn
  refine ⟨_, _, rfl, hm, fun _ => ⟨b, 0, rfl, fun i hi => ?_⟩⟩
  obtain ⟨a, c, d⟩ := ccells_at l i hi
  rw [Nat.zero_add]
  exact ⟨(h.cell _).trans a, (h.cell _).trans c, (h.cell _).trans d⟩
theorem BitsAt.nil (W : World) : BitsAt W (.slice none 0 0) [] := ⟨none, 0, rfl, Nat.zero_le _, fun h => by simp at h⟩
theorem BitsAt.blk {W : World} {b : Nat} {p q : Bool} {e : TypeId} (h : Blk W b [.bool p, .bool q] e) : BitsAt W (.slice (some ⟨b, 0, none⟩) 2 2) [p, q] := by
  refine ⟨_, _, rfl, by simp [maxLen], fun _ => ⟨b, 0, rfl, fun i hi => ?_⟩⟩
  rw [Nat.zero_add, h.cell]
  match i, hi with
  | 0, _ => rfl
  | 1, _ => rfl

theorem i64 {n : Int} (h : -9223372036854775808 ≤ n ∧ n ≤ 9223372036854775807) : I64 n := h
theorem flat_ok : MapOk flatM := ⟨i64 (by decide), i64 (by decide), by intro c hc; simp only [flatM, List.mem_cons, List.not_mem_nil, or_false] at hc; rcases hc with rfl | rfl | rfl | rfl <;> exact ⟨i64 (by decide), i64 (by decide), i64 (by decide)⟩, by decide⟩
def highM : M3 := withv flatM 1 1 ⟨1, 1, 0⟩
def restM : M3 := withv flatM 0 1 ⟨1, 0, 0⟩
theorem flatM_w : flatM.w = 2 := rfl
theorem flatM_h : flatM.h = 2 := rfl
theorem highM_w : highM.w = 2 := rfl
theorem highM_h : highM.h = 2 := rfl
theorem restM_w : restM.w = 2 := rfl
theorem restM_h : restM.h = 2 := rfl
theorem high_ok : MapOk highM := flat_ok.with 1 1 _ ⟨i64 (by decide), i64 (by decide), i64 (by decide)⟩
theorem rest_ok : MapOk restM := flat_ok.with 0 1 _ ⟨i64 (by decide), i64 (by decide), i64 (by decide)⟩
theorem RowAt.slice {W : World} {s : Value} {l : List C3} (h : RowAt W s l) : ∃ p c, s = .slice p l.length c := by
  obtain ⟨p, c, rfl, _⟩ := h
  exact ⟨p, c, rfl⟩

end Go.Proofs.YtpgchjhfhndaaaaGreatDoor
