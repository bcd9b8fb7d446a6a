/-
  What the reference of terrain answers: maps changed and compared.
-/
import Derived.Test.YtpgchjhfhndaaaaDoorTerRefA
import Derived.Laws.OwnMore
import Derived.BigQuiet
namespace Go.Proofs.YtpgchjhfhndaaaaDoor

section
open Go.RowKit Go.Lib

theorem infoCell : (Tryd.prog.info? 75).map (fun i => (i.zero, i.size, i.bytes)) = some (some (.agg #[.int .i64 0, .int .i64 0, .int .i64 0]), 3, 24) := by kernel_rfl

theorem RowAt.news {W : World} {g o : Nat} {cs : List C3} (h : ∀ i, (h : i < cs.length) →
    W.cell? ⟨g, o + i * 3, none⟩ = some (.int .i64 (cs[i]'h).k) ∧ W.cell? ⟨g, o + i * 3 + 1, none⟩ = some (.int .i64 (cs[i]'h).h) ∧ W.cell? ⟨g, o + i * 3 + 2, none⟩ = some (.int .i64 (cs[i]'h).a)) :
    ∀ j u, (ccells cs)[j]? = some u → W.cell? ((⟨g, o, none⟩ : Addr).add j) = some u := by
  intro j u hj
  have hlt := (List.getElem?_eq_some_iff.1 hj).1
  rw [ccells_len] at hlt
  have ha : (⟨g, o, none⟩ : Addr).add j = ⟨g, o + j, none⟩ := by unfold Addr.add; split <;> simp_all
  have hi : j / 3 < cs.length := by omega
  obtain ⟨a1, a2, a3⟩ := h (j / 3) hi
  obtain ⟨b1, b2, b3⟩ := ccells_at cs (j / 3) hi
  rw [ha]
  by_cases r0 : j % 3 = 0
  · rw [show j = j / 3 * 3 by omega, b1] at hj
    rw [show o + j = o + j / 3 * 3 by omega, a1, hj]
  · by_cases r1 : j % 3 = 1
    · rw [show j = j / 3 * 3 + 1 by omega, b2] at hj
      rw [show o + j = o + j / 3 * 3 + 1 by omega, a2, hj]
    · rw [show j = j / 3 * 3 + 2 by omega, b3] at hj
      rw [show o + j = o + j / 3 * 3 + 2 by omega, a3, hj]
theorem own_drew {w : World} {B k n : Nat} {e : TypeId} {v : Value} {xs : List Value} (h : w.ownsRow B e k v n xs) : w.drew.ownsRow B e k v n xs := h
theorem own_some {w : World} {B k n : Nat} {e : TypeId} {v : Value} {xs : List Value} (h : w.ownsRow B e k v n xs) (h0 : 1 ≤ n) : ∃ g cap, v = .slice (some ⟨g, 0, none⟩) n cap := by
  rcases h.2 with ⟨_, hn⟩ | ⟨g, cap, cur, rfl, _⟩
  · omega
  · exact ⟨g, cap, rfl⟩
theorem Keep.grown {w W W1 : World} {L : List (Nat × List Value × TypeId)} {row : Option Nat} (h : Keep w W L) (hg : W.grownBy W1 row) (ne : ∀ e ∈ L, ∀ k, row = some k → e.1 ≠ k) (nr : ∀ k, row = some k → w.heap.size ≤ k) : Keep w W1 L :=
  ⟨fun e he => (h.blks e he).grown hg (ne e he), h.old.grown hg h.old.size nr⟩
theorem with_keep {W w' : World} {B a b c : Nat} {u v s p q x y z : Value} {t r k : TypeId} (hM : Blk W a [u, v, s] t) (hP : Blk W b [p, q] r) (hC : Blk W c [x, y, z] k) (la : a < B) (lb : b < B) (lc : c < B) (h : Below B W w') :
    w'.cell? ⟨a, 0, none⟩ = some u ∧ w'.cell? ⟨a, 1, none⟩ = some v ∧ w'.cell? ⟨a, 2, none⟩ = some s ∧ w'.cell? ⟨b, 0, none⟩ = some p ∧ w'.cell? ⟨b, 1, none⟩ = some q ∧ w'.cell? ⟨c, 0, none⟩ = some x ∧ w'.cell? ⟨c, 1, none⟩ = some y ∧ w'.cell? ⟨c, 2, none⟩ = some z :=
  ⟨(hM.under h la).cell 0, (hM.under h la).cell 1, (hM.under h la).cell 2, (hP.under h lb).cell 0, (hP.under h lb).cell 1, (hC.under h lc).cell 0, (hC.under h lc).cell 1, (hC.under h lc).cell 2⟩
/-- The three cells of an element, and that they may be written. -/
theorem own_three {w : World} {B g cap n : Nat} {e : TypeId} {l : List C3} (h : w.ownsRow B e 3 (.slice (some ⟨g, 0, none⟩) l.length cap) l.length (ccells l)) (hn : n < l.length) :
    w.cell? ⟨g, n * 3, none⟩ = some (.int .i64 (l[n]'hn).k) ∧ w.cell? ⟨g, n * 3 + 1, none⟩ = some (.int .i64 (l[n]'hn).h) ∧ w.cell? ⟨g, n * 3 + 2, none⟩ = some (.int .i64 (l[n]'hn).a) ∧ w.frozen? ⟨g, n * 3, none⟩ = false ∧ w.frozen? ⟨g, n * 3 + 1, none⟩ = false ∧ w.frozen? ⟨g, n * 3 + 2, none⟩ = false := by
  obtain ⟨a, b, c⟩ := ccells_at l n hn
  exact ⟨(h.cellAt (n * 3) (by omega)).trans a, (h.cellAt (n * 3 + 1) (by omega)).trans b, (h.cellAt (n * 3 + 2) (by omega)).trans c, h.frozenAt _, h.frozenAt _, h.frozenAt _⟩
theorem Keep.store {w W : World} {L : List (Nat × List Value × TypeId)} (h : Keep w W L) (a : Addr) (x : Value) (ne : ∀ e ∈ L, e.1 ≠ a.block) (hb : w.heap.size ≤ a.block) : Keep w (W.setCell a x) L :=
  ⟨fun e he => (h.blks e he).other a x (ne e he), h.old.setCell hb x⟩
theorem ccells_set (l : List C3) (n : Nat) (q : C3) (h : n < l.length) : (((ccells l).set (n * 3) (.int .i64 q.k)).set (n * 3 + 1) (.int .i64 q.h)).set (n * 3 + 2) (.int .i64 q.a) = ccells (l.set n q) := by
  induction l generalizing n with
  | nil => simp at h
  | cons p l ih =>
    cases n with
    | zero => rfl
    | succ n =>
      have e := ih n (by simpa using h)
      rw [Nat.succ_mul, List.set_cons_succ]
      show _ = .int .i64 p.k :: .int .i64 p.h :: .int .i64 p.a :: ccells (l.set n q)
      rw [← e]
      rfl
theorem RowAt.own {w : World} {B g cap : Nat} {e : TypeId} {l : List C3} (h : w.ownsRow B e 3 (.slice (some ⟨g, 0, none⟩) l.length cap) l.length (ccells l)) (hm : l.length ≤ maxLen) : RowAt w (.slice (some ⟨g, 0, none⟩) l.length cap) l := by
  refine ⟨_, _, rfl, hm, fun _ => ⟨g, 0, rfl, fun i hi => ?_⟩⟩
  obtain ⟨a, b, c, _⟩ := own_three h hi
  rw [Nat.zero_add]
  exact ⟨a, b, c⟩
theorem own_other {w : World} {B k n : Nat} {e : TypeId} {v : Value} {xs : List Value} (h : w.ownsRow B e k v n xs) (a : Addr) (x : Value) (ne : ∀ j, v.ownBlock = some j → j ≠ a.block) : (w.setCell a x).ownsRow B e k v n xs := by
  refine ⟨h.1, ?_⟩
  rcases h.2 with hn | ⟨g, cap, cur, rfl, hB, hgg, rest⟩
  · exact .inl hn
  · refine .inr ⟨g, cap, cur, rfl, hB, ?_, rest⟩
    rw [Below.heap_setCell w a x g (ne g rfl)]
    exact hgg
/-- A slice whose row, if it has one, lies in a block from B on. -/
def Upon (B : Nat) (s : Value) : Prop := ∀ g o n c, s = .slice (some ⟨g, o, none⟩) n c → B ≤ g
theorem cs_one (l : List C3) : ∀ u ∈ ccells l, u.oneCell' = true := by
  intro u hu
  unfold ccells at hu
  obtain ⟨c, _, hc⟩ := List.mem_flatMap.1 hu
  simp at hc
  rcases hc with rfl | rfl | rfl <;> rfl

end

section
open Go.RowKit Go.Lib

theorem rvalidm_c (m : M3) (s : Value) (b : Bool) (W : World) (hr : RowAt W s m.cs) (e : Hid (b = validm m)) :
    Calls Tryd.prog 26 #[.agg #[.int .i64 m.w, .int .i64 m.h, s]] W fun e w' => e = .returned (.bool b) ∧ Below W.heap.size W w' := rvalidm_b m s b W hr e
theorem RowAt.zero (W : World) : RowAt W (.slice none 0 0) M3.zero.cs := ⟨none, 0, rfl, Nat.zero_le _, fun h => by simp [M3.zero] at h⟩
theorem Blk.put3 {W : World} {b : Nat} {p q r : Value} {t : TypeId} (h : Blk W b [p, q, r] t) (x y u : Value) : Blk (((W.setCell ⟨b, 0, none⟩ x).setCell ⟨b, 1, none⟩ y).setCell ⟨b, 2, none⟩ u) b [x, y, u] t := ((h.set 0 x).set 1 y).set 2 u
/-- Three stores into a block above. -/
theorem below_put3 {w W : World} {b : Nat} (h : Below w.heap.size w W) (hb : w.heap.size ≤ b) (x y u : Value) : Below w.heap.size w (((W.setCell ⟨b, 0, none⟩ x).setCell ⟨b, 1, none⟩ y).setCell ⟨b, 2, none⟩ u) :=
  ((h.setCell (p := ⟨b, 0, none⟩) hb x).setCell (p := ⟨b, 1, none⟩) hb y).setCell (p := ⟨b, 2, none⟩) hb u
theorem RowAt.other {W : World} {s : Value} {l : List C3} (h : RowAt W s l) (a : Addr) (x : Value) (ne : ∀ g o c n, s = .slice (some ⟨g, o, none⟩) n c → g ≠ a.block) : RowAt (W.setCell a x) s l := by
  obtain ⟨p, c, rfl, hm, hc⟩ := h
  refine ⟨p, c, rfl, hm, fun h1 => ?_⟩
  obtain ⟨g, o, rfl, hi⟩ := hc h1
  have hg := ne g o c l.length rfl
  refine ⟨g, o, rfl, fun i hi' => ?_⟩
  obtain ⟨b1, b2, b3⟩ := hi i hi'
  have e : ∀ j, (W.setCell a x).cell? ⟨g, j, none⟩ = W.cell? ⟨g, j, none⟩ := fun j => by
    unfold World.cell?
    rw [Below.heap_setCell W a x g hg]
  rw [e, e, e]
  exact ⟨b1, b2, b3⟩
theorem RowAt.put3 {W : World} {s : Value} {l : List C3} (h : RowAt W s l) {b : Nat} (x y u : Value) (ne : ∀ g o c n, s = .slice (some ⟨g, o, none⟩) n c → g ≠ b) : RowAt (((W.setCell ⟨b, 0, none⟩ x).setCell ⟨b, 1, none⟩ y).setCell ⟨b, 2, none⟩ u) s l :=
  ((h.other ⟨b, 0, none⟩ x ne).other ⟨b, 1, none⟩ y ne).other ⟨b, 2, none⟩ u ne

end

section
open Go.RowKit Go.Lib

/-- The cells of a valid map. -/
theorem get_valid {m : M3} {x y : Int} (hv : validm m = true) : 0 ≤ (getv m x y).a ∧ (getv m x y).a ≤ 1000000 := by
  unfold getv
  split
  · next hi =>
    obtain ⟨n, hn, _, e⟩ := get_at hi
    unfold getv at e
    rw [if_pos hi] at e
    rw [e]
    unfold validm at hv
    rw [Bool.and_eq_true, List.all_eq_true] at hv
    have h := hv.2 _ (List.getElem_mem hn)
    unfold validc at h
    rw [Bool.and_eq_true, decide_eq_true_iff] at h
    exact ⟨h.1.2.2.2.2.1, h.1.2.2.2.2.2⟩
  · exact ⟨by decide, by decide⟩

end

section
open Go.RowKit Go.Lib

theorem row_cells {W V : World} {s : Value} {l : List C3} (h : RowAt W s l) (hV : Below W.heap.size W V) {i : Nat} (hi : i < l.length) : ∃ g o c, s = .slice (some ⟨g, o, none⟩) l.length c ∧ V.cell? ⟨g, o + i * 3, none⟩ = some (.int .i64 (l[i]'hi).k) ∧ V.cell? ⟨g, o + i * 3 + 1, none⟩ = some (.int .i64 (l[i]'hi).h) ∧ V.cell? ⟨g, o + i * 3 + 2, none⟩ = some (.int .i64 (l[i]'hi).a) := by
  obtain ⟨p, c, rfl, _, hc⟩ := h.below hV
  obtain ⟨g, o, rfl, hat⟩ := hc (by omega)
  exact ⟨g, o, c, rfl, hat i hi⟩
theorem Keep.drewN {w W : World} {L : List (Nat × List Value × TypeId)} (h : Keep w W L) (n : Nat) : Keep w (W.drewN n) L := ⟨fun e he => h.blks e he, below_many h.old n⟩
theorem below_drewN {B : Nat} {w W : World} (h : Below B w W) (n : Nat) : Below B w (W.drewN n) := by
  induction n with
  | zero => exact h
  | succ n ih => exact ih.drew

end

end Go.Proofs.YtpgchjhfhndaaaaDoor
