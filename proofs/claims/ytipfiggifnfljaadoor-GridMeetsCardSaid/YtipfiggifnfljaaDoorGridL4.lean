/-
  Laws of grid: rectangles that meet.
-/
import Derived.Test.YtipfiggifnfljaaDoorGridLaws
import Derived.Test.YtipfiggifnfljaaDoorGridMeetMath
namespace Go.Proofs.YtipfiggifnfljaaDoor
open Go.RowKit Go.Lib

theorem owns_slice {w : World} {B k n : Nat} {e : TypeId} {v : Value} {xs : List Value} (h : w.ownsRow B e k v n xs) : ∃ p c, v = .slice p n c := by
  rcases h.2 with ⟨rfl, rfl⟩ | ⟨g, cap, cur, rfl, _⟩
  · exact ⟨_, _, rfl⟩
  · exact ⟨_, _, rfl⟩
theorem any_next {α : Type} (l : List α) (f : α → Bool) (i : Nat) (h : i < l.length) : (l.take (i + 1)).any f = ((l.take i).any f || f (l[i]'h)) := by
  rw [List.take_succ_eq_append_getElem h, List.any_append]; simp
theorem pcells_i (l : List (Int × Int)) (i : Nat) (h : i < l.length) : (pcells l)[i * 2]? = some (.int .i64 (l[i]'h).1) ∧ (pcells l)[i * 2 + 1]? = some (.int .i64 (l[i]'h).2) := by
  rw [Nat.mul_comm]; exact pcells_at l i h
/-- The coordinates of cells are small. -/
theorem cells_small (r : R4) (i : Nat) (h : i < (cellsv r).length) : I64 ((cellsv r)[i]'h).1 ∧ I64 ((cellsv r)[i]'h).2 := by
  have hm := List.getElem_mem h
  generalize (cellsv r)[i] = p at *
  obtain ⟨x, y, u, v⟩ := r
  by_cases hc : nr u < 1 ∨ nr v < 1 ∨ 1024 < nr u * nr v
  · rw [show cellsv ⟨x, y, u, v⟩ = [] from if_pos hc] at hm
    simp at hm
  · obtain ⟨a, b, ha, hb, a1, b1, hab, e⟩ := cellsv_some (x := x) (y := y) hc
    rw [e] at hm
    obtain ⟨m, n, h1, -, h2, rfl⟩ := (mem_rows _ _ _ _ _ _).1 hm
    have bx := nr_bd x; have by' := nr_bd y; have bu := nr_bd u; have bv := nr_bd v
    dsimp only
    unfold I64
    omega
theorem cells_any (x y u v : Int) (r : R4) (L : List (Int × Int)) (hl : cellsv ⟨x, y, u, v⟩ = L) (h0 : L ≠ []) : L.any (fun p => insv r p.1 p.2) = meetv ⟨x, y, u, v⟩ r := by
  by_cases hc : nr u < 1 ∨ nr v < 1 ∨ 1024 < nr u * nr v
  · exact absurd (hl.symm.trans (if_pos hc)) h0
  · obtain ⟨a, b, ha, hb, a1, b1, hab, e⟩ := cellsv_some (x := x) (y := y) hc
    rw [← hl, e]
    exact meet_any x y u v a b r ha hb a1 b1

theorem cell_keep {W w' : World} {a : Addr} {v : Value} (c : W.cell? a = some v) (h : Below W.heap.size W w') : w'.cell? a = some v := by
  have hk := World.block_lt_of_cell? W a c
  rw [← c]
  exact World.cell?_of_block (h.block a.block hk)
set_option maxRecDepth 100000 in
set_option maxHeartbeats 4000000 in
theorem law_meets {E : World → Prop} (H : GridHave E) (x y u v p q m n : Int) (w : World) (hE : E w) (ix : I64 x) (iy : I64 y) (iu : I64 u) (iv : I64 v) (ip : I64 p) (iq : I64 q) (im : I64 m) (in_ : I64 n) :
    Calls Tryd.prog 7 #[.agg #[.int .i64 x, .int .i64 y, .int .i64 u, .int .i64 v], .agg #[.int .i64 p, .int .i64 q, .int .i64 m, .int .i64 n]] w fun e w' => e = .returned (.bool true) ∧ Below w.heap.size w w' := by
  obtain ⟨b1, e1⟩ : ∃ b, Hid (b = meetv ⟨x, y, u, v⟩ ⟨p, q, m, n⟩) := ⟨_, hid rfl⟩
  have e2 : Hid (b1 = meetv ⟨p, q, m, n⟩ ⟨x, y, u, v⟩) := hid (by rw [e1.out, meet_comm])
  obtain ⟨L, e3⟩ : ∃ L, Hid (cellsv ⟨x, y, u, v⟩ = L) := ⟨_, hid rfl⟩
  have hlen : L.length ≤ 1024 := by have := cellsv_len ⟨x, y, u, v⟩; rw [e3.out] at this; exact this
  go_enter Tryd.func7, Tryd.ntmps7
  go_wp2_with fail
  ((with_reducible refine (H.meet x y u v p q m n b1 _ ix iy iu iv ip iq im in_ e1).mono ?_); rintro e w1 ⟨rfl, hb⟩)
  have hT := (Held2.start w [.int .i64 x, .int .i64 y, .int .i64 u, .int .i64 v] [.int .i64 p, .int .i64 q, .int .i64 m, .int .i64 n] 36 36).call hb
  clear hb
  obtain ⟨_, _, _, _, _, _, _, _, -⟩ := hT.cells44
  go_wp2_with fail
  ((with_reducible refine (smeet_n x y u v p q m n b1 _ e1).mono ?_); rintro e w2 ⟨rfl, hb⟩)
  replace hT := hT.call hb
  clear hb
  obtain ⟨_, _, _, _, _, _, _, _, -⟩ := hT.cells44
  have z1 : (b1 != b1) = false := by simp
  go_wp2_with fail
  ((with_reducible refine (H.meet p q m n x y u v b1 _ ip iq im in_ ix iy iu iv e2).mono ?_); rintro e w3 ⟨rfl, hb⟩)
  replace hT := hT.call hb
  clear hb
  obtain ⟨_, _, _, _, _, _, _, _, -⟩ := hT.cells44
  go_wp2_with fail
  ((with_reducible refine (H.cells x y u v L _ ix iy iu iv e3).mono ?_); rintro e w4 ⟨s, rfl, o1, hb⟩)
  replace hT := hT.call hb
  clear hb
  by_cases h0 : L = []
  · subst h0
    obtain ⟨a, c, rfl⟩ := owns_slice o1
    go_wp2_with fail
    ((with_reducible refine (awake_any H _ (H.keep hE hT.old)).mono ?_); rintro e w5 ⟨rfl, hb⟩)
    replace hT := hT.call hb
    go_wp2_with fail
    go_ret
    exact ⟨rfl, hT.old⟩
  · have hpos : 1 ≤ L.length := List.length_pos_iff.2 h0
    have hany := hid (cells_any x y u v ⟨p, q, m, n⟩ L e3.out h0)
    have z2 : ((L.length : Int) == 0) = false := beq_eq_false_iff_ne.2 (by omega)
    have hsm : ∀ i (h : i < L.length), I64 (L[i]'h).1 ∧ I64 (L[i]'h).2 := by
      have := cells_small ⟨x, y, u, v⟩
      rw [e3.out] at this
      exact this
    obtain ⟨g, c, rfl, hg⟩ := owns_at o1 hpos
    generalize w3.heap.size = A at *
    go_wp2_with fail
    go_loopw [7, 8] (fun vf vi wr => ∃ (i : Nat) (ff : Bool), vi = .int .i64 i ∧ vf = .bool ff ∧ i ≤ L.length ∧ wr.ownsRow A 23 2 (.slice (some ⟨g, 0, none⟩) L.length c) L.length (pcells L) ∧ Held2 w wr w.heap.size (w.heap.size + 1) [.int .i64 x, .int .i64 y, .int .i64 u, .int .i64 v] [.int .i64 p, .int .i64 q, .int .i64 m, .int .i64 n] 36 36 ∧ Hid (ff = (L.take i).any fun k => insv ⟨p, q, m, n⟩ k.1 k.2)) (fun _ vi _ => L.length - (RowKit.intOf vi).toNat)
    case atStart => exact ⟨0, false, rfl, rfl, by omega, o1, hT, hid rfl⟩
    case round =>
      clear o1 hT hg
      obtain ⟨i, ff, rfl, rfl, hi, o1, hT, hF⟩ := hrel
      by_cases hlt : i < L.length
      · have d1 : (i : Int) < L.length := by omega
        have hnx := any_next L (fun k => insv ⟨p, q, m, n⟩ k.1 k.2) i hlt
        cases ff with
        | true =>
          have hN : Hid (true = (L.take (i + 1)).any fun k => insv ⟨p, q, m, n⟩ k.1 k.2) := hid (by rw [hnx, ← hF.out]; rfl)
          clear hnx hF
          go_wp2_with fail
          go_quiet (fail)
          rename_i nq
          have o2 := own_below o1 (below_many (Below.refl _ _) nq)
          have hT2 := hT.call (below_many (Below.refl _ _) nq)
          clear o1 hT
          go_wp2_with fail
          go_roundw
          case rel => exact ⟨i + 1, true, by go_num, rfl, by omega, o2, hT2, hN⟩
          case measure => simp [RowKit.intOf]; omega
        | false =>
          obtain ⟨lx, hlx⟩ : ∃ a, (L[i]'hlt).1 = a := ⟨_, rfl⟩
          obtain ⟨ly, hly⟩ : ∃ a, (L[i]'hlt).2 = a := ⟨_, rfl⟩
          have hs := hsm i hlt
          have hc := pcells_i L i hlt
          rw [hlx, hly] at hs hc
          obtain ⟨b5, e5⟩ : ∃ b, Hid (b = insv ⟨p, q, m, n⟩ lx ly) := ⟨_, hid rfl⟩
          have hN : Hid (b5 = (L.take (i + 1)).any fun k => insv ⟨p, q, m, n⟩ k.1 k.2) := hid (by rw [hnx, ← hF.out, e5.out, hlx, hly]; rfl)
          have a1 := (o1.cellAt (i * 2) (by omega)).trans hc.1
          have a2 := (o1.cellAt (i * 2 + 1) (by omega)).trans hc.2
          obtain ⟨r1, r2, r3, r4, -, -, -, -⟩ := hT.r.four
          clear hnx hF hc hlx hly hsm
          go_wp2_with fail
          have hq := (Below.refl wr.heap.size wr).drew
          go_region_held3 (fun w' => w'.cell? ⟨g, i * 2, none⟩ = some (.int .i64 lx) ∧ w'.cell? ⟨g, i * 2 + 1, none⟩ = some (.int .i64 ly) ∧ w'.cell? ⟨w.heap.size + 1, 0, none⟩ = some (.int .i64 p) ∧ w'.cell? ⟨w.heap.size + 1, 1, none⟩ = some (.int .i64 q) ∧ w'.cell? ⟨w.heap.size + 1, 2, none⟩ = some (.int .i64 m) ∧ w'.cell? ⟨w.heap.size + 1, 3, none⟩ = some (.int .i64 n))
            (first | exact ⟨cell_keep a1 hq, cell_keep a2 hq, cell_keep r1 hq, cell_keep r2 hq, cell_keep r3 hq, cell_keep r4 hq⟩)
            (first | (go_at_call 29; with_reducible refine (H.inside p q m n lx ly b5 _ ip iq im in_ hs.1 hs.2 e5).mono ?_; rintro e w' ⟨rfl, hb⟩; replace hq := below_call hq hb; clear hb))
          have o2 := own_below o1 hq
          have hT2 := hT.call hq
          clear o1 hT hq a1 a2 r1 r2 r3 r4
          go_wp2_with fail
          go_roundw
          case rel => exact ⟨i + 1, b5, by go_num, rfl, by omega, o2, hT2, hN⟩
          case measure => simp [RowKit.intOf]; omega
      · obtain rfl : i = L.length := by omega
        have hf : ff = b1 := by rw [hF.out, List.take_length, hany.out, e1.out]
        subst hf
        clear hF
        go_wp2_with fail
        ((with_reducible refine (awake_any H _ (H.keep hE hT.old)).mono ?_); rintro e w5 ⟨rfl, hb⟩)
        replace hT := hT.call hb
        go_wp2_with fail
        go_ret
        exact ⟨rfl, hT.old⟩

end Go.Proofs.YtipfiggifnfljaaDoor
