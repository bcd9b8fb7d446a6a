/-
  What the reference of terrain answers: valid maps, cells.
-/
import Derived.Test.YtlpccjklgbfpaaaDoorTerA
namespace Go.Proofs.YtlpccjklgbfpaaaDoor
open Go.RowKit Go.Lib

theorem rvalidc_b (c : C3) (b : Bool) (W : World) (e : Hid (b = validc c)) : Calls Tryd.prog 37 #[.agg #[.int .i64 c.k, .int .i64 c.h, .int .i64 c.a]] W fun e w' => e = .returned (.bool b) ∧ Below W.heap.size W w' := by
  rw [e.out]; exact rvalidc_any c.k c.h c.a W
set_option maxHeartbeats 1000000 in
theorem rvalidm_b (m : M3) (s : Value) (b : Bool) (W : World) (hr : RowAt W s m.cs) (e : Hid (b = validm m)) :
    Calls Tryd.prog 17 #[mapV m s] W fun e w' => e = .returned (.bool b) ∧ Below W.heap.size W w' := by
  have hT := Held1.start W [.int .i64 m.w, .int .i64 m.h, s] 24
  have hF := rformed_any m s _ (hr.below hT.old)
  unfold mapV at hF ⊢
  cases hf : formedv m with
  | false =>
    have hb : b = false := by rw [e.out]; unfold validm; rw [hf, Bool.false_and]
    subst hb
    rw [hf] at hF
    go_enter Tryd.func17, Tryd.ntmps17
    go_wp2_with fail
    (refine hF.mono ?_; rintro e w1 ⟨rfl, hb1⟩)
    go_wp2_with fail
    go_ret
    exact ⟨rfl, below_call hT.old hb1⟩
  | true =>
    have hv : Hid (b = m.cs.all validc) := hid (by rw [e.out]; unfold validm; rw [hf, Bool.true_and])
    rw [hf] at hF
    clear e
    obtain ⟨p, c, rfl, hm, hc⟩ := id hr
    unfold maxLen at hm
    go_enter Tryd.func17, Tryd.ntmps17
    go_wp2_with fail
    (refine hF.mono ?_; rintro e w1 ⟨rfl, hb1⟩)
    replace hT := hT.call hb1
    clear hb1 hF
    go_wp2_with fail
    go_loopw [3] (fun vi wr => ∃ i : Nat, vi = .int .i64 i ∧ i ≤ m.cs.length ∧ Held1 W wr W.heap.size [.int .i64 m.w, .int .i64 m.h, .slice p m.cs.length c] 24 ∧ Hid (∀ j, (h : j < m.cs.length) → j < i → validc (m.cs[j]'h) = true)) (fun vi _ => m.cs.length - (RowKit.intOf vi).toNat)
    case atStart => exact ⟨0, rfl, by omega, hT, hid (fun j _ h => by omega)⟩
    case round =>
      clear hT
      obtain ⟨i, rfl, hi, hT, hG⟩ := hrel
      obtain ⟨_, _, _, _, _, _⟩ := hT.l.three
      by_cases hlt : i < m.cs.length
      · have d1 : (i : Int) < m.cs.length := by omega
        obtain ⟨g, o, rfl, hat⟩ := hc (by omega)
        obtain ⟨a1, a2, a3⟩ := hat i hlt
        have hk : g < W.heap.size := World.block_lt_of_cell? W _ a1
        rw [← hT.old.cell (p := ⟨g, _, none⟩) hk] at a1 a2 a3
        obtain ⟨q, hq⟩ : ∃ q, m.cs[i]'hlt = q := ⟨_, rfl⟩
        rw [hq] at a1 a2 a3
        obtain ⟨bb, hbb⟩ : ∃ t, Hid (t = validc q) := ⟨_, hid rfl⟩
        clear hat hc hr
        cases bb with
        | true =>
          have hN := hid (show ∀ j, (h : j < m.cs.length) → j < i + 1 → validc (m.cs[j]'h) = true from fun j h hj => by
            by_cases e : j < i
            · exact hG.out j h e
            · obtain rfl : j = i := by omega
              rw [hq]; exact hbb.out.symm)
          clear hG
          go_wp2_with fail
          ((with_reducible refine (rvalidc_b q true _ hbb).mono ?_); rintro e w2 ⟨rfl, hb2⟩)
          replace hT := hT.call hb2
          clear hb2
          go_wp2_with fail
          go_roundw
          case rel => exact ⟨i + 1, by go_num, by omega, hT, hN⟩
          case measure => simp [RowKit.intOf]; omega
        | false =>
          have hb : b = false := by
            rw [hv.out, List.all_eq_false]
            exact ⟨m.cs[i]'hlt, List.getElem_mem hlt, by rw [hq, ← hbb.out]; simp⟩
          subst hb
          clear hG
          go_wp2_with fail
          ((with_reducible refine (rvalidc_b q false _ hbb).mono ?_); rintro e w2 ⟨rfl, hb2⟩)
          replace hT := hT.call hb2
          go_wp2_with fail
          go_ret
          exact ⟨rfl, hT.old⟩
      · obtain rfl : i = m.cs.length := by omega
        have hb : b = true := by
          rw [hv.out, List.all_eq_true]
          intro x hx
          obtain ⟨j, hj, rfl⟩ := List.getElem_of_mem hx
          exact hG.out j hj hj
        subst hb
        clear hG
        go_wp2_with fail
        go_ret
        exact ⟨rfl, hT.old⟩

end Go.Proofs.YtlpccjklgbfpaaaDoor
