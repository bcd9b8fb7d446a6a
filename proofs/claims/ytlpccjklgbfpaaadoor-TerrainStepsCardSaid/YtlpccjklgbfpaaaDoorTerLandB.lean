/-
  What the functions of terrain answer, as landed at 6373918: the cell of a position, valid maps.
-/
import Derived.Test.YtlpccjklgbfpaaaDoorTerLandA
import Derived.Deep.Cut
namespace Go.Proofs.YtlpccjklgbfpaaaDoor
open Go.RowKit Go.Lib

theorem dindex_b (w x y n : Int) (W : World) (e : Hid (n = indexv w x y)) : Calls Tryd.prog 32 #[.int .i64 w, .agg #[.int .i64 x, .int .i64 y]] W fun e w' => e = .returned (.int .i64 n) ∧ Below W.heap.size W w' := by
  rw [e.out]; exact dindex_any w x y W
set_option maxHeartbeats 2000000 in
theorem dget_no (m : M3) (s : Value) (x y : Int) (W : World) (hr : RowAt W s m.cs) (e : Hid (false = insidev m x y)) :
    Calls Tryd.prog 12 #[.agg #[.int .i64 m.w, .int .i64 m.h, s], .agg #[.int .i64 x, .int .i64 y]] W fun e w' => e = .returned (.tuple #[.agg #[.int .i64 0, .int .i64 0, .int .i64 0], .bool false]) ∧ Below W.heap.size W w' := by
  have hT := (Held2.start W [.int .i64 m.w, .int .i64 m.h, s] [.int .i64 x, .int .i64 y] 24 26).alloc (.cells [Value.int .i64 0, .int .i64 0, .int .i64 0].toArray 28)
  have hB := (Blk.new ((W.alloc (.cells [Value.int .i64 m.w, .int .i64 m.h, s].toArray 24)).alloc (.cells [Value.int .i64 x, .int .i64 y].toArray 26)) [.int .i64 0, .int .i64 0, .int .i64 0] 28).at ((World.size_alloc _ _).trans (congrArg (· + 1) (World.size_alloc _ _)))
  go_enter Tryd.func12, Tryd.ntmps12
  go_wp2_with fail
  ((with_reducible refine (dinside_b m s x y false _ (hr.below hT.old) e).mono ?_); rintro e w1 ⟨rfl, hb⟩)
  replace hT := hT.call hb
  replace hB := hB.below hb
  obtain ⟨_, _, _, _, _, _⟩ := hB.three
  go_wp2_with fail
  have hB2 := ((hB.set 0 (.int .i64 0)).set 1 (.int .i64 0)).set 2 (.int .i64 0)
  obtain ⟨_, _, _, -, -, -⟩ := hB2.three
  refine bodyPost_ret (v := .tuple #[.agg #[.int .i64 0, .int .i64 0, .int .i64 0], .bool false]) (by simp [results, Tryd.results12, go_sem, *]) rfl ⟨rfl, ?_⟩
  exact ((hT.old.setCell (by simp; omega) _).setCell (by simp; omega) _).setCell (by simp; omega) _

set_option maxHeartbeats 2000000 in
theorem dget_yes (m : M3) (s : Value) (x y : Int) (q : C3) (W : World) (hr : RowAt W s m.cs) (e : Hid (true = insidev m x y)) (hq : Hid (q = getv m x y)) :
    Calls Tryd.prog 12 #[.agg #[.int .i64 m.w, .int .i64 m.h, s], .agg #[.int .i64 x, .int .i64 y]] W fun e w' => e = .returned (.tuple #[.agg #[.int .i64 q.k, .int .i64 q.h, .int .i64 q.a], .bool true]) ∧ Below W.heap.size W w' := by
  obtain ⟨n, hn, hix, hg⟩ := get_at e.out.symm
  obtain ⟨p, c, rfl, hm, hc⟩ := id hr
  obtain ⟨g, o, rfl, hat⟩ := hc (by omega)
  obtain ⟨a1, a2, a3⟩ := hat n hn
  rw [← hg, ← hq.out] at a1 a2 a3
  have n1 : (0 : Int) ≤ n := by omega
  have n2 : (n : Int) < m.cs.length := by omega
  have hk : g < W.heap.size := World.block_lt_of_cell? W _ a1
  clear hat hc hg hq
  have hl := (Blk.new W [.int .i64 m.w, .int .i64 m.h, .slice (some ⟨g, o, none⟩) m.cs.length c] 24).alloc (.cells [Value.int .i64 x, .int .i64 y].toArray 26)
  have hr2 := (Blk.new (W.alloc (.cells [Value.int .i64 m.w, .int .i64 m.h, .slice (some ⟨g, o, none⟩) m.cs.length c].toArray 24)) [.int .i64 x, .int .i64 y] 26).at (World.size_alloc _ _)
  have hB := (Blk.new ((W.alloc (.cells [Value.int .i64 m.w, .int .i64 m.h, .slice (some ⟨g, o, none⟩) m.cs.length c].toArray 24)).alloc (.cells [Value.int .i64 x, .int .i64 y].toArray 26)) [.int .i64 0, .int .i64 0, .int .i64 0] 28).at ((World.size_alloc _ _).trans (congrArg (· + 1) (World.size_alloc _ _)))
  have hL := (((Below.refl W.heap.size W).alloc (Nat.le_refl _) (.cells [Value.int .i64 m.w, .int .i64 m.h, .slice (some ⟨g, o, none⟩) m.cs.length c].toArray 24)).alloc (by simp) (.cells [Value.int .i64 x, .int .i64 y].toArray 26)).alloc (by simp; omega) (.cells [Value.int .i64 0, .int .i64 0, .int .i64 0].toArray 28)
  replace hl := hl.alloc (.cells [Value.int .i64 0, .int .i64 0, .int .i64 0].toArray 28)
  replace hr2 := hr2.alloc (.cells [Value.int .i64 0, .int .i64 0, .int .i64 0].toArray 28)
  rw [← hL.cell (p := ⟨g, _, none⟩) hk] at a1 a2 a3
  have hr3 := hr.below hL
  go_enter Tryd.func12, Tryd.ntmps12
  go_wp2_with fail
  generalize ((W.alloc (.cells [Value.int .i64 m.w, .int .i64 m.h, .slice (some ⟨g, o, none⟩) m.cs.length c].toArray 24)).alloc (.cells [Value.int .i64 x, .int .i64 y].toArray 26)).alloc (.cells [Value.int .i64 0, .int .i64 0, .int .i64 0].toArray 28) = V at *
  ((with_reducible refine (dinside_b m _ x y true _ hr3 e).mono ?_); rintro e w1 ⟨rfl, hb⟩)
  have hq := hb.mono (Nat.le_of_lt hB.lt)
  have hL2 := below_call hL hb
  have hB2 := hB.below hb
  clear hb
  obtain ⟨_, _, _, _, _, _, _, _⟩ := get_keep hl hr2 a1 a2 a3 (by omega) (by omega) (show g < W.heap.size + 1 + 1 by omega) hq
  replace hq := hq.drew
  replace hL2 := hL2.drew
  replace hB2 := hB2.drew
  obtain ⟨_, _, _, _, _, _⟩ := hB2.three
  go_wp2_with fail
  go_region_held3 (fun w' => w'.cell? ⟨W.heap.size, 0, none⟩ = some (.int .i64 m.w) ∧ w'.cell? ⟨W.heap.size, 1, none⟩ = some (.int .i64 m.h) ∧ w'.cell? ⟨W.heap.size, 2, none⟩ = some (.slice (some ⟨g, o, none⟩) m.cs.length c) ∧ w'.cell? ⟨W.heap.size + 1, 0, none⟩ = some (.int .i64 x) ∧ w'.cell? ⟨W.heap.size + 1, 1, none⟩ = some (.int .i64 y) ∧ w'.cell? ⟨g, o + n * 3, none⟩ = some (.int .i64 q.k) ∧ w'.cell? ⟨g, o + n * 3 + 1, none⟩ = some (.int .i64 q.h) ∧ w'.cell? ⟨g, o + n * 3 + 2, none⟩ = some (.int .i64 q.a))
    (first | exact get_keep hl hr2 a1 a2 a3 (by omega) (by omega) (show g < W.heap.size + 1 + 1 by omega) hq | exact get_keep hl hr2 a1 a2 a3 (by omega) (by omega) (show g < W.heap.size + 1 + 1 by omega) (((hq.setCell (by simp) _).setCell (by simp) _).setCell (by simp) _))
    (first | (go_at_call 32; with_reducible refine (dindex_b _ x y n _ hix).mono ?_; rintro e w' ⟨rfl, hb⟩; replace hq := hq.trans (hb.mono (by have := hB2.lt; omega)); replace hL2 := below_call hL2 hb; replace hB2 := hB2.below hb; clear hb; obtain ⟨_, _, _, _, _, _⟩ := hB2.three))
  go_wp2
  have hB3 := ((hB2.set 0 (.int .i64 q.k)).set 1 (.int .i64 q.h)).set 2 (.int .i64 q.a)
  obtain ⟨_, _, _, -, -, -⟩ := hB3.three
  refine bodyPost_ret (v := .tuple #[.agg #[.int .i64 q.k, .int .i64 q.h, .int .i64 q.a], .bool true]) (by simp [results, Tryd.results12, go_sem, *]) rfl ⟨rfl, ?_⟩
  exact ((hL2.setCell (by simp; omega) _).setCell (by simp; omega) _).setCell (by simp; omega) _

theorem dget_b (m : M3) (s : Value) (x y : Int) (q : C3) (b : Bool) (W : World) (hr : RowAt W s m.cs) (e : Hid (b = insidev m x y)) (hq : Hid (q = getv m x y)) :
    Calls Tryd.prog 12 #[.agg #[.int .i64 m.w, .int .i64 m.h, s], .agg #[.int .i64 x, .int .i64 y]] W fun e w' => e = .returned (.tuple #[.agg #[.int .i64 q.k, .int .i64 q.h, .int .i64 q.a], .bool b]) ∧ Below W.heap.size W w' := by
  cases b with
  | true => exact dget_yes m s x y q W hr e hq
  | false =>
    have h : q = C3.zero := by rw [hq.out]; unfold getv; rw [← e.out]; rfl
    subst h
    exact dget_no m s x y W hr e

set_option maxHeartbeats 2000000 in
/-- The first cell that is not valid. -/
theorem didx_b (cs : List C3) (s : Value) (W : World) (hr : RowAt W s cs) :
    Calls Tryd.prog 61 #[s, .func (.func 35) #[] #[]] W fun e w' => ∃ n : Int, e = .returned (.int .i64 n) ∧ Hid (decide (0 ≤ n) = !cs.all validc) ∧ Below W.heap.size W w' := by
  obtain ⟨p, c, rfl, hm, hc⟩ := id hr
  unfold maxLen at hm
  go_enter Tryd.func61, Tryd.ntmps61
  go_wp2_with fail
  go_loopw [8] (fun vi wr => ∃ i : Nat, vi = .int .i64 i ∧ i ≤ cs.length ∧ Below W.heap.size W wr ∧ Hid (∀ j, (h : j < cs.length) → j < i → validc (cs[j]'h) = true)) (fun vi _ => cs.length - (RowKit.intOf vi).toNat)
  case atStart => exact ⟨0, rfl, by omega, Below.refl _ _, hid (fun j _ h => by omega)⟩
  case round =>
    obtain ⟨i, rfl, hi, hT, hG⟩ := hrel
    by_cases hlt : i < cs.length
    · have d1 : (i : Int) < cs.length := by omega
      obtain ⟨g, o, rfl, hat⟩ := hc (by omega)
      obtain ⟨a1, a2, a3⟩ := hat i hlt
      have hk : g < W.heap.size := World.block_lt_of_cell? W _ a1
      rw [← hT.cell (p := ⟨g, _, none⟩) hk] at a1 a2 a3
      obtain ⟨q, hq⟩ : ∃ q, cs[i]'hlt = q := ⟨_, rfl⟩
      rw [hq] at a1 a2 a3
      obtain ⟨bb, hbb⟩ : ∃ t, Hid (t = validc q) := ⟨_, hid rfl⟩
      clear hat hc hr
      cases bb with
      | true =>
        have hN := hid (show ∀ j, (h : j < cs.length) → j < i + 1 → validc (cs[j]'h) = true from fun j h hj => by
          by_cases e : j < i
          · exact hG.out j h e
          · obtain rfl : j = i := by omega
            rw [hq]; exact hbb.out.symm)
        clear hG
        go_wp2_with (go_at_call 35; with_reducible refine (dinvalid_b q true _ hbb).mono ?_; rintro e w2 ⟨rfl, hb2⟩)
        go_roundw
        case rel => exact ⟨i + 1, by go_num, by omega, below_call hT hb2, hN⟩
        case measure => simp [RowKit.intOf]; omega
      | false =>
        have hA : cs.all validc = false := by
          rw [List.all_eq_false]
          exact ⟨cs[i]'hlt, List.getElem_mem hlt, by rw [hq, ← hbb.out]; simp⟩
        clear hG
        go_wp2_with (go_at_call 35; with_reducible refine (dinvalid_b q false _ hbb).mono ?_; rintro e w2 ⟨rfl, hb2⟩)
        go_ret
        exact ⟨_, rfl, hid (by rw [hA]; exact decide_eq_true (by omega)), below_call hT hb2⟩
    · obtain rfl : i = cs.length := by omega
      have hA : cs.all validc = true := by
        rw [List.all_eq_true]
        intro x hx
        obtain ⟨j, hj, rfl⟩ := List.getElem_of_mem hx
        exact hG.out j hj hj
      clear hG
      go_wp2_with fail
      go_ret
      exact ⟨_, rfl, hid (by rw [hA]; rfl), hT⟩

set_option maxHeartbeats 1000000 in
theorem dany_b (cs : List C3) (s : Value) (b : Bool) (W : World) (hr : RowAt W s cs) (e : Hid (b = cs.all validc)) :
    Calls Tryd.prog 40 #[s, .func (.func 35) #[] #[]] W fun e w' => e = .returned (.bool (!b)) ∧ Below W.heap.size W w' := by
  obtain ⟨p, c, rfl, _, _⟩ := id hr
  go_enter Tryd.func40, Tryd.ntmps40
  go_wp2_with fail
  ((with_reducible refine (didx_b cs _ _ hr).mono ?_); rintro e w1 ⟨n, rfl, hn, hb1⟩)
  go_wp2_with fail
  go_ret
  exact ⟨ret_bit (by rw [e.out]; exact hn.out), hb1⟩

set_option maxHeartbeats 1000000 in
theorem dvalidm_b (m : M3) (s : Value) (b : Bool) (W : World) (hr : RowAt W s m.cs) (e : Hid (b = validm m)) :
    Calls Tryd.prog 16 #[.agg #[.int .i64 m.w, .int .i64 m.h, s]] W fun e w' => e = .returned (.bool b) ∧ Below W.heap.size W w' := by
  have hT := Held1.start W [.int .i64 m.w, .int .i64 m.h, s] 24
  have hF := dformed_any m s _ (hr.below hT.old)
  unfold mapV at hF
  have hI : b = (formedv m && m.cs.all validc) := e.out
  clear e
  cases hf : formedv m with
  | false =>
    rw [hf, Bool.false_and] at hI
    subst hI
    rw [hf] at hF
    go_enter Tryd.func16, Tryd.ntmps16
    go_wp2_with fail
    (refine hF.mono ?_; rintro e w1 ⟨rfl, hb1⟩)
    go_wp2_with fail
    go_ret
    exact ⟨rfl, below_call hT.old hb1⟩
  | true =>
    rw [hf, Bool.true_and] at hI
    have hI' := hid hI
    clear hI
    rw [hf] at hF
    go_enter Tryd.func16, Tryd.ntmps16
    go_wp2_with fail
    (refine hF.mono ?_; rintro e w1 ⟨rfl, hb1⟩)
    replace hT := hT.call hb1
    obtain ⟨_, _, _, _, _, _⟩ := hT.l.three
    clear hb1 hF
    have hr1 := hr.below hT.old
    go_wp2_with fail
    ((with_reducible refine (dany_b m.cs s b _ hr1 hI').mono ?_); rintro e w2 ⟨rfl, hb2⟩)
    go_wp2_with fail
    go_ret
    exact ⟨ret_bit (by simp), below_call hT.old hb2⟩

end Go.Proofs.YtlpccjklgbfpaaaDoor
