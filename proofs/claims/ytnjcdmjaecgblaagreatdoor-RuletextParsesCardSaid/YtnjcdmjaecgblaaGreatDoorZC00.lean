/-
  What the reference of rules answers: names, elements, limits.
-/
import Derived.Test.YtnjcdmjaecgblaaGreatDoorZA01
namespace Go.Proofs.YtnjcdmjaecgblaaGreatDoor
section
section
open Go.RowKit Go.Lib
set_option maxHeartbeats 2000000 in
set_option maxRecDepth 100000 in
theorem r9names_b (l m : List ByteArray) (v u : Value) (b : Bool) (W : World) (hl : StrSl W v l) (hm2 : StrSl W u m) (e : Hid (b = decide (l = m))) :
 Calls Tryz.prog 9 #[v, u] W fun e w' => e = .returned (.bool b) ∧ Below W.heap.size W w' := by
 obtain ⟨p, c, rfl, hm, hat⟩ := hl
 obtain ⟨p2, c2, rfl, -, hat2⟩ := hm2
 unfold maxLen at hm
 by_cases hlen : l.length = m.length
 · have z : ((l.length : Int) != (m.length : Int)) = false := by rw [hlen]; simp
   go_enter Tryz.func9, Tryz.ntmps9
   go_wp2_with fail
   clear z
   go_loopw [5] (fun vi wr => ∃ i : Nat, vi = .int .i64 i ∧ i ≤ l.length ∧ Below W.heap.size W wr ∧ Hid (l.take i = m.take i)) (fun vi _ => l.length - (RowKit.intOf vi).toNat)
   case atStart => exact ⟨0, rfl, by omega, Below.refl _ _, hid rfl⟩
   case round =>
    obtain ⟨i, rfl, hi, hL, hA⟩ := hrel
    by_cases hlt : i < l.length
    · have hlt2 : i < m.length := by omega
      have d1 : (i : Int) < l.length := by omega
      have d2 : (i : Int) < m.length := by omega
      have d0 : (0 : Int) ≤ i := by omega
      obtain ⟨g, o, rfl, hc⟩ := hat (by omega)
      obtain ⟨g2, o2, rfl, hc2⟩ := hat2 (by omega)
      have k1 := (hL.cell (p := ⟨g, o + i, none⟩) (World.block_lt_of_cell? W _ (hc i hlt))).trans (hc i hlt)
      have k2 := (hL.cell (p := ⟨g2, o2 + i, none⟩) (World.block_lt_of_cell? W _ (hc2 i hlt2))).trans (hc2 i hlt2)
      have HN := fun (q : ¬ l[i]'hlt = m[i]'hlt2) => hid (show decide (l = m) = false from decide_eq_false fun h => q (by subst h; rfl))
      have HY := fun (q : l[i]'hlt = m[i]'hlt2) => hid (show l.take (i + 1) = m.take (i + 1) by
       rw [List.take_succ_eq_append_getElem hlt, List.take_succ_eq_append_getElem hlt2, hA.out, q])
      obtain ⟨x, hx⟩ : ∃ x, l[i]'hlt = x := ⟨_, rfl⟩
      obtain ⟨y, hy⟩ : ∃ x, m[i]'hlt2 = x := ⟨_, rfl⟩
      rw [hx, hy] at HN HY
      rw [hx] at k1
      rw [hy] at k2
      clear hx hy hat hat2 hA hc hc2
      by_cases hq : x = y
      · have HS := HY hq
        subst hq
        clear HN HY
        go_wp2_with fail
        go_quiet (fail)
        have hL2 := below_many hL nq
        generalize wr.drewN nq = wr' at *
        clear hL k1 k2
        go_wp2_with fail
        go_roundw
        case rel => exact ⟨i + 1, by go_num, by omega, hL2, HS⟩
        case measure => simp [RowKit.intOf]; omega
      · obtain ⟨q1, q2⟩ := ne_list hq
        have hb := e.out.trans (HN hq).out
        subst hb
        clear HN HY e hq
        go_wp2_with fail
        go_quiet (fail)
        have hL2 := below_many hL nq
        generalize wr.drewN nq = wr' at *
        clear hL k1 k2
        go_wp2_with fail
        go_ret
        exact ⟨rfl, hL2⟩
    · have ha := hA.out
      rw [List.take_of_length_le (by omega), List.take_of_length_le (by omega)] at ha
      have hb := e.out.trans (decide_eq_true ha)
      subst hb
      have d1 : ¬ (i : Int) < l.length := by omega
      clear hat hat2 ha hA e
      go_wp2_with fail
      go_ret
      exact ⟨rfl, hL⟩
 · have z : ((l.length : Int) != (m.length : Int)) = true := by simp; omega
   have hb := e.out.trans (decide_eq_false (fun h => hlen (by rw [h])))
   subst hb
   clear e hat hat2
   go_enter Tryz.func9, Tryz.ntmps9
   go_wp2_with fail
   go_ret
   exact ⟨rfl, Below.refl _ _⟩
end
end

end Go.Proofs.YtnjcdmjaecgblaaGreatDoor
