/-
  astar as landed at 35fbd81: slices.Repeat at a list of one number; the numbers of all cells.
-/
import Derived.Test.YtbdgpldhfemejaaDoorAsA
import Derived.Test.YtbdgpldhfemejaaDoorShelf
import Derived.Laws.CopyRow
import Derived.Laws.CopyOwn
namespace Go.Proofs.YtbdgpldhfemejaaDoor
open Go.RowKit Go.Lib

theorem asinfoInt : (Tryd.prog.info? 3).map (fun i => (i.zero, i.size, i.bytes)) = some (some (.int .i64 0), 1, 8) := by kernel_rfl
theorem sizeInt : (Tryd.prog.info? 3).map (·.size) = some 1 := by kernel_rfl
/-- A row of -1 up to k, of zeros behind. -/
abbrev repL (n k : Nat) : List Value := List.replicate k (.int .i64 (-1)) ++ List.replicate (n - k) (.int .i64 0)
theorem rep_copy (w : World) (b n k j c d : Nat) (t : TypeId) (hk : k ≤ n) (hj : j = min k (n - k)) (h : Blk w b (repL n k) t) :
    ∃ w', (Builtin.copy_ #[41, 41] 3 #[.slice (some ⟨b, k, none⟩) (n - k) c, .slice (some ⟨b, 0, none⟩) k d]).run Tryd.prog w = .ok (goInt j) w' ∧ Blk w' b (repL n (k + j)) t ∧ ∀ B, B ≤ b → Below B w w' := by
  have hl : (List.replicate j (Value.int .i64 (-1))).length = j := List.length_replicate
  have hr := run_copy_row (P := Tryd.prog) w 41 41 3 3 b k (n - k) c ⟨b, 0, none⟩ k d (repL n k).toArray t (List.replicate j (.int .i64 (-1))) Tryd.underlying41 sizeInt h
    (by rw [hl, hj]) (fun i v hv => by
      have hi : i < j := by
        apply Classical.byContradiction; intro hn
        rw [List.getElem?_eq_none (by rw [hl]; omega)] at hv; cases hv
      have hadd : (⟨b, 0, none⟩ : Addr).add i = ⟨b, i, none⟩ := by unfold Addr.add; split <;> simp_all
      rw [hadd, h.cell i, List.getElem?_append_left (by rw [List.length_replicate]; omega)]
      rw [List.getElem?_replicate, if_pos hi] at hv
      rw [List.getElem?_replicate, if_pos (by omega)]; exact hv)
    (by rw [hl]; simp only [List.size_toArray, repL, List.length_append, List.length_replicate]; omega) (fun v hv => by rw [List.eq_of_mem_replicate hv]; rfl)
  rw [hl] at hr
  have hbk : ((repL n k).toArray.toList.take k ++ List.replicate j (Value.int .i64 (-1)) ++ (repL n k).toArray.toList.drop (k + j)) = repL n (k + j) := by
    show ((List.replicate k _ ++ List.replicate (n - k) _).take k ++ _ ++ (List.replicate k _ ++ List.replicate (n - k) _).drop (k + j)) = _
    have e1 : (List.replicate k (Value.int .i64 (-1)) ++ List.replicate (n - k) (Value.int .i64 0)).take k = List.replicate k (.int .i64 (-1)) := by
      rw [List.take_append_of_le_length (by rw [List.length_replicate]; exact Nat.le_refl _), List.take_of_length_le (by rw [List.length_replicate]; exact Nat.le_refl _)]
    have e2 : (List.replicate k (Value.int .i64 (-1)) ++ List.replicate (n - k) (Value.int .i64 0)).drop (k + j) = List.replicate (n - (k + j)) (.int .i64 0) := by
      rw [List.drop_append, List.drop_eq_nil_of_le (by rw [List.length_replicate]; omega), List.nil_append, List.length_replicate, List.drop_replicate, show n - k - (k + j - k) = n - (k + j) by omega]
    rw [e1, e2, repL, ← List.replicate_append_replicate]
  rw [hbk] at hr
  exact ⟨_, hr, setRow_heap w b _ _ t _ h, fun B hB => below_setRow (Below.refl B w) hB _⟩

theorem rep_copy1 (w : World) (b n g : Nat) (t : TypeId) (h1 : 1 ≤ n) (h : Blk w b (repL n 0) t) (hc : w.cell? ⟨g, 0, none⟩ = some (.int .i64 (-1))) :
    ∃ w', (Builtin.copy_ #[41, 41] 3 #[.slice (some ⟨b, 0, none⟩) n n, .slice (some ⟨g, 0, none⟩) 1 1]).run Tryd.prog w = .ok (goInt 1) w' ∧ Blk w' b (repL n 1) t ∧ ∀ B, B ≤ b → Below B w w' := by
  have hr := run_copy_row (P := Tryd.prog) w 41 41 3 3 b 0 n n ⟨g, 0, none⟩ 1 1 (repL n 0).toArray t [.int .i64 (-1)] Tryd.underlying41 sizeInt h
    (Nat.min_eq_left h1).symm (fun i v hv => by
      cases i with
      | zero => injection hv with hv; rw [← hv]; exact hc
      | succ i => simp at hv)
    (by simp only [List.size_toArray, repL, List.length_append, List.length_replicate, List.length_cons, List.length_nil]; omega) (fun v hv => by rw [List.mem_singleton.1 hv]; rfl)
  have hbk : ((repL n 0).toArray.toList.take 0 ++ [Value.int .i64 (-1)] ++ (repL n 0).toArray.toList.drop (0 + [Value.int .i64 (-1)].length)) = repL n 1 := by
    show [] ++ [Value.int .i64 (-1)] ++ ((List.replicate 0 _ ++ List.replicate (n - 0) _).drop 1) = _
    rw [List.replicate_zero, List.nil_append, List.nil_append, List.drop_replicate, repL, Nat.sub_zero]
    rfl
  rw [hbk] at hr
  exact ⟨_, hr, setRow_heap w b _ _ t _ h, fun B hB => below_setRow (Below.refl B w) hB _⟩

set_option maxRecDepth 100000 in
set_option maxHeartbeats 4000000 in
theorem asrep_b (n g : Nat) (W : World) (h1 : 1 ≤ n) (hn : n ≤ 1024) (hc : W.cell? ⟨g, 0, none⟩ = some (.int .i64 (-1))) :
    Calls Tryd.prog 62 #[.slice (some ⟨g, 0, none⟩) 1 1, .int .i64 n] W fun e w' => ∃ b, e = .returned (.slice (some ⟨b, 0, none⟩) n n) ∧ W.heap.size ≤ b ∧ Blk w' b (List.replicate n (.int .i64 (-1))) 3 ∧ Below W.heap.size W w' := by
  have hMul := Tryd.bits_Mul 1 n (by omega) (by omega) W
  rw [Nat.one_mul, Nat.div_eq_of_lt (by omega : n < 18446744073709551616), Nat.mod_eq_of_lt (by omega : n < 18446744073709551616)] at hMul
  obtain ⟨i0, hi0, hz0, hz1, hz2⟩ := info_cut asinfoInt
  have hn0 : (0 : Int) ≤ n := by omega
  have hnb : (n : Int) ≤ 1024 := by omega
  have w1 : IntKind.u64.wrap (n : Int) = n := by rw [IntKind.wrap_u64]; omega
  have w2 : IntKind.i64.wrap (n : Int) = n := IntWalk.i64_in _ (by omega)
  obtain ⟨W1, hmk, hown, hg1⟩ := run_make_full W W.heap.size 41 3 i0 (.int .i64 0) 1 Tryd.underlying41 hi0 hz0 hz1 .i64 .i64 n (by rw [hz2]; omega) (by unfold maxLen; omega) (Nat.le_refl _)
  have hb1 : Below W.heap.size W W1 := (Below.refl _ W).grown hg1 (Nat.le_refl _) (fun k h => by cases h)
  have hB1 : Blk W1 W.heap.size (repL n 0) 3 := by
    rw [Nat.mul_one, show (.int .i64 0 : Value).cells = #[.int .i64 0] from rfl, toList_madeCells_one] at hown
    rcases hown.2 with ⟨e, _⟩ | ⟨g', cap, cur, e, _, hh, _, _, hs, ht⟩
    · cases e
    · injection e with e1 _ e2
      injection e1 with e1
      injection e1 with e1
      subst e1 e2
      unfold Blk
      rw [hh]
      rw [Nat.mul_one, List.take_of_length_le (by simp [hs])] at ht
      congr 2
      rw [repL, List.replicate_zero, List.nil_append, Nat.sub_zero, ← ht]
  clear hown hg1 hi0 hz0 hz1 hz2
  have hc1 : W1.cell? ⟨g, 0, none⟩ = some (.int .i64 (-1)) := (hb1.cell (p := ⟨g, 0, none⟩) (World.block_lt_of_cell? W _ hc)).trans hc
  obtain ⟨W2, hcp, hB2, hw2⟩ := rep_copy1 W1 W.heap.size n g 3 h1 hB1 hc1
  have hb2 := hb1.trans (hw2 _ (Nat.le_refl _))
  clear hc1 hB1 hb1 hw2
  go_enter Tryd.func62, Tryd.ntmps62
  go_wp2_with (go_at_call 80; refine hMul.mono ?_; rintro e w9 ⟨rfl, hw⟩; rw [hw]; clear hw)
  go_loopw [8] (fun x wr => ∃ k : Nat, x = .int .i64 k ∧ 1 ≤ k ∧ k ≤ n ∧ Blk wr W.heap.size (repL n k) 3 ∧ Below W.heap.size W wr) (fun x _ => n - (intOf x).toNat)
  case atStart => exact ⟨1, rfl, Nat.le_refl _, h1, hB2, hb2⟩
  case round =>
    clear hB2 hb2 hcp hmk
    obtain ⟨k, rfl, hk1, hkn, hB, hb⟩ := hrel
    by_cases hlt : k < n
    · obtain ⟨j, hj⟩ : ∃ j, j = min k (n - k) := ⟨_, rfl⟩
      have hj1 : 1 ≤ j := by omega
      have hjn : k + j ≤ n := by omega
      obtain ⟨W3, hcp, hB3, hw3⟩ := rep_copy wr.drew W.heap.size n k j (n - k) n 3 hkn hj hB.drew
      have hb3 := hb.drew.trans (hw3 _ (Nat.le_refl _))
      clear hw3 hj
      have g1 : decide ((k : Int) < n) = true := decide_eq_true (by omega)
      have s1 : IntKind.i64.wrap ((k : Int) + j) = ((k + j : Nat) : Int) := by rw [IntWalk.i64_in _ (by omega)]; simp
      go_upto_region 1 with fail
      go_region
      go_wp2
      go_roundw
      case rel => exact ⟨k + j, by simp, by omega, hjn, hB3, hb3⟩
      case measure => simp [intOf]; omega
    · obtain rfl : k = n := by omega
      go_wp2
      go_ret
      rw [show repL k k = List.replicate k (.int .i64 (-1)) by rw [repL, Nat.sub_self, List.replicate_zero, List.append_nil]] at hB
      exact ⟨_, rfl, Nat.le_refl _, hB, hb⟩

set_option maxHeartbeats 1000000 in
theorem asnumbers_b (m : M3) (s l : Value) (c : Int) (W : World) (hr : RowAt W s m.cs) (h1 : 1 ≤ m.cs.length) (hn : m.cs.length ≤ 1024) :
    Calls Tryd.prog 40 #[.agg #[.int .i64 m.w, .int .i64 m.h, s, l, .int .i64 c]] W fun e w' => ∃ b, e = .returned (.slice (some ⟨b, 0, none⟩) m.cs.length m.cs.length) ∧ W.heap.size < b ∧ Blk w' b (List.replicate m.cs.length (.int .i64 (-1))) 3 ∧ Below W.heap.size W w' := by
  have hK := Held1.start W [.int .i64 m.w, .int .i64 m.h, s, l, .int .i64 c] 46
  obtain ⟨p, k, rfl, hm, -⟩ := hr
  unfold maxLen at hm
  have cr := fun (w : World) (g : Nat) (hc : w.cell? ⟨g, 0, none⟩ = some (.int .i64 (-1))) => asrep_b m.cs.length g w h1 hn hc
  obtain ⟨n, hN⟩ : ∃ n, m.cs.length = n := ⟨_, rfl⟩
  rw [hN] at hm h1 hn cr ⊢
  clear hN
  go_enter Tryd.func40, Tryd.ntmps40
  go_wp2_with fail
  have hK2 := (Below.refl W.heap.size W).alloc (Nat.le_refl _) (.cells [Value.int .i64 m.w, .int .i64 m.h, .slice p n k, l, .int .i64 c].toArray 46)
  have hK3 := hK2.alloc hK2.size (.cells [Value.int .i64 (-1)].toArray 3)
  have hz := Blk.new (W.alloc (.cells [Value.int .i64 m.w, .int .i64 m.h, .slice p n k, l, .int .i64 c].toArray 46)) [.int .i64 (-1)] 3
  rw [World.size_alloc] at hz
  refine (cr _ (W.heap.size + 1) (hz.cell 0)).mono ?_
  rintro e w1 ⟨b, rfl, hlt, hB, hb1⟩
  have hb2 := below_call hK3 hb1
  rw [World.size_alloc, World.size_alloc] at hlt
  clear hK2 hK3 hz hb1 cr hK
  go_wp2_with fail
  go_ret
  exact ⟨b, rfl, by omega, hB, hb2⟩

end Go.Proofs.YtbdgpldhfemejaaDoor
