/-
  slices.Chunk over a slice of cells: for every loop body that keeps what lay below.
-/
import Derived.Test.YtmpbgfobiceehaaGreatDoorMapEnv
import Derived.RangeFuncBox
import Derived.RangeFuncLeaves
import Derived.RangeFuncNested
import Derived.RangeFuncBound
import Derived.RangeFuncCalls
import Derived.Shelf.Abstract
import Derived.Shelf.RegionOpen
import Derived.WalkKit
import Derived.OwnWalkIn
import Derived.TacticsInMore
import Derived.LoopNIn
import Derived.LoopIn
import Derived.BigRegionIn
import Derived.Maps.AppendAt
namespace Go.Proofs.YtmpbgfobiceehaaGreatDoor
open Go.RowKit Go.Lib Go.Shelf

attribute [local go_sem] Oper.semAt_some

/-- The k-th piece of a slice of cells, w cells long. -/
def chunkV (g o w k : Nat) : Value := .slice (some ⟨g, o + k * w * 3, none⟩) w w
abbrev Upto (h : Nat) := { k : Nat // k < h }
/-- The first k numbers, in order. -/
def firsts (h : Nat) : Nat → List (Upto h)
  | 0 => []
  | k + 1 => if hk : k < h then firsts h k ++ [⟨k, hk⟩] else firsts h k
theorem firsts_succ {h k : Nat} (hk : k < h) : firsts h (k + 1) = firsts h k ++ [⟨k, hk⟩] := by rw [firsts, dif_pos hk]
theorem firsts_len {h : Nat} : ∀ {k : Nat}, k ≤ h → (firsts h k).length = k := by
  intro k
  induction k with
  | zero => intro _; rfl
  | succ k ih => intro hk; rw [firsts_succ (by omega), List.length_append, ih (by omega)]; rfl

/-- Two blocks lie as they lay. -/
structure KeepTwo (b c : Nat) (A B : World) : Prop where
  l : B.heap[b]? = A.heap[b]?
  r : B.heap[c]? = A.heap[c]?
theorem KeepTwo.refl (b c : Nat) (A : World) : KeepTwo b c A A := ⟨rfl, rfl⟩
theorem KeepTwo.trans {b c : Nat} {A B C : World} (h : KeepTwo b c A B) (k : KeepTwo b c B C) : KeepTwo b c A C := ⟨k.l.trans h.l, k.r.trans h.r⟩
theorem KeepTwo.below {b c : Nat} {A B C : World} (h : KeepTwo b c A B) {n : Nat} (k : Below n B C) (hb : b < n) (hc : c < n) : KeepTwo b c A C := h.trans ⟨k.block b hb, k.block c hc⟩
theorem KeepTwo.cell {b c : Nat} {A B : World} (h : KeepTwo b c A B) : B.cell? ⟨b, 0, none⟩ = A.cell? ⟨b, 0, none⟩ ∧ B.cell? ⟨c, 0, none⟩ = A.cell? ⟨c, 0, none⟩ :=
  ⟨World.cell?_of_block (w := A) (a := ⟨b, 0, none⟩) h.l, World.cell?_of_block (w := A) (a := ⟨c, 0, none⟩) h.r⟩
theorem KeepTwo.put {b c : Nat} {w : World} (hb : b < w.heap.size) (hc : c < w.heap.size) (W : World) (l : Nat) (o o' : Obj) (hl : w.heap.size ≤ l) (_ : W.heap[l]? = some o) (_ : o.isCells = false) (_ : o.isWalk = false) : KeepTwo b c W (W.putObj l o') :=
  ⟨World.putObj_heap_other (by omega), World.putObj_heap_other (by omega)⟩
theorem drewN_heap (w : World) (n : Nat) : (w.drewN n).heap = w.heap := by
  induction n generalizing w with
  | zero => rfl
  | succ n ih => exact ih _
theorem KeepTwo.drewN {b c : Nat} {A B : World} (h : KeepTwo b c A B) (n : Nat) : KeepTwo b c A (B.drewN n) := h.trans ⟨by rw [drewN_heap], by rw [drewN_heap]⟩
theorem grown_below {w w' : World} (h : Below w.heap.size w w') : w.grownBy w' none := ⟨h.os, h.tape, h.output, h.size, fun k hk _ => h.block k hk⟩
theorem cell_drewN (w : World) (n : Nat) (a : Addr) : (w.drewN n).cell? a = w.cell? a := by
  induction n generalizing w with
  | zero => rfl
  | succ n ih => exact ih _
set_option maxHeartbeats 1000000 in
theorem chunk_in (n : Nat) (p : Option Addr) (len cap : Nat) (w : Int) (h1 : 1 ≤ w) (W : World) :
    CallsIn Fence.wide n Tryz.prog 58 #[.slice p len cap, .int .i64 w] W fun e w' => e = .returned (.func (.func 89) #[] #[.pointer (some ⟨W.heap.size, 0, none⟩), .pointer (some ⟨W.heap.size + 1, 0, none⟩)]) ∧
      w' = (W.alloc (.cells #[.slice p len cap] 22)).alloc (.cells #[.int .i64 w] 3) := by
  refine callsIn_wide.2 ?_
  go_enter Tryz.func58, Tryz.ntmps58
  go_wp2
  go_ret
  exact ⟨rfl, rfl⟩

set_option maxRecDepth 100000 in
set_option maxHeartbeats 2000000 in
theorem chunk1_in (n : Nat) (hn : 1 ≤ n) (l Bs Bn g o w h cap : Nat) (hw : 1 ≤ w) (hw2 : w ≤ 1000) (hh : h ≤ 1000) (hcap : h * w ≤ cap) (hcap2 : cap ≤ 9223372036854775807) (J Jx : List (Upto h) → World → Prop) (B : Nat) (hJ : AbidesFrom B J)
    (hY : ∀ pre (x : Upto h) W, J pre W → pre.length < h → YieldAt Fence.wide (n - 1) Tryz.prog l #[chunkV g o w x.1] W fun e W' =>
      (e = .returned (.bool true) ∧ J (pre ++ [x]) W' ∧ KeepTwo Bs Bn W W') ∨ (e = .returned (.bool false) ∧ Jx (pre ++ [x]) W'))
    (W : World) (hBs : W.cell? ⟨Bs, 0, none⟩ = some (.slice (some ⟨g, o, none⟩) (h * w) cap)) (hBn : W.cell? ⟨Bn, 0, none⟩ = some (.int .i64 w)) (h0 : J [] W) :
    CallsIn Fence.wide n Tryz.prog 89 #[.func (.yield l) #[] #[], .pointer (some ⟨Bs, 0, none⟩), .pointer (some ⟨Bn, 0, none⟩)] W fun e W' => (∃ v, e = .returned v) ∧
      ((∃ ys, ys = firsts h h ∧ J ys W') ∨ (∃ pre, (∃ k, k ≤ h ∧ pre = firsts h k) ∧ Jx pre W')) := by
  have HBn := Lib.hid hBn
  refine callsIn_of_wp Tryz.func89 rfl trivial ?_ rfl
  simp only [Tryz.ntmps89, List.size_toArray, List.length_cons, List.length_nil, Nat.reduceAdd, Nat.reduceSub, Array.replicate_succ, Array.replicate_zero, List.push_toArray, List.append_toArray, List.nil_append, List.cons_append]
  gi_wp2
  gi_loopw [4] (fun i wr => ∃ k : Nat, k ≤ h ∧ i = .int .i64 ((k * w : Nat) : Int) ∧ J (firsts h k) wr ∧ KeepTwo Bs Bn W wr)
    (fun i _ => h * w - (RowKit.intOf i).toNat)
  case atStart => exact ⟨0, Nat.zero_le _, by simp, h0, KeepTwo.refl _ _ _⟩
  case round =>
    obtain ⟨k, hk, rfl, hJs, hnx⟩ := hrel
    have c1 := hnx.cell.1.trans hBs
    have c2 := hnx.cell.2.trans hBn
    by_cases hlt : k < h
    · have hmul : (k + 1) * w ≤ h * w := Nat.mul_le_mul_right w hlt
      rw [Nat.succ_mul] at hmul
      have hb1 : h * w ≤ 1000000 := Nat.le_trans (Nat.mul_le_mul hh hw2) (by decide)
      have HJ := Lib.hid hJs
      have HY := Lib.hid hY
      clear hJs hY hBs hBn h0
      have HM := Lib.hid (show (k + 1) * w = k * w + w from Nat.succ_mul k w)
      obtain ⟨cv, hcv⟩ : ∃ cv, Hid (cv = chunkV g o w k) := ⟨_, hid rfl⟩
      have hcv2 := Lib.hid (show cv = .slice (some ⟨g, o + k * w * 3, none⟩) w w from hcv.out)
      generalize hm : k * w = m at *
      generalize hT : h * w = T at *
      have HMM := Lib.hid hm
      have HTT := Lib.hid hT
      clear hm hT
      have m0 : (0 : Int) ≤ m := by omega
      have m1 : (m : Int) < T := by omega
      have m2 : (m : Int) ≤ T := by omega
      have m3 : (T : Int) ≤ cap := by omega
      gi_wp2
      refine wpIn_wide.2 ?_
      go_quiet (fail)
      have hJ2 : J (firsts h k) (wr.drewN nq) := hJ _ wr _ none HJ.out (grown_below (below_many (Below.refl _ _) nq)) (fun r hr => by cases hr)
      have hnx2 := hnx.drewN nq
      obtain ⟨fn, tmps, assign, body, hy, hR⟩ := HY.out _ ⟨k, hlt⟩ (wr.drewN nq) hJ2 (by rw [firsts_len hk]; exact hlt)
      have e2 : min (w : Int) ((T - m : Nat) : Int) = w := by omega
      have hy2 : Sem.run Tryz.prog (Instr.yield l #[cv]) (wr.drewN nq) = Result.ok (Next.round l fn tmps assign body) (wr.drewN nq) := by rw [hcv.out]; exact hy
      replace c1 := (cell_drewN wr nq ⟨Bs, 0, none⟩).trans c1
      replace c2 := (cell_drewN wr nq ⟨Bn, 0, none⟩).trans c2
      clear HJ hJ2 hy hnx
      rw [e2]
      clear e2
      rw [hcv2.out] at hy2
      generalize wr.drewN nq = V at *
      have m4 : (0 : Int) ≤ (m : Int) + w := by omega
      have m5 : (m : Int) + w ≤ cap := by omega
      have m6 : (m : Int) ≤ (m : Int) + w := by omega
      gi_wp2
      refine hR.mono ?_
      rintro e W3 (⟨rfl, hJ3, hk3⟩ | ⟨rfl, hJx3⟩)
      · have HJ3 := Lib.hid hJ3
        have hnx3 := hnx2.trans hk3
        replace c2 := hnx3.cell.2.trans HBn.out
        clear hJ3 hk3 c1 hcv2 hcv HY hnx2 hy2
        gi_wp2
        go_roundw
        case rel => exact ⟨k + 1, by omega, by rw [HM.out]; go_num, by rw [firsts_succ hlt]; exact HJ3.out, hnx3⟩
        case measure => simp [RowKit.intOf]; omega
      · gi_wp2
        refine bodyPost_ret (results_none rfl _ _ _) rfl ?_
        exact ⟨⟨_, rfl⟩, .inr ⟨_, ⟨k + 1, by omega, (firsts_succ hlt).symm⟩, hJx3⟩⟩
    · obtain rfl : k = h := by omega
      have HJ := Lib.hid hJs
      have hb1 : k * w ≤ 1000000 := Nat.le_trans (Nat.mul_le_mul hh hw2) (by decide)
      clear hJs hY hBs hBn h0 HBn c2
      generalize k * w = T at *
      gi_wp2
      go_end0
      exact ⟨⟨_, rfl⟩, .inl ⟨_, rfl, HJ.out⟩⟩

/-- slices.Chunk hands back what stops, piece by piece, at every loop body that keeps its two boxes. -/
theorem chunk_stops (n : Nat) (hn : 1 ≤ n) (Bs Bn g o w h cap : Nat) (hw : 1 ≤ w) (hw2 : w ≤ 1000) (hh : h ≤ 1000) (hcap : h * w ≤ cap) (hcap2 : cap ≤ 9223372036854775807) (W : World)
    (hBs : W.cell? ⟨Bs, 0, none⟩ = some (.slice (some ⟨g, o, none⟩) (h * w) cap)) (hBn : W.cell? ⟨Bn, 0, none⟩ = some (.int .i64 w)) (hs0 : Bs < W.heap.size) (hs1 : Bn < W.heap.size) :
    SeqStopsK Fence.wide n Tryz.prog 89 #[.pointer (some ⟨Bs, 0, none⟩), .pointer (some ⟨Bn, 0, none⟩)] (fun x : Upto h => #[chunkV g o w x.1]) (KeepTwo Bs Bn) (fun ys => ys = firsts h h) (fun pre => ∃ k, k ≤ h ∧ pre = firsts h k) h W := fun l J Jx W' hW hJ _ hY h0 =>
  chunk1_in n hn l Bs Bn g o w h cap hw hw2 hh hcap hcap2 J Jx _ hJ hY W' ((hW.cell (p := ⟨Bs, 0, none⟩) hs0).trans hBs) ((hW.cell (p := ⟨Bn, 0, none⟩) hs1).trans hBn) h0

end Go.Proofs.YtmpbgfobiceehaaGreatDoor
