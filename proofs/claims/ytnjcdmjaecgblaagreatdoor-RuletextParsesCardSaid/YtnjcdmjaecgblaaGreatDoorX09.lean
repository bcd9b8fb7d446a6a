/-
  What the reference of ruletext answers: the first line of an element; A struct stored into the middle of a row: the row's cells as a list. No program is named here; What the reference of ruletext answers: Set; The laws of ruletext; Rules that the reference reads: rows of its own, lists in blocks of texts; Rules read character by character: where the reading stands. No program is named here.
-/
import Derived.Test.YtnjcdmjaecgblaaGreatDoorX02
import Derived.Test.YtnjcdmjaecgblaaGreatDoorX06
import Derived.Test.YtnjcdmjaecgblaaGreatDoorX07
import Derived.Test.YtnjcdmjaecgblaaGreatDoorZA17
namespace Go.Proofs.YtnjcdmjaecgblaaGreatDoor
section
open Go.RowKit Go.Lib
theorem first_hit {t x : List UInt8} {k : Int} (hk : k = 1 ∨ k = 2 ∨ k = 3) (h : t = wordK k ++ 32 :: x) : firstL t = if nameB x = true then some (k, x) else none := by
 subst h
 unfold firstL
 rcases hk with rfl | rfl | rfl
 · simp only [strip_own]
 · simp only [strip_12, strip_own]
 · simp only [strip_13, strip_23, strip_own]
theorem first_miss {t : List UInt8} (h : ∀ k, k = 1 ∨ k = 2 ∨ k = 3 → ∀ x, t = wordK k ++ 32 :: x → x = []) : firstL t = none := by
 cases hf : firstL t with
 | none => rfl
 | some kx =>
  obtain ⟨k, x⟩ := kx
  obtain ⟨h1, h2, h3⟩ := first_some hf
  have := h k h1 x h3
  subst this
  exact absurd h2 (by decide)
theorem data_toB (l : List UInt8) : (toB l).data.toList = l := by simp [toB]
theorem ext_pre {s wd : ByteArray} (h : s.extract 0 wd.size = wd) (_hl : wd.size < s.size) : s.data.toList = wd.data.toList ++ (s.extract wd.size s.size).data.toList := by
 have h1 : wd.data.toList = s.data.toList.take wd.size := by
  conv => lhs; rw [← h]
  rw [rt_ext, data_toB]
  simp
 rw [rt_ext, data_toB]
 conv => lhs; rw [← List.take_append_drop wd.size s.data.toList]
 rw [← h1]
 congr 1
 rw [List.take_of_length_le (by rw [List.length_drop, rt_size]; omega)]
theorem ext_not {s wd : ByteArray} (h : ¬ s.extract 0 wd.size = wd) (x : List UInt8) : ¬ s.data.toList = wd.data.toList ++ x := fun e => h (by
 rw [rt_ext, List.drop_zero, e, Nat.sub_zero, List.take_left' (by rw [rt_size])]
 exact ByteArray.ext (by simp [toB]))
def FirstPost10 (s : List UInt8) (w : World) (e : Ending) (w' : World) : Prop := ∃ k x b, e = .returned (.tuple #[.int .i64 k, .string x, .bool b]) ∧ (b = true → firstL s = some (k, x.data.toList)) ∧ (b = false → firstL s = none) ∧ Below w.heap.size w w'
set_option maxHeartbeats 8000000 in
set_option maxRecDepth 100000 in
theorem r10first_b (s : ByteArray) (W : World) (_hs : s.size ≤ 50000) : Calls Tryz.prog 58 #[.string s] W (FirstPost10 s.data.toList W) := by
 go_enter Tryz.func58, Tryz.ntmps58
 go_wp2_with fail
 go_loop [5] (fun vi => ∃ k : Int, vi = .int .i64 k ∧ 1 ≤ k ∧ k ≤ 4 ∧ Hid (∀ j, 1 ≤ j → j < k → ∀ x, s.data.toList = wordK j ++ 32 :: x → x = [])) (fun vi => 4 - (RowKit.intOf vi).toNat)
 case atStart => exact ⟨1, rfl, by omega, by omega, hid (fun j h1 h2 => by omega)⟩
 case round =>
  obtain ⟨k, rfl, hk1, hk4, hA⟩ := hrel
  by_cases hle : k ≤ 3
  · have hk3 : k = 1 ∨ k = 2 ∨ k = 3 := by omega
    obtain ⟨wd, hwd⟩ : ∃ wd, wd = toB (wordK k) ++ ByteArray.mk #[32] := ⟨_, rfl⟩
    have hwl : (toB (wordK k)).size ≤ 6 := by rw [size_toB]; rcases hk3 with rfl | rfl | rfl <;> decide
    have hws : wd.size ≤ 6 + 1 := rt_cats hwd hwl (show _ ≤ 1 from Nat.le_refl _)
    have hwdl : wd.data.toList = wordK k ++ [32] := by rw [hwd, show toB (wordK k) ++ ByteArray.mk #[32] = toB (wordK k ++ [32]) from cat_toB (wordK k) [32], data_toB]
    have hstep := fun (h : ∀ x, s.data.toList = wordK k ++ 32 :: x → x = []) => hid (show ∀ j, 1 ≤ j → j < k + 1 → ∀ x, s.data.toList = wordK j ++ 32 :: x → x = [] from fun j h1 h2 => by
     rcases (show j < k ∨ k ≤ j by omega) with h3 | h3
     · exact hA.out j h1 h3
     · obtain rfl : j = k := by omega
       exact h)
    replace hwd := hid hwd
    clear hA
    have r1 := rt_cat (P := Tryz.prog) hwd.out (by show _ + 1 ≤ _; omega)
    go_wp2_with fail
    ((with_reducible refine (r10word_b k _ hk3).mono ?_); rintro e w1 ⟨rfl, rfl⟩)
    generalize toB (wordK k) = wk at *
    go_upto_region 5 with fail
    clear r1 hwd hwl
    by_cases hlen : wd.size < s.size
    · have e5 : decide ((wd.size : Int) < s.size) = true := decide_eq_true (by omega)
      have d2 : (wd.size : Int) ≤ s.size := by omega
      have d0 : (0 : Int) ≤ wd.size := by omega
      by_cases hp : s.extract 0 wd.size = wd
      · have q1 : ((s.extract 0 wd.size).toList == wd.toList) = true := by rw [hp]; exact beq_self_eq_true _
        have hsp := ext_pre hp hlen
        rw [hwdl] at hsp
        have hf := first_hit hk3 (show s.data.toList = wordK k ++ 32 :: (s.extract wd.size s.size).data.toList by rw [hsp]; simp)
        obtain ⟨b, hb⟩ : ∃ b, Hid (b = nameB (s.extract wd.size s.size).data.toList) := ⟨_, hid rfl⟩
        rw [← hb.out] at hf
        replace hf := hid hf
        clear hstep hp hsp hwdl
        go_wp2_with fail
        go_upto_region 6 with fail
        have hmx : Tryz.prog.follows .mixedOrders = true := by kernel_rfl
        refine wp_region_held (S := fun w' => Below W.heap.size W w') hmx ?_
        show wpAnyH _ _ _ _ _ _ _ _ W.drew
        have hS0 := (Below.refl W.heap.size W).drew
        refine reg_tk (i := 0) (v := .int .i64 k) (some 27) rfl (fun w' hS => by skip; go_simp) hS0 ?_
        simp only [Act.put, List.setIfInBounds_toArray, List.set_cons_zero, List.set_cons_succ]
        refine reg_tk (i := 1) (v := .string s) (some 28) rfl (fun w' hS => by skip; go_simp) hS0 ?_
        simp only [Act.put, List.setIfInBounds_toArray, List.set_cons_zero, List.set_cons_succ]
        refine reg_tk (i := 2) (v := .string wd) (some 29) rfl (fun w' hS => by skip; go_simp) hS0 ?_
        simp only [Act.put, List.setIfInBounds_toArray, List.set_cons_zero, List.set_cons_succ]
        refine reg_tk (i := 3) (v := .int .i64 wd.size) (some 30) rfl (fun w' hS => by skip; go_simp) hS0 ?_
        simp only [Act.put, List.setIfInBounds_toArray, List.set_cons_zero, List.set_cons_succ]
        refine reg_tk (i := 4) (v := .string (s.extract wd.size s.size)) (some 31) rfl (fun w' hS => by skip; go_simp) hS0 ?_
        simp only [Act.put, List.setIfInBounds_toArray, List.set_cons_zero, List.set_cons_succ]
        refine reg_tk (i := 5) (v := .string s) (some 32) rfl (fun w' hS => by skip; go_simp) hS0 ?_
        simp only [Act.put, List.setIfInBounds_toArray, List.set_cons_zero, List.set_cons_succ]
        refine reg_tk (i := 6) (v := .string wd) (some 33) rfl (fun w' hS => by skip; go_simp) hS0 ?_
        simp only [Act.put, List.setIfInBounds_toArray, List.set_cons_zero, List.set_cons_succ]
        refine reg_tk (i := 7) (v := .int .i64 wd.size) (some 34) rfl (fun w' hS => by skip; go_simp) hS0 ?_
        simp only [Act.put, List.setIfInBounds_toArray, List.set_cons_zero, List.set_cons_succ]
        refine reg_tk (i := 8) (v := .string (s.extract wd.size s.size)) (some 35) rfl (fun w' hS => by skip; go_simp) hS0 ?_
        simp only [Act.put, List.setIfInBounds_toArray, List.set_cons_zero, List.set_cons_succ]
        refine held_one (i := 9) (by kernel_rfl) rfl (fun K hQ => ?_)
        go_simp
        (with_reducible refine (r9name_b (s.extract wd.size s.size) b _ hb).mono ?_)
        rintro e w1 ⟨rfl, rfl⟩
        refine hQ.out _ _ hS0 ?_
        clear hQ
        try simp only [Act.put, List.setIfInBounds_toArray, List.set_cons_zero, List.set_cons_succ]
        refine reg_tk (i := 10) (v := .int .i64 k) (some 2) rfl (fun w' hS => by skip; go_simp) hS0 ?_
        simp only [Act.put, List.setIfInBounds_toArray, List.set_cons_zero, List.set_cons_succ]
        refine reg_tk (i := 11) (v := .string (s.extract wd.size s.size)) (some 3) rfl (fun w' hS => by skip; go_simp) hS0 ?_
        simp only [Act.put, List.setIfInBounds_toArray, List.set_cons_zero, List.set_cons_succ]
        refine reg_tk (i := 12) (v := .bool b) (some 4) rfl (fun w' hS => by skip; go_simp) hS0 ?_
        simp only [Act.put, List.setIfInBounds_toArray, List.set_cons_zero, List.set_cons_succ]
        refine wpAnyH_done (by kernel_rfl) ?_ _
        go_wp2_with fail
        first | go_ret3 | go_ret2 | go_ret
        exact ⟨k, _, b, rfl, fun q => by rw [hf.out, if_pos q], fun q => by rw [hf.out, if_neg (by rw [q]; exact Bool.noConfusion)], hS0⟩
      · have q2 : ¬ (s.extract 0 wd.size).toList = wd.toList := fun q => hp (by rw [← list_toB (s.extract 0 wd.size), q, list_toB])
        have q1 : ((s.extract 0 wd.size).toList == wd.toList) = false := beq_eq_false_iff_ne.2 q2
        have HS := hstep (fun x hx => absurd (by rw [hwdl, hx]; simp) (ext_not hp x))
        clear hstep hp hwdl
        go_wp2_with fail
        go_round
        case rel => exact ⟨k + 1, by go_num, by omega, by omega, HS⟩
        case measure => simp [RowKit.intOf]; omega
    · have e5 : decide ((wd.size : Int) < s.size) = false := decide_eq_false (by omega)
      have HS := hstep (fun x hx => by
       have h1 := congrArg List.length hx
       have h2 := congrArg List.length hwdl
       rw [rt_size] at h1 h2
       simp only [List.length_append, List.length_cons, List.length_nil] at h1 h2
       exact List.eq_nil_of_length_eq_zero (by omega))
      clear hstep hwdl
      go_wp2_with fail
      go_round
      case rel => exact ⟨k + 1, by go_num, by omega, by omega, HS⟩
      case measure => simp [RowKit.intOf]; omega
  · obtain rfl : k = 4 := by omega
    have hf := hid (first_miss fun j hj x hx => hA.out j (by omega) (by omega) x hx)
    clear hA
    go_wp2_with fail
    first | go_ret3 | go_ret2 | go_ret
    exact ⟨0, ⟨#[]⟩, false, rfl, fun q => (by cases q), fun _ => hf.out, Below.refl _ _⟩
end
section
open Go.RowKit
section
variable {P : Program}
theorem putCells_other {g k : Nat} (ne : k ≠ g) : ∀ (vs : List Value) (o : Nat) (w : World), (putCells w g o vs).heap[k]? = w.heap[k]?
 | [], _, _ => rfl
 | v :: l, o, w => by rw [putCells, putCells_other ne l, Below.heap_setCell w _ v k ne]
theorem below_putCells {B g : Nat} (hg : B ≤ g) : ∀ (vs : List Value) (o : Nat) {a w : World}, Below B a w → Below B a (putCells w g o vs)
 | [], _, _, _, h => h
 | v :: l, o, _, _, h => below_putCells hg l (o + 1) (h.setCell (p := ⟨g, o, none⟩) hg v)
theorem run_putCells {g : Nat} {t : TypeId} : ∀ (vs cur : List Value) (o i : Nat) (w : World), Blk w g cur t → o + i + vs.length ≤ cur.length → (∀ v ∈ vs, v.oneCell' = true) → Sem.run P (storeCells ⟨g, o, none⟩ vs i) w = .ok () (putCells w g (o + i) vs)
 | [], _, _, _, _, _, _, _ => rfl
 | v :: l, cur, o, i, w, h, hl, h1 => by
  have hl' : o + i + (l.length + 1) ≤ cur.length := hl
  have hcell : w.cell? ⟨g, o + i, none⟩ = some (cur[o + i]'(by omega)) := (h.cell (o + i)).trans (List.getElem?_eq_getElem _)
  have hst : Sem.run P (store ((⟨g, o, none⟩ : Addr).add i) v) w = .ok () (w.setCell ⟨g, o + i, none⟩ v) := by
   rw [add_off, run_store P w _ v _ (h1 v (by simp)), hcell]
   simp [h.frozen (o + i)]
  simp only [storeCells, Sem.run_bind, hst, Result.andThen_ok]
  rw [run_putCells l (cur.set (o + i) v) o (i + 1) _ (h.set (o + i) v) (by rw [List.length_set]; omega) (fun x hx => h1 x (by simp [hx]))]
  rfl
variable {o : Oper} {a : Act} {w : World} {Q : Exit → Act → World → Prop} {K : Act → World → Prop}
theorem wp_store_in (t : TypeId) (p x : Operand) (ho : o.op = .store t p x) (hd : o.dst = none) (g n : Nat) (hp : a.eval p = .pointer (some ⟨g, n, none⟩)) {k : Nat} (sz : ∀ w, (Go.sizeOf t).run P w = .ok k w) (vs : List Value) (hx : a.eval x = .agg vs.toArray) (hk : vs.length = k)
 {cur : List Value} {s : TypeId} (hB : Blk w g cur s) (hl : n + k ≤ cur.length) (h1 : ∀ v ∈ vs, v.oneCell' = true) (h : K a (putCells w g n vs)) : o.wp P a w K Q := by
 have hst := run_putCells (P := P) vs cur n 0 w hB (by omega) h1
 unfold Oper.wp execOp
 simp only [ho, Instr.storeAt, hp, hx, Instr.sureAddr, storeVar, Value.cells, Sem.run_bind, Sem.run_pure, Result.andThen_ok, sz]
 simp [hk, hst, Result.andThen]
 show K (a.put o.dst undef) _
 rw [hd]
 exact h
end
end
section
open Go.RowKit Go.Lib
section
variable {P : Program} {Q : Exit → Act → World → Prop} {K : Act → World → Prop} {o : Oper} {a : Act} {w : World}
theorem wp_alloc_agg (d : Option Tmp) (t : TypeId) (ho : o.op = .alloc t) (hd : o.dst = d) (zs : List Value) (hz : ∀ w, (zeroValue t).run P w = .ok (.agg zs.toArray) w)
 (h : K (a.put d (.pointer (some ⟨w.heap.size, 0, none⟩))) (w.alloc (.cells zs.toArray t))) : o.wp P a w K Q := by
 subst hd
 unfold Oper.wp execOp
 simp only [ho, Instr.alloc, newVar, newRow, Value.cells, Sem.run_bind, Sem.run_pure, Result.andThen_ok, hz]
 simp only [run_newObj, Result.andThen_ok]
 exact h
end
theorem late_go {P : Program} {ops : Array Oper} {Q : Exit → Act → World → Prop} {md : Region.Mode} {S : World → Prop} {lt : Nat → Bool} {i : Nat} {o : Oper} {fuel : Nat} {listed : Array Bool} {a : Act} {w : World} (hr : Region.ready md ops listed = [i]) (ho : ops[i]? = some o) (hg : o.guard = none)
 (h : ∀ K' : Act → World → Prop, Shut (∀ a w, (lt i = false → S w) → wpAnyM P md ops Q S lt fuel (listed.setIfInBounds i true) a w → K' a w) → Oper.wp P o a w K' Q) : wpAnyM P md ops Q S lt (fuel + 1) listed a w :=
 late_one hr ho fun K' hK => by
  rw [if_pos (show Region.wanted o (yielded ops a.tmps) = true by unfold Region.wanted; rw [hg])]
  exact h K' hK
theorem blk_ne {w : World} {b c : Nat} {us vs : List Value} {s t : TypeId} (h : Blk w b us s) (h2 : Blk w c vs t) (ne : s ≠ t) : b ≠ c := fun e => by
 subst e
 unfold Blk at h h2
 rw [h] at h2
 injection h2 with h2
 injection h2 with _ h3
 exact ne h3
theorem blk_farPut {w : World} {b g o : Nat} {us vs : List Value} {t : TypeId} (h : Blk w b us t) (ne : b ≠ g) : Blk (putCells w g o vs) b us t := by
 unfold Blk at *
 rw [putCells_other ne]
 exact h
end
section
open Go.RowKit Go.Lib
theorem toB_self (s : ByteArray) : toB s.toList = s := by rw [Lib.toList_data]; rfl
theorem parse_two {s : List UInt8} {R : R9} {ln er : Int} (h : (R, ln, er) = parsev10 s) : (er = 0 ∧ ln = 0 ∧ valv R = 0 ∧ joinT (rulesL R) = s) ∨ (er ≠ 0 ∧ R = R9.zero) := by
 by_cases h0 : er = 0
 · subst h0
   obtain ⟨a, b, c⟩ := print_parse10 h.symm
   exact .inl ⟨rfl, c, a, b⟩
 · refine .inr ⟨h0, ?_⟩
   unfold parsev10 at h
   split at h
   · injection h with h _
   · split at h
     · injection h with h _
     · split at h
       · injection h with _ h
         injection h with _ h
         exact absurd h h0
       · injection h with h _
structure RN (W : World) (su sw st : Value) (r : R9) : Prop where
 at_ : RAt W su sw st r
 cap : CapR W su st
theorem RN.below {W w : World} {su sw st : Value} {r : R9} (h : RN W su sw st r) (hb : Below W.heap.size W w) : RN w su sw st r := ⟨h.at_.below hb, h.cap.below h.at_ hb⟩
section
variable {E : World → Prop} (H : RtHave E)
include H
set_option maxHeartbeats 8000000 in
set_option maxRecDepth 100000 in
theorem law10_parses (s : ByteArray) (W : World) (hE : E W) (hRP : RParseP) (hre : RSameP) :
 Calls Tryz.prog 8 #[.string s] W fun e w' => e = .returned (.bool true) ∧ Below W.heap.size W w' := by
 have hL := Below.refl W.heap.size W
 obtain ⟨⟨R, ln, er⟩, hp⟩ : ∃ x, Hid (x = parsev10 s.toList) := ⟨_, hid rfl⟩
 by_cases hx : 40000 < s.size
 · have z0 : decide ((40000 : Int) < s.size) = true := decide_eq_true (by omega)
   go_enter Tryz.func8, Tryz.ntmps8
   go_wp2_with fail
   ((with_reducible refine (awake10_b H _ (H.keep hE hL)).mono ?_); rintro e w1 ⟨rfl, hb⟩)
   replace hL := below_call hL hb
   clear hb
   go_wp2_with fail
   go_ret
   exact ⟨rfl, hL⟩
 · have z0 : decide ((40000 : Int) < s.size) = false := decide_eq_false (by omega)
   have z1 : (ln != ln) = false := bne_self_eq_false ln
   have z2 : (er != er) = false := bne_self_eq_false er
   have htwo := parse_two hp.out
   go_enter Tryz.func8, Tryz.ntmps8
   go_wp2_with fail
   ((with_reducible refine (H.parse s R ln er _ (H.keep hE hL) hp).mono ?_); rintro e w2 ⟨tu, tw, tt, rfl, hN, hNC, hb⟩)
   replace hL := below_call hL hb
   clear hb
   obtain ⟨a0, d0, rfl, -, -⟩ := hN.u
   obtain ⟨a1, d1, rfl, -, -⟩ := hN.w
   obtain ⟨a2, d2, rfl, -, -⟩ := hN.t
   have hNN : RN _ _ _ _ R := ⟨hN, hNC⟩
   clear hN hNC
   have h7 := Blk.new w2 [.slice a0 R.us.length d0, .slice a1 R.ws.length d1, .slice a2 R.ts.length d2] 31
   have hbx := (Below.refl w2.heap.size w2).alloc (Nat.le_refl _) (.cells ([.slice a0 R.us.length d0, .slice a1 R.ws.length d1, .slice a2 R.ts.length d2] : List Value).toArray 31)
   replace hNN := hNN.below hbx
   replace hL := hL.alloc hL.size (.cells ([.slice a0 R.us.length d0, .slice a1 R.ws.length d1, .slice a2 R.ts.length d2] : List Value).toArray 31)
   obtain ⟨_, _, _, _, _, _⟩ := h7.three
   go_upto_region 4 with fail
   generalize w2.alloc (.cells ([.slice a0 R.us.length d0, .slice a1 R.ws.length d1, .slice a2 R.ts.length d2] : List Value).toArray 31) = V7 at *
   generalize w2.heap.size = b7 at *
   clear hbx
   obtain ⟨_, _, _, _, _, _⟩ := h7.three
   go_wp2_with fail
   ((with_reducible refine (hRP s R ln er _ (by omega) hp).mono ?_); rintro e w3 ⟨tu, tw, tt, rfl, hM, hb⟩)
   replace h7 := h7.below hb
   replace hL := below_call hL hb
   replace hNN := hNN.below hb
   clear hb
   obtain ⟨x0, y0, rfl, -, -⟩ := hM.u
   obtain ⟨x1, y1, rfl, -, -⟩ := hM.w
   obtain ⟨x2, y2, rfl, -, -⟩ := hM.t
   have h9 := Blk.new w3 [.slice x0 R.us.length y0, .slice x1 R.ws.length y1, .slice x2 R.ts.length y2] 31
   have hbx := (Below.refl w3.heap.size w3).alloc (Nat.le_refl _) (.cells ([.slice x0 R.us.length y0, .slice x1 R.ws.length y1, .slice x2 R.ts.length y2] : List Value).toArray 31)
   replace h7 := h7.alloc (.cells ([.slice x0 R.us.length y0, .slice x1 R.ws.length y1, .slice x2 R.ts.length y2] : List Value).toArray 31)
   replace hNN := hNN.below hbx
   replace hM := hM.below hbx
   replace hL := hL.alloc hL.size (.cells ([.slice x0 R.us.length y0, .slice x1 R.ws.length y1, .slice x2 R.ts.length y2] : List Value).toArray 31)
   obtain ⟨_, _, _, _, _, _⟩ := h7.three
   obtain ⟨_, _, _, _, _, _⟩ := h9.three
   go_upto_region 5 with fail
   generalize w3.alloc (.cells ([.slice x0 R.us.length y0, .slice x1 R.ws.length y1, .slice x2 R.ts.length y2] : List Value).toArray 31) = V9 at *
   generalize w3.heap.size = b9 at *
   clear hbx
   obtain ⟨_, _, _, _, _, _⟩ := h7.three
   obtain ⟨_, _, _, _, _, _⟩ := h9.three
   go_wp2_with (first | (with_reducible refine wpList_load_agg' 31 _ rfl (by with_unfolding_all rfl) ⟨b7, 0, none⟩ (by with_unfolding_all rfl) Tryz.isAgg31 Tryz.sizeOf31 [.slice a0 R.us.length d0, .slice a1 R.ws.length d1, .slice a2 R.ts.length d2] (h7.loads rfl) ?_) | (with_reducible refine wpList_load_agg' 31 _ rfl (by with_unfolding_all rfl) ⟨b9, 0, none⟩ (by with_unfolding_all rfl) Tryz.isAgg31 Tryz.sizeOf31 [.slice x0 R.us.length y0, .slice x1 R.ws.length y1, .slice x2 R.ts.length y2] (h9.loads rfl) ?_))
   ((with_reducible refine (hre _ _ _ _ _ _ R R true _ _ hNN.at_ hM (Below.refl _ _) (hid (decide_eq_true rfl).symm)).mono ?_); rintro e w4 ⟨rfl, hb⟩)
   replace h7 := h7.below hb
   replace h9 := h9.below hb
   replace hL := below_call hL hb
   replace hNN := hNN.below hb
   replace hM := hM.below hb
   clear hb
   obtain ⟨t, g, ht⟩ : ∃ t g, Hid (t = toB (printv10 R).1 ∧ g = (printv10 R).2) := ⟨_, _, hid ⟨rfl, rfl⟩⟩
   have hsm : R.us.length ≤ 16 ∧ R.ws.length ≤ 8 ∧ R.ts.length ≤ 12 ∧ FewL 4 R := by
    rcases htwo with ⟨-, -, h, -⟩ | ⟨-, rfl⟩
    · exact valid_few h
    · exact ⟨Nat.zero_le _, Nat.zero_le _, Nat.zero_le _, fun _ h => absurd h List.not_mem_nil, fun _ h => absurd h List.not_mem_nil⟩
   have hF9 : FewL 100000 R := ⟨fun u hu => by have := hsm.2.2.2.1 u hu; omega, fun t ht => by have := hsm.2.2.2.2 t ht; omega⟩
   obtain ⟨_, _, _, _, _, _⟩ := h7.three
   obtain ⟨_, _, _, _, _, _⟩ := h9.three
   go_wp2_with fail
   ((with_reducible refine (H.print _ _ _ R t g _ (H.keep hE hL) hNN.at_ hNN.cap (by omega) (by omega) (by omega) hF9 ht).mono ?_); rintro e w5 ⟨rfl, hb⟩)
   replace h7 := h7.below hb
   replace h9 := h9.below hb
   replace hL := below_call hL hb
   replace hNN := hNN.below hb
   clear hb
   rcases htwo with ⟨rfl, -, hv, hj⟩ | ⟨h1, -⟩
   · have hg : g = 0 ∧ t = s := by
      obtain ⟨h1, h2⟩ := ht.out
      unfold printv10 at h1 h2
      rw [if_pos hv] at h1 h2
      refine ⟨h2, ?_⟩
      rw [h1]
      show toB (joinT (rulesL R)) = s
      rw [hj, toB_self]
     obtain ⟨rfl, rfl⟩ := hg
     go_wp2_with fail
     ((with_reducible refine (awake10_b H _ (H.keep hE hL)).mono ?_); rintro e w6 ⟨rfl, hb⟩)
     replace h7 := h7.below hb
     replace h9 := h9.below hb
     replace hL := below_call hL hb
     clear hb
     go_wp2_with fail
     go_ret
     exact ⟨rfl, hL⟩
   · have z9 : (er != 0) = true := bne_iff_ne.2 h1
     go_wp2_with fail
     ((with_reducible refine (awake10_b H _ (H.keep hE hL)).mono ?_); rintro e w6 ⟨rfl, hb⟩)
     replace h7 := h7.below hb
     replace h9 := h9.below hb
     replace hL := below_call hL hb
     clear hb
     go_wp2_with fail
     go_ret
     exact ⟨rfl, hL⟩
end
end
section
open Go.RowKit Go.Lib
def strW (w : World) : World := { w with heap := w.heap.map fun o => match o with
 | .cells us t fr => if t = 9 ∧ fr = (0, 0) then .cells us t fr else .cells #[] 0
 | _ => .cells #[] 0 }
theorem strW_yes {w : World} {g : Nat} {us : List Value} (h : Blk w g us 9) (i : Nat) : (strW w).cell? ⟨g, i, none⟩ = us[i]? := by
 have h2 : Blk (strW w) g us 9 := by
  unfold Blk at h ⊢
  show (w.heap.map _)[g]? = _
  rw [Array.getElem?_map, h]
  rfl
 exact h2.cell i
theorem strW_blk {w : World} {g i : Nat} {x : Value} (h : (strW w).cell? ⟨g, i, none⟩ = some x) : ∃ us, Blk w g us 9 := by
 unfold World.cell? at h
 show ∃ us, _
 have e : (strW w).heap[g]? = (w.heap[g]?).map fun o => match o with
  | .cells us t fr => if t = 9 ∧ fr = (0, 0) then .cells us t fr else .cells #[] 0
  | _ => .cells #[] 0 := by show (w.heap.map _)[g]? = _; rw [Array.getElem?_map]
 simp only [e] at h
 cases hq : w.heap[g]? with
 | none => simp [hq] at h
 | some ob =>
  cases ob with
  | cells us t fr =>
   by_cases hc : t = 9 ∧ fr = (0, 0)
   · obtain ⟨rfl, rfl⟩ := hc
     exact ⟨us.toList, by unfold Blk; rw [Array.toArray_toList]; exact hq⟩
   · simp [hq, hc] at h
  | _ => simp [hq] at h
theorem SB.strW {w : World} {v : Value} {l : List ByteArray} (h : SB w v l) : StrSl (strW w) v l := by
 obtain ⟨p, c, rfl, hm, hc⟩ := h
 refine ⟨p, c, rfl, hm, fun h1 => ?_⟩
 obtain ⟨g, o, us, e, hb, hi⟩ := hc h1
 exact ⟨g, o, e, fun i h => (strW_yes hb (o + i)).trans (hi i h)⟩
theorem StrSl.sb {w : World} {v : Value} {l : List ByteArray} (h : StrSl (strW w) v l) : SB w v l := by
 obtain ⟨p, c, rfl, hm, hc⟩ := h
 refine ⟨p, c, rfl, hm, fun h1 => ?_⟩
 obtain ⟨g, o, e, hi⟩ := hc h1
 obtain ⟨us, hb⟩ := strW_blk (hi 0 (by omega))
 exact ⟨g, o, us, e, hb, fun i h => (strW_yes hb (o + i)).symm.trans (hi i h)⟩
theorem UB.strW {w : World} {vs : List Value} {u : U9} (h : UB w vs u) : UL (strW w) vs u := let ⟨a, b, c, e, x, y, z⟩ := h; ⟨a, b, c, e, x.strW, y.strW, z.strW⟩
theorem UL.ub {w : World} {vs : List Value} {u : U9} (h : UL (strW w) vs u) : UB w vs u := let ⟨a, b, c, e, x, y, z⟩ := h; ⟨a, b, c, e, x.sb, y.sb, z.sb⟩
theorem TB.strW {w : World} {vs : List Value} {u : T9} (h : TB w vs u) : TL (strW w) vs u := let ⟨a, e, x⟩ := h; ⟨a, e, x.strW⟩
theorem TL.tb {w : World} {vs : List Value} {u : T9} (h : TL (strW w) vs u) : TB w vs u := let ⟨a, e, x⟩ := h; ⟨a, e, x.sb⟩
theorem VB.strW {w : World} {vs : List Value} {v : V10} (h : VB w vs v) : VL (strW w) vs v := let ⟨a, e, x⟩ := h; ⟨a, e, x.strW⟩
def Rwr (w : World) (B : Nat) (su sw st : Value) (r : R9) : Prop := ∃ q0 k0 q1 k1 q2 k2 cu cw ct, su = .slice q0 r.us.length k0 ∧ sw = .slice q1 r.ws.length k1 ∧ st = .slice q2 r.ts.length k2 ∧
 w.ownsRow B 53 19 (.slice q0 r.us.length k0) r.us.length (flatR cu r.us.length) ∧ w.ownsRow B 51 6 (.slice q1 r.ws.length k1) r.ws.length (flatR cw r.ws.length) ∧ w.ownsRow B 56 8 (.slice q2 r.ts.length k2) r.ts.length (flatR ct r.ts.length) ∧
 (∀ j (h : j < r.us.length), UB w (cu j) (r.us[j]'h)) ∧ (∀ j (h : j < r.ws.length), WL (cw j) (r.ws[j]'h)) ∧ (∀ j (h : j < r.ts.length), TB w (ct j) (r.ts[j]'h))
theorem Rwr.nil (w : World) (B : Nat) : Rwr w B (.slice none 0 0) (.slice none 0 0) (.slice none 0 0) R9.zero :=
 ⟨none, 0, none, 0, none, 0, fun _ => [], fun _ => [], fun _ => [], rfl, rfl, rfl, World.ownsRow_nil _ _ _ _, World.ownsRow_nil _ _ _ _, World.ownsRow_nil _ _ _ _, fun _ h => absurd h (Nat.not_lt_zero _), fun _ h => absurd h (Nat.not_lt_zero _), fun _ h => absurd h (Nat.not_lt_zero _)⟩
theorem Rwr.but {T : TypeId} {w w' : World} {B : Nat} {su sw st : Value} {r : R9} (h : Rwr w B su sw st r) (hr : ButT T w w') (n0 : 9 ≠ T) (n1 : 53 ≠ T) (n2 : 51 ≠ T) (n3 : 56 ≠ T) : Rwr w' B su sw st r := by
 obtain ⟨q0, k0, q1, k1, q2, k2, cu, cw, ct, e0, e1, e2, a, b, c, d, e, f⟩ := h
 exact ⟨q0, k0, q1, k1, q2, k2, cu, cw, ct, e0, e1, e2, hr.own a n1, hr.own b n2, hr.own c n3, fun j h => (d j h).but hr n0, e, fun j h => (f j h).but hr n0⟩
theorem Rwr.below {w w' : World} {B : Nat} {su sw st : Value} {r : R9} (h : Rwr w B su sw st r) (hb : Below w.heap.size w w') : Rwr w' B su sw st r := by
 obtain ⟨q0, k0, q1, k1, q2, k2, cu, cw, ct, e0, e1, e2, a, b, c, d, e, f⟩ := h
 exact ⟨q0, k0, q1, k1, q2, k2, cu, cw, ct, e0, e1, e2, own_below a hb, own_below b hb, own_below c hb, fun j h => (d j h).below hb, e, fun j h => (f j h).below hb⟩
theorem Rwr.rat {w : World} {B : Nat} {su sw st : Value} {r : R9} (h : Rwr w B su sw st r) (hu : r.us.length ≤ 10000) (hw : r.ws.length ≤ 10000) (ht : r.ts.length ≤ 10000) : RAt w su sw st r := by
 obtain ⟨q0, k0, q1, k1, q2, k2, cu, cw, ct, rfl, rfl, rfl, a, b, c, d, e, f⟩ := h
 exact ⟨slatU (own_rowV a hu fun i h => (d i h).ul.len) _ rfl fun j h => (d j h).ul, slatW (own_rowV b hw fun i h => (e i h).len) _ rfl e, slatT (own_rowV c ht fun i h => (f i h).tl.len) _ rfl fun j h => (f j h).tl⟩
theorem Rwr.addU {w w' : World} {B : Nat} {r : R9} {q0 q1 q2 p : Option Addr} {k0 k1 k2 m : Nat} {cu cw ct : Nat → List Value} {vs : List Value} {x : U9} (_a : w.ownsRow B 53 19 (.slice q0 r.us.length k0) r.us.length (flatR cu r.us.length)) (b : w.ownsRow B 51 6 (.slice q1 r.ws.length k1) r.ws.length (flatR cw r.ws.length)) (c : w.ownsRow B 56 8 (.slice q2 r.ts.length k2) r.ts.length (flatR ct r.ts.length))
 (d : ∀ j (h : j < r.us.length), UB w (cu j) (r.us[j]'h)) (e : ∀ j (h : j < r.ws.length), WL (cw j) (r.ws[j]'h)) (f : ∀ j (h : j < r.ts.length), TB w (ct j) (r.ts[j]'h)) (hr : ButT 53 w w') (hown : w'.ownsRow B 53 19 (.slice p (r.us.length + 1) m) (r.us.length + 1) (flatR cu r.us.length ++ vs)) (hv : UB w' vs x) :
 Rwr w' B (.slice p (r.us.length + 1) m) (.slice q1 r.ws.length k1) (.slice q2 r.ts.length k2) { r with us := r.us ++ [x] } := by
 have hm : (r.us ++ [x]).length = r.us.length + 1 := by simp
 exact ⟨p, m, q1, k1, q2, k2, (fun m => if m = r.us.length then vs else cu m), cw, ct, by rw [hm], rfl, rfl, (by rw [hm, flatR_snoc]; exact hown), hr.own b (by decide), hr.own c (by decide), snoc_all (R := UB _) (fun j h => (d j h).but hr (by decide)) hv, e, fun j h => (f j h).but hr (by decide)⟩
theorem Rwr.addW {w w' : World} {B : Nat} {r : R9} {q0 q1 q2 p : Option Addr} {k0 k1 k2 m : Nat} {cu cw ct : Nat → List Value} {vs : List Value} {x : W9} (a : w.ownsRow B 53 19 (.slice q0 r.us.length k0) r.us.length (flatR cu r.us.length)) (_b : w.ownsRow B 51 6 (.slice q1 r.ws.length k1) r.ws.length (flatR cw r.ws.length)) (c : w.ownsRow B 56 8 (.slice q2 r.ts.length k2) r.ts.length (flatR ct r.ts.length))
 (d : ∀ j (h : j < r.us.length), UB w (cu j) (r.us[j]'h)) (e : ∀ j (h : j < r.ws.length), WL (cw j) (r.ws[j]'h)) (f : ∀ j (h : j < r.ts.length), TB w (ct j) (r.ts[j]'h)) (hr : ButT 51 w w') (hown : w'.ownsRow B 51 6 (.slice p (r.ws.length + 1) m) (r.ws.length + 1) (flatR cw r.ws.length ++ vs)) (hv : WL vs x) :
 Rwr w' B (.slice q0 r.us.length k0) (.slice p (r.ws.length + 1) m) (.slice q2 r.ts.length k2) { r with ws := r.ws ++ [x] } := by
 have hm : (r.ws ++ [x]).length = r.ws.length + 1 := by simp
 exact ⟨q0, k0, p, m, q2, k2, cu, (fun m => if m = r.ws.length then vs else cw m), ct, rfl, by rw [hm], rfl, hr.own a (by decide), (by rw [hm, flatR_snoc]; exact hown), hr.own c (by decide), fun j h => (d j h).but hr (by decide), snoc_all (R := WL) e hv, fun j h => (f j h).but hr (by decide)⟩
theorem Rwr.addT {w w' : World} {B : Nat} {r : R9} {q0 q1 q2 p : Option Addr} {k0 k1 k2 m : Nat} {cu cw ct : Nat → List Value} {vs : List Value} {x : T9} (a : w.ownsRow B 53 19 (.slice q0 r.us.length k0) r.us.length (flatR cu r.us.length)) (b : w.ownsRow B 51 6 (.slice q1 r.ws.length k1) r.ws.length (flatR cw r.ws.length)) (_c : w.ownsRow B 56 8 (.slice q2 r.ts.length k2) r.ts.length (flatR ct r.ts.length))
 (d : ∀ j (h : j < r.us.length), UB w (cu j) (r.us[j]'h)) (e : ∀ j (h : j < r.ws.length), WL (cw j) (r.ws[j]'h)) (f : ∀ j (h : j < r.ts.length), TB w (ct j) (r.ts[j]'h)) (hr : ButT 56 w w') (hown : w'.ownsRow B 56 8 (.slice p (r.ts.length + 1) m) (r.ts.length + 1) (flatR ct r.ts.length ++ vs)) (hv : TB w' vs x) :
 Rwr w' B (.slice q0 r.us.length k0) (.slice q1 r.ws.length k1) (.slice p (r.ts.length + 1) m) { r with ts := r.ts ++ [x] } := by
 have hm : (r.ts ++ [x]).length = r.ts.length + 1 := by simp
 exact ⟨q0, k0, q1, k1, p, m, cu, cw, (fun m => if m = r.ts.length then vs else ct m), rfl, rfl, by rw [hm], hr.own a (by decide), hr.own b (by decide), (by rw [hm, flatR_snoc]; exact hown), fun j h => (d j h).but hr (by decide), e, snoc_all (R := TB _) (fun j h => (f j h).but hr (by decide)) hv⟩
theorem Rwr.putU {w : World} {B i : Nat} {r : R9} {q1 q2 : Option Addr} {k1 k2 m g : Nat} {cu cw ct : Nat → List Value} {vs : List Value} {F : U9 → U9} (a : w.ownsRow B 53 19 (.slice (some ⟨g, 0, none⟩) r.us.length m) r.us.length (flatR cu r.us.length)) (b : w.ownsRow B 51 6 (.slice q1 r.ws.length k1) r.ws.length (flatR cw r.ws.length)) (c : w.ownsRow B 56 8 (.slice q2 r.ts.length k2) r.ts.length (flatR ct r.ts.length))
 (d : ∀ j (h : j < r.us.length), UB w (cu j) (r.us[j]'h)) (e : ∀ j (h : j < r.ws.length), WL (cw j) (r.ws[j]'h)) (f : ∀ j (h : j < r.ts.length), TB w (ct j) (r.ts[j]'h)) (hi : i < r.us.length) (hv : UB w vs (F (r.us[i]'hi))) :
 Rwr (putCells w g (i * 19) vs) B (.slice (some ⟨g, 0, none⟩) r.us.length m) (.slice q1 r.ws.length k1) (.slice q2 r.ts.length k2) { r with us := r.us.modify i F } := by
 have hm : (r.us.modify i F).length = r.us.length := List.length_modify ..
 have kl : ∀ j, j < r.us.length → (cu j).length = 19 := fun j h => (d j h).ul.len
 have vl := hv.ul.len
 obtain ⟨cur, hblk, hcl, hgB⟩ := own_blk a
 have hni := Nat.mul_le_mul_right 19 (show i + 1 ≤ r.us.length by omega)
 rw [Nat.succ_mul] at hni
 have hw := own_putIn (vs := vs) (o := i * 19) a (by rw [vl]; omega)
 rw [flatR_put (by decide) kl hi vl] at hw
 have hr : ButT 53 w (putCells w g (i * 19) vs) := ⟨(below_putCells (Nat.zero_le g) vs (i * 19) (Below.refl 0 w)).size, fun y _ hn => putCells_other (fun q => hn cur (by rw [q]; exact hblk)) vs (i * 19) w⟩
 exact ⟨(some ⟨g, 0, none⟩), m, q1, k1, q2, k2, (fun m => if m = i then vs else cu m), cw, ct, by rw [hm], rfl, rfl, (by rw [hm]; exact hw), hr.own b (by decide), hr.own c (by decide), mod_all (R := UB _) hi (fun j h => (d j h).but hr (by decide)) (hv.but hr (by decide)), e, fun j h => (f j h).but hr (by decide)⟩
theorem Rwr.putW {w : World} {B i : Nat} {r : R9} {q0 q2 : Option Addr} {k0 k2 m g : Nat} {cu cw ct : Nat → List Value} {vs : List Value} {F : W9 → W9} (a : w.ownsRow B 53 19 (.slice q0 r.us.length k0) r.us.length (flatR cu r.us.length)) (b : w.ownsRow B 51 6 (.slice (some ⟨g, 0, none⟩) r.ws.length m) r.ws.length (flatR cw r.ws.length)) (c : w.ownsRow B 56 8 (.slice q2 r.ts.length k2) r.ts.length (flatR ct r.ts.length))
 (d : ∀ j (h : j < r.us.length), UB w (cu j) (r.us[j]'h)) (e : ∀ j (h : j < r.ws.length), WL (cw j) (r.ws[j]'h)) (f : ∀ j (h : j < r.ts.length), TB w (ct j) (r.ts[j]'h)) (hi : i < r.ws.length) (hv : WL vs (F (r.ws[i]'hi))) :
 Rwr (putCells w g (i * 6) vs) B (.slice q0 r.us.length k0) (.slice (some ⟨g, 0, none⟩) r.ws.length m) (.slice q2 r.ts.length k2) { r with ws := r.ws.modify i F } := by
 have hm : (r.ws.modify i F).length = r.ws.length := List.length_modify ..
 have kl : ∀ j, j < r.ws.length → (cw j).length = 6 := fun j h => (e j h).len
 have vl := hv.len
 obtain ⟨cur, hblk, hcl, hgB⟩ := own_blk b
 have hni := Nat.mul_le_mul_right 6 (show i + 1 ≤ r.ws.length by omega)
 rw [Nat.succ_mul] at hni
 have hw := own_putIn (vs := vs) (o := i * 6) b (by rw [vl]; omega)
 rw [flatR_put (by decide) kl hi vl] at hw
 have hr : ButT 51 w (putCells w g (i * 6) vs) := ⟨(below_putCells (Nat.zero_le g) vs (i * 6) (Below.refl 0 w)).size, fun y _ hn => putCells_other (fun q => hn cur (by rw [q]; exact hblk)) vs (i * 6) w⟩
 exact ⟨q0, k0, (some ⟨g, 0, none⟩), m, q2, k2, cu, (fun m => if m = i then vs else cw m), ct, rfl, by rw [hm], rfl, hr.own a (by decide), (by rw [hm]; exact hw), hr.own c (by decide), fun j h => (d j h).but hr (by decide), mod_all (R := WL) hi e hv, fun j h => (f j h).but hr (by decide)⟩
theorem Rwr.putT {w : World} {B i : Nat} {r : R9} {q0 q1 : Option Addr} {k0 k1 m g : Nat} {cu cw ct : Nat → List Value} {vs : List Value} {F : T9 → T9} (a : w.ownsRow B 53 19 (.slice q0 r.us.length k0) r.us.length (flatR cu r.us.length)) (b : w.ownsRow B 51 6 (.slice q1 r.ws.length k1) r.ws.length (flatR cw r.ws.length)) (c : w.ownsRow B 56 8 (.slice (some ⟨g, 0, none⟩) r.ts.length m) r.ts.length (flatR ct r.ts.length))
 (d : ∀ j (h : j < r.us.length), UB w (cu j) (r.us[j]'h)) (e : ∀ j (h : j < r.ws.length), WL (cw j) (r.ws[j]'h)) (f : ∀ j (h : j < r.ts.length), TB w (ct j) (r.ts[j]'h)) (hi : i < r.ts.length) (hv : TB w vs (F (r.ts[i]'hi))) :
 Rwr (putCells w g (i * 8) vs) B (.slice q0 r.us.length k0) (.slice q1 r.ws.length k1) (.slice (some ⟨g, 0, none⟩) r.ts.length m) { r with ts := r.ts.modify i F } := by
 have hm : (r.ts.modify i F).length = r.ts.length := List.length_modify ..
 have kl : ∀ j, j < r.ts.length → (ct j).length = 8 := fun j h => (f j h).tl.len
 have vl := hv.tl.len
 obtain ⟨cur, hblk, hcl, hgB⟩ := own_blk c
 have hni := Nat.mul_le_mul_right 8 (show i + 1 ≤ r.ts.length by omega)
 rw [Nat.succ_mul] at hni
 have hw := own_putIn (vs := vs) (o := i * 8) c (by rw [vl]; omega)
 rw [flatR_put (by decide) kl hi vl] at hw
 have hr : ButT 56 w (putCells w g (i * 8) vs) := ⟨(below_putCells (Nat.zero_le g) vs (i * 8) (Below.refl 0 w)).size, fun y _ hn => putCells_other (fun q => hn cur (by rw [q]; exact hblk)) vs (i * 8) w⟩
 exact ⟨q0, k0, q1, k1, (some ⟨g, 0, none⟩), m, cu, cw, (fun m => if m = i then vs else ct m), rfl, rfl, by rw [hm], hr.own a (by decide), hr.own b (by decide), (by rw [hm]; exact hw), fun j h => (d j h).but hr (by decide), e, mod_all (R := TB _) hi (fun j h => (f j h).but hr (by decide)) (hv.but hr (by decide))⟩
end
section
open Go.RowKit Go.Lib
theorem scan_split {S : List UInt8} {a i : Nat} (hi : i < S.length) (ha : a ≤ i) : S.drop a = (S.drop a).take (i - a) ++ S[i]'hi :: S.drop (i + 1) := by
 have h1 := (List.take_append_drop (i - a) (S.drop a)).symm
 rw [List.drop_drop, show a + (i - a) = i by omega, List.drop_eq_getElem_cons hi] at h1
 exact h1
theorem scan_cut {S : List UInt8} {a i : Nat} (hi : i < S.length) (ha : a ≤ i) (hn : (10 : UInt8) ∉ (S.drop a).take (i - a)) (h : S[i]'hi = 10) : cutC 10 (S.drop a) = ((S.drop a).take (i - a), S.drop (i + 1), true) := by
 have h1 := scan_split hi ha
 rw [h] at h1
 rw [h1, List.take_append_of_le_length (by rw [List.length_take, List.length_drop]; omega), List.take_take, Nat.min_self]
 exact cutC_of _ _ hn
theorem scan_next {S : List UInt8} {a i : Nat} (hi : i < S.length) (ha : a ≤ i) (hn : (10 : UInt8) ∉ (S.drop a).take (i - a)) (h : ¬ S[i]'hi = 10) : (10 : UInt8) ∉ (S.drop a).take (i + 1 - a) := by
 have e : (S.drop a).take (i + 1 - a) = (S.drop a).take (i - a) ++ [S[i]'hi] := by
  rw [show i + 1 - a = (i - a) + 1 by omega, List.take_succ_eq_append_getElem (by rw [List.length_drop]; omega)]
  congr 2
  rw [List.getElem_drop]
  congr 1
  omega
 rw [e]
 intro q
 rcases List.mem_append.1 q with q | q
 · exact hn q
 · exact h (List.mem_singleton.1 q).symm
theorem scan_end {S : List UInt8} {a : Nat} (hn : (10 : UInt8) ∉ (S.drop a).take (S.length - a)) : (cutC 10 (S.drop a)).2.2 = false := by
 rw [List.take_of_length_le (by rw [List.length_drop]; exact Nat.le_refl _)] at hn
 rw [cutC_none _ hn]
def W9k (k : Int) : Nat := if k = 1 then 4 else if k = 2 then 7 else 6
def wtR (r : R9) : Nat := 79 * r.us.length + 42 * r.ws.length + 49 * r.ts.length
structure RPF (S : List UInt8) (k : Int) (d a n : Nat) (r : R9) : Prop where
 go : goP ⟨0, 0, R9.zero⟩ 1 (linesB S) = goP ⟨k, d, r⟩ n (linesB (S.drop a))
 tail : tailB S = tailB (S.drop a)
 dle : d ≤ (fieldsv k).length
 kle : 0 ≤ k ∧ k ≤ 3
 num : 1 ≤ n ∧ n ≤ a + 1
 ne : d < (fieldsv k).length → 1 ≤ (namesK r k).length
 bytes : wtR r ≤ a + W9k k * ((fieldsv k).length - d)
theorem RPF.start (S : List UInt8) : RPF S 0 0 0 1 R9.zero := ⟨rfl, rfl, Nat.zero_le _, by omega, by omega, fun h => absurd h (by decide), by decide⟩
theorem wt_new (r : R9) {k : Int} (hk : k = 1 ∨ k = 2 ∨ k = 3) (nm : List UInt8) : wtR (newK r k nm) = wtR r + (7 + W9k k * (fieldsv k).length) := by
 rcases hk with rfl | rfl | rfl
 · rw [lenU]; unfold newK wtR; simp [W9k]; omega
 · rw [lenW]; unfold newK wtR; simp [W9k]; omega
 · rw [lenT]; unfold newK wtR; simp [W9k]; omega
theorem len_modK (r : R9) (k : Int) (i : Nat) (f : ByteArray) (v : V10) : (setK10 r k i f v).us.length = r.us.length ∧ (setK10 r k i f v).ws.length = r.ws.length ∧ (setK10 r k i f v).ts.length = r.ts.length := by
 unfold setK10
 split
 · exact ⟨List.length_modify .., rfl, rfl⟩
 · split
   · exact ⟨rfl, List.length_modify .., rfl⟩
   · split
     · exact ⟨rfl, rfl, List.length_modify ..⟩
     · exact ⟨rfl, rfl, rfl⟩
theorem wt_set (r : R9) (k : Int) (i : Nat) (f : ByteArray) (v : V10) : wtR (setK10 r k i f v) = wtR r := by
 obtain ⟨a, b, c⟩ := len_modK r k i f v
 unfold wtR
 rw [a, b, c]
theorem namesK_mod (r : R9) (k : Int) (i : Nat) (f : ByteArray) (v : V10) (j : Int) : (namesK (setK10 r k i f v) j).length = (namesK r j).length := by
 obtain ⟨a, b, c⟩ := len_modK r k i f v
 unfold namesK namesU namesW namesT
 split
 · rw [List.length_map, List.length_map, a]
 · split
   · rw [List.length_map, List.length_map, b]
   · split
     · rw [List.length_map, List.length_map, c]
     · rfl
theorem names_newK (r : R9) {k : Int} (hk : k = 1 ∨ k = 2 ∨ k = 3) (nm : List UInt8) : 1 ≤ (namesK (newK r k nm) k).length := by
 rcases hk with rfl | rfl | rfl
 · show 1 ≤ (namesU (newK r 1 nm)).length; unfold namesU newK; simp
 · show 1 ≤ (namesW (newK r 2 nm)).length; unfold namesW newK; simp
 · show 1 ≤ (namesT (newK r 3 nm)).length; unfold namesT newK; simp
theorem word_len {k : Int} (hk : k = 1 ∨ k = 2 ∨ k = 3) : 4 ≤ (wordK k).length := by rcases hk with rfl | rfl | rfl <;> decide
theorem RPF.full {S : List UInt8} {k : Int} {d a n i : Nat} {r : R9} (h : RPF S k d a n r) (hi : i < S.length) (ha : a ≤ i) (hn : (10 : UInt8) ∉ (S.drop a).take (i - a)) (he : S[i]'hi = 10) (hd : d = (fieldsv k).length) {k' : Int} {x : List UInt8} (hf : firstL ((S.drop a).take (i - a)) = some (k', x)) (hk : ¬ k' < k) :
 RPF S k' 0 (i + 1) (n + 1) (newK r k' x) := by
 obtain ⟨h3, hx, ht⟩ := first_some hf
 have hc := scan_cut hi ha hn he
 have hl : lineP ⟨k, d, r⟩ (cutC 10 (S.drop a)).1 = some ⟨k', 0, newK r k' x⟩ := by
  rw [hc, line_full (p := ⟨k, d, r⟩) hd, hf]
  simp only [if_neg hk]
 obtain ⟨g1, g2⟩ := rd_some (n := n) (by rw [hc]) hl
 rw [hc] at g1 g2
 have hw := word_len h3
 have hxl : 1 ≤ x.length := by cases x with
  | nil => exact absurd hx (by decide)
  | cons => simp
 have hlen := congrArg List.length ht
 rw [List.length_take, List.length_drop, List.length_append, List.length_cons] at hlen
 have hb := h.bytes
 have hnum := h.num
 subst hd
 rw [Nat.sub_self, Nat.mul_zero] at hb
 exact ⟨h.go.trans g1, h.tail.trans g2, Nat.zero_le _, by omega, by omega, fun _ => names_newK r h3 x, by rw [wt_new r h3]; simp only [Nat.sub_zero]; omega⟩
theorem RPF.full_no {S : List UInt8} {k : Int} {d a n i : Nat} {r : R9} (h : RPF S k d a n r) (hi : i < S.length) (ha : a ≤ i) (hn : (10 : UInt8) ∉ (S.drop a).take (i - a)) (he : S[i]'hi = 10) (hd : d = (fieldsv k).length) (hf : firstL ((S.drop a).take (i - a)) = none ∨ ∃ k' x, firstL ((S.drop a).take (i - a)) = some (k', x) ∧ k' < k) :
 Bad ⟨0, 0, R9.zero⟩ 1 S n := by
 have hc := scan_cut hi ha hn he
 have hl : lineP ⟨k, d, r⟩ (cutC 10 (S.drop a)).1 = none := by
  rw [hc, line_full (p := ⟨k, d, r⟩) hd]
  rcases hf with hf | ⟨k', x, hf, hk⟩
  · rw [hf]
  · rw [hf]; simp only [if_pos hk]
 exact (bad_none (by rw [hc]) hl).back h.go h.tail
theorem fields_min3 {k : Int} {f : ByteArray} (h : f ∈ fieldsv k) : W9k k ≤ f.size + 3 := by
 have key : ∀ (m : Nat) (l : List ByteArray), (l.all fun f => decide (m ≤ f.size + 3)) = true → f ∈ l → m ≤ f.size + 3 := fun m l hl hf => by
  exact of_decide_eq_true (List.all_eq_true.1 hl f hf)
 rcases kind_of h with rfl | rfl | rfl
 · rw [fieldsU] at h
   exact key 4 _ (by decide +kernel) h
 · rw [fieldsW] at h
   exact key 7 _ (by decide +kernel) h
 · rw [fieldsT] at h
   exact key 6 _ (by decide +kernel) h
theorem RPF.field {S : List UInt8} {k : Int} {d a n i : Nat} {r : R9} (h : RPF S k d a n r) (hi : i < S.length) (ha : a ≤ i) (hn : (10 : UInt8) ∉ (S.drop a).take (i - a)) (he : S[i]'hi = 10) (hd : d < (fieldsv k).length) {x : List UInt8} {v : V10} (hs : stripB (32 :: (((fieldsv k)[d]'hd).toList ++ [32])) ((S.drop a).take (i - a)) = some x) (hr : readv (sortv ((fieldsv k)[d]'hd)) x = some v) :
 RPF S k (d + 1) (i + 1) (n + 1) (setK10 r k (lastK r k) ((fieldsv k)[d]'hd) v) := by
 have hc := scan_cut hi ha hn he
 have hl : lineP ⟨k, d, r⟩ (cutC 10 (S.drop a)).1 = some ⟨k, d + 1, setK10 r k (lastK r k) ((fieldsv k)[d]'hd) v⟩ := by
  rw [hc, line_fieldP (p := ⟨k, d, r⟩) rfl hd, hs]
  simp only [hr]
 obtain ⟨g1, g2⟩ := rd_some (n := n) (by rw [hc]) hl
 rw [hc] at g1 g2
 have hlen := congrArg List.length ((strip_iff _ _ _).1 hs)
 rw [List.length_take, List.length_drop, List.length_append, List.length_cons, List.length_append, Lib.toList_data, rt_size] at hlen
 have hm := fields_min3 (List.getElem_mem hd)
 have hb := h.bytes
 have hnum := h.num
 simp only [List.length_singleton] at hlen
 have e : (fieldsv k).length - d = ((fieldsv k).length - (d + 1)) + 1 := by omega
 rw [e, Nat.mul_add, Nat.mul_one] at hb
 exact ⟨h.go.trans g1, h.tail.trans g2, hd, h.kle, by omega, fun q => by rw [namesK_mod]; exact h.ne hd, by rw [wt_set]; omega⟩
theorem RPF.field_no {S : List UInt8} {k : Int} {d a n i : Nat} {r : R9} (h : RPF S k d a n r) (hi : i < S.length) (ha : a ≤ i) (hn : (10 : UInt8) ∉ (S.drop a).take (i - a)) (he : S[i]'hi = 10) (hd : d < (fieldsv k).length) (hf : stripB (32 :: (((fieldsv k)[d]'hd).toList ++ [32])) ((S.drop a).take (i - a)) = none ∨ ∃ x, stripB (32 :: (((fieldsv k)[d]'hd).toList ++ [32])) ((S.drop a).take (i - a)) = some x ∧ readv (sortv ((fieldsv k)[d]'hd)) x = none) :
 Bad ⟨0, 0, R9.zero⟩ 1 S n := by
 have hc := scan_cut hi ha hn he
 have hl : lineP ⟨k, d, r⟩ (cutC 10 (S.drop a)).1 = none := by
  rw [hc, line_fieldP (p := ⟨k, d, r⟩) rfl hd]
  rcases hf with hf | ⟨x, hf, hr⟩
  · rw [hf]
  · rw [hf]; simp only [hr]
 exact (bad_none (by rw [hc]) hl).back h.go h.tail
theorem RPF.few {S : List UInt8} {k : Int} {d a n : Nat} {r : R9} (h : RPF S k d a n r) (ha : a ≤ S.length) (hS : S.length ≤ 32768) : r.us.length ≤ 1000 ∧ r.ws.length ≤ 1000 ∧ r.ts.length ≤ 1000 := by
 have hb := h.bytes
 have h2 : W9k k * ((fieldsv k).length - d) ≤ 72 := by
  rcases (show k = 0 ∨ k = 1 ∨ k = 2 ∨ k = 3 by have := h.kle; omega) with rfl | rfl | rfl | rfl
  · rw [show (fieldsv 0).length = 0 from rfl, Nat.zero_sub, Nat.mul_zero]; omega
  · rw [lenU]; show 4 * _ ≤ _; omega
  · rw [lenW]; show 7 * _ ≤ _; omega
  · rw [lenT]; show 6 * _ ≤ _; omega
 unfold wtR at hb
 omega
end

end Go.Proofs.YtnjcdmjaecgblaaGreatDoor
