/-
  ruletext as landed at a382b96: the maps of an element; Texts cut at commas and joined: the library's words and ours. No program is named here.
-/
import Derived.Test.YtnjcdmjaecgblaaGreatDoorZA04
import Derived.Lib.SplitLaws
import Derived.Lib.Join
namespace Go.Proofs.YtnjcdmjaecgblaaGreatDoor
section
open Go.RowKit Go.Lib
theorem lawStr : Go.Maps.Keyed Tryz.prog 9 := Go.Maps.string_keyed Tryz.underlying9
def eZero : List Value := [.map none, .map none, .map none, .map none, .map none]
theorem zeroEl : ∀ w, (zeroValue 64).run Tryz.prog w = .ok (.agg eZero.toArray) w := Tryz.zeroValue64
def placeF (k : Int) (g o : Nat) (f : ByteArray) : Value := .pointer (some ⟨g, o + offv k f, none⟩)
def MapsAt (w : World) (k : Int) (g o : Nat) (m1 m2 m3 m4 : Value) : Prop := HoldS Tryz.prog 9 w m1 (sortL 1 k) (placeF k g o) ∧ HoldS Tryz.prog 9 w m2 (sortL 2 k) (placeF k g o) ∧ HoldS Tryz.prog 9 w m3 (sortL 3 k) (placeF k g o) ∧ HoldS Tryz.prog 9 w m4 (sortL 4 k) (placeF k g o)
theorem MapsAt.below {w w' : World} {k : Int} {g o : Nat} {m1 m2 m3 m4 : Value} (h : MapsAt w k g o m1 m2 m3 m4) (hb : Below w.heap.size w w') : MapsAt w' k g o m1 m2 m3 m4 := ⟨h.1.below hb, h.2.1.below hb, h.2.2.1.below hb, h.2.2.2.below hb⟩
def SortMap (w : World) (m0 : Value) : Prop := ∃ b, m0 = .map (some b) ∧ MapS Tryz.prog 9 w b sortsL
theorem SortMap.below {w w' : World} {m0 : Value} (h : SortMap w m0) (hb : Below w.heap.size w w') : SortMap w' m0 := by
 obtain ⟨b, e, q⟩ := h
 exact ⟨b, e, q.below hb⟩
def Elem (w : World) (e : Value) (k : Int) (g o : Nat) : Prop := ∃ m0 m1 m2 m3 m4, e = .agg #[m0, m1, m2, m3, m4] ∧ SortMap w m0 ∧ MapsAt w k g o m1 m2 m3 m4
theorem Elem.below {w w' : World} {e : Value} {k : Int} {g o : Nat} (h : Elem w e k g o) (hb : Below w.heap.size w w') : Elem w' e k g o := by
 obtain ⟨m0, m1, m2, m3, m4, e, h0, h1⟩ := h
 exact ⟨m0, m1, m2, m3, m4, e, h0.below hb, h1.below hb⟩
theorem Elem.moves {w w' : World} {e : Value} {k : Int} {g o c : Nat} {us : List Value} {t : TypeId} (h : Elem w e k g o) (hb : Blk w c us t) (hk : ∀ j, j ≠ c → w'.heap[j]? = w.heap[j]?) : Elem w' e k g o := by
 obtain ⟨m0, m1, m2, m3, m4, e, h0, h1⟩ := h
 refine ⟨m0, m1, m2, m3, m4, e, ?_, h1.1.moves hb hk, h1.2.1.moves hb hk, h1.2.2.1.moves hb hk, h1.2.2.2.moves hb hk⟩
 obtain ⟨b, e0, q⟩ := h0
 have hne := q.ne hb
 obtain ⟨es, clock, hh, F, hs, hD⟩ := q
 exact ⟨b, e0, es, clock, (hk b hne).trans hh, F, hs, hD⟩
set_option maxHeartbeats 8000000 in
set_option maxRecDepth 100000 in
theorem dsorts_b (W : World) : Calls Tryz.prog 102 #[] W fun e w' => ∃ m0, e = .returned m0 ∧ SortMap w' m0 ∧ Below W.heap.size W w' := by
 have h0 := MapS.made W Tryz.prog 9
 have b0 := (Below.refl W.heap.size W).alloc (Nat.le_refl _) (.map #[] 0)
 obtain ⟨a1, r1, h1, q1⟩ := h0.addB lawStr Tryz.underlying9 Tryz.underlying58 (by decide) ⟨#[98, 117, 105, 108, 100, 105, 110, 103]⟩ (by decide) (.int .i64 1)
 have b1 := b0.trans q1
 obtain ⟨a2, r2, h2, q2⟩ := h1.addB lawStr Tryz.underlying9 Tryz.underlying58 (by decide) ⟨#[100, 101, 112, 111, 116]⟩ (by decide) (.int .i64 1)
 have b2 := b1.trans q2
 obtain ⟨a3, r3, h3, q3⟩ := h2.addB lawStr Tryz.underlying9 Tryz.underlying58 (by decide) ⟨#[119, 101, 97, 112, 111, 110]⟩ (by decide) (.int .i64 2)
 have b3 := b2.trans q3
 obtain ⟨a4, r4, h4, q4⟩ := h3.addB lawStr Tryz.underlying9 Tryz.underlying58 (by decide) ⟨#[117, 110, 105, 116]⟩ (by decide) (.int .i64 2)
 have b4 := b3.trans q4
 obtain ⟨a5, r5, h5, q5⟩ := h4.addB lawStr Tryz.underlying9 Tryz.underlying58 (by decide) ⟨#[110, 101, 101, 100, 115]⟩ (by decide) (.int .i64 3)
 have b5 := b4.trans q5
 obtain ⟨a6, r6, h6, q6⟩ := h5.addB lawStr Tryz.underlying9 Tryz.underlying58 (by decide) ⟨#[116, 114, 97, 105, 110, 115]⟩ (by decide) (.int .i64 3)
 have b6 := b5.trans q6
 obtain ⟨a7, r7, h7, q7⟩ := h6.addB lawStr Tryz.underlying9 Tryz.underlying58 (by decide) ⟨#[114, 101, 115, 101, 97, 114, 99, 104, 101, 115]⟩ (by decide) (.int .i64 3)
 have b7 := b6.trans q7
 replace h7 := hid h7
 replace b7 := hid b7
 clear h0 b0 h1 b1 h2 b2 h3 b3 h4 b4 h5 b5 h6 b6 q1 q2 q3 q4 q5 q6 q7
 have hmm := @run_makeMap Tryz.prog
 go_enter Tryz.func102, Tryz.ntmps102
 go_wp2_with fail
 go_ret
 exact ⟨_, rfl, ⟨_, rfl, h7.out⟩, b7.out⟩
theorem unitElementBuild : ∀ (x1 x2 x3 x4 : Option Nat) (w : World), Sem.run Tryz.prog (Instr.build 64 #[(1, .map x1), (2, .map x2), (3, .map x3), (4, .map x4)]) w = .ok (.agg #[.map none, .map x1, .map x2, .map x3, .map x4]) w := fun x1 x2 x3 x4 w => by kernel_rfl
theorem weaponElementBuild : ∀ (x1 : Option Nat) (w : World), Sem.run Tryz.prog (Instr.build 64 #[(1, .map x1)]) w = .ok (.agg #[.map none, .map x1, .map none, .map none, .map none]) w := fun x1 w => by kernel_rfl
theorem techElementBuild : ∀ (x1 x3 x4 : Option Nat) (w : World), Sem.run Tryz.prog (Instr.build 64 #[(1, .map x1), (3, .map x3), (4, .map x4)]) w = .ok (.agg #[.map none, .map x1, .map none, .map x3, .map x4]) w := fun x1 x3 x4 w => by kernel_rfl
set_option maxHeartbeats 8000000 in
set_option maxRecDepth 100000 in
theorem dunitElem_b (g o : Nat) (W : World) : Calls Tryz.prog 99 #[.pointer (some ⟨g, o, none⟩)] W fun e w' => ∃ m1 m2 m3 m4, e = .returned (.agg #[.map none, m1, m2, m3, m4]) ∧ MapsAt w' 1 g o m1 m2 m3 m4 ∧ Below W.heap.size W w' := by
 have hB := Blk.new W eZero 64
 have hS0 := ((Below.refl W.heap.size W).alloc (Nat.le_refl _) (.cells eZero.toArray 64)).drew
 have hmx : Tryz.prog.follows .mixedOrders = true := by kernel_rfl
 go_enter Tryz.func99, Tryz.ntmps99
 go_upto_region 1 with (with_reducible refine wpList_alloc_agg rfl 64 rfl _ rfl eZero zeroEl ?_)
 generalize W.alloc (.cells eZero.toArray 64) = Z at *
 refine wp_region_held (S := fun w' => Below W.heap.size W w') hmx ?_
 show wpAnyH _ _ _ _ _ _ _ _ Z.drew
 simp only [Act.put, List.setIfInBounds_toArray, List.set_cons_zero, List.set_cons_succ]
 refine reg_tk (i := 1) (v := .pointer (some ⟨g, o, none⟩)) (some 4) rfl (fun w' hS => by go_simp) hS0 ?_
 simp only [Act.put, List.setIfInBounds_toArray, List.set_cons_zero, List.set_cons_succ]
 refine reg_tk (i := 2) (v := .pointer (some ⟨g, o, none⟩)) (some 5) rfl (fun w' hS => by go_simp) hS0 ?_
 simp only [Act.put, List.setIfInBounds_toArray, List.set_cons_zero, List.set_cons_succ]
 refine reg_tk (i := 3) (v := .pointer (some ⟨g, o + 3, none⟩)) (some 6) rfl (fun w' hS => by go_simp) hS0 ?_
 simp only [Act.put, List.setIfInBounds_toArray, List.set_cons_zero, List.set_cons_succ]
 refine reg_tk (i := 5) (v := .pointer (some ⟨g, o, none⟩)) (some 7) rfl (fun w' hS => by go_simp) hS0 ?_
 simp only [Act.put, List.setIfInBounds_toArray, List.set_cons_zero, List.set_cons_succ]
 refine reg_tk (i := 6) (v := .pointer (some ⟨g, o, none⟩)) (some 8) rfl (fun w' hS => by go_simp) hS0 ?_
 simp only [Act.put, List.setIfInBounds_toArray, List.set_cons_zero, List.set_cons_succ]
 refine reg_tk (i := 7) (v := .pointer (some ⟨g, o + 4, none⟩)) (some 9) rfl (fun w' hS => by go_simp) hS0 ?_
 simp only [Act.put, List.setIfInBounds_toArray, List.set_cons_zero, List.set_cons_succ]
 refine reg_tk (i := 9) (v := .pointer (some ⟨g, o, none⟩)) (some 10) rfl (fun w' hS => by go_simp) hS0 ?_
 simp only [Act.put, List.setIfInBounds_toArray, List.set_cons_zero, List.set_cons_succ]
 refine reg_tk (i := 10) (v := .pointer (some ⟨g, o, none⟩)) (some 11) rfl (fun w' hS => by go_simp) hS0 ?_
 simp only [Act.put, List.setIfInBounds_toArray, List.set_cons_zero, List.set_cons_succ]
 refine reg_tk (i := 11) (v := .pointer (some ⟨g, o + 5, none⟩)) (some 12) rfl (fun w' hS => by go_simp) hS0 ?_
 simp only [Act.put, List.setIfInBounds_toArray, List.set_cons_zero, List.set_cons_succ]
 refine reg_tk (i := 13) (v := .pointer (some ⟨g, o, none⟩)) (some 13) rfl (fun w' hS => by go_simp) hS0 ?_
 simp only [Act.put, List.setIfInBounds_toArray, List.set_cons_zero, List.set_cons_succ]
 refine reg_tk (i := 14) (v := .pointer (some ⟨g, o, none⟩)) (some 14) rfl (fun w' hS => by go_simp) hS0 ?_
 simp only [Act.put, List.setIfInBounds_toArray, List.set_cons_zero, List.set_cons_succ]
 refine reg_tk (i := 15) (v := .pointer (some ⟨g, o + 6, none⟩)) (some 15) rfl (fun w' hS => by go_simp) hS0 ?_
 simp only [Act.put, List.setIfInBounds_toArray, List.set_cons_zero, List.set_cons_succ]
 refine reg_tk (i := 17) (v := .pointer (some ⟨g, o, none⟩)) (some 16) rfl (fun w' hS => by go_simp) hS0 ?_
 simp only [Act.put, List.setIfInBounds_toArray, List.set_cons_zero, List.set_cons_succ]
 refine reg_tk (i := 18) (v := .pointer (some ⟨g, o, none⟩)) (some 17) rfl (fun w' hS => by go_simp) hS0 ?_
 simp only [Act.put, List.setIfInBounds_toArray, List.set_cons_zero, List.set_cons_succ]
 refine reg_tk (i := 19) (v := .pointer (some ⟨g, o + 7, none⟩)) (some 18) rfl (fun w' hS => by go_simp) hS0 ?_
 simp only [Act.put, List.setIfInBounds_toArray, List.set_cons_zero, List.set_cons_succ]
 refine reg_tk (i := 21) (v := .pointer (some ⟨g, o, none⟩)) (some 19) rfl (fun w' hS => by go_simp) hS0 ?_
 simp only [Act.put, List.setIfInBounds_toArray, List.set_cons_zero, List.set_cons_succ]
 refine reg_tk (i := 22) (v := .pointer (some ⟨g, o, none⟩)) (some 20) rfl (fun w' hS => by go_simp) hS0 ?_
 simp only [Act.put, List.setIfInBounds_toArray, List.set_cons_zero, List.set_cons_succ]
 refine reg_tk (i := 23) (v := .pointer (some ⟨g, o + 8, none⟩)) (some 21) rfl (fun w' hS => by go_simp) hS0 ?_
 simp only [Act.put, List.setIfInBounds_toArray, List.set_cons_zero, List.set_cons_succ]
 refine reg_tk (i := 25) (v := .pointer (some ⟨g, o, none⟩)) (some 22) rfl (fun w' hS => by go_simp) hS0 ?_
 simp only [Act.put, List.setIfInBounds_toArray, List.set_cons_zero, List.set_cons_succ]
 refine reg_tk (i := 26) (v := .pointer (some ⟨g, o, none⟩)) (some 23) rfl (fun w' hS => by go_simp) hS0 ?_
 simp only [Act.put, List.setIfInBounds_toArray, List.set_cons_zero, List.set_cons_succ]
 refine reg_tk (i := 27) (v := .pointer (some ⟨g, o + 9, none⟩)) (some 24) rfl (fun w' hS => by go_simp) hS0 ?_
 simp only [Act.put, List.setIfInBounds_toArray, List.set_cons_zero, List.set_cons_succ]
 refine reg_tk (i := 29) (v := .pointer (some ⟨g, o, none⟩)) (some 25) rfl (fun w' hS => by go_simp) hS0 ?_
 simp only [Act.put, List.setIfInBounds_toArray, List.set_cons_zero, List.set_cons_succ]
 refine reg_tk (i := 30) (v := .pointer (some ⟨g, o, none⟩)) (some 26) rfl (fun w' hS => by go_simp) hS0 ?_
 simp only [Act.put, List.setIfInBounds_toArray, List.set_cons_zero, List.set_cons_succ]
 refine reg_tk (i := 31) (v := .pointer (some ⟨g, o + 10, none⟩)) (some 27) rfl (fun w' hS => by go_simp) hS0 ?_
 simp only [Act.put, List.setIfInBounds_toArray, List.set_cons_zero, List.set_cons_succ]
 refine reg_tk (i := 33) (v := .pointer (some ⟨g, o, none⟩)) (some 28) rfl (fun w' hS => by go_simp) hS0 ?_
 simp only [Act.put, List.setIfInBounds_toArray, List.set_cons_zero, List.set_cons_succ]
 refine reg_tk (i := 34) (v := .pointer (some ⟨g, o, none⟩)) (some 29) rfl (fun w' hS => by go_simp) hS0 ?_
 simp only [Act.put, List.setIfInBounds_toArray, List.set_cons_zero, List.set_cons_succ]
 refine reg_tk (i := 35) (v := .pointer (some ⟨g, o + 11, none⟩)) (some 30) rfl (fun w' hS => by go_simp) hS0 ?_
 simp only [Act.put, List.setIfInBounds_toArray, List.set_cons_zero, List.set_cons_succ]
 refine reg_tk (i := 37) (v := .pointer (some ⟨g, o, none⟩)) (some 31) rfl (fun w' hS => by go_simp) hS0 ?_
 simp only [Act.put, List.setIfInBounds_toArray, List.set_cons_zero, List.set_cons_succ]
 refine reg_tk (i := 38) (v := .pointer (some ⟨g, o, none⟩)) (some 32) rfl (fun w' hS => by go_simp) hS0 ?_
 simp only [Act.put, List.setIfInBounds_toArray, List.set_cons_zero, List.set_cons_succ]
 refine reg_tk (i := 39) (v := .pointer (some ⟨g, o + 13, none⟩)) (some 33) rfl (fun w' hS => by go_simp) hS0 ?_
 simp only [Act.put, List.setIfInBounds_toArray, List.set_cons_zero, List.set_cons_succ]
 refine reg_tk (i := 41) (v := .pointer (some ⟨g, o, none⟩)) (some 34) rfl (fun w' hS => by go_simp) hS0 ?_
 simp only [Act.put, List.setIfInBounds_toArray, List.set_cons_zero, List.set_cons_succ]
 refine reg_tk (i := 42) (v := .pointer (some ⟨g, o, none⟩)) (some 35) rfl (fun w' hS => by go_simp) hS0 ?_
 simp only [Act.put, List.setIfInBounds_toArray, List.set_cons_zero, List.set_cons_succ]
 refine reg_tk (i := 43) (v := .pointer (some ⟨g, o + 14, none⟩)) (some 36) rfl (fun w' hS => by go_simp) hS0 ?_
 simp only [Act.put, List.setIfInBounds_toArray, List.set_cons_zero, List.set_cons_succ]
 refine reg_tk (i := 45) (v := .pointer (some ⟨g, o, none⟩)) (some 37) rfl (fun w' hS => by go_simp) hS0 ?_
 simp only [Act.put, List.setIfInBounds_toArray, List.set_cons_zero, List.set_cons_succ]
 refine reg_tk (i := 46) (v := .pointer (some ⟨g, o, none⟩)) (some 38) rfl (fun w' hS => by go_simp) hS0 ?_
 simp only [Act.put, List.setIfInBounds_toArray, List.set_cons_zero, List.set_cons_succ]
 refine reg_tk (i := 47) (v := .pointer (some ⟨g, o + 15, none⟩)) (some 39) rfl (fun w' hS => by go_simp) hS0 ?_
 simp only [Act.put, List.setIfInBounds_toArray, List.set_cons_zero, List.set_cons_succ]
 refine reg_tk (i := 51) (v := .pointer (some ⟨g, o, none⟩)) (some 42) rfl (fun w' hS => by go_simp) hS0 ?_
 simp only [Act.put, List.setIfInBounds_toArray, List.set_cons_zero, List.set_cons_succ]
 refine reg_tk (i := 52) (v := .pointer (some ⟨g, o, none⟩)) (some 43) rfl (fun w' hS => by go_simp) hS0 ?_
 simp only [Act.put, List.setIfInBounds_toArray, List.set_cons_zero, List.set_cons_succ]
 refine reg_tk (i := 53) (v := .pointer (some ⟨g, o + 1, none⟩)) (some 44) rfl (fun w' hS => by go_simp) hS0 ?_
 simp only [Act.put, List.setIfInBounds_toArray, List.set_cons_zero, List.set_cons_succ]
 refine reg_tk (i := 55) (v := .pointer (some ⟨g, o, none⟩)) (some 45) rfl (fun w' hS => by go_simp) hS0 ?_
 simp only [Act.put, List.setIfInBounds_toArray, List.set_cons_zero, List.set_cons_succ]
 refine reg_tk (i := 56) (v := .pointer (some ⟨g, o, none⟩)) (some 46) rfl (fun w' hS => by go_simp) hS0 ?_
 simp only [Act.put, List.setIfInBounds_toArray, List.set_cons_zero, List.set_cons_succ]
 refine reg_tk (i := 57) (v := .pointer (some ⟨g, o + 2, none⟩)) (some 47) rfl (fun w' hS => by go_simp) hS0 ?_
 simp only [Act.put, List.setIfInBounds_toArray, List.set_cons_zero, List.set_cons_succ]
 refine reg_tk (i := 61) (v := .pointer (some ⟨g, o, none⟩)) (some 50) rfl (fun w' hS => by go_simp) hS0 ?_
 simp only [Act.put, List.setIfInBounds_toArray, List.set_cons_zero, List.set_cons_succ]
 refine reg_tk (i := 62) (v := .pointer (some ⟨g, o, none⟩)) (some 51) rfl (fun w' hS => by go_simp) hS0 ?_
 simp only [Act.put, List.setIfInBounds_toArray, List.set_cons_zero, List.set_cons_succ]
 refine reg_tk (i := 63) (v := .pointer (some ⟨g, o + 12, none⟩)) (some 52) rfl (fun w' hS => by go_simp) hS0 ?_
 simp only [Act.put, List.setIfInBounds_toArray, List.set_cons_zero, List.set_cons_succ]
 refine reg_tk (i := 67) (v := .pointer (some ⟨g, o, none⟩)) (some 55) rfl (fun w' hS => by go_simp) hS0 ?_
 simp only [Act.put, List.setIfInBounds_toArray, List.set_cons_zero, List.set_cons_succ]
 refine reg_tk (i := 68) (v := .pointer (some ⟨g, o, none⟩)) (some 56) rfl (fun w' hS => by go_simp) hS0 ?_
 simp only [Act.put, List.setIfInBounds_toArray, List.set_cons_zero, List.set_cons_succ]
 refine reg_tk (i := 69) (v := .pointer (some ⟨g, o + 16, none⟩)) (some 57) rfl (fun w' hS => by go_simp) hS0 ?_
 simp only [Act.put, List.setIfInBounds_toArray, List.set_cons_zero, List.set_cons_succ]
 refine reg_tk (i := 71) (v := .pointer (some ⟨g, o, none⟩)) (some 58) rfl (fun w' hS => by go_simp) hS0 ?_
 simp only [Act.put, List.setIfInBounds_toArray, List.set_cons_zero, List.set_cons_succ]
 refine reg_tk (i := 72) (v := .pointer (some ⟨g, o, none⟩)) (some 59) rfl (fun w' hS => by go_simp) hS0 ?_
 simp only [Act.put, List.setIfInBounds_toArray, List.set_cons_zero, List.set_cons_succ]
 refine reg_tk (i := 73) (v := .pointer (some ⟨g, o + 17, none⟩)) (some 60) rfl (fun w' hS => by go_simp) hS0 ?_
 simp only [Act.put, List.setIfInBounds_toArray, List.set_cons_zero, List.set_cons_succ]
 refine reg_tk (i := 75) (v := .pointer (some ⟨g, o, none⟩)) (some 61) rfl (fun w' hS => by go_simp) hS0 ?_
 simp only [Act.put, List.setIfInBounds_toArray, List.set_cons_zero, List.set_cons_succ]
 refine reg_tk (i := 76) (v := .pointer (some ⟨g, o, none⟩)) (some 62) rfl (fun w' hS => by go_simp) hS0 ?_
 simp only [Act.put, List.setIfInBounds_toArray, List.set_cons_zero, List.set_cons_succ]
 refine reg_tk (i := 77) (v := .pointer (some ⟨g, o + 18, none⟩)) (some 63) rfl (fun w' hS => by go_simp) hS0 ?_
 simp only [Act.put, List.setIfInBounds_toArray, List.set_cons_zero, List.set_cons_succ]
 refine lit_region (k := 9) (W := W) (MS := [⟨0, 3, 49, 40⟩, ⟨50, 41, 59, 48⟩, ⟨60, 49, 65, 53⟩, ⟨66, 54, 79, 64⟩]) (INS := [⟨4, 0, ⟨#[99, 108, 97, 115, 115]⟩, 6⟩, ⟨8, 0, ⟨#[119]⟩, 9⟩, ⟨12, 0, ⟨#[104]⟩, 12⟩, ⟨16, 0, ⟨#[114, 97, 100, 105, 117, 115]⟩, 15⟩, ⟨20, 0, ⟨#[115, 112, 101, 101, 100]⟩, 18⟩, ⟨24, 0, ⟨#[115, 105, 103, 104, 116]⟩, 21⟩, ⟨28, 0, ⟨#[104, 112]⟩, 24⟩, ⟨32, 0, ⟨#[97, 114, 109, 111, 114]⟩, 27⟩, ⟨36, 0, ⟨#[108, 111, 97, 100]⟩, 30⟩, ⟨40, 0, ⟨#[111, 114, 101]⟩, 33⟩, ⟨44, 0, ⟨#[119, 111, 111, 100]⟩, 36⟩, ⟨48, 0, ⟨#[116, 105, 109, 101]⟩, 39⟩, ⟨54, 50, ⟨#[98, 117, 105, 108, 100, 105, 110, 103]⟩, 44⟩, ⟨58, 50, ⟨#[100, 101, 112, 111, 116]⟩, 47⟩, ⟨64, 60, ⟨#[119, 101, 97, 112, 111, 110]⟩, 52⟩, ⟨70, 66, ⟨#[110, 101, 101, 100, 115]⟩, 57⟩, ⟨74, 66, ⟨#[116, 114, 97, 105, 110, 115]⟩, 60⟩, ⟨78, 66, ⟨#[114, 101, 115, 101, 97, 114, 99, 104, 101, 115]⟩, 63⟩]) (F := (placeF 1 g o)) (sl := [3, 41, 49, 54, 40, 48, 53, 64, 65]) (bi := 80) (st := 81) (bs := 65) (c := W.heap.size) (zs := eZero) (T := 64) (EV := fun b => .agg ([.map none, .map (some (b 0)), .map (some (b 50)), .map (some (b 60)), .map (some (b 66))] : List Value).toArray) (CV := fun b => [.map none, .map (some (b 0)), .map (some (b 50)), .map (some (b 60)), .map (some (b 66))]) (by decide +kernel) (by kernel_rfl) ⟨by decide +kernel, by decide +kernel, by decide +kernel, by decide +kernel, by decide +kernel, by decide +kernel, by decide +kernel, by decide +kernel, fun s hs => Nat.lt_of_lt_of_eq ((show ∀ s ∈ [3, 41, 49, 54, 40, 48, 53, 64, 65], s < 66 from by decide +kernel) s hs) rfl, by decide +kernel⟩ (by kernel_rfl) (by decide +kernel) (by decide +kernel) (by decide +kernel) ?_ ?_ ?_ ?_ ?_ lawStr Tryz.underlying9 (Nat.le_refl _) hS0 hB ?_
 · intro m hm; simp only [List.mem_cons, List.not_mem_nil, or_false] at hm; rcases hm with rfl | rfl | rfl | rfl <;> exact ⟨_, _, rfl, rfl, rfl, rfl⟩
 · intro e he; simp only [List.mem_cons, List.not_mem_nil, or_false] at he; rcases he with rfl | rfl | rfl | rfl | rfl | rfl | rfl | rfl | rfl | rfl | rfl | rfl | rfl | rfl | rfl | rfl | rfl | rfl
   · exact ⟨_, _, _, ⟨0, 3, 49, 40⟩, by decide +kernel, rfl, rfl, rfl, rfl, rfl, Tryz.underlying59, by decide, rfl, by decide, by unfold Waits; kernel_rfl⟩
   · exact ⟨_, _, _, ⟨0, 3, 49, 40⟩, by decide +kernel, rfl, rfl, rfl, rfl, rfl, Tryz.underlying59, by decide, rfl, by decide, by unfold Waits; kernel_rfl⟩
   · exact ⟨_, _, _, ⟨0, 3, 49, 40⟩, by decide +kernel, rfl, rfl, rfl, rfl, rfl, Tryz.underlying59, by decide, rfl, by decide, by unfold Waits; kernel_rfl⟩
   · exact ⟨_, _, _, ⟨0, 3, 49, 40⟩, by decide +kernel, rfl, rfl, rfl, rfl, rfl, Tryz.underlying59, by decide, rfl, by decide, by unfold Waits; kernel_rfl⟩
   · exact ⟨_, _, _, ⟨0, 3, 49, 40⟩, by decide +kernel, rfl, rfl, rfl, rfl, rfl, Tryz.underlying59, by decide, rfl, by decide, by unfold Waits; kernel_rfl⟩
   · exact ⟨_, _, _, ⟨0, 3, 49, 40⟩, by decide +kernel, rfl, rfl, rfl, rfl, rfl, Tryz.underlying59, by decide, rfl, by decide, by unfold Waits; kernel_rfl⟩
   · exact ⟨_, _, _, ⟨0, 3, 49, 40⟩, by decide +kernel, rfl, rfl, rfl, rfl, rfl, Tryz.underlying59, by decide, rfl, by decide, by unfold Waits; kernel_rfl⟩
   · exact ⟨_, _, _, ⟨0, 3, 49, 40⟩, by decide +kernel, rfl, rfl, rfl, rfl, rfl, Tryz.underlying59, by decide, rfl, by decide, by unfold Waits; kernel_rfl⟩
   · exact ⟨_, _, _, ⟨0, 3, 49, 40⟩, by decide +kernel, rfl, rfl, rfl, rfl, rfl, Tryz.underlying59, by decide, rfl, by decide, by unfold Waits; kernel_rfl⟩
   · exact ⟨_, _, _, ⟨0, 3, 49, 40⟩, by decide +kernel, rfl, rfl, rfl, rfl, rfl, Tryz.underlying59, by decide, rfl, by decide, by unfold Waits; kernel_rfl⟩
   · exact ⟨_, _, _, ⟨0, 3, 49, 40⟩, by decide +kernel, rfl, rfl, rfl, rfl, rfl, Tryz.underlying59, by decide, rfl, by decide, by unfold Waits; kernel_rfl⟩
   · exact ⟨_, _, _, ⟨0, 3, 49, 40⟩, by decide +kernel, rfl, rfl, rfl, rfl, rfl, Tryz.underlying59, by decide, rfl, by decide, by unfold Waits; kernel_rfl⟩
   · exact ⟨_, _, _, ⟨50, 41, 59, 48⟩, by decide +kernel, rfl, rfl, rfl, rfl, rfl, Tryz.underlying60, by decide, rfl, by decide, by unfold Waits; kernel_rfl⟩
   · exact ⟨_, _, _, ⟨50, 41, 59, 48⟩, by decide +kernel, rfl, rfl, rfl, rfl, rfl, Tryz.underlying60, by decide, rfl, by decide, by unfold Waits; kernel_rfl⟩
   · exact ⟨_, _, _, ⟨60, 49, 65, 53⟩, by decide +kernel, rfl, rfl, rfl, rfl, rfl, Tryz.underlying61, by decide, rfl, by decide, by unfold Waits; kernel_rfl⟩
   · exact ⟨_, _, _, ⟨66, 54, 79, 64⟩, by decide +kernel, rfl, rfl, rfl, rfl, rfl, Tryz.underlying62, by decide, rfl, by decide, by unfold Waits; kernel_rfl⟩
   · exact ⟨_, _, _, ⟨66, 54, 79, 64⟩, by decide +kernel, rfl, rfl, rfl, rfl, rfl, Tryz.underlying62, by decide, rfl, by decide, by unfold Waits; kernel_rfl⟩
   · exact ⟨_, _, _, ⟨66, 54, 79, 64⟩, by decide +kernel, rfl, rfl, rfl, rfl, rfl, Tryz.underlying62, by decide, rfl, by decide, by unfold Waits; kernel_rfl⟩
 · intro m hm; simp only [List.mem_cons, List.not_mem_nil, or_false] at hm; rcases hm with rfl | rfl | rfl | rfl <;> exact ⟨_, rfl, rfl, rfl, rfl, by unfold Waits; kernel_rfl, by decide +kernel⟩
 · refine ⟨_, rfl, rfl, ?_, fun a w b K hm hk => ?_⟩
   · intro m hm; simp only [List.mem_cons, List.not_mem_nil, or_false] at hm; rcases hm with rfl | rfl | rfl | rfl <;> (unfold Waits; kernel_rfl)
   · have h0 := hm ⟨0, 3, 49, 40⟩ (by decide +kernel)
     have h1 := hm ⟨50, 41, 59, 48⟩ (by decide +kernel)
     have h2 := hm ⟨60, 49, 65, 53⟩ (by decide +kernel)
     have h3 := hm ⟨66, 54, 79, 64⟩ (by decide +kernel)
     refine wp_buildv 64 #[(1, .tmp 40), (2, .tmp 48), (3, .tmp 53), (4, .tmp 64)] 65 rfl rfl _ (fun w => ?_) hk
     simp only [List.map_toArray, List.map_cons, List.map_nil, h0, h1, h2, h3]
     exact unitElementBuild _ _ _ _ w
 · refine ⟨_, rfl, rfl, by unfold Waits; kernel_rfl, fun a w b K hf hv hb hk => ?_⟩
   exact wp_store_row 64 (.tmp 2) (.tmp 65) rfl rfl W.heap.size ((hf.ev 2 (by decide)).trans rfl) Tryz.sizeOf64 _ hv rfl hb rfl (by intro v hv; simp only [List.mem_cons, List.not_mem_nil, or_false] at hv; rcases hv with rfl | rfl | rfl | rfl | rfl <;> rfl) hk
 · intro a w b D hf hL hZ hv hm
   obtain ⟨x0, y0, z0, k0⟩ := hm ⟨0, 3, 49, 40⟩ (by decide +kernel)
   obtain ⟨x1, y1, z1, k1⟩ := hm ⟨50, 41, 59, 48⟩ (by decide +kernel)
   obtain ⟨x2, y2, z2, k2⟩ := hm ⟨60, 49, 65, 53⟩ (by decide +kernel)
   obtain ⟨x3, y3, z3, k3⟩ := hm ⟨66, 54, 79, 64⟩ (by decide +kernel)
   rw [hf.lit]
   simp only [putsG, List.foldl, Act.put, List.setIfInBounds_toArray, List.set_cons_zero, List.set_cons_succ]
   show Exit.then _ _ Exit.normal _ _
   go_wp2_with fail
   refine bodyPost_ret (results_agg_one rfl rfl Tryz.isAgg64 Tryz.sizeOf64 hZ rfl) rfl ?_
   refine ⟨_, _, _, _, rfl, ⟨.inl ⟨_, _, rfl, z0, fun s hs => ?_⟩, .inl ⟨_, _, rfl, z1, fun s hs => ?_⟩, .inl ⟨_, _, rfl, z2, fun s hs => ?_⟩, .inl ⟨_, _, rfl, z3, fun s hs => ?_⟩⟩, hL⟩
   · rw [names11] at hs
     simp only [List.mem_cons, List.not_mem_nil, or_false] at hs
     rcases hs with rfl | rfl | rfl | rfl | rfl | rfl | rfl | rfl | rfl | rfl | rfl | rfl
     · exact k0 ⟨4, 0, ⟨#[99, 108, 97, 115, 115]⟩, 6⟩ (by decide +kernel) rfl
     · exact k0 ⟨8, 0, ⟨#[119]⟩, 9⟩ (by decide +kernel) rfl
     · exact k0 ⟨12, 0, ⟨#[104]⟩, 12⟩ (by decide +kernel) rfl
     · exact k0 ⟨16, 0, ⟨#[114, 97, 100, 105, 117, 115]⟩, 15⟩ (by decide +kernel) rfl
     · exact k0 ⟨20, 0, ⟨#[115, 112, 101, 101, 100]⟩, 18⟩ (by decide +kernel) rfl
     · exact k0 ⟨24, 0, ⟨#[115, 105, 103, 104, 116]⟩, 21⟩ (by decide +kernel) rfl
     · exact k0 ⟨28, 0, ⟨#[104, 112]⟩, 24⟩ (by decide +kernel) rfl
     · exact k0 ⟨32, 0, ⟨#[97, 114, 109, 111, 114]⟩, 27⟩ (by decide +kernel) rfl
     · exact k0 ⟨36, 0, ⟨#[108, 111, 97, 100]⟩, 30⟩ (by decide +kernel) rfl
     · exact k0 ⟨40, 0, ⟨#[111, 114, 101]⟩, 33⟩ (by decide +kernel) rfl
     · exact k0 ⟨44, 0, ⟨#[119, 111, 111, 100]⟩, 36⟩ (by decide +kernel) rfl
     · exact k0 ⟨48, 0, ⟨#[116, 105, 109, 101]⟩, 39⟩ (by decide +kernel) rfl
   · rw [names12] at hs
     simp only [List.mem_cons, List.not_mem_nil, or_false] at hs
     rcases hs with rfl | rfl
     · exact k1 ⟨54, 50, ⟨#[98, 117, 105, 108, 100, 105, 110, 103]⟩, 44⟩ (by decide +kernel) rfl
     · exact k1 ⟨58, 50, ⟨#[100, 101, 112, 111, 116]⟩, 47⟩ (by decide +kernel) rfl
   · rw [names13] at hs
     simp only [List.mem_cons, List.not_mem_nil, or_false] at hs
     rcases hs with rfl
     · exact k2 ⟨64, 60, ⟨#[119, 101, 97, 112, 111, 110]⟩, 52⟩ (by decide +kernel) rfl
   · rw [names14] at hs
     simp only [List.mem_cons, List.not_mem_nil, or_false] at hs
     rcases hs with rfl | rfl | rfl
     · exact k3 ⟨70, 66, ⟨#[110, 101, 101, 100, 115]⟩, 57⟩ (by decide +kernel) rfl
     · exact k3 ⟨74, 66, ⟨#[116, 114, 97, 105, 110, 115]⟩, 60⟩ (by decide +kernel) rfl
     · exact k3 ⟨78, 66, ⟨#[114, 101, 115, 101, 97, 114, 99, 104, 101, 115]⟩, 63⟩ (by decide +kernel) rfl
set_option maxHeartbeats 8000000 in
set_option maxRecDepth 100000 in
theorem dweapElem_b (g o : Nat) (W : World) : Calls Tryz.prog 100 #[.pointer (some ⟨g, o, none⟩)] W fun e w' => ∃ m1 m2 m3 m4, e = .returned (.agg #[.map none, m1, m2, m3, m4]) ∧ MapsAt w' 2 g o m1 m2 m3 m4 ∧ Below W.heap.size W w' := by
 have hB := Blk.new W eZero 64
 have hS0 := ((Below.refl W.heap.size W).alloc (Nat.le_refl _) (.cells eZero.toArray 64)).drew
 have hmx : Tryz.prog.follows .mixedOrders = true := by kernel_rfl
 go_enter Tryz.func100, Tryz.ntmps100
 go_upto_region 1 with (with_reducible refine wpList_alloc_agg rfl 64 rfl _ rfl eZero zeroEl ?_)
 generalize W.alloc (.cells eZero.toArray 64) = Z at *
 refine wp_region_held (S := fun w' => Below W.heap.size W w') hmx ?_
 show wpAnyH _ _ _ _ _ _ _ _ Z.drew
 simp only [Act.put, List.setIfInBounds_toArray, List.set_cons_zero, List.set_cons_succ]
 refine reg_tk (i := 1) (v := .pointer (some ⟨g, o, none⟩)) (some 4) rfl (fun w' hS => by go_simp) hS0 ?_
 simp only [Act.put, List.setIfInBounds_toArray, List.set_cons_zero, List.set_cons_succ]
 refine reg_tk (i := 2) (v := .pointer (some ⟨g, o, none⟩)) (some 5) rfl (fun w' hS => by go_simp) hS0 ?_
 simp only [Act.put, List.setIfInBounds_toArray, List.set_cons_zero, List.set_cons_succ]
 refine reg_tk (i := 3) (v := .pointer (some ⟨g, o + 1, none⟩)) (some 6) rfl (fun w' hS => by go_simp) hS0 ?_
 simp only [Act.put, List.setIfInBounds_toArray, List.set_cons_zero, List.set_cons_succ]
 refine reg_tk (i := 5) (v := .pointer (some ⟨g, o, none⟩)) (some 7) rfl (fun w' hS => by go_simp) hS0 ?_
 simp only [Act.put, List.setIfInBounds_toArray, List.set_cons_zero, List.set_cons_succ]
 refine reg_tk (i := 6) (v := .pointer (some ⟨g, o, none⟩)) (some 8) rfl (fun w' hS => by go_simp) hS0 ?_
 simp only [Act.put, List.setIfInBounds_toArray, List.set_cons_zero, List.set_cons_succ]
 refine reg_tk (i := 7) (v := .pointer (some ⟨g, o + 2, none⟩)) (some 9) rfl (fun w' hS => by go_simp) hS0 ?_
 simp only [Act.put, List.setIfInBounds_toArray, List.set_cons_zero, List.set_cons_succ]
 refine reg_tk (i := 9) (v := .pointer (some ⟨g, o, none⟩)) (some 10) rfl (fun w' hS => by go_simp) hS0 ?_
 simp only [Act.put, List.setIfInBounds_toArray, List.set_cons_zero, List.set_cons_succ]
 refine reg_tk (i := 10) (v := .pointer (some ⟨g, o, none⟩)) (some 11) rfl (fun w' hS => by go_simp) hS0 ?_
 simp only [Act.put, List.setIfInBounds_toArray, List.set_cons_zero, List.set_cons_succ]
 refine reg_tk (i := 11) (v := .pointer (some ⟨g, o + 3, none⟩)) (some 12) rfl (fun w' hS => by go_simp) hS0 ?_
 simp only [Act.put, List.setIfInBounds_toArray, List.set_cons_zero, List.set_cons_succ]
 refine reg_tk (i := 13) (v := .pointer (some ⟨g, o, none⟩)) (some 13) rfl (fun w' hS => by go_simp) hS0 ?_
 simp only [Act.put, List.setIfInBounds_toArray, List.set_cons_zero, List.set_cons_succ]
 refine reg_tk (i := 14) (v := .pointer (some ⟨g, o, none⟩)) (some 14) rfl (fun w' hS => by go_simp) hS0 ?_
 simp only [Act.put, List.setIfInBounds_toArray, List.set_cons_zero, List.set_cons_succ]
 refine reg_tk (i := 15) (v := .pointer (some ⟨g, o + 4, none⟩)) (some 15) rfl (fun w' hS => by go_simp) hS0 ?_
 simp only [Act.put, List.setIfInBounds_toArray, List.set_cons_zero, List.set_cons_succ]
 refine reg_tk (i := 17) (v := .pointer (some ⟨g, o, none⟩)) (some 16) rfl (fun w' hS => by go_simp) hS0 ?_
 simp only [Act.put, List.setIfInBounds_toArray, List.set_cons_zero, List.set_cons_succ]
 refine reg_tk (i := 18) (v := .pointer (some ⟨g, o, none⟩)) (some 17) rfl (fun w' hS => by go_simp) hS0 ?_
 simp only [Act.put, List.setIfInBounds_toArray, List.set_cons_zero, List.set_cons_succ]
 refine reg_tk (i := 19) (v := .pointer (some ⟨g, o + 5, none⟩)) (some 18) rfl (fun w' hS => by go_simp) hS0 ?_
 simp only [Act.put, List.setIfInBounds_toArray, List.set_cons_zero, List.set_cons_succ]
 refine lit_region (k := 9) (W := W) (MS := [⟨0, 3, 21, 19⟩]) (INS := [⟨4, 0, ⟨#[114, 97, 110, 103, 101]⟩, 6⟩, ⟨8, 0, ⟨#[100, 97, 109, 97, 103, 101]⟩, 9⟩, ⟨12, 0, ⟨#[99, 111, 111, 108]⟩, 12⟩, ⟨16, 0, ⟨#[115, 112, 101, 101, 100]⟩, 15⟩, ⟨20, 0, ⟨#[115, 112, 108, 97, 115, 104]⟩, 18⟩]) (F := (placeF 2 g o)) (sl := [3, 19, 20]) (bi := 22) (st := 23) (bs := 20) (c := W.heap.size) (zs := eZero) (T := 64) (EV := fun b => .agg ([.map none, .map (some (b 0)), .map none, .map none, .map none] : List Value).toArray) (CV := fun b => [.map none, .map (some (b 0)), .map none, .map none, .map none]) (by decide +kernel) (by kernel_rfl) ⟨by decide +kernel, by decide +kernel, by decide +kernel, by decide +kernel, by decide +kernel, by decide +kernel, by decide +kernel, by decide +kernel, fun s hs => Nat.lt_of_lt_of_eq ((show ∀ s ∈ [3, 19, 20], s < 21 from by decide +kernel) s hs) rfl, by decide +kernel⟩ (by kernel_rfl) (by decide +kernel) (by decide +kernel) (by decide +kernel) ?_ ?_ ?_ ?_ ?_ lawStr Tryz.underlying9 (Nat.le_refl _) hS0 hB ?_
 · intro m hm; simp only [List.mem_cons, List.not_mem_nil, or_false] at hm; rcases hm with rfl <;> exact ⟨_, _, rfl, rfl, rfl, rfl⟩
 · intro e he; simp only [List.mem_cons, List.not_mem_nil, or_false] at he; rcases he with rfl | rfl | rfl | rfl | rfl
   · exact ⟨_, _, _, ⟨0, 3, 21, 19⟩, by decide +kernel, rfl, rfl, rfl, rfl, rfl, Tryz.underlying59, by decide, rfl, by decide, by unfold Waits; kernel_rfl⟩
   · exact ⟨_, _, _, ⟨0, 3, 21, 19⟩, by decide +kernel, rfl, rfl, rfl, rfl, rfl, Tryz.underlying59, by decide, rfl, by decide, by unfold Waits; kernel_rfl⟩
   · exact ⟨_, _, _, ⟨0, 3, 21, 19⟩, by decide +kernel, rfl, rfl, rfl, rfl, rfl, Tryz.underlying59, by decide, rfl, by decide, by unfold Waits; kernel_rfl⟩
   · exact ⟨_, _, _, ⟨0, 3, 21, 19⟩, by decide +kernel, rfl, rfl, rfl, rfl, rfl, Tryz.underlying59, by decide, rfl, by decide, by unfold Waits; kernel_rfl⟩
   · exact ⟨_, _, _, ⟨0, 3, 21, 19⟩, by decide +kernel, rfl, rfl, rfl, rfl, rfl, Tryz.underlying59, by decide, rfl, by decide, by unfold Waits; kernel_rfl⟩
 · intro m hm; simp only [List.mem_cons, List.not_mem_nil, or_false] at hm; rcases hm with rfl <;> exact ⟨_, rfl, rfl, rfl, rfl, by unfold Waits; kernel_rfl, by decide +kernel⟩
 · refine ⟨_, rfl, rfl, ?_, fun a w b K hm hk => ?_⟩
   · intro m hm; simp only [List.mem_cons, List.not_mem_nil, or_false] at hm; rcases hm with rfl <;> (unfold Waits; kernel_rfl)
   · have h0 := hm ⟨0, 3, 21, 19⟩ (by decide +kernel)
     refine wp_buildv 64 #[(1, .tmp 19)] 20 rfl rfl _ (fun w => ?_) hk
     simp only [List.map_toArray, List.map_cons, List.map_nil, h0]
     exact weaponElementBuild _ w
 · refine ⟨_, rfl, rfl, by unfold Waits; kernel_rfl, fun a w b K hf hv hb hk => ?_⟩
   exact wp_store_row 64 (.tmp 2) (.tmp 20) rfl rfl W.heap.size ((hf.ev 2 (by decide)).trans rfl) Tryz.sizeOf64 _ hv rfl hb rfl (by intro v hv; simp only [List.mem_cons, List.not_mem_nil, or_false] at hv; rcases hv with rfl | rfl | rfl | rfl | rfl <;> rfl) hk
 · intro a w b D hf hL hZ hv hm
   obtain ⟨x0, y0, z0, k0⟩ := hm ⟨0, 3, 21, 19⟩ (by decide +kernel)
   rw [hf.lit]
   simp only [putsG, List.foldl, Act.put, List.setIfInBounds_toArray, List.set_cons_zero, List.set_cons_succ]
   show Exit.then _ _ Exit.normal _ _
   go_wp2_with fail
   refine bodyPost_ret (results_agg_one rfl rfl Tryz.isAgg64 Tryz.sizeOf64 hZ rfl) rfl ?_
   refine ⟨_, _, _, _, rfl, ⟨.inl ⟨_, _, rfl, z0, fun s hs => ?_⟩, .inr ⟨rfl, rfl⟩, .inr ⟨rfl, rfl⟩, .inr ⟨rfl, rfl⟩⟩, hL⟩
   · rw [names21] at hs
     simp only [List.mem_cons, List.not_mem_nil, or_false] at hs
     rcases hs with rfl | rfl | rfl | rfl | rfl
     · exact k0 ⟨4, 0, ⟨#[114, 97, 110, 103, 101]⟩, 6⟩ (by decide +kernel) rfl
     · exact k0 ⟨8, 0, ⟨#[100, 97, 109, 97, 103, 101]⟩, 9⟩ (by decide +kernel) rfl
     · exact k0 ⟨12, 0, ⟨#[99, 111, 111, 108]⟩, 12⟩ (by decide +kernel) rfl
     · exact k0 ⟨16, 0, ⟨#[115, 112, 101, 101, 100]⟩, 15⟩ (by decide +kernel) rfl
     · exact k0 ⟨20, 0, ⟨#[115, 112, 108, 97, 115, 104]⟩, 18⟩ (by decide +kernel) rfl
set_option maxHeartbeats 8000000 in
set_option maxRecDepth 100000 in
theorem dtechElem_b (g o : Nat) (W : World) : Calls Tryz.prog 101 #[.pointer (some ⟨g, o, none⟩)] W fun e w' => ∃ m1 m2 m3 m4, e = .returned (.agg #[.map none, m1, m2, m3, m4]) ∧ MapsAt w' 3 g o m1 m2 m3 m4 ∧ Below W.heap.size W w' := by
 have hB := Blk.new W eZero 64
 have hS0 := ((Below.refl W.heap.size W).alloc (Nat.le_refl _) (.cells eZero.toArray 64)).drew
 have hmx : Tryz.prog.follows .mixedOrders = true := by kernel_rfl
 go_enter Tryz.func101, Tryz.ntmps101
 go_upto_region 1 with (with_reducible refine wpList_alloc_agg rfl 64 rfl _ rfl eZero zeroEl ?_)
 generalize W.alloc (.cells eZero.toArray 64) = Z at *
 refine wp_region_held (S := fun w' => Below W.heap.size W w') hmx ?_
 show wpAnyH _ _ _ _ _ _ _ _ Z.drew
 simp only [Act.put, List.setIfInBounds_toArray, List.set_cons_zero, List.set_cons_succ]
 refine reg_tk (i := 1) (v := .pointer (some ⟨g, o, none⟩)) (some 4) rfl (fun w' hS => by go_simp) hS0 ?_
 simp only [Act.put, List.setIfInBounds_toArray, List.set_cons_zero, List.set_cons_succ]
 refine reg_tk (i := 2) (v := .pointer (some ⟨g, o, none⟩)) (some 5) rfl (fun w' hS => by go_simp) hS0 ?_
 simp only [Act.put, List.setIfInBounds_toArray, List.set_cons_zero, List.set_cons_succ]
 refine reg_tk (i := 3) (v := .pointer (some ⟨g, o + 2, none⟩)) (some 6) rfl (fun w' hS => by go_simp) hS0 ?_
 simp only [Act.put, List.setIfInBounds_toArray, List.set_cons_zero, List.set_cons_succ]
 refine reg_tk (i := 5) (v := .pointer (some ⟨g, o, none⟩)) (some 7) rfl (fun w' hS => by go_simp) hS0 ?_
 simp only [Act.put, List.setIfInBounds_toArray, List.set_cons_zero, List.set_cons_succ]
 refine reg_tk (i := 6) (v := .pointer (some ⟨g, o, none⟩)) (some 8) rfl (fun w' hS => by go_simp) hS0 ?_
 simp only [Act.put, List.setIfInBounds_toArray, List.set_cons_zero, List.set_cons_succ]
 refine reg_tk (i := 7) (v := .pointer (some ⟨g, o + 3, none⟩)) (some 9) rfl (fun w' hS => by go_simp) hS0 ?_
 simp only [Act.put, List.setIfInBounds_toArray, List.set_cons_zero, List.set_cons_succ]
 refine reg_tk (i := 9) (v := .pointer (some ⟨g, o, none⟩)) (some 10) rfl (fun w' hS => by go_simp) hS0 ?_
 simp only [Act.put, List.setIfInBounds_toArray, List.set_cons_zero, List.set_cons_succ]
 refine reg_tk (i := 10) (v := .pointer (some ⟨g, o, none⟩)) (some 11) rfl (fun w' hS => by go_simp) hS0 ?_
 simp only [Act.put, List.setIfInBounds_toArray, List.set_cons_zero, List.set_cons_succ]
 refine reg_tk (i := 11) (v := .pointer (some ⟨g, o + 4, none⟩)) (some 12) rfl (fun w' hS => by go_simp) hS0 ?_
 simp only [Act.put, List.setIfInBounds_toArray, List.set_cons_zero, List.set_cons_succ]
 refine reg_tk (i := 13) (v := .pointer (some ⟨g, o, none⟩)) (some 13) rfl (fun w' hS => by go_simp) hS0 ?_
 simp only [Act.put, List.setIfInBounds_toArray, List.set_cons_zero, List.set_cons_succ]
 refine reg_tk (i := 14) (v := .pointer (some ⟨g, o, none⟩)) (some 14) rfl (fun w' hS => by go_simp) hS0 ?_
 simp only [Act.put, List.setIfInBounds_toArray, List.set_cons_zero, List.set_cons_succ]
 refine reg_tk (i := 15) (v := .pointer (some ⟨g, o + 6, none⟩)) (some 15) rfl (fun w' hS => by go_simp) hS0 ?_
 simp only [Act.put, List.setIfInBounds_toArray, List.set_cons_zero, List.set_cons_succ]
 refine reg_tk (i := 17) (v := .pointer (some ⟨g, o, none⟩)) (some 16) rfl (fun w' hS => by go_simp) hS0 ?_
 simp only [Act.put, List.setIfInBounds_toArray, List.set_cons_zero, List.set_cons_succ]
 refine reg_tk (i := 18) (v := .pointer (some ⟨g, o, none⟩)) (some 17) rfl (fun w' hS => by go_simp) hS0 ?_
 simp only [Act.put, List.setIfInBounds_toArray, List.set_cons_zero, List.set_cons_succ]
 refine reg_tk (i := 19) (v := .pointer (some ⟨g, o + 7, none⟩)) (some 18) rfl (fun w' hS => by go_simp) hS0 ?_
 simp only [Act.put, List.setIfInBounds_toArray, List.set_cons_zero, List.set_cons_succ]
 refine reg_tk (i := 23) (v := .pointer (some ⟨g, o, none⟩)) (some 21) rfl (fun w' hS => by go_simp) hS0 ?_
 simp only [Act.put, List.setIfInBounds_toArray, List.set_cons_zero, List.set_cons_succ]
 refine reg_tk (i := 24) (v := .pointer (some ⟨g, o, none⟩)) (some 22) rfl (fun w' hS => by go_simp) hS0 ?_
 simp only [Act.put, List.setIfInBounds_toArray, List.set_cons_zero, List.set_cons_succ]
 refine reg_tk (i := 25) (v := .pointer (some ⟨g, o + 5, none⟩)) (some 23) rfl (fun w' hS => by go_simp) hS0 ?_
 simp only [Act.put, List.setIfInBounds_toArray, List.set_cons_zero, List.set_cons_succ]
 refine reg_tk (i := 29) (v := .pointer (some ⟨g, o, none⟩)) (some 26) rfl (fun w' hS => by go_simp) hS0 ?_
 simp only [Act.put, List.setIfInBounds_toArray, List.set_cons_zero, List.set_cons_succ]
 refine reg_tk (i := 30) (v := .pointer (some ⟨g, o, none⟩)) (some 27) rfl (fun w' hS => by go_simp) hS0 ?_
 simp only [Act.put, List.setIfInBounds_toArray, List.set_cons_zero, List.set_cons_succ]
 refine reg_tk (i := 31) (v := .pointer (some ⟨g, o + 1, none⟩)) (some 28) rfl (fun w' hS => by go_simp) hS0 ?_
 simp only [Act.put, List.setIfInBounds_toArray, List.set_cons_zero, List.set_cons_succ]
 refine lit_region (k := 9) (W := W) (MS := [⟨0, 3, 21, 19⟩, ⟨22, 20, 27, 24⟩, ⟨28, 25, 33, 29⟩]) (INS := [⟨4, 0, ⟨#[111, 114, 101]⟩, 6⟩, ⟨8, 0, ⟨#[119, 111, 111, 100]⟩, 9⟩, ⟨12, 0, ⟨#[116, 105, 109, 101]⟩, 12⟩, ⟨16, 0, ⟨#[115, 116, 97, 116]⟩, 15⟩, ⟨20, 0, ⟨#[97, 109, 111, 117, 110, 116]⟩, 18⟩, ⟨26, 22, ⟨#[117, 110, 105, 116]⟩, 23⟩, ⟨32, 28, ⟨#[110, 101, 101, 100, 115]⟩, 28⟩]) (F := (placeF 3 g o)) (sl := [3, 20, 25, 19, 24, 29, 30]) (bi := 34) (st := 35) (bs := 30) (c := W.heap.size) (zs := eZero) (T := 64) (EV := fun b => .agg ([.map none, .map (some (b 0)), .map none, .map (some (b 22)), .map (some (b 28))] : List Value).toArray) (CV := fun b => [.map none, .map (some (b 0)), .map none, .map (some (b 22)), .map (some (b 28))]) (by decide +kernel) (by kernel_rfl) ⟨by decide +kernel, by decide +kernel, by decide +kernel, by decide +kernel, by decide +kernel, by decide +kernel, by decide +kernel, by decide +kernel, fun s hs => Nat.lt_of_lt_of_eq ((show ∀ s ∈ [3, 20, 25, 19, 24, 29, 30], s < 31 from by decide +kernel) s hs) rfl, by decide +kernel⟩ (by kernel_rfl) (by decide +kernel) (by decide +kernel) (by decide +kernel) ?_ ?_ ?_ ?_ ?_ lawStr Tryz.underlying9 (Nat.le_refl _) hS0 hB ?_
 · intro m hm; simp only [List.mem_cons, List.not_mem_nil, or_false] at hm; rcases hm with rfl | rfl | rfl <;> exact ⟨_, _, rfl, rfl, rfl, rfl⟩
 · intro e he; simp only [List.mem_cons, List.not_mem_nil, or_false] at he; rcases he with rfl | rfl | rfl | rfl | rfl | rfl | rfl
   · exact ⟨_, _, _, ⟨0, 3, 21, 19⟩, by decide +kernel, rfl, rfl, rfl, rfl, rfl, Tryz.underlying59, by decide, rfl, by decide, by unfold Waits; kernel_rfl⟩
   · exact ⟨_, _, _, ⟨0, 3, 21, 19⟩, by decide +kernel, rfl, rfl, rfl, rfl, rfl, Tryz.underlying59, by decide, rfl, by decide, by unfold Waits; kernel_rfl⟩
   · exact ⟨_, _, _, ⟨0, 3, 21, 19⟩, by decide +kernel, rfl, rfl, rfl, rfl, rfl, Tryz.underlying59, by decide, rfl, by decide, by unfold Waits; kernel_rfl⟩
   · exact ⟨_, _, _, ⟨0, 3, 21, 19⟩, by decide +kernel, rfl, rfl, rfl, rfl, rfl, Tryz.underlying59, by decide, rfl, by decide, by unfold Waits; kernel_rfl⟩
   · exact ⟨_, _, _, ⟨0, 3, 21, 19⟩, by decide +kernel, rfl, rfl, rfl, rfl, rfl, Tryz.underlying59, by decide, rfl, by decide, by unfold Waits; kernel_rfl⟩
   · exact ⟨_, _, _, ⟨22, 20, 27, 24⟩, by decide +kernel, rfl, rfl, rfl, rfl, rfl, Tryz.underlying61, by decide, rfl, by decide, by unfold Waits; kernel_rfl⟩
   · exact ⟨_, _, _, ⟨28, 25, 33, 29⟩, by decide +kernel, rfl, rfl, rfl, rfl, rfl, Tryz.underlying62, by decide, rfl, by decide, by unfold Waits; kernel_rfl⟩
 · intro m hm; simp only [List.mem_cons, List.not_mem_nil, or_false] at hm; rcases hm with rfl | rfl | rfl <;> exact ⟨_, rfl, rfl, rfl, rfl, by unfold Waits; kernel_rfl, by decide +kernel⟩
 · refine ⟨_, rfl, rfl, ?_, fun a w b K hm hk => ?_⟩
   · intro m hm; simp only [List.mem_cons, List.not_mem_nil, or_false] at hm; rcases hm with rfl | rfl | rfl <;> (unfold Waits; kernel_rfl)
   · have h0 := hm ⟨0, 3, 21, 19⟩ (by decide +kernel)
     have h1 := hm ⟨22, 20, 27, 24⟩ (by decide +kernel)
     have h2 := hm ⟨28, 25, 33, 29⟩ (by decide +kernel)
     refine wp_buildv 64 #[(1, .tmp 19), (3, .tmp 24), (4, .tmp 29)] 30 rfl rfl _ (fun w => ?_) hk
     simp only [List.map_toArray, List.map_cons, List.map_nil, h0, h1, h2]
     exact techElementBuild _ _ _ w
 · refine ⟨_, rfl, rfl, by unfold Waits; kernel_rfl, fun a w b K hf hv hb hk => ?_⟩
   exact wp_store_row 64 (.tmp 2) (.tmp 30) rfl rfl W.heap.size ((hf.ev 2 (by decide)).trans rfl) Tryz.sizeOf64 _ hv rfl hb rfl (by intro v hv; simp only [List.mem_cons, List.not_mem_nil, or_false] at hv; rcases hv with rfl | rfl | rfl | rfl | rfl <;> rfl) hk
 · intro a w b D hf hL hZ hv hm
   obtain ⟨x0, y0, z0, k0⟩ := hm ⟨0, 3, 21, 19⟩ (by decide +kernel)
   obtain ⟨x1, y1, z1, k1⟩ := hm ⟨22, 20, 27, 24⟩ (by decide +kernel)
   obtain ⟨x2, y2, z2, k2⟩ := hm ⟨28, 25, 33, 29⟩ (by decide +kernel)
   rw [hf.lit]
   simp only [putsG, List.foldl, Act.put, List.setIfInBounds_toArray, List.set_cons_zero, List.set_cons_succ]
   show Exit.then _ _ Exit.normal _ _
   go_wp2_with fail
   refine bodyPost_ret (results_agg_one rfl rfl Tryz.isAgg64 Tryz.sizeOf64 hZ rfl) rfl ?_
   refine ⟨_, _, _, _, rfl, ⟨.inl ⟨_, _, rfl, z0, fun s hs => ?_⟩, .inr ⟨rfl, rfl⟩, .inl ⟨_, _, rfl, z1, fun s hs => ?_⟩, .inl ⟨_, _, rfl, z2, fun s hs => ?_⟩⟩, hL⟩
   · rw [names31] at hs
     simp only [List.mem_cons, List.not_mem_nil, or_false] at hs
     rcases hs with rfl | rfl | rfl | rfl | rfl
     · exact k0 ⟨4, 0, ⟨#[111, 114, 101]⟩, 6⟩ (by decide +kernel) rfl
     · exact k0 ⟨8, 0, ⟨#[119, 111, 111, 100]⟩, 9⟩ (by decide +kernel) rfl
     · exact k0 ⟨12, 0, ⟨#[116, 105, 109, 101]⟩, 12⟩ (by decide +kernel) rfl
     · exact k0 ⟨16, 0, ⟨#[115, 116, 97, 116]⟩, 15⟩ (by decide +kernel) rfl
     · exact k0 ⟨20, 0, ⟨#[97, 109, 111, 117, 110, 116]⟩, 18⟩ (by decide +kernel) rfl
   · rw [names33] at hs
     simp only [List.mem_cons, List.not_mem_nil, or_false] at hs
     rcases hs with rfl
     · exact k1 ⟨26, 22, ⟨#[117, 110, 105, 116]⟩, 23⟩ (by decide +kernel) rfl
   · rw [names34] at hs
     simp only [List.mem_cons, List.not_mem_nil, or_false] at hs
     rcases hs with rfl
     · exact k2 ⟨32, 28, ⟨#[110, 101, 101, 100, 115]⟩, 28⟩ (by decide +kernel) rfl
end
section
open Go.RowKit Go.Lib
theorem splitK_parts (c : UInt8) : ∀ (n : Nat) (l : List UInt8), l.length ≤ n → Lib.splitK [c] 0 (Lib.count l [c]) l = parts c l := by
 intro n
 induction n with
 | zero =>
  intro l h
  have : l = [] := List.eq_nil_of_length_eq_zero (by omega)
  subst this
  rw [Lib.count_miss (by simp [Lib.index])]
  rfl
 | succ n ih =>
  intro l h
  have hb := cut_byte c l
  unfold Lib.cut at hb
  rw [parts_cut]
  by_cases h1 : Lib.index l [c] = -1
  · rw [Lib.count_miss h1]
    rw [h1, if_neg (by decide)] at hb
    rw [← hb]
    rfl
  · have hg := Lib.index_ge l [c]
    obtain ⟨i, hi⟩ : ∃ i : Nat, Lib.index l [c] = i := ⟨(Lib.index l [c]).toNat, by omega⟩
    have hr := Lib.index_room l [c] (by omega)
    rw [Lib.count_hit (by simp) hi, Nat.add_comm]
    rw [hi, if_pos (by omega)] at hb
    rw [← hb, if_pos rfl]
    unfold Lib.splitK
    rw [hi, if_neg (by simp)]
    simp only [Int.toNat_natCast, List.length_cons, List.length_nil, Nat.add_zero, Nat.zero_add]
    rw [ih _ (by rw [List.length_drop]; simp only [List.length_cons, List.length_nil] at hr; omega)]
theorem split_parts (c : UInt8) (s : ByteArray) : Lib.splitB ⟨#[c]⟩ 0 (Lib.countB s ⟨#[c]⟩) s = (parts c s.data.toList).map toB := by
 have h := Lib.splitB_data ⟨#[c]⟩ 0 (Lib.countB s ⟨#[c]⟩) s
 rw [show Lib.splitK (ByteArray.mk #[c]).data.toList 0 (Lib.countB s ⟨#[c]⟩) s.data.toList = parts c s.data.toList from splitK_parts c _ _ (Nat.le_refl _)] at h
 rw [← h, List.map_map]
 conv => lhs; rw [← List.map_id (Lib.splitB _ _ _ s)]
 refine List.map_congr_left fun x _ => ?_
 show x = toB x.data.toList
 unfold toB
 rfl
theorem join_tail (l : List ByteArray) : ∀ a : ByteArray, joinC (a :: l) = a.toList ++ Lib.joinTail [44] (l.map (·.data.toList)) := by
 induction l with
 | nil => intro a; unfold joinC Lib.joinTail; simp
 | cons b l ih =>
  intro a
  rw [joinC, ih b, Lib.toList_data b]
  unfold Lib.joinTail
  simp
theorem join_lib (l : List ByteArray) : Lib.join (l.map (·.data.toList)) [44] = joinC l := by
 cases l with
 | nil => rfl
 | cons a l => rw [List.map_cons, Lib.join_cons, join_tail, Lib.toList_data]
end

end Go.Proofs.YtnjcdmjaecgblaaGreatDoor
