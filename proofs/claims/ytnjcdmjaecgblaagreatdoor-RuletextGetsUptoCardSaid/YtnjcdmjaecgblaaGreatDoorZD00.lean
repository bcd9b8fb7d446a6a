/-
  Rules, and the order in which names become available, as plain functions; Rules as text: what a field holds behind a change of it. No program is named here; Sizes of rules: what the laws of ruletext examine; What the reference of rules answers: names, elements, limits; What the laws of ruletext ask of the functions; A region that draws, by what is known of it: I (which operations are done, the frame, the world) is kept by every operation that may come up. No program is named here; From a walk to a row; Rules, unit types, weapons, technologies, slices of strings among a law's arguments, opened; Rules among a law's arguments, opened: their numbers, the capacities of their lists, their bulk; what is asked of a field; The laws of ruletext: names, the example.
-/
import Derived.Test.YtnjcdmjaecgblaaGreatDoorZA16
namespace Go.Proofs.YtnjcdmjaecgblaaGreatDoor
section
section
open Go.RowKit Go.Lib
theorem has_take {l : List ByteArray} {s : ByteArray} {i : Nat} (hi : i < l.length) (h : hasv (l.take i) s = false) (hn : ¬ l[i]'hi = s) : hasv (l.take (i + 1)) s = false := by
 rw [List.take_succ_eq_append_getElem hi]
 unfold hasv at h ⊢
 rw [List.any_append, h, Bool.false_or, List.any_cons, List.any_nil, Bool.or_false]
 exact decide_eq_false hn
end
end
section
open Go.RowKit Go.Lib
theorem type_of {k : Int} {f : ByteArray} (h : ¬ typev k f = 0) : f ∈ fieldsv k ∧ typev k f = sortv f := by
 unfold typev at h ⊢
 by_cases hh : hasv (fieldsv k) f = true
 · rw [if_pos hh]
   exact ⟨hasv_iff.1 hh, rfl⟩
 · rw [if_neg hh] at h
   exact absurd rfl h
end
section
open Go.RowKit Go.Lib
def smin (s : ByteArray) : Nat := min s.size 100000
def smS (l : List ByteArray) : Nat := (l.map smin).sum
def namesS (l : List ByteArray) : Nat := l.length + smS l
def sumU (u : U9) : Nat := namesS [u.nm, u.wpn] + namesS u.needs + namesS u.trains + namesS u.ress
def sumW (u : W9) : Nat := namesS [u.nm]
def sumT (u : T9) : Nat := namesS [u.nm, u.un] + namesS u.needs
def sumR (r : R9) : Nat := (r.us.map sumU).sum + (r.ws.map sumW).sum + (r.ts.map sumT).sum
def hugev (r : R9) : Bool := if 100 < r.us.length ∨ 100 < r.ws.length ∨ 100 < r.ts.length then true else decide ((20000 : Int) < wrap64 (sumR r : Nat))
theorem smS_app (l m : List ByteArray) : smS (l ++ m) = smS l + smS m := by unfold smS; rw [List.map_append, List.sum_append]
theorem smS_take {l : List ByteArray} {i : Nat} (h : i < l.length) : smS (l.take (i + 1)) = smS (l.take i) + smin (l[i]'h) := by
 rw [List.take_succ_eq_append_getElem h, smS_app]
 unfold smS
 simp
theorem wrap_nat9 {n : Nat} (h : n < 9223372036854775808) : wrap64 (n : Int) = n := by
 unfold wrap64
 omega
end
section
section
open Go.RowKit Go.Lib
theorem CellsAt.below {W w' : World} {g o : Nat} {v : Value} {vs : List Value} (h : CellsAt W g o (v :: vs)) (hb : Below W.heap.size W w') : CellsAt w' g o (v :: vs) := fun i x e => (hb.cell (p := ⟨g, o + i, none⟩) h.lt).trans (h i x e)
theorem UAt.below {W w' : World} {g o : Nat} {u : U9} (h : UAt W g o u) (hb : Below W.heap.size W w') : UAt w' g o u := by
 obtain ⟨sn, st, sr, h0, h1, h2, h3⟩ := h
 exact ⟨sn, st, sr, h0.below hb, h1.below hb, h2.below hb, h3.below hb⟩
theorem WAt.below {W w' : World} {g o : Nat} {u : W9} (h : WAt W g o u) (hb : Below W.heap.size W w') : WAt w' g o u := CellsAt.below h hb
theorem TAt.below {W w' : World} {g o : Nat} {u : T9} (h : TAt W g o u) (hb : Below W.heap.size W w') : TAt w' g o u := by
 obtain ⟨sn, h0, h1⟩ := h
 exact ⟨sn, h0.below hb, h1.below hb⟩
theorem SlAt.below_ {α : Type} {at_ : World → Nat → Nat → α → Prop} {k : Nat} {W w' : World} {v : Value} {l : List α} (h : SlAt at_ k W v l) (f : ∀ g o x, at_ W g o x → at_ w' g o x) : SlAt at_ k w' v l := by
 obtain ⟨p, c, rfl, hm, hc⟩ := h
 refine ⟨p, c, rfl, hm, fun h1 => ?_⟩
 obtain ⟨g, o, rfl, hi⟩ := hc h1
 exact ⟨g, o, rfl, fun i hi' => f _ _ _ (hi i hi')⟩
theorem RAt.below {W w' : World} {su sw st : Value} {r : R9} (h : RAt W su sw st r) (hb : Below W.heap.size W w') : RAt w' su sw st r :=
 ⟨h.u.below_ fun _ _ _ k => k.below hb, h.w.below_ fun _ _ _ k => WAt.below k hb, h.t.below_ fun _ _ _ k => k.below hb⟩
end
end
section
open Go.RowKit Go.Lib
theorem CapR.below {W w : World} {su sw st : Value} {r : R9} (h : CapR W su st) (hR : RAt W su sw st r) (hb : Below W.heap.size W w) : CapR w su st := by
 obtain ⟨p, c, rfl, hm, hat⟩ := hR.u
 obtain ⟨p2, c2, rfl, hm2, hat2⟩ := hR.t
 refine ⟨fun g o n k e j v hj hv => ?_, fun g o n k e j v hj hv => ?_⟩
 · injection e with e1 e2 e3
   subst e1 e2 e3
   have h1 : 1 ≤ r.us.length := by rcases Nat.eq_zero_or_pos r.us.length with q | q; · rw [q] at hj; simp at hj
                                   · exact q
   obtain ⟨g', o', e, hi⟩ := hat h1
   injection e with e
   injection e with e4 e5
   subst e4 e5
   have hg : g < W.heap.size := by
    obtain ⟨sn, st, sr, hc, -⟩ := hi 0 (by omega)
    exact World.block_lt_of_cell? W _ (hc 0 _ rfl)
   exact h.u g o _ _ rfl j v hj ((hb.cell (p := ⟨g, o + j, none⟩) hg).symm.trans hv)
 · injection e with e1 e2 e3
   subst e1 e2 e3
   have h1 : 1 ≤ r.ts.length := by rcases Nat.eq_zero_or_pos r.ts.length with q | q; · rw [q] at hj; simp at hj
                                   · exact q
   obtain ⟨g', o', e, hi⟩ := hat2 h1
   injection e with e
   injection e with e4 e5
   subst e4 e5
   have hg : g < W.heap.size := by
    obtain ⟨sn, hc, -⟩ := hi 0 (by omega)
    exact World.block_lt_of_cell? W _ (hc 0 _ rfl)
   exact h.t g o _ _ rfl j v hj ((hb.cell (p := ⟨g, o + j, none⟩) hg).symm.trans hv)
theorem RQ.below {W w : World} {su sw st : Value} {r : R9} (h : RQ W su sw st r) (hb : Below W.heap.size W w) : RQ w su sw st r := ⟨h.at_.below hb, h.cap.below h.at_ hb, h.ints, h.short⟩
end
section
open Go.RowKit Go.Lib
theorem ready_on {md : Region.Mode} {ops : Array Oper} {listed : Array Bool} {i : Nat} (j : Nat) (hi : i ∈ Region.ready md ops listed) (h : (ops[i]?.map fun o => o.after.any fun e => Region.binds md e && e.on == j) = some true) : listed.getD j false = true := by
 obtain ⟨_, o, ho, hd⟩ := mem_ready.1 hi
 rw [ho, Option.map_some, Option.some.injEq, Array.any_eq_true] at h
 obtain ⟨k, hk, he⟩ := h
 rw [Bool.and_eq_true, beq_iff_eq] at he
 rw [← he.2]
 exact hd _ (Array.getElem_mem hk) he.1
theorem ready_end {md : Region.Mode} {ops : Array Oper} {listed : Array Bool} (i : Nat) (hr : Region.ready md ops listed = []) (h : (ops[i]?.map fun o => o.after.all fun e => !Region.binds md e || listed.getD e.on false) = some true) : listed.getD i true = true := by
 cases hl : listed.getD i true with
 | true => rfl
 | false =>
  cases ho : ops[i]? with
  | none => rw [ho] at h; cases h
  | some o =>
   rw [ho, Option.map_some, Option.some.injEq, Array.all_eq_true_iff_forall_mem] at h
   have : i ∈ Region.ready md ops listed := mem_ready.2 ⟨hl, o, ho, fun e he hb => by
    have := h e he
    rw [hb, Bool.not_true, Bool.false_or] at this
    exact this⟩
   rw [hr] at this
   cases this
end
section
section
open Go.ChangeShapes Go.WideShapes Go.ChangeAt Go.RowKit
theorem wf_i64 {x : Int} (h : (Lit.int .i64 x).wf = true) : -9223372036854775808 ≤ x ∧ x ≤ 9223372036854775807 := by
 simp [Lit.wf, IntKind.min, IntKind.max, IntKind.bits, IntKind.signed] at h; omega
end
end
section
open Go.ChangeShapes Go.WideShapes Go.ChangeAt Go.RowKit Go.Joins Go.Deep
theorem cellI9 : Tryz.prog.cellsOf 3 = 1 := by kernel_rfl
theorem cellB9 : Tryz.prog.cellsOf 4 = 1 := by kernel_rfl
theorem cellsSs : Tryz.prog.cellsOf 23 = 1 := by kernel_rfl
theorem cells19 : Tryz.prog.cellsOf 53 = 19 := by kernel_rfl
theorem cells6 : Tryz.prog.cellsOf 51 = 6 := by kernel_rfl
theorem cells8 : Tryz.prog.cellsOf 56 = 8 := by kernel_rfl
theorem cellsR : Tryz.prog.cellsOf 31 = 3 := by kernel_rfl
theorem cellsUs : Tryz.prog.cellsOf 27 = 1 := by kernel_rfl
theorem cellsWs : Tryz.prog.cellsOf 28 = 1 := by kernel_rfl
theorem cellsTs : Tryz.prog.cellsOf 29 = 1 := by kernel_rfl
theorem add_0 (g o j : Nat) : (⟨g, o, none⟩ : Addr).add j = ⟨g, o + j, none⟩ := by unfold Addr.add; split <;> simp_all
section
variable {H : Type} {enc : TypeId × Value → H}
theorem str_cell {W : World} {base : Nat} {sp : Nat → Bool} {held : Bool} {m : Nat} {cs : List Value} {y : DataW H × List MemPlace} (h : DataW.trod enc Tryz.prog W base sp held m 9 cs = some y) : ∃ a, cs = [.string a] := by
 obtain ⟨a, e, _, _⟩ := DataW.trod_string Tryz.underlying9 h
 exact ⟨a, e⟩
theorem boo_cell {W : World} {base : Nat} {sp : Nat → Bool} {held : Bool} {m : Nat} {cs : List Value} {y : DataW H × List MemPlace} (h : DataW.trod enc Tryz.prog W base sp held m 4 cs = some y) : ∃ a, cs = [.bool a] := by
 obtain ⟨a, e, _⟩ := DataW.trod_bool Tryz.underlying4 h
 exact ⟨a, e⟩
theorem list_n19 {α : Type} (l : List α) (h : l.length = 19) : ∃ a0 a1 a2 a3 a4 a5 a6 a7 a8 a9 a10 a11 a12 a13 a14 a15 a16 a17 a18, l = [a0, a1, a2, a3, a4, a5, a6, a7, a8, a9, a10, a11, a12, a13, a14, a15, a16, a17, a18] := by
 match l, h with
 | [a0, a1, a2, a3, a4, a5, a6, a7, a8, a9, a10, a11, a12, a13, a14, a15, a16, a17, a18], _ => exact ⟨a0, a1, a2, a3, a4, a5, a6, a7, a8, a9, a10, a11, a12, a13, a14, a15, a16, a17, a18, rfl⟩
theorem list_n6 {α : Type} (l : List α) (h : l.length = 6) : ∃ a0 a1 a2 a3 a4 a5, l = [a0, a1, a2, a3, a4, a5] := by
 match l, h with
 | [a0, a1, a2, a3, a4, a5], _ => exact ⟨a0, a1, a2, a3, a4, a5, rfl⟩
theorem list_n8 {α : Type} (l : List α) (h : l.length = 8) : ∃ a0 a1 a2 a3 a4 a5 a6 a7, l = [a0, a1, a2, a3, a4, a5, a6, a7] := by
 match l, h with
 | [a0, a1, a2, a3, a4, a5, a6, a7], _ => exact ⟨a0, a1, a2, a3, a4, a5, a6, a7, rfl⟩
theorem list_n3 {α : Type} (l : List α) (h : l.length = 3) : ∃ a0 a1 a2, l = [a0, a1, a2] := by
 match l, h with
 | [a0, a1, a2], _ => exact ⟨a0, a1, a2, rfl⟩
end
end
section
open Go.ChangeShapes Go.WideShapes Go.ChangeAt Go.RowKit Go.Joins Go.Deep
theorem bulk_one {H : Type} (d : DataW H) : 1 ≤ Rows.uptoBulk d := by
 cases d with
 | lit l => cases l <;> simp [Rows.uptoBulk]
 | nil => simp [Rows.uptoBulk]
 | ptr d => simp [Rows.uptoBulk]
 | slice elems spare => simp [Rows.uptoBulk]
 | agg parts => simp [Rows.uptoBulk]
 | iface t d => simp [Rows.uptoBulk]
 | map entries => simp [Rows.uptoBulk]
 | held h => simp [Rows.uptoBulk]
theorem bulk_part {H : Type} {d : DataW H} {l : List (DataW H)} (h : d ∈ l) : Rows.uptoBulk d ≤ Rows.uptoBulkAll l := by
 induction l with
 | nil => cases h
 | cons x r ih =>
  simp only [Rows.uptoBulkAll]
  cases List.mem_cons.1 h with
  | inl e => subst e; omega
  | inr e => have := ih e; omega
theorem bulk_len {H : Type} (l : List (DataW H)) : l.length ≤ Rows.uptoBulkAll l := by
 induction l with
 | nil => simp [Rows.uptoBulkAll]
 | cons x l ih => have := bulk_one x; simp only [Rows.uptoBulkAll, List.length_cons]; omega
theorem bulk_agg {H : Type} {d : DataW H} {l : List (DataW H)} (h : d ∈ l) : Rows.uptoBulk d ≤ Rows.uptoBulk (.agg l) := by
 have := bulk_part h
 simp only [Rows.uptoBulk]
 omega
theorem bulk_elem {H : Type} {d : DataW H} {l m : List (DataW H)} (h : d ∈ l) : Rows.uptoBulk d ≤ Rows.uptoBulk (.slice l m) := by
 have := bulk_part h
 simp only [Rows.uptoBulk]
 omega
theorem bulk_slice {H : Type} (l m : List (DataW H)) : l.length ≤ Rows.uptoBulk (.slice l m) := by
 have := bulk_len l
 simp only [Rows.uptoBulk]
 omega
theorem capv_not {v : Value} (h : ∀ a n c, v ≠ .slice a n c) : CapV v := fun _a _n _c e => absurd e (h _ _ _)
section
variable {H : Type} {enc : TypeId × Value → H}
theorem num_cellU {W : World} {base : Nat} {sp : Nat → Bool} {held : Bool} {m : Nat} {cs : List Value} {y : DataW H × List MemPlace} (h : DataW.trod enc Tryz.prog W base sp held m 3 cs = some y) : ∃ a, cs = [.int .i64 a] ∧ int64v a := by
 obtain ⟨a, e, _, hw⟩ := DataW.trod_int Tryz.underlying3 h
 exact ⟨a, e, wf_i64 hw⟩
set_option maxRecDepth 100000 in
theorem strs_cellU {W : World} {base : Nat} {sp : Nat → Bool} {held : Bool} {m : Nat} {cs : List Value} {y : DataW H × List MemPlace} (h : DataW.trod enc Tryz.prog W base sp held m 23 cs = some y) : ∃ (s : Value) (l : List ByteArray), cs = [s] ∧ StrSl W s l ∧ CapV s ∧ l.length ≤ Rows.uptoBulk y.1 := by
 rcases open_strs Tryz.underlying23 Tryz.underlying9 cellS9 h with ⟨rfl, _⟩ | ⟨a, len, cap, m, S, rfl, _, hlc, hcm, hm, rfl, hx⟩
 · exact ⟨_, [], rfl, ⟨none, 0, rfl, Nat.zero_le _, fun h => by simp at h⟩, fun p n c e => by injection e with _ e1 e2; omega, Nat.zero_le _⟩
 · have hml : len ≤ m := by rw [hm]; split <;> omega
   refine ⟨_, (List.range len).map S, rfl, ⟨some a, cap, by simp, by simp; omega, fun h1 => ?_⟩, fun p n c e => by injection e with _ e1 e2; omega, ?_⟩
   · have h0 : 0 < len := by simp at h1; omega
     obtain ⟨g, o, sp'⟩ := a
     have hs : sp' = none := by simpa [Addr.add] using World.cell?_spot (hx 0 (by omega)).1
     subst hs
     refine ⟨g, o, rfl, fun i hi => ?_⟩
     have hi' : i < len := by simpa using hi
     have a0 := (hx i (by omega)).1
     rw [add_0] at a0
     simpa using a0
   · have := bulk_slice (H := H) ((List.range len).map fun i => .lit (.string (S i).data.toList)) ((List.range (m - len)).map fun j => .lit (.string (S (len + j)).data.toList))
     simpa using this
set_option maxRecDepth 100000 in
theorem unit_cellsU {W : World} {base : Nat} {sp : Nat → Bool} {held : Bool} {m : Nat} {cs : List Value} {y : DataW H × List MemPlace} (h : DataW.trod enc Tryz.prog W base sp held m 53 cs = some y) :
 ∃ x : U9, ∃ vs : List Value, cs = vs ∧ vs.length = 19 ∧ (∀ g o, CellsAt W g o vs → UAt W g o x) ∧ OkU x ∧ (∀ v ∈ vs, CapV v) ∧ x.needs.length ≤ Rows.uptoBulk y.1 ∧ x.trains.length ≤ Rows.uptoBulk y.1 ∧ x.ress.length ≤ Rows.uptoBulk y.1 := by
 obtain ⟨xs, n, _, rfl, hl, hlen, hf⟩ := DataW.trod_struct Tryz.underlying53 h
 rw [cells19] at hl
 obtain ⟨a0, a1, a2, a3, a4, a5, a6, a7, a8, a9, a10, a11, a12, a13, a14, a15, a16, a17, a18, rfl⟩ := list_n19 cs hl
 obtain ⟨y0, y1, y2, y3, y4, y5, y6, y7, y8, y9, y10, y11, y12, y13, y14, y15, y16, y17, y18, rfl⟩ := list_n19 xs hlen
 have h0 : DataW.trod enc Tryz.prog W base sp held n 9 [a0] = some y0 := by simpa [cellS9] using hf 0 _ rfl
 have h1 : DataW.trod enc Tryz.prog W base sp held n 4 [a1] = some y1 := by simpa [cellB9] using hf 1 _ rfl
 have h2 : DataW.trod enc Tryz.prog W base sp held n 4 [a2] = some y2 := by simpa [cellB9] using hf 2 _ rfl
 have h3 : DataW.trod enc Tryz.prog W base sp held n 3 [a3] = some y3 := by simpa [cellI9] using hf 3 _ rfl
 have h4 : DataW.trod enc Tryz.prog W base sp held n 3 [a4] = some y4 := by simpa [cellI9] using hf 4 _ rfl
 have h5 : DataW.trod enc Tryz.prog W base sp held n 3 [a5] = some y5 := by simpa [cellI9] using hf 5 _ rfl
 have h6 : DataW.trod enc Tryz.prog W base sp held n 3 [a6] = some y6 := by simpa [cellI9] using hf 6 _ rfl
 have h7 : DataW.trod enc Tryz.prog W base sp held n 3 [a7] = some y7 := by simpa [cellI9] using hf 7 _ rfl
 have h8 : DataW.trod enc Tryz.prog W base sp held n 3 [a8] = some y8 := by simpa [cellI9] using hf 8 _ rfl
 have h9 : DataW.trod enc Tryz.prog W base sp held n 3 [a9] = some y9 := by simpa [cellI9] using hf 9 _ rfl
 have h10 : DataW.trod enc Tryz.prog W base sp held n 3 [a10] = some y10 := by simpa [cellI9] using hf 10 _ rfl
 have h11 : DataW.trod enc Tryz.prog W base sp held n 3 [a11] = some y11 := by simpa [cellI9] using hf 11 _ rfl
 have h12 : DataW.trod enc Tryz.prog W base sp held n 9 [a12] = some y12 := by simpa [cellS9] using hf 12 _ rfl
 have h13 : DataW.trod enc Tryz.prog W base sp held n 3 [a13] = some y13 := by simpa [cellI9] using hf 13 _ rfl
 have h14 : DataW.trod enc Tryz.prog W base sp held n 3 [a14] = some y14 := by simpa [cellI9] using hf 14 _ rfl
 have h15 : DataW.trod enc Tryz.prog W base sp held n 3 [a15] = some y15 := by simpa [cellI9] using hf 15 _ rfl
 have h16 : DataW.trod enc Tryz.prog W base sp held n 23 [a16] = some y16 := by simpa [cellsSs] using hf 16 _ rfl
 have h17 : DataW.trod enc Tryz.prog W base sp held n 23 [a17] = some y17 := by simpa [cellsSs] using hf 17 _ rfl
 have h18 : DataW.trod enc Tryz.prog W base sp held n 23 [a18] = some y18 := by simpa [cellsSs] using hf 18 _ rfl
 obtain ⟨x0, e0⟩ := str_cell h0
 injection e0 with e0
 subst e0
 obtain ⟨x1, e1⟩ := boo_cell h1
 injection e1 with e1
 subst e1
 obtain ⟨x2, e2⟩ := boo_cell h2
 injection e2 with e2
 subst e2
 obtain ⟨x3, e3, w3⟩ := num_cellU h3
 injection e3 with e3
 subst e3
 obtain ⟨x4, e4, w4⟩ := num_cellU h4
 injection e4 with e4
 subst e4
 obtain ⟨x5, e5, w5⟩ := num_cellU h5
 injection e5 with e5
 subst e5
 obtain ⟨x6, e6, w6⟩ := num_cellU h6
 injection e6 with e6
 subst e6
 obtain ⟨x7, e7, w7⟩ := num_cellU h7
 injection e7 with e7
 subst e7
 obtain ⟨x8, e8, w8⟩ := num_cellU h8
 injection e8 with e8
 subst e8
 obtain ⟨x9, e9, w9⟩ := num_cellU h9
 injection e9 with e9
 subst e9
 obtain ⟨x10, e10, w10⟩ := num_cellU h10
 injection e10 with e10
 subst e10
 obtain ⟨x11, e11, w11⟩ := num_cellU h11
 injection e11 with e11
 subst e11
 obtain ⟨x12, e12⟩ := str_cell h12
 injection e12 with e12
 subst e12
 obtain ⟨x13, e13, w13⟩ := num_cellU h13
 injection e13 with e13
 subst e13
 obtain ⟨x14, e14, w14⟩ := num_cellU h14
 injection e14 with e14
 subst e14
 obtain ⟨x15, e15, w15⟩ := num_cellU h15
 injection e15 with e15
 subst e15
 obtain ⟨s16, x16, e16, q16, k16, b16⟩ := strs_cellU h16
 injection e16 with e16
 subst e16
 obtain ⟨s17, x17, e17, q17, k17, b17⟩ := strs_cellU h17
 injection e17 with e17
 subst e17
 obtain ⟨s18, x18, e18, q18, k18, b18⟩ := strs_cellU h18
 injection e18 with e18
 subst e18
 refine ⟨⟨x0, x1, x2, x3, x4, x5, x6, x7, x8, x9, x10, x11, x12, x13, x14, x15, x16, x17, x18⟩, _, rfl, rfl, fun g o hc => ⟨_, _, _, hc, q16, q17, q18⟩, ⟨w3, w4, w5, w6, w7, w8, w9, w10, w11, w13, w14, w15⟩, ?_, Nat.le_trans b16 (bulk_agg (List.mem_map.2 ⟨y16, by simp, rfl⟩)), Nat.le_trans b17 (bulk_agg (List.mem_map.2 ⟨y17, by simp, rfl⟩)), Nat.le_trans b18 (bulk_agg (List.mem_map.2 ⟨y18, by simp, rfl⟩))⟩
 intro v hv
 simp only [List.mem_cons, List.not_mem_nil, or_false] at hv
 rcases hv with rfl | rfl | rfl | rfl | rfl | rfl | rfl | rfl | rfl | rfl | rfl | rfl | rfl | rfl | rfl | rfl | rfl | rfl | rfl
 · exact capv_not (fun _ _ _ e => by cases e)
 · exact capv_not (fun _ _ _ e => by cases e)
 · exact capv_not (fun _ _ _ e => by cases e)
 · exact capv_not (fun _ _ _ e => by cases e)
 · exact capv_not (fun _ _ _ e => by cases e)
 · exact capv_not (fun _ _ _ e => by cases e)
 · exact capv_not (fun _ _ _ e => by cases e)
 · exact capv_not (fun _ _ _ e => by cases e)
 · exact capv_not (fun _ _ _ e => by cases e)
 · exact capv_not (fun _ _ _ e => by cases e)
 · exact capv_not (fun _ _ _ e => by cases e)
 · exact capv_not (fun _ _ _ e => by cases e)
 · exact capv_not (fun _ _ _ e => by cases e)
 · exact capv_not (fun _ _ _ e => by cases e)
 · exact capv_not (fun _ _ _ e => by cases e)
 · exact capv_not (fun _ _ _ e => by cases e)
 · exact k16
 · exact k17
 · exact k18
set_option maxRecDepth 100000 in
theorem weap_cellsU {W : World} {base : Nat} {sp : Nat → Bool} {held : Bool} {m : Nat} {cs : List Value} {y : DataW H × List MemPlace} (h : DataW.trod enc Tryz.prog W base sp held m 51 cs = some y) :
 ∃ x : W9, ∃ vs : List Value, cs = vs ∧ vs.length = 6 ∧ (∀ g o, CellsAt W g o vs → WAt W g o x) ∧ OkW x ∧ (∀ v ∈ vs, CapV v) := by
 obtain ⟨xs, n, _, rfl, hl, hlen, hf⟩ := DataW.trod_struct Tryz.underlying51 h
 rw [cells6] at hl
 obtain ⟨a0, a1, a2, a3, a4, a5, rfl⟩ := list_n6 cs hl
 obtain ⟨y0, y1, y2, y3, y4, y5, rfl⟩ := list_n6 xs hlen
 have h0 : DataW.trod enc Tryz.prog W base sp held n 9 [a0] = some y0 := by simpa [cellS9] using hf 0 _ rfl
 have h1 : DataW.trod enc Tryz.prog W base sp held n 3 [a1] = some y1 := by simpa [cellI9] using hf 1 _ rfl
 have h2 : DataW.trod enc Tryz.prog W base sp held n 3 [a2] = some y2 := by simpa [cellI9] using hf 2 _ rfl
 have h3 : DataW.trod enc Tryz.prog W base sp held n 3 [a3] = some y3 := by simpa [cellI9] using hf 3 _ rfl
 have h4 : DataW.trod enc Tryz.prog W base sp held n 3 [a4] = some y4 := by simpa [cellI9] using hf 4 _ rfl
 have h5 : DataW.trod enc Tryz.prog W base sp held n 3 [a5] = some y5 := by simpa [cellI9] using hf 5 _ rfl
 obtain ⟨x0, e0⟩ := str_cell h0
 injection e0 with e0
 subst e0
 obtain ⟨x1, e1, w1⟩ := num_cellU h1
 injection e1 with e1
 subst e1
 obtain ⟨x2, e2, w2⟩ := num_cellU h2
 injection e2 with e2
 subst e2
 obtain ⟨x3, e3, w3⟩ := num_cellU h3
 injection e3 with e3
 subst e3
 obtain ⟨x4, e4, w4⟩ := num_cellU h4
 injection e4 with e4
 subst e4
 obtain ⟨x5, e5, w5⟩ := num_cellU h5
 injection e5 with e5
 subst e5
 refine ⟨⟨x0, x1, x2, x3, x4, x5⟩, _, rfl, rfl, fun g o hc => hc, ⟨w1, w2, w3, w4, w5⟩, ?_⟩
 intro v hv
 simp only [List.mem_cons, List.not_mem_nil, or_false] at hv
 rcases hv with rfl | rfl | rfl | rfl | rfl | rfl
 · exact capv_not (fun _ _ _ e => by cases e)
 · exact capv_not (fun _ _ _ e => by cases e)
 · exact capv_not (fun _ _ _ e => by cases e)
 · exact capv_not (fun _ _ _ e => by cases e)
 · exact capv_not (fun _ _ _ e => by cases e)
 · exact capv_not (fun _ _ _ e => by cases e)
set_option maxRecDepth 100000 in
theorem tech_cellsU {W : World} {base : Nat} {sp : Nat → Bool} {held : Bool} {m : Nat} {cs : List Value} {y : DataW H × List MemPlace} (h : DataW.trod enc Tryz.prog W base sp held m 56 cs = some y) :
 ∃ x : T9, ∃ vs : List Value, cs = vs ∧ vs.length = 8 ∧ (∀ g o, CellsAt W g o vs → TAt W g o x) ∧ OkT x ∧ (∀ v ∈ vs, CapV v) ∧ x.needs.length ≤ Rows.uptoBulk y.1 := by
 obtain ⟨xs, n, _, rfl, hl, hlen, hf⟩ := DataW.trod_struct Tryz.underlying56 h
 rw [cells8] at hl
 obtain ⟨a0, a1, a2, a3, a4, a5, a6, a7, rfl⟩ := list_n8 cs hl
 obtain ⟨y0, y1, y2, y3, y4, y5, y6, y7, rfl⟩ := list_n8 xs hlen
 have h0 : DataW.trod enc Tryz.prog W base sp held n 9 [a0] = some y0 := by simpa [cellS9] using hf 0 _ rfl
 have h1 : DataW.trod enc Tryz.prog W base sp held n 23 [a1] = some y1 := by simpa [cellsSs] using hf 1 _ rfl
 have h2 : DataW.trod enc Tryz.prog W base sp held n 3 [a2] = some y2 := by simpa [cellI9] using hf 2 _ rfl
 have h3 : DataW.trod enc Tryz.prog W base sp held n 3 [a3] = some y3 := by simpa [cellI9] using hf 3 _ rfl
 have h4 : DataW.trod enc Tryz.prog W base sp held n 3 [a4] = some y4 := by simpa [cellI9] using hf 4 _ rfl
 have h5 : DataW.trod enc Tryz.prog W base sp held n 9 [a5] = some y5 := by simpa [cellS9] using hf 5 _ rfl
 have h6 : DataW.trod enc Tryz.prog W base sp held n 3 [a6] = some y6 := by simpa [cellI9] using hf 6 _ rfl
 have h7 : DataW.trod enc Tryz.prog W base sp held n 3 [a7] = some y7 := by simpa [cellI9] using hf 7 _ rfl
 obtain ⟨x0, e0⟩ := str_cell h0
 injection e0 with e0
 subst e0
 obtain ⟨s1, x1, e1, q1, k1, b1⟩ := strs_cellU h1
 injection e1 with e1
 subst e1
 obtain ⟨x2, e2, w2⟩ := num_cellU h2
 injection e2 with e2
 subst e2
 obtain ⟨x3, e3, w3⟩ := num_cellU h3
 injection e3 with e3
 subst e3
 obtain ⟨x4, e4, w4⟩ := num_cellU h4
 injection e4 with e4
 subst e4
 obtain ⟨x5, e5⟩ := str_cell h5
 injection e5 with e5
 subst e5
 obtain ⟨x6, e6, w6⟩ := num_cellU h6
 injection e6 with e6
 subst e6
 obtain ⟨x7, e7, w7⟩ := num_cellU h7
 injection e7 with e7
 subst e7
 refine ⟨⟨x0, x1, x2, x3, x4, x5, x6, x7⟩, _, rfl, rfl, fun g o hc => ⟨_, hc, q1⟩, ⟨w2, w3, w4, w6, w7⟩, ?_, Nat.le_trans b1 (bulk_agg (List.mem_map.2 ⟨y1, by simp, rfl⟩))⟩
 intro v hv
 simp only [List.mem_cons, List.not_mem_nil, or_false] at hv
 rcases hv with rfl | rfl | rfl | rfl | rfl | rfl | rfl | rfl
 · exact capv_not (fun _ _ _ e => by cases e)
 · exact k1
 · exact capv_not (fun _ _ _ e => by cases e)
 · exact capv_not (fun _ _ _ e => by cases e)
 · exact capv_not (fun _ _ _ e => by cases e)
 · exact capv_not (fun _ _ _ e => by cases e)
 · exact capv_not (fun _ _ _ e => by cases e)
 · exact capv_not (fun _ _ _ e => by cases e)
set_option maxRecDepth 100000 in
theorem units_rowU {W : World} {base : Nat} {sp : Nat → Bool} {held : Bool} {m : Nat} {cs : List Value} {y : DataW H × List MemPlace} (h : DataW.trod enc Tryz.prog W base sp held m 27 cs = some y) :
 ∃ (s : Value) (l : List U9), cs = [s] ∧ SlAt UAt 19 W s l ∧ (∀ g o n c, s = .slice (some ⟨g, o, none⟩) n c → ∀ j v, j < n * 19 → W.cell? ⟨g, o + j, none⟩ = some v → CapV v) ∧ ∀ x ∈ l, OkU x ∧ x.needs.length ≤ Rows.uptoBulk y.1 ∧ x.trains.length ≤ Rows.uptoBulk y.1 ∧ x.ress.length ≤ Rows.uptoBulk y.1 := by
 rcases open_slice Tryz.underlying27 h with ⟨rfl, _⟩ | ⟨a, len, cap, m, n, D, Pl, rfl, _, hlc, hcm, hm, rfl, hx⟩
 · exact ⟨_, [], rfl, ⟨none, 0, rfl, Nat.zero_le _, fun h => by simp at h⟩, fun g o n c e => (by injection e with e; cases e), fun x hx => absurd hx List.not_mem_nil⟩
 · rw [cells19] at hx
   have hml : len ≤ m := by rw [hm]; split <;> omega
   haveI : Inhabited U9 := ⟨U9.zero⟩
   obtain ⟨V, hV⟩ := choose_lt (α := U9) (n := len) (p := fun i c => (∃ vs : List Value, vs.length = 19 ∧ (∀ j v, vs[j]? = some v → W.cell? (a.add (i * 19 + j)) = some v) ∧ (∀ g o, CellsAt W g o vs → UAt W g o c) ∧ ∀ v ∈ vs, CapV v) ∧ OkU c ∧ c.needs.length ≤ Rows.uptoBulk (D i) ∧ c.trains.length ≤ Rows.uptoBulk (D i) ∧ c.ress.length ≤ Rows.uptoBulk (D i)) (fun i hi => by
    obtain ⟨cs', h1, h2⟩ := hx i (by omega)
    obtain ⟨c, vs, rfl, hvl, hk, k0, hcv, k1, k2, k3⟩ := unit_cellsU h2
    obtain ⟨_, _, hg⟩ := World.cells?_some h1
    refine ⟨c, ⟨cs', hvl, fun j v hj => ?_, hk, hcv⟩, k0, k1, k2, k3⟩
    have hjl : j < 19 := by rw [← hvl]; exact (List.getElem?_eq_some_iff.1 hj).1
    have g0 := hg j hjl
    rw [add_add] at g0
    exact g0.trans hj)
   refine ⟨_, (List.range len).map V, rfl, ⟨some a, cap, by simp, by simp; omega, fun h1 => ?_⟩, fun g o n c e j v hj hv => ?_, fun x hx => ?_⟩
   · have h0 : 0 < len := by simp at h1; omega
     obtain ⟨g, o, sp'⟩ := a
     have hs : sp' = none := by
      obtain ⟨⟨vs, hvl, hc, -⟩, -⟩ := hV 0 h0
      obtain ⟨v, hv⟩ : ∃ v, vs[0]? = some v := ⟨vs[0]'(by omega), List.getElem?_eq_getElem _⟩
      simpa [Addr.add] using World.cell?_spot (hc 0 v hv)
     subst hs
     refine ⟨g, o, rfl, fun i hi => ?_⟩
     have hi' : i < len := by simpa using hi
     obtain ⟨⟨vs, -, hc, hk, -⟩, -⟩ := hV i hi'
     simp only [List.getElem_map, List.getElem_range]
     refine hk _ _ fun j v hj => ?_
     have a0 := hc j v hj
     rw [add_0] at a0
     rw [Nat.add_assoc]
     exact a0
   · injection e with e1 e2 e3
     injection e1 with e1
     subst e1 e2 e3
     have hd : j / 19 < len := Nat.div_lt_of_lt_mul (by rw [Nat.mul_comm]; exact hj)
     have hmo : j % 19 < 19 := Nat.mod_lt _ (by decide)
     obtain ⟨⟨vs, hvl, hc, -, hcv⟩, -⟩ := hV (j / 19) hd
     have a0 := hc (j % 19) (vs[j % 19]'(by omega)) (List.getElem?_eq_getElem _)
     rw [add_0, show j / 19 * 19 + j % 19 = j by rw [Nat.mul_comm]; exact Nat.div_add_mod j 19, hv] at a0
     injection a0 with a0
     subst a0
     exact hcv _ (List.getElem_mem _)
   · obtain ⟨i, hi, rfl⟩ := List.mem_map.1 hx
     have hi' := List.mem_range.1 hi
     obtain ⟨-, ⟨k0, k1, k2, k3⟩⟩ := hV i hi'
     have hb := bulk_elem (m := (List.range (m - len)).map fun j => D (len + j)) (List.mem_map.2 ⟨i, hi, rfl⟩ : D i ∈ (List.range len).map D)
     exact ⟨k0, Nat.le_trans k1 hb, Nat.le_trans k2 hb, Nat.le_trans k3 hb⟩
set_option maxRecDepth 100000 in
theorem weaps_rowU {W : World} {base : Nat} {sp : Nat → Bool} {held : Bool} {m : Nat} {cs : List Value} {y : DataW H × List MemPlace} (h : DataW.trod enc Tryz.prog W base sp held m 28 cs = some y) :
 ∃ (s : Value) (l : List W9), cs = [s] ∧ SlAt WAt 6 W s l ∧ (∀ g o n c, s = .slice (some ⟨g, o, none⟩) n c → ∀ j v, j < n * 6 → W.cell? ⟨g, o + j, none⟩ = some v → CapV v) ∧ ∀ x ∈ l, OkW x := by
 rcases open_slice Tryz.underlying28 h with ⟨rfl, _⟩ | ⟨a, len, cap, m, n, D, Pl, rfl, _, hlc, hcm, hm, rfl, hx⟩
 · exact ⟨_, [], rfl, ⟨none, 0, rfl, Nat.zero_le _, fun h => by simp at h⟩, fun g o n c e => (by injection e with e; cases e), fun x hx => absurd hx List.not_mem_nil⟩
 · rw [cells6] at hx
   have hml : len ≤ m := by rw [hm]; split <;> omega
   haveI : Inhabited W9 := ⟨W9.zero⟩
   obtain ⟨V, hV⟩ := choose_lt (α := W9) (n := len) (p := fun i c => (∃ vs : List Value, vs.length = 6 ∧ (∀ j v, vs[j]? = some v → W.cell? (a.add (i * 6 + j)) = some v) ∧ (∀ g o, CellsAt W g o vs → WAt W g o c) ∧ ∀ v ∈ vs, CapV v) ∧ OkW c) (fun i hi => by
    obtain ⟨cs', h1, h2⟩ := hx i (by omega)
    obtain ⟨c, vs, rfl, hvl, hk, k0, hcv⟩ := weap_cellsU h2
    obtain ⟨_, _, hg⟩ := World.cells?_some h1
    refine ⟨c, ⟨cs', hvl, fun j v hj => ?_, hk, hcv⟩, k0⟩
    have hjl : j < 6 := by rw [← hvl]; exact (List.getElem?_eq_some_iff.1 hj).1
    have g0 := hg j hjl
    rw [add_add] at g0
    exact g0.trans hj)
   refine ⟨_, (List.range len).map V, rfl, ⟨some a, cap, by simp, by simp; omega, fun h1 => ?_⟩, fun g o n c e j v hj hv => ?_, fun x hx => ?_⟩
   · have h0 : 0 < len := by simp at h1; omega
     obtain ⟨g, o, sp'⟩ := a
     have hs : sp' = none := by
      obtain ⟨⟨vs, hvl, hc, -⟩, -⟩ := hV 0 h0
      obtain ⟨v, hv⟩ : ∃ v, vs[0]? = some v := ⟨vs[0]'(by omega), List.getElem?_eq_getElem _⟩
      simpa [Addr.add] using World.cell?_spot (hc 0 v hv)
     subst hs
     refine ⟨g, o, rfl, fun i hi => ?_⟩
     have hi' : i < len := by simpa using hi
     obtain ⟨⟨vs, -, hc, hk, -⟩, -⟩ := hV i hi'
     simp only [List.getElem_map, List.getElem_range]
     refine hk _ _ fun j v hj => ?_
     have a0 := hc j v hj
     rw [add_0] at a0
     rw [Nat.add_assoc]
     exact a0
   · injection e with e1 e2 e3
     injection e1 with e1
     subst e1 e2 e3
     have hd : j / 6 < len := Nat.div_lt_of_lt_mul (by rw [Nat.mul_comm]; exact hj)
     have hmo : j % 6 < 6 := Nat.mod_lt _ (by decide)
     obtain ⟨⟨vs, hvl, hc, -, hcv⟩, -⟩ := hV (j / 6) hd
     have a0 := hc (j % 6) (vs[j % 6]'(by omega)) (List.getElem?_eq_getElem _)
     rw [add_0, show j / 6 * 6 + j % 6 = j by rw [Nat.mul_comm]; exact Nat.div_add_mod j 6, hv] at a0
     injection a0 with a0
     subst a0
     exact hcv _ (List.getElem_mem _)
   · obtain ⟨i, hi, rfl⟩ := List.mem_map.1 hx
     have hi' := List.mem_range.1 hi
     obtain ⟨-, k0⟩ := hV i hi'
     exact k0
set_option maxRecDepth 100000 in
theorem techs_rowU {W : World} {base : Nat} {sp : Nat → Bool} {held : Bool} {m : Nat} {cs : List Value} {y : DataW H × List MemPlace} (h : DataW.trod enc Tryz.prog W base sp held m 29 cs = some y) :
 ∃ (s : Value) (l : List T9), cs = [s] ∧ SlAt TAt 8 W s l ∧ (∀ g o n c, s = .slice (some ⟨g, o, none⟩) n c → ∀ j v, j < n * 8 → W.cell? ⟨g, o + j, none⟩ = some v → CapV v) ∧ ∀ x ∈ l, OkT x ∧ x.needs.length ≤ Rows.uptoBulk y.1 := by
 rcases open_slice Tryz.underlying29 h with ⟨rfl, _⟩ | ⟨a, len, cap, m, n, D, Pl, rfl, _, hlc, hcm, hm, rfl, hx⟩
 · exact ⟨_, [], rfl, ⟨none, 0, rfl, Nat.zero_le _, fun h => by simp at h⟩, fun g o n c e => (by injection e with e; cases e), fun x hx => absurd hx List.not_mem_nil⟩
 · rw [cells8] at hx
   have hml : len ≤ m := by rw [hm]; split <;> omega
   haveI : Inhabited T9 := ⟨T9.zero⟩
   obtain ⟨V, hV⟩ := choose_lt (α := T9) (n := len) (p := fun i c => (∃ vs : List Value, vs.length = 8 ∧ (∀ j v, vs[j]? = some v → W.cell? (a.add (i * 8 + j)) = some v) ∧ (∀ g o, CellsAt W g o vs → TAt W g o c) ∧ ∀ v ∈ vs, CapV v) ∧ OkT c ∧ c.needs.length ≤ Rows.uptoBulk (D i)) (fun i hi => by
    obtain ⟨cs', h1, h2⟩ := hx i (by omega)
    obtain ⟨c, vs, rfl, hvl, hk, k0, hcv, k1⟩ := tech_cellsU h2
    obtain ⟨_, _, hg⟩ := World.cells?_some h1
    refine ⟨c, ⟨cs', hvl, fun j v hj => ?_, hk, hcv⟩, k0, k1⟩
    have hjl : j < 8 := by rw [← hvl]; exact (List.getElem?_eq_some_iff.1 hj).1
    have g0 := hg j hjl
    rw [add_add] at g0
    exact g0.trans hj)
   refine ⟨_, (List.range len).map V, rfl, ⟨some a, cap, by simp, by simp; omega, fun h1 => ?_⟩, fun g o n c e j v hj hv => ?_, fun x hx => ?_⟩
   · have h0 : 0 < len := by simp at h1; omega
     obtain ⟨g, o, sp'⟩ := a
     have hs : sp' = none := by
      obtain ⟨⟨vs, hvl, hc, -⟩, -⟩ := hV 0 h0
      obtain ⟨v, hv⟩ : ∃ v, vs[0]? = some v := ⟨vs[0]'(by omega), List.getElem?_eq_getElem _⟩
      simpa [Addr.add] using World.cell?_spot (hc 0 v hv)
     subst hs
     refine ⟨g, o, rfl, fun i hi => ?_⟩
     have hi' : i < len := by simpa using hi
     obtain ⟨⟨vs, -, hc, hk, -⟩, -⟩ := hV i hi'
     simp only [List.getElem_map, List.getElem_range]
     refine hk _ _ fun j v hj => ?_
     have a0 := hc j v hj
     rw [add_0] at a0
     rw [Nat.add_assoc]
     exact a0
   · injection e with e1 e2 e3
     injection e1 with e1
     subst e1 e2 e3
     have hd : j / 8 < len := Nat.div_lt_of_lt_mul (by rw [Nat.mul_comm]; exact hj)
     have hmo : j % 8 < 8 := Nat.mod_lt _ (by decide)
     obtain ⟨⟨vs, hvl, hc, -, hcv⟩, -⟩ := hV (j / 8) hd
     have a0 := hc (j % 8) (vs[j % 8]'(by omega)) (List.getElem?_eq_getElem _)
     rw [add_0, show j / 8 * 8 + j % 8 = j by rw [Nat.mul_comm]; exact Nat.div_add_mod j 8, hv] at a0
     injection a0 with a0
     subst a0
     exact hcv _ (List.getElem_mem _)
   · obtain ⟨i, hi, rfl⟩ := List.mem_map.1 hx
     have hi' := List.mem_range.1 hi
     obtain ⟨-, ⟨k0, k1⟩⟩ := hV i hi'
     have hb := bulk_elem (m := (List.range (m - len)).map fun j => D (len + j)) (List.mem_map.2 ⟨i, hi, rfl⟩ : D i ∈ (List.range len).map D)
     exact ⟨k0, Nat.le_trans k1 hb⟩
set_option maxRecDepth 100000 in
theorem open_rulesU {W : World} {r : Reach} {b0 base : Nat} {sp : Nat → Bool} {held : Bool} {v : Value} {d : DataW H} {p : List MemPlace} (hv : Value.okWide Tryz.prog W r b0 31 v) (h : DataW.Trod enc Tryz.prog W base sp held 31 v d p) :
 ∃ (x : R9) (su sw st : Value), v = .agg #[su, sw, st] ∧ RAt W su sw st x ∧ CapR W su st ∧ OkR x ∧ FewL (Rows.uptoBulk d) x := by
 obtain ⟨cs, rfl, hl0⟩ := okWide_struct Tryz.underlying31 hv
 have hl : cs.toList.length = 3 := by rw [← cellsR]; simpa using hl0
 obtain ⟨u, x, y, e⟩ := list_n3 cs.toList hl
 obtain rfl : cs = #[u, x, y] := by rw [← Array.toArray_toList (xs := cs), e]
 obtain ⟨fuel, hf⟩ := h
 obtain ⟨y0, y1, y2, n, hd, _, h0, h1, h2⟩ := trod_struct3 Tryz.underlying31 hf
 have h0' : DataW.trod enc Tryz.prog W base sp held n 27 [u] = some y0 := by simpa [cellsUs, Value.cells] using h0
 have h1' : DataW.trod enc Tryz.prog W base sp held n 28 [x] = some y1 := by simpa [cellsWs, Value.cells] using h1
 have h2' : DataW.trod enc Tryz.prog W base sp held n 29 [y] = some y2 := by simpa [cellsTs, Value.cells] using h2
 obtain ⟨su, us, e0, hu, cu, bu⟩ := units_rowU h0'
 obtain ⟨sw, ws, e1, hw, -, bw⟩ := weaps_rowU h1'
 obtain ⟨st, ts, e2, ht, ct, bt⟩ := techs_rowU h2'
 injection e0 with e0
 injection e1 with e1
 injection e2 with e2
 subst e0 e1 e2
 have hd' : d = .agg [y0.1, y1.1, y2.1] := congrArg Prod.fst hd
 have k0 : Rows.uptoBulk y0.1 ≤ Rows.uptoBulk d := by rw [hd']; exact bulk_agg (by simp)
 have k2 : Rows.uptoBulk y2.1 ≤ Rows.uptoBulk d := by rw [hd']; exact bulk_agg (by simp)
 exact ⟨⟨us, ws, ts⟩, _, _, _, rfl, ⟨hu, hw, ht⟩, ⟨cu, ct⟩, ⟨fun x hx => (bu x hx).1, bw, fun x hx => (bt x hx).1⟩, fun x hx => ⟨Nat.le_trans (bu x hx).2.1 k0, Nat.le_trans (bu x hx).2.2.1 k0, Nat.le_trans (bu x hx).2.2.2 k0⟩, fun x hx => Nat.le_trans (bt x hx).2 k2⟩
end
end
section
open Go.RowKit Go.Lib
theorem wrap_wrapL (a b : Int) : wrap64 (wrap64 a + b) = wrap64 (a + b) := by unfold wrap64; omega
theorem wrap_wrap2 (a b : Int) : wrap64 (wrap64 a + wrap64 b) = wrap64 (a + b) := by unfold wrap64; omega
set_option maxHeartbeats 8000000 in
set_option maxRecDepth 100000 in
theorem lnames_b (sl : Value) (l : List ByteArray) (n : Int) (W : World) (hS : StrSl W sl l) (e : Hid (n = wrap64 (namesS l : Nat))) :
 Calls Tryz.prog 25 #[sl] W fun e w' => e = .returned (.int .i64 n) ∧ Below W.heap.size W w' := by
 obtain ⟨p, c, rfl, hm, hat⟩ := hS
 unfold maxLen at hm
 go_enter Tryz.func25, Tryz.ntmps25
 go_wp2_with fail
 go_loop [3, 4] (fun v3 v4 => ∃ (i : Nat) (m : Int), v3 = .int .i64 m ∧ v4 = .int .i64 i ∧ i ≤ l.length ∧ Hid (m = wrap64 ((l.length + smS (l.take i) : Nat) : Int))) (fun _ v4 => l.length - (RowKit.intOf v4).toNat)
 case atStart => exact ⟨0, _, rfl, rfl, Nat.zero_le _, hid (by rw [wrap_nat9 (by simp [smS]; omega)]; simp [smS])⟩
 case round =>
  obtain ⟨i, m, rfl, rfl, hi, hm9⟩ := hrel
  by_cases hlt : i < l.length
  · obtain ⟨g, o, rfl, hx⟩ := hat (by omega)
    have hc := hx i hlt
    have d0 : (0 : Int) ≤ i := by omega
    have d1 : (i : Int) < l.length := by omega
    have hst := hid (smS_take hlt)
    clear hx hat e
    go_wp2_with fail
    go_round
    case rel => exact ⟨i + 1, _, rfl, by go_num, by omega, hid (by rw [hm9.out, hst.out, wrap_wrapL]; congr 1; unfold smin; omega)⟩
    case measure => simp [RowKit.intOf]; omega
  · obtain rfl : i = l.length := by omega
    have d1 : ¬ ((l.length : Nat) : Int) < l.length := by omega
    have hn : n = m := by rw [e.out, hm9.out, List.take_length]; rfl
    subst hn
    go_wp2_with fail
    go_ret
    exact ⟨rfl, Below.refl _ _⟩
end

end Go.Proofs.YtnjcdmjaecgblaaGreatDoor
