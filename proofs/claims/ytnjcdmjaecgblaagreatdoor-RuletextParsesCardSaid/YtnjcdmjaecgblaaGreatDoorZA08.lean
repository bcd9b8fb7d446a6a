/-
  ruletext as landed at a382b96: the text of a field of an element; ruletext as landed at a382b96: a field of an element read; ruletext as landed at a382b96: the first element with a name; Get.
-/
import Derived.Test.YtnjcdmjaecgblaaGreatDoorZA07
namespace Go.Proofs.YtnjcdmjaecgblaaGreatDoor
section
open Go.RowKit Go.Lib
theorem field_size {k : Int} {f : ByteArray} (hf : f ∈ fieldsv k) : f.size ≤ maxLen := by
 have h := (fields_short hf).1
 rw [Lib.toList_data, rt_size] at h
 unfold maxLen
 omega
theorem sort_kinds (f : ByteArray) : sortv f = 1 ∨ sortv f = 2 ∨ sortv f = 3 ∨ sortv f = 4 := by
 unfold sortv
 split
 · exact .inr (.inl rfl)
 · split
   · exact .inr (.inr (.inl rfl))
   · split
     · exact .inr (.inr (.inr rfl))
     · exact .inl rfl
theorem sort_look {w : World} {b : Nat} {k : Int} {f : ByteArray} (h : MapS Tryz.prog 9 w b sortsL) (hf : f ∈ fieldsv k) :
 (Instr.lookup 58 (.map (some b)) (.string f) false).run Tryz.prog w = .ok (.int .i64 (sortv f - 1)) w := by
 have := h.look lawStr Tryz.underlying9 Tryz.underlying58 (Tryz.zeroValue3 w) f (field_size hf)
 rw [look_sorts] at this
 exact this
theorem place_look {w : World} {m : Value} {s k : Int} {g o : Nat} {f : ByteArray} {t e : TypeId} (h : HoldS Tryz.prog 9 w m (sortL s k) (placeF k g o)) (hf : f ∈ fieldsv k) (hs : sortv f = s) (ht : Tryz.prog.underlying t = some (.map 9 e)) (hz : (zeroValue e).run Tryz.prog w = .ok (.pointer none) w) :
 ∃ b, m = .map (some b) ∧ (Instr.lookup t (.map (some b)) (.string f) false).run Tryz.prog w = .ok (.pointer (some ⟨g, o + offv k f, none⟩)) w := by
 have hin : f ∈ sortL s k := List.mem_filter.2 ⟨hf, decide_eq_true hs⟩
 rcases h with ⟨b, D, rfl, q, hD⟩ | ⟨e, -⟩
 · refine ⟨b, rfl, ?_⟩
   have := q.look lawStr Tryz.underlying9 ht hz f (field_size hf)
   rw [look_map (placeF k g o) f D _ (.inl (hD f hin))] at this
   exact this
 · rw [e] at hin
   cases hin
theorem text_1 (v : V10) : textL 1 v = decv v.n := rfl
theorem text_2 (v : V10) : textL 2 v = if v.b = true then yesB else noB := rfl
theorem text_3 (v : V10) : textL 3 v = if v.s = ⟨#[]⟩ then dashB else v.s.toList := rfl
theorem text_4 (v : V10) : textL 4 v = if v.l = [] then dashB else joinC v.l := rfl
set_option maxHeartbeats 8000000 in
set_option maxRecDepth 100000 in
theorem dtext_b (k : Int) (g o : Nat) (e : Value) (f : ByteArray) (x : Value) (v : V10) (W : World) (hE : EnvR W) (hel : Elem W e k g o) (hf : f ∈ fieldsv k) (hx : W.cell? ⟨g, o + offv k f, none⟩ = some x) (hv : CellV W x (sortv f) v) (hc : CapV x) (hn : sortv f = 1 → I64 v.n) (hz : (textL (sortv f) v).length ≤ 4000000) :
 Calls Tryz.prog 28 #[e, .string f] W fun e w' => e = .returned (.string (toB (textL (sortv f) v))) ∧ Below W.heap.size W w' := by
 obtain ⟨m0, m1, m2, m3, m4, rfl, ⟨b0, rfl, h0⟩, h1, h2, h3, h4⟩ := hel
 rcases sort_kinds f with hs | hs | hs | hs
 · have hB := Blk.new W [.map (some b0), m1, m2, m3, m4] 64
   have hL := (Below.refl W.heap.size W).alloc (Nat.le_refl _) (.cells [.map (some b0), m1, m2, m3, m4].toArray 64)
   have hEV := hE.keep hL
   have hxl := World.block_lt_of_cell? W _ hx
   have y0 := (hL.cell (p := ⟨g, o + offv k f, none⟩) hxl).trans hx
   have l0 := sort_look (h0.below hL) hf
   obtain ⟨b, rfl, l1⟩ := place_look (h1.below hL) hf hs Tryz.underlying59 (Tryz.zeroValue109 _)
   rw [hs, show ((1 : Int) - 1) = 0 from rfl] at l0
   rw [hs] at hv hz ⊢
   rw [text_1]
   obtain ⟨tx, htx⟩ : ∃ tx, Hid (tx = toB (decv v.n)) := ⟨_, hid rfl⟩
   rw [← htx.out]
   have hty : Hid (tx = toB (Lib.itoa v.n)) := hid htx.out
   obtain rfl := hv.num rfl
   generalize offv k f = j at *
   have b1 := hB.cell 0
   have b2 := hB.cell 1
   simp only [List.getElem?_cons_zero, List.getElem?_cons_succ] at b1 b2
   clear hB h0 h1 h2 h3 h4 hE hx hf hv
   go_enter Tryz.func28, Tryz.ntmps28
   go_upto_region 1 with fail
   generalize W.alloc (.cells [.map (some b0), .map (some b), m2, m3, m4].toArray 64) = V at *
   go_wp2_with fail
   ((with_reducible refine (titoa_b v.n tx _ hEV (hn hs) hty).mono ?_); rintro e w1 ⟨rfl, hb⟩)
   go_wp2_with fail
   go_ret
   exact ⟨rfl, below_call hL hb⟩
 · have hB := Blk.new W [.map (some b0), m1, m2, m3, m4] 64
   have hL := (Below.refl W.heap.size W).alloc (Nat.le_refl _) (.cells [.map (some b0), m1, m2, m3, m4].toArray 64)
   have hEV := hE.keep hL
   have hxl := World.block_lt_of_cell? W _ hx
   have y0 := (hL.cell (p := ⟨g, o + offv k f, none⟩) hxl).trans hx
   have l0 := sort_look (h0.below hL) hf
   obtain ⟨b, rfl, l1⟩ := place_look (h2.below hL) hf hs Tryz.underlying60 (Tryz.zeroValue104 _)
   rw [hs, show ((2 : Int) - 1) = 1 from rfl] at l0
   rw [hs] at hv hz ⊢
   rw [text_2]
   obtain ⟨tx, htx⟩ : ∃ tx, Hid (tx = toB (if v.b = true then yesB else noB)) := ⟨_, hid rfl⟩
   rw [← htx.out]
   obtain rfl := hv.flag rfl
   generalize offv k f = j at *
   have b1 := hB.cell 0
   have b2 := hB.cell 2
   simp only [List.getElem?_cons_zero, List.getElem?_cons_succ] at b1 b2
   clear hB h0 h1 h2 h3 h4 hE hx hf hv
   go_enter Tryz.func28, Tryz.ntmps28
   go_upto_region 1 with fail
   generalize W.alloc (.cells [.map (some b0), m1, .map (some b), m3, m4].toArray 64) = V at *
   go_wp2_with fail
   ((with_reducible refine (dflagText_b v.b tx _ htx).mono ?_); rintro e w1 ⟨rfl, rfl⟩)
   go_wp2_with fail
   go_ret
   exact ⟨rfl, hL⟩
 · have hB := Blk.new W [.map (some b0), m1, m2, m3, m4] 64
   have hL := (Below.refl W.heap.size W).alloc (Nat.le_refl _) (.cells [.map (some b0), m1, m2, m3, m4].toArray 64)
   have hEV := hE.keep hL
   have hxl := World.block_lt_of_cell? W _ hx
   have y0 := (hL.cell (p := ⟨g, o + offv k f, none⟩) hxl).trans hx
   have l0 := sort_look (h0.below hL) hf
   obtain ⟨b, rfl, l1⟩ := place_look (h3.below hL) hf hs Tryz.underlying61 (Tryz.zeroValue105 _)
   rw [hs, show ((3 : Int) - 1) = 2 from rfl] at l0
   rw [hs] at hv hz ⊢
   rw [text_3]
   obtain ⟨tx, htx⟩ : ∃ tx, Hid (tx = toB (if v.s = ⟨#[]⟩ then dashB else v.s.toList)) := ⟨_, hid rfl⟩
   rw [← htx.out]
   obtain rfl := hv.name rfl
   generalize offv k f = j at *
   have b1 := hB.cell 0
   have b2 := hB.cell 3
   simp only [List.getElem?_cons_zero, List.getElem?_cons_succ] at b1 b2
   clear hB h0 h1 h2 h3 h4 hE hx hf hv
   go_enter Tryz.func28, Tryz.ntmps28
   go_upto_region 1 with fail
   generalize W.alloc (.cells [.map (some b0), m1, m2, .map (some b), m4].toArray 64) = V at *
   go_wp2_with fail
   ((with_reducible refine (dnameText_b v.s tx _ htx).mono ?_); rintro e w1 ⟨rfl, rfl⟩)
   go_wp2_with fail
   go_ret
   exact ⟨rfl, hL⟩
 · have hB := Blk.new W [.map (some b0), m1, m2, m3, m4] 64
   have hL := (Below.refl W.heap.size W).alloc (Nat.le_refl _) (.cells [.map (some b0), m1, m2, m3, m4].toArray 64)
   have hEV := hE.keep hL
   have hxl := World.block_lt_of_cell? W _ hx
   have y0 := (hL.cell (p := ⟨g, o + offv k f, none⟩) hxl).trans hx
   have l0 := sort_look (h0.below hL) hf
   obtain ⟨b, rfl, l1⟩ := place_look (h4.below hL) hf hs Tryz.underlying62 (Tryz.zeroValue107 _)
   rw [hs, show ((4 : Int) - 1) = 3 from rfl] at l0
   rw [hs] at hv hz ⊢
   rw [text_4]
   obtain ⟨tx, htx⟩ : ∃ tx, Hid (tx = toB (if v.l = [] then dashB else joinC v.l)) := ⟨_, hid rfl⟩
   rw [← htx.out]
   have hl := (hv.list rfl).below hL
   obtain ⟨xp, xc, rfl, -⟩ := id hl
   generalize offv k f = j at *
   have b1 := hB.cell 0
   have b2 := hB.cell 4
   simp only [List.getElem?_cons_zero, List.getElem?_cons_succ] at b1 b2
   clear hB h0 h1 h2 h3 h4 hE hx hf hv
   go_enter Tryz.func28, Tryz.ntmps28
   go_upto_region 1 with fail
   generalize W.alloc (.cells [.map (some b0), m1, m2, m3, .map (some b)].toArray 64) = V at *
   go_wp2_with fail
   ((with_reducible refine (dlistText_b v.l _ tx _ hl hc (by rw [text_4] at hz; by_cases q : v.l = [] <;> simp [q] at hz ⊢ <;> first | omega | (rw [show joinC [] = [] from rfl]; simp)) htx).mono ?_); rintro e w1 ⟨rfl, hb⟩)
   go_wp2_with fail
   go_ret
   exact ⟨rfl, below_call hL hb⟩
end
section
open Go.RowKit Go.Lib
structure KB (g : Nat) (V w : World) : Prop where
 os : w.os = V.os
 tape : w.tape = V.tape
 output : w.output = V.output
 size : V.heap.size ≤ w.heap.size
 block : ∀ k, k < V.heap.size → k ≠ g → w.heap[k]? = V.heap[k]?
theorem KB.refl (g : Nat) (V : World) : KB g V V := ⟨rfl, rfl, rfl, Nat.le_refl _, fun _ _ _ => rfl⟩
theorem KB.call {g : Nat} {V w w1 : World} (h : KB g V w) (hb : Below w.heap.size w w1) : KB g V w1 := ⟨hb.os.trans h.os, hb.tape.trans h.tape, hb.output.trans h.output, Nat.le_trans h.size hb.size, fun k hk hg => (hb.block k (Nat.lt_of_lt_of_le hk h.size)).trans (h.block k hk hg)⟩
theorem KB.drew {g : Nat} {V w : World} (h : KB g V w) : KB g V w.drew := h.call ((Below.refl _ _).drew)
theorem KB.set {g : Nat} {V w : World} (h : KB g V w) (i : Nat) (x : Value) : KB g V (w.setCell ⟨g, i, none⟩ x) := by
 have hb := (Below.refl 0 w).setCell (p := ⟨g, i, none⟩) (Nat.zero_le _) x
 exact ⟨hb.os.trans h.os, hb.tape.trans h.tape, hb.output.trans h.output, Nat.le_trans h.size hb.size, fun k hk hg => (Below.heap_setCell w ⟨g, i, none⟩ x k hg).trans (h.block k hk hg)⟩
theorem KB.blk {g b : Nat} {V w : World} {us : List Value} {t : TypeId} (h : KB g V w) (hb : Blk V b us t) (ne : b ≠ g) : Blk w b us t := (h.block b hb.lt ne).trans hb
theorem KB.map {P : Program} {k : TypeId} {g b : Nat} {V w : World} {l : List (ByteArray × Value)} (h : KB g V w) (hb : MapS P k V b l) (ne : b ≠ g) : MapS P k w b l := by
 have hlt := hb.lt
 obtain ⟨es, clock, hh, F, hs, hD⟩ := hb
 exact ⟨es, clock, (h.block b hlt ne).trans hh, F, hs, hD⟩
theorem place_look2 {V : World} {m : Value} {s k : Int} {g o c : Nat} {us : List Value} {tc : TypeId} {f : ByteArray} {t e : TypeId} (h : HoldS Tryz.prog 9 V m (sortL s k) (placeF k g o)) (hf : f ∈ fieldsv k) (hs : sortv f = s) (hC : Blk V c us tc) (ht : Tryz.prog.underlying t = some (.map 9 e)) (hz : ∀ w, (zeroValue e).run Tryz.prog w = .ok (.pointer none) w) :
 ∃ b, m = .map (some b) ∧ ∀ w, KB c V w → (Instr.lookup t (.map (some b)) (.string f) false).run Tryz.prog w = .ok (.pointer (some ⟨g, o + offv k f, none⟩)) w := by
 have hin : f ∈ sortL s k := List.mem_filter.2 ⟨hf, decide_eq_true hs⟩
 rcases h with ⟨b, D, rfl, q, hD⟩ | ⟨e, -⟩
 · refine ⟨b, rfl, fun w hw => ?_⟩
   have := (hw.map q (q.ne hC)).look lawStr Tryz.underlying9 ht (hz w) f (field_size hf)
   rw [look_map (placeF k g o) f D _ (.inl (hD f hin))] at this
   exact this
 · rw [e] at hin
   cases hin
def FieldPost (k : Int) (g o : Nat) (f : ByteArray) (s : List UInt8) (W : World) (e : Ending) (w' : World) : Prop :=
 ∃ b x w1, e = .returned (.bool b) ∧ Below W.heap.size W w1 ∧ w' = w1.setCell ⟨g, o + offv k f, none⟩ x ∧ (b = true → ∃ v, readv (sortv f) s = some v ∧ CellV w1 x (sortv f) v ∧ NewSl W.heap.size x ∧ CapV x ∧ x.oneCell' = true ∧ (sortv f = 4 → SB w1 x v.l)) ∧ (b = false → readv (sortv f) s = none)
theorem KB.below12 {g : Nat} {V w : World} (h : KB g V w) (hb : 12 ≤ V.heap.size) (hg : 12 ≤ g) : Below 12 V w := ⟨h.os, h.tape, h.output, h.size, fun k hk => h.block k (Nat.lt_of_lt_of_le hk hb) (by omega)⟩
theorem new_no {B : Nat} {v : Value} (h : ∀ a n c, v ≠ .slice a n c) : NewSl B v := fun _a _n _c e => absurd e (h _ _ _)
theorem cap_no {v : Value} (h : ∀ a n c, v ≠ .slice a n c) : CapV v := fun _a _n _c e => absurd e (h _ _ _)
theorem readF_v {s : List UInt8} {x : Bool} (h : readFv s = some x) : readv 2 s = some ⟨0, x, ⟨#[]⟩, []⟩ := by
 rw [read_2]
 unfold readFv at h
 split at h
 · rename_i e
   injection h with h
   rw [if_pos e, h]
 · rename_i e
   rw [if_neg e]
   split at h
   · rename_i e2
     injection h with h
     rw [if_pos e2, ← h]
     rfl
   · cases h
theorem readF_n {s : List UInt8} (h : readFv s = none) : readv 2 s = none := by
 rw [read_2]
 unfold readFv at h
 split at h
 · cases h
 · rename_i e
   rw [if_neg e]
   split at h
   · cases h
   · rename_i e2
     rw [if_neg e2]
theorem readN_v {s : List UInt8} {x : List UInt8} (h : readNv s = some x) : readv 3 s = some ⟨0, false, toB x, []⟩ := by
 rw [read_3]
 unfold readNv at h
 split at h
 · rename_i e
   injection h with h
   rw [if_pos e, ← h]
   rfl
 · rename_i e
   rw [if_neg e]
   split at h
   · rename_i e2
     injection h with h
     rw [if_pos e2, ← h]
   · cases h
theorem readN_n {s : List UInt8} (h : readNv s = none) : readv 3 s = none := by
 rw [read_3]
 unfold readNv at h
 split at h
 · cases h
 · rename_i e
   rw [if_neg e]
   split at h
   · cases h
   · rename_i e2
     rw [if_neg e2]
theorem readL_v {s : List UInt8} {l : List ByteArray} (h : readLv s = some l) : readv 4 s = some ⟨0, false, ⟨#[]⟩, l⟩ := by
 rw [read_4 (by decide) (by decide) (by decide)]
 unfold readLv at h
 split at h
 · rename_i e
   injection h with h
   rw [if_pos e, ← h]
   rfl
 · rename_i e
   rw [if_neg e, h]
   rfl
theorem readL_n {s : List UInt8} (h : readLv s = none) : readv 4 s = none := by
 rw [read_4 (by decide) (by decide) (by decide)]
 unfold readLv at h
 split at h
 · cases h
 · rename_i e
   rw [if_neg e, h]
   rfl
theorem readI_v {s : List UInt8} {n : Int} (h : intv s = some n) : readv 1 s = some ⟨n, false, ⟨#[]⟩, []⟩ := by rw [read_1, h]; rfl
theorem readI_n {s : List UInt8} (h : intv s = none) : readv 1 s = none := by rw [read_1, h]; rfl
set_option maxHeartbeats 8000000 in
set_option maxRecDepth 100000 in
theorem dread_b (k : Int) (g o : Nat) (e : Value) (f s : ByteArray) (us : List Value) (tc : TypeId) (W : World) (hE : EnvR W) (hel : Elem W e k g o) (hf : f ∈ fieldsv k) (hC : Blk W g us tc) (hlt : o + offv k f < us.length) (hs : s.size ≤ 100000) (hg12 : 12 ≤ g) :
 Calls Tryz.prog 34 #[e, .string f, .string s] W (FieldPost k g o f s.toList W) := by
 obtain ⟨m0, m1, m2, m3, m4, rfl, ⟨b0, rfl, h0⟩, h1, h2, h3, h4⟩ := hel
 rcases sort_kinds f with hq | hq | hq | hq
 · have hB := Blk.new W [.map (some b0), m1, m2, m3, m4] 64
   have hL := (Below.refl W.heap.size W).alloc (Nat.le_refl _) (.cells [.map (some b0), m1, m2, m3, m4].toArray 64)
   have hEV := hE.keep hL
   have hgl := hC.lt
   have hCV := hC.alloc (.cells [.map (some b0), m1, m2, m3, m4].toArray 64)
   have l0 := sort_look (h0.below hL) hf
   obtain ⟨b, rfl, l1⟩ := place_look2 (h1.below hL) hf hq hCV Tryz.underlying59 Tryz.zeroValue109
   rw [hq, show ((1 : Int) - 1) = 0 from rfl] at l0
   have c0 := hCV.cell (o + offv k f)
   rw [List.getElem?_eq_getElem hlt] at c0
   have c1 := hCV.frozen (o + offv k f)
   unfold FieldPost
   rw [hq]
   generalize hj : offv k f = j at *
   clear hj
   have b1 := hB.cell 0
   have b2 := hB.cell 1
   simp only [List.getElem?_cons_zero, List.getElem?_cons_succ] at b1 b2
   have hne : W.heap.size ≠ g := by omega
   clear h0 h1 h2 h3 h4 hE hf hC
   go_enter Tryz.func34, Tryz.ntmps34
   go_upto_region 1 with fail
   generalize W.alloc (.cells [.map (some b0), .map (some b), m2, m3, m4].toArray 64) = V at *
   go_upto_region 3 with fail
   have hmx : Tryz.prog.follows .mixedOrders = true := by kernel_rfl
   refine wp_region_held (S := fun w' => KB g V w') hmx ?_
   show wpAnyH _ _ _ _ _ _ _ _ V.drew
   have hK0 := (KB.refl g V).drew
   have hW0 : Below W.heap.size W V.drew := hL.drew
   refine reg_tk (i := 0) (v := .pointer (some ⟨W.heap.size, 1, none⟩)) (some 13) rfl (fun w' hS => by skip; go_simp) hK0 ?_
   simp only [Act.put, List.setIfInBounds_toArray, List.set_cons_zero, List.set_cons_succ]
   refine reg_tk (i := 1) (v := .map (some b)) (some 14) rfl (fun w' hS => by (have q1 := (hS.blk hB hne).cell 1; simp only [List.getElem?_cons_zero, List.getElem?_cons_succ] at q1); go_simp) hK0 ?_
   simp only [Act.put, List.setIfInBounds_toArray, List.set_cons_zero, List.set_cons_succ]
   refine reg_tk (i := 2) (v := .string f) (some 15) rfl (fun w' hS => by skip; go_simp) hK0 ?_
   simp only [Act.put, List.setIfInBounds_toArray, List.set_cons_zero, List.set_cons_succ]
   refine reg_tk (i := 3) (v := .pointer (some ⟨g, o + j, none⟩)) (some 16) rfl (fun w' hS => by have q2 := l1 _ hS; go_simp) hK0 ?_
   simp only [Act.put, List.setIfInBounds_toArray, List.set_cons_zero, List.set_cons_succ]
   refine reg_tk (i := 4) (v := .string s) (some 17) rfl (fun w' hS => by skip; go_simp) hK0 ?_
   simp only [Act.put, List.setIfInBounds_toArray, List.set_cons_zero, List.set_cons_succ]
   refine held_one (i := 5) (by kernel_rfl) rfl (fun K hQ => ?_)
   go_simp
   (with_reducible refine (dreadNumber_b s _ (hEV.keep12 (hK0.below12 hEV.big hg12)) hs).mono ?_)
   rintro e w1 ⟨x, b, rfl, hy, hn, hb⟩
   have hK1 := hK0.call hb
   have hW1 := below_call hW0 hb
   have d0 := (hb.cell (p := ⟨g, o + j, none⟩) hCV.lt).trans c0
   have dB := hCV.drew.below hb
   have d1 := dB.frozen (o + j)
   clear hb
   refine hQ.out _ _ hK1 ?_
   clear hQ
   try simp only [Act.put, List.setIfInBounds_toArray, List.set_cons_zero, List.set_cons_succ]
   refine reg_tk (i := 6) (v := .tuple #[.int .i64 x, .bool b]) (some 12) rfl (fun w' hS => by skip; go_simp) hK1 ?_
   simp only [Act.put, List.setIfInBounds_toArray, List.set_cons_zero, List.set_cons_succ]
   refine reg_tk (i := 7) (v := .int .i64 x) (some 19) rfl (fun w' hS => by skip; go_simp) hK1 ?_
   simp only [Act.put, List.setIfInBounds_toArray, List.set_cons_zero, List.set_cons_succ]
   refine reg_tk (i := 8) (v := .bool b) (some 20) rfl (fun w' hS => by skip; go_simp) hK1 ?_
   simp only [Act.put, List.setIfInBounds_toArray, List.set_cons_zero, List.set_cons_succ]
   refine reg_tk (i := 9) (v := .pointer (some ⟨g, o + j, none⟩)) (some 21) rfl (fun w' hS => by skip; go_simp) hK1 ?_
   simp only [Act.put, List.setIfInBounds_toArray, List.set_cons_zero, List.set_cons_succ]
   refine held_one (i := 10) (by kernel_rfl) rfl (fun K hQ => ?_)
   go_simp
   have hK2 := hK1.set (o + j) (.int .i64 x)
   refine hQ.out _ _ hK2 ?_
   clear hQ
   try simp only [Act.put, List.setIfInBounds_toArray, List.set_cons_zero, List.set_cons_succ]
   refine reg_tk (i := 11) (v := .bool b) (some 7) rfl (fun w' hS => by skip; go_simp) hK2 ?_
   simp only [Act.put, List.setIfInBounds_toArray, List.set_cons_zero, List.set_cons_succ]
   refine wpAnyH_done (by kernel_rfl) ?_ _
   try show Exit.then _ _ Exit.normal _ _
   go_wp2_with fail
   go_ret
   exact ⟨_, _, _, rfl, hW1, rfl, fun q => ⟨_, readI_v (by rw [Lib.toList_data]; exact hy q), cell_num rfl, new_no (by intros; intro q; cases q), cap_no (by intros; intro q; cases q), rfl, fun e => absurd e (by decide)⟩, fun q => readI_n (by rw [Lib.toList_data]; exact hn q)⟩
 · have hB := Blk.new W [.map (some b0), m1, m2, m3, m4] 64
   have hL := (Below.refl W.heap.size W).alloc (Nat.le_refl _) (.cells [.map (some b0), m1, m2, m3, m4].toArray 64)
   have hEV := hE.keep hL
   have hgl := hC.lt
   have hCV := hC.alloc (.cells [.map (some b0), m1, m2, m3, m4].toArray 64)
   have l0 := sort_look (h0.below hL) hf
   obtain ⟨b, rfl, l1⟩ := place_look2 (h2.below hL) hf hq hCV Tryz.underlying60 Tryz.zeroValue104
   rw [hq, show ((2 : Int) - 1) = 1 from rfl] at l0
   have c0 := hCV.cell (o + offv k f)
   rw [List.getElem?_eq_getElem hlt] at c0
   have c1 := hCV.frozen (o + offv k f)
   unfold FieldPost
   rw [hq]
   generalize hj : offv k f = j at *
   clear hj
   have b1 := hB.cell 0
   have b2 := hB.cell 2
   simp only [List.getElem?_cons_zero, List.getElem?_cons_succ] at b1 b2
   have hne : W.heap.size ≠ g := by omega
   clear h0 h1 h2 h3 h4 hE hf hC
   go_enter Tryz.func34, Tryz.ntmps34
   go_upto_region 1 with fail
   generalize W.alloc (.cells [.map (some b0), m1, .map (some b), m3, m4].toArray 64) = V at *
   go_upto_region 5 with fail
   have hmx : Tryz.prog.follows .mixedOrders = true := by kernel_rfl
   refine wp_region_held (S := fun w' => KB g V w') hmx ?_
   show wpAnyH _ _ _ _ _ _ _ _ V.drew
   have hK0 := (KB.refl g V).drew
   have hW0 : Below W.heap.size W V.drew := hL.drew
   refine reg_tk (i := 0) (v := .pointer (some ⟨W.heap.size, 2, none⟩)) (some 25) rfl (fun w' hS => by skip; go_simp) hK0 ?_
   simp only [Act.put, List.setIfInBounds_toArray, List.set_cons_zero, List.set_cons_succ]
   refine reg_tk (i := 1) (v := .map (some b)) (some 26) rfl (fun w' hS => by (have q1 := (hS.blk hB hne).cell 2; simp only [List.getElem?_cons_zero, List.getElem?_cons_succ] at q1); go_simp) hK0 ?_
   simp only [Act.put, List.setIfInBounds_toArray, List.set_cons_zero, List.set_cons_succ]
   refine reg_tk (i := 2) (v := .string f) (some 27) rfl (fun w' hS => by skip; go_simp) hK0 ?_
   simp only [Act.put, List.setIfInBounds_toArray, List.set_cons_zero, List.set_cons_succ]
   refine reg_tk (i := 3) (v := .pointer (some ⟨g, o + j, none⟩)) (some 28) rfl (fun w' hS => by have q2 := l1 _ hS; go_simp) hK0 ?_
   simp only [Act.put, List.setIfInBounds_toArray, List.set_cons_zero, List.set_cons_succ]
   refine reg_tk (i := 4) (v := .string s) (some 29) rfl (fun w' hS => by skip; go_simp) hK0 ?_
   simp only [Act.put, List.setIfInBounds_toArray, List.set_cons_zero, List.set_cons_succ]
   refine held_one (i := 5) (by kernel_rfl) rfl (fun K hQ => ?_)
   go_simp
   (with_reducible refine (dreadFlag_b s _).mono ?_)
   rintro e w1 ⟨x, b, rfl, hy, hn, rfl⟩
   have hK1 := hK0
   have hW1 := hW0
   have dB := hCV.drew
   have d0 := dB.cell (o + j)
   rw [List.getElem?_eq_getElem hlt] at d0
   have d1 := dB.frozen (o + j)
   generalize V.drew = w1 at *
   refine hQ.out _ _ hK1 ?_
   clear hQ
   try simp only [Act.put, List.setIfInBounds_toArray, List.set_cons_zero, List.set_cons_succ]
   refine reg_tk (i := 6) (v := .tuple #[.bool x, .bool b]) (some 24) rfl (fun w' hS => by skip; go_simp) hK1 ?_
   simp only [Act.put, List.setIfInBounds_toArray, List.set_cons_zero, List.set_cons_succ]
   refine reg_tk (i := 7) (v := .bool x) (some 31) rfl (fun w' hS => by skip; go_simp) hK1 ?_
   simp only [Act.put, List.setIfInBounds_toArray, List.set_cons_zero, List.set_cons_succ]
   refine reg_tk (i := 8) (v := .bool b) (some 32) rfl (fun w' hS => by skip; go_simp) hK1 ?_
   simp only [Act.put, List.setIfInBounds_toArray, List.set_cons_zero, List.set_cons_succ]
   refine reg_tk (i := 9) (v := .pointer (some ⟨g, o + j, none⟩)) (some 33) rfl (fun w' hS => by skip; go_simp) hK1 ?_
   simp only [Act.put, List.setIfInBounds_toArray, List.set_cons_zero, List.set_cons_succ]
   refine held_one (i := 10) (by kernel_rfl) rfl (fun K hQ => ?_)
   go_simp
   have hK2 := hK1.set (o + j) (.bool x)
   refine hQ.out _ _ hK2 ?_
   clear hQ
   try simp only [Act.put, List.setIfInBounds_toArray, List.set_cons_zero, List.set_cons_succ]
   refine reg_tk (i := 11) (v := .bool b) (some 7) rfl (fun w' hS => by skip; go_simp) hK2 ?_
   simp only [Act.put, List.setIfInBounds_toArray, List.set_cons_zero, List.set_cons_succ]
   refine wpAnyH_done (by kernel_rfl) ?_ _
   try show Exit.then _ _ Exit.normal _ _
   go_wp2_with fail
   go_ret
   exact ⟨_, _, _, rfl, hW1, rfl, fun q => ⟨_, readF_v (hy q), cell_flag rfl, new_no (by intros; intro q; cases q), cap_no (by intros; intro q; cases q), rfl, fun e => absurd e (by decide)⟩, fun q => readF_n (hn q)⟩
 · have hB := Blk.new W [.map (some b0), m1, m2, m3, m4] 64
   have hL := (Below.refl W.heap.size W).alloc (Nat.le_refl _) (.cells [.map (some b0), m1, m2, m3, m4].toArray 64)
   have hEV := hE.keep hL
   have hgl := hC.lt
   have hCV := hC.alloc (.cells [.map (some b0), m1, m2, m3, m4].toArray 64)
   have l0 := sort_look (h0.below hL) hf
   obtain ⟨b, rfl, l1⟩ := place_look2 (h3.below hL) hf hq hCV Tryz.underlying61 Tryz.zeroValue105
   rw [hq, show ((3 : Int) - 1) = 2 from rfl] at l0
   have c0 := hCV.cell (o + offv k f)
   rw [List.getElem?_eq_getElem hlt] at c0
   have c1 := hCV.frozen (o + offv k f)
   unfold FieldPost
   rw [hq]
   generalize hj : offv k f = j at *
   clear hj
   have b1 := hB.cell 0
   have b2 := hB.cell 3
   simp only [List.getElem?_cons_zero, List.getElem?_cons_succ] at b1 b2
   have hne : W.heap.size ≠ g := by omega
   clear h0 h1 h2 h3 h4 hE hf hC
   go_enter Tryz.func34, Tryz.ntmps34
   go_upto_region 1 with fail
   generalize W.alloc (.cells [.map (some b0), m1, m2, .map (some b), m4].toArray 64) = V at *
   go_upto_region 7 with fail
   have hmx : Tryz.prog.follows .mixedOrders = true := by kernel_rfl
   refine wp_region_held (S := fun w' => KB g V w') hmx ?_
   show wpAnyH _ _ _ _ _ _ _ _ V.drew
   have hK0 := (KB.refl g V).drew
   have hW0 : Below W.heap.size W V.drew := hL.drew
   refine reg_tk (i := 0) (v := .pointer (some ⟨W.heap.size, 3, none⟩)) (some 37) rfl (fun w' hS => by skip; go_simp) hK0 ?_
   simp only [Act.put, List.setIfInBounds_toArray, List.set_cons_zero, List.set_cons_succ]
   refine reg_tk (i := 1) (v := .map (some b)) (some 38) rfl (fun w' hS => by (have q1 := (hS.blk hB hne).cell 3; simp only [List.getElem?_cons_zero, List.getElem?_cons_succ] at q1); go_simp) hK0 ?_
   simp only [Act.put, List.setIfInBounds_toArray, List.set_cons_zero, List.set_cons_succ]
   refine reg_tk (i := 2) (v := .string f) (some 39) rfl (fun w' hS => by skip; go_simp) hK0 ?_
   simp only [Act.put, List.setIfInBounds_toArray, List.set_cons_zero, List.set_cons_succ]
   refine reg_tk (i := 3) (v := .pointer (some ⟨g, o + j, none⟩)) (some 40) rfl (fun w' hS => by have q2 := l1 _ hS; go_simp) hK0 ?_
   simp only [Act.put, List.setIfInBounds_toArray, List.set_cons_zero, List.set_cons_succ]
   refine reg_tk (i := 4) (v := .string s) (some 41) rfl (fun w' hS => by skip; go_simp) hK0 ?_
   simp only [Act.put, List.setIfInBounds_toArray, List.set_cons_zero, List.set_cons_succ]
   refine held_one (i := 5) (by kernel_rfl) rfl (fun K hQ => ?_)
   go_simp
   (with_reducible refine (dreadName_b s _).mono ?_)
   rintro e w1 ⟨x, b, rfl, hy, hn, rfl⟩
   have hK1 := hK0
   have hW1 := hW0
   have dB := hCV.drew
   have d0 := dB.cell (o + j)
   rw [List.getElem?_eq_getElem hlt] at d0
   have d1 := dB.frozen (o + j)
   generalize V.drew = w1 at *
   refine hQ.out _ _ hK1 ?_
   clear hQ
   try simp only [Act.put, List.setIfInBounds_toArray, List.set_cons_zero, List.set_cons_succ]
   refine reg_tk (i := 6) (v := .tuple #[.string x, .bool b]) (some 36) rfl (fun w' hS => by skip; go_simp) hK1 ?_
   simp only [Act.put, List.setIfInBounds_toArray, List.set_cons_zero, List.set_cons_succ]
   refine reg_tk (i := 7) (v := .string x) (some 43) rfl (fun w' hS => by skip; go_simp) hK1 ?_
   simp only [Act.put, List.setIfInBounds_toArray, List.set_cons_zero, List.set_cons_succ]
   refine reg_tk (i := 8) (v := .bool b) (some 44) rfl (fun w' hS => by skip; go_simp) hK1 ?_
   simp only [Act.put, List.setIfInBounds_toArray, List.set_cons_zero, List.set_cons_succ]
   refine reg_tk (i := 9) (v := .pointer (some ⟨g, o + j, none⟩)) (some 45) rfl (fun w' hS => by skip; go_simp) hK1 ?_
   simp only [Act.put, List.setIfInBounds_toArray, List.set_cons_zero, List.set_cons_succ]
   refine held_one (i := 10) (by kernel_rfl) rfl (fun K hQ => ?_)
   go_simp
   have hK2 := hK1.set (o + j) (.string x)
   refine hQ.out _ _ hK2 ?_
   clear hQ
   try simp only [Act.put, List.setIfInBounds_toArray, List.set_cons_zero, List.set_cons_succ]
   refine reg_tk (i := 11) (v := .bool b) (some 7) rfl (fun w' hS => by skip; go_simp) hK2 ?_
   simp only [Act.put, List.setIfInBounds_toArray, List.set_cons_zero, List.set_cons_succ]
   refine wpAnyH_done (by kernel_rfl) ?_ _
   try show Exit.then _ _ Exit.normal _ _
   go_wp2_with fail
   go_ret
   exact ⟨_, _, _, rfl, hW1, rfl, fun q => ⟨_, readN_v (hy q), cell_name (list_toB x).symm, new_no (by intros; intro q; cases q), cap_no (by intros; intro q; cases q), rfl, fun e => absurd e (by decide)⟩, fun q => readN_n (hn q)⟩
 · have hB := Blk.new W [.map (some b0), m1, m2, m3, m4] 64
   have hL := (Below.refl W.heap.size W).alloc (Nat.le_refl _) (.cells [.map (some b0), m1, m2, m3, m4].toArray 64)
   have hEV := hE.keep hL
   have hgl := hC.lt
   have hCV := hC.alloc (.cells [.map (some b0), m1, m2, m3, m4].toArray 64)
   have l0 := sort_look (h0.below hL) hf
   obtain ⟨b, rfl, l1⟩ := place_look2 (h4.below hL) hf hq hCV Tryz.underlying62 Tryz.zeroValue107
   rw [hq, show ((4 : Int) - 1) = 3 from rfl] at l0
   have c0 := hCV.cell (o + offv k f)
   rw [List.getElem?_eq_getElem hlt] at c0
   have c1 := hCV.frozen (o + offv k f)
   unfold FieldPost
   rw [hq]
   generalize hj : offv k f = j at *
   clear hj
   have b1 := hB.cell 0
   have b2 := hB.cell 4
   simp only [List.getElem?_cons_zero, List.getElem?_cons_succ] at b1 b2
   have hne : W.heap.size ≠ g := by omega
   clear h0 h1 h2 h3 h4 hE hf hC
   go_enter Tryz.func34, Tryz.ntmps34
   go_upto_region 1 with fail
   generalize W.alloc (.cells [.map (some b0), m1, m2, m3, .map (some b)].toArray 64) = V at *
   go_upto_region 9 with fail
   have hmx : Tryz.prog.follows .mixedOrders = true := by kernel_rfl
   refine wp_region_held (S := fun w' => KB g V w') hmx ?_
   show wpAnyH _ _ _ _ _ _ _ _ V.drew
   have hK0 := (KB.refl g V).drew
   have hW0 : Below W.heap.size W V.drew := hL.drew
   refine reg_tk (i := 0) (v := .pointer (some ⟨W.heap.size, 4, none⟩)) (some 49) rfl (fun w' hS => by skip; go_simp) hK0 ?_
   simp only [Act.put, List.setIfInBounds_toArray, List.set_cons_zero, List.set_cons_succ]
   refine reg_tk (i := 1) (v := .map (some b)) (some 50) rfl (fun w' hS => by (have q1 := (hS.blk hB hne).cell 4; simp only [List.getElem?_cons_zero, List.getElem?_cons_succ] at q1); go_simp) hK0 ?_
   simp only [Act.put, List.setIfInBounds_toArray, List.set_cons_zero, List.set_cons_succ]
   refine reg_tk (i := 2) (v := .string f) (some 51) rfl (fun w' hS => by skip; go_simp) hK0 ?_
   simp only [Act.put, List.setIfInBounds_toArray, List.set_cons_zero, List.set_cons_succ]
   refine reg_tk (i := 3) (v := .pointer (some ⟨g, o + j, none⟩)) (some 52) rfl (fun w' hS => by have q2 := l1 _ hS; go_simp) hK0 ?_
   simp only [Act.put, List.setIfInBounds_toArray, List.set_cons_zero, List.set_cons_succ]
   refine reg_tk (i := 4) (v := .string s) (some 53) rfl (fun w' hS => by skip; go_simp) hK0 ?_
   simp only [Act.put, List.setIfInBounds_toArray, List.set_cons_zero, List.set_cons_succ]
   refine held_one (i := 5) (by kernel_rfl) rfl (fun K hQ => ?_)
   go_simp
   (with_reducible refine (dreadList_b s _ (hEV.keep12 (hK0.below12 hEV.big hg12)) hs).mono ?_)
   rintro e w1 ⟨p, n, c, b, rfl, hy, hn, hb⟩
   have hK1 := hK0.call hb
   have hW1 := below_call hW0 hb
   have d0 := (hb.cell (p := ⟨g, o + j, none⟩) hCV.lt).trans c0
   have dB := hCV.drew.below hb
   have d1 := dB.frozen (o + j)
   clear hb
   refine hQ.out _ _ hK1 ?_
   clear hQ
   try simp only [Act.put, List.setIfInBounds_toArray, List.set_cons_zero, List.set_cons_succ]
   refine reg_tk (i := 6) (v := .tuple #[.slice p n c, .bool b]) (some 48) rfl (fun w' hS => by skip; go_simp) hK1 ?_
   simp only [Act.put, List.setIfInBounds_toArray, List.set_cons_zero, List.set_cons_succ]
   refine reg_tk (i := 7) (v := .slice p n c) (some 55) rfl (fun w' hS => by skip; go_simp) hK1 ?_
   simp only [Act.put, List.setIfInBounds_toArray, List.set_cons_zero, List.set_cons_succ]
   refine reg_tk (i := 8) (v := .bool b) (some 56) rfl (fun w' hS => by skip; go_simp) hK1 ?_
   simp only [Act.put, List.setIfInBounds_toArray, List.set_cons_zero, List.set_cons_succ]
   refine reg_tk (i := 9) (v := .pointer (some ⟨g, o + j, none⟩)) (some 57) rfl (fun w' hS => by skip; go_simp) hK1 ?_
   simp only [Act.put, List.setIfInBounds_toArray, List.set_cons_zero, List.set_cons_succ]
   refine held_one (i := 10) (by kernel_rfl) rfl (fun K hQ => ?_)
   go_simp
   have hK2 := hK1.set (o + j) (.slice p n c)
   refine hQ.out _ _ hK2 ?_
   clear hQ
   try simp only [Act.put, List.setIfInBounds_toArray, List.set_cons_zero, List.set_cons_succ]
   refine reg_tk (i := 11) (v := .bool b) (some 7) rfl (fun w' hS => by skip; go_simp) hK2 ?_
   simp only [Act.put, List.setIfInBounds_toArray, List.set_cons_zero, List.set_cons_succ]
   refine wpAnyH_done (by kernel_rfl) ?_ _
   try show Exit.then _ _ Exit.normal _ _
   go_wp2_with fail
   go_ret
   exact ⟨_, _, _, rfl, hW1, rfl, fun q => (let ⟨l, h1, h2, h3, h4⟩ := hy q; ⟨_, readL_v h1, cell_list h2, fun a n c e => Nat.le_trans hL.size (h3 a n c e), fun a n c e => (by injection e with _ e1 e2; have := h4.1; omega), rfl, fun _ => h4.2⟩), fun q => readL_n (hn q)⟩
end
section
open Go.RowKit Go.Lib
theorem buildEl : ∀ w, Sem.run Tryz.prog (Instr.build 64 #[]) w = .ok (.agg eZero.toArray) w := fun w => by kernel_rfl
theorem eZero_lone : ∀ v ∈ eZero, v.oneCell' = true := by decide
def FindPost (su sw st : Value) (r : R9) (k : Int) (nm : ByteArray) (w : World) (e : Ending) (w' : World) : Prop :=
 (findv (namesK r k) nm < 0 ∧ e = .returned (.tuple #[.agg eZero.toArray, .bool false]) ∧ Below w.heap.size w w') ∨
 (∃ (i g o n c : Nat) (v : Value), findv (namesK r k) nm = i ∧ i < (namesK r k).length ∧ SliceK su sw st k = .slice (some ⟨g, o, none⟩) n c ∧ e = .returned (.tuple #[v, .bool true]) ∧ Elem w' v k g (o + i * cellsK k) ∧ Below w.heap.size w w')
theorem Elem.lone {w : World} {k : Int} {g o : Nat} {v : Value} (h : Elem w v k g o) : ∃ vs : List Value, v = .agg vs.toArray ∧ vs.length = 5 ∧ ∀ x ∈ vs, x.oneCell' = true := by
 obtain ⟨m0, m1, m2, m3, m4, rfl, ⟨b, rfl, -⟩, q1, q2, q3, q4⟩ := h
 refine ⟨[_, _, _, _, _], rfl, rfl, fun x hx => ?_⟩
 simp only [List.mem_cons, List.not_mem_nil, or_false] at hx
 rcases hx with rfl | rfl | rfl | rfl | rfl
 · rfl
 · exact q1.lone
 · exact q2.lone
 · exact q3.lone
 · exact q4.lone
set_option maxHeartbeats 8000000 in
set_option maxRecDepth 100000 in
theorem dfind_b (su sw st : Value) (r : R9) (k : Int) (nm : ByteArray) (V0 W : World) (hR : RAt V0 su sw st r) (h0 : Below V0.heap.size V0 W) (hu : r.us.length ≤ 10000) (hw : r.ws.length ≤ 10000) (ht : r.ts.length ≤ 10000) :
 Calls Tryz.prog 27 #[.agg #[su, sw, st], .int .i64 k, .string nm] W (FindPost su sw st r k nm W) := by
 have hR0 := hid hR
 obtain ⟨n1, n2, n3⟩ := names_len r
 obtain ⟨p, c, rfl, hm, hat⟩ := hR.u
 obtain ⟨p1, c1, rfl, hm1, hat1⟩ := hR.w
 obtain ⟨p2, c2, rfl, hm2, hat2⟩ := hR.t
 have hB := (Blk.new W [.slice p r.us.length c, .slice p1 r.ws.length c1, .slice p2 r.ts.length c2] 31).alloc (.cells eZero.toArray 64)
 have hX := (Blk.new (W.alloc (.cells [.slice p r.us.length c, .slice p1 r.ws.length c1, .slice p2 r.ts.length c2].toArray 31)) eZero 64).at (World.size_alloc _ _)
 have hL := ((Below.refl W.heap.size W).alloc (Nat.le_refl _) (.cells [.slice p r.us.length c, .slice p1 r.ws.length c1, .slice p2 r.ts.length c2].toArray 31)).alloc (by simp) (.cells eZero.toArray 64)
 clear hR
 go_enter Tryz.func27, Tryz.ntmps27
 go_upto_region 1 with (with_reducible refine wpList_alloc_agg rfl 64 rfl _ rfl eZero zeroEl ?_)
 generalize (W.alloc (.cells [.slice p r.us.length c, .slice p1 r.ws.length c1, .slice p2 r.ts.length c2].toArray 31)).alloc (.cells eZero.toArray 64) = V at *
 obtain ⟨_, _, _, _, _, _⟩ := hB.three
 go_wp2_with fail
 ((with_reducible refine (dnames_b _ _ _ r k V0 _ hR0.out (h0.trans (hL.mono h0.size)) hu hw ht).mono ?_); rintro e w1 ⟨v, rfl, hv, -, hb⟩)
 replace hB := hB.below hb
 replace hX := hX.below hb
 replace hL := below_call hL hb
 clear hb
 obtain ⟨n, hn⟩ : ∃ n, Hid (n = plS (namesK r k) nm) := ⟨_, hid rfl⟩
 have hf := hid (show findv (namesK r k) nm = n from ((plS_findv _ _).symm.trans hn.out.symm))
 obtain ⟨pv, cv, rfl, -⟩ := id hv
 go_wp2_with fail
 ((with_reducible refine (lindex_b _ (namesK r k) nm n w1 _ hv (Below.refl _ _) hn).mono ?_); rintro e w2 ⟨rfl, rfl⟩)
 obtain ⟨_, _, _, _, _, _⟩ := hB.three
 by_cases hneg : n < 0
 · have z2 : decide (n < 0) = true := decide_eq_true hneg
   have HF := hid (show findv (namesK r k) nm < 0 by rw [hf.out]; exact hneg)
   clear hf hn hv hat hat1 hat2
   go_wp2_with (first | (with_reducible refine wpList_zero_agg rfl 64 rfl eZero buildEl ?_) | (with_reducible refine wpList_store_agg rfl 64 _ _ rfl rfl (W.heap.size + 1) (by with_unfolding_all rfl) Tryz.sizeOf64 eZero (by with_unfolding_all rfl) rfl hX rfl eZero_lone ?_))
   refine bodyPost_ret (results_agg_two rfl rfl rfl Tryz.isAgg64 Tryz.sizeOf64 (hX.put eZero) rfl) rfl ?_
   exact .inl ⟨HF.out, rfl, below_setRow hL (Nat.le_succ _) _⟩
 · have z2 : decide (n < 0) = false := decide_eq_false hneg
   have hnn := hf.out
   obtain ⟨i, rfl⟩ : ∃ i : Nat, n = i := ⟨n.toNat, by omega⟩
   have hlt : i < (namesK r k).length := by
    have := findv_at (l := namesK r k) (s := nm) (by rw [hnn]; exact hneg)
    rw [hnn] at this
    simpa using this
   have HF := hid (show findv (namesK r k) nm = (i : Int) ∧ i < (namesK r k).length from ⟨hnn, hlt⟩)
   have hk3 : k = 1 ∨ k = 2 ∨ k = 3 := by
    by_cases q1 : k = 1
    · exact .inl q1
    by_cases q2 : k = 2
    · exact .inr (.inl q2)
    by_cases q3 : k = 3
    · exact .inr (.inr q3)
    rw [show namesK r k = [] by unfold namesK; rw [if_neg q1, if_neg q2, if_neg q3]] at hlt
    cases hlt
   clear hf hn hv hnn
   rcases hk3 with rfl | rfl | rfl
   · rw [n1] at hlt
     obtain ⟨g, o, rfl, -⟩ := hat (by omega)
     clear hat1 hat2
     go_wp2_with fail
     ((with_reducible refine (dat1_b _ _ g o _ c i _ hlt hm).mono ?_); rintro e w3 ⟨v, rfl, hE, hb⟩)
     replace hX := hX.below hb
     replace hL := below_call hL hb
     clear hb
     obtain ⟨vs, rfl, hvl, hlo⟩ := hE.lone
     go_wp2_with (with_reducible refine wpList_store_agg rfl 64 _ _ rfl rfl (W.heap.size + 1) (by with_unfolding_all rfl) Tryz.sizeOf64 vs (by with_unfolding_all rfl) hvl hX rfl hlo ?_)
     refine bodyPost_ret (results_agg_two rfl rfl rfl Tryz.isAgg64 Tryz.sizeOf64 (hX.put vs) hvl) rfl ?_
     exact .inr ⟨i, g, o, _, c, _, HF.out.1, HF.out.2, rfl, rfl, hE.moves hX (fun c hc => setRow_other _ _ _ hc), below_setRow hL (Nat.le_succ _) _⟩
   · rw [n2] at hlt
     obtain ⟨g, o, rfl, -⟩ := hat1 (by omega)
     clear hat hat2
     go_wp2_with fail
     ((with_reducible refine (dat2_b _ _ g o _ c1 i _ hlt hm1).mono ?_); rintro e w3 ⟨v, rfl, hE, hb⟩)
     replace hX := hX.below hb
     replace hL := below_call hL hb
     clear hb
     obtain ⟨vs, rfl, hvl, hlo⟩ := hE.lone
     go_wp2_with (with_reducible refine wpList_store_agg rfl 64 _ _ rfl rfl (W.heap.size + 1) (by with_unfolding_all rfl) Tryz.sizeOf64 vs (by with_unfolding_all rfl) hvl hX rfl hlo ?_)
     refine bodyPost_ret (results_agg_two rfl rfl rfl Tryz.isAgg64 Tryz.sizeOf64 (hX.put vs) hvl) rfl ?_
     exact .inr ⟨i, g, o, _, c1, _, HF.out.1, HF.out.2, rfl, rfl, hE.moves hX (fun c hc => setRow_other _ _ _ hc), below_setRow hL (Nat.le_succ _) _⟩
   · rw [n3] at hlt
     obtain ⟨g, o, rfl, -⟩ := hat2 (by omega)
     clear hat hat1
     go_wp2_with fail
     ((with_reducible refine (dat3_b _ _ g o _ c2 i _ hlt hm2).mono ?_); rintro e w3 ⟨v, rfl, hE, hb⟩)
     replace hX := hX.below hb
     replace hL := below_call hL hb
     clear hb
     obtain ⟨vs, rfl, hvl, hlo⟩ := hE.lone
     go_wp2_with (with_reducible refine wpList_store_agg rfl 64 _ _ rfl rfl (W.heap.size + 1) (by with_unfolding_all rfl) Tryz.sizeOf64 vs (by with_unfolding_all rfl) hvl hX rfl hlo ?_)
     refine bodyPost_ret (results_agg_two rfl rfl rfl Tryz.isAgg64 Tryz.sizeOf64 (hX.put vs) hvl) rfl ?_
     exact .inr ⟨i, g, o, _, c2, _, HF.out.1, HF.out.2, rfl, rfl, hE.moves hX (fun c hc => setRow_other _ _ _ hc), below_setRow hL (Nat.le_succ _) _⟩
set_option maxRecDepth 100000 in
theorem sort_two {f : ByteArray} (hf : f ∈ fieldsv 2) : sortv f = 1 := by
 rw [fieldsW] at hf
 simp only [List.mem_cons, List.not_mem_nil, or_false] at hf
 rcases hf with rfl | rfl | rfl | rfl | rfl <;> rfl
theorem cell_field {V0 : World} {su sw st : Value} {r : R9} (hR : RAt V0 su sw st r) (hC : CapR V0 su st) {k : Int} {f : ByteArray} (hf : f ∈ fieldsv k) {i : Nat} (hi : i < (namesK r k).length) {g o n c : Nat} (hs : SliceK su sw st k = .slice (some ⟨g, o, none⟩) n c) :
 ∃ x, V0.cell? ⟨g, o + i * cellsK k + offv k f, none⟩ = some x ∧ CellV V0 x (sortv f) (valueK r k i f) ∧ CapV x := by
 obtain ⟨n1, n2, n3⟩ := names_len r
 rcases kind_of hf with rfl | rfl | rfl
 · rw [n1] at hi
   obtain ⟨p, c0, e0, hm, hat⟩ := hR.u
   obtain ⟨g2, o2, rfl, hc⟩ := hat (by omega)
   rw [show SliceK su sw st 1 = su from rfl, e0] at hs
   injection hs with hs1 hs2 hs3
   injection hs1 with hs1
   injection hs1 with hs4 hs5
   subst hs4 hs5
   obtain ⟨vs, hU, hcs⟩ := (hc i hi).ul
   obtain ⟨x, hx, hv⟩ := hU.field hf
   have hlt := off_ltU hf
   have hcx := hcs _ _ hx
   refine ⟨x, hcx, ?_, hC.u _ _ _ _ e0 (i * 19 + offv 1 f) x ?_ (by rw [← Nat.add_assoc]; exact hcx)⟩
   · show CellV V0 x (sortv f) (ofUv (r.us.getD i U9.zero) f)
     rw [List.getD_eq_getElem?_getD, List.getElem?_eq_getElem hi]
     exact hv
   · have : (i + 1) * 19 ≤ r.us.length * 19 := Nat.mul_le_mul_right _ hi
     omega
 · rw [n2] at hi
   obtain ⟨p, c0, e0, hm, hat⟩ := hR.w
   obtain ⟨g2, o2, rfl, hc⟩ := hat (by omega)
   rw [show SliceK su sw st 2 = sw from rfl, e0] at hs
   injection hs with hs1 hs2 hs3
   injection hs1 with hs1
   injection hs1 with hs4 hs5
   subst hs4 hs5
   obtain ⟨vs, hU, hcs⟩ := (hc i hi).wl
   obtain ⟨x, hx, hv⟩ := hU.field hf V0
   have hs1 := sort_two hf
   obtain rfl := hv.num hs1
   refine ⟨_, hcs _ _ hx, ?_, cap_no (by intros; intro q; cases q)⟩
   show CellV V0 _ (sortv f) (ofWv (r.ws.getD i W9.zero) f)
   rw [List.getD_eq_getElem?_getD, List.getElem?_eq_getElem hi]
   exact hv
 · rw [n3] at hi
   obtain ⟨p, c0, e0, hm, hat⟩ := hR.t
   obtain ⟨g2, o2, rfl, hc⟩ := hat (by omega)
   rw [show SliceK su sw st 3 = st from rfl, e0] at hs
   injection hs with hs1 hs2 hs3
   injection hs1 with hs1
   injection hs1 with hs4 hs5
   subst hs4 hs5
   obtain ⟨vs, hU, hcs⟩ := (hc i hi).tl
   obtain ⟨x, hx, hv⟩ := hU.field hf
   have hlt := off_ltT hf
   have hcx := hcs _ _ hx
   refine ⟨x, hcx, ?_, hC.t _ _ _ _ e0 (i * 8 + offv 3 f) x ?_ (by rw [← Nat.add_assoc]; exact hcx)⟩
   · show CellV V0 x (sortv f) (ofTv (r.ts.getD i T9.zero) f)
     rw [List.getD_eq_getElem?_getD, List.getElem?_eq_getElem hi]
     exact hv
   · have : (i + 1) * 8 ≤ r.ts.length * 8 := Nat.mul_le_mul_right _ hi
     omega
set_option maxHeartbeats 8000000 in
set_option maxRecDepth 100000 in
theorem dget_b (su sw st : Value) (r : R9) (k : Int) (nm f : ByteArray) (V0 W : World) (hE : EnvR W) (hR : RAt V0 su sw st r) (hC : CapR V0 su st) (h0 : Below V0.heap.size V0 W) (hI : IntsV r) (hS9 : ShortV 4000000 r) (hu : r.us.length ≤ 10000) (hw : r.ws.length ≤ 10000) (ht : r.ts.length ≤ 10000) :
 Calls Tryz.prog 14 #[.agg #[su, sw, st], .int .i64 k, .string nm, .string f] W (GetPost r k nm f W) := by
 have hR0 := hid hR
 have hC0 := hid hC
 obtain ⟨p, c, rfl, hm, -⟩ := hR.u
 obtain ⟨p1, c1, rfl, hm1, -⟩ := hR.w
 obtain ⟨p2, c2, rfl, hm2, -⟩ := hR.t
 have hB := Blk.new W [.slice p r.us.length c, .slice p1 r.ws.length c1, .slice p2 r.ts.length c2] 31
 have hL := (Below.refl W.heap.size W).alloc (Nat.le_refl _) (.cells [.slice p r.us.length c, .slice p1 r.ws.length c1, .slice p2 r.ts.length c2].toArray 31)
 clear hR hm hm1 hm2 hC
 obtain ⟨b, hb0⟩ : ∃ b, Hid (b = hasv (fieldsv k) f) := ⟨_, hid rfl⟩
 go_enter Tryz.func14, Tryz.ntmps14
 go_upto_region 1 with fail
 generalize W.alloc (.cells [.slice p r.us.length c, .slice p1 r.ws.length c1, .slice p2 r.ts.length c2].toArray 31) = V at *
 go_wp2_with fail
 ((with_reducible refine (disfield_b k f b _ hb0).mono ?_); rintro e w1 ⟨rfl, hb⟩)
 replace hB := hB.below hb
 replace hL := below_call hL hb
 clear hb
 have hty := hid (hb0.out.trans dtyp_no)
 cases b with
 | false =>
  have hg := hid (show getv10 r k nm f = none by
   unfold getv10
   have := of_decide_eq_false hty.out.symm
   rw [if_pos (Classical.not_not.1 this)])
  clear hty hb0
  go_wp2_with fail
  go_ret2
  exact .inl ⟨hg.out, rfl, hL⟩
 | true =>
  have hty2 := of_decide_eq_true hty.out.symm
  have hfk : f ∈ fieldsv k := (hasv_iff.1 hb0.out.symm)
  have htv := type_in hfk
  have hG := hid (show getv10 r k nm f = if findv (namesK r k) nm < 0 then none else some (textL (sortv f) (valueK r k (findv (namesK r k) nm).toNat f)) by unfold getv10; rw [if_neg hty2, htv])
  obtain ⟨_, _, _, _, _, _⟩ := hB.three
  clear hty hb0 hty2
  go_wp2_with fail
  ((with_reducible refine (dfind_b _ _ _ r k nm V0 _ hR0.out (h0.trans (hL.mono h0.size)) hu hw ht).mono ?_); rintro e w2 hP)
  rcases hP with ⟨hn, rfl, hb⟩ | ⟨i, g, o, n, cc, v, hn, hi, hs, rfl, hEl, hb⟩
  · have hg := hid (show getv10 r k nm f = none by rw [hG.out, if_pos hn])
    have hL2 := below_call hL hb
    clear hG hn htv hfk hB hb
    go_wp2_with (first | (with_reducible refine wpList_alloc_agg rfl 64 rfl _ rfl eZero zeroEl ?_) | (with_reducible refine wpList_store_new rfl 64 _ _ rfl rfl Tryz.sizeOf64 eZero eZero 64 (by with_unfolding_all rfl) (by with_unfolding_all rfl) rfl rfl eZero_lone ?_))
    go_ret2
    exact .inl ⟨hg.out, rfl, hL2.alloc hL2.size _⟩
  · have hg := hid (show getv10 r k nm f = some (textL (sortv f) (valueK r k i f)) by rw [hG.out, hn, if_neg (by omega), Int.toNat_natCast])
    have hL2 := below_call hL hb
    obtain ⟨x, hx, hv, hcap⟩ := cell_field hR0.out hC0.out hfk hi hs
    have hint : I64 (valueK r k i f).n := hI k i f hfk hi
    have hsho := hS9 k i f hfk hi
    rw [htv] at hsho
    obtain ⟨vs, rfl, hvl, hlo⟩ := hEl.lone
    have hX := Blk.new w2 vs 64
    have hL3 := hL2.alloc hL2.size (.cells vs.toArray 64)
    have hE3 := hE.keep hL3
    have hEl3 := hEl.below ((Below.refl _ _).alloc (Nat.le_refl _) (.cells vs.toArray 64))
    have h03 := h0.trans (hL3.mono h0.size)
    have hx3 := (h03.cell (p := ⟨g, o + i * cellsK k + offv k f, none⟩) (World.block_lt_of_cell? V0 _ hx)).trans hx
    have hv3 := hv.below h03
    generalize valueK r k i f = vv at *
    generalize i * cellsK k = ik at *
    have kx := hid (hX.loads (P := Tryz.prog) hvl)
    clear hG hn htv hB hb hEl hs hi hI hS9 hv hx hX
    obtain ⟨tt, htt⟩ : ∃ t, Hid (t = textL (sortv f) vv) := ⟨_, hid rfl⟩
    rw [← htt.out] at hg
    go_upto_region 4 with (first | (with_reducible refine wpList_alloc_agg rfl 64 rfl _ rfl eZero zeroEl ?_) | (with_reducible refine wpList_store_new rfl 64 _ _ rfl rfl Tryz.sizeOf64 vs eZero 64 (by with_unfolding_all rfl) (by with_unfolding_all rfl) hvl rfl hlo ?_))
    generalize hQ : w2.alloc (.cells vs.toArray 64) = X at *
    clear hQ
    go_wp2_with (with_reducible refine wpList_load_agg rfl 64 _ rfl ⟨w2.heap.size, 0, none⟩ (by with_unfolding_all rfl) Tryz.isAgg64 Tryz.sizeOf64 vs kx.out ?_)
    ((with_reducible refine (dtext_b k g (o + ik) _ f x vv _ hE3 hEl3 hfk hx3 hv3 hcap (fun _ => hint) hsho).mono ?_); rintro e w3 ⟨rfl, hb⟩)
    rw [← htt.out]
    go_wp2_with fail
    go_ret2
    exact .inr ⟨tt, hg.out, rfl, below_call hL3 hb⟩
end

end Go.Proofs.YtnjcdmjaecgblaaGreatDoor
