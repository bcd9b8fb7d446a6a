/-
  The numbers, names and texts of map files, as plain functions; Rules as text: a value that is read has the text that was read; the text of a good value is read as this value. No program is named here; Rules as text: what a field holds behind a change of it. No program is named here; The imports of the walks and small facts on endings. No program is named here; What the reference of rules answers: names, elements, limits; What the laws of ruletext ask of the functions; What the reference of rules answers: needs, the order, Validate, Same; The reference of rules, as the laws ask it: Same, Validate.
-/
import Derived.Test.YtnjcdmjaecgblaaGreatDoorZC00
import Derived.Laws.StructEq
import Derived.Deep.Cut
import Derived.Deep.Upon
import Derived.Deep.AppendSrc
namespace Go.Proofs.YtnjcdmjaecgblaaGreatDoor
section
section
open Go.RowKit Go.Lib
theorem cutC_none {c : UInt8} : ∀ (x : List UInt8), c ∉ x → cutC c x = (x, [], false) := by
 intro x
 induction x with
 | nil => intro _; rfl
 | cons b x ih =>
  intro h
  rw [List.mem_cons, not_or] at h
  rw [cutC, if_neg (fun e => h.1 e.symm), ih h.2]
theorem parts_of {c : UInt8} (x y : List UInt8) (h : c ∉ x) : parts c (x ++ c :: y) = x :: parts c y := by
 rw [parts_cut, cutC_of x y h]; rfl
theorem parts_one {c : UInt8} (x : List UInt8) (h : c ∉ x) : parts c x = [x] := by
 rw [parts_cut, cutC_none x h]; rfl
end
end
section
open Go.RowKit Go.Lib
theorem toB_list (l : List UInt8) : (toB l).toList = l := by unfold toB; rw [Lib.toList_data]
theorem empty_list : (ByteArray.mk #[]).toList = [] := by rw [Lib.toList_data]
theorem name_ne {s : List UInt8} (h : nameB s = true) : ¬ s = [] := fun e => by have := (name_len h).1; subst e; simp at this
end
section
open Go.RowKit Go.Lib
set_option maxRecDepth 100000 in
theorem withU_of (u : U9) (f : ByteArray) (h : f ∈ fieldsv 1) : withUv u f (ofUv u f) = u := by
 rw [fieldsU] at h
 simp only [List.mem_cons, List.not_mem_nil, or_false] at h
 rcases h with rfl | rfl | rfl | rfl | rfl | rfl | rfl | rfl | rfl | rfl | rfl | rfl | rfl | rfl | rfl | rfl | rfl | rfl <;> rfl
end
section
open Go.RowKit Go.Lib
theorem ret_bool {a b : Bool} (h : a = b) : Ending.returned (.bool a) = .returned (.bool b) := by rw [h]
end
section
section
open Go.RowKit Go.Lib
theorem word_iff (c : UInt8) : wordB c = decide ((97 ≤ (c.toNat : Int) ∧ (c.toNat : Int) ≤ 122) ∨ (48 ≤ (c.toNat : Int) ∧ (c.toNat : Int) ≤ 57) ∨ (c.toNat : Int) = 95) := by
 have h5 : (c == 95) = decide (c.toNat = 95) := by
  by_cases h : c = 95
  · rw [h]; rfl
  · have hn : ¬ c.toNat = 95 := fun e => h (UInt8.toNat_inj.1 (by show c.toNat = 95; exact e))
    rw [beq_eq_false_iff_ne.2 h, decide_eq_false hn]
 unfold wordB letB digB
 rw [h5, Bool.eq_iff_iff]
 simp only [Bool.or_eq_true, decide_eq_true_eq]
 omega
theorem name_short {s : List UInt8} (h : ¬ (1 ≤ s.length ∧ s.length ≤ 12)) : nameB s = false := by
 unfold nameB
 rw [decide_eq_false h, Bool.false_and]
theorem name_head {s : List UInt8} {c : UInt8} {l : List UInt8} (e : s = c :: l) (h : letB c = false) : nameB s = false := by
 subst e
 unfold nameB
 simp only [h, Bool.false_and, Bool.and_false]
theorem name_all {s : List UInt8} {c : UInt8} {l : List UInt8} (e : s = c :: l) (hl : s.length ≤ 12) (h : letB c = true) : nameB s = s.all wordB := by
 have hw : wordB c = true := by unfold wordB; rw [h]; rfl
 subst e
 unfold nameB
 rw [decide_eq_true ⟨by simp, hl⟩]
 simp only [h, List.all_cons, hw, Bool.true_and]
theorem let_iff (c : UInt8) : letB c = decide (97 ≤ (c.toNat : Int) ∧ (c.toNat : Int) ≤ 122) := by
 unfold letB
 rw [Bool.eq_iff_iff]
 simp only [decide_eq_true_eq]
 omega
set_option maxHeartbeats 4000000 in
set_option maxRecDepth 100000 in
theorem r9name_b (s : ByteArray) (b : Bool) (W : World) (e : Hid (b = nameB s.data.toList)) :
 Calls Tryz.prog 78 #[.string s] W fun e w' => e = .returned (.bool b) ∧ W = w' := by
 have hsl : s.data.toList.length = s.size := (Lib.size_eq s).symm
 by_cases h1 : s.size < 1
 · have z1 : decide ((s.size : Int) < 1) = true := decide_eq_true (by omega)
   have hb := e.out.trans (name_short (by omega))
   subst hb
   clear e
   go_enter Tryz.func78, Tryz.ntmps78
   go_wp2_with fail
   go_ret
   exact ⟨rfl, rfl⟩
 have z1 : decide ((s.size : Int) < 1) = false := decide_eq_false (by omega)
 by_cases h2 : 12 < s.size
 · have z2 : decide ((12 : Int) < s.size) = true := decide_eq_true (by omega)
   have hb := e.out.trans (name_short (by omega))
   subst hb
   clear e
   go_enter Tryz.func78, Tryz.ntmps78
   go_wp2_with fail
   go_ret
   exact ⟨rfl, rfl⟩
 have z2 : decide ((12 : Int) < s.size) = false := decide_eq_false (by omega)
 have h0 : 0 < s.size := by omega
 have d0 : (0 : Int) < s.size := by omega
 obtain ⟨c0, l, hcl⟩ : ∃ c l, s.data.toList = c :: l := by
  cases h : s.data.toList with
  | nil => rw [h] at hsl; simp at hsl; omega
  | cons a b => exact ⟨a, b, rfl⟩
 have hc0 : s[0]'h0 = c0 := by
  have : s.data.toList[0]'(by omega) = c0 := by simp only [hcl, List.getElem_cons_zero]
  exact this
 have hli := let_iff c0
 obtain ⟨q, hq⟩ : ∃ q : Int, (c0.toNat : Int) = q := ⟨_, rfl⟩
 rw [hq] at hli
 have e0 : ((s[0]'h0).toNat : Int) = q := by rw [hc0, hq]
 by_cases h3 : q < 97
 · have z3 : decide (q < 97) = true := decide_eq_true h3
   have hb := e.out.trans (name_head hcl (hli.trans (decide_eq_false (by omega))))
   subst hb
   clear e hcl hli hc0
   go_enter Tryz.func78, Tryz.ntmps78
   go_wp2_with fail
   go_ret
   exact ⟨rfl, rfl⟩
 have z3 : decide (q < 97) = false := decide_eq_false h3
 by_cases h4 : 122 < q
 · have z4 : decide (122 < q) = true := decide_eq_true h4
   have hb := e.out.trans (name_head hcl (hli.trans (decide_eq_false (by omega))))
   subst hb
   clear e hcl hli hc0
   go_enter Tryz.func78, Tryz.ntmps78
   go_wp2_with fail
   go_ret
   exact ⟨rfl, rfl⟩
 have z4 : decide (122 < q) = false := decide_eq_false h4
 replace e := hid (e.out.trans (name_all hcl (by omega) (hli.trans (decide_eq_true (by omega)))))
 clear hcl hli hc0 hq
 go_enter Tryz.func78, Tryz.ntmps78
 go_wp2_with fail
 clear z1 z2 z3 z4 e0
 go_loop [3] (fun vi => ∃ k : Nat, vi = .int .i64 k ∧ k ≤ s.size ∧ Hid ((s.data.toList.take k).all wordB = true)) (fun vi => s.size - (RowKit.intOf vi).toNat)
 case atStart => exact ⟨0, rfl, by omega, hid rfl⟩
 case round =>
  obtain ⟨k, rfl, hk, hA⟩ := hrel
  by_cases hlt : k < s.size
  · have k0 : (0 : Int) ≤ k := by omega
    have k1 : (k : Int) < s.size := by omega
    obtain ⟨c, hc⟩ : ∃ c : Int, ((s[k]'hlt).toNat : Int) = c := ⟨_, rfl⟩
    have hw := word_iff (s[k]'hlt)
    rw [hc] at hw
    have HY := fun (q : (97 ≤ c ∧ c ≤ 122) ∨ (48 ≤ c ∧ c ≤ 57) ∨ c = 95) => hid (show (s.data.toList.take (k + 1)).all wordB = true by
     rw [take_nx hlt, List.all_append, hA.out, List.all_cons, hw, decide_eq_true q]; rfl)
    have HN := fun (q : ¬ ((97 ≤ c ∧ c ≤ 122) ∨ (48 ≤ c ∧ c ≤ 57) ∨ c = 95)) => hid (show s.data.toList.all wordB = false by
     cases hx : s.data.toList.all wordB with
     | false => rfl
     | true =>
      have := List.all_eq_true.1 hx (s[k]'hlt) (List.getElem_mem (l := s.data.toList) (by omega))
      rw [hw, decide_eq_false q] at this
      cases this)
    clear hA hw
    have hcs : (97 ≤ c ∧ c ≤ 122) ∨ (48 ≤ c ∧ c ≤ 57) ∨ (c = 95) ∨ (122 < c) ∨ (c < 48) ∨ ((58 ≤ c ∧ c ≤ 94) ∨ c = 96) := by omega
    rcases hcs with h | h | h | h | h | h
    · have y0 : decide (97 ≤ c) = true := decide_eq_true (by omega)
      have y1 : decide (c ≤ 122) = true := decide_eq_true (by omega)
      have HS := (HY (by omega))
      clear HN HY
      go_wp2_with fail
      go_round
      case rel => exact ⟨k + 1, by go_num, by omega, HS⟩
      case measure => simp [RowKit.intOf]; omega
    · have y0 : decide (97 ≤ c) = false := decide_eq_false (by omega)
      have y1 : decide (48 ≤ c) = true := decide_eq_true (by omega)
      have y2 : decide (c ≤ 57) = true := decide_eq_true (by omega)
      have HS := (HY (by omega))
      clear HN HY
      go_wp2_with fail
      go_round
      case rel => exact ⟨k + 1, by go_num, by omega, HS⟩
      case measure => simp [RowKit.intOf]; omega
    · have y0 : decide (97 ≤ c) = false := decide_eq_false (by omega)
      have y1 : decide (48 ≤ c) = true := decide_eq_true (by omega)
      have y2 : decide (c ≤ 57) = false := decide_eq_false (by omega)
      have y3 : (c != 95) = false := by rw [h]; rfl
      have HS := (HY (by omega))
      clear HN HY
      go_wp2_with fail
      go_round
      case rel => exact ⟨k + 1, by go_num, by omega, HS⟩
      case measure => simp [RowKit.intOf]; omega
    · have y0 : decide (97 ≤ c) = true := decide_eq_true (by omega)
      have y1 : decide (c ≤ 122) = false := decide_eq_false (by omega)
      have y2 : decide (48 ≤ c) = true := decide_eq_true (by omega)
      have y3 : decide (c ≤ 57) = false := decide_eq_false (by omega)
      have y4 : (c != 95) = true := by simp; omega
      have hb := e.out.trans (HN (by omega)).out
      subst hb
      clear HN HY e
      go_wp2_with fail
      go_ret
      exact ⟨rfl, rfl⟩
    · have y0 : decide (97 ≤ c) = false := decide_eq_false (by omega)
      have y1 : decide (48 ≤ c) = false := decide_eq_false (by omega)
      have y2 : (c != 95) = true := by simp; omega
      have hb := e.out.trans (HN (by omega)).out
      subst hb
      clear HN HY e
      go_wp2_with fail
      go_ret
      exact ⟨rfl, rfl⟩
    · have y0 : decide (97 ≤ c) = false := decide_eq_false (by omega)
      have y1 : decide (48 ≤ c) = true := decide_eq_true (by omega)
      have y2 : decide (c ≤ 57) = false := decide_eq_false (by omega)
      have y3 : (c != 95) = true := by simp; omega
      have hb := e.out.trans (HN (by omega)).out
      subst hb
      clear HN HY e
      go_wp2_with fail
      go_ret
      exact ⟨rfl, rfl⟩
  · obtain rfl : k = s.size := by omega
    have ha := hA.out
    rw [List.take_of_length_le (by omega)] at ha
    have hb := e.out.trans ha
    subst hb
    have d1 : ¬ (s.size : Int) < s.size := by omega
    clear ha hA e
    go_wp2_with fail
    go_ret
    exact ⟨rfl, rfl⟩
end
section
open Go.RowKit Go.Lib
theorem UL.below {W w' : World} {vs : List Value} {u : U9} (h : UL W vs u) (hb : Below W.heap.size W w') : UL w' vs u := by
 obtain ⟨sn, st, sr, h0, h1, h2, h3⟩ := h
 exact ⟨sn, st, sr, h0, h1.below hb, h2.below hb, h3.below hb⟩
end
end
section
open Go.RowKit Go.Lib
abbrev RSameP : Prop := ∀ (su sw st tu tw tt : Value) (r s : R9) (b : Bool) (V0 W : World), RAt V0 su sw st r → RAt V0 tu tw tt s → Below V0.heap.size V0 W → Hid (b = decide (r = s)) →
 Calls Tryz.prog 18 #[.agg #[su, sw, st], .agg #[tu, tw, tt]] W fun e w' => e = .returned (.bool b) ∧ Below W.heap.size W w'
end
section
section
open Go.RowKit Go.Lib
theorem deq_int (a b : Int) : decide (a = b) = (a == b) := by
 by_cases h : a = b
 · subst h; simp
 · rw [decide_eq_false h]; exact (beq_eq_false_iff_ne.2 h).symm
theorem deq_str (a b : ByteArray) : decide (a = b) = (a.toList == b.toList) := by
 by_cases h : a = b
 · subst h; simp
 · rw [decide_eq_false h]; exact (ne_list h).1.symm
theorem deq_bool (a b : Bool) : decide (a = b) = (a == b) := by cases a <;> cases b <;> rfl
theorem U9_eq (u v : U9) : decide (u = v) = (decide (u.cls = v.cls) && decide (u.w = v.w) && decide (u.h = v.h) && decide (u.rad = v.rad) && decide (u.spd = v.spd) && decide (u.sgt = v.sgt) && decide (u.hp = v.hp) && decide (u.arm = v.arm) && decide (u.load = v.load) && decide (u.ore = v.ore) && decide (u.wood = v.wood) && decide (u.time = v.time) && decide (u.nm = v.nm) && decide (u.bld = v.bld) && decide (u.dep = v.dep) && decide (u.wpn = v.wpn) && decide (u.needs = v.needs) && decide (u.trains = v.trains) && decide (u.ress = v.ress)) := by
 rw [Bool.eq_iff_iff]
 simp only [Bool.and_eq_true, decide_eq_true_eq, and_assoc]
 cases u
 cases v
 simp only [U9.mk.injEq]
 try exact ⟨fun ⟨a0, a1, a2, a3, a4, a5, a6, a7, a8, a9, a10, a11, a12, a13, a14, a15, a16, a17, a18⟩ => ⟨a3, a4, a5, a6, a7, a8, a9, a10, a11, a13, a14, a15, a0, a1, a2, a12, a16, a17, a18⟩, fun ⟨a3, a4, a5, a6, a7, a8, a9, a10, a11, a13, a14, a15, a0, a1, a2, a12, a16, a17, a18⟩ => ⟨a0, a1, a2, a3, a4, a5, a6, a7, a8, a9, a10, a11, a12, a13, a14, a15, a16, a17, a18⟩⟩
theorem T9_eq (u v : T9) : decide (u = v) = (decide (u.nm = v.nm) && decide (u.needs = v.needs) && decide (u.ore = v.ore) && decide (u.wood = v.wood) && decide (u.time = v.time) && decide (u.un = v.un) && decide (u.stat = v.stat) && decide (u.amt = v.amt)) := by
 rw [Bool.eq_iff_iff]
 simp only [Bool.and_eq_true, decide_eq_true_eq, and_assoc]
 cases u
 cases v
 simp only [T9.mk.injEq]
 try exact ⟨fun ⟨a0, a1, a2, a3, a4, a5, a6, a7⟩ => ⟨a0, a1, a2, a3, a4, a5, a6, a7⟩, fun ⟨a0, a1, a2, a3, a4, a5, a6, a7⟩ => ⟨a0, a1, a2, a3, a4, a5, a6, a7⟩⟩
set_option maxHeartbeats 8000000 in
set_option maxRecDepth 100000 in
theorem r9samet_b (u v : T9) (us vs : List Value) (b : Bool) (V0 W : World) (hU : TL V0 us u) (hV : TL V0 vs v) (h0 : Below V0.heap.size V0 W) (e : Hid (b = decide (u = v))) :
 Calls Tryz.prog 40 #[.agg us.toArray, .agg vs.toArray] W fun e w' => e = .returned (.bool b) ∧ Below W.heap.size W w' := by
 have hB := (Blk.new W us 56).alloc (.cells vs.toArray 56)
 have hC := (Blk.new (W.alloc (.cells us.toArray 56)) vs 56).at (World.size_alloc _ _)
 have hL := ((Below.refl W.heap.size W).alloc (Nat.le_refl _) (.cells us.toArray 56)).alloc (by simp) (.cells vs.toArray 56)
 obtain ⟨pu0, cu0, hlu, su0⟩ := hU.lists
 obtain ⟨pv0, cv0, hlv, sv0⟩ := hV.lists
 replace hlu := hid hlu
 replace hlv := hid hlv
 have hV0 := h0.trans (hL.mono h0.size)
 clear hU hV
 go_enter Tryz.func40, Tryz.ntmps40
 go_upto_region 1 with fail
 generalize (W.alloc (.cells us.toArray 56)).alloc (.cells vs.toArray 56) = V at *
 obtain ⟨q0, h0⟩ : ∃ q, (u.nm.toList == v.nm.toList) = q := ⟨_, rfl⟩
 obtain ⟨q1, h1⟩ : ∃ q, Hid (q = decide (u.needs = v.needs)) := ⟨_, hid rfl⟩
 obtain ⟨q2, h2⟩ : ∃ q, (u.ore == v.ore) = q := ⟨_, rfl⟩
 obtain ⟨q3, h3⟩ : ∃ q, (u.wood == v.wood) = q := ⟨_, rfl⟩
 obtain ⟨q4, h4⟩ : ∃ q, (u.time == v.time) = q := ⟨_, rfl⟩
 obtain ⟨q5, h5⟩ : ∃ q, (u.un.toList == v.un.toList) = q := ⟨_, rfl⟩
 obtain ⟨q6, h6⟩ : ∃ q, (u.stat == v.stat) = q := ⟨_, rfl⟩
 obtain ⟨q7, h7⟩ : ∃ q, (u.amt == v.amt) = q := ⟨_, rfl⟩
 replace e := hid (show b = (q0 && q1 && q2 && q3 && q4 && q5 && q6 && q7) by rw [e.out, T9_eq, deq_str u.nm, h0, ← h1.out, deq_int u.ore, h2, deq_int u.wood, h3, deq_int u.time, h4, deq_str u.un, h5, deq_int u.stat, h6, deq_int u.amt, h7])
 have uf0 : V.cell? ⟨W.heap.size, 0, none⟩ = some (.string u.nm) := (hB.cell 0).trans (by rw [hlu.out]; rfl)
 have vf0 : V.cell? ⟨W.heap.size + 1, 0, none⟩ = some (.string v.nm) := (hC.cell 0).trans (by rw [hlv.out]; rfl)
 have uf1 : V.cell? ⟨W.heap.size, 1, none⟩ = some (.slice pu0 u.needs.length cu0) := (hB.cell 1).trans (by rw [hlu.out]; rfl)
 have vf1 : V.cell? ⟨W.heap.size + 1, 1, none⟩ = some (.slice pv0 v.needs.length cv0) := (hC.cell 1).trans (by rw [hlv.out]; rfl)
 have uf2 : V.cell? ⟨W.heap.size, 2, none⟩ = some (.int .i64 u.ore) := (hB.cell 2).trans (by rw [hlu.out]; rfl)
 have vf2 : V.cell? ⟨W.heap.size + 1, 2, none⟩ = some (.int .i64 v.ore) := (hC.cell 2).trans (by rw [hlv.out]; rfl)
 have uf3 : V.cell? ⟨W.heap.size, 3, none⟩ = some (.int .i64 u.wood) := (hB.cell 3).trans (by rw [hlu.out]; rfl)
 have vf3 : V.cell? ⟨W.heap.size + 1, 3, none⟩ = some (.int .i64 v.wood) := (hC.cell 3).trans (by rw [hlv.out]; rfl)
 have uf4 : V.cell? ⟨W.heap.size, 4, none⟩ = some (.int .i64 u.time) := (hB.cell 4).trans (by rw [hlu.out]; rfl)
 have vf4 : V.cell? ⟨W.heap.size + 1, 4, none⟩ = some (.int .i64 v.time) := (hC.cell 4).trans (by rw [hlv.out]; rfl)
 have uf5 : V.cell? ⟨W.heap.size, 5, none⟩ = some (.string u.un) := (hB.cell 5).trans (by rw [hlu.out]; rfl)
 have vf5 : V.cell? ⟨W.heap.size + 1, 5, none⟩ = some (.string v.un) := (hC.cell 5).trans (by rw [hlv.out]; rfl)
 have uf6 : V.cell? ⟨W.heap.size, 6, none⟩ = some (.int .i64 u.stat) := (hB.cell 6).trans (by rw [hlu.out]; rfl)
 have vf6 : V.cell? ⟨W.heap.size + 1, 6, none⟩ = some (.int .i64 v.stat) := (hC.cell 6).trans (by rw [hlv.out]; rfl)
 have uf7 : V.cell? ⟨W.heap.size, 7, none⟩ = some (.int .i64 u.amt) := (hB.cell 7).trans (by rw [hlu.out]; rfl)
 have vf7 : V.cell? ⟨W.heap.size + 1, 7, none⟩ = some (.int .i64 v.amt) := (hC.cell 7).trans (by rw [hlv.out]; rfl)
 go_wp2_with (first
  | (go_at_call 9; with_reducible refine (r9names_b u.needs v.needs (.slice pu0 u.needs.length cu0) (.slice pv0 v.needs.length cv0) q1 _ (su0.below hV0) (sv0.below hV0) h1).mono ?_; rintro e w0 ⟨rfl, hb⟩
     replace hV0 := hV0.trans (hb.mono hV0.size)
     replace hL := below_call hL hb
     replace uf2 := (hb.cell (p := ⟨W.heap.size, 2, none⟩) (hB.lt)).trans uf2
     replace uf3 := (hb.cell (p := ⟨W.heap.size, 3, none⟩) (hB.lt)).trans uf3
     replace uf4 := (hb.cell (p := ⟨W.heap.size, 4, none⟩) (hB.lt)).trans uf4
     replace uf5 := (hb.cell (p := ⟨W.heap.size, 5, none⟩) (hB.lt)).trans uf5
     replace uf6 := (hb.cell (p := ⟨W.heap.size, 6, none⟩) (hB.lt)).trans uf6
     replace uf7 := (hb.cell (p := ⟨W.heap.size, 7, none⟩) (hB.lt)).trans uf7
     replace vf2 := (hb.cell (p := ⟨W.heap.size + 1, 2, none⟩) (hC.lt)).trans vf2
     replace vf3 := (hb.cell (p := ⟨W.heap.size + 1, 3, none⟩) (hC.lt)).trans vf3
     replace vf4 := (hb.cell (p := ⟨W.heap.size + 1, 4, none⟩) (hC.lt)).trans vf4
     replace vf5 := (hb.cell (p := ⟨W.heap.size + 1, 5, none⟩) (hC.lt)).trans vf5
     replace vf6 := (hb.cell (p := ⟨W.heap.size + 1, 6, none⟩) (hC.lt)).trans vf6
     replace vf7 := (hb.cell (p := ⟨W.heap.size + 1, 7, none⟩) (hC.lt)).trans vf7
     replace hB := hB.below hb
     replace hC := hC.below hb
     clear hb))
 all_goals
  go_ret
  exact ⟨ret_bool (by rw [e.out]; simp only [Bool.false_and, Bool.and_false, Bool.true_and, Bool.and_self, *]), hL⟩
set_option maxHeartbeats 8000000 in
set_option maxRecDepth 100000 in
theorem r9sameu_b (u v : U9) (us vs : List Value) (b : Bool) (V0 W : World) (hU : UL V0 us u) (hV : UL V0 vs v) (h0 : Below V0.heap.size V0 W) (e : Hid (b = decide (u = v))) :
 Calls Tryz.prog 39 #[.agg us.toArray, .agg vs.toArray] W fun e w' => e = .returned (.bool b) ∧ Below W.heap.size W w' := by
 have hB := (Blk.new W us 53).alloc (.cells vs.toArray 53)
 have hC := (Blk.new (W.alloc (.cells us.toArray 53)) vs 53).at (World.size_alloc _ _)
 have hL := ((Below.refl W.heap.size W).alloc (Nat.le_refl _) (.cells us.toArray 53)).alloc (by simp) (.cells vs.toArray 53)
 obtain ⟨pu0, cu0, pu1, cu1, pu2, cu2, hlu, su0, su1, su2⟩ := hU.lists
 obtain ⟨pv0, cv0, pv1, cv1, pv2, cv2, hlv, sv0, sv1, sv2⟩ := hV.lists
 replace hlu := hid hlu
 replace hlv := hid hlv
 have hV0 := h0.trans (hL.mono h0.size)
 clear hU hV
 go_enter Tryz.func39, Tryz.ntmps39
 go_upto_region 1 with fail
 generalize (W.alloc (.cells us.toArray 53)).alloc (.cells vs.toArray 53) = V at *
 obtain ⟨q3, h3⟩ : ∃ q, (u.cls == v.cls) = q := ⟨_, rfl⟩
 obtain ⟨q4, h4⟩ : ∃ q, (u.w == v.w) = q := ⟨_, rfl⟩
 obtain ⟨q5, h5⟩ : ∃ q, (u.h == v.h) = q := ⟨_, rfl⟩
 obtain ⟨q6, h6⟩ : ∃ q, (u.rad == v.rad) = q := ⟨_, rfl⟩
 obtain ⟨q7, h7⟩ : ∃ q, (u.spd == v.spd) = q := ⟨_, rfl⟩
 obtain ⟨q8, h8⟩ : ∃ q, (u.sgt == v.sgt) = q := ⟨_, rfl⟩
 obtain ⟨q9, h9⟩ : ∃ q, (u.hp == v.hp) = q := ⟨_, rfl⟩
 obtain ⟨q10, h10⟩ : ∃ q, (u.arm == v.arm) = q := ⟨_, rfl⟩
 obtain ⟨q11, h11⟩ : ∃ q, (u.load == v.load) = q := ⟨_, rfl⟩
 obtain ⟨q13, h13⟩ : ∃ q, (u.ore == v.ore) = q := ⟨_, rfl⟩
 obtain ⟨q14, h14⟩ : ∃ q, (u.wood == v.wood) = q := ⟨_, rfl⟩
 obtain ⟨q15, h15⟩ : ∃ q, (u.time == v.time) = q := ⟨_, rfl⟩
 obtain ⟨q0, h0⟩ : ∃ q, (u.nm.toList == v.nm.toList) = q := ⟨_, rfl⟩
 obtain ⟨q1, h1⟩ : ∃ q, (u.bld == v.bld) = q := ⟨_, rfl⟩
 obtain ⟨q2, h2⟩ : ∃ q, (u.dep == v.dep) = q := ⟨_, rfl⟩
 obtain ⟨q12, h12⟩ : ∃ q, (u.wpn.toList == v.wpn.toList) = q := ⟨_, rfl⟩
 obtain ⟨q16, h16⟩ : ∃ q, Hid (q = decide (u.needs = v.needs)) := ⟨_, hid rfl⟩
 obtain ⟨q17, h17⟩ : ∃ q, Hid (q = decide (u.trains = v.trains)) := ⟨_, hid rfl⟩
 obtain ⟨q18, h18⟩ : ∃ q, Hid (q = decide (u.ress = v.ress)) := ⟨_, hid rfl⟩
 replace e := hid (show b = (q3 && q4 && q5 && q6 && q7 && q8 && q9 && q10 && q11 && q13 && q14 && q15 && q0 && q1 && q2 && q12 && q16 && q17 && q18) by rw [e.out, U9_eq, deq_int u.cls, h3, deq_int u.w, h4, deq_int u.h, h5, deq_int u.rad, h6, deq_int u.spd, h7, deq_int u.sgt, h8, deq_int u.hp, h9, deq_int u.arm, h10, deq_int u.load, h11, deq_int u.ore, h13, deq_int u.wood, h14, deq_int u.time, h15, deq_str u.nm, h0, deq_bool u.bld, h1, deq_bool u.dep, h2, deq_str u.wpn, h12, ← h16.out, ← h17.out, ← h18.out])
 obtain ⟨nb, hnb⟩ : ∃ q, Hid (q = (q3 && q4 && q5 && q6 && q7 && q8 && q9 && q10 && q11 && q13 && q14 && q15)) := ⟨_, hid rfl⟩
 replace e := hid (show b = (nb && q0 && q1 && q2 && q12 && q16 && q17 && q18) by rw [e.out, hnb.out]; try simp only [Bool.and_assoc])
 go_cut [5] from 6 (fun s5 wx => s5 = .bool nb ∧ V = wx)
 case first =>
  have uf3 : V.cell? ⟨W.heap.size, 3, none⟩ = some (.int .i64 u.cls) := (hB.cell 3).trans (by rw [hlu.out]; rfl)
  have vf3 : V.cell? ⟨W.heap.size + 1, 3, none⟩ = some (.int .i64 v.cls) := (hC.cell 3).trans (by rw [hlv.out]; rfl)
  have uf4 : V.cell? ⟨W.heap.size, 4, none⟩ = some (.int .i64 u.w) := (hB.cell 4).trans (by rw [hlu.out]; rfl)
  have vf4 : V.cell? ⟨W.heap.size + 1, 4, none⟩ = some (.int .i64 v.w) := (hC.cell 4).trans (by rw [hlv.out]; rfl)
  have uf5 : V.cell? ⟨W.heap.size, 5, none⟩ = some (.int .i64 u.h) := (hB.cell 5).trans (by rw [hlu.out]; rfl)
  have vf5 : V.cell? ⟨W.heap.size + 1, 5, none⟩ = some (.int .i64 v.h) := (hC.cell 5).trans (by rw [hlv.out]; rfl)
  have uf6 : V.cell? ⟨W.heap.size, 6, none⟩ = some (.int .i64 u.rad) := (hB.cell 6).trans (by rw [hlu.out]; rfl)
  have vf6 : V.cell? ⟨W.heap.size + 1, 6, none⟩ = some (.int .i64 v.rad) := (hC.cell 6).trans (by rw [hlv.out]; rfl)
  have uf7 : V.cell? ⟨W.heap.size, 7, none⟩ = some (.int .i64 u.spd) := (hB.cell 7).trans (by rw [hlu.out]; rfl)
  have vf7 : V.cell? ⟨W.heap.size + 1, 7, none⟩ = some (.int .i64 v.spd) := (hC.cell 7).trans (by rw [hlv.out]; rfl)
  have uf8 : V.cell? ⟨W.heap.size, 8, none⟩ = some (.int .i64 u.sgt) := (hB.cell 8).trans (by rw [hlu.out]; rfl)
  have vf8 : V.cell? ⟨W.heap.size + 1, 8, none⟩ = some (.int .i64 v.sgt) := (hC.cell 8).trans (by rw [hlv.out]; rfl)
  have uf9 : V.cell? ⟨W.heap.size, 9, none⟩ = some (.int .i64 u.hp) := (hB.cell 9).trans (by rw [hlu.out]; rfl)
  have vf9 : V.cell? ⟨W.heap.size + 1, 9, none⟩ = some (.int .i64 v.hp) := (hC.cell 9).trans (by rw [hlv.out]; rfl)
  have uf10 : V.cell? ⟨W.heap.size, 10, none⟩ = some (.int .i64 u.arm) := (hB.cell 10).trans (by rw [hlu.out]; rfl)
  have vf10 : V.cell? ⟨W.heap.size + 1, 10, none⟩ = some (.int .i64 v.arm) := (hC.cell 10).trans (by rw [hlv.out]; rfl)
  have uf11 : V.cell? ⟨W.heap.size, 11, none⟩ = some (.int .i64 u.load) := (hB.cell 11).trans (by rw [hlu.out]; rfl)
  have vf11 : V.cell? ⟨W.heap.size + 1, 11, none⟩ = some (.int .i64 v.load) := (hC.cell 11).trans (by rw [hlv.out]; rfl)
  have uf13 : V.cell? ⟨W.heap.size, 13, none⟩ = some (.int .i64 u.ore) := (hB.cell 13).trans (by rw [hlu.out]; rfl)
  have vf13 : V.cell? ⟨W.heap.size + 1, 13, none⟩ = some (.int .i64 v.ore) := (hC.cell 13).trans (by rw [hlv.out]; rfl)
  have uf14 : V.cell? ⟨W.heap.size, 14, none⟩ = some (.int .i64 u.wood) := (hB.cell 14).trans (by rw [hlu.out]; rfl)
  have vf14 : V.cell? ⟨W.heap.size + 1, 14, none⟩ = some (.int .i64 v.wood) := (hC.cell 14).trans (by rw [hlv.out]; rfl)
  have uf15 : V.cell? ⟨W.heap.size, 15, none⟩ = some (.int .i64 u.time) := (hB.cell 15).trans (by rw [hlu.out]; rfl)
  have vf15 : V.cell? ⟨W.heap.size + 1, 15, none⟩ = some (.int .i64 v.time) := (hC.cell 15).trans (by rw [hlv.out]; rfl)
  clear h0 h1 h2 h12 h16 h17 h18 e
  go_wp2_with fail
  all_goals
   go_meet
   case rel => exact ⟨by rw [hnb.out]; simp only [Bool.false_and, Bool.and_false, Bool.true_and, Bool.and_self, *], rfl⟩
 case rest =>
 clear hnb h3 h4 h5 h6 h7 h8 h9 h10 h11 h13 h14 h15
 obtain ⟨rfl, rfl⟩ := hcut
 have uf0 : V.cell? ⟨W.heap.size, 0, none⟩ = some (.string u.nm) := (hB.cell 0).trans (by rw [hlu.out]; rfl)
 have vf0 : V.cell? ⟨W.heap.size + 1, 0, none⟩ = some (.string v.nm) := (hC.cell 0).trans (by rw [hlv.out]; rfl)
 have uf1 : V.cell? ⟨W.heap.size, 1, none⟩ = some (.bool u.bld) := (hB.cell 1).trans (by rw [hlu.out]; rfl)
 have vf1 : V.cell? ⟨W.heap.size + 1, 1, none⟩ = some (.bool v.bld) := (hC.cell 1).trans (by rw [hlv.out]; rfl)
 have uf2 : V.cell? ⟨W.heap.size, 2, none⟩ = some (.bool u.dep) := (hB.cell 2).trans (by rw [hlu.out]; rfl)
 have vf2 : V.cell? ⟨W.heap.size + 1, 2, none⟩ = some (.bool v.dep) := (hC.cell 2).trans (by rw [hlv.out]; rfl)
 have uf12 : V.cell? ⟨W.heap.size, 12, none⟩ = some (.string u.wpn) := (hB.cell 12).trans (by rw [hlu.out]; rfl)
 have vf12 : V.cell? ⟨W.heap.size + 1, 12, none⟩ = some (.string v.wpn) := (hC.cell 12).trans (by rw [hlv.out]; rfl)
 have uf16 : V.cell? ⟨W.heap.size, 16, none⟩ = some (.slice pu0 u.needs.length cu0) := (hB.cell 16).trans (by rw [hlu.out]; rfl)
 have vf16 : V.cell? ⟨W.heap.size + 1, 16, none⟩ = some (.slice pv0 v.needs.length cv0) := (hC.cell 16).trans (by rw [hlv.out]; rfl)
 have uf17 : V.cell? ⟨W.heap.size, 17, none⟩ = some (.slice pu1 u.trains.length cu1) := (hB.cell 17).trans (by rw [hlu.out]; rfl)
 have vf17 : V.cell? ⟨W.heap.size + 1, 17, none⟩ = some (.slice pv1 v.trains.length cv1) := (hC.cell 17).trans (by rw [hlv.out]; rfl)
 have uf18 : V.cell? ⟨W.heap.size, 18, none⟩ = some (.slice pu2 u.ress.length cu2) := (hB.cell 18).trans (by rw [hlu.out]; rfl)
 have vf18 : V.cell? ⟨W.heap.size + 1, 18, none⟩ = some (.slice pv2 v.ress.length cv2) := (hC.cell 18).trans (by rw [hlv.out]; rfl)
 go_wp2_with (first
  | (go_at_call 9; with_reducible refine (r9names_b u.needs v.needs (.slice pu0 u.needs.length cu0) (.slice pv0 v.needs.length cv0) q16 _ (su0.below hV0) (sv0.below hV0) h16).mono ?_; rintro e w0 ⟨rfl, hb⟩
     replace hV0 := hV0.trans (hb.mono hV0.size)
     replace hL := below_call hL hb
     replace uf17 := (hb.cell (p := ⟨W.heap.size, 17, none⟩) (hB.lt)).trans uf17
     replace uf18 := (hb.cell (p := ⟨W.heap.size, 18, none⟩) (hB.lt)).trans uf18
     replace vf17 := (hb.cell (p := ⟨W.heap.size + 1, 17, none⟩) (hC.lt)).trans vf17
     replace vf18 := (hb.cell (p := ⟨W.heap.size + 1, 18, none⟩) (hC.lt)).trans vf18
     replace hB := hB.below hb
     replace hC := hC.below hb
     clear hb)
  | (go_at_call 9; with_reducible refine (r9names_b u.trains v.trains (.slice pu1 u.trains.length cu1) (.slice pv1 v.trains.length cv1) q17 _ (su1.below hV0) (sv1.below hV0) h17).mono ?_; rintro e w1 ⟨rfl, hb⟩
     replace hV0 := hV0.trans (hb.mono hV0.size)
     replace hL := below_call hL hb
     replace uf18 := (hb.cell (p := ⟨W.heap.size, 18, none⟩) (hB.lt)).trans uf18
     replace vf18 := (hb.cell (p := ⟨W.heap.size + 1, 18, none⟩) (hC.lt)).trans vf18
     replace hB := hB.below hb
     replace hC := hC.below hb
     clear hb)
  | (go_at_call 9; with_reducible refine (r9names_b u.ress v.ress (.slice pu2 u.ress.length cu2) (.slice pv2 v.ress.length cv2) q18 _ (su2.below hV0) (sv2.below hV0) h18).mono ?_; rintro e w2 ⟨rfl, hb⟩
     replace hV0 := hV0.trans (hb.mono hV0.size)
     replace hL := below_call hL hb
     replace hB := hB.below hb
     replace hC := hC.below hb
     clear hb))
 all_goals
  go_ret
  exact ⟨ret_bool (by rw [e.out]; simp only [Bool.false_and, Bool.and_false, Bool.true_and, Bool.and_self, *]), hL⟩
end
section
open Go.RowKit Go.Lib
theorem W9_eq (x y : W9) : decide (x = y) = ((x.nm.toList == y.nm.toList) && (x.rng == y.rng) && (x.dmg == y.dmg) && (x.cool == y.cool) && (x.spd == y.spd) && (x.spl == y.spl)) := by
 rw [← deq_str, ← deq_int, ← deq_int, ← deq_int, ← deq_int, ← deq_int, Bool.eq_iff_iff]
 simp only [Bool.and_eq_true, decide_eq_true_eq, and_assoc]
 cases x
 cases y
 simp only [W9.mk.injEq]
theorem eqW (x y : W9) (w : World) : (Op.equalIn 10000 51 (.agg (wCells x).toArray) (.agg (wCells y).toArray)).run Tryz.prog w = .ok (decide (x = y)) w := by
 have u3 := Tryz.underlying3
 have a3 := Tryz.isAgg3
 have z3 := Tryz.sizeOf3
 have u9 := Tryz.underlying9
 have a9 := Tryz.isAgg9
 have z9 := Tryz.sizeOf9
 have hS : Tryz.prog.underlying 51 = some (.struct (Tryz.prog.fieldsOf 51)) := by kernel_rfl
 have hp : Tryz.prog.stoodInHeld 51 = false := by kernel_rfl
 rw [W9_eq]
 simp only [wCells]
 rw [show (10000 : Nat) = 9999 + 1 from rfl, run_equalIn_struct w 9999 51 _ _ hS hp]
 simp only [Program.fieldsOf, Tryz.underlying51]
 go_simp
 by_cases h1 : x.nm.toList = y.nm.toList <;> by_cases h2 : x.rng = y.rng <;> by_cases h3 : x.dmg = y.dmg <;> by_cases h4 : x.cool = y.cool <;> by_cases h5 : x.spd = y.spd <;> by_cases h6 : x.spl = y.spl <;> simp [h1, h2, h3, h4, h5, h6]
theorem guardW (op : BinOp) (a b : Operand) (x y : Array Value) (w : World) : (eqGuard op 51 a b (.agg x) (.agg y)).run Tryz.prog w = .ok () w := run_eqGuard_agg w op 51 a b x y (by kernel_rfl)
theorem exec_neqW {o : Oper} {ρ : Operand → Value} {w : World} (p q : Operand) (t2 : TypeId) (ho : o.op = .binOp .neq 51 p q t2) {x y : W9} {xs ys : List Value} (hx : WL xs x) (hy : WL ys y) (hp : ρ p = .agg xs.toArray) (hq : ρ q = .agg ys.toArray) :
 (execOp ρ o).run Tryz.prog w = .ok (.value (.bool (!decide (x = y)))) w := by
 subst hx
 subst hy
 unfold execOp
 simp only [ho, hp, hq, Sem.run_bind, Sem.run_pure, Result.andThen_ok, guardW, run_neq_struct, eqW]
theorem take_eq {α : Type} {l m : List α} {i : Nat} (h1 : i < l.length) (h2 : i < m.length) (h : l.take i = m.take i) (e : l[i]'h1 = m[i]'h2) : l.take (i + 1) = m.take (i + 1) := by
 rw [List.take_succ_eq_append_getElem h1, List.take_succ_eq_append_getElem h2, h, e]
theorem ne_at {α : Type} {l m : List α} {i : Nat} (h1 : i < l.length) (h2 : i < m.length) (e : ¬ l[i]'h1 = m[i]'h2) : ¬ l = m := fun h => e (by subst h; rfl)
set_option maxHeartbeats 8000000 in
set_option maxRecDepth 100000 in
theorem r9same_b (su sw st tu tw tt : Value) (r s : R9) (b : Bool) (V0 W : World) (hR : RAt V0 su sw st r) (hS : RAt V0 tu tw tt s) (h0 : Below V0.heap.size V0 W) (e : Hid (b = decide (r = s))) :
 Calls Tryz.prog 18 #[.agg #[su, sw, st], .agg #[tu, tw, tt]] W fun e w' => e = .returned (.bool b) ∧ Below W.heap.size W w' := by
 obtain ⟨p, c, rfl, hm, hat⟩ := hR.u
 obtain ⟨p1, c1, rfl, hm1, hat1⟩ := hR.w
 obtain ⟨p2, c2, rfl, hm2, hat2⟩ := hR.t
 obtain ⟨p3, c3, rfl, hm3, hbt⟩ := hS.u
 obtain ⟨p4, c4, rfl, hm4, hbt1⟩ := hS.w
 obtain ⟨p5, c5, rfl, hm5, hbt2⟩ := hS.t
 have hB := (Blk.new W [.slice p r.us.length c, .slice p1 r.ws.length c1, .slice p2 r.ts.length c2] 31).alloc (.cells [.slice p3 s.us.length c3, .slice p4 s.ws.length c4, .slice p5 s.ts.length c5].toArray 31)
 have hC := (Blk.new (W.alloc (.cells [.slice p r.us.length c, .slice p1 r.ws.length c1, .slice p2 r.ts.length c2].toArray 31)) [.slice p3 s.us.length c3, .slice p4 s.ws.length c4, .slice p5 s.ts.length c5] 31).at (World.size_alloc _ _)
 have hL := ((Below.refl W.heap.size W).alloc (Nat.le_refl _) (.cells [.slice p r.us.length c, .slice p1 r.ws.length c1, .slice p2 r.ts.length c2].toArray 31)).alloc (by simp) (.cells [.slice p3 s.us.length c3, .slice p4 s.ws.length c4, .slice p5 s.ts.length c5].toArray 31)
 unfold maxLen at hm hm1 hm2 hm3 hm4 hm5
 clear hR hS
 have hNo : (¬ r.us.length = s.us.length ∨ ¬ r.ws.length = s.ws.length ∨ ¬ r.ts.length = s.ts.length) → b = false := fun h => by
  rw [e.out]; exact decide_eq_false fun e => by subst e; simp at h
 by_cases g1 : r.us.length = s.us.length ∧ r.ws.length = s.ws.length ∧ r.ts.length = s.ts.length
 rotate_left
 · obtain rfl : b = false := hNo (by omega)
   have z1 : ((r.us.length : Int) != (s.us.length : Int)) = true ∨ (((r.us.length : Int) != (s.us.length : Int)) = false ∧ ((r.ws.length : Int) != (s.ws.length : Int)) = true) ∨ (((r.us.length : Int) != (s.us.length : Int)) = false ∧ ((r.ws.length : Int) != (s.ws.length : Int)) = false ∧ ((r.ts.length : Int) != (s.ts.length : Int)) = true) := by
    by_cases h1 : r.us.length = s.us.length
    · by_cases h2 : r.ws.length = s.ws.length
      · right; right; refine ⟨by rw [h1]; simp, by rw [h2]; simp, ?_⟩
        simp only [bne_iff_ne, ne_eq]; omega
      · right; left; refine ⟨by rw [h1]; simp, ?_⟩
        simp only [bne_iff_ne, ne_eq]; omega
    · left; simp only [bne_iff_ne, ne_eq]; omega
   clear e hNo g1
   rcases z1 with z1 | ⟨z1, z2⟩ | ⟨z1, z2, z3⟩
   all_goals
    go_enter Tryz.func18, Tryz.ntmps18
    go_wp2_with fail
    go_ret
    exact ⟨rfl, hL⟩
 · obtain ⟨n1, n2, n3⟩ := g1
   have z1 : ((r.us.length : Int) != (s.us.length : Int)) = false := by rw [n1]; simp
   have z2 : ((r.ws.length : Int) != (s.ws.length : Int)) = false := by rw [n2]; simp
   have z3 : ((r.ts.length : Int) != (s.ts.length : Int)) = false := by rw [n3]; simp
   replace n1 := hid n1
   replace n2 := hid n2
   replace n3 := hid n3
   have hV0 := h0.trans (hL.mono h0.size)
   clear hNo
   go_enter Tryz.func18, Tryz.ntmps18
   go_wp2_with fail
   generalize (W.alloc (.cells [.slice p r.us.length c, .slice p1 r.ws.length c1, .slice p2 r.ts.length c2].toArray 31)).alloc (.cells [.slice p3 s.us.length c3, .slice p4 s.ws.length c4, .slice p5 s.ts.length c5].toArray 31) = V at *
   clear z1 z2 z3
   go_loopw [5] (fun vi wr => ∃ i : Nat, vi = .int .i64 i ∧ i ≤ r.us.length ∧ Blk wr W.heap.size [.slice p r.us.length c, .slice p1 r.ws.length c1, .slice p2 r.ts.length c2] 31 ∧ Blk wr (W.heap.size + 1) [.slice p3 s.us.length c3, .slice p4 s.ws.length c4, .slice p5 s.ts.length c5] 31 ∧ Below W.heap.size W wr ∧ Hid (r.us.take i = s.us.take i)) (fun vi _ => r.us.length - (RowKit.intOf vi).toNat)
   case atStart => exact ⟨0, rfl, by omega, hB, hC, hL, hid rfl⟩
   case round =>
    clear hB hC hL
    obtain ⟨i, rfl, hi, hB, hC, hL, hA⟩ := hrel
    obtain ⟨_, _, _, _, _, _⟩ := hB.three
    by_cases hlt : i < r.us.length
    · have hlt2 : i < s.us.length := by rw [← n1.out]; exact hlt
      have d1 : (i : Int) < r.us.length := by omega
      have d2 : (i : Int) < s.us.length := by omega
      have d0 : (0 : Int) ≤ i := by omega
      have hV := h0.trans (hL.mono h0.size)
      obtain ⟨g, o, rfl, hc⟩ := hat (by omega)
      obtain ⟨g2, o2, rfl, hc2⟩ := hbt (by omega)
      obtain ⟨vs, hU, hcs⟩ := (hc i hlt).ul
      obtain ⟨ws, hU2, hcs2⟩ := (hc2 i hlt2).ul
      have HN := fun q => hid (take_eq hlt hlt2 hA.out q)
      have HY := fun q => hid (ne_at hlt hlt2 q)
      obtain ⟨x, hx⟩ : ∃ x, r.us[i]'hlt = x := ⟨_, rfl⟩
      obtain ⟨y, hy⟩ : ∃ x, s.us[i]'hlt2 = x := ⟨_, rfl⟩
      rw [hx] at hU HN HY
      rw [hy] at hU2 HN HY
      obtain ⟨q, hq⟩ : ∃ q, Hid (q = decide (x = y)) := ⟨_, hid rfl⟩
      clear hx hy hc hc2 hat hbt hA
      go_upto_region 6 with fail
      go_cut [51] from 33 to 51 (fun s51 wx => s51 = .bool (!q) ∧ Below wr.heap.size wr wx)
      case first =>
       have hmx : Tryz.prog.follows .mixedOrders = true := by kernel_rfl
       refine wp_region_held (S := fun w' => Below wr.heap.size wr w') hmx ?_
       show wpAnyH _ _ _ _ _ _ _ _ wr.drew
       have hS0 := (Below.refl wr.heap.size wr).drew
       refine reg_tk (i := 0) (v := .pointer (some ⟨W.heap.size, 0, none⟩)) (some 40) rfl (fun w' hS => by (obtain ⟨_, _, _, _, _, _⟩ := (hB.below hS).three; obtain ⟨_, _, _, _, _, _⟩ := (hC.below hS).three); go_simp) hS0 ?_
       simp only [Act.put, List.setIfInBounds_toArray, List.set_cons_zero, List.set_cons_succ]
       refine reg_tk (i := 1) (v := .slice (some ⟨g, o, none⟩) r.us.length c) (some 41) rfl (fun w' hS => by (obtain ⟨_, _, _, _, _, _⟩ := (hB.below hS).three; obtain ⟨_, _, _, _, _, _⟩ := (hC.below hS).three); go_simp) hS0 ?_
       simp only [Act.put, List.setIfInBounds_toArray, List.set_cons_zero, List.set_cons_succ]
       refine reg_tk (i := 2) (v := .int .i64 i) (some 42) rfl (fun w' hS => by (obtain ⟨_, _, _, _, _, _⟩ := (hB.below hS).three; obtain ⟨_, _, _, _, _, _⟩ := (hC.below hS).three); go_simp) hS0 ?_
       simp only [Act.put, List.setIfInBounds_toArray, List.set_cons_zero, List.set_cons_succ]
       refine reg_tk (i := 3) (v := .pointer (some ⟨g, o + i * 19, none⟩)) (some 43) rfl (fun w' hS => by (obtain ⟨_, _, _, _, _, _⟩ := (hB.below hS).three; obtain ⟨_, _, _, _, _, _⟩ := (hC.below hS).three); go_simp) hS0 ?_
       simp only [Act.put, List.setIfInBounds_toArray, List.set_cons_zero, List.set_cons_succ]
       refine reg_tk (i := 4) (v := .agg vs.toArray) (some 44) rfl (fun w' hS => exec_load_agg 53 _ rfl ⟨g, o + i * 19, none⟩ (by with_unfolding_all rfl) Tryz.isAgg53 Tryz.sizeOf53 vs ((hcs.below' (hcs.lt' hU.name) (hV.trans (hS.mono hV.size))).loads hU.len)) hS0 ?_
       simp only [Act.put, List.setIfInBounds_toArray, List.set_cons_zero, List.set_cons_succ]
       refine reg_tk (i := 5) (v := .pointer (some ⟨W.heap.size + 1, 0, none⟩)) (some 45) rfl (fun w' hS => by (obtain ⟨_, _, _, _, _, _⟩ := (hB.below hS).three; obtain ⟨_, _, _, _, _, _⟩ := (hC.below hS).three); go_simp) hS0 ?_
       simp only [Act.put, List.setIfInBounds_toArray, List.set_cons_zero, List.set_cons_succ]
       refine reg_tk (i := 6) (v := .slice (some ⟨g2, o2, none⟩) s.us.length c3) (some 46) rfl (fun w' hS => by (obtain ⟨_, _, _, _, _, _⟩ := (hB.below hS).three; obtain ⟨_, _, _, _, _, _⟩ := (hC.below hS).three); go_simp) hS0 ?_
       simp only [Act.put, List.setIfInBounds_toArray, List.set_cons_zero, List.set_cons_succ]
       refine reg_tk (i := 7) (v := .int .i64 i) (some 47) rfl (fun w' hS => by (obtain ⟨_, _, _, _, _, _⟩ := (hB.below hS).three; obtain ⟨_, _, _, _, _, _⟩ := (hC.below hS).three); go_simp) hS0 ?_
       simp only [Act.put, List.setIfInBounds_toArray, List.set_cons_zero, List.set_cons_succ]
       refine reg_tk (i := 8) (v := .pointer (some ⟨g2, o2 + i * 19, none⟩)) (some 48) rfl (fun w' hS => by (obtain ⟨_, _, _, _, _, _⟩ := (hB.below hS).three; obtain ⟨_, _, _, _, _, _⟩ := (hC.below hS).three); go_simp) hS0 ?_
       simp only [Act.put, List.setIfInBounds_toArray, List.set_cons_zero, List.set_cons_succ]
       refine reg_tk (i := 9) (v := .agg ws.toArray) (some 49) rfl (fun w' hS => exec_load_agg 53 _ rfl ⟨g2, o2 + i * 19, none⟩ (by with_unfolding_all rfl) Tryz.isAgg53 Tryz.sizeOf53 ws ((hcs2.below' (hcs2.lt' hU2.name) (hV.trans (hS.mono hV.size))).loads hU2.len)) hS0 ?_
       simp only [Act.put, List.setIfInBounds_toArray, List.set_cons_zero, List.set_cons_succ]
       refine held_one (i := 10) (by kernel_rfl) rfl (fun K hQ => ?_)
       go_simp
       (with_reducible refine (r9sameu_b x y vs ws q V0 _ hU hU2 (hV.trans (hS0.mono hV.size)) hq).mono ?_)
       rintro e w1 ⟨rfl, hb⟩
       have hS1 := below_call hS0 hb
       refine hQ.out _ _ hS1 ?_
       clear hQ
       try simp only [Act.put, List.setIfInBounds_toArray, List.set_cons_zero, List.set_cons_succ]
       refine reg_tk (i := 11) (v := .bool (!q)) (some 51) rfl (fun w' hS => by skip; go_simp) hS1 ?_
       simp only [Act.put, List.setIfInBounds_toArray, List.set_cons_zero, List.set_cons_succ]
       refine wpAnyH_done (by kernel_rfl) ?_ _
       show Exit.then _ _ Exit.normal _ _
       go_wp2_with fail
       go_meet
       case rel => exact ⟨rfl, hS1⟩
      case rest =>
      obtain ⟨rfl, hX⟩ := hcut
      replace hB := hB.below hX
      replace hC := hC.below hX
      replace hL := below_call hL hX
      clear hX hU hU2 hcs hcs2 hV
      cases q with
      | false =>
       obtain rfl : b = false := by rw [e.out]; exact decide_eq_false fun h => (HY (of_decide_eq_false hq.out.symm)).out (by rw [h])
       clear e HN HY hq
       go_wp2_with fail
       go_ret
       exact ⟨rfl, hL⟩
      | true =>
       have HS := HN (of_decide_eq_true hq.out.symm)
       clear HN HY hq
       go_wp2_with fail
       go_roundw
       case rel => exact ⟨i + 1, by go_num, by omega, hB, hC, hL, HS⟩
       case measure => simp [RowKit.intOf]; omega
    · obtain rfl : i = r.us.length := by omega
      have ha := hA.out
      rw [List.take_length, n1.out, List.take_length] at ha
      have d1 : ¬ (r.us.length : Int) < r.us.length := by omega
      replace ha := hid ha
      clear hat hbt hA
      have eU := ha
      clear ha
      go_wp2_with fail
      clear d1
      go_loopw [6] (fun vi wr => ∃ i : Nat, vi = .int .i64 i ∧ i ≤ r.ws.length ∧ Blk wr W.heap.size [.slice p r.us.length c, .slice p1 r.ws.length c1, .slice p2 r.ts.length c2] 31 ∧ Blk wr (W.heap.size + 1) [.slice p3 s.us.length c3, .slice p4 s.ws.length c4, .slice p5 s.ts.length c5] 31 ∧ Below W.heap.size W wr ∧ Hid (r.ws.take i = s.ws.take i)) (fun vi _ => r.ws.length - (RowKit.intOf vi).toNat)
      case atStart => exact ⟨0, rfl, by omega, hB, hC, hL, hid rfl⟩
      case round =>
       clear hB hC hL
       obtain ⟨i, rfl, hi, hB, hC, hL, hA⟩ := hrel
       obtain ⟨_, _, _, _, _, _⟩ := hB.three
       by_cases hlt : i < r.ws.length
       · have hlt2 : i < s.ws.length := by rw [← n2.out]; exact hlt
         have d1 : (i : Int) < r.ws.length := by omega
         have d2 : (i : Int) < s.ws.length := by omega
         have d0 : (0 : Int) ≤ i := by omega
         have hV := h0.trans (hL.mono h0.size)
         obtain ⟨g, o, rfl, hc⟩ := hat1 (by omega)
         obtain ⟨g2, o2, rfl, hc2⟩ := hbt1 (by omega)
         obtain ⟨vs, hU, hcs⟩ := (hc i hlt).wl
         obtain ⟨ws, hU2, hcs2⟩ := (hc2 i hlt2).wl
         have HN := fun q => hid (take_eq hlt hlt2 hA.out q)
         have HY := fun q => hid (ne_at hlt hlt2 q)
         obtain ⟨x, hx⟩ : ∃ x, r.ws[i]'hlt = x := ⟨_, rfl⟩
         obtain ⟨y, hy⟩ : ∃ x, s.ws[i]'hlt2 = x := ⟨_, rfl⟩
         rw [hx] at hU HN HY
         rw [hy] at hU2 HN HY
         obtain ⟨q, hq⟩ : ∃ q, Hid (q = decide (x = y)) := ⟨_, hid rfl⟩
         clear hx hy hc hc2 hat1 hbt1 hA
         go_upto_region 11 with fail
         go_cut [69] from 52 to 69 (fun s51 wx => s51 = .bool (!q) ∧ Below wr.heap.size wr wx)
         case first =>
          have hmx : Tryz.prog.follows .mixedOrders = true := by kernel_rfl
          refine wp_region_held (S := fun w' => Below wr.heap.size wr w') hmx ?_
          show wpAnyH _ _ _ _ _ _ _ _ wr.drew
          have hS0 := (Below.refl wr.heap.size wr).drew
          refine reg_tk (i := 0) (v := .pointer (some ⟨W.heap.size, 1, none⟩)) (some 59) rfl (fun w' hS => by (obtain ⟨_, _, _, _, _, _⟩ := (hB.below hS).three; obtain ⟨_, _, _, _, _, _⟩ := (hC.below hS).three); go_simp) hS0 ?_
          simp only [Act.put, List.setIfInBounds_toArray, List.set_cons_zero, List.set_cons_succ]
          refine reg_tk (i := 1) (v := .slice (some ⟨g, o, none⟩) r.ws.length c1) (some 60) rfl (fun w' hS => by (obtain ⟨_, _, _, _, _, _⟩ := (hB.below hS).three; obtain ⟨_, _, _, _, _, _⟩ := (hC.below hS).three); go_simp) hS0 ?_
          simp only [Act.put, List.setIfInBounds_toArray, List.set_cons_zero, List.set_cons_succ]
          refine reg_tk (i := 2) (v := .int .i64 i) (some 61) rfl (fun w' hS => by (obtain ⟨_, _, _, _, _, _⟩ := (hB.below hS).three; obtain ⟨_, _, _, _, _, _⟩ := (hC.below hS).three); go_simp) hS0 ?_
          simp only [Act.put, List.setIfInBounds_toArray, List.set_cons_zero, List.set_cons_succ]
          refine reg_tk (i := 3) (v := .pointer (some ⟨g, o + i * 6, none⟩)) (some 62) rfl (fun w' hS => by (obtain ⟨_, _, _, _, _, _⟩ := (hB.below hS).three; obtain ⟨_, _, _, _, _, _⟩ := (hC.below hS).three); go_simp) hS0 ?_
          simp only [Act.put, List.setIfInBounds_toArray, List.set_cons_zero, List.set_cons_succ]
          refine reg_tk (i := 4) (v := .agg vs.toArray) (some 63) rfl (fun w' hS => exec_load_agg 51 _ rfl ⟨g, o + i * 6, none⟩ (by with_unfolding_all rfl) Tryz.isAgg51 Tryz.sizeOf51 vs ((hcs.below' (hcs.lt' hU.name) (hV.trans (hS.mono hV.size))).loads hU.len)) hS0 ?_
          simp only [Act.put, List.setIfInBounds_toArray, List.set_cons_zero, List.set_cons_succ]
          refine reg_tk (i := 5) (v := .pointer (some ⟨W.heap.size + 1, 1, none⟩)) (some 64) rfl (fun w' hS => by (obtain ⟨_, _, _, _, _, _⟩ := (hB.below hS).three; obtain ⟨_, _, _, _, _, _⟩ := (hC.below hS).three); go_simp) hS0 ?_
          simp only [Act.put, List.setIfInBounds_toArray, List.set_cons_zero, List.set_cons_succ]
          refine reg_tk (i := 6) (v := .slice (some ⟨g2, o2, none⟩) s.ws.length c4) (some 65) rfl (fun w' hS => by (obtain ⟨_, _, _, _, _, _⟩ := (hB.below hS).three; obtain ⟨_, _, _, _, _, _⟩ := (hC.below hS).three); go_simp) hS0 ?_
          simp only [Act.put, List.setIfInBounds_toArray, List.set_cons_zero, List.set_cons_succ]
          refine reg_tk (i := 7) (v := .int .i64 i) (some 66) rfl (fun w' hS => by (obtain ⟨_, _, _, _, _, _⟩ := (hB.below hS).three; obtain ⟨_, _, _, _, _, _⟩ := (hC.below hS).three); go_simp) hS0 ?_
          simp only [Act.put, List.setIfInBounds_toArray, List.set_cons_zero, List.set_cons_succ]
          refine reg_tk (i := 8) (v := .pointer (some ⟨g2, o2 + i * 6, none⟩)) (some 67) rfl (fun w' hS => by (obtain ⟨_, _, _, _, _, _⟩ := (hB.below hS).three; obtain ⟨_, _, _, _, _, _⟩ := (hC.below hS).three); go_simp) hS0 ?_
          simp only [Act.put, List.setIfInBounds_toArray, List.set_cons_zero, List.set_cons_succ]
          refine reg_tk (i := 9) (v := .agg ws.toArray) (some 68) rfl (fun w' hS => exec_load_agg 51 _ rfl ⟨g2, o2 + i * 6, none⟩ (by with_unfolding_all rfl) Tryz.isAgg51 Tryz.sizeOf51 ws ((hcs2.below' (hcs2.lt' hU2.name) (hV.trans (hS.mono hV.size))).loads hU2.len)) hS0 ?_
          simp only [Act.put, List.setIfInBounds_toArray, List.set_cons_zero, List.set_cons_succ]
          refine reg_tk (i := 10) (v := .bool (!q)) (some 69) rfl (fun w' hS => by rw [hq.out]; exact exec_neqW _ _ _ rfl hU hU2 rfl rfl) hS0 ?_
          simp only [Act.put, List.setIfInBounds_toArray, List.set_cons_zero, List.set_cons_succ]
          refine wpAnyH_done (by kernel_rfl) ?_ _
          show Exit.then _ _ Exit.normal _ _
          go_wp2_with fail
          go_meet
          case rel => exact ⟨rfl, hS0⟩
         case rest =>
         obtain ⟨rfl, hX⟩ := hcut
         replace hB := hB.below hX
         replace hC := hC.below hX
         replace hL := below_call hL hX
         clear hX hU hU2 hcs hcs2 hV
         cases q with
         | false =>
          obtain rfl : b = false := by rw [e.out]; exact decide_eq_false fun h => (HY (of_decide_eq_false hq.out.symm)).out (by rw [h])
          clear e HN HY hq
          go_wp2_with fail
          go_ret
          exact ⟨rfl, hL⟩
         | true =>
          have HS := HN (of_decide_eq_true hq.out.symm)
          clear HN HY hq
          go_wp2_with fail
          go_roundw
          case rel => exact ⟨i + 1, by go_num, by omega, hB, hC, hL, HS⟩
          case measure => simp [RowKit.intOf]; omega
       · obtain rfl : i = r.ws.length := by omega
         have ha := hA.out
         rw [List.take_length, n2.out, List.take_length] at ha
         have d1 : ¬ (r.ws.length : Int) < r.ws.length := by omega
         replace ha := hid ha
         clear hat1 hbt1 hA
         have eW := ha
         clear ha
         go_wp2_with fail
         clear d1
         go_loopw [7] (fun vi wr => ∃ i : Nat, vi = .int .i64 i ∧ i ≤ r.ts.length ∧ Blk wr W.heap.size [.slice p r.us.length c, .slice p1 r.ws.length c1, .slice p2 r.ts.length c2] 31 ∧ Blk wr (W.heap.size + 1) [.slice p3 s.us.length c3, .slice p4 s.ws.length c4, .slice p5 s.ts.length c5] 31 ∧ Below W.heap.size W wr ∧ Hid (r.ts.take i = s.ts.take i)) (fun vi _ => r.ts.length - (RowKit.intOf vi).toNat)
         case atStart => exact ⟨0, rfl, by omega, hB, hC, hL, hid rfl⟩
         case round =>
          clear hB hC hL
          obtain ⟨i, rfl, hi, hB, hC, hL, hA⟩ := hrel
          obtain ⟨_, _, _, _, _, _⟩ := hB.three
          by_cases hlt : i < r.ts.length
          · have hlt2 : i < s.ts.length := by rw [← n3.out]; exact hlt
            have d1 : (i : Int) < r.ts.length := by omega
            have d2 : (i : Int) < s.ts.length := by omega
            have d0 : (0 : Int) ≤ i := by omega
            have hV := h0.trans (hL.mono h0.size)
            obtain ⟨g, o, rfl, hc⟩ := hat2 (by omega)
            obtain ⟨g2, o2, rfl, hc2⟩ := hbt2 (by omega)
            obtain ⟨vs, hU, hcs⟩ := (hc i hlt).tl
            obtain ⟨ws, hU2, hcs2⟩ := (hc2 i hlt2).tl
            have HN := fun q => hid (take_eq hlt hlt2 hA.out q)
            have HY := fun q => hid (ne_at hlt hlt2 q)
            obtain ⟨x, hx⟩ : ∃ x, r.ts[i]'hlt = x := ⟨_, rfl⟩
            obtain ⟨y, hy⟩ : ∃ x, s.ts[i]'hlt2 = x := ⟨_, rfl⟩
            rw [hx] at hU HN HY
            rw [hy] at hU2 HN HY
            obtain ⟨q, hq⟩ : ∃ q, Hid (q = decide (x = y)) := ⟨_, hid rfl⟩
            clear hx hy hc hc2 hat2 hbt2 hA
            go_upto_region 16 with fail
            go_cut [88] from 70 to 88 (fun s51 wx => s51 = .bool (!q) ∧ Below wr.heap.size wr wx)
            case first =>
             have hmx : Tryz.prog.follows .mixedOrders = true := by kernel_rfl
             refine wp_region_held (S := fun w' => Below wr.heap.size wr w') hmx ?_
             show wpAnyH _ _ _ _ _ _ _ _ wr.drew
             have hS0 := (Below.refl wr.heap.size wr).drew
             refine reg_tk (i := 0) (v := .pointer (some ⟨W.heap.size, 2, none⟩)) (some 77) rfl (fun w' hS => by (obtain ⟨_, _, _, _, _, _⟩ := (hB.below hS).three; obtain ⟨_, _, _, _, _, _⟩ := (hC.below hS).three); go_simp) hS0 ?_
             simp only [Act.put, List.setIfInBounds_toArray, List.set_cons_zero, List.set_cons_succ]
             refine reg_tk (i := 1) (v := .slice (some ⟨g, o, none⟩) r.ts.length c2) (some 78) rfl (fun w' hS => by (obtain ⟨_, _, _, _, _, _⟩ := (hB.below hS).three; obtain ⟨_, _, _, _, _, _⟩ := (hC.below hS).three); go_simp) hS0 ?_
             simp only [Act.put, List.setIfInBounds_toArray, List.set_cons_zero, List.set_cons_succ]
             refine reg_tk (i := 2) (v := .int .i64 i) (some 79) rfl (fun w' hS => by (obtain ⟨_, _, _, _, _, _⟩ := (hB.below hS).three; obtain ⟨_, _, _, _, _, _⟩ := (hC.below hS).three); go_simp) hS0 ?_
             simp only [Act.put, List.setIfInBounds_toArray, List.set_cons_zero, List.set_cons_succ]
             refine reg_tk (i := 3) (v := .pointer (some ⟨g, o + i * 8, none⟩)) (some 80) rfl (fun w' hS => by (obtain ⟨_, _, _, _, _, _⟩ := (hB.below hS).three; obtain ⟨_, _, _, _, _, _⟩ := (hC.below hS).three); go_simp) hS0 ?_
             simp only [Act.put, List.setIfInBounds_toArray, List.set_cons_zero, List.set_cons_succ]
             refine reg_tk (i := 4) (v := .agg vs.toArray) (some 81) rfl (fun w' hS => exec_load_agg 56 _ rfl ⟨g, o + i * 8, none⟩ (by with_unfolding_all rfl) Tryz.isAgg56 Tryz.sizeOf56 vs ((hcs.below' (hcs.lt' hU.name) (hV.trans (hS.mono hV.size))).loads hU.len)) hS0 ?_
             simp only [Act.put, List.setIfInBounds_toArray, List.set_cons_zero, List.set_cons_succ]
             refine reg_tk (i := 5) (v := .pointer (some ⟨W.heap.size + 1, 2, none⟩)) (some 82) rfl (fun w' hS => by (obtain ⟨_, _, _, _, _, _⟩ := (hB.below hS).three; obtain ⟨_, _, _, _, _, _⟩ := (hC.below hS).three); go_simp) hS0 ?_
             simp only [Act.put, List.setIfInBounds_toArray, List.set_cons_zero, List.set_cons_succ]
             refine reg_tk (i := 6) (v := .slice (some ⟨g2, o2, none⟩) s.ts.length c5) (some 83) rfl (fun w' hS => by (obtain ⟨_, _, _, _, _, _⟩ := (hB.below hS).three; obtain ⟨_, _, _, _, _, _⟩ := (hC.below hS).three); go_simp) hS0 ?_
             simp only [Act.put, List.setIfInBounds_toArray, List.set_cons_zero, List.set_cons_succ]
             refine reg_tk (i := 7) (v := .int .i64 i) (some 84) rfl (fun w' hS => by (obtain ⟨_, _, _, _, _, _⟩ := (hB.below hS).three; obtain ⟨_, _, _, _, _, _⟩ := (hC.below hS).three); go_simp) hS0 ?_
             simp only [Act.put, List.setIfInBounds_toArray, List.set_cons_zero, List.set_cons_succ]
             refine reg_tk (i := 8) (v := .pointer (some ⟨g2, o2 + i * 8, none⟩)) (some 85) rfl (fun w' hS => by (obtain ⟨_, _, _, _, _, _⟩ := (hB.below hS).three; obtain ⟨_, _, _, _, _, _⟩ := (hC.below hS).three); go_simp) hS0 ?_
             simp only [Act.put, List.setIfInBounds_toArray, List.set_cons_zero, List.set_cons_succ]
             refine reg_tk (i := 9) (v := .agg ws.toArray) (some 86) rfl (fun w' hS => exec_load_agg 56 _ rfl ⟨g2, o2 + i * 8, none⟩ (by with_unfolding_all rfl) Tryz.isAgg56 Tryz.sizeOf56 ws ((hcs2.below' (hcs2.lt' hU2.name) (hV.trans (hS.mono hV.size))).loads hU2.len)) hS0 ?_
             simp only [Act.put, List.setIfInBounds_toArray, List.set_cons_zero, List.set_cons_succ]
             refine held_one (i := 10) (by kernel_rfl) rfl (fun K hQ => ?_)
             go_simp
             (with_reducible refine (r9samet_b x y vs ws q V0 _ hU hU2 (hV.trans (hS0.mono hV.size)) hq).mono ?_)
             rintro e w1 ⟨rfl, hb⟩
             have hS1 := below_call hS0 hb
             refine hQ.out _ _ hS1 ?_
             clear hQ
             try simp only [Act.put, List.setIfInBounds_toArray, List.set_cons_zero, List.set_cons_succ]
             refine reg_tk (i := 11) (v := .bool (!q)) (some 88) rfl (fun w' hS => by skip; go_simp) hS1 ?_
             simp only [Act.put, List.setIfInBounds_toArray, List.set_cons_zero, List.set_cons_succ]
             refine wpAnyH_done (by kernel_rfl) ?_ _
             show Exit.then _ _ Exit.normal _ _
             go_wp2_with fail
             go_meet
             case rel => exact ⟨rfl, hS1⟩
            case rest =>
            obtain ⟨rfl, hX⟩ := hcut
            replace hB := hB.below hX
            replace hC := hC.below hX
            replace hL := below_call hL hX
            clear hX hU hU2 hcs hcs2 hV
            cases q with
            | false =>
             obtain rfl : b = false := by rw [e.out]; exact decide_eq_false fun h => (HY (of_decide_eq_false hq.out.symm)).out (by rw [h])
             clear e HN HY hq
             go_wp2_with fail
             go_ret
             exact ⟨rfl, hL⟩
            | true =>
             have HS := HN (of_decide_eq_true hq.out.symm)
             clear HN HY hq
             go_wp2_with fail
             go_roundw
             case rel => exact ⟨i + 1, by go_num, by omega, hB, hC, hL, HS⟩
             case measure => simp [RowKit.intOf]; omega
          · obtain rfl : i = r.ts.length := by omega
            have ha := hA.out
            rw [List.take_length, n3.out, List.take_length] at ha
            have d1 : ¬ (r.ts.length : Int) < r.ts.length := by omega
            replace ha := hid ha
            clear hat2 hbt2 hA
            obtain rfl : b = true := by
             rw [e.out]
             refine decide_eq_true ?_
             cases r
             cases s
             simp only [R9.mk.injEq]
             exact ⟨eU.out, eW.out, ha.out⟩
            clear e
            go_wp2_with fail
            go_ret
            exact ⟨rfl, hL⟩
end
end
section
open Go.RowKit Go.Lib
theorem rsame_have : RSameP := fun su sw st tu tw tt r s b V0 W hR hS h0 e => r9same_b su sw st tu tw tt r s b V0 W hR hS h0 e
end

end Go.Proofs.YtnjcdmjaecgblaaGreatDoor
