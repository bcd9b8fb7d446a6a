/-
  ruletext as landed at a382b96: the lines of an element; ruletext as landed at a382b96: Parse; From a walk to a row; Rules, unit types, weapons, technologies, slices of strings among a law's arguments, opened; A tied card's row in either form (the law's, and the one of bounded bulk): its witness from the listed variables' own data; What the functions of ruletext, as landed and of the reference, answer, in one; what the eight listed variables of ruletext's rows give; The laws' example: rules with one weapon.
-/
import Derived.Test.YtnjcdmjaecgblaaGreatDoorZA15
import Derived.Test.YtnjcdmjaecgblaaGreatDoorRows
import Derived.Test.YtnjcdmjaecgblaaGreatDoorTie
import Derived.Test.YtnjcdmjaecgblaaGreatDoorCards
import Derived.ProofKit
import Derived.OpenShut
import Derived.ChangeSame
import Derived.JoinedOf
import Derived.JoinedAt
import Derived.RowKit3
import Derived.LaidMore
import Derived.LaidLaws
import Derived.Stop.LaidErr
import Derived.Stop.Joined
import Derived.HandedShaped
import Derived.SevenTiedAt
import Derived.Deep.Slices
import Derived.Deep.Strs
import Derived.Lib.SmallJoins
import Derived.Deep.DeepHandedRow
import Derived.Lay
namespace Go.Proofs.YtnjcdmjaecgblaaGreatDoor
section
open Go.RowKit Go.Lib
def cntR (r : R9) : Nat := r.us.length + r.ws.length + r.ts.length
def lnR (r : R9) : Nat := 19 * r.us.length + 6 * r.ws.length + 8 * r.ts.length
theorem ln_new (r : R9) {k : Nat} (h : k = 1 ∨ k = 2 ∨ k = 3) (nm : List UInt8) : lnR (newK r k nm) = lnR r + (fieldsv (k : Nat)).length + 1 := by
 rcases h with rfl | rfl | rfl
 · rw [show (fieldsv ((1 : Nat) : Int)).length = 18 from lenU]; unfold newK lnR; simp; omega
 · rw [show (fieldsv ((2 : Nat) : Int)).length = 5 from lenW]; unfold newK lnR; simp; omega
 · rw [show (fieldsv ((3 : Nat) : Int)).length = 7 from lenT]; unfold newK lnR; simp; omega
theorem ln_set (r : R9) (k : Int) (i : Nat) (f : ByteArray) (v : V10) : lnR (setK10 r k i f v) = lnR r := by
 obtain ⟨a, b, c⟩ := setK_len r k i f v
 unfold lnR
 rw [a, b, c]
theorem kindW_len {w : List UInt8} {k : Nat} (h : kindW w = some k) : 4 ≤ w.length := by
 unfold kindW at h
 split at h
 · rename_i e; rw [e]; decide
 · split at h
   · rename_i e; rw [e]; decide
   · split at h
     · rename_i e; rw [e]; decide
     · cases h
theorem nameB_len {w : List UInt8} (h : nameB w = true) : 1 ≤ w.length := by
 cases w with
 | nil => exact absurd h (by decide)
 | cons => simp
set_option maxRecDepth 100000 in
theorem fields_pos {k : Int} {f : ByteArray} (h : f ∈ fieldsv k) : 1 ≤ f.size := by
 rcases kind_of h with rfl | rfl | rfl
 · rw [fieldsU] at h
   simp only [List.mem_cons, List.not_mem_nil, or_false] at h
   rcases h with rfl | rfl | rfl | rfl | rfl | rfl | rfl | rfl | rfl | rfl | rfl | rfl | rfl | rfl | rfl | rfl | rfl | rfl <;> decide
 · rw [fieldsW] at h
   simp only [List.mem_cons, List.not_mem_nil, or_false] at h
   rcases h with rfl | rfl | rfl | rfl | rfl <;> decide
 · rw [fieldsT] at h
   simp only [List.mem_cons, List.not_mem_nil, or_false] at h
   rcases h with rfl | rfl | rfl | rfl | rfl | rfl | rfl <;> decide
theorem cnt_new (r : R9) {k : Nat} (h : k = 1 ∨ k = 2 ∨ k = 3) (nm : List UInt8) : cntR (newK r k nm) = cntR r + 1 := by
 rcases h with rfl | rfl | rfl <;> (unfold newK cntR; simp; try omega)
theorem cnt_set (r : R9) (k : Int) (i : Nat) (f : ByteArray) (v : V10) : cntR (setK10 r k i f v) = cntR r := by
 obtain ⟨a, b, c⟩ := setK_len r k i f v
 unfold cntR
 rw [a, b, c]
theorem fields_min {k : Nat} (h : k = 1 ∨ k = 2 ∨ k = 3) : 5 ≤ (fieldsv k).length ∧ (fieldsv k).length ≤ 18 := by
 rcases h with rfl | rfl | rfl
 · show 5 ≤ (fieldsv 1).length ∧ (fieldsv 1).length ≤ 18; rw [lenU]; omega
 · show 5 ≤ (fieldsv 2).length ∧ (fieldsv 2).length ≤ 18; rw [lenW]; omega
 · show 5 ≤ (fieldsv 3).length ∧ (fieldsv 3).length ≤ 18; rw [lenT]; omega
theorem names_setK (r : R9) (k : Int) (i : Nat) (f : ByteArray) (v : V10) (j : Int) : (namesK (setK10 r k i f v) j).length = (namesK r j).length := by
 obtain ⟨a, b, c⟩ := setK_len r k i f v
 unfold namesK namesU namesW namesT
 split
 · rw [List.length_map, List.length_map, a]
 · split
   · rw [List.length_map, List.length_map, b]
   · split
     · rw [List.length_map, List.length_map, c]
     · rfl
theorem last_setK (r : R9) (k : Int) (i : Nat) (f : ByteArray) (v : V10) (j : Int) : lastK (setK10 r k i f v) j = lastK r j := by
 obtain ⟨a, b, c⟩ := setK_len r k i f v
 unfold lastK
 rw [a, b, c]
theorem dadd_b (B b : Nat) (s nm : ByteArray) (n : Int) (k : Nat) (su sw st : Value) (r : R9) (W : World) (hk : k = 1 ∨ k = 2 ∨ k = 3) (h : Rdr W b s n k su sw st) (hR : Rwb W B su sw st r) (hB : B ≤ b) (hu : r.us.length ≤ 9000) (hw : r.ws.length ≤ 9000) (ht : r.ts.length ≤ 9000) :
 Calls Tryz.prog 108 #[.pointer (some ⟨b, 0, none⟩), .string nm] W (AddP B b s n k (newK r k nm.toList) W) := by
 have e := list_toB nm
 rcases hk with rfl | rfl | rfl
 · have h1 := dadd1_b B b s nm n su sw st r W h hR hB hu hw ht
   rw [← e] at h1 ⊢
   rw [show (toB nm.toList).toList = nm.toList by rw [e]]
   exact h1
 · have h1 := dadd2_b B b s nm n su sw st r W h hR hB hu hw ht
   rw [← e] at h1 ⊢
   rw [show (toB nm.toList).toList = nm.toList by rw [e]]
   exact h1
 · have h1 := dadd3_b B b s nm n su sw st r W h hR hB hu hw ht
   rw [← e] at h1 ⊢
   rw [show (toB nm.toList).toList = nm.toList by rw [e]]
   exact h1
def ElemP (B b : Nat) (s : ByteArray) (n k : Nat) (r : R9) (W : World) (e : Ending) (w' : World) : Prop :=
 (∃ (s' : ByteArray) (n' k' : Nat) (su sw st : Value) (r' : R9), e = .returned (.bool true) ∧ goP ⟨(k : Nat), (fieldsv (k : Nat)).length, r⟩ (n + 1) (linesB s.toList) = goP ⟨(k' : Nat), (fieldsv (k' : Nat)).length, r'⟩ (n' + 1) (linesB s'.toList) ∧ tailB s.toList = tailB s'.toList ∧ s'.size < s.size ∧ 4 * n' + s'.size + 3 ≤ 4 * n + s.size ∧ lnR r' ≤ n' ∧ cntR r' = cntR r + 1 ∧ (SmR r → SmR r') ∧ Rdr w' b s' n' k' su sw st ∧ Rwb w' B su sw st r' ∧ Below B W w') ∨
 (∃ (m : Nat) (s' : ByteArray) (k' : Int) (su sw st : Value), e = .returned (.bool false) ∧ Bad ⟨(k : Nat), (fieldsv (k : Nat)).length, r⟩ (n + 1) s.toList m ∧ Rdr w' b s' m k' su sw st ∧ Below B W w')
structure JF (s : ByteArray) (n k : Nat) (r : R9) (k' j : Nat) (sj : ByteArray) (nj : Nat) (rj : R9) (i : Nat) : Prop where
 go : goP ⟨(k : Nat), (fieldsv (k : Nat)).length, r⟩ (n + 1) (linesB s.toList) = goP ⟨(k' : Nat), j, rj⟩ (nj + 1) (linesB sj.toList)
 tail : tailB s.toList = tailB sj.toList
 lt : sj.size < s.size
 le : 4 * nj + sj.size + 3 ≤ 4 * n + s.size
 num : nj = n + 1 + j
 cnt : cntR rj = cntR r + 1
 lns : lnR rj = lnR r + (fieldsv (k' : Nat)).length + 1
 small : SmR r → SmR rj
 names : (namesK rj (k' : Nat)).length = i + 1
 last : lastK rj (k' : Nat) = i
theorem tstrip_cases (p s : ByteArray) : ∃ (x : ByteArray) (f : Bool), Hid ((stripB p.data.toList s.data.toList = some x.data.toList ∧ f = true) ∨ (stripB p.data.toList s.data.toList = none ∧ x = s ∧ f = false)) := by
 cases h : stripB p.data.toList s.data.toList with
 | none => exact ⟨s, false, hid (.inr ⟨rfl, rfl, rfl⟩)⟩
 | some t => exact ⟨toB t, true, hid (.inl ⟨by simp [toB], rfl⟩)⟩
theorem line_field_no {k' j : Nat} {rj : R9} (hj : j < (fieldsv (k' : Nat)).length) {t : List UInt8} (h : stripB (32 :: (((fieldsv (k' : Nat))[j]'hj).toList ++ [32])) t = none) : lineP ⟨(k' : Nat), j, rj⟩ t = none := by
 rw [line_fieldP (p := ⟨(k' : Nat), j, rj⟩) rfl hj, h]
theorem line_field_bad {k' j : Nat} {rj : R9} (hj : j < (fieldsv (k' : Nat)).length) {t s : List UInt8} (h : stripB (32 :: (((fieldsv (k' : Nat))[j]'hj).toList ++ [32])) t = some s) (h2 : readv (sortv ((fieldsv (k' : Nat))[j]'hj)) s = none) : lineP ⟨(k' : Nat), j, rj⟩ t = none := by
 rw [line_fieldP (p := ⟨(k' : Nat), j, rj⟩) rfl hj, h]
 simp only [h2]
theorem line_field_yes {k' j : Nat} {rj : R9} (hj : j < (fieldsv (k' : Nat)).length) {t s : List UInt8} {v : V10} (h : stripB (32 :: (((fieldsv (k' : Nat))[j]'hj).toList ++ [32])) t = some s) (h2 : readv (sortv ((fieldsv (k' : Nat))[j]'hj)) s = some v) : lineP ⟨(k' : Nat), j, rj⟩ t = some ⟨(k' : Nat), j + 1, setK10 rj k' (lastK rj k') ((fieldsv (k' : Nat))[j]'hj) v⟩ := by
 rw [line_fieldP (p := ⟨(k' : Nat), j, rj⟩) rfl hj, h]
 simp only [h2]
theorem EnvR.base {W w : World} {B : Nat} (h : EnvR W) (hb : Below B W w) (h12 : 12 ≤ B) : EnvR w := h.keep12 (hb.mono h12)
theorem to_x {x : ByteArray} {l : List UInt8} (h : x = toB l) : x.toList = l := by rw [h]; simp [toB, Lib.toList_data]
set_option maxHeartbeats 8000000 in
set_option maxRecDepth 100000 in
theorem delem_b (B b : Nat) (s : ByteArray) (n k : Nat) (su sw st : Value) (r : R9) (W : World) (hE : EnvR W) (h : Rdr W b s n k su sw st) (hR : Rwb W B su sw st r) (hB : B ≤ b) (h12 : 12 ≤ B) (hsz : 4 * n + s.size ≤ 40000) (hne : s.toList ≠ []) (hcnt : lnR r ≤ n) :
 Calls Tryz.prog 57 #[.pointer (some ⟨b, 0, none⟩)] W (ElemP B b s n k r W) := by
 have hbl := Blk.lt h
 have hBW : B ≤ W.heap.size := by omega
 have hnI : (0 : Int) ≤ n ∧ (n : Int) ≤ 1000000 := by omega
 have hcu : r.us.length ≤ 9000 ∧ r.ws.length ≤ 9000 ∧ r.ts.length ≤ 9000 := by unfold lnR at hcnt; omega
 go_enter Tryz.func57, Tryz.ntmps57
 go_upto_region 1 with fail
 go_wp2_with fail
 ((with_reducible refine (dnext_b b s n k _ _ _ _ hE h (by omega) hnI).mono ?_); rintro e w1 ⟨x, y, f, rfl, hx, hy, hf, hRd, hbt, hb⟩)
 have hR1 := hR.but hbt (by decide) (by decide) (by decide) (by decide)
 have hL : Below B W w1 := hb.mono hB
 have hE1 := hE.base hL h12
 rw [show (n : Int) + 1 = ((n + 1 : Nat) : Int) by omega] at hRd
 have hxs : x.size ≤ s.size := by
  rw [← rt_size, ← rt_size, ← Lib.toList_data, ← Lib.toList_data, hx]
  exact (cutC_le s.toList).1
 replace hf := hid hf
 replace hx := hid hx
 replace hy := hid hy
 obtain ⟨u, hu⟩ : ∃ z, Hid (z = toB (cutC 32 x.data.toList).1) := ⟨_, hid rfl⟩
 obtain ⟨v, hv⟩ : ∃ z, Hid (z = toB (cutC 32 x.data.toList).2.1) := ⟨_, hid rfl⟩
 obtain ⟨q, hq⟩ : ∃ z, Hid (z = (cutC 32 x.data.toList).2.2) := ⟨_, hid rfl⟩
 clear h hR hbt hb hnI
 go_wp2_with fail
 ((with_reducible refine (tcut_b x 32 u v q _ hE1 (by omega) hu hv hq).mono ?_); rintro e w2 ⟨rfl, hb⟩)
 replace hRd : Rdr w2 b y ((n + 1 : Nat) : Int) k su sw st := Blk.below hRd hb
 replace hR1 := hR1.below hb
 replace hL := hL.trans (hb.mono (Nat.le_trans hBW hL.size))
 replace hE1 := hE1.keep hb
 clear hb
 have hu2 := to_x hu.out
 have hv2 := to_x hv.out
 have hq2 := hq.out
 rw [← Lib.toList_data, hx.out] at hu2 hv2 hq2
 replace hq2 := hid hq2
 replace hu2 := hid hu2
 replace hv2 := hid hv2
 clear hu hv hq
 go_wp2_with fail
 ((with_reducible refine (dkind_b u _ hE1).mono ?_); rintro e w3 ⟨k', b', rfl, hk1, hk0, rfl⟩)
 rw [hu2.out] at hk1 hk0
 cases f with
 | false =>
  have hbad := hid (bad_full (p := ⟨(k : Nat), (fieldsv (k : Nat)).length, r⟩) (n := n + 1) hf.out.symm hne)
  clear hk1 hk0 hu2 hv2 hq2 hx hy hR1 hE1
  go_wp2_with fail
  all_goals (go_ret; exact .inr ⟨n + 1, _, _, _, _, _, rfl, hbad.out, hRd, hL⟩)
 | true =>
  cases b' with
  | false =>
   have hbad := hid (bad_none (p := ⟨(k : Nat), (fieldsv (k : Nat)).length, r⟩) (n := n + 1) hf.out.symm (line_no rfl (.inl (hk0 rfl))))
   clear hk1 hk0 hu2 hv2 hq2 hx hy hR1 hE1
   go_wp2_with fail
   all_goals (go_ret; exact .inr ⟨n + 1, _, _, _, _, _, rfl, hbad.out, hRd, hL⟩)
  | true =>
   have hkw := hid (hk1 rfl)
   have hk3 := hid (kindW_3 hkw.out)
   obtain ⟨nb, hnb⟩ : ∃ z, Hid (z = nameB v.data.toList) := ⟨_, hid rfl⟩
   have hnb2 := hnb.out
   rw [← Lib.toList_data, hv2.out] at hnb2
   replace hnb2 := hid hnb2
   obtain ⟨_, _, c2, _, _, _, k6⟩ := hRd.cells
   have f2 := k6 2
   clear hk1 hk0 k6
   go_wp2_with fail
   ((with_reducible refine (lname_b v nb _ hnb).mono ?_); rintro e w4 ⟨rfl, rfl⟩)
   cases nb with
   | false =>
    have hbad := hid (bad_none (p := ⟨(k : Nat), (fieldsv (k : Nat)).length, r⟩) (n := n + 1) hf.out.symm (line_no rfl (.inr (.inl hnb2.out.symm))))
    clear hu2 hv2 hq2 hx hy hR1 hE1 hnb2 hkw
    go_wp2_with fail
    all_goals (go_ret; exact .inr ⟨n + 1, _, _, _, _, _, rfl, hbad.out, hRd, hL⟩)
   | true =>
    by_cases hkk : (k' : Int) < k
    · have hbad := hid (bad_none (p := ⟨(k : Nat), (fieldsv (k : Nat)).length, r⟩) (n := n + 1) hf.out.symm (line_small rfl hkw.out hkk))
      clear hu2 hv2 hq2 hx hy hR1 hE1 hnb2 hkw
      go_wp2_with fail
      all_goals (go_ret; exact .inr ⟨n + 1, _, _, _, _, _, rfl, hbad.out, hRd, hL⟩)
    · have hq1 : (cutC 32 (cutC 10 s.toList).1).2.2 = true := by
       cases hh : (cutC 32 (cutC 10 s.toList).1).2.2 with
       | true => rfl
       | false =>
        have h1 := (cutC_no _ hh).2.2
        have h2 := hnb2.out
        rw [h1] at h2
        exact absurd h2 (by decide)
      have hline := line_yes (p := ⟨(k : Nat), (fieldsv (k : Nat)).length, r⟩) rfl hkw.out hq1 hnb2.out.symm hkk
      obtain ⟨hg1, hg2⟩ := rd_some (n := n + 1) hf.out.symm hline
      have hlen := cutC_len s.toList hf.out.symm
      rw [← hy.out] at hg1 hg2 hlen
      rw [← hv2.out] at hg1
      have hul := kindW_len hkw.out
      have hvl9 := nameB_len hnb2.out.symm
      have hlx := cutC_len (cutC 10 s.toList).1 hq1
      have hys : y.size + 7 ≤ s.size := by rw [← rt_size, ← rt_size, ← Lib.toList_data, ← Lib.toList_data]; omega
      clear hul hvl9 hlx
      obtain ⟨fm1, fm2⟩ := fields_min hk3.out
      have hRd2 := Blk.set hRd 2 (.int .i64 (k' : Nat))
      simp only [List.set_cons_zero, List.set_cons_succ] at hRd2
      replace hRd2 : Rdr _ b y ((n + 1 : Nat) : Int) (k' : Nat) su sw st := hRd2
      replace hR1 := hR1.but (ButT.set hRd 2 (.int .i64 (k' : Nat))) (by decide) (by decide) (by decide) (by decide)
      replace hL := hL.setCell (p := ⟨b, 2, none⟩) hB (.int .i64 (k' : Nat))
      have hg1' := hid hg1
      have hg2' := hid hg2
      clear hq1 hline hq2 hu2 hx hy hnb2 hkw hE1 hRd hg1 hg2 hlen hf
      go_upto_region 7 with fail
      go_wp2_with fail
      ((with_reducible refine (dadd_b B b y v ((n + 1 : Nat) : Int) k' _ _ _ r _ hk3.out hRd2 hR1 hB hcu.1 hcu.2.1 hcu.2.2).mono ?_); rintro e w5 ⟨su', sw', st', v', g, m, c, i, rfl, hsl, hln, hla, hEl, hRd3, hR3, hb⟩)
      replace hL := hL.trans hb
      clear hRd2 hR1 hb
      obtain ⟨vs, rfl, hvl, hlo⟩ := hEl.lone
      have ha := (Below.refl w5.heap.size w5).alloc (Nat.le_refl _) (.cells vs.toArray 64)
      have hX := Blk.new w5 vs 64
      have hB5 : B ≤ w5.heap.size := Nat.le_trans hBW hL.size
      obtain ⟨f0, hf0⟩ : ∃ f0, f0 ∈ fieldsv (k' : Nat) := ⟨_, List.getElem_mem (show 0 < (fieldsv (k' : Nat)).length by omega)⟩
      obtain ⟨-, hBg, us0, tc0, hbg0, -⟩ := hR3.blk hf0 (show i < _ by omega) hsl
      have hgx := hbg0.lt
      replace hRd3 : Rdr (w5.alloc (.cells vs.toArray 64)) b y ((n + 1 : Nat) : Int) k' su' sw' st' := Blk.below hRd3 ha
      replace hR3 := hR3.below ha
      replace hEl := hEl.below ha
      replace hL := hL.trans (ha.mono hB5)
      have hJ : Hid (JF s n k r k' 0 y (n + 1) (newK r k' v.toList) i) := hid ⟨hg1'.out, hg2'.out, by omega, by omega, rfl, cnt_new r hk3.out _, ln_new r hk3.out _, fun q => q.new _ _, hln, hla⟩
      clear ha hbg0 hf0 hg1' hg2' hln hla hv2
      go_upto_region 8 with (first | (with_reducible refine wpList_alloc_agg rfl 64 rfl _ rfl eZero zeroEl ?_) | (with_reducible refine wpList_store_new rfl 64 _ _ rfl rfl Tryz.sizeOf64 vs eZero 64 (by with_unfolding_all rfl) (by with_unfolding_all rfl) hvl rfl hlo ?_))
      generalize w5.alloc (.cells vs.toArray 64) = X4 at *
      generalize w5.heap.size = xb at *
      go_wp2_with fail
      ((with_reducible refine (dfieldsB_b k' _).mono ?_); rintro e w6 ⟨vf, rfl, hf9, hb⟩)
      replace hRd3 : Rdr w6 b y ((n + 1 : Nat) : Int) k' su' sw' st' := Blk.below hRd3 hb
      replace hR3 := hR3.below hb
      replace hEl := hEl.below hb
      replace hX := hX.below hb
      replace hL := hL.trans (hb.mono (Nat.le_trans hBW hL.size))
      clear hb
      obtain ⟨pf, cf, rfl, hfm, -⟩ := id hf9
      unfold maxLen at hfm
      go_upto_region 9 with fail
      go_loopw [62] (fun v62 wr => ∃ (j : Nat) (sj : ByteArray) (nj : Nat) (rj : R9), v62 = .int .i64 j ∧ j ≤ (fieldsv (k' : Nat)).length ∧ Rdr wr b sj nj k' su' sw' st' ∧ Rwb wr B su' sw' st' rj ∧ Blk wr xb vs 64 ∧ Elem wr (.agg vs.toArray) k' g (i * cellsK k') ∧ SB wr (.slice pf (fieldsv (k' : Nat)).length cf) (fieldsv (k' : Nat)) ∧ Below B W wr ∧ Hid (JF s n k r k' j sj nj rj i)) (fun v62 _ => (fieldsv (k' : Nat)).length - (RowKit.intOf v62).toNat)
      case atStart => exact ⟨0, y, n + 1, _, rfl, by omega, hRd3, hR3, hX, hEl, hf9, hL, hJ⟩
      case round =>
       clear hRd3 hR3 hX hEl hf9 hL hJ
       obtain ⟨j, sj, nj, rj, rfl, hj, hRd, hR, hX, hEl, hf9, hL, hJ⟩ := hrel
       by_cases hjl : j < (fieldsv (k' : Nat)).length
       case neg =>
        obtain rfl : j = (fieldsv (k' : Nat)).length := by omega
        have e1 : ¬ ((fieldsv (k' : Nat)).length : Int) < (fieldsv (k' : Nat)).length := by omega
        have hcn := hJ.out.lns
        have hnu := hJ.out.num
        clear hf9 hX hEl hfm
        go_wp2_with fail
        go_ret
        exact .inl ⟨sj, nj, k', su', sw', st', rj, rfl, hJ.out.go, hJ.out.tail, hJ.out.lt, hJ.out.le, by omega, hJ.out.cnt, hJ.out.small, hRd, hR, hL⟩
       have e1 : (j : Int) < (fieldsv (k' : Nat)).length := by omega
       have e0 : (0 : Int) ≤ j := by omega
       have hle := hJ.out.le
       have hnu := hJ.out.num
       have hln := hJ.out.names
       have hla := hJ.out.last
       have hnI : (0 : Int) ≤ nj ∧ (nj : Int) ≤ 1000000 := by omega
       obtain ⟨p9, c9, e9, -, hat⟩ := id hf9
       injection e9 with e91 _ e93
       subst e93
       obtain ⟨g9, o9, us9, e92, hg9, hi9⟩ := hat (by omega)
       rw [e92] at e91
       subst e91
       have q9 := (hg9.cell (o9 + j)).trans (hi9 j hjl)
       have hfk : (fieldsv (k' : Nat))[j]'hjl ∈ fieldsv (k' : Nat) := List.getElem_mem hjl
       have hE9 := hE.base hL h12
       have hlno := hid (fun (t : List UInt8) => line_field_no (rj := rj) hjl (t := t))
       have hlbad := hid (fun (t s : List UInt8) => line_field_bad (rj := rj) hjl (t := t) (s := s))
       have hlyes := hid (fun (t s : List UInt8) (v : V10) => line_field_yes (rj := rj) hjl (t := t) (s := s) (v := v))
       obtain ⟨fj, hfj⟩ : ∃ f, (fieldsv (k' : Nat))[j]'hjl = f := ⟨_, rfl⟩
       rw [hfj] at q9 hfk hlno hlbad hlyes
       have hfz : fj.size ≤ 10 := by rw [← rt_size, ← Lib.toList_data]; exact (fields_short hfk).1
       clear hat hi9 hg9 hfj
       go_upto_region 11 with fail
       go_wp2_with fail
       ((with_reducible refine (dnext_b b sj nj k' _ _ _ _ hE9 hRd (by omega) hnI).mono ?_); rintro e w7 ⟨x2, y2, f2, rfl, hx2, hy2, hf2, hRd7, hbt, hb⟩)
       replace hf2 := hid hf2
       replace hx2 := hid hx2
       replace hy2 := hid hy2
       rw [show (nj : Int) + 1 = ((nj + 1 : Nat) : Int) by omega] at hRd7
       replace hR := hR.but hbt (by decide) (by decide) (by decide) (by decide)
       replace hX := hbt.blk hX (by decide)
       replace hEl := hbt.elem hEl
       replace hf9 := hbt.sb hf9 (by decide)
       replace hL := hL.trans (hb.mono hB)
       have hxs : x2.size ≤ sj.size := by
        rw [← rt_size, ← rt_size, ← Lib.toList_data, ← Lib.toList_data, hx2.out]
        exact (cutC_le sj.toList).1
       clear hbt hb hRd hE9
       obtain ⟨bg, hbg⟩ : ∃ x, Hid (x = toB (32 :: (fj.toList ++ [32]))) := ⟨_, hid rfl⟩
       go_wp2_with fail
       ((with_reducible refine (dbegin_b fj bg _ (by omega) hbg).mono ?_); rintro e _ ⟨rfl, rfl⟩)
       obtain ⟨val, isf, hst⟩ := tstrip_cases bg x2
       go_wp2_with fail
       ((with_reducible refine (tprefix_b x2 bg val isf _ hst).mono ?_); rintro e _ ⟨rfl, rfl⟩)
       have hst2 := hst.out
       rw [← Lib.toList_data, ← Lib.toList_data, ← Lib.toList_data, hx2.out, to_x hbg.out] at hst2
       replace hst2 := hid hst2
       clear hst hbg
       cases f2 with
       | false =>
        have hbad := hid ((bad_end (p := ⟨(k' : Nat), j, rj⟩) (n := nj + 1) hf2.out.symm hjl).back hJ.out.go hJ.out.tail)
        clear hst2 hlno hlbad hlyes hx2 hy2 hX hEl hf9 hR
        go_wp2_with fail
        all_goals (go_ret; exact .inr ⟨nj + 1, _, _, _, _, _, rfl, hbad.out, hRd7, hL⟩)
       | true =>
        cases isf with
        | false =>
         have hno : stripB (32 :: (fj.toList ++ [32])) (cutC 10 sj.toList).1 = none := by
          rcases hst2.out with ⟨_, q⟩ | ⟨q, -⟩
          · cases q
          · exact q
         have hbad := hid ((bad_none (p := ⟨(k' : Nat), j, rj⟩) (n := nj + 1) hf2.out.symm (hlno.out _ hno)).back hJ.out.go hJ.out.tail)
         clear hst2 hlno hlbad hlyes hx2 hy2 hX hEl hf9 hR hno
         go_wp2_with fail
         all_goals (go_ret; exact .inr ⟨nj + 1, _, _, _, _, _, rfl, hbad.out, hRd7, hL⟩)
        | true =>
         have hyes : stripB (32 :: (fj.toList ++ [32])) (cutC 10 sj.toList).1 = some val.toList := by
          rcases hst2.out with ⟨q, -⟩ | ⟨-, -, q⟩
          · exact q
          · cases q
         replace hyes := hid hyes
         have kx := hid (hX.loads (P := Tryz.prog) hvl)
         obtain ⟨-, hBg2, us, tc, hblk, hlt, nt1, nt2, nt3⟩ := hR.blk hfk (show i < _ by omega) hsl
         have hE7 := hE.base hL h12
         have hvs : val.size ≤ 100000 := by
          have h1 := (strip_iff _ _ _).1 hyes.out
          have h2 := congrArg List.length h1
          rw [← hx2.out, Lib.toList_data, rt_size] at h2
          rw [List.length_append, Lib.toList_data val, rt_size val] at h2
          omega
         clear hst2 hlno
         go_wp2_with (with_reducible refine wpList_load_agg' 64 _ rfl (by with_unfolding_all rfl) ⟨xb, 0, none⟩ (by with_unfolding_all rfl) Tryz.isAgg64 Tryz.sizeOf64 vs kx.out ?_)
         ((with_reducible refine (dread_b k' g (i * cellsK k') _ fj val us tc _ hE7 hEl hfk hblk hlt hvs (by omega)).mono ?_); rintro e w8 ⟨bb, xx, w9, rfl, hb, rfl, hyy, hnn⟩)
         have hgl := hblk.lt
         have hbk9 := hblk.below hb
         have hset := ButT.set hbk9 (i * cellsK k' + offv k' fj) xx
         have hRd10 := hset.blk (Blk.below hRd7 hb) nt3
         replace hRd10 : Rdr _ b y2 ((nj + 1 : Nat) : Int) (k' : Nat) su' sw' st' := hRd10
         have hL10 := (hL.trans (hb.mono (Nat.le_trans hBW hL.size))).setCell (p := ⟨g, i * cellsK k' + offv k' fj, none⟩) hBg xx
         replace hX := hset.blk (hX.below hb) nt2
         replace hEl := hset.elem (hEl.below hb)
         replace hf9 := hset.sb (hf9.below hb) nt1
         cases bb with
         | false =>
          have hbad := hid ((bad_none (p := ⟨(k' : Nat), j, rj⟩) (n := nj + 1) hf2.out.symm (hlbad.out _ _ hyes.out (hnn rfl))).back hJ.out.go hJ.out.tail)
          clear hlbad hlyes hx2 hy2 hX hEl hf9 hR hyy hnn hset hbk9 hb hRd7 hL kx hblk hE7
          go_wp2_with fail
          all_goals (go_ret; exact .inr ⟨nj + 1, _, _, _, _, _, rfl, hbad.out, hRd10, hL10⟩)
         | true =>
          obtain ⟨vv, hvv, hcv, hnew, hcx, hox, hsb⟩ := hyy rfl
          have hR10 := (hR.below hb).field hfk (show i < _ by omega) hsl hcv hnew hgl hcx hsb
          have hl1 := hlyes.out _ _ vv hyes.out hvv
          obtain ⟨hg1, hg2⟩ := rd_some (n := nj + 1) hf2.out.symm hl1
          have hlen := cutC_len sj.toList hf2.out.symm
          rw [← hy2.out] at hg1 hg2 hlen
          rw [hla] at hg1
          have hfp := fields_pos hfk
          have hxl : 3 ≤ (cutC 10 sj.toList).1.length := by
           have h1 := congrArg List.length ((strip_iff _ _ _).1 hyes.out)
           rw [List.length_append, List.length_cons, List.length_append, Lib.toList_data fj, rt_size fj] at h1
           simp only [List.length_singleton] at h1
           omega
          have hys : y2.size + 4 ≤ sj.size := by rw [← rt_size, ← rt_size, ← Lib.toList_data, ← Lib.toList_data]; omega
          have hlt2 := hJ.out.lt
          have hvl5 : vv.l.length ≤ 100000 := by
           have h1 := read_small hvv
           have h2 := congrArg List.length ((strip_iff _ _ _).1 hyes.out)
           rw [List.length_append] at h2
           have h3 := (cutC_le (c := 10) sj.toList).1
           have h4 : sj.toList.length = sj.size := by rw [Lib.toList_data, rt_size]
           omega
          have hJ2 : Hid (JF s n k r k' (j + 1) y2 (nj + 1) (setK10 rj k' i fj vv) i) := hid ⟨hJ.out.go.trans hg1, hJ.out.tail.trans hg2, by omega, by omega, by omega, (cnt_set ..).trans hJ.out.cnt, (ln_set ..).trans hJ.out.lns, fun q => (hJ.out.small q).set _ _ _ hvl5, (names_setK ..).trans hJ.out.names, (last_setK ..).trans hJ.out.last⟩
          clear hlbad hlyes hx2 hy2 hR hyy hnn hset hbk9 hb hRd7 hL kx hblk hE7 hJ hg1 hg2 hlen hl1 hcv hnew hcx hox hsb hvv hyes hf2 hlt2
          go_wp2_with fail
          go_roundw
          case rel =>
           refine ⟨j + 1, y2, nj + 1, setK10 rj k' i fj vv, by go_num, by omega, ?_⟩
           (repeat' apply And.intro) <;> first | assumption | trivial
          case measure => simp [RowKit.intOf]; omega
end
section
open Go.RowKit Go.Lib
theorem results_agg_tri {P : Program} {fn : Func} {tmps : Array Value} {w : World} {c j l : Nat} {t : TypeId} (hf : fn.results = #[.cell c t, .tmp j, .tmp l]) {b : Nat} (hp : tmps.getD c undef = .pointer (some ⟨b, 0, none⟩)) {x y : Value} (hx : tmps.getD j undef = x) (hy : tmps.getD l undef = y) {k : Nat} (agg : ∀ w, (isAgg t).run P w = .ok true w) (sz : ∀ w, (Go.sizeOf t).run P w = .ok k w)
 {vs : List Value} {s : TypeId} (hB : Blk w b vs s) (hl : vs.length = k) : (results fn tmps).run P w = .ok (.tuple #[.agg vs.toArray, x, y]) w := by
 unfold results
 rw [hf]
 rw [Array.getD_eq_getD_getElem?] at hp hx hy
 simp [hp, hx, hy, asAddr, loadVar, loadCells, agg, sz, hB.loads (P := P) hl, Result.andThen]
def ParseP (s : List UInt8) (w : World) (e : Ending) (w' : World) : Prop := ∃ su sw st, e = .returned (.tuple #[.agg #[su, sw, st], .int .i64 (parsev10 s).2.1, .int .i64 (parsev10 s).2.2]) ∧ RAt w' su sw st (parsev10 s).1 ∧ CapR w' su st ∧ Below w.heap.size w w'
structure PF (s : List UInt8) (s' : ByteArray) (n k : Nat) (r : R9) : Prop where
 go : goP ⟨0, 0, R9.zero⟩ 1 (linesB s) = goP ⟨(k : Nat), (fieldsv (k : Nat)).length, r⟩ (n + 1) (linesB s'.toList)
 tail : tailB s = tailB s'.toList
 le : 4 * n + 3 * cntR r + s'.size ≤ s.length
 lns : lnR r ≤ n
 small : SmR r
theorem parse_bad {s : List UInt8} {m : Nat} (hs : s.length ≤ 32768) (h : Bad ⟨0, 0, R9.zero⟩ 1 s m) : parsev10 s = (R9.zero, (m : Int), 5) := by
 obtain ⟨h1, h2⟩ := h
 unfold BadT at h1
 unfold parsev10
 rw [if_neg (by omega), if_pos h1, h2]
theorem parse_end {s : List UInt8} {n k : Nat} {r : R9} (hs : s.length ≤ 32768) {s' : ByteArray} (h : PF s s' n k r) (h0 : s'.toList = []) : parsev10 s = if valv r = 0 then (r, 0, 0) else (R9.zero, 0, valv r) := by
 have e1 := h.go
 have e2 := h.tail
 rw [h0] at e1 e2
 rw [show linesB [] = [] from rfl, goP_nil] at e1
 rw [show tailB [] = [] from rfl] at e2
 unfold parsev10
 rw [if_neg (by omega), e1, e2, if_neg (by simp)]
theorem Rwb.shape {w : World} {B : Nat} {su sw st : Value} {r : R9} (h : Rwb w B su sw st r) : ∃ q0 k0 q1 k1 q2 k2, su = .slice q0 r.us.length k0 ∧ sw = .slice q1 r.ws.length k1 ∧ st = .slice q2 r.ts.length k2 := by
 obtain ⟨q0, k0, q1, k1, q2, k2, _, _, _, e0, e1, e2, _⟩ := h
 exact ⟨q0, k0, q1, k1, q2, k2, e0, e1, e2⟩
def restV (w : World) (b : Nat) : Nat := match w.cell? ⟨b, 0, none⟩ with
 | some (.string x) => x.size
 | _ => 0
theorem Rdr.rest {w : World} {b : Nat} {s : ByteArray} {n k : Int} {su sw st : Value} (h : Rdr w b s n k su sw st) : restV w b = s.size := by
 unfold restV
 rw [h.cells.1]
set_option maxHeartbeats 8000000 in
set_option maxRecDepth 100000 in
theorem dparse_b (s : ByteArray) (W : World) (hE : EnvR W) : Calls Tryz.prog 22 #[.string s] W (ParseP s.toList W) := by
 have hsl : s.toList.length = s.size := by rw [Lib.toList_data, rt_size]
 have hY := Blk.new W [.slice none 0 0, .slice none 0 0, .slice none 0 0] 31
 have hL := (Below.refl W.heap.size W).alloc (Nat.le_refl _) (.cells ([.slice none 0 0, .slice none 0 0, .slice none 0 0] : List Value).toArray 31)
 have hE1 := hE.keep hL
 have h12 := hE.big
 have hEW := hid hE
 clear hE hE1
 by_cases hbig : (32768 : Int) < s.size
 · have hp := hid (show parsev10 s.toList = (R9.zero, 0, 2) by unfold parsev10; rw [if_pos (by omega)])
   go_enter Tryz.func22, Tryz.ntmps22
   go_upto_region 1 with fail
   generalize W.alloc (.cells ([.slice none 0 0, .slice none 0 0, .slice none 0 0] : List Value).toArray 31) = V at *
   obtain ⟨_, _, _, _, _, _⟩ := hY.three
   go_wp2_with fail
   refine bodyPost_ret (results_agg_tri rfl rfl rfl rfl Tryz.isAgg31 Tryz.sizeOf31 (((hY.set 0 _).set 1 _).set 2 _) rfl) rfl ?_
   exact ⟨_, _, _, by rw [hp.out]; rfl, by rw [hp.out]; exact zero_rules _, zero_cap _, (((hL.setCell (Nat.le_refl _) _).setCell (Nat.le_refl _) _).setCell (Nat.le_refl _) _)⟩
 · go_enter Tryz.func22, Tryz.ntmps22
   go_upto_region 1 with fail
   generalize W.alloc (.cells ([.slice none 0 0, .slice none 0 0, .slice none 0 0] : List Value).toArray 31) = V at *
   have hbv := hY.lt
   go_upto_region 4 with fail
   have hRd0 : Rdr (V.alloc (.cells #[.string s, .int .i64 0, .int .i64 0, .slice none 0 0, .slice none 0 0, .slice none 0 0] 99)) V.heap.size s ((0 : Nat) : Int) ((0 : Nat) : Int) (.slice none 0 0) (.slice none 0 0) (.slice none 0 0) := Blk.new V [.string s, .int .i64 0, .int .i64 0, .slice none 0 0, .slice none 0 0, .slice none 0 0] 99
   have hY0 := hY.alloc (.cells #[.string s, .int .i64 0, .int .i64 0, .slice none 0 0, .slice none 0 0, .slice none 0 0] 99)
   have hL0 := hL.alloc hL.size (.cells #[.string s, .int .i64 0, .int .i64 0, .slice none 0 0, .slice none 0 0, .slice none 0 0] 99)
   clear hY hL
   generalize V.alloc (.cells #[.string s, .int .i64 0, .int .i64 0, .slice none 0 0, .slice none 0 0, .slice none 0 0] 99) = X at *
   generalize V.heap.size = b at *
   have hR0 := Rwb.nil X b
   have hPF0 : Hid (PF s.toList s 0 0 R9.zero) := hid ⟨rfl, rfl, by unfold cntR R9.zero; simp; omega, Nat.zero_le _, SmR.zero⟩
   have hs32 : s.toList.length ≤ 32768 := by omega
   go_loopw [14] (fun _ wr => ∃ (s' : ByteArray) (n k : Nat) (su sw st : Value) (r : R9), Rdr wr b s' n k su sw st ∧ Rwb wr b su sw st r ∧ Blk wr W.heap.size [.slice none 0 0, .slice none 0 0, .slice none 0 0] 31 ∧ Below W.heap.size W wr ∧ Hid (PF s.toList s' n k r)) (fun _ wr => restV wr b)
   case atStart => exact ⟨s, 0, 0, _, _, _, _, hRd0, hR0, hY0, hL0, hPF0⟩
   case round =>
    clear hRd0 hR0 hY0 hL0 hPF0
    obtain ⟨s', n, k, su, sw, st, r, hRd, hR, hY, hL, hPF⟩ := hrel
    have hle := hPF.out.le
    have hln := hPF.out.lns
    by_cases hs0 : s' = ⟨#[]⟩
    · subst hs0
      obtain ⟨q0, k0, q1, k1, q2, k2, rfl, rfl, rfl⟩ := hR.shape
      have hfin := hid (parse_end hs32 hPF.out (by rw [Lib.toList_data]))
      have hsm := hPF.out.small
      obtain ⟨c0, _, _, _, _, _, _⟩ := hRd.cells
      have hu : r.us.length ≤ 1000 ∧ r.ws.length ≤ 9000 ∧ r.ts.length ≤ 1000 := by unfold lnR at hln; unfold cntR at hle; omega
      have hRA := hid (hR.rat (by omega) (by omega) (by omega)).1
      obtain ⟨nv, hnv⟩ : ∃ z, Hid (z = valv r) := ⟨_, hid rfl⟩
      clear hPF hle hln
      go_wp2_with fail
      ((with_reducible refine (lVal_b _ _ _ r nv _ _ hRA.out (Below.refl _ _) hu.1 hu.2.2 hsm.u hnv).mono ?_); rintro e w1 ⟨rfl, hb⟩)
      replace hY := hY.below hb
      replace hL := below_call hL hb
      replace hR := hR.below hb
      replace hRd : Rdr w1 b _ n k _ _ _ := Blk.below hRd hb
      clear hb hRA
      obtain ⟨c0, c1, c2, c3, c4, c5, _⟩ := hRd.cells
      obtain ⟨_, _, _, _, _, _⟩ := hY.three
      by_cases hz : nv = 0
      · subst hz
        have hp := hid (show parsev10 s.toList = (r, 0, 0) by rw [hfin.out, if_pos hnv.out.symm])
        clear hfin hnv
        go_wp2_with fail
        have hY1 := hY.set 0 (.slice q0 r.us.length k0)
        have hY2 := hY1.set 1 (.slice q1 r.ws.length k1)
        have hY3 := hY2.set 2 (.slice q2 r.ts.length k2)
        simp only [List.set_cons_zero, List.set_cons_succ] at hY1 hY2 hY3
        replace hR := ((hR.but (ButT.set hY 0 (.slice q0 r.us.length k0)) (by decide) (by decide) (by decide) (by decide)).but (ButT.set hY1 1 (.slice q1 r.ws.length k1)) (by decide) (by decide) (by decide) (by decide)).but (ButT.set hY2 2 (.slice q2 r.ts.length k2)) (by decide) (by decide) (by decide) (by decide)
        obtain ⟨hR9, hC9⟩ := hR.rat (by omega) (by omega) (by omega)
        refine bodyPost_ret (results_agg_tri rfl rfl rfl rfl Tryz.isAgg31 Tryz.sizeOf31 hY3 rfl) rfl ?_
        exact ⟨_, _, _, by rw [hp.out]; rfl, by rw [hp.out]; exact hR9, hC9, (((hL.setCell (Nat.le_refl _) _).setCell (Nat.le_refl _) _).setCell (Nat.le_refl _) _)⟩
      · have hp := hid (show parsev10 s.toList = (R9.zero, 0, nv) by rw [hfin.out, ← hnv.out, if_neg hz])
        have z1 : (nv != 0) = true := bne_iff_ne.2 hz
        clear hfin hnv
        go_wp2_with fail
        refine bodyPost_ret (results_agg_tri rfl rfl rfl rfl Tryz.isAgg31 Tryz.sizeOf31 (((hY.set 0 _).set 1 _).set 2 _) rfl) rfl ?_
        exact ⟨_, _, _, by rw [hp.out]; rfl, by rw [hp.out]; exact zero_rules _, zero_cap _, (((hL.setCell (Nat.le_refl _) _).setCell (Nat.le_refl _) _).setCell (Nat.le_refl _) _)⟩
    · obtain ⟨a1, a2⟩ := lit_two (l := []) hs0
      have hEr := hEW.out.keep hL
      obtain ⟨c0, _⟩ := hRd.cells
      go_wp2_with fail
      ((with_reducible refine (delem_b b b s' n k su sw st r _ hEr hRd hR (Nat.le_refl _) (by omega) (by omega) a2 hln).mono ?_); rintro e w1 hP)
      rcases hP with ⟨s2, n2, k2, su2, sw2, st2, r2, rfl, hgo, htl, hlt, hle2, hln2, hct, hsm, hRd2, hR2, hb⟩ | ⟨m, s2, k2, su2, sw2, st2, rfl, hbad, hRd2, hb⟩
      · have hre := hRd.rest
        have hre2 := hRd2.rest
        replace hY := hY.under hb hbv
        replace hL := hL.trans (hb.mono (Nat.le_of_lt hbv))
        have hPF2 : Hid (PF s.toList s2 n2 k2 r2) := hid ⟨hPF.out.go.trans hgo, hPF.out.tail.trans htl, by omega, hln2, hsm hPF.out.small⟩
        clear hgo htl hPF hRd hR hsm a1 a2 hs0 c0 hEr
        go_wp2_with fail
        go_roundw
        case rel => exact ⟨s2, n2, k2, su2, sw2, st2, r2, hRd2, hR2, hY, hL, hPF2⟩
        case measure =>
         rw [hre, hre2]
         exact hlt
      · have hp := hid (parse_bad hs32 (hbad.back hPF.out.go hPF.out.tail))
        replace hY := hY.under hb hbv
        replace hL := hL.trans (hb.mono (Nat.le_of_lt hbv))
        clear hPF hRd hR a1 a2 hs0 c0 hEr hbad hb
        go_upto_region 6 with fail
        have hmx : Tryz.prog.follows .mixedOrders = true := by kernel_rfl
        refine wp_region_held (S := fun w' => Rdr w' b s2 m k2 su2 sw2 st2) hmx ?_
        show wpAnyH _ _ _ _ _ _ _ _ w1.drew
        have hD := (Below.refl w1.heap.size w1).drew
        have hS0 : Rdr w1.drew b s2 m k2 su2 sw2 st2 := Blk.below hRd2 hD
        replace hY := hY.below hD
        replace hL : Below W.heap.size W w1.drew := hL.drew
        clear hRd2 hD
        generalize w1.drew = wd at *
        refine reg_tk (i := 0) (v := .agg #[.slice none 0 0, .slice none 0 0, .slice none 0 0]) (some 18) rfl (fun w' hS => by go_simp) hS0 ?_
        simp only [Act.put, List.setIfInBounds_toArray, List.set_cons_zero, List.set_cons_succ]
        refine reg_tk (i := 1) (v := .pointer (some ⟨b, 1, none⟩)) (some 19) rfl (fun w' hS => by go_simp) hS0 ?_
        simp only [Act.put, List.setIfInBounds_toArray, List.set_cons_zero, List.set_cons_succ]
        refine reg_tk (i := 2) (v := .int .i64 (m : Nat)) (some 20) rfl (fun w' hS => by obtain ⟨_, c1, _⟩ := Rdr.cells (s := s2) (n := (m : Nat)) (k := k2) (su := su2) (sw := sw2) (st := st2) hS; go_simp) hS0 ?_
        simp only [Act.put, List.setIfInBounds_toArray, List.set_cons_zero, List.set_cons_succ]
        obtain ⟨_, _, _, _, _, _⟩ := hY.three
        refine held_one (i := 3) (by kernel_rfl) rfl (fun K hQ => ?_)
        go_simp
        have hS1 : Rdr (((wd.setCell ⟨W.heap.size, 0, none⟩ (.slice none 0 0)).setCell ⟨W.heap.size, 1, none⟩ (.slice none 0 0)).setCell ⟨W.heap.size, 2, none⟩ (.slice none 0 0)) b s2 m k2 su2 sw2 st2 := ((Blk.far hS0 (c := W.heap.size) (i := 0) (.slice none 0 0) (by omega)).far (c := W.heap.size) (i := 1) (.slice none 0 0) (by omega)).far (c := W.heap.size) (i := 2) (.slice none 0 0) (by omega)
        refine hQ.out _ _ hS1 ?_
        clear hQ
        try simp only [Act.put, List.setIfInBounds_toArray, List.set_cons_zero, List.set_cons_succ]
        refine reg_tk (i := 4) (v := .int .i64 (m : Nat)) (some 3) rfl (fun w' hS => by go_simp) hS1 ?_
        simp only [Act.put, List.setIfInBounds_toArray, List.set_cons_zero, List.set_cons_succ]
        refine reg_tk (i := 5) (v := .int .i64 5) (some 4) rfl (fun w' hS => by go_simp) hS1 ?_
        simp only [Act.put, List.setIfInBounds_toArray, List.set_cons_zero, List.set_cons_succ]
        refine wpAnyH_done (by kernel_rfl) ?_ _
        try show Exit.then _ _ Exit.normal _ _
        go_wp2_with fail
        refine bodyPost_ret (results_agg_tri rfl rfl rfl rfl Tryz.isAgg31 Tryz.sizeOf31 (((hY.set 0 _).set 1 _).set 2 _) rfl) rfl ?_
        exact ⟨_, _, _, by rw [hp.out]; rfl, by rw [hp.out]; exact zero_rules _, zero_cap _, (((hL.setCell (Nat.le_refl _) _).setCell (Nat.le_refl _) _).setCell (Nat.le_refl _) _)⟩
end
section
section
open Go.ChangeShapes Go.WideShapes Go.ChangeAt Go.RowKit
theorem own : ownKnob Tryz.prog.godebug = none := by kernel_rfl
section
variable {H : Type} {enc : TypeId × Value → H}
set_option maxRecDepth 100000 in
theorem post_law {f : Func} {s : ChangeSpec} {apart fresh handsOn again : Bool} {W W' : World} {args : Array Value} {v : Value} {ds gs : List (DataW H)} {before : List MemPlace}
 (hW : DataW.Whole enc Tryz.prog f.params.toList s.vars apart W args.toList ds gs before)
 (hres : ∀ (b : Nat) (sp : Nat → Bool) (hd : Bool), DataW.TrodAll enc Tryz.prog W' b sp hd f.resultTypes.toList (v.resultList f.resultTypes.size) (s.fn H (ds ++ gs)).results [])
 (hargs : ∀ sp : Nat → Bool, (∀ p ∈ before, sp p.block = true) → DataW.TrodAll enc Tryz.prog W' 0 sp true f.params.toList args.toList (s.fn H (ds ++ gs)).args before)
 (hvars : ∀ sp : Nat → Bool, DataW.TrodVars enc Tryz.prog W' sp s.vars (s.fn H (ds ++ gs)).vars [])
 (hb : Below W.heap.size W W')
 (hok : ∀ (j : Nat) (t : TypeId) (r : Value), f.resultTypes[j]? = some t → (v.resultList f.resultTypes.size)[j]? = some r → Value.okWide Tryz.prog W' .any 0 t r) :
 s.post enc Tryz.prog f apart fresh handsOn again W args v W' := by
 have hin : ∀ p ∈ before, decide (p.block < W.heap.size) = true := fun p hp => decide_eq_true (hW.lt p hp)
 have ha := hargs (fun b => decide (b < W.heap.size)) hin
 have ha2 := hargs (fun _ => true) (fun _ _ => rfl)
 refine ⟨ds, gs, before, [], before, [], hW, hres _ _ _, ha, hvars _, World.keptBut_mono (fun p hp => ⟨hp, by simpa using hp⟩) (hb.frame (· ∈ before)), fun _ => ?_⟩
 obtain ⟨_, _, _, _, _, hz, hn⟩ := hW
 refine ⟨hok, _, _, ([] ++ before) ++ [], ⟨[] ++ before, [], trodAll_append ha2 (hres _ _ _), hvars _, rfl, ?_, ?_⟩, ?_⟩
 · intro b off hp
   have hp' : MemPlace.cell b off ∈ before := by simpa using hp
   rw [hb.frozen (of_decide_eq_true (hin _ hp'))]
   exact hz b off hp'
 · intro h; simpa using hn h
 · intro p hp _; simpa using hp
end
end
section
open Go.ChangeShapes Go.WideShapes Go.ChangeAt Go.RowKit
theorem laidOut : laidOutB Tryz.prog = true := by kernel_rfl
section
variable {H : Type} {enc : TypeId × Value → H}
theorem trodAll_stays {W W' : World} {sp : Nat → Bool} (ts : List TypeId) (vs : List Value) (ds : List (DataW H)) (ps : List MemPlace) (hr : ∀ t ∈ ts, Tryz.prog.readableRec t = true ∧ t < Tryz.prog.types.size)
 (h : DataW.TrodAll enc Tryz.prog W 0 (fun _ => true) true ts vs ds ps) (hsame : ∀ p ∈ ps, W.sameAt W' p) (hs : ∀ p ∈ ps, sp p.block = true) : DataW.TrodAll enc Tryz.prog W' 0 sp true ts vs ds ps := by
 induction ts generalizing vs ds ps with
 | nil =>
  match vs, ds, h with
  | [], [], h => exact h
 | cons t ts ih =>
  match vs, ds, h with
  | v :: vs, d :: ds, h =>
   obtain ⟨p, q, h1, h2, rfl⟩ := h
   obtain ⟨r1, r2⟩ := hr t (List.mem_cons_self ..)
   exact ⟨p, q, WideElems.Trod_stays laidOut r1 r2 h1 (fun x hx => hsame x (List.mem_append_left _ hx)) (fun x hx => hs x (List.mem_append_left _ hx)),
    ih vs ds q (fun t ht => hr t (List.mem_cons_of_mem _ ht)) h2 (fun x hx => hsame x (List.mem_append_right _ hx)) (fun x hx => hs x (List.mem_append_right _ hx)), rfl⟩
set_option maxRecDepth 100000 in
theorem post_stays {f : Func} {s : ChangeSpec} {apart fresh handsOn again : Bool} {W W' : World} {args : Array Value} {v : Value} {ds gs : List (DataW H)} {before places : List MemPlace}
 (hW : DataW.Whole enc Tryz.prog f.params.toList s.vars apart W args.toList ds gs before)
 (hA : DataW.TrodAll enc Tryz.prog W 0 (fun _ => true) true f.params.toList args.toList ds places) (he : places = before)
 (hr : ∀ t ∈ f.params.toList, Tryz.prog.readableRec t = true ∧ t < Tryz.prog.types.size)
 (hself : (s.fn H (ds ++ gs)).args = ds)
 (hres : ∀ (b : Nat) (sp : Nat → Bool) (hd : Bool), DataW.TrodAll enc Tryz.prog W' b sp hd f.resultTypes.toList (v.resultList f.resultTypes.size) (s.fn H (ds ++ gs)).results [])
 (hvars : ∀ sp : Nat → Bool, DataW.TrodVars enc Tryz.prog W' sp s.vars (s.fn H (ds ++ gs)).vars [])
 (hb : Below W.heap.size W W')
 (hok : ∀ (j : Nat) (t : TypeId) (r : Value), f.resultTypes[j]? = some t → (v.resultList f.resultTypes.size)[j]? = some r → Value.okWide Tryz.prog W' .any 0 t r) :
 s.post enc Tryz.prog f apart fresh handsOn again W args v W' :=
 post_law hW hres (fun sp hsp => by
  subst he
  rw [hself]
  exact trodAll_stays _ _ _ _ hr hA (fun p hp => hb.same (hW.lt p hp)) hsp) hvars hb hok
end
end
end
section
open Go.ChangeShapes Go.WideShapes Go.ChangeAt Go.RowKit Go.Joins Go.Deep
theorem cellS9 : Tryz.prog.cellsOf 9 = 1 := by kernel_rfl
end
section
open Go.ChangeShapes Go.WideShapes Go.ChangeAt Go.WideMaps Go.WideElems Go.RowKit Go.Lib
section
variable {H : Type} {enc : TypeId × Value → H}
theorem witness_row_shaped {C : Checked} {os : Os} {f : FuncId} {fn : Func} {s : OpenSpec} {conds : List PathCond} {apart : Bool} {laid : List (String × DataW Unit)} (modest : Bool) (w0 : World) (args : Array Value) (hos : w0.os = os)
 (hsh : (w0.forCall (fun _ _ => 0) ⟨#[], args, []⟩).Shaped C.prog)
 (hok : Input.okWideB C.prog (w0.forCall (fun _ _ => 0) ⟨#[], args, []⟩) f ⟨#[], args, []⟩ = true)
 (hrow : s.preRow enc C.prog fn conds apart laid (w0.forCall (fun _ _ => 0) ⟨#[], args, []⟩).memory args) :
 ∃ (w : World) (tape : Tape) (i : Input), w.os = os ∧ (w.forCall tape i).Shaped C.prog ∧ i.vars = [] ∧ Input.okWide C.prog (w.forCall tape i) .any w.heap.size f i ∧
  s.preRow enc C.prog fn conds apart laid (w.forCall tape i).memory i.args ∧ ({ modest := modest } : Assume).holds C.prog (lone (Frame.enter C.prog f i.args .normal) [] (w.forCall tape i)) :=
 ⟨w0, fun _ _ => 0, ⟨#[], args, []⟩, hos, hsh, (Input.okWide_of_okWideB (base := 0) hok).1, (Input.okWide_of_okWideB hok).2, hrow, by
  simp only [Assume.holds]
  exact ⟨by simp, by simp, fun _ => Modest.zero, by simp, by simp⟩⟩
set_option maxRecDepth 100000 in
theorem lift_row {os : Os} {f : FuncId} {fn : Func} {s : OpenSpec} {F : Stop.Interp} {laid : List (String × DataW Unit)} {E : World → Prop}
 (envof : ∀ W : World, laidMetH Tryz.prog laid W → W.ShapedOpen Tryz.prog → E W)
 (started : os.Started) (noInit : Tryz.prog.inits.idxOf? f = none) (hfn : Tryz.prog.funcs[f]? = some fn)
 (witness : ∃ (w : World) (tape : Tape) (i : Input), w.os = os ∧ (w.forCall tape i).Shaped Tryz.prog ∧ i.vars = [] ∧ Input.okWide Tryz.prog (w.forCall tape i) .any w.heap.size f i ∧
  s.preRow enc Tryz.prog fn [] false laid (w.forCall tape i).memory i.args ∧ ({} : Assume).holds Tryz.prog (lone (Frame.enter Tryz.prog f i.args .normal) [] (w.forCall tape i)))
 (walk : ∀ (W : World) (base : Nat) (args : Array Value) (ds gs : List (DataW H)) (before : List MemPlace),
  (∀ (j : Nat) t v, fn.params[j]? = some t → args[j]? = some v → Value.okWide Tryz.prog W .any base t v) →
  DataW.Whole enc Tryz.prog fn.params.toList s.vars false W args.toList ds gs before → (∀ k, s.cond = some k → k H (ds ++ gs) = true) → E W →
  Calls Tryz.prog f args W fun e W' => ∃ v, e = .returned v ∧ (s.at F).post enc Tryz.prog fn false true false false W args v W') :
 ReturnsInHanded {} Tryz.checked os f .any (s.preRow enc Tryz.prog fn [] false laid) ((s.at F).post enc Tryz.prog fn false true false false) := by
 refine returnsInHanded_of_row (C := Tryz.checked) (s := s) own started noInit hfn witness ?_
 intro W base args ds gs before hval hW _ hcond _ hL hsh _
 exact walk W base args ds gs before hval hW hcond (envof W hL hsh)
end
end
section
open Go.ChangeShapes Go.WideShapes Go.ChangeAt Go.WideMaps Go.WideElems Go.RowKit Go.Joins Go.Deep Go.Lib
theorem get_post {r : R9} {k : Int} {nm f v : ByteArray} {b : Bool} {W w' : World} {e : Ending} (hv : Hid ((v, b) = getW r k nm f)) (h : GetPost r k nm f W e w') : e = .returned (.tuple #[.string v, .bool b]) ∧ Below W.heap.size W w' := by
 have h1 := hv.out
 unfold getW at h1
 rcases h with ⟨h2, rfl, hb⟩ | ⟨t, h2, rfl, hb⟩
 · rw [h2] at h1
   injection h1 with h1 h3
   subst h1 h3
   exact ⟨rfl, hb⟩
 · rw [h2] at h1
   injection h1 with h1 h3
   subst h1 h3
   exact ⟨rfl, hb⟩
theorem have_rt : RtHave EnvR where
 keep h hb := h.keep hb
 fields k W := dfields_b k W
 get su sw st r k nm f v b W hE hQ hu hw ht hv := (dget_b su sw st r k nm f W W hE hQ.at_ hQ.cap (Below.refl _ _) hQ.ints hQ.short hu hw ht).mono fun e w' h => get_post hv h
 set su sw st r R er k nm f s W hE hR hs hu hw ht hF hp := (dset_b su sw st r k nm f s W W hE hR (Below.refl _ _) hs hu hw ht hF.1 hF.2).mono fun e w' h => by
  obtain ⟨tu, tw, tt, he, h1, h2, h3⟩ := h
  rw [← hp.out] at he h1
  exact ⟨tu, tw, tt, he, h1, h2, h3⟩
 print su sw st r t er W hE hR hC hu hw ht hF hp := (dprint_b su sw st r W W hE hR hC (Below.refl _ _) hu hw ht hF.1).mono fun e w' h => by
  obtain ⟨rfl, rfl⟩ := hp.out
  exact h
 parse s R ln er W hE hp := (dparse_b s W hE).mono fun e w' h => by
  obtain ⟨tu, tw, tt, he, h1, h2, h3⟩ := h
  rw [← hp.out] at he h1
  exact ⟨tu, tw, tt, he, h1, h2, h3⟩
def laidEight : List (String × DataW Unit) := [("math/bits.deBruijn32tab", Rows.laid_math_bits_deBruijn32tab), ("math/bits.deBruijn64tab", Rows.laid_math_bits_deBruijn64tab), ("internal/strconv.uint64pow10", Rows.laid_internal_strconv_uint64pow10), ("unicode/utf8.acceptRanges", Rows.laid_unicode_utf8_acceptRanges), ("strconv.ErrRange", Rows.laid_strconv_ErrRange), ("strconv.ErrSyntax", Rows.laid_strconv_ErrSyntax), ("skirmish/ruletext.words", Rows.laid_skirmish_ruletext_words), ("unicode/utf8.first", Rows.laid_unicode_utf8_first)]
set_option maxRecDepth 100000 in
theorem laid_eight (os : Os) (args : Array Value) : laidMetH Tryz.prog laidEight ((World.laidAll Tryz.prog os laidEight).forCall (fun _ _ => 0) ⟨#[], args, []⟩).memory := by
 rw [MakeChecks.laidMetH_plain _ _ _ (by kernel_rfl)]
 exact laidMet_laidAll _ (by kernel_rfl) (by kernel_rfl)
theorem tErr8 : (Tryz.prog.globals[4]?).map (·.type) = some 91 := by kernel_rfl
theorem tSyn8 : (Tryz.prog.globals[3]?).map (·.type) = some 91 := by kernel_rfl
theorem tTab8 : (Tryz.prog.globals[2]?).map (·.type) = some 223 := by kernel_rfl
theorem cellsErr8 : Tryz.prog.cellsOf 247 = 1 := by kernel_rfl
theorem cellsU648 : Tryz.prog.cellsOf 147 = 1 := by kernel_rfl
theorem cellsTab8 : Tryz.prog.cellsOf 223 = 20 := by kernel_rfl
theorem starErr8 : "*" ++ "errors.errorString" = "*errors.errorString" := by decide
theorem rowErr8 (u : TypeId) (h : Tryz.prog.typeName? 3 u = some "*errors.errorString") : u = 245 :=
 typeName_ptr_named (nm := "errors.errorString") (by rw [starErr8]; kernel_rfl) (by kernel_rfl) (by decide) u (by rw [starErr8]; exact h)
theorem tab_data8 : (Rows.laid_internal_strconv_uint64pow10 : DataW Unit) = Lib.tabData .u64 Lib.pow10Tab := by rfl
theorem gWds : Tryz.prog.globalNamed "skirmish/ruletext.words" = some 0 := by kernel_rfl
theorem tWds : (Tryz.prog.globals[0]?).map (·.type) = some 94 := by kernel_rfl
theorem cellsWds : Tryz.prog.cellsOf 94 = 4 * 1 := by kernel_rfl
theorem tab_at8 {W : World} {base : Nat} {sp : Nat → Bool} {held : Bool} {fuel n size : Nat} {t e : TypeId} {cs : List Value} {D : List (DataW Unit)} {p : List MemPlace} (ht : Tryz.prog.underlying t = some (.array n e)) (hs : Tryz.prog.cellsOf e = size) (hn : Tryz.prog.cellsOf t = n * size)
 (h : DataW.trod (fun _ => ()) Tryz.prog W base sp held fuel t cs = some (.agg D, p)) (k : Nat) (hk : k < n) :
 ∃ m y, D[k]? = some y.1 ∧ DataW.trod (fun _ => ()) Tryz.prog W base sp held m e ((cs.drop (k * size)).take size) = some y ∧ cs.length = n * size := by
 obtain ⟨xs, m, _, hx, hl, hx2, ha⟩ := DataW.trod_array ht h
 rw [hn] at hl
 have e := ha k hk
 rw [hs] at e
 have ex : xs[k]? = some (xs[k]'(by omega)) := List.getElem?_eq_getElem (by omega)
 rw [ex] at e
 injection hx with hD _
 injection hD with hD
 exact ⟨m, _, by rw [hD, List.getElem?_map, ex]; rfl, e, hl⟩
theorem words_of {W : World} {l : List (String × DataW Unit)} (h : laidMet Tryz.prog (("skirmish/ruletext.words", Rows.laid_skirmish_ruletext_words) :: l) W) : ∀ k, k < 4 → W.cell? ⟨0, k, none⟩ = some (.string (wordA k)) := by
 obtain ⟨ps, ⟨g2, t2, cs2, fuel2, p2, q2, hg2, ht2, hvar2, hd2, _, _⟩, _⟩ := h
 obtain rfl := Option.some.inj (gWds.symm.trans hg2)
 obtain rfl := Option.some.inj (tWds.symm.trans ht2)
 have hc2 : ∀ i, W.cell? ⟨0, i, none⟩ = cs2.toList[i]? := fun i => by simpa using World.var?_cell gWds hvar2 i
 intro k hk
 obtain ⟨m, y, e, ht, hl⟩ := tab_at8 Tryz.underlying94 cellS9 cellsWds hd2 k hk
 obtain ⟨s, hs, hy, -⟩ := DataW.trod_string Tryz.underlying9 ht
 have hk2 : cs2.toList[k]? = some (.string s) := by
  have h0 : ((cs2.toList.drop (k * 1)).take 1)[0]? = some (.string s) := by rw [hs]; rfl
  rw [List.getElem?_take, if_pos (by decide), List.getElem?_drop] at h0
  simpa using h0
 rw [hc2, hk2]
 subst hy
 congr 2
 have key : ∀ (l : List UInt8), some (DataW.lit (H := Unit) (.string s.data.toList)) = some (DataW.lit (.string l)) → s = ⟨l.toArray⟩ := fun l h => by
  injection h with h
  injection h with h
  injection h with h
  rw [← h, Array.toArray_toList]
 obtain rfl | rfl | rfl | rfl : k = 0 ∨ k = 1 ∨ k = 2 ∨ k = 3 := by omega
 · exact key _ e.symm
 · exact key _ e.symm
 · exact key _ e.symm
 · exact key _ e.symm
theorem low_big8 : decide (12 ≤ Tryz.prog.low) = true := by kernel_rfl
theorem few_vars8 : decide (Tryz.prog.globals.size ≤ 11) = true := by kernel_rfl
theorem big_of8 {W : World} (hsh : W.ShapedOpen Tryz.prog) : 12 ≤ W.heap.size := by
 obtain ⟨o, _, ho, _⟩ := hsh.2 11 (of_decide_eq_true few_vars8) (of_decide_eq_true low_big8)
 have := (Array.getElem?_eq_some_iff.1 ho).1
 omega
theorem env_eight (W : World) (h : laidMetH Tryz.prog laidEight W) (hsh : W.ShapedOpen Tryz.prog) : EnvR W := by
 rw [MakeChecks.laidMetH_plain _ _ _ (by kernel_rfl)] at h
 have h2 := h.tail.tail
 have h4 := h2.tail.tail
 have h5 := h4.tail
 have hw := words_of h5.tail
 rw [tab_data8] at h2
 have ht := tabIs_of_head tgTab tTab8 Tryz.underlying223 Tryz.underlying147 cellsU648 cellsTab8 h2
 obtain ⟨a, s, hv, _⟩ := laid_sentinel h4 tgRng tErr8 Tryz.underlying91 rowErr8 Tryz.underlying245 Tryz.underlying247 rfl rfl Tryz.underlying9 cellsErr8 cellS9
 obtain ⟨b, t, hu, _⟩ := laid_sentinel h5 tgSyn tSyn8 Tryz.underlying91 rowErr8 Tryz.underlying245 Tryz.underlying247 rfl rfl Tryz.underlying9 cellsErr8 cellS9
 exact ⟨hw, ht, Tryz.laysM145.s1_3 W hsh, ⟨_, _, hu⟩, ⟨_, _, hv⟩, big_of8 hsh⟩
end
section
open Go.RowKit Go.Lib
def bowR : R9 := ⟨[], [⟨⟨#[98, 111, 119]⟩, 768, 6, 8, 64, 0⟩], []⟩
def bow7 : R9 := ⟨[], [⟨⟨#[98, 111, 119]⟩, 768, 7, 8, 64, 0⟩], []⟩
theorem dig6 : decDigits 6 = [54] := decDigits_one (by omega)
theorem dig7 : decDigits 7 = [55] := decDigits_one (by omega)
theorem dig8 : decDigits 8 = [56] := decDigits_one (by omega)
theorem dig0 : decDigits 0 = [48] := decDigits_one (by omega)
theorem dig64 : decDigits 64 = [54, 52] := decDigits_two (by omega) (by omega)
theorem dig768 : decDigits 768 = [55, 54, 56] := by
 rw [decDigits, dif_neg (by omega), show 768 / 10 = 76 from rfl, decDigits_two (by omega) (by omega)]
 rfl
theorem bow_val : valv bowR = 0 := by decide +kernel
theorem bow_type : typev 2 ⟨#[100, 97, 109, 97, 103, 101]⟩ = 1 := by decide +kernel
theorem bow_find : findv (namesK bowR 2) ⟨#[98, 111, 119]⟩ = 0 := by decide +kernel
theorem bow_get : getv10 bowR 2 ⟨#[98, 111, 119]⟩ ⟨#[100, 97, 109, 97, 103, 101]⟩ = some [54] := by
 unfold getv10
 rw [if_neg (by rw [bow_type]; decide), if_neg (by rw [bow_find]; decide), bow_find, bow_type]
 have e : valueK bowR 2 (0 : Int).toNat ⟨#[100, 97, 109, 97, 103, 101]⟩ = ⟨6, false, ⟨#[]⟩, []⟩ := by decide +kernel
 rw [e]
 show some (decDigits 6) = _
 rw [dig6]
theorem bow_hp : getv10 bowR 2 ⟨#[98, 111, 119]⟩ ⟨#[104, 112]⟩ = none := by
 unfold getv10
 rw [if_pos (by decide +kernel)]
theorem int_7 : intv [55] = some 7 := by
 have e : rawInt [55] = 7 := by decide +kernel
 unfold intv
 rw [e, if_pos ⟨by unfold int64v; omega, (show decDigits 7 = _ from dig7)⟩]
theorem int_07 : intv [48, 55] = none := by
 have e : rawInt [48, 55] = 7 := by decide +kernel
 unfold intv
 rw [e, if_neg (fun q => by
  have h := q.2
  rw [show decv 7 = decDigits 7 from rfl, dig7] at h
  cases h)]
theorem int_768 : intv [55, 54, 56] = some 768 := by
 have e : rawInt [55, 54, 56] = 768 := by decide +kernel
 unfold intv
 rw [e, if_pos ⟨by unfold int64v; omega, (show decDigits 768 = _ from dig768)⟩]
theorem bow_set7 : setv10 bowR 2 ⟨#[98, 111, 119]⟩ ⟨#[100, 97, 109, 97, 103, 101]⟩ [55] = (bow7, 0) := by
 unfold setv10
 rw [if_neg (by rw [bow_type]; decide), if_neg (by rw [bow_find]; decide), bow_find, bow_type]
 have e : readv 1 [55] = some ⟨7, false, ⟨#[]⟩, []⟩ := by
  unfold readv
  rw [if_pos rfl, int_7]
  rfl
 rw [e]
 decide +kernel
theorem bow_set07 : setv10 bowR 2 ⟨#[98, 111, 119]⟩ ⟨#[100, 97, 109, 97, 103, 101]⟩ [48, 55] = (R9.zero, 5) := by
 unfold setv10
 rw [if_neg (by rw [bow_type]; decide), if_neg (by rw [bow_find]; decide), bow_find, bow_type]
 have e : readv 1 [48, 55] = none := by
  unfold readv
  rw [if_pos rfl, int_07]
  rfl
 rw [e]
theorem bow_set4 : setv10 bowR 4 ⟨#[98, 111, 119]⟩ ⟨#[100, 97, 109, 97, 103, 101]⟩ [55] = (R9.zero, 1) := by
 unfold setv10
 rw [if_pos (by decide +kernel)]
theorem bow_axe : setv10 bowR 2 ⟨#[97, 120, 101]⟩ ⟨#[100, 97, 109, 97, 103, 101]⟩ [55] = (R9.zero, 8) := by
 unfold setv10
 rw [if_neg (by rw [bow_type]; decide), if_pos (by decide +kernel)]
def bowT : List UInt8 := [119, 101, 97, 112, 111, 110, 32, 98, 111, 119, 10, 32, 114, 97, 110, 103, 101, 32, 55, 54, 56, 10, 32, 100, 97, 109, 97, 103, 101, 32, 54, 10, 32, 99, 111, 111, 108, 32, 56, 10, 32, 115, 112, 101, 101, 100, 32, 54, 52, 10, 32, 115, 112, 108, 97, 115, 104, 32, 48, 10]
theorem bow_print : printv10 bowR = (bowT, 0) := by
 unfold printv10
 rw [if_pos bow_val]
 have h : rulesL bowR = [[119, 101, 97, 112, 111, 110, 32, 98, 111, 119], [32, 114, 97, 110, 103, 101, 32] ++ decDigits 768, [32, 100, 97, 109, 97, 103, 101, 32] ++ decDigits 6, [32, 99, 111, 111, 108, 32] ++ decDigits 8, [32, 115, 112, 101, 101, 100, 32] ++ decDigits 64, [32, 115, 112, 108, 97, 115, 104, 32] ++ decDigits 0] := by
  unfold rulesL
  show elemL 2 ⟨#[98, 111, 119]⟩ (ofWv ⟨⟨#[98, 111, 119]⟩, 768, 6, 8, 64, 0⟩) = _
  unfold elemL
  rw [fieldsW]
  have f : ∀ x : ByteArray, x ∈ fieldsv 2 → fieldL 2 (ofWv ⟨⟨#[98, 111, 119]⟩, 768, 6, 8, 64, 0⟩) x = 32 :: (x.toList ++ 32 :: decv (ofWv ⟨⟨#[98, 111, 119]⟩, 768, 6, 8, 64, 0⟩ x).n) := by
   intro x hx
   rw [fieldsW] at hx
   simp only [List.mem_cons, List.not_mem_nil, or_false] at hx
   unfold fieldL textL
   rw [if_pos (by rcases hx with rfl | rfl | rfl | rfl | rfl <;> decide +kernel)]
  simp only [List.map_cons, List.map_nil]
  rw [f _ (by rw [fieldsW]; simp), f _ (by rw [fieldsW]; simp), f _ (by rw [fieldsW]; simp), f _ (by rw [fieldsW]; simp), f _ (by rw [fieldsW]; simp)]
  simp only [Lib.toList_data, oW_0, oW_1, oW_2, oW_3, oW_4]
  rfl
 rw [h, dig768, dig6, dig8, dig64, dig0]
 rfl
def halfT : List UInt8 := [119, 101, 97, 112, 111, 110, 32, 98, 111, 119, 10, 32, 114, 97, 110, 103, 101, 32, 55, 54, 56, 10]
theorem half_parse : parsev10 halfT = (R9.zero, 3, 5) := by
 have e1 : linesB halfT = [[119, 101, 97, 112, 111, 110, 32, 98, 111, 119], [32, 114, 97, 110, 103, 101, 32, 55, 54, 56]] := by decide +kernel
 have s1 : lineP ⟨0, 0, R9.zero⟩ [119, 101, 97, 112, 111, 110, 32, 98, 111, 119] = some ⟨2, 0, newK R9.zero 2 [98, 111, 119]⟩ := by
  unfold lineP
  rw [if_pos (by decide +kernel), show firstL [119, 101, 97, 112, 111, 110, 32, 98, 111, 119] = some (2, [98, 111, 119]) from by decide +kernel]
  rfl
 have s2 : ∃ R, lineP ⟨2, 0, newK R9.zero 2 [98, 111, 119]⟩ [32, 114, 97, 110, 103, 101, 32, 55, 54, 56] = some ⟨2, 1, R⟩ := by
  unfold lineP
  rw [if_neg (by decide +kernel)]
  dsimp only
  have g : (fieldsv 2).getD 0 ⟨#[]⟩ = ⟨#[114, 97, 110, 103, 101]⟩ := by decide +kernel
  rw [g, Lib.toList_data, show stripB (32 :: ((⟨#[114, 97, 110, 103, 101]⟩ : ByteArray).data.toList ++ [32])) [32, 114, 97, 110, 103, 101, 32, 55, 54, 56] = some [55, 54, 56] from by decide +kernel]
  have e : readv (typev 2 ⟨#[114, 97, 110, 103, 101]⟩) [55, 54, 56] = some ⟨768, false, ⟨#[]⟩, []⟩ := by
   rw [show typev 2 ⟨#[114, 97, 110, 103, 101]⟩ = 1 from by decide +kernel]
   unfold readv
   rw [if_pos rfl, int_768]
   rfl
  dsimp only
  rw [e]
  exact ⟨_, rfl⟩
 obtain ⟨R, s2⟩ := s2
 have e : goP ⟨0, 0, R9.zero⟩ 1 (linesB halfT) = (⟨2, 1, R⟩, 3, true) := by
  rw [e1]
  simp only [goP, s1, s2]
 unfold parsev10
 rw [if_neg (by decide +kernel), e, if_pos (Or.inr (Or.inr (show 1 < (fieldsv 2).length from by decide +kernel)))]
 rfl
end

end Go.Proofs.YtnjcdmjaecgblaaGreatDoor
