/-
  A slice of texts in a block of texts; What the reference of ruletext answers: names of a list; Decimal texts of integers: what a reader of digits finds. No program is named here; What the reference of ruletext answers: integer; What the reference of ruletext answers: Read; What the reference of ruletext answers: Get.
-/
import Derived.Test.YtnjcdmjaecgblaaGreatDoorX04
import Derived.Test.YtnjcdmjaecgblaaGreatDoorZA02
namespace Go.Proofs.YtnjcdmjaecgblaaGreatDoor
section
open Go.RowKit Go.Lib
theorem SB.moves {w w' : World} {v : Value} {l : List ByteArray} {c : Nat} {us : List Value} {t : TypeId} (h : SB w v l) (hb : Blk w c us t) (ne : 9 ≠ t) (hk : ∀ j, j ≠ c → w'.heap[j]? = w.heap[j]?) : SB w' v l := by
 obtain ⟨p, cc, e, hm, hc⟩ := h
 refine ⟨p, cc, e, hm, fun h1 => ?_⟩
 obtain ⟨g, o, us2, e2, hg, hi⟩ := hc h1
 have hgc : g ≠ c := fun q => by
  subst q
  unfold Blk at hg hb
  rw [hg] at hb
  injection hb with hb
  injection hb with _ hb
  exact ne hb
 exact ⟨g, o, us2, e2, (hk g hgc).trans hg, hi⟩
theorem SB.put {w : World} {v : Value} {l : List ByteArray} {c i : Nat} {us : List Value} {t : TypeId} (h : SB w v l) (hb : Blk w c us t) (ne : 9 ≠ t) (x : Value) : SB (w.setCell ⟨c, i, none⟩ x) v l := h.moves hb ne fun j hj => Below.heap_setCell _ _ _ j hj
end
section
open Go.RowKit Go.Lib
theorem own_new {w : World} {B k n : Nat} {e : TypeId} {v : Value} {xs : List Value} (h : w.ownsRow B e k v n xs) : NewSl B v := by
 rcases h.2 with ⟨rfl, -⟩ | ⟨g, cap, cur, rfl, hg, -⟩
 · intro a n c q
   injection q with q _ _
   cases q
 · intro a n c q
   injection q with q _ _
   injection q with q
   rw [← q]
   exact hg
def NamesPost (s : List UInt8) (w : World) (e : Ending) (w' : World) : Prop := ∃ v b, e = .returned (.tuple #[v, .bool b]) ∧ (b = true → ∃ l, listv s = some l ∧ StrSl w' v l ∧ NewSl w.heap.size v ∧ SB w' v l) ∧ (b = false → listv s = none ∧ v = .slice none 0 0) ∧ Below w.heap.size w w'
theorem listv_no {s : List UInt8} {x : List UInt8} (h : x ∈ parts 44 s) (hn : nameB x = false) : listv s = none := by
 unfold listv
 rw [if_neg]
 intro q
 rw [List.all_eq_true.1 q x h] at hn
 cases hn
set_option maxHeartbeats 8000000 in
set_option maxRecDepth 100000 in
theorem r10names_b (s : ByteArray) (W : World) (hs : s.size ≤ 50000) : Calls Tryz.prog 79 #[.string s] W (NamesPost s.data.toList W) := by
 have hsl := rt_size s
 obtain ⟨i0, hi0, hz0, hz1, hz2⟩ := info_cut9 infoStr9
 go_enter Tryz.func79, Tryz.ntmps79
 go_wp2_with fail
 go_loopw [4, 5, 6] (fun vo vf vi wr => ∃ (k i : Nat) (l : List ByteArray), vi = .int .i64 k ∧ vf = .int .i64 i ∧ i ≤ k ∧ k ≤ s.size + 1 ∧ l.length ≤ k ∧ wr.ownsRow W.heap.size 9 1 vo l.length (strs l) ∧ Below W.heap.size W wr ∧
  Hid ((k ≤ s.size → (parts 44 s.data.toList).map toB = l ++ (parts 44 (s.data.toList.drop i)).map toB ∧ 44 ∉ (s.data.toList.drop i).take (k - i)) ∧ (k = s.size + 1 → (parts 44 s.data.toList).map toB = l) ∧ ∀ x ∈ l, nameB x.toList = true)) (fun _ _ vi _ => s.size + 1 - (RowKit.intOf vi).toNat)
 case atStart => exact ⟨0, 0, [], rfl, rfl, by omega, by omega, by simp, World.ownsRow_nil _ _ _ _, Below.refl _ _, hid ⟨fun _ => ⟨rfl, by simp⟩, fun h => by omega, fun x hx => by simp at hx⟩⟩
 case round =>
  obtain ⟨k, i, l, rfl, rfl, hik, hk, hll, hown, hL, hA⟩ := hrel
  have k0 : (0 : Int) ≤ k := by omega
  have i0' : (0 : Int) ≤ i := by omega
  have ik : (i : Int) ≤ k := by omega
  by_cases hle : k ≤ s.size
  · have d1 : (k : Int) ≤ s.size := by omega
    obtain ⟨⟨p1, p2⟩, p4⟩ := (⟨hA.out.1 hle, hA.out.2.2⟩ : (_ ∧ _) ∧ _)
    by_cases hc : ∃ hlt : k < s.size, ¬ s[k]'hlt = 44
    · obtain ⟨hlt, hc⟩ := hc
      have k1 : (k : Int) < s.size := by omega
      have hz : (((s[k]'hlt).toNat : Int) != 44) = true := by
       rw [bne_iff_ne]
       intro q
       exact hc (UInt8.toNat_inj.1 (by show (s[k]'hlt).toNat = 44; omega))
      have hN := hid (show (k + 1 ≤ s.size → (parts 44 s.data.toList).map toB = l ++ (parts 44 (s.data.toList.drop i)).map toB ∧ 44 ∉ (s.data.toList.drop i).take (k + 1 - i)) ∧ (k + 1 = s.size + 1 → (parts 44 s.data.toList).map toB = l) ∧ ∀ x ∈ l, nameB x.toList = true from ⟨fun _ => ⟨p1, rt_free hlt hik p2 hc⟩, fun q => by omega, p4⟩)
      clear hA p1 p2 p4
      go_wp2_with fail
      go_roundw
      case rel => exact ⟨k + 1, i, l, by go_num, rfl, by omega, by omega, by omega, hown, hL, hN⟩
      case measure => simp [RowKit.intOf]; omega
    · -- a piece ends here
      have hend : (∃ hlt : k < s.size, s[k]'hlt = 44) ∨ k = s.size := by
       rcases Nat.lt_or_ge k s.size with q | q
       · exact .inl ⟨q, Classical.byContradiction fun q2 => hc ⟨q, q2⟩⟩
       · exact .inr (by omega)
      have hx := rt_ext s i k
      have hpc : parts 44 (s.data.toList.drop i) = (s.data.toList.drop i).take (k - i) :: (if k = s.size then [] else parts 44 (s.data.toList.drop (k + 1))) := by
       rcases hend with ⟨hlt, q⟩ | q
       · rw [if_neg (by omega)]
         exact rt_here hlt hik p2 q
       · subst q
         rw [if_pos rfl]
         exact rt_last p2
      obtain ⟨x, hxe⟩ : ∃ x, (s.data.toList.drop i).take (k - i) = x := ⟨_, rfl⟩
      rw [hxe] at hx hpc
      rw [hpc, List.map_cons] at p1
      have hmem : x ∈ parts 44 s.data.toList := by
       have : toB x ∈ (parts 44 s.data.toList).map toB := by rw [p1]; simp
       obtain ⟨y, hy, he⟩ := List.mem_map.1 this
       have : x = y := by rw [← toB_list x, ← toB_list y, he]
       rw [this]; exact hy
      obtain ⟨b, hb⟩ : ∃ b, Hid (b = nameB (s.extract i k).data.toList) := ⟨_, hid rfl⟩
      have hbx : b = nameB x := by rw [hb.out, hx, ← Lib.toList_data, toB_list]
      have hN := fun (q : b = true) => hid (show (k + 1 ≤ s.size → (parts 44 s.data.toList).map toB = (l ++ [s.extract i k]) ++ (parts 44 (s.data.toList.drop (k + 1))).map toB ∧ 44 ∉ (s.data.toList.drop (k + 1)).take (k + 1 - (k + 1))) ∧ (k + 1 = s.size + 1 → (parts 44 s.data.toList).map toB = l ++ [s.extract i k]) ∧ ∀ y ∈ l ++ [s.extract i k], nameB y.toList = true from
       ⟨fun h => ⟨by rw [p1, if_neg (by omega), hx, List.append_assoc]; rfl, by simp⟩, fun h => by rw [p1, if_pos (by omega), hx]; rfl, fun y hy => by
        rcases List.mem_append.1 hy with h | h
        · exact p4 y h
        · rw [List.mem_singleton] at h
          rw [h, hx, toB_list, ← hbx]; exact q⟩)
      have hNo := fun (q : b = false) => hid (listv_no hmem (hbx.symm.trans q))
      clear hA p1 p2 p4 hx hpc hxe hmem hbx hc
      rcases hend with ⟨hlt, hc⟩ | hkk
      · have k1 : (k : Int) < s.size := by omega
        have hz : (((s[k]'hlt).toNat : Int) != 44) = false := by rw [hc]; rfl
        clear hc
        go_wp2_with fail
        ((with_reducible refine (r9name_b (s.extract i k) b _ hb).mono ?_); rintro e w1 ⟨rfl, rfl⟩)
        cases b with
        | false =>
         have HQ := hNo rfl
         clear hN hNo hb
         go_wp2_with fail
         first | go_ret2 | go_ret
         exact ⟨_, false, rfl, fun q => by (cases q), fun _ => ⟨HQ.out, rfl⟩, hL⟩
        | true =>
         have HQ := hN rfl
         clear hN hNo hb
         go_wp2_with (at_builtin; refine wpList_append_own _ rfl _ _ 23 rfl W.heap.size 9 i0 (.string ⟨#[]⟩) 1 16 Tryz.underlying23 hi0 hz0 hz1 hz2 rfl (by decide) _ _ _ rfl (hown.alloc _) ⟨wr.heap.size, 0, none⟩ 1 1 [.string (s.extract i k)] rfl rfl cells_new (str_lone9 _) (by unfold maxLen; omega) (by omega) (by have := hL.size; simp; omega) ?_)
         intro v' w' hown' hg' _
         have hb' := below_push (t := 9) hL.size hL hown (Nat.le_refl _) hg'
         have hown2 := own_to hown' (m := (l ++ [s.extract i k]).length) (ys := strs (l ++ [s.extract i k])) (by simp) (strs_snoc _ _)
         clear hg' hown hL hown'
         go_wp2_with fail
         go_roundw
         case rel => exact ⟨k + 1, k + 1, l ++ [s.extract i k], by go_num, by go_num, by omega, by omega, by simp; omega, hown2, hb', HQ⟩
         case measure => simp [RowKit.intOf]; omega
      · have k1 : ¬ (k : Int) < s.size := by omega
        subst hkk
        go_wp2_with fail
        ((with_reducible refine (r9name_b (s.extract i s.size) b _ hb).mono ?_); rintro e w1 ⟨rfl, rfl⟩)
        cases b with
        | false =>
         have HQ := hNo rfl
         clear hN hNo hb
         go_wp2_with fail
         first | go_ret2 | go_ret
         exact ⟨_, false, rfl, fun q => by (cases q), fun _ => ⟨HQ.out, rfl⟩, hL⟩
        | true =>
         have HQ := hN rfl
         clear hN hNo hb
         go_wp2_with (at_builtin; refine wpList_append_own _ rfl _ _ 23 rfl W.heap.size 9 i0 (.string ⟨#[]⟩) 1 16 Tryz.underlying23 hi0 hz0 hz1 hz2 rfl (by decide) _ _ _ rfl (hown.alloc _) ⟨wr.heap.size, 0, none⟩ 1 1 [.string (s.extract i s.size)] rfl rfl cells_new (str_lone9 _) (by unfold maxLen; omega) (by omega) (by have := hL.size; simp; omega) ?_)
         intro v' w' hown' hg' _
         have hb' := below_push (t := 9) hL.size hL hown (Nat.le_refl _) hg'
         have hown2 := own_to hown' (m := (l ++ [s.extract i s.size]).length) (ys := strs (l ++ [s.extract i s.size])) (by simp) (strs_snoc _ _)
         clear hg' hown hL hown'
         go_wp2_with fail
         go_roundw
         case rel => exact ⟨s.size + 1, s.size + 1, l ++ [s.extract i s.size], by go_num, by go_num, by omega, by omega, by simp; omega, hown2, hb', hid ⟨HQ.out.1, fun _ => HQ.out.2.1 trivial, HQ.out.2.2⟩⟩
         case measure => simp [RowKit.intOf]
  · obtain rfl : k = s.size + 1 := by omega
    have d1 : ¬ ((s.size : Int) + 1 ≤ s.size) := by omega
    have hl : (parts 44 s.data.toList).map toB = l := hA.out.2.1 rfl
    have hv : listv s.data.toList = some l := by
     unfold listv
     rw [if_pos, hl]
     rw [List.all_eq_true]
     intro x hx
     have := hA.out.2.2 (toB x) (by rw [← hl]; exact List.mem_map_of_mem hx)
     rwa [toB_list] at this
    have hst := own_strs hown (by omega)
    have hnew := own_new hown
    have hsb := own_sb hown (by omega)
    replace hv := hid hv
    clear hA hl
    obtain ⟨pv, cv, rfl, -⟩ := id hst
    go_wp2_with fail
    first | go_ret2 | go_ret
    exact ⟨_, true, rfl, fun _ => ⟨l, hv.out, hst, hnew, hsb⟩, fun q => by (cases q), hL⟩
end
section
open Go.RowKit Go.Lib
def absL : List UInt8 → List UInt8
 | 45 :: d => d
 | d => d
theorem absL_neg (d : List UInt8) : absL (45 :: d) = d := rfl
theorem absL_pos {l : List UInt8} (h : ¬ l.head? = some 45) : absL l = l ∧ rawInt l = (valN 0 l : Int) := by
 cases l with
 | nil => exact ⟨rfl, rfl⟩
 | cons c d =>
  have hc : ¬ c = 45 := fun e => h (by rw [e]; rfl)
  constructor
  · unfold absL
    split
    · rename_i q e; injection e with a _; exact absurd a hc
    · rfl
  · unfold rawInt
    split
    · rename_i q e; injection e with a _; exact absurd a hc
    · rfl
theorem int_abs {l : List UInt8} {v : Int} (h : intv l = some v) : absL l = decDigits v.natAbs ∧ v.natAbs ≤ 9223372036854775808 := by
 obtain ⟨h1, h2⟩ := int_some h
 unfold int64v at h2
 refine ⟨?_, by omega⟩
 rw [← h1]
 unfold decv
 split
 · rfl
 · rename_i hn
   have hd := dec_digits v.toNat
   have : ¬ (decDigits v.toNat).head? = some 45 := fun e => by
    cases hq : decDigits v.toNat with
    | nil => exact dec_ne _ hq
    | cons c d =>
     rw [hq] at hd e
     rw [List.head?_cons] at e
     injection e with e
     rw [e, List.all_cons, Bool.and_eq_true] at hd
     exact absurd hd.1 (by decide)
   rw [(absL_pos this).1]
   congr 1
   omega
theorem valN_app (a b : List UInt8) : valN 0 (a ++ b) = valN (valN 0 a) b := by unfold valN; rw [List.foldl_append]
theorem int_bad {l : List UInt8} (h : ¬ (absL l).all digB = true) : intv l = none := by
 cases hq : intv l with
 | none => rfl
 | some v =>
  rw [(int_abs hq).1] at h
  exact absurd (dec_digits _) h
theorem int_big {l : List UInt8} {i : Nat} (hi : i < (absL l).length) (h : 1152921504606846976 < valN 0 ((absL l).take i)) : intv l = none := by
 cases hq : intv l with
 | none => rfl
 | some v =>
  obtain ⟨h1, h2⟩ := int_abs hq
  have h3 := dec_val v.natAbs
  rw [← h1, ← List.take_append_drop (i + 1) (absL l), valN_app] at h3
  have h4 := valN_ge ((absL l).drop (i + 1)) (valN 0 ((absL l).take (i + 1)))
  rw [List.take_succ_eq_append_getElem hi, valN_snoc] at h3 h4
  omega
theorem int_none {l : List UInt8} (h : absL l = []) : intv l = none := by
 cases hq : intv l with
 | none => rfl
 | some v => exact absurd ((int_abs hq).1.symm.trans h) (dec_ne _)
theorem int_no_pos {l : List UInt8} (hp : ¬ l.head? = some 45) {v : Int} (hv : v = IntKind.i64.wrap (valN 0 (absL l) : Int)) (h : ¬ decv v = l) : intv l = none := by
 cases hq : intv l with
 | none => rfl
 | some w =>
  obtain ⟨h1, h2⟩ := int_abs hq
  obtain ⟨h3, h4⟩ := int_some hq
  unfold int64v at h4
  have h5 := dec_val w.natAbs
  rw [← h1] at h5
  have hw : ¬ w < 0 := fun q => by
   unfold decv at h3
   rw [if_pos q] at h3
   exact hp (by rw [← h3]; rfl)
  have : v = w := by
   rw [hv, h5, IntWalk.i64_in _ (by omega)]
   omega
  rw [this] at h
  exact absurd h3 h
theorem int_no_neg {l : List UInt8} (hp : l.head? = some 45) {v u : Int} (hu : u = IntKind.i64.wrap (valN 0 (absL l) : Int)) (hv : v = IntKind.i64.wrap (-u)) (h : ¬ decv v = l) : intv l = none := by
 cases hq : intv l with
 | none => rfl
 | some w =>
  obtain ⟨h1, h2⟩ := int_abs hq
  obtain ⟨h3, h4⟩ := int_some hq
  unfold int64v at h4
  have h5 := dec_val w.natAbs
  rw [← h1] at h5
  have hw : w < 0 := Classical.byContradiction fun q => by
   unfold decv at h3
   rw [if_neg q] at h3
   have hd := dec_digits w.toNat
   rw [h3] at hd
   cases l with
   | nil => cases hp
   | cons c d =>
    rw [List.head?_cons] at hp
    injection hp with hp
    rw [hp, List.all_cons, Bool.and_eq_true] at hd
    exact absurd hd.1 (by decide)
  have : v = w := by
   rw [hv, hu, h5]
   by_cases hm : w.natAbs ≤ 9223372036854775807
   · rw [IntWalk.i64_in (w.natAbs : Int) (by omega), IntWalk.i64_in _ (by omega)]
     omega
   · have e : w.natAbs = 9223372036854775808 := by omega
     rw [e]
     show IntKind.i64.wrap (-(IntKind.i64.wrap 9223372036854775808)) = w
     rw [show IntKind.i64.wrap 9223372036854775808 = -9223372036854775808 by decide, show IntKind.i64.wrap (-(-9223372036854775808)) = -9223372036854775808 by decide]
     omega
  rw [this] at h
  exact absurd h3 h
theorem wrap_in (n : Int) : int64v (IntKind.i64.wrap n) := by
 have h := WideShapes.wf_wrap .i64 n
 unfold int64v
 simp [Lit.wf, IntKind.min, IntKind.max, IntKind.bits, IntKind.signed] at h
 omega
end
section
open Go.RowKit Go.Lib
def IntPost (s : List UInt8) (w : World) (e : Ending) (w' : World) : Prop := ∃ n b, e = .returned (.tuple #[.int .i64 n, .bool b]) ∧ (b = true → intv s = some n) ∧ (b = false → intv s = none) ∧ int64v n ∧ Below w.heap.size w w'
set_option maxHeartbeats 8000000 in
set_option maxRecDepth 100000 in
theorem r10int_b (s : ByteArray) (W : World) (hs : s.size ≤ 50000) : Calls Tryz.prog 77 #[.string s] W (IntPost s.data.toList W) := by
 have hsl := rt_size s
 by_cases hs0 : s.size = 0
 · obtain rfl : s = ⟨#[]⟩ := by
    apply ByteArray.ext
    apply Array.eq_empty_of_size_eq_zero
    exact hs0
   go_enter Tryz.func77, Tryz.ntmps77
   go_wp2_with fail
   go_loop [5, 6] (fun vn vi => vn = .int .u64 0 ∧ vi = .int .i64 0) (fun _ _ => 0)
   case atStart => exact ⟨rfl, rfl⟩
   case round =>
    obtain ⟨rfl, rfl⟩ := hrel
    go_wp2_with fail
    first | go_ret2 | go_ret
    exact ⟨0, false, rfl, fun q => (by cases q), fun _ => int_none rfl, by unfold int64v; omega, Below.refl _ _⟩
 have hne : ¬ s = ⟨#[]⟩ := fun e => hs0 (by rw [e]; rfl)
 obtain ⟨a1, a2⟩ := lit_two (l := []) hne
 have a3 : (s.toList).isEmpty = false := by simpa using a2
 have h0 : 0 < s.size := by omega
 have hcons : s.data.toList = s[0]'h0 :: s.data.toList.drop 1 := by rw [← rt_drop h0]; rfl
 obtain ⟨c0, hc0⟩ : ∃ c : Int, ((s[0]'h0).toNat : Int) = c := ⟨_, rfl⟩
 have p0 : (0 : Int) < s.size := by omega
 by_cases h45 : c0 = 45
 · have z1 : (c0 == 45) = true := beq_iff_eq.2 h45
   have hc45 : s[0]'h0 = 45 := UInt8.toNat_inj.1 (by show (s[0]'h0).toNat = 45; omega)
   rw [hc45] at hcons
   have hx := rt_ext s 1 s.size
   have hD0 : absL s.data.toList = (s.extract 1 s.size).data.toList := by
    rw [hx, show ∀ l : List UInt8, (toB l).data.toList = l from fun l => by simp [toB], List.take_of_length_le (by rw [List.length_drop]; omega)]
    conv => lhs; rw [hcons]
    exact absL_neg _
   have hneg := hid (show s.data.toList.head? = some 45 by rw [hcons]; rfl)
   have hDs : (s.extract 1 s.size).size = s.size - 1 := by rw [ByteArray.size_extract]; omega
   have p1 : (1 : Int) ≤ s.size := by omega
   clear hcons hx hc45 hne hs0
   go_enter Tryz.func77, Tryz.ntmps77
   go_upto_region 5 with fail
   generalize s.extract 1 s.size = D at *
   have hD := hid hD0
   have hnil := fun (q : D = ⟨#[]⟩) => int_none (l := s.data.toList) (by rw [hD0, q])
   have hszD : D.size < s.size := by omega
   clear hD0 hDs
   go_wp2_with fail
   go_loop [5, 6] (fun vn vi => ∃ k n : Nat, vn = .int .u64 n ∧ vi = .int .i64 k ∧ k ≤ D.size ∧ n ≤ 11529215046068469769 ∧ Hid (n = valN 0 (D.data.toList.take k) ∧ (D.data.toList.take k).all digB = true)) (fun _ vi => D.size - (RowKit.intOf vi).toNat)
   case atStart => exact ⟨0, 0, rfl, rfl, by omega, by omega, hid ⟨rfl, rfl⟩⟩
   case round =>
    obtain ⟨k, n, rfl, rfl, hk, hn, hA⟩ := hrel
    by_cases hlt : k < D.size
    · have k0 : (0 : Int) ≤ k := by omega
      have k1 : (k : Int) < D.size := by omega
      have hlen : k < D.data.toList.length := by rw [rt_size]; exact hlt
      have hbad : digB (D[k]'hlt) = false → Hid (intv s.data.toList = none) := fun q => hid (int_bad (by rw [hD.out]; exact fun h => by rw [List.all_eq_true.1 h (D[k]'hlt) (by rw [← rt_getD hlt]; exact List.getElem_mem _)] at q; cases q))
      have hbig : 1152921504606846976 < n → Hid (intv s.data.toList = none) := fun q => hid (int_big (i := k) (by rw [hD.out]; exact hlen) (by rw [hD.out, ← hA.out.1]; exact q))
      have hgood : digB (D[k]'hlt) = true → Hid (n * 10 + ((D[k]'hlt).toNat - 48) = valN 0 (D.data.toList.take (k + 1)) ∧ (D.data.toList.take (k + 1)).all digB = true) := fun q => hid ⟨by rw [rt_take hlt, valN_snoc, hA.out.1], by rw [rt_take hlt, List.all_append, hA.out.2, List.all_cons, q]; rfl⟩
      have hd := digB_iff (D[k]'hlt)
      obtain ⟨c, hc⟩ : ∃ c : Nat, (D[k]'hlt).toNat = c := ⟨_, rfl⟩
      have hc2 : ((D[k]'hlt).toNat : Int) = c := by omega
      rw [hc] at hd hgood
      have hcb : c < 256 := by have := (D[k]'hlt).toNat_lt; omega
      clear hA hc hlen
      by_cases h48 : c < 48
      · have z5 : decide ((c : Int) < 48) = true := decide_eq_true (by omega)
        have hv := hbad (by cases hq : digB (D[k]'hlt) with
         | false => rfl
         | true => have := hd.1 hq; omega)
        clear hbad hgood hbig hd
        go_wp2_with fail
        first | go_ret2 | go_ret
        exact ⟨0, false, rfl, fun q => (by cases q), fun _ => hv.out, by unfold int64v; omega, Below.refl _ _⟩
      · have z5 : decide ((c : Int) < 48) = false := decide_eq_false (by omega)
        by_cases h57 : 57 < c
        · have z6 : decide ((57 : Int) < c) = true := decide_eq_true (by omega)
          have hv := hbad (by cases hq : digB (D[k]'hlt) with
           | false => rfl
           | true => have := hd.1 hq; omega)
          clear hbad hgood hbig hd
          go_wp2_with fail
          first | go_ret2 | go_ret
          exact ⟨0, false, rfl, fun q => (by cases q), fun _ => hv.out, by unfold int64v; omega, Below.refl _ _⟩
        · have z6 : decide ((57 : Int) < c) = false := decide_eq_false (by omega)
          by_cases hb : 1152921504606846976 < n
          · have z7 : decide ((1152921504606846976 : Int) < n) = true := decide_eq_true (by omega)
            have hv := hbig hb
            clear hbad hgood hbig hd
            go_wp2_with fail
            first | go_ret2 | go_ret
            exact ⟨0, false, rfl, fun q => (by cases q), fun _ => hv.out, by unfold int64v; omega, Below.refl _ _⟩
          · have z7 : decide ((1152921504606846976 : Int) < n) = false := decide_eq_false (by omega)
            have HG := hgood (hd.2 (by omega))
            clear hbad hgood hbig hd
            go_wp2_with fail
            go_round
            case rel => exact ⟨k + 1, n * 10 + (c - 48), by first | go_num | (congr 1; omega), by go_num, by omega, by omega, HG⟩
            case measure => simp [RowKit.intOf]; omega
    · obtain rfl : k = D.size := by omega
      have d1 : ¬ ((D.size : Int) < D.size) := by omega
      have hnv : n = valN 0 (absL s.data.toList) := by rw [hD.out, hA.out.1, List.take_of_length_le (by rw [rt_size]; omega)]
      obtain ⟨u, hu⟩ : ∃ u, u = IntKind.i64.wrap (n : Int) := ⟨_, rfl⟩
      have hub : int64v u := hu ▸ wrap_in _
      obtain ⟨v, hv⟩ : ∃ v, v = IntKind.i64.wrap (-u) := ⟨_, rfl⟩
      have hvb : int64v v := by rw [hv]; exact wrap_in _
      have hyes := fun (q : toB (decv v) = s) => hid (show intv s.data.toList = some v from int_yes hvb (by rw [← q]; simp [toB]))
      have hno := fun (q : ¬ toB (decv v) = s) => hid (show intv s.data.toList = none from int_no_neg hneg.out (u := u) (v := v) (by rw [hu, hnv]) hv (fun h => q (by rw [h, ← Lib.toList_data]; exact list_toB s)))
      replace hu := hu.symm
      replace hv := hv.symm
      have hvb' := hvb
      unfold int64v at hvb'
      clear hA hnv hD hneg
      by_cases hd0 : D.size = 0
      · obtain rfl : D = ⟨#[]⟩ := by
         apply ByteArray.ext
         apply Array.eq_empty_of_size_eq_zero
         exact hd0
        have hv9 := hid (hnil rfl)
        clear hyes hno hnil hd0
        go_wp2_with fail
        first | go_ret2 | go_ret
        exact ⟨v, false, rfl, fun q => (by cases q), fun _ => hv9.out, hvb, Below.refl _ _⟩
      have hne : ¬ D = ⟨#[]⟩ := fun e => hd0 (by rw [e]; rfl)
      obtain ⟨b1, b2⟩ := lit_two (l := []) hne
      have b3 : (D.toList).isEmpty = false := by simpa using b2
      clear hnil hne hd0
      go_wp2_with fail
      ((with_reducible refine (r10dec_b v _ hvb'.1 hvb'.2).mono ?_); rintro e w1 ⟨rfl, hb⟩)
      generalize toB (decv v) = t at *
      by_cases hq : t = s
      · have hy := hyes hq
        subst hq
        have c1 : (t.toList == t.toList) = true := beq_self_eq_true _
        clear hyes hno
        go_wp2_with fail
        first | go_ret2 | go_ret
        exact ⟨v, true, rfl, fun _ => hy.out, fun q => (by cases q), hvb, hb⟩
      · have hn9 := hno hq
        obtain ⟨c1, c2⟩ := ne_list hq
        clear hyes hno
        go_wp2_with fail
        first | go_ret2 | go_ret
        exact ⟨v, false, rfl, fun q => (by cases q), fun _ => hn9.out, hvb, hb⟩

 · have z1 : (c0 == 45) = false := beq_eq_false_iff_ne.2 h45
   have hneg := hid (show ¬ s.data.toList.head? = some 45 by rw [hcons]; intro q; injection q with q; exact h45 (by rw [← hc0, q]; rfl))
   have hD := hid (absL_pos hneg.out).1
   clear hcons hne hs0
   go_enter Tryz.func77, Tryz.ntmps77
   go_wp2_with fail
   go_loop [5, 6] (fun vn vi => ∃ k n : Nat, vn = .int .u64 n ∧ vi = .int .i64 k ∧ k ≤ s.size ∧ n ≤ 11529215046068469769 ∧ Hid (n = valN 0 (s.data.toList.take k) ∧ (s.data.toList.take k).all digB = true)) (fun _ vi => s.size - (RowKit.intOf vi).toNat)
   case atStart => exact ⟨0, 0, rfl, rfl, by omega, by omega, hid ⟨rfl, rfl⟩⟩
   case round =>
    obtain ⟨k, n, rfl, rfl, hk, hn, hA⟩ := hrel
    by_cases hlt : k < s.size
    · have k0 : (0 : Int) ≤ k := by omega
      have k1 : (k : Int) < s.size := by omega
      have hlen : k < s.data.toList.length := by rw [rt_size]; exact hlt
      have hbad : digB (s[k]'hlt) = false → Hid (intv s.data.toList = none) := fun q => hid (int_bad (by rw [hD.out]; exact fun h => by rw [List.all_eq_true.1 h (s[k]'hlt) (by rw [← rt_getD hlt]; exact List.getElem_mem _)] at q; cases q))
      have hbig : 1152921504606846976 < n → Hid (intv s.data.toList = none) := fun q => hid (int_big (i := k) (by rw [hD.out]; exact hlen) (by rw [hD.out, ← hA.out.1]; exact q))
      have hgood : digB (s[k]'hlt) = true → Hid (n * 10 + ((s[k]'hlt).toNat - 48) = valN 0 (s.data.toList.take (k + 1)) ∧ (s.data.toList.take (k + 1)).all digB = true) := fun q => hid ⟨by rw [rt_take hlt, valN_snoc, hA.out.1], by rw [rt_take hlt, List.all_append, hA.out.2, List.all_cons, q]; rfl⟩
      have hd := digB_iff (s[k]'hlt)
      obtain ⟨c, hc⟩ : ∃ c : Nat, (s[k]'hlt).toNat = c := ⟨_, rfl⟩
      have hc2 : ((s[k]'hlt).toNat : Int) = c := by omega
      rw [hc] at hd hgood
      have hcb : c < 256 := by have := (s[k]'hlt).toNat_lt; omega
      clear hA hc hlen
      by_cases h48 : c < 48
      · have z5 : decide ((c : Int) < 48) = true := decide_eq_true (by omega)
        have hv := hbad (by cases hq : digB (s[k]'hlt) with
         | false => rfl
         | true => have := hd.1 hq; omega)
        clear hbad hgood hbig hd
        go_wp2_with fail
        first | go_ret2 | go_ret
        exact ⟨0, false, rfl, fun q => (by cases q), fun _ => hv.out, by unfold int64v; omega, Below.refl _ _⟩
      · have z5 : decide ((c : Int) < 48) = false := decide_eq_false (by omega)
        by_cases h57 : 57 < c
        · have z6 : decide ((57 : Int) < c) = true := decide_eq_true (by omega)
          have hv := hbad (by cases hq : digB (s[k]'hlt) with
           | false => rfl
           | true => have := hd.1 hq; omega)
          clear hbad hgood hbig hd
          go_wp2_with fail
          first | go_ret2 | go_ret
          exact ⟨0, false, rfl, fun q => (by cases q), fun _ => hv.out, by unfold int64v; omega, Below.refl _ _⟩
        · have z6 : decide ((57 : Int) < c) = false := decide_eq_false (by omega)
          by_cases hb : 1152921504606846976 < n
          · have z7 : decide ((1152921504606846976 : Int) < n) = true := decide_eq_true (by omega)
            have hv := hbig hb
            clear hbad hgood hbig hd
            go_wp2_with fail
            first | go_ret2 | go_ret
            exact ⟨0, false, rfl, fun q => (by cases q), fun _ => hv.out, by unfold int64v; omega, Below.refl _ _⟩
          · have z7 : decide ((1152921504606846976 : Int) < n) = false := decide_eq_false (by omega)
            have HG := hgood (hd.2 (by omega))
            clear hbad hgood hbig hd
            go_wp2_with fail
            go_round
            case rel => exact ⟨k + 1, n * 10 + (c - 48), by first | go_num | (congr 1; omega), by go_num, by omega, by omega, HG⟩
            case measure => simp [RowKit.intOf]; omega
    · obtain rfl : k = s.size := by omega
      have d1 : ¬ ((s.size : Int) < s.size) := by omega
      have hnv : n = valN 0 (absL s.data.toList) := by rw [hD.out, hA.out.1, List.take_of_length_le (by rw [rt_size]; omega)]
      obtain ⟨u, hu⟩ : ∃ u, u = IntKind.i64.wrap (n : Int) := ⟨_, rfl⟩
      have hub : int64v u := hu ▸ wrap_in _
      obtain ⟨v, hv⟩ : ∃ v, v = u := ⟨_, rfl⟩
      have hvb : int64v v := by rw [hv]; exact hub
      have hyes := fun (q : toB (decv v) = s) => hid (show intv s.data.toList = some v from int_yes hvb (by rw [← q]; simp [toB]))
      have hno := fun (q : ¬ toB (decv v) = s) => hid (show intv s.data.toList = none from int_no_pos hneg.out (v := v) (by rw [hv, hu, hnv]) (fun h => q (by rw [h, ← Lib.toList_data]; exact list_toB s)))
      replace hu := hu.symm
      replace hv := hv.symm
      have hvb' := hvb
      unfold int64v at hvb'
      clear hA hnv hD hneg
      go_wp2_with fail
      ((with_reducible refine (r10dec_b v _ hvb'.1 hvb'.2).mono ?_); rintro e w1 ⟨rfl, hb⟩)
      generalize toB (decv v) = t at *
      by_cases hq : t = s
      · have hy := hyes hq
        subst hq
        have c1 : (t.toList == t.toList) = true := beq_self_eq_true _
        clear hyes hno
        go_wp2_with fail
        first | go_ret2 | go_ret
        exact ⟨v, true, rfl, fun _ => hy.out, fun q => (by cases q), hvb, hb⟩
      · have hn9 := hno hq
        obtain ⟨c1, c2⟩ := ne_list hq
        clear hyes hno
        go_wp2_with fail
        first | go_ret2 | go_ret
        exact ⟨v, false, rfl, fun q => (by cases q), fun _ => hn9.out, hvb, hb⟩
end
section
open Go.RowKit Go.Lib
def VB (W : World) (vs : List Value) (v : V10) : Prop := ∃ sl, vs = [.int .i64 v.n, .bool v.b, .string v.s, sl] ∧ SB W sl v.l
def ReadVPost (t : Int) (s : List UInt8) (w : World) (e : Ending) (w' : World) : Prop := ∃ vs v b, e = .returned (.tuple #[.agg vs.toArray, .bool b]) ∧ VB w' vs v ∧ (b = true → readv t s = some v) ∧ (b = false → readv t s = none) ∧ Below w.heap.size w w'
theorem lit_data {s : ByteArray} {l : List UInt8} (h : ¬ s = ⟨l.toArray⟩) : ¬ s.data.toList = l := fun e => h (by rw [← e])
set_option maxHeartbeats 8000000 in
set_option maxRecDepth 100000 in
theorem r10read_b (t : Int) (s : ByteArray) (W : World) (hs : s.size ≤ 50000) : Calls Tryz.prog 35 #[.int .i64 t, .string s] W (ReadVPost t s.data.toList W) := by
 have hY := Blk.new W [.int .i64 0, .bool false, .string ⟨#[]⟩, .slice none 0 0] 72
 have hL := (Below.refl W.heap.size W).alloc (Nat.le_refl _) (.cells [.int .i64 0, .bool false, .string ⟨#[]⟩, .slice none 0 0].toArray 72)
 by_cases h1 : t = 1
 · subst h1
   go_enter Tryz.func35, Tryz.ntmps35
   go_wp2_with fail
   ((with_reducible refine (r10int_b s _ hs).mono ?_); rintro e w1 ⟨n, b, rfl, hy, hn, -, hb⟩)
   replace hY := hY.below hb
   replace hL := below_call hL hb
   clear hb
   obtain ⟨_, _, _, _, _, _, _, _⟩ := hY.four
   replace hy := hid hy
   replace hn := hid hn
   go_wp2_with fail
   refine bodyPost_ret (results_agg_two rfl rfl rfl Tryz.isAgg72 Tryz.sizeOf72 (hY.put4 _ _ _ _) rfl) rfl ?_
   exact ⟨_, ⟨n, false, ⟨#[]⟩, []⟩, b, rfl, ⟨_, rfl, sb_nil _⟩, fun q => by rw [read_1, hy.out q]; rfl, fun q => by rw [read_1, hn.out q]; rfl, ((((hL.setCell (Nat.le_refl _) _).setCell (Nat.le_refl _) _).setCell (Nat.le_refl _) _).setCell (Nat.le_refl _) _)⟩

 have z1 : (t == 1) = false := beq_eq_false_iff_ne.2 h1
 by_cases h2 : t = 2
 · subst h2
   by_cases hy : s = ⟨#[121, 101, 115]⟩
   · subst hy
     go_enter Tryz.func35, Tryz.ntmps35
     go_wp2_with fail
     refine bodyPost_ret (results_agg_two rfl rfl rfl Tryz.isAgg72 Tryz.sizeOf72 (Blk.new W [.int .i64 0, .bool true, .string ⟨#[]⟩, .slice none 0 0] 72) rfl) rfl ?_
     exact ⟨_, ⟨0, true, ⟨#[]⟩, []⟩, true, rfl, ⟨_, rfl, sb_nil _⟩, fun _ => rfl, fun q => by (cases q), ((Below.refl W.heap.size W).alloc (Nat.le_refl _) _)⟩

   obtain ⟨a1, a2⟩ := lit_two (l := [121, 101, 115]) hy
   by_cases hn : s = ⟨#[110, 111]⟩
   · subst hn
     go_enter Tryz.func35, Tryz.ntmps35
     go_wp2_with fail
     refine bodyPost_ret (results_agg_two rfl rfl rfl Tryz.isAgg72 Tryz.sizeOf72 (Blk.new W [.int .i64 0, .bool false, .string ⟨#[]⟩, .slice none 0 0] 72) rfl) rfl ?_
     exact ⟨_, V10.zero, true, rfl, ⟨_, rfl, sb_nil _⟩, fun _ => rfl, fun q => by (cases q), ((Below.refl W.heap.size W).alloc (Nat.le_refl _) _)⟩

   obtain ⟨b1, b2⟩ := lit_two (l := [110, 111]) hn
   have hr := hid (show readv 2 s.data.toList = none by rw [read_2, if_neg (show ¬ s.data.toList = yesB from lit_data (l := [121, 101, 115]) hy), if_neg (show ¬ s.data.toList = noB from lit_data (l := [110, 111]) hn)])
   go_enter Tryz.func35, Tryz.ntmps35
   go_wp2_with fail
   refine bodyPost_ret (results_agg_two rfl rfl rfl Tryz.isAgg72 Tryz.sizeOf72 (Blk.new W [.int .i64 0, .bool false, .string ⟨#[]⟩, .slice none 0 0] 72) rfl) rfl ?_
   exact ⟨_, V10.zero, false, rfl, ⟨_, rfl, sb_nil _⟩, fun q => by (cases q), fun _ => hr.out, ((Below.refl W.heap.size W).alloc (Nat.le_refl _) _)⟩

 have z2 : (t == 2) = false := beq_eq_false_iff_ne.2 h2
 by_cases h3 : t = 3
 · subst h3
   by_cases hd : s = ⟨#[45]⟩
   · subst hd
     go_enter Tryz.func35, Tryz.ntmps35
     go_wp2_with fail
     refine bodyPost_ret (results_agg_two rfl rfl rfl Tryz.isAgg72 Tryz.sizeOf72 (Blk.new W [.int .i64 0, .bool false, .string ⟨#[]⟩, .slice none 0 0] 72) rfl) rfl ?_
     exact ⟨_, V10.zero, true, rfl, ⟨_, rfl, sb_nil _⟩, fun _ => rfl, fun q => by (cases q), ((Below.refl W.heap.size W).alloc (Nat.le_refl _) _)⟩

   obtain ⟨a1, a2⟩ := lit_two (l := [45]) hd
   obtain ⟨b, hb⟩ : ∃ b, Hid (b = nameB s.data.toList) := ⟨_, hid rfl⟩
   have hd' := hid (show ¬ s.data.toList = dashB from lit_data (l := [45]) hd)
   obtain ⟨_, _, _, _, _, _, _, _⟩ := hY.four
   go_enter Tryz.func35, Tryz.ntmps35
   go_wp2_with fail
   ((with_reducible refine (r9name_b s b _ hb).mono ?_); rintro e w1 ⟨rfl, rfl⟩)
   go_wp2_with fail
   refine bodyPost_ret (results_agg_two rfl rfl rfl Tryz.isAgg72 Tryz.sizeOf72 (Blk.new W [.int .i64 0, .bool false, .string s, .slice none 0 0] 72) rfl) rfl ?_
   exact ⟨_, ⟨0, false, s, []⟩, b, rfl, ⟨_, rfl, sb_nil _⟩, fun q => by rw [read_3, if_neg hd'.out, if_pos (hb.out.symm.trans q), ← Lib.toList_data, list_toB], fun q => by rw [read_3, if_neg hd'.out, if_neg (by rw [← hb.out, q]; exact Bool.noConfusion)], ((Below.refl W.heap.size W).alloc (Nat.le_refl _) _)⟩

 have z3 : (t == 3) = false := beq_eq_false_iff_ne.2 h3
 have hrd := hid (read_4 h1 h2 h3 s.data.toList)
 by_cases hd : s = ⟨#[45]⟩
 · subst hd
   go_enter Tryz.func35, Tryz.ntmps35
   go_wp2_with fail
   refine bodyPost_ret (results_agg_two rfl rfl rfl Tryz.isAgg72 Tryz.sizeOf72 (Blk.new W [.int .i64 0, .bool false, .string ⟨#[]⟩, .slice none 0 0] 72) rfl) rfl ?_
   exact ⟨_, V10.zero, true, rfl, ⟨_, rfl, sb_nil _⟩, fun _ => hrd.out, fun q => by (cases q), ((Below.refl W.heap.size W).alloc (Nat.le_refl _) _)⟩

 obtain ⟨a1, a2⟩ := lit_two (l := [45]) hd
 have hd' := hid (show ¬ s.data.toList = dashB from lit_data (l := [45]) hd)
 go_enter Tryz.func35, Tryz.ntmps35
 go_wp2_with fail
 ((with_reducible refine (r10names_b s _ hs).mono ?_); rintro e w1 ⟨v, b, rfl, hy, hn, hb⟩)
 replace hY := hY.below hb
 replace hL := below_call hL hb
 clear hb
 obtain ⟨_, _, _, _, _, _, _, _⟩ := hY.four
 cases b with
 | true =>
  obtain ⟨l, hl, hst, -, hsb⟩ := hy rfl
  obtain ⟨p, c, rfl, -⟩ := id hst
  replace hl := hid hl
  clear hy hn
  go_wp2_with fail
  refine bodyPost_ret (results_agg_two rfl rfl rfl Tryz.isAgg72 Tryz.sizeOf72 (hY.put4 _ _ _ _) rfl) rfl ?_
  exact ⟨_, ⟨0, false, ⟨#[]⟩, l⟩, true, rfl, ⟨_, rfl, ((((hsb.put hY (by decide) _).put (hY.set 0 _) (by decide) _).put ((hY.set 0 _).set 1 _) (by decide) _).put (((hY.set 0 _).set 1 _).set 2 _) (by decide) _)⟩, fun _ => (by rw [hrd.out, if_neg hd'.out, hl.out]; rfl), fun q => by (cases q), ((((hL.setCell (Nat.le_refl _) _).setCell (Nat.le_refl _) _).setCell (Nat.le_refl _) _).setCell (Nat.le_refl _) _)⟩
 | false =>
  obtain ⟨hl, rfl⟩ := hn rfl
  replace hl := hid hl
  clear hy hn
  go_wp2_with fail
  refine bodyPost_ret (results_agg_two rfl rfl rfl Tryz.isAgg72 Tryz.sizeOf72 (hY.put4 _ _ _ _) rfl) rfl ?_
  exact ⟨_, V10.zero, false, rfl, ⟨_, rfl, sb_nil _⟩, fun q => by (cases q), fun _ => (by rw [hrd.out, if_neg hd'.out, hl.out]; rfl), ((((hL.setCell (Nat.le_refl _) _).setCell (Nat.le_refl _) _).setCell (Nat.le_refl _) _).setCell (Nat.le_refl _) _)⟩
end
section
open Go.RowKit Go.Lib
set_option maxHeartbeats 8000000 in
set_option maxRecDepth 100000 in
theorem r10word_b (k : Int) (W : World) (hk : k = 1 ∨ k = 2 ∨ k = 3) : Calls Tryz.prog 103 #[.int .i64 k] W fun e w' => e = .returned (.string (toB (wordK k))) ∧ W = w' := by
 rcases hk with rfl | rfl | rfl
 · go_enter Tryz.func103, Tryz.ntmps103
   go_wp2_with fail
   go_ret
   exact ⟨rfl, rfl⟩
 · go_enter Tryz.func103, Tryz.ntmps103
   go_wp2_with fail
   go_ret
   exact ⟨rfl, rfl⟩
 · go_enter Tryz.func103, Tryz.ntmps103
   go_wp2_with fail
   go_ret
   exact ⟨rfl, rfl⟩
end

end Go.Proofs.YtnjcdmjaecgblaaGreatDoor
