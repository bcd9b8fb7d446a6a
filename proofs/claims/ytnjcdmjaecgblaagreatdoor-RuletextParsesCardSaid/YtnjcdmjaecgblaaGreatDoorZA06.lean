/-
  What the functions of rules answer: names, lists, limits.
-/
import Derived.Test.YtnjcdmjaecgblaaGreatDoorZA03
import Derived.Laws.EntriesVeiled
namespace Go.Proofs.YtnjcdmjaecgblaaGreatDoor
section
section
open Go.RowKit Go.Lib
theorem lba_zero {s : ByteArray} (h : s.size = 0) : s = ⟨#[]⟩ := ByteArray.ext (Array.eq_empty_of_size_eq_zero h)
theorem lba_emp {s : ByteArray} (h : s.size ≠ 0) : s.toList.isEmpty = false := by
 rw [Lib.toList_data]
 cases hd : s.data.toList with
 | nil => exact absurd (by rw [Lib.size_eq, hd]; rfl) h
 | cons a l => rfl
theorem ltake_all {s : ByteArray} : s.data.toList.take s.size = s.data.toList := List.take_of_length_le (by rw [← Lib.size_eq]; exact Nat.le_refl _)
theorem lletter_b (c : UInt8) (b : Bool) (W : World) (e : Hid (b = letB c)) :
 Calls Tryz.prog 158 #[.int .u8 (c.toNat : Int)] W fun e w' => e = .returned (.bool b) ∧ W = w' := by
 have h0 : (c.toNat : Int) < 256 := by have := c.toNat_lt; omega
 rw [e.out]
 unfold letB
 clear e
 by_cases h1 : 97 ≤ c.toNat
 · by_cases h2 : c.toNat ≤ 122
   · have z1 : decide ((97 : Int) ≤ c.toNat) = true := decide_eq_true (by omega)
     have z2 : decide ((c.toNat : Int) ≤ 122) = true := decide_eq_true (by omega)
     rw [decide_eq_true (p := 97 ≤ c.toNat ∧ c.toNat ≤ 122) ⟨h1, h2⟩]
     go_enter Tryz.func158, Tryz.ntmps158
     go_wp2
     go_ret
     exact ⟨rfl, rfl⟩
   · have z1 : decide ((97 : Int) ≤ c.toNat) = true := decide_eq_true (by omega)
     have z2 : decide ((c.toNat : Int) ≤ 122) = false := decide_eq_false (by omega)
     rw [decide_eq_false (p := 97 ≤ c.toNat ∧ c.toNat ≤ 122) (by omega)]
     go_enter Tryz.func158, Tryz.ntmps158
     go_wp2
     go_ret
     exact ⟨rfl, rfl⟩
 · have z1 : decide ((97 : Int) ≤ c.toNat) = false := decide_eq_false (by omega)
   rw [decide_eq_false (p := 97 ≤ c.toNat ∧ c.toNat ≤ 122) (by omega)]
   go_enter Tryz.func158, Tryz.ntmps158
   go_wp2
   go_ret
   exact ⟨rfl, rfl⟩
theorem ldigit_b (c : UInt8) (b : Bool) (W : World) (e : Hid (b = digB c)) :
 Calls Tryz.prog 159 #[.int .u8 (c.toNat : Int)] W fun e w' => e = .returned (.bool b) ∧ W = w' := by
 have h0 : (c.toNat : Int) < 256 := by have := c.toNat_lt; omega
 rw [e.out]
 unfold digB
 clear e
 by_cases h1 : 48 ≤ c.toNat
 · by_cases h2 : c.toNat ≤ 57
   · have z1 : decide ((48 : Int) ≤ c.toNat) = true := decide_eq_true (by omega)
     have z2 : decide ((c.toNat : Int) ≤ 57) = true := decide_eq_true (by omega)
     rw [decide_eq_true (p := 48 ≤ c.toNat ∧ c.toNat ≤ 57) ⟨h1, h2⟩]
     go_enter Tryz.func159, Tryz.ntmps159
     go_wp2
     go_ret
     exact ⟨rfl, rfl⟩
   · have z1 : decide ((48 : Int) ≤ c.toNat) = true := decide_eq_true (by omega)
     have z2 : decide ((c.toNat : Int) ≤ 57) = false := decide_eq_false (by omega)
     rw [decide_eq_false (p := 48 ≤ c.toNat ∧ c.toNat ≤ 57) (by omega)]
     go_enter Tryz.func159, Tryz.ntmps159
     go_wp2
     go_ret
     exact ⟨rfl, rfl⟩
 · have z1 : decide ((48 : Int) ≤ c.toNat) = false := decide_eq_false (by omega)
   rw [decide_eq_false (p := 48 ≤ c.toNat ∧ c.toNat ≤ 57) (by omega)]
   go_enter Tryz.func159, Tryz.ntmps159
   go_wp2
   go_ret
   exact ⟨rfl, rfl⟩
theorem lname_first {s : ByteArray} (h : 0 < s.size) : nameB s.data.toList = (decide (s.size ≤ 12) && letB (s[0]'h) && (s.data.toList.drop 1).all wordB) := by
 have hl : s.data.toList.length = s.size := by rw [← Lib.size_eq]
 have e : s.data.toList = s[0]'h :: s.data.toList.drop 1 := by
  conv => lhs; rw [← List.drop_zero (l := s.data.toList), List.drop_eq_getElem_cons (by omega)]
  rfl
 unfold nameB
 rw [hl]
 have hd : decide (1 ≤ s.size ∧ s.size ≤ 12) = decide (s.size ≤ 12) := decide_eq_decide.2 ⟨fun q => q.2, fun q => ⟨h, q⟩⟩
 rw [hd]
 conv => lhs; rw [e]
 simp only
 rw [Bool.and_assoc]
theorem llet_word {c : UInt8} (h : letB c = true) : wordB c = true := by unfold wordB; rw [h]; rfl
theorem lname_all {s : ByteArray} (h : 0 < s.size) (hf : letB (s[0]'h) = true) : (s.data.toList.drop 1).all wordB = s.data.toList.all wordB := by
 have hl : s.data.toList.length = s.size := by rw [← Lib.size_eq]
 have e : s.data.toList = s[0]'h :: s.data.toList.drop 1 := by
  conv => lhs; rw [← List.drop_zero (l := s.data.toList), List.drop_eq_getElem_cons (by omega)]
  rfl
 conv => rhs; rw [e, List.all_cons, llet_word hf, Bool.true_and]
theorem lall_next {p : UInt8 → Bool} {s : ByteArray} {k : Nat} (hk : k < s.size) (h : (s.data.toList.take k).all p = true) (hp : p (s[k]'hk) = true) : (s.data.toList.take (k + 1)).all p = true := by
 rw [take_nx hk, List.all_append, h]
 simp [hp]
theorem lall_not {p : UInt8 → Bool} {s : ByteArray} {k : Nat} (hk : k < s.size) (hp : p (s[k]'hk) = false) : s.data.toList.all p = false := by
 rw [List.all_eq_false]
 exact ⟨s[k]'hk, by show s.data[k] ∈ s.data.toList; exact Array.mem_toList_iff.2 (Array.getElem_mem _), by rw [hp]; decide⟩
theorem lbyte_ne {c : UInt8} {n : Nat} (h : (c == UInt8.ofNat n) = false) (hn : n < 256) : ((c.toNat : Int) == (n : Int)) = false := by
 rw [beq_eq_false_iff_ne] at h ⊢
 intro e
 exact h (UInt8.toNat_inj.1 (by rw [UInt8.toNat_ofNat']; omega))
set_option maxHeartbeats 1000000 in
theorem lname_b (s : ByteArray) (b : Bool) (W : World) (e : Hid (b = nameB s.data.toList)) :
 Calls Tryz.prog 107 #[.string s] W fun e w' => e = .returned (.bool b) ∧ W = w' := by
 by_cases h0 : s.size = 0
 · obtain rfl := lba_zero h0
   have hb : b = false := by rw [e.out]; rfl
   subst hb
   clear h0 e
   go_enter Tryz.func107, Tryz.ntmps107
   go_wp2
   go_ret
   exact ⟨rfl, rfl⟩
 · have hemp := lba_emp h0
   have hp : 0 < s.size := by omega
   have hn := e.out.trans (lname_first hp)
   clear e
   by_cases h12 : s.size ≤ 12
   · rw [decide_eq_true h12, Bool.true_and] at hn
     have z1 : decide ((12 : Int) < s.size) = false := decide_eq_false (by omega)
     obtain ⟨f, hf⟩ : ∃ f, Hid (f = letB (s[0]'hp)) := ⟨_, hid rfl⟩
     cases f with
     | false =>
      rw [← hf.out, Bool.false_and] at hn
      subst hn
      go_enter Tryz.func107, Tryz.ntmps107
      go_wp2_with fail
      ((with_reducible refine (lletter_b (s[0]'hp) false _ hf).mono ?_); rintro e w' ⟨rfl, rfl⟩)
      go_wp2_with fail
      go_ret
      exact ⟨rfl, rfl⟩
     | true =>
      rw [← hf.out, Bool.true_and, lname_all hp hf.out.symm] at hn
      have HN := Lib.hid hn
      clear hn
      go_enter Tryz.func107, Tryz.ntmps107
      go_wp2_with fail
      ((with_reducible refine (lletter_b (s[0]'hp) true _ hf).mono ?_); rintro e w' ⟨rfl, rfl⟩)
      go_wp2_with fail
      clear z1 hemp
      go_loop [3, 19] (fun _ vi => ∃ k : Nat, vi = .int .i64 k ∧ k ≤ s.size ∧ Hid ((s.data.toList.take k).all wordB = true)) (fun _ vi => s.size - (RowKit.intOf vi).toNat)
      case atStart => exact ⟨0, rfl, by omega, hid rfl⟩
      case round =>
       obtain ⟨k, rfl, hk, hA⟩ := hrel
       by_cases hlt : k < s.size
       · obtain ⟨x, hx⟩ : ∃ x, Hid (x = letB (s[k]'hlt)) := ⟨_, hid rfl⟩
         obtain ⟨y, hy⟩ : ∃ x, Hid (x = digB (s[k]'hlt)) := ⟨_, hid rfl⟩
         have k0 : (0 : Int) ≤ k := by omega
         have k1 : (k : Int) < s.size := by omega
         cases x with
         | true =>
          have HS := Lib.hid (lall_next hlt hA.out (llet_word hx.out.symm))
          clear hA
          go_wp2_with fail
          ((with_reducible refine (lletter_b (s[k]'hlt) true _ hx).mono ?_); rintro e w' ⟨rfl, rfl⟩)
          go_wp2_with fail
          go_round
          case rel => exact ⟨k + 1, by go_num, by omega, HS⟩
          case measure => simp [RowKit.intOf]; omega
         | false =>
          cases y with
          | true =>
           have HS := Lib.hid (lall_next hlt hA.out (show wordB (s[k]'hlt) = true by unfold wordB; rw [← hy.out]; simp))
           clear hA
           go_wp2_with fail
           ((with_reducible refine (lletter_b (s[k]'hlt) false _ hx).mono ?_); rintro e w' ⟨rfl, rfl⟩)
           go_wp2_with fail
           ((with_reducible refine (ldigit_b (s[k]'hlt) true _ hy).mono ?_); rintro e w' ⟨rfl, rfl⟩)
           go_wp2_with fail
           go_round
           case rel => exact ⟨k + 1, by go_num, by omega, HS⟩
           case measure => simp [RowKit.intOf]; omega
          | false =>
           by_cases hu : (s[k]'hlt) = 95
           · have HS := Lib.hid (lall_next hlt hA.out (show wordB (s[k]'hlt) = true by unfold wordB; rw [hu]; rfl))
             have hz : (((s[k]'hlt).toNat : Int) != 95) = false := by rw [hu]; rfl
             have HU := Lib.hid hu
             clear hA hu
             go_wp2_with fail
             ((with_reducible refine (lletter_b (s[k]'hlt) false _ hx).mono ?_); rintro e w' ⟨rfl, rfl⟩)
             go_wp2_with fail
             ((with_reducible refine (ldigit_b (s[k]'hlt) false _ hy).mono ?_); rintro e w' ⟨rfl, rfl⟩)
             go_wp2_with fail
             go_round
             case rel => exact ⟨k + 1, by go_num, by omega, HS⟩
             case measure => simp [RowKit.intOf]; omega
           · have hw : wordB (s[k]'hlt) = false := by unfold wordB; rw [← hx.out, ← hy.out]; simpa using hu
             have hz : (((s[k]'hlt).toNat : Int) != 95) = true := by
              have := lbyte_ne (n := 95) (beq_eq_false_iff_ne.2 hu) (by decide)
              simpa using this
             have HB := Lib.hid (HN.out.trans (lall_not hlt hw))
             clear hA hu hw
             go_wp2_with fail
             ((with_reducible refine (lletter_b (s[k]'hlt) false _ hx).mono ?_); rintro e w' ⟨rfl, rfl⟩)
             go_wp2_with fail
             ((with_reducible refine (ldigit_b (s[k]'hlt) false _ hy).mono ?_); rintro e w' ⟨rfl, rfl⟩)
             go_wp2_with fail
             go_ret
             exact ⟨ret_bit HB.out.symm, rfl⟩
       · obtain rfl : k = s.size := by omega
         have hA2 := hA.out
         rw [ltake_all] at hA2
         have HB := Lib.hid (HN.out.trans hA2)
         clear hA2
         clear hA
         go_wp2_with fail
         go_ret
         exact ⟨ret_bit HB.out.symm, rfl⟩
   · rw [decide_eq_false h12, Bool.false_and, Bool.false_and] at hn
     subst hn
     have z1 : decide ((12 : Int) < s.size) = true := decide_eq_true (by omega)
     go_enter Tryz.func107, Tryz.ntmps107
     go_wp2
     go_ret
     exact ⟨rfl, rfl⟩
theorem deq_str9 (a b : ByteArray) : decide (a = b) = (a.toList == b.toList) := by
 by_cases h : a = b
 · subst h; simp
 · rw [decide_eq_false h]; exact (ne_list h).1.symm
theorem lunitName_b (V : World) (vs : List Value) (u : U9) (W : World) (hU : UL V vs u) :
 Calls Tryz.prog 122 #[.agg vs.toArray] W fun e w' => e = .returned (.string u.nm) ∧ Below W.heap.size W w' := by
 have hB := Blk.new W vs 53
 have hL := (Below.refl W.heap.size W).alloc (Nat.le_refl _) (.cells vs.toArray 53)
 have k0 := (hB.cell 0).trans hU.name
 clear hU
 go_enter Tryz.func122, Tryz.ntmps122
 go_wp2_with fail
 go_ret
 exact ⟨rfl, hL⟩
theorem eg_posU : ∀ args w, (callFunc 202 args).run Tryz.prog w = .ok (.enter 202 args) w := enters_of Tryz.func202 (by kernel_rfl) rfl
set_option maxHeartbeats 2000000 in
set_option maxRecDepth 100000 in
theorem lposU1_b (V : World) (vs : List Value) (u : U9) (s : ByteArray) (c d : Nat) (b : Bool) (tf ts : TypeId) (W : World) (hU : UL V vs u) (hc : Blk W c [.func (.func 122) #[] #[]] tf) (hd : Blk W d [.string s] ts) (e : Hid (b = decide (u.nm = s))) :
 Calls Tryz.prog 202 #[.agg vs.toArray, .pointer (some ⟨c, 0, none⟩), .pointer (some ⟨d, 0, none⟩)] W fun e w' => e = .returned (.bool b) ∧ Below W.heap.size W w' := by
 have hB := Blk.new W vs 53
 have hc1 := hc.alloc (.cells vs.toArray 53)
 have hd1 := hd.alloc (.cells vs.toArray 53)
 have hL := (Below.refl W.heap.size W).alloc (Nat.le_refl _) (.cells vs.toArray 53)
 have hln := hU.len
 have hcon := hid (fun w => lunitName_b V vs u w hU)
 clear hU hc hd
 go_enter Tryz.func202, Tryz.ntmps202
 go_upto_region 1 with fail
 generalize W.alloc (.cells vs.toArray 53) = X at *
 have hmx : Tryz.prog.follows .mixedOrders = true := by kernel_rfl
 refine wp_region_held (S := fun w' => Below X.heap.size X w') hmx ?_
 show wpAnyH _ _ _ _ _ _ _ _ X.drew
 have hS0 := (Below.refl X.heap.size X).drew
 refine reg_tk (i := 0) (v := .func (.func 122) #[] #[]) (some 5) rfl (fun w' hS => by (have := (hc1.below hS).one.1); go_simp) hS0 ?_
 simp only [Act.put, List.setIfInBounds_toArray, List.set_cons_zero, List.set_cons_succ]
 refine reg_tk (i := 1) (v := .agg vs.toArray) (some 6) rfl (fun w' hS => exec_load_agg 53 _ rfl ⟨W.heap.size, 0, none⟩ (by with_unfolding_all rfl) Tryz.isAgg53 Tryz.sizeOf53 vs ((hB.below hS).loads hln)) hS0 ?_
 simp only [Act.put, List.setIfInBounds_toArray, List.set_cons_zero, List.set_cons_succ]
 refine reg_tk (i := 3) (v := .string s) (some 8) rfl (fun w' hS => by (have := (hd1.below hS).one.1); go_simp) hS0 ?_
 simp only [Act.put, List.setIfInBounds_toArray, List.set_cons_zero, List.set_cons_succ]
 refine held_one (i := 2) (by kernel_rfl) rfl (fun K hQ => ?_)
 go_simp
 (with_reducible refine (hcon.out _).mono ?_)
 rintro e w1 ⟨rfl, hb⟩
 have hS1 := below_call hS0 hb
 refine hQ.out _ _ hS1 ?_
 clear hQ
 try simp only [Act.put, List.setIfInBounds_toArray, List.set_cons_zero, List.set_cons_succ]
 have z : (u.nm.toList == s.toList) = b := by rw [e.out]; exact (deq_str9 _ _).symm
 refine reg_tk (i := 4) (v := .bool b) (some 9) rfl (fun w' hS => by skip; go_simp) hS1 ?_
 simp only [Act.put, List.setIfInBounds_toArray, List.set_cons_zero, List.set_cons_succ]
 refine reg_tk (i := 5) (v := .bool b) (some 4) rfl (fun w' hS => by skip; go_simp) hS1 ?_
 simp only [Act.put, List.setIfInBounds_toArray, List.set_cons_zero, List.set_cons_succ]
 refine wpAnyH_done (by kernel_rfl) ?_ _
 show Exit.then _ _ Exit.normal _ _
 go_wp2_with fail
 go_ret
 exact ⟨rfl, hL.trans (hS1.mono hL.size)⟩
theorem lweaponName_b (vs : List Value) (u : W9) (W : World) (hU : WL vs u) :
 Calls Tryz.prog 124 #[.agg vs.toArray] W fun e w' => e = .returned (.string u.nm) ∧ Below W.heap.size W w' := by
 have hB := Blk.new W vs 51
 have hL := (Below.refl W.heap.size W).alloc (Nat.le_refl _) (.cells vs.toArray 51)
 have k0 := (hB.cell 0).trans hU.name
 clear hU
 go_enter Tryz.func124, Tryz.ntmps124
 go_wp2_with fail
 go_ret
 exact ⟨rfl, hL⟩
theorem eg_posW : ∀ args w, (callFunc 205 args).run Tryz.prog w = .ok (.enter 205 args) w := enters_of Tryz.func205 (by kernel_rfl) rfl
set_option maxHeartbeats 2000000 in
set_option maxRecDepth 100000 in
theorem lposW1_b (vs : List Value) (u : W9) (s : ByteArray) (c d : Nat) (b : Bool) (tf ts : TypeId) (W : World) (hU : WL vs u) (hc : Blk W c [.func (.func 124) #[] #[]] tf) (hd : Blk W d [.string s] ts) (e : Hid (b = decide (u.nm = s))) :
 Calls Tryz.prog 205 #[.agg vs.toArray, .pointer (some ⟨c, 0, none⟩), .pointer (some ⟨d, 0, none⟩)] W fun e w' => e = .returned (.bool b) ∧ Below W.heap.size W w' := by
 have hB := Blk.new W vs 51
 have hc1 := hc.alloc (.cells vs.toArray 51)
 have hd1 := hd.alloc (.cells vs.toArray 51)
 have hL := (Below.refl W.heap.size W).alloc (Nat.le_refl _) (.cells vs.toArray 51)
 have hln := hU.len
 have hcon := hid (fun w => lweaponName_b vs u w hU)
 clear hU hc hd
 go_enter Tryz.func205, Tryz.ntmps205
 go_upto_region 1 with fail
 generalize W.alloc (.cells vs.toArray 51) = X at *
 have hmx : Tryz.prog.follows .mixedOrders = true := by kernel_rfl
 refine wp_region_held (S := fun w' => Below X.heap.size X w') hmx ?_
 show wpAnyH _ _ _ _ _ _ _ _ X.drew
 have hS0 := (Below.refl X.heap.size X).drew
 refine reg_tk (i := 0) (v := .func (.func 124) #[] #[]) (some 5) rfl (fun w' hS => by (have := (hc1.below hS).one.1); go_simp) hS0 ?_
 simp only [Act.put, List.setIfInBounds_toArray, List.set_cons_zero, List.set_cons_succ]
 refine reg_tk (i := 1) (v := .agg vs.toArray) (some 6) rfl (fun w' hS => exec_load_agg 51 _ rfl ⟨W.heap.size, 0, none⟩ (by with_unfolding_all rfl) Tryz.isAgg51 Tryz.sizeOf51 vs ((hB.below hS).loads hln)) hS0 ?_
 simp only [Act.put, List.setIfInBounds_toArray, List.set_cons_zero, List.set_cons_succ]
 refine reg_tk (i := 3) (v := .string s) (some 8) rfl (fun w' hS => by (have := (hd1.below hS).one.1); go_simp) hS0 ?_
 simp only [Act.put, List.setIfInBounds_toArray, List.set_cons_zero, List.set_cons_succ]
 refine held_one (i := 2) (by kernel_rfl) rfl (fun K hQ => ?_)
 go_simp
 (with_reducible refine (hcon.out _).mono ?_)
 rintro e w1 ⟨rfl, hb⟩
 have hS1 := below_call hS0 hb
 refine hQ.out _ _ hS1 ?_
 clear hQ
 try simp only [Act.put, List.setIfInBounds_toArray, List.set_cons_zero, List.set_cons_succ]
 have z : (u.nm.toList == s.toList) = b := by rw [e.out]; exact (deq_str9 _ _).symm
 refine reg_tk (i := 4) (v := .bool b) (some 9) rfl (fun w' hS => by skip; go_simp) hS1 ?_
 simp only [Act.put, List.setIfInBounds_toArray, List.set_cons_zero, List.set_cons_succ]
 refine reg_tk (i := 5) (v := .bool b) (some 4) rfl (fun w' hS => by skip; go_simp) hS1 ?_
 simp only [Act.put, List.setIfInBounds_toArray, List.set_cons_zero, List.set_cons_succ]
 refine wpAnyH_done (by kernel_rfl) ?_ _
 show Exit.then _ _ Exit.normal _ _
 go_wp2_with fail
 go_ret
 exact ⟨rfl, hL.trans (hS1.mono hL.size)⟩
theorem ltechName_b (V : World) (vs : List Value) (u : T9) (W : World) (hU : TL V vs u) :
 Calls Tryz.prog 126 #[.agg vs.toArray] W fun e w' => e = .returned (.string u.nm) ∧ Below W.heap.size W w' := by
 have hB := Blk.new W vs 56
 have hL := (Below.refl W.heap.size W).alloc (Nat.le_refl _) (.cells vs.toArray 56)
 have k0 := (hB.cell 0).trans hU.name
 clear hU
 go_enter Tryz.func126, Tryz.ntmps126
 go_wp2_with fail
 go_ret
 exact ⟨rfl, hL⟩
theorem eg_posT : ∀ args w, (callFunc 204 args).run Tryz.prog w = .ok (.enter 204 args) w := enters_of Tryz.func204 (by kernel_rfl) rfl
set_option maxHeartbeats 2000000 in
set_option maxRecDepth 100000 in
theorem lposT1_b (V : World) (vs : List Value) (u : T9) (s : ByteArray) (c d : Nat) (b : Bool) (tf ts : TypeId) (W : World) (hU : TL V vs u) (hc : Blk W c [.func (.func 126) #[] #[]] tf) (hd : Blk W d [.string s] ts) (e : Hid (b = decide (u.nm = s))) :
 Calls Tryz.prog 204 #[.agg vs.toArray, .pointer (some ⟨c, 0, none⟩), .pointer (some ⟨d, 0, none⟩)] W fun e w' => e = .returned (.bool b) ∧ Below W.heap.size W w' := by
 have hB := Blk.new W vs 56
 have hc1 := hc.alloc (.cells vs.toArray 56)
 have hd1 := hd.alloc (.cells vs.toArray 56)
 have hL := (Below.refl W.heap.size W).alloc (Nat.le_refl _) (.cells vs.toArray 56)
 have hln := hU.len
 have hcon := hid (fun w => ltechName_b V vs u w hU)
 clear hU hc hd
 go_enter Tryz.func204, Tryz.ntmps204
 go_upto_region 1 with fail
 generalize W.alloc (.cells vs.toArray 56) = X at *
 have hmx : Tryz.prog.follows .mixedOrders = true := by kernel_rfl
 refine wp_region_held (S := fun w' => Below X.heap.size X w') hmx ?_
 show wpAnyH _ _ _ _ _ _ _ _ X.drew
 have hS0 := (Below.refl X.heap.size X).drew
 refine reg_tk (i := 0) (v := .func (.func 126) #[] #[]) (some 5) rfl (fun w' hS => by (have := (hc1.below hS).one.1); go_simp) hS0 ?_
 simp only [Act.put, List.setIfInBounds_toArray, List.set_cons_zero, List.set_cons_succ]
 refine reg_tk (i := 1) (v := .agg vs.toArray) (some 6) rfl (fun w' hS => exec_load_agg 56 _ rfl ⟨W.heap.size, 0, none⟩ (by with_unfolding_all rfl) Tryz.isAgg56 Tryz.sizeOf56 vs ((hB.below hS).loads hln)) hS0 ?_
 simp only [Act.put, List.setIfInBounds_toArray, List.set_cons_zero, List.set_cons_succ]
 refine reg_tk (i := 3) (v := .string s) (some 8) rfl (fun w' hS => by (have := (hd1.below hS).one.1); go_simp) hS0 ?_
 simp only [Act.put, List.setIfInBounds_toArray, List.set_cons_zero, List.set_cons_succ]
 refine held_one (i := 2) (by kernel_rfl) rfl (fun K hQ => ?_)
 go_simp
 (with_reducible refine (hcon.out _).mono ?_)
 rintro e w1 ⟨rfl, hb⟩
 have hS1 := below_call hS0 hb
 refine hQ.out _ _ hS1 ?_
 clear hQ
 try simp only [Act.put, List.setIfInBounds_toArray, List.set_cons_zero, List.set_cons_succ]
 have z : (u.nm.toList == s.toList) = b := by rw [e.out]; exact (deq_str9 _ _).symm
 refine reg_tk (i := 4) (v := .bool b) (some 9) rfl (fun w' hS => by skip; go_simp) hS1 ?_
 simp only [Act.put, List.setIfInBounds_toArray, List.set_cons_zero, List.set_cons_succ]
 refine reg_tk (i := 5) (v := .bool b) (some 4) rfl (fun w' hS => by skip; go_simp) hS1 ?_
 simp only [Act.put, List.setIfInBounds_toArray, List.set_cons_zero, List.set_cons_succ]
 refine wpAnyH_done (by kernel_rfl) ?_ _
 show Exit.then _ _ Exit.normal _ _
 go_wp2_with fail
 go_ret
 exact ⟨rfl, hL.trans (hS1.mono hL.size)⟩
end
section
open Go.RowKit Go.Lib
theorem has_any {α : Type} (f : α → ByteArray) (l : List α) (s : ByteArray) : l.any (fun x => decide (f x = s)) = hasv (l.map f) s := by
 unfold hasv
 rw [List.any_map]
 rfl
def plU (l : List U9) (s : ByteArray) : Int := idxN (fun i => match l[i]? with | some x => decide (x.nm = s) | none => false) l.length
theorem plU_any (l : List U9) (s : ByteArray) : decide (0 ≤ plU l s) = hasv (l.map U9.nm) s := by
 unfold plU
 rw [idxN_any, ← has_any]
 exact anyN_list fun i h => by rw [List.getElem?_eq_getElem h]
set_option maxHeartbeats 2000000 in
set_option maxRecDepth 100000 in
theorem lposU_b (v : Value) (l : List U9) (s : ByteArray) (n : Int) (V0 W : World) (hl : SlAt UAt 19 V0 v l) (h0 : Below V0.heap.size V0 W) (e : Hid (n = plU l s)) :
 Calls Tryz.prog 173 #[v, .func (.func 122) #[] #[], .string s] W fun e w' => e = .returned (.int .i64 n) ∧ Below W.heap.size W w' := by
 obtain ⟨cs, hr, hU⟩ := hl.rowU
 obtain ⟨q, c, rfl, -⟩ := id hr
 have hc := (Blk.new W [.func (.func 122) #[] #[]] 156).alloc (.cells [.string s].toArray 9)
 have hd := (Blk.new (W.alloc (.cells [.func (.func 122) #[] #[]].toArray 156)) [.string s] 9).at (World.size_alloc _ _)
 have hL := ((Below.refl W.heap.size W).alloc (Nat.le_refl _) (.cells [.func (.func 122) #[] #[]].toArray 156)).alloc (by simp) (.cells [.string s].toArray 9)
 have h02 := h0.trans (hL.mono h0.size)
 clear hl
 go_enter Tryz.func173, Tryz.ntmps173
 go_upto_region 1 with fail
 generalize (W.alloc (.cells [.func (.func 122) #[] #[]].toArray 156)).alloc (.cells [.string s].toArray 9) = X at *
 have hcon := lidxU_b _ l.length cs 202 #[.pointer (some ⟨W.heap.size, 0, none⟩), .pointer (some ⟨W.heap.size + 1, 0, none⟩)] (fun i => match l[i]? with | some x => decide (x.nm = s) | none => false) V0 X hr h02 eg_posU
  (fun i hi w hb => lposU1_b V0 (cs i) (l[i]'hi) s W.heap.size (W.heap.size + 1) _ _ _ w (hU i hi) (hc.below hb) (hd.below hb) (hid (by rw [List.getElem?_eq_getElem hi])))
 have e' : n = _ := e.out
 unfold plU at e'
 rw [← e'] at hcon
 clear e e' hr hU hc hd h02 h0
 go_wp2_with fail
 (refine hcon.mono ?_; rintro e w1 ⟨rfl, hb⟩)
 go_wp2_with fail
 go_ret
 exact ⟨rfl, hL.trans (hb.mono hL.size)⟩
set_option maxHeartbeats 2000000 in
theorem lisType_b (su sw st : Value) (r : R9) (s : ByteArray) (b : Bool) (V0 W : World) (hR : RAt V0 su sw st r) (h0 : Below V0.heap.size V0 W) (e : Hid (b = hasv (namesU r) s)) :
 Calls Tryz.prog 135 #[.agg #[su, sw, st], .string s] W fun e w' => e = .returned (.bool b) ∧ Below W.heap.size W w' := by
 have hB := Blk.new W [su, sw, st] 31
 have hL := (Below.refl W.heap.size W).alloc (Nat.le_refl _) (.cells [su, sw, st].toArray 31)
 obtain ⟨z, hz⟩ : ∃ z, Hid (z = plU r.us s) := ⟨_, hid rfl⟩
 have he : b = decide (0 ≤ z) := by rw [e.out, hz.out, plU_any]; rfl
 have hcon := lposU_b _ r.us s z V0 _ hR.u (h0.trans (hL.mono h0.size)) hz
 clear hR e h0 hz
 subst he
 go_enter Tryz.func135, Tryz.ntmps135
 go_upto_region 1 with fail
 generalize W.alloc (.cells [su, sw, st].toArray 31) = X at *
 obtain ⟨_, _, _, _, _, _⟩ := hB.three
 go_wp2_with fail
 (refine hcon.mono ?_; rintro e w1 ⟨rfl, hb⟩)
 go_wp2_with fail
 go_ret
 exact ⟨rfl, hL.trans (hb.mono hL.size)⟩
def plW (l : List W9) (s : ByteArray) : Int := idxN (fun i => match l[i]? with | some x => decide (x.nm = s) | none => false) l.length
theorem plW_any (l : List W9) (s : ByteArray) : decide (0 ≤ plW l s) = hasv (l.map W9.nm) s := by
 unfold plW
 rw [idxN_any, ← has_any]
 exact anyN_list fun i h => by rw [List.getElem?_eq_getElem h]
set_option maxHeartbeats 2000000 in
set_option maxRecDepth 100000 in
theorem lposW_b (v : Value) (l : List W9) (s : ByteArray) (n : Int) (V0 W : World) (hl : SlAt WAt 6 V0 v l) (h0 : Below V0.heap.size V0 W) (e : Hid (n = plW l s)) :
 Calls Tryz.prog 178 #[v, .func (.func 124) #[] #[], .string s] W fun e w' => e = .returned (.int .i64 n) ∧ Below W.heap.size W w' := by
 obtain ⟨cs, hr, hU⟩ := hl.rowW
 obtain ⟨q, c, rfl, -⟩ := id hr
 have hc := (Blk.new W [.func (.func 124) #[] #[]] 158).alloc (.cells [.string s].toArray 9)
 have hd := (Blk.new (W.alloc (.cells [.func (.func 124) #[] #[]].toArray 158)) [.string s] 9).at (World.size_alloc _ _)
 have hL := ((Below.refl W.heap.size W).alloc (Nat.le_refl _) (.cells [.func (.func 124) #[] #[]].toArray 158)).alloc (by simp) (.cells [.string s].toArray 9)
 have h02 := h0.trans (hL.mono h0.size)
 clear hl
 go_enter Tryz.func178, Tryz.ntmps178
 go_upto_region 1 with fail
 generalize (W.alloc (.cells [.func (.func 124) #[] #[]].toArray 158)).alloc (.cells [.string s].toArray 9) = X at *
 have hcon := lidxW_b _ l.length cs 205 #[.pointer (some ⟨W.heap.size, 0, none⟩), .pointer (some ⟨W.heap.size + 1, 0, none⟩)] (fun i => match l[i]? with | some x => decide (x.nm = s) | none => false) V0 X hr h02 eg_posW
  (fun i hi w hb => lposW1_b (cs i) (l[i]'hi) s W.heap.size (W.heap.size + 1) _ _ _ w (hU i hi) (hc.below hb) (hd.below hb) (hid (by rw [List.getElem?_eq_getElem hi])))
 have e' : n = _ := e.out
 unfold plW at e'
 rw [← e'] at hcon
 clear e e' hr hU hc hd h02 h0
 go_wp2_with fail
 (refine hcon.mono ?_; rintro e w1 ⟨rfl, hb⟩)
 go_wp2_with fail
 go_ret
 exact ⟨rfl, hL.trans (hb.mono hL.size)⟩
set_option maxHeartbeats 2000000 in
theorem lisWeapon_b (su sw st : Value) (r : R9) (s : ByteArray) (b : Bool) (V0 W : World) (hR : RAt V0 su sw st r) (h0 : Below V0.heap.size V0 W) (e : Hid (b = hasv (namesW r) s)) :
 Calls Tryz.prog 147 #[.agg #[su, sw, st], .string s] W fun e w' => e = .returned (.bool b) ∧ Below W.heap.size W w' := by
 have hB := Blk.new W [su, sw, st] 31
 have hL := (Below.refl W.heap.size W).alloc (Nat.le_refl _) (.cells [su, sw, st].toArray 31)
 obtain ⟨z, hz⟩ : ∃ z, Hid (z = plW r.ws s) := ⟨_, hid rfl⟩
 have he : b = decide (0 ≤ z) := by rw [e.out, hz.out, plW_any]; rfl
 have hcon := lposW_b _ r.ws s z V0 _ hR.w (h0.trans (hL.mono h0.size)) hz
 clear hR e h0 hz
 subst he
 go_enter Tryz.func147, Tryz.ntmps147
 go_upto_region 1 with fail
 generalize W.alloc (.cells [su, sw, st].toArray 31) = X at *
 obtain ⟨_, _, _, _, _, _⟩ := hB.three
 go_wp2_with fail
 (refine hcon.mono ?_; rintro e w1 ⟨rfl, hb⟩)
 go_wp2_with fail
 go_ret
 exact ⟨rfl, hL.trans (hb.mono hL.size)⟩
def plT (l : List T9) (s : ByteArray) : Int := idxN (fun i => match l[i]? with | some x => decide (x.nm = s) | none => false) l.length
theorem plT_any (l : List T9) (s : ByteArray) : decide (0 ≤ plT l s) = hasv (l.map T9.nm) s := by
 unfold plT
 rw [idxN_any, ← has_any]
 exact anyN_list fun i h => by rw [List.getElem?_eq_getElem h]
set_option maxHeartbeats 2000000 in
set_option maxRecDepth 100000 in
theorem lposT_b (v : Value) (l : List T9) (s : ByteArray) (n : Int) (V0 W : World) (hl : SlAt TAt 8 V0 v l) (h0 : Below V0.heap.size V0 W) (e : Hid (n = plT l s)) :
 Calls Tryz.prog 177 #[v, .func (.func 126) #[] #[], .string s] W fun e w' => e = .returned (.int .i64 n) ∧ Below W.heap.size W w' := by
 obtain ⟨cs, hr, hU⟩ := hl.rowT
 obtain ⟨q, c, rfl, -⟩ := id hr
 have hc := (Blk.new W [.func (.func 126) #[] #[]] 160).alloc (.cells [.string s].toArray 9)
 have hd := (Blk.new (W.alloc (.cells [.func (.func 126) #[] #[]].toArray 160)) [.string s] 9).at (World.size_alloc _ _)
 have hL := ((Below.refl W.heap.size W).alloc (Nat.le_refl _) (.cells [.func (.func 126) #[] #[]].toArray 160)).alloc (by simp) (.cells [.string s].toArray 9)
 have h02 := h0.trans (hL.mono h0.size)
 clear hl
 go_enter Tryz.func177, Tryz.ntmps177
 go_upto_region 1 with fail
 generalize (W.alloc (.cells [.func (.func 126) #[] #[]].toArray 160)).alloc (.cells [.string s].toArray 9) = X at *
 have hcon := lidxT_b _ l.length cs 204 #[.pointer (some ⟨W.heap.size, 0, none⟩), .pointer (some ⟨W.heap.size + 1, 0, none⟩)] (fun i => match l[i]? with | some x => decide (x.nm = s) | none => false) V0 X hr h02 eg_posT
  (fun i hi w hb => lposT1_b V0 (cs i) (l[i]'hi) s W.heap.size (W.heap.size + 1) _ _ _ w (hU i hi) (hc.below hb) (hd.below hb) (hid (by rw [List.getElem?_eq_getElem hi])))
 have e' : n = _ := e.out
 unfold plT at e'
 rw [← e'] at hcon
 clear e e' hr hU hc hd h02 h0
 go_wp2_with fail
 (refine hcon.mono ?_; rintro e w1 ⟨rfl, hb⟩)
 go_wp2_with fail
 go_ret
 exact ⟨rfl, hL.trans (hb.mono hL.size)⟩
set_option maxHeartbeats 2000000 in
theorem lisTech_b (su sw st : Value) (r : R9) (s : ByteArray) (b : Bool) (V0 W : World) (hR : RAt V0 su sw st r) (h0 : Below V0.heap.size V0 W) (e : Hid (b = hasv (namesT r) s)) :
 Calls Tryz.prog 145 #[.agg #[su, sw, st], .string s] W fun e w' => e = .returned (.bool b) ∧ Below W.heap.size W w' := by
 have hB := Blk.new W [su, sw, st] 31
 have hL := (Below.refl W.heap.size W).alloc (Nat.le_refl _) (.cells [su, sw, st].toArray 31)
 obtain ⟨z, hz⟩ : ∃ z, Hid (z = plT r.ts s) := ⟨_, hid rfl⟩
 have he : b = decide (0 ≤ z) := by rw [e.out, hz.out, plT_any]; rfl
 have hcon := lposT_b _ r.ts s z V0 _ hR.t (h0.trans (hL.mono h0.size)) hz
 clear hR e h0 hz
 subst he
 go_enter Tryz.func145, Tryz.ntmps145
 go_upto_region 1 with fail
 generalize W.alloc (.cells [su, sw, st].toArray 31) = X at *
 obtain ⟨_, _, _, _, _, _⟩ := hB.three
 go_wp2_with fail
 (refine hcon.mono ?_; rintro e w1 ⟨rfl, hb⟩)
 go_wp2_with fail
 go_ret
 exact ⟨rfl, hL.trans (hb.mono hL.size)⟩
end
section
open Go.RowKit Go.Lib
theorem eg_badU : ∀ args w, (callFunc 169 args).run Tryz.prog w = .ok (.enter 169 args) w := enters_of Tryz.func169 (by kernel_rfl) rfl
set_option maxHeartbeats 2000000 in
set_option maxRecDepth 100000 in
theorem lbadU1_b (V0 : World) (vs : List Value) (u : U9) (c : Nat) (b : Bool) (tf : TypeId) (W : World) (hU : UL V0 vs u) (hc : Blk W c [.func (.func 122) #[] #[]] tf) (e : Hid (b = nameB u.nm.data.toList)) :
 Calls Tryz.prog 169 #[.agg vs.toArray, .pointer (some ⟨c, 0, none⟩)] W fun e w' => e = .returned (.bool (!b)) ∧ Below W.heap.size W w' := by
 have hB := Blk.new W vs 53
 have hc1 := hc.alloc (.cells vs.toArray 53)
 have hL := (Below.refl W.heap.size W).alloc (Nat.le_refl _) (.cells vs.toArray 53)
 have kl := hid (hB.loads (P := Tryz.prog) hU.len)
 have hcon := hid (fun w => lunitName_b V0 vs u w hU)
 have hcon2 := hid (fun w => lname_b u.nm b w e)
 have k0 := hc1.cell 0
 simp only [List.getElem?_cons_zero] at k0
 clear hU hc hc1 hB
 go_enter Tryz.func169, Tryz.ntmps169
 go_upto_region 1 with fail
 generalize W.alloc (.cells vs.toArray 53) = X at *
 go_wp2_with (with_reducible refine wpList_load_agg rfl 53 _ rfl ⟨W.heap.size, 0, none⟩ (by with_unfolding_all rfl) Tryz.isAgg53 Tryz.sizeOf53 vs kl.out ?_)
 ((with_reducible refine (hcon.out _).mono ?_); rintro e w1 ⟨rfl, hb⟩)
 go_wp2_with fail
 ((with_reducible refine (hcon2.out _).mono ?_); rintro e w2 ⟨rfl, rfl⟩)
 go_wp2_with fail
 go_ret
 exact ⟨rfl, hL.trans (hb.mono hL.size)⟩
set_option maxHeartbeats 2000000 in
set_option maxRecDepth 100000 in
theorem lbadU_b (v : Value) (l : List U9) (b : Bool) (V0 W : World) (hl : SlAt UAt 19 V0 v l) (h0 : Below V0.heap.size V0 W) (e : Hid (b = l.any fun x => !nameB x.nm.data.toList)) :
 Calls Tryz.prog 121 #[v, .func (.func 122) #[] #[]] W fun e w' => e = .returned (.bool b) ∧ Below W.heap.size W w' := by
 obtain ⟨cs, hr, hU⟩ := hl.rowU
 obtain ⟨q, c, rfl, -⟩ := id hr
 have hc := Blk.new W [.func (.func 122) #[] #[]] 156
 have hL := (Below.refl W.heap.size W).alloc (Nat.le_refl _) (.cells [.func (.func 122) #[] #[]].toArray 156)
 have h02 := h0.trans (hL.mono h0.size)
 clear hl
 go_enter Tryz.func121, Tryz.ntmps121
 go_upto_region 1 with fail
 generalize W.alloc (.cells [.func (.func 122) #[] #[]].toArray 156) = X at *
 have hcon := lanyU_b _ l.length cs 169 #[.pointer (some ⟨W.heap.size, 0, none⟩)] (fun i => match l[i]? with | some x => !nameB x.nm.data.toList | none => false) b V0 X hr h02 eg_badU
  (fun i hi w hb => by
   have := lbadU1_b V0 (cs i) (l[i]'hi) W.heap.size _ _ w (hU i hi) (hc.below hb) (hid rfl)
   simp only [List.getElem?_eq_getElem hi]
   exact this)
  (hid (by rw [e.out]; exact (anyN_list fun i h => by simp only [List.getElem?_eq_getElem h]).symm))
 clear e hr hU hc h02 h0
 go_wp2_with fail
 (refine hcon.mono ?_; rintro e w1 ⟨rfl, hb⟩)
 go_wp2_with fail
 go_ret
 exact ⟨rfl, hL.trans (hb.mono hL.size)⟩
theorem eg_badW : ∀ args w, (callFunc 170 args).run Tryz.prog w = .ok (.enter 170 args) w := enters_of Tryz.func170 (by kernel_rfl) rfl
set_option maxHeartbeats 2000000 in
set_option maxRecDepth 100000 in
theorem lbadW1_b (vs : List Value) (u : W9) (c : Nat) (b : Bool) (tf : TypeId) (W : World) (hU : WL vs u) (hc : Blk W c [.func (.func 124) #[] #[]] tf) (e : Hid (b = nameB u.nm.data.toList)) :
 Calls Tryz.prog 170 #[.agg vs.toArray, .pointer (some ⟨c, 0, none⟩)] W fun e w' => e = .returned (.bool (!b)) ∧ Below W.heap.size W w' := by
 have hB := Blk.new W vs 51
 have hc1 := hc.alloc (.cells vs.toArray 51)
 have hL := (Below.refl W.heap.size W).alloc (Nat.le_refl _) (.cells vs.toArray 51)
 have kl := hid (hB.loads (P := Tryz.prog) hU.len)
 have hcon := hid (fun w => lweaponName_b vs u w hU)
 have hcon2 := hid (fun w => lname_b u.nm b w e)
 have k0 := hc1.cell 0
 simp only [List.getElem?_cons_zero] at k0
 clear hU hc hc1 hB
 go_enter Tryz.func170, Tryz.ntmps170
 go_upto_region 1 with fail
 generalize W.alloc (.cells vs.toArray 51) = X at *
 go_wp2_with (with_reducible refine wpList_load_agg rfl 51 _ rfl ⟨W.heap.size, 0, none⟩ (by with_unfolding_all rfl) Tryz.isAgg51 Tryz.sizeOf51 vs kl.out ?_)
 ((with_reducible refine (hcon.out _).mono ?_); rintro e w1 ⟨rfl, hb⟩)
 go_wp2_with fail
 ((with_reducible refine (hcon2.out _).mono ?_); rintro e w2 ⟨rfl, rfl⟩)
 go_wp2_with fail
 go_ret
 exact ⟨rfl, hL.trans (hb.mono hL.size)⟩
set_option maxHeartbeats 2000000 in
set_option maxRecDepth 100000 in
theorem lbadW_b (v : Value) (l : List W9) (b : Bool) (V0 W : World) (hl : SlAt WAt 6 V0 v l) (h0 : Below V0.heap.size V0 W) (e : Hid (b = l.any fun x => !nameB x.nm.data.toList)) :
 Calls Tryz.prog 123 #[v, .func (.func 124) #[] #[]] W fun e w' => e = .returned (.bool b) ∧ Below W.heap.size W w' := by
 obtain ⟨cs, hr, hU⟩ := hl.rowW
 obtain ⟨q, c, rfl, -⟩ := id hr
 have hc := Blk.new W [.func (.func 124) #[] #[]] 158
 have hL := (Below.refl W.heap.size W).alloc (Nat.le_refl _) (.cells [.func (.func 124) #[] #[]].toArray 158)
 have h02 := h0.trans (hL.mono h0.size)
 clear hl
 go_enter Tryz.func123, Tryz.ntmps123
 go_upto_region 1 with fail
 generalize W.alloc (.cells [.func (.func 124) #[] #[]].toArray 158) = X at *
 have hcon := lanyW_b _ l.length cs 170 #[.pointer (some ⟨W.heap.size, 0, none⟩)] (fun i => match l[i]? with | some x => !nameB x.nm.data.toList | none => false) b V0 X hr h02 eg_badW
  (fun i hi w hb => by
   have := lbadW1_b (cs i) (l[i]'hi) W.heap.size _ _ w (hU i hi) (hc.below hb) (hid rfl)
   simp only [List.getElem?_eq_getElem hi]
   exact this)
  (hid (by rw [e.out]; exact (anyN_list fun i h => by simp only [List.getElem?_eq_getElem h]).symm))
 clear e hr hU hc h02 h0
 go_wp2_with fail
 (refine hcon.mono ?_; rintro e w1 ⟨rfl, hb⟩)
 go_wp2_with fail
 go_ret
 exact ⟨rfl, hL.trans (hb.mono hL.size)⟩
theorem eg_badT : ∀ args w, (callFunc 171 args).run Tryz.prog w = .ok (.enter 171 args) w := enters_of Tryz.func171 (by kernel_rfl) rfl
set_option maxHeartbeats 2000000 in
set_option maxRecDepth 100000 in
theorem lbadT1_b (V0 : World) (vs : List Value) (u : T9) (c : Nat) (b : Bool) (tf : TypeId) (W : World) (hU : TL V0 vs u) (hc : Blk W c [.func (.func 126) #[] #[]] tf) (e : Hid (b = nameB u.nm.data.toList)) :
 Calls Tryz.prog 171 #[.agg vs.toArray, .pointer (some ⟨c, 0, none⟩)] W fun e w' => e = .returned (.bool (!b)) ∧ Below W.heap.size W w' := by
 have hB := Blk.new W vs 56
 have hc1 := hc.alloc (.cells vs.toArray 56)
 have hL := (Below.refl W.heap.size W).alloc (Nat.le_refl _) (.cells vs.toArray 56)
 have kl := hid (hB.loads (P := Tryz.prog) hU.len)
 have hcon := hid (fun w => ltechName_b V0 vs u w hU)
 have hcon2 := hid (fun w => lname_b u.nm b w e)
 have k0 := hc1.cell 0
 simp only [List.getElem?_cons_zero] at k0
 clear hU hc hc1 hB
 go_enter Tryz.func171, Tryz.ntmps171
 go_upto_region 1 with fail
 generalize W.alloc (.cells vs.toArray 56) = X at *
 go_wp2_with (with_reducible refine wpList_load_agg rfl 56 _ rfl ⟨W.heap.size, 0, none⟩ (by with_unfolding_all rfl) Tryz.isAgg56 Tryz.sizeOf56 vs kl.out ?_)
 ((with_reducible refine (hcon.out _).mono ?_); rintro e w1 ⟨rfl, hb⟩)
 go_wp2_with fail
 ((with_reducible refine (hcon2.out _).mono ?_); rintro e w2 ⟨rfl, rfl⟩)
 go_wp2_with fail
 go_ret
 exact ⟨rfl, hL.trans (hb.mono hL.size)⟩
set_option maxHeartbeats 2000000 in
set_option maxRecDepth 100000 in
theorem lbadT_b (v : Value) (l : List T9) (b : Bool) (V0 W : World) (hl : SlAt TAt 8 V0 v l) (h0 : Below V0.heap.size V0 W) (e : Hid (b = l.any fun x => !nameB x.nm.data.toList)) :
 Calls Tryz.prog 125 #[v, .func (.func 126) #[] #[]] W fun e w' => e = .returned (.bool b) ∧ Below W.heap.size W w' := by
 obtain ⟨cs, hr, hU⟩ := hl.rowT
 obtain ⟨q, c, rfl, -⟩ := id hr
 have hc := Blk.new W [.func (.func 126) #[] #[]] 160
 have hL := (Below.refl W.heap.size W).alloc (Nat.le_refl _) (.cells [.func (.func 126) #[] #[]].toArray 160)
 have h02 := h0.trans (hL.mono h0.size)
 clear hl
 go_enter Tryz.func125, Tryz.ntmps125
 go_upto_region 1 with fail
 generalize W.alloc (.cells [.func (.func 126) #[] #[]].toArray 160) = X at *
 have hcon := lanyT_b _ l.length cs 171 #[.pointer (some ⟨W.heap.size, 0, none⟩)] (fun i => match l[i]? with | some x => !nameB x.nm.data.toList | none => false) b V0 X hr h02 eg_badT
  (fun i hi w hb => by
   have := lbadT1_b V0 (cs i) (l[i]'hi) W.heap.size _ _ w (hU i hi) (hc.below hb) (hid rfl)
   simp only [List.getElem?_eq_getElem hi]
   exact this)
  (hid (by rw [e.out]; exact (anyN_list fun i h => by simp only [List.getElem?_eq_getElem h]).symm))
 clear e hr hU hc h02 h0
 go_wp2_with fail
 (refine hcon.mono ?_; rintro e w1 ⟨rfl, hb⟩)
 go_wp2_with fail
 go_ret
 exact ⟨rfl, hL.trans (hb.mono hL.size)⟩
set_option maxHeartbeats 4000000 in
set_option maxRecDepth 100000 in
theorem lascU_b (v : Value) (l : List U9) (b : Bool) (V0 W : World) (hl : SlAt UAt 19 V0 v l) (h0 : Below V0.heap.size V0 W) (e : Hid (b = ascv (l.map U9.nm))) :
 Calls Tryz.prog 127 #[v, .func (.func 122) #[] #[]] W fun e w' => e = .returned (.bool b) ∧ Below W.heap.size W w' := by
 obtain ⟨cs, hr, hU⟩ := hl.rowU
 obtain ⟨q, c, rfl, hm, hat⟩ := hr
 unfold maxLen at hm
 clear hl
 go_enter Tryz.func127, Tryz.ntmps127
 go_wp2_with fail
 go_loopw [5] (fun vi wr => ∃ i : Nat, vi = .int .i64 (i + 1) ∧ i ≤ l.length ∧ Below W.heap.size W wr ∧ Hid (∀ j, j < i → (h : j + 1 < l.length) → ltS (l[j]'(Nat.lt_of_succ_lt h)).nm (l[j + 1]'h).nm = true)) (fun vi _ => l.length + 1 - (RowKit.intOf vi).toNat)
 case atStart => exact ⟨0, rfl, by omega, Below.refl _ _, hid (fun j h => by omega)⟩
 case round =>
  obtain ⟨i, rfl, hi, hL, hA⟩ := hrel
  by_cases hlt : i + 1 < l.length
  · have d1 : (i : Int) + 1 < l.length := by omega
    have d0 : (0 : Int) ≤ i := by omega
    have d2 : (i : Int) < l.length := by omega
    have d3 : (0 : Int) ≤ (i : Int) + 1 := by omega
    have ei : (i : Int) + 1 - 1 = i := by omega
    have wi : IntKind.i64.wrap (i : Int) = i := IntWalk.i64_in _ (by omega)
    obtain ⟨g, o, rfl, hg, hc⟩ := hat (by omega)
    have hV := h0.trans (hL.mono h0.size)
    obtain ⟨hc1, hl1⟩ := hc i (by omega)
    obtain ⟨hc2, hl2⟩ := hc (i + 1) hlt
    replace hc1 := hc1.below' hg hV
    replace hc2 := hc2.below' hg hV
    have hgw := Nat.lt_of_lt_of_le hg hV.size
    have hlm : i + 1 < (l.map U9.nm).length := by simpa using hlt
    have hU1 := hU i (by omega)
    have hU2 := hU (i + 1) hlt
    have HN := fun q => hid (asc_no (l := l.map U9.nm) hlm q)
    have HY := fun (q : ltS (l[i]'(Nat.lt_of_succ_lt hlt)).nm (l[i + 1]'hlt).nm = true) => hid (show ∀ j, j < i + 1 → (h : j + 1 < l.length) → ltS (l[j]'(Nat.lt_of_succ_lt h)).nm (l[j + 1]'h).nm = true from fun j hj h => by
     rcases Nat.lt_or_ge j i with h2 | h2
     · exact hA.out j h2 h
     · obtain rfl : j = i := by omega
       exact q)
    simp only [List.getElem_map] at HN
    obtain ⟨x, hx⟩ : ∃ x, l[i]'(Nat.lt_of_succ_lt hlt) = x := ⟨_, rfl⟩
    obtain ⟨y, hy⟩ : ∃ x, l[i + 1]'hlt = x := ⟨_, rfl⟩
    rw [hx] at HN HY hU1
    rw [hy] at HN HY hU2
    have hu1 := hid (fun w => lunitName_b V0 (cs i) x w hU1)
    have hu2 := hid (fun w => lunitName_b V0 (cs (i + 1)) y w hU2)
    clear hx hy hat hA hc hU hU1 hU2
    obtain ⟨q, hq⟩ : ∃ q, Hid (q = ltS x.nm y.nm) := ⟨_, hid rfl⟩
    go_upto_region 4 with fail
    go_cut [25] from 6 to 25 (fun s25 wx => s25 = .bool (!q) ∧ Below wr.heap.size wr wx)
    case first =>
     have hmx : Tryz.prog.follows .mixedOrders = true := by kernel_rfl
     refine wp_region_held (S := fun w' => Below wr.heap.size wr w') hmx ?_
     show wpAnyH _ _ _ _ _ _ _ _ wr.drew
     have hS0 := (Below.refl wr.heap.size wr).drew
     have z : Op.bytesLess x.nm.toList y.nm.toList = q := hq.out.symm
     refine reg_tk (i := 0) (v := .func (.func 122) #[] #[]) (some 12) rfl (fun w' hS => by skip; go_simp) hS0 ?_
     simp only [Act.put, List.setIfInBounds_toArray, List.set_cons_zero, List.set_cons_succ]
     refine reg_tk (i := 1) (v := .slice (some ⟨g, o, none⟩) l.length c) (some 13) rfl (fun w' hS => by skip; go_simp) hS0 ?_
     simp only [Act.put, List.setIfInBounds_toArray, List.set_cons_zero, List.set_cons_succ]
     refine reg_tk (i := 2) (v := .int .i64 (i + 1)) (some 14) rfl (fun w' hS => by skip; go_simp) hS0 ?_
     simp only [Act.put, List.setIfInBounds_toArray, List.set_cons_zero, List.set_cons_succ]
     refine reg_tk (i := 3) (v := .int .i64 i) (some 15) rfl (fun w' hS => by skip; go_simp) hS0 ?_
     simp only [Act.put, List.setIfInBounds_toArray, List.set_cons_zero, List.set_cons_succ]
     refine reg_tk (i := 4) (v := .pointer (some ⟨g, o + i * 19, none⟩)) (some 16) rfl (fun w' hS => by skip; go_simp) hS0 ?_
     simp only [Act.put, List.setIfInBounds_toArray, List.set_cons_zero, List.set_cons_succ]
     refine reg_tk (i := 5) (v := .agg (cs i).toArray) (some 17) rfl (fun w' hS => exec_load_agg 53 _ rfl ⟨g, o + i * 19, none⟩ (by with_unfolding_all rfl) Tryz.isAgg53 Tryz.sizeOf53 (cs i) ((hc1.below' hgw hS).loads hl1)) hS0 ?_
     simp only [Act.put, List.setIfInBounds_toArray, List.set_cons_zero, List.set_cons_succ]
     refine reg_tk (i := 7) (v := .func (.func 122) #[] #[]) (some 19) rfl (fun w' hS => by skip; go_simp) hS0 ?_
     simp only [Act.put, List.setIfInBounds_toArray, List.set_cons_zero, List.set_cons_succ]
     refine reg_tk (i := 8) (v := .slice (some ⟨g, o, none⟩) l.length c) (some 20) rfl (fun w' hS => by skip; go_simp) hS0 ?_
     simp only [Act.put, List.setIfInBounds_toArray, List.set_cons_zero, List.set_cons_succ]
     refine reg_tk (i := 9) (v := .int .i64 (i + 1)) (some 21) rfl (fun w' hS => by skip; go_simp) hS0 ?_
     simp only [Act.put, List.setIfInBounds_toArray, List.set_cons_zero, List.set_cons_succ]
     refine reg_tk (i := 10) (v := .pointer (some ⟨g, o + (i + 1) * 19, none⟩)) (some 22) rfl (fun w' hS => by skip; go_simp) hS0 ?_
     simp only [Act.put, List.setIfInBounds_toArray, List.set_cons_zero, List.set_cons_succ]
     refine reg_tk (i := 11) (v := .agg (cs (i + 1)).toArray) (some 23) rfl (fun w' hS => exec_load_agg 53 _ rfl ⟨g, o + (i + 1) * 19, none⟩ (by with_unfolding_all rfl) Tryz.isAgg53 Tryz.sizeOf53 (cs (i + 1)) ((hc2.below' hgw hS).loads hl2)) hS0 ?_
     simp only [Act.put, List.setIfInBounds_toArray, List.set_cons_zero, List.set_cons_succ]
     refine held_one (i := 6) (by kernel_rfl) rfl (fun K hQ => ?_)
     go_simp
     (with_reducible refine (hu1.out _).mono ?_)
     rintro e w1 ⟨rfl, hb⟩
     have hS1 := below_call hS0 hb
     refine hQ.out _ _ hS1 ?_
     clear hQ
     try simp only [Act.put, List.setIfInBounds_toArray, List.set_cons_zero, List.set_cons_succ]
     refine held_one (i := 12) (by kernel_rfl) rfl (fun K hQ => ?_)
     go_simp
     (with_reducible refine (hu2.out _).mono ?_)
     rintro e w2 ⟨rfl, hb2⟩
     have hS2 := below_call hS1 hb2
     refine hQ.out _ _ hS2 ?_
     clear hQ
     try simp only [Act.put, List.setIfInBounds_toArray, List.set_cons_zero, List.set_cons_succ]
     refine reg_tk (i := 13) (v := .bool (!q)) (some 25) rfl (fun w' hS => by skip; go_simp) hS2 ?_
     simp only [Act.put, List.setIfInBounds_toArray, List.set_cons_zero, List.set_cons_succ]
     refine wpAnyH_done (by kernel_rfl) ?_ _
     show Exit.then _ _ Exit.normal _ _
     go_wp2_with fail
     go_meet
     case rel => exact ⟨rfl, hS2⟩
    case rest =>
    obtain ⟨rfl, hX⟩ := hcut
    replace hL := below_call hL hX
    clear hX hV
    cases q with
    | true =>
     have HS := HY hq.out.symm
     clear HN HY hq
     go_wp2_with fail
     go_roundw
     case rel => exact ⟨i + 1, by go_num, by omega, hL, HS⟩
     case measure => simp [RowKit.intOf]; omega
    | false =>
     have hb := e.out.trans (HN hq.out.symm).out
     subst hb
     clear HN HY hq e
     go_wp2_with fail
     go_ret
     exact ⟨rfl, hL⟩
  · have ha : ascv (l.map U9.nm) = true := ascv_iff.2 fun j h => by rw [List.getElem_map, List.getElem_map]; exact hA.out j (by simp at h; omega) (by simpa using h)
    have hb := e.out.trans ha
    subst hb
    have d1 : ¬ (i : Int) + 1 < l.length := by omega
    clear hat ha hA e
    go_wp2_with fail
    go_ret
    exact ⟨rfl, hL⟩
set_option maxHeartbeats 4000000 in
set_option maxRecDepth 100000 in
theorem lascW_b (v : Value) (l : List W9) (b : Bool) (V0 W : World) (hl : SlAt WAt 6 V0 v l) (h0 : Below V0.heap.size V0 W) (e : Hid (b = ascv (l.map W9.nm))) :
 Calls Tryz.prog 128 #[v, .func (.func 124) #[] #[]] W fun e w' => e = .returned (.bool b) ∧ Below W.heap.size W w' := by
 obtain ⟨cs, hr, hU⟩ := hl.rowW
 obtain ⟨q, c, rfl, hm, hat⟩ := hr
 unfold maxLen at hm
 clear hl
 go_enter Tryz.func128, Tryz.ntmps128
 go_wp2_with fail
 go_loopw [5] (fun vi wr => ∃ i : Nat, vi = .int .i64 (i + 1) ∧ i ≤ l.length ∧ Below W.heap.size W wr ∧ Hid (∀ j, j < i → (h : j + 1 < l.length) → ltS (l[j]'(Nat.lt_of_succ_lt h)).nm (l[j + 1]'h).nm = true)) (fun vi _ => l.length + 1 - (RowKit.intOf vi).toNat)
 case atStart => exact ⟨0, rfl, by omega, Below.refl _ _, hid (fun j h => by omega)⟩
 case round =>
  obtain ⟨i, rfl, hi, hL, hA⟩ := hrel
  by_cases hlt : i + 1 < l.length
  · have d1 : (i : Int) + 1 < l.length := by omega
    have d0 : (0 : Int) ≤ i := by omega
    have d2 : (i : Int) < l.length := by omega
    have d3 : (0 : Int) ≤ (i : Int) + 1 := by omega
    have ei : (i : Int) + 1 - 1 = i := by omega
    have wi : IntKind.i64.wrap (i : Int) = i := IntWalk.i64_in _ (by omega)
    obtain ⟨g, o, rfl, hg, hc⟩ := hat (by omega)
    have hV := h0.trans (hL.mono h0.size)
    obtain ⟨hc1, hl1⟩ := hc i (by omega)
    obtain ⟨hc2, hl2⟩ := hc (i + 1) hlt
    replace hc1 := hc1.below' hg hV
    replace hc2 := hc2.below' hg hV
    have hgw := Nat.lt_of_lt_of_le hg hV.size
    have hlm : i + 1 < (l.map W9.nm).length := by simpa using hlt
    have hU1 := hU i (by omega)
    have hU2 := hU (i + 1) hlt
    have HN := fun q => hid (asc_no (l := l.map W9.nm) hlm q)
    have HY := fun (q : ltS (l[i]'(Nat.lt_of_succ_lt hlt)).nm (l[i + 1]'hlt).nm = true) => hid (show ∀ j, j < i + 1 → (h : j + 1 < l.length) → ltS (l[j]'(Nat.lt_of_succ_lt h)).nm (l[j + 1]'h).nm = true from fun j hj h => by
     rcases Nat.lt_or_ge j i with h2 | h2
     · exact hA.out j h2 h
     · obtain rfl : j = i := by omega
       exact q)
    simp only [List.getElem_map] at HN
    obtain ⟨x, hx⟩ : ∃ x, l[i]'(Nat.lt_of_succ_lt hlt) = x := ⟨_, rfl⟩
    obtain ⟨y, hy⟩ : ∃ x, l[i + 1]'hlt = x := ⟨_, rfl⟩
    rw [hx] at HN HY hU1
    rw [hy] at HN HY hU2
    have hu1 := hid (fun w => lweaponName_b (cs i) x w hU1)
    have hu2 := hid (fun w => lweaponName_b (cs (i + 1)) y w hU2)
    clear hx hy hat hA hc hU hU1 hU2
    obtain ⟨q, hq⟩ : ∃ q, Hid (q = ltS x.nm y.nm) := ⟨_, hid rfl⟩
    go_upto_region 4 with fail
    go_cut [25] from 6 to 25 (fun s25 wx => s25 = .bool (!q) ∧ Below wr.heap.size wr wx)
    case first =>
     have hmx : Tryz.prog.follows .mixedOrders = true := by kernel_rfl
     refine wp_region_held (S := fun w' => Below wr.heap.size wr w') hmx ?_
     show wpAnyH _ _ _ _ _ _ _ _ wr.drew
     have hS0 := (Below.refl wr.heap.size wr).drew
     have z : Op.bytesLess x.nm.toList y.nm.toList = q := hq.out.symm
     refine reg_tk (i := 0) (v := .func (.func 124) #[] #[]) (some 12) rfl (fun w' hS => by skip; go_simp) hS0 ?_
     simp only [Act.put, List.setIfInBounds_toArray, List.set_cons_zero, List.set_cons_succ]
     refine reg_tk (i := 1) (v := .slice (some ⟨g, o, none⟩) l.length c) (some 13) rfl (fun w' hS => by skip; go_simp) hS0 ?_
     simp only [Act.put, List.setIfInBounds_toArray, List.set_cons_zero, List.set_cons_succ]
     refine reg_tk (i := 2) (v := .int .i64 (i + 1)) (some 14) rfl (fun w' hS => by skip; go_simp) hS0 ?_
     simp only [Act.put, List.setIfInBounds_toArray, List.set_cons_zero, List.set_cons_succ]
     refine reg_tk (i := 3) (v := .int .i64 i) (some 15) rfl (fun w' hS => by skip; go_simp) hS0 ?_
     simp only [Act.put, List.setIfInBounds_toArray, List.set_cons_zero, List.set_cons_succ]
     refine reg_tk (i := 4) (v := .pointer (some ⟨g, o + i * 6, none⟩)) (some 16) rfl (fun w' hS => by skip; go_simp) hS0 ?_
     simp only [Act.put, List.setIfInBounds_toArray, List.set_cons_zero, List.set_cons_succ]
     refine reg_tk (i := 5) (v := .agg (cs i).toArray) (some 17) rfl (fun w' hS => exec_load_agg 51 _ rfl ⟨g, o + i * 6, none⟩ (by with_unfolding_all rfl) Tryz.isAgg51 Tryz.sizeOf51 (cs i) ((hc1.below' hgw hS).loads hl1)) hS0 ?_
     simp only [Act.put, List.setIfInBounds_toArray, List.set_cons_zero, List.set_cons_succ]
     refine reg_tk (i := 7) (v := .func (.func 124) #[] #[]) (some 19) rfl (fun w' hS => by skip; go_simp) hS0 ?_
     simp only [Act.put, List.setIfInBounds_toArray, List.set_cons_zero, List.set_cons_succ]
     refine reg_tk (i := 8) (v := .slice (some ⟨g, o, none⟩) l.length c) (some 20) rfl (fun w' hS => by skip; go_simp) hS0 ?_
     simp only [Act.put, List.setIfInBounds_toArray, List.set_cons_zero, List.set_cons_succ]
     refine reg_tk (i := 9) (v := .int .i64 (i + 1)) (some 21) rfl (fun w' hS => by skip; go_simp) hS0 ?_
     simp only [Act.put, List.setIfInBounds_toArray, List.set_cons_zero, List.set_cons_succ]
     refine reg_tk (i := 10) (v := .pointer (some ⟨g, o + (i + 1) * 6, none⟩)) (some 22) rfl (fun w' hS => by skip; go_simp) hS0 ?_
     simp only [Act.put, List.setIfInBounds_toArray, List.set_cons_zero, List.set_cons_succ]
     refine reg_tk (i := 11) (v := .agg (cs (i + 1)).toArray) (some 23) rfl (fun w' hS => exec_load_agg 51 _ rfl ⟨g, o + (i + 1) * 6, none⟩ (by with_unfolding_all rfl) Tryz.isAgg51 Tryz.sizeOf51 (cs (i + 1)) ((hc2.below' hgw hS).loads hl2)) hS0 ?_
     simp only [Act.put, List.setIfInBounds_toArray, List.set_cons_zero, List.set_cons_succ]
     refine held_one (i := 6) (by kernel_rfl) rfl (fun K hQ => ?_)
     go_simp
     (with_reducible refine (hu1.out _).mono ?_)
     rintro e w1 ⟨rfl, hb⟩
     have hS1 := below_call hS0 hb
     refine hQ.out _ _ hS1 ?_
     clear hQ
     try simp only [Act.put, List.setIfInBounds_toArray, List.set_cons_zero, List.set_cons_succ]
     refine held_one (i := 12) (by kernel_rfl) rfl (fun K hQ => ?_)
     go_simp
     (with_reducible refine (hu2.out _).mono ?_)
     rintro e w2 ⟨rfl, hb2⟩
     have hS2 := below_call hS1 hb2
     refine hQ.out _ _ hS2 ?_
     clear hQ
     try simp only [Act.put, List.setIfInBounds_toArray, List.set_cons_zero, List.set_cons_succ]
     refine reg_tk (i := 13) (v := .bool (!q)) (some 25) rfl (fun w' hS => by skip; go_simp) hS2 ?_
     simp only [Act.put, List.setIfInBounds_toArray, List.set_cons_zero, List.set_cons_succ]
     refine wpAnyH_done (by kernel_rfl) ?_ _
     show Exit.then _ _ Exit.normal _ _
     go_wp2_with fail
     go_meet
     case rel => exact ⟨rfl, hS2⟩
    case rest =>
    obtain ⟨rfl, hX⟩ := hcut
    replace hL := below_call hL hX
    clear hX hV
    cases q with
    | true =>
     have HS := HY hq.out.symm
     clear HN HY hq
     go_wp2_with fail
     go_roundw
     case rel => exact ⟨i + 1, by go_num, by omega, hL, HS⟩
     case measure => simp [RowKit.intOf]; omega
    | false =>
     have hb := e.out.trans (HN hq.out.symm).out
     subst hb
     clear HN HY hq e
     go_wp2_with fail
     go_ret
     exact ⟨rfl, hL⟩
  · have ha : ascv (l.map W9.nm) = true := ascv_iff.2 fun j h => by rw [List.getElem_map, List.getElem_map]; exact hA.out j (by simp at h; omega) (by simpa using h)
    have hb := e.out.trans ha
    subst hb
    have d1 : ¬ (i : Int) + 1 < l.length := by omega
    clear hat ha hA e
    go_wp2_with fail
    go_ret
    exact ⟨rfl, hL⟩
set_option maxHeartbeats 4000000 in
set_option maxRecDepth 100000 in
theorem lascT_b (v : Value) (l : List T9) (b : Bool) (V0 W : World) (hl : SlAt TAt 8 V0 v l) (h0 : Below V0.heap.size V0 W) (e : Hid (b = ascv (l.map T9.nm))) :
 Calls Tryz.prog 129 #[v, .func (.func 126) #[] #[]] W fun e w' => e = .returned (.bool b) ∧ Below W.heap.size W w' := by
 obtain ⟨cs, hr, hU⟩ := hl.rowT
 obtain ⟨q, c, rfl, hm, hat⟩ := hr
 unfold maxLen at hm
 clear hl
 go_enter Tryz.func129, Tryz.ntmps129
 go_wp2_with fail
 go_loopw [5] (fun vi wr => ∃ i : Nat, vi = .int .i64 (i + 1) ∧ i ≤ l.length ∧ Below W.heap.size W wr ∧ Hid (∀ j, j < i → (h : j + 1 < l.length) → ltS (l[j]'(Nat.lt_of_succ_lt h)).nm (l[j + 1]'h).nm = true)) (fun vi _ => l.length + 1 - (RowKit.intOf vi).toNat)
 case atStart => exact ⟨0, rfl, by omega, Below.refl _ _, hid (fun j h => by omega)⟩
 case round =>
  obtain ⟨i, rfl, hi, hL, hA⟩ := hrel
  by_cases hlt : i + 1 < l.length
  · have d1 : (i : Int) + 1 < l.length := by omega
    have d0 : (0 : Int) ≤ i := by omega
    have d2 : (i : Int) < l.length := by omega
    have d3 : (0 : Int) ≤ (i : Int) + 1 := by omega
    have ei : (i : Int) + 1 - 1 = i := by omega
    have wi : IntKind.i64.wrap (i : Int) = i := IntWalk.i64_in _ (by omega)
    obtain ⟨g, o, rfl, hg, hc⟩ := hat (by omega)
    have hV := h0.trans (hL.mono h0.size)
    obtain ⟨hc1, hl1⟩ := hc i (by omega)
    obtain ⟨hc2, hl2⟩ := hc (i + 1) hlt
    replace hc1 := hc1.below' hg hV
    replace hc2 := hc2.below' hg hV
    have hgw := Nat.lt_of_lt_of_le hg hV.size
    have hlm : i + 1 < (l.map T9.nm).length := by simpa using hlt
    have hU1 := hU i (by omega)
    have hU2 := hU (i + 1) hlt
    have HN := fun q => hid (asc_no (l := l.map T9.nm) hlm q)
    have HY := fun (q : ltS (l[i]'(Nat.lt_of_succ_lt hlt)).nm (l[i + 1]'hlt).nm = true) => hid (show ∀ j, j < i + 1 → (h : j + 1 < l.length) → ltS (l[j]'(Nat.lt_of_succ_lt h)).nm (l[j + 1]'h).nm = true from fun j hj h => by
     rcases Nat.lt_or_ge j i with h2 | h2
     · exact hA.out j h2 h
     · obtain rfl : j = i := by omega
       exact q)
    simp only [List.getElem_map] at HN
    obtain ⟨x, hx⟩ : ∃ x, l[i]'(Nat.lt_of_succ_lt hlt) = x := ⟨_, rfl⟩
    obtain ⟨y, hy⟩ : ∃ x, l[i + 1]'hlt = x := ⟨_, rfl⟩
    rw [hx] at HN HY hU1
    rw [hy] at HN HY hU2
    have hu1 := hid (fun w => ltechName_b V0 (cs i) x w hU1)
    have hu2 := hid (fun w => ltechName_b V0 (cs (i + 1)) y w hU2)
    clear hx hy hat hA hc hU hU1 hU2
    obtain ⟨q, hq⟩ : ∃ q, Hid (q = ltS x.nm y.nm) := ⟨_, hid rfl⟩
    go_upto_region 4 with fail
    go_cut [25] from 6 to 25 (fun s25 wx => s25 = .bool (!q) ∧ Below wr.heap.size wr wx)
    case first =>
     have hmx : Tryz.prog.follows .mixedOrders = true := by kernel_rfl
     refine wp_region_held (S := fun w' => Below wr.heap.size wr w') hmx ?_
     show wpAnyH _ _ _ _ _ _ _ _ wr.drew
     have hS0 := (Below.refl wr.heap.size wr).drew
     have z : Op.bytesLess x.nm.toList y.nm.toList = q := hq.out.symm
     refine reg_tk (i := 0) (v := .func (.func 126) #[] #[]) (some 12) rfl (fun w' hS => by skip; go_simp) hS0 ?_
     simp only [Act.put, List.setIfInBounds_toArray, List.set_cons_zero, List.set_cons_succ]
     refine reg_tk (i := 1) (v := .slice (some ⟨g, o, none⟩) l.length c) (some 13) rfl (fun w' hS => by skip; go_simp) hS0 ?_
     simp only [Act.put, List.setIfInBounds_toArray, List.set_cons_zero, List.set_cons_succ]
     refine reg_tk (i := 2) (v := .int .i64 (i + 1)) (some 14) rfl (fun w' hS => by skip; go_simp) hS0 ?_
     simp only [Act.put, List.setIfInBounds_toArray, List.set_cons_zero, List.set_cons_succ]
     refine reg_tk (i := 3) (v := .int .i64 i) (some 15) rfl (fun w' hS => by skip; go_simp) hS0 ?_
     simp only [Act.put, List.setIfInBounds_toArray, List.set_cons_zero, List.set_cons_succ]
     refine reg_tk (i := 4) (v := .pointer (some ⟨g, o + i * 8, none⟩)) (some 16) rfl (fun w' hS => by skip; go_simp) hS0 ?_
     simp only [Act.put, List.setIfInBounds_toArray, List.set_cons_zero, List.set_cons_succ]
     refine reg_tk (i := 5) (v := .agg (cs i).toArray) (some 17) rfl (fun w' hS => exec_load_agg 56 _ rfl ⟨g, o + i * 8, none⟩ (by with_unfolding_all rfl) Tryz.isAgg56 Tryz.sizeOf56 (cs i) ((hc1.below' hgw hS).loads hl1)) hS0 ?_
     simp only [Act.put, List.setIfInBounds_toArray, List.set_cons_zero, List.set_cons_succ]
     refine reg_tk (i := 7) (v := .func (.func 126) #[] #[]) (some 19) rfl (fun w' hS => by skip; go_simp) hS0 ?_
     simp only [Act.put, List.setIfInBounds_toArray, List.set_cons_zero, List.set_cons_succ]
     refine reg_tk (i := 8) (v := .slice (some ⟨g, o, none⟩) l.length c) (some 20) rfl (fun w' hS => by skip; go_simp) hS0 ?_
     simp only [Act.put, List.setIfInBounds_toArray, List.set_cons_zero, List.set_cons_succ]
     refine reg_tk (i := 9) (v := .int .i64 (i + 1)) (some 21) rfl (fun w' hS => by skip; go_simp) hS0 ?_
     simp only [Act.put, List.setIfInBounds_toArray, List.set_cons_zero, List.set_cons_succ]
     refine reg_tk (i := 10) (v := .pointer (some ⟨g, o + (i + 1) * 8, none⟩)) (some 22) rfl (fun w' hS => by skip; go_simp) hS0 ?_
     simp only [Act.put, List.setIfInBounds_toArray, List.set_cons_zero, List.set_cons_succ]
     refine reg_tk (i := 11) (v := .agg (cs (i + 1)).toArray) (some 23) rfl (fun w' hS => exec_load_agg 56 _ rfl ⟨g, o + (i + 1) * 8, none⟩ (by with_unfolding_all rfl) Tryz.isAgg56 Tryz.sizeOf56 (cs (i + 1)) ((hc2.below' hgw hS).loads hl2)) hS0 ?_
     simp only [Act.put, List.setIfInBounds_toArray, List.set_cons_zero, List.set_cons_succ]
     refine held_one (i := 6) (by kernel_rfl) rfl (fun K hQ => ?_)
     go_simp
     (with_reducible refine (hu1.out _).mono ?_)
     rintro e w1 ⟨rfl, hb⟩
     have hS1 := below_call hS0 hb
     refine hQ.out _ _ hS1 ?_
     clear hQ
     try simp only [Act.put, List.setIfInBounds_toArray, List.set_cons_zero, List.set_cons_succ]
     refine held_one (i := 12) (by kernel_rfl) rfl (fun K hQ => ?_)
     go_simp
     (with_reducible refine (hu2.out _).mono ?_)
     rintro e w2 ⟨rfl, hb2⟩
     have hS2 := below_call hS1 hb2
     refine hQ.out _ _ hS2 ?_
     clear hQ
     try simp only [Act.put, List.setIfInBounds_toArray, List.set_cons_zero, List.set_cons_succ]
     refine reg_tk (i := 13) (v := .bool (!q)) (some 25) rfl (fun w' hS => by skip; go_simp) hS2 ?_
     simp only [Act.put, List.setIfInBounds_toArray, List.set_cons_zero, List.set_cons_succ]
     refine wpAnyH_done (by kernel_rfl) ?_ _
     show Exit.then _ _ Exit.normal _ _
     go_wp2_with fail
     go_meet
     case rel => exact ⟨rfl, hS2⟩
    case rest =>
    obtain ⟨rfl, hX⟩ := hcut
    replace hL := below_call hL hX
    clear hX hV
    cases q with
    | true =>
     have HS := HY hq.out.symm
     clear HN HY hq
     go_wp2_with fail
     go_roundw
     case rel => exact ⟨i + 1, by go_num, by omega, hL, HS⟩
     case measure => simp [RowKit.intOf]; omega
    | false =>
     have hb := e.out.trans (HN hq.out.symm).out
     subst hb
     clear HN HY hq e
     go_wp2_with fail
     go_ret
     exact ⟨rfl, hL⟩
  · have ha : ascv (l.map T9.nm) = true := ascv_iff.2 fun j h => by rw [List.getElem_map, List.getElem_map]; exact hA.out j (by simp at h; omega) (by simpa using h)
    have hb := e.out.trans ha
    subst hb
    have d1 : ¬ (i : Int) + 1 < l.length := by omega
    clear hat ha hA e
    go_wp2_with fail
    go_ret
    exact ⟨rfl, hL⟩
theorem litself_b (s : ByteArray) (W : World) : Calls Tryz.prog 130 #[.string s] W fun e w' => e = .returned (.string s) ∧ Below W.heap.size W w' := by
 go_enter Tryz.func130, Tryz.ntmps130
 go_wp2_with fail
 go_ret
 exact ⟨rfl, Below.refl _ _⟩
set_option maxHeartbeats 4000000 in
set_option maxRecDepth 100000 in
theorem lascS_b (v : Value) (l : List ByteArray) (b : Bool) (V0 W : World) (hl : StrSl V0 v l) (h0 : Below V0.heap.size V0 W) (e : Hid (b = ascv l)) :
 Calls Tryz.prog 132 #[v, .func (.func 130) #[] #[]] W fun e w' => e = .returned (.bool b) ∧ Below W.heap.size W w' := by
 have hr := hl.row
 obtain ⟨q, c, rfl, hm, hat⟩ := hr
 unfold maxLen at hm
 clear hl
 go_enter Tryz.func132, Tryz.ntmps132
 go_wp2_with fail
 go_loopw [5] (fun vi wr => ∃ i : Nat, vi = .int .i64 (i + 1) ∧ i ≤ l.length ∧ Below W.heap.size W wr ∧ Hid (∀ j, j < i → (h : j + 1 < l.length) → ltS (l[j]'(Nat.lt_of_succ_lt h)) (l[j + 1]'h) = true)) (fun vi _ => l.length + 1 - (RowKit.intOf vi).toNat)
 case atStart => exact ⟨0, rfl, by omega, Below.refl _ _, hid (fun j h => by omega)⟩
 case round =>
  obtain ⟨i, rfl, hi, hL, hA⟩ := hrel
  by_cases hlt : i + 1 < l.length
  · have d1 : (i : Int) + 1 < l.length := by omega
    have d0 : (0 : Int) ≤ i := by omega
    have d2 : (i : Int) < l.length := by omega
    have d3 : (0 : Int) ≤ (i : Int) + 1 := by omega
    have ei : (i : Int) + 1 - 1 = i := by omega
    have wi : IntKind.i64.wrap (i : Int) = i := IntWalk.i64_in _ (by omega)
    obtain ⟨g, o, rfl, hg, hc⟩ := hat (by omega)
    have hV := h0.trans (hL.mono h0.size)
    obtain ⟨hc1, hl1⟩ := hc i (by omega)
    obtain ⟨hc2, hl2⟩ := hc (i + 1) hlt
    replace hc1 := hc1.below' hg hV
    replace hc2 := hc2.below' hg hV
    have hgw := Nat.lt_of_lt_of_le hg hV.size
    have hle : l.length = l.length := rfl
    have k1 := hc1 0 (.string (l[i]'(Nat.lt_of_succ_lt hlt))) (by simp [List.getD, Nat.lt_of_succ_lt hlt])
    have k2 := hc2 0 (.string (l[i + 1]'hlt)) (by simp [List.getD, hlt])
    rw [Nat.add_zero, Nat.mul_one] at k1 k2
    have HN := fun q => hid (asc_no (l := l) hlt q)
    have HY := fun (q : ltS (l[i]'(Nat.lt_of_succ_lt hlt)) (l[i + 1]'hlt) = true) => hid (show ∀ j, j < i + 1 → (h : j + 1 < l.length) → ltS (l[j]'(Nat.lt_of_succ_lt h)) (l[j + 1]'h) = true from fun j hj h => by
     rcases Nat.lt_or_ge j i with h2 | h2
     · exact hA.out j h2 h
     · obtain rfl : j = i := by omega
       exact q)
    obtain ⟨x, hx⟩ : ∃ x, l[i]'(Nat.lt_of_succ_lt hlt) = x := ⟨_, rfl⟩
    obtain ⟨y, hy⟩ : ∃ x, l[i + 1]'hlt = x := ⟨_, rfl⟩
    rw [hx] at k1 HN HY
    rw [hy] at k2 HN HY
    clear hx hy hat hA hc hc1 hc2
    obtain ⟨q, hq⟩ : ∃ q, Hid (q = ltS x y) := ⟨_, hid rfl⟩
    go_upto_region 4 with fail
    go_cut [25] from 6 to 25 (fun s25 wx => s25 = .bool (!q) ∧ Below wr.heap.size wr wx)
    case first =>
     have hmx : Tryz.prog.follows .mixedOrders = true := by kernel_rfl
     refine wp_region_held (S := fun w' => Below wr.heap.size wr w') hmx ?_
     show wpAnyH _ _ _ _ _ _ _ _ wr.drew
     have hS0 := (Below.refl wr.heap.size wr).drew
     have z : Op.bytesLess x.toList y.toList = q := hq.out.symm
     refine reg_tk (i := 0) (v := .func (.func 130) #[] #[]) (some 12) rfl (fun w' hS => by skip; go_simp) hS0 ?_
     simp only [Act.put, List.setIfInBounds_toArray, List.set_cons_zero, List.set_cons_succ]
     refine reg_tk (i := 1) (v := .slice (some ⟨g, o, none⟩) l.length c) (some 13) rfl (fun w' hS => by skip; go_simp) hS0 ?_
     simp only [Act.put, List.setIfInBounds_toArray, List.set_cons_zero, List.set_cons_succ]
     refine reg_tk (i := 2) (v := .int .i64 (i + 1)) (some 14) rfl (fun w' hS => by skip; go_simp) hS0 ?_
     simp only [Act.put, List.setIfInBounds_toArray, List.set_cons_zero, List.set_cons_succ]
     refine reg_tk (i := 3) (v := .int .i64 i) (some 15) rfl (fun w' hS => by skip; go_simp) hS0 ?_
     simp only [Act.put, List.setIfInBounds_toArray, List.set_cons_zero, List.set_cons_succ]
     refine reg_tk (i := 4) (v := .pointer (some ⟨g, o + i, none⟩)) (some 16) rfl (fun w' hS => by skip; go_simp) hS0 ?_
     simp only [Act.put, List.setIfInBounds_toArray, List.set_cons_zero, List.set_cons_succ]
     refine reg_tk (i := 5) (v := .string x) (some 17) rfl (fun w' hS => by (have := (hS.cell (p := ⟨g, o + i, none⟩) hgw).trans k1); go_simp) hS0 ?_
     simp only [Act.put, List.setIfInBounds_toArray, List.set_cons_zero, List.set_cons_succ]
     refine reg_tk (i := 7) (v := .func (.func 130) #[] #[]) (some 19) rfl (fun w' hS => by skip; go_simp) hS0 ?_
     simp only [Act.put, List.setIfInBounds_toArray, List.set_cons_zero, List.set_cons_succ]
     refine reg_tk (i := 8) (v := .slice (some ⟨g, o, none⟩) l.length c) (some 20) rfl (fun w' hS => by skip; go_simp) hS0 ?_
     simp only [Act.put, List.setIfInBounds_toArray, List.set_cons_zero, List.set_cons_succ]
     refine reg_tk (i := 9) (v := .int .i64 (i + 1)) (some 21) rfl (fun w' hS => by skip; go_simp) hS0 ?_
     simp only [Act.put, List.setIfInBounds_toArray, List.set_cons_zero, List.set_cons_succ]
     refine reg_tk (i := 10) (v := .pointer (some ⟨g, o + (i + 1), none⟩)) (some 22) rfl (fun w' hS => by skip; go_simp) hS0 ?_
     simp only [Act.put, List.setIfInBounds_toArray, List.set_cons_zero, List.set_cons_succ]
     refine reg_tk (i := 11) (v := .string y) (some 23) rfl (fun w' hS => by (have := (hS.cell (p := ⟨g, o + (i + 1), none⟩) hgw).trans k2); go_simp) hS0 ?_
     simp only [Act.put, List.setIfInBounds_toArray, List.set_cons_zero, List.set_cons_succ]
     refine held_one (i := 6) (by kernel_rfl) rfl (fun K hQ => ?_)
     go_simp
     (with_reducible refine (litself_b x _).mono ?_)
     rintro e w1 ⟨rfl, hb⟩
     have hS1 := below_call hS0 hb
     refine hQ.out _ _ hS1 ?_
     clear hQ
     try simp only [Act.put, List.setIfInBounds_toArray, List.set_cons_zero, List.set_cons_succ]
     refine held_one (i := 12) (by kernel_rfl) rfl (fun K hQ => ?_)
     go_simp
     (with_reducible refine (litself_b y _).mono ?_)
     rintro e w2 ⟨rfl, hb2⟩
     have hS2 := below_call hS1 hb2
     refine hQ.out _ _ hS2 ?_
     clear hQ
     try simp only [Act.put, List.setIfInBounds_toArray, List.set_cons_zero, List.set_cons_succ]
     refine reg_tk (i := 13) (v := .bool (!q)) (some 25) rfl (fun w' hS => by skip; go_simp) hS2 ?_
     simp only [Act.put, List.setIfInBounds_toArray, List.set_cons_zero, List.set_cons_succ]
     refine wpAnyH_done (by kernel_rfl) ?_ _
     show Exit.then _ _ Exit.normal _ _
     go_wp2_with fail
     go_meet
     case rel => exact ⟨rfl, hS2⟩
    case rest =>
    obtain ⟨rfl, hX⟩ := hcut
    replace hL := below_call hL hX
    clear hX hV
    cases q with
    | true =>
     have HS := HY hq.out.symm
     clear HN HY hq
     go_wp2_with fail
     go_roundw
     case rel => exact ⟨i + 1, by go_num, by omega, hL, HS⟩
     case measure => simp [RowKit.intOf]; omega
    | false =>
     have hb := e.out.trans (HN hq.out.symm).out
     subst hb
     clear HN HY hq e
     go_wp2_with fail
     go_ret
     exact ⟨rfl, hL⟩
  · have ha : ascv l = true := ascv_iff.2 fun j h => hA.out j (by omega) h
    have hb := e.out.trans ha
    subst hb
    have d1 : ¬ (i : Int) + 1 < l.length := by omega
    clear hat ha hA e
    go_wp2_with fail
    go_ret
    exact ⟨rfl, hL⟩
end
section
open Go.RowKit Go.Lib
theorem namedv_eq (r : R9) : namedv r = !((r.us.any fun x => !nameB x.nm.data.toList) || (r.ws.any fun x => !nameB x.nm.data.toList) || (r.ts.any fun x => !nameB x.nm.data.toList)) := by
 unfold namedv namesU namesW namesT
 rw [List.all_append, List.all_append, List.all_map, List.all_map, List.all_map, Bool.not_or, Bool.not_or, List.not_any_eq_all_not, List.not_any_eq_all_not, List.not_any_eq_all_not]
 simp only [Bool.not_not]
 rfl
set_option maxHeartbeats 4000000 in
set_option maxRecDepth 100000 in
theorem lhasBad_b (su sw st : Value) (r : R9) (b : Bool) (V0 W : World) (hR : RAt V0 su sw st r) (h0 : Below V0.heap.size V0 W) (e : Hid (b = namedv r)) :
 Calls Tryz.prog 91 #[.agg #[su, sw, st]] W fun e w' => e = .returned (.bool (!b)) ∧ Below W.heap.size W w' := by
 have hR0 := hid hR
 obtain ⟨b1, hb1⟩ : ∃ q, Hid (q = r.us.any fun x => !nameB x.nm.data.toList) := ⟨_, hid rfl⟩
 obtain ⟨b2, hb2⟩ : ∃ q, Hid (q = r.ws.any fun x => !nameB x.nm.data.toList) := ⟨_, hid rfl⟩
 obtain ⟨b3, hb3⟩ : ∃ q, Hid (q = r.ts.any fun x => !nameB x.nm.data.toList) := ⟨_, hid rfl⟩
 obtain rfl : b = !(b1 || b2 || b3) := by rw [e.out, namedv_eq, hb1.out, hb2.out, hb3.out]
 clear e
 obtain ⟨p, c, rfl, hm, hat⟩ := hR.u
 obtain ⟨p1, c1, rfl, hm1, hat1⟩ := hR.w
 obtain ⟨p2, c2, rfl, hm2, hat2⟩ := hR.t
 have hB := Blk.new W [.slice p r.us.length c, .slice p1 r.ws.length c1, .slice p2 r.ts.length c2] 31
 have hL := (Below.refl W.heap.size W).alloc (Nat.le_refl _) (.cells [.slice p r.us.length c, .slice p1 r.ws.length c1, .slice p2 r.ts.length c2].toArray 31)
 unfold maxLen at hm hm1 hm2
 clear hR
 go_enter Tryz.func91, Tryz.ntmps91
 go_upto_region 1 with fail
 generalize W.alloc (.cells [.slice p r.us.length c, .slice p1 r.ws.length c1, .slice p2 r.ts.length c2].toArray 31) = V at *
 clear hat hat1 hat2
 obtain ⟨_, _, _, _, _, _⟩ := hB.three
 go_wp2_with fail
 ((with_reducible refine (lbadU_b _ _ b1 V0 _ hR0.out.u (h0.trans (hL.mono h0.size)) hb1).mono ?_); rintro e w1 ⟨rfl, hb⟩)
 replace hB := hB.below hb
 replace hL := below_call hL hb
 clear hb
 cases b1 with
 | true =>
  go_wp2_with fail
  go_ret
  exact ⟨rfl, hL⟩
 | false =>
  obtain ⟨_, _, _, _, _, _⟩ := hB.three
  go_wp2_with fail
  ((with_reducible refine (lbadW_b _ _ b2 V0 _ hR0.out.w (h0.trans (hL.mono h0.size)) hb2).mono ?_); rintro e w1 ⟨rfl, hb⟩)
  replace hB := hB.below hb
  replace hL := below_call hL hb
  clear hb
  cases b2 with
  | true =>
   go_wp2_with fail
   go_ret
   exact ⟨rfl, hL⟩
  | false =>
   obtain ⟨_, _, _, _, _, _⟩ := hB.three
   go_wp2_with fail
   ((with_reducible refine (lbadT_b _ _ b3 V0 _ hR0.out.t (h0.trans (hL.mono h0.size)) hb3).mono ?_); rintro e w1 ⟨rfl, hb⟩)
   replace hB := hB.below hb
   replace hL := below_call hL hb
   clear hb
   cases b3
   all_goals
    go_wp2_with fail
    go_ret
    exact ⟨rfl, hL⟩
def listsU (l : List U9) : List (List ByteArray) := l.flatMap fun u => [u.needs, u.trains, u.ress]
def listsT (l : List T9) : List (List ByteArray) := l.map T9.needs
def LsV (V : World) (xs : List Value) (ls : List (List ByteArray)) : Prop := xs.length = ls.length ∧ ∀ i, (h : i < xs.length) → (h2 : i < ls.length) → StrSl V (xs[i]'h) (ls[i]'h2)
theorem LsV.nil (V : World) : LsV V [] [] := ⟨rfl, fun i h => absurd h (by simp)⟩
theorem LsV.app {V : World} {xs ys : List Value} {ls ms : List (List ByteArray)} (h : LsV V xs ls) (k : LsV V ys ms) : LsV V (xs ++ ys) (ls ++ ms) := by
 refine ⟨by rw [List.length_append, List.length_append, h.1, k.1], fun i h1 h2 => ?_⟩
 by_cases q : i < xs.length
 · rw [List.getElem_append_left q, List.getElem_append_left (by rw [← h.1]; exact q)]
   exact h.2 i q _
 · have hx : xs.length ≤ i := by omega
   have hl : ls.length ≤ i := by rw [← h.1]; exact hx
   rw [List.getElem_append_right hx, List.getElem_append_right hl]
   have e : i - ls.length = i - xs.length := by rw [h.1]
   have key := k.2 (i - xs.length) (by rw [List.length_append] at h1; omega) (by rw [List.length_append] at h2; have := h.1; omega)
   simpa only [e] using key
theorem LsV.three {V : World} {a b c : Value} {l m n : List ByteArray} (h1 : StrSl V a l) (h2 : StrSl V b m) (h3 : StrSl V c n) : LsV V [a, b, c] [l, m, n] := by
 refine ⟨rfl, fun i h k => ?_⟩
 match i, h, k with
 | 0, _, _ => exact h1
 | 1, _, _ => exact h2
 | 2, _, _ => exact h3
theorem LsV.one {V : World} {a : Value} {l : List ByteArray} (h1 : StrSl V a l) : LsV V [a] [l] := by
 refine ⟨rfl, fun i h k => ?_⟩
 match i, h, k with
 | 0, _, _ => exact h1
theorem listsU_take {l : List U9} {i : Nat} (h : i < l.length) : listsU (l.take (i + 1)) = listsU (l.take i) ++ [(l[i]'h).needs, (l[i]'h).trains, (l[i]'h).ress] := by
 unfold listsU
 rw [List.take_succ_eq_append_getElem h, List.flatMap_append]
 simp
theorem listsT_take {l : List T9} {i : Nat} (h : i < l.length) : listsT (l.take (i + 1)) = listsT (l.take i) ++ [(l[i]'h).needs] := by
 unfold listsT
 rw [List.take_succ_eq_append_getElem h, List.map_append]
 rfl
theorem listsU_len : ∀ l : List U9, (listsU l).length = 3 * l.length
 | [] => rfl
 | a :: l => by
  have := listsU_len l
  unfold listsU at this ⊢
  rw [List.flatMap_cons, List.length_append, this]
  simp
  omega
theorem infoSl9 : (Tryz.prog.info? 23).map (fun i => (i.zero, i.size, i.bytes)) = some (some (.slice none 0 0), 1, 24) := by kernel_rfl
theorem own_row {w : World} {B k n : Nat} {e : TypeId} {v : Value} {xs : List Value} (h : w.ownsRow B e k v n xs) (hn : n ≤ 1000000) (hk : 0 < k) : RowV w k v n (fun i => (xs.drop (i * k)).take k) := by
 rcases id h.2 with ⟨rfl, h0⟩ | ⟨g, cap, cur, rfl, -, hg, -, -, -, -⟩
 · subst h0
   exact RowV.none w k _ 0 none
 · refine ⟨_, cap, rfl, by unfold maxLen; omega, fun _ => ⟨g, 0, rfl, (Array.getElem?_eq_some_iff.1 hg).1, fun i hi => ?_⟩⟩
   have hx := h.1
   have hik : i * k + k ≤ n * k := by
    have := Nat.mul_le_mul_right k (show i + 1 ≤ n from hi)
    rwa [Nat.add_mul, Nat.one_mul] at this
   refine ⟨fun j u hj => ?_, by rw [List.length_take, List.length_drop]; omega⟩
   have hjk : j < k := by
    have := (List.getElem?_eq_some_iff.1 hj).1
    rw [List.length_take] at this
    omega
   rw [Nat.zero_add, h.cellAt (i * k + j) (by omega)]
   rw [List.getElem?_take_of_lt hjk, List.getElem?_drop] at hj
   exact hj
theorem lone3 {a b c : Value} (h1 : a.oneCell' = true) (h2 : b.oneCell' = true) (h3 : c.oneCell' = true) : ∀ u ∈ ([a, b, c] : List Value), u.oneCell' = true := by
 intro u hu
 simp only [List.mem_cons, List.not_mem_nil, or_false] at hu
 rcases hu with rfl | rfl | rfl
 · exact h1
 · exact h2
 · exact h3
theorem lone1 {a : Value} (h1 : a.oneCell' = true) : ∀ u ∈ ([a] : List Value), u.oneCell' = true := by
 intro u hu
 simp only [List.mem_singleton] at hu
 subst hu
 exact h1
def ListsPost (r : R9) (V0 w : World) (e : Ending) (w' : World) : Prop := ∃ v xs, e = .returned v ∧ w'.ownsRow (w.heap.size + 1) 23 1 v (3 * r.us.length + r.ts.length) xs ∧ LsV V0 xs (listsU r.us ++ listsT r.ts) ∧ Below w.heap.size w w'
set_option maxHeartbeats 8000000 in
set_option maxRecDepth 100000 in
theorem llists_b (su sw st : Value) (r : R9) (V0 W : World) (hR : RAt V0 su sw st r) (h0 : Below V0.heap.size V0 W) (hu : r.us.length ≤ 1000) (ht : r.ts.length ≤ 1000) :
 Calls Tryz.prog 119 #[.agg #[su, sw, st]] W (ListsPost r V0 W) := by
 have hR0 := hid hR
 obtain ⟨i0, hi0, hz0, hz1, hz2⟩ := info_cut9 infoSl9
 obtain ⟨p, c, rfl, hm, hat⟩ := hR.u
 obtain ⟨p1, c1, rfl, hm1, hat1⟩ := hR.w
 obtain ⟨p2, c2, rfl, hm2, hat2⟩ := hR.t
 have hB := Blk.new W [.slice p r.us.length c, .slice p1 r.ws.length c1, .slice p2 r.ts.length c2] 31
 have hL := (Below.refl W.heap.size W).alloc (Nat.le_refl _) (.cells [.slice p r.us.length c, .slice p1 r.ws.length c1, .slice p2 r.ts.length c2].toArray 31)
 unfold maxLen at hm hm1 hm2
 clear hR
 go_enter Tryz.func119, Tryz.ntmps119
 go_wp2_with fail
 generalize W.alloc (.cells [.slice p r.us.length c, .slice p1 r.ws.length c1, .slice p2 r.ts.length c2].toArray 31) = V at *
 go_loopw [3, 11] (fun vo vi wr => ∃ (i : Nat) (xs : List Value), vi = .int .i64 i ∧ i ≤ r.us.length ∧ wr.ownsRow (W.heap.size + 1) 23 1 vo (3 * i) xs ∧ Blk wr W.heap.size [.slice p r.us.length c, .slice p1 r.ws.length c1, .slice p2 r.ts.length c2] 31 ∧ Below W.heap.size W wr ∧ Hid (LsV V0 xs (listsU (r.us.take i)))) (fun _ vi _ => r.us.length - (RowKit.intOf vi).toNat)
 case atStart => exact ⟨0, [], rfl, by omega, World.ownsRow_nil _ _ _ _, hB, hL, hid (LsV.nil _)⟩
 case round =>
  clear hB hL
  obtain ⟨i, xs, rfl, hi, hown, hB, hL, hA⟩ := hrel
  obtain ⟨_, _, _, _, _, _⟩ := hB.three
  by_cases hlt : i < r.us.length
  · have d1 : (i : Int) < r.us.length := by omega
    have d0 : (0 : Int) ≤ i := by omega
    have hV := h0.trans (hL.mono h0.size)
    obtain ⟨g, o, rfl, hc⟩ := hat (by omega)
    obtain ⟨vs, hU, hcs⟩ := (hc i hlt).ul
    have kl := hid ((hcs.below' (hcs.lt' hU.name) hV).loads (P := Tryz.prog) hU.len)
    obtain ⟨pn, cn, pt, ct, pr, cr, hvs, s1, s2, s3⟩ := hU.lists
    have hZ := Blk.new wr vs 53
    have z1 := (hZ.cell 16).trans (show vs[16]? = some (.slice pn (r.us[i]'hlt).needs.length cn) by rw [hvs]; rfl)
    have z2 := (hZ.cell 17).trans (show vs[17]? = some (.slice pt (r.us[i]'hlt).trains.length ct) by rw [hvs]; rfl)
    have z3 := (hZ.cell 18).trans (show vs[18]? = some (.slice pr (r.us[i]'hlt).ress.length cr) by rw [hvs]; rfl)
    have hN := hid (show LsV V0 (xs ++ [.slice pn (r.us[i]'hlt).needs.length cn, .slice pt (r.us[i]'hlt).trains.length ct, .slice pr (r.us[i]'hlt).ress.length cr]) (listsU (r.us.take (i + 1))) by
     rw [listsU_take hlt]; exact hA.out.app (LsV.three s1 s2 s3))
    have hU' := hid hU
    obtain ⟨n1, hn1⟩ : ∃ n, (r.us[i]'hlt).needs.length = n := ⟨_, rfl⟩
    obtain ⟨n2, hn2⟩ : ∃ n, (r.us[i]'hlt).trains.length = n := ⟨_, rfl⟩
    obtain ⟨n3, hn3⟩ : ∃ n, (r.us[i]'hlt).ress.length = n := ⟨_, rfl⟩
    rw [hn1] at z1
    rw [hn2] at z2
    rw [hn3] at z3
    rw [hn1, hn2, hn3] at hN
    have hB2 := hB.alloc (.cells vs.toArray 53)
    have hL2 := hL.alloc hL.size (.cells vs.toArray 53)
    have hown1 := hown.alloc (.cells vs.toArray 53)
    clear hat hc hcs hU hA hvs s1 s2 s3 hn1 hn2 hn3 hZ
    go_upto_region 4 with fail
    go_cut [5] from 12 to 24 (fun s5 wx => s5 = .pointer (some ⟨wr.heap.size, 0, none⟩) ∧ wx = wr.alloc (.cells vs.toArray 53))
    case first =>
     go_wp2_with (first | (with_reducible refine wpList_load_agg rfl 53 _ rfl ⟨g, o + i * 19, none⟩ (by with_unfolding_all rfl) Tryz.isAgg53 Tryz.sizeOf53 vs kl.out ?_) | (with_reducible refine wpList_alloc_agg rfl 53 rfl _ rfl uZero zeroU ?_) | (with_reducible refine wpList_store_new rfl 53 _ _ rfl rfl Tryz.sizeOf53 vs uZero 53 (by with_unfolding_all rfl) (by with_unfolding_all rfl) hU'.out.len rfl hU'.out.lone ?_))
     go_meet
     case rel => exact ⟨rfl, rfl⟩
    case rest =>
    obtain ⟨rfl, rfl⟩ := hcut
    generalize hX : wr.alloc (.cells vs.toArray 53) = X at *
    have hWB := hL2.size
    clear hX hU' kl hown
    go_wp2_with (at_builtin; refine wpList_append_own _ rfl _ _ 153 rfl (W.heap.size + 1) 23 i0 (.slice none 0 0) 1 24 Tryz.underlying153 hi0 hz0 hz1 hz2 rfl (by decide) _ _ _ rfl (hown1.alloc _) ⟨X.heap.size, 0, none⟩ 3 3 [.slice pn n1 cn, .slice pt n2 ct, .slice pr n3 cr] rfl rfl cells_new (lone3 rfl rfl rfl) (by unfold maxLen; omega) (by omega) (by first | (simp; done) | (simp; omega)) ?_)
    intro v' w' hown' hg' _
    have hb' := below_push (t := 23) hL2.size hL2 hown1 (by omega) hg'
    have hB' := (hB2.alloc (.cells #[.slice pn n1 cn, .slice pt n2 ct, .slice pr n3 cr] 23)).grown hg' (own_not hown1 (by omega))
    clear hg' hown1 hL hL2 hB hB2 z1 z2 z3
    go_wp2_with fail
    go_roundw
    case rel => exact ⟨i + 1, _, by go_num, by omega, own_to hown' (by omega) rfl, hB', hb', hN⟩
    case measure => simp [RowKit.intOf]; omega
  · obtain rfl : i = r.us.length := by omega
    have hA0 := hid (show LsV V0 xs (listsU r.us ++ listsT (r.ts.take 0)) by
     have := hA.out
     rw [List.take_length] at this
     rw [List.take_zero, show listsT [] = [] from rfl, List.append_nil]
     exact this)
    have d1 : ¬ (r.us.length : Int) < r.us.length := by omega
    clear hA hat
    go_wp2_with fail
    clear d1
    go_loopw [3, 28] (fun vo vi wr => ∃ (i : Nat) (xs : List Value), vi = .int .i64 i ∧ i ≤ r.ts.length ∧ wr.ownsRow (W.heap.size + 1) 23 1 vo (3 * r.us.length + i) xs ∧ Blk wr W.heap.size [.slice p r.us.length c, .slice p1 r.ws.length c1, .slice p2 r.ts.length c2] 31 ∧ Below W.heap.size W wr ∧ Hid (LsV V0 xs (listsU r.us ++ listsT (r.ts.take i)))) (fun _ vi _ => r.ts.length - (RowKit.intOf vi).toNat)
    case atStart => exact ⟨0, xs, rfl, by omega, hown, hB, hL, hA0⟩
    case round =>
     clear hB hL hown hA0
     obtain ⟨i, xs, rfl, hi, hown, hB, hL, hA⟩ := hrel
     obtain ⟨_, _, _, _, _, _⟩ := hB.three
     by_cases hlt : i < r.ts.length
     · have d1 : (i : Int) < r.ts.length := by omega
       have d0 : (0 : Int) ≤ i := by omega
       have hV := h0.trans (hL.mono h0.size)
       obtain ⟨g, o, rfl, hc⟩ := hat2 (by omega)
       obtain ⟨vs, hU, hcs⟩ := (hc i hlt).tl
       have kl := hid ((hcs.below' (hcs.lt' hU.name) hV).loads (P := Tryz.prog) hU.len)
       obtain ⟨pn, cn, hvs, s1⟩ := hU.lists
       have hZ := Blk.new wr vs 56
       have z1 := (hZ.cell 1).trans (show vs[1]? = some (.slice pn (r.ts[i]'hlt).needs.length cn) by rw [hvs]; rfl)
       have hN := hid (show LsV V0 (xs ++ [.slice pn (r.ts[i]'hlt).needs.length cn]) (listsU r.us ++ listsT (r.ts.take (i + 1))) by
        rw [listsT_take hlt, ← List.append_assoc]; exact hA.out.app (LsV.one s1))
       have hU' := hid hU
       obtain ⟨n1, hn1⟩ : ∃ n, (r.ts[i]'hlt).needs.length = n := ⟨_, rfl⟩
       rw [hn1] at z1 hN
       have hB2 := hB.alloc (.cells vs.toArray 56)
       have hL2 := hL.alloc hL.size (.cells vs.toArray 56)
       have hown1 := hown.alloc (.cells vs.toArray 56)
       clear hat2 hc hcs hU hA hvs s1 hn1 hZ
       go_upto_region 9 with fail
       go_cut [7] from 29 to 37 (fun s7 wx => s7 = .pointer (some ⟨wr.heap.size, 0, none⟩) ∧ wx = wr.alloc (.cells vs.toArray 56))
       case first =>
        go_wp2_with (first | (with_reducible refine wpList_load_agg rfl 56 _ rfl ⟨g, o + i * 8, none⟩ (by with_unfolding_all rfl) Tryz.isAgg56 Tryz.sizeOf56 vs kl.out ?_) | (with_reducible refine wpList_alloc_agg rfl 56 rfl _ rfl tZero zeroT ?_) | (with_reducible refine wpList_store_new rfl 56 _ _ rfl rfl Tryz.sizeOf56 vs tZero 56 (by with_unfolding_all rfl) (by with_unfolding_all rfl) hU'.out.len rfl hU'.out.lone ?_))
        go_meet
        case rel => exact ⟨rfl, rfl⟩
       case rest =>
       obtain ⟨rfl, rfl⟩ := hcut
       generalize hX : wr.alloc (.cells vs.toArray 56) = X at *
       have hWB := hL2.size
       clear hX hU' kl hown
       go_wp2_with (at_builtin; refine wpList_append_own _ rfl _ _ 153 rfl (W.heap.size + 1) 23 i0 (.slice none 0 0) 1 24 Tryz.underlying153 hi0 hz0 hz1 hz2 rfl (by decide) _ _ _ rfl (hown1.alloc _) ⟨X.heap.size, 0, none⟩ 1 1 [.slice pn n1 cn] rfl rfl cells_new (lone1 rfl) (by unfold maxLen; omega) (by omega) (by first | (simp; done) | (simp; omega)) ?_)
       intro v' w' hown' hg' _
       have hb' := below_push (t := 23) hL2.size hL2 hown1 (by omega) hg'
       have hB' := (hB2.alloc (.cells #[.slice pn n1 cn] 23)).grown hg' (own_not hown1 (by omega))
       clear hg' hown1 hL hL2 hB hB2 z1
       go_wp2_with fail
       go_roundw
       case rel => exact ⟨i + 1, _, by go_num, by omega, own_to hown' (by omega) rfl, hB', hb', hN⟩
       case measure => simp [RowKit.intOf]; omega
     · obtain rfl : i = r.ts.length := by omega
       have hA2 := hid (show LsV V0 xs (listsU r.us ++ listsT r.ts) by
        have := hA.out
        rw [List.take_length] at this
        exact this)
       have d1 : ¬ (r.ts.length : Int) < r.ts.length := by omega
       clear hA hat2
       go_wp2_with fail
       go_ret
       exact ⟨_, xs, rfl, hown, hA2.out, hL⟩
end
section
open Go.RowKit Go.Lib
theorem lists_all (f : List ByteArray → Bool) (us : List U9) (ts : List T9) : (listsU us ++ listsT ts).all f = (us.all (fun u => f u.needs && f u.trains && f u.ress) && ts.all fun t => f t.needs) := by
 unfold listsU listsT
 rw [List.all_append, List.all_flatMap, List.all_map]
 congr 1
 congr 1
 funext u
 simp [Bool.and_assoc]
theorem head_at {xs : List Value} {i : Nat} (h : i < xs.length) : ((xs.drop (i * 1)).take 1).headD undef = xs[i]'h := by
 rw [Nat.mul_one, List.drop_eq_getElem_cons h]
 rfl
theorem lanyLs_b (v : Value) (xs : List Value) (ls : List (List ByteArray)) (n B : Nat) (f : Nat) (lb : Array Value) (p : List ByteArray → Bool) (b : Bool) (V0 W : World) (hrow : W.ownsRow B 23 1 v n xs) (hn : n = ls.length) (hsm : n ≤ 100000) (hLs : LsV V0 xs ls)
 (eg : ∀ args w, (callFunc f args).run Tryz.prog w = .ok (.enter f args) w)
 (hp : ∀ a l w, StrSl V0 a l → Below W.heap.size W w → Calls Tryz.prog f (#[a] ++ lb) w fun e w' => e = .returned (.bool (p l)) ∧ Below w.heap.size w w') (e : Hid (b = ls.any p)) :
 Calls Tryz.prog 118 #[v, .func (.func f) #[] lb] W fun e w' => e = .returned (.bool b) ∧ Below W.heap.size W w' := by
 have hr := own_row hrow (by omega) (by decide)
 subst hn
 refine lanyL_b v ls.length _ f lb (fun i => match ls[i]? with | some l => p l | none => false) b W W hr (Below.refl _ _) eg (fun i hi w hb => ?_) (hid (by rw [e.out]; exact (anyN_list fun i h => by simp only [List.getElem?_eq_getElem h]).symm))
 have hx : i < xs.length := by rw [hLs.1]; exact hi
 rw [head_at hx]
 simp only [List.getElem?_eq_getElem hi]
 exact hp _ _ w (hLs.2 i hx hi) hb
theorem eg_large : ∀ args w, (callFunc 120 args).run Tryz.prog w = .ok (.enter 120 args) w := enters_of Tryz.func120 (by kernel_rfl) rfl
theorem llarge1_b (v : Value) (l : List ByteArray) (V W : World) (hl : StrSl V v l) :
 Calls Tryz.prog 120 #[v] W fun e w' => e = .returned (.bool (!decide (l.length ≤ 4))) ∧ Below W.heap.size W w' := by
 obtain ⟨p, c, rfl, hm, -⟩ := hl
 unfold maxLen at hm
 have hz : decide ((4 : Int) < l.length) = !decide (l.length ≤ 4) := by
  by_cases h : l.length ≤ 4
  · rw [decide_eq_true h, decide_eq_false (by omega)]; rfl
  · rw [decide_eq_false h, decide_eq_true (by omega)]; rfl
 generalize (!decide (l.length ≤ 4)) = q at *
 go_enter Tryz.func120, Tryz.ntmps120
 go_wp2_with fail
 go_ret
 exact ⟨rfl, Below.refl _ _⟩
theorem limv_ls (r : R9) : limv r = (decide (r.us.length ≤ 16) && decide (r.ws.length ≤ 8) && decide (r.ts.length ≤ 12) && (listsU r.us ++ listsT r.ts).all fun l => decide (l.length ≤ 4)) := by
 rw [lists_all]
 unfold limv
 simp only [Bool.and_assoc]
set_option maxHeartbeats 8000000 in
set_option maxRecDepth 100000 in
theorem llim_b (su sw st : Value) (r : R9) (b : Bool) (V0 W : World) (hR : RAt V0 su sw st r) (h0 : Below V0.heap.size V0 W) (e : Hid (b = limv r)) :
 Calls Tryz.prog 90 #[.agg #[su, sw, st]] W fun e w' => e = .returned (.bool (!b)) ∧ Below W.heap.size W w' := by
 have hR0 := hid hR
 replace e := hid (e.out.trans (limv_ls r))
 obtain ⟨p, c, rfl, hm, hat⟩ := hR.u
 obtain ⟨p1, c1, rfl, hm1, hat1⟩ := hR.w
 obtain ⟨p2, c2, rfl, hm2, hat2⟩ := hR.t
 have hB := Blk.new W [.slice p r.us.length c, .slice p1 r.ws.length c1, .slice p2 r.ts.length c2] 31
 have hL := (Below.refl W.heap.size W).alloc (Nat.le_refl _) (.cells [.slice p r.us.length c, .slice p1 r.ws.length c1, .slice p2 r.ts.length c2].toArray 31)
 unfold maxLen at hm hm1 hm2
 clear hR
 go_enter Tryz.func90, Tryz.ntmps90
 go_upto_region 1 with fail
 generalize W.alloc (.cells [.slice p r.us.length c, .slice p1 r.ws.length c1, .slice p2 r.ts.length c2].toArray 31) = V at *
 clear hat hat1 hat2
 obtain ⟨_, _, _, _, _, _⟩ := hB.three
 by_cases g1 : r.us.length ≤ 16
 rotate_left
 · have z1 : decide ((16 : Int) < r.us.length) = true := decide_eq_true (by omega)
   obtain rfl : b = false := by rw [e.out, decide_eq_false g1]; rfl
   clear e
   go_wp2_with fail
   go_ret
   exact ⟨rfl, hL⟩
 by_cases g2 : r.ws.length ≤ 8
 rotate_left
 · have z1 : decide ((16 : Int) < r.us.length) = false := decide_eq_false (by omega)
   have z2 : decide ((8 : Int) < r.ws.length) = true := decide_eq_true (by omega)
   obtain rfl : b = false := by rw [e.out, decide_eq_false g2, Bool.and_false]; rfl
   clear e
   go_wp2_with fail
   go_ret
   exact ⟨rfl, hL⟩
 by_cases g3 : r.ts.length ≤ 12
 rotate_left
 · have z1 : decide ((16 : Int) < r.us.length) = false := decide_eq_false (by omega)
   have z2 : decide ((8 : Int) < r.ws.length) = false := decide_eq_false (by omega)
   have z3 : decide ((12 : Int) < r.ts.length) = true := decide_eq_true (by omega)
   obtain rfl : b = false := by rw [e.out, decide_eq_false g3, Bool.and_false]; rfl
   clear e
   go_wp2_with fail
   go_ret
   exact ⟨rfl, hL⟩
 have z1 : decide ((16 : Int) < r.us.length) = false := decide_eq_false (by omega)
 have z2 : decide ((8 : Int) < r.ws.length) = false := decide_eq_false (by omega)
 have z3 : decide ((12 : Int) < r.ts.length) = false := decide_eq_false (by omega)
 rw [decide_eq_true g1, decide_eq_true g2, decide_eq_true g3, Bool.true_and, Bool.true_and, Bool.true_and] at e
 replace e := hid (show (!b) = (listsU r.us ++ listsT r.ts).any fun l => !decide (l.length ≤ 4) by rw [e.out, List.not_all_eq_any_not])
 go_wp2_with fail
 ((with_reducible refine (llists_b _ _ _ r V0 _ hR0.out (h0.trans (hL.mono h0.size)) (by omega) (by omega)).mono ?_); rintro e w1 ⟨v, xs, rfl, hown, hLs, hb⟩)
 replace hL := below_call hL hb
 have hcon := lanyLs_b v xs _ _ _ 120 #[] (fun l => !decide (l.length ≤ 4)) (!b) V0 w1 hown (by rw [List.length_append, listsU_len]; unfold listsT; rw [List.length_map]) (by omega) hLs eg_large (fun a l w ha _ => llarge1_b a l V0 w ha) e
 clear hb hown hLs e z1 z2 z3
 go_wp2_with fail
 (refine hcon.mono ?_; rintro e w2 ⟨rfl, hb⟩)
 replace hL := below_call hL hb
 go_wp2_with fail
 go_ret
 exact ⟨rfl, hL⟩
theorem eg_ascs : ∀ args w, (callFunc 131 args).run Tryz.prog w = .ok (.enter 131 args) w := enters_of Tryz.func131 (by kernel_rfl) rfl
theorem lascs1_b (v : Value) (l : List ByteArray) (c : Nat) (tf : TypeId) (V0 W : World) (hl : StrSl V0 v l) (h0 : Below V0.heap.size V0 W) (hc : Blk W c [.func (.func 130) #[] #[]] tf) :
 Calls Tryz.prog 131 #[v, .pointer (some ⟨c, 0, none⟩)] W fun e w' => e = .returned (.bool (!ascv l)) ∧ Below W.heap.size W w' := by
 obtain ⟨q, hq⟩ : ∃ q, Hid (q = ascv l) := ⟨_, hid rfl⟩
 rw [← hq.out]
 have hcon := lascS_b v l q V0 W hl h0 hq
 have k0 := hc.one.1
 clear hl h0 hq hc
 go_enter Tryz.func131, Tryz.ntmps131
 go_wp2_with fail
 (refine hcon.mono ?_; rintro e w1 ⟨rfl, hb⟩)
 go_wp2_with fail
 go_ret
 exact ⟨rfl, hb⟩
theorem ordv_ls (r : R9) : ordv r = (ascv (r.us.map U9.nm) && ascv (r.ws.map W9.nm) && ascv (r.ts.map T9.nm) && (listsU r.us ++ listsT r.ts).all ascv) := by
 rw [lists_all]
 unfold ordv namesU namesW namesT
 simp only [Bool.and_assoc]
set_option maxHeartbeats 8000000 in
set_option maxRecDepth 100000 in
theorem lord_b (su sw st : Value) (r : R9) (b : Bool) (V0 W : World) (hR : RAt V0 su sw st r) (h0 : Below V0.heap.size V0 W) (hu : r.us.length ≤ 1000) (ht : r.ts.length ≤ 1000) (e : Hid (b = ordv r)) :
 Calls Tryz.prog 92 #[.agg #[su, sw, st]] W fun e w' => e = .returned (.bool b) ∧ Below W.heap.size W w' := by
 have hR0 := hid hR
 obtain ⟨b1, hb1⟩ : ∃ q, Hid (q = ascv (r.us.map U9.nm)) := ⟨_, hid rfl⟩
 obtain ⟨b2, hb2⟩ : ∃ q, Hid (q = ascv (r.ws.map W9.nm)) := ⟨_, hid rfl⟩
 obtain ⟨b3, hb3⟩ : ∃ q, Hid (q = ascv (r.ts.map T9.nm)) := ⟨_, hid rfl⟩
 obtain ⟨b4, hb4⟩ : ∃ q, Hid (q = (listsU r.us ++ listsT r.ts).any fun l => !ascv l) := ⟨_, hid rfl⟩
 obtain rfl : b = (b1 && b2 && b3 && !b4) := by rw [e.out, ordv_ls, hb1.out, hb2.out, hb3.out, hb4.out, List.not_any_eq_all_not]; simp only [Bool.not_not]
 clear e
 obtain ⟨p, c, rfl, hm, hat⟩ := hR.u
 obtain ⟨p1, c1, rfl, hm1, hat1⟩ := hR.w
 obtain ⟨p2, c2, rfl, hm2, hat2⟩ := hR.t
 have hB := Blk.new W [.slice p r.us.length c, .slice p1 r.ws.length c1, .slice p2 r.ts.length c2] 31
 have hL := (Below.refl W.heap.size W).alloc (Nat.le_refl _) (.cells [.slice p r.us.length c, .slice p1 r.ws.length c1, .slice p2 r.ts.length c2].toArray 31)
 unfold maxLen at hm hm1 hm2
 clear hR
 go_enter Tryz.func92, Tryz.ntmps92
 go_upto_region 1 with fail
 generalize W.alloc (.cells [.slice p r.us.length c, .slice p1 r.ws.length c1, .slice p2 r.ts.length c2].toArray 31) = V at *
 clear hat hat1 hat2
 obtain ⟨_, _, _, _, _, _⟩ := hB.three
 go_wp2_with fail
 ((with_reducible refine (lascU_b _ _ b1 V0 _ hR0.out.u (h0.trans (hL.mono h0.size)) hb1).mono ?_); rintro e w1 ⟨rfl, hb⟩)
 replace hB := hB.below hb
 replace hL := below_call hL hb
 clear hb
 cases b1 with
 | false =>
  go_wp2_with fail
  go_ret
  exact ⟨rfl, hL⟩
 | true =>
  obtain ⟨_, _, _, _, _, _⟩ := hB.three
  go_wp2_with fail
  ((with_reducible refine (lascW_b _ _ b2 V0 _ hR0.out.w (h0.trans (hL.mono h0.size)) hb2).mono ?_); rintro e w1 ⟨rfl, hb⟩)
  replace hB := hB.below hb
  replace hL := below_call hL hb
  clear hb
  cases b2 with
  | false =>
   go_wp2_with fail
   go_ret
   exact ⟨rfl, hL⟩
  | true =>
   obtain ⟨_, _, _, _, _, _⟩ := hB.three
   go_wp2_with fail
   ((with_reducible refine (lascT_b _ _ b3 V0 _ hR0.out.t (h0.trans (hL.mono h0.size)) hb3).mono ?_); rintro e w1 ⟨rfl, hb⟩)
   replace hB := hB.below hb
   replace hL := below_call hL hb
   clear hb
   cases b3 with
   | false =>
    go_wp2_with fail
    go_ret
    exact ⟨rfl, hL⟩
   | true =>
    go_upto_region 4 with fail
    have hc := Blk.new w1 [.func (.func 130) #[] #[]] 67
    replace hL := hL.alloc hL.size (.cells [.func (.func 130) #[] #[]].toArray 67)
    replace hB := hB.alloc (.cells [.func (.func 130) #[] #[]].toArray 67)
    generalize w1.alloc (.cells [.func (.func 130) #[] #[]].toArray 67) = X at *
    obtain ⟨_, _, _, _, _, _⟩ := hB.three
    go_wp2_with fail
    ((with_reducible refine (llists_b _ _ _ r V0 _ hR0.out (h0.trans (hL.mono h0.size)) hu ht).mono ?_); rintro e w2 ⟨v, xs, rfl, hown, hLs, hb⟩)
    replace hL := below_call hL hb
    replace hc := hc.below hb
    have hV2 := h0.trans (hL.mono h0.size)
    have hcon := lanyLs_b v xs _ _ _ 131 #[.pointer (some ⟨w1.heap.size, 0, none⟩)] (fun l => !ascv l) b4 V0 w2 hown (by rw [List.length_append, listsU_len]; unfold listsT; rw [List.length_map]) (by omega) hLs eg_ascs (fun a l w ha hw => lascs1_b a l w1.heap.size _ V0 w ha (hV2.trans (hw.mono hV2.size)) (hc.below hw)) hb4
    clear hb hown hLs hb4 hc
    go_wp2_with fail
    (refine hcon.mono ?_; rintro e w3 ⟨rfl, hb⟩)
    replace hL := below_call hL hb
    go_wp2_with fail
    go_ret
    exact ⟨rfl, hL⟩
end
end

end Go.Proofs.YtnjcdmjaecgblaaGreatDoor
