/-
  What the reference of rules answers: names, elements, limits.
-/
import Derived.Test.YtnjcdmjaecgblaaGreatDoorX00
namespace Go.Proofs.YtnjcdmjaecgblaaGreatDoor
section
section
open Go.RowKit Go.Lib
set_option maxHeartbeats 2000000 in
set_option maxRecDepth 100000 in
theorem r9has_b (l : List ByteArray) (v : Value) (s : ByteArray) (b : Bool) (W : World) (hl : StrSl W v l) (e : Hid (b = hasv l s)) :
 Calls Tryz.prog 45 #[v, .string s] W fun e w' => e = .returned (.bool b) ∧ W = w' := by
 obtain ⟨p, c, rfl, hm, hat⟩ := hl
 unfold maxLen at hm
 go_enter Tryz.func45, Tryz.ntmps45
 go_wp2_with fail
 go_loop [5] (fun vi => ∃ i : Nat, vi = .int .i64 i ∧ i ≤ l.length ∧ Hid (hasv (l.take i) s = false)) (fun vi => l.length - (RowKit.intOf vi).toNat)
 case atStart => exact ⟨0, rfl, by omega, hid rfl⟩
 case round =>
  obtain ⟨i, rfl, hi, hA⟩ := hrel
  by_cases hlt : i < l.length
  · have d1 : (i : Int) < l.length := by omega
    have d0 : (0 : Int) ≤ i := by omega
    obtain ⟨g, o, rfl, hc⟩ := hat (by omega)
    have k1 := hc i hlt
    have HN := fun q => hid (has_take hlt hA.out q)
    have HY := hid (has_at hlt)
    obtain ⟨x, hx⟩ : ∃ x, l[i]'hlt = x := ⟨_, rfl⟩
    rw [hx] at k1 HN HY
    clear hx hat hA hc
    by_cases hq : x = s
    · subst hq
      have hb := e.out.trans HY.out
      subst hb
      clear HN HY e
      go_wp2_with fail
      go_ret
      exact ⟨rfl, rfl⟩
    · obtain ⟨q1, q2⟩ := ne_list hq
      have HS := HN hq
      clear HN HY hq
      go_wp2_with fail
      go_round
      case rel => exact ⟨i + 1, by go_num, by omega, HS⟩
      case measure => simp [RowKit.intOf]; omega
  · obtain rfl : i = l.length := by omega
    have hb := e.out
    have ha := hA.out
    rw [List.take_length] at ha
    rw [ha] at hb
    subst hb
    clear hat ha hA e
    go_wp2_with fail
    go_ret
    exact ⟨rfl, rfl⟩
theorem r9within_b (n lo hi : Int) (b : Bool) (W : World) (e : Hid (b = rngv n lo hi)) :
 Calls Tryz.prog 84 #[.int .i64 n, .int .i64 lo, .int .i64 hi] W fun e w' => e = .returned (.bool b) ∧ W = w' := by
 have hb : b = (decide (lo ≤ n) && decide (n ≤ hi)) := by rw [e.out]; unfold rngv; simp
 by_cases h1 : lo ≤ n
 · have z1 : decide (lo ≤ n) = true := decide_eq_true h1
   rw [z1, Bool.true_and] at hb
   subst hb
   clear e
   go_enter Tryz.func84, Tryz.ntmps84
   go_wp2_with fail
   go_ret
   exact ⟨rfl, rfl⟩
 · have z1 : decide (lo ≤ n) = false := decide_eq_false h1
   rw [z1, Bool.false_and] at hb
   subst hb
   clear e
   go_enter Tryz.func84, Tryz.ntmps84
   go_wp2_with fail
   go_ret
   exact ⟨rfl, rfl⟩
theorem r9stat_b (n : Int) (b : Bool) (W : World) (e : Hid (b = statv n)) :
 Calls Tryz.prog 85 #[.int .i64 n] W fun e w' => e = .returned (.bool b) ∧ W = w' := by
 go_enter Tryz.func85, Tryz.ntmps85
 go_wp2_with fail
 ((with_reducible refine (r9within_b n 0 100000 b _ (hid (by rw [e.out, statv]))).mono ?_); rintro e w1 ⟨rfl, rfl⟩)
 go_wp2_with fail
 go_ret
 exact ⟨rfl, rfl⟩
set_option maxHeartbeats 2000000 in
set_option maxRecDepth 100000 in
theorem r9asc_b (l : List ByteArray) (v : Value) (b : Bool) (W : World) (hl : StrSl W v l) (e : Hid (b = ascv l)) :
 Calls Tryz.prog 82 #[v] W fun e w' => e = .returned (.bool b) ∧ Below W.heap.size W w' := by
 obtain ⟨p, c, rfl, hm, hat⟩ := hl
 unfold maxLen at hm
 go_enter Tryz.func82, Tryz.ntmps82
 go_wp2_with fail
 go_loopw [3] (fun vi wr => ∃ i : Nat, vi = .int .i64 (i + 1) ∧ i ≤ l.length ∧ Below W.heap.size W wr ∧ Hid (∀ j, j < i → (h : j + 1 < l.length) → ltS (l[j]'(Nat.lt_of_succ_lt h)) (l[j + 1]'h) = true)) (fun vi _ => l.length + 1 - (RowKit.intOf vi).toNat)
 case atStart => exact ⟨0, rfl, by omega, Below.refl _ _, hid (fun j h => by omega)⟩
 case round =>
  obtain ⟨i, rfl, hi, hL, hA⟩ := hrel
  by_cases hlt : i + 1 < l.length
  · have d1 : (i : Int) + 1 < l.length := by omega
    have d0 : (0 : Int) ≤ i := by omega
    have d2 : (i : Int) < l.length := by omega
    have d3 : (0 : Int) ≤ (i : Int) + 1 := by omega
    have ei : (i : Int) + 1 - 1 = i := by omega
    obtain ⟨g, o, rfl, hc⟩ := hat (by omega)
    have hcw := fun j hj => (hL.cell (p := ⟨g, o + j, none⟩) (World.block_lt_of_cell? W _ (hc j hj))).trans (hc j hj)
    have k1 := hcw i (by omega)
    have k2 := hcw (i + 1) hlt
    have HN := fun q => hid (asc_no hlt q)
    have HY := fun (q : ltS (l[i]'(Nat.lt_of_succ_lt hlt)) (l[i + 1]'hlt) = true) => hid (show ∀ j, j < i + 1 → (h : j + 1 < l.length) → ltS (l[j]'(Nat.lt_of_succ_lt h)) (l[j + 1]'h) = true from fun j hj h => by
     rcases Nat.lt_or_ge j i with h2 | h2
     · exact hA.out j h2 h
     · obtain rfl : j = i := by omega
       exact q)
    obtain ⟨x, hx⟩ : ∃ x, l[i]'(Nat.lt_of_succ_lt hlt) = x := ⟨_, rfl⟩
    obtain ⟨y, hy⟩ : ∃ x, l[i + 1]'hlt = x := ⟨_, rfl⟩
    rw [hx] at k1 HN HY
    rw [hy] at k2 HN HY
    unfold ltS at HN HY
    clear hx hy hat hA hc hcw
    by_cases hq : Op.bytesLess x.toList y.toList = true
    · have HS := HY hq
      clear HN HY
      go_wp2_with fail
      go_quiet (fail)
      have hL2 := below_many hL nq
      generalize wr.drewN nq = wr' at *
      clear hL k1 k2
      go_wp2_with fail
      go_roundw
      case rel => exact ⟨i + 1, by go_num, by omega, hL2, HS⟩
      case measure => simp [RowKit.intOf]; omega
    · have hq2 : Op.bytesLess x.toList y.toList = false := by simpa using hq
      have hb := e.out.trans (HN hq2).out
      subst hb
      clear HN HY e hq
      go_wp2_with fail
      go_quiet (fail)
      have hL2 := below_many hL nq
      generalize wr.drewN nq = wr' at *
      clear hL k1 k2
      go_wp2_with fail
      go_ret
      exact ⟨rfl, hL2⟩
  · have ha := ascv_iff.2 fun j h => hA.out j (by omega) h
    have hb := e.out.trans ha
    subst hb
    have d1 : ¬ (i : Int) + 1 < l.length := by omega
    clear hat ha hA e
    go_wp2_with fail
    go_ret
    exact ⟨rfl, hL⟩
set_option maxHeartbeats 2000000 in
set_option maxRecDepth 100000 in
theorem r9all_b (l m : List ByteArray) (v u : Value) (b : Bool) (W : World) (hl : StrSl W v l) (hm2 : StrSl W u m) (e : Hid (b = l.all (hasv m))) :
 Calls Tryz.prog 86 #[v, u] W fun e w' => e = .returned (.bool b) ∧ W = w' := by
 obtain ⟨p, c, rfl, hm, hat⟩ := hl
 obtain ⟨p2, c2, rfl, -, -⟩ := id hm2
 unfold maxLen at hm
 go_enter Tryz.func86, Tryz.ntmps86
 go_wp2_with fail
 go_loop [5] (fun vi => ∃ i : Nat, vi = .int .i64 i ∧ i ≤ l.length ∧ Hid ((l.take i).all (hasv m) = true)) (fun vi => l.length - (RowKit.intOf vi).toNat)
 case atStart => exact ⟨0, rfl, by omega, hid rfl⟩
 case round =>
  obtain ⟨i, rfl, hi, hA⟩ := hrel
  by_cases hlt : i < l.length
  · have d1 : (i : Int) < l.length := by omega
    have d0 : (0 : Int) ≤ i := by omega
    obtain ⟨g, o, rfl, hc⟩ := hat (by omega)
    have k1 := hc i hlt
    have HN := fun q => hid (all_take hlt hA.out q)
    have HY := fun q => hid (all_no (f := hasv m) hlt q)
    obtain ⟨x, hx⟩ : ∃ x, l[i]'hlt = x := ⟨_, rfl⟩
    rw [hx] at k1 HN HY
    obtain ⟨q, hq⟩ : ∃ q, Hid (q = hasv m x) := ⟨_, hid rfl⟩
    have c1 := r9has_b m _ x q W hm2 hq
    clear hx hat hA hc
    go_wp2_with fail
    ((with_reducible refine c1.mono ?_); rintro e w1 ⟨rfl, rfl⟩)
    cases q with
    | false =>
     have hb := e.out.trans (HY hq.out.symm).out
     subst hb
     clear HN HY e hq c1
     go_wp2_with fail
     go_ret
     exact ⟨rfl, rfl⟩
    | true =>
     have HS := HN hq.out.symm
     clear HN HY hq c1
     go_wp2_with fail
     go_round
     case rel => exact ⟨i + 1, by go_num, by omega, HS⟩
     case measure => simp [RowKit.intOf]; omega
  · obtain rfl : i = l.length := by omega
    have ha := hA.out
    rw [List.take_length] at ha
    have hb := e.out.trans ha
    subst hb
    clear hat ha hA e
    go_wp2_with fail
    go_ret
    exact ⟨rfl, rfl⟩
end
section
open Go.RowKit Go.Lib
set_option maxHeartbeats 8000000 in
set_option maxRecDepth 100000 in
theorem r9shaped_b (u : U9) (sn st sr : Value) (b : Bool) (W : World) (e : Hid (b = shapev u)) :
 Calls Tryz.prog 83 #[.agg #[.string u.nm, .bool u.bld, .bool u.dep, .int .i64 u.cls, .int .i64 u.w, .int .i64 u.h, .int .i64 u.rad, .int .i64 u.spd, .int .i64 u.sgt, .int .i64 u.hp, .int .i64 u.arm, .int .i64 u.load, .string u.wpn, .int .i64 u.ore, .int .i64 u.wood, .int .i64 u.time, sn, st, sr]] W fun e w' => e = .returned (.bool b) ∧ Below W.heap.size W w' := by
 have hB := Blk.new W [.string u.nm, .bool u.bld, .bool u.dep, .int .i64 u.cls, .int .i64 u.w, .int .i64 u.h, .int .i64 u.rad, .int .i64 u.spd, .int .i64 u.sgt, .int .i64 u.hp, .int .i64 u.arm, .int .i64 u.load, .string u.wpn, .int .i64 u.ore, .int .i64 u.wood, .int .i64 u.time, sn, st, sr] 53
 have hL : Below W.heap.size W (W.alloc (.cells #[.string u.nm, .bool u.bld, .bool u.dep, .int .i64 u.cls, .int .i64 u.w, .int .i64 u.h, .int .i64 u.rad, .int .i64 u.spd, .int .i64 u.sgt, .int .i64 u.hp, .int .i64 u.arm, .int .i64 u.load, .string u.wpn, .int .i64 u.ore, .int .i64 u.wood, .int .i64 u.time, sn, st, sr] 53)) := (Below.refl _ W).alloc (Nat.le_refl _) _
 obtain ⟨C1, C2, C3, C4, C5, C6, C7, C8, C9, C10, C11, C13, C14, C15⟩ : _ ∧ _ ∧ _ ∧ _ ∧ _ ∧ _ ∧ _ ∧ _ ∧ _ ∧ _ ∧ _ ∧ _ ∧ _ ∧ _ := ⟨hB.cell 1, hB.cell 2, hB.cell 3, hB.cell 4, hB.cell 5, hB.cell 6, hB.cell 7, hB.cell 8, hB.cell 9, hB.cell 10, hB.cell 11, hB.cell 13, hB.cell 14, hB.cell 15⟩
 simp only [List.getElem?_cons_zero, List.getElem?_cons_succ] at C1 C2 C3 C4 C5 C6 C7 C8 C9 C10 C11 C13 C14 C15
 obtain ⟨q1, h1⟩ : ∃ q, Hid (q = rngv u.sgt 0 16) := ⟨_, hid rfl⟩
 have c1 := fun V => r9within_b u.sgt 0 16 q1 V h1
 obtain ⟨q2, h2⟩ : ∃ q, Hid (q = rngv u.hp 1 100000) := ⟨_, hid rfl⟩
 have c2 := fun V => r9within_b u.hp 1 100000 q2 V h2
 obtain ⟨q3, h3⟩ : ∃ q, Hid (q = statv u.arm) := ⟨_, hid rfl⟩
 have c3 := fun V => r9stat_b u.arm q3 V h3
 obtain ⟨q4, h4⟩ : ∃ q, Hid (q = statv u.ore) := ⟨_, hid rfl⟩
 have c4 := fun V => r9stat_b u.ore q4 V h4
 obtain ⟨q5, h5⟩ : ∃ q, Hid (q = statv u.wood) := ⟨_, hid rfl⟩
 have c5 := fun V => r9stat_b u.wood q5 V h5
 obtain ⟨q6, h6⟩ : ∃ q, Hid (q = statv u.time) := ⟨_, hid rfl⟩
 have c6 := fun V => r9stat_b u.time q6 V h6
 obtain ⟨q7, h7⟩ : ∃ q, (u.cls == 0) = q := ⟨_, rfl⟩
 obtain ⟨q8, h8⟩ : ∃ q, Hid (q = rngv u.w 1 4) := ⟨_, hid rfl⟩
 have c8 := fun V => r9within_b u.w 1 4 q8 V h8
 obtain ⟨q9, h9⟩ : ∃ q, Hid (q = rngv u.h 1 4) := ⟨_, hid rfl⟩
 have c9 := fun V => r9within_b u.h 1 4 q9 V h9
 obtain ⟨q10, h10⟩ : ∃ q, (u.rad == 0) = q := ⟨_, rfl⟩
 obtain ⟨q11, h11⟩ : ∃ q, (u.spd == 0) = q := ⟨_, rfl⟩
 obtain ⟨q12, h12⟩ : ∃ q, (u.load == 0) = q := ⟨_, rfl⟩
 obtain ⟨q13, h13⟩ : ∃ q, Hid (q = rngv u.cls 1 3) := ⟨_, hid rfl⟩
 have c13 := fun V => r9within_b u.cls 1 3 q13 V h13
 obtain ⟨q14, h14⟩ : ∃ q, (u.w == 0) = q := ⟨_, rfl⟩
 obtain ⟨q15, h15⟩ : ∃ q, (u.h == 0) = q := ⟨_, rfl⟩
 obtain ⟨q16, h16⟩ : ∃ q, Hid (q = rngv u.rad 16 128) := ⟨_, hid rfl⟩
 have c16 := fun V => r9within_b u.rad 16 128 q16 V h16
 obtain ⟨q17, h17⟩ : ∃ q, Hid (q = rngv u.spd 0 256) := ⟨_, hid rfl⟩
 have c17 := fun V => r9within_b u.spd 0 256 q17 V h17
 obtain ⟨q18, h18⟩ : ∃ q, Hid (q = statv u.load) := ⟨_, hid rfl⟩
 have c18 := fun V => r9stat_b u.load q18 V h18
 have E : Hid (b = if (q1 && q2 && q3 && q4 && q5 && q6) = true then (if u.bld = true then q7 && q8 && q9 && q10 && q11 && q12 else q13 && q14 && q15 && q16 && q17 && q18 && !u.dep) else false) := hid (by
  rw [e.out, h1.out, h2.out, h3.out, h4.out, h5.out, h6.out, ← h7, h8.out, h9.out, ← h10, ← h11, ← h12, h13.out, ← h14, ← h15, h16.out, h17.out, h18.out]
  rfl)
 clear e h1 h2 h3 h4 h5 h6 h8 h9 h13 h16 h17 h18
 go_enter Tryz.func83, Tryz.ntmps83
 go_wp2_with fail
 generalize W.alloc (.cells #[.string u.nm, .bool u.bld, .bool u.dep, .int .i64 u.cls, .int .i64 u.w, .int .i64 u.h, .int .i64 u.rad, .int .i64 u.spd, .int .i64 u.sgt, .int .i64 u.hp, .int .i64 u.arm, .int .i64 u.load, .string u.wpn, .int .i64 u.ore, .int .i64 u.wood, .int .i64 u.time, sn, st, sr] 53) = V at *
 ((with_reducible refine (c1 _).mono ?_); rintro e w1 ⟨rfl, rfl⟩)
 cases q1 with
 | false =>
  have hb : b = false := E.out.trans (by simp)
  subst hb
  clear E
  go_wp2_with fail
  go_ret
  exact ⟨rfl, hL⟩
 | true =>
  go_wp2_with fail
  ((with_reducible refine (c2 _).mono ?_); rintro e w1 ⟨rfl, rfl⟩)
  cases q2 with
  | false =>
   have hb : b = false := E.out.trans (by simp)
   subst hb
   clear E
   go_wp2_with fail
   go_ret
   exact ⟨rfl, hL⟩
  | true =>
   go_wp2_with fail
   ((with_reducible refine (c3 _).mono ?_); rintro e w1 ⟨rfl, rfl⟩)
   cases q3 with
   | false =>
    have hb : b = false := E.out.trans (by simp)
    subst hb
    clear E
    go_wp2_with fail
    go_ret
    exact ⟨rfl, hL⟩
   | true =>
    go_wp2_with fail
    ((with_reducible refine (c4 _).mono ?_); rintro e w1 ⟨rfl, rfl⟩)
    cases q4 with
    | false =>
     have hb : b = false := E.out.trans (by simp)
     subst hb
     clear E
     go_wp2_with fail
     go_ret
     exact ⟨rfl, hL⟩
    | true =>
     go_wp2_with fail
     ((with_reducible refine (c5 _).mono ?_); rintro e w1 ⟨rfl, rfl⟩)
     cases q5 with
     | false =>
      have hb : b = false := E.out.trans (by simp)
      subst hb
      clear E
      go_wp2_with fail
      go_ret
      exact ⟨rfl, hL⟩
     | true =>
      go_wp2_with fail
      ((with_reducible refine (c6 _).mono ?_); rintro e w1 ⟨rfl, rfl⟩)
      cases q6 with
      | false =>
       have hb : b = false := E.out.trans (by simp)
       subst hb
       clear E
       go_wp2_with fail
       go_ret
       exact ⟨rfl, hL⟩
      | true =>
       by_cases hbd : u.bld = true
       · cases q7 with
         | false =>
          have hb : b = false := E.out.trans (by simp [hbd])
          subst hb
          clear E
          go_wp2_with fail
          go_ret
          exact ⟨rfl, hL⟩
         | true =>
          go_wp2_with fail
          ((with_reducible refine (c8 _).mono ?_); rintro e w1 ⟨rfl, rfl⟩)
          cases q8 with
          | false =>
           have hb : b = false := E.out.trans (by simp [hbd])
           subst hb
           clear E
           go_wp2_with fail
           go_ret
           exact ⟨rfl, hL⟩
          | true =>
           go_wp2_with fail
           ((with_reducible refine (c9 _).mono ?_); rintro e w1 ⟨rfl, rfl⟩)
           cases q9 with
           | false =>
            have hb : b = false := E.out.trans (by simp [hbd])
            subst hb
            clear E
            go_wp2_with fail
            go_ret
            exact ⟨rfl, hL⟩
           | true =>
            cases q10 with
            | false =>
             have hb : b = false := E.out.trans (by simp [hbd])
             subst hb
             clear E
             go_wp2_with fail
             go_ret
             exact ⟨rfl, hL⟩
            | true =>
             cases q11 with
             | false =>
              have hb : b = false := E.out.trans (by simp [hbd])
              subst hb
              clear E
              go_wp2_with fail
              go_ret
              exact ⟨rfl, hL⟩
             | true =>
              cases q12 with
              | false =>
               have hb : b = false := E.out.trans (by simp [hbd])
               subst hb
               clear E
               go_wp2_with fail
               go_ret
               exact ⟨rfl, hL⟩
              | true =>
               have hb : b = true := E.out.trans (by simp [hbd])
               subst hb
               clear E
               go_wp2_with fail
               go_ret
               exact ⟨rfl, hL⟩
       · replace hbd : u.bld = false := by simpa using hbd
         go_wp2_with fail
         ((with_reducible refine (c13 _).mono ?_); rintro e w1 ⟨rfl, rfl⟩)
         cases q13 with
         | false =>
          have hb : b = false := E.out.trans (by simp [hbd])
          subst hb
          clear E
          go_wp2_with fail
          go_ret
          exact ⟨rfl, hL⟩
         | true =>
          cases q14 with
          | false =>
           have hb : b = false := E.out.trans (by simp [hbd])
           subst hb
           clear E
           go_wp2_with fail
           go_ret
           exact ⟨rfl, hL⟩
          | true =>
           cases q15 with
           | false =>
            have hb : b = false := E.out.trans (by simp [hbd])
            subst hb
            clear E
            go_wp2_with fail
            go_ret
            exact ⟨rfl, hL⟩
           | true =>
            go_wp2_with fail
            ((with_reducible refine (c16 _).mono ?_); rintro e w1 ⟨rfl, rfl⟩)
            cases q16 with
            | false =>
             have hb : b = false := E.out.trans (by simp [hbd])
             subst hb
             clear E
             go_wp2_with fail
             go_ret
             exact ⟨rfl, hL⟩
            | true =>
             go_wp2_with fail
             ((with_reducible refine (c17 _).mono ?_); rintro e w1 ⟨rfl, rfl⟩)
             cases q17 with
             | false =>
              have hb : b = false := E.out.trans (by simp [hbd])
              subst hb
              clear E
              go_wp2_with fail
              go_ret
              exact ⟨rfl, hL⟩
             | true =>
              go_wp2_with fail
              ((with_reducible refine (c18 _).mono ?_); rintro e w1 ⟨rfl, rfl⟩)
              cases q18 with
              | false =>
               have hb : b = false := E.out.trans (by simp [hbd])
               subst hb
               clear E
               go_wp2_with fail
               go_ret
               exact ⟨rfl, hL⟩
              | true =>
               have hb : b = !u.dep := E.out.trans (by simp [hbd])
               subst hb
               clear E
               go_wp2_with fail
               go_ret
               exact ⟨rfl, hL⟩
end
section
open Go.RowKit Go.Lib
theorem CellsAt.below {W w' : World} {g o : Nat} {v : Value} {vs : List Value} (h : CellsAt W g o (v :: vs)) (hb : Below W.heap.size W w') : CellsAt w' g o (v :: vs) := fun i x e => (hb.cell (p := ⟨g, o + i, none⟩) h.lt).trans (h i x e)
theorem UAt.below {W w' : World} {g o : Nat} {u : U9} (h : UAt W g o u) (hb : Below W.heap.size W w') : UAt w' g o u := by
 obtain ⟨sn, st, sr, h0, h1, h2, h3⟩ := h
 exact ⟨sn, st, sr, h0.below hb, h1.below hb, h2.below hb, h3.below hb⟩
theorem WAt.below {W w' : World} {g o : Nat} {u : W9} (h : WAt W g o u) (hb : Below W.heap.size W w') : WAt w' g o u := CellsAt.below h hb
theorem TAt.below {W w' : World} {g o : Nat} {u : T9} (h : TAt W g o u) (hb : Below W.heap.size W w') : TAt w' g o u := by
 obtain ⟨sn, h0, h1⟩ := h
 exact ⟨sn, h0.below hb, h1.below hb⟩
theorem SlAt.below_ {α : Type} {at_ : World → Nat → Nat → α → Prop} {k : Nat} {W w' : World} {v : Value} {l : List α} (h : SlAt at_ k W v l) (f : ∀ g o x, at_ W g o x → at_ w' g o x) : SlAt at_ k w' v l := by
 obtain ⟨p, c, rfl, hm, hc⟩ := h
 refine ⟨p, c, rfl, hm, fun h1 => ?_⟩
 obtain ⟨g, o, rfl, hi⟩ := hc h1
 exact ⟨g, o, rfl, fun i hi' => f _ _ _ (hi i hi')⟩
theorem RAt.below {W w' : World} {su sw st : Value} {r : R9} (h : RAt W su sw st r) (hb : Below W.heap.size W w') : RAt w' su sw st r :=
 ⟨h.u.below_ fun _ _ _ k => k.below hb, h.w.below_ fun _ _ _ k => WAt.below k hb, h.t.below_ fun _ _ _ k => k.below hb⟩
end
section
open Go.RowKit Go.Lib
set_option maxHeartbeats 4000000 in
set_option maxRecDepth 100000 in
theorem r9units_b (su sw st : Value) (r : R9) (W : World) (hR : RAt W su sw st r) (hsm : r.us.length ≤ 1000) :
 Calls Tryz.prog 80 #[.agg #[su, sw, st]] W fun e w' => ∃ v, e = .returned v ∧ w'.ownsRow (W.heap.size + 1) 9 1 v r.us.length (strs (namesU r)) ∧ Below W.heap.size W w' := by
 have hat0 := hR.u
 obtain ⟨p, c, rfl, -, hat⟩ := hat0
 have hB := Blk.new W [.slice p r.us.length c, sw, st] 31
 obtain ⟨i0, hi0, hz0, hz1, hz2⟩ := info_cut9 infoStr9
 have hL := (Below.refl W.heap.size W).alloc (Nat.le_refl _) (.cells #[.slice p r.us.length c, sw, st] 31)
 clear hR
 go_enter Tryz.func80, Tryz.ntmps80
 go_wp2_with fail
 generalize W.alloc (.cells #[.slice p r.us.length c, sw, st] 31) = V at *
 go_loopw [3, 4] (fun vo vi wr => ∃ i : Nat, vi = .int .i64 i ∧ i ≤ r.us.length ∧ wr.ownsRow (W.heap.size + 1) 9 1 vo i (strs ((namesU r).take i)) ∧ Blk wr W.heap.size [.slice p r.us.length c, sw, st] 31 ∧ Below W.heap.size W wr) (fun _ vi _ => r.us.length - (RowKit.intOf vi).toNat)
 case atStart => exact ⟨0, rfl, by omega, World.ownsRow_nil _ _ _ _, hB, hL⟩
 case round =>
  clear hB hL
  obtain ⟨i, rfl, hi, hown, hB, hL⟩ := hrel
  have b0 := hB.cell 0
  simp only [List.getElem?_cons_zero] at b0
  by_cases hlt : i < r.us.length
  · have d1 : (i : Int) < r.us.length := by omega
    have d0 : (0 : Int) ≤ i := by omega
    obtain ⟨g, o, rfl, hc⟩ := hat (by omega)
    obtain ⟨sn, sm, sr, hcc, -, -, -⟩ := hc i hlt
    have k1 := (hL.cell (p := ⟨g, o + i * 19, none⟩) (World.block_lt_of_cell? W _ (hcc 0 _ rfl))).trans (hcc 0 _ rfl)
    have hN := hid (map_take (f := U9.nm) hlt)
    obtain ⟨x, hx⟩ : ∃ x, (r.us[i]'hlt).nm = x := ⟨_, rfl⟩
    rw [hx] at k1 hN
    have hz := hB.lt
    clear hx hat hc hcc
    go_wp2_with (at_builtin; refine wpList_append_own _ rfl _ _ 23 rfl (W.heap.size + 1) 9 i0 (.string ⟨#[]⟩) 1 16 Tryz.underlying23 hi0 hz0 hz1 hz2 rfl (by decide) _ _ _ rfl (hown.alloc _) ⟨wr.heap.size, 0, none⟩ 1 1 [.string x] rfl rfl cells_new (str_lone9 _) (by unfold maxLen; omega) (by omega) (by simp; omega) ?_)
    intro v' w' hown' hg' _
    have hb' := below_push (t := 9) hL.size hL hown (by omega) hg'
    have hB' := (hB.alloc (.cells #[.string x] 9)).grown hg' (own_not hown (by omega))
    have hown2 := own_to hown' (m := i + 1) (ys := strs ((namesU r).take (i + 1))) rfl (by unfold namesU; rw [hN.out]; exact strs_snoc _ x)
    clear hg' hown hL hown' hB b0 k1 hN
    go_wp2_with fail
    go_roundw
    case rel => exact ⟨i + 1, by go_num, by omega, hown2, hB', hb'⟩
    case measure => simp [RowKit.intOf]; omega
  · obtain rfl : i = r.us.length := by omega
    have hown2 := own_to hown (m := r.us.length) (ys := strs (namesU r)) rfl (by rw [List.take_of_length_le (by unfold namesU; simp)])
    have d1 : ¬ (r.us.length : Int) < r.us.length := by omega
    clear hown hat
    go_wp2_with fail
    go_ret
    exact ⟨_, rfl, hown2, hL⟩
set_option maxHeartbeats 4000000 in
set_option maxRecDepth 100000 in
theorem r9weapons_b (su sw st : Value) (r : R9) (W : World) (hR : RAt W su sw st r) (hsm : r.ws.length ≤ 1000) :
 Calls Tryz.prog 81 #[.agg #[su, sw, st]] W fun e w' => ∃ v, e = .returned v ∧ w'.ownsRow (W.heap.size + 1) 9 1 v r.ws.length (strs (namesW r)) ∧ Below W.heap.size W w' := by
 have hat0 := hR.w
 obtain ⟨p, c, rfl, -, hat⟩ := hat0
 have hB := Blk.new W [su, .slice p r.ws.length c, st] 31
 obtain ⟨i0, hi0, hz0, hz1, hz2⟩ := info_cut9 infoStr9
 have hL := (Below.refl W.heap.size W).alloc (Nat.le_refl _) (.cells #[su, .slice p r.ws.length c, st] 31)
 clear hR
 go_enter Tryz.func81, Tryz.ntmps81
 go_wp2_with fail
 generalize W.alloc (.cells #[su, .slice p r.ws.length c, st] 31) = V at *
 go_loopw [3, 4] (fun vo vi wr => ∃ i : Nat, vi = .int .i64 i ∧ i ≤ r.ws.length ∧ wr.ownsRow (W.heap.size + 1) 9 1 vo i (strs ((namesW r).take i)) ∧ Blk wr W.heap.size [su, .slice p r.ws.length c, st] 31 ∧ Below W.heap.size W wr) (fun _ vi _ => r.ws.length - (RowKit.intOf vi).toNat)
 case atStart => exact ⟨0, rfl, by omega, World.ownsRow_nil _ _ _ _, hB, hL⟩
 case round =>
  clear hB hL
  obtain ⟨i, rfl, hi, hown, hB, hL⟩ := hrel
  have b0 := hB.cell 1
  simp only [List.getElem?_cons_zero, List.getElem?_cons_succ] at b0
  by_cases hlt : i < r.ws.length
  · have d1 : (i : Int) < r.ws.length := by omega
    have d0 : (0 : Int) ≤ i := by omega
    obtain ⟨g, o, rfl, hc⟩ := hat (by omega)
    have hcc := hc i hlt
    have k1 := (hL.cell (p := ⟨g, o + i * 6, none⟩) (World.block_lt_of_cell? W _ (hcc 0 _ rfl))).trans (hcc 0 _ rfl)
    have hN := hid (map_take (f := W9.nm) hlt)
    obtain ⟨x, hx⟩ : ∃ x, (r.ws[i]'hlt).nm = x := ⟨_, rfl⟩
    rw [hx] at k1 hN
    have hz := hB.lt
    clear hx hat hc hcc
    go_wp2_with (at_builtin; refine wpList_append_own _ rfl _ _ 23 rfl (W.heap.size + 1) 9 i0 (.string ⟨#[]⟩) 1 16 Tryz.underlying23 hi0 hz0 hz1 hz2 rfl (by decide) _ _ _ rfl (hown.alloc _) ⟨wr.heap.size, 0, none⟩ 1 1 [.string x] rfl rfl cells_new (str_lone9 _) (by unfold maxLen; omega) (by omega) (by simp; omega) ?_)
    intro v' w' hown' hg' _
    have hb' := below_push (t := 9) hL.size hL hown (by omega) hg'
    have hB' := (hB.alloc (.cells #[.string x] 9)).grown hg' (own_not hown (by omega))
    have hown2 := own_to hown' (m := i + 1) (ys := strs ((namesW r).take (i + 1))) rfl (by unfold namesW; rw [hN.out]; exact strs_snoc _ x)
    clear hg' hown hL hown' hB b0 k1 hN
    go_wp2_with fail
    go_roundw
    case rel => exact ⟨i + 1, by go_num, by omega, hown2, hB', hb'⟩
    case measure => simp [RowKit.intOf]; omega
  · obtain rfl : i = r.ws.length := by omega
    have hown2 := own_to hown (m := r.ws.length) (ys := strs (namesW r)) rfl (by rw [List.take_of_length_le (by unfold namesW; simp)])
    have d1 : ¬ (r.ws.length : Int) < r.ws.length := by omega
    clear hown hat
    go_wp2_with fail
    go_ret
    exact ⟨_, rfl, hown2, hL⟩
set_option maxHeartbeats 4000000 in
set_option maxRecDepth 100000 in
theorem r9techs_b (su sw st : Value) (r : R9) (W : World) (hR : RAt W su sw st r) (hsm : r.ts.length ≤ 1000) :
 Calls Tryz.prog 44 #[.agg #[su, sw, st]] W fun e w' => ∃ v, e = .returned v ∧ w'.ownsRow (W.heap.size + 1) 9 1 v r.ts.length (strs (namesT r)) ∧ Below W.heap.size W w' := by
 have hat0 := hR.t
 obtain ⟨p, c, rfl, -, hat⟩ := hat0
 have hB := Blk.new W [su, sw, .slice p r.ts.length c] 31
 obtain ⟨i0, hi0, hz0, hz1, hz2⟩ := info_cut9 infoStr9
 have hL := (Below.refl W.heap.size W).alloc (Nat.le_refl _) (.cells #[su, sw, .slice p r.ts.length c] 31)
 clear hR
 go_enter Tryz.func44, Tryz.ntmps44
 go_wp2_with fail
 generalize W.alloc (.cells #[su, sw, .slice p r.ts.length c] 31) = V at *
 go_loopw [3, 4] (fun vo vi wr => ∃ i : Nat, vi = .int .i64 i ∧ i ≤ r.ts.length ∧ wr.ownsRow (W.heap.size + 1) 9 1 vo i (strs ((namesT r).take i)) ∧ Blk wr W.heap.size [su, sw, .slice p r.ts.length c] 31 ∧ Below W.heap.size W wr) (fun _ vi _ => r.ts.length - (RowKit.intOf vi).toNat)
 case atStart => exact ⟨0, rfl, by omega, World.ownsRow_nil _ _ _ _, hB, hL⟩
 case round =>
  clear hB hL
  obtain ⟨i, rfl, hi, hown, hB, hL⟩ := hrel
  have b0 := hB.cell 2
  simp only [List.getElem?_cons_zero, List.getElem?_cons_succ] at b0
  by_cases hlt : i < r.ts.length
  · have d1 : (i : Int) < r.ts.length := by omega
    have d0 : (0 : Int) ≤ i := by omega
    obtain ⟨g, o, rfl, hc⟩ := hat (by omega)
    obtain ⟨sn, hcc, -⟩ := hc i hlt
    have k1 := (hL.cell (p := ⟨g, o + i * 8, none⟩) (World.block_lt_of_cell? W _ (hcc 0 _ rfl))).trans (hcc 0 _ rfl)
    have hN := hid (map_take (f := T9.nm) hlt)
    obtain ⟨x, hx⟩ : ∃ x, (r.ts[i]'hlt).nm = x := ⟨_, rfl⟩
    rw [hx] at k1 hN
    have hz := hB.lt
    clear hx hat hc hcc
    go_wp2_with (at_builtin; refine wpList_append_own _ rfl _ _ 23 rfl (W.heap.size + 1) 9 i0 (.string ⟨#[]⟩) 1 16 Tryz.underlying23 hi0 hz0 hz1 hz2 rfl (by decide) _ _ _ rfl (hown.alloc _) ⟨wr.heap.size, 0, none⟩ 1 1 [.string x] rfl rfl cells_new (str_lone9 _) (by unfold maxLen; omega) (by omega) (by simp; omega) ?_)
    intro v' w' hown' hg' _
    have hb' := below_push (t := 9) hL.size hL hown (by omega) hg'
    have hB' := (hB.alloc (.cells #[.string x] 9)).grown hg' (own_not hown (by omega))
    have hown2 := own_to hown' (m := i + 1) (ys := strs ((namesT r).take (i + 1))) rfl (by unfold namesT; rw [hN.out]; exact strs_snoc _ x)
    clear hg' hown hL hown' hB b0 k1 hN
    go_wp2_with fail
    go_roundw
    case rel => exact ⟨i + 1, by go_num, by omega, hown2, hB', hb'⟩
    case measure => simp [RowKit.intOf]; omega
  · obtain rfl : i = r.ts.length := by omega
    have hown2 := own_to hown (m := r.ts.length) (ys := strs (namesT r)) rfl (by rw [List.take_of_length_le (by unfold namesT; simp)])
    have d1 : ¬ (r.ts.length : Int) < r.ts.length := by omega
    clear hown hat
    go_wp2_with fail
    go_ret
    exact ⟨_, rfl, hown2, hL⟩
end
section
open Go.RowKit Go.Lib
section
variable {P : Program} {W : World} {us : List Value}
theorem CellsAt.first {g o : Nat} {v : Value} (h : CellsAt W g o us) (e : us[0]? = some v) : W.cell? ⟨g, o, none⟩ = some v := h 0 v e
end
theorem buildT : ∀ w, Sem.run Tryz.prog (Instr.build 56 #[]) w = .ok (.agg tZero.toArray) w := fun w => by kernel_rfl
theorem tZero_tl (W : World) : TL W tZero T9.zero := ⟨_, rfl, strSl_nil W⟩
theorem find_take {α : Type} {p : α → Bool} {l : List α} {i : Nat} (hi : i < l.length) (h : (l.take i).find? p = none) (hn : p (l[i]'hi) = false) : (l.take (i + 1)).find? p = none := by
 rw [List.take_succ_eq_append_getElem hi, List.find?_append, h]
 simp [hn]
end
section
open Go.RowKit Go.Lib
def UnitPost (r : R9) (s : ByteArray) (V0 w : World) (e : Ending) (w' : World) : Prop := ∃ vs, e = .returned (.tuple #[.agg vs.toArray, .bool (unitv r s).isSome]) ∧ UL V0 vs ((unitv r s).getD U9.zero) ∧ Below w.heap.size w w'
set_option maxHeartbeats 4000000 in
set_option maxRecDepth 100000 in
theorem r9unit_b (su sw st : Value) (r : R9) (s : ByteArray) (V0 W : World) (hR : RAt V0 su sw st r) (h0 : Below V0.heap.size V0 W) :
 Calls Tryz.prog 88 #[.agg #[su, sw, st], .string s] W (UnitPost r s V0 W) := by
 obtain ⟨p, c, rfl, hm, hat⟩ := hR.u
 have hB := (Blk.new W [.slice p r.us.length c, sw, st] 31).alloc (.cells uZero.toArray 53)
 have hZ := (Blk.new (W.alloc (.cells [.slice p r.us.length c, sw, st].toArray 31)) uZero 53).at (World.size_alloc _ _)
 have hL := ((Below.refl W.heap.size W).alloc (Nat.le_refl _) (.cells [.slice p r.us.length c, sw, st].toArray 31)).alloc (by simp) (.cells uZero.toArray 53)
 have hL0 := h0.trans (hL.mono h0.size)
 unfold maxLen at hm
 clear hR
 go_enter Tryz.func88, Tryz.ntmps88
 go_wp2_with (with_reducible refine wpList_alloc_agg rfl 53 rfl _ rfl uZero zeroU ?_)
 generalize (W.alloc (.cells [.slice p r.us.length c, sw, st].toArray 31)).alloc (.cells uZero.toArray 53) = V at *
 have b0 := hB.cell 0
 simp only [List.getElem?_cons_zero] at b0
 go_loop [6] (fun vi => ∃ i : Nat, vi = .int .i64 i ∧ i ≤ r.us.length ∧ Hid ((r.us.take i).find? (fun u => decide (u.nm = s)) = none)) (fun vi => r.us.length - (RowKit.intOf vi).toNat)
 case atStart => exact ⟨0, rfl, by omega, hid rfl⟩
 case round =>
  obtain ⟨i, rfl, hi, hA⟩ := hrel
  by_cases hlt : i < r.us.length
  · have d1 : (i : Int) < r.us.length := by omega
    have d0 : (0 : Int) ≤ i := by omega
    obtain ⟨g, o, rfl, hc⟩ := hat (by omega)
    obtain ⟨vs, hU, hcs⟩ := (hc i hlt).ul
    have hcV := hcs.below' (hcs.lt' hU.name) hL0
    have k0 := hcV.first hU.name
    have kl := hcV.loads (P := Tryz.prog) hU.len
    have HN := fun (q : ¬ (r.us[i]'hlt).nm = s) => hid (find_take (p := fun u => decide (u.nm = s)) hlt hA.out (decide_eq_false q))
    have HY := fun (q : (r.us[i]'hlt).nm = s) => hid (find_at (p := fun u => decide (u.nm = s)) hlt hA.out (decide_eq_true q))
    obtain ⟨u, hu⟩ : ∃ u, r.us[i]'hlt = u := ⟨_, rfl⟩
    rw [hu] at k0 HN HY hU
    clear hat hA hc hu hcs
    by_cases hq : u.nm = s
    · have HS := HY hq
      clear HY HN
      rw [hq] at k0
      have hU' := hid hU
      have hcV' := hid hcV
      have kl' := hid kl
      clear hU hcV kl
      go_wp2_with (first | (with_reducible refine wpList_load_agg rfl 53 _ rfl ⟨g, o + i * 19, none⟩ (by with_unfolding_all rfl) Tryz.isAgg53 Tryz.sizeOf53 vs kl'.out ?_) | (with_reducible refine wpList_store_agg rfl 53 _ _ rfl rfl (W.heap.size + 1) (by with_unfolding_all rfl) Tryz.sizeOf53 vs (by with_unfolding_all rfl) hU'.out.len hZ rfl hU'.out.lone ?_))
      refine bodyPost_ret (results_agg_two rfl rfl rfl Tryz.isAgg53 Tryz.sizeOf53 (hZ.put vs) hU'.out.len) rfl ?_
      have hL2 := below_setRow hL (Nat.le_succ W.heap.size) vs.toArray
      refine ⟨vs, ?_, ?_, hL2⟩
      · unfold unitv; rw [HS.out]; rfl
      · unfold unitv; rw [HS.out]; exact hU'.out
    · have hns := ne_list hq
      obtain ⟨q1, q2⟩ := hns
      have HS := HN hq
      clear HN HY hq kl
      go_wp2_with fail
      go_round
      case rel => exact ⟨i + 1, by go_num, by omega, HS⟩
      case measure => simp [RowKit.intOf]; omega
  · obtain rfl : i = r.us.length := by omega
    have ha := hA.out
    rw [List.take_length] at ha
    have d1 : ¬ (r.us.length : Int) < r.us.length := by omega
    have ha' := hid ha
    clear ha hA hat
    go_wp2_with (first | (with_reducible refine wpList_zero_agg rfl 53 rfl uZero buildU ?_) | (with_reducible refine wpList_store_agg rfl 53 _ _ rfl rfl (W.heap.size + 1) (by with_unfolding_all rfl) Tryz.sizeOf53 uZero (by with_unfolding_all rfl) rfl hZ rfl (uZero_ul W).lone ?_))
    refine bodyPost_ret (results_agg_two rfl rfl rfl Tryz.isAgg53 Tryz.sizeOf53 (hZ.put uZero) rfl) rfl ?_
    have hL2 := below_setRow hL (Nat.le_succ W.heap.size) uZero.toArray
    refine ⟨uZero, ?_, ?_, hL2⟩
    · unfold unitv; rw [ha'.out]; rfl
    · unfold unitv; rw [ha'.out]; exact uZero_ul _
def TechPost (r : R9) (s : ByteArray) (V0 w : World) (e : Ending) (w' : World) : Prop := ∃ vs, e = .returned (.tuple #[.agg vs.toArray, .bool (techfv r s).isSome]) ∧ TL V0 vs ((techfv r s).getD T9.zero) ∧ Below w.heap.size w w'
set_option maxHeartbeats 4000000 in
set_option maxRecDepth 100000 in
theorem r9tech_b (su sw st : Value) (r : R9) (s : ByteArray) (V0 W : World) (hR : RAt V0 su sw st r) (h0 : Below V0.heap.size V0 W) :
 Calls Tryz.prog 117 #[.agg #[su, sw, st], .string s] W (TechPost r s V0 W) := by
 obtain ⟨p, c, rfl, hm, hat⟩ := hR.t
 have hB := (Blk.new W [su, sw, .slice p r.ts.length c] 31).alloc (.cells tZero.toArray 56)
 have hZ := (Blk.new (W.alloc (.cells [su, sw, .slice p r.ts.length c].toArray 31)) tZero 56).at (World.size_alloc _ _)
 have hL := ((Below.refl W.heap.size W).alloc (Nat.le_refl _) (.cells [su, sw, .slice p r.ts.length c].toArray 31)).alloc (by simp) (.cells tZero.toArray 56)
 have hL0 := h0.trans (hL.mono h0.size)
 unfold maxLen at hm
 clear hR
 go_enter Tryz.func117, Tryz.ntmps117
 go_wp2_with (with_reducible refine wpList_alloc_agg rfl 56 rfl _ rfl tZero zeroT ?_)
 generalize (W.alloc (.cells [su, sw, .slice p r.ts.length c].toArray 31)).alloc (.cells tZero.toArray 56) = V at *
 have b0 := hB.cell 2
 simp only [List.getElem?_cons_zero, List.getElem?_cons_succ] at b0
 go_loop [6] (fun vi => ∃ i : Nat, vi = .int .i64 i ∧ i ≤ r.ts.length ∧ Hid ((r.ts.take i).find? (fun u => decide (u.nm = s)) = none)) (fun vi => r.ts.length - (RowKit.intOf vi).toNat)
 case atStart => exact ⟨0, rfl, by omega, hid rfl⟩
 case round =>
  obtain ⟨i, rfl, hi, hA⟩ := hrel
  by_cases hlt : i < r.ts.length
  · have d1 : (i : Int) < r.ts.length := by omega
    have d0 : (0 : Int) ≤ i := by omega
    obtain ⟨g, o, rfl, hc⟩ := hat (by omega)
    obtain ⟨vs, hU, hcs⟩ := (hc i hlt).tl
    have hcV := hcs.below' (hcs.lt' hU.name) hL0
    have k0 := hcV.first hU.name
    have kl := hcV.loads (P := Tryz.prog) hU.len
    have HN := fun (q : ¬ (r.ts[i]'hlt).nm = s) => hid (find_take (p := fun u => decide (u.nm = s)) hlt hA.out (decide_eq_false q))
    have HY := fun (q : (r.ts[i]'hlt).nm = s) => hid (find_at (p := fun u => decide (u.nm = s)) hlt hA.out (decide_eq_true q))
    obtain ⟨u, hu⟩ : ∃ u, r.ts[i]'hlt = u := ⟨_, rfl⟩
    rw [hu] at k0 HN HY hU
    clear hat hA hc hu hcs
    by_cases hq : u.nm = s
    · have HS := HY hq
      clear HY HN
      rw [hq] at k0
      have hU' := hid hU
      have hcV' := hid hcV
      have kl' := hid kl
      clear hU hcV kl
      go_wp2_with (first | (with_reducible refine wpList_load_agg rfl 56 _ rfl ⟨g, o + i * 8, none⟩ (by with_unfolding_all rfl) Tryz.isAgg56 Tryz.sizeOf56 vs kl'.out ?_) | (with_reducible refine wpList_store_agg rfl 56 _ _ rfl rfl (W.heap.size + 1) (by with_unfolding_all rfl) Tryz.sizeOf56 vs (by with_unfolding_all rfl) hU'.out.len hZ rfl hU'.out.lone ?_))
      refine bodyPost_ret (results_agg_two rfl rfl rfl Tryz.isAgg56 Tryz.sizeOf56 (hZ.put vs) hU'.out.len) rfl ?_
      have hL2 := below_setRow hL (Nat.le_succ W.heap.size) vs.toArray
      refine ⟨vs, ?_, ?_, hL2⟩
      · unfold techfv; rw [HS.out]; rfl
      · unfold techfv; rw [HS.out]; exact hU'.out
    · have hns := ne_list hq
      obtain ⟨q1, q2⟩ := hns
      have HS := HN hq
      clear HN HY hq kl
      go_wp2_with fail
      go_round
      case rel => exact ⟨i + 1, by go_num, by omega, HS⟩
      case measure => simp [RowKit.intOf]; omega
  · obtain rfl : i = r.ts.length := by omega
    have ha := hA.out
    rw [List.take_length] at ha
    have d1 : ¬ (r.ts.length : Int) < r.ts.length := by omega
    have ha' := hid ha
    clear ha hA hat
    go_wp2_with (first | (with_reducible refine wpList_zero_agg rfl 56 rfl tZero buildT ?_) | (with_reducible refine wpList_store_agg rfl 56 _ _ rfl rfl (W.heap.size + 1) (by with_unfolding_all rfl) Tryz.sizeOf56 tZero (by with_unfolding_all rfl) rfl hZ rfl (tZero_tl W).lone ?_))
    refine bodyPost_ret (results_agg_two rfl rfl rfl Tryz.isAgg56 Tryz.sizeOf56 (hZ.put tZero) rfl) rfl ?_
    have hL2 := below_setRow hL (Nat.le_succ W.heap.size) tZero.toArray
    refine ⟨tZero, ?_, ?_, hL2⟩
    · unfold techfv; rw [ha'.out]; rfl
    · unfold techfv; rw [ha'.out]; exact tZero_tl _
end
section
open Go.RowKit Go.Lib
def lim1 (u : U9) : Bool := decide (u.needs.length ≤ 4) && decide (u.trains.length ≤ 4) && decide (u.ress.length ≤ 4)
def lim2 (t : T9) : Bool := decide (t.needs.length ≤ 4)
theorem limv_eq (r : R9) : limv r = (decide (r.us.length ≤ 16) && decide (r.ws.length ≤ 8) && decide (r.ts.length ≤ 12) && r.us.all lim1 && r.ts.all lim2) := rfl
set_option maxHeartbeats 4000000 in
set_option maxRecDepth 100000 in
theorem r9limits_b (su sw st : Value) (r : R9) (b : Bool) (W : World) (hR : RAt W su sw st r) (e : Hid (b = limv r)) :
 Calls Tryz.prog 41 #[.agg #[su, sw, st]] W fun e w' => e = .returned (.bool b) ∧ Below W.heap.size W w' := by
 obtain ⟨p, c, rfl, hm, hat⟩ := hR.u
 obtain ⟨p1, c1, rfl, hm1, -⟩ := hR.w
 obtain ⟨p2, c2, rfl, hm2, hat2⟩ := hR.t
 have hB := Blk.new W [.slice p r.us.length c, .slice p1 r.ws.length c1, .slice p2 r.ts.length c2] 31
 have hL := (Below.refl W.heap.size W).alloc (Nat.le_refl _) (.cells [.slice p r.us.length c, .slice p1 r.ws.length c1, .slice p2 r.ts.length c2].toArray 31)
 unfold maxLen at hm hm1 hm2
 replace e := hid (e.out.trans (limv_eq r))
 clear hR
 by_cases h1 : 16 < r.us.length
 · have hb : b = false := by rw [e.out, decide_eq_false (by omega)]; rfl
   subst hb
   clear e
   go_enter Tryz.func41, Tryz.ntmps41
   go_wp2_with fail
   go_ret
   exact ⟨rfl, hL⟩
 by_cases h2 : 8 < r.ws.length
 · have hb : b = false := by rw [e.out, decide_eq_false (show ¬ r.ws.length ≤ 8 by omega), Bool.and_false]; rfl
   subst hb
   clear e
   go_enter Tryz.func41, Tryz.ntmps41
   go_wp2_with fail
   go_ret
   exact ⟨rfl, hL⟩
 by_cases h3 : 12 < r.ts.length
 · have hb : b = false := by rw [e.out, decide_eq_false (show ¬ r.ts.length ≤ 12 by omega), Bool.and_false]; rfl
   subst hb
   clear e
   go_enter Tryz.func41, Tryz.ntmps41
   go_wp2_with fail
   go_ret
   exact ⟨rfl, hL⟩
 replace e := hid (show b = (r.us.all lim1 && r.ts.all lim2) by rw [e.out, decide_eq_true (show r.us.length ≤ 16 by omega), decide_eq_true (show r.ws.length ≤ 8 by omega), decide_eq_true (show r.ts.length ≤ 12 by omega)]; rfl)
 go_enter Tryz.func41, Tryz.ntmps41
 go_wp2_with fail
 generalize W.alloc (.cells [.slice p r.us.length c, .slice p1 r.ws.length c1, .slice p2 r.ts.length c2].toArray 31) = V at *
 go_loopw [3] (fun vi wr => ∃ i : Nat, vi = .int .i64 i ∧ i ≤ r.us.length ∧ Blk wr W.heap.size [.slice p r.us.length c, .slice p1 r.ws.length c1, .slice p2 r.ts.length c2] 31 ∧ Below W.heap.size W wr ∧ Hid ((r.us.take i).all lim1 = true)) (fun vi _ => r.us.length - (RowKit.intOf vi).toNat)
 case atStart => exact ⟨0, rfl, by omega, hB, hL, hid rfl⟩
 case round =>
  clear hB hL
  obtain ⟨i, rfl, hi, hB, hL, hA⟩ := hrel
  have b0 := hB.cell 0
  have b2 := hB.cell 2
  simp only [List.getElem?_cons_zero, List.getElem?_cons_succ] at b0 b2
  by_cases hlt : i < r.us.length
  · have d1 : (i : Int) < r.us.length := by omega
    have d0 : (0 : Int) ≤ i := by omega
    obtain ⟨g, o, rfl, hc⟩ := hat (by omega)
    obtain ⟨vs, hU, hcs⟩ := (hc i hlt).ul
    have kl := hid ((hcs.below' (hcs.lt' hU.name) hL).loads (P := Tryz.prog) hU.len)
    obtain ⟨pn, cn, pt, ct, pr, cr, hvs, s1, s2, s3⟩ := hU.lists
    have l1 := s1.small
    have l2 := s2.small
    have l3 := s3.small
    have HN := fun q => hid (allp_take (f := lim1) hlt hA.out q)
    have HY := fun q => hid (allp_no (f := lim1) hlt q)
    have hU' := hid hU
    obtain ⟨u, hu⟩ : ∃ u, r.us[i]'hlt = u := ⟨_, rfl⟩
    rw [hu] at HN HY hU' hvs l1 l2 l3
    have hZ := Blk.new wr vs 53
    have t16 : (wr.alloc (.cells vs.toArray 53)).cell? ⟨wr.heap.size, 16, none⟩ = some (.slice pn u.needs.length cn) := (hZ.cell 16).trans (by rw [hvs]; rfl)
    have t17 : (wr.alloc (.cells vs.toArray 53)).cell? ⟨wr.heap.size, 17, none⟩ = some (.slice pt u.trains.length ct) := (hZ.cell 17).trans (by rw [hvs]; rfl)
    have t18 : (wr.alloc (.cells vs.toArray 53)).cell? ⟨wr.heap.size, 18, none⟩ = some (.slice pr u.ress.length cr) := (hZ.cell 18).trans (by rw [hvs]; rfl)
    have hB2 := hB.alloc (.cells vs.toArray 53)
    have hL2 := hL.alloc hL.size (.cells vs.toArray 53)
    clear hu hat hc hU hA hcs s1 s2 s3 hvs hZ
    by_cases g1 : 4 < u.needs.length
    · have hb : b = false := by rw [e.out, (HY (by unfold lim1; simp; omega)).out]; rfl
      subst hb
      clear e HN HY
      go_wp2_with (first | (with_reducible refine wpList_load_agg rfl 53 _ rfl ⟨g, o + i * 19, none⟩ (by with_unfolding_all rfl) Tryz.isAgg53 Tryz.sizeOf53 vs kl.out ?_) | (with_reducible refine wpList_alloc_agg rfl 53 rfl _ rfl uZero zeroU ?_) | (with_reducible refine wpList_store_new rfl 53 _ _ rfl rfl Tryz.sizeOf53 vs uZero 53 (by with_unfolding_all rfl) (by with_unfolding_all rfl) hU'.out.len rfl hU'.out.lone ?_))
      go_ret
      exact ⟨rfl, hL2⟩
    by_cases g2 : 4 < u.trains.length
    · have hb : b = false := by rw [e.out, (HY (by unfold lim1; simp; omega)).out]; rfl
      subst hb
      clear e HN HY
      go_wp2_with (first | (with_reducible refine wpList_load_agg rfl 53 _ rfl ⟨g, o + i * 19, none⟩ (by with_unfolding_all rfl) Tryz.isAgg53 Tryz.sizeOf53 vs kl.out ?_) | (with_reducible refine wpList_alloc_agg rfl 53 rfl _ rfl uZero zeroU ?_) | (with_reducible refine wpList_store_new rfl 53 _ _ rfl rfl Tryz.sizeOf53 vs uZero 53 (by with_unfolding_all rfl) (by with_unfolding_all rfl) hU'.out.len rfl hU'.out.lone ?_))
      go_ret
      exact ⟨rfl, hL2⟩
    by_cases g3 : 4 < u.ress.length
    · have hb : b = false := by rw [e.out, (HY (by unfold lim1; simp; omega)).out]; rfl
      subst hb
      clear e HN HY
      go_wp2_with (first | (with_reducible refine wpList_load_agg rfl 53 _ rfl ⟨g, o + i * 19, none⟩ (by with_unfolding_all rfl) Tryz.isAgg53 Tryz.sizeOf53 vs kl.out ?_) | (with_reducible refine wpList_alloc_agg rfl 53 rfl _ rfl uZero zeroU ?_) | (with_reducible refine wpList_store_new rfl 53 _ _ rfl rfl Tryz.sizeOf53 vs uZero 53 (by with_unfolding_all rfl) (by with_unfolding_all rfl) hU'.out.len rfl hU'.out.lone ?_))
      go_ret
      exact ⟨rfl, hL2⟩
    have HS := HN (by unfold lim1; simp; omega)
    clear HN HY
    go_wp2_with (first | (with_reducible refine wpList_load_agg rfl 53 _ rfl ⟨g, o + i * 19, none⟩ (by with_unfolding_all rfl) Tryz.isAgg53 Tryz.sizeOf53 vs kl.out ?_) | (with_reducible refine wpList_alloc_agg rfl 53 rfl _ rfl uZero zeroU ?_) | (with_reducible refine wpList_store_new rfl 53 _ _ rfl rfl Tryz.sizeOf53 vs uZero 53 (by with_unfolding_all rfl) (by with_unfolding_all rfl) hU'.out.len rfl hU'.out.lone ?_))
    go_roundw
    case rel => exact ⟨i + 1, by go_num, by omega, hB2, hL2, HS⟩
    case measure => simp [RowKit.intOf]; omega
  · obtain rfl : i = r.us.length := by omega
    have ha := hA.out
    rw [List.take_length] at ha
    have d1 : ¬ (r.us.length : Int) < r.us.length := by omega
    replace e := hid (show b = r.ts.all lim2 by rw [e.out, ha]; rfl)
    clear hat ha hA
    go_wp2_with fail
    clear b0 b2 d1
    go_loop [5] (fun vi => ∃ i : Nat, vi = .int .i64 i ∧ i ≤ r.ts.length ∧ Hid ((r.ts.take i).all lim2 = true)) (fun vi => r.ts.length - (RowKit.intOf vi).toNat)
    case atStart => exact ⟨0, rfl, by omega, hid rfl⟩
    case round =>
     obtain ⟨i, rfl, hi, hA⟩ := hrel
     have b2 := hB.cell 2
     simp only [List.getElem?_cons_zero, List.getElem?_cons_succ] at b2
     by_cases hlt : i < r.ts.length
     · have d1 : (i : Int) < r.ts.length := by omega
       have d0 : (0 : Int) ≤ i := by omega
       obtain ⟨g, o, rfl, hc⟩ := hat2 (by omega)
       obtain ⟨vs, hU, hcs⟩ := (hc i hlt).tl
       obtain ⟨pn, cn, hvs, s1⟩ := hU.lists
       have l1 := s1.small
       have k1 : wr.cell? ⟨g, o + i * 8 + 1, none⟩ = some (.slice pn (r.ts[i]'hlt).needs.length cn) := (hcs.below' (hcs.lt' hU.name) hL) 1 _ (by rw [hvs]; rfl)
       have HN := fun q => hid (allp_take (f := lim2) hlt hA.out q)
       have HY := fun q => hid (allp_no (f := lim2) hlt q)
       obtain ⟨u, hu⟩ : ∃ u, r.ts[i]'hlt = u := ⟨_, rfl⟩
       rw [hu] at HN HY k1 l1
       clear hu hat2 hc hU hA hcs s1 hvs
       by_cases g1 : 4 < u.needs.length
       · have hb : b = false := by rw [e.out, (HY (by unfold lim2; simp; omega)).out]
         subst hb
         clear e HN HY
         go_wp2_with fail
         go_ret
         exact ⟨rfl, hL⟩
       have HS := HN (by unfold lim2; simp; omega)
       clear HN HY
       go_wp2_with fail
       go_round
       case rel => exact ⟨i + 1, by go_num, by omega, HS⟩
       case measure => simp [RowKit.intOf]; omega
     · obtain rfl : i = r.ts.length := by omega
       have ha := hA.out
       rw [List.take_length] at ha
       have d1 : ¬ (r.ts.length : Int) < r.ts.length := by omega
       have hb := e.out.trans ha
       subst hb
       clear e ha hA hat2
       go_wp2_with fail
       go_ret
       exact ⟨rfl, hL⟩
end
end

end Go.Proofs.YtnjcdmjaecgblaaGreatDoor
