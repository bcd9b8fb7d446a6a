/-
  What the reference of rules answers: names, elements, limits.
-/
import Derived.Test.YtaefioikflllcaaGreatKit
import Derived.Test.YtaefioikflllcaaGreatProg
import Derived.BigRegion
import Derived.Test.YtaefioikflllcaaGreatRulPure
import Derived.Test.YtaefioikflllcaaGreatMem
import Derived.Test.YtaefioikflllcaaGreatStru
namespace Go.Proofs.YtaefioikflllcaaGreat

section
open Go.RowKit Go.Lib

/-- A slice of strings. -/
def StrSl (W : World) (v : Value) (l : List ByteArray) : Prop :=
  ∃ p c, v = .slice p l.length c ∧ l.length ≤ maxLen ∧ (1 ≤ l.length → ∃ g o, p = some ⟨g, o, none⟩ ∧ ∀ i, (h : i < l.length) → W.cell? ⟨g, o + i, none⟩ = some (.string (l[i]'h)))
theorem StrSl.below {W w' : World} {v : Value} {l : List ByteArray} (h : StrSl W v l) (hb : Below W.heap.size W w') : StrSl w' v l := by
  obtain ⟨p, c, rfl, hm, hc⟩ := h
  refine ⟨p, c, rfl, hm, fun h1 => ?_⟩
  obtain ⟨g, o, rfl, hi⟩ := hc h1
  exact ⟨g, o, rfl, fun i hi' => (hb.cell (p := ⟨g, o + i, none⟩) (World.block_lt_of_cell? W _ (hi i hi'))).trans (hi i hi')⟩

set_option maxHeartbeats 2000000 in
set_option maxRecDepth 100000 in
theorem r9has_b (l : List ByteArray) (v : Value) (s : ByteArray) (b : Bool) (W : World) (hl : StrSl W v l) (e : Hid (b = hasv l s)) :
    Calls Tryz.prog 27 #[v, .string s] W fun e w' => e = .returned (.bool b) ∧ W = w' := by
  obtain ⟨p, c, rfl, hm, hat⟩ := hl
  unfold maxLen at hm
  go_enter Tryz.func27, Tryz.ntmps27
  go_wp2_with fail
  go_loop [5] (fun vi => ∃ i : Nat, vi = .int .i64 i ∧ i ≤ l.length ∧ Hid (hasv (l.take i) s = false)) (fun vi => l.length - (RowKit.intOf vi).toNat)
  case atStart => exact ⟨0, rfl, by omega, hid rfl⟩
  case round =>
    obtain ⟨i, rfl, hi, hA⟩ := hrel
    by_cases hlt : i < l.length
    · have d1 : (i : Int) < l.length := by omega
      have d0 : (0 : Int) ≤ i := by omega
      obtain ⟨g, o, rfl, hc⟩ := hat (by omega)
      have k1 := hc i hlt
      have HN := fun q => hid (has_take hlt hA.out q)
      have HY := hid (has_at hlt)
      obtain ⟨x, hx⟩ : ∃ x, l[i]'hlt = x := ⟨_, rfl⟩
      rw [hx] at k1 HN HY
      clear hx hat hA hc
      by_cases hq : x = s
      · subst hq
        have hb := e.out.trans HY.out
        subst hb
        clear HN HY e
        go_wp2_with fail
        go_ret
        exact ⟨rfl, rfl⟩
      · obtain ⟨q1, q2⟩ := ne_list hq
        have HS := HN hq
        clear HN HY hq
        go_wp2_with fail
        go_round
        case rel => exact ⟨i + 1, by go_num, by omega, HS⟩
        case measure => simp [RowKit.intOf]; omega
    · obtain rfl : i = l.length := by omega
      have hb := e.out
      have ha := hA.out
      rw [List.take_length] at ha
      rw [ha] at hb
      subst hb
      clear hat ha hA e
      go_wp2_with fail
      go_ret
      exact ⟨rfl, rfl⟩
theorem r9within_b (n lo hi : Int) (b : Bool) (W : World) (e : Hid (b = rngv n lo hi)) :
    Calls Tryz.prog 101 #[.int .i64 n, .int .i64 lo, .int .i64 hi] W fun e w' => e = .returned (.bool b) ∧ W = w' := by
  have hb : b = (decide (lo ≤ n) && decide (n ≤ hi)) := by rw [e.out]; unfold rngv; simp
  by_cases h1 : lo ≤ n
  · have z1 : decide (lo ≤ n) = true := decide_eq_true h1
    rw [z1, Bool.true_and] at hb
    subst hb
    clear e
    go_enter Tryz.func101, Tryz.ntmps101
    go_wp2_with fail
    go_ret
    exact ⟨rfl, rfl⟩
  · have z1 : decide (lo ≤ n) = false := decide_eq_false h1
    rw [z1, Bool.false_and] at hb
    subst hb
    clear e
    go_enter Tryz.func101, Tryz.ntmps101
    go_wp2_with fail
    go_ret
    exact ⟨rfl, rfl⟩
theorem r9stat_b (n : Int) (b : Bool) (W : World) (e : Hid (b = statv n)) :
    Calls Tryz.prog 102 #[.int .i64 n] W fun e w' => e = .returned (.bool b) ∧ W = w' := by
  go_enter Tryz.func102, Tryz.ntmps102
  go_wp2_with fail
  ((with_reducible refine (r9within_b n 0 100000 b _ (hid (by rw [e.out, statv]))).mono ?_); rintro e w1 ⟨rfl, rfl⟩)
  go_wp2_with fail
  go_ret
  exact ⟨rfl, rfl⟩
set_option maxHeartbeats 2000000 in
set_option maxRecDepth 100000 in
theorem r9asc_b (l : List ByteArray) (v : Value) (b : Bool) (W : World) (hl : StrSl W v l) (e : Hid (b = ascv l)) :
    Calls Tryz.prog 99 #[v] W fun e w' => e = .returned (.bool b) ∧ Below W.heap.size W w' := by
  obtain ⟨p, c, rfl, hm, hat⟩ := hl
  unfold maxLen at hm
  go_enter Tryz.func99, Tryz.ntmps99
  go_wp2_with fail
  go_loopw [3] (fun vi wr => ∃ i : Nat, vi = .int .i64 (i + 1) ∧ i ≤ l.length ∧ Below W.heap.size W wr ∧ Hid (∀ j, j < i → (h : j + 1 < l.length) → ltS (l[j]'(Nat.lt_of_succ_lt h)) (l[j + 1]'h) = true)) (fun vi _ => l.length + 1 - (RowKit.intOf vi).toNat)
  case atStart => exact ⟨0, rfl, by omega, Below.refl _ _, hid (fun j h => by omega)⟩
  case round =>
    obtain ⟨i, rfl, hi, hL, hA⟩ := hrel
    by_cases hlt : i + 1 < l.length
    · have d1 : (i : Int) + 1 < l.length := by omega
      have d0 : (0 : Int) ≤ i := by omega
      have d2 : (i : Int) < l.length := by omega
      have d3 : (0 : Int) ≤ (i : Int) + 1 := by omega
      have ei : (i : Int) + 1 - 1 = i := by omega
      obtain ⟨g, o, rfl, hc⟩ := hat (by omega)
      have hcw := fun j hj => (hL.cell (p := ⟨g, o + j, none⟩) (World.block_lt_of_cell? W _ (hc j hj))).trans (hc j hj)
      have k1 := hcw i (by omega)
      have k2 := hcw (i + 1) hlt
      have HN := fun q => hid (asc_no hlt q)
      have HY := fun (q : ltS (l[i]'(Nat.lt_of_succ_lt hlt)) (l[i + 1]'hlt) = true) => hid (show ∀ j, j < i + 1 → (h : j + 1 < l.length) → ltS (l[j]'(Nat.lt_of_succ_lt h)) (l[j + 1]'h) = true from fun j hj h => by
        rcases Nat.lt_or_ge j i with h2 | h2
        · exact hA.out j h2 h
        · obtain rfl : j = i := by omega
          exact q)
      obtain ⟨x, hx⟩ : ∃ x, l[i]'(Nat.lt_of_succ_lt hlt) = x := ⟨_, rfl⟩
      obtain ⟨y, hy⟩ : ∃ x, l[i + 1]'hlt = x := ⟨_, rfl⟩
      rw [hx] at k1 HN HY
      rw [hy] at k2 HN HY
      unfold ltS at HN HY
      clear hx hy hat hA hc hcw
      by_cases hq : Op.bytesLess x.toList y.toList = true
      · have HS := HY hq
        clear HN HY
        go_wp2_with fail
        go_quiet (fail)
        have hL2 := below_many hL nq
        generalize wr.drewN nq = wr' at *
        clear hL k1 k2
        go_wp2_with fail
        go_roundw
        case rel => exact ⟨i + 1, by go_num, by omega, hL2, HS⟩
        case measure => simp [RowKit.intOf]; omega
      · have hq2 : Op.bytesLess x.toList y.toList = false := by simpa using hq
        have hb := e.out.trans (HN hq2).out
        subst hb
        clear HN HY e hq
        go_wp2_with fail
        go_quiet (fail)
        have hL2 := below_many hL nq
        generalize wr.drewN nq = wr' at *
        clear hL k1 k2
        go_wp2_with fail
        go_ret
        exact ⟨rfl, hL2⟩
    · have ha := ascv_iff.2 fun j h => hA.out j (by omega) h
      have hb := e.out.trans ha
      subst hb
      have d1 : ¬ (i : Int) + 1 < l.length := by omega
      clear hat ha hA e
      go_wp2_with fail
      go_ret
      exact ⟨rfl, hL⟩
set_option maxHeartbeats 2000000 in
set_option maxRecDepth 100000 in
theorem r9all_b (l m : List ByteArray) (v u : Value) (b : Bool) (W : World) (hl : StrSl W v l) (hm2 : StrSl W u m) (e : Hid (b = l.all (hasv m))) :
    Calls Tryz.prog 103 #[v, u] W fun e w' => e = .returned (.bool b) ∧ W = w' := by
  obtain ⟨p, c, rfl, hm, hat⟩ := hl
  obtain ⟨p2, c2, rfl, -, -⟩ := id hm2
  unfold maxLen at hm
  go_enter Tryz.func103, Tryz.ntmps103
  go_wp2_with fail
  go_loop [5] (fun vi => ∃ i : Nat, vi = .int .i64 i ∧ i ≤ l.length ∧ Hid ((l.take i).all (hasv m) = true)) (fun vi => l.length - (RowKit.intOf vi).toNat)
  case atStart => exact ⟨0, rfl, by omega, hid rfl⟩
  case round =>
    obtain ⟨i, rfl, hi, hA⟩ := hrel
    by_cases hlt : i < l.length
    · have d1 : (i : Int) < l.length := by omega
      have d0 : (0 : Int) ≤ i := by omega
      obtain ⟨g, o, rfl, hc⟩ := hat (by omega)
      have k1 := hc i hlt
      have HN := fun q => hid (all_take hlt hA.out q)
      have HY := fun q => hid (all_no (f := hasv m) hlt q)
      obtain ⟨x, hx⟩ : ∃ x, l[i]'hlt = x := ⟨_, rfl⟩
      rw [hx] at k1 HN HY
      obtain ⟨q, hq⟩ : ∃ q, Hid (q = hasv m x) := ⟨_, hid rfl⟩
      have c1 := r9has_b m _ x q W hm2 hq
      clear hx hat hA hc
      go_wp2_with fail
      ((with_reducible refine c1.mono ?_); rintro e w1 ⟨rfl, rfl⟩)
      cases q with
      | false =>
        have hb := e.out.trans (HY hq.out.symm).out
        subst hb
        clear HN HY e hq c1
        go_wp2_with fail
        go_ret
        exact ⟨rfl, rfl⟩
      | true =>
        have HS := HN hq.out.symm
        clear HN HY hq c1
        go_wp2_with fail
        go_round
        case rel => exact ⟨i + 1, by go_num, by omega, HS⟩
        case measure => simp [RowKit.intOf]; omega
    · obtain rfl : i = l.length := by omega
      have ha := hA.out
      rw [List.take_length] at ha
      have hb := e.out.trans ha
      subst hb
      clear hat ha hA e
      go_wp2_with fail
      go_ret
      exact ⟨rfl, rfl⟩
set_option maxHeartbeats 2000000 in
set_option maxRecDepth 100000 in
theorem r9names_b (l m : List ByteArray) (v u : Value) (b : Bool) (W : World) (hl : StrSl W v l) (hm2 : StrSl W u m) (e : Hid (b = decide (l = m))) :
    Calls Tryz.prog 26 #[v, u] W fun e w' => e = .returned (.bool b) ∧ Below W.heap.size W w' := by
  obtain ⟨p, c, rfl, hm, hat⟩ := hl
  obtain ⟨p2, c2, rfl, -, hat2⟩ := hm2
  unfold maxLen at hm
  by_cases hlen : l.length = m.length
  · have z : ((l.length : Int) != (m.length : Int)) = false := by rw [hlen]; simp
    go_enter Tryz.func26, Tryz.ntmps26
    go_wp2_with fail
    clear z
    go_loopw [5] (fun vi wr => ∃ i : Nat, vi = .int .i64 i ∧ i ≤ l.length ∧ Below W.heap.size W wr ∧ Hid (l.take i = m.take i)) (fun vi _ => l.length - (RowKit.intOf vi).toNat)
    case atStart => exact ⟨0, rfl, by omega, Below.refl _ _, hid rfl⟩
    case round =>
      obtain ⟨i, rfl, hi, hL, hA⟩ := hrel
      by_cases hlt : i < l.length
      · have hlt2 : i < m.length := by omega
        have d1 : (i : Int) < l.length := by omega
        have d2 : (i : Int) < m.length := by omega
        have d0 : (0 : Int) ≤ i := by omega
        obtain ⟨g, o, rfl, hc⟩ := hat (by omega)
        obtain ⟨g2, o2, rfl, hc2⟩ := hat2 (by omega)
        have k1 := (hL.cell (p := ⟨g, o + i, none⟩) (World.block_lt_of_cell? W _ (hc i hlt))).trans (hc i hlt)
        have k2 := (hL.cell (p := ⟨g2, o2 + i, none⟩) (World.block_lt_of_cell? W _ (hc2 i hlt2))).trans (hc2 i hlt2)
        have HN := fun (q : ¬ l[i]'hlt = m[i]'hlt2) => hid (show decide (l = m) = false from decide_eq_false fun h => q (by subst h; rfl))
        have HY := fun (q : l[i]'hlt = m[i]'hlt2) => hid (show l.take (i + 1) = m.take (i + 1) by
          rw [List.take_succ_eq_append_getElem hlt, List.take_succ_eq_append_getElem hlt2, hA.out, q])
        obtain ⟨x, hx⟩ : ∃ x, l[i]'hlt = x := ⟨_, rfl⟩
        obtain ⟨y, hy⟩ : ∃ x, m[i]'hlt2 = x := ⟨_, rfl⟩
        rw [hx, hy] at HN HY
        rw [hx] at k1
        rw [hy] at k2
        clear hx hy hat hat2 hA hc hc2
        by_cases hq : x = y
        · have HS := HY hq
          subst hq
          clear HN HY
          go_wp2_with fail
          go_quiet (fail)
          have hL2 := below_many hL nq
          generalize wr.drewN nq = wr' at *
          clear hL k1 k2
          go_wp2_with fail
          go_roundw
          case rel => exact ⟨i + 1, by go_num, by omega, hL2, HS⟩
          case measure => simp [RowKit.intOf]; omega
        · obtain ⟨q1, q2⟩ := ne_list hq
          have hb := e.out.trans (HN hq).out
          subst hb
          clear HN HY e hq
          go_wp2_with fail
          go_quiet (fail)
          have hL2 := below_many hL nq
          generalize wr.drewN nq = wr' at *
          clear hL k1 k2
          go_wp2_with fail
          go_ret
          exact ⟨rfl, hL2⟩
      · have ha := hA.out
        rw [List.take_of_length_le (by omega), List.take_of_length_le (by omega)] at ha
        have hb := e.out.trans (decide_eq_true ha)
        subst hb
        have d1 : ¬ (i : Int) < l.length := by omega
        clear hat hat2 ha hA e
        go_wp2_with fail
        go_ret
        exact ⟨rfl, hL⟩
  · have z : ((l.length : Int) != (m.length : Int)) = true := by simp; omega
    have hb := e.out.trans (decide_eq_false (fun h => hlen (by rw [h])))
    subst hb
    clear e hat hat2
    go_enter Tryz.func26, Tryz.ntmps26
    go_wp2_with fail
    go_ret
    exact ⟨rfl, Below.refl _ _⟩

end

section
open Go.RowKit Go.Lib

theorem word_iff (c : UInt8) : wordB c = decide ((97 ≤ (c.toNat : Int) ∧ (c.toNat : Int) ≤ 122) ∨ (48 ≤ (c.toNat : Int) ∧ (c.toNat : Int) ≤ 57) ∨ (c.toNat : Int) = 95) := by
  have h5 : (c == 95) = decide (c.toNat = 95) := by
    by_cases h : c = 95
    · rw [h]; rfl
    · have hn : ¬ c.toNat = 95 := fun e => h (UInt8.toNat_inj.1 (by show c.toNat = 95; exact e))
      rw [beq_eq_false_iff_ne.2 h, decide_eq_false hn]
  unfold wordB letB digB
  rw [h5, Bool.eq_iff_iff]
  simp only [Bool.or_eq_true, decide_eq_true_eq]
  omega
theorem take_nx {s : ByteArray} {k : Nat} (hk : k < s.size) : s.data.toList.take (k + 1) = s.data.toList.take k ++ [s[k]'hk] := by
  have h : k < s.data.toList.length := by rw [← Lib.size_eq]; exact hk
  exact List.take_succ_eq_append_getElem h
theorem name_short {s : List UInt8} (h : ¬ (1 ≤ s.length ∧ s.length ≤ 12)) : nameB s = false := by
  unfold nameB
  rw [decide_eq_false h, Bool.false_and]
theorem name_head {s : List UInt8} {c : UInt8} {l : List UInt8} (e : s = c :: l) (h : letB c = false) : nameB s = false := by
  subst e
  unfold nameB
  simp only [h, Bool.false_and, Bool.and_false]
theorem name_all {s : List UInt8} {c : UInt8} {l : List UInt8} (e : s = c :: l) (hl : s.length ≤ 12) (h : letB c = true) : nameB s = s.all wordB := by
  have hw : wordB c = true := by unfold wordB; rw [h]; rfl
  subst e
  unfold nameB
  rw [decide_eq_true ⟨by simp, hl⟩]
  simp only [h, List.all_cons, hw, Bool.true_and]
theorem let_iff (c : UInt8) : letB c = decide (97 ≤ (c.toNat : Int) ∧ (c.toNat : Int) ≤ 122) := by
  unfold letB
  rw [Bool.eq_iff_iff]
  simp only [decide_eq_true_eq]
  omega

set_option maxHeartbeats 4000000 in
set_option maxRecDepth 100000 in
theorem r9name_b (s : ByteArray) (b : Bool) (W : World) (e : Hid (b = nameB s.data.toList)) :
    Calls Tryz.prog 11 #[.string s] W fun e w' => e = .returned (.bool b) ∧ W = w' := by
  have hsl : s.data.toList.length = s.size := (Lib.size_eq s).symm
  by_cases h1 : s.size < 1
  · have z1 : decide ((s.size : Int) < 1) = true := decide_eq_true (by omega)
    have hb := e.out.trans (name_short (by omega))
    subst hb
    clear e
    go_enter Tryz.func11, Tryz.ntmps11
    go_wp2_with fail
    go_ret
    exact ⟨rfl, rfl⟩
  have z1 : decide ((s.size : Int) < 1) = false := decide_eq_false (by omega)
  by_cases h2 : 12 < s.size
  · have z2 : decide ((12 : Int) < s.size) = true := decide_eq_true (by omega)
    have hb := e.out.trans (name_short (by omega))
    subst hb
    clear e
    go_enter Tryz.func11, Tryz.ntmps11
    go_wp2_with fail
    go_ret
    exact ⟨rfl, rfl⟩
  have z2 : decide ((12 : Int) < s.size) = false := decide_eq_false (by omega)
  have h0 : 0 < s.size := by omega
  have d0 : (0 : Int) < s.size := by omega
  obtain ⟨c0, l, hcl⟩ : ∃ c l, s.data.toList = c :: l := by
    cases h : s.data.toList with
    | nil => rw [h] at hsl; simp at hsl; omega
    | cons a b => exact ⟨a, b, rfl⟩
  have hc0 : s[0]'h0 = c0 := by
    have : s.data.toList[0]'(by omega) = c0 := by simp only [hcl, List.getElem_cons_zero]
    exact this
  have hli := let_iff c0
  obtain ⟨q, hq⟩ : ∃ q : Int, (c0.toNat : Int) = q := ⟨_, rfl⟩
  rw [hq] at hli
  have e0 : ((s[0]'h0).toNat : Int) = q := by rw [hc0, hq]
  by_cases h3 : q < 97
  · have z3 : decide (q < 97) = true := decide_eq_true h3
    have hb := e.out.trans (name_head hcl (hli.trans (decide_eq_false (by omega))))
    subst hb
    clear e hcl hli hc0
    go_enter Tryz.func11, Tryz.ntmps11
    go_wp2_with fail
    go_ret
    exact ⟨rfl, rfl⟩
  have z3 : decide (q < 97) = false := decide_eq_false h3
  by_cases h4 : 122 < q
  · have z4 : decide (122 < q) = true := decide_eq_true h4
    have hb := e.out.trans (name_head hcl (hli.trans (decide_eq_false (by omega))))
    subst hb
    clear e hcl hli hc0
    go_enter Tryz.func11, Tryz.ntmps11
    go_wp2_with fail
    go_ret
    exact ⟨rfl, rfl⟩
  have z4 : decide (122 < q) = false := decide_eq_false h4
  replace e := hid (e.out.trans (name_all hcl (by omega) (hli.trans (decide_eq_true (by omega)))))
  clear hcl hli hc0 hq
  go_enter Tryz.func11, Tryz.ntmps11
  go_wp2_with fail
  clear z1 z2 z3 z4 e0
  go_loop [3] (fun vi => ∃ k : Nat, vi = .int .i64 k ∧ k ≤ s.size ∧ Hid ((s.data.toList.take k).all wordB = true)) (fun vi => s.size - (RowKit.intOf vi).toNat)
  case atStart => exact ⟨0, rfl, by omega, hid rfl⟩
  case round =>
    obtain ⟨k, rfl, hk, hA⟩ := hrel
    by_cases hlt : k < s.size
    · have k0 : (0 : Int) ≤ k := by omega
      have k1 : (k : Int) < s.size := by omega
      obtain ⟨c, hc⟩ : ∃ c : Int, ((s[k]'hlt).toNat : Int) = c := ⟨_, rfl⟩
      have hw := word_iff (s[k]'hlt)
      rw [hc] at hw
      have HY := fun (q : (97 ≤ c ∧ c ≤ 122) ∨ (48 ≤ c ∧ c ≤ 57) ∨ c = 95) => hid (show (s.data.toList.take (k + 1)).all wordB = true by
        rw [take_nx hlt, List.all_append, hA.out, List.all_cons, hw, decide_eq_true q]; rfl)
      have HN := fun (q : ¬ ((97 ≤ c ∧ c ≤ 122) ∨ (48 ≤ c ∧ c ≤ 57) ∨ c = 95)) => hid (show s.data.toList.all wordB = false by
        cases hx : s.data.toList.all wordB with
        | false => rfl
        | true =>
          have := List.all_eq_true.1 hx (s[k]'hlt) (List.getElem_mem (l := s.data.toList) (by omega))
          rw [hw, decide_eq_false q] at this
          cases this)
      clear hA hw
      have hcs : (97 ≤ c ∧ c ≤ 122) ∨ (48 ≤ c ∧ c ≤ 57) ∨ (c = 95) ∨ (122 < c) ∨ (c < 48) ∨ ((58 ≤ c ∧ c ≤ 94) ∨ c = 96) := by omega
      rcases hcs with h | h | h | h | h | h
      · have y0 : decide (97 ≤ c) = true := decide_eq_true (by omega)
        have y1 : decide (c ≤ 122) = true := decide_eq_true (by omega)
        have HS := (HY (by omega))
        clear HN HY
        go_wp2_with fail
        go_round
        case rel => exact ⟨k + 1, by go_num, by omega, HS⟩
        case measure => simp [RowKit.intOf]; omega
      · have y0 : decide (97 ≤ c) = false := decide_eq_false (by omega)
        have y1 : decide (48 ≤ c) = true := decide_eq_true (by omega)
        have y2 : decide (c ≤ 57) = true := decide_eq_true (by omega)
        have HS := (HY (by omega))
        clear HN HY
        go_wp2_with fail
        go_round
        case rel => exact ⟨k + 1, by go_num, by omega, HS⟩
        case measure => simp [RowKit.intOf]; omega
      · have y0 : decide (97 ≤ c) = false := decide_eq_false (by omega)
        have y1 : decide (48 ≤ c) = true := decide_eq_true (by omega)
        have y2 : decide (c ≤ 57) = false := decide_eq_false (by omega)
        have y3 : (c != 95) = false := by rw [h]; rfl
        have HS := (HY (by omega))
        clear HN HY
        go_wp2_with fail
        go_round
        case rel => exact ⟨k + 1, by go_num, by omega, HS⟩
        case measure => simp [RowKit.intOf]; omega
      · have y0 : decide (97 ≤ c) = true := decide_eq_true (by omega)
        have y1 : decide (c ≤ 122) = false := decide_eq_false (by omega)
        have y2 : decide (48 ≤ c) = true := decide_eq_true (by omega)
        have y3 : decide (c ≤ 57) = false := decide_eq_false (by omega)
        have y4 : (c != 95) = true := by simp; omega
        have hb := e.out.trans (HN (by omega)).out
        subst hb
        clear HN HY e
        go_wp2_with fail
        go_ret
        exact ⟨rfl, rfl⟩
      · have y0 : decide (97 ≤ c) = false := decide_eq_false (by omega)
        have y1 : decide (48 ≤ c) = false := decide_eq_false (by omega)
        have y2 : (c != 95) = true := by simp; omega
        have hb := e.out.trans (HN (by omega)).out
        subst hb
        clear HN HY e
        go_wp2_with fail
        go_ret
        exact ⟨rfl, rfl⟩
      · have y0 : decide (97 ≤ c) = false := decide_eq_false (by omega)
        have y1 : decide (48 ≤ c) = true := decide_eq_true (by omega)
        have y2 : decide (c ≤ 57) = false := decide_eq_false (by omega)
        have y3 : (c != 95) = true := by simp; omega
        have hb := e.out.trans (HN (by omega)).out
        subst hb
        clear HN HY e
        go_wp2_with fail
        go_ret
        exact ⟨rfl, rfl⟩
    · obtain rfl : k = s.size := by omega
      have ha := hA.out
      rw [List.take_of_length_le (by omega)] at ha
      have hb := e.out.trans ha
      subst hb
      have d1 : ¬ (s.size : Int) < s.size := by omega
      clear ha hA e
      go_wp2_with fail
      go_ret
      exact ⟨rfl, rfl⟩

end

section
open Go.RowKit Go.Lib

/-- A unit type's value. -/
def uCells (u : U9) (sn st sr : Value) : List Value := [.string u.nm, .bool u.bld, .bool u.dep, .int .i64 u.cls, .int .i64 u.w, .int .i64 u.h, .int .i64 u.rad, .int .i64 u.spd, .int .i64 u.sgt, .int .i64 u.hp, .int .i64 u.arm, .int .i64 u.load, .string u.wpn, .int .i64 u.ore, .int .i64 u.wood, .int .i64 u.time, sn, st, sr]
set_option maxHeartbeats 8000000 in
set_option maxRecDepth 100000 in
theorem r9shaped_b (u : U9) (sn st sr : Value) (b : Bool) (W : World) (e : Hid (b = shapev u)) :
    Calls Tryz.prog 100 #[.agg #[.string u.nm, .bool u.bld, .bool u.dep, .int .i64 u.cls, .int .i64 u.w, .int .i64 u.h, .int .i64 u.rad, .int .i64 u.spd, .int .i64 u.sgt, .int .i64 u.hp, .int .i64 u.arm, .int .i64 u.load, .string u.wpn, .int .i64 u.ore, .int .i64 u.wood, .int .i64 u.time, sn, st, sr]] W fun e w' => e = .returned (.bool b) ∧ Below W.heap.size W w' := by
  have hB := Blk.new W [.string u.nm, .bool u.bld, .bool u.dep, .int .i64 u.cls, .int .i64 u.w, .int .i64 u.h, .int .i64 u.rad, .int .i64 u.spd, .int .i64 u.sgt, .int .i64 u.hp, .int .i64 u.arm, .int .i64 u.load, .string u.wpn, .int .i64 u.ore, .int .i64 u.wood, .int .i64 u.time, sn, st, sr] 34
  have hL : Below W.heap.size W (W.alloc (.cells #[.string u.nm, .bool u.bld, .bool u.dep, .int .i64 u.cls, .int .i64 u.w, .int .i64 u.h, .int .i64 u.rad, .int .i64 u.spd, .int .i64 u.sgt, .int .i64 u.hp, .int .i64 u.arm, .int .i64 u.load, .string u.wpn, .int .i64 u.ore, .int .i64 u.wood, .int .i64 u.time, sn, st, sr] 34)) := (Below.refl _ W).alloc (Nat.le_refl _) _
  obtain ⟨C1, C2, C3, C4, C5, C6, C7, C8, C9, C10, C11, C13, C14, C15⟩ : _ ∧ _ ∧ _ ∧ _ ∧ _ ∧ _ ∧ _ ∧ _ ∧ _ ∧ _ ∧ _ ∧ _ ∧ _ ∧ _ := ⟨hB.cell 1, hB.cell 2, hB.cell 3, hB.cell 4, hB.cell 5, hB.cell 6, hB.cell 7, hB.cell 8, hB.cell 9, hB.cell 10, hB.cell 11, hB.cell 13, hB.cell 14, hB.cell 15⟩
  simp only [List.getElem?_cons_zero, List.getElem?_cons_succ] at C1 C2 C3 C4 C5 C6 C7 C8 C9 C10 C11 C13 C14 C15
  obtain ⟨q1, h1⟩ : ∃ q, Hid (q = rngv u.sgt 0 16) := ⟨_, hid rfl⟩
  have c1 := fun V => r9within_b u.sgt 0 16 q1 V h1
  obtain ⟨q2, h2⟩ : ∃ q, Hid (q = rngv u.hp 1 100000) := ⟨_, hid rfl⟩
  have c2 := fun V => r9within_b u.hp 1 100000 q2 V h2
  obtain ⟨q3, h3⟩ : ∃ q, Hid (q = statv u.arm) := ⟨_, hid rfl⟩
  have c3 := fun V => r9stat_b u.arm q3 V h3
  obtain ⟨q4, h4⟩ : ∃ q, Hid (q = statv u.ore) := ⟨_, hid rfl⟩
  have c4 := fun V => r9stat_b u.ore q4 V h4
  obtain ⟨q5, h5⟩ : ∃ q, Hid (q = statv u.wood) := ⟨_, hid rfl⟩
  have c5 := fun V => r9stat_b u.wood q5 V h5
  obtain ⟨q6, h6⟩ : ∃ q, Hid (q = statv u.time) := ⟨_, hid rfl⟩
  have c6 := fun V => r9stat_b u.time q6 V h6
  obtain ⟨q7, h7⟩ : ∃ q, (u.cls == 0) = q := ⟨_, rfl⟩
  obtain ⟨q8, h8⟩ : ∃ q, Hid (q = rngv u.w 1 4) := ⟨_, hid rfl⟩
  have c8 := fun V => r9within_b u.w 1 4 q8 V h8
  obtain ⟨q9, h9⟩ : ∃ q, Hid (q = rngv u.h 1 4) := ⟨_, hid rfl⟩
  have c9 := fun V => r9within_b u.h 1 4 q9 V h9
  obtain ⟨q10, h10⟩ : ∃ q, (u.rad == 0) = q := ⟨_, rfl⟩
  obtain ⟨q11, h11⟩ : ∃ q, (u.spd == 0) = q := ⟨_, rfl⟩
  obtain ⟨q12, h12⟩ : ∃ q, (u.load == 0) = q := ⟨_, rfl⟩
  obtain ⟨q13, h13⟩ : ∃ q, Hid (q = rngv u.cls 1 3) := ⟨_, hid rfl⟩
  have c13 := fun V => r9within_b u.cls 1 3 q13 V h13
  obtain ⟨q14, h14⟩ : ∃ q, (u.w == 0) = q := ⟨_, rfl⟩
  obtain ⟨q15, h15⟩ : ∃ q, (u.h == 0) = q := ⟨_, rfl⟩
  obtain ⟨q16, h16⟩ : ∃ q, Hid (q = rngv u.rad 16 128) := ⟨_, hid rfl⟩
  have c16 := fun V => r9within_b u.rad 16 128 q16 V h16
  obtain ⟨q17, h17⟩ : ∃ q, Hid (q = rngv u.spd 0 256) := ⟨_, hid rfl⟩
  have c17 := fun V => r9within_b u.spd 0 256 q17 V h17
  obtain ⟨q18, h18⟩ : ∃ q, Hid (q = statv u.load) := ⟨_, hid rfl⟩
  have c18 := fun V => r9stat_b u.load q18 V h18
  have E : Hid (b = if (q1 && q2 && q3 && q4 && q5 && q6) = true then (if u.bld = true then q7 && q8 && q9 && q10 && q11 && q12 else q13 && q14 && q15 && q16 && q17 && q18 && !u.dep) else false) := hid (by
    rw [e.out, h1.out, h2.out, h3.out, h4.out, h5.out, h6.out, ← h7, h8.out, h9.out, ← h10, ← h11, ← h12, h13.out, ← h14, ← h15, h16.out, h17.out, h18.out]
    rfl)
  clear e h1 h2 h3 h4 h5 h6 h8 h9 h13 h16 h17 h18
  go_enter Tryz.func100, Tryz.ntmps100
  go_wp2_with fail
  generalize W.alloc (.cells #[.string u.nm, .bool u.bld, .bool u.dep, .int .i64 u.cls, .int .i64 u.w, .int .i64 u.h, .int .i64 u.rad, .int .i64 u.spd, .int .i64 u.sgt, .int .i64 u.hp, .int .i64 u.arm, .int .i64 u.load, .string u.wpn, .int .i64 u.ore, .int .i64 u.wood, .int .i64 u.time, sn, st, sr] 34) = V at *
  ((with_reducible refine (c1 _).mono ?_); rintro e w1 ⟨rfl, rfl⟩)
  cases q1 with
  | false =>
    have hb : b = false := E.out.trans (by simp)
    subst hb
    clear E
    go_wp2_with fail
    go_ret
    exact ⟨rfl, hL⟩
  | true =>
    go_wp2_with fail
    ((with_reducible refine (c2 _).mono ?_); rintro e w1 ⟨rfl, rfl⟩)
    cases q2 with
    | false =>
      have hb : b = false := E.out.trans (by simp)
      subst hb
      clear E
      go_wp2_with fail
      go_ret
      exact ⟨rfl, hL⟩
    | true =>
      go_wp2_with fail
      ((with_reducible refine (c3 _).mono ?_); rintro e w1 ⟨rfl, rfl⟩)
      cases q3 with
      | false =>
        have hb : b = false := E.out.trans (by simp)
        subst hb
        clear E
        go_wp2_with fail
        go_ret
        exact ⟨rfl, hL⟩
      | true =>
        go_wp2_with fail
        ((with_reducible refine (c4 _).mono ?_); rintro e w1 ⟨rfl, rfl⟩)
        cases q4 with
        | false =>
          have hb : b = false := E.out.trans (by simp)
          subst hb
          clear E
          go_wp2_with fail
          go_ret
          exact ⟨rfl, hL⟩
        | true =>
          go_wp2_with fail
          ((with_reducible refine (c5 _).mono ?_); rintro e w1 ⟨rfl, rfl⟩)
          cases q5 with
          | false =>
            have hb : b = false := E.out.trans (by simp)
            subst hb
            clear E
            go_wp2_with fail
            go_ret
            exact ⟨rfl, hL⟩
          | true =>
            go_wp2_with fail
            ((with_reducible refine (c6 _).mono ?_); rintro e w1 ⟨rfl, rfl⟩)
            cases q6 with
            | false =>
              have hb : b = false := E.out.trans (by simp)
              subst hb
              clear E
              go_wp2_with fail
              go_ret
              exact ⟨rfl, hL⟩
            | true =>
              by_cases hbd : u.bld = true
              · cases q7 with
                | false =>
                  have hb : b = false := E.out.trans (by simp [hbd])
                  subst hb
                  clear E
                  go_wp2_with fail
                  go_ret
                  exact ⟨rfl, hL⟩
                | true =>
                  go_wp2_with fail
                  ((with_reducible refine (c8 _).mono ?_); rintro e w1 ⟨rfl, rfl⟩)
                  cases q8 with
                  | false =>
                    have hb : b = false := E.out.trans (by simp [hbd])
                    subst hb
                    clear E
                    go_wp2_with fail
                    go_ret
                    exact ⟨rfl, hL⟩
                  | true =>
                    go_wp2_with fail
                    ((with_reducible refine (c9 _).mono ?_); rintro e w1 ⟨rfl, rfl⟩)
                    cases q9 with
                    | false =>
                      have hb : b = false := E.out.trans (by simp [hbd])
                      subst hb
                      clear E
                      go_wp2_with fail
                      go_ret
                      exact ⟨rfl, hL⟩
                    | true =>
                      cases q10 with
                      | false =>
                        have hb : b = false := E.out.trans (by simp [hbd])
                        subst hb
                        clear E
                        go_wp2_with fail
                        go_ret
                        exact ⟨rfl, hL⟩
                      | true =>
                        cases q11 with
                        | false =>
                          have hb : b = false := E.out.trans (by simp [hbd])
                          subst hb
                          clear E
                          go_wp2_with fail
                          go_ret
                          exact ⟨rfl, hL⟩
                        | true =>
                          cases q12 with
                          | false =>
                            have hb : b = false := E.out.trans (by simp [hbd])
                            subst hb
                            clear E
                            go_wp2_with fail
                            go_ret
                            exact ⟨rfl, hL⟩
                          | true =>
                            have hb : b = true := E.out.trans (by simp [hbd])
                            subst hb
                            clear E
                            go_wp2_with fail
                            go_ret
                            exact ⟨rfl, hL⟩
              · replace hbd : u.bld = false := by simpa using hbd
                go_wp2_with fail
                ((with_reducible refine (c13 _).mono ?_); rintro e w1 ⟨rfl, rfl⟩)
                cases q13 with
                | false =>
                  have hb : b = false := E.out.trans (by simp [hbd])
                  subst hb
                  clear E
                  go_wp2_with fail
                  go_ret
                  exact ⟨rfl, hL⟩
                | true =>
                  cases q14 with
                  | false =>
                    have hb : b = false := E.out.trans (by simp [hbd])
                    subst hb
                    clear E
                    go_wp2_with fail
                    go_ret
                    exact ⟨rfl, hL⟩
                  | true =>
                    cases q15 with
                    | false =>
                      have hb : b = false := E.out.trans (by simp [hbd])
                      subst hb
                      clear E
                      go_wp2_with fail
                      go_ret
                      exact ⟨rfl, hL⟩
                    | true =>
                      go_wp2_with fail
                      ((with_reducible refine (c16 _).mono ?_); rintro e w1 ⟨rfl, rfl⟩)
                      cases q16 with
                      | false =>
                        have hb : b = false := E.out.trans (by simp [hbd])
                        subst hb
                        clear E
                        go_wp2_with fail
                        go_ret
                        exact ⟨rfl, hL⟩
                      | true =>
                        go_wp2_with fail
                        ((with_reducible refine (c17 _).mono ?_); rintro e w1 ⟨rfl, rfl⟩)
                        cases q17 with
                        | false =>
                          have hb : b = false := E.out.trans (by simp [hbd])
                          subst hb
                          clear E
                          go_wp2_with fail
                          go_ret
                          exact ⟨rfl, hL⟩
                        | true =>
                          go_wp2_with fail
                          ((with_reducible refine (c18 _).mono ?_); rintro e w1 ⟨rfl, rfl⟩)
                          cases q18 with
                          | false =>
                            have hb : b = false := E.out.trans (by simp [hbd])
                            subst hb
                            clear E
                            go_wp2_with fail
                            go_ret
                            exact ⟨rfl, hL⟩
                          | true =>
                            have hb : b = !u.dep := E.out.trans (by simp [hbd])
                            subst hb
                            clear E
                            go_wp2_with fail
                            go_ret
                            exact ⟨rfl, hL⟩

end

section
open Go.RowKit Go.Lib

/-- Cells behind one another. -/
def CellsAt (W : World) (g o : Nat) (vs : List Value) : Prop := ∀ i v, vs[i]? = some v → W.cell? ⟨g, o + i, none⟩ = some v
theorem CellsAt.lt {W : World} {g o : Nat} {v : Value} {vs : List Value} (h : CellsAt W g o (v :: vs)) : g < W.heap.size := World.block_lt_of_cell? W _ (h 0 v rfl)
theorem CellsAt.below {W w' : World} {g o : Nat} {v : Value} {vs : List Value} (h : CellsAt W g o (v :: vs)) (hb : Below W.heap.size W w') : CellsAt w' g o (v :: vs) := fun i x e => (hb.cell (p := ⟨g, o + i, none⟩) h.lt).trans (h i x e)
def wCells (w : W9) : List Value := [.string w.nm, .int .i64 w.rng, .int .i64 w.dmg, .int .i64 w.cool, .int .i64 w.spd, .int .i64 w.spl]
def tCells (t : T9) (sn : Value) : List Value := [.string t.nm, sn, .int .i64 t.ore, .int .i64 t.wood, .int .i64 t.time, .string t.un, .int .i64 t.stat, .int .i64 t.amt]
def UAt (W : World) (g o : Nat) (u : U9) : Prop := ∃ sn st sr, CellsAt W g o (uCells u sn st sr) ∧ StrSl W sn u.needs ∧ StrSl W st u.trains ∧ StrSl W sr u.ress
def WAt (W : World) (g o : Nat) (w : W9) : Prop := CellsAt W g o (wCells w)
def TAt (W : World) (g o : Nat) (t : T9) : Prop := ∃ sn, CellsAt W g o (tCells t sn) ∧ StrSl W sn t.needs
theorem UAt.below {W w' : World} {g o : Nat} {u : U9} (h : UAt W g o u) (hb : Below W.heap.size W w') : UAt w' g o u := by
  obtain ⟨sn, st, sr, h0, h1, h2, h3⟩ := h
  exact ⟨sn, st, sr, h0.below hb, h1.below hb, h2.below hb, h3.below hb⟩
theorem WAt.below {W w' : World} {g o : Nat} {u : W9} (h : WAt W g o u) (hb : Below W.heap.size W w') : WAt w' g o u := CellsAt.below h hb
theorem TAt.below {W w' : World} {g o : Nat} {u : T9} (h : TAt W g o u) (hb : Below W.heap.size W w') : TAt w' g o u := by
  obtain ⟨sn, h0, h1⟩ := h
  exact ⟨sn, h0.below hb, h1.below hb⟩
/-- A slice of elements of k cells. -/
def SlAt {α : Type} (at_ : World → Nat → Nat → α → Prop) (k : Nat) (W : World) (v : Value) (l : List α) : Prop :=
  ∃ p c, v = .slice p l.length c ∧ l.length ≤ maxLen ∧ (1 ≤ l.length → ∃ g o, p = some ⟨g, o, none⟩ ∧ ∀ i, (h : i < l.length) → at_ W g (o + i * k) (l[i]'h))
theorem SlAt.below_ {α : Type} {at_ : World → Nat → Nat → α → Prop} {k : Nat} {W w' : World} {v : Value} {l : List α} (h : SlAt at_ k W v l) (f : ∀ g o x, at_ W g o x → at_ w' g o x) : SlAt at_ k w' v l := by
  obtain ⟨p, c, rfl, hm, hc⟩ := h
  refine ⟨p, c, rfl, hm, fun h1 => ?_⟩
  obtain ⟨g, o, rfl, hi⟩ := hc h1
  exact ⟨g, o, rfl, fun i hi' => f _ _ _ (hi i hi')⟩
/-- Rules: the three slices of an argument. -/
structure RAt (W : World) (su sw st : Value) (r : R9) : Prop where
  u : SlAt UAt 19 W su r.us
  w : SlAt WAt 6 W sw r.ws
  t : SlAt TAt 8 W st r.ts
theorem RAt.below {W w' : World} {su sw st : Value} {r : R9} (h : RAt W su sw st r) (hb : Below W.heap.size W w') : RAt w' su sw st r :=
  ⟨h.u.below_ fun _ _ _ k => k.below hb, h.w.below_ fun _ _ _ k => WAt.below k hb, h.t.below_ fun _ _ _ k => k.below hb⟩

end

section
open Go.RowKit Go.Lib

theorem str_lone9 (x : ByteArray) : ∀ u ∈ ([.string x] : List Value), u.oneCell' = true := by
  intro u hu; simp at hu; rw [hu]; rfl
theorem infoStr9 : (Tryz.prog.info? 9).map (fun i => (i.zero, i.size, i.bytes)) = some (some (.string ⟨#[]⟩), 1, 16) := by kernel_rfl
theorem info_cut9 {o : Option TypeInfo} {z : Option Value} {a b : Nat} (h : o.map (fun i => (i.zero, i.size, i.bytes)) = some (z, a, b)) : ∃ i, o = some i ∧ i.zero = z ∧ i.size = a ∧ i.bytes = b := by
  cases o with
  | none => cases h
  | some i => exact ⟨i, rfl, by injection h with h; injection h, by injection h with h; injection h with _ h; injection h, by injection h with h; injection h with _ h; injection h⟩
def strs (l : List ByteArray) : List Value := l.map Value.string
theorem strs_snoc (l : List ByteArray) (x : ByteArray) : strs l ++ [.string x] = strs (l ++ [x]) := by unfold strs; rw [List.map_append]; rfl
theorem map_take {α : Type} {f : α → ByteArray} {l : List α} {i : Nat} (hi : i < l.length) : (l.map f).take (i + 1) = (l.map f).take i ++ [f (l[i]'hi)] := by
  rw [List.take_succ_eq_append_getElem (by rw [List.length_map]; exact hi), List.getElem_map]

set_option maxHeartbeats 4000000 in
set_option maxRecDepth 100000 in
theorem r9units_b (su sw st : Value) (r : R9) (W : World) (hR : RAt W su sw st r) (hsm : r.us.length ≤ 1000) :
    Calls Tryz.prog 97 #[.agg #[su, sw, st]] W fun e w' => ∃ v, e = .returned v ∧ w'.ownsRow (W.heap.size + 1) 9 1 v r.us.length (strs (namesU r)) ∧ Below W.heap.size W w' := by
  have hat0 := hR.u
  obtain ⟨p, c, rfl, -, hat⟩ := hat0
  have hB := Blk.new W [.slice p r.us.length c, sw, st] 28
  obtain ⟨i0, hi0, hz0, hz1, hz2⟩ := info_cut9 infoStr9
  have hL := (Below.refl W.heap.size W).alloc (Nat.le_refl _) (.cells #[.slice p r.us.length c, sw, st] 28)
  clear hR
  go_enter Tryz.func97, Tryz.ntmps97
  go_wp2_with fail
  generalize W.alloc (.cells #[.slice p r.us.length c, sw, st] 28) = V at *
  go_loopw [3, 4] (fun vo vi wr => ∃ i : Nat, vi = .int .i64 i ∧ i ≤ r.us.length ∧ wr.ownsRow (W.heap.size + 1) 9 1 vo i (strs ((namesU r).take i)) ∧ Blk wr W.heap.size [.slice p r.us.length c, sw, st] 28 ∧ Below W.heap.size W wr) (fun _ vi _ => r.us.length - (RowKit.intOf vi).toNat)
  case atStart => exact ⟨0, rfl, by omega, World.ownsRow_nil _ _ _ _, hB, hL⟩
  case round =>
    clear hB hL
    obtain ⟨i, rfl, hi, hown, hB, hL⟩ := hrel
    have b0 := hB.cell 0
    simp only [List.getElem?_cons_zero] at b0
    by_cases hlt : i < r.us.length
    · have d1 : (i : Int) < r.us.length := by omega
      have d0 : (0 : Int) ≤ i := by omega
      obtain ⟨g, o, rfl, hc⟩ := hat (by omega)
      obtain ⟨sn, sm, sr, hcc, -, -, -⟩ := hc i hlt
      have k1 := (hL.cell (p := ⟨g, o + i * 19, none⟩) (World.block_lt_of_cell? W _ (hcc 0 _ rfl))).trans (hcc 0 _ rfl)
      have hN := hid (map_take (f := U9.nm) hlt)
      obtain ⟨x, hx⟩ : ∃ x, (r.us[i]'hlt).nm = x := ⟨_, rfl⟩
      rw [hx] at k1 hN
      have hz := hB.lt
      clear hx hat hc hcc
      go_wp2_with (at_builtin; refine wpList_append_own _ rfl _ _ 32 rfl (W.heap.size + 1) 9 i0 (.string ⟨#[]⟩) 1 16 Tryz.underlying32 hi0 hz0 hz1 hz2 rfl (by decide) _ _ _ rfl (hown.alloc _) ⟨wr.heap.size, 0, none⟩ 1 1 [.string x] rfl rfl cells_new (str_lone9 _) (by unfold maxLen; omega) (by omega) (by simp; omega) ?_)
      intro v' w' hown' hg' _
      have hb' := below_push (t := 9) hL.size hL hown (by omega) hg'
      have hB' := (hB.alloc (.cells #[.string x] 9)).grown hg' (own_not hown (by omega))
      have hown2 := own_to hown' (m := i + 1) (ys := strs ((namesU r).take (i + 1))) rfl (by unfold namesU; rw [hN.out]; exact strs_snoc _ x)
      clear hg' hown hL hown' hB b0 k1 hN
      go_wp2_with fail
      go_roundw
      case rel => exact ⟨i + 1, by go_num, by omega, hown2, hB', hb'⟩
      case measure => simp [RowKit.intOf]; omega
    · obtain rfl : i = r.us.length := by omega
      have hown2 := own_to hown (m := r.us.length) (ys := strs (namesU r)) rfl (by rw [List.take_of_length_le (by unfold namesU; simp)])
      have d1 : ¬ (r.us.length : Int) < r.us.length := by omega
      clear hown hat
      go_wp2_with fail
      go_ret
      exact ⟨_, rfl, hown2, hL⟩

set_option maxHeartbeats 4000000 in
set_option maxRecDepth 100000 in
theorem r9weapons_b (su sw st : Value) (r : R9) (W : World) (hR : RAt W su sw st r) (hsm : r.ws.length ≤ 1000) :
    Calls Tryz.prog 98 #[.agg #[su, sw, st]] W fun e w' => ∃ v, e = .returned v ∧ w'.ownsRow (W.heap.size + 1) 9 1 v r.ws.length (strs (namesW r)) ∧ Below W.heap.size W w' := by
  have hat0 := hR.w
  obtain ⟨p, c, rfl, -, hat⟩ := hat0
  have hB := Blk.new W [su, .slice p r.ws.length c, st] 28
  obtain ⟨i0, hi0, hz0, hz1, hz2⟩ := info_cut9 infoStr9
  have hL := (Below.refl W.heap.size W).alloc (Nat.le_refl _) (.cells #[su, .slice p r.ws.length c, st] 28)
  clear hR
  go_enter Tryz.func98, Tryz.ntmps98
  go_wp2_with fail
  generalize W.alloc (.cells #[su, .slice p r.ws.length c, st] 28) = V at *
  go_loopw [3, 4] (fun vo vi wr => ∃ i : Nat, vi = .int .i64 i ∧ i ≤ r.ws.length ∧ wr.ownsRow (W.heap.size + 1) 9 1 vo i (strs ((namesW r).take i)) ∧ Blk wr W.heap.size [su, .slice p r.ws.length c, st] 28 ∧ Below W.heap.size W wr) (fun _ vi _ => r.ws.length - (RowKit.intOf vi).toNat)
  case atStart => exact ⟨0, rfl, by omega, World.ownsRow_nil _ _ _ _, hB, hL⟩
  case round =>
    clear hB hL
    obtain ⟨i, rfl, hi, hown, hB, hL⟩ := hrel
    have b0 := hB.cell 1
    simp only [List.getElem?_cons_zero, List.getElem?_cons_succ] at b0
    by_cases hlt : i < r.ws.length
    · have d1 : (i : Int) < r.ws.length := by omega
      have d0 : (0 : Int) ≤ i := by omega
      obtain ⟨g, o, rfl, hc⟩ := hat (by omega)
      have hcc := hc i hlt
      have k1 := (hL.cell (p := ⟨g, o + i * 6, none⟩) (World.block_lt_of_cell? W _ (hcc 0 _ rfl))).trans (hcc 0 _ rfl)
      have hN := hid (map_take (f := W9.nm) hlt)
      obtain ⟨x, hx⟩ : ∃ x, (r.ws[i]'hlt).nm = x := ⟨_, rfl⟩
      rw [hx] at k1 hN
      have hz := hB.lt
      clear hx hat hc hcc
      go_wp2_with (at_builtin; refine wpList_append_own _ rfl _ _ 32 rfl (W.heap.size + 1) 9 i0 (.string ⟨#[]⟩) 1 16 Tryz.underlying32 hi0 hz0 hz1 hz2 rfl (by decide) _ _ _ rfl (hown.alloc _) ⟨wr.heap.size, 0, none⟩ 1 1 [.string x] rfl rfl cells_new (str_lone9 _) (by unfold maxLen; omega) (by omega) (by simp; omega) ?_)
      intro v' w' hown' hg' _
      have hb' := below_push (t := 9) hL.size hL hown (by omega) hg'
      have hB' := (hB.alloc (.cells #[.string x] 9)).grown hg' (own_not hown (by omega))
      have hown2 := own_to hown' (m := i + 1) (ys := strs ((namesW r).take (i + 1))) rfl (by unfold namesW; rw [hN.out]; exact strs_snoc _ x)
      clear hg' hown hL hown' hB b0 k1 hN
      go_wp2_with fail
      go_roundw
      case rel => exact ⟨i + 1, by go_num, by omega, hown2, hB', hb'⟩
      case measure => simp [RowKit.intOf]; omega
    · obtain rfl : i = r.ws.length := by omega
      have hown2 := own_to hown (m := r.ws.length) (ys := strs (namesW r)) rfl (by rw [List.take_of_length_le (by unfold namesW; simp)])
      have d1 : ¬ (r.ws.length : Int) < r.ws.length := by omega
      clear hown hat
      go_wp2_with fail
      go_ret
      exact ⟨_, rfl, hown2, hL⟩

set_option maxHeartbeats 4000000 in
set_option maxRecDepth 100000 in
theorem r9techs_b (su sw st : Value) (r : R9) (W : World) (hR : RAt W su sw st r) (hsm : r.ts.length ≤ 1000) :
    Calls Tryz.prog 45 #[.agg #[su, sw, st]] W fun e w' => ∃ v, e = .returned v ∧ w'.ownsRow (W.heap.size + 1) 9 1 v r.ts.length (strs (namesT r)) ∧ Below W.heap.size W w' := by
  have hat0 := hR.t
  obtain ⟨p, c, rfl, -, hat⟩ := hat0
  have hB := Blk.new W [su, sw, .slice p r.ts.length c] 28
  obtain ⟨i0, hi0, hz0, hz1, hz2⟩ := info_cut9 infoStr9
  have hL := (Below.refl W.heap.size W).alloc (Nat.le_refl _) (.cells #[su, sw, .slice p r.ts.length c] 28)
  clear hR
  go_enter Tryz.func45, Tryz.ntmps45
  go_wp2_with fail
  generalize W.alloc (.cells #[su, sw, .slice p r.ts.length c] 28) = V at *
  go_loopw [3, 4] (fun vo vi wr => ∃ i : Nat, vi = .int .i64 i ∧ i ≤ r.ts.length ∧ wr.ownsRow (W.heap.size + 1) 9 1 vo i (strs ((namesT r).take i)) ∧ Blk wr W.heap.size [su, sw, .slice p r.ts.length c] 28 ∧ Below W.heap.size W wr) (fun _ vi _ => r.ts.length - (RowKit.intOf vi).toNat)
  case atStart => exact ⟨0, rfl, by omega, World.ownsRow_nil _ _ _ _, hB, hL⟩
  case round =>
    clear hB hL
    obtain ⟨i, rfl, hi, hown, hB, hL⟩ := hrel
    have b0 := hB.cell 2
    simp only [List.getElem?_cons_zero, List.getElem?_cons_succ] at b0
    by_cases hlt : i < r.ts.length
    · have d1 : (i : Int) < r.ts.length := by omega
      have d0 : (0 : Int) ≤ i := by omega
      obtain ⟨g, o, rfl, hc⟩ := hat (by omega)
      obtain ⟨sn, hcc, -⟩ := hc i hlt
      have k1 := (hL.cell (p := ⟨g, o + i * 8, none⟩) (World.block_lt_of_cell? W _ (hcc 0 _ rfl))).trans (hcc 0 _ rfl)
      have hN := hid (map_take (f := T9.nm) hlt)
      obtain ⟨x, hx⟩ : ∃ x, (r.ts[i]'hlt).nm = x := ⟨_, rfl⟩
      rw [hx] at k1 hN
      have hz := hB.lt
      clear hx hat hc hcc
      go_wp2_with (at_builtin; refine wpList_append_own _ rfl _ _ 32 rfl (W.heap.size + 1) 9 i0 (.string ⟨#[]⟩) 1 16 Tryz.underlying32 hi0 hz0 hz1 hz2 rfl (by decide) _ _ _ rfl (hown.alloc _) ⟨wr.heap.size, 0, none⟩ 1 1 [.string x] rfl rfl cells_new (str_lone9 _) (by unfold maxLen; omega) (by omega) (by simp; omega) ?_)
      intro v' w' hown' hg' _
      have hb' := below_push (t := 9) hL.size hL hown (by omega) hg'
      have hB' := (hB.alloc (.cells #[.string x] 9)).grown hg' (own_not hown (by omega))
      have hown2 := own_to hown' (m := i + 1) (ys := strs ((namesT r).take (i + 1))) rfl (by unfold namesT; rw [hN.out]; exact strs_snoc _ x)
      clear hg' hown hL hown' hB b0 k1 hN
      go_wp2_with fail
      go_roundw
      case rel => exact ⟨i + 1, by go_num, by omega, hown2, hB', hb'⟩
      case measure => simp [RowKit.intOf]; omega
    · obtain rfl : i = r.ts.length := by omega
      have hown2 := own_to hown (m := r.ts.length) (ys := strs (namesT r)) rfl (by rw [List.take_of_length_le (by unfold namesT; simp)])
      have d1 : ¬ (r.ts.length : Int) < r.ts.length := by omega
      clear hown hat
      go_wp2_with fail
      go_ret
      exact ⟨_, rfl, hown2, hL⟩

end

section
open Go.RowKit Go.Lib

section
variable {P : Program} {W : World} {us : List Value}
theorem CellsAt.first {g o : Nat} {v : Value} (h : CellsAt W g o us) (e : us[0]? = some v) : W.cell? ⟨g, o, none⟩ = some v := h 0 v e
theorem CellsAt.lt' {g o : Nat} {v : Value} (h : CellsAt W g o us) (e : us[0]? = some v) : g < W.heap.size := World.block_lt_of_cell? W _ (h 0 v e)
theorem CellsAt.below' {w' : World} {g o : Nat} (h : CellsAt W g o us) (hg : g < W.heap.size) (hb : Below W.heap.size W w') : CellsAt w' g o us := fun i x e => (hb.cell (p := ⟨g, o + i, none⟩) hg).trans (h i x e)
theorem CellsAt.loads {g o : Nat} (h : CellsAt W g o us) {k : Nat} (hl : us.length = k) : Sem.run P (loadCellsFrom ⟨g, o, none⟩ 0 k #[]) W = .ok us.toArray W :=
  run_loadCellsFrom_list P W _ us k hl (fun j v hj => by
    have hadd : (⟨g, o, none⟩ : Addr).add j = ⟨g, o + j, none⟩ := by unfold Addr.add; split <;> simp_all
    rw [hadd]; exact h j v hj)
end

/-- The cells of a unit type, a technology, a weapon. -/
def UL (W : World) (vs : List Value) (u : U9) : Prop := ∃ sn st sr, vs = uCells u sn st sr ∧ StrSl W sn u.needs ∧ StrSl W st u.trains ∧ StrSl W sr u.ress
def TL (W : World) (vs : List Value) (t : T9) : Prop := ∃ sn, vs = tCells t sn ∧ StrSl W sn t.needs
def WL (vs : List Value) (w : W9) : Prop := vs = wCells w
theorem UL.below {W w' : World} {vs : List Value} {u : U9} (h : UL W vs u) (hb : Below W.heap.size W w') : UL w' vs u := by
  obtain ⟨sn, st, sr, h0, h1, h2, h3⟩ := h
  exact ⟨sn, st, sr, h0, h1.below hb, h2.below hb, h3.below hb⟩
theorem TL.below {W w' : World} {vs : List Value} {u : T9} (h : TL W vs u) (hb : Below W.heap.size W w') : TL w' vs u := by
  obtain ⟨sn, h0, h1⟩ := h
  exact ⟨sn, h0, h1.below hb⟩
theorem UL.len {W : World} {vs : List Value} {u : U9} (h : UL W vs u) : vs.length = 19 := by obtain ⟨sn, st, sr, rfl, -⟩ := h; rfl
theorem TL.len {W : World} {vs : List Value} {u : T9} (h : TL W vs u) : vs.length = 8 := by obtain ⟨sn, rfl, -⟩ := h; rfl
theorem WL.len {vs : List Value} {u : W9} (h : WL vs u) : vs.length = 6 := by subst h; rfl
theorem StrSl.lone {W : World} {v : Value} {l : List ByteArray} (h : StrSl W v l) : v.oneCell' = true := by obtain ⟨p, c, rfl, -⟩ := h; rfl
theorem UL.lone {W : World} {vs : List Value} {u : U9} (h : UL W vs u) : ∀ v ∈ vs, v.oneCell' = true := by
  obtain ⟨sn, st, sr, rfl, h1, h2, h3⟩ := h
  intro v hv
  simp only [uCells, List.mem_cons, List.not_mem_nil, or_false] at hv
  rcases hv with rfl | rfl | rfl | rfl | rfl | rfl | rfl | rfl | rfl | rfl | rfl | rfl | rfl | rfl | rfl | rfl | rfl | rfl | rfl <;> first | rfl | exact h1.lone | exact h2.lone | exact h3.lone
theorem TL.lone {W : World} {vs : List Value} {u : T9} (h : TL W vs u) : ∀ v ∈ vs, v.oneCell' = true := by
  obtain ⟨sn, rfl, h1⟩ := h
  intro v hv
  simp only [tCells, List.mem_cons, List.not_mem_nil, or_false] at hv
  rcases hv with rfl | rfl | rfl | rfl | rfl | rfl | rfl | rfl <;> first | rfl | exact h1.lone
theorem WL.lone {vs : List Value} {u : W9} (h : WL vs u) : ∀ v ∈ vs, v.oneCell' = true := by
  subst h
  intro v hv
  simp only [wCells, List.mem_cons, List.not_mem_nil, or_false] at hv
  rcases hv with rfl | rfl | rfl | rfl | rfl | rfl <;> rfl
theorem UAt.ul {W : World} {g o : Nat} {u : U9} (h : UAt W g o u) : ∃ vs, UL W vs u ∧ CellsAt W g o vs := by
  obtain ⟨sn, st, sr, h0, h1, h2, h3⟩ := h
  exact ⟨_, ⟨sn, st, sr, rfl, h1, h2, h3⟩, h0⟩
theorem TAt.tl {W : World} {g o : Nat} {u : T9} (h : TAt W g o u) : ∃ vs, TL W vs u ∧ CellsAt W g o vs := by
  obtain ⟨sn, h0, h1⟩ := h
  exact ⟨_, ⟨sn, rfl, h1⟩, h0⟩
theorem WAt.wl {W : World} {g o : Nat} {u : W9} (h : WAt W g o u) : ∃ vs, WL vs u ∧ CellsAt W g o vs := ⟨_, rfl, h⟩
theorem UL.name {W : World} {vs : List Value} {u : U9} (h : UL W vs u) : vs[0]? = some (.string u.nm) := by obtain ⟨sn, st, sr, rfl, -⟩ := h; rfl
theorem TL.name {W : World} {vs : List Value} {u : T9} (h : TL W vs u) : vs[0]? = some (.string u.nm) := by obtain ⟨sn, rfl, -⟩ := h; rfl
theorem WL.name {vs : List Value} {u : W9} (h : WL vs u) : vs[0]? = some (.string u.nm) := by subst h; rfl
/-- A struct that came as a value. -/
def UVal (W : World) (v : Value) (u : U9) : Prop := ∃ vs, v = .agg vs.toArray ∧ UL W vs u
def TVal (W : World) (v : Value) (u : T9) : Prop := ∃ vs, v = .agg vs.toArray ∧ TL W vs u
def WVal (v : Value) (u : W9) : Prop := ∃ vs, v = .agg vs.toArray ∧ WL vs u
theorem strSl_nil (W : World) : StrSl W (.slice none 0 0) [] := ⟨none, 0, rfl, by simp, fun h => absurd h (by simp)⟩
/-- The zero values' cells. -/
def uZero : List Value := uCells U9.zero (.slice none 0 0) (.slice none 0 0) (.slice none 0 0)
def tZero : List Value := tCells T9.zero (.slice none 0 0)
theorem zeroU : ∀ w, (zeroValue 34).run Tryz.prog w = .ok (.agg uZero.toArray) w := Tryz.zeroValue34
theorem zeroT : ∀ w, (zeroValue 42).run Tryz.prog w = .ok (.agg tZero.toArray) w := Tryz.zeroValue42
def wZero : List Value := wCells W9.zero
theorem zeroW : ∀ w, (zeroValue 38).run Tryz.prog w = .ok (.agg wZero.toArray) w := Tryz.zeroValue38
theorem buildU : ∀ w, Sem.run Tryz.prog (Instr.build 34 #[]) w = .ok (.agg uZero.toArray) w := fun w => by kernel_rfl
theorem buildW : ∀ w, Sem.run Tryz.prog (Instr.build 38 #[]) w = .ok (.agg wZero.toArray) w := fun w => by kernel_rfl
theorem buildT : ∀ w, Sem.run Tryz.prog (Instr.build 42 #[]) w = .ok (.agg tZero.toArray) w := fun w => by kernel_rfl
theorem uZero_ul (W : World) : UL W uZero U9.zero := ⟨_, _, _, rfl, strSl_nil W, strSl_nil W, strSl_nil W⟩
theorem wZero_wl : WL wZero W9.zero := rfl
theorem tZero_tl (W : World) : TL W tZero T9.zero := ⟨_, rfl, strSl_nil W⟩


/-- The three lists' values. -/
theorem UL.lists {W : World} {vs : List Value} {u : U9} (h : UL W vs u) : ∃ pn cn pt ct pr cr, vs = uCells u (.slice pn u.needs.length cn) (.slice pt u.trains.length ct) (.slice pr u.ress.length cr) ∧ StrSl W (.slice pn u.needs.length cn) u.needs ∧ StrSl W (.slice pt u.trains.length ct) u.trains ∧ StrSl W (.slice pr u.ress.length cr) u.ress := by
  obtain ⟨sn, st, sr, rfl, h1, h2, h3⟩ := h
  obtain ⟨pn, cn, rfl, -⟩ := id h1
  obtain ⟨pt, ct, rfl, -⟩ := id h2
  obtain ⟨pr, cr, rfl, -⟩ := id h3
  exact ⟨_, _, _, _, _, _, rfl, h1, h2, h3⟩
theorem TL.lists {W : World} {vs : List Value} {u : T9} (h : TL W vs u) : ∃ pn cn, vs = tCells u (.slice pn u.needs.length cn) ∧ StrSl W (.slice pn u.needs.length cn) u.needs := by
  obtain ⟨sn, rfl, h1⟩ := h
  obtain ⟨pn, cn, rfl, -⟩ := id h1
  exact ⟨_, _, rfl, h1⟩
theorem StrSl.small {W : World} {v : Value} {l : List ByteArray} (h : StrSl W v l) : l.length ≤ 9223372036854775807 := by
  obtain ⟨p, c, rfl, hm, -⟩ := h
  unfold maxLen at hm
  omega
theorem allp_take {α : Type} {f : α → Bool} {l : List α} {i : Nat} (hi : i < l.length) (h : (l.take i).all f = true) (hf : f (l[i]'hi) = true) : (l.take (i + 1)).all f = true := by
  rw [List.take_succ_eq_append_getElem hi, List.all_append, h, List.all_cons, hf, List.all_nil]
  rfl
theorem allp_no {α : Type} {f : α → Bool} {l : List α} {i : Nat} (hi : i < l.length) (hf : f (l[i]'hi) = false) : l.all f = false := by
  cases hq : l.all f with
  | false => rfl
  | true => rw [List.all_eq_true.1 hq _ (List.getElem_mem hi)] at hf; cases hf
/-- The cells, one by one. -/
theorem CellsAt.unit {W : World} {g o : Nat} {u : U9} {sn st sr : Value} (h : CellsAt W g o (uCells u sn st sr)) : W.cell? ⟨g, o, none⟩ = some (.string u.nm) ∧ W.cell? ⟨g, o + 1, none⟩ = some (.bool u.bld) ∧ W.cell? ⟨g, o + 2, none⟩ = some (.bool u.dep) ∧ W.cell? ⟨g, o + 3, none⟩ = some (.int .i64 u.cls) ∧ W.cell? ⟨g, o + 4, none⟩ = some (.int .i64 u.w) ∧ W.cell? ⟨g, o + 5, none⟩ = some (.int .i64 u.h) ∧ W.cell? ⟨g, o + 6, none⟩ = some (.int .i64 u.rad) ∧ W.cell? ⟨g, o + 7, none⟩ = some (.int .i64 u.spd) ∧ W.cell? ⟨g, o + 8, none⟩ = some (.int .i64 u.sgt) ∧ W.cell? ⟨g, o + 9, none⟩ = some (.int .i64 u.hp) ∧ W.cell? ⟨g, o + 10, none⟩ = some (.int .i64 u.arm) ∧ W.cell? ⟨g, o + 11, none⟩ = some (.int .i64 u.load) ∧ W.cell? ⟨g, o + 12, none⟩ = some (.string u.wpn) ∧ W.cell? ⟨g, o + 13, none⟩ = some (.int .i64 u.ore) ∧ W.cell? ⟨g, o + 14, none⟩ = some (.int .i64 u.wood) ∧ W.cell? ⟨g, o + 15, none⟩ = some (.int .i64 u.time) ∧ W.cell? ⟨g, o + 16, none⟩ = some (sn) ∧ W.cell? ⟨g, o + 17, none⟩ = some (st) ∧ W.cell? ⟨g, o + 18, none⟩ = some (sr) :=
  ⟨h 0 _ rfl, h 1 _ rfl, h 2 _ rfl, h 3 _ rfl, h 4 _ rfl, h 5 _ rfl, h 6 _ rfl, h 7 _ rfl, h 8 _ rfl, h 9 _ rfl, h 10 _ rfl, h 11 _ rfl, h 12 _ rfl, h 13 _ rfl, h 14 _ rfl, h 15 _ rfl, h 16 _ rfl, h 17 _ rfl, h 18 _ rfl⟩
theorem CellsAt.tech {W : World} {g o : Nat} {t : T9} {sn : Value} (h : CellsAt W g o (tCells t sn)) : W.cell? ⟨g, o, none⟩ = some (.string t.nm) ∧ W.cell? ⟨g, o + 1, none⟩ = some (sn) ∧ W.cell? ⟨g, o + 2, none⟩ = some (.int .i64 t.ore) ∧ W.cell? ⟨g, o + 3, none⟩ = some (.int .i64 t.wood) ∧ W.cell? ⟨g, o + 4, none⟩ = some (.int .i64 t.time) ∧ W.cell? ⟨g, o + 5, none⟩ = some (.string t.un) ∧ W.cell? ⟨g, o + 6, none⟩ = some (.int .i64 t.stat) ∧ W.cell? ⟨g, o + 7, none⟩ = some (.int .i64 t.amt) :=
  ⟨h 0 _ rfl, h 1 _ rfl, h 2 _ rfl, h 3 _ rfl, h 4 _ rfl, h 5 _ rfl, h 6 _ rfl, h 7 _ rfl⟩
theorem CellsAt.weap {W : World} {g o : Nat} {x : W9} (h : CellsAt W g o (wCells x)) : W.cell? ⟨g, o, none⟩ = some (.string x.nm) ∧ W.cell? ⟨g, o + 1, none⟩ = some (.int .i64 x.rng) ∧ W.cell? ⟨g, o + 2, none⟩ = some (.int .i64 x.dmg) ∧ W.cell? ⟨g, o + 3, none⟩ = some (.int .i64 x.cool) ∧ W.cell? ⟨g, o + 4, none⟩ = some (.int .i64 x.spd) ∧ W.cell? ⟨g, o + 5, none⟩ = some (.int .i64 x.spl) :=
  ⟨h 0 _ rfl, h 1 _ rfl, h 2 _ rfl, h 3 _ rfl, h 4 _ rfl, h 5 _ rfl⟩

theorem find_take {α : Type} {p : α → Bool} {l : List α} {i : Nat} (hi : i < l.length) (h : (l.take i).find? p = none) (hn : p (l[i]'hi) = false) : (l.take (i + 1)).find? p = none := by
  rw [List.take_succ_eq_append_getElem hi, List.find?_append, h]
  simp [hn]
theorem find_at {α : Type} {p : α → Bool} {l : List α} {i : Nat} (hi : i < l.length) (h : (l.take i).find? p = none) (hn : p (l[i]'hi) = true) : l.find? p = some (l[i]'hi) := by
  have e : l = l.take i ++ l[i]'hi :: l.drop (i + 1) := by rw [← List.drop_eq_getElem_cons hi, List.take_append_drop]
  have e3 := congrArg (List.find? p) e
  rw [List.find?_append, h] at e3
  simp only [Option.none_or, List.find?_cons, hn] at e3
  exact e3

end

section
open Go.RowKit Go.Lib

def UnitPost (r : R9) (s : ByteArray) (V0 w : World) (e : Ending) (w' : World) : Prop := ∃ vs, e = .returned (.tuple #[.agg vs.toArray, .bool (unitv r s).isSome]) ∧ UL V0 vs ((unitv r s).getD U9.zero) ∧ Below w.heap.size w w'

set_option maxHeartbeats 4000000 in
set_option maxRecDepth 100000 in
theorem r9unit_b (su sw st : Value) (r : R9) (s : ByteArray) (V0 W : World) (hR : RAt V0 su sw st r) (h0 : Below V0.heap.size V0 W) :
    Calls Tryz.prog 19 #[.agg #[su, sw, st], .string s] W (UnitPost r s V0 W) := by
  obtain ⟨p, c, rfl, hm, hat⟩ := hR.u
  have hB := (Blk.new W [.slice p r.us.length c, sw, st] 28).alloc (.cells uZero.toArray 34)
  have hZ := (Blk.new (W.alloc (.cells [.slice p r.us.length c, sw, st].toArray 28)) uZero 34).at (World.size_alloc _ _)
  have hL := ((Below.refl W.heap.size W).alloc (Nat.le_refl _) (.cells [.slice p r.us.length c, sw, st].toArray 28)).alloc (by simp) (.cells uZero.toArray 34)
  have hL0 := h0.trans (hL.mono h0.size)
  unfold maxLen at hm
  clear hR
  go_enter Tryz.func19, Tryz.ntmps19
  go_wp2_with (with_reducible refine wpList_alloc_agg rfl 34 rfl _ rfl uZero zeroU ?_)
  generalize (W.alloc (.cells [.slice p r.us.length c, sw, st].toArray 28)).alloc (.cells uZero.toArray 34) = V at *
  have b0 := hB.cell 0
  simp only [List.getElem?_cons_zero] at b0
  go_loop [6] (fun vi => ∃ i : Nat, vi = .int .i64 i ∧ i ≤ r.us.length ∧ Hid ((r.us.take i).find? (fun u => decide (u.nm = s)) = none)) (fun vi => r.us.length - (RowKit.intOf vi).toNat)
  case atStart => exact ⟨0, rfl, by omega, hid rfl⟩
  case round =>
    obtain ⟨i, rfl, hi, hA⟩ := hrel
    by_cases hlt : i < r.us.length
    · have d1 : (i : Int) < r.us.length := by omega
      have d0 : (0 : Int) ≤ i := by omega
      obtain ⟨g, o, rfl, hc⟩ := hat (by omega)
      obtain ⟨vs, hU, hcs⟩ := (hc i hlt).ul
      have hcV := hcs.below' (hcs.lt' hU.name) hL0
      have k0 := hcV.first hU.name
      have kl := hcV.loads (P := Tryz.prog) hU.len
      have HN := fun (q : ¬ (r.us[i]'hlt).nm = s) => hid (find_take (p := fun u => decide (u.nm = s)) hlt hA.out (decide_eq_false q))
      have HY := fun (q : (r.us[i]'hlt).nm = s) => hid (find_at (p := fun u => decide (u.nm = s)) hlt hA.out (decide_eq_true q))
      obtain ⟨u, hu⟩ : ∃ u, r.us[i]'hlt = u := ⟨_, rfl⟩
      rw [hu] at k0 HN HY hU
      clear hat hA hc hu hcs
      by_cases hq : u.nm = s
      · have HS := HY hq
        clear HY HN
        rw [hq] at k0
        have hU' := hid hU
        have hcV' := hid hcV
        have kl' := hid kl
        clear hU hcV kl
        go_wp2_with (first | (with_reducible refine wpList_load_agg rfl 34 _ rfl ⟨g, o + i * 19, none⟩ (by with_unfolding_all rfl) Tryz.isAgg34 Tryz.sizeOf34 vs kl'.out ?_) | (with_reducible refine wpList_store_agg rfl 34 _ _ rfl rfl (W.heap.size + 1) (by with_unfolding_all rfl) Tryz.sizeOf34 vs (by with_unfolding_all rfl) hU'.out.len hZ rfl hU'.out.lone ?_))
        refine bodyPost_ret (results_agg_two rfl rfl rfl Tryz.isAgg34 Tryz.sizeOf34 (hZ.put vs) hU'.out.len) rfl ?_
        have hL2 := below_setRow hL (Nat.le_succ W.heap.size) vs.toArray
        refine ⟨vs, ?_, ?_, hL2⟩
        · unfold unitv; rw [HS.out]; rfl
        · unfold unitv; rw [HS.out]; exact hU'.out
      · have hns := ne_list hq
        obtain ⟨q1, q2⟩ := hns
        have HS := HN hq
        clear HN HY hq kl
        go_wp2_with fail
        go_round
        case rel => exact ⟨i + 1, by go_num, by omega, HS⟩
        case measure => simp [RowKit.intOf]; omega
    · obtain rfl : i = r.us.length := by omega
      have ha := hA.out
      rw [List.take_length] at ha
      have d1 : ¬ (r.us.length : Int) < r.us.length := by omega
      have ha' := hid ha
      clear ha hA hat
      go_wp2_with (first | (with_reducible refine wpList_zero_agg rfl 34 rfl uZero buildU ?_) | (with_reducible refine wpList_store_agg rfl 34 _ _ rfl rfl (W.heap.size + 1) (by with_unfolding_all rfl) Tryz.sizeOf34 uZero (by with_unfolding_all rfl) rfl hZ rfl (uZero_ul W).lone ?_))
      refine bodyPost_ret (results_agg_two rfl rfl rfl Tryz.isAgg34 Tryz.sizeOf34 (hZ.put uZero) rfl) rfl ?_
      have hL2 := below_setRow hL (Nat.le_succ W.heap.size) uZero.toArray
      refine ⟨uZero, ?_, ?_, hL2⟩
      · unfold unitv; rw [ha'.out]; rfl
      · unfold unitv; rw [ha'.out]; exact uZero_ul _

def WeaponPost (r : R9) (s : ByteArray) (_V0 w : World) (e : Ending) (w' : World) : Prop := ∃ vs, e = .returned (.tuple #[.agg vs.toArray, .bool (weaponv r s).isSome]) ∧ WL vs ((weaponv r s).getD W9.zero) ∧ Below w.heap.size w w'

set_option maxHeartbeats 4000000 in
set_option maxRecDepth 100000 in
theorem r9weapon_b (su sw st : Value) (r : R9) (s : ByteArray) (V0 W : World) (hR : RAt V0 su sw st r) (h0 : Below V0.heap.size V0 W) :
    Calls Tryz.prog 20 #[.agg #[su, sw, st], .string s] W (WeaponPost r s V0 W) := by
  obtain ⟨p, c, rfl, hm, hat⟩ := hR.w
  have hB := (Blk.new W [su, .slice p r.ws.length c, st] 28).alloc (.cells wZero.toArray 38)
  have hZ := (Blk.new (W.alloc (.cells [su, .slice p r.ws.length c, st].toArray 28)) wZero 38).at (World.size_alloc _ _)
  have hL := ((Below.refl W.heap.size W).alloc (Nat.le_refl _) (.cells [su, .slice p r.ws.length c, st].toArray 28)).alloc (by simp) (.cells wZero.toArray 38)
  have hL0 := h0.trans (hL.mono h0.size)
  unfold maxLen at hm
  clear hR
  go_enter Tryz.func20, Tryz.ntmps20
  go_wp2_with (with_reducible refine wpList_alloc_agg rfl 38 rfl _ rfl wZero zeroW ?_)
  generalize (W.alloc (.cells [su, .slice p r.ws.length c, st].toArray 28)).alloc (.cells wZero.toArray 38) = V at *
  have b0 := hB.cell 1
  simp only [List.getElem?_cons_zero, List.getElem?_cons_succ] at b0
  go_loop [6] (fun vi => ∃ i : Nat, vi = .int .i64 i ∧ i ≤ r.ws.length ∧ Hid ((r.ws.take i).find? (fun u => decide (u.nm = s)) = none)) (fun vi => r.ws.length - (RowKit.intOf vi).toNat)
  case atStart => exact ⟨0, rfl, by omega, hid rfl⟩
  case round =>
    obtain ⟨i, rfl, hi, hA⟩ := hrel
    by_cases hlt : i < r.ws.length
    · have d1 : (i : Int) < r.ws.length := by omega
      have d0 : (0 : Int) ≤ i := by omega
      obtain ⟨g, o, rfl, hc⟩ := hat (by omega)
      obtain ⟨vs, hU, hcs⟩ := (hc i hlt).wl
      have hcV := hcs.below' (hcs.lt' hU.name) hL0
      have k0 := hcV.first hU.name
      have kl := hcV.loads (P := Tryz.prog) hU.len
      have HN := fun (q : ¬ (r.ws[i]'hlt).nm = s) => hid (find_take (p := fun u => decide (u.nm = s)) hlt hA.out (decide_eq_false q))
      have HY := fun (q : (r.ws[i]'hlt).nm = s) => hid (find_at (p := fun u => decide (u.nm = s)) hlt hA.out (decide_eq_true q))
      obtain ⟨u, hu⟩ : ∃ u, r.ws[i]'hlt = u := ⟨_, rfl⟩
      rw [hu] at k0 HN HY hU
      clear hat hA hc hu hcs
      by_cases hq : u.nm = s
      · have HS := HY hq
        clear HY HN
        rw [hq] at k0
        have hU' := hid hU
        have hcV' := hid hcV
        have kl' := hid kl
        clear hU hcV kl
        go_wp2_with (first | (with_reducible refine wpList_load_agg rfl 38 _ rfl ⟨g, o + i * 6, none⟩ (by with_unfolding_all rfl) Tryz.isAgg38 Tryz.sizeOf38 vs kl'.out ?_) | (with_reducible refine wpList_store_agg rfl 38 _ _ rfl rfl (W.heap.size + 1) (by with_unfolding_all rfl) Tryz.sizeOf38 vs (by with_unfolding_all rfl) hU'.out.len hZ rfl hU'.out.lone ?_))
        refine bodyPost_ret (results_agg_two rfl rfl rfl Tryz.isAgg38 Tryz.sizeOf38 (hZ.put vs) hU'.out.len) rfl ?_
        have hL2 := below_setRow hL (Nat.le_succ W.heap.size) vs.toArray
        refine ⟨vs, ?_, ?_, hL2⟩
        · unfold weaponv; rw [HS.out]; rfl
        · unfold weaponv; rw [HS.out]; exact hU'.out
      · have hns := ne_list hq
        obtain ⟨q1, q2⟩ := hns
        have HS := HN hq
        clear HN HY hq kl
        go_wp2_with fail
        go_round
        case rel => exact ⟨i + 1, by go_num, by omega, HS⟩
        case measure => simp [RowKit.intOf]; omega
    · obtain rfl : i = r.ws.length := by omega
      have ha := hA.out
      rw [List.take_length] at ha
      have d1 : ¬ (r.ws.length : Int) < r.ws.length := by omega
      have ha' := hid ha
      clear ha hA hat
      go_wp2_with (first | (with_reducible refine wpList_zero_agg rfl 38 rfl wZero buildW ?_) | (with_reducible refine wpList_store_agg rfl 38 _ _ rfl rfl (W.heap.size + 1) (by with_unfolding_all rfl) Tryz.sizeOf38 wZero (by with_unfolding_all rfl) rfl hZ rfl wZero_wl.lone ?_))
      refine bodyPost_ret (results_agg_two rfl rfl rfl Tryz.isAgg38 Tryz.sizeOf38 (hZ.put wZero) rfl) rfl ?_
      have hL2 := below_setRow hL (Nat.le_succ W.heap.size) wZero.toArray
      refine ⟨wZero, ?_, ?_, hL2⟩
      · unfold weaponv; rw [ha'.out]; rfl
      · unfold weaponv; rw [ha'.out]; exact wZero_wl

def TechPost (r : R9) (s : ByteArray) (V0 w : World) (e : Ending) (w' : World) : Prop := ∃ vs, e = .returned (.tuple #[.agg vs.toArray, .bool (techfv r s).isSome]) ∧ TL V0 vs ((techfv r s).getD T9.zero) ∧ Below w.heap.size w w'

set_option maxHeartbeats 4000000 in
set_option maxRecDepth 100000 in
theorem r9tech_b (su sw st : Value) (r : R9) (s : ByteArray) (V0 W : World) (hR : RAt V0 su sw st r) (h0 : Below V0.heap.size V0 W) :
    Calls Tryz.prog 21 #[.agg #[su, sw, st], .string s] W (TechPost r s V0 W) := by
  obtain ⟨p, c, rfl, hm, hat⟩ := hR.t
  have hB := (Blk.new W [su, sw, .slice p r.ts.length c] 28).alloc (.cells tZero.toArray 42)
  have hZ := (Blk.new (W.alloc (.cells [su, sw, .slice p r.ts.length c].toArray 28)) tZero 42).at (World.size_alloc _ _)
  have hL := ((Below.refl W.heap.size W).alloc (Nat.le_refl _) (.cells [su, sw, .slice p r.ts.length c].toArray 28)).alloc (by simp) (.cells tZero.toArray 42)
  have hL0 := h0.trans (hL.mono h0.size)
  unfold maxLen at hm
  clear hR
  go_enter Tryz.func21, Tryz.ntmps21
  go_wp2_with (with_reducible refine wpList_alloc_agg rfl 42 rfl _ rfl tZero zeroT ?_)
  generalize (W.alloc (.cells [su, sw, .slice p r.ts.length c].toArray 28)).alloc (.cells tZero.toArray 42) = V at *
  have b0 := hB.cell 2
  simp only [List.getElem?_cons_zero, List.getElem?_cons_succ] at b0
  go_loop [6] (fun vi => ∃ i : Nat, vi = .int .i64 i ∧ i ≤ r.ts.length ∧ Hid ((r.ts.take i).find? (fun u => decide (u.nm = s)) = none)) (fun vi => r.ts.length - (RowKit.intOf vi).toNat)
  case atStart => exact ⟨0, rfl, by omega, hid rfl⟩
  case round =>
    obtain ⟨i, rfl, hi, hA⟩ := hrel
    by_cases hlt : i < r.ts.length
    · have d1 : (i : Int) < r.ts.length := by omega
      have d0 : (0 : Int) ≤ i := by omega
      obtain ⟨g, o, rfl, hc⟩ := hat (by omega)
      obtain ⟨vs, hU, hcs⟩ := (hc i hlt).tl
      have hcV := hcs.below' (hcs.lt' hU.name) hL0
      have k0 := hcV.first hU.name
      have kl := hcV.loads (P := Tryz.prog) hU.len
      have HN := fun (q : ¬ (r.ts[i]'hlt).nm = s) => hid (find_take (p := fun u => decide (u.nm = s)) hlt hA.out (decide_eq_false q))
      have HY := fun (q : (r.ts[i]'hlt).nm = s) => hid (find_at (p := fun u => decide (u.nm = s)) hlt hA.out (decide_eq_true q))
      obtain ⟨u, hu⟩ : ∃ u, r.ts[i]'hlt = u := ⟨_, rfl⟩
      rw [hu] at k0 HN HY hU
      clear hat hA hc hu hcs
      by_cases hq : u.nm = s
      · have HS := HY hq
        clear HY HN
        rw [hq] at k0
        have hU' := hid hU
        have hcV' := hid hcV
        have kl' := hid kl
        clear hU hcV kl
        go_wp2_with (first | (with_reducible refine wpList_load_agg rfl 42 _ rfl ⟨g, o + i * 8, none⟩ (by with_unfolding_all rfl) Tryz.isAgg42 Tryz.sizeOf42 vs kl'.out ?_) | (with_reducible refine wpList_store_agg rfl 42 _ _ rfl rfl (W.heap.size + 1) (by with_unfolding_all rfl) Tryz.sizeOf42 vs (by with_unfolding_all rfl) hU'.out.len hZ rfl hU'.out.lone ?_))
        refine bodyPost_ret (results_agg_two rfl rfl rfl Tryz.isAgg42 Tryz.sizeOf42 (hZ.put vs) hU'.out.len) rfl ?_
        have hL2 := below_setRow hL (Nat.le_succ W.heap.size) vs.toArray
        refine ⟨vs, ?_, ?_, hL2⟩
        · unfold techfv; rw [HS.out]; rfl
        · unfold techfv; rw [HS.out]; exact hU'.out
      · have hns := ne_list hq
        obtain ⟨q1, q2⟩ := hns
        have HS := HN hq
        clear HN HY hq kl
        go_wp2_with fail
        go_round
        case rel => exact ⟨i + 1, by go_num, by omega, HS⟩
        case measure => simp [RowKit.intOf]; omega
    · obtain rfl : i = r.ts.length := by omega
      have ha := hA.out
      rw [List.take_length] at ha
      have d1 : ¬ (r.ts.length : Int) < r.ts.length := by omega
      have ha' := hid ha
      clear ha hA hat
      go_wp2_with (first | (with_reducible refine wpList_zero_agg rfl 42 rfl tZero buildT ?_) | (with_reducible refine wpList_store_agg rfl 42 _ _ rfl rfl (W.heap.size + 1) (by with_unfolding_all rfl) Tryz.sizeOf42 tZero (by with_unfolding_all rfl) rfl hZ rfl (tZero_tl W).lone ?_))
      refine bodyPost_ret (results_agg_two rfl rfl rfl Tryz.isAgg42 Tryz.sizeOf42 (hZ.put tZero) rfl) rfl ?_
      have hL2 := below_setRow hL (Nat.le_succ W.heap.size) tZero.toArray
      refine ⟨tZero, ?_, ?_, hL2⟩
      · unfold techfv; rw [ha'.out]; rfl
      · unfold techfv; rw [ha'.out]; exact tZero_tl _

end

section
open Go.RowKit Go.Lib

def lim1 (u : U9) : Bool := decide (u.needs.length ≤ 4) && decide (u.trains.length ≤ 4) && decide (u.ress.length ≤ 4)
def lim2 (t : T9) : Bool := decide (t.needs.length ≤ 4)
theorem limv_eq (r : R9) : limv r = (decide (r.us.length ≤ 16) && decide (r.ws.length ≤ 8) && decide (r.ts.length ≤ 12) && r.us.all lim1 && r.ts.all lim2) := rfl

set_option maxHeartbeats 4000000 in
set_option maxRecDepth 100000 in
theorem r9limits_b (su sw st : Value) (r : R9) (b : Bool) (W : World) (hR : RAt W su sw st r) (e : Hid (b = limv r)) :
    Calls Tryz.prog 42 #[.agg #[su, sw, st]] W fun e w' => e = .returned (.bool b) ∧ Below W.heap.size W w' := by
  obtain ⟨p, c, rfl, hm, hat⟩ := hR.u
  obtain ⟨p1, c1, rfl, hm1, -⟩ := hR.w
  obtain ⟨p2, c2, rfl, hm2, hat2⟩ := hR.t
  have hB := Blk.new W [.slice p r.us.length c, .slice p1 r.ws.length c1, .slice p2 r.ts.length c2] 28
  have hL := (Below.refl W.heap.size W).alloc (Nat.le_refl _) (.cells [.slice p r.us.length c, .slice p1 r.ws.length c1, .slice p2 r.ts.length c2].toArray 28)
  unfold maxLen at hm hm1 hm2
  replace e := hid (e.out.trans (limv_eq r))
  clear hR
  by_cases h1 : 16 < r.us.length
  · have hb : b = false := by rw [e.out, decide_eq_false (by omega)]; rfl
    subst hb
    clear e
    go_enter Tryz.func42, Tryz.ntmps42
    go_wp2_with fail
    go_ret
    exact ⟨rfl, hL⟩
  by_cases h2 : 8 < r.ws.length
  · have hb : b = false := by rw [e.out, decide_eq_false (show ¬ r.ws.length ≤ 8 by omega), Bool.and_false]; rfl
    subst hb
    clear e
    go_enter Tryz.func42, Tryz.ntmps42
    go_wp2_with fail
    go_ret
    exact ⟨rfl, hL⟩
  by_cases h3 : 12 < r.ts.length
  · have hb : b = false := by rw [e.out, decide_eq_false (show ¬ r.ts.length ≤ 12 by omega), Bool.and_false]; rfl
    subst hb
    clear e
    go_enter Tryz.func42, Tryz.ntmps42
    go_wp2_with fail
    go_ret
    exact ⟨rfl, hL⟩
  replace e := hid (show b = (r.us.all lim1 && r.ts.all lim2) by rw [e.out, decide_eq_true (show r.us.length ≤ 16 by omega), decide_eq_true (show r.ws.length ≤ 8 by omega), decide_eq_true (show r.ts.length ≤ 12 by omega)]; rfl)
  go_enter Tryz.func42, Tryz.ntmps42
  go_wp2_with fail
  generalize W.alloc (.cells [.slice p r.us.length c, .slice p1 r.ws.length c1, .slice p2 r.ts.length c2].toArray 28) = V at *
  go_loopw [3] (fun vi wr => ∃ i : Nat, vi = .int .i64 i ∧ i ≤ r.us.length ∧ Blk wr W.heap.size [.slice p r.us.length c, .slice p1 r.ws.length c1, .slice p2 r.ts.length c2] 28 ∧ Below W.heap.size W wr ∧ Hid ((r.us.take i).all lim1 = true)) (fun vi _ => r.us.length - (RowKit.intOf vi).toNat)
  case atStart => exact ⟨0, rfl, by omega, hB, hL, hid rfl⟩
  case round =>
    clear hB hL
    obtain ⟨i, rfl, hi, hB, hL, hA⟩ := hrel
    have b0 := hB.cell 0
    have b2 := hB.cell 2
    simp only [List.getElem?_cons_zero, List.getElem?_cons_succ] at b0 b2
    by_cases hlt : i < r.us.length
    · have d1 : (i : Int) < r.us.length := by omega
      have d0 : (0 : Int) ≤ i := by omega
      obtain ⟨g, o, rfl, hc⟩ := hat (by omega)
      obtain ⟨vs, hU, hcs⟩ := (hc i hlt).ul
      have kl := hid ((hcs.below' (hcs.lt' hU.name) hL).loads (P := Tryz.prog) hU.len)
      obtain ⟨pn, cn, pt, ct, pr, cr, hvs, s1, s2, s3⟩ := hU.lists
      have l1 := s1.small
      have l2 := s2.small
      have l3 := s3.small
      have HN := fun q => hid (allp_take (f := lim1) hlt hA.out q)
      have HY := fun q => hid (allp_no (f := lim1) hlt q)
      have hU' := hid hU
      obtain ⟨u, hu⟩ : ∃ u, r.us[i]'hlt = u := ⟨_, rfl⟩
      rw [hu] at HN HY hU' hvs l1 l2 l3
      have hZ := Blk.new wr vs 34
      have t16 : (wr.alloc (.cells vs.toArray 34)).cell? ⟨wr.heap.size, 16, none⟩ = some (.slice pn u.needs.length cn) := (hZ.cell 16).trans (by rw [hvs]; rfl)
      have t17 : (wr.alloc (.cells vs.toArray 34)).cell? ⟨wr.heap.size, 17, none⟩ = some (.slice pt u.trains.length ct) := (hZ.cell 17).trans (by rw [hvs]; rfl)
      have t18 : (wr.alloc (.cells vs.toArray 34)).cell? ⟨wr.heap.size, 18, none⟩ = some (.slice pr u.ress.length cr) := (hZ.cell 18).trans (by rw [hvs]; rfl)
      have hB2 := hB.alloc (.cells vs.toArray 34)
      have hL2 := hL.alloc hL.size (.cells vs.toArray 34)
      clear hu hat hc hU hA hcs s1 s2 s3 hvs hZ
      by_cases g1 : 4 < u.needs.length
      · have hb : b = false := by rw [e.out, (HY (by unfold lim1; simp; omega)).out]; rfl
        subst hb
        clear e HN HY
        go_wp2_with (first | (with_reducible refine wpList_load_agg rfl 34 _ rfl ⟨g, o + i * 19, none⟩ (by with_unfolding_all rfl) Tryz.isAgg34 Tryz.sizeOf34 vs kl.out ?_) | (with_reducible refine wpList_alloc_agg rfl 34 rfl _ rfl uZero zeroU ?_) | (with_reducible refine wpList_store_new rfl 34 _ _ rfl rfl Tryz.sizeOf34 vs uZero 34 (by with_unfolding_all rfl) (by with_unfolding_all rfl) hU'.out.len rfl hU'.out.lone ?_))
        go_ret
        exact ⟨rfl, hL2⟩
      by_cases g2 : 4 < u.trains.length
      · have hb : b = false := by rw [e.out, (HY (by unfold lim1; simp; omega)).out]; rfl
        subst hb
        clear e HN HY
        go_wp2_with (first | (with_reducible refine wpList_load_agg rfl 34 _ rfl ⟨g, o + i * 19, none⟩ (by with_unfolding_all rfl) Tryz.isAgg34 Tryz.sizeOf34 vs kl.out ?_) | (with_reducible refine wpList_alloc_agg rfl 34 rfl _ rfl uZero zeroU ?_) | (with_reducible refine wpList_store_new rfl 34 _ _ rfl rfl Tryz.sizeOf34 vs uZero 34 (by with_unfolding_all rfl) (by with_unfolding_all rfl) hU'.out.len rfl hU'.out.lone ?_))
        go_ret
        exact ⟨rfl, hL2⟩
      by_cases g3 : 4 < u.ress.length
      · have hb : b = false := by rw [e.out, (HY (by unfold lim1; simp; omega)).out]; rfl
        subst hb
        clear e HN HY
        go_wp2_with (first | (with_reducible refine wpList_load_agg rfl 34 _ rfl ⟨g, o + i * 19, none⟩ (by with_unfolding_all rfl) Tryz.isAgg34 Tryz.sizeOf34 vs kl.out ?_) | (with_reducible refine wpList_alloc_agg rfl 34 rfl _ rfl uZero zeroU ?_) | (with_reducible refine wpList_store_new rfl 34 _ _ rfl rfl Tryz.sizeOf34 vs uZero 34 (by with_unfolding_all rfl) (by with_unfolding_all rfl) hU'.out.len rfl hU'.out.lone ?_))
        go_ret
        exact ⟨rfl, hL2⟩
      have HS := HN (by unfold lim1; simp; omega)
      clear HN HY
      go_wp2_with (first | (with_reducible refine wpList_load_agg rfl 34 _ rfl ⟨g, o + i * 19, none⟩ (by with_unfolding_all rfl) Tryz.isAgg34 Tryz.sizeOf34 vs kl.out ?_) | (with_reducible refine wpList_alloc_agg rfl 34 rfl _ rfl uZero zeroU ?_) | (with_reducible refine wpList_store_new rfl 34 _ _ rfl rfl Tryz.sizeOf34 vs uZero 34 (by with_unfolding_all rfl) (by with_unfolding_all rfl) hU'.out.len rfl hU'.out.lone ?_))
      go_roundw
      case rel => exact ⟨i + 1, by go_num, by omega, hB2, hL2, HS⟩
      case measure => simp [RowKit.intOf]; omega
    · obtain rfl : i = r.us.length := by omega
      have ha := hA.out
      rw [List.take_length] at ha
      have d1 : ¬ (r.us.length : Int) < r.us.length := by omega
      replace e := hid (show b = r.ts.all lim2 by rw [e.out, ha]; rfl)
      clear hat ha hA
      go_wp2_with fail
      clear b0 b2 d1
      go_loop [5] (fun vi => ∃ i : Nat, vi = .int .i64 i ∧ i ≤ r.ts.length ∧ Hid ((r.ts.take i).all lim2 = true)) (fun vi => r.ts.length - (RowKit.intOf vi).toNat)
      case atStart => exact ⟨0, rfl, by omega, hid rfl⟩
      case round =>
        obtain ⟨i, rfl, hi, hA⟩ := hrel
        have b2 := hB.cell 2
        simp only [List.getElem?_cons_zero, List.getElem?_cons_succ] at b2
        by_cases hlt : i < r.ts.length
        · have d1 : (i : Int) < r.ts.length := by omega
          have d0 : (0 : Int) ≤ i := by omega
          obtain ⟨g, o, rfl, hc⟩ := hat2 (by omega)
          obtain ⟨vs, hU, hcs⟩ := (hc i hlt).tl
          obtain ⟨pn, cn, hvs, s1⟩ := hU.lists
          have l1 := s1.small
          have k1 : wr.cell? ⟨g, o + i * 8 + 1, none⟩ = some (.slice pn (r.ts[i]'hlt).needs.length cn) := (hcs.below' (hcs.lt' hU.name) hL) 1 _ (by rw [hvs]; rfl)
          have HN := fun q => hid (allp_take (f := lim2) hlt hA.out q)
          have HY := fun q => hid (allp_no (f := lim2) hlt q)
          obtain ⟨u, hu⟩ : ∃ u, r.ts[i]'hlt = u := ⟨_, rfl⟩
          rw [hu] at HN HY k1 l1
          clear hu hat2 hc hU hA hcs s1 hvs
          by_cases g1 : 4 < u.needs.length
          · have hb : b = false := by rw [e.out, (HY (by unfold lim2; simp; omega)).out]
            subst hb
            clear e HN HY
            go_wp2_with fail
            go_ret
            exact ⟨rfl, hL⟩
          have HS := HN (by unfold lim2; simp; omega)
          clear HN HY
          go_wp2_with fail
          go_round
          case rel => exact ⟨i + 1, by go_num, by omega, HS⟩
          case measure => simp [RowKit.intOf]; omega
        · obtain rfl : i = r.ts.length := by omega
          have ha := hA.out
          rw [List.take_length] at ha
          have d1 : ¬ (r.ts.length : Int) < r.ts.length := by omega
          have hb := e.out.trans ha
          subst hb
          clear e ha hA hat2
          go_wp2_with fail
          go_ret
          exact ⟨rfl, hL⟩

end

section
open Go.RowKit Go.Lib

/-- A row of n elements of k cells each. -/
def RowV (W : World) (k : Nat) (v : Value) (n : Nat) (cs : Nat → List Value) : Prop :=
  ∃ p c, v = .slice p n c ∧ n ≤ maxLen ∧ (1 ≤ n → ∃ g o, p = some ⟨g, o, none⟩ ∧ g < W.heap.size ∧ ∀ i, i < n → CellsAt W g (o + i * k) (cs i) ∧ (cs i).length = k)
theorem RowV.below {W w' : World} {k n : Nat} {v : Value} {cs : Nat → List Value} (h : RowV W k v n cs) (hb : Below W.heap.size W w') : RowV w' k v n cs := by
  obtain ⟨p, c, rfl, hm, hc⟩ := h
  refine ⟨p, c, rfl, hm, fun h1 => ?_⟩
  obtain ⟨g, o, rfl, hg, hi⟩ := hc h1
  exact ⟨g, o, rfl, Nat.lt_of_lt_of_le hg hb.size, fun i h => ⟨(hi i h).1.below' hg hb, (hi i h).2⟩⟩
theorem RowV.none (W : World) (k : Nat) (cs : Nat → List Value) (c : Nat) (p : Option Addr) : RowV W k (.slice p 0 c) 0 cs := ⟨p, c, rfl, Nat.zero_le _, fun h => absurd h (by simp)⟩
theorem SlAt.row {α : Type} {at_ : World → Nat → Nat → α → Prop} {k : Nat} {W : World} {v : Value} {l : List α} (h : SlAt at_ k W v l) (R : List Value → α → Prop) (hR : ∀ g o x, at_ W g o x → ∃ vs, R vs x ∧ CellsAt W g o vs ∧ vs.length = k) (hk : 0 < k) :
    ∃ cs, RowV W k v l.length cs ∧ ∀ i, (h : i < l.length) → R (cs i) (l[i]'h) := by
  obtain ⟨p, c, rfl, hm, hc⟩ := h
  rcases Nat.eq_zero_or_pos l.length with h0 | h1
  · exact ⟨fun _ => [], ⟨p, c, rfl, hm, fun h => absurd h (by omega)⟩, fun i h => absurd h (by omega)⟩
  · obtain ⟨g, o, rfl, hi⟩ := hc h1
    have hx : ∀ i, ∃ vs : List Value, (h : i < l.length) → R vs (l[i]'h) ∧ CellsAt W g (o + i * k) vs ∧ vs.length = k := fun i => by
      by_cases h : i < l.length
      · obtain ⟨vs, a, b, c⟩ := hR _ _ _ (hi i h)
        exact ⟨vs, fun _ => ⟨a, b, c⟩⟩
      · exact ⟨[], fun h2 => absurd h2 h⟩
    have hcs := fun i => Classical.choose_spec (hx i)
    refine ⟨fun i => Classical.choose (hx i), ⟨_, c, rfl, hm, fun _ => ⟨g, o, rfl, ?_, fun i h => (hcs i h).2⟩⟩, fun i h => (hcs i h).1⟩
    obtain ⟨-, h2, h3⟩ := hcs 0 h1
    cases hv : Classical.choose (hx 0) with
    | nil => rw [hv] at h3; simp at h3; omega
    | cons a b => rw [hv] at h2; exact h2.lt
theorem SlAt.rowU {W : World} {v : Value} {l : List U9} (h : SlAt UAt 19 W v l) : ∃ cs, RowV W 19 v l.length cs ∧ ∀ i, (h : i < l.length) → UL W (cs i) (l[i]'h) :=
  h.row (UL W) (fun g o x k => by obtain ⟨vs, a, b⟩ := k.ul; exact ⟨vs, a, b, a.len⟩) (by omega)
theorem SlAt.rowW {W : World} {v : Value} {l : List W9} (h : SlAt WAt 6 W v l) : ∃ cs, RowV W 6 v l.length cs ∧ ∀ i, (h : i < l.length) → WL (cs i) (l[i]'h) :=
  h.row WL (fun g o x k => by obtain ⟨vs, a, b⟩ := k.wl; exact ⟨vs, a, b, a.len⟩) (by omega)
theorem SlAt.rowT {W : World} {v : Value} {l : List T9} (h : SlAt TAt 8 W v l) : ∃ cs, RowV W 8 v l.length cs ∧ ∀ i, (h : i < l.length) → TL W (cs i) (l[i]'h) :=
  h.row (TL W) (fun g o x k => by obtain ⟨vs, a, b⟩ := k.tl; exact ⟨vs, a, b, a.len⟩) (by omega)
/-- A slice of strings is a row of one cell each. -/
theorem StrSl.row {W : World} {v : Value} {l : List ByteArray} (h : StrSl W v l) : RowV W 1 v l.length (fun i => [.string (l.getD i ⟨#[]⟩)]) := by
  obtain ⟨p, c, rfl, hm, hc⟩ := h
  refine ⟨p, c, rfl, hm, fun h1 => ?_⟩
  obtain ⟨g, o, rfl, hi⟩ := hc h1
  refine ⟨g, o, rfl, World.block_lt_of_cell? W _ (hi 0 (by omega)), fun i h => ⟨fun j v hj => ?_, rfl⟩⟩
  match j, hj with
  | 0, hj =>
    rw [List.getElem?_cons_zero, Option.some.injEq, show l.getD i ⟨#[]⟩ = l[i]'h by simp [List.getD, h]] at hj
    subst hj
    rw [Nat.mul_one]
    exact hi i h

/-- The first place at which something holds, or -1. -/
def idxN (p : Nat → Bool) (n : Nat) : Int := match (List.range n).find? p with
  | some i => i
  | none => -1
def anyN (p : Nat → Bool) (n : Nat) : Bool := (List.range n).any p
theorem idxN_hit {p : Nat → Bool} {n i : Nat} (hi : i < n) (h : p i = true) (hb : ∀ j, j < i → p j = false) : idxN p n = i := by
  have e : (List.range n).find? p = some i := by
    rw [List.find?_range_eq_some]
    exact ⟨h, List.mem_range.2 hi, fun j hj => by rw [hb j hj]; rfl⟩
  unfold idxN
  rw [e]
theorem idxN_miss {p : Nat → Bool} {n : Nat} (hb : ∀ j, j < n → p j = false) : idxN p n = -1 := by
  have e : (List.range n).find? p = none := by
    rw [List.find?_eq_none]
    intro j hj
    rw [hb j (List.mem_range.1 hj)]
    simp
  unfold idxN
  rw [e]
/-- What it is: a place, the first; or none. -/
theorem idxN_is (p : Nat → Bool) (n : Nat) : (∃ i, i < n ∧ idxN p n = i ∧ p i = true ∧ ∀ j, j < i → p j = false) ∨ (idxN p n = -1 ∧ ∀ j, j < n → p j = false) := by
  cases e : (List.range n).find? p with
  | some i =>
    left
    have e' := e
    rw [List.find?_range_eq_some] at e'
    refine ⟨i, List.mem_range.1 e'.2.1, by unfold idxN; rw [e], e'.1, fun j hj => ?_⟩
    have := e'.2.2 j hj
    simpa using this
  | none =>
    right
    rw [List.find?_eq_none] at e
    have h : ∀ j, j < n → p j = false := fun j hj => by simpa using e j (List.mem_range.2 hj)
    exact ⟨idxN_miss h, h⟩
theorem anyN_true {p : Nat → Bool} {n i : Nat} (hi : i < n) (h : p i = true) : anyN p n = true := List.any_eq_true.2 ⟨i, List.mem_range.2 hi, h⟩
theorem anyN_false {p : Nat → Bool} {n : Nat} (hb : ∀ j, j < n → p j = false) : anyN p n = false := List.any_eq_false.2 fun j hj => by rw [hb j (List.mem_range.1 hj)]; simp
theorem idxN_any (p : Nat → Bool) (n : Nat) : decide (0 ≤ idxN p n) = anyN p n := by
  rcases idxN_is p n with ⟨i, hi, e, h, -⟩ | ⟨e, h⟩
  · rw [e, anyN_true hi h]; exact decide_eq_true (by omega)
  · rw [e, anyN_false h]; rfl
theorem anyN_list {α : Type} {p : Nat → Bool} {f : α → Bool} {l : List α} (h : ∀ i, (k : i < l.length) → p i = f (l[i]'k)) : anyN p l.length = l.any f := by
  cases q : l.any f with
  | true =>
    obtain ⟨x, hx, hf⟩ := List.any_eq_true.1 q
    obtain ⟨i, hi, rfl⟩ := List.getElem_of_mem hx
    exact anyN_true hi ((h i hi).trans hf)
  | false =>
    rw [List.any_eq_false] at q
    exact anyN_false fun j hj => by
      rw [h j hj]
      have := q _ (List.getElem_mem hj)
      simpa using this
theorem idxN_bound (p : Nat → Bool) (n : Nat) (hn : n ≤ 9223372036854775807) : -9223372036854775808 ≤ idxN p n ∧ idxN p n ≤ 9223372036854775807 := by
  rcases idxN_is p n with ⟨i, hi, e, -⟩ | ⟨e, -⟩ <;> rw [e] <;> omega

end

end Go.Proofs.YtaefioikflllcaaGreat
