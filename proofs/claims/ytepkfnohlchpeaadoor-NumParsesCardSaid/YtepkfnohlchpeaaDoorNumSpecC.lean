/-
  Writing and reading decimal texts undo each other. Plain lists of bytes.
-/
import Derived.Test.YtepkfnohlchpeaaDoorNumSpecB
import Derived.Test.YtepkfnohlchpeaaDoorNumParseG
namespace Go.Proofs.YtepkfnohlchpeaaDoor
open Go.RowKit Go.Lib

theorem ofNat_dig {k : Nat} (h : k < 10) : (UInt8.ofNat (48 + k)).toNat = 48 + k := by simp; omega
theorem dig_isDig {k : Nat} (h : k < 10) : isDig (UInt8.ofNat (48 + k)) = true := by rw [isDig_iff, ofNat_dig h]; omega
theorem dd_big {x : Nat} (h : ¬ x < 10) : Lib.decDigits x = Lib.decDigits (x / 10) ++ [UInt8.ofNat (48 + x % 10)] := by rw [decDigits, dif_neg h]
theorem dd_all : ∀ (n x : Nat), x < n → (Lib.decDigits x).all isDig = true := by
  intro n
  induction n with
  | zero => intro x h; omega
  | succ n ih =>
    intro x h
    by_cases h10 : x < 10
    · rw [decDigits_one h10, List.all_cons, dig_isDig h10]; rfl
    · rw [dd_big h10, List.all_append, ih (x / 10) (by omega), List.all_cons, dig_isDig (by omega)]; rfl
theorem dd_val : ∀ (n x : Nat), x < n → val (Lib.decDigits x) = x := by
  intro n
  induction n with
  | zero => intro x h; omega
  | succ n ih =>
    intro x h
    by_cases h10 : x < 10
    · rw [decDigits_one h10]
      unfold val
      rw [valAt_cons, ofNat_dig h10]
      show 0 * 10 + (48 + x - 48) = x
      omega
    · rw [dd_big h10, val_snoc, ih (x / 10) (by omega), ofNat_dig (by omega)]
      omega
theorem dd_head : ∀ (n x : Nat), x < n → ∃ c l, Lib.decDigits x = c :: l ∧ isDig c = true ∧ (1 ≤ x → ¬ c = 48) := by
  intro n
  induction n with
  | zero => intro x h; omega
  | succ n ih =>
    intro x h
    by_cases h10 : x < 10
    · refine ⟨_, _, decDigits_one h10, dig_isDig h10, fun h1 e => ?_⟩
      have := ofNat_dig h10
      rw [e] at this
      have h48 : (48 : UInt8).toNat = 48 := rfl
      omega
    · obtain ⟨c, l, e, hc, hz⟩ := ih (x / 10) (by omega)
      refine ⟨c, l ++ [UInt8.ofNat (48 + x % 10)], by rw [dd_big h10, e]; rfl, hc, fun _ => hz (by omega)⟩
theorem dd_whole (x : Nat) : wholeOK (Lib.decDigits x) = true := by
  obtain ⟨c, l, e, hc, hz⟩ := dd_head (x + 1) x (by omega)
  unfold wholeOK
  rw [e]
  by_cases h : x < 10
  · rw [decDigits_one h] at e
    have : l = [] := by injection e with _ e2; exact e2.symm
    subst this
    simp
  · have h2 := hz (by omega)
    simp [h2]

theorem places_fin2 : ∀ r : Fin 256, r.val = 0 ∨ (fracOK (places r.val) = true ∧ fracU (places r.val) = r.val) := by decide +kernel

theorem fin_of {n : Int} (h0 : -9223372036854775808 ≤ n) (h1 : n ≤ 9223372036854775807) : fin (decide (n < 0)) n.natAbs = (n, 0) := by
  unfold fin
  by_cases h : n < 0
  · rw [decide_eq_true h, if_pos rfl, if_neg (by omega), if_pos (by omega)]
    congr 1; omega
  · rw [decide_eq_false h, if_neg (by decide), if_pos (by omega)]
    congr 1; omega

theorem parse_body {n : Int} (neg : Bool) : parseB neg (Lib.decDigits (n.natAbs / 256) ++ fracL (n.natAbs % 256)) = fin neg n.natAbs := by
  have hd := dd_all (n.natAbs / 256 + 1) (n.natAbs / 256) (by omega)
  have hv := dd_val (n.natAbs / 256 + 1) (n.natAbs / 256) (by omega)
  have hw := dd_whole (n.natAbs / 256)
  have hd2 := List.all_eq_true.1 hd
  by_cases hz : n.natAbs % 256 = 0
  · have hf : fracL (n.natAbs % 256) = [] := by unfold fracL; rw [if_pos hz]
    rw [hf, List.append_nil]
    obtain ⟨e1, e2⟩ : (Lib.decDigits (n.natAbs / 256)).takeWhile isDig = Lib.decDigits (n.natAbs / 256) ∧ (Lib.decDigits (n.natAbs / 256)).dropWhile isDig = [] := by
      have e1 := List.takeWhile_append_of_pos (p := isDig) (l₁ := Lib.decDigits (n.natAbs / 256)) (l₂ := []) hd2
      have e2 := List.dropWhile_append_of_pos (p := isDig) (l₁ := Lib.decDigits (n.natAbs / 256)) (l₂ := []) hd2
      simp at e1 e2
      exact ⟨e1, e2⟩
    unfold parseB
    rw [e2, e1]
    dsimp only
    rw [hw, hv, if_pos rfl]
    congr 1; omega
  · rw [frac_places (by omega) hz]
    rcases places_fin2 ⟨n.natAbs % 256, by omega⟩ with h | ⟨h1, h2⟩
    · exact absurd h hz
    · have e1 := List.takeWhile_append_of_pos (p := isDig) (l₁ := Lib.decDigits (n.natAbs / 256)) (l₂ := 46 :: places (n.natAbs % 256)) hd2
      have e2 := List.dropWhile_append_of_pos (p := isDig) (l₁ := Lib.decDigits (n.natAbs / 256)) (l₂ := 46 :: places (n.natAbs % 256)) hd2
      rw [List.takeWhile_cons, not_dig46] at e1
      rw [List.dropWhile_cons, not_dig46] at e2
      simp only [Bool.false_eq_true, if_false, List.append_nil] at e1 e2
      unfold parseB
      rw [e2, e1]
      dsimp only at h1 h2 ⊢
      rw [hw, hv, h1, h2]
      simp only [beq_self_eq_true, Bool.and_self, if_true]
      congr 1; omega

/-- What is written is read back. -/
theorem parse_fmt {n : Int} (h0 : -9223372036854775808 ≤ n) (h1 : n ≤ 9223372036854775807) : parseL (fmtL n) = (n, 0) := by
  have hf := fin_of h0 h1
  unfold fmtL parseL
  by_cases h : n < 0
  · rw [decide_eq_true h] at hf
    rw [if_pos h]
    simp only [List.cons_append, List.nil_append, List.head?_cons, if_true, List.tail_cons]
    rw [parse_body, hf]
  · rw [decide_eq_false h] at hf
    rw [if_neg h, List.nil_append]
    obtain ⟨c, l, e, hc, _⟩ := dd_head (n.natAbs / 256 + 1) (n.natAbs / 256) (by omega)
    have hne : ¬ (Lib.decDigits (n.natAbs / 256) ++ fracL (n.natAbs % 256)).head? = some 45 := by
      rw [e, List.cons_append, List.head?_cons]
      intro e2
      injection e2 with e3
      rw [e3] at hc
      exact absurd hc (by decide)
    rw [if_neg hne, parse_body, hf]

/-- k digits of x. -/
def digs : Nat → Nat → List UInt8
  | 0, _ => []
  | k + 1, x => digs k (x / 10) ++ [UInt8.ofNat (48 + x % 10)]
theorem digs_succ (k x : Nat) : digs (k + 1) x = digs k (x / 10) ++ [UInt8.ofNat (48 + x % 10)] := rfl
theorem eight_digs (x : Nat) : eight x = digs 8 x := by
  simp only [eight, digs, dg, List.range, List.range.loop, List.map_cons, List.map_nil, Nat.reduceSub, Nat.reducePow, Nat.div_div_eq_div_mul, List.nil_append, List.cons_append, Nat.reduceMul, Nat.div_one]
theorem digs_val : ∀ (n : Nat) (p : List UInt8), p.length = n → p.all isDig = true → digs n (val p) = p := by
  intro n
  induction n with
  | zero => intro p h _; rw [List.eq_nil_of_length_eq_zero h]; rfl
  | succ n ih =>
    intro p h hd
    rcases List.eq_nil_or_concat p with rfl | ⟨L, c, rfl⟩
    · simp at h
    · rw [List.concat_eq_append] at *
      rw [List.all_append, Bool.and_eq_true] at hd
      have hc := (isDig_iff c).1 (by simpa using hd.2)
      rw [List.length_append, List.length_singleton] at h
      rw [val_snoc]
      unfold digs
      have e1 : (val L * 10 + (c.toNat - 48)) / 10 = val L := by omega
      have e2 : 48 + (val L * 10 + (c.toNat - 48)) % 10 = c.toNat := by omega
      rw [e1, e2, ih L (by omega) hd.1]
      simp
theorem digs_shift (k x : Nat) : ∀ m : Nat, digs (k + m) (x * 10 ^ m) = digs k x ++ List.replicate m 48 := by
  intro m
  induction m with
  | zero => simp
  | succ m ih =>
    have e : k + (m + 1) = (k + m) + 1 := by omega
    rw [e, digs_succ]
    have e1 : x * 10 ^ (m + 1) / 10 = x * 10 ^ m := by rw [Nat.pow_succ, ← Nat.mul_assoc]; omega
    have e2 : x * 10 ^ (m + 1) % 10 = 0 := by rw [Nat.pow_succ, ← Nat.mul_assoc]; omega
    rw [e1, e2, ih, List.replicate_succ', ← List.append_assoc]
    rfl
theorem strip_fill (p : List UInt8) : ∀ m : Nat, stripL (p ++ List.replicate m 48) = stripL p := by
  intro m
  induction m with
  | zero => simp
  | succ m ih => rw [List.replicate_succ', ← List.append_assoc, strip_step, ih]
theorem strip_suf {p : List UInt8} (h : sufOK p = true) : stripL p = p := by
  unfold sufOK at h
  rw [suffix48, Bool.and_eq_true] at h
  rcases List.eq_nil_or_concat p with rfl | ⟨L, c, rfl⟩
  · rfl
  · rw [List.concat_eq_append] at *
    refine strip_done ?_
    intro e; rw [e] at h; simp at h

theorem frac_back {p : List UInt8} (h : fracOK p = true) : fracL (fracU p) = 46 :: p := by
  rw [fracOK_eq, Bool.and_eq_true, Bool.and_eq_true] at h
  obtain ⟨⟨hs, hd⟩, hb⟩ := h
  have hpos := fracU_pos hs hd hb
  have hle := fracU_le hd
  unfold fracB at hb
  rw [Bool.and_eq_true] at hb
  have h8 := of_decide_eq_true hb.1
  have hm := of_decide_eq_true hb.2
  obtain ⟨u1, u2⟩ := units_same (val p) p.length h8
  have hm2 := u1.2 hm
  have hq := u2 hm
  have e : fracU p * 390625 = val p * 10 ^ (8 - p.length) := by
    unfold fracU
    rw [← hq]
    have := Nat.div_add_mod (val p * 10 ^ (8 - p.length)) 390625
    rw [hm2] at this
    omega
  unfold fracL
  rw [if_neg (by omega), pad_eight (by omega), eight_digs, e]
  have e8 : (8 : Nat) = p.length + (8 - p.length) := by omega
  have hsh := digs_shift p.length (val p) (8 - p.length)
  rw [← e8] at hsh
  rw [hsh, digs_val p.length p rfl hd, strip_fill, strip_suf hs]

theorem whole_back : ∀ (n : Nat) (l : List UInt8), l.length = n → wholeOK l = true → l.all isDig = true → Lib.decDigits (val l) = l := by
  intro n
  induction n with
  | zero => intro l h hw _; rw [List.eq_nil_of_length_eq_zero h] at hw; simp [wholeOK] at hw
  | succ n ih =>
    intro l h hw hd
    rcases List.eq_nil_or_concat l with rfl | ⟨L, c, rfl⟩
    · simp at h
    · rw [List.concat_eq_append] at *
      have hd' := hd
      rw [List.all_append, Bool.and_eq_true] at hd
      have hc := (isDig_iff c).1 (by simpa using hd.2)
      rw [List.length_append, List.length_singleton] at h
      rw [val_snoc]
      cases L with
      | nil =>
        have e : val ([] : List UInt8) * 10 + (c.toNat - 48) = c.toNat - 48 := by simp [val, valAt]
        rw [e, decDigits_one (by omega), show 48 + (c.toNat - 48) = c.toNat by omega]
        simp
      | cons d t =>
        have hhd : ¬ d = 48 := by
          intro e
          unfold wholeOK at hw
          rw [e] at hw
          simp at hw
        have hwL : wholeOK (d :: t) = true := by
          unfold wholeOK
          simp [hhd]
        have hv : ¬ val (d :: t) = 0 := fun e => by
          have := whole_zero hwL hd.1 e
          injection this with e1 _
          exact hhd e1
        rw [dd_big (by omega)]
        have e1 : (val (d :: t) * 10 + (c.toNat - 48)) / 10 = val (d :: t) := by omega
        have e2 : 48 + (val (d :: t) * 10 + (c.toNat - 48)) % 10 = c.toNat := by omega
        rw [e1, e2, ih (d :: t) (by omega) hwL hd.1]
        simp

theorem fin_back {neg : Bool} {u : Nat} {v : Int} (h : fin neg u = (v, 0)) : v.natAbs = u ∧ decide (v < 0) = neg := by
  unfold fin at h
  cases neg with
  | true =>
    rw [if_pos rfl] at h
    by_cases h0 : u = 0
    · rw [if_pos h0] at h; simp at h
    · rw [if_neg h0] at h
      by_cases h1 : u ≤ 9223372036854775808
      · rw [if_pos h1] at h
        have e : v = -(u : Int) := by injection h with e _; exact e.symm
        exact ⟨by omega, decide_eq_true (by omega)⟩
      · rw [if_neg h1] at h; simp at h
  | false =>
    rw [if_neg (by decide)] at h
    by_cases h1 : u ≤ 9223372036854775807
    · rw [if_pos h1] at h
      have e : v = (u : Int) := by injection h with e _; exact e.symm
      exact ⟨by omega, decide_eq_false (by omega)⟩
    · rw [if_neg h1] at h; simp at h

theorem body_back {neg : Bool} {b : List UInt8} {v : Int} (h : parseB neg b = (v, 0)) : decide (v < 0) = neg ∧ Lib.decDigits (v.natAbs / 256) ++ fracL (v.natAbs % 256) = b := by
  have hcat := List.takeWhile_append_dropWhile (p := isDig) (l := b)
  have hall : (b.takeWhile isDig).all isDig = true := List.all_takeWhile
  unfold parseB at h
  cases hr : b.dropWhile isDig with
  | nil =>
    rw [hr] at h hcat
    dsimp only at h
    cases hw : wholeOK (b.takeWhile isDig) with
    | false => rw [hw] at h; simp at h
    | true =>
      rw [hw, if_pos rfl] at h
      obtain ⟨h1, h2⟩ := fin_back h
      refine ⟨h2, ?_⟩
      rw [h1, show val (b.takeWhile isDig) * 256 / 256 = val (b.takeWhile isDig) by omega, show val (b.takeWhile isDig) * 256 % 256 = 0 by omega, whole_back _ _ rfl hw hall]
      exact hcat
  | cons c p =>
    rw [hr] at h hcat
    dsimp only at h
    cases hw : wholeOK (b.takeWhile isDig) <;> cases hc : (c == 46) <;> cases hf : fracOK p <;> rw [hw, hc, hf] at h <;> simp at h
    obtain ⟨h1, h2⟩ := fin_back h
    have hd : p.all isDig = true := by
      rw [fracOK_eq, Bool.and_eq_true, Bool.and_eq_true] at hf
      exact hf.1.2
    have hle := fracU_le hd
    refine ⟨h2, ?_⟩
    rw [h1, show (val (b.takeWhile isDig) * 256 + fracU p) / 256 = val (b.takeWhile isDig) by omega, show (val (b.takeWhile isDig) * 256 + fracU p) % 256 = fracU p by omega, whole_back _ _ rfl hw hall, frac_back hf]
    rw [beq_iff_eq] at hc
    rw [← hc]
    exact hcat

/-- What is accepted is written so. -/
theorem fmt_parse {l : List UInt8} {v : Int} (h : parseL l = (v, 0)) : fmtL v = l := by
  unfold parseL at h
  by_cases h45 : l.head? = some 45
  · rw [if_pos h45] at h
    obtain ⟨h1, h2⟩ := body_back h
    unfold fmtL
    rw [h2, if_pos (of_decide_eq_true h1)]
    cases l with
    | nil => simp at h45
    | cons c t => simp at h45; rw [h45]; rfl
  · rw [if_neg h45] at h
    obtain ⟨h1, h2⟩ := body_back h
    unfold fmtL
    rw [h2, if_neg (of_decide_eq_false h1)]
    rfl

end Go.Proofs.YtepkfnohlchpeaaDoor
