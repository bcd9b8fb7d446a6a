/-
  The two ways to take a decimal text apart (at the point; behind the digits) agree. Plain lists of bytes.
-/
import Derived.Test.YtepkfnohlchpeaaDoorNumParseC
import Derived.Lib.CutLaws
namespace Go.Proofs.YtepkfnohlchpeaaDoor
open Go.RowKit Go.Lib

def cutDot : List UInt8 → List UInt8 × List UInt8 × Bool
  | [] => ([], [], false)
  | c :: l => if c = 46 then ([], l, true) else (c :: (cutDot l).1, (cutDot l).2.1, (cutDot l).2.2)

theorem cut_cons (c : UInt8) (l : List UInt8) (h : ¬ c = 46) : Lib.cut (c :: l) [46] = (c :: (Lib.cut l [46]).1, (Lib.cut l [46]).2.1, (Lib.cut l [46]).2.2) := by
  have hp : ([46] : List UInt8).isPrefixOf (c :: l) = false := by
    simp [List.isPrefixOf]
    exact fun e => h e.symm
  have hi : Lib.index (c :: l) [46] = if Lib.index l [46] == -1 then -1 else Lib.index l [46] + 1 := by
    rw [Lib.index, hp]; rfl
  have hg := Lib.index_ge l [46]
  unfold Lib.cut
  rw [hi]
  by_cases h1 : Lib.index l [46] = -1
  · rw [h1]; rfl
  · have h2 : (Lib.index l [46] == -1) = false := by simpa using h1
    rw [h2]
    have h3 : 0 ≤ Lib.index l [46] := by omega
    simp only [Bool.false_eq_true, if_false]
    rw [if_pos (by omega), if_pos h3]
    have e1 : (Lib.index l [46] + 1).toNat = (Lib.index l [46]).toNat + 1 := by omega
    rw [e1, List.take_succ_cons]
    have e2 : (Lib.index l [46]).toNat + 1 + [(46 : UInt8)].length = ((Lib.index l [46]).toNat + [(46 : UInt8)].length) + 1 := by omega
    rw [e2, List.drop_succ_cons]
theorem cut_dot : ∀ l : List UInt8, Lib.cut l [46] = cutDot l := by
  intro l
  induction l with
  | nil => rfl
  | cons c l ih =>
    by_cases h : c = 46
    · subst h
      have hi : Lib.index (46 :: l) [46] = 0 := by rw [Lib.index]; simp [List.isPrefixOf]
      unfold Lib.cut cutDot
      rw [hi]
      simp
    · rw [cut_cons c l h, ih]
      unfold cutDot
      rw [if_neg h]
      cases l <;> rfl

theorem not_dig46 : isDig 46 = false := by decide
theorem split_dig : ∀ b : List UInt8, (cutDot b).1.all isDig = true →
    b.takeWhile isDig = (cutDot b).1 ∧ ((cutDot b).2.2 = true → b.dropWhile isDig = 46 :: (cutDot b).2.1) ∧ ((cutDot b).2.2 = false → b.dropWhile isDig = [] ∧ (cutDot b).2.1 = []) := by
  intro b
  induction b with
  | nil => intro _; exact ⟨rfl, fun h => by simp [cutDot] at h, fun _ => ⟨rfl, rfl⟩⟩
  | cons c l ih =>
    intro h
    by_cases h46 : c = 46
    · subst h46
      rw [List.takeWhile_cons, List.dropWhile_cons, not_dig46]
      simp [cutDot]
    · have e : cutDot (c :: l) = (c :: (cutDot l).1, (cutDot l).2.1, (cutDot l).2.2) := by rw [cutDot, if_neg h46]
      rw [e] at h ⊢
      obtain ⟨hc, hl⟩ := all_cons h
      obtain ⟨i1, i2, i3⟩ := ih hl
      rw [List.takeWhile_cons, List.dropWhile_cons, hc]
      simp only [if_true]
      exact ⟨by rw [i1], i2, i3⟩
theorem split_nodig : ∀ b : List UInt8, (cutDot b).1.all isDig = false → ∃ c p, b.dropWhile isDig = c :: p ∧ ¬ c = 46 := by
  intro b
  induction b with
  | nil => intro h; simp [cutDot] at h
  | cons c l ih =>
    intro h
    by_cases h46 : c = 46
    · subst h46; simp [cutDot] at h
    · have e : cutDot (c :: l) = (c :: (cutDot l).1, (cutDot l).2.1, (cutDot l).2.2) := by rw [cutDot, if_neg h46]
      rw [e, List.all_cons] at h
      rw [List.dropWhile_cons]
      cases hc : isDig c with
      | false => exact ⟨c, l, rfl, h46⟩
      | true =>
        rw [hc, Bool.true_and] at h
        exact ih h

theorem suffix48 (b : List UInt8) : Lib.hasSuffix b [48] = (b.getLast? == some 48) := by
  unfold Lib.hasSuffix
  rw [Bool.eq_iff_iff, List.isSuffixOf_iff_suffix, beq_iff_eq]
  constructor
  · rintro ⟨t, rfl⟩; simp
  · intro h
    obtain ⟨t, ht⟩ := List.getLast?_eq_some_iff.1 h
    exact ⟨t, ht.symm⟩
theorem len_pos {p : List UInt8} (h : p.isEmpty = false) : decide (1 ≤ p.length) = true := by
  cases p with
  | nil => simp at h
  | cons c l => simp
/-- Whether places are accepted, told by the parts that num.Parse asks. -/
theorem fracOK_eq (p : List UInt8) : fracOK p = (sufOK p && p.all isDig && fracB p) := by
  unfold fracOK sufOK fracB
  rw [suffix48]
  cases p with
  | nil => rfl
  | cons c l =>
    have h1 : decide (1 ≤ (c :: l).length) = true := by simp
    rw [h1, List.isEmpty_cons]
    cases decide ((c :: l).length ≤ 8) <;> cases ((c :: l).getLast? == some 48) <;> cases (c :: l).all isDig <;> simp

theorem val_pos {p : List UInt8} (hs : sufOK p = true) (hd : p.all isDig = true) : 1 ≤ val p := by
  unfold sufOK at hs
  rw [suffix48, Bool.and_eq_true] at hs
  rcases List.eq_nil_or_concat p with rfl | ⟨L, c, rfl⟩
  · simp at hs
  · rw [List.concat_eq_append] at *
    rw [val_snoc]
    rw [List.all_append, Bool.and_eq_true] at hd
    have hc := (isDig_iff c).1 (by simpa using hd.2)
    have hne : ¬ c = 48 := by
      intro e; rw [e] at hs; simp at hs
    have : ¬ c.toNat = 48 := fun e => hne (UInt8.toNat_inj.1 e)
    omega
theorem whole_zero {l : List UInt8} (hw : wholeOK l = true) (hd : l.all isDig = true) (h : val l = 0) : l = [48] := by
  unfold wholeOK at hw
  rw [Bool.and_eq_true] at hw
  cases l with
  | nil => simp at hw
  | cons c t =>
    obtain ⟨hc, ht⟩ := all_cons hd
    have hc2 := (isDig_iff c).1 hc
    have hv : val (c :: t) = valAt (c.toNat - 48) t := by unfold val; rw [valAt_cons]; simp
    have hg := valAt_ge t (c.toNat - 48)
    have hc48 : c = 48 := UInt8.toNat_inj.1 (by show c.toNat = 48; omega)
    cases t with
    | nil => rw [hc48]
    | cons c2 t2 => rw [hc48] at hw; simp at hw
theorem fracU_le {p : List UInt8} (hd : p.all isDig = true) : fracU p ≤ 255 := by
  have h := val_lt hd
  unfold fracU
  have hp : 0 < 10 ^ p.length := Nat.pow_pos (by omega)
  have : val p * 256 / 10 ^ p.length < 256 := by
    rw [Nat.div_lt_iff_lt_mul hp]
    have h2 := Nat.mul_lt_mul_of_pos_right h (show 0 < 256 by omega)
    rw [Nat.mul_comm 256]
    exact h2
  omega
theorem fracU_pos {p : List UInt8} (hs : sufOK p = true) (hd : p.all isDig = true) (hb : fracB p = true) : 1 ≤ fracU p := by
  have h1 := val_pos hs hd
  unfold fracB at hb
  rw [Bool.and_eq_true] at hb
  have h2 := of_decide_eq_true hb.2
  have hp : 0 < 10 ^ p.length := Nat.pow_pos (by omega)
  have h3 := Nat.div_add_mod (val p * 256) (10 ^ p.length)
  rw [h2, Nat.add_zero] at h3
  unfold fracU
  generalize val p * 256 / 10 ^ p.length = q at *
  cases q with
  | zero => rw [Nat.mul_zero] at h3; omega
  | succ q => omega

/-- The answer, told by the parts that num.Parse takes. -/
theorem parseB_no {neg : Bool} {b : List UInt8} (h : wfB (cutDot b).1 (cutDot b).2.1 (cutDot b).2.2 = false) : parseB neg b = (0, 5) := by
  cases hd : (cutDot b).1.all isDig with
  | false =>
    obtain ⟨c, p, e, hc⟩ := split_nodig b hd
    unfold parseB
    rw [e]
    have : (c == 46) = false := by simpa using hc
    simp [this]
  | true =>
    obtain ⟨e1, e2, e3⟩ := split_dig b hd
    unfold wfB at h
    rw [hd, Bool.true_and] at h
    cases hp : (cutDot b).2.2 with
    | false =>
      obtain ⟨e4, e5⟩ := e3 hp
      rw [hp, e5] at h
      unfold parseB
      rw [e4, e1]
      simp at h
      simp [h]
    | true =>
      rw [hp] at h
      unfold parseB
      rw [e2 hp, e1]
      dsimp only
      rw [fracOK_eq]
      cases h1 : wholeOK (cutDot b).1 <;> cases h2 : sufOK (cutDot b).2.1 <;> cases h3 : (cutDot b).2.1.all isDig <;> simp [h1, h2, h3] at h ⊢
theorem wfB_parts {a b : List UInt8} {pt : Bool} (h : true = wfB a b pt) : wholeOK a = true ∧ (pt = true → sufOK b = true) ∧ a.all isDig = true ∧ b.all isDig = true := by
  have h := h.symm
  unfold wfB at h
  rw [Bool.and_eq_true, Bool.and_eq_true, Bool.and_eq_true] at h
  refine ⟨h.1.1, fun hp => ?_, h.2.1, h.2.2⟩
  have := h.1.2
  rw [hp] at this
  simpa using this
theorem parseB_yes {neg : Bool} {b : List UInt8} (h : true = wfB (cutDot b).1 (cutDot b).2.1 (cutDot b).2.2) :
    parseB neg b = if fracB (cutDot b).2.1 then fin neg (val (cutDot b).1 * 256 + fracU (cutDot b).2.1) else (0, 5) := by
  obtain ⟨h1, h2, h3, h4⟩ := wfB_parts h
  obtain ⟨e1, e2, e3⟩ := split_dig b h3
  cases hp : (cutDot b).2.2 with
  | false =>
    obtain ⟨e4, e5⟩ := e3 hp
    unfold parseB
    rw [e4, e1, e5, h1]
    simp [fracB, fracU, val, valAt]
  | true =>
    unfold parseB
    rw [e2 hp, e1]
    dsimp only
    rw [fracOK_eq, h1, h2 hp, h4]
    simp

end Go.Proofs.YtepkfnohlchpeaaDoor
