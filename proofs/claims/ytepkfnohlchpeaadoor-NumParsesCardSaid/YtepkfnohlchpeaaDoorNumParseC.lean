/-
  num.wellFormed.
-/
import Derived.Test.YtepkfnohlchpeaaDoorNumParseB
namespace Go.Proofs.YtepkfnohlchpeaaDoor
open Go.RowKit Go.Lib

theorem two_cell0 (w : World) (u v : Value) (t : TypeId) : (w.alloc (.cells #[u, v] t)).cell? ⟨w.heap.size, 0, none⟩ = some u := by simp
theorem two_cell1 (w : World) (u v : Value) (t : TypeId) : (w.alloc (.cells #[u, v] t)).cell? ⟨w.heap.size, 1, none⟩ = some v := by simp
theorem hasSuffix0 (b : ByteArray) (w : World) (S : Bool) (hS : Hid (S = Lib.hasSuffix b.data.toList [48])) (hb : b.size ≤ 9223372036854775807) :
    Calls Tryd.prog 43 #[.string b, .string ⟨#[48]⟩] w fun e w' => e = .returned (.bool S) ∧ w = w' := by
  rw [hS.out]
  exact (Tryd.strings_HasSuffix b ⟨#[48]⟩ w hb).mono fun e w' ⟨he, hw⟩ => ⟨he, hw.symm⟩

def sufOK (b : List UInt8) : Bool := !b.isEmpty && !Lib.hasSuffix b [48]
/-- What 'wellFormed' answers. -/
def wfB (a b : List UInt8) (pt : Bool) : Bool := wholeOK a && (!pt || sufOK b) && (a.all isDig && b.all isDig)

theorem empty_iff {a : ByteArray} : a.toList = [] ↔ a.data.toList = [] := by rw [Lib.toList_data]
theorem head_at {a : ByteArray} (h0 : 0 < a.size) : a.data.toList.head? = some (a[0]'h0) := by
  rw [List.head?_eq_getElem?, List.getElem?_eq_getElem (by rw [← Lib.size_eq]; exact h0)]
  rfl
theorem beq48 {c : UInt8} : (((c.toNat : Nat) : Int) == 48) = (c == 48) := by
  rw [Bool.eq_iff_iff, beq_iff_eq, beq_iff_eq]
  constructor
  · intro h; exact UInt8.toNat_inj.1 (by show c.toNat = 48; omega)
  · intro h; rw [h]; rfl
theorem whole_no1 {a : ByteArray} (h : a.toList = []) : wholeOK a.data.toList = false := by
  rw [Lib.toList_data] at h; rw [h]; rfl
theorem whole_no2 {a : ByteArray} (h1 : (1 : Int) < a.size) (h0 : 0 < a.size) (h : a.toList.isEmpty = true ∨ (((a[0]'h0).toNat : Int) == 48) = true) (hne : ¬ a.toList = []) : wholeOK a.data.toList = false := by
  rw [Lib.toList_data] at *
  rcases h with h | h
  · exact absurd (List.isEmpty_iff.1 h) hne
  · rw [beq48] at h
    unfold wholeOK
    rw [head_at h0, ← Lib.size_eq, decide_eq_true (by omega), eq_of_beq h]
    simp
theorem whole_yes1 {a : ByteArray} (hne : ¬ a.toList = []) (h1 : (a.size : Int) ≤ 1) : wholeOK a.data.toList = true := by
  rw [Lib.toList_data] at hne
  unfold wholeOK
  rw [← Lib.size_eq, decide_eq_false (by omega)]
  simpa using hne
theorem whole_yes2 {a : ByteArray} (hne : ¬ a.toList = []) (h0 : 0 < a.size) (h : a.toList.isEmpty = false ∧ (((a[0]'h0).toNat : Int) == 48) = false) : wholeOK a.data.toList = true := by
  rw [Lib.toList_data] at hne
  have h2 := h.2
  rw [beq48] at h2
  unfold wholeOK
  rw [head_at h0]
  have h3 : (some (a[0]'h0) == some (48 : UInt8)) = false := by simpa using h2
  rw [h3, Bool.and_false]
  simpa using hne
theorem suf_no1 {b : ByteArray} (h : b.toList = []) : sufOK b.data.toList = false := by
  rw [Lib.toList_data] at h; rw [h]; rfl
theorem suf_no2 {b : ByteArray} {S : Bool} (hS : S = Lib.hasSuffix b.data.toList [48]) (hne : ¬ b.toList = []) (h : b.toList.isEmpty = true ∨ S = true) : sufOK b.data.toList = false := by
  rw [Lib.toList_data] at *
  rcases h with h | h
  · exact absurd (List.isEmpty_iff.1 h) hne
  · unfold sufOK; rw [← hS, h]; simp
theorem suf_yes {b : ByteArray} {S : Bool} (hS : S = Lib.hasSuffix b.data.toList [48]) (h : b.toList.isEmpty = false ∧ S = false) : sufOK b.data.toList = true := by
  rw [Lib.toList_data] at h
  unfold sufOK
  rw [← hS, h.1, h.2]; rfl
theorem wf_no1 {a b : List UInt8} {pt : Bool} (h : wholeOK a = false) : (false : Bool) = wfB a b pt := by unfold wfB; rw [h]; rfl
theorem wf_no2 {a b : List UInt8} {pt : Bool} (hp : pt = true) (h : sufOK b = false) : (false : Bool) = wfB a b pt := by unfold wfB; rw [h, hp]; simp
theorem wf_yes1 {a b : List UInt8} {pt R : Bool} (hR : R = (a.all isDig && b.all isDig)) (h : wholeOK a = true) (hp : pt = true) (h2 : sufOK b = true) : R = wfB a b pt := by unfold wfB; rw [h, hp, h2, hR]; rfl
theorem wf_yes2 {a b : List UInt8} {pt R : Bool} (hR : R = (a.all isDig && b.all isDig)) (h : wholeOK a = true) (hp : ¬ pt = true) : R = wfB a b pt := by
  unfold wfB
  have : pt = false := by simpa using hp
  rw [h, this, hR]; rfl

set_option maxHeartbeats 1000000 in
/-- num.wellFormed. -/
theorem wellFormed_any (a b : ByteArray) (pt : Bool) (w : World) (ha : a.size ≤ 200) (hb : b.size ≤ 200) (R : Bool) (hR : Hid (R = (a.data.toList.all isDig && b.data.toList.all isDig))) (S : Bool) (hS : Hid (S = Lib.hasSuffix b.data.toList [48])) :
    Calls Tryd.prog 33 #[.string a, .string b, .bool pt] w fun e w' => e = .returned (.bool (wfB a.data.toList b.data.toList pt)) ∧ Below w.heap.size w w' := by
  go_enter Tryd.func33, Tryd.ntmps33
  go_wp2_with (first | (go_at_call 43; refine (hasSuffix0 _ _ S hS (by omega)).mono ?_; rintro e w' ⟨rfl, rfl⟩) | (go_at_call 44; refine (allDigits_any w.heap.size a b _ ha hb (Lib.hid (two_cell0 _ _ _ _)) (Lib.hid (two_cell1 _ _ _ _)) R hR).mono ?_; rintro e w' ⟨rfl, rfl⟩))
  · go_ret; exact ⟨ret_bool (wf_no1 (whole_no1 (by assumption))), Below.refl _ _⟩
  · go_ret; exact ⟨ret_bool (wf_no1 (whole_no2 (by assumption) (by assumption) (by assumption) (by assumption))), Below.refl _ _⟩
  · go_ret; exact ⟨ret_bool (wf_no2 (by first | assumption | rfl) (suf_no1 (by assumption))), Below.refl _ _⟩
  · go_ret; exact ⟨ret_bool (wf_no2 (by first | assumption | rfl) (suf_no2 hS.out (by assumption) (by assumption))), Below.refl _ _⟩
  · go_ret; exact ⟨ret_bool (wf_yes1 hR.out (whole_yes2 (by assumption) (by assumption) (by assumption)) (by first | assumption | rfl) (suf_yes hS.out (by assumption))), (Below.refl _ _).alloc (Nat.le_refl _) _⟩
  · go_ret; exact ⟨ret_bool (wf_yes2 hR.out (whole_yes2 (by assumption) (by assumption) (by assumption)) (by assumption)), (Below.refl _ _).alloc (Nat.le_refl _) _⟩
  · exact absurd (List.isEmpty_iff.1 ‹a.toList.isEmpty = true›) (by assumption)
  · go_ret; exact ⟨ret_bool (wf_no2 (by first | assumption | rfl) (suf_no1 (by assumption))), Below.refl _ _⟩
  · go_ret; exact ⟨ret_bool (wf_no2 (by first | assumption | rfl) (suf_no2 hS.out (by assumption) (by assumption))), Below.refl _ _⟩
  · go_ret; exact ⟨ret_bool (wf_yes1 hR.out (whole_yes1 (by assumption) (by assumption)) (by first | assumption | rfl) (suf_yes hS.out (by assumption))), (Below.refl _ _).alloc (Nat.le_refl _) _⟩
  · go_ret; exact ⟨ret_bool (wf_yes2 hR.out (whole_yes1 (by assumption) (by assumption)) (by assumption)), (Below.refl _ _).alloc (Nat.le_refl _) _⟩
end Go.Proofs.YtepkfnohlchpeaaDoor
