/-
  The laws of astar: what Reach and Regions return.
-/
import Derived.Test.YtpgchjhfhndaaaaGreatDoorAsXf
import Derived.Test.YtpgchjhfhndaaaaGreatDoorAsU
namespace Go.Proofs.YtpgchjhfhndaaaaGreatDoor
open Go.RowKit Go.Lib

theorem dst_len {m : M3} {bl : List Bool} {c : Int} {a : Nat} {D : List Int} (h : Dst m bl c a D) : D.length = m.cs.length := by
  unfold Dst at h
  split at h
  · exact h.len
  · rw [h, List.length_replicate]
theorem reach_eq {m : M3} {bl : List Bool} {c : Int} {p : Pt} {b : Bool} {D E : List Int} (h : ReachR m bl c p b D) (k : ReachR m bl c p b E) : D = E := by
  cases b with
  | false => rw [h.no rfl, k.no rfl]
  | true =>
    have h1 := h.yes rfl
    have k1 := k.yes rfl
    unfold Dst at h1 k1
    split at h1
    · rw [if_pos (by assumption)] at k1
      exact h1.eq k1
    · rw [if_neg (by assumption)] at k1
      rw [h1, k1]
theorem regs_eq14 {m : M3} {bl : List Bool} {c : Int} {b : Bool} {D E : List Int} (h : RegsR m bl c b D) (k : RegsR m bl c b E) : D = E := by
  cases b with
  | false => rw [h.no rfl, k.no rfl]
  | true => exact (h.yes rfl).eq (k.yes rfl)
theorem asreach_r (m : M3) (sp : Option Addr) (sn sk : Nat) (bl : List Bool) (lp : Option Addr) (ln lk : Nat) (c : Int) (p : Pt) (b : Bool) (W : World) (hG : Gd W m (.slice sp sn sk) bl (.slice lp ln lk)) (hb : Hid (b = (validm m && classv c && insp m p))) :
    Calls Tryz.prog 41 #[.agg #[.int .i64 m.w, .int .i64 m.h, .slice sp sn sk], .slice lp ln lk, .int .i64 c, .agg #[.int .i64 p.1, .int .i64 p.2]] W fun e w' =>
      ∃ v E, e = .returned v ∧ IntsAt w' v E ∧ ReachR m bl c p b E ∧ Below W.heap.size W w' :=
  (asreach_b m sp sn sk bl lp ln lk c p.1 p.2 b m.cs.length W hG (hid rfl) (hid (by rw [hb.out]))).mono fun e w' h => by
    rcases h with ⟨h, e, h2⟩ | ⟨h, g, D, h1, h2, h3, h4, h5, h6⟩
    · exact ⟨_, [], e, IntsAt.nil _, ⟨fun _ => rfl, fun h' => (by rw [h] at h'; cases h'), num_nil⟩, h2⟩
    · have hv : (validm m && classv c) = true := by
        have := hb.out
        rw [h] at this
        rw [eq_comm, Bool.and_eq_true] at this
        exact this.1
      exact ⟨_, D, h1, IntsAt.blk h3 (dst_len h4) (by have := formed_len (classv_of hv); omega), ⟨fun h' => (by rw [h] at h'; cases h'), fun _ => h4, h5⟩, h6⟩
end Go.Proofs.YtpgchjhfhndaaaaGreatDoor
