/-
  num.allDigits and num.wellFormed.
-/
import Derived.Test.YtepkfnohlchpeaaDoorNumParseA
import Derived.Deep.LoopGhost
namespace Go.Proofs.YtepkfnohlchpeaaDoor
open Go.RowKit Go.Lib

theorem take_all_next {s : ByteArray} {j : Nat} (hj : j < s.size) (h : (s.data.toList.take j).all isDig = true) (hd : isDig (s[j]'hj) = true) : (s.data.toList.take (j + 1)).all isDig = true := by
  rw [take_snoc s j hj, List.all_append, h]
  simp [hd]
theorem not_all_of {s : ByteArray} {j : Nat} (hj : j < s.size) (hd : isDig (s[j]'hj) = false) : s.data.toList.all isDig = false := by
  rw [List.all_eq_false]
  exact ⟨s[j]'hj, by show s.data[j] ∈ s.data.toList; exact Array.mem_toList_iff.2 (Array.getElem_mem _), by rw [hd]; decide⟩
theorem take_all_end {s : ByteArray} (h : (s.data.toList.take s.size).all isDig = true) : s.data.toList.all isDig = true := by
  rw [List.take_of_length_le (by rw [← Lib.size_eq]; omega)] at h; exact h

/-- The parts before place k are digits. -/
def PartsTo (a b : ByteArray) (k : Nat) : Prop := (1 ≤ k → a.data.toList.all isDig = true) ∧ (2 ≤ k → b.data.toList.all isDig = true)
/-- Part k. -/
def part (a b : ByteArray) (k : Nat) : ByteArray := if k = 0 then a else b
theorem parts_next {a b : ByteArray} {k : Nat} (h : PartsTo a b k) (hp : (part a b k).data.toList.all isDig = true) : PartsTo a b (k + 1) := by
  unfold part at hp
  refine ⟨fun _ => ?_, fun h2 => ?_⟩
  · by_cases h0 : k = 0
    · rw [if_pos h0] at hp; exact hp
    · exact h.1 (by omega)
  · rw [if_neg (by omega)] at hp; exact hp
theorem parts_no {a b : ByteArray} {k : Nat} (hp : (part a b k).data.toList.all isDig = false) : (false : Bool) = (a.data.toList.all isDig && b.data.toList.all isDig) := by
  unfold part at hp
  by_cases h0 : k = 0
  · rw [if_pos h0] at hp; rw [hp]; rfl
  · rw [if_neg h0] at hp; rw [hp, Bool.and_false]
theorem parts_yes {a b : ByteArray} (h : PartsTo a b 2) : (true : Bool) = (a.data.toList.all isDig && b.data.toList.all isDig) := by
  rw [h.1 (by omega), h.2 (by omega)]; rfl
theorem part_cell {w : World} {g : Nat} {a b : ByteArray} (c0 : w.cell? ⟨g, 0, none⟩ = some (.string a)) (c1 : w.cell? ⟨g, 1, none⟩ = some (.string b)) {k : Nat} (hk : k < 2) : w.cell? ⟨g, k, none⟩ = some (.string (part a b k)) := by
  unfold part
  by_cases h0 : k = 0
  · subst h0; exact c0
  · obtain rfl : k = 1 := by omega
    exact c1
theorem part_size {a b : ByteArray} (ha : a.size ≤ 200) (hb : b.size ≤ 200) (k : Nat) : (part a b k).size ≤ 200 := by
  unfold part
  split <;> assumption

set_option maxHeartbeats 400000 in
theorem allDigits_any (g : Nat) (a b : ByteArray) (w : World) (ha : a.size ≤ 200) (hb : b.size ≤ 200) (c0 : Hid (w.cell? ⟨g, 0, none⟩ = some (.string a))) (c1 : Hid (w.cell? ⟨g, 1, none⟩ = some (.string b))) (R : Bool) (hR : Hid (R = (a.data.toList.all isDig && b.data.toList.all isDig))) :
    Calls Tryd.prog 44 #[.slice (some ⟨g, 0, none⟩) 2 2] w fun e w' => e = .returned (.bool R) ∧ w = w' := by
  go_enter Tryd.func44, Tryd.ntmps44
  go_wp2
  go_step3
  go_wp2
  go_step3
  go_wp2
  go_loopg [3, 9] 2 (fun gk s3 s9 wr => ∃ k : Nat, k + gk = 2 ∧ s9 = .int .i64 k ∧ s3 = .bool true ∧ Hid (PartsTo a b k) ∧ w = wr)
  case atStart => exact ⟨0, rfl, rfl, rfl, Lib.hid ⟨fun h => by omega, fun h => by omega⟩, rfl⟩
  case round =>
    obtain ⟨k, hkg, rfl, rfl, hP, rfl⟩ := hrel
    cases gk with
    | zero =>
      obtain rfl : k = 2 := by omega
      have HE := Lib.hid (parts_yes hP.out)
      go_wp2
      go_ret
      exact ⟨ret_bool (by rw [hR.out]; exact HE.out), rfl⟩
    | succ g1 =>
      have hk2 : k < 2 := by omega
      have hc := part_cell c0.out c1.out hk2
      have hps := part_size ha hb k
      have HP1 := Lib.hid (fun h => parts_next (a := a) (b := b) (k := k) hP.out h)
      have HN1 := Lib.hid (fun h => parts_no (a := a) (b := b) (k := k) h)
      clear hP
      generalize part a b k = p at *
      have hdk : decide ((k : Int) < 2) = true := decide_eq_true (by omega)
      go_wp2
      go_loopg [3, 15] p.size (fun g2 s3 s15 wy => ∃ j : Nat, j + g2 = p.size ∧ s3 = .bool true ∧ s15 = .int .i64 j ∧ Hid ((p.data.toList.take j).all isDig = true) ∧ w = wy)
      case atStart => exact ⟨0, by omega, rfl, rfl, Lib.hid rfl, rfl⟩
      case round =>
        obtain ⟨j, hjg, rfl, rfl, hJ, rfl⟩ := hrel
        cases gk with
        | zero =>
          obtain rfl : j = p.size := by omega
          have HA := Lib.hid (HP1.out (take_all_end hJ.out))
          clear hJ HP1 HN1
          go_wp2
          go_roundg g1
          case measure => omega
          case rel => exact ⟨k + 1, by omega, by go_num, rfl, HA, rfl⟩
        | succ g2 =>
          have hjp : j < p.size := by omega
          cases hdg : isDig (p[j]'hjp) with
          | true =>
            obtain ⟨d0, d1⟩ := (isDig_iff _).1 hdg
            have HA := Lib.hid (take_all_next hjp hJ.out hdg)
            clear hJ HP1 HN1 hdg
            go_wp2
            go_roundg g2
            case measure => omega
            case rel => exact ⟨j + 1, by omega, rfl, by go_num, HA, rfl⟩
          | false =>
            have HD := isDig_no hdg
            have HA := Lib.hid (HN1.out (not_all_of hjp hdg))
            clear hJ HP1 HN1 hdg
            rcases (show (p[j]'hjp).toNat < 48 ∨ 57 < (p[j]'hjp).toNat by omega) with hlo | hhi
            · clear HD
              go_wp2
              try rw [Exit.noGoto_ret]
              go_ret
              exact ⟨ret_bool (by rw [hR.out]; exact HA.out), rfl⟩
            · have h48 : 48 ≤ (p[j]'hjp).toNat := by omega
              clear HD
              go_wp2
              try rw [Exit.noGoto_ret]
              go_ret
              exact ⟨ret_bool (by rw [hR.out]; exact HA.out), rfl⟩
end Go.Proofs.YtepkfnohlchpeaaDoor
