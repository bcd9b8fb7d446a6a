/-
  Laws of map files: the chapter's example; texts that are too long; what Parse accepts.
-/
import Derived.Test.YtmpbgfobiceehaaGreatDoorMapMir
namespace Go.Proofs.YtmpbgfobiceehaaGreatDoor
open Go.RowKit Go.Lib

theorem dsmall_b (nm : ByteArray) (w h : Int) (cs : List C3) (st : List (Int × Int)) (sc ss : Value) (b : Bool) (W : World) (hr : RowAt W sc cs) (hp : PosAt W ss st) (e : Hid (b = decide (cs.length ≤ 1100 ∧ st.length ≤ 20 ∧ nm.size ≤ 1000))) :
    Calls Tryz.prog 10 #[.agg #[.string nm, .int .i64 w, .int .i64 h, sc, ss]] W fun e w' => e = .returned (.bool b) ∧ Below W.heap.size W w' := by
  obtain ⟨p, c, rfl, -, -⟩ := id hr
  obtain ⟨ps, pc, rfl, -, -⟩ := id hp
  have hT := Held1.start W [.string nm, .int .i64 w, .int .i64 h, .slice p cs.length c, .slice ps st.length pc] 27
  obtain ⟨F0, F1, F2, F3, F4⟩ : _ ∧ _ ∧ _ ∧ _ ∧ _ := ⟨hT.l.cell 0, hT.l.cell 1, hT.l.cell 2, hT.l.cell 3, hT.l.cell 4⟩
  simp only [List.getElem?_cons_zero, List.getElem?_cons_succ] at F0 F1 F2 F3 F4
  have hb := e.out
  clear hr hp e
  by_cases h1 : cs.length ≤ 1100
  · have z1 : decide ((cs.length : Int) ≤ 1100) = true := decide_eq_true (by omega)
    by_cases h2 : st.length ≤ 20
    · have z2 : decide ((st.length : Int) ≤ 20) = true := decide_eq_true (by omega)
      by_cases h3 : nm.size ≤ 1000
      · have z3 : decide ((nm.size : Int) ≤ 1000) = true := decide_eq_true (by omega)
        rw [decide_eq_true ⟨h1, h2, h3⟩] at hb
        subst hb
        go_enter Tryz.func10, Tryz.ntmps10
        go_wp2_with fail
        go_ret
        exact ⟨rfl, hT.old⟩
      · have z3 : decide ((nm.size : Int) ≤ 1000) = false := decide_eq_false (by omega)
        rw [decide_eq_false (fun q => h3 q.2.2)] at hb
        subst hb
        go_enter Tryz.func10, Tryz.ntmps10
        go_wp2_with fail
        go_ret
        exact ⟨rfl, hT.old⟩
    · have z2 : decide ((st.length : Int) ≤ 20) = false := decide_eq_false (by omega)
      rw [decide_eq_false (fun q => h2 q.2.1)] at hb
      subst hb
      go_enter Tryz.func10, Tryz.ntmps10
      go_wp2_with fail
      go_ret
      exact ⟨rfl, hT.old⟩
  · have z1 : decide ((cs.length : Int) ≤ 1100) = false := decide_eq_false (by omega)
    rw [decide_eq_false (fun q => h1 q.1)] at hb
    subst hb
    go_enter Tryz.func10, Tryz.ntmps10
    go_wp2_with fail
    go_ret
    exact ⟨rfl, hT.old⟩

theorem duel_valid : validf duelF = 0 := by decide
theorem duel_text : joinT (linesF duelF) = duelT := by
  have d0 : decDigits 0 = [48] := decDigits_one (by omega)
  have d1 : decDigits 1 = [49] := decDigits_one (by omega)
  have d2 : decDigits 2 = [50] := decDigits_one (by omega)
  have d3 : decDigits 3 = [51] := decDigits_one (by omega)
  have d9 : decDigits 9 = [57] := decDigits_one (by omega)
  simp [joinT, linesF, duelF, headL, wordsV, mapW, rowsT, amtsL, resB, amtL, amountW, startL, startW, kindC, highC, duelT, d0, d1, d2, d3, d9]
theorem duel_parse : parsev duelT = (duelF, 0, 0) := by rw [← duel_text]; exact parse_print duelF duel_valid
theorem duel_print : printv duelF = (duelT, 0) := by unfold printv; rw [if_pos duel_valid, duel_text]
theorem none_parse : parsev [] = (F3.zero, 1, 4) := rfl
theorem zero_valid : validf F3.zero = 6 := by decide

def duelB : ByteArray := ⟨#[109, 97, 112, 32, 100, 117, 101, 108, 32, 51, 32, 49, 10, 46, 42, 46, 10, 48, 48, 48, 10, 97, 109, 111, 117, 110, 116, 32, 49, 32, 48, 32, 57, 10, 115, 116, 97, 114, 116, 32, 48, 32, 48, 10, 115, 116, 97, 114, 116, 32, 50, 32, 48, 10]⟩
theorem duelB_list : duelB.data.toList = duelT := rfl
theorem duel_call (V : World) (hE : EnvM V) : Calls Tryz.prog 16 #[.string ⟨#[109, 97, 112, 32, 100, 117, 101, 108, 32, 51, 32, 49, 10, 46, 42, 46, 10, 48, 48, 48, 10, 97, 109, 111, 117, 110, 116, 32, 49, 32, 48, 32, 57, 10, 115, 116, 97, 114, 116, 32, 48, 32, 48, 10, 115, 116, 97, 114, 116, 32, 50, 32, 48, 10]⟩] V fun e w' => ∃ g o c ps pc, e = .returned (.tuple #[.agg #[.string ⟨#[100, 117, 101, 108]⟩, .int .i64 3, .int .i64 1, .slice (some ⟨g, o, none⟩) 3 c, .slice ps 2 pc], .int .i64 0, .int .i64 0]) ∧ w'.cell? ⟨g, o + 1 * 3 + 2, none⟩ = some (.int .i64 9) ∧ RowAt w' (.slice (some ⟨g, o, none⟩) 3 c) duelF.m.cs ∧ PosAt w' (.slice ps 2 pc) duelF.st ∧ CapOk (.slice (some ⟨g, o, none⟩) 3 c) ∧ Below V.heap.size V w' := by
  have c1 := dparse_b duelB V hE (by decide)
  rw [duelB_list, duel_parse] at c1
  refine c1.mono ?_
  rintro e w1 ⟨sc, ss, rfl, hr, hp, hc, hb⟩
  obtain ⟨p, c, rfl, -, hat⟩ := id hr
  obtain ⟨ps, pc, rfl, -, -⟩ := id hp
  obtain ⟨g, o, rfl, hat2⟩ := hat (by decide)
  exact ⟨g, o, c, ps, pc, rfl, (hat2 1 (by decide)).2.2, hr, hp, hc, hb⟩
theorem duel_back (V : World) (g o c : Nat) (ps : Option Addr) (pc : Nat) (hE : EnvM V) (hr : RowAt V (.slice (some ⟨g, o, none⟩) 3 c) duelF.m.cs) (hp : PosAt V (.slice ps 2 pc) duelF.st) (hc : CapOk (.slice (some ⟨g, o, none⟩) 3 c)) :
    Calls Tryz.prog 12 #[.agg #[.string ⟨#[100, 117, 101, 108]⟩, .int .i64 3, .int .i64 1, .slice (some ⟨g, o, none⟩) 3 c, .slice ps 2 pc]] V fun e w' => e = .returned (.tuple #[.string ⟨#[109, 97, 112, 32, 100, 117, 101, 108, 32, 51, 32, 49, 10, 46, 42, 46, 10, 48, 48, 48, 10, 97, 109, 111, 117, 110, 116, 32, 49, 32, 48, 32, 57, 10, 115, 116, 97, 114, 116, 32, 48, 32, 48, 10, 115, 116, 97, 114, 116, 32, 50, 32, 48, 10]⟩, .int .i64 0]) ∧ Below V.heap.size V w' :=
  dprint_b duelF (.slice (some ⟨g, o, none⟩) 3 c) (.slice ps 2 pc) duelB 0 V hE hr hp hc (by decide) (hid ⟨by rw [duel_print, duelB_list], by rw [duel_print]⟩)
theorem zero_open {line err : Int} {V w' : World} {e : Ending} (h : ParsePost F3.zero line err V e w') : ∃ p c q d, e = .returned (.tuple #[.agg #[.string ⟨#[]⟩, .int .i64 0, .int .i64 0, .slice p 0 c, .slice q 0 d], .int .i64 line, .int .i64 err]) ∧ Below V.heap.size V w' := by
  obtain ⟨sc, ss, rfl, hr, hp, -, hb⟩ := h
  obtain ⟨p, c, rfl, -, -⟩ := hr
  obtain ⟨q, d, rfl, -, -⟩ := hp
  exact ⟨p, c, q, d, rfl, hb⟩
theorem none_call (V : World) (hE : EnvM V) : Calls Tryz.prog 16 #[.string ⟨#[]⟩] V fun e w' => ∃ p c q d, e = .returned (.tuple #[.agg #[.string ⟨#[]⟩, .int .i64 0, .int .i64 0, .slice p 0 c, .slice q 0 d], .int .i64 1, .int .i64 4]) ∧ Below V.heap.size V w' := by
  have c1 := dparse_b ⟨#[]⟩ V hE (by decide)
  rw [show (ByteArray.mk #[]).data.toList = [] from rfl, none_parse] at c1
  exact c1.mono fun _ _ h => zero_open h
theorem zero_call (V : World) (hE : EnvM V) : Calls Tryz.prog 14 #[.agg #[.string ⟨#[]⟩, .int .i64 0, .int .i64 0, .slice none 0 0, .slice none 0 0]] V fun e w' => e = .returned (.int .i64 6) ∧ Below V.heap.size V w' :=
  dvalidf_b F3.zero (.slice none 0 0) (.slice none 0 0) 6 V hE.p (row_nil V) (pos_nil V) (by decide) (hid zero_valid.symm)

set_option maxRecDepth 100000 in
set_option maxHeartbeats 4000000 in
theorem dalive_any (W : World) (hE : EnvM W) : Calls Tryz.prog 11 #[] W fun e w' => e = .returned (.bool true) ∧ Below W.heap.size W w' := by
  go_enter Tryz.func11, Tryz.ntmps11
  go_wp2_with fail
  ((with_reducible refine (duel_call _ hE).mono ?_); rintro e w1 ⟨g, o, c, ps, pc, rfl, a9, hr, hp, hc, hb⟩)
  have kg : g < w1.heap.size := World.block_lt_of_cell? w1 _ a9
  have hb2 := (Below.refl w1.heap.size w1).alloc (Nat.le_refl _) (.cells #[.string ⟨#[100, 117, 101, 108]⟩, .int .i64 3, .int .i64 1, .slice (some ⟨g, o, none⟩) 3 c, .slice ps 2 pc] 27)
  have a9' := (hb2.cell (p := ⟨g, o + 1 * 3 + 2, none⟩) kg).trans a9
  replace hr := hr.below hb2
  replace hp := hp.below hb2
  have hK := (show Keep W w1 [] from ⟨fun e he => by simp at he, hb⟩).alloc [.string ⟨#[100, 117, 101, 108]⟩, .int .i64 3, .int .i64 1, .slice (some ⟨g, o, none⟩) 3 c, .slice ps 2 pc] 27
  clear hb2 kg a9 hb
  go_wp2_with fail
  ((with_reducible refine (duel_back _ g o c ps pc (hE.keep hK.old) hr hp hc).mono ?_); rintro e w2 ⟨rfl, hb⟩)
  replace hK := hK.call hb
  clear hb hr hp hc a9'
  go_wp2_with fail
  ((with_reducible refine (none_call _ (hE.keep hK.old)).mono ?_); rintro e w3 ⟨p3, c3, q3, d3, rfl, hb⟩)
  replace hK := hK.call hb
  clear hb
  replace hK := hK.other (.cells #[.string ⟨#[]⟩, .int .i64 0, .int .i64 0, .slice p3 0 c3, .slice q3 0 d3] 27)
  go_wp2_with fail
  ((with_reducible refine (zero_call _ (hE.keep hK.old)).mono ?_); rintro e w4 ⟨rfl, hb⟩)
  replace hK := hK.call hb
  go_wp2_with fail
  go_ret
  exact ⟨rfl, hK.old⟩

end Go.Proofs.YtmpbgfobiceehaaGreatDoor
