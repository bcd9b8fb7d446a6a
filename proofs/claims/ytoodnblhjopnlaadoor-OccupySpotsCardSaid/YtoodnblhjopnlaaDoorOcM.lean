/-
  The laws of occupy: the chapter's examples hold.
-/
import Derived.Test.YtoodnblhjopnlaaDoorOcL
namespace Go.Proofs.YtoodnblhjopnlaaDoor
open Go.RowKit Go.Lib

def exB : List Bool := [false, false, false, false, true, true, false, false, false]
def exC : List Bool := [true, false, false, false, false, false, false, false, false]
def exR : List (Int × Int) := [(1, 0), (0, 1), (1, 1)]
def exS : List (Int × Int) := [(0, 0), (1, 0), (0, 1), (1, 1), (2, 0), (0, 2), (2, 1), (1, 2), (2, 2)]
set_option maxRecDepth 100000 in
theorem ex_b : blockedv ocflatM [⟨1, 1, 2, 1⟩] = exB := by decide
set_option maxRecDepth 100000 in
theorem ex_c : blockedv ocflatM [⟨-1, 0, 2, 1⟩] = exC := by decide
set_option maxRecDepth 100000 in
theorem ex_r : ringv ocflatM ⟨0, 0, 1, 1⟩ = exR := by decide
set_option maxRecDepth 100000 in
theorem ex_s : spotsv ocflatM [] 1 (0, 0) = exS := by decide
set_option maxRecDepth 100000 in
theorem ex_f1 : true = fitsv ocflatM [⟨1, 1, 2, 1⟩] ⟨0, 0, 3, 1⟩ := by decide
set_option maxRecDepth 100000 in
theorem ex_f2 : false = fitsv ocflatM [⟨1, 1, 2, 1⟩] ⟨1, 1, 1, 1⟩ := by decide
set_option maxRecDepth 100000 in
theorem ex_f3 : false = fitsv ocflatM [⟨1, 1, 2, 1⟩] ⟨0, 0, 0, 0⟩ := by decide
def BitsOnO (W : World) (g o : Nat) (l : List Bool) : Prop := ∀ i, (h : i < l.length) → W.cell? ⟨g, o + i, none⟩ = some (.bool (l[i]'h))
def PosOnO (W : World) (g o : Nat) (l : List (Int × Int)) : Prop := ∀ i, (h : i < l.length) → W.cell? ⟨g, o + i * 2, none⟩ = some (.int .i64 (l[i]'h).1) ∧ W.cell? ⟨g, o + i * 2 + 1, none⟩ = some (.int .i64 (l[i]'h).2)
theorem BitsOnO.below {W w' : World} {g o : Nat} {l : List Bool} (h : BitsOnO W g o l) (hb : Below W.heap.size W w') : BitsOnO w' g o l := fun i hi => (hb.cell (World.block_lt_of_cell? W _ (h i hi))).trans (h i hi)
theorem PosOnO.below {W w' : World} {g o : Nat} {l : List (Int × Int)} (h : PosOnO W g o l) (hb : Below W.heap.size W w') : PosOnO w' g o l := fun i hi => ⟨(hb.cell (World.block_lt_of_cell? W _ (h i hi).1)).trans (h i hi).1, (hb.cell (World.block_lt_of_cell? W _ (h i hi).2)).trans (h i hi).2⟩
theorem BitsAt.onO {W : World} {v : Value} {l : List Bool} (h : BitsAt W v l) (h1 : 1 ≤ l.length) : ∃ g o c, v = .slice (some ⟨g, o, none⟩) l.length c ∧ BitsOnO W g o l := by
  obtain ⟨p, c, rfl, -, hat⟩ := h
  obtain ⟨g, o, rfl, hc⟩ := hat h1
  exact ⟨g, o, c, rfl, hc⟩
theorem PosAt.onO {W : World} {v : Value} {l : List (Int × Int)} (h : PosAt W v l) (h1 : 1 ≤ l.length) : ∃ g o c, v = .slice (some ⟨g, o, none⟩) l.length c ∧ PosOnO W g o l := by
  obtain ⟨p, c, rfl, -, hat⟩ := h
  obtain ⟨g, o, rfl, -, hc⟩ := hat h1
  exact ⟨g, o, c, rfl, hc⟩
theorem BitsOnO.exB {W : World} {g o : Nat} (h : BitsOnO W g o exB) : W.cell? ⟨g, o + 3, none⟩ = some (.bool false) ∧ W.cell? ⟨g, o + 4, none⟩ = some (.bool true) ∧ W.cell? ⟨g, o + 5, none⟩ = some (.bool true) ∧ W.cell? ⟨g, o + 6, none⟩ = some (.bool false) := ⟨h 3 (by decide), h 4 (by decide), h 5 (by decide), h 6 (by decide)⟩
theorem BitsOnO.exC {W : World} {g o : Nat} (h : BitsOnO W g o exC) : W.cell? ⟨g, o, none⟩ = some (.bool true) ∧ W.cell? ⟨g, o + 1, none⟩ = some (.bool false) := ⟨h 0 (by decide), h 1 (by decide)⟩
theorem PosOnO.exR {W : World} {g o : Nat} (h : PosOnO W g o exR) : W.cell? ⟨g, o, none⟩ = some (.int .i64 1) ∧ W.cell? ⟨g, o + 1, none⟩ = some (.int .i64 0) ∧ W.cell? ⟨g, o + 2, none⟩ = some (.int .i64 0) ∧ W.cell? ⟨g, o + 3, none⟩ = some (.int .i64 1) ∧ W.cell? ⟨g, o + 4, none⟩ = some (.int .i64 1) ∧ W.cell? ⟨g, o + 5, none⟩ = some (.int .i64 1) :=
  ⟨(h 0 (by decide)).1, (h 0 (by decide)).2, (h 1 (by decide)).1, (h 1 (by decide)).2, (h 2 (by decide)).1, (h 2 (by decide)).2⟩
theorem PosOnO.exS {W : World} {g o : Nat} (h : PosOnO W g o exS) : W.cell? ⟨g, o, none⟩ = some (.int .i64 0) ∧ W.cell? ⟨g, o + 1, none⟩ = some (.int .i64 0) ∧ W.cell? ⟨g, o + 2, none⟩ = some (.int .i64 1) ∧ W.cell? ⟨g, o + 3, none⟩ = some (.int .i64 0) ∧ W.cell? ⟨g, o + 4, none⟩ = some (.int .i64 0) ∧ W.cell? ⟨g, o + 5, none⟩ = some (.int .i64 1) ∧ W.cell? ⟨g, o + 6, none⟩ = some (.int .i64 1) ∧ W.cell? ⟨g, o + 7, none⟩ = some (.int .i64 1) :=
  ⟨(h 0 (by decide)).1, (h 0 (by decide)).2, (h 1 (by decide)).1, (h 1 (by decide)).2, (h 2 (by decide)).1, (h 2 (by decide)).2, (h 3 (by decide)).1, (h 3 (by decide)).2⟩
theorem RecsAt.one {W : World} {b : Nat} {r : R4} {e : TypeId} (h : Blk W b [.int .i64 r.x, .int .i64 r.y, .int .i64 r.w, .int .i64 r.h] e) : RecsAt W (.slice (some ⟨b, 0, none⟩) 1 1) [r] := by
  refine ⟨_, 1, rfl, (show 1 ≤ maxLen by unfold maxLen; decide), fun _ => ⟨b, 0, rfl, h.lt, fun i hi => ?_⟩⟩
  obtain rfl : i = 0 := by simp at hi; exact hi
  exact ⟨h.cell 0, h.cell 1, h.cell 2, h.cell 3⟩
theorem RecsAt.nil (W : World) : RecsAt W (.slice none 0 0) [] := ⟨none, 0, rfl, Nat.zero_le _, fun h => by simp at h⟩
def isOne : R4 := ⟨1, 1, 2, 1⟩
set_option maxRecDepth 100000 in
set_option maxHeartbeats 16000000 in
theorem awake13_b (W : World) (hE : EnvT W) : Calls Tryd.prog 10 #[] W fun e w' => e = .returned (.bool true) ∧ Below W.heap.size W w' := by
  have cb := fun s sl w hr hl => ocblocked_b ocflatM s [⟨1, 1, 2, 1⟩] sl exB w hr hl (hid ex_b)
  have cc := fun s sl w hr hl => ocblocked_b ocflatM s [⟨-1, 0, 2, 1⟩] sl exC w hr hl (hid ex_c)
  have cr := fun s w (hb : Below W.heap.size W w) hr => ocring_b ocflatM s ⟨0, 0, 1, 1⟩ exR w (hE.g.keep hb) hr (hid ex_r)
  have cs := fun s w (hb : Below W.heap.size W w) hr => ocspots_b ocflatM s [] (.slice none 0 0) 1 (0, 0) exS w (hE.keep hb) hr (BitsAt.nilO w) (hid ex_s)
  have c1 := fun s sl w hr hl => ocfits_b ocflatM s [⟨1, 1, 2, 1⟩] sl ⟨0, 0, 3, 1⟩ true w hr hl (hid ex_f1)
  have c2 := fun s sl w hr hl => ocfits_b ocflatM s [⟨1, 1, 2, 1⟩] sl ⟨1, 1, 1, 1⟩ false w hr hl (hid ex_f2)
  have c3 := fun s sl w hr hl => ocfits_b ocflatM s [⟨1, 1, 2, 1⟩] sl ⟨0, 0, 0, 0⟩ false w hr hl (hid ex_f3)
  have fw : ocflatM.w = 3 := rfl
  have fh : ocflatM.h = 3 := rfl
  simp only [fw, fh] at cb cc cr cs c1 c2 c3
  have l1 : exB.length = 9 := rfl
  have l2 : exC.length = 9 := rfl
  have l3 : exR.length = 3 := rfl
  have l4 : exS.length = 9 := rfl
  clear hE fw fh
  go_enter Tryd.func10, Tryd.ntmps10
  go_upto_region 2 with (go_at_call 31; with_reducible refine (flat_b _).mono ?_; rintro e w1 ⟨s, rfl, hr, hb⟩; obtain ⟨p0, c0, rfl⟩ := hr.slice)
  have ha := (Below.refl w1.heap.size w1).alloc (Nat.le_refl _) (.cells [Value.int .i64 3, .int .i64 3, .slice p0 ocflatM.cs.length c0].toArray 24)
  have hM := Blk.new w1 [.int .i64 3, .int .i64 3, .slice p0 ocflatM.cs.length c0] 24
  replace hr := hr.below ha
  have hL := below_call hb ha
  clear ha hb
  generalize ocflatM.cs.length = n9 at *
  generalize w1.alloc (.cells [Value.int .i64 3, .int .i64 3, .slice p0 n9 c0].toArray 24) = X at *
  generalize w1.heap.size = bm at *
  go_upto_region 3 with fail
  have ha := (Below.refl X.heap.size X).alloc (Nat.le_refl _) (.cells [Value.int .i64 1, .int .i64 1, .int .i64 2, .int .i64 1].toArray 33)
  have hO := RecsAt.one (r := ⟨1, 1, 2, 1⟩) (Blk.new X [.int .i64 1, .int .i64 1, .int .i64 2, .int .i64 1] 33)
  replace hr := hr.below ha
  replace hM := hM.below ha
  replace hL := below_call hL ha
  clear ha
  generalize X.alloc (.cells [Value.int .i64 1, .int .i64 1, .int .i64 2, .int .i64 1].toArray 33) = Y at *
  generalize X.heap.size = bo at *
  obtain ⟨_, _, _, _, _, _⟩ := hM.three
  go_upto_region 4 with (go_at_call 12; with_reducible refine (cb _ _ _ hr hO).mono ?_; rintro e w2 ⟨v, rfl, hl, hb⟩; replace hr := hr.below hb; replace hM := hM.below hb; replace hO := hO.below hb; replace hL := below_call hL hb; clear hb; obtain ⟨g3, o3, c3', rfl, h3⟩ := hl.onO (by decide); clear hl)
  have ha := (Below.refl w2.heap.size w2).alloc (Nat.le_refl _) (.cells [Value.int .i64 (-1), .int .i64 0, .int .i64 2, .int .i64 1].toArray 33)
  have hP := RecsAt.one (r := ⟨-1, 0, 2, 1⟩) (Blk.new w2 [.int .i64 (-1), .int .i64 0, .int .i64 2, .int .i64 1] 33)
  have hr' := hr.below ha
  have hM' := hM.below ha
  obtain ⟨_, _, _, _, _, _⟩ := hM.three
  obtain ⟨_, _, _, _, _, _⟩ := hM'.three
  go_upto_region 5 with (go_at_call 12; with_reducible refine (cc _ _ _ hr' hP).mono ?_; rintro e w3 ⟨v, rfl, hl, hb⟩; replace hb := below_call ha hb; replace hr := hr.below hb; replace hM := hM.below hb; replace hO := hO.below hb; replace h3 := h3.below hb; replace hL := below_call hL hb; clear hb; obtain ⟨g4, o4, c4', rfl, h4⟩ := hl.onO (by decide); clear hl)
  clear hr' hM' hP ha
  obtain ⟨_, _, _, _, _, _⟩ := hM.three
  go_upto_region 6 with (go_at_call 22; with_reducible refine (cr _ _ hL hr).mono ?_; rintro e w4 ⟨v, rfl, hown, hb⟩; replace hr := hr.below hb; replace hM := hM.below hb; replace hO := hO.below hb; replace h3 := h3.below hb; replace h4 := h4.below hb; replace hL := below_call hL hb; clear hb; obtain ⟨g5, o5, c5', rfl, h5⟩ := (PosAt.any hown rfl (by unfold maxLen; decide)).onO (by decide); clear hown)
  obtain ⟨_, _, _, _, _, _⟩ := hM.three
  go_upto_region 7 with (go_at_call 24; with_reducible refine (cs _ _ hL hr).mono ?_; rintro e w5 ⟨v, rfl, hown, hb⟩; replace hr := hr.below hb; replace hM := hM.below hb; replace hO := hO.below hb; replace h3 := h3.below hb; replace h4 := h4.below hb; replace h5 := h5.below hb; replace hL := below_call hL hb; clear hb; obtain ⟨g6, o6, c6', rfl, h6⟩ := (PosAt.any hown rfl (by unfold maxLen; decide)).onO (by decide); clear hown)
  obtain ⟨_, _, _, _, _, _⟩ := hM.three
  obtain ⟨_, _, _, _⟩ := h3.exB
  obtain ⟨_, _⟩ := h4.exC
  clear cb cc cr cs
  go_wp2_with (first
    | (go_at_call 16; with_reducible refine (c1 _ _ _ hr hO).mono ?_; rintro e w6 ⟨rfl, hb⟩; replace hr := hr.below hb; replace hM := hM.below hb; replace hO := hO.below hb; replace h5 := h5.below hb; replace h6 := h6.below hb; replace hL := below_call hL hb; clear hb; obtain ⟨_, _, _, _, _, _⟩ := hM.three)
    | (go_at_call 16; with_reducible refine (c2 _ _ _ hr hO).mono ?_; rintro e w6 ⟨rfl, hb⟩; replace hr := hr.below hb; replace hM := hM.below hb; replace hO := hO.below hb; replace h5 := h5.below hb; replace h6 := h6.below hb; replace hL := below_call hL hb; clear hb; obtain ⟨_, _, _, _, _, _⟩ := hM.three)
    | (go_at_call 16; with_reducible refine (c3 _ _ _ hr hO).mono ?_; rintro e w6 ⟨rfl, hb⟩; replace hr := hr.below hb; replace hM := hM.below hb; replace hO := hO.below hb; replace h5 := h5.below hb; replace h6 := h6.below hb; replace hL := below_call hL hb; clear hb; obtain ⟨_, _, _, _, _, _⟩ := hM.three; obtain ⟨_, _, _, _, _, _⟩ := h5.exR; obtain ⟨_, _, _, _, _, _, _, _⟩ := h6.exS))
  go_ret
  exact ⟨rfl, hL⟩

end Go.Proofs.YtoodnblhjopnlaaDoor
