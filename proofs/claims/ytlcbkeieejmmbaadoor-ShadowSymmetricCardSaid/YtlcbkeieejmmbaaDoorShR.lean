/-
  The laws of shadow: the chapter's examples hold.
-/
import Derived.Test.YtlcbkeieejmmbaaDoorShQ
namespace Go.Proofs.YtlcbkeieejmmbaaDoor
open Go.RowKit Go.Lib

theorem rock_w : rockM.w = 3 := rfl
theorem rock_h : rockM.h = 3 := rfl
def exV : List Bool := [true, true, false, true, true, false, true, false, false]
theorem ex_vis : visv rockM 0 0 2 false = exV := by decide
theorem ex_none : visv rockM 0 0 (-1) false = [] := by decide
theorem ex_l1 : false = lookv rockM 0 0 2 0 := by decide
theorem ex_l2 : true = lookv rockM 0 0 1 0 := by decide
theorem ex_l3 : true = lookv rockM 0 0 2 2 := by decide
theorem ex_b1 : false = blocksv rockM 0 0 1 1 1 0 := by decide
theorem ex_b2 : true = blocksv rockM 0 0 2 1 1 0 := by decide
theorem ex_u : (unionv [true] [false, true]).length = 2 := by decide
/-- A list of bits, cell by cell. -/
def BitsOn (W : World) (g o : Nat) (l : List Bool) : Prop := ∀ i, (h : i < l.length) → W.cell? ⟨g, o + i, none⟩ = some (.bool (l[i]'h))
theorem BitsOn.below {W w' : World} {g o : Nat} {l : List Bool} (h : BitsOn W g o l) (hb : Below W.heap.size W w') : BitsOn w' g o l := fun i hi => (hb.cell (World.block_lt_of_cell? W _ (h i hi))).trans (h i hi)
theorem BitsOn.ex {W : World} {g o : Nat} (h : BitsOn W g o exV) : W.cell? ⟨g, o, none⟩ = some (.bool true) ∧ W.cell? ⟨g, o + 1, none⟩ = some (.bool true) ∧ W.cell? ⟨g, o + 2, none⟩ = some (.bool false) ∧ W.cell? ⟨g, o + 6, none⟩ = some (.bool true) ∧ W.cell? ⟨g, o + 8, none⟩ = some (.bool false) :=
  ⟨h 0 (by decide), h 1 (by decide), h 2 (by decide), h 6 (by decide), h 8 (by decide)⟩
theorem BitsAt.on {W : World} {v : Value} {l : List Bool} (h : BitsAt W v l) (h1 : 1 ≤ l.length) : ∃ g o c, v = .slice (some ⟨g, o, none⟩) l.length c ∧ BitsOn W g o l := by
  obtain ⟨p, c, rfl, -, hat⟩ := h
  obtain ⟨g, o, rfl, hc⟩ := hat h1
  exact ⟨g, o, c, rfl, hc⟩
theorem BitsAt.len {W : World} {v : Value} {l : List Bool} (h : BitsAt W v l) : ∃ p c, v = .slice p l.length c := by
  obtain ⟨p, c, rfl, -⟩ := h
  exact ⟨p, c, rfl⟩
theorem BitsAt.one9 {W : World} {b : Nat} {p : Bool} {e : TypeId} (h : Blk W b [.bool p] e) : BitsAt W (.slice (some ⟨b, 0, none⟩) 1 1) [p] := BitsAt.blk9 (l := [p]) h rfl (by unfold maxLen; decide)
theorem BitsAt.two9 {W : World} {b : Nat} {p q : Bool} {e : TypeId} (h : Blk W b [.bool p, .bool q] e) : BitsAt W (.slice (some ⟨b, 0, none⟩) 2 2) [p, q] := BitsAt.blk9 (l := [p, q]) h rfl (by unfold maxLen; decide)

set_option maxRecDepth 100000 in
set_option maxHeartbeats 8000000 in
theorem awake12_b (W : World) (hE : EnvT W) : Calls Tryd.prog 10 #[] W fun e w' => e = .returned (.bool true) ∧ Below W.heap.size W w' := by
  have cv := fun s w (hb : Below W.heap.size W w) hr => shvisible_b rockM s 0 0 2 false w (hE.keep hb) hr
  have cn := fun s w (hb : Below W.heap.size W w) hr => shvisible_b rockM s 0 0 (-1) false w (hE.keep hb) hr
  have c1 := fun s w (hb : Below W.heap.size W w) hr => shsees_b rockM s 0 0 2 0 false w (hE.p.keep hb) hr (hid ex_l1)
  have c2 := fun s w (hb : Below W.heap.size W w) hr => shsees_b rockM s 0 0 1 0 true w (hE.p.keep hb) hr (hid ex_l2)
  have c3 := fun s w (hb : Below W.heap.size W w) hr => shsees_b rockM s 0 0 2 2 true w (hE.p.keep hb) hr (hid ex_l3)
  have c4 := fun s w (hb : Below W.heap.size W w) hr => shblocks_b rockM s 0 0 1 1 1 0 false w (hE.p.keep hb) hr (hid ex_b1)
  have c5 := fun s w (hb : Below W.heap.size W w) hr => shblocks_b rockM s 0 0 2 1 1 0 true w (hE.p.keep hb) hr (hid ex_b2)
  have cu := fun (w : World) v1 v2 (h1 : BitsAt w v1 [true]) (h2 : BitsAt w v2 [false, true]) => shunion_b [true] [false, true] v1 v2 w h1 h2 (by decide) (by decide)
  simp only [rock_w, rock_h, ex_vis, ex_none] at cv cn c1 c2 c3 c4 c5
  have hv9 : exV.length = 9 := rfl
  have hu2 := ex_u
  clear hE
  go_enter Tryd.func10, Tryd.ntmps10
  go_upto_region 2 with (go_at_call 25; with_reducible refine (field_b _).mono ?_; rintro e w1 ⟨s, rfl, hr, hb⟩; obtain ⟨p0, c0, rfl⟩ := hr.slice)
  have ha := (Below.refl w1.heap.size w1).alloc (Nat.le_refl _) (.cells [Value.int .i64 3, .int .i64 3, .slice p0 rockM.cs.length c0].toArray 24)
  have hM := Blk.new w1 [.int .i64 3, .int .i64 3, .slice p0 rockM.cs.length c0] 24
  replace hr := hr.below ha
  have hL := below_call hb ha
  clear ha hb
  generalize rockM.cs.length = n9 at *
  generalize w1.alloc (.cells [Value.int .i64 3, .int .i64 3, .slice p0 n9 c0].toArray 24) = X at *
  generalize w1.heap.size = bm at *
  go_upto_region 3 with fail
  have ha := (Below.refl X.heap.size X).alloc (Nat.le_refl _) (.cells [Value.int .i64 0, .int .i64 0].toArray 26)
  have hP := Blk.new X [.int .i64 0, .int .i64 0] 26
  replace hr := hr.below ha
  replace hM := hM.below ha
  replace hL := below_call hL ha
  clear ha
  generalize X.alloc (.cells [Value.int .i64 0, .int .i64 0].toArray 26) = Y at *
  generalize X.heap.size = bp at *
  obtain ⟨_, _, _, _, _, _⟩ := hM.three
  obtain ⟨_, _, _, _⟩ := hP.two
  go_wp2_with (first
    | (go_at_call 16; with_reducible refine (cv _ _ hL hr).mono ?_; rintro e w2 ⟨v, rfl, hl, hb⟩; replace hr := hr.below hb; replace hM := hM.below hb; replace hP := hP.below hb; replace hL := below_call hL hb; obtain ⟨_, _, _, _, _, _⟩ := hM.three; obtain ⟨_, _, _, _⟩ := hP.two; clear hb; obtain ⟨gl, ol, cl, rfl, hO⟩ := hl.on (by decide); clear hl)
    | (go_at_call 13; with_reducible refine (c1 _ _ hL hr).mono ?_; rintro e w3 ⟨rfl, hb⟩; replace hO := hO.below hb; replace hr := hr.below hb; replace hM := hM.below hb; replace hP := hP.below hb; replace hL := below_call hL hb; obtain ⟨_, _, _, _, _, _⟩ := hM.three; obtain ⟨_, _, _, _⟩ := hP.two; clear hb)
    | (go_at_call 13; with_reducible refine (c2 _ _ hL hr).mono ?_; rintro e w3 ⟨rfl, hb⟩; replace hO := hO.below hb; replace hr := hr.below hb; replace hM := hM.below hb; replace hP := hP.below hb; replace hL := below_call hL hb; obtain ⟨_, _, _, _, _, _⟩ := hM.three; obtain ⟨_, _, _, _⟩ := hP.two; clear hb)
    | (go_at_call 13; with_reducible refine (c3 _ _ hL hr).mono ?_; rintro e w3 ⟨rfl, hb⟩; replace hO := hO.below hb; replace hr := hr.below hb; replace hM := hM.below hb; replace hP := hP.below hb; replace hL := below_call hL hb; obtain ⟨_, _, _, _, _, _⟩ := hM.three; obtain ⟨_, _, _, _⟩ := hP.two; clear hb)
    | (go_at_call 11; with_reducible refine (c4 _ _ hL hr).mono ?_; rintro e w3 ⟨rfl, hb⟩; replace hO := hO.below hb; replace hr := hr.below hb; replace hM := hM.below hb; replace hP := hP.below hb; replace hL := below_call hL hb; obtain ⟨_, _, _, _, _, _⟩ := hM.three; obtain ⟨_, _, _, _⟩ := hP.two; clear hb)
    | (go_at_call 11; with_reducible refine (c5 _ _ hL hr).mono ?_; rintro e w3 ⟨rfl, hb⟩; replace hO := hO.below hb; replace hr := hr.below hb; replace hM := hM.below hb; replace hP := hP.below hb; replace hL := below_call hL hb; obtain ⟨_, _, _, _, _, _⟩ := hM.three; obtain ⟨_, _, _, _⟩ := hP.two; clear hb; obtain ⟨_, _, _, _, _⟩ := hO.ex)
    | (go_at_call 16; with_reducible refine (cn _ _ hL hr).mono ?_; rintro e w4 ⟨v2, rfl, hl2, hb⟩; replace hL := below_call hL hb; obtain ⟨p2, c2', rfl⟩ := hl2.len)
    | (go_at_call 18; refine (cu _ _ _ (BitsAt.one9 ((Blk.new w4 [.bool true] 4).alloc _)) (BitsAt.two9 ((Blk.new (w4.alloc (.cells [Value.bool true].toArray 4)) [.bool false, .bool true] 4).at (World.size_alloc _ _)))).mono ?_; rintro e w5 ⟨v3, rfl, hl3, hb⟩; replace hL := below_call ((hL.alloc hL.size _).alloc (by have := hL.size; simp; omega) _) hb; obtain ⟨p3, c3', rfl⟩ := hl3.len))
  go_ret
  exact ⟨rfl, hL⟩

end Go.Proofs.YtlcbkeieejmmbaaDoor
