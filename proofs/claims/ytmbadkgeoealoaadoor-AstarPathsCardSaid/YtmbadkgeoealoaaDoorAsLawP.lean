/-
  The laws of astar: what their examples come to.
-/
import Derived.Test.YtmbadkgeoealoaaDoorAsLandR
import Derived.Test.YtmbadkgeoealoaaDoorTerHaveAll
import Derived.Test.YtmbadkgeoealoaaDoorTerRefH
namespace Go.Proofs.YtmbadkgeoealoaaDoor

section
open Go.RowKit Go.Lib

/-- A list of costs that cannot be less, and that are reached. -/
def chkD (nb : Nb) (n a : Nat) (D : List Int) : Bool :=
  decide (D.length = n) && decide (ga D a = 0) && ((List.range n).all fun p => (nb p).all fun x => decide (ga D x.1 ≤ ga D p + x.2)) &&
  ((List.range n).all fun q => decide (0 ≤ ga D q)) && ((List.range n).all fun q => decide (q = a) || (nb q).any fun x => decide (ga D q = ga D x.1 + x.2))
theorem chk_dist {nb : Nb} {n a : Nat} {D : List Int} (ok : GOk nb n) (ha : a < n) (h : chkD nb n a D = true) : IsDist nb n a D := by
  unfold chkD at h
  simp only [Bool.and_eq_true, decide_eq_true_eq, List.all_eq_true, List.mem_range, Bool.or_eq_true, List.any_eq_true] at h
  obtain ⟨⟨⟨⟨h1, h2⟩, h3⟩, h4⟩, h5⟩ := h
  have up : ∀ q c, Way nb a q c → ga D q ≤ c := fun q c w => by
    induction w with
    | here => omega
    | step k m ih =>
      rename_i p r c w
      have := h3 p (ok.lt _ _ _ m).1 (r, w) m
      dsimp only at this
      omega
  have way : ∀ (k q : Nat), q < n → (ga D q).toNat ≤ k → Way nb a q (ga D q) := fun k => by
    induction k with
    | zero =>
      intro q hq hk
      have h0 := h4 q hq
      rcases h5 q hq with e | ⟨x, hx, e⟩
      · subst e; rw [h2]; exact .here
      · have := h4 x.1 (ok.lt _ _ _ hx).2
        have := ok.pos _ _ _ hx
        omega
    | succ k ih =>
      intro q hq hk
      rcases h5 q hq with e | ⟨x, hx, e⟩
      · subst e; rw [h2]; exact .here
      · have h6 := h4 x.1 (ok.lt _ _ _ hx).2
        have h7 := ok.pos _ _ _ hx
        have := ih x.1 (ok.lt _ _ _ hx).2 (by omega)
        rw [e]
        exact .step this (ok.sym _ _ _ hx)
  exact ⟨h1, fun q hq => .inr ⟨h4 q hq, way _ q hq (Nat.le_refl _), fun c w => up q c w⟩⟩

/-- The map of the examples. -/
def exM : M3 := ⟨3, 3, List.replicate 9 ⟨1, 0, 0⟩⟩
def exD5 : List Int := [24, 14, 10, 20, 10, 0, 24, 14, 10]
def exD0 : List Int := [0, 10, 20, 10, 14, 24, 20, 24, 28]
set_option maxRecDepth 100000 in
theorem exF : formedv exM = true := by decide
set_option maxRecDepth 100000 in
theorem exV : true = (validm exM && classv 1) := by decide
set_option maxRecDepth 100000 in
set_option maxHeartbeats 4000000 in
theorem ex_d5 : IsDist (nb exM [] 1) exM.cs.length 5 exD5 := chk_dist (nb_ok exF [] 1) (by decide) (by decide)
set_option maxRecDepth 100000 in
set_option maxHeartbeats 4000000 in
theorem ex_d0 : IsDist (nb exM [] 1) exM.cs.length 0 exD0 := chk_dist (nb_ok exF [] 1) (by decide) (by decide)
set_option maxRecDepth 100000 in
set_option maxHeartbeats 4000000 in
theorem ex_path : pathG (nb exM [] 1) exD5 0 = [0, 1, 5] := by decide
def exL : List Pt := [(0, 0), (1, 0), (2, 1)]
theorem ex_ps : [0, 1, 5].map (posn exM) = exL := by decide
set_option maxRecDepth 100000 in
set_option maxHeartbeats 4000000 in
theorem ex_cost : costA exM [] 1 exL = (24, 0) := by decide
set_option maxRecDepth 100000 in
theorem ex_no0 : ¬ opn exM [true] 1 0 := by unfold opn; decide
set_option maxRecDepth 100000 in
theorem ex_yes8 : opn exM [true] 1 8 := by unfold opn; decide
set_option maxRecDepth 100000 in
theorem ex_c18 : Conn (nb exM [true] 1) 1 8 := by
  refine ⟨_, .step (.step .here (q := 4) (w := 10) ?_) (q := 8) (w := 14) ?_⟩
  · decide
  · decide
theorem ex_regs {R : List Int} (h : Regs (nb exM [true] 1) exM.cs.length (opn exM [true] 1) exM.cs.length R) : ga R 0 = -1 ∧ ga R 8 = 1 := by
  refine ⟨h.no 0 (by decide) (.inl ex_no0), ?_⟩
  obtain ⟨k, e, k1, k2, _⟩ := h.yes 8 (by decide) ex_yes8 1 (by decide) ex_c18
  have : k ≠ 0 := fun e0 => ex_no0 (by have := (conn_open exF [true] 1 k 8 k2 (by omega)).1; rw [e0] at this; exact this)
  omega

end

section
open Go.RowKit Go.Lib

theorem infoCelA : (Tryd.prog.info? 104).map (fun i => (i.zero, i.size, i.bytes)) = some (some (.agg #[.int .i64 0, .int .i64 0, .int .i64 0]), 3, 24) := by kernel_rfl
def fcellsA (i : Nat) : List Value := ccells (List.replicate i ⟨1, 0, 0⟩)
theorem fcellsA_next (i : Nat) : fcellsA i ++ [.int .i64 1, .int .i64 0, .int .i64 0] = fcellsA (i + 1) := by
  unfold fcellsA
  have e := ccells_snoc (List.replicate i ⟨1, 0, 0⟩) ⟨1, 0, 0⟩
  rw [List.replicate_succ']
  exact e
theorem ints_loneA (a b c : Int) : ∀ u ∈ [Value.int .i64 a, .int .i64 b, .int .i64 c], u.oneCell' = true := by
  intro u hu
  simp only [List.mem_cons, List.not_mem_nil, or_false] at hu
  rcases hu with rfl | rfl | rfl <;> rfl
set_option maxRecDepth 100000 in
set_option maxHeartbeats 8000000 in
theorem plain_b (W : World) :
    Calls Tryd.prog 45 #[] W fun e w' => ∃ s, e = .returned (.agg #[.int .i64 3, .int .i64 3, s]) ∧ RowAt w' s exM.cs ∧ Below W.heap.size W w' := by
  obtain ⟨i0, hi0, hz0, hz1, hz2⟩ := info_cut infoCelA
  have hK := ((Keep.nil W).alloc [.int .i64 0, .int .i64 0, .slice none 0 0] 24).alloc [.int .i64 3, .int .i64 3, .slice none 0 0] 24
  simp only [World.size_alloc] at hK
  go_enter Tryd.func45, Tryd.ntmps45
  go_upto_region 2 with fail
  generalize (W.alloc (.cells [Value.int .i64 0, .int .i64 0, .slice none 0 0].toArray 24)).alloc (.cells [Value.int .i64 3, .int .i64 3, .slice none 0 0].toArray 24) = V at *
  obtain ⟨hM0, hR0⟩ := hK.two
  have hold := hK.old
  clear hK
  go_wp2_with fail
  go_loopw [2] (fun vi wr => ∃ (i : Nat) (v : Value), vi = .int .i64 i ∧ i ≤ 9 ∧ wr.ownsRow (W.heap.size + 1 + 1) 104 3 v i (fcellsA i) ∧ Blk wr (W.heap.size + 1) [.int .i64 3, .int .i64 3, v] 24 ∧ Blk wr W.heap.size [.int .i64 0, .int .i64 0, .slice none 0 0] 24 ∧ Below W.heap.size W wr) (fun vi _ => 9 - (RowKit.intOf vi).toNat)
  case atStart => exact ⟨0, .slice none 0 0, rfl, by omega, World.ownsRow_nil _ _ _ _, hM0, hR0, hold⟩
  case round =>
    clear hM0 hR0 hold
    obtain ⟨i, v, rfl, hi, hown, hM, hR, hL⟩ := hrel
    obtain ⟨_, _, _, _, _, _⟩ := hM.three
    obtain ⟨_, _, _, _, _, _⟩ := hR.three
    have hMl := hM.lt
    by_cases hlt : i < 9
    · have z1 : decide ((i : Int) < 9) = true := decide_eq_true (by omega)
      have hBs := hM.lt
      have hzz := hL.size
      go_wp2_with (at_builtin; refine wpList_append_own _ rfl _ _ 22 rfl (W.heap.size + 1 + 1) 104 i0 (.agg #[.int .i64 0, .int .i64 0, .int .i64 0]) 3 24 Tryd.underlying22 hi0 hz0 hz1 hz2 rfl (by decide) _ _ _ rfl (hown.alloc _) ⟨wr.heap.size, 0, none⟩ 1 1 [.int .i64 1, .int .i64 0, .int .i64 0] rfl rfl cells_new (ints_loneA 1 0 0) (by unfold maxLen; omega) (by omega) (by simp; omega) ?_)
      intro v' w9 hown' hg' _
      have hM9 := (hM.alloc (.cells [Value.int .i64 1, .int .i64 0, .int .i64 0].toArray 104)).grown hg' (own_not hown (by omega))
      have hR9 := (hR.alloc (.cells [Value.int .i64 1, .int .i64 0, .int .i64 0].toArray 104)).grown hg' (own_not hown (by omega))
      have hL9 := (hL.alloc hL.size (.cells [Value.int .i64 1, .int .i64 0, .int .i64 0].toArray 104)).grown hg' (by simp; omega) (fun j hj => by have := (hown.lt j hj).1; omega)
      have hown9 := own_to hown' (m := i + 1) rfl (fcellsA_next i)
      obtain ⟨g9, c9, rfl⟩ := own_some hown9 (by omega)
      obtain ⟨_, _, _, _, _, _⟩ := hM9.three
      clear hown' hg' hown hM hR hL
      go_wp2_with fail
      go_roundw
      case rel => exact ⟨i + 1, _, by go_num, by omega, own_other hown9 ⟨W.heap.size + 1, 2, none⟩ _ (fun j hj => by have := (hown9.lt j hj).1; show j ≠ W.heap.size + 1; omega), hM9.set 2 _, hR9.far _ (by omega), hL9.setCell (by show W.heap.size ≤ W.heap.size + 1; omega) _⟩
      case measure => simp [RowKit.intOf]; omega
    · obtain rfl : i = 9 := by omega
      have z1 : decide (((9 : Nat) : Int) < 9) = false := by decide
      obtain ⟨g, cap, rfl⟩ := own_some hown (by decide)
      have hgl := (hown.lt g rfl).1
      have hR2 := ((hR.set 0 (.int .i64 3)).set 1 (.int .i64 3)).set 2 (.slice (some ⟨g, 0, none⟩) 9 cap)
      have hown2 := own_other (own_other (own_other hown ⟨W.heap.size, 0, none⟩ (.int .i64 3) (fun j hj => by have := (hown.lt j hj).1; show j ≠ W.heap.size; omega)) ⟨W.heap.size, 1, none⟩ (.int .i64 3) (fun j hj => by have := (hown.lt j hj).1; show j ≠ W.heap.size; omega)) ⟨W.heap.size, 2, none⟩ (.slice (some ⟨g, 0, none⟩) 9 cap) (fun j hj => by have := (hown.lt j hj).1; show j ≠ W.heap.size; omega)
      have hrow2 := RowAt.own (l := exM.cs) (cap := cap) (g := g) hown2 (by unfold maxLen; decide)
      have hL2 := ((hL.setCell (p := ⟨W.heap.size, 0, none⟩) (Nat.le_refl _) (.int .i64 3)).setCell (p := ⟨W.heap.size, 1, none⟩) (Nat.le_refl _) (.int .i64 3)).setCell (p := ⟨W.heap.size, 2, none⟩) (Nat.le_refl _) (.slice (some ⟨g, 0, none⟩) 9 cap)
      go_wp2_with fail
      obtain ⟨_, _, _, -, -, -⟩ := hR2.three
      refine bodyPost_ret (v := .agg #[.int .i64 3, .int .i64 3, .slice (some ⟨g, 0, none⟩) 9 cap]) (by simp [results, Tryd.results45, go_sem, *]) rfl ⟨_, rfl, hrow2, hL2⟩


set_option maxHeartbeats 4000000 in
theorem assmall_b (m : M3) (p0 pl : Option Addr) (nb c0 kl : Nat) (c x0 y0 x1 y1 x2 y2 : Int) (b : Bool) (W : World) (e : Hid (b = decide (m.cs.length ≤ 1100 ∧ nb ≤ 2000))) :
    Calls Tryd.prog 13 #[.agg #[.int .i64 m.w, .int .i64 m.h, .slice p0 m.cs.length c0, .slice pl nb kl, .int .i64 c, .int .i64 x0, .int .i64 y0, .int .i64 x1, .int .i64 y1, .int .i64 x2, .int .i64 y2]] W fun e w' => e = .returned (.bool b) ∧ Below W.heap.size W w' := by
  have hL := (Below.refl W.heap.size W).alloc (Nat.le_refl _) (.cells [Value.int .i64 m.w, .int .i64 m.h, .slice p0 m.cs.length c0, .slice pl nb kl, .int .i64 c, .int .i64 x0, .int .i64 y0, .int .i64 x1, .int .i64 y1, .int .i64 x2, .int .i64 y2].toArray 29)
  generalize m.cs.length = n at *
  by_cases h1 : n ≤ 1100
  · have z1 : decide ((n : Int) ≤ 1100) = true := decide_eq_true (by omega)
    by_cases h2 : nb ≤ 2000
    · have z2 : decide ((nb : Int) ≤ 2000) = true := decide_eq_true (by omega)
      have hb : b = true := by rw [e.out]; exact decide_eq_true ⟨h1, h2⟩
      subst hb
      clear e h1 h2
      go_enter Tryd.func13, Tryd.ntmps13
      go_wp2_with fail
      go_ret
      exact ⟨rfl, hL⟩
    · have z2 : decide ((nb : Int) ≤ 2000) = false := decide_eq_false (by omega)
      have hb : b = false := by rw [e.out]; exact decide_eq_false (fun h => h2 h.2)
      subst hb
      clear e h1 h2
      go_enter Tryd.func13, Tryd.ntmps13
      go_wp2_with fail
      go_ret
      exact ⟨rfl, hL⟩
  · have z1 : decide ((n : Int) ≤ 1100) = false := decide_eq_false (by omega)
    have hb : b = false := by rw [e.out]; exact decide_eq_false (fun h => h1 h.1)
    subst hb
    clear e h1
    go_enter Tryd.func13, Tryd.ntmps13
    go_wp2_with fail
    go_ret
    exact ⟨rfl, hL⟩

end

section
open Go.RowKit Go.Lib

theorem exHigh : HighAt exM := fun c hc => by
  have := List.eq_of_mem_replicate hc
  subst this
  exact ⟨by decide, by decide⟩
theorem BitsAt.nilA (W : World) : BitsAt W (.slice none 0 0) [] := ⟨none, 0, rfl, Nat.zero_le _, fun h => by simp at h⟩
theorem BitsAt.oneA {W : World} {b : Nat} {t : TypeId} (h : Blk W b [.bool true] t) : BitsAt W (.slice (some ⟨b, 0, none⟩) 1 1) [true] :=
  ⟨some ⟨b, 0, none⟩, 1, rfl, by unfold maxLen; decide, fun _ => ⟨b, 0, rfl, fun i hi => by
    have : i = 0 := by simp at hi; exact hi
    subst this
    exact h.cell 0⟩⟩
set_option maxRecDepth 100000 in
theorem exA1 : (validm exM && classv 1 && insp exM (0, 0) && insp exM (2, 1)) = true := by decide
set_option maxRecDepth 100000 in
theorem exA2 : (openv exM [] 1 0 0 && openv exM [] 1 2 1) = true := by decide
set_option maxRecDepth 100000 in
theorem exA3 : (validm exM && classv 1 && insp exM (0, 0) && insp exM (2, 0)) = true := by decide
set_option maxRecDepth 100000 in
theorem exA4 : (openv exM [true] 1 0 0 && openv exM [true] 1 2 0) = false := by decide
set_option maxRecDepth 100000 in
theorem exA5 : openv exM [] 1 (posn exM 0).1 (posn exM 0).2 = true := by decide
set_option maxRecDepth 100000 in
theorem exI5 : idx exM (2, 1) = 5 := by decide
set_option maxRecDepth 100000 in
theorem exI0 : idx exM (0, 0) = 0 := by decide
theorem exLen : exM.cs.length = 9 := by decide
abbrev exV9 (p0 : Option Addr) (c0 : Nat) : Value := .agg #[.int .i64 3, .int .i64 3, .slice p0 exM.cs.length c0]
theorem ex_path1 (p0 : Option Addr) (c0 : Nat) (W : World) (hE : EnvT W) (hr : RowAt W (.slice p0 exM.cs.length c0) exM.cs) :
    Calls Tryd.prog 15 #[.agg #[.int .i64 3, .int .i64 3, .slice p0 exM.cs.length c0], .slice none 0 0, .int .i64 1, .agg #[.int .i64 0, .int .i64 0], .agg #[.int .i64 2, .int .i64 1]] W fun e w' =>
      ∃ g cap, e = .returned (.tuple #[.slice (some ⟨g, 0, none⟩) 3 cap, .int .i64 24, .int .i64 0]) ∧ PsAt w' (.slice (some ⟨g, 0, none⟩) 3 cap) exL ∧ Below W.heap.size W w' :=
  (aspath_b exM p0 exM.cs.length c0 [] none 0 0 1 0 0 2 1 W ⟨hE, exHigh, hr, BitsAt.nilA W⟩).mono fun e w' ⟨hb, h⟩ => by
    cases h with
    | arg h => rw [exA1] at h; cases h
    | blocked _ h => rw [show ((2 : Int), (1 : Int)).1 = 2 from rfl] at h; exact absurd (exA2.symm.trans h) (by decide)
    | none D _ _ hd h =>
      rw [exI5] at hd
      rw [exI0] at h
      have := hd.eq ex_d5
      subst this
      exact absurd h (by decide)
    | way D v _ _ hd _ _ ho =>
      rw [exI5] at hd
      have := hd.eq ex_d5
      subst this
      rw [exI0, ex_path] at ho
      rw [exI0]
      have hp := PsAt.any ho rfl
      rw [ex_ps] at hp
      obtain ⟨g, cap, rfl⟩ := own_some ho (by decide)
      exact ⟨g, cap, rfl, hp, hb⟩
theorem ex_path2 (p0 : Option Addr) (c0 b : Nat) (W : World) (hE : EnvT W) (hr : RowAt W (.slice p0 exM.cs.length c0) exM.cs) (hl : BitsAt W (.slice (some ⟨b, 0, none⟩) 1 1) [true]) :
    Calls Tryd.prog 15 #[.agg #[.int .i64 3, .int .i64 3, .slice p0 exM.cs.length c0], .slice (some ⟨b, 0, none⟩) 1 1, .int .i64 1, .agg #[.int .i64 0, .int .i64 0], .agg #[.int .i64 2, .int .i64 0]] W fun e w' =>
      e = .returned (.tuple #[.slice none 0 0, .int .i64 0, .int .i64 9]) ∧ Below W.heap.size W w' :=
  (aspath_b exM p0 exM.cs.length c0 [true] (some ⟨b, 0, none⟩) 1 1 1 0 0 2 0 W ⟨hE, exHigh, hr, hl⟩).mono fun e w' ⟨hb, h⟩ => by
    cases h with
    | arg h => rw [exA3] at h; cases h
    | blocked _ h => exact ⟨rfl, hb⟩
    | none D _ h => exact absurd (exA4.symm.trans h) (by decide)
    | way D v _ h => exact absurd (exA4.symm.trans h) (by decide)
theorem ex_cost1 (p0 : Option Addr) (c0 : Nat) (v : Value) (W : World) (hE : EnvT W) (hr : RowAt W (.slice p0 exM.cs.length c0) exM.cs) (hp : PsAt W v exL) :
    Calls Tryd.prog 18 #[.agg #[.int .i64 3, .int .i64 3, .slice p0 exM.cs.length c0], .slice none 0 0, .int .i64 1, v] W fun e w' => e = .returned (.tuple #[.int .i64 24, .int .i64 0]) ∧ Below W.heap.size W w' :=
  ascostw_b exM p0 exM.cs.length c0 [] none 0 0 1 exL v (24, 0) W ⟨hE, exHigh, hr, BitsAt.nilA W⟩ hp (by decide) (hid ex_cost.symm)
theorem ex_reach1 (p0 : Option Addr) (c0 : Nat) (W : World) (hE : EnvT W) (hr : RowAt W (.slice p0 exM.cs.length c0) exM.cs) :
    Calls Tryd.prog 21 #[.agg #[.int .i64 3, .int .i64 3, .slice p0 exM.cs.length c0], .slice none 0 0, .int .i64 1, .agg #[.int .i64 0, .int .i64 0]] W fun e w' => ∃ cb, e = .returned (.slice (some ⟨cb, 0, none⟩) 9 9) ∧ w'.cell? ⟨cb, 8, none⟩ = some (.int .i64 28) ∧ Below W.heap.size W w' :=
  (asreach_b exM p0 exM.cs.length c0 [] none 0 0 1 0 0 true 9 W ⟨hE, exHigh, hr, BitsAt.nilA W⟩ (hid exLen) (hid (by decide))).mono fun e w' h => by
    rcases h with ⟨h, _⟩ | ⟨_, cb, D, rfl, _, hB, hd, _, hb⟩
    · cases h
    · unfold Dst at hd
      rw [exI0, if_pos exA5] at hd
      have := hd.eq ex_d0
      subst this
      exact ⟨cb, rfl, hB.cell 8, hb⟩
theorem ex_regs1 (p0 : Option Addr) (c0 b : Nat) (W : World) (hE : EnvT W) (hr : RowAt W (.slice p0 exM.cs.length c0) exM.cs) (hl : BitsAt W (.slice (some ⟨b, 0, none⟩) 1 1) [true]) :
    Calls Tryd.prog 23 #[.agg #[.int .i64 3, .int .i64 3, .slice p0 exM.cs.length c0], .slice (some ⟨b, 0, none⟩) 1 1, .int .i64 1] W fun e w' => ∃ cb, e = .returned (.slice (some ⟨cb, 0, none⟩) 9 9) ∧ w'.cell? ⟨cb, 0, none⟩ = some (.int .i64 (-1)) ∧ w'.cell? ⟨cb, 8, none⟩ = some (.int .i64 1) ∧ Below W.heap.size W w' :=
  (asregs_b exM p0 exM.cs.length c0 [true] (some ⟨b, 0, none⟩) 1 1 1 9 true W ⟨hE, exHigh, hr, hl⟩ (hid exLen) (hid exV)).mono fun e w' h => by
    rcases h with ⟨h, _⟩ | ⟨_, rb, R, rfl, _, hB, hR, hb⟩
    · cases h
    · obtain ⟨r0, r8⟩ := ex_regs hR
      have hl := hR.len
      refine ⟨rb, rfl, (hB.cell 0).trans ?_, (hB.cell 8).trans ?_, hb⟩
      · rw [ints_at (by rw [hl]; decide), r0]
      · rw [ints_at (by rw [hl]; decide), r8]

set_option maxRecDepth 100000 in
set_option maxHeartbeats 8000000 in
theorem asalive_b (W : World) (hE : EnvT W) : Calls Tryd.prog 14 #[] W fun e w' => e = .returned (.bool true) ∧ Below W.heap.size W w' := by
  go_enter Tryd.func14, Tryd.ntmps14
  go_upto_region 2 with (go_at_call 45; with_reducible refine (plain_b _).mono ?_; rintro e w1 ⟨s, rfl, hr, hb⟩; obtain ⟨p0, c0, rfl⟩ := hr.slice)
  have ha := (Below.refl w1.heap.size w1).alloc (Nat.le_refl _) (.cells [Value.int .i64 3, .int .i64 3, .slice p0 exM.cs.length c0].toArray 24)
  have hM := Blk.new w1 [.int .i64 3, .int .i64 3, .slice p0 exM.cs.length c0] 24
  replace hr := hr.below ha
  have hL := below_call hb ha
  clear ha hb
  have c1 := fun (w : World) (hW : Below W.heap.size W w) (h : RowAt w (.slice p0 exM.cs.length c0) exM.cs) => ex_path1 p0 c0 w (hE.keep hW) h
  have c2 := fun (w : World) (b : Nat) (hW : Below W.heap.size W w) (h : RowAt w (.slice p0 exM.cs.length c0) exM.cs) (hl : BitsAt w (.slice (some ⟨b, 0, none⟩) 1 1) [true]) => ex_path2 p0 c0 b w (hE.keep hW) h hl
  have c3 := fun (w : World) (v : Value) (hW : Below W.heap.size W w) (h : RowAt w (.slice p0 exM.cs.length c0) exM.cs) (hp : PsAt w v exL) => ex_cost1 p0 c0 v w (hE.keep hW) h hp
  have c4 := fun (w : World) (hW : Below W.heap.size W w) (h : RowAt w (.slice p0 exM.cs.length c0) exM.cs) => ex_reach1 p0 c0 w (hE.keep hW) h
  have c5 := fun (w : World) (b : Nat) (hW : Below W.heap.size W w) (h : RowAt w (.slice p0 exM.cs.length c0) exM.cs) (hl : BitsAt w (.slice (some ⟨b, 0, none⟩) 1 1) [true]) => ex_regs1 p0 c0 b w (hE.keep hW) h hl
  generalize exM.cs = cs9 at *
  generalize cs9.length = n9 at *
  generalize w1.alloc (.cells [Value.int .i64 3, .int .i64 3, .slice p0 n9 c0].toArray 24) = X at *
  generalize w1.heap.size = bm at *
  obtain ⟨_, _, _, _, _, _⟩ := hM.three
  go_upto_region 3 with (go_at_call 15; refine (c1 _ hL hr).mono ?_; rintro e w2 ⟨g, cap, rfl, hp, hb⟩)
  replace hr := hr.below hb
  replace hM := hM.below hb
  replace hL := below_call hL hb
  clear hb c1
  obtain ⟨_, _, _, _, _, _⟩ := hM.three
  obtain ⟨pg, pc, pe, -, -, hcells⟩ := id hp
  obtain ⟨g', o', e1, hgl, hat⟩ := hcells (by decide)
  obtain ⟨rfl, rfl⟩ : g = g' ∧ 0 = o' := by
    rw [e1] at pe; injection pe with e2 _ _; injection e2 with e2; injection e2 with e2 e3; exact ⟨e2, e3⟩
  have h11 := (hat 1 (by decide)).1
  have h12 := (hat 1 (by decide)).2
  simp only [exL, List.getElem_cons_succ, List.getElem_cons_zero] at h11 h12
  clear hat hcells pe e1
  go_upto_region 6 with (go_at_call 18; refine (c3 _ _ hL hr hp).mono ?_; rintro e w3 ⟨rfl, hb⟩)
  replace hr := hr.below hb
  replace hM := hM.below hb
  replace hL := below_call hL hb
  clear hb c3 hp h11 h12
  obtain ⟨_, _, _, _, _, _⟩ := hM.three
  go_upto_region 7 with (go_at_call 21; refine (c4 _ hL hr).mono ?_; rintro e w4 ⟨cb, rfl, hc8, hb⟩)
  replace hr := hr.below hb
  replace hM := hM.below hb
  replace hL := below_call hL hb
  have hcb := World.block_lt_of_cell? w4 _ hc8
  clear hb c4
  obtain ⟨_, _, _, _, _, _⟩ := hM.three
  have ha4 := (Below.refl w4.heap.size w4).alloc (Nat.le_refl _) (.cells [Value.bool true].toArray 4)
  have hB4 := BitsAt.oneA (Blk.new w4 [.bool true] 4)
  go_upto_region 8 with (go_at_call 23; refine (c5 _ _ (below_call hL ha4) (hr.below ha4) hB4).mono ?_; rintro e w5 ⟨rb, rfl, hr0, hr8, hb⟩)
  replace hb := below_call ha4 hb
  replace hr := hr.below hb
  replace hM := hM.below hb
  replace hL := below_call hL hb
  rw [← hb.cell (p := ⟨cb, 8, none⟩) hcb] at hc8
  have hcb5 := World.block_lt_of_cell? w5 _ hc8
  have hrb5 := World.block_lt_of_cell? w5 _ hr0
  clear hb c5 ha4 hB4
  obtain ⟨_, _, _, _, _, _⟩ := hM.three
  have ha5 := (Below.refl w5.heap.size w5).alloc (Nat.le_refl _) (.cells [Value.bool true].toArray 4)
  have hB5 := BitsAt.oneA (Blk.new w5 [.bool true] 4)
  go_upto_region 9 with (go_at_call 15; refine (c2 _ _ (below_call hL ha5) (hr.below ha5) hB5).mono ?_; rintro e w6 ⟨rfl, hb⟩)
  replace hb := below_call ha5 hb
  replace hL := below_call hL hb
  rw [← hb.cell (p := ⟨cb, 8, none⟩) hcb5] at hc8
  rw [← hb.cell (p := ⟨rb, 0, none⟩) hrb5] at hr0
  rw [← hb.cell (p := ⟨rb, 8, none⟩) hrb5] at hr8
  clear hb c2 ha5 hB5 hM hr
  go_wp2_with fail
  go_ret
  exact ⟨rfl, hL⟩

end

end Go.Proofs.YtmbadkgeoealoaaDoor
