/-
  The laws of astar: what their examples come to.
-/
import Derived.Test.YtpgchjhfhndaaaaGreatDoorAsLandR
import Derived.Test.YtpgchjhfhndaaaaGreatDoorTerHaveAll
import Derived.Test.YtpgchjhfhndaaaaGreatDoorTerRefH
namespace Go.Proofs.YtpgchjhfhndaaaaGreatDoor

section
open Go.RowKit Go.Lib

/-- A list of costs that cannot be less, and that are reached. -/
def chkD (nb : Nb) (n a : Nat) (D : List Int) : Bool :=
  decide (D.length = n) && decide (ga D a = 0) && ((List.range n).all fun p => (nb p).all fun x => decide (ga D x.1 ≤ ga D p + x.2)) &&
  ((List.range n).all fun q => decide (0 ≤ ga D q)) && ((List.range n).all fun q => decide (q = a) || (nb q).any fun x => decide (ga D q = ga D x.1 + x.2))
theorem chk_dist {nb : Nb} {n a : Nat} {D : List Int} (ok : GOk nb n) (ha : a < n) (h : chkD nb n a D = true) : IsDist nb n a D := by
  unfold chkD at h
  simp only [Bool.and_eq_true, decide_eq_true_eq, List.all_eq_true, List.mem_range, Bool.or_eq_true, List.any_eq_true] at h
  obtain ⟨⟨⟨⟨h1, h2⟩, h3⟩, h4⟩, h5⟩ := h
  have up : ∀ q c, Way nb a q c → ga D q ≤ c := fun q c w => by
    induction w with
    | here => omega
    | step k m ih =>
      rename_i p r c w
      have := h3 p (ok.lt _ _ _ m).1 (r, w) m
      dsimp only at this
      omega
  have way : ∀ (k q : Nat), q < n → (ga D q).toNat ≤ k → Way nb a q (ga D q) := fun k => by
    induction k with
    | zero =>
      intro q hq hk
      have h0 := h4 q hq
      rcases h5 q hq with e | ⟨x, hx, e⟩
      · subst e; rw [h2]; exact .here
      · have := h4 x.1 (ok.lt _ _ _ hx).2
        have := ok.pos _ _ _ hx
        omega
    | succ k ih =>
      intro q hq hk
      rcases h5 q hq with e | ⟨x, hx, e⟩
      · subst e; rw [h2]; exact .here
      · have h6 := h4 x.1 (ok.lt _ _ _ hx).2
        have h7 := ok.pos _ _ _ hx
        have := ih x.1 (ok.lt _ _ _ hx).2 (by omega)
        rw [e]
        exact .step this (ok.sym _ _ _ hx)
  exact ⟨h1, fun q hq => .inr ⟨h4 q hq, way _ q hq (Nat.le_refl _), fun c w => up q c w⟩⟩

/-- The map of the examples. -/
def exM : M3 := ⟨3, 3, List.replicate 9 ⟨1, 0, 0⟩⟩
def exD5 : List Int := [24, 14, 10, 20, 10, 0, 24, 14, 10]
def exD0 : List Int := [0, 10, 20, 10, 14, 24, 20, 24, 28]
set_option maxRecDepth 100000 in
theorem exF : formedv exM = true := by decide
set_option maxRecDepth 100000 in
theorem exV : true = (validm exM && classv 1) := by decide
set_option maxRecDepth 100000 in
set_option maxHeartbeats 4000000 in
theorem ex_d5 : IsDist (nb exM [] 1) exM.cs.length 5 exD5 := chk_dist (nb_ok exF [] 1) (by decide) (by decide)
set_option maxRecDepth 100000 in
set_option maxHeartbeats 4000000 in
theorem ex_d0 : IsDist (nb exM [] 1) exM.cs.length 0 exD0 := chk_dist (nb_ok exF [] 1) (by decide) (by decide)
set_option maxRecDepth 100000 in
set_option maxHeartbeats 4000000 in
theorem ex_path : pathG (nb exM [] 1) exD5 0 = [0, 1, 5] := by decide
def exL : List Pt := [(0, 0), (1, 0), (2, 1)]
theorem ex_ps : [0, 1, 5].map (posn exM) = exL := by decide
set_option maxRecDepth 100000 in
set_option maxHeartbeats 4000000 in
theorem ex_cost : costA exM [] 1 exL = (24, 0) := by decide
set_option maxRecDepth 100000 in
theorem ex_no0 : ¬ opn exM [true] 1 0 := by unfold opn; decide
set_option maxRecDepth 100000 in
theorem ex_yes8 : opn exM [true] 1 8 := by unfold opn; decide
set_option maxRecDepth 100000 in
theorem ex_c18 : Conn (nb exM [true] 1) 1 8 := by
  refine ⟨_, .step (.step .here (q := 4) (w := 10) ?_) (q := 8) (w := 14) ?_⟩
  · decide
  · decide
theorem ex_regs {R : List Int} (h : Regs (nb exM [true] 1) exM.cs.length (opn exM [true] 1) exM.cs.length R) : ga R 0 = -1 ∧ ga R 8 = 1 := by
  refine ⟨h.no 0 (by decide) (.inl ex_no0), ?_⟩
  obtain ⟨k, e, k1, k2, _⟩ := h.yes 8 (by decide) ex_yes8 1 (by decide) ex_c18
  have : k ≠ 0 := fun e0 => ex_no0 (by have := (conn_open exF [true] 1 k 8 k2 (by omega)).1; rw [e0] at this; exact this)
  omega

end

section
open Go.RowKit Go.Lib

theorem infoCelA : (Tryz.prog.info? 53).map (fun i => (i.zero, i.size, i.bytes)) = some (some (.agg #[.int .i64 0, .int .i64 0, .int .i64 0]), 3, 24) := by kernel_rfl
def fcellsA (i : Nat) : List Value := ccells (List.replicate i ⟨1, 0, 0⟩)
theorem fcellsA_next (i : Nat) : fcellsA i ++ [.int .i64 1, .int .i64 0, .int .i64 0] = fcellsA (i + 1) := by
  unfold fcellsA
  have e := ccells_snoc (List.replicate i ⟨1, 0, 0⟩) ⟨1, 0, 0⟩
  rw [List.replicate_succ']
  exact e
theorem ints_loneA (a b c : Int) : ∀ u ∈ [Value.int .i64 a, .int .i64 b, .int .i64 c], u.oneCell' = true := by
  intro u hu
  simp only [List.mem_cons, List.not_mem_nil, or_false] at hu
  rcases hu with rfl | rfl | rfl <;> rfl
end

section
open Go.RowKit Go.Lib

theorem exHigh : HighAt exM := fun c hc => by
  have := List.eq_of_mem_replicate hc
  subst this
  exact ⟨by decide, by decide⟩
theorem BitsAt.nilA (W : World) : BitsAt W (.slice none 0 0) [] := ⟨none, 0, rfl, Nat.zero_le _, fun h => by simp at h⟩
theorem BitsAt.oneA {W : World} {b : Nat} {t : TypeId} (h : Blk W b [.bool true] t) : BitsAt W (.slice (some ⟨b, 0, none⟩) 1 1) [true] :=
  ⟨some ⟨b, 0, none⟩, 1, rfl, by unfold maxLen; decide, fun _ => ⟨b, 0, rfl, fun i hi => by
    have : i = 0 := by simp at hi; exact hi
    subst this
    exact h.cell 0⟩⟩
set_option maxRecDepth 100000 in
theorem exA1 : (validm exM && classv 1 && insp exM (0, 0) && insp exM (2, 1)) = true := by decide
set_option maxRecDepth 100000 in
theorem exA2 : (openv exM [] 1 0 0 && openv exM [] 1 2 1) = true := by decide
set_option maxRecDepth 100000 in
theorem exA3 : (validm exM && classv 1 && insp exM (0, 0) && insp exM (2, 0)) = true := by decide
set_option maxRecDepth 100000 in
theorem exA4 : (openv exM [true] 1 0 0 && openv exM [true] 1 2 0) = false := by decide
set_option maxRecDepth 100000 in
theorem exA5 : openv exM [] 1 (posn exM 0).1 (posn exM 0).2 = true := by decide
set_option maxRecDepth 100000 in
theorem exI5 : idx exM (2, 1) = 5 := by decide
set_option maxRecDepth 100000 in
theorem exI0 : idx exM (0, 0) = 0 := by decide
theorem exLen : exM.cs.length = 9 := by decide
abbrev exV9 (p0 : Option Addr) (c0 : Nat) : Value := .agg #[.int .i64 3, .int .i64 3, .slice p0 exM.cs.length c0]
theorem ex_path1 (p0 : Option Addr) (c0 : Nat) (W : World) (hE : EnvT W) (hr : RowAt W (.slice p0 exM.cs.length c0) exM.cs) :
    Calls Tryz.prog 28 #[.agg #[.int .i64 3, .int .i64 3, .slice p0 exM.cs.length c0], .slice none 0 0, .int .i64 1, .agg #[.int .i64 0, .int .i64 0], .agg #[.int .i64 2, .int .i64 1]] W fun e w' =>
      ∃ g cap, e = .returned (.tuple #[.slice (some ⟨g, 0, none⟩) 3 cap, .int .i64 24, .int .i64 0]) ∧ PsAt w' (.slice (some ⟨g, 0, none⟩) 3 cap) exL ∧ Below W.heap.size W w' :=
  (aspath_b exM p0 exM.cs.length c0 [] none 0 0 1 0 0 2 1 W ⟨hE, exHigh, hr, BitsAt.nilA W⟩).mono fun e w' ⟨hb, h⟩ => by
    cases h with
    | arg h => rw [exA1] at h; cases h
    | blocked _ h => rw [show ((2 : Int), (1 : Int)).1 = 2 from rfl] at h; exact absurd (exA2.symm.trans h) (by decide)
    | none D _ _ hd h =>
      rw [exI5] at hd
      rw [exI0] at h
      have := hd.eq ex_d5
      subst this
      exact absurd h (by decide)
    | way D v _ _ hd _ _ ho =>
      rw [exI5] at hd
      have := hd.eq ex_d5
      subst this
      rw [exI0, ex_path] at ho
      rw [exI0]
      have hp := PsAt.any ho rfl
      rw [ex_ps] at hp
      obtain ⟨g, cap, rfl⟩ := own_some ho (by decide)
      exact ⟨g, cap, rfl, hp, hb⟩
theorem ex_path2 (p0 : Option Addr) (c0 b : Nat) (W : World) (hE : EnvT W) (hr : RowAt W (.slice p0 exM.cs.length c0) exM.cs) (hl : BitsAt W (.slice (some ⟨b, 0, none⟩) 1 1) [true]) :
    Calls Tryz.prog 28 #[.agg #[.int .i64 3, .int .i64 3, .slice p0 exM.cs.length c0], .slice (some ⟨b, 0, none⟩) 1 1, .int .i64 1, .agg #[.int .i64 0, .int .i64 0], .agg #[.int .i64 2, .int .i64 0]] W fun e w' =>
      e = .returned (.tuple #[.slice none 0 0, .int .i64 0, .int .i64 9]) ∧ Below W.heap.size W w' :=
  (aspath_b exM p0 exM.cs.length c0 [true] (some ⟨b, 0, none⟩) 1 1 1 0 0 2 0 W ⟨hE, exHigh, hr, hl⟩).mono fun e w' ⟨hb, h⟩ => by
    cases h with
    | arg h => rw [exA3] at h; cases h
    | blocked _ h => exact ⟨rfl, hb⟩
    | none D _ h => exact absurd (exA4.symm.trans h) (by decide)
    | way D v _ h => exact absurd (exA4.symm.trans h) (by decide)
theorem ex_cost1 (p0 : Option Addr) (c0 : Nat) (v : Value) (W : World) (hE : EnvT W) (hr : RowAt W (.slice p0 exM.cs.length c0) exM.cs) (hp : PsAt W v exL) :
    Calls Tryz.prog 29 #[.agg #[.int .i64 3, .int .i64 3, .slice p0 exM.cs.length c0], .slice none 0 0, .int .i64 1, v] W fun e w' => e = .returned (.tuple #[.int .i64 24, .int .i64 0]) ∧ Below W.heap.size W w' :=
  ascostw_b exM p0 exM.cs.length c0 [] none 0 0 1 exL v (24, 0) W ⟨hE, exHigh, hr, BitsAt.nilA W⟩ hp (by decide) (hid ex_cost.symm)
theorem ex_reach1 (p0 : Option Addr) (c0 : Nat) (W : World) (hE : EnvT W) (hr : RowAt W (.slice p0 exM.cs.length c0) exM.cs) :
    Calls Tryz.prog 41 #[.agg #[.int .i64 3, .int .i64 3, .slice p0 exM.cs.length c0], .slice none 0 0, .int .i64 1, .agg #[.int .i64 0, .int .i64 0]] W fun e w' => ∃ cb, e = .returned (.slice (some ⟨cb, 0, none⟩) 9 9) ∧ w'.cell? ⟨cb, 8, none⟩ = some (.int .i64 28) ∧ Below W.heap.size W w' :=
  (asreach_b exM p0 exM.cs.length c0 [] none 0 0 1 0 0 true 9 W ⟨hE, exHigh, hr, BitsAt.nilA W⟩ (hid exLen) (hid (by decide))).mono fun e w' h => by
    rcases h with ⟨h, _⟩ | ⟨_, cb, D, rfl, _, hB, hd, _, hb⟩
    · cases h
    · unfold Dst at hd
      rw [exI0, if_pos exA5] at hd
      have := hd.eq ex_d0
      subst this
      exact ⟨cb, rfl, hB.cell 8, hb⟩
end

end Go.Proofs.YtpgchjhfhndaaaaGreatDoor
