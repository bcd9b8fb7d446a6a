/-
  shadow as landed at 4bd78af: Visible.
-/
import Derived.Test.YtlcbkeieejmmbaaDoorShI
import Derived.Laws.EntriesVeiled
import Derived.Laws.MakeOwn
namespace Go.Proofs.YtlcbkeieejmmbaaDoor
open Go.RowKit Go.Lib

theorem infoBoo : (Tryd.prog.info? 4).map (fun i => (i.zero, i.size, i.bytes)) = some (some (.bool false), 1, 1) := by kernel_rfl
theorem BitsAt.own {w : World} {B g cap : Nat} {l : List Bool} (h : w.ownsRow B 4 1 (.slice (some ⟨g, 0, none⟩) l.length cap) l.length (l.map .bool)) (hm : l.length ≤ maxLen) : BitsAt w (.slice (some ⟨g, 0, none⟩) l.length cap) l := by
  refine ⟨_, _, rfl, hm, fun _ => ⟨g, 0, rfl, fun i hi => ?_⟩⟩
  rw [Nat.zero_add, h.cellAt i (by omega), List.getElem?_map, List.getElem?_eq_getElem hi]
  rfl
theorem BitsAt.nil9 (W : World) : BitsAt W (.slice none 0 0) [] := ⟨none, 0, rfl, Nat.zero_le _, fun h => by simp at h⟩
/-- What the octants before one of them show. -/
def Upto (m : M3) (x y R : Int) (high : Bool) (i n : Nat) : Prop := ∃ k, k < i ∧ Octs m x y (eight.getD k (0, 0, 0, 0)).1 (eight.getD k (0, 0, 0, 0)).2.1 (eight.getD k (0, 0, 0, 0)).2.2.1 (eight.getD k (0, 0, 0, 0)).2.2.2 R high n
theorem upto_next {m : M3} {x y R : Int} {high : Bool} {i n : Nat} : Upto m x y R high (i + 1) n ↔ Upto m x y R high i n ∨ Octs m x y (eight.getD i (0, 0, 0, 0)).1 (eight.getD i (0, 0, 0, 0)).2.1 (eight.getD i (0, 0, 0, 0)).2.2.1 (eight.getD i (0, 0, 0, 0)).2.2.2 R high n := by
  constructor
  · rintro ⟨k, hk, h⟩
    by_cases e : k = i
    · subst e; exact .inr h
    · exact .inl ⟨k, by omega, h⟩
  · rintro (⟨k, hk, h⟩ | h)
    · exact ⟨k, by omega, h⟩
    · exact ⟨i, by omega, h⟩
theorem upto_all {m : M3} {x y R : Int} {high : Bool} {n : Nat} : Upto m x y R high 8 n ↔ ∃ o ∈ eight, Octs m x y o.1 o.2.1 o.2.2.1 o.2.2.2 R high n := by
  constructor
  · rintro ⟨k, hk, h⟩
    exact ⟨_, eight_mem k hk, h⟩
  · rintro ⟨o, ho, h⟩
    obtain ⟨k, hk, rfl⟩ := eight_is ho
    exact ⟨k, hk, h⟩
theorem false_at {k n : Nat} (h : n < (List.replicate k false).length) : (List.replicate k false)[n]'h = true ↔ False := by rw [List.getElem_replicate]; simp

theorem shshow_n (m : M3) (s : Value) (o : Int × Int × Int × Int) (f g R : Int) (high : Bool) (p q r G cap N : Nat) (L : List Bool) (W0 W : World) (hE : EnvP W0) (hr : RowAt W0 s m.cs) (h0 : Below W0.heap.size W0 W) (hP : PlaceB W p q r f g o.1 o.2.1 o.2.2.1 o.2.2.2) (ho : o ∈ eight) (hf : formedv m = true) (hi : inv m.w m.h f g = true) (hR0 : 0 ≤ R) (hR1 : R ≤ 32)
    (hN : L.length = N) (hL : N = m.cs.length) (hown : W.ownsRow W0.heap.size 4 1 (.slice (some ⟨G, 0, none⟩) N cap) N (L.map .bool)) :
    Calls Tryd.prog 39 #[.agg #[.int .i64 m.w, .int .i64 m.h, s], plc p q r, .int .i64 R, .bool high, .slice (some ⟨G, 0, none⟩) N cap] W fun e w' => e = .returned (.tuple #[]) ∧ ∃ M : List Bool, Hid (M.length = N) ∧ w'.ownsRow W0.heap.size 4 1 (.slice (some ⟨G, 0, none⟩) N cap) N (M.map .bool) ∧ KeepT 4 W w' ∧ Below W0.heap.size W0 w' ∧ Hid (∀ n, (h : n < M.length) → (h' : n < L.length) → (M[n]'h = true ↔ L[n]'h' = true ∨ Octs m f g o.1 o.2.1 o.2.2.1 o.2.2.2 R high n)) := by
  subst hN
  exact (shshow_b m s o f g R high p q r G cap L W0 W hE hr h0 hP ho hf hi hR0 hR1 hL hown).mono fun e w' ⟨he, M, h1, h2, h3, h4, h5⟩ => ⟨he, M, hid h1, h2, h3, h4, h5⟩
set_option maxRecDepth 100000 in
set_option maxHeartbeats 8000000 in
theorem shvisible_b (m : M3) (s : Value) (x y r : Int) (high : Bool) (W : World) (hE : EnvT W) (hr : RowAt W s m.cs) :
    Calls Tryd.prog 16 #[.agg #[.int .i64 m.w, .int .i64 m.h, s], .agg #[.int .i64 x, .int .i64 y], .int .i64 r, .bool high] W fun e w' => ∃ v, e = .returned v ∧ BitsAt w' v (visv m x y r high) ∧ Below W.heap.size W w' := by
  obtain ⟨o, ho⟩ : ∃ o, Hid (o = (validm m && alliv m.w m.h [(x, y)])) := ⟨_, hid rfl⟩
  have hF := Held2.start W [.int .i64 m.w, .int .i64 m.h, s] [.int .i64 x, .int .i64 y] 24 26
  have ci := fun (w : World) (g : Nat) (hb : Below W.heap.size W w) (hG : Blk w g (pcells [(x, y)]) 26) => shinside_b m s [(x, y)] g 1 1 26 o w (hr.below hb) hG rfl (by decide) ho
  have hal : alliv m.w m.h [(x, y)] = inv m.w m.h x y := by unfold alliv; simp
  obtain ⟨_, _, _, _, _, _⟩ := hF.l.three
  obtain ⟨_, _, _, _⟩ := hF.r.two
  have hsh := hr
  obtain ⟨p0, c0, rfl, hmx, -⟩ := hsh
  have no : ∀ (h : ¬ (validm m = true ∧ inv m.w m.h x y = true ∧ 0 ≤ r)) (w' : World), BitsAt w' (.slice none 0 0) (visv m x y r high) := fun h w' => by
    have e : visv m x y r high = [] := by unfold visv; rw [if_neg h]
    rw [e]
    exact BitsAt.nil9 w'
  cases o with
  | false =>
    have hn : ¬ (validm m = true ∧ inv m.w m.h x y = true ∧ 0 ≤ r) := fun h => by
      have := ho.out
      rw [hal, h.1, h.2.1] at this
      cases this
    replace no := no hn
    clear ho hal hn
    go_enter Tryd.func16, Tryd.ntmps16
    go_upto_region 1 with fail
    generalize (W.alloc (.cells [Value.int .i64 m.w, .int .i64 m.h, .slice p0 m.cs.length c0].toArray 24)).alloc (.cells [Value.int .i64 x, .int .i64 y].toArray 26) = X at *
    have hN := Blk.new X (pcells [(x, y)]) 26
    have hX := (Below.refl X.heap.size X).alloc (Nat.le_refl _) (.cells (pcells [(x, y)]).toArray 26)
    go_wp2_with (go_at_call 26; refine (ci _ X.heap.size (below_call hF.old hX) hN).mono ?_; rintro e w1 ⟨rfl, hb⟩)
    go_ret
    exact ⟨_, rfl, no _, below_call hF.old (below_call hX hb)⟩
  | true =>
    have hvi := ho.out.symm
    rw [hal, Bool.and_eq_true] at hvi
    obtain ⟨hv, hi⟩ := hvi
    by_cases hr0 : r < 0
    · have z1 : decide (r < 0) = true := decide_eq_true hr0
      replace no := no (fun h => by omega)
      clear ho hal hv hi
      go_enter Tryd.func16, Tryd.ntmps16
      go_upto_region 1 with fail
      generalize (W.alloc (.cells [Value.int .i64 m.w, .int .i64 m.h, .slice p0 m.cs.length c0].toArray 24)).alloc (.cells [Value.int .i64 x, .int .i64 y].toArray 26) = X at *
      have hN := Blk.new X (pcells [(x, y)]) 26
      have hX := (Below.refl X.heap.size X).alloc (Nat.le_refl _) (.cells (pcells [(x, y)]).toArray 26)
      go_wp2_with (go_at_call 26; refine (ci _ X.heap.size (below_call hF.old hX) hN).mono ?_; rintro e w1 ⟨rfl, hb⟩)
      go_ret
      exact ⟨_, rfl, no _, below_call hF.old (below_call hX hb)⟩
    · have z1 : decide (r < 0) = false := decide_eq_false hr0
      clear no ho hal
      have hfm := formed_of hv
      have hlm : m.cs.length ≤ 1024 := by
        obtain ⟨X, Y, _, _, _, x2, _, y2, hl, _⟩ := formed_num hfm
        rw [hl]
        exact Nat.mul_le_mul x2 y2
      obtain ⟨R, hR⟩ : ∃ R, R = min r 32 := ⟨_, rfl⟩
      have hfin := fun (M : List Bool) (h : M.length = m.cs.length) (h2 : ∀ n, (hn : n < M.length) → (M[n]'hn = true ↔ ∃ o ∈ eight, Octs m x y o.1 o.2.1 o.2.2.1 o.2.2.2 R high n)) => vis_of hv hi (show 0 ≤ r by omega) h (by rw [← hR]; exact h2)
      have hR0 : 0 ≤ R := by omega
      have hR1 : R ≤ 32 := by omega
      have cw := fun (i : Nat) (h8 : i < 8) (p q k G cap : Nat) (M : List Bool) (w : World) (h0 : Below W.heap.size W w) (hP : PlaceB w p q k x y (eight.getD i (0, 0, 0, 0)).1 (eight.getD i (0, 0, 0, 0)).2.1 (eight.getD i (0, 0, 0, 0)).2.2.1 (eight.getD i (0, 0, 0, 0)).2.2.2) (hM : M.length = m.cs.length) (hown : w.ownsRow W.heap.size 4 1 (.slice (some ⟨G, 0, none⟩) m.cs.length cap) m.cs.length (M.map .bool)) => shshow_n m (.slice p0 m.cs.length c0) (eight.getD i (0, 0, 0, 0)) x y R high p q k G cap m.cs.length M W w hE.p hr h0 hP (eight_mem i h8) hfm hi hR0 hR1 hM rfl hown
      have co := fun (w : World) (h0 : Below W.heap.size W w) => shoctants_b x y w (hE.g.keep h0)
      clear hE hr hv hi hfm hR0 hR1 hr0
      go_enter Tryd.func16, Tryd.ntmps16
      go_upto_region 1 with fail
      generalize (W.alloc (.cells [Value.int .i64 m.w, .int .i64 m.h, .slice p0 m.cs.length c0].toArray 24)).alloc (.cells [Value.int .i64 x, .int .i64 y].toArray 26) = X at *
      have hN := Blk.new X (pcells [(x, y)]) 26
      have hX := (Below.refl X.heap.size X).alloc (Nat.le_refl _) (.cells (pcells [(x, y)]).toArray 26)
      go_upto_region 3 with (go_at_call 26; refine (ci _ X.heap.size (below_call hF.old hX) hN).mono ?_; rintro e w1 ⟨rfl, hb⟩)
      replace hF := hF.call (below_call hX hb)
      clear hN hX hb ci
      obtain ⟨i0, hi0, hz0, hz1, hz2⟩ := info_cut infoBoo
      obtain ⟨w2, hmk, hown, hg2⟩ := run_make_full w1 W.heap.size 33 4 i0 (.bool false) 1 Tryd.underlying33 hi0 hz0 hz1 .i64 .i64 m.cs.length (by rw [hz2]; omega) (by unfold maxLen; omega) hF.old.size
      have hb2 : Below w1.heap.size w1 w2 := (Below.refl w1.heap.size w1).grown hg2 (Nat.le_refl _) (fun k h => by cases h)
      obtain ⟨_, _, _, _, _, _⟩ := hF.l.three
      have hF2 := hF.call hb2
      replace hown := own_to hown (m := m.cs.length) (ys := (List.replicate m.cs.length false).map .bool) rfl (by rw [Nat.mul_one, List.map_replicate]; exact toList_madeCells_one (.bool false) m.cs.length)
      obtain ⟨_, _, _, _⟩ := hF2.r.two
      clear hg2 hi0 hz0 hz1 hz2
      go_upto_region 4 with fail
      clear hmk hF hb2
      generalize w1.heap.size = G at *
      go_wp2_with (go_at_call 38; with_reducible refine (co _ hF2.old).mono ?_; rintro e w3 ⟨so, ps, rfl, hps, hown8, h8, hb⟩; replace hF2 := hF2.call hb; replace hown := own_below hown hb; clear hb co; obtain ⟨g8, c8, rfl⟩ := own_some hown8 (by decide))
      have hown9 := own_base hown8 (Nat.zero_le _)
      clear hown8
      go_loopw [28] (fun vi wr => ∃ (i : Nat) (M : List Bool), vi = .int .i64 i ∧ i ≤ 8 ∧ Hid (M.length = m.cs.length) ∧ wr.ownsRow W.heap.size 4 1 (.slice (some ⟨G, 0, none⟩) m.cs.length m.cs.length) m.cs.length (M.map .bool) ∧ wr.ownsRow 0 56 1 (.slice (some ⟨g8, 0, none⟩) 8 c8) 8 (ps.map plv) ∧ EightAt wr x y ps ∧ Held2 W wr W.heap.size (W.heap.size + 1) [.int .i64 m.w, .int .i64 m.h, .slice p0 m.cs.length c0] [.int .i64 x, .int .i64 y] 24 26 ∧ Hid (∀ n, (hn : n < M.length) → (M[n]'hn = true ↔ Upto m x y R high i n))) (fun vi _ => 8 - (RowKit.intOf vi).toNat)
      case atStart => exact ⟨0, List.replicate m.cs.length false, rfl, by omega, hid (List.length_replicate), hown, hown9, h8, hF2, hid (fun n hn => by rw [false_at]; exact ⟨False.elim, fun ⟨k, hk, _⟩ => by omega⟩)⟩
      case round =>
        clear hown hown9 h8 hF2
        obtain ⟨i, M, rfl, hi, hml, hown, hown9, h8, hF2, hU⟩ := hrel
        by_cases hlt : i < 8
        · have z2 : decide ((i : Int) < 8) = true := decide_eq_true (by omega)
          have k0 : (0 : Int) ≤ i := by omega
          have k1 : (i : Int) < 8 := by omega
          have hcell := (hown9.cellAt i (by omega)).trans (show (ps.map plv)[i]? = some (plv (ps[i]'(by omega))) by rw [List.getElem?_map, List.getElem?_eq_getElem (by omega)]; rfl)
          have hPi := h8 i (by omega)
          obtain ⟨t, ht⟩ : ∃ t, ps[i]'(by omega) = t := ⟨_, rfl⟩
          rw [ht] at hcell hPi
          obtain ⟨p, q, k⟩ := t
          have cs := cw i hlt p q k G m.cs.length M wr hF2.old hPi hml.out hown
          clear ht cw
          have eR : min r 32 = R := hR.symm
          obtain ⟨_, _, _, _, _, _⟩ := hF2.l.three
          unfold plv at hcell
          dsimp only at hcell
          clear hR hPi
          go_wp2_with (go_at_call 39; with_reducible refine cs.mono ?_; rintro e w4 ⟨rfl, M2, hm2, hown2, hK, hB, hS⟩)
          replace hown9 := hK.own (by decide) hown9
          replace h8 := h8.kept hK (by decide)
          have hF3 : Held2 W w4 W.heap.size (W.heap.size + 1) [.int .i64 m.w, .int .i64 m.h, .slice p0 m.cs.length c0] [.int .i64 x, .int .i64 y] 24 26 := ⟨hK.block _ _ _ (by decide) hF2.l, hK.block _ _ _ (by decide) hF2.r, hB⟩
          have hU2 := hid (show ∀ n, (hn : n < M2.length) → (M2[n]'hn = true ↔ Upto m x y R high (i + 1) n) from fun n hn => by
            have h' : n < M.length := by have := hm2.out; have := hml.out; omega
            rw [hS.out n hn h', hU.out n h', upto_next])
          clear hU hS eR
          go_roundw
          case rel => exact ⟨i + 1, M2, by go_num, by omega, hm2, hown2, hown9, h8, hF3, hU2⟩
          case measure => simp [RowKit.intOf]; omega
        · obtain rfl : i = 8 := by omega
          have hV := hid (hfin M hml.out (fun n hn => by rw [hU.out n hn, upto_all]))
          have hBA : BitsAt wr (.slice (some ⟨G, 0, none⟩) m.cs.length m.cs.length) M := by
            have h1 := hml.out
            have h2 := BitsAt.own (g := G) (cap := m.cs.length) (l := M) (by rw [h1]; exact hown) (by unfold maxLen; omega)
            rw [h1] at h2
            exact h2
          rw [hV.out] at hBA
          have hold := hF2.old
          clear hU hfin hF2 hR
          go_wp2_with fail
          go_ret
          exact ⟨_, rfl, hBA, hold⟩

end Go.Proofs.YtlcbkeieejmmbaaDoor
