/-
  shadow as landed at 4bd78af: an octant's cells are marked.
-/
import Derived.Test.YtlcbkeieejmmbaaDoorShH
namespace Go.Proofs.YtlcbkeieejmmbaaDoor
open Go.RowKit Go.Lib

/-- All blocks stay but those of one type. -/
structure KeepT (e : TypeId) (w w' : World) : Prop where
  size : w.heap.size ≤ w'.heap.size
  block : ∀ b vs t, t ≠ e → Blk w b vs t → Blk w' b vs t
theorem KeepT.refl (e : TypeId) (w : World) : KeepT e w w := ⟨Nat.le_refl _, fun _ _ _ _ h => h⟩
theorem KeepT.trans {e : TypeId} {w v u : World} (h : KeepT e w v) (k : KeepT e v u) : KeepT e w u := ⟨Nat.le_trans h.size k.size, fun b vs t ne hb => k.block b vs t ne (h.block b vs t ne hb)⟩
theorem KeepT.below {e : TypeId} {w w' : World} (hb : Below w.heap.size w w') : KeepT e w w' := ⟨hb.size, fun _ _ _ _ h => h.below hb⟩
theorem own_ne {w : World} {B k n g cap : Nat} {e t : TypeId} {xs vs : List Value} {b : Nat} (hown : w.ownsRow B e k (.slice (some ⟨g, 0, none⟩) n cap) n xs) (h : Blk w b vs t) (ne : t ≠ e) : b ≠ g := by
  rintro rfl
  rcases hown.2 with ⟨h', _⟩ | ⟨g', cap', cur, h', _, hg, _⟩
  · simp at h'
  · simp only [Value.slice.injEq, Option.some.injEq, Addr.mk.injEq, and_true, true_and] at h'
    obtain ⟨rfl, rfl⟩ := h'
    unfold Blk at h
    rw [h] at hg
    injection hg with e3
    injection e3 with _ e4
    exact ne e4
theorem KeepT.store {w : World} {B k n g cap : Nat} {e : TypeId} {xs : List Value} (hown : w.ownsRow B e k (.slice (some ⟨g, 0, none⟩) n cap) n xs) (i : Nat) (x : Value) : KeepT e w (w.setCell ⟨g, i, none⟩ x) :=
  ⟨by simp, fun b vs t ne h => h.other _ x (own_ne hown h ne)⟩
theorem KeepT.own {e t : TypeId} {w w' : World} (h : KeepT e w w') (ne : t ≠ e) {B k n : Nat} {v : Value} {xs : List Value} (hown : w.ownsRow B t k v n xs) : w'.ownsRow B t k v n xs := by
  refine ⟨hown.1, ?_⟩
  rcases hown.2 with hn | ⟨g, cap, cur, rfl, hB, hgg, rest⟩
  · exact .inl hn
  · refine .inr ⟨g, cap, cur, rfl, hB, ?_, rest⟩
    have := h.block g cur.toList t ne (by unfold Blk; rw [Array.toArray_toList]; exact hgg)
    unfold Blk at this
    rw [Array.toArray_toList] at this
    exact this
theorem PlaceB.kept {e : TypeId} {w w' : World} (h : KeepT e w w') (ne : 26 ≠ e) {p q r : Nat} {f g a b c d : Int} (hP : PlaceB w p q r f g a b c d) : PlaceB w' p q r f g a b c d := ⟨h.block _ _ _ ne hP.p, h.block _ _ _ ne hP.q, h.block _ _ _ ne hP.r⟩
theorem EightAt.kept {e : TypeId} {w w' : World} (h : KeepT e w w') (ne : 26 ≠ e) {x y : Int} {ps : List (Nat × Nat × Nat)} (hP : EightAt w x y ps) : EightAt w' x y ps := fun i hi => PlaceB.kept h ne (hP i hi)

/-- What a cell of an octant shows; what those before (i, j) show. -/
def One (m : M3) (f g a b c d R : Int) (high : Bool) (s t : Int) (n : Nat) : Prop :=
  s * s + t * t ≤ R * R ∧ inv m.w m.h (f + s * a + t * c) (g + s * b + t * d) = true ∧ (high || seesv m f g (f + s * a + t * c) (g + s * b + t * d)) = true ∧ indexv m.w (f + s * a + t * c) (g + s * b + t * d) = n
def Pre (m : M3) (f g a b c d R : Int) (high : Bool) (i j : Int) (n : Nat) : Prop := ∃ s t : Int, 0 ≤ t ∧ t ≤ s ∧ (s < i ∨ (s = i ∧ t < j)) ∧ One m f g a b c d R high s t n
section
variable {m : M3} {f g a b c d R : Int} {high : Bool} {n : Nat}
theorem pre_zero : ¬ Pre m f g a b c d R high 0 0 n := by rintro ⟨s, t, h1, h2, h3, -⟩; omega
theorem pre_next {i j : Int} (h0 : 0 ≤ j) (h1 : j ≤ i) : Pre m f g a b c d R high i (j + 1) n ↔ Pre m f g a b c d R high i j n ∨ One m f g a b c d R high i j n := by
  constructor
  · rintro ⟨s, t, t0, ts, h, hO⟩
    by_cases e : s = i ∧ t = j
    · obtain ⟨rfl, rfl⟩ := e; exact .inr hO
    · exact .inl ⟨s, t, t0, ts, by omega, hO⟩
  · rintro (⟨s, t, t0, ts, h, hO⟩ | hO)
    · exact ⟨s, t, t0, ts, by omega, hO⟩
    · exact ⟨i, j, h0, h1, by omega, hO⟩
theorem pre_row {i : Int} : Pre m f g a b c d R high i (i + 1) n ↔ Pre m f g a b c d R high (i + 1) 0 n := by
  constructor
  · rintro ⟨s, t, t0, ts, h, hO⟩; exact ⟨s, t, t0, ts, by omega, hO⟩
  · rintro ⟨s, t, t0, ts, h, hO⟩; exact ⟨s, t, t0, ts, by omega, hO⟩
theorem pre_end : Pre m f g a b c d R high (R + 1) 0 n ↔ Octs m f g a b c d R high n := by
  constructor
  · rintro ⟨s, t, t0, ts, h, h1, h2, h3, h4⟩; exact ⟨s, t, t0, ts, by omega, h1, h2, h3, h4⟩
  · rintro ⟨s, t, t0, ts, h, h1, h2, h3, h4⟩; exact ⟨s, t, t0, ts, by omega, h1, h2, h3, h4⟩
end
/-- The list after the cells before (i, j), of a list L. -/
def Shown (m : M3) (f g a b c d R : Int) (high : Bool) (i j : Int) (L M : List Bool) : Prop := M.length = L.length ∧ ∀ n, (h : n < M.length) → (h' : n < L.length) → (M[n]'h = true ↔ L[n]'h' = true ∨ Pre m f g a b c d R high i j n)
section
variable {m : M3} {f g a b c d R : Int} {high : Bool} {L M : List Bool}
theorem shown_start : Shown m f g a b c d R high 0 0 L L := ⟨rfl, fun _n _h _h' => ⟨.inl, fun e => e.elim id fun e => (pre_zero e).elim⟩⟩
theorem shown_row {i : Int} (h : Shown m f g a b c d R high i (i + 1) L M) : Shown m f g a b c d R high (i + 1) 0 L M := ⟨h.1, fun n h1 h2 => by rw [h.2 n h1 h2, pre_row]⟩
theorem shown_skip {i j : Int} (h : Shown m f g a b c d R high i j L M) (h0 : 0 ≤ j) (h1 : j ≤ i) (hn : ∀ n, ¬ One m f g a b c d R high i j n) : Shown m f g a b c d R high i (j + 1) L M :=
  ⟨h.1, fun n h2 h3 => by rw [h.2 n h2 h3, pre_next h0 h1]; exact ⟨fun e => e.imp_right .inl, fun e => e.imp_right fun e => e.elim id fun e => (hn n e).elim⟩⟩
theorem shown_set {i j : Int} {k : Nat} (h : Shown m f g a b c d R high i j L M) (h0 : 0 ≤ j) (h1 : j ≤ i) (hk : One m f g a b c d R high i j k) : Shown m f g a b c d R high i (j + 1) L (M.set k true) := by
  refine ⟨by rw [List.length_set]; exact h.1, fun n h2 h3 => ?_⟩
  have h2' := h2
  rw [List.length_set] at h2'
  rw [pre_next h0 h1, List.getElem_set]
  by_cases e : k = n
  · subst e
    rw [if_pos rfl]
    exact ⟨fun _ => .inr (.inr hk), fun _ => rfl⟩
  · rw [if_neg e, h.2 n h2' h3]
    refine ⟨fun q => q.imp_right .inl, fun q => q.imp_right fun q => q.elim id fun q => ?_⟩
    exfalso
    have e1 := hk.2.2.2
    have e2 := q.2.2.2
    omega
end
theorem bools_set (l : List Bool) (k : Nat) (b : Bool) : (l.map Value.bool).set k (.bool b) = (l.set k b).map Value.bool := by rw [List.map_set]

set_option maxRecDepth 100000 in
set_option maxHeartbeats 16000000 in
theorem shshow_b (m : M3) (s : Value) (o : Int × Int × Int × Int) (f g R : Int) (high : Bool) (p q r G cap : Nat) (L : List Bool) (W0 W : World) (hE : EnvP W0) (hr : RowAt W0 s m.cs) (h0 : Below W0.heap.size W0 W) (hP : PlaceB W p q r f g o.1 o.2.1 o.2.2.1 o.2.2.2) (ho : o ∈ eight) (hf : formedv m = true) (hi : inv m.w m.h f g = true) (hR0 : 0 ≤ R) (hR1 : R ≤ 32)
    (hL : L.length = m.cs.length) (hown : W.ownsRow W0.heap.size 4 1 (.slice (some ⟨G, 0, none⟩) L.length cap) L.length (L.map .bool)) :
    Calls Tryd.prog 39 #[.agg #[.int .i64 m.w, .int .i64 m.h, s], plc p q r, .int .i64 R, .bool high, .slice (some ⟨G, 0, none⟩) L.length cap] W fun e w' => e = .returned (.tuple #[]) ∧ ∃ M : List Bool, M.length = L.length ∧ w'.ownsRow W0.heap.size 4 1 (.slice (some ⟨G, 0, none⟩) L.length cap) L.length (M.map .bool) ∧ KeepT 4 W w' ∧ Below W0.heap.size W0 w' ∧ Hid (∀ n, (h : n < M.length) → (h' : n < L.length) → (M[n]'h = true ↔ L[n]'h' = true ∨ Octs m f g o.1 o.2.1 o.2.2.1 o.2.2.2 R high n)) := by
  obtain ⟨a, b, c, d⟩ := o
  have hun := eight_unit ho
  have hor := fun x y => eight_ori ho x y
  dsimp only at hP hun hor ⊢
  have bd : Sm a ∧ Sm b ∧ Sm c ∧ Sm d := by unfold Sm; omega
  obtain ⟨sa, sb, sc, sd⟩ := bd
  obtain ⟨bf, sf, sg⟩ := inv_sm hf hi
  have hlm : L.length ≤ 1024 := by
    obtain ⟨X, Y, _, _, _, x2, _, y2, hl, _⟩ := formed_num hf
    rw [hL, hl]
    exact Nat.mul_le_mul x2 y2
  have hm0 := hid hL
  clear ho hun hL
  have eg := eg_place
  have wR : IntKind.i64.wrap (R + 1) = R + 1 := IntWalk.i64_in _ (by omega)
  have bR : 0 ≤ R * R ∧ R * R ≤ 1024 := ⟨Int.mul_nonneg hR0 hR0, Int.mul_le_mul hR1 hR1 hR0 (by omega)⟩
  have wRR : IntKind.i64.wrap (R * R) = R * R := IntWalk.i64_in _ (by omega)
  have hM := Blk.new W [.int .i64 m.w, .int .i64 m.h, s] 24
  have hA := (Below.refl W.heap.size W).alloc (Nat.le_refl _) (.cells [Value.int .i64 m.w, .int .i64 m.h, s].toArray 24)
  have hV0 := below_call h0 hA
  have hK := KeepT.below (e := 4) hA
  replace hP := hP.below hA
  replace hown := own_below hown hA
  have hsh := hid (shown_start (m := m) (f := f) (g := g) (a := a) (b := b) (c := c) (d := d) (R := R) (high := high) (L := L))
  have cpl := fun (i j : Int) (w : World) (h : PlaceB w p q r f g a b c d) (hi : Sm i) (hj : Sm j) => shplace_b i j f g a b c d p q r w h hi hj sf sg sa sb sc sd
  have cub := fun (i j : Int) (z : Bool) (w : World) (h0 : Below W0.heap.size W0 w) (h : PlaceB w p q r f g a b c d) (hO : OctAt m f g a b c d i j) (hz : Hid (z = seesv m f g (f + i * a + j * c) (g + i * b + j * d))) => shunb_b m s i j f g a b c d p q r z w (hE.keep h0) (hr.below h0) h hO hz
  unfold plc at cub ⊢
  clear hA h0 hE hr
  go_enter Tryd.func39, Tryd.ntmps39
  go_wp2_with fail
  have kW : W.heap.size < (W.alloc (.cells [Value.int .i64 m.w, .int .i64 m.h, s].toArray 24)).heap.size := hM.lt
  generalize W.alloc (.cells [Value.int .i64 m.w, .int .i64 m.h, s].toArray 24) = V at *
  go_loopw [15] (fun vi wr => ∃ (i : Int) (M : List Bool), vi = .int .i64 i ∧ 0 ≤ i ∧ i ≤ R + 1 ∧ wr.ownsRow W0.heap.size 4 1 (.slice (some ⟨G, 0, none⟩) L.length cap) L.length (M.map .bool) ∧ PlaceB wr p q r f g a b c d ∧ Blk wr W.heap.size [.int .i64 m.w, .int .i64 m.h, s] 24 ∧ KeepT 4 W wr ∧ Below W0.heap.size W0 wr ∧ Hid (Shown m f g a b c d R high i 0 L M)) (fun vi _ => (R + 1 - RowKit.intOf vi).toNat)
  case atStart => exact ⟨0, L, rfl, by omega, by omega, hown, hP, hM, hK, hV0, hsh⟩
  case round =>
    clear hown hP hM hK hV0 hsh
    obtain ⟨i, M, rfl, i0, i1, hown, hP, hM, hK, hB, hS⟩ := hrel
    by_cases hlt : i < R + 1
    · have z1 : decide (i < R + 1) = true := decide_eq_true hlt
      have w1 : IntKind.i64.wrap (i + 1) = i + 1 := IntWalk.i64_in _ (by omega)
      go_wp2_with fail
      go_loopw [20] (fun vj wr => ∃ (j : Int) (M : List Bool), vj = .int .i64 j ∧ 0 ≤ j ∧ j ≤ i + 1 ∧ wr.ownsRow W0.heap.size 4 1 (.slice (some ⟨G, 0, none⟩) L.length cap) L.length (M.map .bool) ∧ PlaceB wr p q r f g a b c d ∧ Blk wr W.heap.size [.int .i64 m.w, .int .i64 m.h, s] 24 ∧ KeepT 4 W wr ∧ Below W0.heap.size W0 wr ∧ Hid (Shown m f g a b c d R high i j L M)) (fun vj _ => (i + 1 - RowKit.intOf vj).toNat)
      case atStart => exact ⟨0, M, rfl, by omega, by omega, hown, hP, hM, hK, hB, hS⟩
      case round =>
        clear hown hP hM hK hB hS
        obtain ⟨j, M, rfl, j0, j1, hown, hP, hM, hK, hB, hS⟩ := hrel
        by_cases hlt2 : j < i + 1
        · have z2 : decide (j < i + 1) = true := decide_eq_true hlt2
          have w2 : IntKind.i64.wrap (j + 1) = j + 1 := IntWalk.i64_in _ (by omega)
          have si : Sm i := by unfold Sm; omega
          have sj : Sm j := by unfold Sm; omega
          have b1 : 0 ≤ i * i ∧ i * i ≤ 1024 := ⟨Int.mul_nonneg i0 i0, Int.mul_le_mul (show i ≤ 32 by omega) (show i ≤ 32 by omega) i0 (by omega)⟩
          have b2 : 0 ≤ j * j ∧ j * j ≤ 1024 := ⟨Int.mul_nonneg j0 j0, Int.mul_le_mul (show j ≤ 32 by omega) (show j ≤ 32 by omega) j0 (by omega)⟩
          have w3 : IntKind.i64.wrap (i * i) = i * i := IntWalk.i64_in _ (by omega)
          have w4 : IntKind.i64.wrap (j * j) = j * j := IntWalk.i64_in _ (by omega)
          have w5 : IntKind.i64.wrap (i * i + j * j) = i * i + j * j := IntWalk.i64_in _ (by omega)
          have cp := fun (w : World) (h : PlaceB w p q r f g a b c d) => cpl i j w h si sj
          obtain ⟨u, hu⟩ : ∃ u, Hid (f + i * a + j * c = u) := ⟨_, hid rfl⟩
          obtain ⟨v, hv⟩ : ∃ v, Hid (g + i * b + j * d = v) := ⟨_, hid rfl⟩
          rw [hu.out, hv.out] at cp
          obtain ⟨d1, hd1⟩ : ∃ t, Hid (t = decide (i * i + j * j ≤ R * R)) := ⟨_, hid rfl⟩
          obtain ⟨n1, hn1⟩ : ∃ t, Hid (t = inv m.w m.h u v) := ⟨_, hid rfl⟩
          obtain ⟨x1, hx1⟩ : ∃ t, Hid (t = seesv m f g u v) := ⟨_, hid rfl⟩
          have cin := fun (w : World) => din_b m.w m.h u v n1 w hn1
          have hskip := fun (h : (d1 && n1 && (high || x1)) = false) => hid (shown_skip hS.out j0 (by omega) (fun n hO => by
            obtain ⟨o1, o2, o3, -⟩ := hO
            rw [hu.out, hv.out, ← hn1.out] at o2
            rw [hu.out, hv.out, ← hx1.out] at o3
            rw [hd1.out, decide_eq_true o1, o2, o3] at h
            cases h))
          have d9 := hd1.out.symm
          clear cpl
          go_upto_region 8 with (go_at_fn 56; with_reducible refine (cp _ hP).mono ?_; rintro e w6 ⟨rfl, hb⟩)
          replace hown := own_below hown hb
          replace hP := hP.below hb
          replace hM := hM.below hb
          replace hK := hK.trans (.below hb)
          replace hB := below_call hB hb
          clear hb
          have hX0 := (Below.refl w6.heap.size w6).alloc (Nat.le_refl _) (.cells [Value.int .i64 u, .int .i64 v].toArray 26)
          have hC := Blk.new w6 [.int .i64 u, .int .i64 v] 26
          replace hown := own_below hown hX0
          replace hP := hP.below hX0
          replace hM := hM.below hX0
          replace hK := hK.trans (.below hX0)
          replace hB := below_call hB hX0
          clear hX0
          generalize w6.alloc (.cells [Value.int .i64 u, .int .i64 v].toArray 26) = X at *
          generalize w6.heap.size = n at *
          obtain ⟨_, _, _, _, _, _⟩ := hM.three
          obtain ⟨_, _, _, _⟩ := hC.two
          cases d1 with
          | false =>
            clear hd1 hn1 hx1 cub
            go_wp2_with fail
            go_roundw
            case rel => exact ⟨j + 1, M, by go_num, by omega, by omega, hown, hP, hM, hK, hB, hskip rfl⟩
            case measure => simp [RowKit.intOf]; omega
          | true =>
            cases n1 with
            | false =>
              clear hd1 hn1 hx1 cub
              go_wp2_with (go_at_call 49; with_reducible refine (cin _).mono ?_; rintro e w7 ⟨rfl, hb⟩; replace hown := own_below hown hb; replace hP := hP.below hb; replace hM := hM.below hb; replace hC := hC.below hb; replace hK := hK.trans (.below hb); replace hB := below_call hB hb; clear hb; obtain ⟨_, _, _, _, _, _⟩ := hM.three; obtain ⟨_, _, _, _⟩ := hC.two)
              go_roundw
              case rel => exact ⟨j + 1, M, by go_num, by omega, by omega, hown, hP, hM, hK, hB, hskip rfl⟩
              case measure => simp [RowKit.intOf]; omega
            | true =>
              have hins : Hid (true = insidev m u v) := hid (by unfold insidev; rw [hf, ← hn1.out]; rfl)
              have hO4 : OctAt m f g a b c d i j := ⟨hor i j, j0, by omega, by omega, sf, sg, sa, sb, sc, sd, hf, hi, by rw [hu.out, hv.out]; exact hn1.out.symm⟩
              cases high with
              | true =>
                obtain ⟨k, hk, hix, -⟩ := get_at hins.out.symm
                have cix := fun (w : World) => dindex_b m.w u v k w hix
                have hO : One m f g a b c d R true i j k := ⟨of_decide_eq_true d9, by rw [hu.out, hv.out]; exact hn1.out.symm, by rfl, by rw [hu.out, hv.out]; exact hix.out.symm⟩
                have hS2 := hid (shown_set hS.out j0 (by omega) hO)
                have hml := hid hS.out.1
                obtain ⟨old, hk3⟩ : ∃ old, (M.map Value.bool)[k]? = some (.bool old) := ⟨_, by rw [List.getElem?_map, List.getElem?_eq_getElem (show k < M.length by have := hml.out; have := hm0.out; omega)]; rfl⟩
                have kk0 : (0 : Int) ≤ k := by omega
                have kk1 : (k : Int) < L.length := by have := hm0.out; omega
                clear hd1 hn1 hx1 hskip hix hO hS hml cub
                go_wp2_with (first | (go_at_call 49; with_reducible refine (cin _).mono ?_; rintro e w7 ⟨rfl, hb⟩; replace hown := own_below hown hb; replace hP := hP.below hb; replace hM := hM.below hb; replace hC := hC.below hb; replace hK := hK.trans (.below hb); replace hB := below_call hB hb; clear hb; obtain ⟨_, _, _, _, _, _⟩ := hM.three; obtain ⟨_, _, _, _⟩ := hC.two) | (go_at_call 58; with_reducible refine (cix _).mono ?_; rintro e w9 ⟨rfl, hb⟩; replace hown := own_below hown hb; replace hP := hP.below hb; replace hM := hM.below hb; replace hC := hC.below hb; replace hK := hK.trans (.below hb); replace hB := below_call hB hb; clear hb; obtain ⟨_, _, _, _, _, _⟩ := hM.three; obtain ⟨_, _, _, _⟩ := hC.two; have k1 := (hown.cellAt k (by omega)).trans hk3; have k2 := hown.frozenAt k))
                have hKs := KeepT.store hown k (.bool true)
                have hGl := (hown.lt G rfl).1
                go_roundw
                case rel => exact ⟨j + 1, M.set k true, by go_num, by omega, by omega, (by rw [← bools_set]; exact (hown.stored k (.bool true)).1), PlaceB.kept hKs (by decide) hP, hKs.block _ _ _ (by decide) hM, hK.trans hKs, hB.setCell hGl _, hS2⟩
                case measure => simp [RowKit.intOf]; omega
              | false =>
                have cubx := fun (w : World) (h0 : Below W0.heap.size W0 w) (h : PlaceB w p q r f g a b c d) => cub i j x1 w h0 h hO4 (hid (by rw [hu.out, hv.out]; exact hx1.out))
                cases x1 with
                | false =>
                  clear hd1 hn1 hx1 cub
                  go_wp2_with (first | (go_at_call 49; with_reducible refine (cin _).mono ?_; rintro e w7 ⟨rfl, hb⟩; replace hown := own_below hown hb; replace hP := hP.below hb; replace hM := hM.below hb; replace hC := hC.below hb; replace hK := hK.trans (.below hb); replace hB := below_call hB hb; clear hb; obtain ⟨_, _, _, _, _, _⟩ := hM.three; obtain ⟨_, _, _, _⟩ := hC.two) | (go_at_call 35; with_reducible refine (cubx _ hB hP).mono ?_; rintro e w8 ⟨rfl, hb⟩; replace hown := own_below hown hb; replace hP := hP.below hb; replace hM := hM.below hb; replace hC := hC.below hb; replace hK := hK.trans (.below hb); replace hB := below_call hB hb; clear hb; obtain ⟨_, _, _, _, _, _⟩ := hM.three; obtain ⟨_, _, _, _⟩ := hC.two))
                  go_roundw
                  case rel => exact ⟨j + 1, M, by go_num, by omega, by omega, hown, hP, hM, hK, hB, hskip rfl⟩
                  case measure => simp [RowKit.intOf]; omega
                | true =>
                  obtain ⟨k, hk, hix, -⟩ := get_at hins.out.symm
                  have cix := fun (w : World) => dindex_b m.w u v k w hix
                  have hO : One m f g a b c d R false i j k := ⟨of_decide_eq_true d9, by rw [hu.out, hv.out]; exact hn1.out.symm, by rw [hu.out, hv.out, ← hx1.out]; rfl, by rw [hu.out, hv.out]; exact hix.out.symm⟩
                  have hS2 := hid (shown_set hS.out j0 (by omega) hO)
                  have hml := hid hS.out.1
                  obtain ⟨old, hk3⟩ : ∃ old, (M.map Value.bool)[k]? = some (.bool old) := ⟨_, by rw [List.getElem?_map, List.getElem?_eq_getElem (show k < M.length by have := hml.out; have := hm0.out; omega)]; rfl⟩
                  have kk0 : (0 : Int) ≤ k := by omega
                  have kk1 : (k : Int) < L.length := by have := hm0.out; omega
                  clear hd1 hn1 hx1 hskip hix hO hS hml cub
                  go_wp2_with (first | (go_at_call 49; with_reducible refine (cin _).mono ?_; rintro e w7 ⟨rfl, hb⟩; replace hown := own_below hown hb; replace hP := hP.below hb; replace hM := hM.below hb; replace hC := hC.below hb; replace hK := hK.trans (.below hb); replace hB := below_call hB hb; clear hb; obtain ⟨_, _, _, _, _, _⟩ := hM.three; obtain ⟨_, _, _, _⟩ := hC.two) | (go_at_call 35; with_reducible refine (cubx _ hB hP).mono ?_; rintro e w8 ⟨rfl, hb⟩; replace hown := own_below hown hb; replace hP := hP.below hb; replace hM := hM.below hb; replace hC := hC.below hb; replace hK := hK.trans (.below hb); replace hB := below_call hB hb; clear hb; obtain ⟨_, _, _, _, _, _⟩ := hM.three; obtain ⟨_, _, _, _⟩ := hC.two) | (go_at_call 58; with_reducible refine (cix _).mono ?_; rintro e w9 ⟨rfl, hb⟩; replace hown := own_below hown hb; replace hP := hP.below hb; replace hM := hM.below hb; replace hC := hC.below hb; replace hK := hK.trans (.below hb); replace hB := below_call hB hb; clear hb; obtain ⟨_, _, _, _, _, _⟩ := hM.three; obtain ⟨_, _, _, _⟩ := hC.two; have k1 := (hown.cellAt k (by omega)).trans hk3; have k2 := hown.frozenAt k))
                  have hKs := KeepT.store hown k (.bool true)
                  have hGl := (hown.lt G rfl).1
                  go_roundw
                  case rel => exact ⟨j + 1, M.set k true, by go_num, by omega, by omega, (by rw [← bools_set]; exact (hown.stored k (.bool true)).1), PlaceB.kept hKs (by decide) hP, hKs.block _ _ _ (by decide) hM, hK.trans hKs, hB.setCell hGl _, hS2⟩
                  case measure => simp [RowKit.intOf]; omega
        · obtain rfl : j = i + 1 := by omega
          have z2 : decide (i + 1 < i + 1) = false := decide_eq_false (by omega)
          have hN := hid (shown_row hS.out)
          clear hS
          go_wp2_with fail
          go_roundw
          case rel => exact ⟨i + 1, M, by go_num, by omega, by omega, hown, hP, hM, hK, hB, hN⟩
          case measure => simp [RowKit.intOf]; omega
    · obtain rfl : i = R + 1 := by omega
      have z1 : decide (R + 1 < R + 1) = false := decide_eq_false (by omega)
      have hN := hid (show ∀ n, (h : n < M.length) → (h' : n < L.length) → (M[n]'h = true ↔ L[n]'h' = true ∨ Octs m f g a b c d R high n) from fun n h h' => by rw [hS.out.2 n h h', pre_end])
      have hml := hid hS.out.1
      clear hS
      go_wp2_with fail
      go_end0
      exact ⟨rfl, M, hml.out, hown, hK, hB, hN⟩

end Go.Proofs.YtlcbkeieejmmbaaDoor
