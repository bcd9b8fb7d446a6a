/-
  What the reference of terrain answers: Same.
-/
import Derived.Test.YtlpccjklgbfpaaaDoorTerI
import Derived.BigQuiet
namespace Go.Proofs.YtlpccjklgbfpaaaDoor
open Go.RowKit Go.Lib

theorem row_cells {W V : World} {s : Value} {l : List C3} (h : RowAt W s l) (hV : Below W.heap.size W V) {i : Nat} (hi : i < l.length) : ∃ g o c, s = .slice (some ⟨g, o, none⟩) l.length c ∧ V.cell? ⟨g, o + i * 3, none⟩ = some (.int .i64 (l[i]'hi).k) ∧ V.cell? ⟨g, o + i * 3 + 1, none⟩ = some (.int .i64 (l[i]'hi).h) ∧ V.cell? ⟨g, o + i * 3 + 2, none⟩ = some (.int .i64 (l[i]'hi).a) := by
  obtain ⟨p, c, rfl, _, hc⟩ := h.below hV
  obtain ⟨g, o, rfl, hat⟩ := hc (by omega)
  exact ⟨g, o, c, rfl, hat i hi⟩
theorem Keep.drewN {w W : World} {L : List (Nat × List Value × TypeId)} (h : Keep w W L) (n : Nat) : Keep w (W.drewN n) L := ⟨fun e he => h.blks e he, below_many h.old n⟩
theorem below_drewN {B : Nat} {w W : World} (h : Below B w W) (n : Nat) : Below B w (W.drewN n) := by
  induction n with
  | zero => exact h
  | succ n ih => exact ih.drew

set_option maxRecDepth 100000 in
set_option maxHeartbeats 2000000 in
theorem rsame_cells (w h : Int) (ms ns : List C3) (L cm cn : Nat) (pm pn : Option Addr) (b : Bool) (W : World) (hL1 : ms.length = L) (hL2 : ns.length = L) (hm : L ≤ maxLen) (hr : RowAt W (.slice pm L cm) ms) (hr2 : RowAt W (.slice pn L cn) ns) (hb : Hid (b = decide (ms = ns))) :
    Calls Tryd.prog 18 #[.agg #[.int .i64 w, .int .i64 h, .slice pm L cm], .agg #[.int .i64 w, .int .i64 h, .slice pn L cn]] W fun e w' => e = .returned (.bool b) ∧ Below W.heap.size W w' := by
  have hK := ((Keep.nil W).alloc [.int .i64 w, .int .i64 h, .slice pm L cm] 24).alloc [.int .i64 w, .int .i64 h, .slice pn L cn] 24
  simp only [World.size_alloc] at hK
  unfold maxLen at hm
  go_enter Tryd.func18, Tryd.ntmps18
  go_upto_region 1 with fail
  generalize ((W.alloc (.cells [Value.int .i64 w, .int .i64 h, .slice pm L cm].toArray 24)).alloc (.cells [Value.int .i64 w, .int .i64 h, .slice pn L cn].toArray 24)) = V at *
  obtain ⟨hN, hM⟩ := hK.two
  obtain ⟨_, _, _, _, _, _⟩ := hM.three
  obtain ⟨_, _, _, _, _, _⟩ := hN.three
  go_wp2_with fail
  go_loopw [5] (fun vi wr => ∃ i : Nat, vi = .int .i64 i ∧ i ≤ L ∧ Keep W wr [(W.heap.size + 1, [Value.int .i64 w, .int .i64 h, .slice pn L cn], 24), (W.heap.size, [Value.int .i64 w, .int .i64 h, .slice pm L cm], 24)] ∧ Hid (ms.take i = ns.take i)) (fun vi _ => L - (RowKit.intOf vi).toNat)
  case atStart => exact ⟨0, rfl, by omega, hK, hid rfl⟩
  case round =>
    clear hK hN hM
    obtain ⟨i, rfl, hi, hK, hG⟩ := hrel
    obtain ⟨hN, hM⟩ := hK.two
    obtain ⟨_, _, _, _, _, _⟩ := hM.three
    obtain ⟨_, _, _, _, _, _⟩ := hN.three
    by_cases hlt : i < L
    · have d1 : (i : Int) < L := by omega
      obtain ⟨g, o, c, e1, a1, a2, a3⟩ := row_cells hr hK.old (show i < ms.length by omega)
      obtain ⟨g', o', c', e2, b1, b2, b3⟩ := row_cells hr2 hK.old (show i < ns.length by omega)
      injection e1 with e1 k1 k2
      injection e2 with e2 k3 k4
      subst e1 e2
      clear k1 k2 k3 k4
      obtain ⟨q, hq⟩ : ∃ q, ms[i]'(show i < ms.length by omega) = q := ⟨_, rfl⟩
      obtain ⟨r, hr⟩ : ∃ q, ns[i]'(show i < ns.length by omega) = q := ⟨_, rfl⟩
      rw [hq] at a1 a2 a3
      rw [hr] at b1 b2 b3
      have hqq := hid hq
      have hrr := hid hr
      clear hq hr
      by_cases hqr : q = r
      · subst hqr
        have hN2 : Hid (ms.take (i + 1) = ns.take (i + 1)) := hid (by
          rw [List.take_succ_eq_append_getElem (show i < ms.length by omega), List.take_succ_eq_append_getElem (show i < ns.length by omega), hG.out, hqq.out, hrr.out])
        clear hG
        go_wp2_with fail
        go_quiet (fail)
        go_wp2_with fail
        go_roundw
        case rel => exact ⟨i + 1, by go_num, by omega, hK.drewN _, hN2⟩
        case measure => simp [RowKit.intOf]; omega
      · have hbf : b = false := by
          rw [hb.out]
          refine decide_eq_false fun h => hqr ?_
          rw [← hqq.out, ← hrr.out]
          simp only [h]
        subst hbf
        clear hG
        obtain ⟨k1, h1, a1'⟩ := q
        obtain ⟨k2, h2, a2'⟩ := r
        dsimp only at a1 a2 a3 b1 b2 b3
        by_cases c1 : k1 = k2
        · subst c1
          by_cases c2 : h1 = h2
          · subst c2
            have c3 : (a1' == a2') = false := beq_eq_false_iff_ne.2 fun h => hqr (by rw [h])
            clear hqr
            go_wp2_with fail
            go_quiet (fail)
            go_wp2_with fail
            go_ret
            exact ⟨rfl, (hK.drewN _).old⟩
          · have c3 : (h1 == h2) = false := beq_eq_false_iff_ne.2 c2
            clear hqr
            go_wp2_with fail
            go_quiet (fail)
            go_wp2_with fail
            go_ret
            exact ⟨rfl, (hK.drewN _).old⟩
        · have c3 : (k1 == k2) = false := beq_eq_false_iff_ne.2 c1
          clear hqr
          go_wp2_with fail
          go_quiet (fail)
          go_wp2_with fail
          go_ret
          exact ⟨rfl, (hK.drewN _).old⟩
    · obtain rfl : i = L := by omega
      have hbt : b = true := by
        have e := hG.out
        rw [List.take_of_length_le (by omega), List.take_of_length_le (by omega)] at e
        rw [hb.out]
        exact decide_eq_true e
      subst hbt
      clear hG
      go_wp2_with fail
      go_ret
      exact ⟨rfl, hK.old⟩

set_option maxHeartbeats 2000000 in
theorem rsame_no (mw mh nw nh : Int) (L M cm cn : Nat) (pm pn : Option Addr) (W : World) (_hm : L ≤ maxLen) (_hn : M ≤ maxLen) (h : ¬ (mw = nw ∧ mh = nh ∧ L = M)) :
    Calls Tryd.prog 18 #[.agg #[.int .i64 mw, .int .i64 mh, .slice pm L cm], .agg #[.int .i64 nw, .int .i64 nh, .slice pn M cn]] W fun e w' => e = .returned (.bool false) ∧ Below W.heap.size W w' := by
  have hK := ((Keep.nil W).alloc [.int .i64 mw, .int .i64 mh, .slice pm L cm] 24).alloc [.int .i64 nw, .int .i64 nh, .slice pn M cn] 24
  simp only [World.size_alloc] at hK
  unfold maxLen at _hm _hn
  go_enter Tryd.func18, Tryd.ntmps18
  go_upto_region 1 with fail
  generalize ((W.alloc (.cells [Value.int .i64 mw, .int .i64 mh, .slice pm L cm].toArray 24)).alloc (.cells [Value.int .i64 nw, .int .i64 nh, .slice pn M cn].toArray 24)) = V at *
  obtain ⟨hN, hM⟩ := hK.two
  obtain ⟨_, _, _, _, _, _⟩ := hM.three
  obtain ⟨_, _, _, _, _, _⟩ := hN.three
  by_cases c1 : mw = nw
  · subst c1
    by_cases c2 : mh = nh
    · subst c2
      have z : ((L : Int) == M) = false := beq_eq_false_iff_ne.2 fun e => h ⟨rfl, rfl, by omega⟩
      clear h
      go_wp2_with fail
      go_ret
      exact ⟨rfl, hK.old⟩
    · have z : (mh == nh) = false := beq_eq_false_iff_ne.2 c2
      clear h
      go_wp2_with fail
      go_ret
      exact ⟨rfl, hK.old⟩
  · have z : (mw == nw) = false := beq_eq_false_iff_ne.2 c1
    clear h
    go_wp2_with fail
    go_ret
    exact ⟨rfl, hK.old⟩

theorem rsame_b (m n : M3) (s t : Value) (b : Bool) (W : World) (hr : RowAt W s m.cs) (hr2 : RowAt W t n.cs) (e : Hid (b = samev m n)) :
    Calls Tryd.prog 18 #[.agg #[.int .i64 m.w, .int .i64 m.h, s], .agg #[.int .i64 n.w, .int .i64 n.h, t]] W fun e w' => e = .returned (.bool b) ∧ Below W.heap.size W w' := by
  have hsm := hr
  have hsn := hr2
  obtain ⟨pm, cm, rfl, hmm, _⟩ := hsm
  obtain ⟨pn, cn, rfl, hmn, _⟩ := hsn
  obtain ⟨mw, mh, ms⟩ := m
  obtain ⟨nw, nh, ns⟩ := n
  dsimp only at *
  by_cases h : mw = nw ∧ mh = nh ∧ ms.length = ns.length
  · obtain ⟨rfl, rfl, hl⟩ := h
    rw [← hl] at hr2 ⊢
    refine rsame_cells mw mh ms ns ms.length cm cn pm pn b W rfl hl.symm hmm hr hr2 (hid ?_)
    rw [e.out]
    unfold samev
    simp
  · have hb : b = false := by
      rw [e.out]
      unfold samev
      refine decide_eq_false fun hh => h ?_
      obtain ⟨a, c, d⟩ := hh
      exact ⟨a, c, congrArg List.length d⟩
    subst hb
    exact rsame_no mw mh nw nh _ _ cm cn pm pn W hmm hmn h

end Go.Proofs.YtlpccjklgbfpaaaDoor
