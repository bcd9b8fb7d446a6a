/-
  The law of occupy: Spots is the reference's: all open cells, each once, the nearest ones first.
-/
import Derived.Test.YtoodnblhjopnlaaDoorOcRd
import Derived.Test.YtoodnblhjopnlaaDoorOcO
namespace Go.Proofs.YtoodnblhjopnlaaDoor
open Go.RowKit Go.Lib

set_option maxRecDepth 100000 in
set_option maxHeartbeats 8000000 in
theorem law13_spots (m : M3) (s : Value) (bl : List Bool) (sb : Value) (q : Int) (f : Int × Int) (W : World) (hE : EnvT W) (hr : RowAt W s m.cs) (hl : BitsAt W sb bl) :
    Calls Tryd.prog 8 #[.agg #[.int .i64 m.w, .int .i64 m.h, s], sb, .agg #[.int .i64 q, .int .i64 f.1, .int .i64 f.2]] W fun e w' => e = .returned (.bool true) ∧ Below W.heap.size W w' := by
  obtain ⟨L, hL⟩ : ∃ L, Hid (spotsv m bl q f = L) := ⟨_, hid rfl⟩
  obtain ⟨z, hz⟩ : ∃ z, Hid (z = formedv m) := ⟨_, hid rfl⟩
  obtain ⟨A, hA⟩ : ∃ A, Hid (allp m = A) := ⟨_, hid rfl⟩
  have hlen : Hid (L.length = (A.filter (fun p => openv m bl q p.1 p.2)).length) := hid (by rw [← hL.out, ← hA.out]; exact spots_len m bl q f)
  have hlex : Hid (L.Pairwise (lexv f fun p => indexv m.w p.1 p.2)) := hid (by rw [← hL.out]; exact spots_lex m bl q f)
  have hLs : L.length ≤ 1024 := by rw [hlen.out, ← hA.out]; exact filter_len m _
  have hLl : L.length ≤ maxLen := Nat.le_trans hLs (by unfold maxLen; decide)
  have c1 := fun (w : World) (hb : Below W.heap.size W w) => ocspots_b m s bl sb q f L w (hE.keep hb) (hr.below hb) (hl.below hb) hL
  have c2 := fun (w : World) (hb : Below W.heap.size W w) => rspots_b m s bl sb q f L w (hr.below hb) (hl.below hb) hL
  have c3 := fun (w : World) (A B : Nat) (v1 v2 : Value) (h1 : w.ownsRow A 42 2 v1 L.length (pcells L)) (h2 : w.ownsRow B 42 2 v2 L.length (pcells L)) => rsame_t w L A B v1 v2 hLl h1 h2
  have cf := fun (w : World) (hb : Below W.heap.size W w) => rformed_b m s z w (hr.below hb) hz
  have cop := fun (x y : Int) (z : Bool) (w : World) (hb : Below W.heap.size W w) (e : Hid (z = openv m bl q x y)) => ropen_b m s bl sb q x y z w (hr.below hb) (hl.below hb) e
  have ca := fun (w : World) (hb : Below W.heap.size W w) => awake13_b w (hE.keep hb)
  obtain ⟨p0, c0, rfl⟩ := hr.slice
  obtain ⟨pb, cb, rfl⟩ := hl.lenO
  obtain ⟨hu, hhu⟩ : ∃ b, Hid (decide (1100 < m.cs.length ∨ 3000 < bl.length ∨ 100 < 0) = b) := ⟨_, hid rfl⟩
  have ch := fun (w : World) => ochuge_b m p0 pb none bl.length 0 c0 cb 0 hu w hhu
  clear hr hl hL hE
  have hT := Held2.start W [.int .i64 m.w, .int .i64 m.h, .slice p0 m.cs.length c0] [.int .i64 q, .int .i64 f.1, .int .i64 f.2] 24 44
  obtain ⟨_, _, _, _, _, _⟩ := hT.l.three; obtain ⟨_, _, _, _, _, _⟩ := hT.r.three
  cases hu with
  | true =>
    go_enter Tryd.func8, Tryd.ntmps8
    go_wp2_with (first
      | (go_at_call 9; with_reducible refine (ch _).mono ?_; rintro e w1 ⟨rfl, hb⟩; replace hT := hT.call hb; clear hb)
      | (go_at_call 10; with_reducible refine (ca _ hT.old).mono ?_; rintro e w2 ⟨rfl, hb⟩))
    go_ret
    exact ⟨rfl, below_call hT.old hb⟩
  | false =>
    have hm11 : m.cs.length ≤ 1100 := by have := of_decide_eq_false hhu.out; omega
    go_enter Tryd.func8, Tryd.ntmps8
    go_upto_region 8 with (first
      | (go_at_call 9; with_reducible refine (ch _).mono ?_; rintro e w1 ⟨rfl, hb⟩; replace hT := hT.call hb; clear hb; obtain ⟨_, _, _, _, _, _⟩ := hT.l.three; obtain ⟨_, _, _, _, _, _⟩ := hT.r.three)
      | (go_at_call 24; with_reducible refine (c1 _ hT.old).mono ?_; rintro e w2 ⟨v1, rfl, h1, hb⟩; obtain ⟨p1, k1, rfl, hn1, hm1⟩ := own_shape2 h1; replace hT := hT.call hb; clear hb; obtain ⟨_, _, _, _, _, _⟩ := hT.l.three; obtain ⟨_, _, _, _, _, _⟩ := hT.r.three)
      | (go_at_call 25; with_reducible refine (c2 _ hT.old).mono ?_; rintro e w3 ⟨v2, rfl, h2, hb⟩; replace h1 := own_below h1 hb; replace hT := hT.call hb; clear hb; obtain ⟨_, _, _, _, _, _⟩ := hT.l.three; obtain ⟨_, _, _, _, _, _⟩ := hT.r.three)
      | (go_at_call 21; with_reducible refine (c3 _ _ _ _ _ h1 h2).mono ?_; rintro e Y ⟨rfl, hb⟩; replace h1 := own_below h1 hb; replace hT := hT.call hb; clear hb; obtain ⟨_, _, _, _, _, _⟩ := hT.l.three; obtain ⟨_, _, _, _, _, _⟩ := hT.r.three))
    clear c1 c2 c3 h2 hhu ch
    go_loopw [8, 9] (fun vo vi wr => ∃ (n i : Nat), vo = .int .i64 n ∧ vi = .int .i64 i ∧ i ≤ m.cs.length ∧ n ≤ i ∧ Below Y.heap.size Y wr ∧ Hid (n = ((A.take i).filter (fun p => openv m bl q p.1 p.2)).length)) (fun _ vi _ => m.cs.length - (RowKit.intOf vi).toNat)
    case atStart => exact ⟨0, 0, rfl, rfl, by omega, by omega, Below.refl _ _, hid (by simp)⟩
    case round =>
      obtain ⟨n, i, rfl, rfl, hi, hn, hV, hI⟩ := hrel
      replace hT := hT.call hV
      replace h1 := own_below h1 hV
      obtain ⟨_, _, _, _, _, _⟩ := hT.l.three; obtain ⟨_, _, _, _, _, _⟩ := hT.r.three
      by_cases hlt : i < m.cs.length
      · have d1 : (i : Int) < m.cs.length := by omega
        cases z with
        | false =>
          have hA0 : A = [] := by rw [← hA.out]; exact allp_none hz.out.symm
          have hnL : n = L.length := by rw [hI.out, hlen.out, hA0]; simp
          subst hnL
          clear hI hlen hA hz cop hi hn hm11 d1 hA0
          go_upto_region 13 with (go_at_call 26; with_reducible refine (cf _ hT.old).mono ?_; rintro e w3 ⟨rfl, hb⟩; replace h1 := own_below h1 hb; replace hT := hT.call hb; clear hb; obtain ⟨_, _, _, _, _, _⟩ := hT.l.three; obtain ⟨_, _, _, _, _, _⟩ := hT.r.three)
          clear cf hlt
          have hP := PosAt.any h1 rfl hLl
          go_loopw [10] (fun vj wq => ∃ j : Nat, vj = .int .i64 j ∧ 1 ≤ j ∧ j ≤ L.length + 1 ∧ Below w3.heap.size w3 wq) (fun vj _ => L.length + 1 - (RowKit.intOf vj).toNat)
          case atStart => exact ⟨1, rfl, by omega, by omega, Below.refl _ _⟩
          case round =>
            obtain ⟨j, rfl, hj1, hj2, hV2⟩ := hrel
            replace hT := hT.call hV2
            have hP2 := hP.below hV2
            obtain ⟨_, _, _, _, _, _⟩ := hT.l.three; obtain ⟨_, _, _, _, _, _⟩ := hT.r.three
            by_cases hlt2 : j < L.length
            · have e1 : (j : Int) < L.length := by omega
              have e0 : (0 : Int) ≤ j := by omega
              obtain ⟨kp, hkp⟩ : ∃ kp, Hid (j = kp + 1) := ⟨j - 1, hid (by omega)⟩
              have hk1 : kp < L.length := by have := hkp.out; omega
              have y1 : (0 : Int) ≤ (kp : Int) := by omega
              have y2 : (kp : Int) < (L.length : Int) := by omega
              have wk : IntKind.i64.wrap ((j : Int) - 1) = (kp : Int) := by rw [IntKind.wrap_i64]; have := hkp.out; omega
              obtain ⟨g, o, ep, hg, q0, q1⟩ := hP2.at hk1
              obtain ⟨g', o', ep', hg', r0, r1⟩ := hP2.at hlt2
              rw [ep] at ep'
              injection ep' with ep'
              injection ep' with e5 e6
              subst e5
              subst e6
              subst ep
              have hpw := List.pairwise_iff_getElem.1 hlex.out kp j hk1 hlt2 (by have := hkp.out; omega)
              unfold lexv at hpw
              rw [oct_turn (L[kp]'hk1).1, oct_turn (L[j]'hlt2).1] at hpw
              dsimp only at hpw
              obtain ⟨n1, hn1⟩ : ∃ n, Hid (n = octv f.1 f.2 (L[kp]'hk1).1 (L[kp]'hk1).2) := ⟨_, hid rfl⟩
              obtain ⟨n2, hn2⟩ : ∃ n, Hid (n = octv f.1 f.2 (L[j]'hlt2).1 (L[j]'hlt2).2) := ⟨_, hid rfl⟩
              obtain ⟨i1, hi1⟩ : ∃ n, Hid (n = indexv m.w (L[kp]'hk1).1 (L[kp]'hk1).2) := ⟨_, hid rfl⟩
              obtain ⟨i2, hi2⟩ : ∃ n, Hid (n = indexv m.w (L[j]'hlt2).1 (L[j]'hlt2).2) := ⟨_, hid rfl⟩
              rw [← hn1.out, ← hn2.out, ← hi1.out, ← hi2.out] at hpw
              have c4 := fun (w : World) => dooct_b f.1 f.2 (L[kp]'hk1).1 (L[kp]'hk1).2 n1 w hn1
              have c5 := fun (w : World) => dooct_b f.1 f.2 (L[j]'hlt2).1 (L[j]'hlt2).2 n2 w hn2
              have c6 := fun (w : World) => dindex_b m.w (L[kp]'hk1).1 (L[kp]'hk1).2 i1 w hi1
              have c7 := fun (w : World) => dindex_b m.w (L[j]'hlt2).1 (L[j]'hlt2).2 i2 w hi2
              clear hn1 hn2 hi1 hi2
              generalize (L[kp]'hk1).1 = ax at *
              generalize (L[kp]'hk1).2 = ay at *
              generalize (L[j]'hlt2).1 = bx at *
              generalize (L[j]'hlt2).2 = bY at *
              have hk := fun (w' : World) (hb : Below wr.heap.size wr w') => And.intro ((hT.l.below hb).cell 0) (And.intro ((hT.r.below hb).cell 1) (And.intro ((hT.r.below hb).cell 2) (And.intro ((hb.cell (p := ⟨g, o + kp * 2, none⟩) hg).trans q0) (And.intro ((hb.cell (p := ⟨g, o + kp * 2 + 1, none⟩) hg).trans q1) (And.intro ((hb.cell (p := ⟨g, o + j * 2, none⟩) hg).trans r0) ((hb.cell (p := ⟨g, o + j * 2 + 1, none⟩) hg).trans r1))))))
              have hq := (Below.refl wr.heap.size wr).drew
              obtain ⟨_, _, _, _, _, _, _⟩ := hk _ hq
              clear q0 q1 r0 r1 hlex hP hP2
              go_upto_region 15 with fail
              go_region_held3 (fun w' => w'.cell? ⟨W.heap.size, 0, none⟩ = some (.int .i64 m.w) ∧ w'.cell? ⟨W.heap.size + 1, 1, none⟩ = some (.int .i64 f.1) ∧ w'.cell? ⟨W.heap.size + 1, 2, none⟩ = some (.int .i64 f.2) ∧ w'.cell? ⟨g, o + kp * 2, none⟩ = some (.int .i64 ax) ∧ w'.cell? ⟨g, o + kp * 2 + 1, none⟩ = some (.int .i64 ay) ∧ w'.cell? ⟨g, o + j * 2, none⟩ = some (.int .i64 bx) ∧ w'.cell? ⟨g, o + j * 2 + 1, none⟩ = some (.int .i64 bY))
                (exact hk _ hq)
                (first
                  | (go_at_call 29; with_reducible refine (c4 _).mono ?_; rintro e w' ⟨rfl, hb⟩; replace hq := below_call hq hb; clear hb)
                  | (go_at_call 29; with_reducible refine (c5 _).mono ?_; rintro e w' ⟨rfl, hb⟩; replace hq := below_call hq hb; clear hb))
              clear c4 c5
              rcases hpw with h9 | ⟨h9, h8⟩
              · have v1 : ¬ n2 < n1 := by omega
                have v2 : ¬ n1 = n2 := by omega
                have v3 : decide (n2 < n1) = false := decide_eq_false v1
                have v4 : decide (n1 = n2) = false := decide_eq_false v2
                clear h9 c6 c7
                go_upto_region 16 with fail
                go_quiet (fail)
                rename_i nq
                have hV9 := below_call hV2 (below_call hq (below_many (Below.refl w'.heap.size w') nq))
                go_wp2_with fail
                go_roundw
                case rel => exact ⟨j + 1, by go_num, by omega, by omega, hV9⟩
                case measure => simp [RowKit.intOf]; omega
              · subst h9
                have v1 : ¬ i2 ≤ i1 := by omega
                have v3 : decide (i2 ≤ i1) = false := decide_eq_false v1
                have hV8 := below_call hV2 hq
                go_upto_region 16 with fail
                replace hq := hq.drew
                obtain ⟨_, _, _, _, _, _, _⟩ := hk _ hq
                go_region_held3 (fun w' => w'.cell? ⟨W.heap.size, 0, none⟩ = some (.int .i64 m.w) ∧ w'.cell? ⟨W.heap.size + 1, 1, none⟩ = some (.int .i64 f.1) ∧ w'.cell? ⟨W.heap.size + 1, 2, none⟩ = some (.int .i64 f.2) ∧ w'.cell? ⟨g, o + kp * 2, none⟩ = some (.int .i64 ax) ∧ w'.cell? ⟨g, o + kp * 2 + 1, none⟩ = some (.int .i64 ay) ∧ w'.cell? ⟨g, o + j * 2, none⟩ = some (.int .i64 bx) ∧ w'.cell? ⟨g, o + j * 2 + 1, none⟩ = some (.int .i64 bY))
                  (exact hk _ hq)
                  (first
                    | (go_at_call 30; with_reducible refine (c6 _).mono ?_; rintro e w5 ⟨rfl, hb⟩; replace hq := below_call hq hb; clear hb)
                    | (go_at_call 30; with_reducible refine (c7 _).mono ?_; rintro e w5 ⟨rfl, hb⟩; replace hq := below_call hq hb; clear hb))
                have hV9 := below_call hV2 hq
                go_wp2_with fail
                go_roundw
                case rel => exact ⟨j + 1, by go_num, by omega, by omega, hV9⟩
                case measure => simp [RowKit.intOf]; omega
            · have e1 : ¬ (j : Int) < L.length := by omega
              go_wp2_with (go_at_call 10; with_reducible refine (ca _ hT.old).mono ?_; rintro e w6 ⟨rfl, hb⟩)
              go_ret
              exact ⟨rfl, below_call hT.old hb⟩
        | true =>
          have hAl : A.length = m.cs.length := by rw [← hA.out]; exact allp_len hz.out.symm
          have hAi : i < A.length := by omega
          have hN := filter_next (fun p => openv m bl q p.1 p.2) A hAi
          have hAe : A[i]'hAi = (atx m.w i, aty m.w i) := by
            have := fun h => allp_at (m := m) hz.out.symm (i := i) h
            simp only [hA.out] at this
            exact this hAi
          obtain ⟨x, y, hxy⟩ : ∃ x y, Hid (x = atx m.w i ∧ y = aty m.w i) := ⟨_, _, hid ⟨rfl, rfl⟩⟩
          rw [hAe, ← hxy.out.1, ← hxy.out.2] at hN
          have cat : ∀ w : World, Calls Tryd.prog 28 #[.int .i64 m.w, .int .i64 i] w fun e w' => e = .returned (.agg #[.int .i64 x, .int .i64 y]) ∧ Below w.heap.size w w' := fun w => by
            rw [hxy.out.1, hxy.out.2]; exact dat_any m.w i w (by omega)
          obtain ⟨zo, hzo⟩ : ∃ zo, Hid (zo = openv m bl q x y) := ⟨_, hid rfl⟩
          have c1 := fun (w : World) (hb : Below W.heap.size W w) => cop x y zo w hb hzo
          dsimp only at hN
          rw [← hzo.out] at hN
          have hN2 : Hid (((A.take (i + 1)).filter (fun p => openv m bl q p.1 p.2)).length = n + if zo = true then 1 else 0) := hid (by rw [hN, List.length_append, ← hI.out]; split <;> rfl)
          clear hN hzo hxy hAe hI
          go_upto_region 10 with (go_at_call 26; with_reducible refine (cf _ hT.old).mono ?_; rintro e w3 ⟨rfl, hb⟩; replace h1 := own_below h1 hb; replace hV := below_call hV hb; replace hT := hT.call hb; clear hb; obtain ⟨_, _, _, _, _, _⟩ := hT.l.three; obtain ⟨_, _, _, _, _, _⟩ := hT.r.three)
          have hk := fun (w' : World) (hb : Below w3.heap.size w3 w') => And.intro ((hT.l.below hb).cell 0) (And.intro ((hT.l.below hb).cell 1) (And.intro ((hT.l.below hb).cell 2) (And.intro ((hT.r.below hb).cell 0) (And.intro ((hT.r.below hb).cell 1) ((hT.r.below hb).cell 2)))))
          have hq := (Below.refl w3.heap.size w3).drew
          have hW := hT.old
          obtain ⟨_, _, _, _, _, _⟩ := hk _ hq
          go_region_held3 (fun w' => w'.cell? ⟨W.heap.size, 0, none⟩ = some (.int .i64 m.w) ∧ w'.cell? ⟨W.heap.size, 1, none⟩ = some (.int .i64 m.h) ∧ w'.cell? ⟨W.heap.size, 2, none⟩ = some (.slice p0 m.cs.length c0) ∧ w'.cell? ⟨W.heap.size + 1, 0, none⟩ = some (.int .i64 q) ∧ w'.cell? ⟨W.heap.size + 1, 1, none⟩ = some (.int .i64 f.1) ∧ w'.cell? ⟨W.heap.size + 1, 2, none⟩ = some (.int .i64 f.2))
            (exact hk _ hq)
            (first
              | (go_at_call 28; with_reducible refine (cat _).mono ?_; rintro e w' ⟨rfl, hb⟩; replace hq := below_call hq hb; clear hb)
              | (go_at_call 27; with_reducible refine (c1 _ (below_call hW hq)).mono ?_; rintro e w' ⟨rfl, hb⟩; replace hq := below_call hq hb; clear hb))
          have hV9 := below_call hV hq
          clear hk cat c1 h1 hT hV
          cases zo with
          | false =>
            go_wp2_with fail
            go_roundw
            case rel => exact ⟨n, i + 1, rfl, by go_num, by omega, by omega, hV9, hid (by rw [hN2.out]; simp)⟩
            case measure => simp [RowKit.intOf]; omega
          | true =>
            go_wp2_with fail
            go_roundw
            case rel => exact ⟨n + 1, i + 1, by go_num, by go_num, by omega, by omega, hV9, hid (by rw [hN2.out]; simp)⟩
            case measure => simp [RowKit.intOf]; omega
      · have d1 : ¬ (i : Int) < m.cs.length := by omega
        have hnL : n = L.length := by
          rw [hI.out, hlen.out]
          cases z with
          | false => rw [← hA.out, allp_none hz.out.symm]; simp
          | true => rw [List.take_of_length_le (by rw [← hA.out, allp_len hz.out.symm]; omega)]
        subst hnL
        clear hI hlen hA hz cop hi hn hm11 cf
        go_upto_region 13 with fail
        clear hlt d1
        have hP := PosAt.any h1 rfl hLl
        go_loopw [10] (fun vj wq => ∃ j : Nat, vj = .int .i64 j ∧ 1 ≤ j ∧ j ≤ L.length + 1 ∧ Below wr.heap.size wr wq) (fun vj _ => L.length + 1 - (RowKit.intOf vj).toNat)
        case atStart => exact ⟨1, rfl, by omega, by omega, Below.refl _ _⟩
        case round =>
          obtain ⟨j, rfl, hj1, hj2, hV2⟩ := hrel
          replace hT := hT.call hV2
          have hP2 := hP.below hV2
          obtain ⟨_, _, _, _, _, _⟩ := hT.l.three; obtain ⟨_, _, _, _, _, _⟩ := hT.r.three
          by_cases hlt2 : j < L.length
          · have e1 : (j : Int) < L.length := by omega
            have e0 : (0 : Int) ≤ j := by omega
            obtain ⟨kp, hkp⟩ : ∃ kp, Hid (j = kp + 1) := ⟨j - 1, hid (by omega)⟩
            have hk1 : kp < L.length := by have := hkp.out; omega
            have y1 : (0 : Int) ≤ (kp : Int) := by omega
            have y2 : (kp : Int) < (L.length : Int) := by omega
            have wk : IntKind.i64.wrap ((j : Int) - 1) = (kp : Int) := by rw [IntKind.wrap_i64]; have := hkp.out; omega
            obtain ⟨g, o, ep, hg, q0, q1⟩ := hP2.at hk1
            obtain ⟨g', o', ep', hg', r0, r1⟩ := hP2.at hlt2
            rw [ep] at ep'
            injection ep' with ep'
            injection ep' with e5 e6
            subst e5
            subst e6
            subst ep
            have hpw := List.pairwise_iff_getElem.1 hlex.out kp j hk1 hlt2 (by have := hkp.out; omega)
            unfold lexv at hpw
            rw [oct_turn (L[kp]'hk1).1, oct_turn (L[j]'hlt2).1] at hpw
            dsimp only at hpw
            obtain ⟨n1, hn1⟩ : ∃ n, Hid (n = octv f.1 f.2 (L[kp]'hk1).1 (L[kp]'hk1).2) := ⟨_, hid rfl⟩
            obtain ⟨n2, hn2⟩ : ∃ n, Hid (n = octv f.1 f.2 (L[j]'hlt2).1 (L[j]'hlt2).2) := ⟨_, hid rfl⟩
            obtain ⟨i1, hi1⟩ : ∃ n, Hid (n = indexv m.w (L[kp]'hk1).1 (L[kp]'hk1).2) := ⟨_, hid rfl⟩
            obtain ⟨i2, hi2⟩ : ∃ n, Hid (n = indexv m.w (L[j]'hlt2).1 (L[j]'hlt2).2) := ⟨_, hid rfl⟩
            rw [← hn1.out, ← hn2.out, ← hi1.out, ← hi2.out] at hpw
            have c4 := fun (w : World) => dooct_b f.1 f.2 (L[kp]'hk1).1 (L[kp]'hk1).2 n1 w hn1
            have c5 := fun (w : World) => dooct_b f.1 f.2 (L[j]'hlt2).1 (L[j]'hlt2).2 n2 w hn2
            have c6 := fun (w : World) => dindex_b m.w (L[kp]'hk1).1 (L[kp]'hk1).2 i1 w hi1
            have c7 := fun (w : World) => dindex_b m.w (L[j]'hlt2).1 (L[j]'hlt2).2 i2 w hi2
            clear hn1 hn2 hi1 hi2
            generalize (L[kp]'hk1).1 = ax at *
            generalize (L[kp]'hk1).2 = ay at *
            generalize (L[j]'hlt2).1 = bx at *
            generalize (L[j]'hlt2).2 = bY at *
            have hk := fun (w' : World) (hb : Below wr.heap.size wr w') => And.intro ((hT.l.below hb).cell 0) (And.intro ((hT.r.below hb).cell 1) (And.intro ((hT.r.below hb).cell 2) (And.intro ((hb.cell (p := ⟨g, o + kp * 2, none⟩) hg).trans q0) (And.intro ((hb.cell (p := ⟨g, o + kp * 2 + 1, none⟩) hg).trans q1) (And.intro ((hb.cell (p := ⟨g, o + j * 2, none⟩) hg).trans r0) ((hb.cell (p := ⟨g, o + j * 2 + 1, none⟩) hg).trans r1))))))
            have hq := (Below.refl wr.heap.size wr).drew
            obtain ⟨_, _, _, _, _, _, _⟩ := hk _ hq
            clear q0 q1 r0 r1 hlex hP hP2
            go_upto_region 15 with fail
            go_region_held3 (fun w' => w'.cell? ⟨W.heap.size, 0, none⟩ = some (.int .i64 m.w) ∧ w'.cell? ⟨W.heap.size + 1, 1, none⟩ = some (.int .i64 f.1) ∧ w'.cell? ⟨W.heap.size + 1, 2, none⟩ = some (.int .i64 f.2) ∧ w'.cell? ⟨g, o + kp * 2, none⟩ = some (.int .i64 ax) ∧ w'.cell? ⟨g, o + kp * 2 + 1, none⟩ = some (.int .i64 ay) ∧ w'.cell? ⟨g, o + j * 2, none⟩ = some (.int .i64 bx) ∧ w'.cell? ⟨g, o + j * 2 + 1, none⟩ = some (.int .i64 bY))
              (exact hk _ hq)
              (first
                | (go_at_call 29; with_reducible refine (c4 _).mono ?_; rintro e w' ⟨rfl, hb⟩; replace hq := below_call hq hb; clear hb)
                | (go_at_call 29; with_reducible refine (c5 _).mono ?_; rintro e w' ⟨rfl, hb⟩; replace hq := below_call hq hb; clear hb))
            clear c4 c5
            rcases hpw with h9 | ⟨h9, h8⟩
            · have v1 : ¬ n2 < n1 := by omega
              have v2 : ¬ n1 = n2 := by omega
              have v3 : decide (n2 < n1) = false := decide_eq_false v1
              have v4 : decide (n1 = n2) = false := decide_eq_false v2
              clear h9 c6 c7
              go_upto_region 16 with fail
              go_quiet (fail)
              rename_i nq
              have hV9 := below_call hV2 (below_call hq (below_many (Below.refl w'.heap.size w') nq))
              go_wp2_with fail
              go_roundw
              case rel => exact ⟨j + 1, by go_num, by omega, by omega, hV9⟩
              case measure => simp [RowKit.intOf]; omega
            · subst h9
              have v1 : ¬ i2 ≤ i1 := by omega
              have v3 : decide (i2 ≤ i1) = false := decide_eq_false v1
              have hV8 := below_call hV2 hq
              go_upto_region 16 with fail
              replace hq := hq.drew
              obtain ⟨_, _, _, _, _, _, _⟩ := hk _ hq
              go_region_held3 (fun w' => w'.cell? ⟨W.heap.size, 0, none⟩ = some (.int .i64 m.w) ∧ w'.cell? ⟨W.heap.size + 1, 1, none⟩ = some (.int .i64 f.1) ∧ w'.cell? ⟨W.heap.size + 1, 2, none⟩ = some (.int .i64 f.2) ∧ w'.cell? ⟨g, o + kp * 2, none⟩ = some (.int .i64 ax) ∧ w'.cell? ⟨g, o + kp * 2 + 1, none⟩ = some (.int .i64 ay) ∧ w'.cell? ⟨g, o + j * 2, none⟩ = some (.int .i64 bx) ∧ w'.cell? ⟨g, o + j * 2 + 1, none⟩ = some (.int .i64 bY))
                (exact hk _ hq)
                (first
                  | (go_at_call 30; with_reducible refine (c6 _).mono ?_; rintro e w5 ⟨rfl, hb⟩; replace hq := below_call hq hb; clear hb)
                  | (go_at_call 30; with_reducible refine (c7 _).mono ?_; rintro e w5 ⟨rfl, hb⟩; replace hq := below_call hq hb; clear hb))
              have hV9 := below_call hV2 hq
              go_wp2_with fail
              go_roundw
              case rel => exact ⟨j + 1, by go_num, by omega, by omega, hV9⟩
              case measure => simp [RowKit.intOf]; omega
          · have e1 : ¬ (j : Int) < L.length := by omega
            go_wp2_with (go_at_call 10; with_reducible refine (ca _ hT.old).mono ?_; rintro e w6 ⟨rfl, hb⟩)
            go_ret
            exact ⟨rfl, below_call hT.old hb⟩

end Go.Proofs.YtoodnblhjopnlaaDoor
