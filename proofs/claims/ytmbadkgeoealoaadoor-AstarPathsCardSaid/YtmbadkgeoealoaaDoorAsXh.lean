/-
  What the reference of astar answers: Path.
-/
import Derived.Test.YtmbadkgeoealoaaDoorAsXg
namespace Go.Proofs.YtmbadkgeoealoaaDoor
open Go.RowKit Go.Lib

theorem PsAt.nil (W : World) : PsAt W (.slice none 0 0) [] := ⟨none, 0, rfl, Nat.zero_le _, Nat.zero_le _, fun h => by simp at h⟩
/-- What Path comes to. -/
inductive PathQ (m : M3) (bl : List Bool) (c : Int) (a b : Pt) : List Pt → Int → Int → Prop
  | arg : okA m c a b = false → PathQ m bl c a b [] 0 1
  | shut : okA m c a b = true → frA m bl c a b = false → PathQ m bl c a b [] 0 9
  | none (D : List Int) : okA m c a b = true → frA m bl c a b = true → IsDist (nb m bl c) m.cs.length (idx m b) D → ga D (idx m a) < 0 → PathQ m bl c a b [] 0 22
  | way (D : List Int) : okA m c a b = true → frA m bl c a b = true → IsDist (nb m bl c) m.cs.length (idx m b) D → 0 ≤ ga D (idx m a) → PathQ m bl c a b ((pathG (nb m bl c) D (idx m a)).map (posn m)) (ga D (idx m a)) 0
theorem PathQ.eq {m : M3} {bl : List Bool} {c : Int} {a b : Pt} {l k : List Pt} {n n' e e' : Int} (h : PathQ m bl c a b l n e) (h' : PathQ m bl c a b k n' e') : l = k ∧ n = n' ∧ e = e' := by
  cases h with
  | arg h1 => cases h' with
    | arg => exact ⟨rfl, rfl, rfl⟩
    | shut k1 => rw [h1] at k1; cases k1
    | none _ k1 => rw [h1] at k1; cases k1
    | way _ k1 => rw [h1] at k1; cases k1
  | shut h1 h2 => cases h' with
    | arg k1 => rw [h1] at k1; cases k1
    | shut => exact ⟨rfl, rfl, rfl⟩
    | none _ k1 k2 => rw [h2] at k2; cases k2
    | way _ k1 k2 => rw [h2] at k2; cases k2
  | none D h1 h2 h3 h4 => cases h' with
    | arg k1 => rw [h1] at k1; cases k1
    | shut k1 k2 => rw [h2] at k2; cases k2
    | none => exact ⟨rfl, rfl, rfl⟩
    | way D' k1 k2 k3 k4 => rw [h3.eq k3] at h4; omega
  | way D h1 h2 h3 h4 => cases h' with
    | arg k1 => rw [h1] at k1; cases k1
    | shut k1 k2 => rw [h2] at k2; cases k2
    | none D' k1 k2 k3 k4 => rw [h3.eq k3] at h4; omega
    | way D' k1 k2 k3 k4 => rw [h3.eq k3]; exact ⟨rfl, rfl, rfl⟩
/-- In none of the directions below d does the way go on. -/
def PreNo (m : M3) (bl : List Bool) (c : Int) (D : List Int) (u d : Nat) : Prop := (preD m bl c (posn m u) d).find? (fun x => decide (x.2 + ga D x.1 = ga D u)) = Option.none
theorem PreNo.no {m : M3} {bl : List Bool} {c : Int} {D : List Int} {u d : Nat} (h : PreNo m bl c D u d) (hm : mayv m bl c (posn m u).1 (posn m u).2 d = false) : PreNo m bl c D u (d + 1) := by
  unfold PreNo
  rw [preD_no hm]
  exact h
theorem PreNo.miss {m : M3} {bl : List Bool} {c : Int} {D : List Int} {u d i : Nat} {w : Int} (h : PreNo m bl c D u d) (hp : preD m bl c (posn m u) (d + 1) = preD m bl c (posn m u) d ++ [(i, w)]) (hx : ¬ w + ga D i = ga D u) : PreNo m bl c D u (d + 1) := by
  unfold PreNo at *
  rw [hp]
  exact find_miss h (decide_eq_false hx)
theorem PreNo.hit {m : M3} {bl : List Bool} {c : Int} {D : List Int} {u d i : Nat} {w : Int} (h : PreNo m bl c D u d) (hd : d < 8) (hu : u < m.cs.length) (hp : preD m bl c (posn m u) (d + 1) = preD m bl c (posn m u) d ++ [(i, w)]) (hx : w + ga D i = ga D u) : nextG (nb m bl c) D u = some (i, w) := by
  have h1 : (preD m bl c (posn m u) (d + 1)).find? (fun x => decide (x.2 + ga D x.1 = ga D u)) = some (i, w) := by
    rw [hp]
    exact find_hit h (decide_eq_true hx)
  unfold nextG
  rw [← preD_all hu]
  exact find_pre ((nbGo_pre m bl c (posn m u) (show d + 1 ≤ 8 by omega)).map _) h1
theorem PreNo.all {m : M3} {bl : List Bool} {c : Int} {D : List Int} {u : Nat} (h : PreNo m bl c D u 8) (hu : u < m.cs.length) : nextG (nb m bl c) D u = Option.none := by
  unfold nextG
  rw [← preD_all hu]
  exact h
theorem far_mu {m : M3} {D : List Int} {w : World} {b : Nat} {p : Pt} {t : TypeId} (h : Blk w b (ptL p) t) : farAt m D b w = (ga D (idx m p)).toNat := by
  unfold farAt
  rw [h.cell 0, h.cell 1]
  rfl

set_option maxRecDepth 100000 in
set_option maxHeartbeats 16000000 in
theorem r14path_b (m : M3) (sp : Option Addr) (sn sk : Nat) (bl : List Bool) (lp : Option Addr) (ln lk : Nat) (c : Int) (a b : Pt) (W : World) (hh : HighAt m) (hrow : RowAt W (.slice sp sn sk) m.cs) (hbit : BitsAt W (.slice lp ln lk) bl) :
    Calls Tryd.prog 16 #[.agg #[.int .i64 m.w, .int .i64 m.h, .slice sp sn sk], .slice lp ln lk, .int .i64 c, .agg #[.int .i64 a.1, .int .i64 a.2], .agg #[.int .i64 b.1, .int .i64 b.2]] W fun e w' => Below W.heap.size W w' ∧ ∃ v ps n er, e = .returned (.tuple #[v, .int .i64 n, .int .i64 er]) ∧ PsAt w' v ps ∧ PathQ m bl c a b ps n er := by
  obtain ⟨i1', hj0, hy0, hy1, hy2⟩ := info_cut infoPosA
  obtain ⟨x1, h1⟩ : ∃ x1, Hid (x1 = validm m) := ⟨_, hid rfl⟩
  obtain ⟨x2, h2⟩ : ∃ x2, Hid (x2 = classv c) := ⟨_, hid rfl⟩
  obtain ⟨x3, h3⟩ : ∃ x3, Hid (x3 = insp m a) := ⟨_, hid rfl⟩
  obtain ⟨x4, h4⟩ : ∃ x4, Hid (x4 = insp m b) := ⟨_, hid rfl⟩
  obtain ⟨x5, h5⟩ : ∃ x5, Hid (x5 = openv m bl c a.1 a.2) := ⟨_, hid rfl⟩
  obtain ⟨x6, h6⟩ : ∃ x6, Hid (x6 = openv m bl c b.1 b.2) := ⟨_, hid rfl⟩
  have hokk : Hid (okA m c a b = (x1 && x2 && x3 && x4)) := hid (by unfold okA; rw [h1.out, h2.out, h3.out, h4.out])
  have hfrr : Hid (frA m bl c a b = (x5 && x6)) := hid (by unfold frA; rw [h5.out, h6.out])
  have hK := ((((Keep.nil W).alloc [.int .i64 m.w, .int .i64 m.h, .slice sp sn sk] 24).alloc [.int .i64 a.1, .int .i64 a.2] 27).alloc [.int .i64 b.1, .int .i64 b.2] 27)
  simp only [World.size_alloc] at hK
  go_enter Tryd.func16, Tryd.ntmps16
  go_upto_region 1 with fail
  obtain ⟨X, hX⟩ : ∃ X, X = ((W.alloc (.cells [Value.int .i64 m.w, .int .i64 m.h, .slice sp sn sk].toArray 24)).alloc (.cells [Value.int .i64 a.1, .int .i64 a.2].toArray 27)).alloc (.cells [Value.int .i64 b.1, .int .i64 b.2].toArray 27) := ⟨_, rfl⟩
  rw [← hX] at hK ⊢
  clear hX
  obtain ⟨k2, e2⟩ : ∃ k2, Hid (k2 = W.heap.size + 1 + 1) := ⟨_, hid rfl⟩
  obtain ⟨k1, e1⟩ : ∃ k1, Hid (k1 = W.heap.size + 1) := ⟨_, hid rfl⟩
  obtain ⟨k0, e0⟩ : ∃ k0, Hid (k0 = W.heap.size) := ⟨_, hid rfl⟩
  have zm : Blk X k0 [.int .i64 m.w, .int .i64 m.h, .slice sp sn sk] 24 := (hK.blks (W.heap.size, [.int .i64 m.w, .int .i64 m.h, .slice sp sn sk], 24) (by simp)).at e0.out.symm
  have za : Blk X k1 (ptL a) 27 := (hK.blks (W.heap.size + 1, ptL a, 27) (by simp)).at e1.out.symm
  have zb : Blk X k2 (ptL b) 27 := (hK.blks (W.heap.size + 1 + 1, ptL b, 27) (by simp)).at e2.out.symm
  have hW := hK.old
  rw [← e2.out, ← e1.out]
  rw [← e0.out]
  clear hK
  have m0 := zm.cell 0
  have m1 := zm.cell 1
  have m2 := zm.cell 2
  have a0 := za.cell 0
  have a1 := za.cell 1
  have b0 := zb.cell 0
  have b1 := zb.cell 1
  simp only [List.getElem?_cons_zero, List.getElem?_cons_succ] at m0 m1 m2 a0 a1 b0 b1
  go_wp2_with fail
  ((with_reducible refine (rvalidm_c m (.slice sp sn sk) x1 X (hrow.below hW) h1).mono ?_); rintro e w1 ⟨rfl, hb1⟩)
  replace zm := zm.below hb1
  replace za := za.below hb1
  replace zb := zb.below hb1
  replace hW := below_call hW hb1
  clear hb1 m0 m1 m2 a0 a1 b0 b1
  cases x1 with
  | false =>
    have hq : PathQ m bl c a b [] 0 1 := .arg hokk.out
    clear hokk hfrr
    go_wp2_with fail
    first | go_ret3 | (go_ret3; skip)
    exact ⟨hW, _, [], _, _, rfl, PsAt.nil _, hq⟩
  | true =>
    have m0 := zm.cell 0
    have m1 := zm.cell 1
    have m2 := zm.cell 2
    have a0 := za.cell 0
    have a1 := za.cell 1
    have b0 := zb.cell 0
    have b1 := zb.cell 1
    simp only [List.getElem?_cons_zero, List.getElem?_cons_succ] at m0 m1 m2 a0 a1 b0 b1
    go_wp2_with fail
    ((with_reducible refine (r14class_b c x2 w1 h2).mono ?_); rintro e w2 ⟨rfl, hb2⟩)
    replace zm := zm.below hb2
    replace za := za.below hb2
    replace zb := zb.below hb2
    replace hW := below_call hW hb2
    clear hb2 m0 m1 m2 a0 a1 b0 b1
    cases x2 with
    | false =>
      have hq : PathQ m bl c a b [] 0 1 := .arg hokk.out
      clear hokk hfrr
      go_wp2_with fail
      first | go_ret3 | (go_ret3; skip)
      exact ⟨hW, _, [], _, _, rfl, PsAt.nil _, hq⟩
    | true =>
      have m0 := zm.cell 0
      have m1 := zm.cell 1
      have m2 := zm.cell 2
      have a0 := za.cell 0
      have a1 := za.cell 1
      have b0 := zb.cell 0
      have b1 := zb.cell 1
      simp only [List.getElem?_cons_zero, List.getElem?_cons_succ] at m0 m1 m2 a0 a1 b0 b1
      go_wp2_with fail
      ((with_reducible refine (r14inside_b m (.slice sp sn sk) a x3 w2 h3).mono ?_); rintro e w3 ⟨rfl, hb3⟩)
      replace zm := zm.below hb3
      replace za := za.below hb3
      replace zb := zb.below hb3
      replace hW := below_call hW hb3
      clear hb3 m0 m1 m2 a0 a1 b0 b1
      cases x3 with
      | false =>
        have hq : PathQ m bl c a b [] 0 1 := .arg hokk.out
        clear hokk hfrr
        go_wp2_with fail
        first | go_ret3 | (go_ret3; skip)
        exact ⟨hW, _, [], _, _, rfl, PsAt.nil _, hq⟩
      | true =>
        have m0 := zm.cell 0
        have m1 := zm.cell 1
        have m2 := zm.cell 2
        have a0 := za.cell 0
        have a1 := za.cell 1
        have b0 := zb.cell 0
        have b1 := zb.cell 1
        simp only [List.getElem?_cons_zero, List.getElem?_cons_succ] at m0 m1 m2 a0 a1 b0 b1
        go_wp2_with fail
        ((with_reducible refine (r14inside_b m (.slice sp sn sk) b x4 w3 h4).mono ?_); rintro e w4 ⟨rfl, hb4⟩)
        replace zm := zm.below hb4
        replace za := za.below hb4
        replace zb := zb.below hb4
        replace hW := below_call hW hb4
        clear hb4 m0 m1 m2 a0 a1 b0 b1
        cases x4 with
        | false =>
          have hq : PathQ m bl c a b [] 0 1 := .arg hokk.out
          clear hokk hfrr
          go_wp2_with fail
          first | go_ret3 | (go_ret3; skip)
          exact ⟨hW, _, [], _, _, rfl, PsAt.nil _, hq⟩
        | true =>
          have hok1 : okA m c a b = true := hokk.out
          have m0 := zm.cell 0
          have m1 := zm.cell 1
          have m2 := zm.cell 2
          have a0 := za.cell 0
          have a1 := za.cell 1
          have b0 := zb.cell 0
          have b1 := zb.cell 1
          simp only [List.getElem?_cons_zero, List.getElem?_cons_succ] at m0 m1 m2 a0 a1 b0 b1
          go_wp2_with fail
          ((with_reducible refine (r14free_b m (.slice sp sn sk) bl (.slice lp ln lk) c a x5 w4 (hrow.below hW) (hbit.below hW) h5).mono ?_); rintro e w5 ⟨rfl, hb5⟩)
          replace zm := zm.below hb5
          replace za := za.below hb5
          replace zb := zb.below hb5
          replace hW := below_call hW hb5
          clear hb5 m0 m1 m2 a0 a1 b0 b1
          cases x5 with
          | false =>
            have hq : PathQ m bl c a b [] 0 9 := .shut hok1 hfrr.out
            clear hokk hfrr
            go_wp2_with fail
            first | go_ret3 | (go_ret3; skip)
            exact ⟨hW, _, [], _, _, rfl, PsAt.nil _, hq⟩
          | true =>
            have m0 := zm.cell 0
            have m1 := zm.cell 1
            have m2 := zm.cell 2
            have a0 := za.cell 0
            have a1 := za.cell 1
            have b0 := zb.cell 0
            have b1 := zb.cell 1
            simp only [List.getElem?_cons_zero, List.getElem?_cons_succ] at m0 m1 m2 a0 a1 b0 b1
            go_wp2_with fail
            ((with_reducible refine (r14free_b m (.slice sp sn sk) bl (.slice lp ln lk) c b x6 w5 (hrow.below hW) (hbit.below hW) h6).mono ?_); rintro e w6 ⟨rfl, hb6⟩)
            replace zm := zm.below hb6
            replace za := za.below hb6
            replace zb := zb.below hb6
            replace hW := below_call hW hb6
            clear hb6 m0 m1 m2 a0 a1 b0 b1
            cases x6 with
            | false =>
              have hq : PathQ m bl c a b [] 0 9 := .shut hok1 hfrr.out
              clear hokk hfrr
              go_wp2_with fail
              first | go_ret3 | (go_ret3; skip)
              exact ⟨hW, _, [], _, _, rfl, PsAt.nil _, hq⟩
            | true =>
              have hfr1 : frA m bl c a b = true := hfrr.out
              have hf := valid_formed14 h1.out.symm
              have hbt : Hid (true = (validm m && classv c && insp m b)) := hid (by rw [← h1.out, ← h2.out, ← h4.out]; rfl)
              obtain ⟨hpa, hla, _⟩ := posn_idx hf h3.out.symm
              obtain ⟨hpb, hlb, _⟩ := posn_idx hf h4.out.symm
              obtain ⟨n, hn⟩ : ∃ n, Hid (m.cs.length = n) := ⟨_, hid rfl⟩
              have hn2 : n ≤ 1024 := by rw [← hn.out]; exact formed_len hf
              have ok := nb_ok hf bl c
              rw [hn.out] at hla hlb ok
              have m0 := zm.cell 0
              have m1 := zm.cell 1
              have m2 := zm.cell 2
              have a0 := za.cell 0
              have a1 := za.cell 1
              have b0 := zb.cell 0
              have b1 := zb.cell 1
              simp only [List.getElem?_cons_zero, List.getElem?_cons_succ] at m0 m1 m2 a0 a1 b0 b1
              go_wp2_with fail
              ((with_reducible refine (r14reach_b m sp sn sk bl lp ln lk c b true w6 hh (hrow.below hW) (hbit.below hW) hbt).mono ?_); rintro e V ⟨vE, D, rfl, hE, hb7, -, hRE⟩)
              have zmV := zm.below hb7
              have zaV := za.below hb7
              have zbV := zb.below hb7
              replace hW := below_call hW hb7
              have hdist : IsDist (nb m bl c) n (idx m b) D := by
                have h := hRE.yes rfl
                unfold Dst at h
                rw [hpb, ← h6.out, if_pos rfl, hn.out] at h
                exact h
              have hDn := hRE.num
              have hEl := hdist.len
              obtain ⟨pE, cE, rfl, -, hEc⟩ := hE
              rw [hEl] at hEc ⊢
              obtain ⟨g, rfl, hgV, hEc⟩ := hEc (by omega)
              clear hb7 m0 m1 m2 a0 a1 b0 b1 hRE zm za zb hbt h5 h6 hokk hfrr
              obtain ⟨ia, hia⟩ : ∃ ia, Hid (ia = idx m a) := ⟨_, hid rfl⟩
              obtain ⟨ib, hib'⟩ : ∃ ib, Hid (ib = idx m b) := ⟨_, hid rfl⟩
              obtain ⟨ia', hia1, hia2, na3, na4⟩ := r14idx (m := m) (x := a.1) (y := a.2) (by unfold insidev; rw [hf]; exact h3.out.symm)
              have hiaa : ia' = ia := by rw [hia.out]; unfold idx; rw [← hia2.out]; rfl
              subst hiaa
              have hib : ib < n := by rw [hib'.out]; exact hlb
              rw [← hib'.out] at hdist
              have hpa' : Hid (a = posn m ia') := hid (by rw [hia.out]; exact hpa.symm)
              have hpb' : Hid (b = posn m ib) := hid (by rw [hib'.out]; exact hpb.symm)
              have hian : ia' < n := by rw [hia.out]; exact hla
              have cA := hEc ia' (by omega)
              obtain ⟨tot, htot⟩ : ∃ tot, Hid (tot = ga D ia') := ⟨_, hid rfl⟩
              rw [← htot.out] at cA
              replace hEc := hid hEc
              have a0' : (0 : Int) ≤ (ia' : Int) := by omega
              have a1' : (ia' : Int) < (n : Int) := by omega
              clear h1 h2 h3 h4 hpa hpb hla hlb hia2 hia1
              have zm := zmV
              have za := zaV
              have zb := zbV
              have m0 := zm.cell 0
              have m1 := zm.cell 1
              have m2 := zm.cell 2
              have a0 := za.cell 0
              have a1 := za.cell 1
              have b0 := zb.cell 0
              have b1 := zb.cell 1
              simp only [List.getElem?_cons_zero, List.getElem?_cons_succ] at m0 m1 m2 a0 a1 b0 b1
              by_cases htl : tot < 0
              · have v1 : decide (tot < 0) = true := decide_eq_true htl
                have hq : PathQ m bl c a b [] 0 22 := .none D hok1 hfr1 (by rw [← hib'.out, hn.out]; exact hdist) (by rw [← hia.out, ← htot.out]; exact htl)
                clear htot htl hia hib' hdist
                go_wp2_with fail
                go_ret3
                exact ⟨hW, _, [], _, _, rfl, PsAt.nil _, hq⟩
              · have v1 : decide (tot < 0) = false := decide_eq_false htl
                obtain ⟨P, hP⟩ : ∃ P, Hid (P = pathG (nb m bl c) D ia') := ⟨_, hid rfl⟩
                have hq : PathQ m bl c a b (P.map (posn m)) tot 0 := by
                  have h := PathQ.way (m := m) (bl := bl) (c := c) (a := a) (b := b) D hok1 hfr1 (by rw [← hib'.out, hn.out]; exact hdist) (by rw [← hia.out, ← htot.out]; omega)
                  rw [← hia.out, ← htot.out, ← hP.out] at h
                  exact h
                have ht0 : 0 ≤ ga D ia' := by rw [← htot.out]; omega
                have hPl : P.length ≤ 30001 := by
                  have h1 := (path_run ok hib hdist (ga D ia').toNat ia' ht0 (by omega)).2.2
                  have := (hDn ia').2
                  rw [hP.out]; omega
                go_upto_region 10 with fail
                have hb8 := (Below.refl V.heap.size V).alloc (Nat.le_refl _) (.cells [Value.int .i64 a.1, .int .i64 a.2].toArray 27)
                have hown0 : (V.alloc (.cells [Value.int .i64 a.1, .int .i64 a.2].toArray 27)).ownsRow V.heap.size 27 2 (.slice (some ⟨V.heap.size, 0, none⟩) 1 1) 1 [.int .i64 a.1, .int .i64 a.2] := World.ownsRow_lit V _ 1 (Nat.le_refl _) (by unfold maxLen; omega) rfl
                obtain ⟨V1, hV1⟩ : ∃ V1, V1 = V.alloc (.cells [Value.int .i64 a.1, .int .i64 a.2].toArray 27) := ⟨_, rfl⟩
                have hV1s : Hid (V1.heap.size = V.heap.size + 1) := hid (by rw [hV1]; simp)
                rw [← hV1] at hb8 hown0 ⊢
                clear hV1 m0 m1 m2 a0 a1 b0 b1
                replace zm := zm.below hb8
                replace za := za.below hb8
                replace zb := zb.below hb8
                have m0 := zm.cell 0
                have m1 := zm.cell 1
                have m2 := zm.cell 2
                have a0 := za.cell 0
                have a1 := za.cell 1
                have b0 := zb.cell 0
                have b1 := zb.cell 1
                simp only [List.getElem?_cons_zero, List.getElem?_cons_succ] at m0 m1 m2 a0 a1 b0 b1
                go_upto_region 12 with fail
                have hb9 := (Below.refl V1.heap.size V1).alloc (Nat.le_refl _) (.cells (ptL a).toArray 27)
                have zp := Blk.new V1 (ptL a) 27
                obtain ⟨pb, hpb⟩ : ∃ pb, Hid (pb = V1.heap.size) := ⟨_, hid rfl⟩
                obtain ⟨V2, hV2⟩ : ∃ V2, V2 = V1.alloc (.cells (ptL a).toArray 27) := ⟨_, rfl⟩
                have hV2s : Hid (V2.heap.size = V1.heap.size + 1) := hid (by rw [hV2]; simp)
                rw [show V1.alloc (.cells #[Value.int .i64 a.1, .int .i64 a.2] 27) = V2 from hV2.symm]
                rw [← hV2] at hb9 zp
                rw [← hpb.out] at zp ⊢
                have hVpb : V.heap.size ≤ pb := by have := hV1s.out; rw [hpb.out]; omega
                have hpbV2 : pb < V2.heap.size := by have := hV2s.out; rw [hpb.out]; omega
                have hVb := below_call hb8 hb9
                have hown1 := own_below hown0 hb9
                obtain ⟨vs0, hvs0⟩ : ∃ vs0, vs0 = Value.slice (some ⟨V.heap.size, 0, none⟩) 1 1 := ⟨_, rfl⟩
                have hnb0 : ∀ j, vs0.ownBlock = some j → j ≠ pb := fun j hj => by
                  rw [hvs0] at hj
                  simp only [Value.ownBlock, Option.some.injEq] at hj
                  have := hV1s.out
                  rw [hpb.out]
                  omega
                rw [← hvs0] at hown1 ⊢
                clear hvs0 hV2 hb8 hb9 hown0 m0 m1 m2 a0 a1 b0 b1 zm za zb hV2s hV1s
                have hrow0 : V2.ownsRow V.heap.size 27 2 vs0 (([] : List Nat).length + 1) (pls m ([] ++ [ia'])) := by
                  have e : ([.int .i64 a.1, .int .i64 a.2] : List Value) = pls m ([] ++ [ia']) := by rw [hpa'.out]; rfl
                  rw [← e]
                  exact hown1
                have hP0 : Hid (P = [] ++ pathG (nb m bl c) D ia') := hid (by rw [hP.out]; rfl)
                go_loopw [15, 17] (fun vs vd wr => ∃ (pre : List Nat) (u d : Nat) (p : Pt), vd = .int .i64 d ∧ d ≤ 8 ∧ wr.ownsRow V.heap.size 27 2 vs (pre.length + 1) (pls m (pre ++ [u])) ∧ (∀ j, vs.ownBlock = some j → j ≠ pb) ∧ Blk wr pb (ptL p) 27 ∧ Below V.heap.size V wr ∧ pb < wr.heap.size ∧ u < n ∧ 0 ≤ ga D u ∧ Hid (P = pre ++ pathG (nb m bl c) D u) ∧ Hid (PreNo m bl c D u d) ∧ Hid (p = posn m u)) (fun _ vd wr => 9 * farAt m D pb wr + (8 - (RowKit.intOf vd).toNat))
                case atStart => exact ⟨[], ia', 0, a, rfl, by omega, hrow0, hnb0, zp, hVb, hpbV2, hian, ht0, hP0, hid rfl, hpa'⟩
                case round =>
                  clear hrow0 hnb0 zp hVb hpbV2 hown1 ht0 hP0
                  obtain ⟨pre, u, d, p, rfl, hd8, hown, hnb, zp, hV, hps, hu, hu0, hP, hno, hp⟩ := hrel
                  have hmu := far_mu (D := D) (m := m) zp
                  have zmW := zmV.below hV
                  have zaW := zaV.below hV
                  have zbW := zbV.below hV
                  have b0 := zbW.cell 0
                  have b1 := zbW.cell 1
                  have p0 := zp.cell 0
                  have p1 := zp.cell 1
                  simp only [List.getElem?_cons_zero, List.getElem?_cons_succ] at b0 b1 p0 p1
                  by_cases hub : u = ib
                  · have hpb2 : p = b := by rw [hp.out, hub, ← hpb'.out]
                    have hPP : P = pre ++ [u] := by rw [hP.out, hub, path_goal ok hib hdist]
                    subst hpb2
                    have hps9 := PsAt.any hown (by rw [List.length_append]; rfl)
                    rw [← hPP] at hps9
                    have hW9 := below_call hW hV
                    clear hno hP hp hub hPP hmu
                    go_wp2_with fail
                    go_ret3
                    exact ⟨hW9, _, _, _, _, rfl, hps9, hq⟩
                  · have hnx := next_there ok hib hdist hu0 hub
                    have hd : d < 8 := Nat.lt_of_le_of_ne hd8 (fun e => by
                      subst e
                      obtain ⟨q', w', h1, _⟩ := hnx
                      rw [hno.out.all (by rw [hn.out]; exact hu)] at h1
                      cases h1)
                    have z9 : decide ((d : Int) < 8) = true := decide_eq_true (by omega)
                    have hne : p ≠ b := fun e => hub (by
                      have h := e
                      rw [hp.out, hpb'.out] at h
                      have h1 := congrArg (idx m) h
                      rw [(idx_posn hf (by rw [hn.out]; exact hu)).1, (idx_posn hf (by rw [hn.out]; exact hib)).1] at h1
                      exact h1)
                    obtain ⟨kw, hkw⟩ : ∃ kw, Hid (kw = costv m bl c p.1 p.2 d) := ⟨_, hid rfl⟩
                    obtain ⟨b5, hb5'⟩ : ∃ b5, Hid (b5 = mayv m bl c p.1 p.2 d) := ⟨_, hid rfl⟩
                    obtain ⟨qx, hqx⟩ : ∃ qx, Hid (qx = stx p.1 d) := ⟨_, hid rfl⟩
                    obtain ⟨qy, hqy⟩ : ∃ qy, Hid (qy = sty p.2 d) := ⟨_, hid rfl⟩
                    have hWw := below_call hW hV
                    have cs := rcost_b m (.slice sp sn sk) bl (.slice lp ln lk) c p.1 p.2 d b5 kw wr hh (hrow.below hWw) (hbit.below hWw) hb5' hkw
                    have m0 := zmW.cell 0
                    have m1 := zmW.cell 1
                    have m2 := zmW.cell 2
                    simp only [List.getElem?_cons_zero, List.getElem?_cons_succ] at m0 m1 m2
                    have a0 := zaW.cell 0
                    have a1 := zaW.cell 1
                    have hpu : Hid (idx m p = u) := hid (by rw [hp.out]; exact (idx_posn hf (by rw [hn.out]; exact hu)).1)
                    clear hnx hub hWw
                    by_cases c1 : p.1 = b.1
                    · have c2 : ¬ p.2 = b.2 := fun e => hne (Prod.ext c1 e)
                      have t1 : (p.1 == b.1) = true := beq_iff_eq.2 c1
                      have t2 : (p.2 == b.2) = false := beq_eq_false_iff_ne.2 c2
                      clear hne c1 c2
                      go_wp2_with fail
                      ((with_reducible refine cs.mono ?_); rintro e w3 ⟨rfl, hb3⟩)
                      replace zp := zp.below hb3
                      replace hown := own_below hown hb3
                      have hV3 := below_call hV hb3
                      have hps3 : pb < w3.heap.size := by have := hb3.size; omega
                      have hbe := r14beside_b p d qx qy w3 hqx hqy
                      have p0 := zp.cell 0
                      have p1 := zp.cell 1
                      simp only [List.getElem?_cons_zero, List.getElem?_cons_succ] at p0 p1
                      clear hb3 cs m0 m1 m2 a0 a1 b0 b1
                      go_upto_region 15 with (go_at_call 55; refine hbe.mono ?_; rintro e w4 ⟨rfl, hb4⟩)
                      have hqn0 : ∀ j, u15.ownBlock = some j → j < w4.heap.size := fun j hj => Nat.lt_of_lt_of_le (hown.lt j hj).2 hb4.size
                      have hb5 := hb4.alloc hb4.size (.cells (ptL (qx, qy)).toArray 27)
                      have zq := Blk.new w4 (ptL (qx, qy)) 27
                      replace zp := zp.below hb5
                      replace hown := own_below hown hb5
                      replace hV3 := below_call hV3 hb5
                      have hps4 : pb < w4.heap.size := by have := hb4.size; omega
                      obtain ⟨Y, hY⟩ : ∃ Y, Y = w4.alloc (.cells #[Value.int .i64 qx, .int .i64 qy] 27) := ⟨_, rfl⟩
                      rw [← hY]
                      rw [show w4.alloc (.cells (ptL (qx, qy)).toArray 27) = Y from hY.symm] at zp zq hown hV3 hb5
                      have hYs : Y.heap.size = w4.heap.size + 1 := by rw [hY]; simp
                      clear hY hb4 p0 p1 hbe
                      obtain ⟨qb, hqb⟩ : ∃ qb, Hid (qb = w4.heap.size) := ⟨_, hid rfl⟩
                      have hqpb : pb < qb := by rw [hqb.out]; exact hps4
                      have hqY : qb < Y.heap.size := by rw [hqb.out, hYs]; omega
                      have hqn : ∀ j, u15.ownBlock = some j → j ≠ qb := fun j hj => by have := hqn0 j hj; rw [hqb.out]; omega
                      rw [← hqb.out] at zq ⊢
                      clear hYs hps4 hps3 hb5
                      have y0 := zq.cell 0
                      have y1 := zq.cell 1
                      have p0 := zp.cell 0
                      have p1 := zp.cell 1
                      have m0 := (zmV.below hV3).cell 0
                      simp only [List.getElem?_cons_zero, List.getElem?_cons_succ] at y0 y1 p0 p1 m0
                      have nadd : IntKind.i64.wrap ((d : Int) + 1) = ((d + 1 : Nat) : Int) := by rw [IntWalk.i64_in _ (by omega)]; simp
                      cases b5 with
                      | false =>
                        have hN := hid (hno.out.no (by rw [← hp.out]; exact hb5'.out.symm))
                        clear hb5' hkw hno
                        go_wp2_with fail
                        go_quiet (fail)
                        have zpN := zp.drewN nq
                        have hmuN := far_mu (D := D) (m := m) zpN
                        go_wp2_with fail
                        have hadd : Value.int .i64 ((d : Int) + 1) = Value.int .i64 ((d + 1 : Nat) : Int) := by push_cast; rfl
                        exact ⟨⟨pre, u, d + 1, p, hadd, by omega, own_drewN hown nq, hnb, zpN, below_many hV3 nq, by show pb < Y.heap.size; omega, hu, hu0, hP, hN, hp⟩, by rw [hmu, hmuN]; simp [RowKit.intOf]; omega⟩
                      | true =>
                        have hmay := hb5'.out.symm
                        have hin : insidev m qx qy = true := by
                          unfold insidev
                          rw [hf, hqx.out, hqy.out, (may_in hmay).1]
                          rfl
                        obtain ⟨i, hi, hix, n3, n4⟩ := r14idx hin
                        rw [hn.out] at hi
                        have hidx : idx m (stx p.1 d, sty p.2 d) = i := by unfold idx; rw [← hqx.out, ← hqy.out, ← hix.out]; rfl
                        have hun : u < m.cs.length := by rw [hn.out]; exact hu
                        have hinp : insidev m p.1 p.2 = true := by
                          have h := (idx_posn hf hun).2
                          rw [← hp.out] at h
                          unfold insidev
                          rw [hf]
                          exact h
                        obtain ⟨u', _, hu2, n5, n6⟩ := r14idx hinp
                        have hu' : u' = u := by
                          have e := hpu.out
                          unfold idx at e
                          rw [← hu2.out] at e
                          exact e
                        rw [hu'] at n6
                        clear hu2 hu' hinp
                        have hpre : preD m bl c (posn m u) (d + 1) = preD m bl c (posn m u) d ++ [(i, kw)] := by
                          have := preD_yes (m := m) (bl := bl) (c := c) (p := p) (d := d) hmay
                          rw [hidx, ← hkw.out, hp.out] at this
                          exact this
                        have hqi : (qx, qy) = posn m i := by rw [← hidx, hqx.out, hqy.out]; exact (posn_idx hf (show insp m (stx p.1 d, sty p.2 d) = true from (may_in hmay).1)).1.symm
                        have hwx := (nbp_w (m := m) (bl := bl) (c := c) (p := p) (x := ((stx p.1 d, sty p.2 d), costv m bl c p.1 p.2 d)) (mem_nbGo.2 ⟨d, hd, hmay, rfl⟩))
                        dsimp only at hwx
                        rw [← hkw.out] at hwx
                        have cI := hEc.out i (by omega)
                        have cU := hEc.out u (by omega)
                        rw [← hV3.cell (p := ⟨g, _, none⟩) hgV] at cI cU
                        obtain ⟨x, hx⟩ : ∃ x, Hid (x = ga D i) := ⟨_, hid rfl⟩
                        obtain ⟨y, hy⟩ : ∃ y, Hid (y = ga D u) := ⟨_, hid rfl⟩
                        rw [← hx.out] at cI
                        rw [← hy.out] at cU
                        have hyb : -1 ≤ y ∧ y ≤ 30000 := by rw [hy.out]; exact hDn u
                        have nsub : IntKind.i64.wrap (y - kw) = y - kw := IntWalk.i64_in _ (by omega)
                        have i0 : (0 : Int) ≤ (i : Int) := by omega
                        have i1 : (i : Int) < (n : Int) := by omega
                        have u0 : (0 : Int) ≤ (u : Int) := by omega
                        have u1 : (u : Int) < (n : Int) := by omega
                        by_cases hxy : x = y - kw
                        · have v1 : (x == y - kw) = true := beq_iff_eq.2 hxy
                          have hnx : nextG (nb m bl c) D u = some (i, kw) := hno.out.hit hd (by rw [hn.out]; exact hu) hpre (by rw [← hx.out, ← hy.out, hxy]; omega)
                          obtain ⟨s1, s2, s3⟩ := path_step ok hib hdist hu0 hnx
                          have hPn := hid (show P = (pre ++ [u]) ++ pathG (nb m bl c) D i by rw [hP.out, s1, List.append_assoc]; rfl)
                          have hPlen : pre.length + 2 ≤ P.length := by
                            obtain ⟨t, ht⟩ := path_head (nb := nb m bl c) D i
                            rw [hPn.out, ht, List.length_append, List.length_append]; simp; omega
                          have hpi : Hid ((qx, qy) = posn m i) := hid hqi
                          clear hkw hno hqi hidx hpre hmay hb5' hix hun hxy hx hy hqx hqy hnx
                          go_wp2_with fail
                          go_quiet (fail)
                          obtain ⟨Z1, hZ1⟩ : ∃ Z1, Z1 = Y.drewN nq := ⟨_, rfl⟩
                          have zqN := zq.drewN nq
                          have zpN := zp.drewN nq
                          have hVN := below_many hV3 nq
                          have hownN := own_drewN hown nq
                          have hpY : pb < (Y.drewN nq).heap.size ∧ qb < (Y.drewN nq).heap.size := ⟨(by show pb < Y.heap.size; omega), hqY⟩
                          rw [← hZ1] at zqN zpN hVN hownN hpY ⊢
                          clear hZ1 zq zp hV3 hown y0 y1 p0 p1 m0 cI cU
                          obtain ⟨X2, hX2⟩ : ∃ X2, X2 = Z1.alloc (.cells [Value.int .i64 qx, .int .i64 qy].toArray 27) := ⟨_, rfl⟩
                          have hb6 : Below Z1.heap.size Z1 X2 := by rw [hX2]; exact (Below.refl _ _).alloc (Nat.le_refl _) _
                          have hX2s : X2.heap.size = Z1.heap.size + 1 := by rw [hX2]; simp
                          obtain ⟨v', W', hrun, hown3, hg, hwh⟩ := app_where (P := Tryd.prog) X2 V.heap.size 32 32 27 i1' (.agg #[.int .i64 0, .int .i64 0]) 2 16 Tryd.underlying32 hj0 hy0 hy1 hy2 rfl (by decide) u15 _ _ (own_below hownN hb6) ⟨Z1.heap.size, 0, none⟩ 1 [.int .i64 qx, .int .i64 qy] rfl
                            (by rw [hX2]; exact cells_new) (posCells _ _) (by unfold maxLen; omega) (by omega) (by have := hVN.size; omega)
                          have yp := (zpN.below hb6).grown hg (fun k hk e => hnb k hk e.symm)
                          have hW3 : Below V.heap.size V W' := (below_call hVN hb6).grown hg (by have := hVN.size; omega) (fun j hj => (hownN.lt j hj).1)
                          have hnb' : ∀ j, v'.ownBlock = some j → j ≠ pb := fun j hj => by
                            rcases hwh j hj with h | h
                            · exact hnb j h
                            · omega
                          have hWs : pb < W'.heap.size := by have := hg.size; omega
                          have hrow : W'.ownsRow V.heap.size 27 2 v' ((pre ++ [u]).length + 1) (pls m ((pre ++ [u]) ++ [i])) := by
                            have h1 := hown3
                            have e : ([.int .i64 qx, .int .i64 qy] : List Value) = [.int .i64 (posn m i).1, .int .i64 (posn m i).2] := by rw [← hpi.out]
                            rw [e, pls_snoc] at h1
                            rw [List.length_append]
                            exact h1
                          have hfin : ((W'.setCell ⟨pb, 0, none⟩ (.int .i64 qx)).setCell ⟨pb, 1, none⟩ (.int .i64 qy)).ownsRow V.heap.size 27 2 v' ((pre ++ [u]).length + 1) (pls m ((pre ++ [u]) ++ [i])) :=
                            own_other (own_other hrow ⟨pb, 0, none⟩ _ hnb') ⟨pb, 1, none⟩ _ hnb'
                          have f1 : Blk ((W'.setCell ⟨pb, 0, none⟩ (.int .i64 qx)).setCell ⟨pb, 1, none⟩ (.int .i64 qy)) pb (ptL (qx, qy)) 27 := yp.put2 _ _
                          have f2 : Below V.heap.size V ((W'.setCell ⟨pb, 0, none⟩ (.int .i64 qx)).setCell ⟨pb, 1, none⟩ (.int .i64 qy)) := (hW3.setCell (p := ⟨pb, 0, none⟩) hVpb _).setCell (p := ⟨pb, 1, none⟩) hVpb _
                          have hmu2 := far_mu (D := D) (m := m) f1
                          have hq2 : idx m (qx, qy) = i := by rw [hpi.out]; exact (idx_posn hf (by rw [hn.out]; exact hi)).1
                          have yqX := (zqN.below hb6).grown hg (fun k hk e => hqn k hk e.symm)
                          have y0 := zqN.cell 0
                          have y1 := zqN.cell 1
                          obtain ⟨_, _, _, _⟩ := yp.two
                          have z0 := yqX.cell 0
                          have z1 := yqX.cell 1
                          simp only [List.getElem?_cons_zero, List.getElem?_cons_succ] at y0 y1 z0 z1
                          clear yp hown3 hrow zpN zqN yqX hb6 hg hVN hownN
                          go_wp2_with (at_builtin; rw [← hX2]; refine wpList_append_run rfl (.tmp 123) (.tmp 125) 32 rfl _ _ _ W' rfl rfl hrun ?_)
                          exact ⟨⟨pre ++ [u], i, 0, (qx, qy), rfl, by omega, hfin, hnb', f1, f2, by simp [World.setCell]; omega, hi, s2, hPn, hid rfl, hpi⟩, by rw [hmu, hmu2, hq2, hpu.out]; simp [RowKit.intOf]; omega⟩
                        · have v1 : (x == y - kw) = false := beq_eq_false_iff_ne.2 hxy
                          have hN := hid (hno.out.miss hpre (by rw [← hx.out, ← hy.out]; omega))
                          clear hkw hno hqi hidx hpre hmay hb5' hix hun hxy hx hy hqx hqy
                          go_wp2_with fail
                          go_quiet (fail)
                          have zpN := zp.drewN nq
                          have hmuN := far_mu (D := D) (m := m) zpN
                          go_wp2_with fail
                          have hadd : Value.int .i64 ((d : Int) + 1) = Value.int .i64 ((d + 1 : Nat) : Int) := by push_cast; rfl
                          exact ⟨⟨pre, u, d + 1, p, hadd, by omega, own_drewN hown nq, hnb, zpN, below_many hV3 nq, by show pb < Y.heap.size; omega, hu, hu0, hP, hN, hp⟩, by rw [hmu, hmuN]; simp [RowKit.intOf]; omega⟩
                    · have t1 : (p.1 == b.1) = false := beq_eq_false_iff_ne.2 c1
                      clear hne
                      go_wp2_with fail
                      ((with_reducible refine cs.mono ?_); rintro e w3 ⟨rfl, hb3⟩)
                      replace zp := zp.below hb3
                      replace hown := own_below hown hb3
                      have hV3 := below_call hV hb3
                      have hps3 : pb < w3.heap.size := by have := hb3.size; omega
                      have hbe := r14beside_b p d qx qy w3 hqx hqy
                      have p0 := zp.cell 0
                      have p1 := zp.cell 1
                      simp only [List.getElem?_cons_zero, List.getElem?_cons_succ] at p0 p1
                      clear hb3 cs m0 m1 m2 a0 a1 b0 b1
                      go_upto_region 15 with (go_at_call 55; refine hbe.mono ?_; rintro e w4 ⟨rfl, hb4⟩)
                      have hqn0 : ∀ j, u15.ownBlock = some j → j < w4.heap.size := fun j hj => Nat.lt_of_lt_of_le (hown.lt j hj).2 hb4.size
                      have hb5 := hb4.alloc hb4.size (.cells (ptL (qx, qy)).toArray 27)
                      have zq := Blk.new w4 (ptL (qx, qy)) 27
                      replace zp := zp.below hb5
                      replace hown := own_below hown hb5
                      replace hV3 := below_call hV3 hb5
                      have hps4 : pb < w4.heap.size := by have := hb4.size; omega
                      obtain ⟨Y, hY⟩ : ∃ Y, Y = w4.alloc (.cells #[Value.int .i64 qx, .int .i64 qy] 27) := ⟨_, rfl⟩
                      rw [← hY]
                      rw [show w4.alloc (.cells (ptL (qx, qy)).toArray 27) = Y from hY.symm] at zp zq hown hV3 hb5
                      have hYs : Y.heap.size = w4.heap.size + 1 := by rw [hY]; simp
                      clear hY hb4 p0 p1 hbe
                      obtain ⟨qb, hqb⟩ : ∃ qb, Hid (qb = w4.heap.size) := ⟨_, hid rfl⟩
                      have hqpb : pb < qb := by rw [hqb.out]; exact hps4
                      have hqY : qb < Y.heap.size := by rw [hqb.out, hYs]; omega
                      have hqn : ∀ j, u15.ownBlock = some j → j ≠ qb := fun j hj => by have := hqn0 j hj; rw [hqb.out]; omega
                      rw [← hqb.out] at zq ⊢
                      clear hYs hps4 hps3 hb5
                      have y0 := zq.cell 0
                      have y1 := zq.cell 1
                      have p0 := zp.cell 0
                      have p1 := zp.cell 1
                      have m0 := (zmV.below hV3).cell 0
                      simp only [List.getElem?_cons_zero, List.getElem?_cons_succ] at y0 y1 p0 p1 m0
                      have nadd : IntKind.i64.wrap ((d : Int) + 1) = ((d + 1 : Nat) : Int) := by rw [IntWalk.i64_in _ (by omega)]; simp
                      cases b5 with
                      | false =>
                        have hN := hid (hno.out.no (by rw [← hp.out]; exact hb5'.out.symm))
                        clear hb5' hkw hno
                        go_wp2_with fail
                        go_quiet (fail)
                        have zpN := zp.drewN nq
                        have hmuN := far_mu (D := D) (m := m) zpN
                        go_wp2_with fail
                        have hadd : Value.int .i64 ((d : Int) + 1) = Value.int .i64 ((d + 1 : Nat) : Int) := by push_cast; rfl
                        exact ⟨⟨pre, u, d + 1, p, hadd, by omega, own_drewN hown nq, hnb, zpN, below_many hV3 nq, by show pb < Y.heap.size; omega, hu, hu0, hP, hN, hp⟩, by rw [hmu, hmuN]; simp [RowKit.intOf]; omega⟩
                      | true =>
                        have hmay := hb5'.out.symm
                        have hin : insidev m qx qy = true := by
                          unfold insidev
                          rw [hf, hqx.out, hqy.out, (may_in hmay).1]
                          rfl
                        obtain ⟨i, hi, hix, n3, n4⟩ := r14idx hin
                        rw [hn.out] at hi
                        have hidx : idx m (stx p.1 d, sty p.2 d) = i := by unfold idx; rw [← hqx.out, ← hqy.out, ← hix.out]; rfl
                        have hun : u < m.cs.length := by rw [hn.out]; exact hu
                        have hinp : insidev m p.1 p.2 = true := by
                          have h := (idx_posn hf hun).2
                          rw [← hp.out] at h
                          unfold insidev
                          rw [hf]
                          exact h
                        obtain ⟨u', _, hu2, n5, n6⟩ := r14idx hinp
                        have hu' : u' = u := by
                          have e := hpu.out
                          unfold idx at e
                          rw [← hu2.out] at e
                          exact e
                        rw [hu'] at n6
                        clear hu2 hu' hinp
                        have hpre : preD m bl c (posn m u) (d + 1) = preD m bl c (posn m u) d ++ [(i, kw)] := by
                          have := preD_yes (m := m) (bl := bl) (c := c) (p := p) (d := d) hmay
                          rw [hidx, ← hkw.out, hp.out] at this
                          exact this
                        have hqi : (qx, qy) = posn m i := by rw [← hidx, hqx.out, hqy.out]; exact (posn_idx hf (show insp m (stx p.1 d, sty p.2 d) = true from (may_in hmay).1)).1.symm
                        have hwx := (nbp_w (m := m) (bl := bl) (c := c) (p := p) (x := ((stx p.1 d, sty p.2 d), costv m bl c p.1 p.2 d)) (mem_nbGo.2 ⟨d, hd, hmay, rfl⟩))
                        dsimp only at hwx
                        rw [← hkw.out] at hwx
                        have cI := hEc.out i (by omega)
                        have cU := hEc.out u (by omega)
                        rw [← hV3.cell (p := ⟨g, _, none⟩) hgV] at cI cU
                        obtain ⟨x, hx⟩ : ∃ x, Hid (x = ga D i) := ⟨_, hid rfl⟩
                        obtain ⟨y, hy⟩ : ∃ y, Hid (y = ga D u) := ⟨_, hid rfl⟩
                        rw [← hx.out] at cI
                        rw [← hy.out] at cU
                        have hyb : -1 ≤ y ∧ y ≤ 30000 := by rw [hy.out]; exact hDn u
                        have nsub : IntKind.i64.wrap (y - kw) = y - kw := IntWalk.i64_in _ (by omega)
                        have i0 : (0 : Int) ≤ (i : Int) := by omega
                        have i1 : (i : Int) < (n : Int) := by omega
                        have u0 : (0 : Int) ≤ (u : Int) := by omega
                        have u1 : (u : Int) < (n : Int) := by omega
                        by_cases hxy : x = y - kw
                        · have v1 : (x == y - kw) = true := beq_iff_eq.2 hxy
                          have hnx : nextG (nb m bl c) D u = some (i, kw) := hno.out.hit hd (by rw [hn.out]; exact hu) hpre (by rw [← hx.out, ← hy.out, hxy]; omega)
                          obtain ⟨s1, s2, s3⟩ := path_step ok hib hdist hu0 hnx
                          have hPn := hid (show P = (pre ++ [u]) ++ pathG (nb m bl c) D i by rw [hP.out, s1, List.append_assoc]; rfl)
                          have hPlen : pre.length + 2 ≤ P.length := by
                            obtain ⟨t, ht⟩ := path_head (nb := nb m bl c) D i
                            rw [hPn.out, ht, List.length_append, List.length_append]; simp; omega
                          have hpi : Hid ((qx, qy) = posn m i) := hid hqi
                          clear hkw hno hqi hidx hpre hmay hb5' hix hun hxy hx hy hqx hqy hnx
                          go_wp2_with fail
                          go_quiet (fail)
                          obtain ⟨Z1, hZ1⟩ : ∃ Z1, Z1 = Y.drewN nq := ⟨_, rfl⟩
                          have zqN := zq.drewN nq
                          have zpN := zp.drewN nq
                          have hVN := below_many hV3 nq
                          have hownN := own_drewN hown nq
                          have hpY : pb < (Y.drewN nq).heap.size ∧ qb < (Y.drewN nq).heap.size := ⟨(by show pb < Y.heap.size; omega), hqY⟩
                          rw [← hZ1] at zqN zpN hVN hownN hpY ⊢
                          clear hZ1 zq zp hV3 hown y0 y1 p0 p1 m0 cI cU
                          obtain ⟨X2, hX2⟩ : ∃ X2, X2 = Z1.alloc (.cells [Value.int .i64 qx, .int .i64 qy].toArray 27) := ⟨_, rfl⟩
                          have hb6 : Below Z1.heap.size Z1 X2 := by rw [hX2]; exact (Below.refl _ _).alloc (Nat.le_refl _) _
                          have hX2s : X2.heap.size = Z1.heap.size + 1 := by rw [hX2]; simp
                          obtain ⟨v', W', hrun, hown3, hg, hwh⟩ := app_where (P := Tryd.prog) X2 V.heap.size 32 32 27 i1' (.agg #[.int .i64 0, .int .i64 0]) 2 16 Tryd.underlying32 hj0 hy0 hy1 hy2 rfl (by decide) u15 _ _ (own_below hownN hb6) ⟨Z1.heap.size, 0, none⟩ 1 [.int .i64 qx, .int .i64 qy] rfl
                            (by rw [hX2]; exact cells_new) (posCells _ _) (by unfold maxLen; omega) (by omega) (by have := hVN.size; omega)
                          have yp := (zpN.below hb6).grown hg (fun k hk e => hnb k hk e.symm)
                          have hW3 : Below V.heap.size V W' := (below_call hVN hb6).grown hg (by have := hVN.size; omega) (fun j hj => (hownN.lt j hj).1)
                          have hnb' : ∀ j, v'.ownBlock = some j → j ≠ pb := fun j hj => by
                            rcases hwh j hj with h | h
                            · exact hnb j h
                            · omega
                          have hWs : pb < W'.heap.size := by have := hg.size; omega
                          have hrow : W'.ownsRow V.heap.size 27 2 v' ((pre ++ [u]).length + 1) (pls m ((pre ++ [u]) ++ [i])) := by
                            have h1 := hown3
                            have e : ([.int .i64 qx, .int .i64 qy] : List Value) = [.int .i64 (posn m i).1, .int .i64 (posn m i).2] := by rw [← hpi.out]
                            rw [e, pls_snoc] at h1
                            rw [List.length_append]
                            exact h1
                          have hfin : ((W'.setCell ⟨pb, 0, none⟩ (.int .i64 qx)).setCell ⟨pb, 1, none⟩ (.int .i64 qy)).ownsRow V.heap.size 27 2 v' ((pre ++ [u]).length + 1) (pls m ((pre ++ [u]) ++ [i])) :=
                            own_other (own_other hrow ⟨pb, 0, none⟩ _ hnb') ⟨pb, 1, none⟩ _ hnb'
                          have f1 : Blk ((W'.setCell ⟨pb, 0, none⟩ (.int .i64 qx)).setCell ⟨pb, 1, none⟩ (.int .i64 qy)) pb (ptL (qx, qy)) 27 := yp.put2 _ _
                          have f2 : Below V.heap.size V ((W'.setCell ⟨pb, 0, none⟩ (.int .i64 qx)).setCell ⟨pb, 1, none⟩ (.int .i64 qy)) := (hW3.setCell (p := ⟨pb, 0, none⟩) hVpb _).setCell (p := ⟨pb, 1, none⟩) hVpb _
                          have hmu2 := far_mu (D := D) (m := m) f1
                          have hq2 : idx m (qx, qy) = i := by rw [hpi.out]; exact (idx_posn hf (by rw [hn.out]; exact hi)).1
                          have yqX := (zqN.below hb6).grown hg (fun k hk e => hqn k hk e.symm)
                          have y0 := zqN.cell 0
                          have y1 := zqN.cell 1
                          obtain ⟨_, _, _, _⟩ := yp.two
                          have z0 := yqX.cell 0
                          have z1 := yqX.cell 1
                          simp only [List.getElem?_cons_zero, List.getElem?_cons_succ] at y0 y1 z0 z1
                          clear yp hown3 hrow zpN zqN yqX hb6 hg hVN hownN
                          go_wp2_with (at_builtin; rw [← hX2]; refine wpList_append_run rfl (.tmp 123) (.tmp 125) 32 rfl _ _ _ W' rfl rfl hrun ?_)
                          exact ⟨⟨pre ++ [u], i, 0, (qx, qy), rfl, by omega, hfin, hnb', f1, f2, by simp [World.setCell]; omega, hi, s2, hPn, hid rfl, hpi⟩, by rw [hmu, hmu2, hq2, hpu.out]; simp [RowKit.intOf]; omega⟩
                        · have v1 : (x == y - kw) = false := beq_eq_false_iff_ne.2 hxy
                          have hN := hid (hno.out.miss hpre (by rw [← hx.out, ← hy.out]; omega))
                          clear hkw hno hqi hidx hpre hmay hb5' hix hun hxy hx hy hqx hqy
                          go_wp2_with fail
                          go_quiet (fail)
                          have zpN := zp.drewN nq
                          have hmuN := far_mu (D := D) (m := m) zpN
                          go_wp2_with fail
                          have hadd : Value.int .i64 ((d : Int) + 1) = Value.int .i64 ((d + 1 : Nat) : Int) := by push_cast; rfl
                          exact ⟨⟨pre, u, d + 1, p, hadd, by omega, own_drewN hown nq, hnb, zpN, below_many hV3 nq, by show pb < Y.heap.size; omega, hu, hu0, hP, hN, hp⟩, by rw [hmu, hmuN]; simp [RowKit.intOf]; omega⟩

end Go.Proofs.YtmbadkgeoealoaaDoor
