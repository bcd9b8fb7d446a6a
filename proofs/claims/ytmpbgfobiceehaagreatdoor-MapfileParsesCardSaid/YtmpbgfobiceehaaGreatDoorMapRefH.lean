/-
  What the reference of mapfile answers: Mirror.
-/
import Derived.Test.YtmpbgfobiceehaaGreatDoorMapRefG
namespace Go.Proofs.YtmpbgfobiceehaaGreatDoor
open Go.RowKit Go.Lib

theorem rev_at {cs : List C3} {j : Nat} (hj : j < cs.length) : cs.getD j C3.zero = cs[j]'hj := by
  rw [List.getD_eq_getElem?_getD, List.getElem?_eq_getElem hj, Option.getD_some]
theorem rev_of {cs : List C3} (h : ∀ j, j < cs.length → cs.getD j C3.zero = cs.getD (cs.length - 1 - j) C3.zero) : cs.reverse = cs := by
  apply List.ext_getElem (by simp)
  intro j h1 h2
  rw [List.getElem_reverse, ← rev_at h2, h j h2, rev_at]
theorem rev_not {cs : List C3} {j : Nat} (hj : j < cs.length) (h : ¬ cs[j]'hj = cs[cs.length - 1 - j]'(by omega)) : ¬ cs.reverse = cs := by
  intro e
  apply h
  have := List.getElem_reverse (l := cs) (i := j) (by simp; exact hj)
  rw [← this]
  simp only [e]
theorem mir_long {nm : List UInt8} {m : M3} {st : List (Int × Int)} {R : F3} {er : Int} (h1 : nameB nm = true) (h2 : validm m = true) (h6 : 6 < st.length)
    (e : (if validf ⟨nm, m, st ++ st.map (turnv m)⟩ = 0 then ((⟨nm, m, st ++ st.map (turnv m)⟩ : F3), (0 : Int)) else (F3.zero, validf ⟨nm, m, st ++ st.map (turnv m)⟩)) = (R, er)) : F3.zero = R ∧ 2 = er := by
  have hv : validf ⟨nm, m, st ++ st.map (turnv m)⟩ = 2 := by
    unfold validf
    rw [if_neg (by rw [h1]; simp), if_neg (by rw [h2]; simp), if_pos (by right; simp; omega)]
  rw [hv, if_neg (by decide)] at e
  injection e with a b
  exact ⟨a, b⟩

set_option maxRecDepth 100000 in
set_option maxHeartbeats 8000000 in
theorem rmirror_b (nm : List UInt8) (m : M3) (st : List (Int × Int)) (p0 : Option Addr) (c0 : Nat) (ss : Value) (R : F3) (er : Int) (W : World) (hr : RowAt W (.slice p0 m.cs.length c0) m.cs) (hp : PosAt W ss st) (hcap : CapOk (.slice p0 m.cs.length c0)) (hn : nm.length ≤ 100000) (hst : st.length ≤ 1000) (e : Hid (mirrorv ⟨nm, m, st⟩ = (R, er))) :
    Calls Tryz.prog 20 #[.agg #[.string (bs nm), .int .i64 m.w, .int .i64 m.h, .slice p0 m.cs.length c0, ss]] W (MirPost R er W) := by
  obtain ⟨p, c, rfl, hpc, -⟩ := id hp
  have hK := ((Keep.nil W).alloc [.string (bs nm), .int .i64 m.w, .int .i64 m.h, .slice p0 m.cs.length c0, .slice p st.length c] 27).alloc [.string ⟨#[]⟩, .int .i64 0, .int .i64 0, .slice none 0 0, .slice none 0 0] 27
  have hg0 := Lib.hid (show 1 ≤ m.cs.length → ∀ g o c n, Value.slice p0 m.cs.length c0 = .slice (some ⟨g, o, none⟩) n c → g < W.heap.size from fun h1 g o c n e => by
    obtain ⟨q, k, e2, -, hat⟩ := hr
    obtain ⟨g1, o1, rfl, hat2⟩ := hat h1
    rw [e] at e2
    injection e2 with e2 _ _
    injection e2 with e2
    injection e2 with e2 _
    rw [e2]
    exact World.block_lt_of_cell? W _ (hat2 0 (by omega)).1)
  replace hr := hr.below hK.old
  replace hp := hp.below hK.old
  simp only [World.size_alloc] at hK
  have hs : (bs nm).size ≤ 100000 := by rw [bs_size]; exact hn
  obtain ⟨nb, hnb⟩ : ∃ b, Hid (b = nameB (bs nm).data.toList) := ⟨_, hid rfl⟩
  obtain ⟨vb, hvb⟩ : ∃ b, Hid (b = validm m) := ⟨_, hid rfl⟩
  have hnb' : nb = nameB nm := by rw [hnb.out, bs_list]
  replace hnb' := Lib.hid hnb'
  go_enter Tryz.func20, Tryz.ntmps20
  go_upto_region 1 with fail
  generalize ((W.alloc (.cells [Value.string (bs nm), .int .i64 m.w, .int .i64 m.h, .slice p0 m.cs.length c0, .slice p st.length c].toArray 27)).alloc (.cells [Value.string ⟨#[]⟩, .int .i64 0, .int .i64 0, .slice none 0 0, .slice none 0 0].toArray 27)) = V at *
  obtain ⟨hT, hF⟩ := hK.two
  obtain ⟨F0, F1, F2, F3, F4⟩ := low5 hF (Below.refl _ _)
  cases nb with
  | false =>
    have HV := Lib.hid (mir_no e.out (.inl hnb'.out.symm))
    have hL := hK.old
    go_wp2_with fail
    ((with_reducible refine (rname_b _ false _ hs hnb).mono ?_); rintro e w1 ⟨rfl, rfl⟩)
    clear e hnb' hK hnb hvb hr hp F0 F1 F2 F3 F4 hF
    obtain ⟨t0, t1, t2, t3, t4⟩ : _ ∧ _ ∧ _ ∧ _ ∧ _ := ⟨hT.cell 0, hT.cell 1, hT.cell 2, hT.cell 3, hT.cell 4⟩
    simp only [List.getElem?_cons_zero, List.getElem?_cons_succ] at t0 t1 t2 t3 t4
    obtain ⟨g0, g1, g2, g3, g4⟩ : _ ∧ _ ∧ _ ∧ _ ∧ _ := ⟨hT.frozen 0, hT.frozen 1, hT.frozen 2, hT.frozen 3, hT.frozen 4⟩
    have hT6 := ((((hT.set 0 (.string ⟨#[]⟩)).set 1 (.int .i64 0)).set 2 (.int .i64 0)).set 3 (.slice none 0 0)).set 4 (.slice none 0 0)
    obtain ⟨u0, u1, u2, u3, u4⟩ : _ ∧ _ ∧ _ ∧ _ ∧ _ := ⟨hT6.cell 0, hT6.cell 1, hT6.cell 2, hT6.cell 3, hT6.cell 4⟩
    simp only [List.set_cons_zero, List.set_cons_succ, List.getElem?_cons_zero, List.getElem?_cons_succ] at u0 u1 u2 u3 u4
    have HU := Lib.hid (And.intro u0 (And.intro u1 (And.intro u2 (And.intro u3 u4))))
    clear u0 u1 u2 u3 u4
    have hL6 := (((((hL.setCell (p := ⟨W.heap.size + 1, 0, none⟩) (Nat.le_succ _) (.string ⟨#[]⟩)).setCell (p := ⟨W.heap.size + 1, 1, none⟩) (Nat.le_succ _) (.int .i64 0)).setCell (p := ⟨W.heap.size + 1, 2, none⟩) (Nat.le_succ _) (.int .i64 0)).setCell (p := ⟨W.heap.size + 1, 3, none⟩) (Nat.le_succ _) (.slice none 0 0)).setCell (p := ⟨W.heap.size + 1, 4, none⟩) (Nat.le_succ _) (.slice none 0 0))
    have HZ := Lib.hid (mir_of HV.out hL6)
    clear hT hT6 hL hL6
    go_wp2_with fail
    obtain ⟨u0, u1, u2, u3, u4⟩ := HU.out
    refine bodyPost_ret (v := .tuple #[.agg #[.string ⟨#[]⟩, .int .i64 0, .int .i64 0, .slice none 0 0, .slice none 0 0], .int .i64 1]) (by simp [results, Tryz.results20, go_sem, *]) rfl HZ.out
  | true =>
    go_wp2_with fail
    ((with_reducible refine (rname_b _ true _ hs hnb).mono ?_); rintro e w1 ⟨rfl, rfl⟩)
    go_wp2_with fail
    ((with_reducible refine (rvalidm_c m _ vb _ hr hvb).mono ?_); rintro e w1 ⟨rfl, hb⟩)
    replace hK := hK.call hb
    replace hr := hr.below hb
    replace hp := hp.below hb
    clear hb F0 F1 F2 F3 F4 hT hF
    obtain ⟨hT, hF⟩ := hK.two
    obtain ⟨F0, F1, F2, F3, F4⟩ := low5 hF (Below.refl _ _)
    cases vb with
    | false =>
      have HV := Lib.hid (mir_no e.out (.inr hvb.out.symm))
      have hL := hK.old
      clear e hnb' hK hnb hvb hr hp F0 F1 F2 F3 F4 hF
      obtain ⟨t0, t1, t2, t3, t4⟩ : _ ∧ _ ∧ _ ∧ _ ∧ _ := ⟨hT.cell 0, hT.cell 1, hT.cell 2, hT.cell 3, hT.cell 4⟩
      simp only [List.getElem?_cons_zero, List.getElem?_cons_succ] at t0 t1 t2 t3 t4
      obtain ⟨g0, g1, g2, g3, g4⟩ : _ ∧ _ ∧ _ ∧ _ ∧ _ := ⟨hT.frozen 0, hT.frozen 1, hT.frozen 2, hT.frozen 3, hT.frozen 4⟩
      have hT6 := ((((hT.set 0 (.string ⟨#[]⟩)).set 1 (.int .i64 0)).set 2 (.int .i64 0)).set 3 (.slice none 0 0)).set 4 (.slice none 0 0)
      obtain ⟨u0, u1, u2, u3, u4⟩ : _ ∧ _ ∧ _ ∧ _ ∧ _ := ⟨hT6.cell 0, hT6.cell 1, hT6.cell 2, hT6.cell 3, hT6.cell 4⟩
      simp only [List.set_cons_zero, List.set_cons_succ, List.getElem?_cons_zero, List.getElem?_cons_succ] at u0 u1 u2 u3 u4
      have HU := Lib.hid (And.intro u0 (And.intro u1 (And.intro u2 (And.intro u3 u4))))
      clear u0 u1 u2 u3 u4
      have hL6 := (((((hL.setCell (p := ⟨W.heap.size + 1, 0, none⟩) (Nat.le_succ _) (.string ⟨#[]⟩)).setCell (p := ⟨W.heap.size + 1, 1, none⟩) (Nat.le_succ _) (.int .i64 0)).setCell (p := ⟨W.heap.size + 1, 2, none⟩) (Nat.le_succ _) (.int .i64 0)).setCell (p := ⟨W.heap.size + 1, 3, none⟩) (Nat.le_succ _) (.slice none 0 0)).setCell (p := ⟨W.heap.size + 1, 4, none⟩) (Nat.le_succ _) (.slice none 0 0))
      have HZ := Lib.hid (mir_of HV.out hL6)
      clear hT hT6 hL hL6
      go_wp2_with fail
      obtain ⟨u0, u1, u2, u3, u4⟩ := HU.out
      refine bodyPost_ret (v := .tuple #[.agg #[.string ⟨#[]⟩, .int .i64 0, .int .i64 0, .slice none 0 0, .slice none 0 0], .int .i64 1]) (by simp [results, Tryz.results20, go_sem, *]) rfl HZ.out
    | true =>
      have hml := validm_len hvb.out.symm
      obtain ⟨hm1, hm2, hmw, hmw2, hmh, hmh2⟩ := hml
      go_wp2_with fail
      go_loopw [5] (fun vi wr => ∃ i : Nat, vi = .int .i64 i ∧ i ≤ m.cs.length ∧ Keep W wr [(W.heap.size + 1, [.string ⟨#[]⟩, .int .i64 0, .int .i64 0, .slice none 0 0, .slice none 0 0], 27), (W.heap.size, [.string (bs nm), .int .i64 m.w, .int .i64 m.h, .slice p0 m.cs.length c0, .slice p st.length c], 27)] ∧ RowAt wr (.slice p0 m.cs.length c0) m.cs ∧ PosAt wr (.slice p st.length c) st ∧ Hid (∀ j, j < i → m.cs.getD j C3.zero = m.cs.getD (m.cs.length - 1 - j) C3.zero)) (fun vi _ => m.cs.length - (RowKit.intOf vi).toNat)
      case atStart => exact ⟨0, rfl, by omega, hK, hr, hp, hid (fun j h => by omega)⟩
      case round =>
        clear hK hr hp hT hF F0 F1 F2 F3 F4
        obtain ⟨i, rfl, hi, hK, hr, hp, hA⟩ := hrel
        obtain ⟨hT, hF⟩ := hK.two
        obtain ⟨F0, F1, F2, F3, F4⟩ := low5 hF (Below.refl _ _)
        by_cases hlt : i < m.cs.length
        · have d1 : (i : Int) < m.cs.length := by omega
          have i0 : (0 : Int) ≤ i := by omega
          obtain ⟨J, hJ⟩ : ∃ J, J = m.cs.length - 1 - i := ⟨_, rfl⟩
          have en3 : (m.cs.length : Int) - 1 - (i : Int) = (J : Int) := by omega
          have l1 : (0 : Int) ≤ (J : Int) := by omega
          have l2 : (J : Int) < m.cs.length := by omega
          have hj2 : m.cs.length - 1 - i < m.cs.length := by omega
          obtain ⟨q0, k0, e0, -, hat⟩ := id hr
          injection e0 with e0 k1 k2
          subst e0 k2
          clear k1
          obtain ⟨g, o, rfl, hat2⟩ := hat (by omega)
          obtain ⟨a1, a2, a3⟩ := hat2 i hlt
          obtain ⟨b1, b2, b3⟩ := hat2 _ hj2
          have hD := hid (show ∀ n, Keep W (wr.drewN n) _ ∧ RowAt (wr.drewN n) _ m.cs ∧ PosAt (wr.drewN n) _ st from fun n => ⟨hK.call (below_many (Below.refl _ _) n), hr.below (below_many (Below.refl _ _) n), hp.below (below_many (Below.refl _ _) n)⟩)
          by_cases hq : m.cs[i]'hlt = m.cs[m.cs.length - 1 - i]'hj2
          · have HN := hid (show ∀ j, j < i + 1 → m.cs.getD j C3.zero = m.cs.getD (m.cs.length - 1 - j) C3.zero from fun j hji => by
              by_cases h : j < i
              · exact hA.out j h
              · obtain rfl : j = i := by omega
                rw [rev_at hlt, rev_at hj2, hq])
            rw [← hq, ← hJ] at b1 b2 b3
            obtain ⟨v, hv⟩ : ∃ v, m.cs[i]'hlt = v := ⟨_, rfl⟩
            rw [hv] at a1 a2 a3 b1 b2 b3
            obtain ⟨vk, vh, va⟩ := v
            dsimp only at a1 a2 a3 b1 b2 b3
            clear hA hq hv hK hr hp hT hF hat hat2 hJ
            go_wp2_with fail
            go_quiet (fail)
            go_wp2_with fail
            go_roundw
            case rel => exact ⟨i + 1, by go_num, by omega, (hD.out _).1, (hD.out _).2.1, (hD.out _).2.2, HN⟩
            case measure => simp [RowKit.intOf]; omega
          · have hrev := rev_not hlt hq
            have HV := Lib.hid (mir_14 e.out hnb'.out.symm hvb.out.symm hrev)
            obtain ⟨v, hv⟩ : ∃ v, m.cs[i]'hlt = v := ⟨_, rfl⟩
            obtain ⟨u, hu⟩ : ∃ v, m.cs[m.cs.length - 1 - i]'hj2 = v := ⟨_, rfl⟩
            rw [hv] at a1 a2 a3 hq
            rw [hu] at b1 b2 b3 hq
            rw [← hJ] at b1 b2 b3
            obtain ⟨vk, vh, va⟩ := v
            obtain ⟨uk, uh, ua⟩ := u
            dsimp only at a1 a2 a3 b1 b2 b3
            have hcase : (vk = uk ∧ vh = uh ∧ (va == ua) = false) ∨ (vk = uk ∧ (vh == uh) = false) ∨ (vk == uk) = false := by
              by_cases f1 : vk = uk
              · by_cases f2 : vh = uh
                · exact .inl ⟨f1, f2, beq_eq_false_iff_ne.2 (fun f3 => hq (by rw [f1, f2, f3]))⟩
                · exact .inr (.inl ⟨f1, beq_eq_false_iff_ne.2 f2⟩)
              · exact .inr (.inr (beq_eq_false_iff_ne.2 f1))
            clear e hA hq hv hu hK hr hp hT hF hat hat2 hJ hrev hnb' hnb hvb
            rcases hcase with ⟨rfl, rfl, f3⟩ | ⟨rfl, f2⟩ | f1
            all_goals
              go_wp2_with fail
              go_quiet (fail)
              have hKn := (hD.out nq).1
              generalize wr.drewN nq = X at *
              have hL := hKn.old
              obtain ⟨hT, -⟩ := hKn.two
              clear hKn a1 a2 a3 b1 b2 b3 hD F0 F1 F2 F3 F4
              obtain ⟨t0, t1, t2, t3, t4⟩ : _ ∧ _ ∧ _ ∧ _ ∧ _ := ⟨hT.cell 0, hT.cell 1, hT.cell 2, hT.cell 3, hT.cell 4⟩
              simp only [List.getElem?_cons_zero, List.getElem?_cons_succ] at t0 t1 t2 t3 t4
              obtain ⟨g0, g1, g2, g3, g4⟩ : _ ∧ _ ∧ _ ∧ _ ∧ _ := ⟨hT.frozen 0, hT.frozen 1, hT.frozen 2, hT.frozen 3, hT.frozen 4⟩
              have hT6 := ((((hT.set 0 (.string ⟨#[]⟩)).set 1 (.int .i64 0)).set 2 (.int .i64 0)).set 3 (.slice none 0 0)).set 4 (.slice none 0 0)
              obtain ⟨u0, u1, u2, u3, u4⟩ : _ ∧ _ ∧ _ ∧ _ ∧ _ := ⟨hT6.cell 0, hT6.cell 1, hT6.cell 2, hT6.cell 3, hT6.cell 4⟩
              simp only [List.set_cons_zero, List.set_cons_succ, List.getElem?_cons_zero, List.getElem?_cons_succ] at u0 u1 u2 u3 u4
              have HU := Lib.hid (And.intro u0 (And.intro u1 (And.intro u2 (And.intro u3 u4))))
              clear u0 u1 u2 u3 u4
              have hL6 := (((((hL.setCell (p := ⟨W.heap.size + 1, 0, none⟩) (Nat.le_succ _) (.string ⟨#[]⟩)).setCell (p := ⟨W.heap.size + 1, 1, none⟩) (Nat.le_succ _) (.int .i64 0)).setCell (p := ⟨W.heap.size + 1, 2, none⟩) (Nat.le_succ _) (.int .i64 0)).setCell (p := ⟨W.heap.size + 1, 3, none⟩) (Nat.le_succ _) (.slice none 0 0)).setCell (p := ⟨W.heap.size + 1, 4, none⟩) (Nat.le_succ _) (.slice none 0 0))
              have HZ := Lib.hid (mir_of HV.out hL6)
              clear hT hT6 hL hL6
              go_wp2_with fail
              obtain ⟨u0, u1, u2, u3, u4⟩ := HU.out
              refine bodyPost_ret (v := .tuple #[.agg #[.string ⟨#[]⟩, .int .i64 0, .int .i64 0, .slice none 0 0, .slice none 0 0], .int .i64 14]) (by simp [results, Tryz.results20, go_sem, *]) rfl HZ.out
        · obtain rfl : i = m.cs.length := by omega
          have hrev : m.cs.reverse = m.cs := rev_of (fun j hj => hA.out j hj)
          have HEV := Lib.hid (mir_go e.out hnb'.out.symm hvb.out.symm hrev)
          have HNV := Lib.hid (And.intro hnb'.out.symm hvb.out.symm)
          clear e hA hrev hnb hnb' hvb
          rename World => X
          have hXW := hK.old.size
          go_upto_region 10 with fail
          have hO := Blk.new X [.string (bs nm), .int .i64 m.w, .int .i64 m.h, .slice p0 m.cs.length c0, .slice none 0 0] 27
          have hLO := (Below.refl X.heap.size X).alloc (Nat.le_refl _) (.cells #[.string (bs nm), .int .i64 m.w, .int .i64 m.h, .slice p0 m.cs.length c0, .slice none 0 0] 27)
          have hsz : (X.alloc (.cells #[.string (bs nm), .int .i64 m.w, .int .i64 m.h, .slice p0 m.cs.length c0, .slice none 0 0] 27)).heap.size = X.heap.size + 1 := World.size_alloc _ _
          generalize X.alloc (.cells #[.string (bs nm), .int .i64 m.w, .int .i64 m.h, .slice p0 m.cs.length c0, .slice none 0 0] 27) = Y at *
          clear F0 F1 F2 F3 F4 hT hF
          obtain ⟨hT, hF⟩ := (hK.call hLO).two
          obtain ⟨F0, F1, F2, F3, F4⟩ := low5 hF (Below.refl _ _)
          obtain ⟨O0, O1, O2, O3, O4⟩ := low5 hO (Below.refl _ _)
          go_cut [] from 51 (fun wx => ∃ (pv : Option Addr) (cv : Nat), Blk wx X.heap.size [.string (bs nm), .int .i64 m.w, .int .i64 m.h, .slice p0 m.cs.length c0, .slice pv st.length cv] 27 ∧ wx.ownsRow (X.heap.size + 1) 41 2 (.slice pv st.length cv) st.length (pcells st) ∧ Below X.heap.size X wx)
          case first =>
            have hpY := hp.below hLO
            cases p with
            | none =>
              have hp' := hp
              obtain ⟨p', c', e', -, hc'⟩ := hp
              obtain ⟨rfl, rfl⟩ : p' = none ∧ c' = c := by injection e' with a b d; exact ⟨a.symm, d.symm⟩
              have h0 : st = [] := by
                cases st with
                | nil => rfl
                | cons x l => obtain ⟨_, _, e, _⟩ := hc' (by simp); cases e
              subst h0
              have g4 := hO.frozen 4
              have HQ := Lib.hid (And.intro (hO.set 4 (.slice none 0 0)) (hLO.setCell (p := ⟨X.heap.size, 4, none⟩) (Nat.le_refl _) (.slice none 0 0)))
              clear hO hLO hp' hpY hT hF hK hr hc'
              go_wp2_with fail
              go_meet
              case rel => exact ⟨none, 0, HQ.out.1, World.ownsRow_nil _ _ _ _, HQ.out.2⟩
            | some a =>
              obtain ⟨i0, hi0, hz0, hz1, hz2⟩ := info_parts infoPos
              go_wp2_with (at_builtin; refine wpList_append_own _ rfl _ _ 25 rfl (X.heap.size + 1) 41 i0 (.agg #[.int .i64 0, .int .i64 0]) 2 16 Tryz.underlying25 hi0 hz0 hz1 hz2 rfl (by decide) _ _ _ rfl (World.ownsRow_nil _ _ _ _) a st.length c (pcells st) rfl (pcells_len _) (pos_news hpY) (ps_one _) (by unfold maxLen; omega) (by omega) (by rw [hsz]; exact Nat.le_refl _) ?_)
              intro v' w' hown hg _
              have hbg : Below Y.heap.size Y w' := (Below.refl _ _).grown hg (Nat.le_refl _) (fun k h => by simp [Value.ownBlock] at h)
              replace hown := own_to hown rfl (List.nil_append _)
              obtain ⟨pv, cv, rfl⟩ := own_slice hown
              replace hO := hO.below hbg
              have hLg := hLO.trans (hbg.mono hLO.size)
              have ne := own_ne hO hown (by decide)
              have t4 := hO.cell 4
              have g4 := hO.frozen 4
              simp only [List.getElem?_cons_zero, List.getElem?_cons_succ] at t4
              have HQ := Lib.hid (And.intro (hO.set 4 (.slice pv st.length cv)) (And.intro (own_other hown ⟨X.heap.size, 4, none⟩ (.slice pv st.length cv) (fun j hj e => ne (hj.trans (congrArg some e)))) (hLg.setCell (p := ⟨X.heap.size, 4, none⟩) (Nat.le_refl _) (.slice pv st.length cv))))
              clear hO hown hLO hLg hbg ne hpY hT hF hg F0 F1 F2 F3 F4 O0 O1 O2 O3 O4
              go_wp2_with fail
              go_meet
              case rel => exact ⟨pv, cv, HQ.out.1, HQ.out.2.1, HQ.out.2.2⟩
          case rest =>
          obtain ⟨pv, cv, hO, hown, hL⟩ := hcut
          clear O0 O1 O2 O3 O4 F0 F1 F2 F3 F4 hT hF hLO hsz
          obtain ⟨hT, hF⟩ := hK.two
          have hX1 := hT.lt
          have hF1 := (hK.call hL).two.2
          obtain ⟨-, -, -, -, F4⟩ := low5 hF1 (Below.refl _ _)
          clear hF1
          go_wp2_with fail
          go_loopw [7] (fun vi wr => ∃ (i : Nat) (pv : Option Addr) (cv : Nat), vi = .int .i64 i ∧ i ≤ st.length ∧ Blk wr X.heap.size [.string (bs nm), .int .i64 m.w, .int .i64 m.h, .slice p0 m.cs.length c0, .slice pv (st.length + i) cv] 27 ∧ wr.ownsRow (X.heap.size + 1) 41 2 (.slice pv (st.length + i) cv) (st.length + i) (pcells (st ++ (st.map (turnv m)).take i)) ∧ Below X.heap.size X wr) (fun vi _ => st.length - (RowKit.intOf vi).toNat)
          case atStart => exact ⟨0, pv, cv, rfl, by omega, hO, own_to hown rfl (by simp), hL⟩
          case round =>
            clear hO hown hL F4
            obtain ⟨i, pv, cv, rfl, hi, hO, hown, hL⟩ := hrel
            by_cases hlt : i < st.length
            · have d1 : (i : Int) < st.length := by omega
              have i0 : (0 : Int) ≤ i := by omega
              obtain ⟨gp, op, c', e1, kg, a1, a2⟩ := hp.at hlt
              injection e1 with e1 k1 k2
              clear k1 k2
              obtain ⟨q, hq⟩ : ∃ q, st[i]'hlt = q := ⟨_, rfl⟩
              have hN := hid (show (st.map (turnv m)).take (i + 1) = (st.map (turnv m)).take i ++ [turnv m (st[i]'hlt)] by rw [List.take_succ_eq_append_getElem (by rw [List.length_map]; exact hlt), List.getElem_map])
              rw [hq] at a1 a2 hN
              clear hq
              obtain ⟨x, y⟩ := q
              dsimp only at a1 a2
              obtain ⟨t, ht⟩ : ∃ t, turnv m (x, y) = t := ⟨_, rfl⟩
              have hrot := fun V => rturned_b m x y p0 m.cs.length c0 V
              rw [ht] at hN hrot
              obtain ⟨tx, ty⟩ := t
              dsimp only at hrot
              have HROT := Lib.hid hrot
              clear hrot ht
              subst e1
              have hS : ∀ w', Below X.heap.size X w' → w'.cell? ⟨X.heap.size, 4, none⟩ = some (.slice pv (st.length + i) cv) → w'.cell? ⟨X.heap.size, 4, none⟩ = some (.slice pv (st.length + i) cv) ∧ w'.cell? ⟨W.heap.size, 1, none⟩ = some (.int .i64 m.w) ∧ w'.cell? ⟨W.heap.size, 2, none⟩ = some (.int .i64 m.h) ∧ w'.cell? ⟨W.heap.size, 3, none⟩ = some (.slice p0 m.cs.length c0) ∧ w'.cell? ⟨W.heap.size, 4, none⟩ = some (.slice (some ⟨gp, op, none⟩) st.length c) ∧ w'.cell? ⟨gp, op + i * 2, none⟩ = some (.int .i64 x) ∧ w'.cell? ⟨gp, op + i * 2 + 1, none⟩ = some (.int .i64 y) := fun w' hb h4 => by
                obtain ⟨-, F1, F2, F3, F4⟩ := low5 hF hb
                exact ⟨h4, F1, F2, F3, F4, (hb.cell (p := ⟨gp, _, none⟩) kg).trans a1, (hb.cell (p := ⟨gp, _, none⟩) kg).trans a2⟩
              have HS := Lib.hid hS
              have hS0 := hS wr.drew hL.drew (hO.cell 4)
              obtain ⟨-, -, -, -, F4, -, -⟩ := hS wr hL (hO.cell 4)
              clear hS a1 a2
              go_wp2_with fail
              have hmx : Tryz.prog.follows .mixedOrders = true := by kernel_rfl
              refine wp_region_any hmx (wpAny_of_last (x := 13) (S := fun w' => w'.cell? ⟨X.heap.size, 4, none⟩ = some (.slice pv (st.length + i) cv) ∧ w'.cell? ⟨W.heap.size, 1, none⟩ = some (.int .i64 m.w) ∧ w'.cell? ⟨W.heap.size, 2, none⟩ = some (.int .i64 m.h) ∧ w'.cell? ⟨W.heap.size, 3, none⟩ = some (.slice p0 m.cs.length c0) ∧ w'.cell? ⟨W.heap.size, 4, none⟩ = some (.slice (some ⟨gp, op, none⟩) st.length c) ∧ w'.cell? ⟨gp, op + i * 2, none⟩ = some (.int .i64 x) ∧ w'.cell? ⟨gp, op + i * 2 + 1, none⟩ = some (.int .i64 y)) _ _ _ _ ?_)
              show wpAnyL _ _ _ _ _ _ _ _ _ wr.drew
              clear F4
              refine last_take (x := 13) (hl := by kernel_rfl) (hix := by decide) (i := 0) (v := .pointer (some ⟨X.heap.size, 4, none⟩)) _ rfl rfl (by kernel_rfl) (by kernel_rfl) (by kernel_rfl) (fun _ _ _ h => h) (by rfl) (fun w' hS => by obtain ⟨s1, s2, s3, s4, s5, s6, s7⟩ := hS; go_simp) hS0 ?_
              try simp only [Act.put, List.setIfInBounds_toArray]
              refine last_take (x := 13) (hl := by kernel_rfl) (hix := by decide) (i := 1) (v := .slice pv (st.length + i) cv) _ rfl rfl (by kernel_rfl) (by kernel_rfl) (by kernel_rfl) (fun _ _ _ h => h) (by rfl) (fun w' hS => by obtain ⟨s1, s2, s3, s4, s5, s6, s7⟩ := hS; go_simp) hS0 ?_
              try simp only [Act.put]
              refine last_take (x := 13) (hl := by kernel_rfl) (hix := by decide) (i := 2) (v := .pointer (some ⟨W.heap.size, 1, none⟩)) _ rfl rfl (by kernel_rfl) (by kernel_rfl) (by kernel_rfl) (fun _ _ _ h => h) (by rfl) (fun w' hS => by obtain ⟨s1, s2, s3, s4, s5, s6, s7⟩ := hS; go_simp) hS0 ?_
              try simp only [Act.put]
              refine last_take (x := 13) (hl := by kernel_rfl) (hix := by decide) (i := 3) (v := .agg #[.int .i64 m.w, .int .i64 m.h, .slice p0 m.cs.length c0]) _ rfl rfl (by kernel_rfl) (by kernel_rfl) (by kernel_rfl) (fun _ _ _ h => h) (by rfl) (fun w' hS => by obtain ⟨s1, s2, s3, s4, s5, s6, s7⟩ := hS; go_simp) hS0 ?_
              try simp only [Act.put]
              refine last_take (x := 13) (hl := by kernel_rfl) (hix := by decide) (i := 4) (v := .pointer (some ⟨W.heap.size, 4, none⟩)) _ rfl rfl (by kernel_rfl) (by kernel_rfl) (by kernel_rfl) (fun _ _ _ h => h) (by rfl) (fun w' hS => by obtain ⟨s1, s2, s3, s4, s5, s6, s7⟩ := hS; go_simp) hS0 ?_
              try simp only [Act.put]
              refine last_take (x := 13) (hl := by kernel_rfl) (hix := by decide) (i := 5) (v := .slice (some ⟨gp, op, none⟩) st.length c) _ rfl rfl (by kernel_rfl) (by kernel_rfl) (by kernel_rfl) (fun _ _ _ h => h) (by rfl) (fun w' hS => by obtain ⟨s1, s2, s3, s4, s5, s6, s7⟩ := hS; go_simp) hS0 ?_
              try simp only [Act.put]
              refine last_take (x := 13) (hl := by kernel_rfl) (hix := by decide) (i := 6) (v := .int .i64 i) _ rfl rfl (by kernel_rfl) (by kernel_rfl) (by kernel_rfl) (fun _ _ _ h => h) (by rfl) (fun w' hS => by obtain ⟨s1, s2, s3, s4, s5, s6, s7⟩ := hS; go_simp) hS0 ?_
              try simp only [Act.put]
              refine last_take (x := 13) (hl := by kernel_rfl) (hix := by decide) (i := 7) (v := .pointer (some ⟨gp, op + i * 2, none⟩)) _ rfl rfl (by kernel_rfl) (by kernel_rfl) (by kernel_rfl) (fun _ _ _ h => h) (by rfl) (fun w' hS => by obtain ⟨s1, s2, s3, s4, s5, s6, s7⟩ := hS; go_simp) hS0 ?_
              try simp only [Act.put]
              refine last_take (x := 13) (hl := by kernel_rfl) (hix := by decide) (i := 8) (v := .agg #[.int .i64 x, .int .i64 y]) _ rfl rfl (by kernel_rfl) (by kernel_rfl) (by kernel_rfl) (fun _ _ _ h => h) (by rfl) (fun w' hS => by obtain ⟨s1, s2, s3, s4, s5, s6, s7⟩ := hS; go_simp) hS0 ?_
              try simp only [Act.put]
              refine last_one (i := 9) (by kernel_rfl) rfl (fun K hQ => ?_)
              go_simp
              refine (HROT.out wr.drew).mono ?_
              rintro e w' ⟨rfl, hb⟩
              replace hb : Below wr.heap.size wr w' := (Below.refl _ wr).drew.trans hb
              replace hO := hO.below hb
              replace hown := own_below hown hb
              replace hL := hL.trans (hb.mono hL.size)
              refine hQ.out _ _ (fun _ => HS.out _ hL (hO.cell 4)) ?_
              clear hQ hb hS0
              try simp only [Act.put, List.setIfInBounds_toArray, List.set_cons_zero, List.set_cons_succ]
              refine last_one (i := 10) (by kernel_rfl) rfl (fun K hQ => ?_)
              go_simp
              replace hO := hO.alloc (.cells #[.int .i64 tx, .int .i64 ty] 41)
              replace hown := own_below hown ((Below.refl _ w').alloc (Nat.le_refl _) (.cells #[.int .i64 tx, .int .i64 ty] 41))
              have hLs := hL.size
              replace hL := hL.alloc hL.size (.cells #[.int .i64 tx, .int .i64 ty] 41)
              refine hQ.out _ _ (fun _ => HS.out _ hL (hO.cell 4)) ?_
              clear hQ
              try simp only [Act.put, List.setIfInBounds_toArray, List.set_cons_zero, List.set_cons_succ]
              have hOlt := hO.lt
              obtain ⟨i0', hi0, hz0, hz1, hz2⟩ := info_parts infoPos
              obtain ⟨v', w3, hrun, hown', hgrow, _⟩ := run_append_own (P := Tryz.prog) (w'.alloc (.cells #[.int .i64 tx, .int .i64 ty] 41)) (X.heap.size + 1) 25 25 41 i0' (.agg #[.int .i64 0, .int .i64 0]) 2 16 Tryz.underlying25 hi0 hz0 hz1 hz2 rfl (by decide) (.slice pv (st.length + i) cv) (st.length + i) _ hown
                ⟨w'.heap.size, 0, none⟩ 1 1 [.int .i64 tx, .int .i64 ty] rfl (cells_new (w := w')) (by simp [Value.oneCell']) (by unfold maxLen; omega) (by omega) (by omega)
              obtain ⟨pv', cv', rfl⟩ := own_slice hown'
              have hne1 := own_ne hO hown (by decide)
              have hO3 := hO.grown hgrow (fun k hk e => hne1 (hk.trans (congrArg some e.symm)))
              have hL3 := hL.grown hgrow hL.size (fun k hk => by have := (hown.lt k hk).1; omega)
              refine last_one (i := 11) (by kernel_rfl) rfl (fun K hQ => ?_)
              refine step_append_run rfl (.tmp 65) (.tmp 74) 25 rfl (.slice pv (st.length + i) cv) (.slice (some ⟨w'.heap.size, 0, none⟩) 1 1) _ rfl rfl hrun ?_
              have hS3 := HS.out w3 hL3 (hO3.cell 4)
              refine hQ.out _ _ (fun _ => hS3) ?_
              clear hQ
              try simp only [Act.put, List.setIfInBounds_toArray]
              refine last_take (x := 13) (hl := by kernel_rfl) (hix := by decide) (i := 12) (v := .pointer (some ⟨X.heap.size, 4, none⟩)) _ rfl rfl (by kernel_rfl) (by kernel_rfl) (by kernel_rfl) (fun _ _ _ h => h) (by rfl) (fun w' hS => by obtain ⟨s1, s2, s3, s4, s5, s6, s7⟩ := hS; go_simp) hS3 ?_
              try simp only [Act.put]
              have t4 := hO3.cell 4
              have g4 := hO3.frozen 4
              simp only [List.getElem?_cons_zero, List.getElem?_cons_succ] at t4
              refine last_one (i := 13) (by kernel_rfl) rfl (fun K hQ => ?_)
              go_simp
              refine hQ.out _ _ (fun h => absurd rfl h) ?_
              clear hQ
              refine last_done (by kernel_rfl) ?_ _
              show Exit.inBlock 1 _ Exit.normal _ _
              have hne3 := own_ne hO3 hown' (by decide)
              have hB4 := hO3.set 4 (.slice pv' (st.length + i + 1) cv')
              have hown4 := own_other hown' ⟨X.heap.size, 4, none⟩ (.slice pv' (st.length + i + 1) cv') (fun j hj e => hne3 (hj.trans (congrArg some e)))
              have hL4 := hL3.setCell (p := ⟨X.heap.size, 4, none⟩) (Nat.le_refl _) (.slice pv' (st.length + i + 1) cv')
              have hpc' : pcells (st ++ (st.map (turnv m)).take i) ++ [Value.int .i64 tx, .int .i64 ty] = pcells (st ++ (st.map (turnv m)).take (i + 1)) := by rw [pcells_snoc, hN.out, List.append_assoc]
              have HQ := Lib.hid (And.intro hB4 (And.intro (own_to hown4 rfl hpc') hL4))
              clear hB4 hown4 hL4 hpc' hN hO3 hown' hL3 hS3 hrun hgrow hO hown hL t4 g4 hne1 hne3 HS HROT
              go_wp2_with fail
              go_roundw
              case rel => exact ⟨i + 1, pv', cv', by go_num, by omega, HQ.out.1, HQ.out.2.1, HQ.out.2.2⟩
              case measure => simp [RowKit.intOf]; omega
            · obtain rfl : i = st.length := by omega
              obtain ⟨-, hF1⟩ := (hK.call hL).two
              obtain ⟨F0, F1, F2, F3, F4⟩ := low5 hF1 (Below.refl _ _)
              clear hF1
              by_cases h6 : 6 < st.length
              · have z6 : decide ((6 : Int) < st.length) = true := decide_eq_true (by omega)
                have HV := Lib.hid (mir_long HNV.out.1 HNV.out.2 h6 HEV.out)
                have hK2 := hK.call hL
                clear hT hF hK hO hown hL HEV HNV hr hp F0 F1 F2 F3
                replace hK := hK2
                clear hK2
                obtain ⟨hT, -⟩ := hK.two
                have hL := hK.old
                clear hK
                obtain ⟨t0, t1, t2, t3, t4⟩ : _ ∧ _ ∧ _ ∧ _ ∧ _ := ⟨hT.cell 0, hT.cell 1, hT.cell 2, hT.cell 3, hT.cell 4⟩
                simp only [List.getElem?_cons_zero, List.getElem?_cons_succ] at t0 t1 t2 t3 t4
                obtain ⟨g0, g1, g2, g3, g4⟩ : _ ∧ _ ∧ _ ∧ _ ∧ _ := ⟨hT.frozen 0, hT.frozen 1, hT.frozen 2, hT.frozen 3, hT.frozen 4⟩
                have hT6 := ((((hT.set 0 (.string ⟨#[]⟩)).set 1 (.int .i64 0)).set 2 (.int .i64 0)).set 3 (.slice none 0 0)).set 4 (.slice none 0 0)
                obtain ⟨u0, u1, u2, u3, u4⟩ : _ ∧ _ ∧ _ ∧ _ ∧ _ := ⟨hT6.cell 0, hT6.cell 1, hT6.cell 2, hT6.cell 3, hT6.cell 4⟩
                simp only [List.set_cons_zero, List.set_cons_succ, List.getElem?_cons_zero, List.getElem?_cons_succ] at u0 u1 u2 u3 u4
                have HU := Lib.hid (And.intro u0 (And.intro u1 (And.intro u2 (And.intro u3 u4))))
                clear u0 u1 u2 u3 u4
                have hL6 := (((((hL.setCell (p := ⟨W.heap.size + 1, 0, none⟩) (Nat.le_succ _) (.string ⟨#[]⟩)).setCell (p := ⟨W.heap.size + 1, 1, none⟩) (Nat.le_succ _) (.int .i64 0)).setCell (p := ⟨W.heap.size + 1, 2, none⟩) (Nat.le_succ _) (.int .i64 0)).setCell (p := ⟨W.heap.size + 1, 3, none⟩) (Nat.le_succ _) (.slice none 0 0)).setCell (p := ⟨W.heap.size + 1, 4, none⟩) (Nat.le_succ _) (.slice none 0 0))
                have HZ := Lib.hid (mir_of HV.out hL6)
                clear hT hT6 hL hL6
                go_wp2_with fail
                obtain ⟨u0, u1, u2, u3, u4⟩ := HU.out
                refine bodyPost_ret (v := .tuple #[.agg #[.string ⟨#[]⟩, .int .i64 0, .int .i64 0, .slice none 0 0, .slice none 0 0], .int .i64 2]) (by simp [results, Tryz.results20, go_sem, *]) rfl HZ.out
              · have z6 : decide ((6 : Int) < st.length) = false := decide_eq_false (by omega)
                have htk : (st.map (turnv m)).take st.length = st.map (turnv m) := List.take_of_length_le (by simp)
                rw [htk] at hown
                have hlen : (st ++ st.map (turnv m)).length = st.length + st.length := by simp
                obtain ⟨G, hG⟩ : ∃ G, Hid (G = st ++ st.map (turnv m)) := ⟨_, hid rfl⟩
                rw [← hG.out] at hown hlen HEV
                replace hown := own_to hown hlen.symm rfl
                obtain ⟨n2, hn2⟩ : ∃ n2, n2 = st.length + st.length := ⟨_, rfl⟩
                rw [← hn2] at hO hown hlen
                subst hlen
                clear hn2
                have hpos : PosAt wr (.slice pv G.length cv) G := PosAt.own hown
                obtain ⟨r, hv⟩ : ∃ r, Hid (r = validf ⟨nm, m, G⟩) := ⟨_, hid rfl⟩
                have c1 := rvalidf_b ⟨nm, m, G⟩ (.slice p0 m.cs.length c0) (.slice pv G.length cv) r wr (hr.below hL) hpos hn hv
                dsimp only at c1
                obtain ⟨B0, B1, B2, B3, B4⟩ := low5 hO (Below.refl _ _)
                go_wp2_with fail
                with_reducible refine c1.mono ?_
                rintro e w6 ⟨rfl, hb6⟩
                replace hO := hO.below hb6
                replace hown := own_below hown hb6
                replace hL := hL.trans (hb6.mono hL.size)
                have hrw := hr.below hL
                have hK2 := hK.call hL
                clear c1 hb6 B0 B1 B2 B3 B4 hpos F0 F1 F2 F3 F4 hT hF hp hr hK htk
                obtain ⟨hT, -⟩ := hK2.two
                by_cases h0 : r = 0
                · subst h0
                  have ev := HEV.out
                  rw [if_pos hv.out.symm] at ev
                  injection ev with ev1 ev2
                  subst ev1 ev2
                  obtain ⟨B0, B1, B2, B3, B4⟩ := low5 hO (Below.refl _ _)
                  obtain ⟨t0, t1, t2, t3, t4⟩ := low5 hT (Below.refl _ _)
                  obtain ⟨g0, g1, g2, g3, g4⟩ : _ ∧ _ ∧ _ ∧ _ ∧ _ := ⟨hT.frozen 0, hT.frozen 1, hT.frozen 2, hT.frozen 3, hT.frozen 4⟩
                  have hT6 := ((((hT.set 0 (.string (bs nm))).set 1 (.int .i64 m.w)).set 2 (.int .i64 m.h)).set 3 (.slice p0 m.cs.length c0)).set 4 (.slice pv G.length cv)
                  obtain ⟨u0, u1, u2, u3, u4⟩ : _ ∧ _ ∧ _ ∧ _ ∧ _ := ⟨hT6.cell 0, hT6.cell 1, hT6.cell 2, hT6.cell 3, hT6.cell 4⟩
                  simp only [List.set_cons_zero, List.set_cons_succ, List.getElem?_cons_zero, List.getElem?_cons_succ] at u0 u1 u2 u3 u4
                  have HU := Lib.hid (And.intro u0 (And.intro u1 (And.intro u2 (And.intro u3 u4))))
                  clear u0 u1 u2 u3 u4
                  have hL6 := ((((hK2.old.setCell (p := ⟨W.heap.size + 1, 0, none⟩) (Nat.le_succ _) (.string (bs nm))).setCell (p := ⟨W.heap.size + 1, 1, none⟩) (Nat.le_succ _) (.int .i64 m.w)).setCell (p := ⟨W.heap.size + 1, 2, none⟩) (Nat.le_succ _) (.int .i64 m.h)).setCell (p := ⟨W.heap.size + 1, 3, none⟩) (Nat.le_succ _) (.slice p0 m.cs.length c0)).setCell (p := ⟨W.heap.size + 1, 4, none⟩) (Nat.le_succ _) (.slice pv G.length cv)
                  have ne : ∀ i j, (Value.slice pv G.length cv).ownBlock = some j → j ≠ (⟨W.heap.size + 1, i, none⟩ : Addr).block := fun i j hj => by
                    have := (hown.lt j hj).1
                    show j ≠ W.heap.size + 1
                    omega
                  have hv5 := own_other (own_other (own_other (own_other (own_other hown ⟨W.heap.size + 1, 0, none⟩ (.string (bs nm)) (ne 0)) ⟨W.heap.size + 1, 1, none⟩ (.int .i64 m.w) (ne 1)) ⟨W.heap.size + 1, 2, none⟩ (.int .i64 m.h) (ne 2)) ⟨W.heap.size + 1, 3, none⟩ (.slice p0 m.cs.length c0) (ne 3)) ⟨W.heap.size + 1, 4, none⟩ (.slice pv G.length cv) (ne 4)
                  have nr : ∀ i g' o c n, (Value.slice p0 m.cs.length c0) = .slice (some ⟨g', o, none⟩) n c → g' ≠ (⟨W.heap.size + 1, i, none⟩ : Addr).block := fun i g' o c n e => by
                    have := hg0.out hm1 g' o c n e
                    show g' ≠ W.heap.size + 1
                    omega
                  have hr5 := ((((hrw.other ⟨W.heap.size + 1, 0, none⟩ (.string (bs nm)) (nr 0)).other ⟨W.heap.size + 1, 1, none⟩ (.int .i64 m.w) (nr 1)).other ⟨W.heap.size + 1, 2, none⟩ (.int .i64 m.h) (nr 2)).other ⟨W.heap.size + 1, 3, none⟩ (.slice p0 m.cs.length c0) (nr 3)).other ⟨W.heap.size + 1, 4, none⟩ (.slice pv G.length cv) (nr 4)
                  have HZ := Lib.hid (show MirPost ⟨nm, m, G⟩ 0 W (.returned (.tuple #[.agg #[.string (bs nm), .int .i64 m.w, .int .i64 m.h, .slice p0 m.cs.length c0, .slice pv G.length cv], .int .i64 0])) _ from ⟨_, _, rfl, hr5, PosAt.own hv5, hcap, hL6⟩)
                  clear hr5 hv5 hL6 hT6 ne nr hT hO hown hL hrw hK2 hcap HEV hv hg0 HNV
                  go_wp2_with fail
                  obtain ⟨u0, u1, u2, u3, u4⟩ := HU.out
                  refine bodyPost_ret (v := .tuple #[.agg #[.string (bs nm), .int .i64 m.w, .int .i64 m.h, .slice p0 m.cs.length c0, .slice pv G.length cv], .int .i64 0]) (by simp [results, Tryz.results20, go_sem, *]) rfl HZ.out
                · have hne : (r == 0) = false := by simpa using h0
                  have ev := HEV.out
                  rw [if_neg (fun e => h0 (hv.out.trans e)), ← hv.out] at ev
                  injection ev with ev1 ev2
                  have HV := Lib.hid (And.intro ev1 ev2)
                  replace hL := hK2.old
                  clear ev1 ev2 HEV hv hO hown hrw hK2 hcap h0 HNV
                  obtain ⟨t0, t1, t2, t3, t4⟩ : _ ∧ _ ∧ _ ∧ _ ∧ _ := ⟨hT.cell 0, hT.cell 1, hT.cell 2, hT.cell 3, hT.cell 4⟩
                  simp only [List.getElem?_cons_zero, List.getElem?_cons_succ] at t0 t1 t2 t3 t4
                  obtain ⟨g0, g1, g2, g3, g4⟩ : _ ∧ _ ∧ _ ∧ _ ∧ _ := ⟨hT.frozen 0, hT.frozen 1, hT.frozen 2, hT.frozen 3, hT.frozen 4⟩
                  have hT6 := ((((hT.set 0 (.string ⟨#[]⟩)).set 1 (.int .i64 0)).set 2 (.int .i64 0)).set 3 (.slice none 0 0)).set 4 (.slice none 0 0)
                  obtain ⟨u0, u1, u2, u3, u4⟩ : _ ∧ _ ∧ _ ∧ _ ∧ _ := ⟨hT6.cell 0, hT6.cell 1, hT6.cell 2, hT6.cell 3, hT6.cell 4⟩
                  simp only [List.set_cons_zero, List.set_cons_succ, List.getElem?_cons_zero, List.getElem?_cons_succ] at u0 u1 u2 u3 u4
                  have HU := Lib.hid (And.intro u0 (And.intro u1 (And.intro u2 (And.intro u3 u4))))
                  clear u0 u1 u2 u3 u4
                  have hL6 := (((((hL.setCell (p := ⟨W.heap.size + 1, 0, none⟩) (Nat.le_succ _) (.string ⟨#[]⟩)).setCell (p := ⟨W.heap.size + 1, 1, none⟩) (Nat.le_succ _) (.int .i64 0)).setCell (p := ⟨W.heap.size + 1, 2, none⟩) (Nat.le_succ _) (.int .i64 0)).setCell (p := ⟨W.heap.size + 1, 3, none⟩) (Nat.le_succ _) (.slice none 0 0)).setCell (p := ⟨W.heap.size + 1, 4, none⟩) (Nat.le_succ _) (.slice none 0 0))
                  have HZ := Lib.hid (mir_of HV.out hL6)
                  clear hT hT6 hL hL6
                  go_wp2_with fail
                  obtain ⟨u0, u1, u2, u3, u4⟩ := HU.out
                  refine bodyPost_ret (v := .tuple #[.agg #[.string ⟨#[]⟩, .int .i64 0, .int .i64 0, .slice none 0 0, .slice none 0 0], .int .i64 r]) (by simp [results, Tryz.results20, go_sem, *]) rfl HZ.out

end Go.Proofs.YtmpbgfobiceehaaGreatDoor
