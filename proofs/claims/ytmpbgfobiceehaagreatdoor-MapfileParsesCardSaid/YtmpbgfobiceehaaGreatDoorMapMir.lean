/-
  What the functions of mapfile answer: Print of any map file, Mirror.
-/
import Derived.Test.YtmpbgfobiceehaaGreatDoorMapReadQ
import Derived.Test.YtmpbgfobiceehaaGreatDoorMapLandQ
import Derived.BigRegion
import Derived.Test.YtmpbgfobiceehaaGreatDoorHeldLib
namespace Go.Proofs.YtmpbgfobiceehaaGreatDoor

section
open Go.RowKit Go.Lib

set_option maxRecDepth 100000 in
set_option maxHeartbeats 4000000 in
theorem dprint_no (f : F3) (sc ss : Value) (r : Int) (W : World) (hE : EnvM W) (hr : RowAt W sc f.m.cs) (hp : PosAt W ss f.st) (hn : f.name.length ≤ 100000) (e : Hid (r = validf f)) (h0 : (r == 0) = false) :
    Calls Tryz.prog 12 #[fileV f sc ss] W fun e w' => e = .returned (.tuple #[.string ⟨#[]⟩, .int .i64 r]) ∧ Below W.heap.size W w' := by
  have c0 := fun V (a : EnvP V) b c => dvalidf_b f sc ss r V a b c hn e
  unfold fileV at c0 ⊢
  obtain ⟨p, c, rfl, -, -⟩ := id hr
  obtain ⟨q, d, rfl, -, -⟩ := id hp
  have hT := Held1.start W [.string (bs f.name), .int .i64 f.m.w, .int .i64 f.m.h, .slice p f.m.cs.length c, .slice q f.st.length d] 27
  obtain ⟨F0, F1, F2, F3, F4⟩ : _ ∧ _ ∧ _ ∧ _ ∧ _ := ⟨hT.l.cell 0, hT.l.cell 1, hT.l.cell 2, hT.l.cell 3, hT.l.cell 4⟩
  simp only [List.getElem?_cons_zero, List.getElem?_cons_succ] at F0 F1 F2 F3 F4
  have c1 := c0 _ (hE.keep hT.old).p (hr.below hT.old) (hp.below hT.old)
  clear c0 hr hp hE e
  go_enter Tryz.func12, Tryz.ntmps12
  go_wp2_with fail
  ((with_reducible refine c1.mono ?_); rintro e w1 ⟨rfl, hb⟩)
  replace hT := hT.call hb
  clear c1 F0 F1 F2 F3 F4 hb
  go_wp2_with fail
  go_ret2
  exact ⟨rfl, hT.old⟩

/-- Print. -/
theorem dprint_b (f : F3) (sc ss : Value) (T : ByteArray) (r : Int) (W : World) (hE : EnvM W) (hr : RowAt W sc f.m.cs) (hp : PosAt W ss f.st) (hcap : CapOk sc) (hn : f.name.length ≤ 100000) (e : Hid (T.data.toList = (printv f).1 ∧ r = (printv f).2)) :
    Calls Tryz.prog 12 #[fileV f sc ss] W fun e w' => e = .returned (.tuple #[.string T, .int .i64 r]) ∧ Below W.heap.size W w' := by
  obtain ⟨e1, e2⟩ := e.out
  unfold printv at e1 e2
  by_cases hv : validf f = 0
  · rw [if_pos hv] at e1 e2
    have hG := good_of hv
    obtain ⟨nm, ⟨w, h, cs⟩, st⟩ := f
    have hw := hG.w
    have hh := hG.h
    dsimp only at hw hh
    obtain ⟨w, rfl⟩ := Int.eq_ofNat_of_zero_le (show 0 ≤ w by omega)
    obtain ⟨h, rfl⟩ := Int.eq_ofNat_of_zero_le (show 0 ≤ h by omega)
    have eT : T = bs (joinT (linesF ⟨nm, ⟨w, h, cs⟩, st⟩)) := by rw [← bs_of T, e1]
    dsimp only at e2
    subst e2
    exact dprint_ok nm w h cs st sc ss T W hE hr hp hcap hv (hid eT)
  · rw [if_neg hv] at e1 e2
    have eT : T = ⟨#[]⟩ := by rw [← bs_of T, e1]; rfl
    dsimp only at e2
    subst eT
    exact dprint_no f sc ss r W hE hr hp hn (hid e2) (by rw [e2]; simpa using hv)

theorem w64 (x : Int) : wrap64 x = IntKind.i64.wrap x := by
  first | rfl | (unfold wrap64 IntKind.wrap; simp [IntKind.signed, IntKind.bits]; omega) | (unfold wrap64; simp [IntKind.wrap, IntKind.signed, IntKind.bits]; split <;> omega)
set_option maxHeartbeats 2000000 in
/-- rotated. -/
theorem drotated_b (w h x y : Int) (p : Option Addr) (n c : Nat) (W : World) :
    Calls Tryz.prog 55 #[.agg #[.int .i64 w, .int .i64 h, .slice p n c], .agg #[.int .i64 x, .int .i64 y]] W fun e w' =>
      e = .returned (.agg #[.int .i64 (IntKind.i64.wrap (IntKind.i64.wrap (w - 1) - x)), .int .i64 (IntKind.i64.wrap (IntKind.i64.wrap (h - 1) - y))]) ∧ Below W.heap.size W w' := by
  simp only [← w64]
  have hK := (((Keep.nil W).alloc [.int .i64 w, .int .i64 h, .slice p n c] 24).alloc [.int .i64 x, .int .i64 y] 41).alloc [.int .i64 (wrap64 (wrap64 (w - 1) - x)), .int .i64 (wrap64 (wrap64 (h - 1) - y))] 41
  go_enter Tryz.func55, Tryz.ntmps55
  go_wp2_with fail
  refine bodyPost_ret (v := .agg #[.int .i64 (wrap64 (wrap64 (w - 1) - x)), .int .i64 (wrap64 (wrap64 (h - 1) - y))]) (by simp [results, Tryz.results55, go_sem]) rfl ⟨rfl, hK.old⟩

theorem pos_news {W : World} {a : Addr} {n c : Nat} {ps : List (Int × Int)} (h : PosAt W (.slice (some a) n c) ps) : ∀ j u, (pcells ps)[j]? = some u → W.cell? (a.add j) = some u := by
  intro j u hj
  have hlt := (List.getElem?_eq_some_iff.1 hj).1
  rw [pcells_len] at hlt
  have hi : j / 2 < ps.length := by omega
  obtain ⟨g, o, d, e, -, a1, a2⟩ := h.at hi
  injection e with e1 _ _
  injection e1 with e1
  subst e1
  have ha : (⟨g, o, none⟩ : Addr).add j = ⟨g, o + j, none⟩ := by unfold Addr.add; split <;> simp_all
  obtain ⟨b1, b2⟩ := pcells_at ps (j / 2) hi
  rw [ha]
  by_cases r0 : j % 2 = 0
  · rw [show j = 2 * (j / 2) by omega, b1] at hj
    rw [show o + j = o + j / 2 * 2 by omega, a1, hj]
  · rw [show j = 2 * (j / 2) + 1 by omega, b2] at hj
    rw [show o + j = o + j / 2 * 2 + 1 by omega, a2, hj]
theorem ps_one (l : List (Int × Int)) : ∀ u ∈ pcells l, u.oneCell' = true := by
  intro u hu
  unfold pcells at hu
  obtain ⟨p, -, hp⟩ := List.mem_flatMap.1 hu
  simp at hp
  rcases hp with rfl | rfl <;> rfl

set_option maxHeartbeats 2000000 in
/-- slices.Clone of positions. -/
theorem dclonep_b (ps : List (Int × Int)) (s : Value) (W : World) (hr : PosAt W s ps) (hsm : ps.length ≤ 100000) :
    Calls Tryz.prog 54 #[s] W fun e w' => ∃ v, e = .returned v ∧ w'.ownsRow W.heap.size 41 2 v ps.length (pcells ps) ∧ Below W.heap.size W w' := by
  obtain ⟨i0, hi, hz0, hz1, hz2⟩ := info_parts infoPos
  obtain ⟨p, c, rfl, hm, hc⟩ := id hr
  have q22 : ∀ (w : World) (a : Option Addr) (n c n' c' : Nat), (binOp .eql 25 (.slice a n c) (.slice none n' c')).run Tryz.prog w = .ok (.bool a.isNone) w := fun w a n c n' c' => Lib.run_eql_slice_nil w _ _ a n c n' c' Tryz.underlying25
  cases p with
  | none =>
    have h0 : ps = [] := by
      cases ps with
      | nil => rfl
      | cons a l => obtain ⟨_, _, e, _⟩ := hc (by simp); cases e
    subst h0
    clear hr hc
    go_enter Tryz.func54, Tryz.ntmps54
    go_wp2_with fail
    go_ret
    exact ⟨_, rfl, World.ownsRow_nil _ _ _ _, Below.refl _ _⟩
  | some a =>
    have hat := fun (V : World) (hV : Below W.heap.size W V) => pos_news (hr.below hV)
    clear hc hr
    have hown0 := World.ownsRow_made (e := 41) (base := W.heap.size) (size := 2) W #[] 0 (Nat.le_refl _) (by unfold maxLen; omega) rfl
    go_enter Tryz.func54, Tryz.ntmps54
    go_wp2_with (at_builtin; refine wpList_append_own _ rfl _ _ 25 rfl W.heap.size 41 i0 (.agg #[.int .i64 0, .int .i64 0]) 2 16 Tryz.underlying25 hi hz0 hz1 hz2 rfl (by decide) _ _ _ rfl hown0 a ps.length c (pcells ps) rfl (pcells_len _) (hat _ ((Below.refl _ _).alloc (Nat.le_refl _) _)) (ps_one _) (by unfold maxLen; omega) (by omega) (by first | (simp; done) | (simp; omega)) ?_)
    intro v' X hown hg _
    go_wp2_with fail
    go_ret
    exact ⟨v', rfl, by simpa using hown, ((Below.refl _ W).alloc (Nat.le_refl _) _).grown hg (by simp) (by intro k hk; simp [Value.ownBlock] at hk; omega)⟩

end

section
open Go.RowKit Go.Lib

/-- A list reversed as far as i from both ends. -/
def RevIs (cs Q : List C3) (i : Nat) : Prop := Q.length = cs.length ∧ ∀ k, k < cs.length → Q.getD k C3.zero = if k < i ∨ cs.length ≤ k + i then cs.getD (cs.length - 1 - k) C3.zero else cs.getD k C3.zero
theorem RevIs.start (cs : List C3) : RevIs cs cs 0 := ⟨rfl, fun k hk => by rw [if_neg (by omega)]⟩
theorem getD_set3 (Q : List C3) (i k : Nat) (a : C3) (hi : i < Q.length) : (Q.set i a).getD k C3.zero = if i = k then a else Q.getD k C3.zero := by
  rw [List.getD_eq_getElem?_getD, List.getD_eq_getElem?_getD, List.getElem?_set]
  by_cases h : i = k
  · rw [if_pos h, if_pos h, if_pos hi]; rfl
  · rw [if_neg h, if_neg h]
theorem RevIs.next {cs Q : List C3} {i J : Nat} (h : RevIs cs Q i) (hn : i + J + 1 = cs.length) (hlt : i < J) : RevIs cs ((Q.set i (Q.getD J C3.zero)).set J (Q.getD i C3.zero)) (i + 1) := by
  obtain ⟨hl, hk⟩ := h
  refine ⟨by rw [List.length_set, List.length_set, hl], fun k k1 => ?_⟩
  rw [getD_set3 _ _ _ _ (by rw [List.length_set]; omega), getD_set3 _ _ _ _ (by omega)]
  by_cases h1 : J = k
  · subst h1
    rw [if_pos rfl, if_pos (.inr (by omega)), hk i (by omega), if_neg (by omega), show cs.length - 1 - J = i by omega]
  · rw [if_neg h1]
    by_cases h2 : i = k
    · subst h2
      rw [if_pos rfl, if_pos (.inl (by omega)), hk J (by omega), if_neg (by omega), show cs.length - 1 - i = J by omega]
    · rw [if_neg h2, hk k k1]
      by_cases h3 : k < i ∨ cs.length ≤ k + i
      · rw [if_pos h3, if_pos (by omega)]
      · rw [if_neg h3, if_neg (by omega)]
theorem RevIs.done {cs Q : List C3} {i J : Nat} (h : RevIs cs Q i) (hn : i + J + 1 = cs.length) (hge : J ≤ i) (hle : i ≤ J + 1) : Q = cs.reverse := by
  obtain ⟨hl, hk⟩ := h
  apply List.ext_getElem (by rw [List.length_reverse, hl])
  intro k k1 k2
  have e := hk k (by omega)
  rw [List.getD_eq_getElem?_getD, List.getElem?_eq_getElem k1] at e
  rw [List.getElem_reverse]
  have e1 : cs.getD (cs.length - 1 - k) C3.zero = cs[cs.length - 1 - k]'(by omega) := by rw [List.getD_eq_getElem?_getD, List.getElem?_eq_getElem (by omega)]; rfl
  by_cases h3 : k < i ∨ cs.length ≤ k + i
  · rw [if_pos h3, e1] at e; exact e
  · have h4 : cs.length - 1 - k = k := by omega
    rw [if_neg h3, ← congrArg (fun j => cs.getD j C3.zero) h4] at e
    exact e.trans e1

set_option maxRecDepth 100000 in
set_option maxHeartbeats 8000000 in
theorem drev_b (B g cap : Nat) (cs : List C3) (W : World) (_hB : B ≤ g) (h1 : 1 ≤ cs.length) (hsm : cs.length ≤ 100000) (hown : W.ownsRow B 44 3 (.slice (some ⟨g, 0, none⟩) cs.length cap) cs.length (ccells cs)) :
    Calls Tryz.prog 85 #[.slice (some ⟨g, 0, none⟩) cs.length cap] W fun e w' => e = .returned (.tuple #[]) ∧ w'.ownsRow B 44 3 (.slice (some ⟨g, 0, none⟩) cs.length cap) cs.length (ccells cs.reverse) ∧ Two g g W w' := by
  obtain ⟨n, hn⟩ : ∃ n, n = cs.length := ⟨_, rfl⟩
  have hI : RevIs cs cs 0 := RevIs.start cs
  rw [← hn] at hown hsm h1 ⊢
  replace hn := hid hn
  have HI := hid hI
  clear hI
  go_enter Tryz.func85, Tryz.ntmps85
  go_wp2_with fail
  go_loopw [2, 3] (fun vi vj wr => ∃ (i J : Nat) (Q : List C3), vi = .int .i64 i ∧ vj = .int .i64 J ∧ i + J + 1 = n ∧ i ≤ J + 1 ∧ Hid (RevIs cs Q i) ∧ wr.ownsRow B 44 3 (.slice (some ⟨g, 0, none⟩) n cap) n (ccells Q) ∧ Two g g W wr) (fun vi vj _ => (RowKit.intOf vj + 1 - RowKit.intOf vi).toNat)
  case atStart => exact ⟨0, n - 1, cs, rfl, congrArg (Value.int .i64) (by omega), by omega, by omega, HI, hown, Two.refl _ _ _⟩
  case round =>
    clear HI hown
    obtain ⟨i, J, Q, rfl, rfl, hsum, hle, hR, hown, hT⟩ := hrel
    have hQ : Q.length = n := by rw [hn.out]; exact hR.out.1
    by_cases hlt : i < J
    · have d1 : (i : Int) < J := by omega
      have d2 : (i : Int) < n := by omega
      have d3 : (J : Int) < n := by omega
      obtain ⟨x, hx⟩ : ∃ x, Hid (x = Q.getD i C3.zero) := ⟨_, hid rfl⟩
      obtain ⟨y, hy⟩ : ∃ x, Hid (x = Q.getD J C3.zero) := ⟨_, hid rfl⟩
      have gx : Q[i]'(by omega) = x := by rw [hx.out, List.getD_eq_getElem?_getD, List.getElem?_eq_getElem (by omega)]; rfl
      have gy : Q[J]'(by omega) = y := by rw [hy.out, List.getD_eq_getElem?_getD, List.getElem?_eq_getElem (by omega)]; rfl
      have hown0 := hown
      rw [← hQ] at hown0
      obtain ⟨a0, a1, a2, f0, f1, f2⟩ := own_three hown0 (n := i) (by omega)
      obtain ⟨b0, b1, b2, e0, e1, e2⟩ := own_three hown0 (n := J) (by omega)
      rw [gx] at a0 a1 a2
      rw [gy] at b0 b1 b2
      have hset1 : ∀ (P : List C3) (k : Nat) (q : C3) (V : World), P.length = n → k < n → V.ownsRow B 44 3 (.slice (some ⟨g, 0, none⟩) n cap) n (ccells P) →
          (((V.setCell ⟨g, k * 3, none⟩ (.int .i64 q.k)).setCell ⟨g, k * 3 + 1, none⟩ (.int .i64 q.h)).setCell ⟨g, k * 3 + 2, none⟩ (.int .i64 q.a)).ownsRow B 44 3 (.slice (some ⟨g, 0, none⟩) n cap) n (ccells (P.set k q)) := fun P k q V hP hk hV => by
        rw [← ccells_set P k q (by omega)]
        exact (((hV.stored (k * 3) (.int .i64 q.k)).1.stored (k * 3 + 1) (.int .i64 q.h)).1.stored (k * 3 + 2) (.int .i64 q.a)).1
      have hset2 : ∀ (k : Nat) (q : C3) (V : World), Two g g W V → Two g g W (((V.setCell ⟨g, k * 3, none⟩ (.int .i64 q.k)).setCell ⟨g, k * 3 + 1, none⟩ (.int .i64 q.h)).setCell ⟨g, k * 3 + 2, none⟩ (.int .i64 q.a)) := fun k q V hV =>
        ((hV.trans (Two.set _ ⟨g, k * 3, none⟩ _ (.inl rfl))).trans (Two.set _ ⟨g, k * 3 + 1, none⟩ _ (.inl rfl))).trans (Two.set _ ⟨g, k * 3 + 2, none⟩ _ (.inl rfl))
      have A1 := Lib.hid (hset1 (Q.set i y) J x _ (by rw [List.length_set]; exact hQ) (by omega) (hset1 Q i y wr hQ (by omega) hown))
      have A2 := Lib.hid (hset2 J x _ (hset2 i y wr hT))
      have B1 := Lib.hid (hset1 (Q.set J x) i y _ (by rw [List.length_set]; exact hQ) (by omega) (hset1 Q J x wr hQ (by omega) hown))
      have B2 := Lib.hid (hset2 i y _ (hset2 J x wr hT))
      have hN : Hid (RevIs cs ((Q.set i y).set J x) (i + 1)) := hid (by rw [hx.out, hy.out]; exact hR.out.next (by rw [← hn.out]; exact hsum) hlt)
      rw [List.set_comm _ _ (show J ≠ i by omega)] at B1
      clear hown hown0 hT hset1 hset2 gx gy hx hy hR
      go_wp2_with fail
      go_region
      all_goals
        go_wp2_with fail
        go_roundw
        case rel => first | exact ⟨i + 1, J - 1, _, by go_num, congrArg (Value.int .i64) (by omega), by omega, by omega, hN, A1.out.drew, A2.out.trans (Two.of_below (Below.refl _ _).drew)⟩ | exact ⟨i + 1, J - 1, _, by go_num, congrArg (Value.int .i64) (by omega), by omega, by omega, hN, B1.out.drew, B2.out.trans (Two.of_below (Below.refl _ _).drew)⟩
        case measure => simp [RowKit.intOf]; omega
    · have hQr : Q = cs.reverse := hR.out.done (by rw [← hn.out]; exact hsum) (by omega) hle
      subst hQr
      have d1 : ¬ (i : Int) < J := by omega
      clear hR
      go_wp2_with fail
      refine bodyPost_end (v := .tuple #[]) (by simp [results, Tryz.results85, go_sem]) rfl ⟨rfl, hown, hT⟩

set_option maxRecDepth 100000 in
set_option maxHeartbeats 4000000 in
theorem drotm_b (m : M3) (s : Value) (W : World) (hr : RowAt W s m.cs) (h1 : 1 ≤ m.cs.length) (hsm : m.cs.length ≤ 100000) :
    Calls Tryz.prog 52 #[.agg #[.int .i64 m.w, .int .i64 m.h, s]] W fun e w' => ∃ g cap, e = .returned (.agg #[.int .i64 m.w, .int .i64 m.h, .slice (some ⟨g, 0, none⟩) m.cs.length cap]) ∧ RowAt w' (.slice (some ⟨g, 0, none⟩) m.cs.length cap) m.cs.reverse ∧ W.heap.size ≤ g ∧ CapOk (.slice (some ⟨g, 0, none⟩) m.cs.length cap) ∧ Below W.heap.size W w' := by
  obtain ⟨p, c, rfl, -, -⟩ := id hr
  have hK := ((Keep.nil W).alloc [.int .i64 m.w, .int .i64 m.h, .slice p m.cs.length c] 24).alloc [.int .i64 0, .int .i64 0, .slice none 0 0] 24
  have hr' := hr.below hK.old
  simp only [World.size_alloc] at hK
  go_enter Tryz.func52, Tryz.ntmps52
  go_upto_region 1 with fail
  have hsz : ((W.alloc (.cells [Value.int .i64 m.w, .int .i64 m.h, .slice p m.cs.length c].toArray 24)).alloc (.cells [Value.int .i64 0, .int .i64 0, .slice none 0 0].toArray 24)).heap.size = W.heap.size + 1 + 1 := by simp
  generalize ((W.alloc (.cells [Value.int .i64 m.w, .int .i64 m.h, .slice p m.cs.length c].toArray 24)).alloc (.cells [Value.int .i64 0, .int .i64 0, .slice none 0 0].toArray 24)) = V at *
  obtain ⟨hR, hM⟩ := hK.two
  obtain ⟨F0, F1, F2⟩ : _ ∧ _ ∧ _ := ⟨hM.cell 0, hM.cell 1, hM.cell 2⟩
  simp only [List.getElem?_cons_zero, List.getElem?_cons_succ] at F0 F1 F2
  go_wp2_with fail
  ((with_reducible refine (dclone_b m.cs _ _ hr' h1 hsm).mono ?_); rintro e X ⟨g, cap, rfl, hown, hb1⟩)
  replace hK := hK.call hb1
  rw [hsz] at hown
  have hg := (hown.lt g rfl).1
  have hcap : CapOk (.slice (some ⟨g, 0, none⟩) m.cs.length cap) := by
    rcases hown.2 with ⟨e0, _⟩ | ⟨g', cap', cur, e0, _, _, k1, k2, _⟩
    · cases e0
    · cases e0
      intro _ _ _ e
      cases e
      exact ⟨k1, k2⟩
  clear hR hM hr' hb1 F0 F1 F2
  obtain ⟨hR, hM⟩ := hK.two
  obtain ⟨F0, F1, F2⟩ : _ ∧ _ ∧ _ := ⟨hM.cell 0, hM.cell 1, hM.cell 2⟩
  simp only [List.getElem?_cons_zero, List.getElem?_cons_succ] at F0 F1 F2
  have G2 := hM.frozen 2
  have hown1 := own_other hown ⟨W.heap.size, 2, none⟩ (.slice (some ⟨g, 0, none⟩) m.cs.length cap) (fun j hj => by
    simp only [Value.ownBlock, Option.some.injEq] at hj
    show j ≠ W.heap.size
    omega)
  have hL1 := hK.old.setCell (p := ⟨W.heap.size, 2, none⟩) (Nat.le_refl _) (.slice (some ⟨g, 0, none⟩) m.cs.length cap)
  have hM1 := hM.set 2 (.slice (some ⟨g, 0, none⟩) m.cs.length cap)
  have hR1 := hR.far (c := W.heap.size) (i := 2) (.slice (some ⟨g, 0, none⟩) m.cs.length cap) (by omega)
  simp only [List.set_cons_zero, List.set_cons_succ] at hM1
  clear hown hK hR hM
  go_wp2_with fail
  generalize X.setCell ⟨W.heap.size, 2, none⟩ (.slice (some ⟨g, 0, none⟩) m.cs.length cap) = Y at *
  clear F0 F1 F2 G2
  ((with_reducible refine (drev_b (W.heap.size + 1 + 1) g cap m.cs Y hg h1 hsm hown1).mono ?_); rintro e Z ⟨rfl, hown, hT⟩)
  have hM2 := Blk.two_ hM1 hT (by omega) (by omega)
  have hR2 := Blk.two_ hR1 hT (by omega) (by omega)
  have hL2 := hL1.trans (hT.below (B := W.heap.size) (by omega) (by omega) hL1.size)
  obtain ⟨F0, F1, F2⟩ : _ ∧ _ ∧ _ := ⟨hM2.cell 0, hM2.cell 1, hM2.cell 2⟩
  obtain ⟨R0, R1, R2, G0, G1, G2⟩ := hR2.three
  simp only [List.getElem?_cons_zero, List.getElem?_cons_succ] at F0 F1 F2
  have hR3 := ((hR2.set 0 (.int .i64 m.w)).set 1 (.int .i64 m.h)).set 2 (.slice (some ⟨g, 0, none⟩) m.cs.length cap)
  obtain ⟨u0, u1, u2, -, -, -⟩ := hR3.three
  have hL3 := ((hL2.setCell (p := ⟨W.heap.size + 1, 0, none⟩) (by simp) (.int .i64 m.w)).setCell (p := ⟨W.heap.size + 1, 1, none⟩) (by simp) (.int .i64 m.h)).setCell (p := ⟨W.heap.size + 1, 2, none⟩) (by simp) (.slice (some ⟨g, 0, none⟩) m.cs.length cap)
  have ne : ∀ i j, (Value.slice (some ⟨g, 0, none⟩) m.cs.length cap).ownBlock = some j → j ≠ (⟨W.heap.size + 1, i, none⟩ : Addr).block := fun i j hj => by
    simp only [Value.ownBlock, Option.some.injEq] at hj
    show j ≠ W.heap.size + 1
    omega
  have hown3 := own_other (own_other (own_other hown ⟨W.heap.size + 1, 0, none⟩ (.int .i64 m.w) (ne 0)) ⟨W.heap.size + 1, 1, none⟩ (.int .i64 m.h) (ne 1)) ⟨W.heap.size + 1, 2, none⟩ (.slice (some ⟨g, 0, none⟩) m.cs.length cap) (ne 2)
  have hlen : m.cs.length = m.cs.reverse.length := by simp
  have hrow : RowAt (((Z.setCell ⟨W.heap.size + 1, 0, none⟩ (.int .i64 m.w)).setCell ⟨W.heap.size + 1, 1, none⟩ (.int .i64 m.h)).setCell ⟨W.heap.size + 1, 2, none⟩ (.slice (some ⟨g, 0, none⟩) m.cs.length cap)) (.slice (some ⟨g, 0, none⟩) m.cs.length cap) m.cs.reverse := by
    rw [hlen] at hown3 ⊢
    exact RowAt.own hown3 (by rw [← hlen]; unfold maxLen; omega)
  have HZ := Lib.hid (And.intro hrow hL3)
  clear hown hown1 hown3 hrow hL3 hL2 hL1 hT hM1 hM2 hR1 hR2 hR3 ne hlen
  go_wp2_with fail
  refine bodyPost_ret (v := .agg #[.int .i64 m.w, .int .i64 m.h, .slice (some ⟨g, 0, none⟩) m.cs.length cap]) (by simp [results, Tryz.results52, go_sem, *]) rfl ⟨g, cap, rfl, HZ.out.1, by omega, hcap, HZ.out.2⟩

end

section
open Go.RowKit Go.Lib

section
variable {P : Program} {ops : Array Oper} {Q : Exit → Act → World → Prop} {md : Region.Mode} {S : World → Prop} {x : Nat}
/-- Two operations may come up. -/
theorem last_two {i k : Nat} {o1 o2 : Oper} {fuel : Nat} {listed : Array Bool} {a : Act} {w : World} (hr : Region.ready md ops listed = [i, k]) (h1 : ops[i]? = some o1) (h2 : ops[k]? = some o2)
    (H1 : ∀ K' : Act → World → Prop, Shut (∀ a w, (i ≠ x → S w) → wpAnyL P md ops Q S x fuel (listed.setIfInBounds i true) a w → K' a w) → if Region.wanted o1 (yielded ops a.tmps) = true then Oper.wp P o1 a w K' Q else K' (a.put o1.dst undef) w)
    (H2 : ∀ K' : Act → World → Prop, Shut (∀ a w, (k ≠ x → S w) → wpAnyL P md ops Q S x fuel (listed.setIfInBounds k true) a w → K' a w) → if Region.wanted o2 (yielded ops a.tmps) = true then Oper.wp P o2 a w K' Q else K' (a.put o2.dst undef) w) :
    wpAnyL P md ops Q S x (fuel + 1) listed a w := by
  refine ⟨fun h0 => (by rw [hr] at h0; cases h0), fun j hj => ?_⟩
  rw [hr] at hj
  rcases List.mem_cons.1 hj with rfl | hj
  · exact wpOp_step h1 (fun K' hK => H1 K' (fun a w hS hW => hK a w ⟨hS, hW⟩))
  · rcases List.mem_cons.1 hj with rfl | hj
    · exact wpOp_step h2 (fun K' hK => H2 K' (fun a w hS hW => hK a w ⟨hS, hW⟩))
    · cases hj
end

theorem own_slice {w : World} {B k n : Nat} {e : TypeId} {v : Value} {xs : List Value} (h : w.ownsRow B e k v n xs) : ∃ p c, v = .slice p n c := by
  rcases h.2 with ⟨rfl, rfl⟩ | ⟨g, cap, cur, rfl, _⟩
  · exact ⟨none, 0, rfl⟩
  · exact ⟨some ⟨g, 0, none⟩, cap, rfl⟩
/-- What Mirror leaves. -/
def MirPost (f : F3) (err : Int) (W : World) (e : Ending) (w' : World) : Prop := ∃ sc ss, e = .returned (.tuple #[fileV f sc ss, .int .i64 err]) ∧ RowAt w' sc f.m.cs ∧ PosAt w' ss f.st ∧ CapOk sc ∧ Below W.heap.size W w'
theorem zero_mir {W w' : World} (err : Int) (hb : Below W.heap.size W w') : MirPost F3.zero err W (.returned (.tuple #[.agg #[.string ⟨#[]⟩, .int .i64 0, .int .i64 0, .slice none 0 0, .slice none 0 0], .int .i64 err])) w' :=
  ⟨_, _, rfl, row_nil _, pos_nil _, cap_nil, hb⟩
theorem mir_of {W w' : World} {R : F3} {err er : Int} (h : F3.zero = R ∧ err = er) (hb : Below W.heap.size W w') : MirPost R er W (.returned (.tuple #[.agg #[.string ⟨#[]⟩, .int .i64 0, .int .i64 0, .slice none 0 0, .slice none 0 0], .int .i64 err])) w' := by
  obtain ⟨rfl, rfl⟩ := h
  exact zero_mir _ hb
theorem same_rev (m : M3) : samev ⟨m.w, m.h, m.cs.reverse⟩ m = decide (m.cs.reverse = m.cs) := by unfold samev; simp
theorem mir_no {f R : F3} {er : Int} (e : mirrorv f = (R, er)) (h : nameB f.name = false ∨ validm f.m = false) : F3.zero = R ∧ 1 = er := by
  unfold mirrorv at e
  rw [if_neg (by rintro ⟨a, b⟩; rcases h with h | h <;> simp_all)] at e
  injection e with a b
  exact ⟨a, b⟩
theorem mir_14 {f R : F3} {er : Int} (e : mirrorv f = (R, er)) (h1 : nameB f.name = true) (h2 : validm f.m = true) (h3 : ¬ f.m.cs.reverse = f.m.cs) : F3.zero = R ∧ 14 = er := by
  unfold mirrorv at e
  rw [if_pos ⟨h1, h2⟩, if_neg h3] at e
  injection e with a b
  exact ⟨a, b⟩
theorem mir_go {f R : F3} {er : Int} (e : mirrorv f = (R, er)) (h1 : nameB f.name = true) (h2 : validm f.m = true) (h3 : f.m.cs.reverse = f.m.cs) :
    (if validf ⟨f.name, f.m, f.st ++ f.st.map (turnv f.m)⟩ = 0 then ((⟨f.name, f.m, f.st ++ f.st.map (turnv f.m)⟩ : F3), (0 : Int)) else (F3.zero, validf ⟨f.name, f.m, f.st ++ f.st.map (turnv f.m)⟩)) = (R, er) := by
  unfold mirrorv at e
  rw [if_pos ⟨h1, h2⟩, if_pos h3] at e
  exact e
theorem validm_len {m : M3} (h : validm m = true) : 1 ≤ m.cs.length ∧ m.cs.length ≤ 1024 ∧ 1 ≤ m.w ∧ m.w ≤ 32 ∧ 1 ≤ m.h ∧ m.h ≤ 32 := by
  unfold validm at h
  rw [Bool.and_eq_true] at h
  obtain ⟨a, b, c⟩ := form_at h.1
  have h1 : 1 * 1 ≤ m.w.toNat * m.h.toNat := Nat.mul_le_mul (by omega) (by omega)
  have h2 : m.w.toNat * m.h.toNat ≤ 32 * 32 := Nat.mul_le_mul (by omega) (by omega)
  omega

set_option maxRecDepth 100000 in
set_option maxHeartbeats 8000000 in
theorem dmirror_b (nm : List UInt8) (m : M3) (st : List (Int × Int)) (p0 : Option Addr) (c0 : Nat) (ss : Value) (R : F3) (er : Int) (W : World) (hE : EnvM W) (hr : RowAt W (.slice p0 m.cs.length c0) m.cs) (hp : PosAt W ss st) (hn : nm.length ≤ 100000) (hst : st.length ≤ 1000) (e : Hid (mirrorv ⟨nm, m, st⟩ = (R, er))) :
    Calls Tryz.prog 19 #[.agg #[.string (bs nm), .int .i64 m.w, .int .i64 m.h, .slice p0 m.cs.length c0, ss]] W (MirPost R er W) := by
  obtain ⟨p, c, rfl, hpc, -⟩ := id hp
  have hK := ((Keep.nil W).alloc [.string (bs nm), .int .i64 m.w, .int .i64 m.h, .slice p0 m.cs.length c0, .slice p st.length c] 27).alloc [.string ⟨#[]⟩, .int .i64 0, .int .i64 0, .slice none 0 0, .slice none 0 0] 27
  have hr' := hr.below hK.old
  have hp' := hp.below hK.old
  have hE' := hE.keep hK.old
  simp only [World.size_alloc] at hK
  have hs : (bs nm).size ≤ 100000 := by rw [bs_size]; exact hn
  obtain ⟨nb, hnb⟩ : ∃ b, Hid (b = nameB (bs nm).data.toList) := ⟨_, hid rfl⟩
  obtain ⟨vb, hvb⟩ : ∃ b, Hid (b = validm m) := ⟨_, hid rfl⟩
  have hnb' : nb = nameB nm := by rw [hnb.out, bs_list]
  replace hnb' := Lib.hid hnb'
  go_enter Tryz.func19, Tryz.ntmps19
  go_upto_region 1 with fail
  have hsz : ((W.alloc (.cells [Value.string (bs nm), .int .i64 m.w, .int .i64 m.h, .slice p0 m.cs.length c0, .slice p st.length c].toArray 27)).alloc (.cells [Value.string ⟨#[]⟩, .int .i64 0, .int .i64 0, .slice none 0 0, .slice none 0 0].toArray 27)).heap.size = W.heap.size + 1 + 1 := by simp
  generalize ((W.alloc (.cells [Value.string (bs nm), .int .i64 m.w, .int .i64 m.h, .slice p0 m.cs.length c0, .slice p st.length c].toArray 27)).alloc (.cells [Value.string ⟨#[]⟩, .int .i64 0, .int .i64 0, .slice none 0 0, .slice none 0 0].toArray 27)) = V at *
  clear hr hp hE
  obtain ⟨hT, hF⟩ := hK.two
  obtain ⟨F0, F1, F2, F3, F4⟩ : _ ∧ _ ∧ _ ∧ _ ∧ _ := ⟨hF.cell 0, hF.cell 1, hF.cell 2, hF.cell 3, hF.cell 4⟩
  simp only [List.getElem?_cons_zero, List.getElem?_cons_succ] at F0 F1 F2 F3 F4

  cases nb with
  | false =>
    have HV := Lib.hid (mir_no e.out (.inl hnb'.out.symm))
    have hL := hK.old
    go_wp2_with fail
    ((with_reducible refine (disname_b _ false _ hs hnb).mono ?_); rintro e w1 ⟨rfl, rfl⟩)
    clear e hnb' hK hnb hvb hr' hp' hE' F0 F1 F2 F3 F4 hF
    obtain ⟨t0, t1, t2, t3, t4⟩ : _ ∧ _ ∧ _ ∧ _ ∧ _ := ⟨hT.cell 0, hT.cell 1, hT.cell 2, hT.cell 3, hT.cell 4⟩
    simp only [List.getElem?_cons_zero, List.getElem?_cons_succ] at t0 t1 t2 t3 t4
    obtain ⟨g0, g1, g2, g3, g4⟩ : _ ∧ _ ∧ _ ∧ _ ∧ _ := ⟨hT.frozen 0, hT.frozen 1, hT.frozen 2, hT.frozen 3, hT.frozen 4⟩
    have hT6 := ((((hT.set 0 (.string ⟨#[]⟩)).set 1 (.int .i64 0)).set 2 (.int .i64 0)).set 3 (.slice none 0 0)).set 4 (.slice none 0 0)
    obtain ⟨u0, u1, u2, u3, u4⟩ : _ ∧ _ ∧ _ ∧ _ ∧ _ := ⟨hT6.cell 0, hT6.cell 1, hT6.cell 2, hT6.cell 3, hT6.cell 4⟩
    simp only [List.set_cons_zero, List.set_cons_succ, List.getElem?_cons_zero, List.getElem?_cons_succ] at u0 u1 u2 u3 u4
    have HU := Lib.hid (And.intro u0 (And.intro u1 (And.intro u2 (And.intro u3 u4))))
    clear u0 u1 u2 u3 u4
    have hL6 := (((((hL.setCell (p := ⟨W.heap.size + 1, 0, none⟩) (Nat.le_succ _) (.string ⟨#[]⟩)).setCell (p := ⟨W.heap.size + 1, 1, none⟩) (Nat.le_succ _) (.int .i64 0)).setCell (p := ⟨W.heap.size + 1, 2, none⟩) (Nat.le_succ _) (.int .i64 0)).setCell (p := ⟨W.heap.size + 1, 3, none⟩) (Nat.le_succ _) (.slice none 0 0)).setCell (p := ⟨W.heap.size + 1, 4, none⟩) (Nat.le_succ _) (.slice none 0 0))
    have HZ := Lib.hid (mir_of HV.out hL6)
    clear hT hT6 hL hL6
    go_wp2_with fail
    obtain ⟨u0, u1, u2, u3, u4⟩ := HU.out
    refine bodyPost_ret (v := .tuple #[.agg #[.string ⟨#[]⟩, .int .i64 0, .int .i64 0, .slice none 0 0, .slice none 0 0], .int .i64 1]) (by simp [results, Tryz.results19, go_sem, *]) rfl HZ.out
  | true =>
    go_wp2_with fail
    ((with_reducible refine (disname_b _ true _ hs hnb).mono ?_); rintro e w1 ⟨rfl, rfl⟩)
    go_wp2_with fail
    ((with_reducible refine (dvalidm_b m _ vb _ hr' hvb).mono ?_); rintro e w1 ⟨rfl, hb⟩)
    replace hK := hK.call hb
    replace hr' := hr'.below hb
    replace hp' := hp'.below hb
    replace hE' := hE'.keep hb
    have hz1 := hb.size
    clear hb F0 F1 F2 F3 F4 hT hF
    obtain ⟨hT, hF⟩ := hK.two
    obtain ⟨F0, F1, F2, F3, F4⟩ : _ ∧ _ ∧ _ ∧ _ ∧ _ := ⟨hF.cell 0, hF.cell 1, hF.cell 2, hF.cell 3, hF.cell 4⟩
    simp only [List.getElem?_cons_zero, List.getElem?_cons_succ] at F0 F1 F2 F3 F4

    cases vb with
    | false =>
      have HV := Lib.hid (mir_no e.out (.inr hvb.out.symm))
      have hL := hK.old
      clear e hnb' hK hnb hvb hr' hp' hE' F0 F1 F2 F3 F4 hF
      obtain ⟨t0, t1, t2, t3, t4⟩ : _ ∧ _ ∧ _ ∧ _ ∧ _ := ⟨hT.cell 0, hT.cell 1, hT.cell 2, hT.cell 3, hT.cell 4⟩
      simp only [List.getElem?_cons_zero, List.getElem?_cons_succ] at t0 t1 t2 t3 t4
      obtain ⟨g0, g1, g2, g3, g4⟩ : _ ∧ _ ∧ _ ∧ _ ∧ _ := ⟨hT.frozen 0, hT.frozen 1, hT.frozen 2, hT.frozen 3, hT.frozen 4⟩
      have hT6 := ((((hT.set 0 (.string ⟨#[]⟩)).set 1 (.int .i64 0)).set 2 (.int .i64 0)).set 3 (.slice none 0 0)).set 4 (.slice none 0 0)
      obtain ⟨u0, u1, u2, u3, u4⟩ : _ ∧ _ ∧ _ ∧ _ ∧ _ := ⟨hT6.cell 0, hT6.cell 1, hT6.cell 2, hT6.cell 3, hT6.cell 4⟩
      simp only [List.set_cons_zero, List.set_cons_succ, List.getElem?_cons_zero, List.getElem?_cons_succ] at u0 u1 u2 u3 u4
      have HU := Lib.hid (And.intro u0 (And.intro u1 (And.intro u2 (And.intro u3 u4))))
      clear u0 u1 u2 u3 u4
      have hL6 := (((((hL.setCell (p := ⟨W.heap.size + 1, 0, none⟩) (Nat.le_succ _) (.string ⟨#[]⟩)).setCell (p := ⟨W.heap.size + 1, 1, none⟩) (Nat.le_succ _) (.int .i64 0)).setCell (p := ⟨W.heap.size + 1, 2, none⟩) (Nat.le_succ _) (.int .i64 0)).setCell (p := ⟨W.heap.size + 1, 3, none⟩) (Nat.le_succ _) (.slice none 0 0)).setCell (p := ⟨W.heap.size + 1, 4, none⟩) (Nat.le_succ _) (.slice none 0 0))
      have HZ := Lib.hid (mir_of HV.out hL6)
      clear hT hT6 hL hL6
      go_wp2_with fail
      obtain ⟨u0, u1, u2, u3, u4⟩ := HU.out
      refine bodyPost_ret (v := .tuple #[.agg #[.string ⟨#[]⟩, .int .i64 0, .int .i64 0, .slice none 0 0, .slice none 0 0], .int .i64 1]) (by simp [results, Tryz.results19, go_sem, *]) rfl HZ.out
    | true =>
      have hml := validm_len hvb.out.symm
      obtain ⟨hm1, hm2, hmw, hmw2, hmh, hmh2⟩ := hml
      go_wp2_with fail
      ((with_reducible refine (drotm_b m _ w1 hr' hm1 (by omega)).mono ?_); rintro e w2 ⟨g, cap, rfl, hrow, hg, hcap, hb⟩)
      replace hK := hK.call hb
      replace hr' := hr'.below hb
      replace hp' := hp'.below hb
      replace hE' := hE'.keep hb
      have hz2 := hb.size
      clear hb F0 F1 F2 F3 F4 hT hF
      replace hK := hK.alloc [.int .i64 m.w, .int .i64 m.h, .slice (some ⟨g, 0, none⟩) m.cs.length cap] 24
      have hal := (Below.refl w2.heap.size w2).alloc (Nat.le_refl _) (.cells [Value.int .i64 m.w, .int .i64 m.h, .slice (some ⟨g, 0, none⟩) m.cs.length cap].toArray 24)
      replace hr' := hr'.below hal
      replace hp' := hp'.below hal
      replace hE' := hE'.keep hal
      replace hrow := hrow.below hal
      have hsz2 : (w2.alloc (.cells [Value.int .i64 m.w, .int .i64 m.h, .slice (some ⟨g, 0, none⟩) m.cs.length cap].toArray 24)).heap.size = w2.heap.size + 1 := by simp
      obtain ⟨hM, hT, hF⟩ := hK.three
      obtain ⟨F0, F1, F2, F3, F4⟩ : _ ∧ _ ∧ _ ∧ _ ∧ _ := ⟨hF.cell 0, hF.cell 1, hF.cell 2, hF.cell 3, hF.cell 4⟩
      simp only [List.getElem?_cons_zero, List.getElem?_cons_succ] at F0 F1 F2 F3 F4

      obtain ⟨M0, M1, M2, -⟩ := hM.three
      obtain ⟨sb, hsb⟩ : ∃ b, Hid (b = samev ⟨m.w, m.h, m.cs.reverse⟩ m) := ⟨_, hid rfl⟩
      go_wp2_with fail
      ((with_reducible refine (dsame_b ⟨m.w, m.h, m.cs.reverse⟩ m _ _ sb _ hrow hr' hsb).mono ?_); rintro e X ⟨rfl, hb⟩)
      replace hK := hK.call hb
      replace hr' := hr'.below hb
      replace hp' := hp'.below hb
      replace hE' := hE'.keep hb
      replace hrow := hrow.below hb
      have hz3 := hb.size
      rw [hsz2] at hz3
      clear hb F0 F1 F2 F3 F4 M0 M1 M2 hT hF hM hal
      obtain ⟨hM, hT, hF⟩ := hK.three
      obtain ⟨F0, F1, F2, F3, F4⟩ : _ ∧ _ ∧ _ ∧ _ ∧ _ := ⟨hF.cell 0, hF.cell 1, hF.cell 2, hF.cell 3, hF.cell 4⟩
      simp only [List.getElem?_cons_zero, List.getElem?_cons_succ] at F0 F1 F2 F3 F4

      obtain ⟨M0, M1, M2, -⟩ := hM.three
      rw [same_rev] at hsb
      cases sb with
      | false =>
        have hrev : ¬ m.cs.reverse = m.cs := of_decide_eq_false hsb.out.symm
        have HV := Lib.hid (mir_14 e.out hnb'.out.symm hvb.out.symm hrev)
        have hL := hK.old
        clear e hnb' hK hnb hvb hr' hp' hE' F0 F1 F2 F3 F4 M0 M1 M2 hF hM hrow hrev hsb
        obtain ⟨t0, t1, t2, t3, t4⟩ : _ ∧ _ ∧ _ ∧ _ ∧ _ := ⟨hT.cell 0, hT.cell 1, hT.cell 2, hT.cell 3, hT.cell 4⟩
        simp only [List.getElem?_cons_zero, List.getElem?_cons_succ] at t0 t1 t2 t3 t4
        obtain ⟨g0, g1, g2, g3, g4⟩ : _ ∧ _ ∧ _ ∧ _ ∧ _ := ⟨hT.frozen 0, hT.frozen 1, hT.frozen 2, hT.frozen 3, hT.frozen 4⟩
        have hT6 := ((((hT.set 0 (.string ⟨#[]⟩)).set 1 (.int .i64 0)).set 2 (.int .i64 0)).set 3 (.slice none 0 0)).set 4 (.slice none 0 0)
        obtain ⟨u0, u1, u2, u3, u4⟩ : _ ∧ _ ∧ _ ∧ _ ∧ _ := ⟨hT6.cell 0, hT6.cell 1, hT6.cell 2, hT6.cell 3, hT6.cell 4⟩
        simp only [List.set_cons_zero, List.set_cons_succ, List.getElem?_cons_zero, List.getElem?_cons_succ] at u0 u1 u2 u3 u4
        have HU := Lib.hid (And.intro u0 (And.intro u1 (And.intro u2 (And.intro u3 u4))))
        clear u0 u1 u2 u3 u4
        have hL6 := (((((hL.setCell (p := ⟨W.heap.size + 1, 0, none⟩) (Nat.le_succ _) (.string ⟨#[]⟩)).setCell (p := ⟨W.heap.size + 1, 1, none⟩) (Nat.le_succ _) (.int .i64 0)).setCell (p := ⟨W.heap.size + 1, 2, none⟩) (Nat.le_succ _) (.int .i64 0)).setCell (p := ⟨W.heap.size + 1, 3, none⟩) (Nat.le_succ _) (.slice none 0 0)).setCell (p := ⟨W.heap.size + 1, 4, none⟩) (Nat.le_succ _) (.slice none 0 0))
        have HZ := Lib.hid (mir_of HV.out hL6)
        clear hT hT6 hL hL6
        go_wp2_with fail
        obtain ⟨u0, u1, u2, u3, u4⟩ := HU.out
        refine bodyPost_ret (v := .tuple #[.agg #[.string ⟨#[]⟩, .int .i64 0, .int .i64 0, .slice none 0 0, .slice none 0 0], .int .i64 14]) (by simp [results, Tryz.results19, go_sem, *]) rfl HZ.out
      | true =>
        have hrev : m.cs.reverse = m.cs := of_decide_eq_true hsb.out.symm
        have HEV := Lib.hid (mir_go e.out hnb'.out.symm hvb.out.symm hrev)
        rw [hrev] at hrow
        clear e hnb' hrev hsb hnb hvb hr' hsz2
        go_wp2_with fail
        go_cut [5] from 29 (fun s5 wx => ∃ (b : Nat) (pv : Option Addr) (cv : Nat), s5 = .pointer (some ⟨b, 0, none⟩) ∧ X.heap.size ≤ b ∧ Blk wx b [.string (bs nm), .int .i64 m.w, .int .i64 m.h, .slice (some ⟨g, 0, none⟩) m.cs.length cap, .slice pv st.length cv] 27 ∧ wx.ownsRow X.heap.size 41 2 (.slice pv st.length cv) st.length (pcells st) ∧ Below X.heap.size X wx)
        case first =>
          have hmx : Tryz.prog.follows .mixedOrders = true := by kernel_rfl
          refine wp_region_any hmx (wpAny_of_last (x := 8) (S := fun w' => w'.cell? ⟨W.heap.size, 0, none⟩ = some (.string (bs nm)) ∧ w'.cell? ⟨W.heap.size, 4, none⟩ = some (.slice p st.length c) ∧ w'.cell? ⟨w2.heap.size, 0, none⟩ = some (.int .i64 m.w) ∧ w'.cell? ⟨w2.heap.size, 1, none⟩ = some (.int .i64 m.h) ∧ w'.cell? ⟨w2.heap.size, 2, none⟩ = some (.slice (some ⟨g, 0, none⟩) m.cs.length cap)) _ _ _ _ ?_)
          show wpAnyL _ _ _ _ _ _ _ _ _ X.drew
          have hS0 : X.drew.cell? ⟨W.heap.size, 0, none⟩ = some (.string (bs nm)) ∧ X.drew.cell? ⟨W.heap.size, 4, none⟩ = some (.slice p st.length c) ∧ X.drew.cell? ⟨w2.heap.size, 0, none⟩ = some (.int .i64 m.w) ∧ X.drew.cell? ⟨w2.heap.size, 1, none⟩ = some (.int .i64 m.h) ∧ X.drew.cell? ⟨w2.heap.size, 2, none⟩ = some (.slice (some ⟨g, 0, none⟩) m.cs.length cap) := ⟨F0, F4, M0, M1, M2⟩
          refine last_take (x := 8) (hl := by kernel_rfl) (hix := by decide) (i := 0) (v := .pointer (some ⟨W.heap.size, 0, none⟩)) _ rfl rfl (by kernel_rfl) (by kernel_rfl) (by kernel_rfl) (fun _ _ _ h => h) (by rfl) (fun w' hS => by obtain ⟨s1, s2, s3, s4, s5⟩ := hS; go_simp) hS0 ?_
          simp only [Act.put, List.setIfInBounds_toArray]
          refine last_take (x := 8) (hl := by kernel_rfl) (hix := by decide) (i := 1) (v := .string (bs nm)) _ rfl rfl (by kernel_rfl) (by kernel_rfl) (by kernel_rfl) (fun _ _ _ h => h) (by rfl) (fun w' hS => by obtain ⟨s1, s2, s3, s4, s5⟩ := hS; go_simp) hS0 ?_
          simp only [Act.put]
          refine last_take (x := 8) (hl := by kernel_rfl) (hix := by decide) (i := 2) (v := .agg #[.int .i64 m.w, .int .i64 m.h, .slice (some ⟨g, 0, none⟩) m.cs.length cap]) _ rfl rfl (by kernel_rfl) (by kernel_rfl) (by kernel_rfl) (fun _ _ _ h => h) (by rfl) (fun w' hS => by obtain ⟨s1, s2, s3, s4, s5⟩ := hS; go_simp) hS0 ?_
          simp only [Act.put]
          refine last_take (x := 8) (hl := by kernel_rfl) (hix := by decide) (i := 3) (v := .pointer (some ⟨W.heap.size, 4, none⟩)) _ rfl rfl (by kernel_rfl) (by kernel_rfl) (by kernel_rfl) (fun _ _ _ h => h) (by rfl) (fun w' hS => by obtain ⟨s1, s2, s3, s4, s5⟩ := hS; go_simp) hS0 ?_
          simp only [Act.put]
          refine last_take (x := 8) (hl := by kernel_rfl) (hix := by decide) (i := 4) (v := .slice p st.length c) _ rfl rfl (by kernel_rfl) (by kernel_rfl) (by kernel_rfl) (fun _ _ _ h => h) (by rfl) (fun w' hS => by obtain ⟨s1, s2, s3, s4, s5⟩ := hS; go_simp) hS0 ?_
          simp only [Act.put]

          refine last_two (i := 5) (k := 7) (by kernel_rfl) rfl rfl (fun K hQ => ?_) (fun K hQ => ?_)
          · go_simp
            refine (dclonep_b st _ X.drew (hp'.below (Below.refl _ X).drew) (by omega)).mono ?_
            rintro e X1 ⟨v, rfl, hv, hb⟩
            replace hv : X1.ownsRow X.heap.size 41 2 v st.length (pcells st) := hv
            replace hb : Below X.heap.size X X1 := (Below.refl _ X).drew.trans hb
            obtain ⟨pv, cv, rfl, -, -⟩ := id (PosAt.own hv)
            have hK1 := hK.call hb
            obtain ⟨hM1, -, hF1⟩ := hK1.three
            have hS1 : X1.cell? ⟨W.heap.size, 0, none⟩ = some (.string (bs nm)) ∧ X1.cell? ⟨W.heap.size, 4, none⟩ = some (.slice p st.length c) ∧ X1.cell? ⟨w2.heap.size, 0, none⟩ = some (.int .i64 m.w) ∧ X1.cell? ⟨w2.heap.size, 1, none⟩ = some (.int .i64 m.h) ∧ X1.cell? ⟨w2.heap.size, 2, none⟩ = some (.slice (some ⟨g, 0, none⟩) m.cs.length cap) := ⟨hF1.cell 0, hF1.cell 4, hM1.cell 0, hM1.cell 1, hM1.cell 2⟩
            refine hQ.out _ _ (fun _ => hS1) ?_
            clear hQ
            try simp only [Act.put, List.setIfInBounds_toArray, List.set_cons_zero, List.set_cons_succ]
            refine last_take (x := 8) (hl := by kernel_rfl) (hix := by decide) (i := 6) (v := .agg #[.string (bs nm), .int .i64 m.w, .int .i64 m.h, .slice (some ⟨g, 0, none⟩) m.cs.length cap, .slice pv st.length cv]) _ rfl rfl (by kernel_rfl) (by kernel_rfl) (by kernel_rfl) (fun _ _ _ h => h) (by rfl) (fun w' hS => by obtain ⟨s1, s2, s3, s4, s5⟩ := hS; go_simp) hS1 ?_
            simp only [Act.put, List.setIfInBounds_toArray]
            refine last_one (i := 7) (by kernel_rfl) rfl (fun K hQ => ?_)
            go_simp
            have hK2 := hK1.other (.cells #[.string ⟨#[]⟩, .int .i64 0, .int .i64 0, .slice none 0 0, .slice none 0 0] 27)
            obtain ⟨hM2, -, hF2⟩ := hK2.three
            refine hQ.out _ _ (fun _ => ⟨hF2.cell 0, hF2.cell 4, hM2.cell 0, hM2.cell 1, hM2.cell 2⟩) ?_
            clear hQ
            try simp only [Act.put, List.setIfInBounds_toArray, List.set_cons_zero, List.set_cons_succ]
            refine last_one (i := 8) (by kernel_rfl) rfl (fun K hQ => ?_)
            go_simp
            refine hQ.out _ _ (fun h => absurd rfl h) ?_
            clear hQ
            refine last_done (by kernel_rfl) ?_ _
            show Exit.then _ _ Exit.normal _ _
            go_wp2_with fail
            go_meet
            case rel => exact ⟨X1.heap.size, pv, cv, rfl, hb.size, Blk.new X1 [.string (bs nm), .int .i64 m.w, .int .i64 m.h, .slice (some ⟨g, 0, none⟩) m.cs.length cap, .slice pv st.length cv] 27, own_below hv ((Below.refl _ X1).alloc (Nat.le_refl _) _), hb.alloc hb.size _⟩
          · go_simp
            have hK1 := (hK.other (.cells #[.string ⟨#[]⟩, .int .i64 0, .int .i64 0, .slice none 0 0, .slice none 0 0] 27)).drew
            have hB1 := (Blk.new X [.string ⟨#[]⟩, .int .i64 0, .int .i64 0, .slice none 0 0, .slice none 0 0] 27).drew
            have hL1 := ((Below.refl X.heap.size X).alloc (Nat.le_refl _) (.cells #[.string ⟨#[]⟩, .int .i64 0, .int .i64 0, .slice none 0 0, .slice none 0 0] 27)).drew
            obtain ⟨hM1, -, hF1⟩ := hK1.three
            refine hQ.out _ _ (fun _ => ⟨hF1.cell 0, hF1.cell 4, hM1.cell 0, hM1.cell 1, hM1.cell 2⟩) ?_
            clear hQ hM1 hF1
            try simp only [Act.put, List.setIfInBounds_toArray, List.set_cons_zero, List.set_cons_succ]
            have hsX : (X.alloc (.cells #[.string ⟨#[]⟩, .int .i64 0, .int .i64 0, .slice none 0 0, .slice none 0 0] 27)).drew.heap.size = X.heap.size + 1 := World.size_alloc _ _
            have hpX := hp'.below hL1
            generalize (X.alloc (.cells #[.string ⟨#[]⟩, .int .i64 0, .int .i64 0, .slice none 0 0, .slice none 0 0] 27)).drew = Y at *
            refine last_one (i := 5) (by kernel_rfl) rfl (fun K hQ => ?_)
            go_simp
            refine (dclonep_b st _ Y hpX (by omega)).mono ?_
            rintro e X1 ⟨v, rfl, hv, hb⟩
            rw [hsX] at hv
            replace hB1 := hB1.below hb
            replace hL1 := hL1.trans (hb.mono (by omega))
            obtain ⟨pv, cv, rfl, -, -⟩ := id (PosAt.own hv)
            replace hK1 := hK1.call hb
            obtain ⟨hM1, -, hF1⟩ := hK1.three
            have hS1 : X1.cell? ⟨W.heap.size, 0, none⟩ = some (.string (bs nm)) ∧ X1.cell? ⟨W.heap.size, 4, none⟩ = some (.slice p st.length c) ∧ X1.cell? ⟨w2.heap.size, 0, none⟩ = some (.int .i64 m.w) ∧ X1.cell? ⟨w2.heap.size, 1, none⟩ = some (.int .i64 m.h) ∧ X1.cell? ⟨w2.heap.size, 2, none⟩ = some (.slice (some ⟨g, 0, none⟩) m.cs.length cap) := ⟨hF1.cell 0, hF1.cell 4, hM1.cell 0, hM1.cell 1, hM1.cell 2⟩
            refine hQ.out _ _ (fun _ => hS1) ?_
            clear hQ
            try simp only [Act.put, List.setIfInBounds_toArray, List.set_cons_zero, List.set_cons_succ]
            refine last_take (x := 8) (hl := by kernel_rfl) (hix := by decide) (i := 6) (v := .agg #[.string (bs nm), .int .i64 m.w, .int .i64 m.h, .slice (some ⟨g, 0, none⟩) m.cs.length cap, .slice pv st.length cv]) _ rfl rfl (by kernel_rfl) (by kernel_rfl) (by kernel_rfl) (fun _ _ _ h => h) (by rfl) (fun w' hS => by obtain ⟨s1, s2, s3, s4, s5⟩ := hS; go_simp) hS1 ?_
            simp only [Act.put, List.setIfInBounds_toArray]
            obtain ⟨t0, t1, t2, t3, t4⟩ : _ ∧ _ ∧ _ ∧ _ ∧ _ := ⟨hB1.cell 0, hB1.cell 1, hB1.cell 2, hB1.cell 3, hB1.cell 4⟩
            obtain ⟨g0, g1, g2, g3, g4⟩ : _ ∧ _ ∧ _ ∧ _ ∧ _ := ⟨hB1.frozen 0, hB1.frozen 1, hB1.frozen 2, hB1.frozen 3, hB1.frozen 4⟩
            simp only [List.getElem?_cons_zero, List.getElem?_cons_succ] at t0 t1 t2 t3 t4
            refine last_one (i := 8) (by kernel_rfl) rfl (fun K hQ => ?_)
            go_simp
            refine hQ.out _ _ (fun h => absurd rfl h) ?_
            clear hQ
            refine last_done (by kernel_rfl) ?_ _
            show Exit.then _ _ Exit.normal _ _
            have ne : ∀ i j, (Value.slice pv st.length cv).ownBlock = some j → j ≠ (⟨X.heap.size, i, none⟩ : Addr).block := fun i j hj => by
              have := (hv.lt j hj).1
              show j ≠ X.heap.size
              omega
            have hv5 := own_other (own_other (own_other (own_other (own_other hv ⟨X.heap.size, 0, none⟩ (.string (bs nm)) (ne 0)) ⟨X.heap.size, 1, none⟩ (.int .i64 m.w) (ne 1)) ⟨X.heap.size, 2, none⟩ (.int .i64 m.h) (ne 2)) ⟨X.heap.size, 3, none⟩ (.slice (some ⟨g, 0, none⟩) m.cs.length cap) (ne 3)) ⟨X.heap.size, 4, none⟩ (.slice pv st.length cv) (ne 4)
            have hB5 := ((((hB1.set 0 (.string (bs nm))).set 1 (.int .i64 m.w)).set 2 (.int .i64 m.h)).set 3 (.slice (some ⟨g, 0, none⟩) m.cs.length cap)).set 4 (.slice pv st.length cv)
            have hL5 := ((((hL1.setCell (p := ⟨X.heap.size, 0, none⟩) (Nat.le_refl _) (.string (bs nm))).setCell (p := ⟨X.heap.size, 1, none⟩) (Nat.le_refl _) (.int .i64 m.w)).setCell (p := ⟨X.heap.size, 2, none⟩) (Nat.le_refl _) (.int .i64 m.h)).setCell (p := ⟨X.heap.size, 3, none⟩) (Nat.le_refl _) (.slice (some ⟨g, 0, none⟩) m.cs.length cap)).setCell (p := ⟨X.heap.size, 4, none⟩) (Nat.le_refl _) (.slice pv st.length cv)
            have HQ := Lib.hid (And.intro hv5 (And.intro hB5 hL5))
            clear hv5 hB5 hL5 hv hB1 hL1 hM1 hF1 hK1 hpX hS1 t0 t1 t2 t3 t4 g0 g1 g2 g3 g4
            go_wp2_with fail
            go_meet
            case rel => exact ⟨X.heap.size, pv, cv, rfl, Nat.le_refl _, HQ.out.2.1, own_base HQ.out.1 (Nat.le_succ _), HQ.out.2.2⟩
        case rest =>
        obtain ⟨b, pv, cv, rfl, hbX, hB, hown, hL⟩ := hcut
        obtain ⟨hM1, -, hF1⟩ := (hK.call hL).three
        have hXW := hK.old.size
        clear F0 F1 F2 F3 F4 M0 M1 M2 hM hF hT
        have F4 := hF1.cell 4
        simp only [List.getElem?_cons_zero, List.getElem?_cons_succ] at F4
        have hxl : w2.heap.size < X.heap.size := by omega
        have hX1 : W.heap.size + 1 < X.heap.size := by omega
        clear hM1 hF1
        go_wp2_with fail
        go_loopw [39] (fun vi wr => ∃ (i : Nat) (pv : Option Addr) (cv : Nat), vi = .int .i64 i ∧ i ≤ st.length ∧ Blk wr b [.string (bs nm), .int .i64 m.w, .int .i64 m.h, .slice (some ⟨g, 0, none⟩) m.cs.length cap, .slice pv (st.length + i) cv] 27 ∧ wr.ownsRow X.heap.size 41 2 (.slice pv (st.length + i) cv) (st.length + i) (pcells (st ++ (st.map (turnv m)).take i)) ∧ Below X.heap.size X wr) (fun vi _ => st.length - (RowKit.intOf vi).toNat)
        case atStart => exact ⟨0, pv, cv, rfl, by omega, hB, own_to hown rfl (by simp), hL⟩
        case round =>
          clear hB hown hL F4
          obtain ⟨i, pv, cv, rfl, hi, hB, hown, hL⟩ := hrel
          by_cases hlt : i < st.length
          · have d1 : (i : Int) < st.length := by omega
            have i0 : (0 : Int) ≤ i := by omega
            have hpw := hp'.below hL
            obtain ⟨gp, op, c', e1, -, a1, a2⟩ := hpw.at hlt
            injection e1 with e1 k1 k2
            clear k1 k2 hpw
            obtain ⟨q, hq⟩ : ∃ q, st[i]'hlt = q := ⟨_, rfl⟩
            have hN := hid (show (st.map (turnv m)).take (i + 1) = (st.map (turnv m)).take i ++ [turnv m (st[i]'hlt)] by rw [List.take_succ_eq_append_getElem (by rw [List.length_map]; exact hlt), List.getElem_map])
            rw [hq] at a1 a2 hN
            clear hq
            obtain ⟨x, y⟩ := q
            dsimp only at a1 a2
            obtain ⟨tx, htx⟩ : ∃ t, Hid (t = (turnv m (x, y)).1) := ⟨_, hid rfl⟩
            obtain ⟨ty, hty⟩ : ∃ t, Hid (t = (turnv m (x, y)).2) := ⟨_, hid rfl⟩
            have hrot := fun V => drotated_b m.w m.h x y (some ⟨g, 0, none⟩) m.cs.length cap V
            rw [show IntKind.i64.wrap (IntKind.i64.wrap (m.w - 1) - x) = tx from htx.out.symm, show IntKind.i64.wrap (IntKind.i64.wrap (m.h - 1) - y) = ty from hty.out.symm] at hrot
            have htt : turnv m (x, y) = (tx, ty) := by rw [htx.out, hty.out]
            rw [htt] at hN
            have HROT := Lib.hid hrot
            clear hrot htx hty htt
            have hBx := Blk.new wr [.int .i64 x, .int .i64 y] 41
            have hLx := hL.alloc hL.size (.cells #[.int .i64 x, .int .i64 y] 41)
            have hBb := hB.alloc (.cells #[.int .i64 x, .int .i64 y] 41)
            have hox := own_below hown ((Below.refl _ wr).alloc (Nat.le_refl _) (.cells #[.int .i64 x, .int .i64 y] 41))
            obtain ⟨hM1, -, -⟩ := (hK.call hLx).three
            have hwr := hL.size
            have hne2 : ∀ k, some k = (Value.slice pv (st.length + i) cv).ownBlock → wr.heap.size ≠ k := fun k hk e => by
              have := (hown.lt k hk.symm).2
              omega
            subst e1
            clear hL hB hown
            go_wp2_with fail
            generalize wr.alloc (.cells #[.int .i64 x, .int .i64 y] 41) = WA at *
            have hmx : Tryz.prog.follows .mixedOrders = true := by kernel_rfl
            refine wp_region_any hmx (wpAny_of_last (x := 8) (S := fun w' => w'.cell? ⟨b, 4, none⟩ = some (.slice pv (st.length + i) cv) ∧ w'.cell? ⟨w2.heap.size, 0, none⟩ = some (.int .i64 m.w) ∧ w'.cell? ⟨w2.heap.size, 1, none⟩ = some (.int .i64 m.h) ∧ w'.cell? ⟨w2.heap.size, 2, none⟩ = some (.slice (some ⟨g, 0, none⟩) m.cs.length cap) ∧ w'.cell? ⟨wr.heap.size, 0, none⟩ = some (.int .i64 x) ∧ w'.cell? ⟨wr.heap.size, 1, none⟩ = some (.int .i64 y)) _ _ _ _ ?_)
            show wpAnyL _ _ _ _ _ _ _ _ _ WA.drew
            have hS0 : WA.drew.cell? ⟨b, 4, none⟩ = some (.slice pv (st.length + i) cv) ∧ WA.drew.cell? ⟨w2.heap.size, 0, none⟩ = some (.int .i64 m.w) ∧ WA.drew.cell? ⟨w2.heap.size, 1, none⟩ = some (.int .i64 m.h) ∧ WA.drew.cell? ⟨w2.heap.size, 2, none⟩ = some (.slice (some ⟨g, 0, none⟩) m.cs.length cap) ∧ WA.drew.cell? ⟨wr.heap.size, 0, none⟩ = some (.int .i64 x) ∧ WA.drew.cell? ⟨wr.heap.size, 1, none⟩ = some (.int .i64 y) := ⟨hBb.cell 4, hM1.cell 0, hM1.cell 1, hM1.cell 2, hBx.cell 0, hBx.cell 1⟩
            refine last_take (x := 8) (hl := by kernel_rfl) (hix := by decide) (i := 0) (v := .pointer (some ⟨b, 4, none⟩)) _ rfl rfl (by kernel_rfl) (by kernel_rfl) (by kernel_rfl) (fun _ _ _ h => h) (by rfl) (fun w' hS => by obtain ⟨s1, s2, s3, s4, s5, s6⟩ := hS; go_simp) hS0 ?_
            simp only [Act.put, List.setIfInBounds_toArray]
            refine last_take (x := 8) (hl := by kernel_rfl) (hix := by decide) (i := 1) (v := .slice pv (st.length + i) cv) _ rfl rfl (by kernel_rfl) (by kernel_rfl) (by kernel_rfl) (fun _ _ _ h => h) (by rfl) (fun w' hS => by obtain ⟨s1, s2, s3, s4, s5, s6⟩ := hS; go_simp) hS0 ?_
            simp only [Act.put]
            refine last_take (x := 8) (hl := by kernel_rfl) (hix := by decide) (i := 2) (v := .agg #[.int .i64 m.w, .int .i64 m.h, .slice (some ⟨g, 0, none⟩) m.cs.length cap]) _ rfl rfl (by kernel_rfl) (by kernel_rfl) (by kernel_rfl) (fun _ _ _ h => h) (by rfl) (fun w' hS => by obtain ⟨s1, s2, s3, s4, s5, s6⟩ := hS; go_simp) hS0 ?_
            simp only [Act.put]
            refine last_take (x := 8) (hl := by kernel_rfl) (hix := by decide) (i := 3) (v := .agg #[.int .i64 x, .int .i64 y]) _ rfl rfl (by kernel_rfl) (by kernel_rfl) (by kernel_rfl) (fun _ _ _ h => h) (by rfl) (fun w' hS => by obtain ⟨s1, s2, s3, s4, s5, s6⟩ := hS; go_simp) hS0 ?_
            simp only [Act.put]
            refine last_one (i := 4) (by kernel_rfl) rfl (fun K hQ => ?_)
            go_simp
            refine (HROT.out WA.drew).mono ?_
            rintro e w' ⟨rfl, hb⟩
            replace hb : Below WA.heap.size WA w' := (Below.refl _ WA).drew.trans hb
            replace hBx := hBx.below hb
            replace hBb := hBb.below hb
            replace hox := own_below hox hb
            replace hLx := hLx.trans (hb.mono hLx.size)
            replace hM1 := hM1.below hb
            refine hQ.out _ _ (fun _ => ⟨hBb.cell 4, hM1.cell 0, hM1.cell 1, hM1.cell 2, hBx.cell 0, hBx.cell 1⟩) ?_
            clear hQ hb
            try simp only [Act.put, List.setIfInBounds_toArray, List.set_cons_zero, List.set_cons_succ]
            refine last_one (i := 5) (by kernel_rfl) rfl (fun K hQ => ?_)
            go_simp
            replace hBx := hBx.alloc (.cells #[.int .i64 tx, .int .i64 ty] 41)
            replace hBb := hBb.alloc (.cells #[.int .i64 tx, .int .i64 ty] 41)
            replace hox := own_below hox ((Below.refl _ w').alloc (Nat.le_refl _) (.cells #[.int .i64 tx, .int .i64 ty] 41))
            replace hLx := hLx.alloc hLx.size (.cells #[.int .i64 tx, .int .i64 ty] 41)
            replace hM1 := hM1.alloc (.cells #[.int .i64 tx, .int .i64 ty] 41)
            refine hQ.out _ _ (fun _ => ⟨hBb.cell 4, hM1.cell 0, hM1.cell 1, hM1.cell 2, hBx.cell 0, hBx.cell 1⟩) ?_
            clear hQ
            try simp only [Act.put, List.setIfInBounds_toArray, List.set_cons_zero, List.set_cons_succ]
            obtain ⟨i0', hi0, hz0, hz1, hz2⟩ := info_parts infoPos
            obtain ⟨v', w3, hrun, hown', hgrow, _⟩ := run_append_own (P := Tryz.prog) (w'.alloc (.cells #[.int .i64 tx, .int .i64 ty] 41)) X.heap.size 25 25 41 i0' (.agg #[.int .i64 0, .int .i64 0]) 2 16 Tryz.underlying25 hi0 hz0 hz1 hz2 rfl (by decide) (.slice pv (st.length + i) cv) (st.length + i) _ hox
              ⟨w'.heap.size, 0, none⟩ 1 1 [.int .i64 tx, .int .i64 ty] rfl (cells_new (w := w')) (by simp [Value.oneCell']) (by unfold maxLen; omega) (by omega) (by have := hLx.size; simp at this ⊢; omega)
            obtain ⟨pv', cv', rfl⟩ := own_slice hown'
            have hne1 := own_ne hBb hox (by decide)
            have hBb3 := hBb.grown hgrow (fun k hk e => hne1 (hk.trans (congrArg some e.symm)))
            have hL3 := hLx.grown hgrow hLx.size (fun k hk => (hox.lt k hk).1)
            obtain ⟨hM3, -, -⟩ := (hK.call hL3).three
            refine last_one (i := 6) (by kernel_rfl) rfl (fun K hQ => ?_)
            refine step_append_run rfl (.tmp 44) (.tmp 48) 25 rfl (.slice pv (st.length + i) cv) (.slice (some ⟨w'.heap.size, 0, none⟩) 1 1) _ rfl rfl hrun ?_
            have hBx3 := hBx.grown hgrow (fun k hk => hne2 k hk.symm)
            have hS3 : w3.cell? ⟨b, 4, none⟩ = some (.slice pv (st.length + i) cv) ∧ w3.cell? ⟨w2.heap.size, 0, none⟩ = some (.int .i64 m.w) ∧ w3.cell? ⟨w2.heap.size, 1, none⟩ = some (.int .i64 m.h) ∧ w3.cell? ⟨w2.heap.size, 2, none⟩ = some (.slice (some ⟨g, 0, none⟩) m.cs.length cap) ∧ w3.cell? ⟨wr.heap.size, 0, none⟩ = some (.int .i64 x) ∧ w3.cell? ⟨wr.heap.size, 1, none⟩ = some (.int .i64 y) := ⟨hBb3.cell 4, hM3.cell 0, hM3.cell 1, hM3.cell 2, hBx3.cell 0, hBx3.cell 1⟩
            refine hQ.out _ _ (fun _ => hS3) ?_
            clear hQ
            try simp only [Act.put, List.setIfInBounds_toArray]
            refine last_take (x := 8) (hl := by kernel_rfl) (hix := by decide) (i := 7) (v := .pointer (some ⟨b, 4, none⟩)) _ rfl rfl (by kernel_rfl) (by kernel_rfl) (by kernel_rfl) (fun _ _ _ h => h) (by rfl) (fun w' hS => by obtain ⟨s1, s2, s3, s4, s5, s6⟩ := hS; go_simp) hS3 ?_
            simp only [Act.put]
            have t4 := hBb3.cell 4
            have g4 := hBb3.frozen 4
            simp only [List.getElem?_cons_zero, List.getElem?_cons_succ] at t4
            refine last_one (i := 8) (by kernel_rfl) rfl (fun K hQ => ?_)
            go_simp
            refine hQ.out _ _ (fun h => absurd rfl h) ?_
            clear hQ
            refine last_done (by kernel_rfl) ?_ _
            show Exit.inBlock 1 _ Exit.normal _ _
            have hB4 := hBb3.set 4 (.slice pv' (st.length + i + 1) cv')
            have hown4 := own_other hown' ⟨b, 4, none⟩ (.slice pv' (st.length + i + 1) cv') (fun j hj e => own_ne hBb3 hown' (by decide) (hj.trans (congrArg some e)))
            have hL4 := hL3.setCell (p := ⟨b, 4, none⟩) hbX (.slice pv' (st.length + i + 1) cv')
            have hpc' : pcells (st ++ (st.map (turnv m)).take i) ++ [Value.int .i64 tx, .int .i64 ty] = pcells (st ++ (st.map (turnv m)).take (i + 1)) := by rw [pcells_snoc, hN.out, List.append_assoc]
            have HQ := Lib.hid (And.intro hB4 (And.intro (own_to hown4 rfl hpc') hL4))
            clear hB4 hown4 hL4 hpc' hN hBb3 hown' hL3 hM3 hBx3 hS3 hrun hgrow hox hBx hBb hLx hM1 t4 g4 hne1 hne2
            go_wp2_with fail
            go_roundw
            case rel => exact ⟨i + 1, pv', cv', by go_num, by omega, HQ.out.1, HQ.out.2.1, HQ.out.2.2⟩
            case measure => simp [RowKit.intOf]; omega
          · obtain rfl : i = st.length := by omega
            have d1 : ¬ (st.length : Int) < st.length := by omega
            have htk : (st.map (turnv m)).take st.length = st.map (turnv m) := List.take_of_length_le (by simp)
            rw [htk] at hown
            have hlen : (st ++ st.map (turnv m)).length = st.length + st.length := by simp
            obtain ⟨G, hG⟩ : ∃ G, Hid (G = st ++ st.map (turnv m)) := ⟨_, hid rfl⟩
            rw [← hG.out] at hown hlen HEV
            replace hown := own_to hown hlen.symm rfl
            obtain ⟨n2, hn2⟩ : ∃ n2, n2 = st.length + st.length := ⟨_, rfl⟩
            rw [← hn2] at hB hown hlen
            subst hlen
            clear hn2
            have hpos : PosAt wr (.slice pv G.length cv) G := PosAt.own hown
            obtain ⟨r, hr⟩ : ∃ r, Hid (r = validf ⟨nm, m, G⟩) := ⟨_, hid rfl⟩
            have hrw := hrow.below hL
            have c1 := dvalidf_b ⟨nm, m, G⟩ (.slice (some ⟨g, 0, none⟩) m.cs.length cap) (.slice pv G.length cv) r wr (hE'.keep hL).p hrw hpos hn hr
            unfold fileV at c1
            dsimp only at c1
            obtain ⟨B0, B1, B2, B3, B4⟩ : _ ∧ _ ∧ _ ∧ _ ∧ _ := ⟨hB.cell 0, hB.cell 1, hB.cell 2, hB.cell 3, hB.cell 4⟩
            simp only [List.getElem?_cons_zero, List.getElem?_cons_succ] at B0 B1 B2 B3 B4
            clear hrow hp' hE' htk
            go_wp2_with fail
            with_reducible refine c1.mono ?_
            rintro e w6 ⟨rfl, hb6⟩
            replace hB := hB.below hb6
            replace hown := own_below hown hb6
            replace hL := hL.trans (hb6.mono hL.size)
            replace hrw := hrw.below hb6
            replace hK := hK.call hL
            obtain ⟨-, hT, -⟩ := hK.three
            clear c1 hb6 B0 B1 B2 B3 B4 hpos
            by_cases h0 : r = 0
            · subst h0
              have ev := HEV.out
              rw [if_pos hr.out.symm] at ev
              injection ev with ev1 ev2
              subst ev1 ev2
              obtain ⟨B0, B1, B2, B3, B4⟩ : _ ∧ _ ∧ _ ∧ _ ∧ _ := ⟨hB.cell 0, hB.cell 1, hB.cell 2, hB.cell 3, hB.cell 4⟩
              simp only [List.getElem?_cons_zero, List.getElem?_cons_succ] at B0 B1 B2 B3 B4
              obtain ⟨t0, t1, t2, t3, t4⟩ : _ ∧ _ ∧ _ ∧ _ ∧ _ := ⟨hT.cell 0, hT.cell 1, hT.cell 2, hT.cell 3, hT.cell 4⟩
              simp only [List.getElem?_cons_zero, List.getElem?_cons_succ] at t0 t1 t2 t3 t4
              obtain ⟨g0, g1, g2, g3, g4⟩ : _ ∧ _ ∧ _ ∧ _ ∧ _ := ⟨hT.frozen 0, hT.frozen 1, hT.frozen 2, hT.frozen 3, hT.frozen 4⟩
              have hT6 := ((((hT.set 0 (.string (bs nm))).set 1 (.int .i64 m.w)).set 2 (.int .i64 m.h)).set 3 (.slice (some ⟨g, 0, none⟩) m.cs.length cap)).set 4 (.slice pv G.length cv)
              obtain ⟨u0, u1, u2, u3, u4⟩ : _ ∧ _ ∧ _ ∧ _ ∧ _ := ⟨hT6.cell 0, hT6.cell 1, hT6.cell 2, hT6.cell 3, hT6.cell 4⟩
              simp only [List.set_cons_zero, List.set_cons_succ, List.getElem?_cons_zero, List.getElem?_cons_succ] at u0 u1 u2 u3 u4
              have HU := Lib.hid (And.intro u0 (And.intro u1 (And.intro u2 (And.intro u3 u4))))
              clear u0 u1 u2 u3 u4
              have hL6 := ((((hK.old.setCell (p := ⟨W.heap.size + 1, 0, none⟩) (Nat.le_succ _) (.string (bs nm))).setCell (p := ⟨W.heap.size + 1, 1, none⟩) (Nat.le_succ _) (.int .i64 m.w)).setCell (p := ⟨W.heap.size + 1, 2, none⟩) (Nat.le_succ _) (.int .i64 m.h)).setCell (p := ⟨W.heap.size + 1, 3, none⟩) (Nat.le_succ _) (.slice (some ⟨g, 0, none⟩) m.cs.length cap)).setCell (p := ⟨W.heap.size + 1, 4, none⟩) (Nat.le_succ _) (.slice pv G.length cv)
              have ne : ∀ i j, (Value.slice pv G.length cv).ownBlock = some j → j ≠ (⟨W.heap.size + 1, i, none⟩ : Addr).block := fun i j hj => by
                have := (hown.lt j hj).1
                show j ≠ W.heap.size + 1
                omega
              have hv5 := own_other (own_other (own_other (own_other (own_other hown ⟨W.heap.size + 1, 0, none⟩ (.string (bs nm)) (ne 0)) ⟨W.heap.size + 1, 1, none⟩ (.int .i64 m.w) (ne 1)) ⟨W.heap.size + 1, 2, none⟩ (.int .i64 m.h) (ne 2)) ⟨W.heap.size + 1, 3, none⟩ (.slice (some ⟨g, 0, none⟩) m.cs.length cap) (ne 3)) ⟨W.heap.size + 1, 4, none⟩ (.slice pv G.length cv) (ne 4)
              have nr : ∀ i g' o c n, (Value.slice (some ⟨g, 0, none⟩) m.cs.length cap) = .slice (some ⟨g', o, none⟩) n c → g' ≠ (⟨W.heap.size + 1, i, none⟩ : Addr).block := fun i g' o c n e => by
                injection e with e _ _
                injection e with e
                injection e with e _ _
                show g' ≠ W.heap.size + 1
                omega
              have hr5 := ((((hrw.other ⟨W.heap.size + 1, 0, none⟩ (.string (bs nm)) (nr 0)).other ⟨W.heap.size + 1, 1, none⟩ (.int .i64 m.w) (nr 1)).other ⟨W.heap.size + 1, 2, none⟩ (.int .i64 m.h) (nr 2)).other ⟨W.heap.size + 1, 3, none⟩ (.slice (some ⟨g, 0, none⟩) m.cs.length cap) (nr 3)).other ⟨W.heap.size + 1, 4, none⟩ (.slice pv G.length cv) (nr 4)
              have HZ := Lib.hid (show MirPost ⟨nm, m, G⟩ 0 W (.returned (.tuple #[.agg #[.string (bs nm), .int .i64 m.w, .int .i64 m.h, .slice (some ⟨g, 0, none⟩) m.cs.length cap, .slice pv G.length cv], .int .i64 0])) _ from ⟨_, _, rfl, hr5, PosAt.own hv5, hcap, hL6⟩)
              clear hr5 hv5 hL6 hT6 ne nr hT hB hown hL hrw hK hcap HEV hr
              go_wp2_with fail
              obtain ⟨u0, u1, u2, u3, u4⟩ := HU.out
              refine bodyPost_ret (v := .tuple #[.agg #[.string (bs nm), .int .i64 m.w, .int .i64 m.h, .slice (some ⟨g, 0, none⟩) m.cs.length cap, .slice pv G.length cv], .int .i64 0]) (by simp [results, Tryz.results19, go_sem, *]) rfl HZ.out
            · have hne : (r == 0) = false := by simpa using h0
              have ev := HEV.out
              rw [if_neg (fun e => h0 (hr.out.trans e)), ← hr.out] at ev
              injection ev with ev1 ev2
              have HV := Lib.hid (And.intro ev1 ev2)
              replace hL := hK.old
              clear ev1 ev2 HEV hr hB hown hrw hK hcap h0
              obtain ⟨t0, t1, t2, t3, t4⟩ : _ ∧ _ ∧ _ ∧ _ ∧ _ := ⟨hT.cell 0, hT.cell 1, hT.cell 2, hT.cell 3, hT.cell 4⟩
              simp only [List.getElem?_cons_zero, List.getElem?_cons_succ] at t0 t1 t2 t3 t4
              obtain ⟨g0, g1, g2, g3, g4⟩ : _ ∧ _ ∧ _ ∧ _ ∧ _ := ⟨hT.frozen 0, hT.frozen 1, hT.frozen 2, hT.frozen 3, hT.frozen 4⟩
              have hT6 := ((((hT.set 0 (.string ⟨#[]⟩)).set 1 (.int .i64 0)).set 2 (.int .i64 0)).set 3 (.slice none 0 0)).set 4 (.slice none 0 0)
              obtain ⟨u0, u1, u2, u3, u4⟩ : _ ∧ _ ∧ _ ∧ _ ∧ _ := ⟨hT6.cell 0, hT6.cell 1, hT6.cell 2, hT6.cell 3, hT6.cell 4⟩
              simp only [List.set_cons_zero, List.set_cons_succ, List.getElem?_cons_zero, List.getElem?_cons_succ] at u0 u1 u2 u3 u4
              have HU := Lib.hid (And.intro u0 (And.intro u1 (And.intro u2 (And.intro u3 u4))))
              clear u0 u1 u2 u3 u4
              have hL6 := (((((hL.setCell (p := ⟨W.heap.size + 1, 0, none⟩) (Nat.le_succ _) (.string ⟨#[]⟩)).setCell (p := ⟨W.heap.size + 1, 1, none⟩) (Nat.le_succ _) (.int .i64 0)).setCell (p := ⟨W.heap.size + 1, 2, none⟩) (Nat.le_succ _) (.int .i64 0)).setCell (p := ⟨W.heap.size + 1, 3, none⟩) (Nat.le_succ _) (.slice none 0 0)).setCell (p := ⟨W.heap.size + 1, 4, none⟩) (Nat.le_succ _) (.slice none 0 0))
              have HZ := Lib.hid (mir_of HV.out hL6)
              clear hT hT6 hL hL6
              go_wp2_with fail
              obtain ⟨u0, u1, u2, u3, u4⟩ := HU.out
              refine bodyPost_ret (v := .tuple #[.agg #[.string ⟨#[]⟩, .int .i64 0, .int .i64 0, .slice none 0 0, .slice none 0 0], .int .i64 r]) (by simp [results, Tryz.results19, go_sem, *]) rfl HZ.out

end

end Go.Proofs.YtmpbgfobiceehaaGreatDoor
