/-
  occupy as landed at 785be24: blocked cells, free rectangles, what fits.
-/
import Derived.Test.YtoodnblhjopnlaaDoorOcF
namespace Go.Proofs.YtoodnblhjopnlaaDoor
open Go.RowKit Go.Lib

/-- A slice of rectangles that can be read. -/
def RecsAt (W : World) (s : Value) (l : List R4) : Prop :=
  ∃ p c, s = .slice p l.length c ∧ l.length ≤ maxLen ∧ (1 ≤ l.length → ∃ g o, p = some ⟨g, o, none⟩ ∧ g < W.heap.size ∧ ∀ i, (h : i < l.length) →
    W.cell? ⟨g, o + i * 4, none⟩ = some (.int .i64 (l[i]'h).x) ∧ W.cell? ⟨g, o + i * 4 + 1, none⟩ = some (.int .i64 (l[i]'h).y) ∧ W.cell? ⟨g, o + i * 4 + 2, none⟩ = some (.int .i64 (l[i]'h).w) ∧ W.cell? ⟨g, o + i * 4 + 3, none⟩ = some (.int .i64 (l[i]'h).h))
theorem RecsAt.below {W w' : World} {s : Value} {l : List R4} (h : RecsAt W s l) (hb : Below W.heap.size W w') : RecsAt w' s l := by
  obtain ⟨p, c, rfl, hm, hc⟩ := h
  refine ⟨p, c, rfl, hm, fun h1 => ?_⟩
  obtain ⟨g, o, rfl, hg, hi⟩ := hc h1
  refine ⟨g, o, rfl, Nat.lt_of_lt_of_le hg hb.size, fun i hi' => ?_⟩
  obtain ⟨a, b, c, d⟩ := hi i hi'
  exact ⟨(hb.cell (p := ⟨g, o + i * 4, none⟩) hg).trans a, (hb.cell (p := ⟨g, o + i * 4 + 1, none⟩) hg).trans b, (hb.cell (p := ⟨g, o + i * 4 + 2, none⟩) hg).trans c, (hb.cell (p := ⟨g, o + i * 4 + 3, none⟩) hg).trans d⟩
theorem RecsAt.len {W : World} {v : Value} {l : List R4} (h : RecsAt W v l) : ∃ p c, v = .slice p l.length c := by
  obtain ⟨p, c, rfl, -⟩ := h
  exact ⟨p, c, rfl⟩
theorem RecsAt.at {W : World} {p : Option Addr} {n c i : Nat} {l : List R4} (h : RecsAt W (.slice p n c) l) (hi : i < l.length) : ∃ g o, p = some ⟨g, o, none⟩ ∧ g < W.heap.size ∧ W.cell? ⟨g, o + i * 4, none⟩ = some (.int .i64 (l[i]'hi).x) ∧ W.cell? ⟨g, o + i * 4 + 1, none⟩ = some (.int .i64 (l[i]'hi).y) ∧ W.cell? ⟨g, o + i * 4 + 2, none⟩ = some (.int .i64 (l[i]'hi).w) ∧ W.cell? ⟨g, o + i * 4 + 3, none⟩ = some (.int .i64 (l[i]'hi).h) := by
  obtain ⟨p', c', e, -, hat⟩ := h
  injection e with e1 _ _
  subst e1
  obtain ⟨g, o, hp, hg, hc⟩ := hat (by omega)
  exact ⟨g, o, hp, hg, hc i hi⟩
theorem PosAt.far {W : World} {p : Option Addr} {n c G i : Nat} {x : Value} {l : List (Int × Int)} (h : PosAt W (.slice p n c) l) (ne : ∀ a, p = some a → a.block ≠ G) : PosAt (W.setCell ⟨G, i, none⟩ x) (.slice p n c) l := by
  obtain ⟨p', c', e, hm, hat⟩ := h
  refine ⟨p', c', e, hm, fun h1 => ?_⟩
  injection e with e1 _ _
  subst e1
  obtain ⟨g, o, hp, hg, hc⟩ := hat h1
  subst hp
  have hne := ne _ rfl
  refine ⟨g, o, rfl, by simpa using hg, fun k hk => ?_⟩
  rw [World.cell?_setCell_other _ _ _ _ (fun e => hne (by injection e with e1 _ _; exact e1.symm)), World.cell?_setCell_other _ _ _ _ (fun e => hne (by injection e with e1 _ _; exact e1.symm))]
  exact hc k hk
theorem own_apart {w : World} {B k n c : Nat} {e : TypeId} {p : Option Addr} {m : Nat} {xs : List Value} (h : w.ownsRow B e k (.slice p m c) n xs) {G : Nat} (hG : G < B) : ∀ a, p = some a → a.block ≠ G := by
  rintro a rfl e
  exact own_not h hG a.block rfl e.symm
theorem ocown_blk {w : World} {B g n : Nat} {e : TypeId} {xs : List Value} (h : w.ownsRow B e 1 (.slice (some ⟨g, 0, none⟩) n n) n xs) : Blk w g xs e := by
  rcases h.2 with ⟨h', _⟩ | ⟨g', cap', cur, h', _, hg, _, _, hcs, htake⟩
  · simp at h'
  · simp only [Value.slice.injEq, Option.some.injEq, Addr.mk.injEq, and_true, true_and] at h'
    obtain ⟨rfl, rfl⟩ := h'
    rw [List.take_of_length_le (by rw [Array.length_toList]; omega)] at htake
    subst htake
    unfold Blk
    rw [Array.toArray_toList]
    exact hg
theorem ocinfoBoo : (Tryd.prog.info? 4).map (fun i => (i.zero, i.size, i.bytes)) = some (some (.bool false), 1, 1) := by kernel_rfl
theorem BitsAt.blkO {W : World} {b n : Nat} {e : TypeId} {l : List Bool} (h : Blk W b (l.map .bool) e) (hn : l.length = n) (hm : n ≤ maxLen) : BitsAt W (.slice (some ⟨b, 0, none⟩) n n) l := by
  subst hn
  refine ⟨_, _, rfl, hm, fun _ => ⟨b, 0, rfl, fun i hi => ?_⟩⟩
  rw [Nat.zero_add, h.cell, List.getElem?_map, List.getElem?_eq_getElem hi]
  rfl
theorem BitsAt.nilO (W : World) : BitsAt W (.slice none 0 0) [] := ⟨none, 0, rfl, Nat.zero_le _, fun h => by simp at h⟩
theorem bools_set2 (l : List Bool) (k : Nat) (b : Bool) : (l.map Value.bool).set k (.bool b) = (l.set k b).map Value.bool := by rw [List.map_set]
theorem mark_next (w : Int) (L : List Bool) (C : List (Int × Int)) {j : Nat} (h : j < C.length) : markv w L (C.take (j + 1)) = (markv w L (C.take j)).set (indexv w (C[j]'h).1 (C[j]'h).2).toNat true := by
  rw [List.take_succ_eq_append_getElem h, mark_snoc]
theorem marks_next (m : M3) (L : List Bool) (l : List R4) {k : Nat} (h : k < l.length) : marksv m L (l.take (k + 1)) = markv m.w (marksv m L (l.take k)) (cellsv (clipv m.w m.h (l[k]'h))) := by
  rw [List.take_succ_eq_append_getElem h, marks_snoc]
set_option maxHeartbeats 8000000 in
set_option maxRecDepth 100000 in
theorem ocblocked_b (m : M3) (s : Value) (l : List R4) (sl : Value) (L : List Bool) (W : World) (hr : RowAt W s m.cs) (hl : RecsAt W sl l) (e : Hid (blockedv m l = L)) :
    Calls Tryd.prog 12 #[.agg #[.int .i64 m.w, .int .i64 m.h, s], sl] W fun e w' => ∃ v, e = .returned v ∧ BitsAt w' v L ∧ Below W.heap.size W w' := by
  obtain ⟨z, hz⟩ : ∃ z, Hid (z = formedv m) := ⟨_, hid rfl⟩
  have cf := fun (w : World) (hb : Below W.heap.size W w) => ocformed_b m s z w (hr.below hb) hz
  obtain ⟨ps, ks, rfl, -⟩ := id hr
  obtain ⟨pl, kl, rfl⟩ := hl.len
  have hB := Blk.new W [.int .i64 m.w, .int .i64 m.h, .slice ps m.cs.length ks] 24
  have hA := (Below.refl W.heap.size W).alloc (Nat.le_refl _) (.cells [Value.int .i64 m.w, .int .i64 m.h, .slice ps m.cs.length ks].toArray 24)
  have hlm : l.length ≤ maxLen := hl.choose_spec.choose_spec.2.1
  unfold maxLen at hlm
  obtain ⟨_, _, _, _, _, _⟩ := hB.three
  cases z with
  | false =>
    have hL : L = [] := by rw [← e.out]; unfold blockedv; rw [if_neg (by rw [← hz.out]; decide)]
    subst hL
    go_enter Tryd.func12, Tryd.ntmps12
    go_wp2_with (go_at_call 32; with_reducible refine (cf _ hA).mono ?_; rintro e w1 ⟨rfl, hb⟩)
    go_ret
    exact ⟨_, rfl, BitsAt.nilO _, below_call hA hb⟩
  | true =>
    have hf := hz.out.symm
    have hn := formed_len hf
    have hLL : Hid (marksv m (List.replicate m.cs.length false) l = L) := hid (by rw [marks_blocked hf]; exact e.out)
    obtain ⟨i0, hi0, hz0, hz1, hz2⟩ := info_cut ocinfoBoo
    clear e
    go_enter Tryd.func12, Tryd.ntmps12
    go_upto_region 3 with (go_at_call 32; with_reducible refine (cf _ hA).mono ?_; rintro e w1 ⟨rfl, hb⟩; replace hB := hB.below hb; replace hA := below_call hA hb; clear hb)
    have hwl := hB.lt
    obtain ⟨_, _, _, _, _, _⟩ := hB.three
    obtain ⟨w2, hmk, hown, hg2⟩ := run_make_full w1 w1.heap.size 29 4 i0 (.bool false) 1 Tryd.underlying29 hi0 hz0 hz1 .i64 .i64 m.cs.length (by rw [hz2]; omega) (by unfold maxLen; omega) (Nat.le_refl _)
    have hb2 : Below w1.heap.size w1 w2 := (Below.refl w1.heap.size w1).grown hg2 (Nat.le_refl _) (fun k h => by cases h)
    replace hown := own_to hown (m := m.cs.length) (ys := (List.replicate m.cs.length false).map .bool) rfl (by rw [Nat.mul_one, List.map_replicate]; exact toList_madeCells_one (.bool false) m.cs.length)
    have hG := ocown_blk hown
    replace hB := hB.below hb2
    replace hA := below_call hA hb2
    have hGw : w1.heap.size < w2.heap.size := hG.lt
    obtain ⟨G, hGe⟩ : ∃ G, G = w1.heap.size := ⟨_, rfl⟩
    have hWG : W.heap.size < G := by omega
    have hM0 : Hid ((List.replicate m.cs.length false) = marksv m (List.replicate m.cs.length false) (l.take 0)) := hid rfl
    rw [← hGe] at hmk hG hGw
    clear hown hg2 hi0 hz0 hz1 hz2 hwl hb2 hGe hn
    obtain ⟨_, _, _, _, _, _⟩ := hB.three
    go_wp2_with fail
    clear hmk
    go_loopw [19] (fun vi wr => ∃ (k : Nat) (N : List Bool), vi = .int .i64 k ∧ k ≤ l.length ∧ N.length = m.cs.length ∧ Blk wr G (N.map .bool) 4 ∧ Blk wr W.heap.size [.int .i64 m.w, .int .i64 m.h, .slice ps m.cs.length ks] 24 ∧ Below W.heap.size W wr ∧ Hid (N = marksv m (List.replicate m.cs.length false) (l.take k))) (fun vi _ => l.length - (RowKit.intOf vi).toNat)
    case atStart => exact ⟨0, _, rfl, by omega, by simp, hG, hB, hA, hM0⟩
    case round =>
      clear hG hB hA hM0 hGw
      obtain ⟨k, N, rfl, hk, hNl, hG, hB, hA, hN⟩ := hrel
      by_cases hlt : k < l.length
      · have d1 : (k : Int) < l.length := by omega
        have d0 : (0 : Int) ≤ k := by omega
        obtain ⟨g, o, rfl, hg, q0, q1, q2, q3⟩ := (hl.below hA).at hlt
        have hNx := marks_next m (List.replicate m.cs.length false) l hlt
        rw [← hN.out] at hNx
        generalize l[k]'hlt = r at *
        obtain ⟨C, hC⟩ : ∃ C, Hid (cellsv (clipv m.w m.h r) = C) := ⟨_, hid rfl⟩
        rw [hC.out] at hNx
        obtain ⟨a, b, c, d, hq⟩ : ∃ a b c d, clipv m.w m.h r = ⟨a, b, c, d⟩ := ⟨_, _, _, _, rfl⟩
        have cc := fun (w : World) => doclip_b m.w m.h r a b c d w (hid hq)
        have cl := fun (w : World) => dcells_x a b c d w C (hid (by rw [← hq]; exact hC.out))
        have hin : Hid (∀ j (h : j < C.length), inv m.w m.h (C[j]'h).1 (C[j]'h).2 = true) := hid (fun j h => ((mem_clip hf r _).1 (by rw [hC.out]; exact List.getElem_mem h)).1)
        have hCl : C.length ≤ 1024 := by rw [← hC.out]; exact cellsv_len _
        clear hq hC hN
        have hX := Blk.new wr [.int .i64 r.x, .int .i64 r.y, .int .i64 r.w, .int .i64 r.h] 33
        have hal := (Below.refl wr.heap.size wr).alloc (Nat.le_refl _) (.cells [Value.int .i64 r.x, .int .i64 r.y, .int .i64 r.w, .int .i64 r.h].toArray 33)
        replace hG := hG.below hal
        replace hB := hB.below hal
        replace hA := below_call hA hal
        clear hal
        go_upto_region 7 with fail
        generalize wr.alloc (.cells [Value.int .i64 r.x, .int .i64 r.y, .int .i64 r.w, .int .i64 r.h].toArray 33) = X at *
        generalize wr.heap.size = bx at *
        clear q0 q1 q2 q3
        obtain ⟨_, _, _, _, _, _⟩ := hB.three
        obtain ⟨_, _, _, _, _, _, _, _⟩ := hX.four
        go_wp2_with (first
          | (go_at_call 34; with_reducible refine (cc _).mono ?_; rintro e w3 ⟨rfl, hb⟩; replace hG := hG.below hb; replace hB := hB.below hb; replace hA := below_call hA hb; clear hb hX; obtain ⟨_, _, _, _, _, _⟩ := hB.three)
          | (go_at_call 33; with_reducible refine (cl _).mono ?_; rintro e w4 ⟨v, rfl, hownC, hb⟩; have hG3 := hG.lt; replace hG := hG.below hb; replace hB := hB.below hb; replace hA := below_call hA hb; have hP := PosAt.any hownC rfl (by unfold maxLen; omega); obtain ⟨p4, c4, rfl⟩ := hP.len; have hne := own_apart hownC hG3; clear hb hownC hG3; obtain ⟨_, _, _, _, _, _⟩ := hB.three))
        clear cc cl
        have hNx' := hid hNx
        clear hNx
        go_loopw [31] (fun vj wr => ∃ (j : Nat) (N2 : List Bool), vj = .int .i64 j ∧ j ≤ C.length ∧ N2.length = m.cs.length ∧ Blk wr G (N2.map .bool) 4 ∧ Blk wr W.heap.size [.int .i64 m.w, .int .i64 m.h, .slice ps m.cs.length ks] 24 ∧ Below W.heap.size W wr ∧ PosAt wr (.slice p4 C.length c4) C ∧ Hid (N2 = markv m.w N (C.take j))) (fun vj _ => C.length - (RowKit.intOf vj).toNat)
        case atStart => exact ⟨0, N, rfl, by omega, hNl, hG, hB, hA, hP, hid rfl⟩
        case round =>
          clear hG hB hA hP
          obtain ⟨j, N2, rfl, hj, hN2l, hG, hB, hA, hP, hN2⟩ := hrel
          by_cases hlt2 : j < C.length
          · have d2 : (j : Int) < C.length := by omega
            have d3 : (0 : Int) ≤ j := by omega
            obtain ⟨g2, o2, rfl, hg2, q0, q1⟩ := hP.at hlt2
            have hMx := mark_next m.w N C hlt2
            rw [← hN2.out] at hMx
            have hinj := hin.out j hlt2
            generalize C[j]'hlt2 = p at *
            obtain ⟨x, y⟩ := p
            dsimp only at hMx hinj q0 q1
            obtain ⟨n, hn, hix, -, -⟩ := pos_of hf hinj
            rw [hix, Int.toNat_natCast] at hMx
            have cix := fun (w : World) => dindex_b m.w x y n w (hid hix.symm)
            have z1 : (0 : Int) ≤ (n : Int) := by omega
            have z2 : (n : Int) < (m.cs.length : Int) := by omega
            have hne2 := hne
            have hX := Blk.new wr [.int .i64 x, .int .i64 y] 42
            have hal := (Below.refl wr.heap.size wr).alloc (Nat.le_refl _) (.cells [Value.int .i64 x, .int .i64 y].toArray 42)
            replace hG := hG.below hal
            replace hB := hB.below hal
            replace hP := hP.below hal
            replace hA := below_call hA hal
            clear hal hN2 hinj hix
            go_upto_region 10 with fail
            generalize wr.alloc (.cells [Value.int .i64 x, .int .i64 y].toArray 42) = X2 at *
            generalize wr.heap.size = bx2 at *
            clear q0 q1
            obtain ⟨_, _, _, _, _, _⟩ := hB.three
            obtain ⟨_, _, _, _⟩ := hX.two
            have hGn := fun (w : World) (h : Blk w G (N2.map .bool) 4) => (h.cell n).trans (show (N2.map Value.bool)[n]? = some (.bool (N2[n]'(by omega))) by rw [List.getElem?_map, List.getElem?_eq_getElem (by omega)]; rfl)
            go_upto_region 11 with (go_at_call 30; with_reducible refine (cix _).mono ?_; rintro e w5 ⟨rfl, hb⟩; replace hG := hG.below hb; replace hB := hB.below hb; replace hP := hP.below hb; replace hA := below_call hA hb; clear hb; have u1 := hGn _ hG; have u2 := hG.frozen n)
            have hG5 := hG.set n (.bool true)
            rw [bools_set2] at hG5
            have hB5 := hB.far (c := G) (i := n) (.bool true) (by omega)
            have hA5 := hA.setCell (p := ⟨G, n, none⟩) (by show W.heap.size ≤ G; omega) (.bool true)
            have hP5 := hP.far (G := G) (i := n) (x := .bool true) hne2
            clear hG hB hA hP hGn u1 u2 hX
            go_wp2_with fail
            go_roundw
            case rel => exact ⟨j + 1, N2.set n true, by go_num, by omega, by rw [List.length_set]; exact hN2l, hG5, hB5, hA5, hP5, hid hMx.symm⟩
            case measure => simp [RowKit.intOf]; omega
          · obtain rfl : j = C.length := by omega
            have hM9 : Hid (N2 = marksv m (List.replicate m.cs.length false) (l.take (k + 1))) := hid (by rw [hNx'.out]; have := hN2.out; rwa [List.take_length] at this)
            clear hN2 hNx' hP
            go_wp2_with fail
            go_roundw
            case rel => exact ⟨k + 1, N2, by go_num, by omega, hN2l, hG, hB, hA, hM9⟩
            case measure => simp [RowKit.intOf]; omega
      · obtain rfl : k = l.length := by omega
        have hNL : N = L := by have := hN.out; rw [List.take_length] at this; exact this.trans hLL.out
        subst hNL
        go_wp2_with fail
        go_ret
        exact ⟨_, rfl, BitsAt.blkO hG hNl (by unfold maxLen; have := formed_len hf; omega), hA⟩

end Go.Proofs.YtoodnblhjopnlaaDoor
