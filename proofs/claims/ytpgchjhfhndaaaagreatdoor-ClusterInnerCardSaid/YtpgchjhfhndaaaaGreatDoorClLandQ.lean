/-
  What the functions of cluster answer: Touched, borders.
-/
import Derived.Test.YtpgchjhfhndaaaaGreatDoorClLandP
namespace Go.Proofs.YtpgchjhfhndaaaaGreatDoor

section
open Go.RowKit Go.Lib

/-- The places of the true elements below i. -/
def numsTo (L : List Bool) (i : Nat) : List Int := ((List.range i).filter (gb L)).map fun (k : Nat) => (k : Int)
theorem numsTo_next (L : List Bool) (i : Nat) : numsTo L (i + 1) = numsTo L i ++ if gb L i = true then [(i : Int)] else [] := by
  unfold numsTo
  rw [List.range_succ, List.filter_append, List.map_append]
  cases h : gb L i <;> simp [h]
theorem numsTo_len (L : List Bool) (i : Nat) : (numsTo L i).length ≤ i := by
  unfold numsTo
  rw [List.length_map]
  have := List.length_filter_le (gb L) (List.range i)
  rw [List.length_range] at this
  exact this
theorem ints_app (D : List Int) (x : Int) : ints D ++ [.int .i64 x] = ints (D ++ [x]) := by unfold ints; rw [List.map_append]; rfl
theorem IntsAt.own0 {W : World} {B n : Nat} {v : Value} {t : TypeId} {D : List Int} (h : W.ownsRow B t 1 v n (ints D)) (hn : D.length = n) (h2 : n ≤ 2000) : IntsAt W v D := by
  rcases id h.2 with ⟨rfl, rfl⟩ | ⟨g, cap, cur, rfl, _⟩
  · have : D = [] := List.eq_nil_of_length_eq_zero hn
    subst this
    exact IntsAt.nil W
  · exact IntsAt.own h hn h2

set_option maxHeartbeats 8000000 in
theorem clnumbers_b (L : List Bool) (g n cap : Nat) (W : World) (hn : L.length = n) (h2 : n ≤ 1000) (hc : ∀ i, i < n → W.cell? ⟨g, i, none⟩ = some (.bool (gb L i))) :
    Calls Tryz.prog 92 #[.slice (some ⟨g, 0, none⟩) n cap] W fun e w' => ∃ v, e = .returned v ∧ IntsAt w' v (numsTo L n) ∧ Below W.heap.size W w' := by
  obtain ⟨ti, hi0, hz0, hz1, hz2⟩ := info_cut asinfoInt
  go_enter Tryz.func92, Tryz.ntmps92
  go_wp2_with fail
  go_loopw [3, 8] (fun v vi wr => ∃ (i : Nat) (D : List Int), vi = .int .i64 i ∧ i ≤ n ∧ Hid (D = numsTo L i) ∧ wr.ownsRow W.heap.size 3 1 v D.length (ints D) ∧ Below W.heap.size W wr) (fun _ vi _ => n - (RowKit.intOf vi).toNat)
  case atStart => exact ⟨0, [], rfl, by omega, hid rfl, World.ownsRow_nil _ _ _ _, Below.refl _ _⟩
  case round =>
    obtain ⟨i, D, rfl, hi, hD, hown, hL⟩ := hrel
    obtain ⟨pv, cv, rfl⟩ := own_slice hown
    have hDl : D.length ≤ i := by rw [hD.out]; exact numsTo_len L i
    by_cases hlt : i < n
    · have z1 : decide ((i : Int) < (n : Int)) = true := decide_eq_true (by omega)
      have i0 : (0 : Int) ≤ (i : Int) := by omega
      have i1 : (i : Int) < (n : Int) := by omega
      have cI := hc i hlt
      have kg := World.block_lt_of_cell? W _ cI
      rw [← hL.cell (p := ⟨g, _, none⟩) kg] at cI
      have nadd : IntKind.i64.wrap ((i : Int) + 1) = ((i + 1 : Nat) : Int) := by rw [IntWalk.i64_in _ (by omega)]; simp
      have hnx := numsTo_next L i
      cases hb : gb L i with
      | true =>
        rw [hb] at cI
        rw [hb, if_pos rfl, ← hD.out] at hnx
        have hzz := hL.size
        have hnx2 := hid hnx.symm
        clear hnx hc hD hn
        obtain ⟨dn, hdn⟩ : ∃ dn, Hid (D.length = dn) := ⟨_, hid rfl⟩
        rw [hdn.out] at hown hDl ⊢
        go_wp2_with (at_builtin; refine wpList_append_own _ rfl _ _ 79 rfl W.heap.size 3 ti (.int .i64 0) 1 8 Tryz.underlying79 hi0 hz0 hz1 hz2 rfl (by decide) _ _ _ rfl (hown.alloc _) ⟨wr.heap.size, 0, none⟩ 1 1 [.int .i64 i] rfl rfl cells_new (ints_lone1 i) (by unfold maxLen; omega) (by omega) (by simp; omega) ?_)
        intro v' w9 hown' hg' _
        have hL9 := (hL.alloc hL.size (.cells [Value.int .i64 i].toArray 3)).grown hg' (by simp; omega) (fun j hj => by have := (hown.lt j hj).1; omega)
        have hown9 := own_to hown' (m := (D ++ [(i : Int)]).length) (ys := ints (D ++ [(i : Int)])) (by rw [List.length_append, hdn.out]; rfl) (ints_app D i)
        clear hown' hg' hown hL
        go_wp2_with fail
        have hadd : Value.int .i64 ((i : Int) + 1) = Value.int .i64 ((i + 1 : Nat) : Int) := by push_cast; rfl
        have hmeas : n - (RowKit.intOf (Value.int .i64 ((i : Int) + 1))).toNat < n - (RowKit.intOf (Value.int .i64 (i : Int))).toNat := by simp [RowKit.intOf]; omega
        exact ⟨⟨i + 1, D ++ [(i : Int)], hadd, by omega, hnx2, hown9, hL9⟩, hmeas⟩
      | false =>
        rw [hb] at cI
        rw [hb, if_neg (by decide), List.append_nil, ← hD.out] at hnx
        have hnx2 := hid hnx.symm
        clear hnx hc hD hn
        go_wp2_with fail
        have hadd : Value.int .i64 ((i : Int) + 1) = Value.int .i64 ((i + 1 : Nat) : Int) := by push_cast; rfl
        have hmeas : n - (RowKit.intOf (Value.int .i64 ((i : Int) + 1))).toNat < n - (RowKit.intOf (Value.int .i64 (i : Int))).toNat := by simp [RowKit.intOf]; omega
        exact ⟨⟨i + 1, D, hadd, by omega, hnx2, hown, hL⟩, hmeas⟩
    · obtain rfl : n = i := by omega
      have z1 : decide ((n : Int) < (n : Int)) = false := decide_eq_false (by omega)
      have hI := IntsAt.own0 hown rfl (by omega)
      clear hn
      go_wp2_with fail
      go_ret
      exact ⟨_, rfl, by rw [← hD.out]; exact hI, hL⟩

end

section
open Go.RowKit Go.Lib

def numv (m : M3) (p : Pt) : Int := p.2 / 8 * sqc m.w + p.1 / 8
def markN (m : M3) (L : List Bool) (qs : List Pt) : List Bool := qs.foldl (fun L q => L.set (numv m q).toNat true) L
def neisv (m : M3) (p : Pt) : List Pt := neiGo m.w m.h p.1 p.2 8 0
def touchF (m : M3) (L : List Bool) (p : Pt) : List Bool := if insp m p = true then markN m (L.set (numv m p).toNat true) (neisv m p) else L
def touchL (m : M3) (L : List Bool) (ps : List Pt) : List Bool := ps.foldl (touchF m) L
def touchedv (m : M3) (ps : List Pt) : List Int := if validm m = true then numsTo (touchL m (List.replicate (countv m).toNat false) ps) (countv m).toNat else []
theorem markN_snoc (m : M3) (L : List Bool) (qs : List Pt) (q : Pt) : markN m L (qs ++ [q]) = (markN m L qs).set (numv m q).toNat true := by unfold markN; rw [List.foldl_append]; rfl
theorem touchL_snoc (m : M3) (L : List Bool) (qs : List Pt) (q : Pt) : touchL m L (qs ++ [q]) = touchF m (touchL m L qs) q := by unfold touchL; rw [List.foldl_append]; rfl
theorem nei_in (w h x y : Int) : ∀ (k d : Nat) (q : Pt), q ∈ neiGo w h x y k d → inv w h q.1 q.2 = true
  | 0, _, q, hq => by simp [neiGo] at hq
  | k + 1, d, q, hq => by
    rw [neiGo] at hq
    split at hq
    · next hi =>
      rcases List.mem_cons.1 hq with rfl | hq
      · exact hi
      · exact nei_in w h x y k (d + 1) q hq
    · exact nei_in w h x y k (d + 1) q hq
theorem nei_len (w h x y : Int) : ∀ (k d : Nat), (neiGo w h x y k d).length ≤ k
  | 0, _ => by simp [neiGo]
  | k + 1, d => by
    rw [neiGo]
    have := nei_len w h x y k (d + 1)
    split
    · simp; omega
    · omega
theorem num_lt {m : M3} (hv : validm m = true) {p : Pt} (hp : insp m p = true) : 0 ≤ numv m p ∧ numv m p < countv m := by
  have h := of_ex hv hp
  have e : ofv m p = numv m p := by unfold ofv; rw [hv, hp, Bool.and_self, if_pos rfl]; rfl
  rw [e] at h
  have h1 := of_decide_eq_true (show decide (0 ≤ numv m p ∧ numv m p < countv m) = true from h.1)
  exact h1
theorem count_small {m : M3} (hv : validm m = true) : 1 ≤ countv m ∧ countv m ≤ 16 := by
  obtain ⟨⟨c1, c2, _, _⟩, ⟨d1, d2, _, _⟩, _⟩ := col_num (valid_formed hv)
  unfold countv
  rw [if_pos hv]
  exact ⟨Int.le_trans (by decide) (Int.mul_le_mul (a := 1) (b := 1) c1 d1 (by decide) (by omega)), Int.mul_le_mul (c := 4) (d := 4) c2 d2 (by omega) (by omega)⟩

set_option maxRecDepth 100000 in
set_option maxHeartbeats 16000000 in
theorem cltouched_b (m : M3) (sp : Option Addr) (sn sk : Nat) (ps : List Pt) (v : Value) (W : World) (hE : EnvT W) (hr : RowAt W (.slice sp sn sk) m.cs) (hv : PsAt W v ps) (hps : ps.length ≤ 100000) :
    Calls Tryz.prog 38 #[.agg #[.int .i64 m.w, .int .i64 m.h, .slice sp sn sk], v] W fun e w' => ∃ u, e = .returned u ∧ IntsAt w' u (touchedv m ps) ∧ Below W.heap.size W w' := by
  obtain ⟨b1, h1⟩ : ∃ b1, Hid (b1 = validm m) := ⟨_, hid rfl⟩
  obtain ⟨ti, hi0, hz0, hz1, hz2⟩ := info_cut asinfoBool
  obtain ⟨pp, cp, rfl, _, _, hpc⟩ := id hv
  obtain ⟨kn, hkn⟩ : ∃ kn, Hid (ps.length = kn) := ⟨_, hid rfl⟩
  rw [hkn.out] at hps ⊢
  have hT := Held1.start W [.int .i64 m.w, .int .i64 m.h, .slice sp sn sk] 24
  obtain ⟨k0, ek⟩ : ∃ k0, Hid (k0 = W.heap.size) := ⟨_, hid rfl⟩
  go_enter Tryz.func38, Tryz.ntmps38
  go_upto_region 1 with fail
  obtain ⟨X, hX⟩ : ∃ X, X = W.alloc (.cells [Value.int .i64 m.w, .int .i64 m.h, .slice sp sn sk].toArray 24) := ⟨_, rfl⟩
  rw [← hX] at hT ⊢
  clear hX
  have zm := hT.l.at ek.out.symm
  have hW := hT.old
  rw [← ek.out]
  clear hT
  have m0 := zm.cell 0
  have m1 := zm.cell 1
  have m2 := zm.cell 2
  simp only [List.getElem?_cons_zero, List.getElem?_cons_succ] at m0 m1 m2
  go_wp2_with fail
  ((with_reducible refine (dvalidm_b m (.slice sp sn sk) b1 X (hr.below hW) h1).mono ?_); rintro e w1 ⟨rfl, hb1⟩)
  replace zm := zm.below hb1
  replace hW := below_call hW hb1
  clear hb1 m0 m1 m2
  cases b1 with
  | false =>
    have ht : touchedv m ps = [] := by unfold touchedv; rw [if_neg (by rw [← h1.out]; decide)]
    replace ht := hid ht
    go_wp2_with fail
    go_ret
    exact ⟨_, rfl, (by rw [ht.out]; exact IntsAt.nil _), hW⟩
  | true =>
    have hval := h1.out.symm
    have hf := valid_formed hval
    obtain ⟨cs1, cs2⟩ := count_small hval
    obtain ⟨n, hn⟩ : ∃ n : Nat, countv m = n := Int.eq_ofNat_of_zero_le (by omega)
    have hnH : Hid ((n : Int) = countv m) := hid hn.symm
    have hn1 : 1 ≤ n ∧ n ≤ 16 := by omega
    have ht : touchedv m ps = numsTo (touchL m (List.replicate n false) ps) n := by unfold touchedv; rw [if_pos hval, hn]; rfl
    replace ht := hid ht
    replace hn := hid hn
    have hnum : ∀ p, insp m p = true → ∃ q : Nat, q < n ∧ Hid ((q : Int) = p.2 / 8 * sqc m.w + p.1 / 8) ∧ (numv m p).toNat = q := fun p hp => by
      obtain ⟨g1, g2⟩ := num_lt hval hp
      rw [hn.out] at g2
      exact ⟨(numv m p).toNat, by omega, hid (by show (((numv m p).toNat : Nat) : Int) = numv m p; omega), rfl⟩
    have m0 := zm.cell 0
    have m1 := zm.cell 1
    have m2 := zm.cell 2
    simp only [List.getElem?_cons_zero, List.getElem?_cons_succ] at m0 m1 m2
    clear h1 cs1 cs2
    go_wp2_with fail
    ((with_reducible refine (clcount_b m sp sn sk n w1 (hr.below hW) hnH).mono ?_); rintro e w2 ⟨rfl, hb2⟩)
    replace zm := zm.below hb2
    replace hW := below_call hW hb2
    clear hb2 m0 m1 m2
    obtain ⟨W1, hmk, hown1, hg1⟩ := run_make_full w2 w2.heap.size 25 4 ti (.bool false) 1 Tryz.underlying25 hi0 hz0 hz1 .i64 .i64 n (by rw [hz2]; omega) (by unfold maxLen; omega) (Nat.le_refl _)
    have zt : Blk W1 w2.heap.size (bools (List.replicate n false)) 4 := by
      have := made_blk rfl hown1
      unfold bools
      rw [List.map_replicate]
      exact this
    have hzm2 := zm.lt
    replace zm := zm.grown hg1 (fun k h => by cases h)
    have hW1 := hW.grown hg1 hW.size (fun k h => by cases h)
    obtain ⟨tb, etb⟩ : ∃ tb, Hid (tb = w2.heap.size) := ⟨_, hid rfl⟩
    have hWt : W.heap.size ≤ tb := by rw [etb.out]; exact hW.size
    have hkt : k0 ≠ tb := by rw [etb.out]; omega
    replace hmk : (Instr.makeSlice 25 (.int .i64 n) (.int .i64 n)).run Tryz.prog w2 = .ok (.slice (some ⟨tb, 0, none⟩) n n) W1 := by rw [etb.out]; exact hmk
    rw [← etb.out] at zt
    clear hown1 hg1 hi0 hz0 hz1 hz2 hW hzm2
    go_wp2_with fail
    go_loopw [18] (fun vi wr => ∃ (i : Nat) (L : List Bool), vi = .int .i64 i ∧ i ≤ kn ∧ Blk wr tb (bools L) 4 ∧ Hid (L.length = n) ∧ Hid (L = touchL m (List.replicate n false) (ps.take i)) ∧ Blk wr k0 [.int .i64 m.w, .int .i64 m.h, .slice sp sn sk] 24 ∧ Below W.heap.size W wr) (fun vi _ => kn - (RowKit.intOf vi).toNat)
    case atStart => exact ⟨0, _, rfl, by omega, zt, hid List.length_replicate, hid rfl, zm, hW1⟩
    case round =>
      clear zt zm hW1 hmk
      obtain ⟨i, L, rfl, hi, zt, hLl, hL, zm, hW⟩ := hrel
      by_cases hlt : i < kn
      · have z1 : decide ((i : Int) < (kn : Int)) = true := decide_eq_true (by omega)
        have i0 : (0 : Int) ≤ (i : Int) := by omega
        have i1 : (i : Int) < (kn : Int) := by omega
        have hip : i < ps.length := by rw [hkn.out]; exact hlt
        obtain ⟨g, o, rfl, hg, hat⟩ := hpc (by omega)
        obtain ⟨x1, x2⟩ := hat i hip
        obtain ⟨p, hp⟩ : ∃ p, Hid (p = ps[i]'hip) := ⟨_, hid rfl⟩
        rw [← hp.out] at x1 x2
        rw [← hW.cell (p := ⟨g, _, none⟩) hg] at x1 x2
        have htk : ps.take (i + 1) = ps.take i ++ [p] := by rw [hp.out, List.take_add_one, List.getElem?_eq_getElem hip]; rfl
        have nadd : IntKind.i64.wrap ((i : Int) + 1) = ((i + 1 : Nat) : Int) := by rw [IntWalk.i64_in _ (by omega)]; simp
        obtain ⟨b2, h2⟩ : ∃ b2, Hid (b2 = insp m p) := ⟨_, hid rfl⟩
        have h2v : Hid (b2 = inv m.w m.h p.1 p.2) := hid h2.out
        have hnx : touchL m (List.replicate n false) (ps.take (i + 1)) = touchF m L p := by rw [htk, touchL_snoc, ← hL.out]
        clear hat
        go_upto_region 7 with fail
        have hb0 := (Below.refl wr.heap.size wr).alloc (Nat.le_refl _) (.cells [Value.int .i64 p.1, .int .i64 p.2].toArray 29)
        have zp := Blk.new wr [.int .i64 p.1, .int .i64 p.2] 29
        obtain ⟨Y, hY⟩ : ∃ Y, Y = wr.alloc (.cells [Value.int .i64 p.1, .int .i64 p.2].toArray 29) := ⟨_, rfl⟩
        rw [← hY] at hb0 zp ⊢
        obtain ⟨pb, epb⟩ : ∃ pb, Hid (pb = wr.heap.size) := ⟨_, hid rfl⟩
        have hpt : pb ≠ tb := by have := zt.lt; rw [epb.out]; omega
        rw [← epb.out] at zp ⊢
        replace zt := zt.below hb0
        replace zm := zm.below hb0
        replace hW := below_call hW hb0
        clear hb0 hY x1 x2
        have m0 := zm.cell 0
        have m1 := zm.cell 1
        have p0 := zp.cell 0
        have p1 := zp.cell 1
        simp only [List.getElem?_cons_zero, List.getElem?_cons_succ] at m0 m1 p0 p1
        go_wp2_with fail
        ((with_reducible refine (clin_b m.w m.h p.1 p.2 b2 Y h2v).mono ?_); rintro e w3 ⟨rfl, hb3⟩)
        replace zt := zt.below hb3
        replace zm := zm.below hb3
        replace zp := zp.below hb3
        replace hW := below_call hW hb3
        clear hb3 m0 m1 p0 p1
        have hmeas : kn - (RowKit.intOf (Value.int .i64 ((i : Int) + 1))).toNat < kn - (RowKit.intOf (Value.int .i64 (i : Int))).toNat := by simp [RowKit.intOf]; omega
        cases b2 with
        | false =>
          have hN := hid (show L = touchL m (List.replicate n false) (ps.take (i + 1)) by rw [hnx]; unfold touchF; rw [if_neg (by rw [← h2.out]; decide)])
          clear hnx hL
          go_wp2_with fail
          have hadd : Value.int .i64 ((i : Int) + 1) = Value.int .i64 ((i + 1 : Nat) : Int) := by push_cast; rfl
          exact ⟨⟨i + 1, L, hadd, by omega, zt, hLl, hN, zm, hW⟩, hmeas⟩
        | true =>
          have hin := h2.out.symm
          obtain ⟨q, hq, hqe, hqn⟩ := hnum p hin
          have m0 := zm.cell 0
          have m1 := zm.cell 1
          have m2 := zm.cell 2
          have p0 := zp.cell 0
          have p1 := zp.cell 1
          simp only [List.getElem?_cons_zero, List.getElem?_cons_succ] at m0 m1 m2 p0 p1
          go_wp2_with fail
          ((with_reducible refine (clnum_b m sp sn sk p q w3 hf hin hqe).mono ?_); rintro e w4 ⟨rfl, hb4⟩)
          replace zt := zt.below hb4
          replace zm := zm.below hb4
          replace zp := zp.below hb4
          replace hW := below_call hW hb4
          clear hb4 m0 m1 m2 p0 p1
          have ct := zt.cell q
          rw [bools_at (by rw [hLl.out]; exact hq)] at ct
          have ft := zt.frozen q
          have q0 : (0 : Int) ≤ (q : Int) := by omega
          have q1 : (q : Int) < (n : Int) := by omega
          have zt2 := zt.set q (.bool true)
          rw [bools_set] at zt2
          have zm2 := zm.far (c := tb) (i := q) (.bool true) hkt
          have zp2 := zp.far (c := tb) (i := q) (.bool true) hpt
          have hW2 := hW.setCell (p := ⟨tb, q, none⟩) hWt (.bool true)
          obtain ⟨L1, hL1⟩ : ∃ L1, Hid (L1 = L.set q true) := ⟨_, hid rfl⟩
          rw [← hL1.out] at zt2
          have hL1l : Hid (L1.length = n) := hid (by rw [hL1.out, List.length_set]; exact hLl.out)
          obtain ⟨Q, hQ⟩ : ∃ Q, Hid (neiGo m.w m.h p.1 p.2 8 0 = Q) := ⟨_, hid rfl⟩
          have hQl : Q.length ≤ 8 := by rw [← hQ.out]; exact nei_len _ _ _ _ _ _
          have hQin : ∀ x, x ∈ Q → insp m x = true := fun x hx => by rw [← hQ.out] at hx; exact nei_in _ _ _ _ _ _ x hx
          have hfin : touchL m (List.replicate n false) (ps.take (i + 1)) = markN m L1 Q := by
            rw [hnx]
            unfold touchF
            rw [if_pos hin, hqn, ← hL1.out]
            unfold neisv
            rw [hQ.out]
          replace hfin := hid hfin
          go_upto_region 9 with fail
          obtain ⟨Z, hZ⟩ : ∃ Z, Z = w4.setCell ⟨tb, q, none⟩ (.bool true) := ⟨_, rfl⟩
          rw [← hZ] at zt2 zm2 zp2 hW2 ⊢
          clear hZ zt zm zp hW ct ft hnx hL hLl
          have m0 := zm2.cell 0
          have m1 := zm2.cell 1
          have p0 := zp2.cell 0
          have p1 := zp2.cell 1
          simp only [List.getElem?_cons_zero, List.getElem?_cons_succ] at m0 m1 p0 p1
          go_wp2_with fail
          ((with_reducible refine (dnei_yes m.w m.h p.1 p.2 Z (by unfold formedv at hf; rw [Bool.and_eq_true] at hf; exact hf.1) Q (hE.keep hW2).g hQ).mono ?_); rintro e w5 ⟨u, rfl, hoQ, hb5⟩)
          have htZ := zt2.lt
          replace zt2 := zt2.below hb5
          replace zm2 := zm2.below hb5
          replace hW2 := below_call hW2 hb5
          clear hb5 m0 m1 p0 p1 zp2
          obtain ⟨lq, hlq⟩ : ∃ lq, Hid (Q.length = lq) := ⟨_, hid rfl⟩
          rw [hlq.out] at hoQ hQl
          obtain ⟨pu, cu, rfl⟩ := own_slice hoQ
          have hut : ∀ j, (Value.slice pu lq cu).ownBlock = some j → j ≠ tb := fun j hj => by have := (hoQ.lt j hj).1; omega
          clear htZ
          go_wp2_with fail
          go_loopw [41] (fun vj wr => ∃ (j : Nat) (M : List Bool), vj = .int .i64 j ∧ j ≤ lq ∧ Blk wr tb (bools M) 4 ∧ Hid (M.length = n) ∧ Hid (M = markN m L1 (Q.take j)) ∧ wr.ownsRow Z.heap.size 29 2 (.slice pu lq cu) lq (pcells Q) ∧ Blk wr k0 [.int .i64 m.w, .int .i64 m.h, .slice sp sn sk] 24 ∧ Below W.heap.size W wr) (fun vj _ => lq - (RowKit.intOf vj).toNat)
          case atStart => exact ⟨0, L1, rfl, by omega, zt2, hL1l, hid rfl, hoQ, zm2, hW2⟩
          case round =>
            clear zt2 hoQ zm2 hW2
            obtain ⟨j, M, rfl, hj, zt, hMl, hM, hoQ, zm, hW⟩ := hrel
            by_cases hjl : j < lq
            · have z2 : decide ((j : Int) < (lq : Int)) = true := decide_eq_true (by omega)
              have j0 : (0 : Int) ≤ (j : Int) := by omega
              have j1 : (j : Int) < (lq : Int) := by omega
              have naddj : IntKind.i64.wrap ((j : Int) + 1) = ((j + 1 : Nat) : Int) := by rw [IntWalk.i64_in _ (by omega)]; simp
              have hjQ : j < Q.length := by rw [hlq.out]; exact hjl
              obtain ⟨gu, cu', eu⟩ := own_some hoQ (by omega)
              injection eu with eu1 _ eu3
              subst eu1 eu3
              obtain ⟨x, hx⟩ : ∃ x, Hid (x = Q[j]'hjQ) := ⟨_, hid rfl⟩
              have htkj : Q.take (j + 1) = Q.take j ++ [x] := by rw [hx.out, List.take_add_one, List.getElem?_eq_getElem hjQ]; rfl
              have c1 := hoQ.cellAt (j * 2) (by omega)
              have c2 := hoQ.cellAt (j * 2 + 1) (by omega)
              have hpcq := pcells_at Q j hjQ
              rw [Nat.mul_comm 2 j] at hpcq
              rw [hpcq.1] at c1
              rw [hpcq.2] at c2
              rw [← hx.out] at c1 c2
              have hxin : insp m x = true := hQin x (by rw [hx.out]; exact List.getElem_mem hjQ)
              obtain ⟨y, hy, hye, hyn⟩ := hnum x hxin
              have hMn := hid (show M.set y true = markN m L1 (Q.take (j + 1)) by rw [htkj, markN_snoc, hyn, ← hM.out])
              clear hpcq hM
              go_upto_region 12 with fail
              have hb0 := (Below.refl wr.heap.size wr).alloc (Nat.le_refl _) (.cells [Value.int .i64 x.1, .int .i64 x.2].toArray 29)
              have zx := Blk.new wr [.int .i64 x.1, .int .i64 x.2] 29
              obtain ⟨Y2, hY2⟩ : ∃ Y2, Y2 = wr.alloc (.cells [Value.int .i64 x.1, .int .i64 x.2].toArray 29) := ⟨_, rfl⟩
              rw [← hY2] at hb0 zx ⊢
              replace zt := zt.below hb0
              replace zm := zm.below hb0
              replace hoQ := own_below hoQ hb0
              replace hW := below_call hW hb0
              clear hb0 hY2 c1 c2
              have m0 := zm.cell 0
              have m1 := zm.cell 1
              have m2 := zm.cell 2
              have x0 := zx.cell 0
              have x1 := zx.cell 1
              simp only [List.getElem?_cons_zero, List.getElem?_cons_succ] at m0 m1 m2 x0 x1
              go_wp2_with fail
              ((with_reducible refine (clnum_b m sp sn sk x y Y2 hf hxin hye).mono ?_); rintro e w6 ⟨rfl, hb6⟩)
              replace zt := zt.below hb6
              replace zm := zm.below hb6
              replace hoQ := own_below hoQ hb6
              replace hW := below_call hW hb6
              clear hb6 m0 m1 m2 x0 x1 zx
              have ct := zt.cell y
              rw [bools_at (by rw [hMl.out]; exact hy)] at ct
              have ft := zt.frozen y
              have y0 : (0 : Int) ≤ (y : Int) := by omega
              have y1 : (y : Int) < (n : Int) := by omega
              have zt3 := zt.set y (.bool true)
              rw [bools_set] at zt3
              have zm3 := zm.far (c := tb) (i := y) (.bool true) hkt
              have hoQ3 := own_other hoQ ⟨tb, y, none⟩ (.bool true) hut
              have hW3 := hW.setCell (p := ⟨tb, y, none⟩) hWt (.bool true)
              have hMl2 : Hid ((M.set y true).length = n) := hid (by rw [List.length_set]; exact hMl.out)
              have hmeasj : lq - (RowKit.intOf (Value.int .i64 ((j : Int) + 1))).toNat < lq - (RowKit.intOf (Value.int .i64 (j : Int))).toNat := by simp [RowKit.intOf]; omega
              go_wp2_with fail
              have haddj : Value.int .i64 ((j : Int) + 1) = Value.int .i64 ((j + 1 : Nat) : Int) := by push_cast; rfl
              exact ⟨⟨j + 1, M.set y true, haddj, by omega, zt3, hMl2, hMn, hoQ3, zm3, hW3⟩, hmeasj⟩
            · obtain rfl : lq = j := by omega
              have z2 : decide ((lq : Int) < (lq : Int)) = false := decide_eq_false (by omega)
              have hN := hid (show M = touchL m (List.replicate n false) (ps.take (i + 1)) by rw [hfin.out, hM.out, ← hlq.out, List.take_length])
              clear hM hfin
              go_wp2_with fail
              have hadd : Value.int .i64 ((i : Int) + 1) = Value.int .i64 ((i + 1 : Nat) : Int) := by push_cast; rfl
              exact ⟨⟨i + 1, M, hadd, by omega, zt, hMl, hN, zm, hW⟩, hmeas⟩
      · obtain rfl : kn = i := by omega
        have z1 : decide ((kn : Int) < (kn : Int)) = false := decide_eq_false (by omega)
        have hLf : L = touchL m (List.replicate n false) ps := by rw [hL.out, ← hkn.out, List.take_length]
        have cn := clnumbers_b L tb n n wr hLl.out (by omega) (fun i hi => by rw [zt.cell, bools_at (by rw [hLl.out]; exact hi)])
        replace hLf := hid hLf
        clear hL
        go_wp2_with fail
        ((with_reducible refine cn.mono ?_); rintro e w9 ⟨u, rfl, hI, hb9⟩)
        go_wp2_with fail
        go_ret
        exact ⟨u, rfl, (by rw [ht.out, ← hLf.out]; exact hI), below_call hW hb9⟩

end

section
open Go.RowKit Go.Lib

/-- A border: the first cell before it, how long it is, the direction over it, the direction along it. -/
structure B5 where
  p : Pt
  n : Int
  ac : Int
  al : Int
def bordv (r s : R4) : B5 × Bool := if s.y = r.y ∧ s.x = r.x + r.w then (⟨(s.x - 1, s.y), r.h, 0, 2⟩, true) else if s.x = r.x ∧ s.y = r.y + r.h then (⟨(s.x, s.y - 1), r.w, 2, 0⟩, true) else (⟨(0, 0), 0, 0, 0⟩, false)
theorem Blk.put5 {W : World} {b : Nat} {p q r s o : Value} {t : TypeId} (h : Blk W b [p, q, r, s, o] t) (x y u v z : Value) : Blk (((((W.setCell ⟨b, 0, none⟩ x).setCell ⟨b, 1, none⟩ y).setCell ⟨b, 2, none⟩ u).setCell ⟨b, 3, none⟩ v).setCell ⟨b, 4, none⟩ z) b [x, y, u, v, z] t := ((((h.set 0 x).set 1 y).set 2 u).set 3 v).set 4 z
theorem Blk.five {w : World} {b : Nat} {p q r s o : Value} {t : TypeId} (h : Blk w b [p, q, r, s, o] t) :
    w.cell? ⟨b, 0, none⟩ = some p ∧ w.cell? ⟨b, 1, none⟩ = some q ∧ w.cell? ⟨b, 2, none⟩ = some r ∧ w.cell? ⟨b, 3, none⟩ = some s ∧ w.cell? ⟨b, 4, none⟩ = some o ∧
    w.frozen? ⟨b, 0, none⟩ = false ∧ w.frozen? ⟨b, 1, none⟩ = false ∧ w.frozen? ⟨b, 2, none⟩ = false ∧ w.frozen? ⟨b, 3, none⟩ = false ∧ w.frozen? ⟨b, 4, none⟩ = false :=
  ⟨h.cell 0, h.cell 1, h.cell 2, h.cell 3, h.cell 4, h.frozen 0, h.frozen 1, h.frozen 2, h.frozen 3, h.frozen 4⟩

set_option maxRecDepth 100000 in
set_option maxHeartbeats 4000000 in
theorem clbord_b (m : M3) (sp : Option Addr) (sn sk : Nat) (a b : Int) (o : B5) (x : Bool) (W : World) (ha : exv m a = true) (hb : exv m b = true) (e : Hid ((o, x) = bordv (arv m a) (arv m b))) :
    Calls Tryz.prog 84 #[.agg #[.int .i64 m.w, .int .i64 m.h, .slice sp sn sk], .int .i64 a, .int .i64 b] W fun e w' => e = .returned (.tuple #[.agg #[.int .i64 o.p.1, .int .i64 o.p.2, .int .i64 o.n, .int .i64 o.ac, .int .i64 o.al], .bool x]) ∧ Below W.heap.size W w' := by
  have okr := ar_ok ha
  have oks := ar_ok hb
  have hmw : m.w ≤ 32 ∧ m.h ≤ 32 := by obtain ⟨_, _, s1, s2, s3, s4⟩ := col_num (valid_formed (ex_valid ha).1); omega
  obtain ⟨r, hr⟩ : ∃ r, Hid (r = arv m a) := ⟨_, hid rfl⟩
  obtain ⟨s, hs⟩ : ∃ s, Hid (s = arv m b) := ⟨_, hid rfl⟩
  rw [← hr.out] at okr e
  rw [← hs.out] at oks e
  obtain ⟨rx, ry, rw1, rh1, rw8, rh8, rxw, ryh⟩ := okr
  obtain ⟨sx, sy, sw1, sh1, sw8, sh8, sxw, syh⟩ := oks
  have a1 : IntKind.i64.wrap (r.x + r.w) = r.x + r.w := IntWalk.i64_in _ (by omega)
  have a2 : IntKind.i64.wrap (r.y + r.h) = r.y + r.h := IntWalk.i64_in _ (by omega)
  have a3 : IntKind.i64.wrap (s.x - 1) = s.x - 1 := IntWalk.i64_in _ (by omega)
  have a4 : IntKind.i64.wrap (s.y - 1) = s.y - 1 := IntWalk.i64_in _ (by omega)
  have hT := (Held1.start W [.int .i64 m.w, .int .i64 m.h, .slice sp sn sk] 24).alloc (.cells [Value.int .i64 0, .int .i64 0, .int .i64 0, .int .i64 0, .int .i64 0].toArray 136)
  have hB := (Blk.new (W.alloc (.cells [Value.int .i64 m.w, .int .i64 m.h, .slice sp sn sk].toArray 24)) [.int .i64 0, .int .i64 0, .int .i64 0, .int .i64 0, .int .i64 0] 136).at (World.size_alloc _ _)
  obtain ⟨k0, ek⟩ : ∃ k0, Hid (k0 = W.heap.size) := ⟨_, hid rfl⟩
  obtain ⟨k1, ek1⟩ : ∃ k1, Hid (k1 = W.heap.size + 1) := ⟨_, hid rfl⟩
  go_enter Tryz.func84, Tryz.ntmps84
  go_upto_region 1 with fail
  obtain ⟨X, hX⟩ : ∃ X, X = (W.alloc (.cells [Value.int .i64 m.w, .int .i64 m.h, .slice sp sn sk].toArray 24)).alloc (.cells [Value.int .i64 0, .int .i64 0, .int .i64 0, .int .i64 0, .int .i64 0].toArray 136) := ⟨_, rfl⟩
  have zm := hT.l.at ek.out.symm
  have zb := hB.at ek1.out.symm
  have hW := hT.old
  rw [← hX] at zm zb hW ⊢
  clear hX hT hB
  rw [← ek1.out]
  rw [← ek.out]
  have hk1 : W.heap.size ≤ k1 := by rw [ek1.out]; omega
  have m0 := zm.cell 0
  have m1 := zm.cell 1
  have m2 := zm.cell 2
  simp only [List.getElem?_cons_zero, List.getElem?_cons_succ] at m0 m1 m2
  go_wp2_with fail
  ((with_reducible refine (claro_b m sp sn sk a r X ha hr).mono ?_); rintro e1 w1 ⟨rfl, hb1⟩)
  replace zm := zm.below hb1
  replace zb := zb.below hb1
  replace hW := below_call hW hb1
  clear hb1 m0 m1 m2
  go_upto_region 2 with fail
  have hb0 := (Below.refl w1.heap.size w1).alloc (Nat.le_refl _) (.cells [Value.int .i64 r.x, .int .i64 r.y, .int .i64 r.w, .int .i64 r.h].toArray 72)
  have zr := Blk.new w1 [.int .i64 r.x, .int .i64 r.y, .int .i64 r.w, .int .i64 r.h] 72
  obtain ⟨Y, hY⟩ : ∃ Y, Y = w1.alloc (.cells [Value.int .i64 r.x, .int .i64 r.y, .int .i64 r.w, .int .i64 r.h].toArray 72) := ⟨_, rfl⟩
  rw [← hY] at hb0 zr ⊢
  obtain ⟨k2, ek2⟩ : ∃ k2, Hid (k2 = w1.heap.size) := ⟨_, hid rfl⟩
  rw [← ek2.out] at zr ⊢
  replace zm := zm.below hb0
  replace zb := zb.below hb0
  replace hW := below_call hW hb0
  clear hb0 hY
  have m0 := zm.cell 0
  have m1 := zm.cell 1
  have m2 := zm.cell 2
  simp only [List.getElem?_cons_zero, List.getElem?_cons_succ] at m0 m1 m2
  go_wp2_with fail
  ((with_reducible refine (claro_b m sp sn sk b s Y hb hs).mono ?_); rintro e1 w2 ⟨rfl, hb2⟩)
  replace zr := zr.below hb2
  replace zb := zb.below hb2
  replace hW := below_call hW hb2
  clear hb2 m0 m1 m2 zm
  go_upto_region 3 with fail
  have hb0 := (Below.refl w2.heap.size w2).alloc (Nat.le_refl _) (.cells [Value.int .i64 s.x, .int .i64 s.y, .int .i64 s.w, .int .i64 s.h].toArray 72)
  have zs := Blk.new w2 [.int .i64 s.x, .int .i64 s.y, .int .i64 s.w, .int .i64 s.h] 72
  obtain ⟨Z, hZ⟩ : ∃ Z, Z = w2.alloc (.cells [Value.int .i64 s.x, .int .i64 s.y, .int .i64 s.w, .int .i64 s.h].toArray 72) := ⟨_, rfl⟩
  rw [← hZ] at hb0 zs ⊢
  obtain ⟨k3, ek3⟩ : ∃ k3, Hid (k3 = w2.heap.size) := ⟨_, hid rfl⟩
  rw [← ek3.out] at zs ⊢
  replace zr := zr.below hb0
  replace zb := zb.below hb0
  replace hW := below_call hW hb0
  clear hb0 hZ
  obtain ⟨_, _, _, _, -, -, -, -⟩ := zr.four
  obtain ⟨_, _, _, _, -, -, -, -⟩ := zs.four
  obtain ⟨_, _, _, _, _, _, _, _, _, _⟩ := zb.five
  clear ha hb hr hs
  by_cases c1 : s.y = r.y
  · have z1 : (s.y == r.y) = true := beq_iff_eq.2 c1
    by_cases c2 : s.x = r.x + r.w
    · have z2 : (s.x == r.x + r.w) = true := beq_iff_eq.2 c2
      obtain ⟨rfl, rfl⟩ : o = ⟨(s.x - 1, s.y), r.h, 0, 2⟩ ∧ x = true := by have h := e.out; unfold bordv at h; rw [if_pos ⟨c1, c2⟩] at h; injection h with h1 h2; exact ⟨h1, h2⟩
      clear e
      replace c1 := hid c1
      replace c2 := hid c2
      go_wp2_with fail
      have zb2 := zb.put5 (.int .i64 (s.x - 1)) (.int .i64 (s.y)) (.int .i64 (r.h)) (.int .i64 (0)) (.int .i64 (2))
      obtain ⟨_, _, _, _, _, -, -, -, -, -⟩ := zb2.five
      refine bodyPost_ret (v := .tuple #[.agg #[.int .i64 (s.x - 1), .int .i64 (s.y), .int .i64 (r.h), .int .i64 (0), .int .i64 (2)], .bool true]) (by simp [results, Tryz.results84, go_sem, *]) rfl ⟨rfl, ?_⟩
      exact ((((hW.setCell hk1 _).setCell hk1 _).setCell hk1 _).setCell hk1 _).setCell hk1 _
    · have z2 : (s.x == r.x + r.w) = false := by rw [Bool.eq_false_iff]; intro h; exact c2 (beq_iff_eq.1 h)
      replace c1 := hid c1
      by_cases c3 : s.x = r.x
      · have z3 : (s.x == r.x) = true := beq_iff_eq.2 c3
        by_cases c4 : s.y = r.y + r.h
        · have z4 : (s.y == r.y + r.h) = true := beq_iff_eq.2 c4
          obtain ⟨rfl, rfl⟩ : o = ⟨(s.x, s.y - 1), r.w, 2, 0⟩ ∧ x = true := by have h := e.out; unfold bordv at h; rw [if_neg (fun h => c2 h.2), if_pos ⟨c3, c4⟩] at h; injection h with h1 h2; exact ⟨h1, h2⟩
          clear e
          replace c3 := hid c3
          replace c4 := hid c4
          go_wp2_with fail
          have zb2 := zb.put5 (.int .i64 (s.x)) (.int .i64 (s.y - 1)) (.int .i64 (r.w)) (.int .i64 (2)) (.int .i64 (0))
          obtain ⟨_, _, _, _, _, -, -, -, -, -⟩ := zb2.five
          refine bodyPost_ret (v := .tuple #[.agg #[.int .i64 (s.x), .int .i64 (s.y - 1), .int .i64 (r.w), .int .i64 (2), .int .i64 (0)], .bool true]) (by simp [results, Tryz.results84, go_sem, *]) rfl ⟨rfl, ?_⟩
          exact ((((hW.setCell hk1 _).setCell hk1 _).setCell hk1 _).setCell hk1 _).setCell hk1 _
        · have z4 : (s.y == r.y + r.h) = false := by rw [Bool.eq_false_iff]; intro h; exact c4 (beq_iff_eq.1 h)
          obtain ⟨rfl, rfl⟩ : o = ⟨(0, 0), 0, 0, 0⟩ ∧ x = false := by have h := e.out; unfold bordv at h; rw [if_neg (fun h => c2 h.2), if_neg (fun h => c4 h.2)] at h; injection h with h1 h2; exact ⟨h1, h2⟩
          clear e
          go_wp2_with fail
          have zb2 := zb.put5 (.int .i64 (0)) (.int .i64 (0)) (.int .i64 (0)) (.int .i64 (0)) (.int .i64 (0))
          obtain ⟨_, _, _, _, _, -, -, -, -, -⟩ := zb2.five
          refine bodyPost_ret (v := .tuple #[.agg #[.int .i64 (0), .int .i64 (0), .int .i64 (0), .int .i64 (0), .int .i64 (0)], .bool false]) (by simp [results, Tryz.results84, go_sem, *]) rfl ⟨rfl, ?_⟩
          exact ((((hW.setCell hk1 _).setCell hk1 _).setCell hk1 _).setCell hk1 _).setCell hk1 _
      · have z3 : (s.x == r.x) = false := by rw [Bool.eq_false_iff]; intro h; exact c3 (beq_iff_eq.1 h)
        obtain ⟨rfl, rfl⟩ : o = ⟨(0, 0), 0, 0, 0⟩ ∧ x = false := by have h := e.out; unfold bordv at h; rw [if_neg (fun h => c2 h.2), if_neg (fun h => c3 h.1)] at h; injection h with h1 h2; exact ⟨h1, h2⟩
        clear e
        go_wp2_with fail
        have zb2 := zb.put5 (.int .i64 (0)) (.int .i64 (0)) (.int .i64 (0)) (.int .i64 (0)) (.int .i64 (0))
        obtain ⟨_, _, _, _, _, -, -, -, -, -⟩ := zb2.five
        refine bodyPost_ret (v := .tuple #[.agg #[.int .i64 (0), .int .i64 (0), .int .i64 (0), .int .i64 (0), .int .i64 (0)], .bool false]) (by simp [results, Tryz.results84, go_sem, *]) rfl ⟨rfl, ?_⟩
        exact ((((hW.setCell hk1 _).setCell hk1 _).setCell hk1 _).setCell hk1 _).setCell hk1 _
  · have z1 : (s.y == r.y) = false := by rw [Bool.eq_false_iff]; intro h; exact c1 (beq_iff_eq.1 h)
    by_cases c3 : s.x = r.x
    · have z3 : (s.x == r.x) = true := beq_iff_eq.2 c3
      by_cases c4 : s.y = r.y + r.h
      · have z4 : (s.y == r.y + r.h) = true := beq_iff_eq.2 c4
        obtain ⟨rfl, rfl⟩ : o = ⟨(s.x, s.y - 1), r.w, 2, 0⟩ ∧ x = true := by have h := e.out; unfold bordv at h; rw [if_neg (fun h => c1 h.1), if_pos ⟨c3, c4⟩] at h; injection h with h1 h2; exact ⟨h1, h2⟩
        clear e
        replace c3 := hid c3
        replace c4 := hid c4
        go_wp2_with fail
        have zb2 := zb.put5 (.int .i64 (s.x)) (.int .i64 (s.y - 1)) (.int .i64 (r.w)) (.int .i64 (2)) (.int .i64 (0))
        obtain ⟨_, _, _, _, _, -, -, -, -, -⟩ := zb2.five
        refine bodyPost_ret (v := .tuple #[.agg #[.int .i64 (s.x), .int .i64 (s.y - 1), .int .i64 (r.w), .int .i64 (2), .int .i64 (0)], .bool true]) (by simp [results, Tryz.results84, go_sem, *]) rfl ⟨rfl, ?_⟩
        exact ((((hW.setCell hk1 _).setCell hk1 _).setCell hk1 _).setCell hk1 _).setCell hk1 _
      · have z4 : (s.y == r.y + r.h) = false := by rw [Bool.eq_false_iff]; intro h; exact c4 (beq_iff_eq.1 h)
        obtain ⟨rfl, rfl⟩ : o = ⟨(0, 0), 0, 0, 0⟩ ∧ x = false := by have h := e.out; unfold bordv at h; rw [if_neg (fun h => c1 h.1), if_neg (fun h => c4 h.2)] at h; injection h with h1 h2; exact ⟨h1, h2⟩
        clear e
        go_wp2_with fail
        have zb2 := zb.put5 (.int .i64 (0)) (.int .i64 (0)) (.int .i64 (0)) (.int .i64 (0)) (.int .i64 (0))
        obtain ⟨_, _, _, _, _, -, -, -, -, -⟩ := zb2.five
        refine bodyPost_ret (v := .tuple #[.agg #[.int .i64 (0), .int .i64 (0), .int .i64 (0), .int .i64 (0), .int .i64 (0)], .bool false]) (by simp [results, Tryz.results84, go_sem, *]) rfl ⟨rfl, ?_⟩
        exact ((((hW.setCell hk1 _).setCell hk1 _).setCell hk1 _).setCell hk1 _).setCell hk1 _
    · have z3 : (s.x == r.x) = false := by rw [Bool.eq_false_iff]; intro h; exact c3 (beq_iff_eq.1 h)
      obtain ⟨rfl, rfl⟩ : o = ⟨(0, 0), 0, 0, 0⟩ ∧ x = false := by have h := e.out; unfold bordv at h; rw [if_neg (fun h => c1 h.1), if_neg (fun h => c3 h.1)] at h; injection h with h1 h2; exact ⟨h1, h2⟩
      clear e
      go_wp2_with fail
      have zb2 := zb.put5 (.int .i64 (0)) (.int .i64 (0)) (.int .i64 (0)) (.int .i64 (0)) (.int .i64 (0))
      obtain ⟨_, _, _, _, _, -, -, -, -, -⟩ := zb2.five
      refine bodyPost_ret (v := .tuple #[.agg #[.int .i64 (0), .int .i64 (0), .int .i64 (0), .int .i64 (0), .int .i64 (0)], .bool false]) (by simp [results, Tryz.results84, go_sem, *]) rfl ⟨rfl, ?_⟩
      exact ((((hW.setCell hk1 _).setCell hk1 _).setCell hk1 _).setCell hk1 _).setCell hk1 _

end

end Go.Proofs.YtpgchjhfhndaaaaGreatDoor
