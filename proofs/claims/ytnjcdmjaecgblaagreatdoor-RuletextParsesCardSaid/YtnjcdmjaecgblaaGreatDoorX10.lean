/-
  What the reference of ruletext answers: Parse.
-/
import Derived.Test.YtnjcdmjaecgblaaGreatDoorX03
import Derived.Test.YtnjcdmjaecgblaaGreatDoorX08
import Derived.Test.YtnjcdmjaecgblaaGreatDoorX09
namespace Go.Proofs.YtnjcdmjaecgblaaGreatDoor
section
open Go.RowKit Go.Lib
theorem results_agg_triR {P : Program} {fn : Func} {tmps : Array Value} {w : World} {c j l : Nat} {t : TypeId} (hf : fn.results = #[.cell c t, .tmp j, .tmp l]) {b : Nat} (hp : tmps.getD c undef = .pointer (some ⟨b, 0, none⟩)) {x y : Value} (hx : tmps.getD j undef = x) (hy : tmps.getD l undef = y) {k : Nat} (agg : ∀ w, (isAgg t).run P w = .ok true w) (sz : ∀ w, (Go.sizeOf t).run P w = .ok k w)
 {vs : List Value} {s : TypeId} (hB : Blk w b vs s) (hl : vs.length = k) : (results fn tmps).run P w = .ok (.tuple #[.agg vs.toArray, x, y]) w := by
 unfold results
 rw [hf]
 rw [Array.getD_eq_getD_getElem?] at hp hx hy
 simp [hp, hx, hy, asAddr, loadVar, loadCells, agg, sz, hB.loads (P := P) hl, Result.andThen]
def ParsePR (s : List UInt8) (w : World) (e : Ending) (w' : World) : Prop := ∃ su sw st, e = .returned (.tuple #[.agg #[su, sw, st], .int .i64 (parsev10 s).2.1, .int .i64 (parsev10 s).2.2]) ∧ RAt w' su sw st (parsev10 s).1 ∧ Below w.heap.size w w'
theorem parse_badR {s : List UInt8} {m : Nat} (hs : s.length ≤ 32768) (h : Bad ⟨0, 0, R9.zero⟩ 1 s m) : parsev10 s = (R9.zero, (m : Int), 5) := by
 obtain ⟨h1, h2⟩ := h
 unfold BadT at h1
 unfold parsev10
 rw [if_neg (by omega), if_pos h1, h2]
theorem parse_endR {S : List UInt8} {k : Int} {d a n : Nat} {r : R9} (hs : S.length ≤ 32768) (h : RPF S k d a n r) (h0 : S.drop a = []) (hd : ¬ d < (fieldsv k).length) : parsev10 S = if valv r = 0 then (r, 0, 0) else (R9.zero, 0, valv r) := by
 have e1 := h.go
 have e2 := h.tail
 rw [h0] at e1 e2
 rw [show linesB [] = [] from rfl, goP_nil] at e1
 rw [show tailB [] = [] from rfl] at e2
 unfold parsev10
 rw [if_neg (by omega), e1, e2, if_neg (by simp; omega)]
theorem Rwr.shape {w : World} {B : Nat} {su sw st : Value} {r : R9} (h : Rwr w B su sw st r) : ∃ q0 k0 q1 k1 q2 k2, su = .slice q0 r.us.length k0 ∧ sw = .slice q1 r.ws.length k1 ∧ st = .slice q2 r.ts.length k2 := by
 obtain ⟨q0, k0, q1, k1, q2, k2, _, _, _, e0, e1, e2, _⟩ := h
 exact ⟨q0, k0, q1, k1, q2, k2, e0, e1, e2⟩
theorem fields_leR (k : Int) : (fieldsv k).length ≤ 18 := by
 unfold fieldsv
 split
 · decide
 · split
   · decide
   · split
     · decide
     · decide
theorem ext_listR (s : ByteArray) (a i : Nat) : (s.extract a i).data.toList = (s.data.toList.drop a).take (i - a) := by rw [rt_ext, data_toB]
theorem strip_shortR {T st : ByteArray} {l : List UInt8} (h : st.data.toList = l) (hl : T.size < st.size) : stripB l T.data.toList = none := by
 cases hq : stripB l T.data.toList with
 | none => rfl
 | some x =>
  have h1 := congrArg List.length ((strip_iff _ _ _).1 hq)
  rw [List.length_append, ← h, rt_size, rt_size] at h1
  omega
theorem strip_notR {T st : ByteArray} {l : List UInt8} (h : st.data.toList = l) (hp : ¬ T.extract 0 st.size = st) : stripB l T.data.toList = none := by
 cases hq : stripB l T.data.toList with
 | none => rfl
 | some x => exact absurd ((strip_iff _ _ _).1 hq) (by rw [← h]; exact ext_not hp x)
theorem strip_yesR {T st : ByteArray} {l : List UInt8} (h : st.data.toList = l) (hp : T.extract 0 st.size = st) (_hl : st.size ≤ T.size) : stripB l T.data.toList = some (T.extract st.size T.size).data.toList := by
 rw [strip_iff, ext_listR, ← h]
 have h1 : (T.extract 0 st.size).data.toList = st.data.toList := by rw [hp]
 rw [ext_listR, List.drop_zero, Nat.sub_zero] at h1
 rw [List.take_of_length_le (by rw [List.length_drop, rt_size]; exact Nat.le_refl _), ← h1]
 exact (List.take_append_drop st.size T.data.toList).symm
theorem zeroV10R : ∀ w, (zeroValue 72).run Tryz.prog w = .ok (.agg ([.int .i64 0, .bool false, .string ⟨#[]⟩, .slice none 0 0] : List Value).toArray) w := fun w => by kernel_rfl
theorem newU_buildR (nm : ByteArray) : ∀ w, Sem.run Tryz.prog (Instr.build 53 #[(0, .string nm)]) w = .ok (.agg (uCells { U9.zero with nm := nm } (.slice none 0 0) (.slice none 0 0) (.slice none 0 0)).toArray) w := fun w => by kernel_rfl
theorem newU_sliceR (nm : ByteArray) : Tryz.prog.builtSlice 53 1 [(0, .agg (uCells { U9.zero with nm := nm } (.slice none 0 0) (.slice none 0 0) (.slice none 0 0)).toArray)] = some (uCells { U9.zero with nm := nm } (.slice none 0 0) (.slice none 0 0) (.slice none 0 0)).toArray := by kernel_rfl
theorem newU_loneR (nm : ByteArray) : ∀ v ∈ (uCells { U9.zero with nm := nm } (.slice none 0 0) (.slice none 0 0) (.slice none 0 0)), v.oneCell' = true := by
 intro v hv
 simp only [uCells, List.mem_cons, List.not_mem_nil, or_false] at hv
 rcases hv with rfl | rfl | rfl | rfl | rfl | rfl | rfl | rfl | rfl | rfl | rfl | rfl | rfl | rfl | rfl | rfl | rfl | rfl | rfl <;> rfl
theorem newW_buildR (nm : ByteArray) : ∀ w, Sem.run Tryz.prog (Instr.build 51 #[(0, .string nm)]) w = .ok (.agg (wCells { W9.zero with nm := nm }).toArray) w := fun w => by kernel_rfl
theorem newW_sliceR (nm : ByteArray) : Tryz.prog.builtSlice 51 1 [(0, .agg (wCells { W9.zero with nm := nm }).toArray)] = some (wCells { W9.zero with nm := nm }).toArray := by kernel_rfl
theorem newW_loneR (nm : ByteArray) : ∀ v ∈ (wCells { W9.zero with nm := nm }), v.oneCell' = true := by
 intro v hv
 simp only [wCells, List.mem_cons, List.not_mem_nil, or_false] at hv
 rcases hv with rfl | rfl | rfl | rfl | rfl | rfl <;> rfl
theorem newT_buildR (nm : ByteArray) : ∀ w, Sem.run Tryz.prog (Instr.build 56 #[(0, .string nm)]) w = .ok (.agg (tCells { T9.zero with nm := nm } (.slice none 0 0)).toArray) w := fun w => by kernel_rfl
theorem newT_sliceR (nm : ByteArray) : Tryz.prog.builtSlice 56 1 [(0, .agg (tCells { T9.zero with nm := nm } (.slice none 0 0)).toArray)] = some (tCells { T9.zero with nm := nm } (.slice none 0 0)).toArray := by kernel_rfl
theorem newT_loneR (nm : ByteArray) : ∀ v ∈ (tCells { T9.zero with nm := nm } (.slice none 0 0)), v.oneCell' = true := by
 intro v hv
 simp only [tCells, List.mem_cons, List.not_mem_nil, or_false] at hv
 rcases hv with rfl | rfl | rfl | rfl | rfl | rfl | rfl | rfl <;> rfl
set_option maxHeartbeats 16000000 in
set_option maxRecDepth 100000 in
theorem r10parse_b (s : ByteArray) (W : World) (_hs : s.size ≤ 50000) : Calls Tryz.prog 23 #[.string s] W (ParsePR s.data.toList W) := by
 have hsl : s.data.toList.length = s.size := rt_size s
 have hY := Blk.new W [.slice none 0 0, .slice none 0 0, .slice none 0 0] 31
 have hL := (Below.refl W.heap.size W).alloc (Nat.le_refl _) (.cells ([.slice none 0 0, .slice none 0 0, .slice none 0 0] : List Value).toArray 31)
 by_cases hbig : (32768 : Int) < s.size
 · have hp := hid (show parsev10 s.data.toList = (R9.zero, 0, 2) by unfold parsev10; rw [if_pos (by omega)])
   go_enter Tryz.func23, Tryz.ntmps23
   go_upto_region 1 with fail
   generalize W.alloc (.cells ([.slice none 0 0, .slice none 0 0, .slice none 0 0] : List Value).toArray 31) = V at *
   obtain ⟨_, _, _, _, _, _⟩ := hY.three
   go_wp2_with fail
   refine bodyPost_ret (results_agg_triR rfl rfl rfl rfl Tryz.isAgg31 Tryz.sizeOf31 (((hY.set 0 _).set 1 _).set 2 _) rfl) rfl ?_
   exact ⟨_, _, _, by rw [hp.out]; rfl, by rw [hp.out]; exact zero_rules _, (((hL.setCell (p := ⟨W.heap.size, 0, none⟩) (Nat.le_refl _) _).setCell (p := ⟨W.heap.size, 1, none⟩) (Nat.le_refl _) _).setCell (p := ⟨W.heap.size, 2, none⟩) (Nat.le_refl _) _)⟩
 go_enter Tryz.func23, Tryz.ntmps23
 go_upto_region 1 with fail
 generalize W.alloc (.cells ([.slice none 0 0, .slice none 0 0, .slice none 0 0] : List Value).toArray 31) = V at *
 have hbv := hY.lt
 go_upto_region 4 with fail
 have hT0 := Blk.new V [.slice none 0 0, .slice none 0 0, .slice none 0 0] 31
 replace hY := hY.alloc (.cells ([.slice none 0 0, .slice none 0 0, .slice none 0 0] : List Value).toArray 31)
 have hL0 := hL.alloc hL.size (.cells ([.slice none 0 0, .slice none 0 0, .slice none 0 0] : List Value).toArray 31)
 have hVX : V.heap.size ≤ (V.alloc (.cells ([.slice none 0 0, .slice none 0 0, .slice none 0 0] : List Value).toArray 31)).heap.size := by simp
 clear hL
 generalize V.alloc (.cells ([.slice none 0 0, .slice none 0 0, .slice none 0 0] : List Value).toArray 31) = X at *
 generalize V.heap.size = b5 at *
 have hR0 := Rwr.nil X b5
 have hs32 : s.data.toList.length ≤ 32768 := by omega
 have h5 : W.heap.size ≠ b5 := Nat.ne_of_lt hbv
 go_wp2_with fail
 go_loopw [6, 7, 8, 9, 10] (fun v6 v7 v8 v9 v10 wr => ∃ (k : Int) (d a n i : Nat) (su sw st : Value) (r : R9), v6 = .int .i64 k ∧ v7 = .int .i64 d ∧ v8 = .int .i64 a ∧ v9 = .int .i64 n ∧ v10 = .int .i64 i ∧ i ≤ s.size ∧ a ≤ i ∧ Blk wr b5 [su, sw, st] 31 ∧ Rwr wr b5 su sw st r ∧ Blk wr W.heap.size [.slice none 0 0, .slice none 0 0, .slice none 0 0] 31 ∧ Below W.heap.size W wr ∧ Hid (RPF s.data.toList k d a n r ∧ (10 : UInt8) ∉ (s.data.toList.drop a).take (i - a))) (fun _ _ _ _ v10 _ => s.size - (RowKit.intOf v10).toNat)
 case atStart => exact ⟨0, 0, 0, 1, 0, _, _, _, _, rfl, rfl, rfl, rfl, rfl, Nat.zero_le _, Nat.le_refl _, hT0, hR0, hY, hL0, hid ⟨RPF.start _, by simp⟩⟩
 case round =>
  clear hT0 hR0 hY hL0
  obtain ⟨k, d, a, n, i, su, sw, st, r, rfl, rfl, rfl, rfl, rfl, hi, ha, hT, hR, hY, hL, hA⟩ := hrel
  obtain ⟨q0, k0, q1, k1, q2, k2, rfl, rfl, rfl⟩ := hR.shape
  by_cases hlt : i < s.size
  · have hi' : i < s.data.toList.length := by rw [rt_size]; exact hlt
    have d0 : (0 : Int) ≤ i := by omega
    have d1 : (i : Int) < s.size := by omega
    obtain ⟨c, hc⟩ : ∃ c : Nat, (s[i]'hlt).toNat = c := ⟨_, rfl⟩
    have hc2 : ((s[i]'hlt).toNat : Int) = c := by omega
    by_cases he : s.data.toList[i]'hi' = 10
    · have hc10 : c = 10 := by rw [← hc, show s[i]'hlt = 10 from he]; rfl
      subst hc10
      clear hc
      have hno := hA.out.2
      have hF := hA.out.1
      have hnum := hF.num
      have a0 : (0 : Int) ≤ a := by omega
      have a1 : (a : Int) ≤ i := by omega
      have a2 : (i : Int) ≤ s.size := by omega
      have hTl := ext_listR s a i
      have hTs : (s.extract a i).size ≤ 32768 := by rw [ByteArray.size_extract]; omega
      clear hA
      go_upto_region 11 with fail
      generalize s.extract a i = T at *
      clear hc2 a0 a1 a2
      go_wp2_with fail
      ((with_reducible refine (r10fields_b k _).mono ?_); rintro e w1 ⟨vf, rfl, ⟨pf, cf, rfl, hfm, hfat⟩, hb⟩)
      replace hT := hT.below hb
      replace hY := hY.below hb
      replace hR := hR.below hb
      replace hL := below_call hL hb
      clear hb
      by_cases hd : d = (fieldsv k).length
      · have z1 : ((d : Int) == ((fieldsv k).length : Nat)) = true := beq_iff_eq.2 (by omega)
        go_wp2_with fail
        ((with_reducible refine (r10first_b T _ (by omega)).mono ?_); rintro e w2 ⟨k', x, b, rfl, hf1, hf0, hb⟩)
        replace hT := hT.below hb
        replace hY := hY.below hb
        replace hR := hR.below hb
        replace hL := below_call hL hb
        clear hb
        rw [hTl] at hf1 hf0
        cases b with
        | false =>
         have hp := hid (parse_badR hs32 (hF.full_no hi' ha hno he hd (.inl (hf0 rfl))))
         clear hf1 hf0 hF hno hTl he hfm hfat hT hR
         obtain ⟨_, _, _, _, _, _⟩ := hY.three
         go_wp2_with fail
         refine bodyPost_ret (results_agg_triR rfl rfl rfl rfl Tryz.isAgg31 Tryz.sizeOf31 (((hY.set 0 _).set 1 _).set 2 _) rfl) rfl ?_
         exact ⟨_, _, _, by rw [hp.out]; rfl, by rw [hp.out]; exact zero_rules _, (((hL.setCell (p := ⟨W.heap.size, 0, none⟩) (Nat.le_refl _) _).setCell (p := ⟨W.heap.size, 1, none⟩) (Nat.le_refl _) _).setCell (p := ⟨W.heap.size, 2, none⟩) (Nat.le_refl _) _)⟩
        | true =>
         have hfs := hf1 rfl
         by_cases hk : k' < k
         · have z2 : decide (k' < k) = true := decide_eq_true hk
           have hp := hid (parse_badR hs32 (hF.full_no hi' ha hno he hd (.inr ⟨k', _, hfs, hk⟩)))
           clear hf1 hf0 hF hno hTl he hfm hfat hT hR hfs
           obtain ⟨_, _, _, _, _, _⟩ := hY.three
           go_wp2_with fail
           refine bodyPost_ret (results_agg_triR rfl rfl rfl rfl Tryz.isAgg31 Tryz.sizeOf31 (((hY.set 0 _).set 1 _).set 2 _) rfl) rfl ?_
           exact ⟨_, _, _, by rw [hp.out]; rfl, by rw [hp.out]; exact zero_rules _, (((hL.setCell (p := ⟨W.heap.size, 0, none⟩) (Nat.le_refl _) _).setCell (p := ⟨W.heap.size, 1, none⟩) (Nat.le_refl _) _).setCell (p := ⟨W.heap.size, 2, none⟩) (Nat.le_refl _) _)⟩
         · have z2 : decide (k' < k) = false := decide_eq_false hk
           have hfew := hF.few (by omega) hs32
           obtain ⟨h3, hxn, -⟩ := first_some hfs
           have hF2 := hid (show RPF s.data.toList k' 0 (i + 1) (n + 1) (newK r k' x.data.toList) ∧ (10 : UInt8) ∉ (s.data.toList.drop (i + 1)).take (i + 1 - (i + 1)) from ⟨hF.full hi' ha hno he hd hfs hk, by simp⟩)
           clear hf1 hf0 hF hno hTl he hfm hfat hfs hk hxn
           rcases h3 with rfl | rfl | rfl
           · rw [show newK r 1 x.data.toList = { r with us := r.us ++ [{ U9.zero with nm := x }] } from rfl] at hF2
             obtain ⟨_, _, _, _, _, _, cu, cw, ct, e0, e1, e2, a9, b9, c9, d9, e9, f9⟩ := hR
             cases e0
             cases e1
             cases e2
             obtain ⟨i0, hi0, hz0, hz1, hz2⟩ := info_cut9 infoU9
             have hbu := newU_buildR x
             have hbs := newU_sliceR x
             have hl9 := newU_loneR x
             have hcl9 : (uCells { U9.zero with nm := x } (.slice none 0 0) (.slice none 0 0) (.slice none 0 0)).length = 1 * 19 := rfl
             have hBV : b5 ≤ w2.heap.size := Nat.le_of_lt hT.lt
             have hD := (Below.refl w2.heap.size w2).alloc (Nat.le_refl _) (.cells (uCells { U9.zero with nm := x } (.slice none 0 0) (.slice none 0 0) (.slice none 0 0)).toArray 53)
             have ha1 := a9.alloc (.cells (uCells { U9.zero with nm := x } (.slice none 0 0) (.slice none 0 0) (.slice none 0 0)).toArray 53)
             have hLV := hL.alloc hL.size (.cells (uCells { U9.zero with nm := x } (.slice none 0 0) (.slice none 0 0) (.slice none 0 0)).toArray 53)
             obtain ⟨_, _, _, _, _, _⟩ := hT.three
             go_upto_region 18 with fail
             go_wp2_with (first
              | (with_reducible refine wpList_buildSliceTo rfl 27 53 1 _ rfl w2.heap.size rfl (some 66) rfl Tryz.underlying27 (uCells { U9.zero with nm := x } (.slice none 0 0) (.slice none 0 0) (.slice none 0 0)).toArray (by with_unfolding_all exact hbs) ?_)
              | (at_builtin; refine wpList_append_own _ rfl _ _ 27 rfl b5 53 i0 (.agg uZero.toArray) 19 208 Tryz.underlying27 hi0 hz0 hz1 hz2 rfl (by decide) _ _ _ rfl ha1 ⟨w2.heap.size, 0, none⟩ 1 1 (uCells { U9.zero with nm := x } (.slice none 0 0) (.slice none 0 0) (.slice none 0 0)) rfl hcl9 cells_new hl9 (by unfold maxLen; omega) (by omega) (by first | (simp; done) | (simp; omega)) ?_))
             intro v' X2 hown hg _
             obtain ⟨g, m9, rfl⟩ : ∃ g c9, v' = .slice (some ⟨g, 0, none⟩) (r.us.length + 1) c9 := by
              rcases hown.2 with ⟨-, q⟩ | ⟨g, cap, cur, q, -⟩
              · omega
              · exact ⟨g, cap, q⟩
             have hbt : ButT 53 w2 X2 := (ButT.call hD).trans (ButT.grown ha1 hg)
             have hTX := hbt.blk hT (by decide)
             have hYX := hbt.blk hY (by decide)
             have hLX := hLV.grown hg (by simp; omega) (fun k hk => Nat.le_trans (Nat.le_of_lt hbv) (ha1.lt k hk).1)
             have hR2 := Rwr.addU a9 b9 c9 d9 e9 f9 hbt hown ⟨_, _, _, rfl, sb_nil _, sb_nil _, sb_nil _⟩
             have hT2 := hTX.set 0 (.slice (some ⟨g, 0, none⟩) (r.us.length + 1) m9)
             simp only [List.set_cons_zero] at hT2
             replace hR2 := hR2.but (ButT.set hTX 0 (.slice (some ⟨g, 0, none⟩) (r.us.length + 1) m9)) (by decide) (by decide) (by decide) (by decide)
             have hY2 := hYX.far (c := b5) (i := 0) (.slice (some ⟨g, 0, none⟩) (r.us.length + 1) m9) h5
             have hL2 := hLX.setCell (p := ⟨b5, 0, none⟩) (Nat.le_of_lt hbv) (.slice (some ⟨g, 0, none⟩) (r.us.length + 1) m9)
             obtain ⟨_, _, _, _, _, _⟩ := hTX.three
             clear hbt hg hown ha1 hLV hD a9 b9 c9 d9 e9 f9 hbu hbs hl9 hT hY hL
             go_wp2_with fail
             go_roundw
             case rel => exact ⟨1, 0, i + 1, n + 1, i + 1, _, _, _, _, rfl, by go_num, by go_num, by go_num, by go_num, by omega, by omega, hT2, hR2, hY2, hL2, hF2⟩
             case measure => simp [RowKit.intOf]; omega
           · rw [show newK r 2 x.data.toList = { r with ws := r.ws ++ [{ W9.zero with nm := x }] } from rfl] at hF2
             obtain ⟨_, _, _, _, _, _, cu, cw, ct, e0, e1, e2, a9, b9, c9, d9, e9, f9⟩ := hR
             cases e0
             cases e1
             cases e2
             obtain ⟨i0, hi0, hz0, hz1, hz2⟩ := info_cut9 infoW9
             have hbu := newW_buildR x
             have hbs := newW_sliceR x
             have hl9 := newW_loneR x
             have hcl9 : (wCells { W9.zero with nm := x }).length = 1 * 6 := rfl
             have hBV : b5 ≤ w2.heap.size := Nat.le_of_lt hT.lt
             have hD := (Below.refl w2.heap.size w2).alloc (Nat.le_refl _) (.cells (wCells { W9.zero with nm := x }).toArray 51)
             have ha1 := b9.alloc (.cells (wCells { W9.zero with nm := x }).toArray 51)
             have hLV := hL.alloc hL.size (.cells (wCells { W9.zero with nm := x }).toArray 51)
             obtain ⟨_, _, _, _, _, _⟩ := hT.three
             go_upto_region 20 with fail
             go_wp2_with (first
              | (with_reducible refine wpList_buildSliceTo rfl 28 51 1 _ rfl w2.heap.size rfl (some 75) rfl Tryz.underlying28 (wCells { W9.zero with nm := x }).toArray (by with_unfolding_all exact hbs) ?_)
              | (at_builtin; refine wpList_append_own _ rfl _ _ 28 rfl b5 51 i0 (.agg wZero.toArray) 6 56 Tryz.underlying28 hi0 hz0 hz1 hz2 rfl (by decide) _ _ _ rfl ha1 ⟨w2.heap.size, 0, none⟩ 1 1 (wCells { W9.zero with nm := x }) rfl hcl9 cells_new hl9 (by unfold maxLen; omega) (by omega) (by first | (simp; done) | (simp; omega)) ?_))
             intro v' X2 hown hg _
             obtain ⟨g, m9, rfl⟩ : ∃ g c9, v' = .slice (some ⟨g, 0, none⟩) (r.ws.length + 1) c9 := by
              rcases hown.2 with ⟨-, q⟩ | ⟨g, cap, cur, q, -⟩
              · omega
              · exact ⟨g, cap, q⟩
             have hbt : ButT 51 w2 X2 := (ButT.call hD).trans (ButT.grown ha1 hg)
             have hTX := hbt.blk hT (by decide)
             have hYX := hbt.blk hY (by decide)
             have hLX := hLV.grown hg (by simp; omega) (fun k hk => Nat.le_trans (Nat.le_of_lt hbv) (ha1.lt k hk).1)
             have hR2 := Rwr.addW a9 b9 c9 d9 e9 f9 hbt hown rfl
             have hT2 := hTX.set 1 (.slice (some ⟨g, 0, none⟩) (r.ws.length + 1) m9)
             simp only [List.set_cons_zero, List.set_cons_succ] at hT2
             replace hR2 := hR2.but (ButT.set hTX 1 (.slice (some ⟨g, 0, none⟩) (r.ws.length + 1) m9)) (by decide) (by decide) (by decide) (by decide)
             have hY2 := hYX.far (c := b5) (i := 1) (.slice (some ⟨g, 0, none⟩) (r.ws.length + 1) m9) h5
             have hL2 := hLX.setCell (p := ⟨b5, 1, none⟩) (Nat.le_of_lt hbv) (.slice (some ⟨g, 0, none⟩) (r.ws.length + 1) m9)
             obtain ⟨_, _, _, _, _, _⟩ := hTX.three
             clear hbt hg hown ha1 hLV hD a9 b9 c9 d9 e9 f9 hbu hbs hl9 hT hY hL
             go_wp2_with fail
             go_roundw
             case rel => exact ⟨2, 0, i + 1, n + 1, i + 1, _, _, _, _, rfl, by go_num, by go_num, by go_num, by go_num, by omega, by omega, hT2, hR2, hY2, hL2, hF2⟩
             case measure => simp [RowKit.intOf]; omega
           · rw [show newK r 3 x.data.toList = { r with ts := r.ts ++ [{ T9.zero with nm := x }] } from rfl] at hF2
             obtain ⟨_, _, _, _, _, _, cu, cw, ct, e0, e1, e2, a9, b9, c9, d9, e9, f9⟩ := hR
             cases e0
             cases e1
             cases e2
             obtain ⟨i0, hi0, hz0, hz1, hz2⟩ := info_cut9 infoT9
             have hbu := newT_buildR x
             have hbs := newT_sliceR x
             have hl9 := newT_loneR x
             have hcl9 : (tCells { T9.zero with nm := x } (.slice none 0 0)).length = 1 * 8 := rfl
             have hBV : b5 ≤ w2.heap.size := Nat.le_of_lt hT.lt
             have hD := (Below.refl w2.heap.size w2).alloc (Nat.le_refl _) (.cells (tCells { T9.zero with nm := x } (.slice none 0 0)).toArray 56)
             have ha1 := c9.alloc (.cells (tCells { T9.zero with nm := x } (.slice none 0 0)).toArray 56)
             have hLV := hL.alloc hL.size (.cells (tCells { T9.zero with nm := x } (.slice none 0 0)).toArray 56)
             obtain ⟨_, _, _, _, _, _⟩ := hT.three
             go_upto_region 22 with fail
             go_wp2_with (first
              | (with_reducible refine wpList_buildSliceTo rfl 29 56 1 _ rfl w2.heap.size rfl (some 84) rfl Tryz.underlying29 (tCells { T9.zero with nm := x } (.slice none 0 0)).toArray (by with_unfolding_all exact hbs) ?_)
              | (at_builtin; refine wpList_append_own _ rfl _ _ 29 rfl b5 56 i0 (.agg tZero.toArray) 8 96 Tryz.underlying29 hi0 hz0 hz1 hz2 rfl (by decide) _ _ _ rfl ha1 ⟨w2.heap.size, 0, none⟩ 1 1 (tCells { T9.zero with nm := x } (.slice none 0 0)) rfl hcl9 cells_new hl9 (by unfold maxLen; omega) (by omega) (by first | (simp; done) | (simp; omega)) ?_))
             intro v' X2 hown hg _
             obtain ⟨g, m9, rfl⟩ : ∃ g c9, v' = .slice (some ⟨g, 0, none⟩) (r.ts.length + 1) c9 := by
              rcases hown.2 with ⟨-, q⟩ | ⟨g, cap, cur, q, -⟩
              · omega
              · exact ⟨g, cap, q⟩
             have hbt : ButT 56 w2 X2 := (ButT.call hD).trans (ButT.grown ha1 hg)
             have hTX := hbt.blk hT (by decide)
             have hYX := hbt.blk hY (by decide)
             have hLX := hLV.grown hg (by simp; omega) (fun k hk => Nat.le_trans (Nat.le_of_lt hbv) (ha1.lt k hk).1)
             have hR2 := Rwr.addT a9 b9 c9 d9 e9 f9 hbt hown ⟨_, rfl, sb_nil _⟩
             have hT2 := hTX.set 2 (.slice (some ⟨g, 0, none⟩) (r.ts.length + 1) m9)
             simp only [List.set_cons_zero, List.set_cons_succ] at hT2
             replace hR2 := hR2.but (ButT.set hTX 2 (.slice (some ⟨g, 0, none⟩) (r.ts.length + 1) m9)) (by decide) (by decide) (by decide) (by decide)
             have hY2 := hYX.far (c := b5) (i := 2) (.slice (some ⟨g, 0, none⟩) (r.ts.length + 1) m9) h5
             have hL2 := hLX.setCell (p := ⟨b5, 2, none⟩) (Nat.le_of_lt hbv) (.slice (some ⟨g, 0, none⟩) (r.ts.length + 1) m9)
             obtain ⟨_, _, _, _, _, _⟩ := hTX.three
             clear hbt hg hown ha1 hLV hD a9 b9 c9 d9 e9 f9 hbu hbs hl9 hT hY hL
             go_wp2_with fail
             go_roundw
             case rel => exact ⟨3, 0, i + 1, n + 1, i + 1, _, _, _, _, rfl, by go_num, by go_num, by go_num, by go_num, by omega, by omega, hT2, hR2, hY2, hL2, hF2⟩
             case measure => simp [RowKit.intOf]; omega
      · have hdl : d < (fieldsv k).length := by have := hF.dle; omega
        have hd18 : d < 18 := by have := fields_leR k; omega
        have z1 : ((d : Int) == ((fieldsv k).length : Nat)) = false := beq_eq_false_iff_ne.2 (by omega)
        have p0 : (0 : Int) ≤ d := by omega
        have p1 : (d : Int) < (fieldsv k).length := by omega
        clear hfm hfat
        go_wp2_with fail
        ((with_reducible refine (r10fields_b k _).mono ?_); rintro e w3 ⟨vf, rfl, ⟨pf, cf, rfl, hfm, hfat⟩, hb⟩)
        replace hT := hT.below hb
        replace hY := hY.below hb
        replace hR := hR.below hb
        replace hL := below_call hL hb
        clear hb
        obtain ⟨g0, o0, rfl, hx0⟩ := hfat (by omega)
        have hfc := hx0 d hdl
        have hfk : (fieldsv k)[d]'hdl ∈ fieldsv k := List.getElem_mem hdl
        have hfno := hid (fun h => hF.field_no hi' ha hno he hdl h)
        have hfyes := hid (fun x v h1 h2 => hF.field hi' ha hno he hdl (x := x) (v := v) h1 h2)
        have hfne := hF.ne hdl
        have hfew := hF.few (by omega) hs32
        obtain ⟨f, hfe⟩ : ∃ f, (fieldsv k)[d]'hdl = f := ⟨_, rfl⟩
        rw [hfe] at hfc hfk hfno hfyes
        rw [← hTl] at hfno hfyes
        have hfz : f.size ≤ 10 := by rw [← rt_size, ← Lib.toList_data]; exact (fields_short hfk).1
        clear hfe hx0 hfm hfat hF he
        obtain ⟨fa, hfa⟩ : ∃ y, y = ByteArray.mk #[32] ++ f := ⟨_, rfl⟩
        obtain ⟨st9, hst9⟩ : ∃ y, y = fa ++ ByteArray.mk #[32] := ⟨_, rfl⟩
        have hfas : fa.size ≤ 1 + 10 := rt_cats hfa (show (ByteArray.mk #[32]).size ≤ 1 from Nat.le_refl _) hfz
        have hsts : st9.size ≤ 1 + 10 + 1 := rt_cats hst9 hfas (show (ByteArray.mk #[32]).size ≤ 1 from Nat.le_refl _)
        have hstd : st9.data.toList = 32 :: (f.toList ++ [32]) := by
         rw [hst9, hfa, Lib.toList_data]
         simp
        have r1 := rt_cat (P := Tryz.prog) hfa (by show 1 + _ ≤ _; omega)
        have r2 := rt_cat (P := Tryz.prog) hst9 (by show _ + 1 ≤ _; omega)
        replace hstd := hid hstd
        clear hst9 hfa
        go_upto_region 25 with fail
        clear r1 r2 hfc
        by_cases hlen : T.size < st9.size
        · have z3 : decide ((T.size : Int) < st9.size) = true := decide_eq_true (by omega)
          have hp := hid (parse_badR hs32 (hfno.out (.inl (strip_shortR hstd.out hlen))))
          clear hfyes hfno hT hR
          obtain ⟨_, _, _, _, _, _⟩ := hY.three
          go_wp2_with fail
          refine bodyPost_ret (results_agg_triR rfl rfl rfl rfl Tryz.isAgg31 Tryz.sizeOf31 (((hY.set 0 _).set 1 _).set 2 _) rfl) rfl ?_
          exact ⟨_, _, _, by rw [hp.out]; rfl, by rw [hp.out]; exact zero_rules _, (((hL.setCell (p := ⟨W.heap.size, 0, none⟩) (Nat.le_refl _) _).setCell (p := ⟨W.heap.size, 1, none⟩) (Nat.le_refl _) _).setCell (p := ⟨W.heap.size, 2, none⟩) (Nat.le_refl _) _)⟩
        have z3 : decide ((T.size : Int) < st9.size) = false := decide_eq_false (by omega)
        have s0 : (0 : Int) ≤ st9.size := by omega
        have s1 : (st9.size : Int) ≤ T.size := by omega
        by_cases hpre : T.extract 0 st9.size = st9
        rotate_left
        · have q2 : ¬ (T.extract 0 st9.size).toList = st9.toList := fun q => hpre (by rw [← list_toB (T.extract 0 st9.size), q, list_toB])
          have q1 : ((T.extract 0 st9.size).toList == st9.toList) = false := beq_eq_false_iff_ne.2 q2
          have q3 : ((T.extract 0 st9.size).toList != st9.toList) = true := bne_iff_ne.2 q2
          have hp := hid (parse_badR hs32 (hfno.out (.inl (strip_notR hstd.out hpre))))
          clear hfyes hfno hT hR
          obtain ⟨_, _, _, _, _, _⟩ := hY.three
          go_wp2_with fail
          refine bodyPost_ret (results_agg_triR rfl rfl rfl rfl Tryz.isAgg31 Tryz.sizeOf31 (((hY.set 0 _).set 1 _).set 2 _) rfl) rfl ?_
          exact ⟨_, _, _, by rw [hp.out]; rfl, by rw [hp.out]; exact zero_rules _, (((hL.setCell (p := ⟨W.heap.size, 0, none⟩) (Nat.le_refl _) _).setCell (p := ⟨W.heap.size, 1, none⟩) (Nat.le_refl _) _).setCell (p := ⟨W.heap.size, 2, none⟩) (Nat.le_refl _) _)⟩
        have q1 : ((T.extract 0 st9.size).toList == st9.toList) = true := by rw [hpre]; exact beq_self_eq_true _
        have q3 : ((T.extract 0 st9.size).toList != st9.toList) = false := by rw [hpre]; exact bne_self_eq_false _
        have hstrip := hid (strip_yesR hstd.out hpre (by omega))
        have hrs : (T.extract st9.size T.size).size ≤ 50000 := by rw [ByteArray.size_extract]; omega
        obtain ⟨tf, htf⟩ : ∃ tf, Hid (tf = typev k f) := ⟨_, hid rfl⟩
        have hty := hid (type_in hfk)
        go_upto_region 27 with fail
        clear q1 q3 hpre z3
        have hmx : Tryz.prog.follows .mixedOrders = true := by kernel_rfl
        go_cut [17, 18] from 110 to 120 (fun s17 s18 wy => ∃ h b v ps cs9, s17 = .pointer (some ⟨h, 0, none⟩) ∧ s18 = .bool b ∧ w3.heap.size ≤ h ∧ Blk wy h [.int .i64 v.n, .bool v.b, .string v.s, .slice ps v.l.length cs9] 72 ∧ SB wy (.slice ps v.l.length cs9) v.l ∧ (b = true → readv (typev k f) (T.extract st9.size T.size).data.toList = some v) ∧ (b = false → readv (typev k f) (T.extract st9.size T.size).data.toList = none) ∧ Below w3.heap.size w3 wy)
        case first =>
         refine wp_region_held (S := fun w' => Below w3.heap.size w3 w') hmx ?_
         show wpAnyH _ _ _ _ _ _ _ _ w3.drew
         have hS0 := (Below.refl w3.heap.size w3).drew
         refine reg_tk (i := 0) (v := .int .i64 k) (some 111) rfl (fun w' hS => by skip; go_simp) hS0 ?_
         simp only [Act.put, List.setIfInBounds_toArray, List.set_cons_zero, List.set_cons_succ]
         refine reg_tk (i := 1) (v := .string f) (some 112) rfl (fun w' hS => by skip; go_simp) hS0 ?_
         simp only [Act.put, List.setIfInBounds_toArray, List.set_cons_zero, List.set_cons_succ]
         refine reg_tk (i := 3) (v := .string T) (some 114) rfl (fun w' hS => by skip; go_simp) hS0 ?_
         simp only [Act.put, List.setIfInBounds_toArray, List.set_cons_zero, List.set_cons_succ]
         refine reg_tk (i := 4) (v := .string st9) (some 115) rfl (fun w' hS => by skip; go_simp) hS0 ?_
         simp only [Act.put, List.setIfInBounds_toArray, List.set_cons_zero, List.set_cons_succ]
         refine reg_tk (i := 5) (v := .int .i64 st9.size) (some 116) rfl (fun w' hS => by skip; go_simp) hS0 ?_
         simp only [Act.put, List.setIfInBounds_toArray, List.set_cons_zero, List.set_cons_succ]
         refine reg_tk (i := 6) (v := .string (T.extract st9.size T.size)) (some 117) rfl (fun w' hS => by skip; go_simp) hS0 ?_
         simp only [Act.put, List.setIfInBounds_toArray, List.set_cons_zero, List.set_cons_succ]
         refine held_two (i := 2) (k := 11) (by kernel_rfl) rfl rfl (fun K hQ => ?_) (fun K hQ => ?_)
         · refine (if_pos (show Region.wanted _ _ = true from rfl)).mpr ?_
           go_simp
           (with_reducible refine (r10type_b k f tf _ htf).mono ?_)
           rintro e wt ⟨rfl, hbt⟩
           have hS1 := below_call hS0 hbt
           refine hQ.out _ _ hS1 ?_
           clear hQ
           try simp only [Act.put, List.setIfInBounds_toArray, List.set_cons_zero, List.set_cons_succ]
           refine held_two (i := 7) (k := 11) (by kernel_rfl) rfl rfl (fun K hQ => ?_) (fun K hQ => ?_)
           · refine (if_pos (show Region.wanted _ _ = true from rfl)).mpr ?_
             go_simp
             (with_reducible refine (r10read_b tf (T.extract st9.size T.size) _ hrs).mono ?_)
             rintro e wr2 ⟨vs, v, b, rfl, ⟨sl, rfl, hsb⟩, hy1, hy0, hbr⟩
             obtain ⟨ps, cs9, rfl, hsm, -⟩ := id hsb
             rw [htf.out] at hy1 hy0
             have hS2 := below_call hS1 hbr
             refine hQ.out _ _ hS2 ?_
             clear hQ
             try simp only [Act.put, List.setIfInBounds_toArray, List.set_cons_zero, List.set_cons_succ]
             refine reg_tk (i := 8) (v := .tuple #[.agg ([.int .i64 v.n, .bool v.b, .string v.s, .slice ps v.l.length cs9] : List Value).toArray, .bool b]) (some 110) rfl (fun w' hS => by skip; go_simp) hS2 ?_
             simp only [Act.put, List.setIfInBounds_toArray, List.set_cons_zero, List.set_cons_succ]
             refine reg_tk (i := 9) (v := .agg ([.int .i64 v.n, .bool v.b, .string v.s, .slice ps v.l.length cs9] : List Value).toArray) (some 119) rfl (fun w' hS => by skip; go_simp) hS2 ?_
             simp only [Act.put, List.setIfInBounds_toArray, List.set_cons_zero, List.set_cons_succ]
             refine reg_tk (i := 10) (v := .bool b) (some 120) rfl (fun w' hS => by skip; go_simp) hS2 ?_
             simp only [Act.put, List.setIfInBounds_toArray, List.set_cons_zero, List.set_cons_succ]
             refine held_one (i := 11) (by kernel_rfl) rfl (fun K hQ => ?_)
             refine (if_pos (show Region.wanted _ _ = true from rfl)).mpr ?_
             refine wp_alloc_agg (some 17) 72 rfl rfl [.int .i64 0, .bool false, .string ⟨#[]⟩, .slice none 0 0] zeroV10R ?_
             have hbA := (Below.refl wr2.heap.size wr2).alloc (Nat.le_refl _) (.cells ([.int .i64 0, .bool false, .string ⟨#[]⟩, .slice none 0 0] : List Value).toArray 72)
             have hZ := Blk.new wr2 [.int .i64 0, .bool false, .string ⟨#[]⟩, .slice none 0 0] 72
             have hhz := hS2.size
             have hSz := below_call hS2 hbA
             replace hsb := hsb.below hbA
             refine hQ.out _ _ hSz ?_
             clear hQ
             try simp only [Act.put, List.setIfInBounds_toArray, List.set_cons_zero, List.set_cons_succ]
             generalize wr2.alloc (.cells ([.int .i64 0, .bool false, .string ⟨#[]⟩, .slice none 0 0] : List Value).toArray 72) = wz at *
             generalize wr2.heap.size = hz at *
             obtain ⟨_, _, _, _, _, _, _, _⟩ := hZ.four
             refine held_one (i := 12) (by kernel_rfl) rfl (fun K hQ => ?_)
             go_simp
             have hZ2 := (((hZ.set 0 (.int .i64 v.n)).set 1 (.bool v.b)).set 2 (.string v.s)).set 3 (.slice ps v.l.length cs9)
             simp only [List.set_cons_zero, List.set_cons_succ] at hZ2
             have hS9 := (((hSz.setCell (p := ⟨hz, 0, none⟩) hhz (.int .i64 v.n)).setCell (p := ⟨hz, 1, none⟩) hhz (.bool v.b)).setCell (p := ⟨hz, 2, none⟩) hhz (.string v.s)).setCell (p := ⟨hz, 3, none⟩) hhz (.slice ps v.l.length cs9)
             have hsb2 := (ButT.set (((hZ.set 0 (.int .i64 v.n)).set 1 (.bool v.b)).set 2 (.string v.s)) 3 (.slice ps v.l.length cs9)).sb ((ButT.set ((hZ.set 0 (.int .i64 v.n)).set 1 (.bool v.b)) 2 (.string v.s)).sb ((ButT.set (hZ.set 0 (.int .i64 v.n)) 1 (.bool v.b)).sb ((ButT.set hZ 0 (.int .i64 v.n)).sb hsb (by decide)) (by decide)) (by decide)) (by decide)
             refine hQ.out _ _ hS9 ?_
             clear hQ
             try simp only [Act.put, List.setIfInBounds_toArray, List.set_cons_zero, List.set_cons_succ]
             refine reg_tk (i := 13) (v := .bool b) (some 18) rfl (fun w' hS => by skip; go_simp) hS9 ?_
             simp only [Act.put, List.setIfInBounds_toArray, List.set_cons_zero, List.set_cons_succ]
             refine wpAnyH_done (by kernel_rfl) ?_ _
             try show Exit.then _ _ Exit.normal _ _
             go_wp2_with fail
             go_meet
             case rel => exact ⟨hz, b, v, ps, cs9, rfl, rfl, hhz, hZ2, hsb2, hy1, hy0, hS9⟩
           · refine (if_pos (show Region.wanted _ _ = true from rfl)).mpr ?_
             refine wp_alloc_agg (some 17) 72 rfl rfl [.int .i64 0, .bool false, .string ⟨#[]⟩, .slice none 0 0] zeroV10R ?_
             have hbA := (Below.refl wt.heap.size wt).alloc (Nat.le_refl _) (.cells ([.int .i64 0, .bool false, .string ⟨#[]⟩, .slice none 0 0] : List Value).toArray 72)
             have hZ := Blk.new wt [.int .i64 0, .bool false, .string ⟨#[]⟩, .slice none 0 0] 72
             have hhz := hS1.size
             have hSz := below_call hS1 hbA
             refine hQ.out _ _ hSz ?_
             clear hQ
             try simp only [Act.put, List.setIfInBounds_toArray, List.set_cons_zero, List.set_cons_succ]
             generalize wt.alloc (.cells ([.int .i64 0, .bool false, .string ⟨#[]⟩, .slice none 0 0] : List Value).toArray 72) = wz at *
             generalize wt.heap.size = hz at *
             refine held_one (i := 7) (by kernel_rfl) rfl (fun K hQ => ?_)
             go_simp
             (with_reducible refine (r10read_b tf (T.extract st9.size T.size) _ hrs).mono ?_)
             rintro e wr2 ⟨vs, v, b, rfl, ⟨sl, rfl, hsb⟩, hy1, hy0, hbr⟩
             obtain ⟨ps, cs9, rfl, hsm, -⟩ := id hsb
             rw [htf.out] at hy1 hy0
             replace hSz := below_call hSz hbr
             replace hZ := hZ.below hbr
             refine hQ.out _ _ hSz ?_
             clear hQ
             try simp only [Act.put, List.setIfInBounds_toArray, List.set_cons_zero, List.set_cons_succ]
             refine reg_tk (i := 8) (v := .tuple #[.agg ([.int .i64 v.n, .bool v.b, .string v.s, .slice ps v.l.length cs9] : List Value).toArray, .bool b]) (some 110) rfl (fun w' hS => by skip; go_simp) hSz ?_
             simp only [Act.put, List.setIfInBounds_toArray, List.set_cons_zero, List.set_cons_succ]
             refine reg_tk (i := 9) (v := .agg ([.int .i64 v.n, .bool v.b, .string v.s, .slice ps v.l.length cs9] : List Value).toArray) (some 119) rfl (fun w' hS => by skip; go_simp) hSz ?_
             simp only [Act.put, List.setIfInBounds_toArray, List.set_cons_zero, List.set_cons_succ]
             refine reg_tk (i := 10) (v := .bool b) (some 120) rfl (fun w' hS => by skip; go_simp) hSz ?_
             simp only [Act.put, List.setIfInBounds_toArray, List.set_cons_zero, List.set_cons_succ]
             obtain ⟨_, _, _, _, _, _, _, _⟩ := hZ.four
             refine held_one (i := 12) (by kernel_rfl) rfl (fun K hQ => ?_)
             go_simp
             have hZ2 := (((hZ.set 0 (.int .i64 v.n)).set 1 (.bool v.b)).set 2 (.string v.s)).set 3 (.slice ps v.l.length cs9)
             simp only [List.set_cons_zero, List.set_cons_succ] at hZ2
             have hS9 := (((hSz.setCell (p := ⟨hz, 0, none⟩) hhz (.int .i64 v.n)).setCell (p := ⟨hz, 1, none⟩) hhz (.bool v.b)).setCell (p := ⟨hz, 2, none⟩) hhz (.string v.s)).setCell (p := ⟨hz, 3, none⟩) hhz (.slice ps v.l.length cs9)
             have hsb2 := (ButT.set (((hZ.set 0 (.int .i64 v.n)).set 1 (.bool v.b)).set 2 (.string v.s)) 3 (.slice ps v.l.length cs9)).sb ((ButT.set ((hZ.set 0 (.int .i64 v.n)).set 1 (.bool v.b)) 2 (.string v.s)).sb ((ButT.set (hZ.set 0 (.int .i64 v.n)) 1 (.bool v.b)).sb ((ButT.set hZ 0 (.int .i64 v.n)).sb hsb (by decide)) (by decide)) (by decide)) (by decide)
             refine hQ.out _ _ hS9 ?_
             clear hQ
             try simp only [Act.put, List.setIfInBounds_toArray, List.set_cons_zero, List.set_cons_succ]
             refine reg_tk (i := 13) (v := .bool b) (some 18) rfl (fun w' hS => by skip; go_simp) hS9 ?_
             simp only [Act.put, List.setIfInBounds_toArray, List.set_cons_zero, List.set_cons_succ]
             refine wpAnyH_done (by kernel_rfl) ?_ _
             try show Exit.then _ _ Exit.normal _ _
             go_wp2_with fail
             go_meet
             case rel => exact ⟨hz, b, v, ps, cs9, rfl, rfl, hhz, hZ2, hsb2, hy1, hy0, hS9⟩
         · refine (if_pos (show Region.wanted _ _ = true from rfl)).mpr ?_
           refine wp_alloc_agg (some 17) 72 rfl rfl [.int .i64 0, .bool false, .string ⟨#[]⟩, .slice none 0 0] zeroV10R ?_
           have hbA := (Below.refl w3.drew.heap.size w3.drew).alloc (Nat.le_refl _) (.cells ([.int .i64 0, .bool false, .string ⟨#[]⟩, .slice none 0 0] : List Value).toArray 72)
           have hZ := Blk.new w3.drew [.int .i64 0, .bool false, .string ⟨#[]⟩, .slice none 0 0] 72
           have hhz := hS0.size
           have hSz := below_call hS0 hbA
           refine hQ.out _ _ hSz ?_
           clear hQ
           try simp only [Act.put, List.setIfInBounds_toArray, List.set_cons_zero, List.set_cons_succ]
           generalize w3.drew.alloc (.cells ([.int .i64 0, .bool false, .string ⟨#[]⟩, .slice none 0 0] : List Value).toArray 72) = wz at *
           generalize w3.drew.heap.size = hz at *
           refine held_one (i := 2) (by kernel_rfl) rfl (fun K hQ => ?_)
           go_simp
           (with_reducible refine (r10type_b k f tf _ htf).mono ?_)
           rintro e wt ⟨rfl, hbt⟩
           have hS1 := below_call hSz hbt
           replace hZ := hZ.below hbt
           refine hQ.out _ _ hS1 ?_
           clear hQ
           try simp only [Act.put, List.setIfInBounds_toArray, List.set_cons_zero, List.set_cons_succ]
           refine held_one (i := 7) (by kernel_rfl) rfl (fun K hQ => ?_)
           go_simp
           (with_reducible refine (r10read_b tf (T.extract st9.size T.size) _ hrs).mono ?_)
           rintro e wr2 ⟨vs, v, b, rfl, ⟨sl, rfl, hsb⟩, hy1, hy0, hbr⟩
           obtain ⟨ps, cs9, rfl, hsm, -⟩ := id hsb
           rw [htf.out] at hy1 hy0
           replace hSz := below_call hS1 hbr
           replace hZ := hZ.below hbr
           refine hQ.out _ _ hSz ?_
           clear hQ
           try simp only [Act.put, List.setIfInBounds_toArray, List.set_cons_zero, List.set_cons_succ]
           refine reg_tk (i := 8) (v := .tuple #[.agg ([.int .i64 v.n, .bool v.b, .string v.s, .slice ps v.l.length cs9] : List Value).toArray, .bool b]) (some 110) rfl (fun w' hS => by skip; go_simp) hSz ?_
           simp only [Act.put, List.setIfInBounds_toArray, List.set_cons_zero, List.set_cons_succ]
           refine reg_tk (i := 9) (v := .agg ([.int .i64 v.n, .bool v.b, .string v.s, .slice ps v.l.length cs9] : List Value).toArray) (some 119) rfl (fun w' hS => by skip; go_simp) hSz ?_
           simp only [Act.put, List.setIfInBounds_toArray, List.set_cons_zero, List.set_cons_succ]
           refine reg_tk (i := 10) (v := .bool b) (some 120) rfl (fun w' hS => by skip; go_simp) hSz ?_
           simp only [Act.put, List.setIfInBounds_toArray, List.set_cons_zero, List.set_cons_succ]
           obtain ⟨_, _, _, _, _, _, _, _⟩ := hZ.four
           refine held_one (i := 12) (by kernel_rfl) rfl (fun K hQ => ?_)
           go_simp
           have hZ2 := (((hZ.set 0 (.int .i64 v.n)).set 1 (.bool v.b)).set 2 (.string v.s)).set 3 (.slice ps v.l.length cs9)
           simp only [List.set_cons_zero, List.set_cons_succ] at hZ2
           have hS9 := (((hSz.setCell (p := ⟨hz, 0, none⟩) hhz (.int .i64 v.n)).setCell (p := ⟨hz, 1, none⟩) hhz (.bool v.b)).setCell (p := ⟨hz, 2, none⟩) hhz (.string v.s)).setCell (p := ⟨hz, 3, none⟩) hhz (.slice ps v.l.length cs9)
           have hsb2 := (ButT.set (((hZ.set 0 (.int .i64 v.n)).set 1 (.bool v.b)).set 2 (.string v.s)) 3 (.slice ps v.l.length cs9)).sb ((ButT.set ((hZ.set 0 (.int .i64 v.n)).set 1 (.bool v.b)) 2 (.string v.s)).sb ((ButT.set (hZ.set 0 (.int .i64 v.n)) 1 (.bool v.b)).sb ((ButT.set hZ 0 (.int .i64 v.n)).sb hsb (by decide)) (by decide)) (by decide)) (by decide)
           refine hQ.out _ _ hS9 ?_
           clear hQ
           try simp only [Act.put, List.setIfInBounds_toArray, List.set_cons_zero, List.set_cons_succ]
           refine reg_tk (i := 13) (v := .bool b) (some 18) rfl (fun w' hS => by skip; go_simp) hS9 ?_
           simp only [Act.put, List.setIfInBounds_toArray, List.set_cons_zero, List.set_cons_succ]
           refine wpAnyH_done (by kernel_rfl) ?_ _
           try show Exit.then _ _ Exit.normal _ _
           go_wp2_with fail
           go_meet
           case rel => exact ⟨hz, b, v, ps, cs9, rfl, rfl, hhz, hZ2, hsb2, hy1, hy0, hS9⟩
        case rest =>
         obtain ⟨h, b, v, ps, cs9, rfl, rfl, hh, hV, hsb, hy1, hy0, hb⟩ := hcut
         replace hT := hT.below hb
         replace hY := hY.below hb
         replace hR := hR.below hb
         replace hL := below_call hL hb
         clear hb
         rw [hty.out] at hy1 hy0
         cases b with
         | false =>
          have hp := hid (parse_badR hs32 (hfno.out (.inr ⟨_, hstrip.out, hy0 rfl⟩)))
          clear hfyes hfno hT hR hV hsb hy1 hy0
          obtain ⟨_, _, _, _, _, _⟩ := hY.three
          go_wp2_with fail
          refine bodyPost_ret (results_agg_triR rfl rfl rfl rfl Tryz.isAgg31 Tryz.sizeOf31 (((hY.set 0 _).set 1 _).set 2 _) rfl) rfl ?_
          exact ⟨_, _, _, by rw [hp.out]; rfl, by rw [hp.out]; exact zero_rules _, (((hL.setCell (p := ⟨W.heap.size, 0, none⟩) (Nat.le_refl _) _).setCell (p := ⟨W.heap.size, 1, none⟩) (Nat.le_refl _) _).setCell (p := ⟨W.heap.size, 2, none⟩) (Nat.le_refl _) _)⟩
         | true =>
          have hF3 := hid (show RPF s.data.toList k (d + 1) (i + 1) (n + 1) (setK10 r k (lastK r k) f v) ∧ (10 : UInt8) ∉ (s.data.toList.drop (i + 1)).take (i + 1 - (i + 1)) from ⟨hfyes.out _ v hstrip.out (hy1 rfl), by simp⟩)
          obtain ⟨nm1, nm2, nm3⟩ := names_len r
          have hk3 := kind_of hfk
          clear hfyes hfno hy1 hy0 hno hTl
          rcases hk3 with rfl | rfl | rfl
          · rw [nm1] at hfne
            obtain ⟨_, _, _, _, _, _, cu, cw, ct, e0, e1, e2, a9, b9, c9, d9, e9, f9⟩ := hR
            cases e0
            cases e1
            cases e2
            obtain ⟨i9, hi9e⟩ : ∃ i9, r.us.length = i9 + 1 := ⟨r.us.length - 1, by omega⟩
            have hi9 : i9 < r.us.length := by omega
            have hlk : lastK r 1 = i9 := by unfold lastK; simp; omega
            rw [show setK10 r 1 (lastK r 1) f v = { r with us := r.us.modify i9 (fun u => withUv u f v) } by rw [hlk]; rfl] at hF3
            obtain ⟨g, rfl⟩ := own_g a9 (by omega)
            have hUL := (d9 i9 hi9)
            have hrv := own_rowV a9 (by omega) (fun i h => (d9 i h).ul.len)
            obtain ⟨_, _, q9, -, hc9⟩ := hrv
            injection q9 with q91 _ q92
            subst q91 q92
            obtain ⟨g9, o9, q9, hg9, hi99⟩ := hc9 (by omega)
            injection q9 with q9
            injection q9 with q91 q92
            subst q91 q92
            have hcell := hi99 i9 hi9
            rw [Nat.zero_add] at hcell
            replace hcell := hid hcell
            clear hi99 hc9
            have p0 : (0 : Int) ≤ i9 := by omega
            have p1 : (i9 : Int) < r.us.length := by omega
            have p2 : IntKind.i64.wrap ((r.us.length : Int) - 1) = i9 := by rw [IntKind.wrap_i64]; omega
            have p3 : IntKind.i64.wrap (i9 : Int) = i9 := by rw [IntKind.wrap_i64]; omega
            have hVB : VB wc [.int .i64 v.n, .bool v.b, .string v.s, .slice ps v.l.length cs9] v := ⟨_, rfl, hsb⟩
            clear hi9e
            go_upto_region 32 with fail
            refine wp_region_any hmx (wpAny_of_late (lt := (fun x => x == 18)) (S := fun w' => Below wc.heap.size wc w') _ _ _ _ ?_)
            show wpAnyM _ _ _ _ _ _ _ _ _ wc.drew
            have hS0 := (Below.refl wc.heap.size wc).drew
            refine late_tk (lt := (fun x => x == 18)) (i := 0) (v := .pointer (some ⟨b5, 0, none⟩)) (some 128) rfl (fun w' hS => by skip; go_simp) hS0 ?_
            simp only [Act.put, List.setIfInBounds_toArray, List.set_cons_zero, List.set_cons_succ]
            refine late_tk (lt := (fun x => x == 18)) (i := 1) (v := .slice (some ⟨g, 0, none⟩) r.us.length k0) (some 129) rfl (fun w' hS => by obtain ⟨_, _, _, _, _, _⟩ := (hT.below hS).three; go_simp) hS0 ?_
            simp only [Act.put, List.setIfInBounds_toArray, List.set_cons_zero, List.set_cons_succ]
            refine late_tk (lt := (fun x => x == 18)) (i := 2) (v := .pointer (some ⟨b5, 0, none⟩)) (some 130) rfl (fun w' hS => by skip; go_simp) hS0 ?_
            simp only [Act.put, List.setIfInBounds_toArray, List.set_cons_zero, List.set_cons_succ]
            refine late_tk (lt := (fun x => x == 18)) (i := 3) (v := .slice (some ⟨g, 0, none⟩) r.us.length k0) (some 131) rfl (fun w' hS => by obtain ⟨_, _, _, _, _, _⟩ := (hT.below hS).three; go_simp) hS0 ?_
            simp only [Act.put, List.setIfInBounds_toArray, List.set_cons_zero, List.set_cons_succ]
            refine late_tk (lt := (fun x => x == 18)) (i := 4) (v := .int .i64 r.us.length) (some 132) rfl (fun w' hS => by skip; go_simp) hS0 ?_
            simp only [Act.put, List.setIfInBounds_toArray, List.set_cons_zero, List.set_cons_succ]
            refine late_tk (lt := (fun x => x == 18)) (i := 5) (v := .int .i64 i9) (some 133) rfl (fun w' hS => by skip; go_simp) hS0 ?_
            simp only [Act.put, List.setIfInBounds_toArray, List.set_cons_zero, List.set_cons_succ]
            refine late_tk (lt := (fun x => x == 18)) (i := 6) (v := .pointer (some ⟨b5, 0, none⟩)) (some 134) rfl (fun w' hS => by skip; go_simp) hS0 ?_
            simp only [Act.put, List.setIfInBounds_toArray, List.set_cons_zero, List.set_cons_succ]
            refine late_tk (lt := (fun x => x == 18)) (i := 7) (v := .slice (some ⟨g, 0, none⟩) r.us.length k0) (some 135) rfl (fun w' hS => by obtain ⟨_, _, _, _, _, _⟩ := (hT.below hS).three; go_simp) hS0 ?_
            simp only [Act.put, List.setIfInBounds_toArray, List.set_cons_zero, List.set_cons_succ]
            refine late_tk (lt := (fun x => x == 18)) (i := 8) (v := .pointer (some ⟨b5, 0, none⟩)) (some 136) rfl (fun w' hS => by skip; go_simp) hS0 ?_
            simp only [Act.put, List.setIfInBounds_toArray, List.set_cons_zero, List.set_cons_succ]
            refine late_tk (lt := (fun x => x == 18)) (i := 9) (v := .slice (some ⟨g, 0, none⟩) r.us.length k0) (some 137) rfl (fun w' hS => by obtain ⟨_, _, _, _, _, _⟩ := (hT.below hS).three; go_simp) hS0 ?_
            simp only [Act.put, List.setIfInBounds_toArray, List.set_cons_zero, List.set_cons_succ]
            refine late_tk (lt := (fun x => x == 18)) (i := 10) (v := .int .i64 r.us.length) (some 138) rfl (fun w' hS => by skip; go_simp) hS0 ?_
            simp only [Act.put, List.setIfInBounds_toArray, List.set_cons_zero, List.set_cons_succ]
            refine late_tk (lt := (fun x => x == 18)) (i := 11) (v := .int .i64 i9) (some 139) rfl (fun w' hS => by skip; go_simp) hS0 ?_
            simp only [Act.put, List.setIfInBounds_toArray, List.set_cons_zero, List.set_cons_succ]
            refine late_tk (lt := (fun x => x == 18)) (i := 12) (v := .pointer (some ⟨g, i9 * 19, none⟩)) (some 140) rfl (fun w' hS => by skip; go_simp) hS0 ?_
            simp only [Act.put, List.setIfInBounds_toArray, List.set_cons_zero, List.set_cons_succ]
            refine late_tk (lt := (fun x => x == 18)) (i := 13) (v := .agg (cu i9).toArray) (some 141) rfl (fun w' hS => exec_load_agg 53 _ rfl ⟨g, i9 * 19, none⟩ (by with_unfolding_all rfl) Tryz.isAgg53 Tryz.sizeOf53 (cu i9) ((hcell.out.1.below' hg9 hS).loads hcell.out.2)) hS0 ?_
            simp only [Act.put, List.setIfInBounds_toArray, List.set_cons_zero, List.set_cons_succ]
            refine late_tk (lt := (fun x => x == 18)) (i := 14) (v := .string f) (some 142) rfl (fun w' hS => by skip; go_simp) hS0 ?_
            simp only [Act.put, List.setIfInBounds_toArray, List.set_cons_zero, List.set_cons_succ]
            refine late_tk (lt := (fun x => x == 18)) (i := 15) (v := .agg ([.int .i64 v.n, .bool v.b, .string v.s, .slice ps v.l.length cs9] : List Value).toArray) (some 143) rfl (fun w' hS => exec_load_agg 72 _ rfl ⟨h, 0, none⟩ (by with_unfolding_all rfl) Tryz.isAgg72 Tryz.sizeOf72 [.int .i64 v.n, .bool v.b, .string v.s, .slice ps v.l.length cs9] ((hV.below hS).loads rfl)) hS0 ?_
            simp only [Act.put, List.setIfInBounds_toArray, List.set_cons_zero, List.set_cons_succ]
            refine late_one (i := 16) (by kernel_rfl) rfl (fun K hQ => ?_)
            go_simp
            (with_reducible refine (r10wiU_b (r.us[i9]'hi9) (cu i9) [.int .i64 v.n, .bool v.b, .string v.s, .slice ps v.l.length cs9] v f (strW wc) _ (hUL.strW) (VB.strW hVB) hfk).mono ?_)
            rintro e w5 ⟨vs, rfl, hvs, hb⟩
            have hS1 := below_call hS0 hb
            refine hQ.out _ _ (fun _ => hS1) ?_
            clear hQ
            try simp only [Act.put, List.setIfInBounds_toArray, List.set_cons_zero, List.set_cons_succ]
            refine late_tk (lt := (fun x => x == 18)) (i := 17) (v := .pointer (some ⟨g, i9 * 19, none⟩)) (some 145) rfl (fun w' hS => by skip; go_simp) hS1 ?_
            simp only [Act.put, List.setIfInBounds_toArray, List.set_cons_zero, List.set_cons_succ]
            replace a9 := own_below a9 hS1
            replace b9 := own_below b9 hS1
            replace c9 := own_below c9 hS1
            have d8 := fun j h => (d9 j h).below hS1
            have f8 := fun j h => (f9 j h).below hS1
            replace hT := hT.below hS1
            replace hY := hY.below hS1
            replace hL := below_call hL hS1
            have hv8 : UB w5 vs (withUv (r.us[i9]'hi9) f v) := (UL.ub hvs).below hS1
            have hvl : vs.length = 19 := hv8.ul.len
            have hvo : ∀ v ∈ vs, v.oneCell' = true := hv8.ul.lone
            obtain ⟨cur, hcur, hcl, hgB⟩ := own_blk a9
            have hni := Nat.mul_le_mul_right 19 (show i9 + 1 ≤ r.us.length by omega)
            rw [Nat.succ_mul] at hni
            refine late_go (i := 18) (by kernel_rfl) rfl rfl (fun K hQ => ?_)
            refine wp_store_in 53 (.tmp 145) (.tmp 144) rfl rfl g (i9 * 19) (by with_unfolding_all rfl) Tryz.sizeOf53 vs (by with_unfolding_all rfl) hvl hcur (by omega) hvo ?_
            refine hQ.out _ _ (fun h => by cases h) ?_
            clear hQ
            try simp only [Act.put, List.setIfInBounds_toArray, List.set_cons_zero, List.set_cons_succ]
            refine late_done (by kernel_rfl) ?_ _
            have hR2 := Rwr.putU (F := fun u => withUv u f v) a9 b9 c9 d8 e9 f8 hi9 hv8
            have hL2 := below_putCells (show W.heap.size ≤ g by omega) vs (i9 * 19) hL
            have hT2 := blk_farPut (o := i9 * 19) (vs := vs) hT (blk_ne hT hcur (by decide))
            have hY2 := blk_farPut (o := i9 * 19) (vs := vs) hY (blk_ne hY hcur (by decide))
            generalize putCells w5 g (i9 * 19) vs = X9 at *
            clear hVB hcur hcell hV hsb hS0 hS1 hb a9 b9 c9 d8 f8 d9 e9 f9 hT hY hL
            try show Exit.then _ _ Exit.normal _ _
            go_wp2_with fail
            go_roundw
            case rel => exact ⟨1, d + 1, i + 1, n + 1, i + 1, _, _, _, _, rfl, by go_num, by go_num, by go_num, by go_num, by omega, by omega, hT2, hR2, hY2, hL2, hF3⟩
            case measure => simp [RowKit.intOf]; omega
          · rw [nm2] at hfne
            obtain ⟨_, _, _, _, _, _, cu, cw, ct, e0, e1, e2, a9, b9, c9, d9, e9, f9⟩ := hR
            cases e0
            cases e1
            cases e2
            obtain ⟨i9, hi9e⟩ : ∃ i9, r.ws.length = i9 + 1 := ⟨r.ws.length - 1, by omega⟩
            have hi9 : i9 < r.ws.length := by omega
            have hlk : lastK r 2 = i9 := by unfold lastK; simp; omega
            rw [show setK10 r 2 (lastK r 2) f v = { r with ws := r.ws.modify i9 (fun u => withWv u f v) } by rw [hlk]; rfl] at hF3
            obtain ⟨g, rfl⟩ := own_g b9 (by omega)
            have hUL := (e9 i9 hi9)
            have hrv := own_rowV b9 (by omega) (fun i h => (e9 i h).len)
            obtain ⟨_, _, q9, -, hc9⟩ := hrv
            injection q9 with q91 _ q92
            subst q91 q92
            obtain ⟨g9, o9, q9, hg9, hi99⟩ := hc9 (by omega)
            injection q9 with q9
            injection q9 with q91 q92
            subst q91 q92
            have hcell := hi99 i9 hi9
            rw [Nat.zero_add] at hcell
            replace hcell := hid hcell
            clear hi99 hc9
            have p0 : (0 : Int) ≤ i9 := by omega
            have p1 : (i9 : Int) < r.ws.length := by omega
            have p2 : IntKind.i64.wrap ((r.ws.length : Int) - 1) = i9 := by rw [IntKind.wrap_i64]; omega
            have p3 : IntKind.i64.wrap (i9 : Int) = i9 := by rw [IntKind.wrap_i64]; omega
            have hVB : VB wc [.int .i64 v.n, .bool v.b, .string v.s, .slice ps v.l.length cs9] v := ⟨_, rfl, hsb⟩
            clear hi9e
            go_upto_region 34 with fail
            refine wp_region_any hmx (wpAny_of_late (lt := (fun x => x == 18)) (S := fun w' => Below wc.heap.size wc w') _ _ _ _ ?_)
            show wpAnyM _ _ _ _ _ _ _ _ _ wc.drew
            have hS0 := (Below.refl wc.heap.size wc).drew
            refine late_tk (lt := (fun x => x == 18)) (i := 0) (v := .pointer (some ⟨b5, 1, none⟩)) (some 148) rfl (fun w' hS => by skip; go_simp) hS0 ?_
            simp only [Act.put, List.setIfInBounds_toArray, List.set_cons_zero, List.set_cons_succ]
            refine late_tk (lt := (fun x => x == 18)) (i := 1) (v := .slice (some ⟨g, 0, none⟩) r.ws.length k1) (some 149) rfl (fun w' hS => by obtain ⟨_, _, _, _, _, _⟩ := (hT.below hS).three; go_simp) hS0 ?_
            simp only [Act.put, List.setIfInBounds_toArray, List.set_cons_zero, List.set_cons_succ]
            refine late_tk (lt := (fun x => x == 18)) (i := 2) (v := .pointer (some ⟨b5, 1, none⟩)) (some 150) rfl (fun w' hS => by skip; go_simp) hS0 ?_
            simp only [Act.put, List.setIfInBounds_toArray, List.set_cons_zero, List.set_cons_succ]
            refine late_tk (lt := (fun x => x == 18)) (i := 3) (v := .slice (some ⟨g, 0, none⟩) r.ws.length k1) (some 151) rfl (fun w' hS => by obtain ⟨_, _, _, _, _, _⟩ := (hT.below hS).three; go_simp) hS0 ?_
            simp only [Act.put, List.setIfInBounds_toArray, List.set_cons_zero, List.set_cons_succ]
            refine late_tk (lt := (fun x => x == 18)) (i := 4) (v := .int .i64 r.ws.length) (some 152) rfl (fun w' hS => by skip; go_simp) hS0 ?_
            simp only [Act.put, List.setIfInBounds_toArray, List.set_cons_zero, List.set_cons_succ]
            refine late_tk (lt := (fun x => x == 18)) (i := 5) (v := .int .i64 i9) (some 153) rfl (fun w' hS => by skip; go_simp) hS0 ?_
            simp only [Act.put, List.setIfInBounds_toArray, List.set_cons_zero, List.set_cons_succ]
            refine late_tk (lt := (fun x => x == 18)) (i := 6) (v := .pointer (some ⟨b5, 1, none⟩)) (some 154) rfl (fun w' hS => by skip; go_simp) hS0 ?_
            simp only [Act.put, List.setIfInBounds_toArray, List.set_cons_zero, List.set_cons_succ]
            refine late_tk (lt := (fun x => x == 18)) (i := 7) (v := .slice (some ⟨g, 0, none⟩) r.ws.length k1) (some 155) rfl (fun w' hS => by obtain ⟨_, _, _, _, _, _⟩ := (hT.below hS).three; go_simp) hS0 ?_
            simp only [Act.put, List.setIfInBounds_toArray, List.set_cons_zero, List.set_cons_succ]
            refine late_tk (lt := (fun x => x == 18)) (i := 8) (v := .pointer (some ⟨b5, 1, none⟩)) (some 156) rfl (fun w' hS => by skip; go_simp) hS0 ?_
            simp only [Act.put, List.setIfInBounds_toArray, List.set_cons_zero, List.set_cons_succ]
            refine late_tk (lt := (fun x => x == 18)) (i := 9) (v := .slice (some ⟨g, 0, none⟩) r.ws.length k1) (some 157) rfl (fun w' hS => by obtain ⟨_, _, _, _, _, _⟩ := (hT.below hS).three; go_simp) hS0 ?_
            simp only [Act.put, List.setIfInBounds_toArray, List.set_cons_zero, List.set_cons_succ]
            refine late_tk (lt := (fun x => x == 18)) (i := 10) (v := .int .i64 r.ws.length) (some 158) rfl (fun w' hS => by skip; go_simp) hS0 ?_
            simp only [Act.put, List.setIfInBounds_toArray, List.set_cons_zero, List.set_cons_succ]
            refine late_tk (lt := (fun x => x == 18)) (i := 11) (v := .int .i64 i9) (some 159) rfl (fun w' hS => by skip; go_simp) hS0 ?_
            simp only [Act.put, List.setIfInBounds_toArray, List.set_cons_zero, List.set_cons_succ]
            refine late_tk (lt := (fun x => x == 18)) (i := 12) (v := .pointer (some ⟨g, i9 * 6, none⟩)) (some 160) rfl (fun w' hS => by skip; go_simp) hS0 ?_
            simp only [Act.put, List.setIfInBounds_toArray, List.set_cons_zero, List.set_cons_succ]
            refine late_tk (lt := (fun x => x == 18)) (i := 13) (v := .agg (cw i9).toArray) (some 161) rfl (fun w' hS => exec_load_agg 51 _ rfl ⟨g, i9 * 6, none⟩ (by with_unfolding_all rfl) Tryz.isAgg51 Tryz.sizeOf51 (cw i9) ((hcell.out.1.below' hg9 hS).loads hcell.out.2)) hS0 ?_
            simp only [Act.put, List.setIfInBounds_toArray, List.set_cons_zero, List.set_cons_succ]
            refine late_tk (lt := (fun x => x == 18)) (i := 14) (v := .string f) (some 162) rfl (fun w' hS => by skip; go_simp) hS0 ?_
            simp only [Act.put, List.setIfInBounds_toArray, List.set_cons_zero, List.set_cons_succ]
            refine late_tk (lt := (fun x => x == 18)) (i := 15) (v := .agg ([.int .i64 v.n, .bool v.b, .string v.s, .slice ps v.l.length cs9] : List Value).toArray) (some 163) rfl (fun w' hS => exec_load_agg 72 _ rfl ⟨h, 0, none⟩ (by with_unfolding_all rfl) Tryz.isAgg72 Tryz.sizeOf72 [.int .i64 v.n, .bool v.b, .string v.s, .slice ps v.l.length cs9] ((hV.below hS).loads rfl)) hS0 ?_
            simp only [Act.put, List.setIfInBounds_toArray, List.set_cons_zero, List.set_cons_succ]
            refine late_one (i := 16) (by kernel_rfl) rfl (fun K hQ => ?_)
            go_simp
            (with_reducible refine (r10wiW_b (r.ws[i9]'hi9) (cw i9) [.int .i64 v.n, .bool v.b, .string v.s, .slice ps v.l.length cs9] v f (strW wc) _ hUL (VB.strW hVB) hfk).mono ?_)
            rintro e w5 ⟨vs, rfl, hvs, hb⟩
            have hS1 := below_call hS0 hb
            refine hQ.out _ _ (fun _ => hS1) ?_
            clear hQ
            try simp only [Act.put, List.setIfInBounds_toArray, List.set_cons_zero, List.set_cons_succ]
            refine late_tk (lt := (fun x => x == 18)) (i := 17) (v := .pointer (some ⟨g, i9 * 6, none⟩)) (some 165) rfl (fun w' hS => by skip; go_simp) hS1 ?_
            simp only [Act.put, List.setIfInBounds_toArray, List.set_cons_zero, List.set_cons_succ]
            replace a9 := own_below a9 hS1
            replace b9 := own_below b9 hS1
            replace c9 := own_below c9 hS1
            have d8 := fun j h => (d9 j h).below hS1
            have f8 := fun j h => (f9 j h).below hS1
            replace hT := hT.below hS1
            replace hY := hY.below hS1
            replace hL := below_call hL hS1
            have hv8 : WL vs (withWv (r.ws[i9]'hi9) f v) := hvs
            have hvl : vs.length = 6 := hv8.len
            have hvo : ∀ v ∈ vs, v.oneCell' = true := WL.lone hv8
            obtain ⟨cur, hcur, hcl, hgB⟩ := own_blk b9
            have hni := Nat.mul_le_mul_right 6 (show i9 + 1 ≤ r.ws.length by omega)
            rw [Nat.succ_mul] at hni
            refine late_go (i := 18) (by kernel_rfl) rfl rfl (fun K hQ => ?_)
            refine wp_store_in 51 (.tmp 165) (.tmp 164) rfl rfl g (i9 * 6) (by with_unfolding_all rfl) Tryz.sizeOf51 vs (by with_unfolding_all rfl) hvl hcur (by omega) hvo ?_
            refine hQ.out _ _ (fun h => by cases h) ?_
            clear hQ
            try simp only [Act.put, List.setIfInBounds_toArray, List.set_cons_zero, List.set_cons_succ]
            refine late_done (by kernel_rfl) ?_ _
            have hR2 := Rwr.putW (F := fun u => withWv u f v) a9 b9 c9 d8 e9 f8 hi9 hv8
            have hL2 := below_putCells (show W.heap.size ≤ g by omega) vs (i9 * 6) hL
            have hT2 := blk_farPut (o := i9 * 6) (vs := vs) hT (blk_ne hT hcur (by decide))
            have hY2 := blk_farPut (o := i9 * 6) (vs := vs) hY (blk_ne hY hcur (by decide))
            generalize putCells w5 g (i9 * 6) vs = X9 at *
            clear hVB hcur hcell hV hsb hS0 hS1 hb a9 b9 c9 d8 f8 d9 e9 f9 hT hY hL
            try show Exit.then _ _ Exit.normal _ _
            go_wp2_with fail
            go_roundw
            case rel => exact ⟨2, d + 1, i + 1, n + 1, i + 1, _, _, _, _, rfl, by go_num, by go_num, by go_num, by go_num, by omega, by omega, hT2, hR2, hY2, hL2, hF3⟩
            case measure => simp [RowKit.intOf]; omega
          · rw [nm3] at hfne
            obtain ⟨_, _, _, _, _, _, cu, cw, ct, e0, e1, e2, a9, b9, c9, d9, e9, f9⟩ := hR
            cases e0
            cases e1
            cases e2
            obtain ⟨i9, hi9e⟩ : ∃ i9, r.ts.length = i9 + 1 := ⟨r.ts.length - 1, by omega⟩
            have hi9 : i9 < r.ts.length := by omega
            have hlk : lastK r 3 = i9 := by unfold lastK; simp; omega
            rw [show setK10 r 3 (lastK r 3) f v = { r with ts := r.ts.modify i9 (fun u => withTv u f v) } by rw [hlk]; rfl] at hF3
            obtain ⟨g, rfl⟩ := own_g c9 (by omega)
            have hUL := (f9 i9 hi9)
            have hrv := own_rowV c9 (by omega) (fun i h => (f9 i h).tl.len)
            obtain ⟨_, _, q9, -, hc9⟩ := hrv
            injection q9 with q91 _ q92
            subst q91 q92
            obtain ⟨g9, o9, q9, hg9, hi99⟩ := hc9 (by omega)
            injection q9 with q9
            injection q9 with q91 q92
            subst q91 q92
            have hcell := hi99 i9 hi9
            rw [Nat.zero_add] at hcell
            replace hcell := hid hcell
            clear hi99 hc9
            have p0 : (0 : Int) ≤ i9 := by omega
            have p1 : (i9 : Int) < r.ts.length := by omega
            have p2 : IntKind.i64.wrap ((r.ts.length : Int) - 1) = i9 := by rw [IntKind.wrap_i64]; omega
            have p3 : IntKind.i64.wrap (i9 : Int) = i9 := by rw [IntKind.wrap_i64]; omega
            have hVB : VB wc [.int .i64 v.n, .bool v.b, .string v.s, .slice ps v.l.length cs9] v := ⟨_, rfl, hsb⟩
            clear hi9e
            go_upto_region 36 with fail
            refine wp_region_any hmx (wpAny_of_late (lt := (fun x => x == 18)) (S := fun w' => Below wc.heap.size wc w') _ _ _ _ ?_)
            show wpAnyM _ _ _ _ _ _ _ _ _ wc.drew
            have hS0 := (Below.refl wc.heap.size wc).drew
            refine late_tk (lt := (fun x => x == 18)) (i := 0) (v := .pointer (some ⟨b5, 2, none⟩)) (some 168) rfl (fun w' hS => by skip; go_simp) hS0 ?_
            simp only [Act.put, List.setIfInBounds_toArray, List.set_cons_zero, List.set_cons_succ]
            refine late_tk (lt := (fun x => x == 18)) (i := 1) (v := .slice (some ⟨g, 0, none⟩) r.ts.length k2) (some 169) rfl (fun w' hS => by obtain ⟨_, _, _, _, _, _⟩ := (hT.below hS).three; go_simp) hS0 ?_
            simp only [Act.put, List.setIfInBounds_toArray, List.set_cons_zero, List.set_cons_succ]
            refine late_tk (lt := (fun x => x == 18)) (i := 2) (v := .pointer (some ⟨b5, 2, none⟩)) (some 170) rfl (fun w' hS => by skip; go_simp) hS0 ?_
            simp only [Act.put, List.setIfInBounds_toArray, List.set_cons_zero, List.set_cons_succ]
            refine late_tk (lt := (fun x => x == 18)) (i := 3) (v := .slice (some ⟨g, 0, none⟩) r.ts.length k2) (some 171) rfl (fun w' hS => by obtain ⟨_, _, _, _, _, _⟩ := (hT.below hS).three; go_simp) hS0 ?_
            simp only [Act.put, List.setIfInBounds_toArray, List.set_cons_zero, List.set_cons_succ]
            refine late_tk (lt := (fun x => x == 18)) (i := 4) (v := .int .i64 r.ts.length) (some 172) rfl (fun w' hS => by skip; go_simp) hS0 ?_
            simp only [Act.put, List.setIfInBounds_toArray, List.set_cons_zero, List.set_cons_succ]
            refine late_tk (lt := (fun x => x == 18)) (i := 5) (v := .int .i64 i9) (some 173) rfl (fun w' hS => by skip; go_simp) hS0 ?_
            simp only [Act.put, List.setIfInBounds_toArray, List.set_cons_zero, List.set_cons_succ]
            refine late_tk (lt := (fun x => x == 18)) (i := 6) (v := .pointer (some ⟨b5, 2, none⟩)) (some 174) rfl (fun w' hS => by skip; go_simp) hS0 ?_
            simp only [Act.put, List.setIfInBounds_toArray, List.set_cons_zero, List.set_cons_succ]
            refine late_tk (lt := (fun x => x == 18)) (i := 7) (v := .slice (some ⟨g, 0, none⟩) r.ts.length k2) (some 175) rfl (fun w' hS => by obtain ⟨_, _, _, _, _, _⟩ := (hT.below hS).three; go_simp) hS0 ?_
            simp only [Act.put, List.setIfInBounds_toArray, List.set_cons_zero, List.set_cons_succ]
            refine late_tk (lt := (fun x => x == 18)) (i := 8) (v := .pointer (some ⟨b5, 2, none⟩)) (some 176) rfl (fun w' hS => by skip; go_simp) hS0 ?_
            simp only [Act.put, List.setIfInBounds_toArray, List.set_cons_zero, List.set_cons_succ]
            refine late_tk (lt := (fun x => x == 18)) (i := 9) (v := .slice (some ⟨g, 0, none⟩) r.ts.length k2) (some 177) rfl (fun w' hS => by obtain ⟨_, _, _, _, _, _⟩ := (hT.below hS).three; go_simp) hS0 ?_
            simp only [Act.put, List.setIfInBounds_toArray, List.set_cons_zero, List.set_cons_succ]
            refine late_tk (lt := (fun x => x == 18)) (i := 10) (v := .int .i64 r.ts.length) (some 178) rfl (fun w' hS => by skip; go_simp) hS0 ?_
            simp only [Act.put, List.setIfInBounds_toArray, List.set_cons_zero, List.set_cons_succ]
            refine late_tk (lt := (fun x => x == 18)) (i := 11) (v := .int .i64 i9) (some 179) rfl (fun w' hS => by skip; go_simp) hS0 ?_
            simp only [Act.put, List.setIfInBounds_toArray, List.set_cons_zero, List.set_cons_succ]
            refine late_tk (lt := (fun x => x == 18)) (i := 12) (v := .pointer (some ⟨g, i9 * 8, none⟩)) (some 180) rfl (fun w' hS => by skip; go_simp) hS0 ?_
            simp only [Act.put, List.setIfInBounds_toArray, List.set_cons_zero, List.set_cons_succ]
            refine late_tk (lt := (fun x => x == 18)) (i := 13) (v := .agg (ct i9).toArray) (some 181) rfl (fun w' hS => exec_load_agg 56 _ rfl ⟨g, i9 * 8, none⟩ (by with_unfolding_all rfl) Tryz.isAgg56 Tryz.sizeOf56 (ct i9) ((hcell.out.1.below' hg9 hS).loads hcell.out.2)) hS0 ?_
            simp only [Act.put, List.setIfInBounds_toArray, List.set_cons_zero, List.set_cons_succ]
            refine late_tk (lt := (fun x => x == 18)) (i := 14) (v := .string f) (some 182) rfl (fun w' hS => by skip; go_simp) hS0 ?_
            simp only [Act.put, List.setIfInBounds_toArray, List.set_cons_zero, List.set_cons_succ]
            refine late_tk (lt := (fun x => x == 18)) (i := 15) (v := .agg ([.int .i64 v.n, .bool v.b, .string v.s, .slice ps v.l.length cs9] : List Value).toArray) (some 183) rfl (fun w' hS => exec_load_agg 72 _ rfl ⟨h, 0, none⟩ (by with_unfolding_all rfl) Tryz.isAgg72 Tryz.sizeOf72 [.int .i64 v.n, .bool v.b, .string v.s, .slice ps v.l.length cs9] ((hV.below hS).loads rfl)) hS0 ?_
            simp only [Act.put, List.setIfInBounds_toArray, List.set_cons_zero, List.set_cons_succ]
            refine late_one (i := 16) (by kernel_rfl) rfl (fun K hQ => ?_)
            go_simp
            (with_reducible refine (r10wiT_b (r.ts[i9]'hi9) (ct i9) [.int .i64 v.n, .bool v.b, .string v.s, .slice ps v.l.length cs9] v f (strW wc) _ (hUL.strW) (VB.strW hVB) hfk).mono ?_)
            rintro e w5 ⟨vs, rfl, hvs, hb⟩
            have hS1 := below_call hS0 hb
            refine hQ.out _ _ (fun _ => hS1) ?_
            clear hQ
            try simp only [Act.put, List.setIfInBounds_toArray, List.set_cons_zero, List.set_cons_succ]
            refine late_tk (lt := (fun x => x == 18)) (i := 17) (v := .pointer (some ⟨g, i9 * 8, none⟩)) (some 185) rfl (fun w' hS => by skip; go_simp) hS1 ?_
            simp only [Act.put, List.setIfInBounds_toArray, List.set_cons_zero, List.set_cons_succ]
            replace a9 := own_below a9 hS1
            replace b9 := own_below b9 hS1
            replace c9 := own_below c9 hS1
            have d8 := fun j h => (d9 j h).below hS1
            have f8 := fun j h => (f9 j h).below hS1
            replace hT := hT.below hS1
            replace hY := hY.below hS1
            replace hL := below_call hL hS1
            have hv8 : TB w5 vs (withTv (r.ts[i9]'hi9) f v) := (TL.tb hvs).below hS1
            have hvl : vs.length = 8 := hv8.tl.len
            have hvo : ∀ v ∈ vs, v.oneCell' = true := hv8.tl.lone
            obtain ⟨cur, hcur, hcl, hgB⟩ := own_blk c9
            have hni := Nat.mul_le_mul_right 8 (show i9 + 1 ≤ r.ts.length by omega)
            rw [Nat.succ_mul] at hni
            refine late_go (i := 18) (by kernel_rfl) rfl rfl (fun K hQ => ?_)
            refine wp_store_in 56 (.tmp 185) (.tmp 184) rfl rfl g (i9 * 8) (by with_unfolding_all rfl) Tryz.sizeOf56 vs (by with_unfolding_all rfl) hvl hcur (by omega) hvo ?_
            refine hQ.out _ _ (fun h => by cases h) ?_
            clear hQ
            try simp only [Act.put, List.setIfInBounds_toArray, List.set_cons_zero, List.set_cons_succ]
            refine late_done (by kernel_rfl) ?_ _
            have hR2 := Rwr.putT (F := fun u => withTv u f v) a9 b9 c9 d8 e9 f8 hi9 hv8
            have hL2 := below_putCells (show W.heap.size ≤ g by omega) vs (i9 * 8) hL
            have hT2 := blk_farPut (o := i9 * 8) (vs := vs) hT (blk_ne hT hcur (by decide))
            have hY2 := blk_farPut (o := i9 * 8) (vs := vs) hY (blk_ne hY hcur (by decide))
            generalize putCells w5 g (i9 * 8) vs = X9 at *
            clear hVB hcur hcell hV hsb hS0 hS1 hb a9 b9 c9 d8 f8 d9 e9 f9 hT hY hL
            try show Exit.then _ _ Exit.normal _ _
            go_wp2_with fail
            go_roundw
            case rel => exact ⟨3, d + 1, i + 1, n + 1, i + 1, _, _, _, _, rfl, by go_num, by go_num, by go_num, by go_num, by omega, by omega, hT2, hR2, hY2, hL2, hF3⟩
            case measure => simp [RowKit.intOf]; omega
    · have hc10 : ((c : Int) != 10) = true := bne_iff_ne.2 (fun q => he (show s[i]'hlt = 10 from UInt8.toNat_inj.1 (by rw [hc]; show c = 10; omega)))
      have hA2 := hid (show RPF s.data.toList k d a n r ∧ (10 : UInt8) ∉ (s.data.toList.drop a).take (i + 1 - a) from ⟨hA.out.1, scan_next hi' ha hA.out.2 he⟩)
      clear hA hc he
      go_wp2_with fail
      go_roundw
      case rel => exact ⟨k, d, a, n, i + 1, _, _, _, r, rfl, by go_num, by go_num, by go_num, by go_num, by omega, by omega, hT, hR, hY, hL, hA2⟩
      case measure => simp [RowKit.intOf]; omega
  · obtain rfl : i = s.size := by omega
    have d1 : ¬ ((s.size : Int) < s.size) := by omega
    have hno := scan_end (by rw [rt_size]; exact hA.out.2)
    have hF := hA.out.1
    clear hA
    by_cases haL : a < s.size
    · have z1 : decide ((a : Int) < s.size) = true := decide_eq_true (by omega)
      have hne : s.data.toList.drop a ≠ [] := fun q => by
       have := congrArg List.length q
       rw [List.length_drop, rt_size, List.length_nil] at this
       omega
      have hp := hid (parse_badR hs32 ((bad_full (p := ⟨k, d, r⟩) (n := n) hno hne).back hF.go hF.tail))
      clear hno hF hT hR
      obtain ⟨_, _, _, _, _, _⟩ := hY.three
      go_wp2_with fail
      refine bodyPost_ret (results_agg_triR rfl rfl rfl rfl Tryz.isAgg31 Tryz.sizeOf31 (((hY.set 0 _).set 1 _).set 2 _) rfl) rfl ?_
      exact ⟨_, _, _, by rw [hp.out]; rfl, by rw [hp.out]; exact zero_rules _, (((hL.setCell (p := ⟨W.heap.size, 0, none⟩) (Nat.le_refl _) _).setCell (p := ⟨W.heap.size, 1, none⟩) (Nat.le_refl _) _).setCell (p := ⟨W.heap.size, 2, none⟩) (Nat.le_refl _) _)⟩
    have z1 : decide ((a : Int) < s.size) = false := decide_eq_false (by omega)
    by_cases hd : d < (fieldsv k).length
    · have z2 : decide ((d : Int) < (fieldsv k).length) = true := decide_eq_true (by omega)
      have hp := hid (parse_badR hs32 ((bad_end (p := ⟨k, d, r⟩) (n := n) hno hd).back hF.go hF.tail))
      clear hno hF
      go_wp2_with fail
      ((with_reducible refine (r10fields_b k _).mono ?_); rintro e w1 ⟨vf, rfl, ⟨pf, cf, rfl, hfm, hfat⟩, hb⟩)
      replace hT := hT.below hb
      replace hY := hY.below hb
      replace hR := hR.below hb
      replace hL := below_call hL hb
      clear hb
      obtain ⟨_, _, _, _, _, _⟩ := hY.three
      go_wp2_with fail
      refine bodyPost_ret (results_agg_triR rfl rfl rfl rfl Tryz.isAgg31 Tryz.sizeOf31 (((hY.set 0 _).set 1 _).set 2 _) rfl) rfl ?_
      exact ⟨_, _, _, by rw [hp.out]; rfl, by rw [hp.out]; exact zero_rules _, (((hL.setCell (p := ⟨W.heap.size, 0, none⟩) (Nat.le_refl _) _).setCell (p := ⟨W.heap.size, 1, none⟩) (Nat.le_refl _) _).setCell (p := ⟨W.heap.size, 2, none⟩) (Nat.le_refl _) _)⟩
    have z2 : decide ((d : Int) < (fieldsv k).length) = false := decide_eq_false (by omega)
    have h0 : s.data.toList.drop a = [] := List.drop_eq_nil_of_le (by rw [rt_size]; omega)
    have hfin := hid (parse_endR hs32 hF h0 hd)
    have hfew := hF.few (by omega) hs32
    obtain ⟨nv, hnv⟩ : ∃ z, Hid (z = valv r) := ⟨_, hid rfl⟩
    clear hno hF h0
    go_wp2_with fail
    ((with_reducible refine (r10fields_b k _).mono ?_); rintro e w1 ⟨vf, rfl, ⟨pf, cf, rfl, hfm, hfat⟩, hb⟩)
    replace hT := hT.below hb
    replace hY := hY.below hb
    replace hR := hR.below hb
    replace hL := below_call hL hb
    clear hb
    have hRA := hR.rat (by omega) (by omega) (by omega)
    obtain ⟨_, _, _, _, _, _⟩ := hT.three
    go_wp2_with fail
    ((with_reducible refine (r9val_b _ _ _ r nv _ hRA hfew.1 hfew.2.1 hfew.2.2 hnv).mono ?_); rintro e w2 ⟨rfl, hb⟩)
    clear hRA
    replace hT := hT.below hb
    replace hY := hY.below hb
    replace hR := hR.below hb
    replace hL := below_call hL hb
    clear hb
    by_cases hz : nv = 0
    · subst hz
      have hp := hid (show parsev10 s.data.toList = (r, 0, 0) by rw [hfin.out, if_pos hnv.out.symm])
      clear hfin hnv
      obtain ⟨_, _, _, _, _, _⟩ := hT.three
      obtain ⟨_, _, _, _, _, _⟩ := hY.three
      go_wp2_with fail
      have hY1 := hY.set 0 (.slice q0 r.us.length k0)
      have hY2 := hY1.set 1 (.slice q1 r.ws.length k1)
      have hY3 := hY2.set 2 (.slice q2 r.ts.length k2)
      simp only [List.set_cons_zero, List.set_cons_succ] at hY1 hY2 hY3
      replace hR := ((hR.but (ButT.set hY 0 (.slice q0 r.us.length k0)) (by decide) (by decide) (by decide) (by decide)).but (ButT.set hY1 1 (.slice q1 r.ws.length k1)) (by decide) (by decide) (by decide) (by decide)).but (ButT.set hY2 2 (.slice q2 r.ts.length k2)) (by decide) (by decide) (by decide) (by decide)
      have hRA := hR.rat (by omega) (by omega) (by omega)
      refine bodyPost_ret (results_agg_triR rfl rfl rfl rfl Tryz.isAgg31 Tryz.sizeOf31 hY3 rfl) rfl ?_
      exact ⟨_, _, _, by rw [hp.out]; rfl, by rw [hp.out]; exact hRA, (((hL.setCell (p := ⟨W.heap.size, 0, none⟩) (Nat.le_refl _) _).setCell (p := ⟨W.heap.size, 1, none⟩) (Nat.le_refl _) _).setCell (p := ⟨W.heap.size, 2, none⟩) (Nat.le_refl _) _)⟩
    · have hp := hid (show parsev10 s.data.toList = (R9.zero, 0, nv) by rw [hfin.out, ← hnv.out, if_neg hz])
      have z3 : (nv != 0) = true := bne_iff_ne.2 hz
      clear hfin hnv
      obtain ⟨_, _, _, _, _, _⟩ := hY.three
      go_wp2_with fail
      refine bodyPost_ret (results_agg_triR rfl rfl rfl rfl Tryz.isAgg31 Tryz.sizeOf31 (((hY.set 0 _).set 1 _).set 2 _) rfl) rfl ?_
      exact ⟨_, _, _, by rw [hp.out]; rfl, by rw [hp.out]; exact zero_rules _, (((hL.setCell (p := ⟨W.heap.size, 0, none⟩) (Nat.le_refl _) _).setCell (p := ⟨W.heap.size, 1, none⟩) (Nat.le_refl _) _).setCell (p := ⟨W.heap.size, 2, none⟩) (Nat.le_refl _) _)⟩
theorem rparse_have : RParseP := fun s R ln er W hs hp => (r10parse_b s W (by omega)).mono fun e w' h => by
 obtain ⟨tu, tw, tt, he, h1, h3⟩ := h
 rw [← Lib.toList_data, ← hp.out] at he h1
 exact ⟨tu, tw, tt, he, h1, h3⟩
end

end Go.Proofs.YtnjcdmjaecgblaaGreatDoor
