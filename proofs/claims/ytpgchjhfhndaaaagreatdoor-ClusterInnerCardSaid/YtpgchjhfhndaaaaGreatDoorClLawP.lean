/-
  The laws of cluster: what their examples come to.
-/
import Derived.Test.YtpgchjhfhndaaaaGreatDoorClRefQ
import Derived.Test.YtpgchjhfhndaaaaGreatDoorAsLawP
import Derived.Test.YtpgchjhfhndaaaaGreatDoorClLandS
namespace Go.Proofs.YtpgchjhfhndaaaaGreatDoor

section
open Go.RowKit Go.Lib

def clM : M3 := ⟨10, 9, List.replicate 90 ⟨1, 0, 0⟩⟩
def clP8 : M3 := ⟨8, 8, List.replicate 64 ⟨1, 0, 0⟩⟩
def clD8 : List Int := (List.range 64).map fun i => if i % 8 < i / 8 then 10 * ((i / 8 : Nat) : Int) + 4 * ((i % 8 : Nat) : Int) else 10 * ((i % 8 : Nat) : Int) + 4 * ((i / 8 : Nat) : Int)
theorem clM_form : formedv clM = true := by decide +kernel
theorem clM_val : validm clM = true := by decide +kernel
theorem clP8_form : formedv clP8 = true := by decide +kernel
theorem clM_high : HighAt clM := fun c hc => by
  obtain ⟨_, rfl⟩ := List.mem_replicate.1 hc
  exact ⟨by decide, by decide⟩
theorem clM_count : (4 : Int) = countv clM := by decide +kernel
theorem clM_of : (1 : Int) = ofv clM (8, 3) := by decide +kernel
theorem clM_ex : exv clM 0 = true ∧ exv clM 1 = true ∧ exv clM 2 = true ∧ exv clM 3 = true := by decide +kernel
theorem clM_area : (areav clM 1).x = 8 ∧ (areav clM 1).y = 0 ∧ (areav clM 1).w = 2 ∧ (areav clM 1).h = 8 := by decide +kernel
theorem clM_right : entrv clM [] 1 0 1 = [((7, 0), (8, 0)), ((7, 7), (8, 7))] := by decide +kernel
theorem clM_below : entrv clM [] 1 0 2 = [((0, 7), (0, 8)), ((7, 7), (7, 8))] := by decide +kernel
theorem clM_corner : entrv clM [] 1 1 3 = [((8, 7), (8, 8))] := by decide +kernel
theorem clM_touch : (touchedv clM [(7, 3)]).length = 2 := by decide +kernel
theorem clM_part : partm clM (arv clM 0) = clP8 := by kernel_rfl
theorem clM_partb : partb clM [] (arv clM 0) = List.replicate 64 false := by decide +kernel
theorem clP8_chk : chkD (nb clP8 (List.replicate 64 false) 1) 64 0 clD8 = true := by decide +kernel
theorem clP8_dist : IsDist (nb clP8 (List.replicate 64 false) 1) 64 0 clD8 := chk_dist (n := 64) (nb_ok clP8_form _ 1) (by decide) clP8_chk
theorem clM_inner : InnerR clM [] 1 0 (0, 0) (3, 1) 34 true := by
  have e0 : nbc clM [] 1 0 = nb clP8 (List.replicate 64 false) 1 := by unfold nbc; rw [clM_part, clM_partb]
  have e1 : cix clM 0 (0, 0) = 0 := by unfold cix; rw [clM_part]; decide +kernel
  have e2 : cix clM 0 (3, 1) = 11 := by unfold cix; rw [clM_part]; decide +kernel
  have e3 : ga clD8 11 = 34 := by decide +kernel
  have hw := clP8_dist.way (q := 11) (by rw [e3]; decide)
  rw [e3] at hw
  refine .yes 34 ⟨clM_ex.1, by decide, by decide +kernel, by decide +kernel, by decide +kernel, ?_⟩ ?_ ?_
  · rw [e0, e1, e2]; exact ⟨34, hw⟩
  · rw [e0, e1, e2]; exact hw
  · rw [e0, e1, e2]
    intro e w
    have := (clP8_dist.least (nb_ok clP8_form _ 1) (by decide) w).2
    rw [e3] at this
    exact this

end

section
open Go.RowKit Go.Lib

set_option maxRecDepth 100000 in
set_option maxHeartbeats 8000000 in
theorem clflat_b (W : World) :
    Calls Tryz.prog 33 #[.int .i64 10, .int .i64 9] W fun e w' => ∃ s, e = .returned (.agg #[.int .i64 10, .int .i64 9, s]) ∧ RowAt w' s clM.cs ∧ Below W.heap.size W w' := by
  obtain ⟨i0, hi0, hz0, hz1, hz2⟩ := info_cut infoCelA
  have hK := ((Keep.nil W).alloc [.int .i64 0, .int .i64 0, .slice none 0 0] 24).alloc [.int .i64 10, .int .i64 9, .slice none 0 0] 24
  simp only [World.size_alloc] at hK
  have hmul : IntKind.i64.wrap ((10 : Int) * 9) = 90 := by decide
  go_enter Tryz.func33, Tryz.ntmps33
  go_upto_region 2 with fail
  generalize (W.alloc (.cells [Value.int .i64 0, .int .i64 0, .slice none 0 0].toArray 24)).alloc (.cells [Value.int .i64 10, .int .i64 9, .slice none 0 0].toArray 24) = V at *
  obtain ⟨hM0, hR0⟩ := hK.two
  have hold := hK.old
  clear hK
  go_wp2_with fail
  go_loopw [6] (fun vi wr => ∃ (i : Nat) (v : Value), vi = .int .i64 i ∧ i ≤ 90 ∧ wr.ownsRow (W.heap.size + 1 + 1) 53 3 v i (fcellsA i) ∧ Blk wr (W.heap.size + 1) [.int .i64 10, .int .i64 9, v] 24 ∧ Blk wr W.heap.size [.int .i64 0, .int .i64 0, .slice none 0 0] 24 ∧ Below W.heap.size W wr) (fun vi _ => 90 - (RowKit.intOf vi).toNat)
  case atStart => exact ⟨0, .slice none 0 0, rfl, by omega, World.ownsRow_nil _ _ _ _, hM0, hR0, hold⟩
  case round =>
    clear hM0 hR0 hold
    obtain ⟨i, v, rfl, hi, hown, hM, hR, hL⟩ := hrel
    obtain ⟨_, _, _, _, _, _⟩ := hM.three
    obtain ⟨_, _, _, _, _, _⟩ := hR.three
    have hMl := hM.lt
    by_cases hlt : i < 90
    · have z1 : decide ((i : Int) < 90) = true := decide_eq_true (by omega)
      have hBs := hM.lt
      have hzz := hL.size
      go_wp2_with (at_builtin; refine wpList_append_own _ rfl _ _ 22 rfl (W.heap.size + 1 + 1) 53 i0 (.agg #[.int .i64 0, .int .i64 0, .int .i64 0]) 3 24 Tryz.underlying22 hi0 hz0 hz1 hz2 rfl (by decide) _ _ _ rfl (hown.alloc _) ⟨wr.heap.size, 0, none⟩ 1 1 [.int .i64 1, .int .i64 0, .int .i64 0] rfl rfl cells_new (ints_loneA 1 0 0) (by unfold maxLen; omega) (by omega) (by simp; omega) ?_)
      intro v' w9 hown' hg' _
      have hM9 := (hM.alloc (.cells [Value.int .i64 1, .int .i64 0, .int .i64 0].toArray 53)).grown hg' (own_not hown (by omega))
      have hR9 := (hR.alloc (.cells [Value.int .i64 1, .int .i64 0, .int .i64 0].toArray 53)).grown hg' (own_not hown (by omega))
      have hL9 := (hL.alloc hL.size (.cells [Value.int .i64 1, .int .i64 0, .int .i64 0].toArray 53)).grown hg' (by simp; omega) (fun j hj => by have := (hown.lt j hj).1; omega)
      have hown9 := own_to hown' (m := i + 1) rfl (fcellsA_next i)
      obtain ⟨g9, c9, rfl⟩ := own_some hown9 (by omega)
      obtain ⟨_, _, _, _, _, _⟩ := hM9.three
      clear hown' hg' hown hM hR hL
      go_wp2_with fail
      go_roundw
      case rel => exact ⟨i + 1, _, by go_num, by omega, own_other hown9 ⟨W.heap.size + 1, 2, none⟩ _ (fun j hj => by have := (hown9.lt j hj).1; show j ≠ W.heap.size + 1; omega), hM9.set 2 _, hR9.far _ (by omega), hL9.setCell (by show W.heap.size ≤ W.heap.size + 1; omega) _⟩
      case measure => simp [RowKit.intOf]; omega
    · obtain rfl : i = 90 := by omega
      have z1 : decide (((90 : Nat) : Int) < 90) = false := by decide
      obtain ⟨g, cap, rfl⟩ := own_some hown (by decide)
      have hgl := (hown.lt g rfl).1
      have hR2 := ((hR.set 0 (.int .i64 10)).set 1 (.int .i64 9)).set 2 (.slice (some ⟨g, 0, none⟩) 90 cap)
      have hown2 := own_other (own_other (own_other hown ⟨W.heap.size, 0, none⟩ (.int .i64 10) (fun j hj => by have := (hown.lt j hj).1; show j ≠ W.heap.size; omega)) ⟨W.heap.size, 1, none⟩ (.int .i64 9) (fun j hj => by have := (hown.lt j hj).1; show j ≠ W.heap.size; omega)) ⟨W.heap.size, 2, none⟩ (.slice (some ⟨g, 0, none⟩) 90 cap) (fun j hj => by have := (hown.lt j hj).1; show j ≠ W.heap.size; omega)
      have hrow2 := RowAt.own (l := clM.cs) (cap := cap) (g := g) hown2 (by unfold maxLen; decide)
      have hL2 := ((hL.setCell (p := ⟨W.heap.size, 0, none⟩) (Nat.le_refl _) (.int .i64 10)).setCell (p := ⟨W.heap.size, 1, none⟩) (Nat.le_refl _) (.int .i64 9)).setCell (p := ⟨W.heap.size, 2, none⟩) (Nat.le_refl _) (.slice (some ⟨g, 0, none⟩) 90 cap)
      go_wp2_with fail
      obtain ⟨_, _, _, -, -, -⟩ := hR2.three
      refine bodyPost_ret (v := .agg #[.int .i64 10, .int .i64 9, .slice (some ⟨g, 0, none⟩) 90 cap]) (by simp [results, Tryz.results33, go_sem, *]) rfl ⟨_, rfl, hrow2, hL2⟩

end

section
open Go.RowKit Go.Lib

set_option maxRecDepth 100000 in
theorem eqin_pairs (a b c d : Int) (w : World) : (Op.equalIn 10000 30 (.agg #[.int .i64 a, .int .i64 b, .int .i64 c, .int .i64 d]) (.agg #[.int .i64 a, .int .i64 b, .int .i64 c, .int .i64 d])).run Tryz.prog w = .ok true w := by
  have hu : Tryz.prog.underlying 30 = some (.array 2 29) := by kernel_rfl
  obtain ⟨i, hi⟩ : ∃ i, Tryz.prog.info? 29 = some i := Option.isSome_iff_exists.1 (by kernel_rfl)
  have hc : Tryz.prog.cellsOf 29 = 2 := by kernel_rfl
  have p1 : ∀ (w : World) (a b c d : Value), (part 29 #[a, b, c, d] (0 * 2)).run Tryz.prog w = .ok (.agg #[a, b]) w := fun w a b c d => by kernel_rfl
  have p2 : ∀ (w : World) (a b c d : Value), (part 29 #[a, b, c, d] (1 * 2)).run Tryz.prog w = .ok (.agg #[c, d]) w := fun w a b c d => by kernel_rfl
  have pe : ∀ (w : World) (a b : Int), (Op.equalIn 9999 29 (.agg #[.int .i64 a, .int .i64 b]) (.agg #[.int .i64 a, .int .i64 b])).run Tryz.prog w = .ok true w := fun w a b => by
    rw [show (9999 : Nat) = 9998 + 1 from rfl]
    go_simp
  rw [show (10000 : Nat) = 9999 + 1 from rfl, run_equalIn_array _ _ _ _ hu hi, hc]
  simp only [List.range, List.range.loop, Op.eqItems, Sem.run_bind, p1, p2, pe, Result.andThen_ok, Bool.not_true, Bool.false_eq_true, if_false, Sem.run_pure]

theorem eql_pairs (a b c d : Int) (w : World) : (binOp .eql 30 (.agg #[.int .i64 a, .int .i64 b, .int .i64 c, .int .i64 d]) (.agg #[.int .i64 a, .int .i64 b, .int .i64 c, .int .i64 d])).run Tryz.prog w = .ok (.bool true) w := by
  rw [run_eql_struct, eqin_pairs]; rfl

set_option maxRecDepth 100000 in
set_option maxHeartbeats 8000000 in
theorem awake15_b (W : World) (hE : EnvT W) : Calls Tryz.prog 11 #[] W fun e w' => e = .returned (.bool true) ∧ Below W.heap.size W w' := by
  have hmx : Tryz.prog.follows .mixedOrders = true := by kernel_rfl
  obtain ⟨aa1, aa2, aa3, aa4⟩ := clM_area
  go_enter Tryz.func11, Tryz.ntmps11
  go_wp2_with fail
  ((refine (clflat_b W).mono ?_); rintro e w0 ⟨s, rfl, hr0, hW0⟩)
  obtain ⟨sp, sk, rfl⟩ := hr0.slice
  have hl90 : clM.cs.length = 90 := by decide +kernel
  rw [hl90] at hr0 ⊢
  have hb := (Below.refl w0.heap.size w0).alloc (Nat.le_refl _) (.cells ([.int .i64 10, .int .i64 9, .slice sp 90 sk] : List Value).toArray 24)
  have zm := Blk.new w0 [.int .i64 10, .int .i64 9, .slice sp 90 sk] 24
  go_upto_region 2 with fail
  obtain ⟨X, hX⟩ : ∃ Y, Y = w0.alloc (.cells #[Value.int .i64 10, .int .i64 9, .slice sp 90 sk] 24) := ⟨_, rfl⟩
  rw [← hX]
  rw [show w0.alloc (.cells ([.int .i64 10, .int .i64 9, .slice sp 90 sk] : List Value).toArray 24) = X from hX.symm] at hb zm
  have hW := below_call hW0 hb
  have hr := hr0.below hb
  obtain ⟨k1, ek1⟩ : ∃ q, Hid (q = w0.heap.size) := ⟨_, hid rfl⟩
  rw [← ek1.out] at zm ⊢
  clear hX hb hW0 hr0
  have m0 := zm.cell 0
  have m1 := zm.cell 1
  have m2 := zm.cell 2
  simp only [List.getElem?_cons_zero, List.getElem?_cons_succ] at m0 m1 m2
  obtain ⟨r, hra⟩ : ∃ r, Hid (r = areav clM 1) := ⟨_, hid rfl⟩
  rw [← hra.out] at aa1 aa2 aa3 aa4
  go_wp2_with fail
  ((refine (clarea_b clM sp 90 sk 1 r true X hr (hid clM_ex.2.1.symm) hra).mono ?_); rintro e w1 ⟨rfl, hb1⟩)
  obtain ⟨rx, ry, rw', rh⟩ := r
  dsimp only at aa1 aa2 aa3 aa4 ⊢
  subst aa1 aa2 aa3 aa4
  have hb2 := hb1.alloc hb1.size (.cells ([.int .i64 8, .int .i64 0, .int .i64 2, .int .i64 8] : List Value).toArray 72)
  have zr := Blk.new w1 [.int .i64 8, .int .i64 0, .int .i64 2, .int .i64 8] 72
  go_upto_region 3 with fail
  obtain ⟨X3, hX⟩ : ∃ Y, Y = w1.alloc (.cells #[Value.int .i64 8, .int .i64 0, .int .i64 2, .int .i64 8] 72) := ⟨_, rfl⟩
  rw [← hX]
  rw [show w1.alloc (.cells ([.int .i64 8, .int .i64 0, .int .i64 2, .int .i64 8] : List Value).toArray 72) = X3 from hX.symm] at hb2 zr
  replace hW := below_call hW hb2
  replace hr := hr.below hb2
  replace zm := zm.below hb2
  obtain ⟨k2, ek2⟩ : ∃ q, Hid (q = w1.heap.size) := ⟨_, hid rfl⟩
  rw [← ek2.out] at zr ⊢
  clear hX hb1 hb2 m0 m1 m2 hra
  have hmx : Tryz.prog.follows .mixedOrders = true := by kernel_rfl
  go_upto_region 3 with fail
  refine wp_onlyN (wp_region_held (S := fun w' => Below X3.heap.size X3 w') hmx ?_)
  show wpAnyH _ _ _ _ _ _ _ _ X3.drew
  have hS0 := (Below.refl X3.heap.size X3).drew
  refine reg_tk (i := 0) (v := .agg #[.int .i64 10, .int .i64 9, .slice sp 90 sk]) (some 15) rfl (fun w' hS => by (have c0 := (zm.below hS).cell 0; have c1 := (zm.below hS).cell 1; have c2 := (zm.below hS).cell 2; simp only [List.getElem?_cons_zero, List.getElem?_cons_succ] at c0 c1 c2); go_simp) hS0 ?_
  try simp only [Act.put, List.setIfInBounds_toArray, List.set_cons_zero, List.set_cons_succ]
  refine reg_tk (i := 2) (v := .agg #[.int .i64 10, .int .i64 9, .slice sp 90 sk]) (some 17) rfl (fun w' hS => by (have c0 := (zm.below hS).cell 0; have c1 := (zm.below hS).cell 1; have c2 := (zm.below hS).cell 2; simp only [List.getElem?_cons_zero, List.getElem?_cons_succ] at c0 c1 c2); go_simp) hS0 ?_
  try simp only [Act.put, List.setIfInBounds_toArray, List.set_cons_zero, List.set_cons_succ]
  refine reg_tk (i := 4) (v := .agg #[.int .i64 10, .int .i64 9, .slice sp 90 sk]) (some 19) rfl (fun w' hS => by (have c0 := (zm.below hS).cell 0; have c1 := (zm.below hS).cell 1; have c2 := (zm.below hS).cell 2; simp only [List.getElem?_cons_zero, List.getElem?_cons_succ] at c0 c1 c2); go_simp) hS0 ?_
  try simp only [Act.put, List.setIfInBounds_toArray, List.set_cons_zero, List.set_cons_succ]
  refine held_one (i := 1) (by kernel_rfl) rfl (fun K hQ => ?_)
  go_simp
  ((refine (clentrances_b clM sp 90 sk [] none 0 0 1 0 1 _ (hE.keep (below_call hW hS0)) clM_high (hr.below hS0) (BitsAt.nilA _)).mono ?_); rintro e w1 ⟨u1, rfl, ho1, hb1⟩)
  have hS1 := below_call hS0 hb1
  refine hQ.out _ _ hS1 ?_
  clear hQ
  try simp only [Act.put, List.setIfInBounds_toArray, List.set_cons_zero, List.set_cons_succ]
  refine held_one (i := 3) (by kernel_rfl) rfl (fun K hQ => ?_)
  go_simp
  ((refine (clentrances_b clM sp 90 sk [] none 0 0 1 0 2 _ (hE.keep (below_call hW hS1)) clM_high (hr.below hS1) (BitsAt.nilA _)).mono ?_); rintro e w2 ⟨u2, rfl, ho2, hb2⟩)
  have hS2 := below_call hS1 hb2
  refine hQ.out _ _ hS2 ?_
  clear hQ
  try simp only [Act.put, List.setIfInBounds_toArray, List.set_cons_zero, List.set_cons_succ]
  refine held_one (i := 5) (by kernel_rfl) rfl (fun K hQ => ?_)
  go_simp
  ((refine (clentrances_b clM sp 90 sk [] none 0 0 1 1 3 _ (hE.keep (below_call hW hS2)) clM_high (hr.below hS2) (BitsAt.nilA _)).mono ?_); rintro e w3 ⟨u3, rfl, ho3, hb3⟩)
  have hS3 := below_call hS2 hb3
  refine hQ.out _ _ hS3 ?_
  clear hQ
  try simp only [Act.put, List.setIfInBounds_toArray, List.set_cons_zero, List.set_cons_succ]
  refine reg_tk (i := 6) (v := u1) (some 4) rfl (fun w' hS => by (skip); go_simp) hS3 ?_
  try simp only [Act.put, List.setIfInBounds_toArray, List.set_cons_zero, List.set_cons_succ]
  refine reg_tk (i := 7) (v := u2) (some 5) rfl (fun w' hS => by (skip); go_simp) hS3 ?_
  try simp only [Act.put, List.setIfInBounds_toArray, List.set_cons_zero, List.set_cons_succ]
  refine reg_tk (i := 8) (v := u3) (some 6) rfl (fun w' hS => by (skip); go_simp) hS3 ?_
  try simp only [Act.put, List.setIfInBounds_toArray, List.set_cons_zero, List.set_cons_succ]
  refine wpAnyH_done (by kernel_rfl) ?_ _
  try simp only [onlyN]
  replace ho1 := own_below (own_below ho1 hb2) hb3
  replace ho2 := own_below ho2 hb3
  rw [clM_right] at ho1
  rw [clM_below] at ho2
  rw [clM_corner] at ho3
  replace hW := below_call hW hS3
  replace hr := hr.below hS3
  replace zm := zm.below hS3
  replace zr := zr.below hS3
  obtain ⟨g1, c1, rfl⟩ := own_some ho1 (by decide)
  obtain ⟨g2, c2, rfl⟩ := own_some ho2 (by decide)
  obtain ⟨g3, c3, rfl⟩ := own_some ho3 (by decide)
  simp only [List.length_cons, List.length_nil, Nat.reduceAdd] at ho1 ho2 ho3 ⊢
  have m0 := zm.cell 0
  have m1 := zm.cell 1
  have m2 := zm.cell 2
  simp only [List.getElem?_cons_zero, List.getElem?_cons_succ] at m0 m1 m2
  go_wp2_with fail
  ((refine (clinner_b clM sp 90 sk [] none 0 1 0 (0, 0) (3, 1) w3 (hE.keep hW) clM_high hr (BitsAt.nilA _)).mono ?_); rintro e w4 ⟨n, o, rfl, hb4, hin⟩)
  obtain ⟨rfl, rfl⟩ := hin.eq clM_inner
  replace ho1 := own_below ho1 hb4
  replace ho2 := own_below ho2 hb4
  replace ho3 := own_below ho3 hb4
  replace hW := below_call hW hb4
  replace hr := hr.below hb4
  replace zm := zm.below hb4
  replace zr := zr.below hb4
  clear hin hb4 m0 m1 m2
  have m0 := zm.cell 0
  have m1 := zm.cell 1
  have m2 := zm.cell 2
  simp only [List.getElem?_cons_zero, List.getElem?_cons_succ] at m0 m1 m2
  go_wp2_with fail
  ((refine (clcount_b clM sp 90 sk 4 w4 hr (hid clM_count)).mono ?_); rintro e w5 ⟨rfl, hb5⟩)
  replace ho1 := own_below ho1 hb5
  replace ho2 := own_below ho2 hb5
  replace ho3 := own_below ho3 hb5
  replace hW := below_call hW hb5
  replace hr := hr.below hb5
  replace zm := zm.below hb5
  replace zr := zr.below hb5
  clear hb5 m0 m1 m2
  have m0 := zm.cell 0
  have m1 := zm.cell 1
  have m2 := zm.cell 2
  simp only [List.getElem?_cons_zero, List.getElem?_cons_succ] at m0 m1 m2
  go_wp2_with fail
  ((refine (clof_b clM sp 90 sk (8, 3) 1 w5 hr (hid clM_of)).mono ?_); rintro e w6 ⟨rfl, hb6⟩)
  replace ho1 := own_below ho1 hb6
  replace ho2 := own_below ho2 hb6
  replace ho3 := own_below ho3 hb6
  replace hW := below_call hW hb6
  replace hr := hr.below hb6
  replace zm := zm.below hb6
  replace zr := zr.below hb6
  clear hb6 m0 m1 m2
  have m0 := zm.cell 0
  have m1 := zm.cell 1
  have m2 := zm.cell 2
  have r0 := zr.cell 0
  have r1 := zr.cell 1
  have r2 := zr.cell 2
  have r3 := zr.cell 3
  simp only [List.getElem?_cons_zero, List.getElem?_cons_succ] at m0 m1 m2 r0 r1 r2 r3
  have a0 := ho1.cellAt 0 (by decide)
  have a1 := ho1.cellAt 1 (by decide)
  have a2 := ho1.cellAt 2 (by decide)
  have a3 := ho1.cellAt 3 (by decide)
  have a4 := ho1.cellAt 4 (by decide)
  have a5 := ho1.cellAt 5 (by decide)
  have a6 := ho1.cellAt 6 (by decide)
  have a7 := ho1.cellAt 7 (by decide)
  have b0 := ho2.cellAt 0 (by decide)
  have b1 := ho2.cellAt 1 (by decide)
  have b2 := ho2.cellAt 2 (by decide)
  have b3 := ho2.cellAt 3 (by decide)
  have b4 := ho2.cellAt 4 (by decide)
  have b5 := ho2.cellAt 5 (by decide)
  have b6 := ho2.cellAt 6 (by decide)
  have b7 := ho2.cellAt 7 (by decide)
  have d0 := ho3.cellAt 0 (by decide)
  have d1 := ho3.cellAt 1 (by decide)
  have d2 := ho3.cellAt 2 (by decide)
  have d3 := ho3.cellAt 3 (by decide)
  simp only [qcells, flat2, pcells, List.flatMap_cons, List.flatMap_nil, List.cons_append, List.nil_append, List.append_nil, List.getElem?_cons_zero, List.getElem?_cons_succ] at a0 a1 a2 a3 a4 a5 a6 a7 b0 b1 b2 b3 b4 b5 b6 b7 d0 d1 d2 d3
  have eq1 := eql_pairs 7 0 8 0
  have eq2 := eql_pairs 7 7 7 8
  have eq3 := eqin_pairs 7 0 8 0
  have eq4 := eqin_pairs 7 7 7 8
  have hbt : ∀ (a b : Value) (w : World), (Instr.buildSlice 51 1 #[(0, .agg #[a, b])]).run Tryz.prog w = .ok (.slice (some ⟨w.heap.size, 0, none⟩) 1 1) (w.alloc (.cells #[a, b] 29)) := fun a b w => by kernel_rfl
  go_wp2_with fail
  have hb7 := (Below.refl w6.heap.size w6).alloc (Nat.le_refl _) (.cells ([.int .i64 7, .int .i64 3] : List Value).toArray 29)
  have zt := Blk.new w6 [.int .i64 7, .int .i64 3] 29
  have hps : PsAt (w6.alloc (.cells ([.int .i64 7, .int .i64 3] : List Value).toArray 29)) (.slice (some ⟨w6.heap.size, 0, none⟩) 1 1) [(7, 3)] := ⟨_, _, rfl, Nat.le_refl _, by unfold maxLen; decide, fun _ => ⟨w6.heap.size, 0, rfl, zt.lt, fun i hi => by
    obtain rfl : i = 0 := by simpa using hi
    exact ⟨zt.cell 0, zt.cell 1⟩⟩⟩
  ((refine (cltouched_b clM sp 90 sk [(7, 3)] _ _ (hE.keep (below_call hW hb7)) (hr.below hb7) hps (by decide)).mono ?_); rintro e w7 ⟨u, rfl, ⟨pu, ku, rfl, _⟩, hb8⟩)
  rw [clM_touch]
  replace hW := below_call (below_call hW hb7) hb8
  clear hps zt hb7 hb8 a0 a1 a2 a3 a4 a5 a6 a7 b0 b1 b2 b3 b4 b5 b6 b7 d0 d1 d2 d3 ho1 ho2 ho3 zm zr hr
  go_wp2_with fail
  go_ret
  exact ⟨rfl, hW⟩

end

end Go.Proofs.YtpgchjhfhndaaaaGreatDoor
