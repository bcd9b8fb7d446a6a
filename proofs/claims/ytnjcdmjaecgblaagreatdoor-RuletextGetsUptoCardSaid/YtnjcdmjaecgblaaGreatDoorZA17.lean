/-
  The laws of ruletext: names, the example.
-/
import Derived.Test.YtnjcdmjaecgblaaGreatDoorZA16
namespace Go.Proofs.YtnjcdmjaecgblaaGreatDoor
section
open Go.RowKit Go.Lib
theorem build_bow : ∀ w, Sem.run Tryz.prog (Instr.build 51 #[(0, .string ⟨#[98, 111, 119]⟩), (1, .int .i64 768), (2, .int .i64 6), (3, .int .i64 8), (4, .int .i64 64)]) w = .ok (.agg ([.string ⟨#[98, 111, 119]⟩, .int .i64 768, .int .i64 6, .int .i64 8, .int .i64 64, .int .i64 0] : List Value).toArray) w := fun w => by kernel_rfl
theorem build_rul (n : Nat) : ∀ w, Sem.run Tryz.prog (Instr.build 31 #[(1, .slice (some ⟨n, 0, none⟩) 1 1)]) w = .ok (.agg ([.slice none 0 0, .slice (some ⟨n, 0, none⟩) 1 1, .slice none 0 0] : List Value).toArray) w := fun w => by kernel_rfl
theorem built_bow : Tryz.prog.builtSlice 51 1 [(0, .agg ([.string ⟨#[98, 111, 119]⟩, .int .i64 768, .int .i64 6, .int .i64 8, .int .i64 64, .int .i64 0] : List Value).toArray)] = some ([.string ⟨#[98, 111, 119]⟩, .int .i64 768, .int .i64 6, .int .i64 8, .int .i64 64, .int .i64 0] : List Value).toArray := by kernel_rfl
section
variable {P : Program} {Q : Exit → Act → World → Prop} {a : Act} {w : World} {ops : Array Oper} {o : Oper} {rest : List Oper}
theorem wpList_build_aggL (hg : o.guard = none) (t : TypeId) (parts : Array (Nat × Operand)) (ho : o.op = .build t parts) (ps : Array (Nat × Value)) (hp : parts.map (fun (i, x) => (i, a.eval x)) = ps) (zs : List Value) (hz : ∀ w, Sem.run P (Instr.build t ps) w = .ok (.agg zs.toArray) w)
 (h : wpList P ops Q rest (a.put o.dst (.agg zs.toArray)) w) : wpList P ops Q (o :: rest) a w :=
 wpList_plain hg fun K hK => by
  unfold Oper.wp execOp
  simp only [ho, hp, Sem.run_bind, Result.andThen_ok, hz]
  exact hK _ _ h
end
set_option maxHeartbeats 8000000 in
set_option maxRecDepth 100000 in
theorem lbow_b (W : World) : Calls Tryz.prog 24 #[] W fun e w' => ∃ su sw st, e = .returned (.agg #[su, sw, st]) ∧ RAt w' su sw st bowR ∧ CapR w' su st ∧ Below W.heap.size W w' := by
 have hZ := Blk.new W [.slice none 0 0, .slice none 0 0, .slice none 0 0] 31
 have hL := (Below.refl W.heap.size W).alloc (Nat.le_refl _) (.cells ([.slice none 0 0, .slice none 0 0, .slice none 0 0] : List Value).toArray 31)
 go_enter Tryz.func24, Tryz.ntmps24
 go_upto_region 1 with fail
 have hbv := hZ.lt
 generalize W.alloc (.cells ([.slice none 0 0, .slice none 0 0, .slice none 0 0] : List Value).toArray 31) = V at *
 obtain ⟨_, _, _, _, _, _⟩ := hZ.three
 go_wp2_with (first | (with_reducible refine wpList_build_aggL rfl 51 _ rfl _ (by rfl) _ build_bow ?_) | (with_reducible refine wpList_build_aggL rfl 31 _ rfl _ (by rfl) _ (build_rul V.heap.size) ?_) | (with_reducible refine wpList_buildSliceTo rfl 28 51 1 _ rfl V.heap.size rfl (some 2) rfl Tryz.underlying28 ([.string ⟨#[98, 111, 119]⟩, .int .i64 768, .int .i64 6, .int .i64 8, .int .i64 64, .int .i64 0] : List Value).toArray (by with_unfolding_all exact built_bow) ?_))

 have hZ3 := (((hZ.set 0 (.slice none 0 0)).set 1 (.slice (some ⟨V.heap.size, 0, none⟩) 1 1)).set 2 (.slice none 0 0)).alloc (.cells ([.string ⟨#[98, 111, 119]⟩, .int .i64 768, .int .i64 6, .int .i64 8, .int .i64 64, .int .i64 0] : List Value).toArray 51)
 have hL3 := ((hL.setCell (p := ⟨W.heap.size, 0, none⟩) (Nat.le_refl _) (.slice none 0 0)).setCell (p := ⟨W.heap.size, 1, none⟩) (Nat.le_refl _) (.slice (some ⟨V.heap.size, 0, none⟩) 1 1)).setCell (p := ⟨W.heap.size, 2, none⟩) (Nat.le_refl _) (.slice none 0 0)
 have hX := Blk.new (((V.setCell ⟨W.heap.size, 0, none⟩ (.slice none 0 0)).setCell ⟨W.heap.size, 1, none⟩ (.slice (some ⟨V.heap.size, 0, none⟩) 1 1)).setCell ⟨W.heap.size, 2, none⟩ (.slice none 0 0)) [.string ⟨#[98, 111, 119]⟩, .int .i64 768, .int .i64 6, .int .i64 8, .int .i64 64, .int .i64 0] 51
 have hsz : (((V.setCell ⟨W.heap.size, 0, none⟩ (.slice none 0 0)).setCell ⟨W.heap.size, 1, none⟩ (.slice (some ⟨V.heap.size, 0, none⟩) 1 1)).setCell ⟨W.heap.size, 2, none⟩ (.slice none 0 0)).heap.size = V.heap.size := by simp
 generalize (((V.setCell ⟨W.heap.size, 0, none⟩ (.slice none 0 0)).setCell ⟨W.heap.size, 1, none⟩ (.slice (some ⟨V.heap.size, 0, none⟩) 1 1)).setCell ⟨W.heap.size, 2, none⟩ (.slice none 0 0)) = Y at *
 rw [hsz] at hX
 refine bodyPost_ret (results_agg_one rfl rfl Tryz.isAgg31 Tryz.sizeOf31 hZ3 rfl) rfl ?_
 refine ⟨_, _, _, rfl, ⟨⟨none, 0, rfl, Nat.zero_le _, fun h => absurd h (by decide)⟩, ⟨some ⟨V.heap.size, 0, none⟩, 1, rfl, by unfold maxLen; decide, fun _ => ⟨_, 0, rfl, fun i hi => ?_⟩⟩, ⟨none, 0, rfl, Nat.zero_le _, fun h => absurd h (by decide)⟩⟩, ⟨fun _ _ _ _ e => (by injection e with e; cases e), fun _ _ _ _ e => (by injection e with e; cases e)⟩, hL3.alloc hL3.size _⟩
 obtain rfl : i = 0 := by have : bowR.ws.length = 1 := rfl; omega
 intro j v hj
 refine (hX.cell (0 + 0 * 6 + j)).trans ?_
 rw [show 0 + 0 * 6 + j = j by omega]
 exact hj
theorem bow_ok : OkR bowR := ⟨fun _ h => absurd h List.not_mem_nil, fun u hu => (by
 obtain rfl := List.mem_singleton.1 hu
 refine ⟨?_, ?_, ?_, ?_, ?_⟩ <;> (unfold int64v; decide)), fun _ h => absurd h List.not_mem_nil⟩
theorem bow_sh : ShR 1000 bowR := ⟨fun _ h => absurd h List.not_mem_nil, fun _ h => absurd h List.not_mem_nil⟩
theorem bow_rq {W : World} {su sw st : Value} (hR : RAt W su sw st bowR) (hC : CapR W su st) : RQ W su sw st bowR := ⟨hR, hC, ok_ints bow_ok, fun k i f hf hi => Nat.le_trans (sh_short bow_ok bow_sh k i f hf hi) (by decide)⟩
section
variable {E : World → Prop} (H : RtHave E)
include H
theorem getD_call (W : World) (hE : E W) {su sw st : Value} (hQ : RQ W su sw st bowR) : Calls Tryz.prog 14 #[.agg #[su, sw, st], .int .i64 2, .string ⟨#[98, 111, 119]⟩, .string ⟨#[100, 97, 109, 97, 103, 101]⟩] W fun e w' => e = .returned (.tuple #[.string ⟨#[54]⟩, .bool true]) ∧ Below W.heap.size W w' :=
 H.get su sw st bowR 2 ⟨#[98, 111, 119]⟩ ⟨#[100, 97, 109, 97, 103, 101]⟩ ⟨#[54]⟩ true W hE hQ (by decide) (by decide) (by decide) (hid (by unfold getW; rw [bow_get]; rfl))
theorem getH_call (W : World) (hE : E W) {su sw st : Value} (hQ : RQ W su sw st bowR) : Calls Tryz.prog 14 #[.agg #[su, sw, st], .int .i64 2, .string ⟨#[98, 111, 119]⟩, .string ⟨#[104, 112]⟩] W fun e w' => e = .returned (.tuple #[.string ⟨#[]⟩, .bool false]) ∧ Below W.heap.size W w' :=
 H.get su sw st bowR 2 ⟨#[98, 111, 119]⟩ ⟨#[104, 112]⟩ ⟨#[]⟩ false W hE hQ (by decide) (by decide) (by decide) (hid (by unfold getW; rw [bow_hp]))
theorem setZ_call (W : World) (hE : E W) {su sw st : Value} (hR : RAt W su sw st bowR) (k er : Int) (nm s : ByteArray) (hs : s.size ≤ 100000) (h : setv10 bowR k nm ⟨#[100, 97, 109, 97, 103, 101]⟩ s.data.toList = (R9.zero, er)) : Calls Tryz.prog 16 #[.agg #[su, sw, st], .int .i64 k, .string nm, .string ⟨#[100, 97, 109, 97, 103, 101]⟩, .string s] W fun e w' => ∃ p c p1 c1 p2 c2, e = .returned (.tuple #[.agg #[.slice p 0 c, .slice p1 0 c1, .slice p2 0 c2], .int .i64 er]) ∧ Below W.heap.size W w' := by
 refine (H.set su sw st bowR R9.zero er k nm ⟨#[100, 97, 109, 97, 103, 101]⟩ s W hE hR hs (by decide) (by decide) (by decide) bow_sh.few2 (hid (by rw [Lib.toList_data, h]))).mono ?_
 rintro e w' ⟨tu, tw, tt, rfl, hR, -, hb⟩
 obtain ⟨p, c, rfl, -, -⟩ := hR.u
 obtain ⟨p1, c1, rfl, -, -⟩ := hR.w
 obtain ⟨p2, c2, rfl, -, -⟩ := hR.t
 exact ⟨p, c, p1, c1, p2, c2, rfl, hb⟩
theorem set7_call (W : World) (hE : E W) {su sw st : Value} (hR : RAt W su sw st bowR) : Calls Tryz.prog 16 #[.agg #[su, sw, st], .int .i64 2, .string ⟨#[98, 111, 119]⟩, .string ⟨#[100, 97, 109, 97, 103, 101]⟩, .string ⟨#[55]⟩] W fun e w' => ∃ p c g o c1 p2 c2, e = .returned (.tuple #[.agg #[.slice p 0 c, .slice (some ⟨g, o, none⟩) 1 c1, .slice p2 0 c2], .int .i64 0]) ∧ w'.cell? ⟨g, o + 2, none⟩ = some (.int .i64 7) ∧ Below W.heap.size W w' := by
 refine (H.set su sw st bowR bow7 0 2 ⟨#[98, 111, 119]⟩ ⟨#[100, 97, 109, 97, 103, 101]⟩ ⟨#[55]⟩ W hE hR (by decide) (by decide) (by decide) (by decide) bow_sh.few2 (hid (by rw [Lib.toList_data, bow_set7]))).mono ?_
 rintro e w' ⟨tu, tw, tt, rfl, hR, -, hb⟩
 obtain ⟨p, c, rfl, -, -⟩ := hR.u
 obtain ⟨p1, c1, rfl, -, hat⟩ := hR.w
 obtain ⟨p2, c2, rfl, -, -⟩ := hR.t
 obtain ⟨g, o, rfl, hx⟩ := hat (by decide)
 have h2 := hx 0 (by decide) 2 _ rfl
 rw [Nat.zero_mul, Nat.add_zero] at h2
 exact ⟨p, c, g, o, c1, p2, c2, rfl, h2, hb⟩
theorem printB_call (W : World) (hE : E W) {su sw st : Value} (hQ : RQ W su sw st bowR) : Calls Tryz.prog 20 #[.agg #[su, sw, st]] W fun e w' => e = .returned (.tuple #[.string ⟨#[119, 101, 97, 112, 111, 110, 32, 98, 111, 119, 10, 32, 114, 97, 110, 103, 101, 32, 55, 54, 56, 10, 32, 100, 97, 109, 97, 103, 101, 32, 54, 10, 32, 99, 111, 111, 108, 32, 56, 10, 32, 115, 112, 101, 101, 100, 32, 54, 52, 10, 32, 115, 112, 108, 97, 115, 104, 32, 48, 10]⟩, .int .i64 0]) ∧ Below W.heap.size W w' :=
 H.print su sw st bowR _ 0 W hE hQ.at_ hQ.cap (by decide) (by decide) (by decide) bow_sh.few2 (hid (by rw [bow_print]; exact ⟨rfl, rfl⟩))
theorem half_call (W : World) (hE : E W) : Calls Tryz.prog 22 #[.string ⟨#[119, 101, 97, 112, 111, 110, 32, 98, 111, 119, 10, 32, 114, 97, 110, 103, 101, 32, 55, 54, 56, 10]⟩] W fun e w' => ∃ p c p1 c1 p2 c2, e = .returned (.tuple #[.agg #[.slice p 0 c, .slice p1 0 c1, .slice p2 0 c2], .int .i64 3, .int .i64 5]) ∧ Below W.heap.size W w' := by
 refine (H.parse _ R9.zero 3 5 W hE (hid (by rw [Lib.toList_data]; exact half_parse.symm))).mono ?_
 rintro e w' ⟨tu, tw, tt, rfl, hR, -, hb⟩
 obtain ⟨p, c, rfl, -, -⟩ := hR.u
 obtain ⟨p1, c1, rfl, -, -⟩ := hR.w
 obtain ⟨p2, c2, rfl, -, -⟩ := hR.t
 exact ⟨p, c, p1, c1, p2, c2, rfl, hb⟩
theorem fields1_call (W : World) : Calls Tryz.prog 10 #[.int .i64 1] W fun e w' => ∃ p c, e = .returned (.slice p 18 c) ∧ Below W.heap.size W w' := by
 refine (H.fields 1 W).mono ?_
 rintro e w' ⟨v, rfl, ⟨p, c, rfl, -, -⟩, hb⟩
 exact ⟨p, c, by rw [show (fieldsv 1).length = 18 from by rw [fieldsU]; rfl], hb⟩
set_option maxHeartbeats 8000000 in
set_option maxRecDepth 100000 in
theorem awake10_b (W : World) (hE : E W) : Calls Tryz.prog 12 #[] W fun e w' => e = .returned (.bool true) ∧ Below W.heap.size W w' := by
 have hL := Below.refl W.heap.size W
 go_enter Tryz.func12, Tryz.ntmps12
 go_wp2_with fail
 ((with_reducible refine (lbow_b _).mono ?_); rintro e w1 ⟨su, sw, st, rfl, hR, hC, hb⟩)
 replace hL := below_call hL hb
 clear hb
 have hQ := bow_rq hR hC
 clear hR hC
 go_wp2_with fail
 ((with_reducible refine (getD_call H _ (H.keep hE hL) hQ).mono ?_); rintro e w2 ⟨rfl, hb⟩)
 replace hL := below_call hL hb
 clear hb hQ
 go_wp2_with fail
 ((with_reducible refine (lbow_b _).mono ?_); rintro e w3 ⟨su, sw, st, rfl, hR, hC, hb⟩)
 replace hL := below_call hL hb
 clear hb
 have hQ := bow_rq hR hC
 clear hR hC
 go_wp2_with fail
 ((with_reducible refine (getH_call H _ (H.keep hE hL) hQ).mono ?_); rintro e w4 ⟨rfl, hb⟩)
 replace hL := below_call hL hb
 clear hb hQ
 go_wp2_with fail
 ((with_reducible refine (lbow_b _).mono ?_); rintro e w5 ⟨su, sw, st, rfl, hR, hC, hb⟩)
 replace hL := below_call hL hb
 clear hb
 have hQ := bow_rq hR hC
 clear hR hC
 go_wp2_with fail
 ((with_reducible refine (setZ_call H _ (H.keep hE hL) hQ.at_ 2 5 ⟨#[98, 111, 119]⟩ ⟨#[48, 55]⟩ (by decide) bow_set07).mono ?_); rintro e w6 ⟨p1, c1, q1, d1, r1, e1, rfl, hb⟩)
 replace hL := below_call hL hb
 clear hb hQ
 replace hL := hL.alloc hL.size (.cells ([.slice p1 0 c1, .slice q1 0 d1, .slice r1 0 e1] : List Value).toArray 31)
 go_wp2_with fail
 ((with_reducible refine (lbow_b _).mono ?_); rintro e w7 ⟨su, sw, st, rfl, hR, hC, hb⟩)
 replace hL := below_call hL hb
 clear hb
 have hQ := bow_rq hR hC
 clear hR hC
 go_wp2_with fail
 ((with_reducible refine (setZ_call H _ (H.keep hE hL) hQ.at_ 4 1 ⟨#[98, 111, 119]⟩ ⟨#[55]⟩ (by decide) bow_set4).mono ?_); rintro e w8 ⟨p2, c2, q2, d2, r2, e2, rfl, hb⟩)
 replace hL := below_call hL hb
 clear hb hQ
 replace hL := hL.alloc hL.size (.cells ([.slice p2 0 c2, .slice q2 0 d2, .slice r2 0 e2] : List Value).toArray 31)
 go_wp2_with fail
 ((with_reducible refine (lbow_b _).mono ?_); rintro e w9 ⟨su, sw, st, rfl, hR, hC, hb⟩)
 replace hL := below_call hL hb
 clear hb
 have hQ := bow_rq hR hC
 clear hR hC
 go_wp2_with fail
 ((with_reducible refine (setZ_call H _ (H.keep hE hL) hQ.at_ 2 8 ⟨#[97, 120, 101]⟩ ⟨#[55]⟩ (by decide) bow_axe).mono ?_); rintro e w10 ⟨p3, c3, q3, d3, r3, e3, rfl, hb⟩)
 replace hL := below_call hL hb
 clear hb hQ
 replace hL := hL.alloc hL.size (.cells ([.slice p3 0 c3, .slice q3 0 d3, .slice r3 0 e3] : List Value).toArray 31)
 go_wp2_with fail
 ((with_reducible refine (lbow_b _).mono ?_); rintro e w11 ⟨su, sw, st, rfl, hR, hC, hb⟩)
 replace hL := below_call hL hb
 clear hb
 have hQ := bow_rq hR hC
 clear hR hC
 go_wp2_with fail
 ((with_reducible refine (set7_call H _ (H.keep hE hL) hQ.at_).mono ?_); rintro e w12 ⟨p4, c4, g, o, d4, r4, e4, rfl, a7, hb⟩)
 replace hL := below_call hL hb
 clear hb hQ
 have kg := World.block_lt_of_cell? w12 _ a7
 have hB := Blk.new w12 [.slice p4 0 c4, .slice (some ⟨g, o, none⟩) 1 d4, .slice r4 0 e4] 31
 have hM := (Below.refl w12.heap.size w12).alloc (Nat.le_refl _) (.cells ([.slice p4 0 c4, .slice (some ⟨g, o, none⟩) 1 d4, .slice r4 0 e4] : List Value).toArray 31)
 replace a7 := (hM.cell (p := ⟨g, o + 2, none⟩) kg).trans a7
 replace hL := hL.alloc hL.size (.cells ([.slice p4 0 c4, .slice (some ⟨g, o, none⟩) 1 d4, .slice r4 0 e4] : List Value).toArray 31)
 have kv : g < (w12.alloc (.cells ([.slice p4 0 c4, .slice (some ⟨g, o, none⟩) 1 d4, .slice r4 0 e4] : List Value).toArray 31)).heap.size := Nat.lt_of_lt_of_le kg hM.size
 go_wp2_with fail
 generalize w12.alloc (.cells ([.slice p4 0 c4, .slice (some ⟨g, o, none⟩) 1 d4, .slice r4 0 e4] : List Value).toArray 31) = V at *
 generalize w12.heap.size = b11 at *
 clear hM
 have hV := Below.refl V.heap.size V
 ((with_reducible refine (lbow_b _).mono ?_); rintro e w13 ⟨su, sw, st, rfl, hR, hC, hb⟩)
 replace hL := below_call hL hb
 replace hV := below_call hV hb
 clear hb
 have hQ := bow_rq hR hC
 clear hR hC
 go_wp2_with fail
 ((with_reducible refine (printB_call H _ (H.keep hE hL) hQ).mono ?_); rintro e w14 ⟨rfl, hb⟩)
 replace hL := below_call hL hb
 replace hV := below_call hV hb
 clear hb hQ
 go_wp2_with fail
 ((with_reducible refine (half_call H _ (H.keep hE hL)).mono ?_); rintro e w15 ⟨p5, c5, q5, d5, r5, e5, rfl, hb⟩)
 replace hL := below_call hL hb
 replace hV := below_call hV hb
 clear hb
 replace hL := hL.alloc hL.size (.cells ([.slice p5 0 c5, .slice q5 0 d5, .slice r5 0 e5] : List Value).toArray 31)
 replace hV := hV.alloc hV.size (.cells ([.slice p5 0 c5, .slice q5 0 d5, .slice r5 0 e5] : List Value).toArray 31)
 have hB5 := hB.below hV
 replace a7 := (hV.cell (p := ⟨g, o + 2, none⟩) kv).trans a7
 obtain ⟨_, _, _, _, _, _⟩ := hB5.three
 go_wp2_with fail
 ((with_reducible refine (fields1_call H _).mono ?_); rintro e w16 ⟨p6, c6, rfl, hb⟩)
 replace hL := below_call hL hb
 go_wp2_with fail
 go_ret
 exact ⟨rfl, hL⟩
end
end

end Go.Proofs.YtnjcdmjaecgblaaGreatDoor
