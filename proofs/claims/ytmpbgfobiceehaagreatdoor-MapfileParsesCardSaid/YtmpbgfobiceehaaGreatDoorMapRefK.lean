/-
  What the reference of mapfile answers: the lines of starts.
-/
import Derived.Test.YtmpbgfobiceehaaGreatDoorMapRefJ
import Derived.BigRegion
namespace Go.Proofs.YtmpbgfobiceehaaGreatDoor
open Go.RowKit Go.Lib

/-- What the reader of a start leaves. -/
def StPost (s : List UInt8) (W : World) (e : Ending) (w' : World) : Prop :=
  ∃ x y : Int, e = .returned (.tuple #[.agg #[.int .i64 x, .int .i64 y], .bool (startv s).isSome]) ∧ (∀ q, startv s = some q → q = (x, y)) ∧ Below W.heap.size W w'
theorem start_no {s : List UInt8} {W w' : World} (x y : Int) (h : startv s = none) (hb : Below W.heap.size W w') : StPost s W (.returned (.tuple #[.agg #[.int .i64 x, .int .i64 y], .bool false])) w' := ⟨x, y, by rw [h]; rfl, fun q e => (by rw [h] at e; cases e), hb⟩

theorem start_yes {s : List UInt8} {W w' : World} {x y : Int} (h : startv s = some (x, y)) (hb : Below W.heap.size W w') : StPost s W (.returned (.tuple #[.agg #[.int .i64 x, .int .i64 y], .bool true])) w' := ⟨x, y, by rw [h]; rfl, fun q e => (by rw [h] at e; cases e; rfl), hb⟩
set_option maxRecDepth 100000 in
set_option maxHeartbeats 8000000 in
theorem rstart_b (s : ByteArray) (W : World) (hs : s.size ≤ 100000) :
    Calls Tryz.prog 50 #[.string s] W (StPost s.data.toList W) := by
  have hsl : s.data.toList.length = s.size := (Lib.size_eq s).symm
  have hK := (Keep.nil W).alloc [.int .i64 0, .int .i64 0] 41
  obtain ⟨ls, hls⟩ : ∃ ls, Hid (ls = parts 32 s.data.toList) := ⟨_, hid rfl⟩
  have hle : Hid (∀ x ∈ ls, x.length ≤ 100000) := hid (fun x hx => by
    rw [hls.out] at hx
    have := parts_le 32 _ x hx
    omega)
  go_enter Tryz.func50, Tryz.ntmps50
  go_wp2_with fail
  ((with_reducible refine (rparts_space s _ hs ls hls).mono ?_); rintro e w1 ⟨g, cap, rfl, hst, hg1, hg2, hlc, hb⟩)
  replace hK := hK.call hb
  have hz := hb.size
  have hT := hK.one
  have hL := hK.old
  simp only [World.size_alloc] at hg1 hz
  clear hb
  by_cases h3 : ls.length = 3
  · obtain ⟨a, b, c, rfl⟩ := three_of ls h3
    have p0 := hst 0 (by simp)
    have p1 := hst 1 (by simp)
    have p2 := hst 2 (by simp)
    simp only [List.getElem_cons_zero, List.getElem_cons_succ] at p0 p1 p2
    have hv : Hid (startv s.data.toList = if a = startW then (bothR b c 0 31).map fun p => ((p.1 : Int), (p.2 : Int)) else none) := hid (by rw [start_parts, ← hls.out])
    have hlb : (bs b).size ≤ 100000 := by rw [bs_size]; exact hle.out b (by simp)
    have hlc2 : (bs c).size ≤ 100000 := by rw [bs_size]; exact hle.out c (by simp)
    simp only [List.length_cons, List.length_nil] at hlc ⊢
    clear hls hle h3 hst
    by_cases ha : a = startW
    · have ea : bs a = ⟨#[115, 116, 97, 114, 116]⟩ := by rw [ha]; rfl
      rw [ea] at p0
      obtain ⟨x, hx⟩ : ∃ x, Hid (x = refNum (bs b).data.toList) := ⟨_, hid rfl⟩
      obtain ⟨y, hy⟩ : ∃ x, Hid (x = refNum (bs c).data.toList) := ⟨_, hid rfl⟩
      have hv2 : Hid (startv s.data.toList = (if (0 : Int) ≤ x ∧ x ≤ 31 ∧ (0 : Int) ≤ y ∧ y ≤ 31 then some (x.toNat, y.toNat) else none).map fun p => ((p.1 : Int), (p.2 : Int))) := hid (by
        rw [hv.out, if_pos ha, both_ref b c 0 31 (by omega), hx.out, hy.out, bs_list, bs_list]
        rfl)
      have q1 := fun V => rnumber_b (bs b) x V hlb hx
      have q2 := fun V => rnumber_b (bs c) y V hlc2 hy
      obtain ⟨bb, hbb⟩ : ∃ n, n = bs b := ⟨_, rfl⟩
      obtain ⟨bc, hbc⟩ : ∃ n, n = bs c := ⟨_, rfl⟩
      rw [← hbb] at p1 q1
      rw [← hbc] at p2 q2
      clear hv ha ea hlb hlc2 hx hy hbb hbc
      go_wp2_with fail
      clear p0 hK
      have lcap : 3 ≤ cap := by omega
      go_cut [5] from 18 (fun s5 wx => s5 = .pointer (some ⟨w1.heap.size, 0, none⟩) ∧ Blk wx w1.heap.size [.int .i64 x, .int .i64 y] 41 ∧ Below w1.heap.size w1 wx)
      case first =>
        have hmx : Tryz.prog.follows .mixedOrders = true := by kernel_rfl
        refine wp_region_any hmx (wpAny_of_last (x := 10) (S := fun w' => w'.cell? ⟨g, 1, none⟩ = some (.string bb) ∧ w'.cell? ⟨g, 2, none⟩ = some (.string bc)) _ _ _ _ ?_)
        show wpAnyL _ _ _ _ _ _ _ _ _ w1.drew
        have hS0 : w1.drew.cell? ⟨g, 1, none⟩ = some (.string bb) ∧ w1.drew.cell? ⟨g, 2, none⟩ = some (.string bc) := ⟨p1, p2⟩
        have hLd := ((Below.refl _ w1).drew).alloc (Nat.le_refl _) (.cells #[.int .i64 0, .int .i64 0] 41)
        have hS1 : (w1.drew.alloc (.cells #[.int .i64 0, .int .i64 0] 41)).cell? ⟨g, 1, none⟩ = some (.string bb) ∧ (w1.drew.alloc (.cells #[.int .i64 0, .int .i64 0] 41)).cell? ⟨g, 2, none⟩ = some (.string bc) := ⟨(hLd.cell (p := ⟨g, 1, none⟩) hg2).trans p1, (hLd.cell (p := ⟨g, 2, none⟩) hg2).trans p2⟩
        have hP0 : Blk (w1.drew.alloc (.cells #[.int .i64 0, .int .i64 0] 41)) w1.heap.size [.int .i64 0, .int .i64 0] 41 := Blk.new w1.drew [.int .i64 0, .int .i64 0] 41
        have hP2 := (Blk.new w1 [.int .i64 x, .int .i64 y] 41).drew
        have hL2 := ((Below.refl w1.heap.size w1).alloc (Nat.le_refl _) (.cells #[.int .i64 x, .int .i64 y] 41)).drew
        refine last_take (x := 10) (hl := by kernel_rfl) (hix := by decide) (i := 0) (v := .slice (some ⟨g, 0, none⟩) 3 cap) _ rfl rfl (by kernel_rfl) (by kernel_rfl) (by kernel_rfl) (fun _ _ _ h => h) (by rfl) (fun w' hS => by obtain ⟨s1, s2⟩ := hS; go_simp) hS0 ?_
        try simp only [Act.put, List.setIfInBounds_toArray]
        refine last_take (x := 10) (hl := by kernel_rfl) (hix := by decide) (i := 1) (v := .pointer (some ⟨g, 1, none⟩)) _ rfl rfl (by kernel_rfl) (by kernel_rfl) (by kernel_rfl) (fun _ _ _ h => h) (by rfl) (fun w' hS => by obtain ⟨s1, s2⟩ := hS; go_simp) hS0 ?_
        try simp only [Act.put]
        refine last_take (x := 10) (hl := by kernel_rfl) (hix := by decide) (i := 2) (v := .string bb) _ rfl rfl (by kernel_rfl) (by kernel_rfl) (by kernel_rfl) (fun _ _ _ h => h) (by rfl) (fun w' hS => by obtain ⟨s1, s2⟩ := hS; go_simp) hS0 ?_
        try simp only [Act.put]
        refine last_take (x := 10) (hl := by kernel_rfl) (hix := by decide) (i := 4) (v := .slice (some ⟨g, 0, none⟩) 3 cap) _ rfl rfl (by kernel_rfl) (by kernel_rfl) (by kernel_rfl) (fun _ _ _ h => h) (by rfl) (fun w' hS => by obtain ⟨s1, s2⟩ := hS; go_simp) hS0 ?_
        try simp only [Act.put]
        refine last_take (x := 10) (hl := by kernel_rfl) (hix := by decide) (i := 5) (v := .pointer (some ⟨g, 2, none⟩)) _ rfl rfl (by kernel_rfl) (by kernel_rfl) (by kernel_rfl) (fun _ _ _ h => h) (by rfl) (fun w' hS => by obtain ⟨s1, s2⟩ := hS; go_simp) hS0 ?_
        try simp only [Act.put]
        refine last_take (x := 10) (hl := by kernel_rfl) (hix := by decide) (i := 6) (v := .string bc) _ rfl rfl (by kernel_rfl) (by kernel_rfl) (by kernel_rfl) (fun _ _ _ h => h) (by rfl) (fun w' hS => by obtain ⟨s1, s2⟩ := hS; go_simp) hS0 ?_
        try simp only [Act.put]
        refine last_two (i := 3) (k := 9) (by kernel_rfl) rfl rfl (fun K hQ => ?_) (fun K hQ => ?_)
        · go_simp
          refine (q1 _).mono ?_
          rintro e w' ⟨rfl, rfl⟩
          refine hQ.out _ _ (fun _ => hS0) ?_
          clear hQ
          try simp only [Act.put, List.setIfInBounds_toArray, List.set_cons_zero, List.set_cons_succ]
          refine last_two (i := 7) (k := 9) (by kernel_rfl) rfl rfl (fun K hQ => ?_) (fun K hQ => ?_)
          · go_simp
            refine (q2 _).mono ?_
            rintro e w' ⟨rfl, rfl⟩
            refine hQ.out _ _ (fun _ => hS0) ?_
            clear hQ
            try simp only [Act.put, List.setIfInBounds_toArray, List.set_cons_zero, List.set_cons_succ]
            refine last_take (x := 10) (hl := by kernel_rfl) (hix := by decide) (i := 8) (v := .agg #[.int .i64 x, .int .i64 y]) _ rfl rfl (by kernel_rfl) (by kernel_rfl) (by kernel_rfl) (fun _ _ _ h => h) (by rfl) (fun w' hS => by obtain ⟨s1, s2⟩ := hS; go_simp) hS0 ?_
            try simp only [Act.put, List.setIfInBounds_toArray]
            refine last_one (i := 9) (by kernel_rfl) rfl (fun K hQ => ?_)
            go_simp
            refine hQ.out _ _ (fun _ => hS1) ?_
            clear hQ
            try simp only [Act.put, List.setIfInBounds_toArray, List.set_cons_zero, List.set_cons_succ]
            refine last_one (i := 10) (by kernel_rfl) rfl (fun K hQ => ?_)
            obtain ⟨y0, y1, f0, f1⟩ := hP0.two
            go_simp
            refine hQ.out _ _ (fun h => absurd rfl h) ?_
            clear hQ
            refine last_done (by kernel_rfl) ?_ _
            show Exit.then _ _ Exit.normal _ _
            clear hS0 hS1 y0 y1 f0 f1
            go_wp2_with fail
            go_meet
            case rel => exact ⟨rfl, hP2, hL2⟩
          · go_simp
            refine hQ.out _ _ (fun _ => hS1) ?_
            clear hQ
            try simp only [Act.put, List.setIfInBounds_toArray, List.set_cons_zero, List.set_cons_succ]
            refine last_one (i := 7) (by kernel_rfl) rfl (fun K hQ => ?_)
            go_simp
            refine (q2 _).mono ?_
            rintro e w' ⟨rfl, rfl⟩
            refine hQ.out _ _ (fun _ => hS1) ?_
            clear hQ
            try simp only [Act.put, List.setIfInBounds_toArray, List.set_cons_zero, List.set_cons_succ]
            refine last_take (x := 10) (hl := by kernel_rfl) (hix := by decide) (i := 8) (v := .agg #[.int .i64 x, .int .i64 y]) _ rfl rfl (by kernel_rfl) (by kernel_rfl) (by kernel_rfl) (fun _ _ _ h => h) (by rfl) (fun w' hS => by obtain ⟨s1, s2⟩ := hS; go_simp) hS1 ?_
            try simp only [Act.put, List.setIfInBounds_toArray]
            refine last_one (i := 10) (by kernel_rfl) rfl (fun K hQ => ?_)
            obtain ⟨y0, y1, f0, f1⟩ := hP0.two
            go_simp
            refine hQ.out _ _ (fun h => absurd rfl h) ?_
            clear hQ
            refine last_done (by kernel_rfl) ?_ _
            show Exit.then _ _ Exit.normal _ _
            clear hS0 hS1 y0 y1 f0 f1
            go_wp2_with fail
            go_meet
            case rel => exact ⟨rfl, hP2, hL2⟩
        · go_simp
          refine hQ.out _ _ (fun _ => hS1) ?_
          clear hQ
          try simp only [Act.put, List.setIfInBounds_toArray, List.set_cons_zero, List.set_cons_succ]
          refine last_one (i := 3) (by kernel_rfl) rfl (fun K hQ => ?_)
          go_simp
          refine (q1 _).mono ?_
          rintro e w' ⟨rfl, rfl⟩
          refine hQ.out _ _ (fun _ => hS1) ?_
          clear hQ
          try simp only [Act.put, List.setIfInBounds_toArray, List.set_cons_zero, List.set_cons_succ]
          refine last_one (i := 7) (by kernel_rfl) rfl (fun K hQ => ?_)
          go_simp
          refine (q2 _).mono ?_
          rintro e w' ⟨rfl, rfl⟩
          refine hQ.out _ _ (fun _ => hS1) ?_
          clear hQ
          try simp only [Act.put, List.setIfInBounds_toArray, List.set_cons_zero, List.set_cons_succ]
          refine last_take (x := 10) (hl := by kernel_rfl) (hix := by decide) (i := 8) (v := .agg #[.int .i64 x, .int .i64 y]) _ rfl rfl (by kernel_rfl) (by kernel_rfl) (by kernel_rfl) (fun _ _ _ h => h) (by rfl) (fun w' hS => by obtain ⟨s1, s2⟩ := hS; go_simp) hS1 ?_
          try simp only [Act.put, List.setIfInBounds_toArray]
          refine last_one (i := 10) (by kernel_rfl) rfl (fun K hQ => ?_)
          obtain ⟨y0, y1, f0, f1⟩ := hP0.two
          go_simp
          refine hQ.out _ _ (fun h => absurd rfl h) ?_
          clear hQ
          refine last_done (by kernel_rfl) ?_ _
          show Exit.then _ _ Exit.normal _ _
          clear hS0 hS1 y0 y1 f0 f1
          go_wp2_with fail
          go_meet
          case rel => exact ⟨rfl, hP2, hL2⟩
      case rest =>
      obtain ⟨rfl, hP, hLc⟩ := hcut
      clear p1 p2 q1 q2
      replace hT := hT.below hLc
      replace hL := hL.trans (hLc.mono hL.size)
      have hPT : w1.heap.size ≠ W.heap.size := by omega
      obtain ⟨t0, t1, g0, g1'⟩ := hT.two
      obtain ⟨y0, y1, -, -⟩ := hP.two
      by_cases hok : (0 : Int) ≤ x ∧ x ≤ 31 ∧ (0 : Int) ≤ y ∧ y ≤ 31
      · obtain ⟨o1, o2, o3, o4⟩ := hok
        have hvv := hv2.out
        rw [if_pos ⟨o1, o2, o3, o4⟩] at hvv
        simp only [Option.map_some, Int.toNat_of_nonneg o1, Int.toNat_of_nonneg o3] at hvv
        have HV := Lib.hid hvv
        have z1 : decide ((0 : Int) ≤ x) = true := decide_eq_true o1
        have z2 : decide (x < 32) = true := decide_eq_true (by omega)
        have z3 : decide ((0 : Int) ≤ y) = true := decide_eq_true o3
        have z4 : decide (y < 32) = true := decide_eq_true (by omega)
        clear hv2 hvv
        have hT6 := (hT.set 0 (.int .i64 x)).set 1 (.int .i64 y)
        obtain ⟨u0, u1, -, -⟩ := Blk.two (p := .int .i64 x) (q := .int .i64 y) hT6
        have HU := Lib.hid (And.intro u0 u1)
        have hL6 := ((hL.setCell (p := ⟨W.heap.size, 0, none⟩) (Nat.le_refl _) (.int .i64 x)).setCell (p := ⟨W.heap.size, 1, none⟩) (Nat.le_refl _) (.int .i64 y)).drew
        have HZ := Lib.hid (start_yes HV.out hL6)
        clear u0 u1 hT6 hL6
        go_wp2_with fail
        go_region
        clear t0 t1 g0 g1' y0 y1
        go_wp2_with fail
        obtain ⟨u0, u1⟩ := HU.out
        refine bodyPost_ret (v := .tuple #[.agg #[.int .i64 x, .int .i64 y], .bool true]) (by simp [results, Tryz.results50, go_sem, *]) rfl HZ.out
      · have HV : Hid (startv s.data.toList = none) := hid (by rw [hv2.out, if_neg hok]; rfl)
        have hbad : (decide ((0 : Int) ≤ x) = false) ∨ (decide ((0 : Int) ≤ x) = true ∧ decide (x < 32) = false) ∨ (decide ((0 : Int) ≤ x) = true ∧ decide (x < 32) = true ∧ decide ((0 : Int) ≤ y) = false) ∨ (decide ((0 : Int) ≤ x) = true ∧ decide (x < 32) = true ∧ decide ((0 : Int) ≤ y) = true ∧ decide (y < 32) = false) := by
          by_cases q1 : (0 : Int) ≤ x
          · by_cases q2 : x < 32
            · by_cases q3 : (0 : Int) ≤ y
              · exact .inr (.inr (.inr ⟨decide_eq_true q1, decide_eq_true q2, decide_eq_true q3, decide_eq_false (by omega)⟩))
              · exact .inr (.inr (.inl ⟨decide_eq_true q1, decide_eq_true q2, decide_eq_false q3⟩))
            · exact .inr (.inl ⟨decide_eq_true q1, decide_eq_false q2⟩)
          · exact .inl (decide_eq_false q1)
        clear hv2 hok
        rcases hbad with z1 | ⟨z1, z2⟩ | ⟨z1, z2, z3⟩ | ⟨z1, z2, z3, z4⟩
        all_goals
          have hT6 := (hT.set 0 (.int .i64 x)).set 1 (.int .i64 y)
          obtain ⟨u0, u1, -, -⟩ := Blk.two (p := .int .i64 x) (q := .int .i64 y) hT6
          have HU := Lib.hid (And.intro u0 u1)
          have hL6 := ((hL.setCell (p := ⟨W.heap.size, 0, none⟩) (Nat.le_refl _) (.int .i64 x)).setCell (p := ⟨W.heap.size, 1, none⟩) (Nat.le_refl _) (.int .i64 y)).drew
          have HZ := Lib.hid (start_no x y HV.out hL6)
          clear u0 u1 hT6 hL6
          go_wp2_with fail
          go_region
          clear t0 t1 g0 g1' y0 y1
          go_wp2_with fail
          obtain ⟨u0, u1⟩ := HU.out
          refine bodyPost_ret (v := .tuple #[.agg #[.int .i64 x, .int .i64 y], .bool false]) (by simp [results, Tryz.results50, go_sem, *]) rfl HZ.out
    · have HV : Hid (startv s.data.toList = none) := hid (by rw [hv.out, if_neg ha])
      have hne : ¬ bs a = ⟨#[115, 116, 97, 114, 116]⟩ := fun q => ha (by
        have := congrArg (fun x : ByteArray => x.data.toList) q
        rw [bs_list] at this
        exact this)
      obtain ⟨u, hu⟩ : ∃ u, u = bs a := ⟨_, rfl⟩
      rw [← hu] at p0 hne
      have z0 := ba_lit (l := [115, 116, 97, 114, 116]) hne
      have z1 : (u.toList == [115, 116, 97, 114, 116]) = false := beq_eq_false_iff_ne.2 z0
      clear hv hu ha hne p1 p2 hlb hlc2 hK
      obtain ⟨t0, t1, g0, g1'⟩ := hT.two
      have hT6 := (hT.set 0 (.int .i64 0)).set 1 (.int .i64 0)
      obtain ⟨u0, u1, -, -⟩ := Blk.two (p := .int .i64 0) (q := .int .i64 0) hT6
      have HU := Lib.hid (And.intro u0 u1)
      clear u0 u1
      have hL6 := (hL.setCell (p := ⟨W.heap.size, 0, none⟩) (Nat.le_refl _) (.int .i64 0)).setCell (p := ⟨W.heap.size, 1, none⟩) (Nat.le_refl _) (.int .i64 0)
      have HZ := Lib.hid (start_no 0 0 HV.out hL6)
      clear hT hT6 hL hL6
      go_wp2_with fail
      obtain ⟨u0, u1⟩ := HU.out
      refine bodyPost_ret (v := .tuple #[.agg #[.int .i64 0, .int .i64 0], .bool false]) (by simp [results, Tryz.results50, go_sem, *]) rfl HZ.out
  · have HV := Lib.hid (start_not3 (s := s.data.toList) (by rw [← hls.out]; exact h3))
    have z4 : ((ls.length : Int) != 3) = true := by simp; omega
    clear hls hle h3 hst hK
    obtain ⟨t0, t1, g0, g1'⟩ := hT.two
    have hT6 := (hT.set 0 (.int .i64 0)).set 1 (.int .i64 0)
    obtain ⟨u0, u1, -, -⟩ := Blk.two (p := .int .i64 0) (q := .int .i64 0) hT6
    have HU := Lib.hid (And.intro u0 u1)
    clear u0 u1
    have hL6 := (hL.setCell (p := ⟨W.heap.size, 0, none⟩) (Nat.le_refl _) (.int .i64 0)).setCell (p := ⟨W.heap.size, 1, none⟩) (Nat.le_refl _) (.int .i64 0)
    have HZ := Lib.hid (start_no 0 0 HV.out hL6)
    clear hT hT6 hL hL6
    go_wp2_with fail
    obtain ⟨u0, u1⟩ := HU.out
    refine bodyPost_ret (v := .tuple #[.agg #[.int .i64 0, .int .i64 0], .bool false]) (by simp [results, Tryz.results50, go_sem, *]) rfl HZ.out

end Go.Proofs.YtmpbgfobiceehaaGreatDoor
