/-
  What the reference of mapfile answers: the first line.
-/
import Derived.Test.YtmpbgfobiceehaaGreatDoorMapRefI
namespace Go.Proofs.YtmpbgfobiceehaaGreatDoor
open Go.RowKit Go.Lib

theorem first_no {s : List UInt8} {W w' : World} (h : headv s = none) (hb : Below W.heap.size W w') : FirstPost s W (.returned (.tuple #[.agg #[.string ⟨#[]⟩, .int .i64 0, .int .i64 0, .slice none 0 0, .slice none 0 0], .bool false])) w' := .inl ⟨h, rfl, hb⟩

set_option maxRecDepth 100000 in
set_option maxHeartbeats 8000000 in
theorem rfirst_b (s : ByteArray) (W : World) (hs : s.size ≤ 100000) :
    Calls Tryz.prog 47 #[.string s] W (FirstPost s.data.toList W) := by
  have hsl : s.data.toList.length = s.size := (Lib.size_eq s).symm
  have hK := (Keep.nil W).alloc [.string ⟨#[]⟩, .int .i64 0, .int .i64 0, .slice none 0 0, .slice none 0 0] 27
  obtain ⟨ls, hls⟩ : ∃ ls, Hid (ls = parts 32 s.data.toList) := ⟨_, hid rfl⟩
  have hle : Hid (∀ x ∈ ls, x.length ≤ 100000) := hid (fun x hx => by
    rw [hls.out] at hx
    have := parts_le 32 _ x hx
    omega)
  have hll : ls.length ≤ 100001 := by
    rw [hls.out]
    have h : ∀ l : List UInt8, (parts 32 l).length ≤ l.length + 1 := by
      intro l
      induction l with
      | nil => simp [parts]
      | cons b l ih =>
        rw [parts]
        split
        · simp; omega
        · cases hp : parts 32 l with
          | nil => simp
          | cons y ys => rw [hp] at ih; simp at ih ⊢; omega
    have := h s.data.toList
    omega
  go_enter Tryz.func47, Tryz.ntmps47
  go_wp2_with fail
  ((with_reducible refine (rparts_space s _ hs ls hls).mono ?_); rintro e w1 ⟨g, cap, rfl, hst, hg1, hg2, hlc, hb⟩)
  replace hK := hK.call hb
  have hz := hb.size
  have hT := hK.one
  have hL := hK.old
  simp only [World.size_alloc] at hg1 hz
  clear hb
  by_cases h4 : ls.length = 4
  · obtain ⟨a, b, c, d, rfl⟩ := four_of ls h4
    have p0 := hst 0 (by simp)
    have p1 := hst 1 (by simp)
    have p2 := hst 2 (by simp)
    have p3 := hst 3 (by simp)
    simp only [List.getElem_cons_zero, List.getElem_cons_succ] at p0 p1 p2 p3
    have hv : Hid (headv s.data.toList = if a = mapW ∧ nameB b = true then (bothR c d 1 32).map fun p => (b, p) else none) := hid (by rw [head_parts, ← hls.out])
    have hlb : (bs b).size ≤ 100000 := by rw [bs_size]; exact hle.out b (by simp)
    have hlc2 : (bs c).size ≤ 100000 := by rw [bs_size]; exact hle.out c (by simp)
    have hld : (bs d).size ≤ 100000 := by rw [bs_size]; exact hle.out d (by simp)
    simp only [List.length_cons, List.length_nil] at hlc ⊢
    clear hls hle hll h4 hst hK
    by_cases ha : a = mapW
    · have ea : bs a = ⟨#[109, 97, 112]⟩ := by rw [ha]; rfl
      rw [ea] at p0
      obtain ⟨nb, hnb⟩ : ∃ n, Hid (n = nameB (bs b).data.toList) := ⟨_, hid rfl⟩
      have hnb2 : nameB b = nb := by rw [hnb.out, bs_list]
      cases nb with
      | false =>
        have HV : Hid (headv s.data.toList = none) := hid (by rw [hv.out, if_neg (fun q => by rw [hnb2] at q; cases q.2)])
        clear hv hnb2 ha ea
        go_wp2_with fail
        ((with_reducible refine (rname_b _ false _ hlb hnb).mono ?_); rintro e w2 ⟨rfl, rfl⟩)
        clear p0 p1 p2 p3 hlc2 hld hlb hnb
        obtain ⟨t0, t1, t2, t3, t4⟩ := low5 hT (Below.refl _ _)
        obtain ⟨g0, g1', g2', g3, g4⟩ : _ ∧ _ ∧ _ ∧ _ ∧ _ := ⟨hT.frozen 0, hT.frozen 1, hT.frozen 2, hT.frozen 3, hT.frozen 4⟩
        have hT6 := ((((hT.set 0 (.string ⟨#[]⟩)).set 1 (.int .i64 0)).set 2 (.int .i64 0)).set 3 (.slice none 0 0)).set 4 (.slice none 0 0)
        obtain ⟨u0, u1, u2, u3, u4⟩ : _ ∧ _ ∧ _ ∧ _ ∧ _ := ⟨hT6.cell 0, hT6.cell 1, hT6.cell 2, hT6.cell 3, hT6.cell 4⟩
        simp only [List.set_cons_zero, List.set_cons_succ, List.getElem?_cons_zero, List.getElem?_cons_succ] at u0 u1 u2 u3 u4
        have HU := Lib.hid (And.intro u0 (And.intro u1 (And.intro u2 (And.intro u3 u4))))
        clear u0 u1 u2 u3 u4
        have hL6 := (((((hL.setCell (p := ⟨W.heap.size, 0, none⟩) (Nat.le_refl _) (.string ⟨#[]⟩)).setCell (p := ⟨W.heap.size, 1, none⟩) (Nat.le_refl _) (.int .i64 0)).setCell (p := ⟨W.heap.size, 2, none⟩) (Nat.le_refl _) (.int .i64 0)).setCell (p := ⟨W.heap.size, 3, none⟩) (Nat.le_refl _) (.slice none 0 0)).setCell (p := ⟨W.heap.size, 4, none⟩) (Nat.le_refl _) (.slice none 0 0))
        have HZ := Lib.hid (first_no HV.out hL6)
        clear hT hT6 hL hL6
        go_wp2_with fail
        obtain ⟨u0, u1, u2, u3, u4⟩ := HU.out
        refine bodyPost_ret (v := .tuple #[.agg #[.string ⟨#[]⟩, .int .i64 0, .int .i64 0, .slice none 0 0, .slice none 0 0], .bool false]) (by simp [results, Tryz.results47, go_sem, *]) rfl HZ.out
      | true =>
        obtain ⟨x, hx⟩ : ∃ x, Hid (x = refNum (bs c).data.toList) := ⟨_, hid rfl⟩
        obtain ⟨y, hy⟩ : ∃ x, Hid (x = refNum (bs d).data.toList) := ⟨_, hid rfl⟩
        have hv2 : Hid (headv s.data.toList = (if (1 : Int) ≤ x ∧ x ≤ 32 ∧ (1 : Int) ≤ y ∧ y ≤ 32 then some (x.toNat, y.toNat) else none).map fun p => (b, p)) := hid (by
          rw [hv.out, if_pos ⟨ha, hnb2⟩, both_ref c d 1 32 (by omega), hx.out, hy.out, bs_list, bs_list]
          rfl)
        obtain ⟨bx, hbx⟩ : ∃ n, n = bs b := ⟨_, rfl⟩
        clear hv hnb2 ha ea
        rw [← hbx] at p1 hlb hnb
        replace hbx := Lib.hid hbx
        go_wp2_with fail
        ((with_reducible refine (rname_b _ true _ hlb hnb).mono ?_); rintro e w2 ⟨rfl, rfl⟩)
        go_wp2_with fail
        ((with_reducible refine (rnumber_b _ x _ hlc2 hx).mono ?_); rintro e w2 ⟨rfl, rfl⟩)
        go_wp2_with fail
        ((with_reducible refine (rnumber_b _ y _ hld hy).mono ?_); rintro e w2 ⟨rfl, rfl⟩)
        clear p0 p2 p3 hlc2 hld hlb hnb hx hy
        by_cases hok : (1 : Int) ≤ x ∧ x ≤ 32 ∧ (1 : Int) ≤ y ∧ y ≤ 32
        · have hvv := hv2.out
          rw [if_pos hok] at hvv
          obtain ⟨o1, o2, o3, o4⟩ := hok
          obtain ⟨w, rfl⟩ := Int.eq_ofNat_of_zero_le (show 0 ≤ x by omega)
          obtain ⟨h, rfl⟩ := Int.eq_ofNat_of_zero_le (show 0 ≤ y by omega)
          simp only [Int.toNat_natCast, Option.map_some] at hvv
          have HV := Lib.hid hvv
          have z1 : decide ((w : Int) < 1) = false := decide_eq_false (by omega)
          have z2 : decide ((32 : Int) < w) = false := decide_eq_false (by omega)
          have z3 : decide ((h : Int) < 1) = false := decide_eq_false (by omega)
          have z4 : decide ((32 : Int) < h) = false := decide_eq_false (by omega)
          have l2 : (1 : Int) < 0 + 1 + 1 + 1 + 1 := by decide
          clear hv2 hvv
          go_wp2_with fail
          clear z1 z2 z3 z4 l2
          obtain ⟨i0, hi, hz0, hz1, hz2⟩ := info_cut infoCell
          have hw32 : w ≤ 32 := by omega
          have hh32 : h ≤ 32 := by omega
          have hwh : w * h ≤ 1024 := Nat.mul_le_mul hw32 hh32
          obtain ⟨W5, hmk, hown, hg⟩ := run_make_full w1.drew w1.heap.size 22 44 i0 (.agg #[.int .i64 0, .int .i64 0, .int .i64 0]) 3 Tryz.underlying22 hi hz0 hz1 .i64 .i64 (w * h) (by rw [hz2]; omega) (by unfold maxLen; omega) (Nat.le_refl _)
          rw [Int.natCast_mul] at hmk
          have hwr : IntKind.i64.wrap ((w : Int) * h) = (w : Int) * h := by
            have h1 : (w : Int) * h = ((w * h : Nat) : Int) := (Int.natCast_mul w h).symm
            rw [h1]; simp [IntKind.wrap, IntKind.signed, IntKind.bits]; omega
          have hmx : Tryz.prog.follows .mixedOrders = true := by kernel_rfl
          have hS0 : w1.drew.cell? ⟨g, 1, none⟩ = some (.string bx) := p1
          have hT5 := hT.drew.grown hg (fun k e => by cases e)
          have hL5 : Below w1.heap.size w1 W5 := ((Below.refl _ w1).drew).grown hg (Nat.le_refl _) (fun k e => by cases e)
          have hS5 : W5.cell? ⟨g, 1, none⟩ = some (.string bx) := (hL5.cell (p := ⟨g, 1, none⟩) hg2).trans p1
          have hgT : g ≠ W.heap.size := by omega
          have hS6 := cell_far (i := 4) (x := .slice none 0 0) (cell_far (i := 3) (x := .slice (some ⟨w1.heap.size, 0, none⟩) (w * h) (w * h)) (cell_far (i := 2) (x := .int .i64 h) (cell_far (i := 1) (x := .int .i64 w) (cell_far (i := 0) (x := .string bx) hS5 hgT) hgT) hgT) hgT) hgT
          have l1 : (1 : Int) < 4 := by decide
          have lcap : 4 ≤ cap := by omega
          refine wp_region_any hmx (wpAny_of_last (x := 12) (S := fun w' => w'.cell? ⟨g, 1, none⟩ = some (.string bx)) _ _ _ _ ?_)
          show wpAnyL _ _ _ _ _ _ _ _ _ w1.drew
          refine last_take (x := 12) (hl := by kernel_rfl) (hix := by decide) (i := 0) (v := .slice (some ⟨g, 0, none⟩) 4 cap) _ rfl rfl (by kernel_rfl) (by kernel_rfl) (by kernel_rfl) (fun _ _ _ h => h) (by rfl) (fun w' hS => by go_simp) hS0 ?_
          try simp only [Act.put, List.setIfInBounds_toArray]
          refine last_take (x := 12) (hl := by kernel_rfl) (hix := by decide) (i := 1) (v := .pointer (some ⟨g, 1, none⟩)) _ rfl rfl (by kernel_rfl) (by kernel_rfl) (by kernel_rfl) (fun _ _ _ h => h) (by rfl) (fun w' hS => by go_simp) hS0 ?_
          try simp only [Act.put]
          refine last_take (x := 12) (hl := by kernel_rfl) (hix := by decide) (i := 2) (v := .string bx) _ rfl rfl (by kernel_rfl) (by kernel_rfl) (by kernel_rfl) (fun _ _ _ h => h) (by rfl) (fun w' hS => by go_simp) hS0 ?_
          try simp only [Act.put]
          refine last_take (x := 12) (hl := by kernel_rfl) (hix := by decide) (i := 3) (v := .int .i64 w) _ rfl rfl (by kernel_rfl) (by kernel_rfl) (by kernel_rfl) (fun _ _ _ h => h) (by rfl) (fun w' hS => by go_simp) hS0 ?_
          try simp only [Act.put]
          refine last_take (x := 12) (hl := by kernel_rfl) (hix := by decide) (i := 4) (v := .int .i64 h) _ rfl rfl (by kernel_rfl) (by kernel_rfl) (by kernel_rfl) (fun _ _ _ h => h) (by rfl) (fun w' hS => by go_simp) hS0 ?_
          try simp only [Act.put]
          refine last_take (x := 12) (hl := by kernel_rfl) (hix := by decide) (i := 5) (v := .int .i64 w) _ rfl rfl (by kernel_rfl) (by kernel_rfl) (by kernel_rfl) (fun _ _ _ h => h) (by rfl) (fun w' hS => by go_simp) hS0 ?_
          try simp only [Act.put]
          refine last_take (x := 12) (hl := by kernel_rfl) (hix := by decide) (i := 6) (v := .int .i64 h) _ rfl rfl (by kernel_rfl) (by kernel_rfl) (by kernel_rfl) (fun _ _ _ h => h) (by rfl) (fun w' hS => by go_simp) hS0 ?_
          try simp only [Act.put]
          refine last_take (x := 12) (hl := by kernel_rfl) (hix := by decide) (i := 7) (v := .int .i64 ((w : Int) * h)) _ rfl rfl (by kernel_rfl) (by kernel_rfl) (by kernel_rfl) (fun _ _ _ h => h) (by rfl) (fun w' hS => by go_simp) hS0 ?_
          try simp only [Act.put]
          refine last_one (i := 8) (by kernel_rfl) rfl (fun K hK => ?_)
          go_simp
          refine hK.out _ _ (fun _ => hS5) ?_
          clear hK
          try simp only [Act.put, List.setIfInBounds_toArray, List.set_cons_zero, List.set_cons_succ]
          refine last_one (i := 9) (by kernel_rfl) rfl (fun K hK => ?_)
          go_simp
          refine hK.out _ _ (fun _ => hS5) ?_
          clear hK
          try simp only [Act.put, List.setIfInBounds_toArray, List.set_cons_zero, List.set_cons_succ]
          refine last_one (i := 10) (by kernel_rfl) rfl (fun K hK => ?_)
          go_simp
          refine hK.out _ _ (fun _ => hS5) ?_
          clear hK
          try simp only [Act.put, List.setIfInBounds_toArray, List.set_cons_zero, List.set_cons_succ]
          obtain ⟨t0, t1, t2, t3, t4⟩ := low5 hT5 (Below.refl _ _)
          obtain ⟨g0, g1', g2', g3, g4⟩ : _ ∧ _ ∧ _ ∧ _ ∧ _ := ⟨hT5.frozen 0, hT5.frozen 1, hT5.frozen 2, hT5.frozen 3, hT5.frozen 4⟩
          refine last_one (i := 11) (by kernel_rfl) rfl (fun K hK => ?_)
          go_simp
          refine hK.out _ _ (fun _ => hS6) ?_
          clear hK
          try simp only [Act.put, List.setIfInBounds_toArray, List.set_cons_zero, List.set_cons_succ]
          refine last_one (i := 12) (by kernel_rfl) rfl (fun K hK => ?_)
          go_simp
          refine hK.out _ _ (fun h => absurd rfl h) ?_
          clear hK
          try simp only [Act.put, List.setIfInBounds_toArray, List.set_cons_zero, List.set_cons_succ]
          refine last_done (by kernel_rfl) ?_ _
          have hcb : CB W5 w1.heap.size (List.replicate (w * h) C3.zero) := made_zero hown
          have hwT : w1.heap.size ≠ W.heap.size := by omega
          have hcb6 := ((((Blk.far hcb (i := 0) (.string bx) hwT).far (i := 1) (.int .i64 w) hwT).far (i := 2) (.int .i64 h) hwT).far (i := 3) (.slice (some ⟨w1.heap.size, 0, none⟩) (w * h) (w * h)) hwT).far (i := 4) (.slice none 0 0) hwT
          have hL6 := (((((hL.trans (hL5.mono hL.size)).setCell (p := ⟨W.heap.size, 0, none⟩) (Nat.le_refl _) (.string bx)).setCell (p := ⟨W.heap.size, 1, none⟩) (Nat.le_refl _) (.int .i64 w)).setCell (p := ⟨W.heap.size, 2, none⟩) (Nat.le_refl _) (.int .i64 h)).setCell (p := ⟨W.heap.size, 3, none⟩) (Nat.le_refl _) (.slice (some ⟨w1.heap.size, 0, none⟩) (w * h) (w * h))).setCell (p := ⟨W.heap.size, 4, none⟩) (Nat.le_refl _) (.slice none 0 0)
          have hT6 := ((((hT5.set 0 (.string bx)).set 1 (.int .i64 w)).set 2 (.int .i64 h)).set 3 (.slice (some ⟨w1.heap.size, 0, none⟩) (w * h) (w * h))).set 4 (.slice none 0 0)
          obtain ⟨u0, u1, u2, u3, u4⟩ : _ ∧ _ ∧ _ ∧ _ ∧ _ := ⟨hT6.cell 0, hT6.cell 1, hT6.cell 2, hT6.cell 3, hT6.cell 4⟩
          simp only [List.set_cons_zero, List.set_cons_succ, List.getElem?_cons_zero, List.getElem?_cons_succ] at u0 u1 u2 u3 u4
          have HU := Lib.hid (And.intro u0 (And.intro u1 (And.intro u2 (And.intro u3 u4))))
          have HE : Hid (FirstPost s.data.toList W (.returned (.tuple #[.agg #[.string bx, .int .i64 w, .int .i64 h, .slice (some ⟨w1.heap.size, 0, none⟩) (w * h) (w * h), .slice none 0 0], .bool true])) (((((W5.setCell ⟨W.heap.size, 0, none⟩ (.string bx)).setCell ⟨W.heap.size, 1, none⟩ (.int .i64 w)).setCell ⟨W.heap.size, 2, none⟩ (.int .i64 h)).setCell ⟨W.heap.size, 3, none⟩ (.slice (some ⟨w1.heap.size, 0, none⟩) (w * h) (w * h))).setCell ⟨W.heap.size, 4, none⟩ (.slice none 0 0))) := hid (.inr ⟨b, w, h, w1.heap.size, HV.out, by rw [hbx.out], hcb6, by omega, hL6⟩)
          clear hcb hcb6 hL6 hT6 HV hmk hown hg hT5 hS5 hS6 hS0 hT hL u0 u1 u2 u3 u4 t0 t1 t2 t3 t4 g0 g1' g2' g3 g4 p1 hL5
          show Exit.then _ _ Exit.normal _ _
          go_wp2_with fail
          obtain ⟨u0, u1, u2, u3, u4⟩ := HU.out
          refine bodyPost_ret (v := .tuple #[.agg #[.string bx, .int .i64 w, .int .i64 h, .slice (some ⟨w1.heap.size, 0, none⟩) (w * h) (w * h), .slice none 0 0], .bool true]) (by simp [results, Tryz.results47, go_sem, *]) rfl HE.out
        · have HV : Hid (headv s.data.toList = none) := hid (by rw [hv2.out, if_neg hok]; rfl)
          have hbad : (decide (x < 1) = true) ∨ (decide (x < 1) = false ∧ decide (32 < x) = true) ∨ (decide (x < 1) = false ∧ decide (32 < x) = false ∧ decide (y < 1) = true) ∨ (decide (x < 1) = false ∧ decide (32 < x) = false ∧ decide (y < 1) = false ∧ decide (32 < y) = true) := by
            by_cases q1 : x < 1
            · exact .inl (decide_eq_true q1)
            · by_cases q2 : 32 < x
              · exact .inr (.inl ⟨decide_eq_false q1, decide_eq_true q2⟩)
              · by_cases q3 : y < 1
                · exact .inr (.inr (.inl ⟨decide_eq_false q1, decide_eq_false q2, decide_eq_true q3⟩))
                · exact .inr (.inr (.inr ⟨decide_eq_false q1, decide_eq_false q2, decide_eq_false q3, decide_eq_true (by omega)⟩))
          clear hv2 hok p1 hbx
          rcases hbad with z1 | ⟨z1, z2⟩ | ⟨z1, z2, z3⟩ | ⟨z1, z2, z3, z4⟩
          all_goals
            obtain ⟨t0, t1, t2, t3, t4⟩ := low5 hT (Below.refl _ _)
            obtain ⟨g0, g1', g2', g3, g4⟩ : _ ∧ _ ∧ _ ∧ _ ∧ _ := ⟨hT.frozen 0, hT.frozen 1, hT.frozen 2, hT.frozen 3, hT.frozen 4⟩
            have hT6 := ((((hT.set 0 (.string ⟨#[]⟩)).set 1 (.int .i64 0)).set 2 (.int .i64 0)).set 3 (.slice none 0 0)).set 4 (.slice none 0 0)
            obtain ⟨u0, u1, u2, u3, u4⟩ : _ ∧ _ ∧ _ ∧ _ ∧ _ := ⟨hT6.cell 0, hT6.cell 1, hT6.cell 2, hT6.cell 3, hT6.cell 4⟩
            simp only [List.set_cons_zero, List.set_cons_succ, List.getElem?_cons_zero, List.getElem?_cons_succ] at u0 u1 u2 u3 u4
            have HU := Lib.hid (And.intro u0 (And.intro u1 (And.intro u2 (And.intro u3 u4))))
            clear u0 u1 u2 u3 u4
            have hL6 := (((((hL.setCell (p := ⟨W.heap.size, 0, none⟩) (Nat.le_refl _) (.string ⟨#[]⟩)).setCell (p := ⟨W.heap.size, 1, none⟩) (Nat.le_refl _) (.int .i64 0)).setCell (p := ⟨W.heap.size, 2, none⟩) (Nat.le_refl _) (.int .i64 0)).setCell (p := ⟨W.heap.size, 3, none⟩) (Nat.le_refl _) (.slice none 0 0)).setCell (p := ⟨W.heap.size, 4, none⟩) (Nat.le_refl _) (.slice none 0 0))
            have HZ := Lib.hid (first_no HV.out hL6)
            clear hT hT6 hL hL6
            go_wp2_with fail
            obtain ⟨u0, u1, u2, u3, u4⟩ := HU.out
            refine bodyPost_ret (v := .tuple #[.agg #[.string ⟨#[]⟩, .int .i64 0, .int .i64 0, .slice none 0 0, .slice none 0 0], .bool false]) (by simp [results, Tryz.results47, go_sem, *]) rfl HZ.out
    · have HV : Hid (headv s.data.toList = none) := hid (by rw [hv.out, if_neg (fun q => ha q.1)])
      have hne : ¬ bs a = ⟨#[109, 97, 112]⟩ := fun q => ha (by
        have := congrArg (fun x : ByteArray => x.data.toList) q
        rw [bs_list] at this
        exact this)
      obtain ⟨u, hu⟩ : ∃ u, u = bs a := ⟨_, rfl⟩
      rw [← hu] at p0 hne
      have z0 := ba_lit (l := [109, 97, 112]) hne
      clear hv hu ha hne p1 p2 p3 hlb hlc2 hld
      obtain ⟨t0, t1, t2, t3, t4⟩ := low5 hT (Below.refl _ _)
      obtain ⟨g0, g1', g2', g3, g4⟩ : _ ∧ _ ∧ _ ∧ _ ∧ _ := ⟨hT.frozen 0, hT.frozen 1, hT.frozen 2, hT.frozen 3, hT.frozen 4⟩
      have hT6 := ((((hT.set 0 (.string ⟨#[]⟩)).set 1 (.int .i64 0)).set 2 (.int .i64 0)).set 3 (.slice none 0 0)).set 4 (.slice none 0 0)
      obtain ⟨u0, u1, u2, u3, u4⟩ : _ ∧ _ ∧ _ ∧ _ ∧ _ := ⟨hT6.cell 0, hT6.cell 1, hT6.cell 2, hT6.cell 3, hT6.cell 4⟩
      simp only [List.set_cons_zero, List.set_cons_succ, List.getElem?_cons_zero, List.getElem?_cons_succ] at u0 u1 u2 u3 u4
      have HU := Lib.hid (And.intro u0 (And.intro u1 (And.intro u2 (And.intro u3 u4))))
      clear u0 u1 u2 u3 u4
      have hL6 := (((((hL.setCell (p := ⟨W.heap.size, 0, none⟩) (Nat.le_refl _) (.string ⟨#[]⟩)).setCell (p := ⟨W.heap.size, 1, none⟩) (Nat.le_refl _) (.int .i64 0)).setCell (p := ⟨W.heap.size, 2, none⟩) (Nat.le_refl _) (.int .i64 0)).setCell (p := ⟨W.heap.size, 3, none⟩) (Nat.le_refl _) (.slice none 0 0)).setCell (p := ⟨W.heap.size, 4, none⟩) (Nat.le_refl _) (.slice none 0 0))
      have HZ := Lib.hid (first_no HV.out hL6)
      clear hT hT6 hL hL6
      go_wp2_with fail
      obtain ⟨u0, u1, u2, u3, u4⟩ := HU.out
      refine bodyPost_ret (v := .tuple #[.agg #[.string ⟨#[]⟩, .int .i64 0, .int .i64 0, .slice none 0 0, .slice none 0 0], .bool false]) (by simp [results, Tryz.results47, go_sem, *]) rfl HZ.out
  · have HV := Lib.hid (head_not4 (s := s.data.toList) (by rw [← hls.out]; exact h4))
    have z4 : ((ls.length : Int) != 4) = true := by simp; omega
    clear hls hle h4 hst hK
    obtain ⟨t0, t1, t2, t3, t4⟩ := low5 hT (Below.refl _ _)
    obtain ⟨g0, g1', g2', g3, g4⟩ : _ ∧ _ ∧ _ ∧ _ ∧ _ := ⟨hT.frozen 0, hT.frozen 1, hT.frozen 2, hT.frozen 3, hT.frozen 4⟩
    have hT6 := ((((hT.set 0 (.string ⟨#[]⟩)).set 1 (.int .i64 0)).set 2 (.int .i64 0)).set 3 (.slice none 0 0)).set 4 (.slice none 0 0)
    obtain ⟨u0, u1, u2, u3, u4⟩ : _ ∧ _ ∧ _ ∧ _ ∧ _ := ⟨hT6.cell 0, hT6.cell 1, hT6.cell 2, hT6.cell 3, hT6.cell 4⟩
    simp only [List.set_cons_zero, List.set_cons_succ, List.getElem?_cons_zero, List.getElem?_cons_succ] at u0 u1 u2 u3 u4
    have HU := Lib.hid (And.intro u0 (And.intro u1 (And.intro u2 (And.intro u3 u4))))
    clear u0 u1 u2 u3 u4
    have hL6 := (((((hL.setCell (p := ⟨W.heap.size, 0, none⟩) (Nat.le_refl _) (.string ⟨#[]⟩)).setCell (p := ⟨W.heap.size, 1, none⟩) (Nat.le_refl _) (.int .i64 0)).setCell (p := ⟨W.heap.size, 2, none⟩) (Nat.le_refl _) (.int .i64 0)).setCell (p := ⟨W.heap.size, 3, none⟩) (Nat.le_refl _) (.slice none 0 0)).setCell (p := ⟨W.heap.size, 4, none⟩) (Nat.le_refl _) (.slice none 0 0))
    have HZ := Lib.hid (first_no HV.out hL6)
    clear hT hT6 hL hL6
    go_wp2_with fail
    obtain ⟨u0, u1, u2, u3, u4⟩ := HU.out
    refine bodyPost_ret (v := .tuple #[.agg #[.string ⟨#[]⟩, .int .i64 0, .int .i64 0, .slice none 0 0, .slice none 0 0], .bool false]) (by simp [results, Tryz.results47, go_sem, *]) rfl HZ.out

end Go.Proofs.YtmpbgfobiceehaaGreatDoor
