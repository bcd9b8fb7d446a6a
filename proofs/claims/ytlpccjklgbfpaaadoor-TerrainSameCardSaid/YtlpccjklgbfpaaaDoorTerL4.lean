/-
  Laws of terrain: classes, opposite steps.
-/
import Derived.Test.YtlpccjklgbfpaaaDoorTerL2
import Derived.Test.YtlpccjklgbfpaaaDoorTerSymMath
namespace Go.Proofs.YtlpccjklgbfpaaaDoor
open Go.RowKit Go.Lib

set_option maxRecDepth 100000 in
set_option maxHeartbeats 4000000 in
theorem law_classes {E : World → Prop} (H : TerHave E) (m : M3) (s : Value) (bl : List Bool) (l : Value) (c d x y : Int) (W : World) (hE : E W) (hn : MapNum m) (id : I64 d) (ix : I64 x) (iy : I64 y) (hr : RowAt W s m.cs) (hl : BitsAt W l bl) :
    Calls Tryd.prog 7 #[.agg #[.int .i64 m.w, .int .i64 m.h, s], l, .agg #[.int .i64 c, .int .i64 d, .int .i64 x, .int .i64 y]] W fun e w' => e = .returned (.bool true) ∧ Below W.heap.size W w' := by
  obtain ⟨f1, hf1⟩ : ∃ b, Hid (b = mayv m bl 1 x y d) := ⟨_, hid rfl⟩
  obtain ⟨g1, hg1⟩ : ∃ b, Hid (b = costv m bl 1 x y d) := ⟨_, hid rfl⟩
  obtain ⟨f2, hf2⟩ : ∃ b, Hid (b = mayv m bl 2 x y d) := ⟨_, hid rfl⟩
  obtain ⟨g2, hg2⟩ : ∃ b, Hid (b = costv m bl 2 x y d) := ⟨_, hid rfl⟩
  obtain ⟨f3, hf3⟩ : ∃ b, Hid (b = mayv m bl 3 x y d) := ⟨_, hid rfl⟩
  obtain ⟨g3, hg3⟩ : ∃ b, Hid (b = costv m bl 3 x y d) := ⟨_, hid rfl⟩
  have h12 : f1 = true → f2 = true ∧ g1 = g2 := fun h => by rw [hf1.out] at h; rw [hf2.out, hg1.out, hg2.out]; exact may12 h
  have h23 : f2 = true → f3 = true ∧ g3 ≤ g2 := fun h => by rw [hf2.out] at h; rw [hf3.out, hg3.out, hg2.out]; exact may23 h
  have hK := ((Keep.nil W).alloc [.int .i64 m.w, .int .i64 m.h, s] 24).alloc [.int .i64 c, .int .i64 d, .int .i64 x, .int .i64 y] 42
  replace hr := hr.below hK.old
  replace hl := hl.below hK.old
  simp only [World.size_alloc] at hK
  obtain ⟨p, j, rfl, hm, _⟩ := _root_.id hl
  unfold maxLen at hm
  go_enter Tryd.func7, Tryd.ntmps7
  go_upto_region 1 with fail
  generalize ((W.alloc (.cells [Value.int .i64 m.w, .int .i64 m.h, s].toArray 24)).alloc (.cells [Value.int .i64 c, .int .i64 d, .int .i64 x, .int .i64 y].toArray 42)) = V at *
  obtain ⟨hP, hM⟩ := hK.two
  obtain ⟨q0, r0, rfl⟩ := hr.slice
  obtain ⟨_, _, _, _, _, _, _⟩ := low34 hM hP (Below.refl _ _)
  by_cases h1 : 2000 < m.cs.length
  · go_wp2_with fail
    ((with_reducible refine (huge_any m _ true _ hr (hid (decide_eq_true h1).symm)).mono ?_); rintro e w1 ⟨rfl, hb1⟩)
    replace hK := hK.call hb1
    go_wp2_with fail
    ((with_reducible refine (awake_any H _ (H.keep hE hK.old)).mono ?_); rintro e w2 ⟨rfl, hb2⟩)
    replace hK := hK.call hb2
    go_wp2_with fail
    go_ret
    exact ⟨rfl, hK.old⟩
  · have hh := hid (decide_eq_false h1).symm
    have hO := hn.ok (by omega)
    by_cases h2 : 3000 < bl.length
    · have z : decide ((3000 : Int) < (bl.length : Int)) = true := decide_eq_true (by omega)
      clear h12 h23
      go_wp2_with fail
      ((with_reducible refine (huge_any m _ false _ hr hh).mono ?_); rintro e w1 ⟨rfl, hb1⟩)
      replace hK := hK.call hb1
      go_wp2_with fail
      ((with_reducible refine (awake_any H _ (H.keep hE hK.old)).mono ?_); rintro e w2 ⟨rfl, hb2⟩)
      replace hK := hK.call hb2
      go_wp2_with fail
      go_ret
      exact ⟨rfl, hK.old⟩
    · have z : decide ((3000 : Int) < (bl.length : Int)) = false := decide_eq_false (by omega)
      have z2 : bl.length ≤ 3000 := by omega
      have h12' := hid h12
      have h23' := hid h23
      clear h12 h23
      have k1 := fun w hE hr hl => H.step m (.slice q0 m.cs.length r0) bl (.slice p bl.length j) 1 x y d f1 g1 w hE hO z2 ⟨by decide, by decide⟩ ix iy id hr hl hf1 hg1
      have k2 := fun w hE hr hl => H.step m (.slice q0 m.cs.length r0) bl (.slice p bl.length j) 2 x y d f2 g2 w hE hO z2 ⟨by decide, by decide⟩ ix iy id hr hl hf2 hg2
      have k3 := fun w hE hr hl => H.step m (.slice q0 m.cs.length r0) bl (.slice p bl.length j) 3 x y d f3 g3 w hE hO z2 ⟨by decide, by decide⟩ ix iy id hr hl hf3 hg3
      go_wp2_with fail
      ((with_reducible refine (huge_any m _ false _ hr hh).mono ?_); rintro e w1 ⟨rfl, hb1⟩)
      replace hK := hK.call hb1
      replace hr := hr.below hb1
      replace hl := hl.below hb1
      obtain ⟨_, _, _, _, _, _, _⟩ := low34 hM hP hb1
      clear hP hM hb1
      obtain ⟨hP, hM⟩ := hK.two
      go_wp2_with fail
      ((with_reducible refine (k1 _ (H.keep hE hK.old) hr hl).mono ?_); rintro e w2 ⟨rfl, hb2⟩)
      replace hK := hK.call hb2
      replace hr := hr.below hb2
      replace hl := hl.below hb2
      obtain ⟨_, _, _, _, _, _, _⟩ := low34 hM hP hb2
      clear hP hM hb2
      obtain ⟨hP, hM⟩ := hK.two
      go_wp2_with fail
      ((with_reducible refine (k2 _ (H.keep hE hK.old) hr hl).mono ?_); rintro e w3 ⟨rfl, hb3⟩)
      replace hK := hK.call hb3
      replace hr := hr.below hb3
      replace hl := hl.below hb3
      obtain ⟨_, _, _, _, _, _, _⟩ := low34 hM hP hb3
      clear hP hM hb3 k1 k2
      go_wp2_with fail
      ((with_reducible refine (k3 _ (H.keep hE hK.old) hr hl).mono ?_); rintro e w4 ⟨rfl, hb4⟩)
      replace hK := hK.call hb4
      clear hb4 k3
      have h12 := h12'.out
      have h23 := h23'.out
      clear h12' h23' hf1 hf2 hf3 hg1 hg2 hg3
      cases f1 with
      | true =>
        obtain ⟨rfl, rfl⟩ := h12 rfl
        obtain ⟨rfl, h5⟩ := h23 rfl
        have z5 : decide (g3 ≤ g1) = true := decide_eq_true h5
        clear h12 h23
        go_wp2_with fail
        ((with_reducible refine (awake_any H _ (H.keep hE hK.old)).mono ?_); rintro e w5 ⟨rfl, hb5⟩)
        replace hK := hK.call hb5
        go_wp2_with fail
        go_ret
        exact ⟨rfl, hK.old⟩
      | false =>
        clear h12
        cases f2 with
        | true =>
          obtain ⟨rfl, h5⟩ := h23 rfl
          have z5 : decide (g3 ≤ g2) = true := decide_eq_true h5
          clear h23
          go_wp2_with fail
          ((with_reducible refine (awake_any H _ (H.keep hE hK.old)).mono ?_); rintro e w5 ⟨rfl, hb5⟩)
          replace hK := hK.call hb5
          go_wp2_with fail
          go_ret
          exact ⟨rfl, hK.old⟩
        | false =>
          clear h23
          go_wp2_with fail
          ((with_reducible refine (awake_any H _ (H.keep hE hK.old)).mono ?_); rintro e w5 ⟨rfl, hb5⟩)
          replace hK := hK.call hb5
          go_wp2_with fail
          go_ret
          exact ⟨rfl, hK.old⟩

theorem Keep.tail {w W : World} {L : List (Nat × List Value × TypeId)} {e : Nat × List Value × TypeId} (h : Keep w W (e :: L)) : Keep w W L := ⟨fun f hf => h.blks f (List.mem_cons_of_mem _ hf), h.old⟩
/-- What grid's In is held to. -/
abbrev InHave : Prop := ∀ (w h x y : Int) (b : Bool) (W : World), I64 w → I64 h → I64 x → I64 y → Hid (b = inv w h x y) → Calls Tryd.prog 26 #[.int .i64 w, .int .i64 h, .agg #[.int .i64 x, .int .i64 y]] W fun e w' => e = .returned (.bool b) ∧ Below W.heap.size W w'
theorem st_num (x d : Int) (h : I64 x) : I64 (stx x d) ∧ I64 (sty x d) := by
  have b := nr_bd x
  obtain ⟨h0, h1⟩ := h
  unfold stx sty shx shy I64
  constructor
  · split
    · exact ⟨h0, h1⟩
    · split
      · omega
      · split <;> omega
  · split
    · exact ⟨h0, h1⟩
    · split
      · omega
      · split <;> omega

set_option maxRecDepth 100000 in
set_option maxHeartbeats 8000000 in
theorem law_sym {E : World → Prop} (H : TerHave E) (HI : InHave) (m : M3) (s : Value) (bl : List Bool) (l : Value) (c d x y : Int) (W : World) (hE : E W) (hn : MapNum m) (ic : I64 c) (ix : I64 x) (iy : I64 y) (hr : RowAt W s m.cs) (hl : BitsAt W l bl) :
    Calls Tryd.prog 6 #[.agg #[.int .i64 m.w, .int .i64 m.h, s], l, .agg #[.int .i64 c, .int .i64 d, .int .i64 x, .int .i64 y]] W fun e w' => e = .returned (.bool true) ∧ Below W.heap.size W w' := by
  have hK := ((Keep.nil W).alloc [.int .i64 m.w, .int .i64 m.h, s] 24).alloc [.int .i64 c, .int .i64 d, .int .i64 x, .int .i64 y] 42
  replace hr := hr.below hK.old
  replace hl := hl.below hK.old
  simp only [World.size_alloc] at hK
  obtain ⟨p, j, rfl, hm, _⟩ := _root_.id hl
  unfold maxLen at hm
  go_enter Tryd.func6, Tryd.ntmps6
  go_upto_region 1 with fail
  generalize ((W.alloc (.cells [Value.int .i64 m.w, .int .i64 m.h, s].toArray 24)).alloc (.cells [Value.int .i64 c, .int .i64 d, .int .i64 x, .int .i64 y].toArray 42)) = V at *
  obtain ⟨hP, hM⟩ := hK.two
  obtain ⟨q0, r0, rfl⟩ := hr.slice
  obtain ⟨_, _, _, _, _, _, _⟩ := low34 hM hP (Below.refl _ _)
  by_cases h1 : 2000 < m.cs.length
  · go_wp2_with fail
    ((with_reducible refine (huge_any m _ true _ hr (hid (decide_eq_true h1).symm)).mono ?_); rintro e w1 ⟨rfl, hb1⟩)
    replace hK := hK.call hb1
    go_wp2_with fail
    ((with_reducible refine (awake_any H _ (H.keep hE hK.old)).mono ?_); rintro e w2 ⟨rfl, hb2⟩)
    replace hK := hK.call hb2
    go_wp2_with fail
    go_ret
    exact ⟨rfl, hK.old⟩
  · have hh := hid (decide_eq_false h1).symm
    have hO := hn.ok (by omega)
    by_cases h2 : 3000 < bl.length
    · have z : decide ((3000 : Int) < (bl.length : Int)) = true := decide_eq_true (by omega)
      go_wp2_with fail
      ((with_reducible refine (huge_any m _ false _ hr hh).mono ?_); rintro e w1 ⟨rfl, hb1⟩)
      replace hK := hK.call hb1
      go_wp2_with fail
      ((with_reducible refine (awake_any H _ (H.keep hE hK.old)).mono ?_); rintro e w2 ⟨rfl, hb2⟩)
      replace hK := hK.call hb2
      go_wp2_with fail
      go_ret
      exact ⟨rfl, hK.old⟩
    · have z : decide ((3000 : Int) < (bl.length : Int)) = false := decide_eq_false (by omega)
      have z2 : bl.length ≤ 3000 := by omega
      go_wp2_with fail
      ((with_reducible refine (huge_any m _ false _ hr hh).mono ?_); rintro e w1 ⟨rfl, hb1⟩)
      replace hK := hK.call hb1
      replace hr := hr.below hb1
      replace hl := hl.below hb1
      clear hP hM hb1
      go_wp2_with fail
      go_loopw [7] (fun vd wr => ∃ k : Nat, vd = .int .i64 k ∧ k ≤ 8 ∧ Keep W wr [(W.heap.size + 1, [.int .i64 c, .int .i64 d, .int .i64 x, .int .i64 y], 42), (W.heap.size, [.int .i64 m.w, .int .i64 m.h, .slice q0 m.cs.length r0], 24)] ∧ RowAt wr (.slice q0 m.cs.length r0) m.cs ∧ BitsAt wr (.slice p bl.length j) bl) (fun vd _ => 8 - (RowKit.intOf vd).toNat)
      case atStart => exact ⟨0, rfl, by omega, hK, hr, hl⟩
      case round =>
        clear hK hr hl
        obtain ⟨k, rfl, hk, hK, hr, hl⟩ := hrel
        obtain ⟨hP, hM⟩ := hK.two
        obtain ⟨_, _, _, _, _, _, _⟩ := low34 hM hP (Below.refl _ _)
        by_cases hlt : k < 8
        · have d1 : (k : Int) < 8 := by omega
          obtain ⟨tx, hx⟩ : ∃ q, Hid (q = stx x (k : Int)) := ⟨_, hid rfl⟩
          obtain ⟨ty, hy⟩ : ∃ q, Hid (q = sty y (k : Int)) := ⟨_, hid rfl⟩
          obtain ⟨b, hb⟩ : ∃ q, Hid (q = mayv m bl c x y (k : Int)) := ⟨_, hid rfl⟩
          obtain ⟨g, hg⟩ : ∃ q, Hid (q = costv m bl c x y (k : Int)) := ⟨_, hid rfl⟩
          have hB := may_both m bl c x y (k : Int) (by omega)
          have hb' : Hid (b = mayv m bl c tx ty (((k : Int) + 4) % 8)) := hid (by rw [hx.out, hy.out, hB.1]; exact hb.out)
          have hg' : Hid (g = costv m bl c tx ty (((k : Int) + 4) % 8)) := hid (by rw [hx.out, hy.out, hB.2]; exact hg.out)
          have hin : Hid (b = true → inv m.w m.h tx ty = true ∧ inv m.w m.h x y = true) := hid fun h => by rw [hx.out, hy.out]; exact may_in (hb.out.symm.trans h)
          have jx : I64 tx := by rw [hx.out]; exact (st_num x k ix).1
          have jy : I64 ty := by rw [hy.out]; exact (st_num y k iy).2
          have jk : I64 (k : Int) := ⟨by omega, by omega⟩
          have jk2 : I64 (((k : Int) + 4) % 8) := ⟨by omega, by omega⟩
          have c1 := fun w hE hr hl => H.step m (.slice q0 m.cs.length r0) bl (.slice p bl.length j) c x y k b g w hE hO z2 ic ix iy jk hr hl hb hg
          have c2 := fun w hE hr hl => H.step m (.slice q0 m.cs.length r0) bl (.slice p bl.length j) c tx ty _ b g w hE hO z2 ic jx jy jk2 hr hl hb' hg'
          clear hB hb hg hb' hg' z z2
          go_wp2_with fail
          ((with_reducible refine (rstepq_b x y k tx ty _ hx hy).mono ?_); rintro e w2 ⟨rfl, hb2⟩)
          replace hK := hK.call hb2
          replace hr := hr.below hb2
          replace hl := hl.below hb2
          have ha := (Below.refl w2.heap.size w2).alloc (Nat.le_refl _) (.cells [Value.int .i64 tx, .int .i64 ty].toArray 26)
          replace hr := hr.below ha
          replace hl := hl.below ha
          replace hK := hK.alloc [.int .i64 tx, .int .i64 ty] 26
          clear ha hb2 hP hM
          obtain ⟨_, _, _, _, _, _, _⟩ := low34 (hK.nth 2 rfl) (hK.nth 1 rfl) (Below.refl _ _)
          go_wp2_with fail
          generalize w2.heap.size = b2 at *
          ((with_reducible refine (c1 _ (H.keep hE hK.old) hr hl).mono ?_); rintro e w3 ⟨rfl, hb3⟩)
          replace hK := hK.call hb3
          replace hr := hr.below hb3
          replace hl := hl.below hb3
          clear hb3 c1
          obtain ⟨_, _, _, _, _, _, _⟩ := low34 (hK.nth 2 rfl) (hK.nth 1 rfl) (Below.refl _ _)
          obtain ⟨_, _, _, _⟩ := (hK.nth 0 rfl).two
          go_wp2_with fail
          ((with_reducible refine (c2 _ (H.keep hE hK.old) hr hl).mono ?_); rintro e w4 ⟨rfl, hb4⟩)
          replace hK := hK.call hb4
          replace hr := hr.below hb4
          replace hl := hl.below hb4
          clear hb4 c2
          obtain ⟨_, _, _, _, _, _, _⟩ := low34 (hK.nth 2 rfl) (hK.nth 1 rfl) (Below.refl _ _)
          obtain ⟨_, _, _, _⟩ := (hK.nth 0 rfl).two
          cases b with
          | false =>
            clear hin
            go_wp2_with fail
            go_roundw
            case rel => exact ⟨k + 1, by go_num, by omega, hK.tail, hr, hl⟩
            case measure => simp [RowKit.intOf]; omega
          | true =>
            obtain ⟨i1, i2⟩ := hin.out rfl
            clear hin
            go_wp2_with fail
            ((with_reducible refine (HI m.w m.h tx ty true _ hn.w hn.h jx jy (hid i1.symm)).mono ?_); rintro e w5 ⟨rfl, hb5⟩)
            replace hK := hK.call hb5
            replace hr := hr.below hb5
            replace hl := hl.below hb5
            clear hb5
            obtain ⟨_, _, _, _, _, _, _⟩ := low34 (hK.nth 2 rfl) (hK.nth 1 rfl) (Below.refl _ _)
            go_wp2_with fail
            ((with_reducible refine (HI m.w m.h x y true _ hn.w hn.h ix iy (hid i2.symm)).mono ?_); rintro e w6 ⟨rfl, hb6⟩)
            replace hK := hK.call hb6
            replace hr := hr.below hb6
            replace hl := hl.below hb6
            clear hb6
            go_wp2_with fail
            go_roundw
            case rel => exact ⟨k + 1, by go_num, by omega, hK.tail, hr, hl⟩
            case measure => simp [RowKit.intOf]; omega
        · obtain rfl : k = 8 := by omega
          go_wp2_with fail
          ((with_reducible refine (awake_any H _ (H.keep hE hK.old)).mono ?_); rintro e w5 ⟨rfl, hb5⟩)
          replace hK := hK.call hb5
          go_wp2_with fail
          go_ret
          exact ⟨rfl, hK.old⟩

end Go.Proofs.YtlpccjklgbfpaaaDoor
