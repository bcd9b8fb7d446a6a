/-
  Laws of terrain: steps, passable, same.
-/
import Derived.Test.YtlpccjklgbfpaaaDoorTerLaws
namespace Go.Proofs.YtlpccjklgbfpaaaDoor
open Go.RowKit Go.Lib

set_option maxHeartbeats 400000 in
theorem huge_any (m : M3) (s : Value) (b : Bool) (W : World) (hr : RowAt W s m.cs) (e : Hid (b = decide (2000 < m.cs.length))) :
    Calls Tryd.prog 10 #[.agg #[.int .i64 m.w, .int .i64 m.h, s]] W fun e w' => e = .returned (.bool b) ∧ Below W.heap.size W w' := by
  obtain ⟨p, c, rfl⟩ := hr.slice
  have hb := e.out
  go_enter Tryd.func10, Tryd.ntmps10
  go_wp2_with fail
  go_ret
  exact ⟨ret_bit (by rw [hb]; exact decide_eq_decide.2 (by omega)), (Below.refl _ _).alloc (Nat.le_refl _) _⟩

theorem low34 {W w' : World} {b c : Nat} {p q r u v m n : Value} {t s : TypeId} (hl : Blk W b [p, q, r] t) (hm : Blk W c [u, v, m, n] s) (h : Below W.heap.size W w') :
    w'.cell? ⟨b, 0, none⟩ = some p ∧ w'.cell? ⟨b, 1, none⟩ = some q ∧ w'.cell? ⟨b, 2, none⟩ = some r ∧ w'.cell? ⟨c, 0, none⟩ = some u ∧ w'.cell? ⟨c, 1, none⟩ = some v ∧ w'.cell? ⟨c, 2, none⟩ = some m ∧ w'.cell? ⟨c, 3, none⟩ = some n :=
  ⟨(hl.below h).cell 0, (hl.below h).cell 1, (hl.below h).cell 2, (hm.below h).cell 0, (hm.below h).cell 1, (hm.below h).cell 2, (hm.below h).cell 3⟩
theorem low32 {W w' : World} {b c : Nat} {p q r u v : Value} {t s : TypeId} (hl : Blk W b [p, q, r] t) (hm : Blk W c [u, v] s) (h : Below W.heap.size W w') :
    w'.cell? ⟨b, 0, none⟩ = some p ∧ w'.cell? ⟨b, 1, none⟩ = some q ∧ w'.cell? ⟨b, 2, none⟩ = some r ∧ w'.cell? ⟨c, 0, none⟩ = some u ∧ w'.cell? ⟨c, 1, none⟩ = some v :=
  ⟨(hl.below h).cell 0, (hl.below h).cell 1, (hl.below h).cell 2, (hm.below h).cell 0, (hm.below h).cell 1⟩
theorem low33 {W w' : World} {b c : Nat} {p q r u v m : Value} {t s : TypeId} (hl : Blk W b [p, q, r] t) (hm : Blk W c [u, v, m] s) (h : Below W.heap.size W w') :
    w'.cell? ⟨b, 0, none⟩ = some p ∧ w'.cell? ⟨b, 1, none⟩ = some q ∧ w'.cell? ⟨b, 2, none⟩ = some r ∧ w'.cell? ⟨c, 0, none⟩ = some u ∧ w'.cell? ⟨c, 1, none⟩ = some v ∧ w'.cell? ⟨c, 2, none⟩ = some m :=
  ⟨(hl.below h).cell 0, (hl.below h).cell 1, (hl.below h).cell 2, (hm.below h).cell 0, (hm.below h).cell 1, (hm.below h).cell 2⟩

set_option maxRecDepth 100000 in
set_option maxHeartbeats 4000000 in
theorem law_steps {E : World → Prop} (H : TerHave E) (m : M3) (s : Value) (bl : List Bool) (l : Value) (c d x y : Int) (W : World) (hE : E W) (hn : MapNum m) (ic : I64 c) (id : I64 d) (ix : I64 x) (iy : I64 y) (hr : RowAt W s m.cs) (hl : BitsAt W l bl) :
    Calls Tryd.prog 5 #[.agg #[.int .i64 m.w, .int .i64 m.h, s], l, .agg #[.int .i64 c, .int .i64 d, .int .i64 x, .int .i64 y]] W fun e w' => e = .returned (.bool true) ∧ Below W.heap.size W w' := by
  obtain ⟨b, hb⟩ : ∃ b, Hid (b = mayv m bl c x y d) := ⟨_, hid rfl⟩
  obtain ⟨k, hk⟩ : ∃ b, Hid (b = costv m bl c x y d) := ⟨_, hid rfl⟩
  have hK := ((Keep.nil W).alloc [.int .i64 m.w, .int .i64 m.h, s] 24).alloc [.int .i64 c, .int .i64 d, .int .i64 x, .int .i64 y] 42
  replace hr := hr.below hK.old
  replace hl := hl.below hK.old
  simp only [World.size_alloc] at hK
  obtain ⟨p, j, rfl, hm, _⟩ := _root_.id hl
  unfold maxLen at hm
  go_enter Tryd.func5, Tryd.ntmps5
  go_upto_region 1 with fail
  generalize ((W.alloc (.cells [Value.int .i64 m.w, .int .i64 m.h, s].toArray 24)).alloc (.cells [Value.int .i64 c, .int .i64 d, .int .i64 x, .int .i64 y].toArray 42)) = V at *
  obtain ⟨hP, hM⟩ := hK.two
  obtain ⟨q0, r0, rfl⟩ := hr.slice
  obtain ⟨_, _, _, _, _, _, _⟩ := low34 hM hP (Below.refl _ _)
  by_cases h1 : 2000 < m.cs.length
  · go_wp2_with fail
    ((with_reducible refine (huge_any m _ true _ hr (hid (decide_eq_true h1).symm)).mono ?_); rintro e w1 ⟨rfl, hb1⟩)
    replace hK := hK.call hb1
    go_wp2_with fail
    ((with_reducible refine (awake_any H _ (H.keep hE hK.old)).mono ?_); rintro e w2 ⟨rfl, hb2⟩)
    replace hK := hK.call hb2
    go_wp2_with fail
    go_ret
    exact ⟨rfl, hK.old⟩
  · have hh := hid (decide_eq_false h1).symm
    have hO := hn.ok (by omega)
    by_cases h2 : 3000 < bl.length
    · have z : decide ((3000 : Int) < (bl.length : Int)) = true := decide_eq_true (by omega)
      go_wp2_with fail
      ((with_reducible refine (huge_any m _ false _ hr hh).mono ?_); rintro e w1 ⟨rfl, hb1⟩)
      replace hK := hK.call hb1
      go_wp2_with fail
      ((with_reducible refine (awake_any H _ (H.keep hE hK.old)).mono ?_); rintro e w2 ⟨rfl, hb2⟩)
      replace hK := hK.call hb2
      go_wp2_with fail
      go_ret
      exact ⟨rfl, hK.old⟩
    · have z : decide ((3000 : Int) < (bl.length : Int)) = false := decide_eq_false (by omega)
      have z2 : bl.length ≤ 3000 := by omega
      go_wp2_with fail
      ((with_reducible refine (huge_any m _ false _ hr hh).mono ?_); rintro e w1 ⟨rfl, hb1⟩)
      replace hK := hK.call hb1
      replace hr := hr.below hb1
      replace hl := hl.below hb1
      obtain ⟨_, _, _, _, _, _, _⟩ := low34 hM hP hb1
      clear hP hM hb1
      obtain ⟨hP, hM⟩ := hK.two
      go_wp2_with fail
      ((with_reducible refine (H.step m _ bl _ c x y d b k _ (H.keep hE hK.old) hO z2 ic ix iy id hr hl hb hk).mono ?_); rintro e w2 ⟨rfl, hb2⟩)
      replace hK := hK.call hb2
      replace hr := hr.below hb2
      replace hl := hl.below hb2
      obtain ⟨_, _, _, _, _, _, _⟩ := low34 hM hP hb2
      clear hP hM hb2
      obtain ⟨hP, hM⟩ := hK.two
      go_wp2_with fail
      ((with_reducible refine (rcost_b m _ bl _ c x y d b k _ hO.high hr hl hb hk).mono ?_); rintro e w3 ⟨rfl, hb3⟩)
      replace hK := hK.call hb3
      go_wp2_with fail
      ((with_reducible refine (awake_any H _ (H.keep hE hK.old)).mono ?_); rintro e w4 ⟨rfl, hb4⟩)
      replace hK := hK.call hb4
      go_wp2_with fail
      go_ret
      exact ⟨rfl, hK.old⟩

set_option maxRecDepth 100000 in
set_option maxHeartbeats 4000000 in
theorem law_passable {E : World → Prop} (H : TerHave E) (m : M3) (s : Value) (c x y : Int) (W : World) (hE : E W) (hn : MapNum m) (ic : I64 c) (ix : I64 x) (iy : I64 y) (hr : RowAt W s m.cs) :
    Calls Tryd.prog 4 #[.agg #[.int .i64 m.w, .int .i64 m.h, s], .int .i64 c, .agg #[.int .i64 x, .int .i64 y]] W fun e w' => e = .returned (.bool true) ∧ Below W.heap.size W w' := by
  obtain ⟨b, hb⟩ : ∃ b, Hid (b = passv m c x y) := ⟨_, hid rfl⟩
  obtain ⟨k, hk⟩ : ∃ b, Hid (b = opaquev m x y) := ⟨_, hid rfl⟩
  have hK := ((Keep.nil W).alloc [.int .i64 m.w, .int .i64 m.h, s] 24).alloc [.int .i64 x, .int .i64 y] 26
  replace hr := hr.below hK.old
  simp only [World.size_alloc] at hK
  go_enter Tryd.func4, Tryd.ntmps4
  go_upto_region 1 with fail
  generalize ((W.alloc (.cells [Value.int .i64 m.w, .int .i64 m.h, s].toArray 24)).alloc (.cells [Value.int .i64 x, .int .i64 y].toArray 26)) = V at *
  obtain ⟨hP, hM⟩ := hK.two
  obtain ⟨q0, r0, rfl⟩ := hr.slice
  obtain ⟨_, _, _, _, _⟩ := low32 hM hP (Below.refl _ _)
  by_cases h1 : 2000 < m.cs.length
  · go_wp2_with fail
    ((with_reducible refine (huge_any m _ true _ hr (hid (decide_eq_true h1).symm)).mono ?_); rintro e w1 ⟨rfl, hb1⟩)
    replace hK := hK.call hb1
    go_wp2_with fail
    ((with_reducible refine (awake_any H _ (H.keep hE hK.old)).mono ?_); rintro e w2 ⟨rfl, hb2⟩)
    replace hK := hK.call hb2
    go_wp2_with fail
    go_ret
    exact ⟨rfl, hK.old⟩
  · have hh := hid (decide_eq_false h1).symm
    have hO := hn.ok (by omega)
    go_wp2_with fail
    ((with_reducible refine (huge_any m _ false _ hr hh).mono ?_); rintro e w1 ⟨rfl, hb1⟩)
    replace hK := hK.call hb1
    replace hr := hr.below hb1
    clear hP hM hb1
    obtain ⟨hP, hM⟩ := hK.two
    have hq := (Below.refl w1.heap.size w1).drew
    go_wp2_with fail
    go_region_held3 (fun w' => w'.cell? ⟨W.heap.size, 0, none⟩ = some (.int .i64 m.w) ∧ w'.cell? ⟨W.heap.size, 1, none⟩ = some (.int .i64 m.h) ∧ w'.cell? ⟨W.heap.size, 2, none⟩ = some (.slice q0 m.cs.length r0) ∧ w'.cell? ⟨W.heap.size + 1, 0, none⟩ = some (.int .i64 x) ∧ w'.cell? ⟨W.heap.size + 1, 1, none⟩ = some (.int .i64 y))
      (first | exact low32 hM hP (by assumption))
      (first
        | (go_at_call 19; with_reducible refine (H.pass m _ c x y b _ (H.keep hE (below_call hK.old hq)) hO ic ix iy (hr.below hq) hb).mono ?_; rintro e w' ⟨rfl, hb⟩; replace hq := below_call hq hb; clear hb)
        | (go_at_call 20; with_reducible refine (rpass_b m _ c x y b _ (hr.below hq) hb).mono ?_; rintro e w' ⟨rfl, hb⟩; replace hq := below_call hq hb; clear hb)
        | (go_at_call 21; with_reducible refine (H.opaq m _ x y k _ (H.keep hE (below_call hK.old hq)) hO ix iy (hr.below hq) hk).mono ?_; rintro e w' ⟨rfl, hb⟩; replace hq := below_call hq hb; clear hb)
        | (go_at_call 22; with_reducible refine (ropaque_b m _ x y k _ (hr.below hq) hk).mono ?_; rintro e w' ⟨rfl, hb⟩; replace hq := below_call hq hb; clear hb)
        | (go_at_call 11; with_reducible refine (awake_any H _ (H.keep hE (below_call hK.old hq))).mono ?_; rintro e w' ⟨rfl, hb⟩; replace hq := below_call hq hb; clear hb))
    go_wp2_with fail
    go_ret
    exact ⟨rfl, below_call hK.old hq⟩

theorem same_self (m : M3) : samev m m = true := by unfold samev; simp
set_option maxRecDepth 100000 in
set_option maxHeartbeats 4000000 in
theorem law_same {E : World → Prop} (H : TerHave E) (m n : M3) (s t : Value) (W : World) (hE : E W) (hn : MapNum m) (hn2 : MapNum n) (hr : RowAt W s m.cs) (hr2 : RowAt W t n.cs) :
    Calls Tryd.prog 9 #[.agg #[.int .i64 m.w, .int .i64 m.h, s], .agg #[.int .i64 n.w, .int .i64 n.h, t]] W fun e w' => e = .returned (.bool true) ∧ Below W.heap.size W w' := by
  obtain ⟨b, hb⟩ : ∃ b, Hid (b = samev m n) := ⟨_, hid rfl⟩
  have hs := hid (same_self m).symm
  have hK := ((Keep.nil W).alloc [.int .i64 m.w, .int .i64 m.h, s] 24).alloc [.int .i64 n.w, .int .i64 n.h, t] 24
  replace hr := hr.below hK.old
  replace hr2 := hr2.below hK.old
  simp only [World.size_alloc] at hK
  go_enter Tryd.func9, Tryd.ntmps9
  go_upto_region 1 with fail
  generalize ((W.alloc (.cells [Value.int .i64 m.w, .int .i64 m.h, s].toArray 24)).alloc (.cells [Value.int .i64 n.w, .int .i64 n.h, t].toArray 24)) = V at *
  obtain ⟨hP, hM⟩ := hK.two
  obtain ⟨q0, r0, rfl⟩ := hr.slice
  obtain ⟨q1, r1, rfl⟩ := hr2.slice
  obtain ⟨_, _, _, _, _, _⟩ := low33 hM hP (Below.refl _ _)
  by_cases h1 : 2000 < m.cs.length
  · go_wp2_with fail
    ((with_reducible refine (huge_any m _ true _ hr (hid (decide_eq_true h1).symm)).mono ?_); rintro e w1 ⟨rfl, hb1⟩)
    replace hK := hK.call hb1
    go_wp2_with fail
    ((with_reducible refine (awake_any H _ (H.keep hE hK.old)).mono ?_); rintro e w2 ⟨rfl, hb2⟩)
    replace hK := hK.call hb2
    go_wp2_with fail
    go_ret
    exact ⟨rfl, hK.old⟩
  · have hh := hid (decide_eq_false h1).symm
    have hO := hn.ok (by omega)
    go_wp2_with fail
    ((with_reducible refine (huge_any m _ false _ hr hh).mono ?_); rintro e w1 ⟨rfl, hb1⟩)
    replace hK := hK.call hb1
    replace hr := hr.below hb1
    replace hr2 := hr2.below hb1
    obtain ⟨_, _, _, _, _, _⟩ := low33 hM hP hb1
    clear hP hM hb1
    obtain ⟨hP, hM⟩ := hK.two
    by_cases h2 : 2000 < n.cs.length
    · go_wp2_with fail
      ((with_reducible refine (huge_any n _ true _ hr2 (hid (decide_eq_true h2).symm)).mono ?_); rintro e w2 ⟨rfl, hb2⟩)
      replace hK := hK.call hb2
      go_wp2_with fail
      ((with_reducible refine (awake_any H _ (H.keep hE hK.old)).mono ?_); rintro e w3 ⟨rfl, hb3⟩)
      replace hK := hK.call hb3
      go_wp2_with fail
      go_ret
      exact ⟨rfl, hK.old⟩
    · have hh2 := hid (decide_eq_false h2).symm
      have hO2 := hn2.ok (by omega)
      go_wp2_with fail
      ((with_reducible refine (huge_any n _ false _ hr2 hh2).mono ?_); rintro e w2 ⟨rfl, hb2⟩)
      replace hK := hK.call hb2
      replace hr := hr.below hb2
      replace hr2 := hr2.below hb2
      clear hP hM hb2
      obtain ⟨hP, hM⟩ := hK.two
      have hq := (Below.refl w2.heap.size w2).drew
      go_wp2_with fail
      go_region_held3 (fun w' => w'.cell? ⟨W.heap.size, 0, none⟩ = some (.int .i64 m.w) ∧ w'.cell? ⟨W.heap.size, 1, none⟩ = some (.int .i64 m.h) ∧ w'.cell? ⟨W.heap.size, 2, none⟩ = some (.slice q0 m.cs.length r0) ∧ w'.cell? ⟨W.heap.size + 1, 0, none⟩ = some (.int .i64 n.w) ∧ w'.cell? ⟨W.heap.size + 1, 1, none⟩ = some (.int .i64 n.h) ∧ w'.cell? ⟨W.heap.size + 1, 2, none⟩ = some (.slice q1 n.cs.length r1))
        (first | exact low33 hM hP (by assumption))
        (first
          | (go_at_call 29; first | (with_reducible refine (H.same m n _ _ b _ hO hO2 (hr.below hq) (hr2.below hq) hb).mono ?_; rintro e w' ⟨rfl, hb⟩; replace hq := below_call hq hb; clear hb) | (with_reducible refine (H.same m m _ _ true _ hO hO (hr.below hq) (hr.below hq) hs).mono ?_; rintro e w' ⟨rfl, hb⟩; replace hq := below_call hq hb; clear hb))
          | (go_at_call 18; with_reducible refine (rsame_b m n _ _ b _ (hr.below hq) (hr2.below hq) hb).mono ?_; rintro e w' ⟨rfl, hb⟩; replace hq := below_call hq hb; clear hb)
          | (go_at_call 11; with_reducible refine (awake_any H _ (H.keep hE (below_call hK.old hq))).mono ?_; rintro e w' ⟨rfl, hb⟩; replace hq := below_call hq hb; clear hb))
      go_wp2_with fail
      go_ret
      exact ⟨rfl, below_call hK.old hq⟩

end Go.Proofs.YtlpccjklgbfpaaaDoor
