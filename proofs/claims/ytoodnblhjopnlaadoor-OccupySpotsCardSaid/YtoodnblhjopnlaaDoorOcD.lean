/-
  occupy as landed at 785be24: distances (what they draw only adds to the count), the comparison by distances.
-/
import Derived.Test.YtoodnblhjopnlaaDoorOcA
import Derived.Test.YtoodnblhjopnlaaDoorSymP
namespace Go.Proofs.YtoodnblhjopnlaaDoor
open Go.RowKit Go.Lib Go.Sort

/-- Two blocks held, no draw taken back. -/
structure HeldD (w W : World) (b c : Nat) (us vs : List Value) (t s : TypeId) : Prop where
  h : Held2 w W b c us vs t s
  d : w.drawn ≤ W.drawn
section
variable {w W w1 : World} {b c : Nat} {us vs : List Value} {p q u v p' q' u' v' : Value} {t s : TypeId}
theorem HeldD.call (h : HeldD w W b c us vs t s) (hb : Below W.heap.size W w1 ∧ W.drawn ≤ w1.drawn) : HeldD w w1 b c us vs t s := ⟨h.h.call hb.1, Nat.le_trans h.d hb.2⟩
theorem HeldD.drew (h : HeldD w W b c us vs t s) : HeldD w W.drew b c us vs t s := ⟨h.h.drew, Nat.le_succ_of_le h.d⟩
theorem HeldD.start (w : World) (us vs : List Value) (t s : TypeId) : HeldD w ((w.alloc (.cells us.toArray t)).alloc (.cells vs.toArray s)) w.heap.size (w.heap.size + 1) us vs t s := ⟨Held2.start w us vs t s, Nat.le_refl _⟩
theorem HeldD.stored22 (h : HeldD w W b c [p, q] [u, v] t s) (n : b ≠ c) (hb : w.heap.size ≤ b) (hc : w.heap.size ≤ c) :
    HeldD w ((((W.setCell ⟨b, 0, none⟩ p').setCell ⟨b, 1, none⟩ q').setCell ⟨c, 0, none⟩ u').setCell ⟨c, 1, none⟩ v') b c [p', q'] [u', v'] t s := ⟨h.h.stored22 n hb hc, h.d⟩
theorem HeldD.stored22r (h : HeldD w W b c [p, q] [u, v] t s) (n : b ≠ c) (hb : w.heap.size ≤ b) (hc : w.heap.size ≤ c) :
    HeldD w ((((W.setCell ⟨c, 0, none⟩ u').setCell ⟨c, 1, none⟩ v').setCell ⟨b, 0, none⟩ p').setCell ⟨b, 1, none⟩ q') b c [p', q'] [u', v'] t s := ⟨h.h.stored22r n hb hc, h.d⟩
end
/-- Such a world is the old one, some draws and blocks later. -/
theorem ahead_of {w w' : World} (hb : Below w.heap.size w w') (hd : w.drawn ≤ w'.drawn) : ∃ q os, w' = grow (w.drewN q) os := by
  refine ⟨w'.drawn - w.drawn, w'.heap.extract w.heap.size w'.heap.size, ?_⟩
  have hs := hb.size
  have hh : w'.heap = w.heap ++ w'.heap.extract w.heap.size w'.heap.size := by
    apply Array.ext_getElem?
    intro i
    rw [Array.getElem?_append]
    split
    · rename_i h
      exact hb.block i h
    · rename_i h
      by_cases h2 : i < w'.heap.size
      · rw [Array.getElem?_extract_of_lt (by omega), Array.getElem?_eq_getElem h2]
        congr 2
        omega
      · rw [Array.getElem?_eq_none (by omega), Array.getElem?_eq_none (by simp; omega)]
  obtain ⟨h1, h2, h3, -, -⟩ := hb
  obtain ⟨heap, tape, drawn, os, output⟩ := w
  obtain ⟨heap', tape', drawn', os', output'⟩ := w'
  unfold grow World.drewN
  dsimp only at *
  subst h1 h2 h3
  rw [← hh]
  congr 1
  omega
set_option maxHeartbeats 400000 in
theorem dpos_d (x y : Int) (w : World) :
    Calls Tryd.prog 54 #[.agg #[.int .i64 x, .int .i64 y]] w fun e w' => e = .returned (.agg #[.int .i64 (nr x), .int .i64 (nr y)]) ∧ (Below w.heap.size w w' ∧ w.drawn ≤ w'.drawn) := by
  go_enter Tryd.func54, Tryd.ntmps54
  go_wp2_with fail
  go_region_held3 (fun w' => w'.cell? ⟨w.heap.size, 0, none⟩ = some (.int .i64 x) ∧ w'.cell? ⟨w.heap.size, 1, none⟩ = some (.int .i64 y)) (go_keep)
    (first | (go_at_call 55; refine (dnr_any _ _).mono ?_; rintro e w' ⟨rfl, rfl⟩))
  go_wp2
  refine bodyPost_ret (v := .agg #[.int .i64 (nr x), .int .i64 (nr y)]) (by simp [results, Tryd.results54, go_sem]) rfl ⟨rfl, ?_, ?_⟩
  · exact (((Below.refl _ _).alloc (Nat.le_refl _) _).alloc (by simp) _).drew
  · exact Nat.le_succ _
set_option maxHeartbeats 4000000 in
theorem ddist_d (x y u v : Int) (w : World) :
    Calls Tryd.prog 53 #[.agg #[.int .i64 x, .int .i64 y], .agg #[.int .i64 u, .int .i64 v]] w fun e w' => e = .returned (.tuple #[.int .i64 (min (absv (nr x - nr u)) (absv (nr y - nr v))), .int .i64 (max (absv (nr x - nr u)) (absv (nr y - nr v)))]) ∧ (Below w.heap.size w w' ∧ w.drawn ≤ w'.drawn) := by
  have d1 := dif_bd x u
  have d2 := dif_bd y v
  have v1 : IntKind.i64.wrap (nr x - nr u) = nr x - nr u := IntWalk.i64_in _ (by omega)
  have v2 : IntKind.i64.wrap (nr y - nr v) = nr y - nr v := IntWalk.i64_in _ (by omega)
  have n12 : w.heap.size ≠ w.heap.size + 1 := by omega
  have g1 : w.heap.size ≤ w.heap.size := Nat.le_refl _
  have g2 : w.heap.size ≤ w.heap.size + 1 := by omega
  go_enter Tryd.func53, Tryd.ntmps53
  go_upto_region 1 with fail
  have hT := (HeldD.start w [.int .i64 x, .int .i64 y] [.int .i64 u, .int .i64 v] 42 42).drew
  generalize (w.alloc (.cells [Value.int .i64 x, .int .i64 y].toArray 42)).alloc (.cells [Value.int .i64 u, .int .i64 v].toArray 42) = W at *
  go_cut [] from 8 (fun wx => HeldD w wx w.heap.size (w.heap.size + 1) [.int .i64 (nr x), .int .i64 (nr y)] [.int .i64 (nr u), .int .i64 (nr v)] 42 42)
  case first =>
    obtain ⟨_, _, _, _, _, _, _, _⟩ := hT.h.seen22
    go_region_with (first
      | (go_at_call 54; with_reducible refine (dpos_d _ _ _).mono ?_; rintro e w' ⟨rfl, hb⟩; have hx := HeldD.call (by assumption) hb; clear hb; obtain ⟨_, _, _, _, _, _, _, _⟩ := hx.h.seen22))
    all_goals
      go_wp2_with fail
      go_meet
      case rel => first | exact HeldD.stored22 (by assumption) n12 g1 g2 | exact HeldD.stored22r (by assumption) n12 g1 g2
  case rest =>
  clear hT
  obtain ⟨_, _, _, _, _, _, _, _⟩ := hcut.h.seen22
  have hL := And.intro hcut.h.old hcut.d
  go_upto_region 1 with fail
  go_region_held3 (fun w' => w'.cell? ⟨w.heap.size, 0, none⟩ = some (.int .i64 (nr x)) ∧ w'.cell? ⟨w.heap.size, 1, none⟩ = some (.int .i64 (nr y)) ∧ w'.cell? ⟨w.heap.size + 1, 0, none⟩ = some (.int .i64 (nr u)) ∧ w'.cell? ⟨w.heap.size + 1, 1, none⟩ = some (.int .i64 (nr v))) (go_keep)
    (first
      | (go_at_call 71; with_reducible refine (dabs_any _ _ d1).mono ?_; rintro e w' ⟨rfl, rfl⟩)
      | (go_at_call 71; with_reducible refine (dabs_any _ _ d2).mono ?_; rintro e w' ⟨rfl, rfl⟩))
  go_wp2
  exact bodyPost_ret (v := .tuple #[.int .i64 (min (absv (nr x - nr u)) (absv (nr y - nr v))), .int .i64 (max (absv (nr x - nr u)) (absv (nr y - nr v)))]) (by simp [results, Tryd.results53, go_sem]) rfl ⟨rfl, hL.1.drew, Nat.le_succ_of_le hL.2⟩

set_option maxHeartbeats 1000000 in
theorem doct_d (x y u v : Int) (w : World) :
    Calls Tryd.prog 29 #[.agg #[.int .i64 x, .int .i64 y], .agg #[.int .i64 u, .int .i64 v]] w fun e w' => e = .returned (.int .i64 (octv x y u v)) ∧ (Below w.heap.size w w' ∧ w.drawn ≤ w'.drawn) := by
  have d1 := abs_bd (dif_bd x u)
  have d2 := abs_bd (dif_bd y v)
  have hk := ddist_d x y u v
  unfold octv
  generalize absv (nr x - nr u) = a at *
  generalize absv (nr y - nr v) = b at *
  generalize hs : min a b = s at *
  generalize hl : max a b = l at *
  have s0 : 0 ≤ s ∧ s ≤ l ∧ l ≤ 4194304 := by omega
  have v1 : IntKind.i64.wrap (14 * s) = 14 * s := IntWalk.i64_in _ (by omega)
  have v2 : IntKind.i64.wrap (l - s) = l - s := IntWalk.i64_in _ (by omega)
  have v3 : IntKind.i64.wrap (10 * (l - s)) = 10 * (l - s) := IntWalk.i64_in _ (by omega)
  have v4 : IntKind.i64.wrap (14 * s + 10 * (l - s)) = 14 * s + 10 * (l - s) := IntWalk.i64_in _ (by omega)
  go_enter Tryd.func29, Tryd.ntmps29
  go_wp2_with fail
  ((with_reducible refine (hk _).mono ?_); rintro e w1 ⟨rfl, hb⟩)
  have hL := And.intro (below_call (Held2.start w [.int .i64 x, .int .i64 y] [.int .i64 u, .int .i64 v] 42 42).old hb.1) hb.2
  go_wp2_with fail
  go_ret
  exact ⟨rfl, hL⟩
def cmpI (a b : Int) : Int := if a < b then -1 else if b < a then 1 else 0
set_option maxHeartbeats 400000 in
theorem ocnan_b (a : Int) (W : World) : Calls Tryd.prog 78 #[.int .i64 a] W fun e w' => e = .returned (.bool false) ∧ W = w' := by
  go_enter Tryd.func78, Tryd.ntmps78
  go_wp2
  go_ret
  exact ⟨by simp, rfl⟩
set_option maxHeartbeats 1000000 in
theorem occmp_b (a b : Int) (W : World) : Calls Tryd.prog 69 #[.int .i64 a, .int .i64 b] W fun e w' => e = .returned (.int .i64 (cmpI a b)) ∧ W = w' := by
  unfold cmpI
  by_cases h1 : a < b
  · rw [if_pos h1]
    go_enter Tryd.func69, Tryd.ntmps69
    go_wp2_with (go_at_call 78; refine (ocnan_b _ _).mono ?_; rintro e w1 ⟨rfl, rfl⟩)
    go_ret
    exact ⟨rfl, rfl⟩
  · rw [if_neg h1]
    by_cases h2 : b < a
    · rw [if_pos h2]
      go_enter Tryd.func69, Tryd.ntmps69
      go_wp2_with (go_at_call 78; refine (ocnan_b _ _).mono ?_; rintro e w1 ⟨rfl, rfl⟩)
      go_ret
      exact ⟨rfl, rfl⟩
    · rw [if_neg h2]
      go_enter Tryd.func69, Tryd.ntmps69
      go_wp2_with (go_at_call 78; refine (ocnan_b _ _).mono ?_; rintro e w1 ⟨rfl, rfl⟩)
      go_ret
      exact ⟨rfl, rfl⟩
def cmpF (f : Int × Int) (a b : Int × Int) : Int := cmpI (octv a.1 a.2 f.1 f.2) (octv b.1 b.2 f.1 f.2)
theorem cmpF_lt (f a b : Int × Int) : decide (cmpF f a b < 0) = farv f a b := by
  unfold cmpF cmpI farv
  refine decide_eq_decide.2 ?_
  split
  · omega
  · split <;> omega
set_option maxHeartbeats 4000000 in
theorem occls_b (f a b : Int × Int) (B : Nat) (W : World) (hF : Blk W B [.int .i64 f.1, .int .i64 f.2] 42) :
    Calls Tryd.prog 68 #[.agg #[.int .i64 a.1, .int .i64 a.2], .agg #[.int .i64 b.1, .int .i64 b.2], .pointer (some ⟨B, 0, none⟩)] W fun e w' => e = .returned (.int .i64 (cmpF f a b)) ∧ ∃ q os, w' = grow (W.drewN q) os := by
  obtain ⟨n1, hn1⟩ : ∃ n, n = octv a.1 a.2 f.1 f.2 := ⟨_, rfl⟩
  obtain ⟨n2, hn2⟩ : ∃ n, n = octv b.1 b.2 f.1 f.2 := ⟨_, rfl⟩
  obtain ⟨z, hz⟩ : ∃ z, z = cmpI n1 n2 := ⟨_, rfl⟩
  have c1 := doct_d a.1 a.2 f.1 f.2
  have c2 := doct_d b.1 b.2 f.1 f.2
  have c3 := occmp_b n1 n2
  unfold cmpF
  rw [← hn1] at c1 ⊢
  rw [← hn2] at c2 ⊢
  rw [← hz] at c3 ⊢
  have hT := HeldD.start W [.int .i64 a.1, .int .i64 a.2] [.int .i64 b.1, .int .i64 b.2] 42 42
  replace hF := hF.below hT.h.old
  clear hn1 hn2 hz
  go_enter Tryd.func68, Tryd.ntmps68
  go_upto_region 1 with fail
  generalize (W.alloc (.cells [Value.int .i64 a.1, .int .i64 a.2].toArray 42)).alloc (.cells [Value.int .i64 b.1, .int .i64 b.2].toArray 42) = V at *
  have hk := fun (w' : World) (hb : Below V.heap.size V w') => And.intro ((hT.h.l.below hb).cell 0) (And.intro ((hT.h.l.below hb).cell 1) (And.intro ((hT.h.r.below hb).cell 0) (And.intro ((hT.h.r.below hb).cell 1) (And.intro ((hF.below hb).cell 0) ((hF.below hb).cell 1)))))
  have hq := (Below.refl V.heap.size V).drew
  have hd : V.drawn ≤ V.drew.drawn := Nat.le_succ _
  obtain ⟨_, _, _, _, _, _⟩ := hk _ hq
  go_region_held3 (fun w' => w'.cell? ⟨W.heap.size, 0, none⟩ = some (.int .i64 a.1) ∧ w'.cell? ⟨W.heap.size, 1, none⟩ = some (.int .i64 a.2) ∧ w'.cell? ⟨W.heap.size + 1, 0, none⟩ = some (.int .i64 b.1) ∧ w'.cell? ⟨W.heap.size + 1, 1, none⟩ = some (.int .i64 b.2) ∧ w'.cell? ⟨B, 0, none⟩ = some (.int .i64 f.1) ∧ w'.cell? ⟨B, 1, none⟩ = some (.int .i64 f.2))
    (exact hk _ hq)
    (first
      | (go_at_call 29; with_reducible refine (c1 _).mono ?_; rintro e w' ⟨rfl, hb, hd9⟩; replace hq := below_call hq hb; replace hd := Nat.le_trans hd hd9; clear hb hd9)
      | (go_at_call 29; with_reducible refine (c2 _).mono ?_; rintro e w' ⟨rfl, hb, hd9⟩; replace hq := below_call hq hb; replace hd := Nat.le_trans hd hd9; clear hb hd9)
      | (go_at_call 69; with_reducible refine (c3 _).mono ?_; rintro e w' ⟨rfl, rfl⟩))
  go_wp2
  go_ret
  exact ⟨rfl, ahead_of (below_call hT.h.old hq) (Nat.le_trans hT.d hd)⟩

end Go.Proofs.YtoodnblhjopnlaaDoor
