/-
  What the functions of grid answer, as landed at da8c777: distances.
-/
import Derived.Deep.Cut
import Derived.StillTailTactics
import Derived.Deep.RegionWith
import Derived.Test.YtoodnblhjopnlaaDoorGridLand
namespace Go.Proofs.YtoodnblhjopnlaaDoor
open Go.RowKit Go.Lib

theorem Held2.setl {w W : World} {b c : Nat} {us vs : List Value} {t s : TypeId} (h : Held2 w W b c us vs t s) (n : b ≠ c) (hb : w.heap.size ≤ b) (i : Nat) (x : Value) : Held2 w (W.setCell ⟨b, i, none⟩ x) b c (us.set i x) vs t s :=
  ⟨h.l.set i x, h.r.far x (Ne.symm n), h.old.setCell (p := ⟨b, i, none⟩) hb x⟩
theorem Held2.setr {w W : World} {b c : Nat} {us vs : List Value} {t s : TypeId} (h : Held2 w W b c us vs t s) (n : b ≠ c) (hc : w.heap.size ≤ c) (i : Nat) (x : Value) : Held2 w (W.setCell ⟨c, i, none⟩ x) b c us (vs.set i x) t s :=
  ⟨h.l.far x n, h.r.set i x, h.old.setCell (p := ⟨c, i, none⟩) hc x⟩
theorem Held2.stored22 {w W : World} {b c : Nat} {p q u v p' q' u' v' : Value} {t s : TypeId} (h : Held2 w W b c [p, q] [u, v] t s) (n : b ≠ c) (hb : w.heap.size ≤ b) (hc : w.heap.size ≤ c) :
    Held2 w ((((W.setCell ⟨b, 0, none⟩ p').setCell ⟨b, 1, none⟩ q').setCell ⟨c, 0, none⟩ u').setCell ⟨c, 1, none⟩ v') b c [p', q'] [u', v'] t s :=
  (((h.setl n hb 0 p').setl n hb 1 q').setr n hc 0 u').setr n hc 1 v'
theorem Held2.stored22r {w W : World} {b c : Nat} {p q u v p' q' u' v' : Value} {t s : TypeId} (h : Held2 w W b c [p, q] [u, v] t s) (n : b ≠ c) (hb : w.heap.size ≤ b) (hc : w.heap.size ≤ c) :
    Held2 w ((((W.setCell ⟨c, 0, none⟩ u').setCell ⟨c, 1, none⟩ v').setCell ⟨b, 0, none⟩ p').setCell ⟨b, 1, none⟩ q') b c [p', q'] [u', v'] t s :=
  (((h.setr n hc 0 u').setr n hc 1 v').setl n hb 0 p').setl n hb 1 q'
theorem Held2.seen22 {w W : World} {b c : Nat} {p q u v : Value} {t s : TypeId} (h : Held2 w W b c [p, q] [u, v] t s) :
    W.cell? ⟨b, 0, none⟩ = some p ∧ W.cell? ⟨b, 1, none⟩ = some q ∧ W.cell? ⟨c, 0, none⟩ = some u ∧ W.cell? ⟨c, 1, none⟩ = some v ∧ W.frozen? ⟨b, 0, none⟩ = false ∧ W.frozen? ⟨b, 1, none⟩ = false ∧ W.frozen? ⟨c, 0, none⟩ = false ∧ W.frozen? ⟨c, 1, none⟩ = false :=
  ⟨h.l.cell 0, h.l.cell 1, h.r.cell 0, h.r.cell 1, h.l.frozen 0, h.l.frozen 1, h.r.frozen 0, h.r.frozen 1⟩

set_option maxHeartbeats 4000000 in
theorem ddist_any (x y u v : Int) (w : World) :
    Calls Tryd.prog 53 #[.agg #[.int .i64 x, .int .i64 y], .agg #[.int .i64 u, .int .i64 v]] w fun e w' => e = .returned (.tuple #[.int .i64 (min (absv (nr x - nr u)) (absv (nr y - nr v))), .int .i64 (max (absv (nr x - nr u)) (absv (nr y - nr v)))]) ∧ Below w.heap.size w w' := by
  have d1 := dif_bd x u
  have d2 := dif_bd y v
  have v1 : IntKind.i64.wrap (nr x - nr u) = nr x - nr u := IntWalk.i64_in _ (by omega)
  have v2 : IntKind.i64.wrap (nr y - nr v) = nr y - nr v := IntWalk.i64_in _ (by omega)
  have n12 : w.heap.size ≠ w.heap.size + 1 := by omega
  have g1 : w.heap.size ≤ w.heap.size := Nat.le_refl _
  have g2 : w.heap.size ≤ w.heap.size + 1 := by omega
  go_enter Tryd.func53, Tryd.ntmps53
  go_upto_region 1 with fail
  have hT := (Held2.start w [.int .i64 x, .int .i64 y] [.int .i64 u, .int .i64 v] 42 42).drew
  generalize (w.alloc (.cells [Value.int .i64 x, .int .i64 y].toArray 42)).alloc (.cells [Value.int .i64 u, .int .i64 v].toArray 42) = W at *
  go_cut [] from 8 (fun wx => Held2 w wx w.heap.size (w.heap.size + 1) [.int .i64 (nr x), .int .i64 (nr y)] [.int .i64 (nr u), .int .i64 (nr v)] 42 42)
  case first =>
    obtain ⟨_, _, _, _, _, _, _, _⟩ := hT.seen22
    go_region_with (first
      | (go_at_call 54; with_reducible refine (dpos_any _ _ _).mono ?_; rintro e w' ⟨rfl, hb⟩; have hx := Held2.call (by assumption) hb; clear hb; obtain ⟨_, _, _, _, _, _, _, _⟩ := hx.seen22))
    all_goals
      go_wp2_with fail
      go_meet
      case rel => first | exact Held2.stored22 (by assumption) n12 g1 g2 | exact Held2.stored22r (by assumption) n12 g1 g2
  case rest =>
  clear hT
  obtain ⟨_, _, _, _, _, _, _, _⟩ := hcut.seen22
  have hL := hcut.old
  go_upto_region 1 with fail
  go_region_held3 (fun w' => w'.cell? ⟨w.heap.size, 0, none⟩ = some (.int .i64 (nr x)) ∧ w'.cell? ⟨w.heap.size, 1, none⟩ = some (.int .i64 (nr y)) ∧ w'.cell? ⟨w.heap.size + 1, 0, none⟩ = some (.int .i64 (nr u)) ∧ w'.cell? ⟨w.heap.size + 1, 1, none⟩ = some (.int .i64 (nr v))) (go_keep)
    (first
      | (go_at_call 71; with_reducible refine (dabs_any _ _ d1).mono ?_; rintro e w' ⟨rfl, rfl⟩)
      | (go_at_call 71; with_reducible refine (dabs_any _ _ d2).mono ?_; rintro e w' ⟨rfl, rfl⟩))
  go_wp2
  exact bodyPost_ret (v := .tuple #[.int .i64 (min (absv (nr x - nr u)) (absv (nr y - nr v))), .int .i64 (max (absv (nr x - nr u)) (absv (nr y - nr v)))]) (by simp [results, Tryd.results53, go_sem]) rfl ⟨rfl, hL.drew⟩

set_option maxHeartbeats 1000000 in
theorem doct_any (x y u v : Int) (w : World) :
    Calls Tryd.prog 29 #[.agg #[.int .i64 x, .int .i64 y], .agg #[.int .i64 u, .int .i64 v]] w fun e w' => e = .returned (.int .i64 (octv x y u v)) ∧ Below w.heap.size w w' := by
  have d1 := abs_bd (dif_bd x u)
  have d2 := abs_bd (dif_bd y v)
  have hk := ddist_any x y u v
  unfold octv
  generalize absv (nr x - nr u) = a at *
  generalize absv (nr y - nr v) = b at *
  generalize hs : min a b = s at *
  generalize hl : max a b = l at *
  have s0 : 0 ≤ s ∧ s ≤ l ∧ l ≤ 4194304 := by omega
  have v1 : IntKind.i64.wrap (14 * s) = 14 * s := IntWalk.i64_in _ (by omega)
  have v2 : IntKind.i64.wrap (l - s) = l - s := IntWalk.i64_in _ (by omega)
  have v3 : IntKind.i64.wrap (10 * (l - s)) = 10 * (l - s) := IntWalk.i64_in _ (by omega)
  have v4 : IntKind.i64.wrap (14 * s + 10 * (l - s)) = 14 * s + 10 * (l - s) := IntWalk.i64_in _ (by omega)
  go_enter Tryd.func29, Tryd.ntmps29
  go_wp2_with fail
  ((with_reducible refine (hk _).mono ?_); rintro e w1 ⟨rfl, hb⟩)
  have hL := below_call (Held2.start w [.int .i64 x, .int .i64 y] [.int .i64 u, .int .i64 v] 42 42).old hb
  go_wp2_with fail
  go_ret
  exact ⟨rfl, hL⟩
end Go.Proofs.YtoodnblhjopnlaaDoor
