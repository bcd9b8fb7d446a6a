/-
  What the functions of grid answer, as landed at da8c777: common, Meet, Clip.
-/
import Derived.Test.YtpgchjhfhndaaaaGreatDoorGridLandD
namespace Go.Proofs.YtpgchjhfhndaaaaGreatDoor
open Go.RowKit Go.Lib

/-- Three blocks held. -/
structure Held3 (w W : World) (b c d : Nat) (us vs xs : List Value) (t s r : TypeId) : Prop where
  two : Held2 w W b c us vs t s
  m : Blk W d xs r
theorem Held3.call {w W w1 : World} {b c d : Nat} {us vs xs : List Value} {t s r : TypeId} (h : Held3 w W b c d us vs xs t s r) (hb : Below W.heap.size W w1) : Held3 w w1 b c d us vs xs t s r :=
  ⟨h.two.call hb, h.m.below hb⟩
theorem Held3.drew {w W : World} {b c d : Nat} {us vs xs : List Value} {t s r : TypeId} (h : Held3 w W b c d us vs xs t s r) : Held3 w W.drew b c d us vs xs t s r := ⟨h.two.drew, h.m.drew⟩
theorem Held3.drewN {w W : World} {b c d : Nat} {us vs xs : List Value} {t s r : TypeId} (h : Held3 w W b c d us vs xs t s r) (k : Nat) : Held3 w (W.drewN k) b c d us vs xs t s r := ⟨⟨h.two.l.drewN k, h.two.r.drewN k, below_many h.two.old k⟩, h.m.drewN k⟩
theorem Held3.stored44 {w W : World} {b c d : Nat} {xs : List Value} {p q x y u v m k p' q' x' y' u' v' m' k' : Value} {t s r : TypeId} (h : Held3 w W b c d [p, q, x, y] [u, v, m, k] xs t s r) (n : b ≠ c) (n2 : d ≠ b) (n3 : d ≠ c) (hb : w.heap.size ≤ b) (hc : w.heap.size ≤ c) :
    Held3 w ((((((((W.setCell ⟨b, 0, none⟩ p').setCell ⟨b, 1, none⟩ q').setCell ⟨b, 2, none⟩ x').setCell ⟨b, 3, none⟩ y').setCell ⟨c, 0, none⟩ u').setCell ⟨c, 1, none⟩ v').setCell ⟨c, 2, none⟩ m').setCell ⟨c, 3, none⟩ k') b c d [p', q', x', y'] [u', v', m', k'] xs t s r :=
  ⟨h.two.stored44 n hb hc, (((((((h.m.far p' n2).far q' n2).far x' n2).far y' n2).far u' n3).far v' n3).far m' n3).far k' n3⟩
theorem Held3.stored44r {w W : World} {b c d : Nat} {xs : List Value} {p q x y u v m k p' q' x' y' u' v' m' k' : Value} {t s r : TypeId} (h : Held3 w W b c d [p, q, x, y] [u, v, m, k] xs t s r) (n : b ≠ c) (n2 : d ≠ b) (n3 : d ≠ c) (hb : w.heap.size ≤ b) (hc : w.heap.size ≤ c) :
    Held3 w ((((((((W.setCell ⟨c, 0, none⟩ u').setCell ⟨c, 1, none⟩ v').setCell ⟨c, 2, none⟩ m').setCell ⟨c, 3, none⟩ k').setCell ⟨b, 0, none⟩ p').setCell ⟨b, 1, none⟩ q').setCell ⟨b, 2, none⟩ x').setCell ⟨b, 3, none⟩ y') b c d [p', q', x', y'] [u', v', m', k'] xs t s r :=
  ⟨h.two.stored44r n hb hc, (((((((h.m.far u' n3).far v' n3).far m' n3).far k' n3).far p' n2).far q' n2).far x' n2).far y' n2⟩
theorem Held3.start (w : World) (us vs xs : List Value) (t s r : TypeId) : Held3 w (((w.alloc (.cells us.toArray t)).alloc (.cells vs.toArray s)).alloc (.cells xs.toArray r)) w.heap.size (w.heap.size + 1) (w.heap.size + 1 + 1) us vs xs t s r :=
  ⟨(Held2.start w us vs t s).alloc _, (Blk.new _ xs r).at ((World.size_alloc _ _).trans (congrArg (· + 1) (World.size_alloc _ _)))⟩

theorem common_land (a b : R4) : common a b = if emptyv ⟨max a.x b.x, max a.y b.y, min (a.x + a.w) (b.x + b.w) - max a.x b.x, min (a.y + a.h) (b.y + b.h) - max a.y b.y⟩ = true then R4.zero else ⟨max a.x b.x, max a.y b.y, min (a.x + a.w) (b.x + b.w) - max a.x b.x, min (a.y + a.h) (b.y + b.h) - max a.y b.y⟩ := by
  by_cases h : min (a.x + a.w) (b.x + b.w) - max a.x b.x < 1 ∨ min (a.y + a.h) (b.y + b.h) - max a.y b.y < 1
  · rw [if_pos (show emptyv _ = true from decide_eq_true h)]
    unfold common
    by_cases g : a.w < 1 ∨ a.h < 1 ∨ b.w < 1 ∨ b.h < 1
    · rw [if_pos g]
    · rw [if_neg g, if_pos h]
  · rw [if_neg (by unfold emptyv; rw [decide_eq_false h]; simp)]
    unfold common
    rw [if_neg (by omega), if_neg h]
set_option maxHeartbeats 8000000 in
theorem dcommon_n (x y u v p q m n : Int) (w : World) :
    Calls Tryz.prog 169 #[.agg #[.int .i64 x, .int .i64 y, .int .i64 u, .int .i64 v], .agg #[.int .i64 p, .int .i64 q, .int .i64 m, .int .i64 n]] w fun e w' => e = .returned (common ⟨nr x, nr y, nr u, nr v⟩ ⟨nr p, nr q, nr m, nr n⟩).val ∧ Below w.heap.size w w' := by
  obtain ⟨rr, hc⟩ : ∃ r, common ⟨nr x, nr y, nr u, nr v⟩ ⟨nr p, nr q, nr m, nr n⟩ = r := ⟨_, rfl⟩
  rw [hc]
  replace hc := hc.symm.trans (common_land _ _)
  dsimp only at hc
  have n12 : w.heap.size ≠ w.heap.size + 1 := by omega
  have n31 : w.heap.size + 1 + 1 ≠ w.heap.size := by omega
  have n32 : w.heap.size + 1 + 1 ≠ w.heap.size + 1 := by omega
  have g1 : w.heap.size ≤ w.heap.size := Nat.le_refl _
  have g2 : w.heap.size ≤ w.heap.size + 1 := by omega
  have g3 : w.heap.size ≤ w.heap.size + 1 + 1 := by omega
  go_enter Tryz.func169, Tryz.ntmps169
  go_upto_region 1 with fail
  have hT := (Held3.start w [.int .i64 x, .int .i64 y, .int .i64 u, .int .i64 v] [.int .i64 p, .int .i64 q, .int .i64 m, .int .i64 n] [.int .i64 0, .int .i64 0, .int .i64 0, .int .i64 0] 72 72 72).drew
  generalize ((w.alloc (.cells [Value.int .i64 x, .int .i64 y, .int .i64 u, .int .i64 v].toArray 72)).alloc (.cells [Value.int .i64 p, .int .i64 q, .int .i64 m, .int .i64 n].toArray 72)).alloc (.cells [Value.int .i64 0, .int .i64 0, .int .i64 0, .int .i64 0].toArray 72) = W at *
  go_cut [] from 8 (fun wx => Held3 w wx w.heap.size (w.heap.size + 1) (w.heap.size + 1 + 1) [.int .i64 (nr x), .int .i64 (nr y), .int .i64 (nr u), .int .i64 (nr v)] [.int .i64 (nr p), .int .i64 (nr q), .int .i64 (nr m), .int .i64 (nr n)] [.int .i64 0, .int .i64 0, .int .i64 0, .int .i64 0] 72 72 72)
  case first =>
    obtain ⟨_, _, _, _, _, _, _, _⟩ := hT.two.l.four
    obtain ⟨_, _, _, _, _, _, _, _⟩ := hT.two.r.four
    go_region_with (first
      | (go_at_call 93; with_reducible refine (drect_x _ _ _ _ _).mono ?_; rintro e w' ⟨rfl, hb⟩; have hx := Held3.call (by assumption) hb; clear hb; obtain ⟨_, _, _, _, _, _, _, _⟩ := hx.two.l.four; obtain ⟨_, _, _, _, _, _, _, _⟩ := hx.two.r.four))
    all_goals
      go_wp2_with fail
      go_meet
      case rel => first | exact Held3.stored44 (by assumption) n12 n31 n32 g1 g2 | exact Held3.stored44r (by assumption) n12 n31 n32 g1 g2
  case rest =>
  clear hT
  have b1 := nr_bd x; have b2 := nr_bd y; have b3 := nr_bd u; have b4 := nr_bd v; have b5 := nr_bd p; have b6 := nr_bd q; have b7 := nr_bd m; have b8 := nr_bd n
  generalize nr x = x at *; generalize nr y = y at *; generalize nr u = u at *; generalize nr v = v at *; generalize nr p = p at *; generalize nr q = q at *; generalize nr m = m at *; generalize nr n = n at *
  obtain ⟨_, _, _, _, -, -, -, -⟩ := hcut.two.l.four
  obtain ⟨_, _, _, _, -, -, -, -⟩ := hcut.two.r.four
  have v1 : IntKind.i64.wrap (x + u) = x + u := IntWalk.i64_in _ (by omega)
  have v2 : IntKind.i64.wrap (y + v) = y + v := IntWalk.i64_in _ (by omega)
  have v3 : IntKind.i64.wrap (p + m) = p + m := IntWalk.i64_in _ (by omega)
  have v4 : IntKind.i64.wrap (q + n) = q + n := IntWalk.i64_in _ (by omega)
  have v5 : IntKind.i64.wrap (min (x + u) (p + m) - max x p) = min (x + u) (p + m) - max x p := IntWalk.i64_in _ (by omega)
  have v6 : IntKind.i64.wrap (min (y + v) (q + n) - max y q) = min (y + v) (q + n) - max y q := IntWalk.i64_in _ (by omega)
  go_upto_region 1 with fail
  go_quiet (fail)
  replace hcut := hcut.drewN nq
  generalize wc.drewN nq = V at *
  obtain ⟨_, _, _, _, -, -, -, -⟩ := hcut.two.l.four
  obtain ⟨_, _, _, _, -, -, -, -⟩ := hcut.two.r.four
  go_wp2_with fail
  clear v1 v2 v3 v4 v5 v6
  generalize max x p = X at *
  generalize max y q = Y at *
  generalize min (x + u) (p + m) - X = A at *
  generalize min (y + v) (q + n) - Y = B at *
  have M := hcut.m.alloc (.cells [Value.int .i64 X, .int .i64 Y, .int .i64 A, .int .i64 B].toArray 72)
  have R := Blk.new V [.int .i64 X, .int .i64 Y, .int .i64 A, .int .i64 B] 72
  have hL := hcut.two.old.alloc hcut.two.old.size (.cells [Value.int .i64 X, .int .i64 Y, .int .i64 A, .int .i64 B].toArray 72)
  clear hcut
  ((with_reducible refine (dempty_any X Y A B _).mono ?_); rintro e w1 ⟨rfl, hb⟩)
  replace M := M.below hb
  replace R := R.below hb
  replace hL := below_call hL hb
  clear hb
  obtain ⟨_, _, _, _, _, _, _, _⟩ := M.four
  obtain ⟨_, _, _, _, _, _, _, _⟩ := R.four
  cases he : emptyv ⟨X, Y, A, B⟩ with
  | true =>
    rw [he, if_pos rfl] at hc
    go_wp2_with fail
    have D := M.put4 (.int .i64 0) (.int .i64 0) (.int .i64 0) (.int .i64 0)
    obtain ⟨c1, c2, c3, c4, -, -, -, -⟩ := D.four
    refine bodyPost_ret (v := .agg #[.int .i64 0, .int .i64 0, .int .i64 0, .int .i64 0]) (by simp [results, Tryz.results169, go_sem, c1, c2, c3, c4]) rfl ⟨by rw [hc]; rfl, ?_⟩
    exact (((hL.setCell (by simp; omega) _).setCell (by simp; omega) _).setCell (by simp; omega) _).setCell (by simp; omega) _
  | false =>
    rw [he, if_neg (by simp)] at hc
    go_wp2_with fail
    have D := M.put4 (.int .i64 X) (.int .i64 Y) (.int .i64 A) (.int .i64 B)
    obtain ⟨c1, c2, c3, c4, -, -, -, -⟩ := D.four
    refine bodyPost_ret (v := .agg #[.int .i64 X, .int .i64 Y, .int .i64 A, .int .i64 B]) (by simp [results, Tryz.results169, go_sem, c1, c2, c3, c4]) rfl ⟨by rw [hc]; rfl, ?_⟩
    exact (((hL.setCell (by simp; omega) _).setCell (by simp; omega) _).setCell (by simp; omega) _).setCell (by simp; omega) _

set_option maxHeartbeats 2000000 in
theorem dclip_x (g h p q m n : Int) (w : World) :
    Calls Tryz.prog 131 #[.int .i64 g, .int .i64 h, .agg #[.int .i64 p, .int .i64 q, .int .i64 m, .int .i64 n]] w fun e w' => e = .returned (clipv g h ⟨p, q, m, n⟩).val ∧ Below w.heap.size w w' := by
  have hk := dcommon_n 0 0 g h p q m n
  obtain ⟨c1, c2, c3, c4, hc⟩ : ∃ c1 c2 c3 c4, clipv g h ⟨p, q, m, n⟩ = ⟨c1, c2, c3, c4⟩ := ⟨_, _, _, _, rfl⟩
  rw [show common ⟨nr 0, nr 0, nr g, nr h⟩ ⟨nr p, nr q, nr m, nr n⟩ = ⟨c1, c2, c3, c4⟩ from hc] at hk
  replace hk : ∀ W, Calls Tryz.prog 169 #[.agg #[.int .i64 0, .int .i64 0, .int .i64 g, .int .i64 h], .agg #[.int .i64 p, .int .i64 q, .int .i64 m, .int .i64 n]] W fun e w' => e = .returned (.agg #[.int .i64 c1, .int .i64 c2, .int .i64 c3, .int .i64 c4]) ∧ Below W.heap.size W w' := hk
  rw [hc]
  show Calls _ _ _ _ fun e w' => e = .returned (.agg #[.int .i64 c1, .int .i64 c2, .int .i64 c3, .int .i64 c4]) ∧ Below w.heap.size w w'
  clear hc
  go_enter Tryz.func131, Tryz.ntmps131
  go_wp2_with fail
  ((with_reducible refine (hk _).mono ?_); rintro e w1 ⟨rfl, hb⟩)
  have hT := (Held2.start w [.int .i64 p, .int .i64 q, .int .i64 m, .int .i64 n] [.int .i64 0, .int .i64 0, .int .i64 0, .int .i64 0] 72 72).call hb
  clear hb
  have hL := hT.old
  have R := hT.r
  obtain ⟨_, _, _, _, _, _, _, _⟩ := R.four
  go_wp2_with fail
  have D := R.put4 (.int .i64 c1) (.int .i64 c2) (.int .i64 c3) (.int .i64 c4)
  obtain ⟨d1, d2, d3, d4, -, -, -, -⟩ := D.four
  refine bodyPost_ret (v := .agg #[.int .i64 c1, .int .i64 c2, .int .i64 c3, .int .i64 c4]) (by simp [results, Tryz.results131, go_sem, d1, d2, d3, d4]) rfl ⟨rfl, ?_⟩
  exact (((hL.setCell (by simp) _).setCell (by simp) _).setCell (by simp) _).setCell (by simp) _

end Go.Proofs.YtpgchjhfhndaaaaGreatDoor
