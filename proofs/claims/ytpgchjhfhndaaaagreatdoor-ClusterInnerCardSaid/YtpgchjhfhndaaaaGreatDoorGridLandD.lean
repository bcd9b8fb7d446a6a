/-
  What the functions of grid answer, as landed at da8c777: Inside, empty, common.
-/
import Derived.Deep.QuietTactic
import Derived.BigQuiet
import Derived.Test.YtpgchjhfhndaaaaGreatDoorGridLandC
namespace Go.Proofs.YtpgchjhfhndaaaaGreatDoor
open Go.RowKit Go.Lib

theorem Held2.stored42 {w W : World} {b c : Nat} {p q x y u v p' q' x' y' u' v' : Value} {t s : TypeId} (h : Held2 w W b c [p, q, x, y] [u, v] t s) (n : b ≠ c) (hb : w.heap.size ≤ b) (hc : w.heap.size ≤ c) :
    Held2 w ((((((W.setCell ⟨b, 0, none⟩ p').setCell ⟨b, 1, none⟩ q').setCell ⟨b, 2, none⟩ x').setCell ⟨b, 3, none⟩ y').setCell ⟨c, 0, none⟩ u').setCell ⟨c, 1, none⟩ v') b c [p', q', x', y'] [u', v'] t s :=
  (((((h.setl n hb 0 p').setl n hb 1 q').setl n hb 2 x').setl n hb 3 y').setr n hc 0 u').setr n hc 1 v'
theorem Held2.stored42r {w W : World} {b c : Nat} {p q x y u v p' q' x' y' u' v' : Value} {t s : TypeId} (h : Held2 w W b c [p, q, x, y] [u, v] t s) (n : b ≠ c) (hb : w.heap.size ≤ b) (hc : w.heap.size ≤ c) :
    Held2 w ((((((W.setCell ⟨c, 0, none⟩ u').setCell ⟨c, 1, none⟩ v').setCell ⟨b, 0, none⟩ p').setCell ⟨b, 1, none⟩ q').setCell ⟨b, 2, none⟩ x').setCell ⟨b, 3, none⟩ y') b c [p', q', x', y'] [u', v'] t s :=
  (((((h.setr n hc 0 u').setr n hc 1 v').setl n hb 0 p').setl n hb 1 q').setl n hb 2 x').setl n hb 3 y'
theorem Held2.stored44 {w W : World} {b c : Nat} {p q x y u v m k p' q' x' y' u' v' m' k' : Value} {t s : TypeId} (h : Held2 w W b c [p, q, x, y] [u, v, m, k] t s) (n : b ≠ c) (hb : w.heap.size ≤ b) (hc : w.heap.size ≤ c) :
    Held2 w ((((((((W.setCell ⟨b, 0, none⟩ p').setCell ⟨b, 1, none⟩ q').setCell ⟨b, 2, none⟩ x').setCell ⟨b, 3, none⟩ y').setCell ⟨c, 0, none⟩ u').setCell ⟨c, 1, none⟩ v').setCell ⟨c, 2, none⟩ m').setCell ⟨c, 3, none⟩ k') b c [p', q', x', y'] [u', v', m', k'] t s :=
  (((((((h.setl n hb 0 p').setl n hb 1 q').setl n hb 2 x').setl n hb 3 y').setr n hc 0 u').setr n hc 1 v').setr n hc 2 m').setr n hc 3 k'
theorem Held2.stored44r {w W : World} {b c : Nat} {p q x y u v m k p' q' x' y' u' v' m' k' : Value} {t s : TypeId} (h : Held2 w W b c [p, q, x, y] [u, v, m, k] t s) (n : b ≠ c) (hb : w.heap.size ≤ b) (hc : w.heap.size ≤ c) :
    Held2 w ((((((((W.setCell ⟨c, 0, none⟩ u').setCell ⟨c, 1, none⟩ v').setCell ⟨c, 2, none⟩ m').setCell ⟨c, 3, none⟩ k').setCell ⟨b, 0, none⟩ p').setCell ⟨b, 1, none⟩ q').setCell ⟨b, 2, none⟩ x').setCell ⟨b, 3, none⟩ y') b c [p', q', x', y'] [u', v', m', k'] t s :=
  (((((((h.setr n hc 0 u').setr n hc 1 v').setr n hc 2 m').setr n hc 3 k').setl n hb 0 p').setl n hb 1 q').setl n hb 2 x').setl n hb 3 y'

theorem ins_in (X Y V H u v : Int) : inv (nr V) (nr H) (nr u - nr X) (nr v - nr Y) = insv ⟨X, Y, V, H⟩ u v := by
  unfold inv insv R4.nrm
  dsimp only
  exact decide_eq_decide.2 (by omega)
set_option maxHeartbeats 4000000 in
theorem dins_x (X Y V H u v : Int) (w : World) :
    Calls Tryz.prog 39 #[.agg #[.int .i64 X, .int .i64 Y, .int .i64 V, .int .i64 H], .agg #[.int .i64 u, .int .i64 v]] w fun e w' => e = .returned (.bool (insv ⟨X, Y, V, H⟩ u v)) ∧ Below w.heap.size w w' := by
  rw [← ins_in]
  have d1 := dif_bd u X
  have d2 := dif_bd v Y
  have v1 : IntKind.i64.wrap (nr u - nr X) = nr u - nr X := IntWalk.i64_in _ (by omega)
  have v2 : IntKind.i64.wrap (nr v - nr Y) = nr v - nr Y := IntWalk.i64_in _ (by omega)
  have n12 : w.heap.size ≠ w.heap.size + 1 := by omega
  have g1 : w.heap.size ≤ w.heap.size := Nat.le_refl _
  have g2 : w.heap.size ≤ w.heap.size + 1 := by omega
  go_enter Tryz.func39, Tryz.ntmps39
  go_upto_region 1 with fail
  have hT := (Held2.start w [.int .i64 X, .int .i64 Y, .int .i64 V, .int .i64 H] [.int .i64 u, .int .i64 v] 72 29).drew
  generalize (w.alloc (.cells [Value.int .i64 X, .int .i64 Y, .int .i64 V, .int .i64 H].toArray 72)).alloc (.cells [Value.int .i64 u, .int .i64 v].toArray 29) = W at *
  go_cut [] from 5 (fun wx => Held2 w wx w.heap.size (w.heap.size + 1) [.int .i64 (nr X), .int .i64 (nr Y), .int .i64 (nr V), .int .i64 (nr H)] [.int .i64 (nr u), .int .i64 (nr v)] 72 29)
  case first =>
    obtain ⟨_, _, _, _, _, _, _, _⟩ := hT.l.four
    obtain ⟨_, _, _, _⟩ := hT.r.two
    go_region_with (first
      | (go_at_call 93; with_reducible refine (drect_x _ _ _ _ _).mono ?_; rintro e w' ⟨rfl, hb⟩; have hx := Held2.call (by assumption) hb; clear hb; obtain ⟨_, _, _, _, _, _, _, _⟩ := hx.l.four; obtain ⟨_, _, _, _⟩ := hx.r.two)
      | (go_at_call 94; with_reducible refine (dpos_any _ _ _).mono ?_; rintro e w' ⟨rfl, hb⟩; have hx := Held2.call (by assumption) hb; clear hb; obtain ⟨_, _, _, _, _, _, _, _⟩ := hx.l.four; obtain ⟨_, _, _, _⟩ := hx.r.two))
    all_goals
      go_wp2_with fail
      go_meet
      case rel => first | exact Held2.stored42 (by assumption) n12 g1 g2 | exact Held2.stored42r (by assumption) n12 g1 g2
  case rest =>
  clear hT
  obtain ⟨_, _, _, _, -, -, -, -⟩ := hcut.l.four
  obtain ⟨_, _, -, -⟩ := hcut.r.two
  have hL := hcut.old
  go_wp2_with fail
  ((with_reducible refine (din_any _ _ _ _ _).mono ?_); rintro e w1 ⟨rfl, hb⟩)
  go_wp2_with fail
  go_ret
  exact ⟨rfl, below_call hL hb⟩

def emptyv (r : R4) : Bool := decide (r.w < 1 ∨ r.h < 1)
set_option maxHeartbeats 400000 in
theorem dempty_any (x y u v : Int) (w : World) :
    Calls Tryz.prog 140 #[.agg #[.int .i64 x, .int .i64 y, .int .i64 u, .int .i64 v]] w fun e w' => e = .returned (.bool (emptyv ⟨x, y, u, v⟩)) ∧ Below w.heap.size w w' := by
  by_cases a : u < 1
  · have z1 : decide (u < 1) = true := decide_eq_true a
    have z2 : emptyv ⟨x, y, u, v⟩ = true := decide_eq_true (Or.inl a)
    rw [z2]
    go_enter Tryz.func140, Tryz.ntmps140
    go_wp2_with fail
    go_ret
    exact ⟨rfl, (Below.refl _ _).alloc (Nat.le_refl _) _⟩
  · have z1 : decide (u < 1) = false := decide_eq_false a
    have z2 : emptyv ⟨x, y, u, v⟩ = decide (v < 1) := decide_eq_decide.2 (by dsimp only; omega)
    rw [z2]
    go_enter Tryz.func140, Tryz.ntmps140
    go_wp2_with fail
    go_ret
    exact ⟨rfl, (Below.refl _ _).alloc (Nat.le_refl _) _⟩

end Go.Proofs.YtpgchjhfhndaaaaGreatDoor
