/-
  shadow as landed at 4bd78af: whether cells are inside a valid map; Blocks.
-/
import Derived.Test.YtlcbkeieejmmbaaDoorShD
import Derived.BigRegion
namespace Go.Proofs.YtlcbkeieejmmbaaDoor
open Go.RowKit Go.Lib

set_option maxHeartbeats 1000000 in
theorem eqP (a b c d : Int) (W : World) : (binOp .eql 26 (.agg #[.int .i64 a, .int .i64 b]) (.agg #[.int .i64 c, .int .i64 d])).run Tryd.prog W = .ok (.bool (decide (a = c ∧ b = d))) W := by
  go_simp
  by_cases c1 : a = c
  · by_cases c2 : b = d <;> simp [c1, c2]
  · simp [c1]
set_option maxHeartbeats 1000000 in
theorem neP (a b c d : Int) (W : World) : (binOp .neq 26 (.agg #[.int .i64 a, .int .i64 b]) (.agg #[.int .i64 c, .int .i64 d])).run Tryd.prog W = .ok (.bool (!decide (a = c ∧ b = d))) W := by
  go_simp
  by_cases c1 : a = c
  · by_cases c2 : b = d <;> simp [c1, c2]
  · simp [c1]
set_option maxHeartbeats 1000000 in
theorem exec_neP {o : Oper} {ρ : Operand → Value} {w : World} (a b c d : Int) (p1 p2 : Operand) (t : TypeId) (ho : o.op = .binOp .neq 26 p1 p2 t) (h1 : ρ p1 = .agg #[.int .i64 a, .int .i64 b]) (h2 : ρ p2 = .agg #[.int .i64 c, .int .i64 d]) :
    (execOp ρ o).run Tryd.prog w = .ok (.value (.bool (!decide (a = c ∧ b = d)))) w := by
  unfold execOp
  simp only [ho, h1, h2]
  go_simp
  by_cases c1 : a = c
  · by_cases c2 : b = d <;> simp [c1, c2]
  · simp [c1]
set_option maxHeartbeats 1000000 in
theorem exec_eqP {o : Oper} {ρ : Operand → Value} {w : World} (a b c d : Int) (p1 p2 : Operand) (t : TypeId) (ho : o.op = .binOp .eql 26 p1 p2 t) (h1 : ρ p1 = .agg #[.int .i64 a, .int .i64 b]) (h2 : ρ p2 = .agg #[.int .i64 c, .int .i64 d]) :
    (execOp ρ o).run Tryd.prog w = .ok (.value (.bool (decide (a = c ∧ b = d)))) w := by
  unfold execOp
  simp only [ho, h1, h2]
  go_simp
  by_cases c1 : a = c
  · by_cases c2 : b = d <;> simp [c1, c2]
  · simp [c1]
theorem eg_in : ∀ args w, (callFunc 48 args).run Tryd.prog w = .ok (.enter 48 args) w := enters_of Tryd.func48 (by kernel_rfl) rfl
set_option maxHeartbeats 1000000 in
theorem shin1_b (w h x y : Int) (s : Value) (b : Nat) (W : World) (o : Bool) (hB : Blk W b [.int .i64 w, .int .i64 h, s] 24) (ho : Hid (o = inv w h x y)) :
    Calls Tryd.prog 48 #[.agg #[.int .i64 x, .int .i64 y], .pointer (some ⟨b, 0, none⟩)] W fun e w' => e = .returned (.bool (!o)) ∧ Below W.heap.size W w' := by
  have hL := (Below.refl W.heap.size W).alloc (Nat.le_refl _) (.cells [Value.int .i64 x, .int .i64 y].toArray 26)
  have hP := Blk.new W [.int .i64 x, .int .i64 y] 26
  replace hB := hB.below hL
  obtain ⟨_, _, _, _, _, _⟩ := hB.three
  obtain ⟨_, _, _, _⟩ := hP.two
  go_enter Tryd.func48, Tryd.ntmps48
  go_upto_region 1 with fail
  generalize W.alloc (.cells [Value.int .i64 x, .int .i64 y].toArray 26) = X at *
  go_wp2_with (go_at_call 49; with_reducible refine (din_b w h x y o _ ho).mono ?_; rintro e w1 ⟨rfl, hb⟩)
  go_ret
  exact ⟨rfl, below_call hL hb⟩

/-- All cells of a list are inside. -/
def alliv (w h : Int) (l : List (Int × Int)) : Bool := l.all fun p => inv w h p.1 p.2
set_option maxHeartbeats 2000000 in
theorem shidx_b (w h : Int) (s : Value) (l : List (Int × Int)) (g b c : Nat) (t : TypeId) (W : World) (hB : Blk W b [.int .i64 w, .int .i64 h, s] 24) (hG : Blk W g (pcells l) t) (hs : l.length ≤ 1000) :
    Calls Tryd.prog 63 #[.slice (some ⟨g, 0, none⟩) l.length c, .func (.func 48) #[] #[.pointer (some ⟨b, 0, none⟩)]] W fun e w' => ∃ n : Int, e = .returned (.int .i64 n) ∧ Hid (decide (0 ≤ n) = !alliv w h l) ∧ Below W.heap.size W w' := by
  have eg := eg_in
  go_enter Tryd.func63, Tryd.ntmps63
  go_wp2_with fail
  go_loopw [8] (fun vi wr => ∃ i : Nat, vi = .int .i64 i ∧ i ≤ l.length ∧ Below W.heap.size W wr ∧ Hid (∀ j, (h' : j < l.length) → j < i → inv w h (l[j]'h').1 (l[j]'h').2 = true)) (fun vi _ => l.length - (RowKit.intOf vi).toNat)
  case atStart => exact ⟨0, rfl, by omega, Below.refl _ _, hid (fun j _ h => by omega)⟩
  case round =>
    obtain ⟨i, rfl, hi, hL, hA⟩ := hrel
    by_cases hlt : i < l.length
    · have d1 : (i : Int) < l.length := by omega
      obtain ⟨a1, a2⟩ := pcells_at l i hlt
      have a1 := ((hG.below hL).cell (2 * i)).trans a1
      have a2 := ((hG.below hL).cell (2 * i + 1)).trans a2
      rw [Nat.mul_comm 2 i] at a1 a2
      have hmem := List.getElem_mem hlt
      obtain ⟨q, hq⟩ : ∃ q, Hid (q = l[i]'hlt) := ⟨_, hid rfl⟩
      rw [← hq.out] at a1 a2
      obtain ⟨o, ho⟩ : ∃ t, Hid (t = inv w h q.1 q.2) := ⟨_, hid rfl⟩
      have hc := fun (w2 : World) (hb : Below W.heap.size W w2) => shin1_b w h q.1 q.2 s b w2 o (hB.below hb) ho
      cases o with
      | true =>
        have hN := hid (show ∀ j, (h' : j < l.length) → j < i + 1 → inv w h (l[j]'h').1 (l[j]'h').2 = true from fun j h' hj => by
          by_cases e : j < i
          · exact hA.out j h' e
          · obtain rfl : j = i := by omega
            rw [← hq.out]; exact ho.out.symm)
        clear hA hmem
        go_wp2_with (go_at_fn 48; with_reducible refine (hc _ hL).mono ?_; rintro e w2 ⟨rfl, hb2⟩)
        go_roundw
        case rel => exact ⟨i + 1, by go_num, by omega, below_call hL hb2, hN⟩
        case measure => simp [RowKit.intOf]; omega
      | false =>
        have hX := hid (show alliv w h l = false from List.all_eq_false.2 ⟨_, hmem, by rw [← hq.out, ← ho.out]; simp⟩)
        clear hA hmem
        go_wp2_with (go_at_fn 48; with_reducible refine (hc _ hL).mono ?_; rintro e w2 ⟨rfl, hb2⟩)
        go_ret
        exact ⟨_, rfl, hid (by rw [hX.out]; exact decide_eq_true (by omega)), below_call hL hb2⟩
    · obtain rfl : i = l.length := by omega
      have hX := hid (show alliv w h l = true from List.all_eq_true.2 fun x hx => by
        obtain ⟨j, hj, rfl⟩ := List.getElem_of_mem hx
        exact hA.out j hj hj)
      have d1 : ¬ (l.length : Int) < l.length := by omega
      clear hA
      go_wp2_with fail
      go_ret
      exact ⟨_, rfl, hid (by rw [hX.out]; rfl), hL⟩
set_option maxHeartbeats 1000000 in
theorem shcont_b (w h : Int) (s : Value) (l : List (Int × Int)) (g b c : Nat) (t : TypeId) (W : World) (hB : Blk W b [.int .i64 w, .int .i64 h, s] 24) (hG : Blk W g (pcells l) t) (hs : l.length ≤ 1000) :
    Calls Tryd.prog 47 #[.slice (some ⟨g, 0, none⟩) l.length c, .func (.func 48) #[] #[.pointer (some ⟨b, 0, none⟩)]] W fun e w' => e = .returned (.bool (!alliv w h l)) ∧ Below W.heap.size W w' := by
  have hc := shidx_b w h s l g b c t W hB hG hs
  obtain ⟨q, hq⟩ : ∃ q, Hid (q = alliv w h l) := ⟨_, hid rfl⟩
  rw [← hq.out] at hc ⊢
  go_enter Tryd.func47, Tryd.ntmps47
  go_wp2_with (go_at_call 63; refine hc.mono ?_; rintro e w1 ⟨n, rfl, hn, hb⟩)
  go_ret
  exact ⟨by rw [← hn.out]; rfl, hb⟩
set_option maxHeartbeats 1000000 in
theorem shinside_b (m : M3) (s : Value) (l : List (Int × Int)) (g c n : Nat) (t : TypeId) (o : Bool) (W : World) (hr : RowAt W s m.cs) (hG : Blk W g (pcells l) t) (hn : l.length = n) (hs : n ≤ 1000) (ho : Hid (o = (validm m && alliv m.w m.h l))) :
    Calls Tryd.prog 26 #[.agg #[.int .i64 m.w, .int .i64 m.h, s], .slice (some ⟨g, 0, none⟩) n c] W fun e w' => e = .returned (.bool o) ∧ Below W.heap.size W w' := by
  subst hn
  have hB := Blk.new W [.int .i64 m.w, .int .i64 m.h, s] 24
  have hL := (Below.refl W.heap.size W).alloc (Nat.le_refl _) (.cells [Value.int .i64 m.w, .int .i64 m.h, s].toArray 24)
  obtain ⟨v, hv⟩ : ∃ v, Hid (v = validm m) := ⟨_, hid rfl⟩
  obtain ⟨q, hq⟩ : ∃ q, Hid (q = alliv m.w m.h l) := ⟨_, hid rfl⟩
  have hx : o = (v && q) := by rw [ho.out, hv.out, hq.out]
  have cv := fun (w : World) (hb : Below W.heap.size W w) => dvalidm_b m s v w (hr.below hb) hv
  have cc := fun (w : World) (hb : Below W.heap.size W w) (hB : Blk w W.heap.size [.int .i64 m.w, .int .i64 m.h, s] 24) => shcont_b m.w m.h s l g W.heap.size c t w hB (hG.below hb) hs
  rw [← hq.out] at cc
  rw [hx]
  clear hx ho
  obtain ⟨_, _, _, _, _, _⟩ := hB.three
  go_enter Tryd.func26, Tryd.ntmps26
  go_upto_region 1 with fail
  generalize W.alloc (.cells [Value.int .i64 m.w, .int .i64 m.h, s].toArray 24) = X at *
  cases v with
  | false =>
    go_wp2_with (go_at_call 46; with_reducible refine (cv _ hL).mono ?_; rintro e w1 ⟨rfl, hb⟩)
    go_ret
    exact ⟨rfl, below_call hL hb⟩
  | true =>
    go_wp2_with (first | (go_at_call 46; with_reducible refine (cv _ hL).mono ?_; rintro e w1 ⟨rfl, hb⟩) | (go_at_call 47; with_reducible refine (cc _ (below_call hL hb) (hB.below hb)).mono ?_; rintro e w2 ⟨rfl, hb2⟩))
    go_ret
    exact ⟨by simp, below_call (below_call hL hb) hb2⟩
theorem inv_bd {w h x y : Int} (hw : w ≤ 32) (hh : h ≤ 32) (e : inv w h x y = true) : 0 ≤ x ∧ x ≤ 31 ∧ 0 ≤ y ∧ y ≤ 31 := by
  unfold inv at e
  have := of_decide_eq_true e
  omega
theorem inv_sm {m : M3} {x y : Int} (hf : formedv m = true) (e : inv m.w m.h x y = true) : (0 ≤ x ∧ x ≤ 31 ∧ 0 ≤ y ∧ y ≤ 31) ∧ Sm x ∧ Sm y := by
  obtain ⟨X, Y, hX, hY, x1, x2, y1, y2, _, _⟩ := formed_num hf
  have := inv_bd (w := m.w) (h := m.h) (by omega) (by omega) e
  refine ⟨this, ?_, ?_⟩ <;> unfold Sm <;> omega
theorem in_inside {m : M3} {x y : Int} (hf : formedv m = true) (e : inv m.w m.h x y = true) : Hid (true = insidev m x y) := hid (by unfold insidev; rw [hf, e]; rfl)

end Go.Proofs.YtlcbkeieejmmbaaDoor
