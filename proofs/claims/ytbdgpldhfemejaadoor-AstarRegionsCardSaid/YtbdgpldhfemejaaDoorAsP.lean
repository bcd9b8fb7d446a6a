/-
  astar as landed at 35fbd81: whether all positions of a list are inside.
-/
import Derived.Test.YtbdgpldhfemejaaDoorAsO
namespace Go.Proofs.YtbdgpldhfemejaaDoor
open Go.RowKit Go.Lib Go.Shelf

/-- A slice of positions that can be read. -/
def PsAt (W : World) (s : Value) (l : List Pt) : Prop :=
  ∃ p c, s = .slice p l.length c ∧ l.length ≤ c ∧ l.length ≤ maxLen ∧ (1 ≤ l.length → ∃ g o, p = some ⟨g, o, none⟩ ∧ g < W.heap.size ∧ ∀ i, (h : i < l.length) → W.cell? ⟨g, o + i * 2, none⟩ = some (.int .i64 (l[i]'h).1) ∧ W.cell? ⟨g, o + i * 2 + 1, none⟩ = some (.int .i64 (l[i]'h).2))
theorem PsAt.below {W w' : World} {s : Value} {l : List Pt} (h : PsAt W s l) (hb : Below W.heap.size W w') : PsAt w' s l := by
  obtain ⟨p, c, rfl, hc1, hm, hc⟩ := h
  refine ⟨p, c, rfl, hc1, hm, fun h1 => ?_⟩
  obtain ⟨g, o, rfl, hg, hi⟩ := hc h1
  refine ⟨g, o, rfl, Nat.lt_of_lt_of_le hg hb.size, fun i hi' => ?_⟩
  obtain ⟨a, b⟩ := hi i hi'
  exact ⟨(hb.cell (p := ⟨g, o + i * 2, none⟩) hg).trans a, (hb.cell (p := ⟨g, o + i * 2 + 1, none⟩) hg).trans b⟩
theorem PsAt.any {w : World} {B n : Nat} {v : Value} {m : M3} {F : List Nat} (h : w.ownsRow B 27 2 v n (pls m F)) (hn : F.length = n) : PsAt w v (F.map (posn m)) := by
  subst hn
  rcases id h.2 with ⟨rfl, h0⟩ | ⟨g, cap, cur, rfl, _, _, hc1, hc2, _⟩
  · have : F = [] := List.eq_nil_of_length_eq_zero h0
    subst this
    exact ⟨none, 0, rfl, Nat.zero_le _, Nat.zero_le _, fun h => by simp at h⟩
  · refine ⟨some ⟨g, 0, none⟩, cap, by rw [List.length_map], by rw [List.length_map]; exact hc1, by rw [List.length_map]; omega, fun _ => ⟨g, 0, rfl, (h.lt g rfl).2, fun i hi => ?_⟩⟩
    have hi2 : i < F.length := by rw [List.length_map] at hi; exact hi
    have pj := pcells_at (F.map (posn m)) i hi
    rw [Nat.mul_comm 2 i] at pj
    rw [Nat.zero_add]
    exact ⟨(h.cellAt (i * 2) (by omega)).trans pj.1, (h.cellAt (i * 2 + 1) (by omega)).trans pj.2⟩

set_option maxHeartbeats 2000000 in
theorem asclos_b (m : M3) (s l : Value) (c x y : Int) (k : Nat) (b : Bool) (W : World) (hg : Blk W k (grdL m s l c) 46) (e : Hid (b = insp m (x, y))) :
    Calls Tryd.prog 59 #[.agg #[.int .i64 x, .int .i64 y], .pointer (some ⟨k, 0, none⟩)] W fun e w' => e = .returned (.bool (!b)) ∧ Below W.heap.size W w' := by
  have hT := Held1.start W [.int .i64 x, .int .i64 y] 27
  have hg2 := hg.below hT.old
  have q0 := hg2.cell 0
  have q1 := hg2.cell 1
  have q2 := hg2.cell 2
  have q3 := hg2.cell 3
  have q4 := hg2.cell 4
  simp only [List.getElem?_cons_zero, List.getElem?_cons_succ] at q0 q1 q2 q3 q4
  go_enter Tryd.func59, Tryd.ntmps59
  go_upto_region 1 with fail
  obtain ⟨X, hX⟩ : ∃ X, X = W.alloc (.cells [Value.int .i64 x, .int .i64 y].toArray 27) := ⟨_, rfl⟩
  rw [← hX] at hT hg2 q0 q1 q2 q3 q4 ⊢
  have p0 := hT.l.cell 0
  have p1 := hT.l.cell 1
  simp only [List.getElem?_cons_zero, List.getElem?_cons_succ] at p0 p1
  clear hX
  have ci := asinside_b m s l c x y b X e
  go_wp2_with fail
  ((with_reducible refine ci.mono ?_); rintro e w1 ⟨rfl, hb1⟩)
  clear q0 q1 q2 q3 q4 p0 p1 ci
  go_wp2_with fail
  go_ret
  exact ⟨rfl, below_call hT.old hb1⟩
theorem eg_asclos : ∀ args w, (callFunc 59 args).run Tryd.prog w = .ok (.enter 59 args) w := enters_of Tryd.func59 (by kernel_rfl) rfl

set_option maxHeartbeats 4000000 in
theorem asidxf_b (m : M3) (s l : Value) (c : Int) (k : Nat) (ps : List Pt) (v : Value) (W : World) (hr : PsAt W v ps) (hg : Blk W k (grdL m s l c) 46) :
    Calls Tryd.prog 76 #[v, .func (.func 59) #[] #[.pointer (some ⟨k, 0, none⟩)]] W fun e w' => ∃ n : Int, e = .returned (.int .i64 n) ∧ Hid (decide (0 ≤ n) = !ps.all (insp m)) ∧ Below W.heap.size W w' := by
  obtain ⟨p, cap, rfl, -, hm, hc⟩ := id hr
  unfold maxLen at hm
  go_enter Tryd.func76, Tryd.ntmps76
  go_wp2_with fail
  go_loopw [8] (fun vi wr => ∃ i : Nat, vi = .int .i64 i ∧ i ≤ ps.length ∧ Below W.heap.size W wr ∧ Hid (∀ j, (h : j < ps.length) → j < i → insp m (ps[j]'h) = true)) (fun vi _ => ps.length - (RowKit.intOf vi).toNat)
  case atStart => exact ⟨0, rfl, by omega, Below.refl _ _, hid (fun j _ h => by omega)⟩
  case round =>
    obtain ⟨i, rfl, hi, hT, hG⟩ := hrel
    by_cases hlt : i < ps.length
    · have d1 : (i : Int) < ps.length := by omega
      obtain ⟨g, o, rfl, hk, hat⟩ := hc (by omega)
      obtain ⟨a1, a2⟩ := hat i hlt
      rw [← hT.cell (p := ⟨g, _, none⟩) hk] at a1 a2
      obtain ⟨q, hq⟩ : ∃ q, ps[i]'hlt = q := ⟨_, rfl⟩
      rw [hq] at a1 a2
      obtain ⟨bb, hbb⟩ : ∃ t, Hid (t = insp m q) := ⟨_, hid rfl⟩
      have cf := asclos_b m s l c q.1 q.2 k bb wr (hg.below hT) hbb
      have eg := eg_asclos
      clear hat hc hr
      cases bb with
      | true =>
        have hN := hid (show ∀ j, (h : j < ps.length) → j < i + 1 → insp m (ps[j]'h) = true from fun j h hj => by
          by_cases e : j < i
          · exact hG.out j h e
          · obtain rfl : j = i := by omega
            rw [hq]; exact hbb.out.symm)
        clear hG
        go_wp2_with (go_at_fn 59; refine cf.mono ?_; rintro e w2 ⟨rfl, hb2⟩)
        go_roundw
        case rel => exact ⟨i + 1, by go_num, by omega, below_call hT hb2, hN⟩
        case measure => simp [RowKit.intOf]; omega
      | false =>
        have hA : ps.all (insp m) = false := by
          rw [List.all_eq_false]
          exact ⟨ps[i]'hlt, List.getElem_mem hlt, by rw [hq, ← hbb.out]; simp⟩
        clear hG
        go_wp2_with (go_at_fn 59; refine cf.mono ?_; rintro e w2 ⟨rfl, hb2⟩)
        go_ret
        exact ⟨_, rfl, hid (by rw [hA]; exact decide_eq_true (by omega)), below_call hT hb2⟩
    · obtain rfl : i = ps.length := by omega
      have hA : ps.all (insp m) = true := by
        rw [List.all_eq_true]
        intro x hx
        obtain ⟨j, hj, rfl⟩ := List.getElem_of_mem hx
        exact hG.out j hj hj
      clear hG
      go_wp2_with fail
      go_ret
      exact ⟨_, rfl, hid (by rw [hA]; rfl), hT⟩

set_option maxHeartbeats 1000000 in
theorem asany_b (m : M3) (s l : Value) (c : Int) (k : Nat) (ps : List Pt) (v : Value) (b : Bool) (W : World) (hr : PsAt W v ps) (hg : Blk W k (grdL m s l c) 46) (e : Hid (b = ps.all (insp m))) :
    Calls Tryd.prog 58 #[v, .func (.func 59) #[] #[.pointer (some ⟨k, 0, none⟩)]] W fun e w' => e = .returned (.bool (!b)) ∧ Below W.heap.size W w' := by
  have hc := asidxf_b m s l c k ps v W hr hg
  obtain ⟨p, cap, rfl, _, _⟩ := id hr
  go_enter Tryd.func58, Tryd.ntmps58
  go_wp2_with (go_at_call 76; refine hc.mono ?_; rintro e w1 ⟨n, rfl, hn, hb1⟩)
  go_ret
  exact ⟨ret_bit (by rw [e.out]; exact hn.out), hb1⟩

set_option maxHeartbeats 2000000 in
theorem ascont_b (m : M3) (s l : Value) (c : Int) (ps : List Pt) (v : Value) (b : Bool) (W : World) (hr : PsAt W v ps) (e : Hid (b = ps.all (insp m))) :
    Calls Tryd.prog 35 #[.agg #[.int .i64 m.w, .int .i64 m.h, s, l, .int .i64 c], v] W fun e w' => e = .returned (.bool b) ∧ Below W.heap.size W w' := by
  have hmf : ∀ (fn : Fn) (first cap : Array Value) (w : World), (Instr.makeFunc fn first cap).run Tryd.prog w = .ok (.func fn first cap) w := fun _ _ _ _ => rfl
  have hT := Held1.start W [.int .i64 m.w, .int .i64 m.h, s, l, .int .i64 c] 46
  have hB := Blk.new W (grdL m s l c) 46
  have hca := asany_b m s l c W.heap.size ps v b _ (hr.below hT.old) hB e
  go_enter Tryd.func35, Tryd.ntmps35
  go_wp2_with (go_at_call 58; refine hca.mono ?_; rintro e w1 ⟨rfl, hb1⟩)
  go_ret
  refine ⟨ret_bit ?_, below_call hT.old hb1⟩
  cases b <;> rfl

end Go.Proofs.YtbdgpldhfemejaaDoor
