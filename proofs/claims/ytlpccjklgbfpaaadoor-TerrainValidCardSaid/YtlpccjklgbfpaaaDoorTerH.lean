/-
  What the reference of terrain answers: a map with another cell at a position.
-/
import Derived.Test.YtlpccjklgbfpaaaDoorTerD
import Derived.Laws.OwnMore
namespace Go.Proofs.YtlpccjklgbfpaaaDoor
open Go.RowKit Go.Lib

theorem infoCell : (Tryd.prog.info? 28).map (fun i => (i.zero, i.size, i.bytes)) = some (some (.agg #[.int .i64 0, .int .i64 0, .int .i64 0]), 3, 24) := by kernel_rfl

theorem RowAt.news {W : World} {g o : Nat} {cs : List C3} (h : ∀ i, (h : i < cs.length) →
    W.cell? ⟨g, o + i * 3, none⟩ = some (.int .i64 (cs[i]'h).k) ∧ W.cell? ⟨g, o + i * 3 + 1, none⟩ = some (.int .i64 (cs[i]'h).h) ∧ W.cell? ⟨g, o + i * 3 + 2, none⟩ = some (.int .i64 (cs[i]'h).a)) :
    ∀ j u, (ccells cs)[j]? = some u → W.cell? ((⟨g, o, none⟩ : Addr).add j) = some u := by
  intro j u hj
  have hlt := (List.getElem?_eq_some_iff.1 hj).1
  rw [ccells_len] at hlt
  have ha : (⟨g, o, none⟩ : Addr).add j = ⟨g, o + j, none⟩ := by unfold Addr.add; split <;> simp_all
  have hi : j / 3 < cs.length := by omega
  obtain ⟨a1, a2, a3⟩ := h (j / 3) hi
  obtain ⟨b1, b2, b3⟩ := ccells_at cs (j / 3) hi
  rw [ha]
  by_cases r0 : j % 3 = 0
  · rw [show j = j / 3 * 3 by omega, b1] at hj
    rw [show o + j = o + j / 3 * 3 by omega, a1, hj]
  · by_cases r1 : j % 3 = 1
    · rw [show j = j / 3 * 3 + 1 by omega, b2] at hj
      rw [show o + j = o + j / 3 * 3 + 1 by omega, a2, hj]
    · rw [show j = j / 3 * 3 + 2 by omega, b3] at hj
      rw [show o + j = o + j / 3 * 3 + 2 by omega, a3, hj]
theorem own_drew {w : World} {B k n : Nat} {e : TypeId} {v : Value} {xs : List Value} (h : w.ownsRow B e k v n xs) : w.drew.ownsRow B e k v n xs := h
theorem own_some {w : World} {B k n : Nat} {e : TypeId} {v : Value} {xs : List Value} (h : w.ownsRow B e k v n xs) (h0 : 1 ≤ n) : ∃ g cap, v = .slice (some ⟨g, 0, none⟩) n cap := by
  rcases h.2 with ⟨_, hn⟩ | ⟨g, cap, cur, rfl, _⟩
  · omega
  · exact ⟨g, cap, rfl⟩
theorem Keep.grown {w W W1 : World} {L : List (Nat × List Value × TypeId)} {row : Option Nat} (h : Keep w W L) (hg : W.grownBy W1 row) (ne : ∀ e ∈ L, ∀ k, row = some k → e.1 ≠ k) (nr : ∀ k, row = some k → w.heap.size ≤ k) : Keep w W1 L :=
  ⟨fun e he => (h.blks e he).grown hg (ne e he), h.old.grown hg h.old.size nr⟩
theorem with_keep {W w' : World} {B a b c : Nat} {u v s p q x y z : Value} {t r k : TypeId} (hM : Blk W a [u, v, s] t) (hP : Blk W b [p, q] r) (hC : Blk W c [x, y, z] k) (la : a < B) (lb : b < B) (lc : c < B) (h : Below B W w') :
    w'.cell? ⟨a, 0, none⟩ = some u ∧ w'.cell? ⟨a, 1, none⟩ = some v ∧ w'.cell? ⟨a, 2, none⟩ = some s ∧ w'.cell? ⟨b, 0, none⟩ = some p ∧ w'.cell? ⟨b, 1, none⟩ = some q ∧ w'.cell? ⟨c, 0, none⟩ = some x ∧ w'.cell? ⟨c, 1, none⟩ = some y ∧ w'.cell? ⟨c, 2, none⟩ = some z :=
  ⟨(hM.under h la).cell 0, (hM.under h la).cell 1, (hM.under h la).cell 2, (hP.under h lb).cell 0, (hP.under h lb).cell 1, (hC.under h lc).cell 0, (hC.under h lc).cell 1, (hC.under h lc).cell 2⟩
/-- The three cells of an element, and that they may be written. -/
theorem own_three {w : World} {B g cap n : Nat} {e : TypeId} {l : List C3} (h : w.ownsRow B e 3 (.slice (some ⟨g, 0, none⟩) l.length cap) l.length (ccells l)) (hn : n < l.length) :
    w.cell? ⟨g, n * 3, none⟩ = some (.int .i64 (l[n]'hn).k) ∧ w.cell? ⟨g, n * 3 + 1, none⟩ = some (.int .i64 (l[n]'hn).h) ∧ w.cell? ⟨g, n * 3 + 2, none⟩ = some (.int .i64 (l[n]'hn).a) ∧ w.frozen? ⟨g, n * 3, none⟩ = false ∧ w.frozen? ⟨g, n * 3 + 1, none⟩ = false ∧ w.frozen? ⟨g, n * 3 + 2, none⟩ = false := by
  obtain ⟨a, b, c⟩ := ccells_at l n hn
  exact ⟨(h.cellAt (n * 3) (by omega)).trans a, (h.cellAt (n * 3 + 1) (by omega)).trans b, (h.cellAt (n * 3 + 2) (by omega)).trans c, h.frozenAt _, h.frozenAt _, h.frozenAt _⟩
theorem Keep.store {w W : World} {L : List (Nat × List Value × TypeId)} (h : Keep w W L) (a : Addr) (x : Value) (ne : ∀ e ∈ L, e.1 ≠ a.block) (hb : w.heap.size ≤ a.block) : Keep w (W.setCell a x) L :=
  ⟨fun e he => (h.blks e he).other a x (ne e he), h.old.setCell hb x⟩
theorem ccells_set (l : List C3) (n : Nat) (q : C3) (h : n < l.length) : (((ccells l).set (n * 3) (.int .i64 q.k)).set (n * 3 + 1) (.int .i64 q.h)).set (n * 3 + 2) (.int .i64 q.a) = ccells (l.set n q) := by
  induction l generalizing n with
  | nil => simp at h
  | cons p l ih =>
    cases n with
    | zero => rfl
    | succ n =>
      have e := ih n (by simpa using h)
      rw [Nat.succ_mul, List.set_cons_succ]
      show _ = .int .i64 p.k :: .int .i64 p.h :: .int .i64 p.a :: ccells (l.set n q)
      rw [← e]
      rfl
theorem RowAt.own {w : World} {B g cap : Nat} {e : TypeId} {l : List C3} (h : w.ownsRow B e 3 (.slice (some ⟨g, 0, none⟩) l.length cap) l.length (ccells l)) (hm : l.length ≤ maxLen) : RowAt w (.slice (some ⟨g, 0, none⟩) l.length cap) l := by
  refine ⟨_, _, rfl, hm, fun _ => ⟨g, 0, rfl, fun i hi => ?_⟩⟩
  obtain ⟨a, b, c, _⟩ := own_three h hi
  rw [Nat.zero_add]
  exact ⟨a, b, c⟩
theorem own_other {w : World} {B k n : Nat} {e : TypeId} {v : Value} {xs : List Value} (h : w.ownsRow B e k v n xs) (a : Addr) (x : Value) (ne : ∀ j, v.ownBlock = some j → j ≠ a.block) : (w.setCell a x).ownsRow B e k v n xs := by
  refine ⟨h.1, ?_⟩
  rcases h.2 with hn | ⟨g, cap, cur, rfl, hB, hgg, rest⟩
  · exact .inl hn
  · refine .inr ⟨g, cap, cur, rfl, hB, ?_, rest⟩
    rw [Below.heap_setCell w a x g (ne g rfl)]
    exact hgg
/-- A slice whose row, if it has one, lies in a block from B on. -/
def Upon (B : Nat) (s : Value) : Prop := ∀ g o n c, s = .slice (some ⟨g, o, none⟩) n c → B ≤ g
theorem cs_one (l : List C3) : ∀ u ∈ ccells l, u.oneCell' = true := by
  intro u hu
  unfold ccells at hu
  obtain ⟨c, _, hc⟩ := List.mem_flatMap.1 hu
  simp at hc
  rcases hc with rfl | rfl | rfl <;> rfl

set_option maxHeartbeats 2000000 in
theorem rwith_any (m : M3) (s : Value) (x y : Int) (q : C3) (W : World) (hr : RowAt W s m.cs) (e : Hid (true = insidev m x y)) :
    Calls Tryd.prog 38 #[.agg #[.int .i64 m.w, .int .i64 m.h, s], .agg #[.int .i64 x, .int .i64 y], .agg #[.int .i64 q.k, .int .i64 q.h, .int .i64 q.a]] W fun e w' => ∃ s', e = .returned (.agg #[.int .i64 m.w, .int .i64 m.h, s']) ∧ RowAt w' s' (withv m x y q).cs ∧ Upon W.heap.size s' ∧ Below W.heap.size W w' := by
  obtain ⟨i0, hi, hz0, hz1, hz2⟩ := info_cut infoCell
  obtain ⟨n, hn, hix, _⟩ := get_at e.out.symm
  obtain ⟨p, c, rfl, hm, hc⟩ := id hr
  obtain ⟨g, o, rfl, hat⟩ := hc (by omega)
  have n1 : (0 : Int) ≤ n := by omega
  have n2 : (n : Int) < m.cs.length := by omega
  have hsm : m.cs.length ≤ 1024 := by
    obtain ⟨X, Y, a, b, _, _, _, _, _, _, hX, hY, hxy, _, _⟩ := inside_at e.out.symm
    rw [hxy]
    exact Nat.mul_le_mul hX hY
  have hK := ((((Keep.nil W).alloc [.int .i64 m.w, .int .i64 m.h, .slice (some ⟨g, o, none⟩) m.cs.length c] 24).alloc [.int .i64 x, .int .i64 y] 26).alloc [.int .i64 q.k, .int .i64 q.h, .int .i64 q.a] 28).alloc [.int .i64 0, .int .i64 0, .slice none 0 0] 24
  have hat' := fun (V : World) (hV : Below W.heap.size W V) => RowAt.news (W := V) (g := g) (o := o) (cs := m.cs) fun i h => by
    obtain ⟨a, b, d⟩ := hat i h
    have k : g < W.heap.size := World.block_lt_of_cell? W _ a
    exact ⟨(hV.cell (p := ⟨g, o + i * 3, none⟩) k).trans a, (hV.cell (p := ⟨g, o + i * 3 + 1, none⟩) k).trans b, (hV.cell (p := ⟨g, o + i * 3 + 2, none⟩) k).trans d⟩
  simp only [World.size_alloc] at hK
  clear hat hc hr
  have hcs : (withv m x y q).cs = m.cs.set n q := by unfold withv; rw [← hix.out, Int.toNat_natCast]
  rw [hcs]
  clear hcs
  go_enter Tryd.func38, Tryd.ntmps38
  go_upto_region 1 with fail
  have hsz : ((((W.alloc (.cells [Value.int .i64 m.w, .int .i64 m.h, .slice (some ⟨g, o, none⟩) m.cs.length c].toArray 24)).alloc (.cells [Value.int .i64 x, .int .i64 y].toArray 26)).alloc (.cells [Value.int .i64 q.k, .int .i64 q.h, .int .i64 q.a].toArray 28)).alloc (.cells [Value.int .i64 0, .int .i64 0, .slice none 0 0].toArray 24)).heap.size = W.heap.size + 1 + 1 + 1 + 1 := by simp
  generalize ((((W.alloc (.cells [Value.int .i64 m.w, .int .i64 m.h, .slice (some ⟨g, o, none⟩) m.cs.length c].toArray 24)).alloc (.cells [Value.int .i64 x, .int .i64 y].toArray 26)).alloc (.cells [Value.int .i64 q.k, .int .i64 q.h, .int .i64 q.a].toArray 28)).alloc (.cells [Value.int .i64 0, .int .i64 0, .slice none 0 0].toArray 24)) = V at *
  have hown0 := World.ownsRow_made (e := 28) (base := V.heap.size) (size := 3) V #[] 0 (Nat.le_refl _) (by unfold maxLen; omega) rfl
  rw [hsz] at hown0
  obtain ⟨hR, hC, hP, hM⟩ := hK.four
  obtain ⟨_, _, _, _, _, _⟩ := hM.three
  go_wp2_with (at_builtin; refine wpList_append_own _ rfl _ _ 22 rfl (W.heap.size + 1 + 1 + 1 + 1) 28 i0 (.agg #[.int .i64 0, .int .i64 0, .int .i64 0]) 3 24 Tryd.underlying22 hi hz0 hz1 hz2 rfl (by decide) _ _ _ rfl hown0 ⟨g, o, none⟩ m.cs.length c (ccells m.cs) rfl (ccells_len _) (hat' _ (hK.old.alloc hK.old.size _)) (cs_one _) (by unfold maxLen; omega) (by omega) (by simp; omega) ?_)
  intro v' X hown hg _
  replace hK := (hK.other (.cells #[] 28)).grown hg (fun e he k hk => by
    simp only [Value.ownBlock, Option.some.injEq] at hk
    simp only [List.mem_cons, List.not_mem_nil, or_false] at he
    rcases he with rfl | rfl | rfl | rfl <;> simp <;> omega) (fun k hk => by simp only [Value.ownBlock, Option.some.injEq] at hk; omega)
  have hX := hg.size
  simp only [World.size_alloc, hsz] at hX
  clear hg hown0 hat' hR hC hP hM hsz
  obtain ⟨g3, cap, rfl⟩ := own_some hown (by omega)
  have hg3 := hown.lt g3 rfl
  replace hK := hK.drew
  replace hown := own_drew hown
  obtain ⟨hR, hC, hP, hM⟩ := hK.four
  have hq := Below.refl (W.heap.size + 1 + 1 + 1 + 1) X.drew
  have hf := own_three hown hn
  go_wp2_with fail
  go_region_held3 (fun w' => w'.cell? ⟨W.heap.size, 0, none⟩ = some (.int .i64 m.w) ∧ w'.cell? ⟨W.heap.size, 1, none⟩ = some (.int .i64 m.h) ∧ w'.cell? ⟨W.heap.size, 2, none⟩ = some (.slice (some ⟨g, o, none⟩) m.cs.length c) ∧ w'.cell? ⟨W.heap.size + 1, 0, none⟩ = some (.int .i64 x) ∧ w'.cell? ⟨W.heap.size + 1, 1, none⟩ = some (.int .i64 y) ∧ w'.cell? ⟨W.heap.size + 1 + 1, 0, none⟩ = some (.int .i64 q.k) ∧ w'.cell? ⟨W.heap.size + 1 + 1, 1, none⟩ = some (.int .i64 q.h) ∧ w'.cell? ⟨W.heap.size + 1 + 1, 2, none⟩ = some (.int .i64 q.a))
    (first | exact with_keep hM hP hC (by omega) (by omega) (by omega) hq | exact with_keep hM hP hC (by omega) (by omega) (show W.heap.size + 1 + 1 < W.heap.size + 1 + 1 + 1 + 1 by omega) (((hq.setCell (by simp; omega) _).setCell (by simp; omega) _).setCell (by simp; omega) _))
    (first | (go_at_call 34; with_reducible refine (rindex_b _ x y n _ hix).mono ?_; rintro e w' ⟨rfl, hb⟩; replace hq := hq.trans (hb.mono (by simp; omega)); replace hK := hK.call hb; replace hown := own_below hown hb; clear hb; replace hf := own_three hown hn; obtain ⟨_, _, _, _, _, _⟩ := hf))
  have g3lo := hg3.1
  replace hK := ((hK.store ⟨g3, n * 3, none⟩ (.int .i64 q.k) (by intro e he; simp only [List.mem_cons, List.not_mem_nil, or_false] at he; rcases he with rfl | rfl | rfl | rfl <;> simp <;> omega) (by simp; omega)).store ⟨g3, n * 3 + 1, none⟩ (.int .i64 q.h) (by intro e he; simp only [List.mem_cons, List.not_mem_nil, or_false] at he; rcases he with rfl | rfl | rfl | rfl <;> simp <;> omega) (by simp; omega)).store ⟨g3, n * 3 + 2, none⟩ (.int .i64 q.a) (by intro e he; simp only [List.mem_cons, List.not_mem_nil, or_false] at he; rcases he with rfl | rfl | rfl | rfl <;> simp <;> omega) (by simp; omega)
  replace hown := (((hown.stored (n * 3) (.int .i64 q.k)).1.stored (n * 3 + 1) (.int .i64 q.h)).1.stored (n * 3 + 2) (.int .i64 q.a)).1
  rw [ccells_set _ _ _ hn] at hown
  clear hM hP hC hR hq
  generalize ((w'.setCell ⟨g3, n * 3, none⟩ (.int .i64 q.k)).setCell ⟨g3, n * 3 + 1, none⟩ (.int .i64 q.h)).setCell ⟨g3, n * 3 + 2, none⟩ (.int .i64 q.a) = Z at *
  obtain ⟨hR, hC, hP, hM⟩ := hK.four
  obtain ⟨_, _, _, _, _, _⟩ := hR.three
  go_wp2_with fail
  have hR2 := ((hR.set 0 (.int .i64 m.w)).set 1 (.int .i64 m.h)).set 2 (.slice (some ⟨g3, 0, none⟩) m.cs.length cap)
  obtain ⟨_, _, _, -, -, -⟩ := hR2.three
  refine bodyPost_ret (v := .agg #[.int .i64 m.w, .int .i64 m.h, .slice (some ⟨g3, 0, none⟩) m.cs.length cap]) (by simp [results, Tryd.results38, go_sem, *]) rfl ⟨_, rfl, ?_, fun g' o' n' c' h => by injection h with h _ _; injection h with h; injection h with h _ _; omega, ?_⟩
  · have ne : ∀ i j, (Value.slice (some ⟨g3, 0, none⟩) m.cs.length cap).ownBlock = some j → j ≠ (⟨W.heap.size + 1 + 1 + 1, i, none⟩ : Addr).block := fun i j hj => by
      simp only [Value.ownBlock, Option.some.injEq] at hj
      show j ≠ W.heap.size + 1 + 1 + 1
      omega
    have hown2 := own_other (own_other (own_other hown ⟨W.heap.size + 1 + 1 + 1, 0, none⟩ (.int .i64 m.w) (ne 0)) ⟨W.heap.size + 1 + 1 + 1, 1, none⟩ (.int .i64 m.h) (ne 1)) ⟨W.heap.size + 1 + 1 + 1, 2, none⟩ (.slice (some ⟨g3, 0, none⟩) m.cs.length cap) (ne 2)
    have hlen : m.cs.length = (m.cs.set n q).length := by simp
    rw [hlen] at hown2 ⊢
    exact RowAt.own hown2 (by rw [← hlen]; exact hm)
  · exact ((hK.old.setCell (by simp; omega) _).setCell (by simp; omega) _).setCell (by simp; omega) _

end Go.Proofs.YtlpccjklgbfpaaaDoor
