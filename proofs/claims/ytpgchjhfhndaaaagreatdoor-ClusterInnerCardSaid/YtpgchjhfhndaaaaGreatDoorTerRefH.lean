/-
  What the reference of terrain answers: maps changed and compared.
-/
import Derived.Test.YtpgchjhfhndaaaaGreatDoorTerRefA
import Derived.Laws.OwnMore
import Derived.BigQuiet
namespace Go.Proofs.YtpgchjhfhndaaaaGreatDoor

section
open Go.RowKit Go.Lib

theorem infoCell : (Tryz.prog.info? 53).map (fun i => (i.zero, i.size, i.bytes)) = some (some (.agg #[.int .i64 0, .int .i64 0, .int .i64 0]), 3, 24) := by kernel_rfl

theorem RowAt.news {W : World} {g o : Nat} {cs : List C3} (h : ∀ i, (h : i < cs.length) →
    W.cell? ⟨g, o + i * 3, none⟩ = some (.int .i64 (cs[i]'h).k) ∧ W.cell? ⟨g, o + i * 3 + 1, none⟩ = some (.int .i64 (cs[i]'h).h) ∧ W.cell? ⟨g, o + i * 3 + 2, none⟩ = some (.int .i64 (cs[i]'h).a)) :
    ∀ j u, (ccells cs)[j]? = some u → W.cell? ((⟨g, o, none⟩ : Addr).add j) = some u := by
  intro j u hj
  have hlt := (List.getElem?_eq_some_iff.1 hj).1
  rw [ccells_len] at hlt
  have ha : (⟨g, o, none⟩ : Addr).add j = ⟨g, o + j, none⟩ := by unfold Addr.add; split <;> simp_all
  have hi : j / 3 < cs.length := by omega
  obtain ⟨a1, a2, a3⟩ := h (j / 3) hi
  obtain ⟨b1, b2, b3⟩ := ccells_at cs (j / 3) hi
  rw [ha]
  by_cases r0 : j % 3 = 0
  · rw [show j = j / 3 * 3 by omega, b1] at hj
    rw [show o + j = o + j / 3 * 3 by omega, a1, hj]
  · by_cases r1 : j % 3 = 1
    · rw [show j = j / 3 * 3 + 1 by omega, b2] at hj
      rw [show o + j = o + j / 3 * 3 + 1 by omega, a2, hj]
    · rw [show j = j / 3 * 3 + 2 by omega, b3] at hj
      rw [show o + j = o + j / 3 * 3 + 2 by omega, a3, hj]
theorem own_drew {w : World} {B k n : Nat} {e : TypeId} {v : Value} {xs : List Value} (h : w.ownsRow B e k v n xs) : w.drew.ownsRow B e k v n xs := h
theorem own_some {w : World} {B k n : Nat} {e : TypeId} {v : Value} {xs : List Value} (h : w.ownsRow B e k v n xs) (h0 : 1 ≤ n) : ∃ g cap, v = .slice (some ⟨g, 0, none⟩) n cap := by
  rcases h.2 with ⟨_, hn⟩ | ⟨g, cap, cur, rfl, _⟩
  · omega
  · exact ⟨g, cap, rfl⟩
theorem Keep.grown {w W W1 : World} {L : List (Nat × List Value × TypeId)} {row : Option Nat} (h : Keep w W L) (hg : W.grownBy W1 row) (ne : ∀ e ∈ L, ∀ k, row = some k → e.1 ≠ k) (nr : ∀ k, row = some k → w.heap.size ≤ k) : Keep w W1 L :=
  ⟨fun e he => (h.blks e he).grown hg (ne e he), h.old.grown hg h.old.size nr⟩
theorem with_keep {W w' : World} {B a b c : Nat} {u v s p q x y z : Value} {t r k : TypeId} (hM : Blk W a [u, v, s] t) (hP : Blk W b [p, q] r) (hC : Blk W c [x, y, z] k) (la : a < B) (lb : b < B) (lc : c < B) (h : Below B W w') :
    w'.cell? ⟨a, 0, none⟩ = some u ∧ w'.cell? ⟨a, 1, none⟩ = some v ∧ w'.cell? ⟨a, 2, none⟩ = some s ∧ w'.cell? ⟨b, 0, none⟩ = some p ∧ w'.cell? ⟨b, 1, none⟩ = some q ∧ w'.cell? ⟨c, 0, none⟩ = some x ∧ w'.cell? ⟨c, 1, none⟩ = some y ∧ w'.cell? ⟨c, 2, none⟩ = some z :=
  ⟨(hM.under h la).cell 0, (hM.under h la).cell 1, (hM.under h la).cell 2, (hP.under h lb).cell 0, (hP.under h lb).cell 1, (hC.under h lc).cell 0, (hC.under h lc).cell 1, (hC.under h lc).cell 2⟩
/-- The three cells of an element, and that they may be written. -/
theorem own_three {w : World} {B g cap n : Nat} {e : TypeId} {l : List C3} (h : w.ownsRow B e 3 (.slice (some ⟨g, 0, none⟩) l.length cap) l.length (ccells l)) (hn : n < l.length) :
    w.cell? ⟨g, n * 3, none⟩ = some (.int .i64 (l[n]'hn).k) ∧ w.cell? ⟨g, n * 3 + 1, none⟩ = some (.int .i64 (l[n]'hn).h) ∧ w.cell? ⟨g, n * 3 + 2, none⟩ = some (.int .i64 (l[n]'hn).a) ∧ w.frozen? ⟨g, n * 3, none⟩ = false ∧ w.frozen? ⟨g, n * 3 + 1, none⟩ = false ∧ w.frozen? ⟨g, n * 3 + 2, none⟩ = false := by
  obtain ⟨a, b, c⟩ := ccells_at l n hn
  exact ⟨(h.cellAt (n * 3) (by omega)).trans a, (h.cellAt (n * 3 + 1) (by omega)).trans b, (h.cellAt (n * 3 + 2) (by omega)).trans c, h.frozenAt _, h.frozenAt _, h.frozenAt _⟩
theorem Keep.store {w W : World} {L : List (Nat × List Value × TypeId)} (h : Keep w W L) (a : Addr) (x : Value) (ne : ∀ e ∈ L, e.1 ≠ a.block) (hb : w.heap.size ≤ a.block) : Keep w (W.setCell a x) L :=
  ⟨fun e he => (h.blks e he).other a x (ne e he), h.old.setCell hb x⟩
theorem ccells_set (l : List C3) (n : Nat) (q : C3) (h : n < l.length) : (((ccells l).set (n * 3) (.int .i64 q.k)).set (n * 3 + 1) (.int .i64 q.h)).set (n * 3 + 2) (.int .i64 q.a) = ccells (l.set n q) := by
  induction l generalizing n with
  | nil => simp at h
  | cons p l ih =>
    cases n with
    | zero => rfl
    | succ n =>
      have e := ih n (by simpa using h)
      rw [Nat.succ_mul, List.set_cons_succ]
      show _ = .int .i64 p.k :: .int .i64 p.h :: .int .i64 p.a :: ccells (l.set n q)
      rw [← e]
      rfl
theorem RowAt.own {w : World} {B g cap : Nat} {e : TypeId} {l : List C3} (h : w.ownsRow B e 3 (.slice (some ⟨g, 0, none⟩) l.length cap) l.length (ccells l)) (hm : l.length ≤ maxLen) : RowAt w (.slice (some ⟨g, 0, none⟩) l.length cap) l := by
  refine ⟨_, _, rfl, hm, fun _ => ⟨g, 0, rfl, fun i hi => ?_⟩⟩
  obtain ⟨a, b, c, _⟩ := own_three h hi
  rw [Nat.zero_add]
  exact ⟨a, b, c⟩
theorem own_other {w : World} {B k n : Nat} {e : TypeId} {v : Value} {xs : List Value} (h : w.ownsRow B e k v n xs) (a : Addr) (x : Value) (ne : ∀ j, v.ownBlock = some j → j ≠ a.block) : (w.setCell a x).ownsRow B e k v n xs := by
  refine ⟨h.1, ?_⟩
  rcases h.2 with hn | ⟨g, cap, cur, rfl, hB, hgg, rest⟩
  · exact .inl hn
  · refine .inr ⟨g, cap, cur, rfl, hB, ?_, rest⟩
    rw [Below.heap_setCell w a x g (ne g rfl)]
    exact hgg
/-- A slice whose row, if it has one, lies in a block from B on. -/
def Upon (B : Nat) (s : Value) : Prop := ∀ g o n c, s = .slice (some ⟨g, o, none⟩) n c → B ≤ g
theorem cs_one (l : List C3) : ∀ u ∈ ccells l, u.oneCell' = true := by
  intro u hu
  unfold ccells at hu
  obtain ⟨c, _, hc⟩ := List.mem_flatMap.1 hu
  simp at hc
  rcases hc with rfl | rfl | rfl <;> rfl

set_option maxHeartbeats 2000000 in
theorem rwith_any (m : M3) (s : Value) (x y : Int) (q : C3) (W : World) (hr : RowAt W s m.cs) (e : Hid (true = insidev m x y)) :
    Calls Tryz.prog 57 #[.agg #[.int .i64 m.w, .int .i64 m.h, s], .agg #[.int .i64 x, .int .i64 y], .agg #[.int .i64 q.k, .int .i64 q.h, .int .i64 q.a]] W fun e w' => ∃ s', e = .returned (.agg #[.int .i64 m.w, .int .i64 m.h, s']) ∧ RowAt w' s' (withv m x y q).cs ∧ Upon W.heap.size s' ∧ Below W.heap.size W w' := by
  obtain ⟨i0, hi, hz0, hz1, hz2⟩ := info_cut infoCell
  obtain ⟨n, hn, hix, _⟩ := get_at e.out.symm
  obtain ⟨p, c, rfl, hm, hc⟩ := id hr
  obtain ⟨g, o, rfl, hat⟩ := hc (by omega)
  have n1 : (0 : Int) ≤ n := by omega
  have n2 : (n : Int) < m.cs.length := by omega
  have hsm : m.cs.length ≤ 1024 := by
    obtain ⟨X, Y, a, b, _, _, _, _, _, _, hX, hY, hxy, _, _⟩ := inside_at e.out.symm
    rw [hxy]
    exact Nat.mul_le_mul hX hY
  have hK := ((((Keep.nil W).alloc [.int .i64 m.w, .int .i64 m.h, .slice (some ⟨g, o, none⟩) m.cs.length c] 24).alloc [.int .i64 x, .int .i64 y] 29).alloc [.int .i64 q.k, .int .i64 q.h, .int .i64 q.a] 53).alloc [.int .i64 0, .int .i64 0, .slice none 0 0] 24
  have hat' := fun (V : World) (hV : Below W.heap.size W V) => RowAt.news (W := V) (g := g) (o := o) (cs := m.cs) fun i h => by
    obtain ⟨a, b, d⟩ := hat i h
    have k : g < W.heap.size := World.block_lt_of_cell? W _ a
    exact ⟨(hV.cell (p := ⟨g, o + i * 3, none⟩) k).trans a, (hV.cell (p := ⟨g, o + i * 3 + 1, none⟩) k).trans b, (hV.cell (p := ⟨g, o + i * 3 + 2, none⟩) k).trans d⟩
  simp only [World.size_alloc] at hK
  clear hat hc hr
  have hcs : (withv m x y q).cs = m.cs.set n q := by unfold withv; rw [← hix.out, Int.toNat_natCast]
  rw [hcs]
  clear hcs
  go_enter Tryz.func57, Tryz.ntmps57
  go_upto_region 1 with fail
  have hsz : ((((W.alloc (.cells [Value.int .i64 m.w, .int .i64 m.h, .slice (some ⟨g, o, none⟩) m.cs.length c].toArray 24)).alloc (.cells [Value.int .i64 x, .int .i64 y].toArray 29)).alloc (.cells [Value.int .i64 q.k, .int .i64 q.h, .int .i64 q.a].toArray 53)).alloc (.cells [Value.int .i64 0, .int .i64 0, .slice none 0 0].toArray 24)).heap.size = W.heap.size + 1 + 1 + 1 + 1 := by simp
  generalize ((((W.alloc (.cells [Value.int .i64 m.w, .int .i64 m.h, .slice (some ⟨g, o, none⟩) m.cs.length c].toArray 24)).alloc (.cells [Value.int .i64 x, .int .i64 y].toArray 29)).alloc (.cells [Value.int .i64 q.k, .int .i64 q.h, .int .i64 q.a].toArray 53)).alloc (.cells [Value.int .i64 0, .int .i64 0, .slice none 0 0].toArray 24)) = V at *
  have hown0 := World.ownsRow_made (e := 53) (base := V.heap.size) (size := 3) V #[] 0 (Nat.le_refl _) (by unfold maxLen; omega) rfl
  rw [hsz] at hown0
  obtain ⟨hR, hC, hP, hM⟩ := hK.four
  obtain ⟨_, _, _, _, _, _⟩ := hM.three
  go_wp2_with (at_builtin; refine wpList_append_own _ rfl _ _ 22 rfl (W.heap.size + 1 + 1 + 1 + 1) 53 i0 (.agg #[.int .i64 0, .int .i64 0, .int .i64 0]) 3 24 Tryz.underlying22 hi hz0 hz1 hz2 rfl (by decide) _ _ _ rfl hown0 ⟨g, o, none⟩ m.cs.length c (ccells m.cs) rfl (ccells_len _) (hat' _ (hK.old.alloc hK.old.size _)) (cs_one _) (by unfold maxLen; omega) (by omega) (by simp; omega) ?_)
  intro v' X hown hg _
  replace hK := (hK.other (.cells #[] 53)).grown hg (fun e he k hk => by
    simp only [Value.ownBlock, Option.some.injEq] at hk
    simp only [List.mem_cons, List.not_mem_nil, or_false] at he
    rcases he with rfl | rfl | rfl | rfl <;> simp <;> omega) (fun k hk => by simp only [Value.ownBlock, Option.some.injEq] at hk; omega)
  have hX := hg.size
  simp only [World.size_alloc, hsz] at hX
  clear hg hown0 hat' hR hC hP hM hsz
  obtain ⟨g3, cap, rfl⟩ := own_some hown (by omega)
  have hg3 := hown.lt g3 rfl
  replace hK := hK.drew
  replace hown := own_drew hown
  obtain ⟨hR, hC, hP, hM⟩ := hK.four
  have hq := Below.refl (W.heap.size + 1 + 1 + 1 + 1) X.drew
  have hf := own_three hown hn
  go_wp2_with fail
  go_region_held3 (fun w' => w'.cell? ⟨W.heap.size, 0, none⟩ = some (.int .i64 m.w) ∧ w'.cell? ⟨W.heap.size, 1, none⟩ = some (.int .i64 m.h) ∧ w'.cell? ⟨W.heap.size, 2, none⟩ = some (.slice (some ⟨g, o, none⟩) m.cs.length c) ∧ w'.cell? ⟨W.heap.size + 1, 0, none⟩ = some (.int .i64 x) ∧ w'.cell? ⟨W.heap.size + 1, 1, none⟩ = some (.int .i64 y) ∧ w'.cell? ⟨W.heap.size + 1 + 1, 0, none⟩ = some (.int .i64 q.k) ∧ w'.cell? ⟨W.heap.size + 1 + 1, 1, none⟩ = some (.int .i64 q.h) ∧ w'.cell? ⟨W.heap.size + 1 + 1, 2, none⟩ = some (.int .i64 q.a))
    (first | exact with_keep hM hP hC (by omega) (by omega) (by omega) hq | exact with_keep hM hP hC (by omega) (by omega) (show W.heap.size + 1 + 1 < W.heap.size + 1 + 1 + 1 + 1 by omega) (((hq.setCell (by simp; omega) _).setCell (by simp; omega) _).setCell (by simp; omega) _))
    (first | (go_at_call 22; with_reducible refine (rindex_b _ x y n _ hix).mono ?_; rintro e w' ⟨rfl, hb⟩; replace hq := hq.trans (hb.mono (by simp; omega)); replace hK := hK.call hb; replace hown := own_below hown hb; clear hb; replace hf := own_three hown hn; obtain ⟨_, _, _, _, _, _⟩ := hf))
  have g3lo := hg3.1
  replace hK := ((hK.store ⟨g3, n * 3, none⟩ (.int .i64 q.k) (by intro e he; simp only [List.mem_cons, List.not_mem_nil, or_false] at he; rcases he with rfl | rfl | rfl | rfl <;> simp <;> omega) (by simp; omega)).store ⟨g3, n * 3 + 1, none⟩ (.int .i64 q.h) (by intro e he; simp only [List.mem_cons, List.not_mem_nil, or_false] at he; rcases he with rfl | rfl | rfl | rfl <;> simp <;> omega) (by simp; omega)).store ⟨g3, n * 3 + 2, none⟩ (.int .i64 q.a) (by intro e he; simp only [List.mem_cons, List.not_mem_nil, or_false] at he; rcases he with rfl | rfl | rfl | rfl <;> simp <;> omega) (by simp; omega)
  replace hown := (((hown.stored (n * 3) (.int .i64 q.k)).1.stored (n * 3 + 1) (.int .i64 q.h)).1.stored (n * 3 + 2) (.int .i64 q.a)).1
  rw [ccells_set _ _ _ hn] at hown
  clear hM hP hC hR hq
  generalize ((w'.setCell ⟨g3, n * 3, none⟩ (.int .i64 q.k)).setCell ⟨g3, n * 3 + 1, none⟩ (.int .i64 q.h)).setCell ⟨g3, n * 3 + 2, none⟩ (.int .i64 q.a) = Z at *
  obtain ⟨hR, hC, hP, hM⟩ := hK.four
  obtain ⟨_, _, _, _, _, _⟩ := hR.three
  go_wp2_with fail
  have hR2 := ((hR.set 0 (.int .i64 m.w)).set 1 (.int .i64 m.h)).set 2 (.slice (some ⟨g3, 0, none⟩) m.cs.length cap)
  obtain ⟨_, _, _, -, -, -⟩ := hR2.three
  refine bodyPost_ret (v := .agg #[.int .i64 m.w, .int .i64 m.h, .slice (some ⟨g3, 0, none⟩) m.cs.length cap]) (by simp [results, Tryz.results57, go_sem, *]) rfl ⟨_, rfl, ?_, fun g' o' n' c' h => by injection h with h _ _; injection h with h; injection h with h _ _; omega, ?_⟩
  · have ne : ∀ i j, (Value.slice (some ⟨g3, 0, none⟩) m.cs.length cap).ownBlock = some j → j ≠ (⟨W.heap.size + 1 + 1 + 1, i, none⟩ : Addr).block := fun i j hj => by
      simp only [Value.ownBlock, Option.some.injEq] at hj
      show j ≠ W.heap.size + 1 + 1 + 1
      omega
    have hown2 := own_other (own_other (own_other hown ⟨W.heap.size + 1 + 1 + 1, 0, none⟩ (.int .i64 m.w) (ne 0)) ⟨W.heap.size + 1 + 1 + 1, 1, none⟩ (.int .i64 m.h) (ne 1)) ⟨W.heap.size + 1 + 1 + 1, 2, none⟩ (.slice (some ⟨g3, 0, none⟩) m.cs.length cap) (ne 2)
    have hlen : m.cs.length = (m.cs.set n q).length := by simp
    rw [hlen] at hown2 ⊢
    exact RowAt.own hown2 (by rw [← hlen]; exact hm)
  · exact ((hK.old.setCell (by simp; omega) _).setCell (by simp; omega) _).setCell (by simp; omega) _

end

section
open Go.RowKit Go.Lib

theorem rvalidm_c (m : M3) (s : Value) (b : Bool) (W : World) (hr : RowAt W s m.cs) (e : Hid (b = validm m)) :
    Calls Tryz.prog 19 #[.agg #[.int .i64 m.w, .int .i64 m.h, s]] W fun e w' => e = .returned (.bool b) ∧ Below W.heap.size W w' := rvalidm_b m s b W hr e
theorem RowAt.zero (W : World) : RowAt W (.slice none 0 0) M3.zero.cs := ⟨none, 0, rfl, Nat.zero_le _, fun h => by simp [M3.zero] at h⟩
theorem Blk.put3 {W : World} {b : Nat} {p q r : Value} {t : TypeId} (h : Blk W b [p, q, r] t) (x y u : Value) : Blk (((W.setCell ⟨b, 0, none⟩ x).setCell ⟨b, 1, none⟩ y).setCell ⟨b, 2, none⟩ u) b [x, y, u] t := ((h.set 0 x).set 1 y).set 2 u
/-- Three stores into a block above. -/
theorem below_put3 {w W : World} {b : Nat} (h : Below w.heap.size w W) (hb : w.heap.size ≤ b) (x y u : Value) : Below w.heap.size w (((W.setCell ⟨b, 0, none⟩ x).setCell ⟨b, 1, none⟩ y).setCell ⟨b, 2, none⟩ u) :=
  ((h.setCell (p := ⟨b, 0, none⟩) hb x).setCell (p := ⟨b, 1, none⟩) hb y).setCell (p := ⟨b, 2, none⟩) hb u
theorem RowAt.other {W : World} {s : Value} {l : List C3} (h : RowAt W s l) (a : Addr) (x : Value) (ne : ∀ g o c n, s = .slice (some ⟨g, o, none⟩) n c → g ≠ a.block) : RowAt (W.setCell a x) s l := by
  obtain ⟨p, c, rfl, hm, hc⟩ := h
  refine ⟨p, c, rfl, hm, fun h1 => ?_⟩
  obtain ⟨g, o, rfl, hi⟩ := hc h1
  have hg := ne g o c l.length rfl
  refine ⟨g, o, rfl, fun i hi' => ?_⟩
  obtain ⟨b1, b2, b3⟩ := hi i hi'
  have e : ∀ j, (W.setCell a x).cell? ⟨g, j, none⟩ = W.cell? ⟨g, j, none⟩ := fun j => by
    unfold World.cell?
    rw [Below.heap_setCell W a x g hg]
  rw [e, e, e]
  exact ⟨b1, b2, b3⟩
theorem RowAt.put3 {W : World} {s : Value} {l : List C3} (h : RowAt W s l) {b : Nat} (x y u : Value) (ne : ∀ g o c n, s = .slice (some ⟨g, o, none⟩) n c → g ≠ b) : RowAt (((W.setCell ⟨b, 0, none⟩ x).setCell ⟨b, 1, none⟩ y).setCell ⟨b, 2, none⟩ u) s l :=
  ((h.other ⟨b, 0, none⟩ x ne).other ⟨b, 1, none⟩ y ne).other ⟨b, 2, none⟩ u ne

set_option maxHeartbeats 2000000 in
theorem rset_b (m : M3) (s : Value) (x y : Int) (q : C3) (W : World) (M : M3) (er : Int) (hr : RowAt W s m.cs) (e : Hid (setv m x y q = (M, er))) :
    Calls Tryz.prog 21 #[.agg #[.int .i64 m.w, .int .i64 m.h, s], .agg #[.int .i64 x, .int .i64 y], .agg #[.int .i64 q.k, .int .i64 q.h, .int .i64 q.a]] W fun e w' => ∃ s', e = .returned (.tuple #[.agg #[.int .i64 M.w, .int .i64 M.h, s'], .int .i64 er]) ∧ RowAt w' s' M.cs ∧ Below W.heap.size W w' := by
  have hK := ((((Keep.nil W).alloc [.int .i64 m.w, .int .i64 m.h, s] 24).alloc [.int .i64 x, .int .i64 y] 29).alloc [.int .i64 q.k, .int .i64 q.h, .int .i64 q.a] 53).alloc [.int .i64 0, .int .i64 0, .slice none 0 0] 24
  have hr' := hr.below hK.old
  simp only [World.size_alloc] at hK
  obtain ⟨v, hv⟩ : ∃ v, Hid (v = validm m) := ⟨_, hid rfl⟩
  obtain ⟨u, hu⟩ : ∃ v, Hid (v = validc q) := ⟨_, hid rfl⟩
  obtain ⟨i, hi⟩ : ∃ v, Hid (v = insidev m x y) := ⟨_, hid rfl⟩
  have he : (if v = true ∧ u = true then (if i = true then (withv m x y q, 0) else (M3.zero, 8)) else (M3.zero, 1)) = (M, er) := by rw [hv.out, hu.out, hi.out]; exact e.out
  clear e
  go_enter Tryz.func21, Tryz.ntmps21
  go_upto_region 1 with fail
  generalize ((((W.alloc (.cells [Value.int .i64 m.w, .int .i64 m.h, s].toArray 24)).alloc (.cells [Value.int .i64 x, .int .i64 y].toArray 29)).alloc (.cells [Value.int .i64 q.k, .int .i64 q.h, .int .i64 q.a].toArray 53)).alloc (.cells [Value.int .i64 0, .int .i64 0, .slice none 0 0].toArray 24)) = V at *
  obtain ⟨hR, hC, hP, hM⟩ := hK.four
  obtain ⟨_, _, _, _, _, _⟩ := hM.three
  cases v with
  | false =>
    rw [if_neg (by simp)] at he
    injection he with e1 e2
    subst e1 e2
    go_wp2_with fail
    ((with_reducible refine (rvalidm_c m s false _ hr' hv).mono ?_); rintro e w1 ⟨rfl, hb1⟩)
    replace hK := hK.call hb1
    replace hR := hR.below hb1
    obtain ⟨_, _, _, _, _, _⟩ := hR.three
    go_wp2_with fail
    obtain ⟨_, _, _, -, -, -⟩ := (hR.put3 (.int .i64 0) (.int .i64 0) (.slice none 0 0)).three
    refine bodyPost_ret (v := .tuple #[.agg #[.int .i64 0, .int .i64 0, .slice none 0 0], .int .i64 1]) (by simp [results, Tryz.results21, go_sem, *]) rfl ⟨_, rfl, RowAt.zero _, below_put3 hK.old (by omega) _ _ _⟩
  | true =>
    cases u with
    | false =>
      rw [if_neg (by simp)] at he
      injection he with e1 e2
      subst e1 e2
      go_wp2_with fail
      ((with_reducible refine (rvalidm_c m s true _ hr' hv).mono ?_); rintro e w1 ⟨rfl, hb1⟩)
      replace hK := hK.call hb1
      replace hC := hC.below hb1
      obtain ⟨_, _, _, _, _, _⟩ := hC.three
      go_wp2_with fail
      ((with_reducible refine (rvalidc_b q false _ hu).mono ?_); rintro e w2 ⟨rfl, hb2⟩)
      replace hK := hK.call hb2
      obtain ⟨hR, _, _, _⟩ := hK.four
      obtain ⟨_, _, _, _, _, _⟩ := hR.three
      go_wp2_with fail
      obtain ⟨_, _, _, -, -, -⟩ := (hR.put3 (.int .i64 0) (.int .i64 0) (.slice none 0 0)).three
      refine bodyPost_ret (v := .tuple #[.agg #[.int .i64 0, .int .i64 0, .slice none 0 0], .int .i64 1]) (by simp [results, Tryz.results21, go_sem, *]) rfl ⟨_, rfl, RowAt.zero _, below_put3 hK.old (by omega) _ _ _⟩
    | true =>
      rw [if_pos ⟨rfl, rfl⟩] at he
      go_wp2_with fail
      ((with_reducible refine (rvalidm_c m s true _ hr' hv).mono ?_); rintro e w1 ⟨rfl, hb1⟩)
      replace hK := hK.call hb1
      replace hr' := hr'.below hb1
      replace hC := hC.below hb1
      obtain ⟨_, _, _, _, _, _⟩ := hC.three
      go_wp2_with fail
      ((with_reducible refine (rvalidc_b q true _ hu).mono ?_); rintro e w2 ⟨rfl, hb2⟩)
      replace hK := hK.call hb2
      replace hr' := hr'.below hb2
      clear hC hR hP hM hb1 hb2
      obtain ⟨hR, hC, hP, hM⟩ := hK.four
      obtain ⟨_, _, _, _, _, _⟩ := hM.three
      obtain ⟨_, _, _, _⟩ := hP.two
      cases i with
      | false =>
        rw [if_neg (by simp)] at he
        injection he with e1 e2
        subst e1 e2
        go_wp2_with fail
        ((with_reducible refine (rinside_b m s x y false _ hr' hi).mono ?_); rintro e w3 ⟨rfl, hb3⟩)
        replace hK := hK.call hb3
        replace hR := hR.below hb3
        obtain ⟨_, _, _, _, _, _⟩ := hR.three
        go_wp2_with fail
        obtain ⟨_, _, _, -, -, -⟩ := (hR.put3 (.int .i64 0) (.int .i64 0) (.slice none 0 0)).three
        refine bodyPost_ret (v := .tuple #[.agg #[.int .i64 0, .int .i64 0, .slice none 0 0], .int .i64 8]) (by simp [results, Tryz.results21, go_sem, *]) rfl ⟨_, rfl, RowAt.zero _, below_put3 hK.old (by omega) _ _ _⟩
      | true =>
        rw [if_pos rfl] at he
        injection he with e1 e2
        subst e1 e2
        go_wp2_with fail
        ((with_reducible refine (rinside_b m s x y true _ hr' hi).mono ?_); rintro e w3 ⟨rfl, hb3⟩)
        replace hK := hK.call hb3
        replace hr' := hr'.below hb3
        clear hb3 hR hC hP hM
        obtain ⟨hR, hC, hP, hM⟩ := hK.four
        obtain ⟨_, _, _, _, _, _⟩ := hM.three
        obtain ⟨_, _, _, _⟩ := hP.two
        obtain ⟨_, _, _, _, _, _⟩ := hC.three
        go_wp2_with fail
        ((with_reducible refine (rwith_any m s x y q _ hr' hi).mono ?_); rintro e w4 ⟨s', rfl, hrs, hup, hb4⟩)
        have hlt := hR.lt
        obtain ⟨p', c', rfl, _, _⟩ := id hrs
        replace hK := hK.call hb4
        replace hR := hR.below hb4
        obtain ⟨_, _, _, _, _, _⟩ := hR.three
        go_wp2_with fail
        obtain ⟨_, _, _, -, -, -⟩ := (hR.put3 (.int .i64 m.w) (.int .i64 m.h) (.slice p' (withv m x y q).cs.length c')).three
        have h3 := hrs.put3 (b := W.heap.size + 1 + 1 + 1) (.int .i64 m.w) (.int .i64 m.h) (.slice p' (withv m x y q).cs.length c') (fun g o c n h => by
          have := hup g o n c h
          omega)
        refine bodyPost_ret (v := .tuple #[.agg #[.int .i64 m.w, .int .i64 m.h, .slice p' (withv m x y q).cs.length c'], .int .i64 0]) (by simp [results, Tryz.results21, go_sem, *]) rfl ⟨_, rfl, h3, below_put3 hK.old (by omega) _ _ _⟩

end

section
open Go.RowKit Go.Lib

/-- The cells of a valid map. -/
theorem get_valid {m : M3} {x y : Int} (hv : validm m = true) : 0 ≤ (getv m x y).a ∧ (getv m x y).a ≤ 1000000 := by
  unfold getv
  split
  · next hi =>
    obtain ⟨n, hn, _, e⟩ := get_at hi
    unfold getv at e
    rw [if_pos hi] at e
    rw [e]
    unfold validm at hv
    rw [Bool.and_eq_true, List.all_eq_true] at hv
    have h := hv.2 _ (List.getElem_mem hn)
    unfold validc at h
    rw [Bool.and_eq_true, decide_eq_true_iff] at h
    exact ⟨h.1.2.2.2.2.1, h.1.2.2.2.2.2⟩
  · exact ⟨by decide, by decide⟩

end

section
open Go.RowKit Go.Lib

theorem row_cells {W V : World} {s : Value} {l : List C3} (h : RowAt W s l) (hV : Below W.heap.size W V) {i : Nat} (hi : i < l.length) : ∃ g o c, s = .slice (some ⟨g, o, none⟩) l.length c ∧ V.cell? ⟨g, o + i * 3, none⟩ = some (.int .i64 (l[i]'hi).k) ∧ V.cell? ⟨g, o + i * 3 + 1, none⟩ = some (.int .i64 (l[i]'hi).h) ∧ V.cell? ⟨g, o + i * 3 + 2, none⟩ = some (.int .i64 (l[i]'hi).a) := by
  obtain ⟨p, c, rfl, _, hc⟩ := h.below hV
  obtain ⟨g, o, rfl, hat⟩ := hc (by omega)
  exact ⟨g, o, c, rfl, hat i hi⟩
theorem Keep.drewN {w W : World} {L : List (Nat × List Value × TypeId)} (h : Keep w W L) (n : Nat) : Keep w (W.drewN n) L := ⟨fun e he => h.blks e he, below_many h.old n⟩
theorem below_drewN {B : Nat} {w W : World} (h : Below B w W) (n : Nat) : Below B w (W.drewN n) := by
  induction n with
  | zero => exact h
  | succ n ih => exact ih.drew

end

end Go.Proofs.YtpgchjhfhndaaaaGreatDoor
