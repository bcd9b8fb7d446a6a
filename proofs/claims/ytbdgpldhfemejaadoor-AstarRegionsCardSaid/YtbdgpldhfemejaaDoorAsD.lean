/-
  astar as landed at 35fbd81: the frontier: its buckets in memory, and how a cell is added.
-/
import Derived.Test.YtbdgpldhfemejaaDoorAsC
import Derived.Test.YtbdgpldhfemejaaDoorAsRound
import Derived.Test.YtbdgpldhfemejaaDoorAppRows
namespace Go.Proofs.YtbdgpldhfemejaaDoor
open Go.RowKit Go.Lib

theorem infoPosA : (Tryd.prog.info? 27).map (fun i => (i.zero, i.size, i.bytes)) = some (some (.agg #[.int .i64 0, .int .i64 0]), 2, 16) := by kernel_rfl
theorem infoRowA : (Tryd.prog.info? 32).map (fun i => (i.zero, i.size, i.bytes)) = some (some (.slice none 0 0), 1, 24) := by kernel_rfl
/-- The cells of a bucket, as memory holds them. -/
def pls (m : M3) (l : List Nat) : List Value := pcells (l.map (posn m))
theorem pls_len (m : M3) (l : List Nat) : (pls m l).length = l.length * 2 := by unfold pls; rw [pcells_len, List.length_map]
theorem pls_snoc (m : M3) (l : List Nat) (i : Nat) : pls m l ++ [.int .i64 (posn m i).1, .int .i64 (posn m i).2] = pls m (l ++ [i]) := by
  unfold pls; rw [pcells_snoc, List.map_append]; rfl
/-- The buckets of a frontier: a row of rows, each in a block of its own. -/
structure Fr (W : World) (m : M3) (B F : Nat) (v : Value) (vs : List Value) (L : List (List Nat)) (cnt : Int) : Prop where
  blk : Blk W F [v, .int .i64 cnt] 72
  row : W.ownsRow B 32 1 v vs.length vs
  len : vs.length = L.length
  each : ∀ i u, vs[i]? = some u → W.ownsRow B 27 2 u (bk L i).length (pls m (bk L i))
  apart : ∀ (i j : Nat) (u u' : Value), vs[i]? = some u → vs[j]? = some u' → i ≠ j → ∀ b, u.ownBlock = some b → u'.ownBlock ≠ some b
  low : F < B
/-- The blocks of a frontier. -/
def Fb (F : Nat) (v : Value) (vs : List Value) (b : Nat) : Prop := b = F ∨ v.ownBlock = some b ∨ ∃ u ∈ vs, u.ownBlock = some b
section
variable {W W' : World} {m : M3} {B F : Nat} {v : Value} {vs : List Value} {L : List (List Nat)} {cnt : Int}
theorem own_type {w : World} {base : Nat} {e : TypeId} {size n : Nat} {u : Value} {xs : List Value} (h : w.ownsRow base e size u n xs) {b : Nat} (hb : u.ownBlock = some b) : ∃ cur, w.heap[b]? = some (.cells cur e (0, 0)) := by
  rcases h.2 with ⟨rfl, _⟩ | ⟨g, cap, cur, rfl, _, hh, _⟩
  · simp [Value.ownBlock] at hb
  · simp [Value.ownBlock] at hb
    subst hb
    exact ⟨cur, hh⟩
theorem asown_apart {w : World} {base base' : Nat} {e e' : TypeId} {size size' n n' : Nat} {u u' : Value} {xs xs' : List Value} (h : w.ownsRow base e size u n xs) (h' : w.ownsRow base' e' size' u' n' xs') (ne : e ≠ e') {b : Nat} (hb : u.ownBlock = some b) : u'.ownBlock ≠ some b := fun hb' => by
  obtain ⟨c, hc⟩ := own_type h hb
  obtain ⟨c', hc'⟩ := own_type h' hb'
  rw [hc] at hc'
  injection hc' with hc'
  injection hc' with _ e1
  exact ne e1
theorem Fr.rowEach (h : Fr W m B F v vs L cnt) {i : Nat} {u : Value} (hu : vs[i]? = some u) {b : Nat} (hb : u.ownBlock = some b) : v.ownBlock ≠ some b :=
  asown_apart (h.each i u hu) h.row (by decide) hb
theorem Fr.fb_lt (h : Fr W m B F v vs L cnt) {b : Nat} (hb : Fb F v vs b) : b < W.heap.size ∧ (b = F ∨ B ≤ b) := by
  rcases hb with rfl | hb | ⟨u, hu, hb⟩
  · exact ⟨h.blk.lt, .inl rfl⟩
  · have := h.row.lt b hb; exact ⟨this.2, .inr this.1⟩
  · obtain ⟨i, hi, e⟩ := List.mem_iff_getElem.1 hu
    have := (h.each i u (by rw [List.getElem?_eq_getElem hi, e])).lt b hb
    exact ⟨this.2, .inr this.1⟩
/-- What leaves a frontier's blocks alone leaves it as it was. -/
theorem Fr.kept (h : Fr W m B F v vs L cnt) (hs : ∀ b, Fb F v vs b → W'.heap[b]? = W.heap[b]?) : Fr W' m B F v vs L cnt := by
  have own : ∀ {e size n u xs}, W.ownsRow B e size u n xs → (∀ b, u.ownBlock = some b → Fb F v vs b) → W'.ownsRow B e size u n xs := fun {e size n u xs} ho hb => by
    refine ⟨ho.1, ?_⟩
    rcases ho.2 with hn | ⟨g, cap, cur, rfl, hB, hh, rest⟩
    · exact .inl hn
    · refine .inr ⟨g, cap, cur, rfl, hB, ?_, rest⟩
      rw [hs g (hb g rfl)]; exact hh
  refine ⟨?_, own h.row (fun b hb => .inr (.inl hb)), h.len, fun i u hu => own (h.each i u hu) (fun b hb => .inr (.inr ⟨u, List.mem_of_getElem? hu, hb⟩)), h.apart, h.low⟩
  have := h.blk
  unfold Blk at this ⊢
  rw [hs F (.inl rfl)]; exact this
theorem Fr.below (h : Fr W m B F v vs L cnt) (hb : Below W.heap.size W W') : Fr W' m B F v vs L cnt := h.kept (fun b k => hb.block b (h.fb_lt k).1)
theorem Fr.foot {A A' : Nat → Prop} (h : Fr W m B F v vs L cnt) (hf : Foot A W A' W') (hA : ∀ b, Fb F v vs b → ¬ A b) : Fr W' m B F v vs L cnt := h.kept (fun b k => hf.same b (h.fb_lt k).1 (hA b k))
end

/-- An append to a row of the call's own: and where the new row lies. -/
theorem app_where {P : Program} (w : World) (base : Nat) (t ty e : TypeId) (i : TypeInfo) (z : Value) (size bytes : Nat) (ht : P.underlying t = some (.slice e)) (hi : P.info? e = some i) (hz : i.zero = some z)
    (hsize : i.size = size) (hby : i.bytes = bytes) (hzs : z.cells.size = size) (hsz : 0 < size)
    (v : Value) (n : Nat) (xs : List Value) (hown : w.ownsRow base e size v n xs)
    (a : Addr) (c : Nat) (news : List Value) (hl : news.length = 1 * size) (hnews : ∀ j u, news[j]? = some u → w.cell? (a.add j) = some u) (h1 : ∀ u ∈ news, u.oneCell' = true)
    (h63 : n + 1 ≤ maxLen) (hbytes : (n + 1) * bytes ≤ 140737488355328) (hbase : base ≤ w.heap.size) :
    ∃ v' w', (Builtin.append_ #[t, t] ty #[v, .slice (some a) 1 c]).run P w = .ok v' w' ∧ w'.ownsRow base e size v' (n + 1) (xs ++ news) ∧ w.grownBy w' v.ownBlock ∧ (∀ b, v'.ownBlock = some b → v.ownBlock = some b ∨ w.heap.size ≤ b) := by
  obtain ⟨v', w', hr, h2, h3, _⟩ := run_append_own (P := P) w base t ty e i z size bytes ht hi hz hsize hby hzs hsz v n xs hown a 1 c news hl hnews h1 h63 hbytes hbase
  refine ⟨v', w', hr, h2, h3, fun b hb => ?_⟩
  rcases hown.2 with ⟨rfl, rfl⟩ | ⟨g, cap, cur, rfl, hbg, hg, hnc, hcm, hcs, htake⟩
  · have hx : xs = [] := List.eq_nil_of_length_eq_zero (by have := hown.1; simpa using this)
    obtain ⟨v2, w2, hr2, h22, _, _⟩ := run_append_own (P := P) w w.heap.size t ty e i z size bytes ht hi hz hsize hby hzs hsz (.slice none 0 0) 0 [] (World.ownsRow_nil w _ e size) a 1 c news hl hnews h1 h63 hbytes (Nat.le_refl _)
    have := hr.symm.trans hr2
    injection this with e1 e2
    rw [← e1] at h22
    exact .inr (h22.lt b hb).1
  · subst hsize
    subst hby
    have hsmall : n + 1 ≤ 9223372036854775807 := by simp only [maxLen] at h63; omega
    by_cases hroom : n + 1 ≤ cap
    · have hfit : n * i.size + news.length ≤ cur.size := by rw [hl, hcs, ← Nat.add_mul]; exact Nat.mul_le_mul_right _ hroom
      have hr2 := run_append_room (P := P) w t ty e i ht hi g n cap cur hg a 1 c news hl hnews h1 hroom hfit
      have := hr.symm.trans hr2
      injection this with e1 _
      rw [e1] at hb
      exact .inl hb
    · have holds : ∀ j u, xs[j]? = some u → w.cell? ((⟨g, 0, none⟩ : Addr).add j) = some u := hown.cells (g := g) rfl
      have hr2 := run_append_grow (P := P) w t ty e i z ht hi hz ⟨g, 0, none⟩ n cap xs hown.1 holds a 1 c news hl hnews (by omega) (by omega) (growslice_fits (by omega) hbytes)
      have := hr.symm.trans hr2
      injection this with e1 _
      rw [e1] at hb
      simp [Value.ownBlock] at hb
      exact .inr (by omega)

theorem vs_snoc {vs : List Value} {x u : Value} {i : Nat} (h : (vs ++ [x])[i]? = some u) : (i < vs.length ∧ vs[i]? = some u) ∨ (i = vs.length ∧ u = x) := by
  rw [List.getElem?_append] at h
  split at h
  · next hl => exact .inl ⟨hl, h⟩
  · next hl =>
    have hi : i - vs.length = 0 := by
      apply Classical.byContradiction; intro hn
      rw [List.getElem?_eq_none (by simp; omega)] at h; cases h
    rw [hi] at h
    injection h with h
    exact .inr ⟨by omega, h.symm⟩
theorem bk_snoc (L : List (List Nat)) (i : Nat) : bk (L ++ [[]]) i = bk L i := by
  unfold bk
  rw [List.getD_eq_getElem?_getD, List.getD_eq_getElem?_getD, List.getElem?_append]
  split
  · rfl
  · rw [List.getElem?_eq_none (l := L) (by omega)]
    cases h : i - L.length <;> rfl
/-- An empty bucket is put behind the others. -/
theorem Fr.push {W V W' : World} {m : M3} {B F : Nat} {v v' : Value} {vs : List Value} {L : List (List Nat)} {cnt : Int} (h : Fr W m B F v vs L cnt) (h2 : Foot (fun _ => False) W (fun _ => False) V) (hg : V.grownBy W' v.ownBlock) (hown : W'.ownsRow B 32 1 v' (vs.length + 1) (vs ++ [.slice none 0 0]))
    (hv' : ∀ b, v'.ownBlock = some b → v.ownBlock = some b ∨ W.heap.size ≤ b) :
    Fr (W'.setCell ⟨F, 0, none⟩ v') m B F v' (vs ++ [.slice none 0 0]) (L ++ [[]]) cnt ∧ Foot (Fb F v vs) W (Fb F v' (vs ++ [.slice none 0 0])) (W'.setCell ⟨F, 0, none⟩ v') := by
  have same : ∀ b, b < W.heap.size → v.ownBlock ≠ some b → W'.heap[b]? = W.heap[b]? := fun b hb hne => (hg.block b (Nat.lt_of_lt_of_le hb h2.size) (fun e => hne e.symm)).trans (h2.same b hb (fun h => h))
  have hFlt := h.blk.lt
  have hFv : v.ownBlock ≠ some F := fun e => by have := (h.row.lt F e).1; have := h.low; omega
  have hB1 : Blk W' F [v, .int .i64 cnt] 72 := by
    have := h.blk
    unfold Blk at this ⊢
    rw [same F hFlt hFv]; exact this
  have sameF : ∀ b, b ≠ F → (W'.setCell ⟨F, 0, none⟩ v').heap[b]? = W'.heap[b]? := fun b hb => Below.heap_setCell W' ⟨F, 0, none⟩ v' b hb
  have own : ∀ {e size n u xs}, W'.ownsRow B e size u n xs → (W'.setCell ⟨F, 0, none⟩ v').ownsRow B e size u n xs := fun {e size n u xs} ho => by
    refine ⟨ho.1, ?_⟩
    rcases ho.2 with hn | ⟨g, cap, cur, rfl, hB, hh, rest⟩
    · exact .inl hn
    · refine .inr ⟨g, cap, cur, rfl, hB, ?_, rest⟩
      rw [sameF g (by have := h.low; omega)]; exact hh
  refine ⟨⟨hB1.set 0 v', by rw [List.length_append]; exact own hown, by rw [List.length_append, List.length_append, h.len]; rfl, fun i u hu => ?_, fun i j u u' hu hu' hij b hb => ?_, h.low⟩, ⟨?_, ?_, ?_, ?_, fun b hb hA => ?_, fun b hb => ?_⟩⟩
  · rw [bk_snoc]
    rcases vs_snoc hu with ⟨hi, hu⟩ | ⟨hi, rfl⟩
    · refine own ?_
      have ho := h.each i u hu
      refine ⟨ho.1, ?_⟩
      rcases ho.2 with hn | ⟨g, cap, cur, e, hB, hh, rest⟩
      · exact .inl hn
      · refine .inr ⟨g, cap, cur, e, hB, ?_, rest⟩
        rw [same g (Array.getElem?_eq_some_iff.1 hh).1 (h.rowEach hu (by rw [e]; rfl))]
        exact hh
    · have : bk L i = [] := by unfold bk; rw [List.getD_eq_getElem?_getD, List.getElem?_eq_none (by rw [← h.len]; omega)]; rfl
      rw [this]
      exact World.ownsRow_nil _ _ _ _
  · rcases vs_snoc hu with ⟨hi, hu⟩ | ⟨hi, rfl⟩
    · rcases vs_snoc hu' with ⟨hj, hu'⟩ | ⟨hj, rfl⟩
      · exact h.apart i j u u' hu hu' hij b hb
      · simp [Value.ownBlock]
    · simp [Value.ownBlock] at hb
  · exact hg.os.trans h2.os
  · exact hg.tape.trans h2.tape
  · exact hg.output.trans h2.output
  · have := h2.size; have := hg.size; simp [World.setCell]; omega
  · have hbF : b ≠ F := fun e => hA (.inl e)
    rw [sameF b hbF]
    exact same b hb (fun e => hA (.inr (.inl e)))
  · rcases hb with rfl | hb | ⟨u, hu, hb⟩
    · exact .inl (.inl rfl)
    · rcases hv' b hb with k | k
      · exact .inl (.inr (.inl k))
      · exact .inr k
    · rcases List.mem_append.1 hu with hu | hu
      · exact .inl (.inr (.inr ⟨u, hu, hb⟩))
      · rw [List.mem_singleton.1 hu] at hb; simp [Value.ownBlock] at hb

theorem bk_one (L : List (List Nat)) (i v j : Nat) (h : v < L.length) : bk (putB L i v) j = if j = v then bk L v ++ [i] else bk L j := putB_bk L i v j h
/-- A cell is put behind a bucket. -/
theorem Fr.put {W V W' : World} {m : M3} {B F : Nat} {v u u' : Value} {vs : List Value} {L : List (List Nat)} {cnt : Int} {k i : Nat} (h : Fr W m B F v vs L cnt) (h2 : Foot (fun _ => False) W (fun _ => False) V) (hk : k < L.length) (hu : vs[k]? = some u) (hg : V.grownBy W' u.ownBlock)
    (hown : W'.ownsRow B 27 2 u' ((bk L k).length + 1) (pls m (bk L k) ++ [.int .i64 (posn m i).1, .int .i64 (posn m i).2])) (hu' : ∀ b, u'.ownBlock = some b → u.ownBlock = some b ∨ W.heap.size ≤ b) (gv : Nat) (hgv : v.ownBlock = some gv) :
    Fr (W'.setCell ⟨gv, k, none⟩ u') m B F v (vs.set k u') (putB L i k) cnt ∧ Foot (Fb F v vs) W (Fb F v (vs.set k u')) (W'.setCell ⟨gv, k, none⟩ u') := by
  have hkv : k < vs.length := by rw [h.len]; exact hk
  have hmem : u ∈ vs := List.mem_of_getElem? hu
  have same : ∀ b, b < W.heap.size → u.ownBlock ≠ some b → W'.heap[b]? = W.heap[b]? := fun b hb hne => (hg.block b (Nat.lt_of_lt_of_le hb h2.size) (fun e => hne e.symm)).trans (h2.same b hb (fun h => h))
  have hFlt := h.blk.lt
  have hgl := h.row.lt gv hgv
  have hFu : u.ownBlock ≠ some F := fun e => by have := ((h.each k u hu).lt F e).1; have := h.low; omega
  have hvu : u.ownBlock ≠ some gv := fun e => h.rowEach hu e hgv
  have sameG : ∀ b, b ≠ gv → (W'.setCell ⟨gv, k, none⟩ u').heap[b]? = W'.heap[b]? := fun b hb => Below.heap_setCell W' ⟨gv, k, none⟩ u' b hb
  have keep : ∀ {e size n x xs}, W.ownsRow B e size x n xs → (∀ b, x.ownBlock = some b → u.ownBlock ≠ some b ∧ b ≠ gv) → (W'.setCell ⟨gv, k, none⟩ u').ownsRow B e size x n xs := fun {e size n x xs} ho hne => by
    refine ⟨ho.1, ?_⟩
    rcases ho.2 with hn | ⟨g, cap, cur, e1, hB, hh, rest⟩
    · exact .inl hn
    · have hx := hne g (by rw [e1]; rfl)
      refine .inr ⟨g, cap, cur, e1, hB, ?_, rest⟩
      rw [sameG g hx.2, same g (Array.getElem?_eq_some_iff.1 hh).1 hx.1]; exact hh
  have hrow : W'.ownsRow B 32 1 v vs.length vs := by
    have ho := h.row
    refine ⟨ho.1, ?_⟩
    rcases ho.2 with hn | ⟨g, cap, cur, e1, hB, hh, rest⟩
    · exact .inl hn
    · refine .inr ⟨g, cap, cur, e1, hB, ?_, rest⟩
      rw [same g (Array.getElem?_eq_some_iff.1 hh).1 (by rw [e1] at hgv; simp [Value.ownBlock] at hgv; rw [hgv]; exact hvu)]; exact hh
  have hrow2 : (W'.setCell ⟨gv, k, none⟩ u').ownsRow B 32 1 v (vs.set k u').length (vs.set k u') := by
    rcases hrow.2 with ⟨e1, _⟩ | ⟨g, cap, cur, e1, _⟩
    · rw [e1] at hgv; simp [Value.ownBlock] at hgv
    · obtain rfl : g = gv := by rw [e1] at hgv; simp [Value.ownBlock] at hgv; exact hgv
      subst e1
      rw [List.length_set]
      exact (hrow.stored k u').1
  have hu2 : (W'.setCell ⟨gv, k, none⟩ u').ownsRow B 27 2 u' ((bk L k).length + 1) (pls m (bk L k ++ [i])) := by
    rw [← pls_snoc]
    refine ⟨hown.1, ?_⟩
    rcases hown.2 with hn | ⟨g, cap, cur, e1, hB, hh, rest⟩
    · exact .inl hn
    · refine .inr ⟨g, cap, cur, e1, hB, ?_, rest⟩
      rw [sameG g (fun e => ?_)]
      · exact hh
      · subst e
        rcases hu' g (by rw [e1]; rfl) with e | e
        · exact hvu e
        · omega
  have hset : ∀ j x, (vs.set k u')[j]? = some x → (j = k ∧ x = u') ∨ (j ≠ k ∧ vs[j]? = some x) := fun j x hx => by
    rw [List.getElem?_set] at hx
    by_cases e : k = j
    · rw [if_pos e, if_pos hkv] at hx; injection hx with hx; exact .inl ⟨e.symm, hx.symm⟩
    · rw [if_neg e] at hx; exact .inr ⟨fun h => e h.symm, hx⟩
  refine ⟨⟨?_, hrow2, by rw [List.length_set, putB_len]; exact h.len, fun j x hx => ?_, fun j j' x x' hx hx' hij b hb hb' => ?_, h.low⟩, ⟨?_, ?_, ?_, ?_, fun b hb hA => ?_, fun b hb => ?_⟩⟩
  · have := h.blk
    unfold Blk at this ⊢
    rw [sameG F (by have := h.low; omega), same F hFlt hFu]; exact this
  · rw [bk_one L i k j hk]
    rcases hset j x hx with ⟨rfl, rfl⟩ | ⟨hj, hx⟩
    · rw [if_pos rfl, List.length_append]; exact hu2
    · rw [if_neg hj]
      exact keep (h.each j x hx) (fun b hb => ⟨fun e => h.apart j k x u hx hu hj b hb e, fun e => h.rowEach hx hb (by rw [e]; exact hgv)⟩)
  · have new : ∀ {j x b}, j ≠ k → vs[j]? = some x → x.ownBlock = some b → u'.ownBlock ≠ some b := fun {j x b} hj hx hb hb' => by
      rcases hu' b hb' with e | e
      · exact h.apart j k x u hx hu hj b hb e
      · have := ((h.each j x hx).lt b hb).2; omega
    rcases hset j x hx with ⟨e1, e2⟩ | ⟨hj, hy⟩
    · rcases hset j' x' hx' with ⟨e3, e4⟩ | ⟨hj', hy'⟩
      · exact hij (e1.trans e3.symm)
      · rw [e2] at hb; exact new hj' hy' hb' hb
    · rcases hset j' x' hx' with ⟨e3, e4⟩ | ⟨hj', hy'⟩
      · rw [e4] at hb'; exact new hj hy hb hb'
      · exact h.apart j j' x x' hy hy' hij b hb hb'
  · exact hg.os.trans h2.os
  · exact hg.tape.trans h2.tape
  · exact hg.output.trans h2.output
  · have := h2.size; have := hg.size; simp [World.setCell]; omega
  · have hbg : b ≠ gv := fun e => hA (.inr (.inl (by rw [e]; exact hgv)))
    rw [sameG b hbg]
    exact same b hb (fun e => hA (.inr (.inr ⟨u, hmem, e⟩)))
  · rcases hb with rfl | hb | ⟨x, hx, hb⟩
    · exact .inl (.inl rfl)
    · exact .inl (.inr (.inl hb))
    · obtain ⟨j, hj, e⟩ := List.mem_iff_getElem.1 hx
      rcases hset j x (by rw [List.getElem?_eq_getElem hj, e]) with ⟨_, rfl⟩ | ⟨_, hx⟩
      · rcases hu' b hb with k | k
        · exact .inl (.inr (.inr ⟨u, hmem, k⟩))
        · exact .inr k
      · exact .inl (.inr (.inr ⟨x, List.mem_of_getElem? hx, hb⟩))
/-- The count is changed. -/
theorem Fr.count {W : World} {m : M3} {B F : Nat} {v : Value} {vs : List Value} {L : List (List Nat)} {cnt : Int} (h : Fr W m B F v vs L cnt) (n : Int) :
    Fr (W.setCell ⟨F, 1, none⟩ (.int .i64 n)) m B F v vs L n ∧ Foot (Fb F v vs) W (Fb F v vs) (W.setCell ⟨F, 1, none⟩ (.int .i64 n)) := by
  have same : ∀ b, b ≠ F → (W.setCell ⟨F, 1, none⟩ (.int .i64 n)).heap[b]? = W.heap[b]? := fun b hb => Below.heap_setCell W ⟨F, 1, none⟩ _ b hb
  have own : ∀ {e size k u xs}, W.ownsRow B e size u k xs → (W.setCell ⟨F, 1, none⟩ (.int .i64 n)).ownsRow B e size u k xs := fun {e size k u xs} ho => ownsRow_setCell_below ho h.low _
  exact ⟨⟨h.blk.set 1 _, own h.row, h.len, fun i u hu => own (h.each i u hu), h.apart, h.low⟩, Foot.set ⟨F, 1, none⟩ _ (.inl rfl)⟩

end Go.Proofs.YtbdgpldhfemejaaDoor
