/-
  What the functions of cluster answer: runs, Entrances.
-/
import Derived.Test.YtpgchjhfhndaaaaGreatDoorClRefQ
import Derived.Test.YtpgchjhfhndaaaaGreatDoorHeldM
import Derived.Test.YtpgchjhfhndaaaaGreatDoorPureAs
import Derived.OwnWalkIn
import Derived.RangeFuncLeaves
import Derived.Sort.CutIn
import Derived.Laws.EntriesVeiled
namespace Go.Proofs.YtpgchjhfhndaaaaGreatDoor

section
open Go.RowKit Go.Lib Go.Shelf

def runsFit (s : List (List PP) × Bool) (k : Nat) : Prop := s.1.length ≤ k ∧ (∀ R ∈ s.1, R.length ≤ k) ∧ (s.2 = true → s.1 ≠ [])
theorem runsFit_step {A G : PP → Bool} {s : List (List PP) × Bool} {k : Nat} (x : PP) (h : runsFit s k) : runsFit (runStep A G s x) (k + 1) := by
  obtain ⟨h1, h2, h3⟩ := h
  obtain ⟨L, go⟩ := s
  dsimp only at h1 h2 h3
  unfold runStep runsFit
  split
  · dsimp only
    cases go with
    | true =>
      rw [if_pos rfl]
      have hne := h3 rfl
      have hlen : L.dropLast.length + 1 = L.length := by rw [List.length_dropLast]; have := List.length_pos_iff.2 hne; omega
      refine ⟨by rw [List.length_append, List.length_singleton]; omega, fun R hR => ?_, fun _ => by simp⟩
      rcases List.mem_append.1 hR with hR | hR
      · have := h2 R (List.dropLast_subset _ hR); omega
      · rw [List.mem_singleton.1 hR, List.length_append, List.length_singleton]
        have hg : L.getLastD [] ∈ L := by rw [List.getLastD_eq_getLast?, List.getLast?_eq_some_getLast hne]; exact List.getLast_mem hne
        have := h2 _ hg
        omega
    | false =>
      rw [if_neg Bool.false_ne_true]
      refine ⟨by rw [List.length_append, List.length_singleton]; omega, fun R hR => ?_, fun _ => by simp⟩
      rcases List.mem_append.1 hR with hR | hR
      · have := h2 R hR; omega
      · rw [List.mem_singleton.1 hR, List.length_singleton]; omega
  · exact ⟨by dsimp only; omega, fun R hR => by have := h2 R hR; omega, fun h => by cases h⟩
theorem runsFit_go (A G : PP → Bool) : ∀ (xs : List PP) (s : List (List PP) × Bool) (k : Nat), runsFit s k → runsFit (xs.foldl (runStep A G) s) (k + xs.length)
  | [], s, k, h => h
  | x :: xs, s, k, h => by
    have := runsFit_go A G xs _ (k + 1) (runsFit_step (A := A) (G := G) x h)
    rw [List.length_cons, show k + (xs.length + 1) = k + 1 + xs.length by omega]
    exact this
theorem runs_fit (A G : PP → Bool) (xs : List PP) : runsFit (runsG A G xs) xs.length := by
  have := runsFit_go A G xs ([], false) 0 ⟨Nat.le_refl _, fun R h => (by cases h), fun h => (by cases h)⟩
  rw [Nat.zero_add] at this
  exact this
/-- The last run and those ahead of it. -/
theorem runs_last {L : List (List PP)} (h : L ≠ []) : L = L.dropLast ++ [L.getLastD []] := by
  rw [List.getLastD_eq_getLast?, List.getLast?_eq_some_getLast h]
  exact (List.dropLast_concat_getLast h).symm
theorem flat2_app (L M : List PP) : flat2 (L ++ M) = flat2 L ++ flat2 M := by unfold flat2; rw [List.flatMap_append]
theorem qcells_app (L M : List PP) : qcells (L ++ M) = qcells L ++ qcells M := by unfold qcells; rw [flat2_app]; unfold pcells; rw [List.flatMap_append]
theorem qcells_one (x : PP) : qcells [x] = [.int .i64 x.1.1, .int .i64 x.1.2, .int .i64 x.2.1, .int .i64 x.2.2] := rfl

theorem own_typ {w : World} {B k n : Nat} {e : TypeId} {v : Value} {xs : List Value} (h : w.ownsRow B e k v n xs) {j : Nat} (hj : v.ownBlock = some j) : ∃ c f, w.heap[j]? = some (.cells c e f) := by
  rcases h.2 with ⟨rfl, _⟩ | ⟨g, cap, cur, rfl, _, hh, _⟩
  · cases hj
  · injection hj with hj
    subst hj
    exact ⟨_, _, hh⟩
theorem own_off {w w' : World} {B k n : Nat} {e : TypeId} {v : Value} {xs : List Value} {row : Option Nat} (h : w.ownsRow B e k v n xs) (hg : w.grownBy w' row) (hr : ∀ r, row = some r → ∀ c f, w.heap[r]? ≠ some (.cells c e f)) : w'.ownsRow B e k v n xs :=
  own_kept2 h hg fun j hj e => by
    obtain ⟨c, f, hc⟩ := own_typ h hj
    exact hr j e c f hc
theorem own_up {w : World} {B C k n : Nat} {e : TypeId} {v : Value} {xs : List Value} (h : w.ownsRow B e k v n xs) (hc : ∀ j, v.ownBlock = some j → C ≤ j) : w.ownsRow C e k v n xs := by
  refine ⟨h.1, ?_⟩
  rcases h.2 with hn | ⟨g, cap, cur, rfl, _, hh, rest⟩
  · exact .inl hn
  · exact .inr ⟨g, cap, cur, rfl, hc g rfl, hh, rest⟩
/-- The runs: the outer row, the rows of pairs; the last run's row lies at or above Bk, those of the others below it. -/
structure RunsM (W : World) (B Bk : Nat) (v : Value) (vs : List Value) (L : List (List PP)) : Prop where
  le : Bk ≤ W.heap.size
  o : W.ownsRow B 75 1 v L.length vs
  each : ∀ (i : Nat) (R : List PP), L[i]? = some R → ∃ u, vs[i]? = some u ∧ W.ownsRow B 30 4 u R.length (qcells R) ∧ ∀ k, u.ownBlock = some k → (i + 1 < L.length → k < Bk) ∧ (i + 1 = L.length → Bk ≤ k)
theorem RunsM.len {W : World} {B Bk : Nat} {v : Value} {vs : List Value} {L : List (List PP)} (h : RunsM W B Bk v vs L) : vs.length = L.length := by rw [h.o.1, Nat.mul_one]
theorem RunsM.base {W : World} {B C Bk : Nat} {v : Value} {vs : List Value} {L : List (List PP)} (h : RunsM W B Bk v vs L) (hc : C ≤ B) : RunsM W C Bk v vs L :=
  ⟨h.le, own_base h.o hc, fun i R hR => by obtain ⟨u, h1, h2, h3⟩ := h.each i R hR; exact ⟨u, h1, own_base h2 hc, h3⟩⟩
theorem RunsM.start (W : World) (B : Nat) : RunsM W B W.heap.size (.slice none 0 0) [] [] := ⟨Nat.le_refl _, World.ownsRow_nil _ _ _ _, fun i R h => (by cases h)⟩
/-- What is no row of runs may turn. -/
theorem RunsM.turn {W W' : World} {B Bk : Nat} {v : Value} {vs : List Value} {L : List (List PP)} {row : Option Nat} (h : RunsM W B Bk v vs L) (hg : W.grownBy W' row)
    (hr : ∀ r, row = some r → ∀ c t f, W.heap[r]? = some (.cells c t f) → t ≠ 75 ∧ t ≠ 30) : RunsM W' B Bk v vs L :=
  ⟨Nat.le_trans h.le hg.size, own_off h.o hg (fun r e c f hc => (hr r e _ _ _ hc).1 rfl), fun i R hR => by
    obtain ⟨u, h1, h2, h3⟩ := h.each i R hR
    exact ⟨u, h1, own_off h2 hg (fun r e c f hc => (hr r e _ _ _ hc).2 rfl), h3⟩⟩
theorem RunsM.below {W W' : World} {B Bk : Nat} {v : Value} {vs : List Value} {L : List (List PP)} (h : RunsM W B Bk v vs L) (hb : Below W.heap.size W W') : RunsM W' B Bk v vs L :=
  h.turn (below_grown hb) (fun _ e => by cases e)
/-- A new run is begun. -/
theorem RunsM.begin {W W1 W' : World} {B Bk : Nat} {v v' : Value} {vs : List Value} {L : List (List PP)} (h : RunsM W B Bk v vs L) (hb : Below W.heap.size W W1) (hown : W'.ownsRow B 75 1 v' (L.length + 1) (vs ++ [.slice none 0 0])) (hg : W1.grownBy W' v.ownBlock) :
    RunsM W' B W'.heap.size v' (vs ++ [.slice none 0 0]) (L ++ [[]]) := by
  have h1 := h.below hb
  refine ⟨Nat.le_refl _, by rw [List.length_append]; exact hown, fun i R hR => ?_⟩
  by_cases hi : i < L.length
  · rw [List.getElem?_append_left hi] at hR
    obtain ⟨u, k1, k2, k3⟩ := h1.each i R hR
    refine ⟨u, by rw [List.getElem?_append_left (by rw [h.len]; exact hi)]; exact k1, own_off k2 hg (fun r e c f hc => ?_), fun k hk => ⟨fun _ => Nat.lt_of_lt_of_le (k2.lt k hk).2 hg.size, fun e => by rw [List.length_append, List.length_singleton] at e; omega⟩⟩
    obtain ⟨c', f', hc'⟩ := own_typ h1.o e
    rw [hc] at hc'
    injection hc' with hc'
    injection hc' with _ hc'
    exact absurd hc' (by decide)
  · have hlen : i < (L ++ [([] : List PP)]).length := (List.getElem?_eq_some_iff.1 hR).1
    rw [List.length_append, List.length_singleton] at hlen
    obtain rfl : i = L.length := by omega
    rw [List.getElem?_append_right (Nat.le_refl _), Nat.sub_self] at hR
    injection hR with hR
    subst hR
    refine ⟨.slice none 0 0, by rw [List.getElem?_append_right (by rw [h.len]; exact Nat.le_refl _), h.len, Nat.sub_self]; rfl, World.ownsRow_nil _ _ _ _, fun k hk => by cases hk⟩
/-- The last run is made longer. -/
theorem RunsM.longer {W W1 W2 : World} {B Bk g n cap i : Nat} {vs : List Value} {M : List (List PP)} {R : List PP} {x : PP} {u u' : Value} (h : RunsM W B Bk (.slice (some ⟨g, 0, none⟩) n cap) vs (M ++ [R])) (hb : Below W.heap.size W W1) (hi : Hid (i = M.length)) (hn : n = i + 1) (hu : vs[i]? = some u)
    (hown : W2.ownsRow Bk 30 4 u' (R.length + 1) (qcells (R ++ [x]))) (hg : W1.grownBy W2 u.ownBlock) (hBB : B ≤ Bk) : RunsM (W2.setCell ⟨g, i, none⟩ u') B Bk (.slice (some ⟨g, 0, none⟩) n cap) (vs.set i u') (M ++ [R ++ [x]]) := by
  have h1 := h.below hb
  have hll : (M ++ [R]).length = i + 1 := by rw [List.length_append, List.length_singleton, hi.out]
  have hl2 : (M ++ [R ++ [x]]).length = i + 1 := by rw [List.length_append, List.length_singleton, hi.out]
  have hvl : vs.length = i + 1 := by rw [h.len, hll]
  obtain ⟨u1, k1, k2, k3⟩ := h1.each i R (by rw [List.getElem?_append_right (by rw [hi.out]; exact Nat.le_refl _), hi.out, Nat.sub_self]; rfl)
  rw [hu] at k1
  injection k1 with k1
  subst k1
  have ho := h1.o
  rw [hll, ← hn] at ho
  have ho2 := own_off ho hg (fun r e c f hc => by
    obtain ⟨c', f', hc'⟩ := own_typ k2 e
    rw [hc] at hc'
    injection hc' with hc'
    injection hc' with _ hc'
    exact absurd hc' (by decide))
  obtain ⟨s1, s2⟩ := ho2.stored i u'
  have hty : ∀ r, some g = some r → ∀ c f, W2.heap[r]? ≠ some (.cells c 30 f) := fun r e c f hc => by
    obtain ⟨c', f', hc'⟩ := own_typ ho2 (j := g) rfl
    injection e with e
    subst e
    rw [hc] at hc'
    injection hc' with hc'
    injection hc' with _ hc'
    exact absurd hc' (by decide)
  refine ⟨Nat.le_trans h1.le (Nat.le_trans hg.size s2.size), by rw [hl2, ← hn]; exact s1, fun j Q hQ => ?_⟩
  by_cases hj : j < i
  · rw [List.getElem?_append_left (by rw [← hi.out]; exact hj)] at hQ
    obtain ⟨y, y1, y2, y3⟩ := h1.each j Q (by rw [List.getElem?_append_left (by rw [← hi.out]; exact hj)]; exact hQ)
    refine ⟨y, by rw [List.getElem?_set_ne (by omega)]; exact y1, own_off (own_kept2 y2 hg fun k hk e => ?_) s2 hty, fun k hk => ⟨fun _ => (y3 k hk).1 (by omega), fun e => by omega⟩⟩
    have a1 := (y3 k hk).1 (by omega)
    have a2 := (k3 k e).2 (by omega)
    omega
  · have hlen : j < (M ++ [R ++ [x]]).length := (List.getElem?_eq_some_iff.1 hQ).1
    obtain rfl : j = i := by omega
    rw [List.getElem?_append_right (by rw [hi.out]; exact Nat.le_refl _), hi.out, Nat.sub_self] at hQ
    injection hQ with hQ
    subst hQ
    refine ⟨u', by rw [List.getElem?_set_self (by omega)], own_off (own_base (own_to hown (by rw [List.length_append, List.length_singleton]) rfl) hBB) s2 hty, fun k hk => ⟨fun e => by omega, fun _ => (hown.lt k hk).1⟩⟩

end

section
open Go.RowKit Go.Lib Go.Shelf

attribute [local go_sem] Oper.semAt_some
theorem round_late {l n id : Nat} {P : Program} {ops : Array Oper} {Q : Exit → Act → World → Prop} {a : Act} {w : World} {lt : Nat → Bool} {S : World → Prop} (hm : P.follows .mixedOrders = true) (hp : ops.all noDefer = true)
    (h : wpAnyM P .any ops (NoOut Q) S lt ops.size (Array.replicate ops.size false) a w.drew) : (Code.region id ops true).wpIn (Fence.wide.inRound l) n P Q a w :=
  wpIn_region_round hm (fun _ o hi => noDefer_of ((Array.all_eq_true_iff_forall_mem).1 hp o (Array.mem_of_getElem? hi))) (wpAny_of_late _ _ _ _ h)
/-- All that lay below b0 stays, but for the two variables. -/
structure Old2 (b0 x y : Nat) (w W : World) : Prop where
  os : W.os = w.os
  tape : W.tape = w.tape
  output : W.output = w.output
  size : w.heap.size ≤ W.heap.size
  block : ∀ j, j < b0 → j ≠ x → j ≠ y → W.heap[j]? = w.heap[j]?
theorem Old2.grown {b0 x y : Nat} {w W W' : World} {row : Option Nat} (h : Old2 b0 x y w W) (hb : b0 ≤ w.heap.size) (hg : W.grownBy W' row) (hr : ∀ r, row = some r → b0 ≤ r ∨ r = x ∨ r = y) : Old2 b0 x y w W' :=
  ⟨hg.os.trans h.os, hg.tape.trans h.tape, hg.output.trans h.output, Nat.le_trans h.size hg.size, fun j hj h1 h2 => (hg.block j (by have := h.size; omega) (fun e => by have := hr j e.symm; omega)).trans (h.block j hj h1 h2)⟩
theorem Old2.blk {b0 x y b : Nat} {w W : World} {vs : List Value} {t : TypeId} (h : Old2 b0 x y w W) (z : Blk w b vs t) (hb : b < b0) (hn : b ≠ x ∧ b ≠ y) : Blk W b vs t := (h.block b hb hn.1 hn.2).trans z
theorem Old2.below {b0 x y : Nat} {V w W : World} (h : Old2 b0 x y w W) (hV : Below V.heap.size V w ∧ V.heap.size ≤ b0) (hx : V.heap.size ≤ x) (hy : V.heap.size ≤ y) : Below V.heap.size V W :=
  ⟨h.os.trans hV.1.os, h.tape.trans hV.1.tape, h.output.trans hV.1.output, Nat.le_trans hV.1.size h.size, fun j hj => (h.block j (by omega) (by omega) (by omega)).trans (hV.1.block j hj)⟩
/-- What a round comes to. -/
structure Rd15 (B G b0 x y : Nat) (w Z W : World) : Prop where
  kf : KeepsFrom b0 Z W
  kp : KpB B G Z W
  old : Old2 b0 x y w W
theorem Rd15.grown {B G b0 x y : Nat} {w Z X Y : World} {row : Option Nat} (h : Rd15 B G b0 x y w Z X) (hn : Hid (B ≤ b0 ∧ G < b0 ∧ b0 ≤ w.heap.size)) (hg : X.grownBy Y row) (hr : ∀ r, row = some r → B ≤ r ∧ r ≠ G ∧ (b0 ≤ r ∨ r = x ∨ r = y) ∧ ∃ c t f, X.heap[r]? = some (.cells c t f) ∧ t ≠ 29) : Rd15 B G b0 x y w Z Y := by
  have hs := h.old.size
  obtain ⟨n1, n2, n3⟩ := hn.out
  refine ⟨⟨Nat.le_trans h.kf.size hg.size, fun k o hk ho hc => ?_⟩, h.kp.trans ⟨⟨hg.os, hg.tape, hg.output, hg.size, fun k hk => hg.block k (by omega) (fun e => by have := (hr k e.symm).1; omega)⟩, hg.block G (by omega) (fun e => (hr G e.symm).2.1 rfl), fun k c f hk => hg.block k (Array.getElem?_eq_some_iff.1 hk).1 (fun e => ?_)⟩, h.old.grown n3 hg (fun r e => (hr r e).2.2.1)⟩
  · have h1 := h.kf.same k o hk ho hc
    refine (hg.block k (Array.getElem?_eq_some_iff.1 h1).1 (fun e => ?_)).trans h1
    obtain ⟨c', t', f', h2, _⟩ := (hr k e.symm).2.2.2
    rw [h1] at h2
    injection h2 with h2
    subst h2
    cases hc
  · obtain ⟨c', t', f', h2, h3⟩ := (hr k e.symm).2.2.2
    rw [hk] at h2
    injection h2 with h2
    injection h2 with _ h2
    exact h3 h2.symm
theorem own_no_row {w : World} {B k n b r : Nat} {e t : TypeId} {v : Value} {xs vs : List Value} (h : w.ownsRow B e k v n xs) (z : Blk w b vs t) (ht : t ≠ e) (hv : v.ownBlock = some r) (he : r = b) : False := by
  subst he
  obtain ⟨c, f, hc⟩ := own_typ h hv
  unfold Blk at z
  rw [z] at hc
  injection hc with hc
  injection hc with _ hc
  exact ht hc
theorem blk_grown {W W' : World} {b : Nat} {vs : List Value} {t : TypeId} {row : Option Nat} (h : Blk W b vs t) (hg : W.grownBy W' row) (hr : ∀ r, row = some r → b ≠ r) : Blk W' b vs t :=
  (hg.block b h.lt (fun e => hr b e.symm rfl)).trans h
theorem ints_four (a b c d : Int) : ∀ u ∈ [Value.int .i64 a, .int .i64 b, .int .i64 c, .int .i64 d], u.oneCell' = true := by simp [Value.oneCell']
theorem infoPair : (Tryz.prog.info? 30).map (fun i => (i.zero, i.size, i.bytes)) = some (some (.agg #[.int .i64 0, .int .i64 0, .int .i64 0, .int .i64 0]), 4, 32) := by kernel_rfl
theorem infoRow : (Tryz.prog.info? 75).map (fun i => (i.zero, i.size, i.bytes)) = some (some (.slice none 0 0), 1, 24) := by kernel_rfl
/-- What lies between two rounds. -/
def RunsJ (m : M3) (bl : List Bool) (c : Int) (o : B5) (b0 k10 k11 : Nat) (w : World) (pre : List PP) (Z : World) : Prop :=
  Old2 b0 k10 k11 w Z ∧ ∃ v vs Bk, b0 ≤ Bk ∧ Blk Z k10 [v] 139 ∧ Blk Z k11 [.bool (runsG (crossA m bl c o) (crossG m bl c o) pre).2] 4 ∧ RunsM Z b0 Bk v vs (runsG (crossA m bl c o) (crossG m bl c o) pre).1

set_option maxRecDepth 100000 in
set_option maxHeartbeats 16000000 in
theorem clruns_b (o : B5) (nn : Nat) (hnn : Hid (o.n = nn)) (h8 : nn ≤ 8) (m : M3) (s : Value) (bl : List Bool) (lp : Option Addr) (ln lk : Nat) (c : Int) (W : World) (hE : EnvT W) (hh : HighAt m) (hr : RowAt W s m.cs) (hl0 : BitsAt W (.slice lp ln lk) bl) :
    Calls Tryz.prog 85 #[.agg #[.int .i64 o.p.1, .int .i64 o.p.2, .int .i64 o.n, .int .i64 o.ac, .int .i64 o.al], .agg #[.int .i64 m.w, .int .i64 m.h, s], .slice lp ln lk, .int .i64 c] W fun e w' => ∃ v vs Bk, e = .returned v ∧ RunsM w' W.heap.size Bk v vs (runsG (crossA m bl c o) (crossG m bl c o) (bcells o nn)).1 ∧ Below W.heap.size W w' := by
  have hmx : Tryz.prog.follows .mixedOrders = true := by kernel_rfl
  obtain ⟨t4, hi4, hy0, hy1, hy2⟩ := info_cut infoPair
  obtain ⟨t1, hi1, hx0, hx1, hx2⟩ := info_cut infoRow
  have hbs : ∀ (a b c d : Value) (w : World), (Instr.buildSlice 75 1 #[(0, .agg #[a, b, c, d])]).run Tryz.prog w = .ok (.slice (some ⟨w.heap.size, 0, none⟩) 1 1) (w.alloc (.cells #[a, b, c, d] 30)) := fun a b c d w => by kernel_rfl
  have hbn : ∀ (w : World), (Instr.buildSlice 139 1 #[(0, .slice none 0 0)]).run Tryz.prog w = .ok (.slice (some ⟨w.heap.size, 0, none⟩) 1 1) (w.alloc (.cells #[.slice none 0 0] 75)) := fun w => by kernel_rfl
  have hmf : ∀ (fn : Fn) (first cap : Array Value) (w : World), (Instr.makeFunc fn first cap).run Tryz.prog w = .ok (.func fn first cap) w := fun _ _ _ _ => rfl
  refine callsIn_wide (n := 9).1 ?_
  refine callsIn_of_wp_marks Tryz.func85 rfl trivial ?_ rfl
  simp only [Tryz.ntmps85, List.size_toArray, List.length_cons, List.length_nil, Nat.reduceAdd, Nat.reduceSub, Array.replicate_succ, Array.replicate_zero, List.push_toArray, List.append_toArray, List.nil_append, List.cons_append]
  have hK := (((Keep.nil W).alloc [.int .i64 o.p.1, .int .i64 o.p.2, .int .i64 o.n, .int .i64 o.ac, .int .i64 o.al] 136).alloc [.int .i64 m.w, .int .i64 m.h, s] 24).alloc [.slice lp ln lk] 25
  replace hK := hK.alloc [.int .i64 c] 3
  simp only [World.size_alloc] at hK
  gi_upto_region 1 with fail
  obtain ⟨X, hX⟩ : ∃ X, X = (((W.alloc (.cells ([.int .i64 o.p.1, .int .i64 o.p.2, .int .i64 o.n, .int .i64 o.ac, .int .i64 o.al] : List Value).toArray 136)).alloc (.cells ([.int .i64 m.w, .int .i64 m.h, s] : List Value).toArray 24)).alloc (.cells ([.slice lp ln lk] : List Value).toArray 25)).alloc (.cells ([.int .i64 c] : List Value).toArray 3) := ⟨_, rfl⟩
  have hsX : Hid (X.heap.size = W.heap.size + 4) := hid (by rw [hX]; simp)
  rw [← hX] at hK ⊢
  clear hX
  obtain ⟨k7, e7⟩ : ∃ k, Hid (k = W.heap.size + 1 + 1 + 1) := ⟨_, hid rfl⟩
  obtain ⟨k6, e6⟩ : ∃ k, Hid (k = W.heap.size + 1 + 1) := ⟨_, hid rfl⟩
  obtain ⟨k5, e5⟩ : ∃ k, Hid (k = W.heap.size + 1) := ⟨_, hid rfl⟩
  obtain ⟨k4, e4⟩ : ∃ k, Hid (k = W.heap.size) := ⟨_, hid rfl⟩
  have z4 : Blk X k4 [.int .i64 o.p.1, .int .i64 o.p.2, .int .i64 o.n, .int .i64 o.ac, .int .i64 o.al] 136 := (hK.blks (W.heap.size, [.int .i64 o.p.1, .int .i64 o.p.2, .int .i64 o.n, .int .i64 o.ac, .int .i64 o.al], 136) (by simp)).at e4.out.symm
  have z5 : Blk X k5 [.int .i64 m.w, .int .i64 m.h, s] 24 := (hK.blks (W.heap.size + 1, [.int .i64 m.w, .int .i64 m.h, s], 24) (by simp)).at e5.out.symm
  have z6 : Blk X k6 [.slice lp ln lk] 25 := (hK.blks (W.heap.size + 1 + 1, [.slice lp ln lk], 25) (by simp)).at e6.out.symm
  have z7 : Blk X k7 [.int .i64 c] 3 := (hK.blks (W.heap.size + 1 + 1 + 1, [.int .i64 c], 3) (by simp)).at e7.out.symm
  have hWX := hK.old
  clear hK
  rw [← e7.out, ← e6.out, ← e5.out]
  rw [← e4.out]
  -- the closure's box, the runs' box, the flag's box
  have hK := (((Keep.nil X).alloc [.func (.func 132) #[] #[.pointer (some ⟨k5, 0, none⟩), .pointer (some ⟨k6, 0, none⟩), .pointer (some ⟨k7, 0, none⟩)]] 181).alloc [.slice none 0 0] 139).alloc [.bool false] 4
  simp only [World.size_alloc] at hK
  gi_upto_region 4 with fail
  obtain ⟨Y, hY⟩ : ∃ Y, Y = ((X.alloc (.cells ([.func (.func 132) #[] #[.pointer (some ⟨k5, 0, none⟩), .pointer (some ⟨k6, 0, none⟩), .pointer (some ⟨k7, 0, none⟩)]] : List Value).toArray 181)).alloc (.cells ([.slice none 0 0] : List Value).toArray 139)).alloc (.cells ([.bool false] : List Value).toArray 4) := ⟨_, rfl⟩
  have hsY : Hid (Y.heap.size = X.heap.size + 3) := hid (by rw [hY]; simp)
  rw [← hY] at hK ⊢
  clear hY
  obtain ⟨k11, e11⟩ : ∃ k, Hid (k = X.heap.size + 1 + 1) := ⟨_, hid rfl⟩
  obtain ⟨k10, e10⟩ : ∃ k, Hid (k = X.heap.size + 1) := ⟨_, hid rfl⟩
  obtain ⟨k9, e9⟩ : ∃ k, Hid (k = X.heap.size) := ⟨_, hid rfl⟩
  have z9 : Blk Y k9 [.func (.func 132) #[] #[.pointer (some ⟨k5, 0, none⟩), .pointer (some ⟨k6, 0, none⟩), .pointer (some ⟨k7, 0, none⟩)]] 181 := (hK.blks (X.heap.size, [.func (.func 132) #[] #[.pointer (some ⟨k5, 0, none⟩), .pointer (some ⟨k6, 0, none⟩), .pointer (some ⟨k7, 0, none⟩)]], 181) (by simp)).at e9.out.symm
  have z10 : Blk Y k10 [.slice none 0 0] 139 := (hK.blks (X.heap.size + 1, [.slice none 0 0], 139) (by simp)).at e10.out.symm
  have z11 : Blk Y k11 [.bool false] 4 := (hK.blks (X.heap.size + 1 + 1, [.bool false], 4) (by simp)).at e11.out.symm
  have hXY := hK.old
  clear hK
  replace z4 := z4.below hXY
  replace z5 := z5.below hXY
  replace z6 := z6.below hXY
  replace z7 := z7.below hXY
  have hWY := below_call hWX hXY
  rw [← e11.out, ← e10.out]
  rw [← e9.out]
  -- the iterator
  have o0 := z4.cell 0
  have o1 := z4.cell 1
  have o2 := z4.cell 2
  have o3 := z4.cell 3
  have o4 := z4.cell 4
  simp only [List.getElem?_cons_zero, List.getElem?_cons_succ] at o0 o1 o2 o3 o4
  gi_wp2
  refine ⟨trivial, ?_⟩
  ((with_reducible refine (callsIn_wide (n := 8).2 (clcells_b o Y)).mono ?_); rintro e w1 ⟨rfl, rfl⟩)
  have hYZ := (Below.refl Y.heap.size Y).alloc (Nat.le_refl _) (.cells ([.int .i64 o.p.1, .int .i64 o.p.2, .int .i64 o.n, .int .i64 o.ac, .int .i64 o.al] : List Value).toArray 136)
  have zG := Blk.new Y [.int .i64 o.p.1, .int .i64 o.p.2, .int .i64 o.n, .int .i64 o.ac, .int .i64 o.al] 136
  obtain ⟨w, hw⟩ : ∃ w, w = Y.alloc (.cells ([.int .i64 o.p.1, .int .i64 o.p.2, .int .i64 o.n, .int .i64 o.ac, .int .i64 o.al] : List Value).toArray 136) := ⟨_, rfl⟩
  have hsw : Hid (w.heap.size = Y.heap.size + 1) := hid (by rw [hw]; simp)
  rw [← hw] at hYZ zG ⊢
  clear hw
  obtain ⟨G, eG⟩ : ∃ k, Hid (k = Y.heap.size) := ⟨_, hid rfl⟩
  rw [← eG.out] at zG ⊢
  replace z4 := z4.below hYZ
  replace z5 := z5.below hYZ
  replace z6 := z6.below hYZ
  replace z7 := z7.below hYZ
  replace z9 := z9.below hYZ
  replace z10 := z10.below hYZ
  replace z11 := z11.below hYZ
  have hWw := below_call hWY hYZ
  clear hWY hWX hXY hYZ o0 o1 o2 o3 o4
  obtain ⟨b0, hb0⟩ : ∃ b, Hid (b = w.heap.size) := ⟨_, hid rfl⟩
  have hnum : k4 = W.heap.size ∧ k5 = W.heap.size + 1 ∧ k6 = W.heap.size + 2 ∧ k7 = W.heap.size + 3 ∧ k9 = W.heap.size + 4 ∧ k10 = W.heap.size + 5 ∧ k11 = W.heap.size + 6 ∧ G = W.heap.size + 7 ∧ b0 = W.heap.size + 8 := by
    have := hsX.out
    have := hsY.out
    have := hsw.out
    rw [e4.out, e5.out, e6.out, e7.out, e9.out, e10.out, e11.out, eG.out, hb0.out]
    omega
  have hk10 : W.heap.size ≤ k10 := by omega
  have hk11 : W.heap.size ≤ k11 := by omega
  have h4b : k4 < b0 := by omega
  have h5b : k5 < b0 := by omega
  have h6b : k6 < b0 := by omega
  have h7b : k7 < b0 := by omega
  have h9b : k9 < b0 := by omega
  have h4n : k4 ≠ k10 ∧ k4 ≠ k11 := by omega
  have h5n : k5 ≠ k10 ∧ k5 ≠ k11 := by omega
  have h6n : k6 ≠ k10 ∧ k6 ≠ k11 := by omega
  have h7n : k7 ≠ k10 ∧ k7 ≠ k11 := by omega
  have h9n : k9 ≠ k10 ∧ k9 ≠ k11 := by omega
  have hVw : Below W.heap.size W w ∧ W.heap.size ≤ b0 := ⟨hWw, by omega⟩
  have hN : Hid (W.heap.size ≤ b0 ∧ G < b0 ∧ b0 ≤ w.heap.size) := hid ⟨by omega, by omega, by rw [hb0.out]; exact Nat.le_refl _⟩
  have hG7 : W.heap.size ≤ G := by omega
  have hk0 : k10 < b0 ∧ k11 < b0 ∧ k10 ≠ k11 ∧ k10 ≠ G ∧ k11 ≠ G ∧ k9 < b0 := by omega
  clear hnum hsX hsY hsw e4 e5 e6 e7 e9 e10 e11 eG
  gi_wp2
  refine range_own_cells (α := PP) (n := 9) 29 rfl (by omega) (gf := 174) (lb := #[.pointer (some ⟨G, 0, none⟩)]) rfl trivial (enters_of Tryz.func174 (by kernel_rfl) rfl) (encs := encP) (Kp := KpB W.heap.size G) (S := fun xs => xs = bcells o nn) (N := 8) (w0 := w)
    (clcells_seq o nn hnn h8 W w G 8 hE hWw hG7 zG) (fun h k => h.trans k) (KpB.turn hWw.size (by rw [← hb0.out]; exact hN.out.2.1)) (Below.refl _ _) (fun _ => rfl)
    (fun pre Z => RunsJ m bl c o b0 k10 k11 w pre Z) ?hI ?h0 (fun x a' Z => ∃ kp kq, Blk Z kp (ptL x.1) 29 ∧ Blk Z kq (ptL x.2) 29 ∧ b0 ≤ kp ∧ b0 ≤ kq ∧ a' = { tmps := #[.agg #[.int .i64 o.p.1, .int .i64 o.p.2, .int .i64 o.n, .int .i64 o.ac, .int .i64 o.al], .agg #[.int .i64 m.w, .int .i64 m.h, s], .slice lp ln lk, .int .i64 c, .pointer (some ⟨k4, 0, none⟩), .pointer (some ⟨k5, 0, none⟩), .pointer (some ⟨k6, 0, none⟩), .pointer (some ⟨k7, 0, none⟩), .slice none 0 0, .pointer (some ⟨k9, 0, none⟩), .pointer (some ⟨k10, 0, none⟩), .pointer (some ⟨k11, 0, none⟩), .pointer (some ⟨kp, 0, none⟩), .pointer (some ⟨kq, 0, none⟩), undef, .func (.func 132) #[] #[.pointer (some ⟨k5, 0, none⟩), .pointer (some ⟨k6, 0, none⟩), .pointer (some ⟨k7, 0, none⟩)], .agg #[.int .i64 o.p.1, .int .i64 o.p.2, .int .i64 o.n, .int .i64 o.ac, .int .i64 o.al], .func (.func 174) #[] #[.pointer (some ⟨G, 0, none⟩)], .agg #[.int .i64 x.1.1, .int .i64 x.1.2], .agg #[.int .i64 x.2.1, .int .i64 x.2.2], undef, undef, undef, undef, undef, undef, undef, undef, undef, undef, undef, undef, undef, undef, undef, undef, undef, undef, undef, undef, undef, undef, undef, undef, undef, undef, undef, undef, undef, undef, undef, undef, undef, undef, undef, undef, undef, undef, undef], defers := [] }) ?hAx ?assign ?body ?done
  case hI =>
    rintro pre A1 B1 row ⟨hO, v, vs, Bk, hBB, y10, y11, hR⟩ hg hr'
    rw [← hb0.out] at hr'
    refine ⟨hO.grown hN.out.2.2 hg (fun r e => .inl (hr' r e).1), v, vs, Bk, hBB, blk_grown y10 hg (fun r e h => by have := (hr' r e).1; omega), blk_grown y11 hg (fun r e h => by have := (hr' r e).1; omega), hR.turn hg (fun r e c1 t1 f1 hc1 => ?_)⟩
    obtain ⟨o1, ho1, hl1⟩ := (hr' r e).2
    rw [hc1] at ho1
    injection ho1 with ho1
    subst ho1
    rcases hl1 with hl1 | ⟨c2, f2, hl1⟩
    · cases hl1
    · injection hl1 with _ hl1
      subst hl1
      exact ⟨by decide, by decide⟩
  case h0 => exact ⟨⟨rfl, rfl, rfl, Nat.le_refl _, fun _ _ _ _ => rfl⟩, _, [], w.heap.size, hN.out.2.2, z10, z11, RunsM.start w b0⟩
  case hAx =>
    rintro x a' Z l1 o1 o2 ⟨kp, kq, zp, zq, h1, h2, rfl⟩ hl1 ho1 hc1
    have hne : ∀ (b : Nat) (us : List Value) (t : TypeId), Blk Z b us t → b ≠ l1 := fun b us t z e => by
      subst e
      unfold Blk at z
      rw [z] at ho1
      injection ho1 with ho1
      subst ho1
      cases hc1
    exact ⟨kp, kq, blk_grown zp (grownBy_putObj' Z l1 o2) (fun r e => by injection e with e; subst e; exact hne _ _ _ zp), blk_grown zq (grownBy_putObj' Z l1 o2) (fun r e => by injection e with e; subst e; exact hne _ _ _ zq), h1, h2, rfl⟩
  case assign =>
    rintro ll pre x Z K ⟨hO, v, vs, Bk, hBB, y10, y11, hR⟩ hK
    have hbz := ((Below.refl Z.heap.size Z).alloc (Nat.le_refl _) (.cells (ptL x.1).toArray 29)).alloc (by simp) (.cells (ptL x.2).toArray 29)
    have zp := (Blk.new Z (ptL x.1) 29).alloc (.cells (ptL x.2).toArray 29)
    have zq := Blk.new (Z.alloc (.cells (ptL x.1).toArray 29)) (ptL x.2) 29
    have rd := (Rd15.mk (B := W.heap.size) (G := G) (KeepsFrom.refl b0 Z) (KpB.refl _ _ Z) hO).grown hN (below_grown hbz) (fun r e => by cases e)
    have hbz0 : b0 ≤ Z.heap.size := Nat.le_trans hN.out.2.2 hO.size
    have hs2 : (Z.alloc (.cells (ptL x.1).toArray 29)).heap.size = Z.heap.size + 1 := by simp
    gi_wp2
    exact hK _ _ (by rw [← hb0.out]; exact rd.kf) rd.kp ⟨rd.old, v, vs, Bk, hBB, y10.below hbz, y11.below hbz, hR.below hbz⟩ ⟨Z.heap.size, Z.heap.size + 1, zp, zq.at hs2, hbz0, by omega, rfl⟩
  case body =>
    clear z10 z11
    rintro ll pre ⟨p, q⟩ a' Z ⟨hO, v, vs, Bk, hBB, z10, z11, hR⟩ ⟨kp, kq, zp, zq, hkp, hkq, rfl⟩ hlen
    dsimp only at zp zq
    have hfit := runs_fit (crossA m bl c o) (crossG m bl c o) pre
    obtain ⟨L, go, hLg⟩ : ∃ (L : List (List PP)) (go : Bool), Hid ((L, go) = runsG (crossA m bl c o) (crossG m bl c o) pre) := ⟨_, _, hid rfl⟩
    have hnext : runsG (crossA m bl c o) (crossG m bl c o) (pre ++ [(p, q)]) = runStep (crossA m bl c o) (crossG m bl c o) (L, go) (p, q) := by rw [runsG_snoc, ← hLg.out]
    rw [← hLg.out] at hfit z11 hR
    dsimp only at z11 hR
    obtain ⟨hf1, hf2, hf3⟩ := hfit
    dsimp only at hf1 hf2 hf3
    have hbn2 : W.heap.size ≤ b0 ∧ G < b0 := ⟨hN.out.1, hN.out.2.1⟩
    have rd0 := Rd15.mk (B := W.heap.size) (G := G) (KeepsFrom.refl b0 Z) (KpB.refl _ _ Z) hO
    have fin : ∀ (W9 : World) (v9 : Value) (vs9 : List Value) (Bk9 : Nat) (L9 : List (List PP)) (g0 g9 : Bool), Rd15 W.heap.size G b0 k10 k11 w Z W9 → b0 ≤ Bk9 → Blk W9 k10 [v9] 139 → Blk W9 k11 [.bool g0] 4 → RunsM W9 b0 Bk9 v9 vs9 L9 → runsG (crossA m bl c o) (crossG m bl c o) (pre ++ [(p, q)]) = (L9, g9) →
        ∀ a9, goesOn w.heap.size (KpB W.heap.size G) (fun pre Z => RunsJ m bl c o b0 k10 k11 w pre Z) (pre ++ [(p, q)]) Z .normal a9 (W9.setCell ⟨k11, 0, none⟩ (.bool g9)) := fun W9 v9 vs9 Bk9 L9 g0 g9 rd hB9 y10 y11 hR9 e9 a9 => by
      have rd' := rd.grown hN (grownBy_setCell W9 k11 0 (.bool g9)) (fun r e => by injection e with e; subst e; exact ⟨hk11, hk0.2.2.2.2.1, .inr (.inr rfl), _, _, _, y11, by decide⟩)
      have hRt := hR9.turn (grownBy_setCell W9 k11 0 (.bool g9)) (fun r e c1 t1 f1 hc1 => by
        injection e with e
        subst e
        unfold Blk at y11
        rw [hc1] at y11
        injection y11 with y11
        injection y11 with _ y11
        subst y11
        exact ⟨by decide, by decide⟩)
      exact ⟨by rw [← hb0.out]; exact rd'.kf, rd'.kp, rd'.old, v9, vs9, Bk9, hB9, y10.far (c := k11) (i := 0) (.bool g9) hk0.2.2.1, by rw [e9]; exact y11.set 0 (.bool g9), by rw [e9]; exact hRt⟩
    have hVZ := hO.below hVw hk10 hk11
    obtain ⟨b1, hb1⟩ : ∃ b1, Hid (b1 = mayv m bl c p.1 p.2 o.ac) := ⟨_, hid rfl⟩
    have ca1 := clposs_b m s bl lp ln lk c k5 k6 k7 p o.ac b1 Z (hE.keep hVZ) hh (hr.below hVZ) (hl0.below hVZ) (hO.blk z5 h5b h5n) (hO.blk z6 h6b h6n) (hO.blk z7 h7b h7n) hb1
    have o3 := (hO.blk z4 h4b h4n).cell 3
    have f9 := (hO.blk z9 h9b h9n).cell 0
    have p0 := zp.cell 0
    have p1 := zp.cell 1
    simp only [List.getElem?_cons_zero, List.getElem?_cons_succ] at o3 f9 p0 p1
    gi_wp2
    refine ⟨trivial, ?_⟩
    ((with_reducible refine (CallsIn.inRound ll (callsIn_wide (n := 6).2 ca1)).mono ?_); rintro e w1 ⟨rfl, hbw⟩)
    clear ca1 o3 f9 p0 p1
    have rd1 := rd0.grown hN (below_grown hbw) (fun r hr => by cases hr)
    replace z10 := z10.below hbw
    replace z11 := z11.below hbw
    replace hR := hR.below hbw
    clear rd0
    cases b1 with
    | false =>
      have hfin := fin w1 _ _ _ _ _ false rd1 hBB z10 z11 hR (hnext.trans (by unfold runStep; rw [show crossA m bl c o (p, q) = false from hb1.out.symm, if_neg Bool.false_ne_true]))
      obtain ⟨c11, f11⟩ := z11.one
      clear hnext hLg
      gi_wp2
      exact hfin _
    | true =>
      have hA : crossA m bl c o (p, q) = true := hb1.out.symm
      have c11 := z11.cell 0
      simp only [List.getElem?_cons_zero] at c11
      cases go with
      | true =>
        have hLl := runs_last (hf3 rfl)
        obtain ⟨M, hM⟩ : ∃ M, M = L.dropLast := ⟨_, rfl⟩
        obtain ⟨R, hRR⟩ : ∃ R, R = L.getLastD [] := ⟨_, rfl⟩
        have hnx := hid (show runsG (crossA m bl c o) (crossG m bl c o) (pre ++ [(p, q)]) = (M ++ [R ++ [(p, q)]], crossG m bl c o (p, q)) by rw [hnext, hM, hRR]; unfold runStep; rw [if_pos hA, if_pos rfl])
        rw [← hM, ← hRR] at hLl
        rw [hLl] at hR hf1 hf2
        have hM8 : M.length ≤ 8 := by rw [List.length_append] at hf1; omega
        have hR8 : R.length ≤ 8 := by have := hf2 R (List.mem_append.2 (.inr (List.mem_singleton.2 rfl))); omega
        have zpZ := zp
        have zqZ := zq
        replace zp := blk_keep rd1.kp zp
        replace zq := blk_keep rd1.kp zq
        clear hLl hM hRR hf1 hf2 hf3 hnext hLg hA hb1 hbw
        -- the run's row is made longer
        obtain ⟨l, hl⟩ : ∃ l, Hid (l = M.length) := ⟨_, hid rfl⟩
        have hMl : (M ++ [R]).length = l + 1 := by rw [List.length_append, List.length_singleton, hl.out]
        obtain ⟨n, hn⟩ : ∃ n, Hid (n = l + 1) := ⟨_, hid rfl⟩
        have hvs := hR.len
        rw [hMl] at hvs
        obtain ⟨u, hu, hou, hob⟩ := hR.each l R (by rw [hl.out, List.getElem?_append_right (Nat.le_refl _), Nat.sub_self]; rfl)
        have hov := hR.o
        rw [hMl, ← hn.out] at hov
        have hnl : n = l + 1 := hn.out
        obtain ⟨g, cap, rfl⟩ := own_some hov (by omega)
        have hl8 : l ≤ 8 := by rw [hl.out]; exact hM8
        have s1 : IntKind.i64.wrap ((n : Int) - 1) = (l : Int) := by rw [IntWalk.i64_in _ (by omega)]; omega
        have i0 : (0 : Int) ≤ (l : Int) := by omega
        have i1 : (l : Int) < (n : Int) := by omega
        have cU := hov.cellAt l (by omega)
        rw [hu] at cU
        have fU := hov.frozenAt l
        have hoU := own_up hou (fun k hk => (hob k hk).2 (by rw [hMl]))
        have c10 := z10.cell 0
        have p0 := zp.cell 0
        have p1 := zp.cell 1
        have q0 := zq.cell 0
        have q1 := zq.cell 1
        simp only [List.getElem?_cons_zero, List.getElem?_cons_succ] at c10 p0 p1 q0 q1
        obtain ⟨rn, hrn⟩ : ∃ rn, Hid (R.length = rn) := ⟨_, hid rfl⟩
        rw [hrn.out] at hoU
        have hrn8 : rn ≤ 8 := by rw [← hrn.out]; exact hR8
        have hbk := hR.le
        obtain ⟨u2, w5, hrun, hoU2, hg5, _⟩ := run_append_own (P := Tryz.prog) (w1.drew.alloc (.cells #[.int .i64 p.1, .int .i64 p.2, .int .i64 q.1, .int .i64 q.2] 30)) Bk 75 75 30 t4 (.agg #[.int .i64 0, .int .i64 0, .int .i64 0, .int .i64 0]) 4 32 Tryz.underlying75 hi4 hy0 hy1 hy2 rfl (by decide) u rn (qcells R) (own_below hoU ((Below.refl w1.heap.size w1).drew.alloc (Nat.le_refl _) _))
          ⟨w1.drew.heap.size, 0, none⟩ 1 1 [.int .i64 p.1, .int .i64 p.2, .int .i64 q.1, .int .i64 q.2] rfl cells_new (ints_four _ _ _ _) (by unfold maxLen; omega) (by omega) (by show Bk ≤ _; have : w1.drew.heap.size = w1.heap.size := rfl; simp; omega)
        obtain ⟨pu, cu, rfl⟩ := own_slice hoU2
        have hb4 := (Below.refl w1.heap.size w1).drew.alloc (Nat.le_refl _) (.cells #[.int .i64 p.1, .int .i64 p.2, .int .i64 q.1, .int .i64 q.2] 30)
        have hty : ∀ k, u.ownBlock = some k → ∃ c f, w1.heap[k]? = some (.cells c 30 f) := fun k hk => own_typ hou hk
        have hty4 : ∀ r, u.ownBlock = some r → ∃ c f, (w1.drew.alloc (.cells #[.int .i64 p.1, .int .i64 p.2, .int .i64 q.1, .int .i64 q.2] 30)).heap[r]? = some (.cells c 30 f) := fun r hr => by
          obtain ⟨c', f', h'⟩ := hty r hr
          exact ⟨c', f', (hb4.block r (hou.lt r hr).2).trans h'⟩
        have hkeep : ∀ (b : Nat) (vs : List Value) (t : TypeId), Blk w1 b vs t → t ≠ 30 → Blk w5 b vs t := fun b vs t hB ht => blk_grown (hB.below hb4) hg5 (fun r hr => by
          obtain ⟨c', f', h'⟩ := hty4 r hr
          intro e
          subst e
          have := hB.below hb4
          unfold Blk at this
          rw [h'] at this
          injection this with this
          injection this with _ this
          exact ht this.symm)
        have z10' := hkeep _ _ _ z10 (by decide)
        have z11' := hkeep _ _ _ z11 (by decide)
        have zp' := hkeep _ _ _ zp (by decide)
        have zq' := hkeep _ _ _ zq (by decide)
        have hov5 := own_off (own_below hov hb4) hg5 (fun r hr c' f' hc' => by
          obtain ⟨c2, f2, h2⟩ := hty4 r hr
          rw [h2] at hc'
          injection hc' with hc'
          injection hc' with _ hc'
          exact absurd hc' (by decide))
        have cU5 := hov5.cellAt l (by omega)
        rw [hu] at cU5
        have fU5 := hov5.frozenAt l
        have hS00 : w1.drew.cell? ⟨k10, 0, none⟩ = some (.slice (some ⟨g, 0, none⟩) n cap) ∧ w1.drew.cell? ⟨g, l, none⟩ = some u ∧ w1.drew.cell? ⟨kp, 0, none⟩ = some (.int .i64 p.1) ∧ w1.drew.cell? ⟨kp, 1, none⟩ = some (.int .i64 p.2) ∧ w1.drew.cell? ⟨kq, 0, none⟩ = some (.int .i64 q.1) ∧ w1.drew.cell? ⟨kq, 1, none⟩ = some (.int .i64 q.2) := ⟨c10, cU, p0, p1, q0, q1⟩
        obtain ⟨wq, hwq⟩ : ∃ wq, wq = w1.drew.alloc (.cells #[.int .i64 p.1, .int .i64 p.2, .int .i64 q.1, .int .i64 q.2] 30) := ⟨_, rfl⟩
        have hSA : wq.cell? ⟨k10, 0, none⟩ = some (.slice (some ⟨g, 0, none⟩) n cap) ∧ wq.cell? ⟨g, l, none⟩ = some u ∧ wq.cell? ⟨kp, 0, none⟩ = some (.int .i64 p.1) ∧ wq.cell? ⟨kp, 1, none⟩ = some (.int .i64 p.2) ∧ wq.cell? ⟨kq, 0, none⟩ = some (.int .i64 q.1) ∧ wq.cell? ⟨kq, 1, none⟩ = some (.int .i64 q.2) := by
          have a1 := (z10.below hb4).cell 0
          have a2 := (own_below hov hb4).cellAt l (by omega)
          have a3 := (zp.below hb4).cell 0
          have a4 := (zp.below hb4).cell 1
          have a5 := (zq.below hb4).cell 0
          have a6 := (zq.below hb4).cell 1
          rw [hu] at a2
          rw [hwq]
          exact ⟨a1, a2, a3, a4, a5, a6⟩
        have hSB : w5.cell? ⟨k10, 0, none⟩ = some (.slice (some ⟨g, 0, none⟩) n cap) ∧ w5.cell? ⟨g, l, none⟩ = some u ∧ w5.cell? ⟨kp, 0, none⟩ = some (.int .i64 p.1) ∧ w5.cell? ⟨kp, 1, none⟩ = some (.int .i64 p.2) ∧ w5.cell? ⟨kq, 0, none⟩ = some (.int .i64 q.1) ∧ w5.cell? ⟨kq, 1, none⟩ = some (.int .i64 q.2) := ⟨z10'.cell 0, cU5, zp'.cell 0, zp'.cell 1, zq'.cell 0, zq'.cell 1⟩
        rw [hwq] at hSA
        clear hwq wq hnl
        gi_wp2
        refine round_late hmx (by kernel_rfl) (lt := (fun x => x == 12)) (S := fun w' => w'.cell? ⟨k10, 0, none⟩ = some (.slice (some ⟨g, 0, none⟩) n cap) ∧ w'.cell? ⟨g, l, none⟩ = some u ∧ w'.cell? ⟨kp, 0, none⟩ = some (.int .i64 p.1) ∧ w'.cell? ⟨kp, 1, none⟩ = some (.int .i64 p.2) ∧ w'.cell? ⟨kq, 0, none⟩ = some (.int .i64 q.1) ∧ w'.cell? ⟨kq, 1, none⟩ = some (.int .i64 q.2)) ?_
        show wpAnyM _ _ _ _ _ _ _ _ _ w1.drew
        have hS0 := hS00
        refine late_tk (lt := (fun x => x == 12)) (i := 0) (v := .slice (some ⟨g, 0, none⟩) n cap) (some 34) rfl (fun w' hS => by (obtain ⟨q1, -, -, -, -, -⟩ := hS); go_simp) hS0 ?_
        try simp only [Act.put, List.setIfInBounds_toArray, List.set_cons_zero, List.set_cons_succ]
        refine late_tk (lt := (fun x => x == 12)) (i := 1) (v := .int .i64 l) (some 35) rfl (fun w' hS => by (skip); go_simp) hS0 ?_
        try simp only [Act.put, List.setIfInBounds_toArray, List.set_cons_zero, List.set_cons_succ]
        refine late_tk (lt := (fun x => x == 12)) (i := 2) (v := .slice (some ⟨g, 0, none⟩) n cap) (some 36) rfl (fun w' hS => by (obtain ⟨q1, -, -, -, -, -⟩ := hS); go_simp) hS0 ?_
        try simp only [Act.put, List.setIfInBounds_toArray, List.set_cons_zero, List.set_cons_succ]
        refine late_tk (lt := (fun x => x == 12)) (i := 3) (v := .int .i64 l) (some 37) rfl (fun w' hS => by (skip); go_simp) hS0 ?_
        try simp only [Act.put, List.setIfInBounds_toArray, List.set_cons_zero, List.set_cons_succ]
        refine late_tk (lt := (fun x => x == 12)) (i := 4) (v := .pointer (some ⟨g, l, none⟩)) (some 38) rfl (fun w' hS => by (skip); go_simp) hS0 ?_
        try simp only [Act.put, List.setIfInBounds_toArray, List.set_cons_zero, List.set_cons_succ]
        refine late_tk (lt := (fun x => x == 12)) (i := 5) (v := u) (some 39) rfl (fun w' hS => by (obtain ⟨-, q1, -, -, -, -⟩ := hS); go_simp) hS0 ?_
        try simp only [Act.put, List.setIfInBounds_toArray, List.set_cons_zero, List.set_cons_succ]
        refine late_tk (lt := (fun x => x == 12)) (i := 6) (v := .agg #[.int .i64 p.1, .int .i64 p.2]) (some 40) rfl (fun w' hS => by (obtain ⟨-, -, q1, q2, -, -⟩ := hS); go_simp) hS0 ?_
        try simp only [Act.put, List.setIfInBounds_toArray, List.set_cons_zero, List.set_cons_succ]
        refine late_tk (lt := (fun x => x == 12)) (i := 7) (v := .agg #[.int .i64 q.1, .int .i64 q.2]) (some 41) rfl (fun w' hS => by (obtain ⟨-, -, -, -, q1, q2⟩ := hS); go_simp) hS0 ?_
        try simp only [Act.put, List.setIfInBounds_toArray, List.set_cons_zero, List.set_cons_succ]
        refine late_tk (lt := (fun x => x == 12)) (i := 8) (v := .agg #[.int .i64 p.1, .int .i64 p.2, .int .i64 q.1, .int .i64 q.2]) (some 42) rfl (fun w' hS => by (skip); go_simp) hS0 ?_
        try simp only [Act.put, List.setIfInBounds_toArray, List.set_cons_zero, List.set_cons_succ]
        refine late_one (i := 9) (by kernel_rfl) rfl (fun K hQ => ?_)
        go_simp
        have hS1 := hSA
        refine hQ.out _ _ (fun _ => hS1) ?_
        clear hQ
        try simp only [Act.put, List.setIfInBounds_toArray, List.set_cons_zero, List.set_cons_succ]
        refine late_one (i := 10) (by kernel_rfl) rfl (fun K hQ => ?_)
        refine step_append_run rfl (.tmp 39) (.tmp 43) 75 rfl u (.slice (some ⟨w1.drew.heap.size, 0, none⟩) 1 1) _ rfl rfl hrun ?_
        have hS2 := hSB
        refine hQ.out _ _ (fun _ => hS2) ?_
        clear hQ
        try simp only [Act.put, List.setIfInBounds_toArray]
        refine late_tk (lt := (fun x => x == 12)) (i := 11) (v := .pointer (some ⟨g, l, none⟩)) (some 45) rfl (fun w' hS => by (skip); go_simp) hS2 ?_
        try simp only [Act.put]
        refine late_one (i := 12) (by kernel_rfl) rfl (fun K hQ => ?_)
        go_simp
        refine hQ.out _ _ (fun h => by cases h) ?_
        clear hQ
        try simp only [Act.put, List.setIfInBounds_toArray, List.set_cons_zero, List.set_cons_succ]
        refine late_done (by kernel_rfl) ?_ _
        unfold NoOut
        have hq4 : qcells R ++ [.int .i64 p.1, .int .i64 p.2, .int .i64 q.1, .int .i64 q.2] = qcells (R ++ [(p, q)]) := by rw [qcells_app]; rfl
        have hR6 := RunsM.longer (x := (p, q)) hR hb4 hl hn.out hu (by rw [← hq4, hrn.out]; exact hoU2) hg5 hBB
        have hgw : w1.grownBy w5 u.ownBlock := ⟨hg5.os.trans hb4.os, hg5.tape.trans hb4.tape, hg5.output.trans hb4.output, Nat.le_trans hb4.size hg5.size, fun k hk hne => (hg5.block k (Nat.lt_of_lt_of_le hk hb4.size) hne).trans (hb4.block k hk)⟩
        have rd5 := rd1.grown hN hgw (fun r hr => by
          obtain ⟨c', f', h'⟩ := hty r hr
          have a1 := (hou.lt r hr).1
          exact ⟨by omega, by omega, .inl a1, _, _, _, h', by decide⟩)
        have rd6 := rd5.grown hN (grownBy_setCell w5 g l (.slice pu (rn + 1) cu)) (fun r hr => by
          injection hr with hr
          subst hr
          obtain ⟨c', f', h'⟩ := own_typ hov5 (j := g) rfl
          have a1 := (hov5.lt g rfl).1
          exact ⟨by omega, by omega, .inl a1, _, _, _, h', by decide⟩)
        have hgn := (hov5.lt g rfl).1
        have z10b := z10'.far (c := g) (i := l) (.slice pu (rn + 1) cu) (by omega)
        have z11b := z11'.far (c := g) (i := l) (.slice pu (rn + 1) cu) (by omega)
        have zpb := blk_keep rd6.kp zpZ
        have zqb := blk_keep rd6.kp zqZ
        obtain ⟨w6, hw6⟩ : ∃ w6, w6 = w5.setCell ⟨g, l, none⟩ (.slice pu (rn + 1) cu) := ⟨_, rfl⟩
        rw [← hw6] at hR6 rd6 z10b z11b zpb zqb ⊢
        clear hw6 rd5 hgw hSA hSB hS00 hov5 z10' z11' zp' zq' hkeep hty hty4 hrun hoU2 hg5 cU5 fU5 cU fU c10 p0 p1 q0 q1
        -- does the run go on
        obtain ⟨b2, hb2⟩ : ∃ b2, Hid (b2 = mayv m bl c p.1 p.2 o.al) := ⟨_, hid rfl⟩
        have hV6 := rd6.old.below hVw hk10 hk11
        have ca2 := clposs_b m s bl lp ln lk c k5 k6 k7 p o.al b2 w6 (hE.keep hV6) hh (hr.below hV6) (hl0.below hV6) (rd6.old.blk z5 h5b h5n) (rd6.old.blk z6 h6b h6n) (rd6.old.blk z7 h7b h7n) hb2
        have o4 := (rd6.old.blk z4 h4b h4n).cell 4
        have f9 := (rd6.old.blk z9 h9b h9n).cell 0
        have p0 := zpb.cell 0
        have p1 := zpb.cell 1
        simp only [List.getElem?_cons_zero, List.getElem?_cons_succ] at o4 f9 p0 p1
        gi_wp2
        refine ⟨trivial, ?_⟩
        ((with_reducible refine (CallsIn.inRound ll (callsIn_wide (n := 6).2 ca2)).mono ?_); rintro e w7 ⟨rfl, hb7⟩)
        clear ca2 o4 f9 p0 p1
        have rd7 := rd6.grown hN (below_grown hb7) (fun r hr => by cases hr)
        have z10c := z10b.below hb7
        have z11c := z11b.below hb7
        have hR7 := hR6.below hb7
        cases b2 with
        | false =>
          have hfin := fin w7 _ _ _ _ _ false rd7 hBB z10c z11c hR7 (hnx.out.trans (by rw [show crossG m bl c o (p, q) = false by unfold crossG; rw [← hb2.out]; rfl]))
          obtain ⟨c11, f11⟩ := z11c.one
          clear hb2 hb7 hR6 hR7
          gi_wp2
          repeat (refine ⟨fun _ h => (by cases h), ?_⟩; gi_wp2)
          exact hfin _
        | true =>
          obtain ⟨b3, hb3⟩ : ∃ b3, Hid (b3 = mayv m bl c q.1 q.2 o.al) := ⟨_, hid rfl⟩
          have hV7 := rd7.old.below hVw hk10 hk11
          have ca3 := clposs_b m s bl lp ln lk c k5 k6 k7 q o.al b3 w7 (hE.keep hV7) hh (hr.below hV7) (hl0.below hV7) (rd7.old.blk z5 h5b h5n) (rd7.old.blk z6 h6b h6n) (rd7.old.blk z7 h7b h7n) hb3
          have o4 := (rd7.old.blk z4 h4b h4n).cell 4
          have f9 := (rd7.old.blk z9 h9b h9n).cell 0
          have zqc := blk_keep rd7.kp zqZ
          have q0 := zqc.cell 0
          have q1 := zqc.cell 1
          simp only [List.getElem?_cons_zero, List.getElem?_cons_succ] at o4 f9 q0 q1
          gi_wp2
          refine ⟨trivial, ?_⟩
          ((with_reducible refine (CallsIn.inRound ll (callsIn_wide (n := 6).2 ca3)).mono ?_); rintro e w8 ⟨rfl, hb8⟩)
          have rd8 := rd7.grown hN (below_grown hb8) (fun r hr => by cases hr)
          have z10d := z10c.below hb8
          have z11d := z11c.below hb8
          have hR8 := hR7.below hb8
          have hfin := fin w8 _ _ _ _ _ b3 rd8 hBB z10d z11d hR8 (hnx.out.trans (by rw [show crossG m bl c o (p, q) = b3 by unfold crossG; rw [← hb2.out, ← hb3.out]; rfl]))
          obtain ⟨c11, f11⟩ := z11d.one
          clear ca3 o4 f9 q0 q1
          gi_wp2
          exact hfin _
      | false =>
        obtain ⟨R, hRR⟩ : ∃ R : List PP, R = [] := ⟨_, rfl⟩
        have hnx := hid (show runsG (crossA m bl c o) (crossG m bl c o) (pre ++ [(p, q)]) = (L ++ [R ++ [(p, q)]], crossG m bl c o (p, q)) by rw [hnext, hRR]; unfold runStep; rw [if_pos hA, if_neg Bool.false_ne_true]; rfl)
        obtain ⟨pv, cv, rfl⟩ := own_slice hR.o
        have hov := hR.o
        obtain ⟨ln2, hln⟩ : ∃ n, Hid (L.length = n) := ⟨_, hid rfl⟩
        rw [hln.out] at hov hf1 z10
        obtain ⟨c10, f10⟩ := z10.one
        have hbz := (Below.refl w1.heap.size w1).alloc (Nat.le_refl _) (.cells ([.slice none 0 0] : List Value).toArray 75)
        have hb0w : b0 ≤ w1.heap.size := Nat.le_trans hN.out.2.2 rd1.old.size
        have hk10w : k10 < w1.heap.size := z10.lt
        clear hbw
        gi_upto_region 11 with (gi_at_builtin; refine wpListIn_append_own _ rfl _ _ 139 rfl b0 75 t1 (.slice none 0 0) 1 24 Tryz.underlying139 hi1 hx0 hx1 hx2 rfl (by decide) _ _ _ rfl (hov.alloc _) ⟨w1.heap.size, 0, none⟩ 1 1 [.slice none 0 0] rfl rfl cells_new (by simp [Value.oneCell']) (by unfold maxLen; omega) (by omega) (by simp; omega) ?_; intro v3 w3 hown3 hg3 _; obtain ⟨p3, c3, rfl⟩ := own_slice hown3; have z10a := blk_grown (z10.below hbz) hg3 (fun r hr e => own_no_row (own_below hov hbz) (z10.below hbz) (by decide) hr e.symm); obtain ⟨c10', f10'⟩ := z10a.one)
        have hgw : w1.grownBy w3 (Value.slice pv ln2 cv).ownBlock := ⟨hg3.os.trans hbz.os, hg3.tape.trans hbz.tape, hg3.output.trans hbz.output, Nat.le_trans hbz.size hg3.size, fun k hk hne => (hg3.block k (Nat.lt_of_lt_of_le hk hbz.size) hne).trans (hbz.block k hk)⟩
        have rd3 := rd1.grown hN hgw (fun r hr => by
          obtain ⟨c', f', h'⟩ := own_typ hov hr
          have a1 := (hov.lt r hr).1
          exact ⟨by omega, by omega, .inl a1, _, _, _, h', by decide⟩)
        have rd4 := rd3.grown hN (grownBy_setCell w3 k10 0 (.slice p3 (ln2 + 1) c3)) (fun r e => by injection e with e; subst e; exact ⟨hk10, hk0.2.2.2.1, .inr (.inl rfl), _, _, _, z10a, by decide⟩)
        have hRb := hR.begin hbz (own_to hown3 (by rw [hln.out]) rfl) (by rw [hln.out]; exact hg3)
        have hR4 := hRb.turn (grownBy_setCell w3 k10 0 (.slice p3 (ln2 + 1) c3)) (fun r e c1 t1 f1 hc1 => by
          injection e with e
          subst e
          unfold Blk at z10a
          rw [hc1] at z10a
          injection z10a with z10a
          injection z10a with _ z10a
          subst z10a
          exact ⟨by decide, by decide⟩)
        have z11a := (blk_grown (z11.below hbz) hg3 (fun r hr e => own_no_row (own_below hov hbz) (z11.below hbz) (by decide) hr e.symm)).far (c := k10) (i := 0) (.slice p3 (ln2 + 1) c3) (fun e => hk0.2.2.1 e.symm)
        have z10b : Blk (w3.setCell ⟨k10, 0, none⟩ (.slice p3 (ln2 + 1) c3)) k10 [.slice p3 (ln2 + 1) c3] 139 := z10a.set 0 (.slice p3 (ln2 + 1) c3)
        have hBB3 : b0 ≤ w3.heap.size := Nat.le_trans hb0w hgw.size
        have hM8 : L.length ≤ 8 := by rw [hln.out]; omega
        obtain ⟨w4, hw4⟩ : ∃ w4, w4 = w3.setCell ⟨k10, 0, none⟩ (.slice p3 (ln2 + 1) c3) := ⟨_, rfl⟩
        rw [← hw4] at rd4 hR4 z10b z11a ⊢
        obtain ⟨v3, hv3⟩ : ∃ v3, v3 = Value.slice p3 (ln2 + 1) c3 := ⟨_, rfl⟩
        rw [← hv3] at hR4 z10b ⊢
        clear hv3
        clear hw4 hgw rd3 hRb z10a z10 z11 hR hg3 hown3 c10 f10 c10' f10' hbz hov hBB rd1 c11
        obtain ⟨M, hM⟩ : ∃ M, M = L := ⟨_, rfl⟩
        obtain ⟨Bk, hBk3⟩ : ∃ k, k = w3.heap.size := ⟨_, rfl⟩
        rw [← hM, ← hRR] at hR4
        rw [← hM] at hnx
        rw [← hM] at hM8
        rw [← hBk3] at hR4 hBB3
        have hR8 : R.length ≤ 8 := by rw [hRR]; decide
        have hR := hR4
        have z10 := z10b
        have z11 := z11a
        have hBB := hBB3
        have zpZ := zp
        have zqZ := zq
        replace zp := blk_keep rd4.kp zpZ
        replace zq := blk_keep rd4.kp zqZ
        clear hR4 z10b z11a hBB3 hBk3 hM hRR hln hf1 hf2 hf3 hnext hLg hA hb1 hb0w hk10w
        -- the run's row is made longer
        obtain ⟨l, hl⟩ : ∃ l, Hid (l = M.length) := ⟨_, hid rfl⟩
        have hMl : (M ++ [R]).length = l + 1 := by rw [List.length_append, List.length_singleton, hl.out]
        obtain ⟨n, hn⟩ : ∃ n, Hid (n = l + 1) := ⟨_, hid rfl⟩
        have hvs := hR.len
        rw [hMl] at hvs
        obtain ⟨u, hu, hou, hob⟩ := hR.each l R (by rw [hl.out, List.getElem?_append_right (Nat.le_refl _), Nat.sub_self]; rfl)
        have hov := hR.o
        rw [hMl, ← hn.out] at hov
        have hnl : n = l + 1 := hn.out
        obtain ⟨g, cap, rfl⟩ := own_some hov (by omega)
        have hl8 : l ≤ 8 := by rw [hl.out]; exact hM8
        have s1 : IntKind.i64.wrap ((n : Int) - 1) = (l : Int) := by rw [IntWalk.i64_in _ (by omega)]; omega
        have i0 : (0 : Int) ≤ (l : Int) := by omega
        have i1 : (l : Int) < (n : Int) := by omega
        have cU := hov.cellAt l (by omega)
        rw [hu] at cU
        have fU := hov.frozenAt l
        have hoU := own_up hou (fun k hk => (hob k hk).2 (by rw [hMl]))
        have c10 := z10.cell 0
        have p0 := zp.cell 0
        have p1 := zp.cell 1
        have q0 := zq.cell 0
        have q1 := zq.cell 1
        simp only [List.getElem?_cons_zero, List.getElem?_cons_succ] at c10 p0 p1 q0 q1
        obtain ⟨rn, hrn⟩ : ∃ rn, Hid (R.length = rn) := ⟨_, hid rfl⟩
        rw [hrn.out] at hoU
        have hrn8 : rn ≤ 8 := by rw [← hrn.out]; exact hR8
        have hbk := hR.le
        obtain ⟨u2, w5, hrun, hoU2, hg5, _⟩ := run_append_own (P := Tryz.prog) (w4.drew.alloc (.cells #[.int .i64 p.1, .int .i64 p.2, .int .i64 q.1, .int .i64 q.2] 30)) Bk 75 75 30 t4 (.agg #[.int .i64 0, .int .i64 0, .int .i64 0, .int .i64 0]) 4 32 Tryz.underlying75 hi4 hy0 hy1 hy2 rfl (by decide) u rn (qcells R) (own_below hoU ((Below.refl w4.heap.size w4).drew.alloc (Nat.le_refl _) _))
          ⟨w4.drew.heap.size, 0, none⟩ 1 1 [.int .i64 p.1, .int .i64 p.2, .int .i64 q.1, .int .i64 q.2] rfl cells_new (ints_four _ _ _ _) (by unfold maxLen; omega) (by omega) (by show Bk ≤ _; have : w4.drew.heap.size = w4.heap.size := rfl; simp; omega)
        obtain ⟨pu, cu, rfl⟩ := own_slice hoU2
        have hb4 := (Below.refl w4.heap.size w4).drew.alloc (Nat.le_refl _) (.cells #[.int .i64 p.1, .int .i64 p.2, .int .i64 q.1, .int .i64 q.2] 30)
        have hty : ∀ k, u.ownBlock = some k → ∃ c f, w4.heap[k]? = some (.cells c 30 f) := fun k hk => own_typ hou hk
        have hty4 : ∀ r, u.ownBlock = some r → ∃ c f, (w4.drew.alloc (.cells #[.int .i64 p.1, .int .i64 p.2, .int .i64 q.1, .int .i64 q.2] 30)).heap[r]? = some (.cells c 30 f) := fun r hr => by
          obtain ⟨c', f', h'⟩ := hty r hr
          exact ⟨c', f', (hb4.block r (hou.lt r hr).2).trans h'⟩
        have hkeep : ∀ (b : Nat) (vs : List Value) (t : TypeId), Blk w4 b vs t → t ≠ 30 → Blk w5 b vs t := fun b vs t hB ht => blk_grown (hB.below hb4) hg5 (fun r hr => by
          obtain ⟨c', f', h'⟩ := hty4 r hr
          intro e
          subst e
          have := hB.below hb4
          unfold Blk at this
          rw [h'] at this
          injection this with this
          injection this with _ this
          exact ht this.symm)
        have z10' := hkeep _ _ _ z10 (by decide)
        have z11' := hkeep _ _ _ z11 (by decide)
        have zp' := hkeep _ _ _ zp (by decide)
        have zq' := hkeep _ _ _ zq (by decide)
        have hov5 := own_off (own_below hov hb4) hg5 (fun r hr c' f' hc' => by
          obtain ⟨c2, f2, h2⟩ := hty4 r hr
          rw [h2] at hc'
          injection hc' with hc'
          injection hc' with _ hc'
          exact absurd hc' (by decide))
        have cU5 := hov5.cellAt l (by omega)
        rw [hu] at cU5
        have fU5 := hov5.frozenAt l
        have hS00 : w4.drew.cell? ⟨k10, 0, none⟩ = some (.slice (some ⟨g, 0, none⟩) n cap) ∧ w4.drew.cell? ⟨g, l, none⟩ = some u ∧ w4.drew.cell? ⟨kp, 0, none⟩ = some (.int .i64 p.1) ∧ w4.drew.cell? ⟨kp, 1, none⟩ = some (.int .i64 p.2) ∧ w4.drew.cell? ⟨kq, 0, none⟩ = some (.int .i64 q.1) ∧ w4.drew.cell? ⟨kq, 1, none⟩ = some (.int .i64 q.2) := ⟨c10, cU, p0, p1, q0, q1⟩
        obtain ⟨wq, hwq⟩ : ∃ wq, wq = w4.drew.alloc (.cells #[.int .i64 p.1, .int .i64 p.2, .int .i64 q.1, .int .i64 q.2] 30) := ⟨_, rfl⟩
        have hSA : wq.cell? ⟨k10, 0, none⟩ = some (.slice (some ⟨g, 0, none⟩) n cap) ∧ wq.cell? ⟨g, l, none⟩ = some u ∧ wq.cell? ⟨kp, 0, none⟩ = some (.int .i64 p.1) ∧ wq.cell? ⟨kp, 1, none⟩ = some (.int .i64 p.2) ∧ wq.cell? ⟨kq, 0, none⟩ = some (.int .i64 q.1) ∧ wq.cell? ⟨kq, 1, none⟩ = some (.int .i64 q.2) := by
          have a1 := (z10.below hb4).cell 0
          have a2 := (own_below hov hb4).cellAt l (by omega)
          have a3 := (zp.below hb4).cell 0
          have a4 := (zp.below hb4).cell 1
          have a5 := (zq.below hb4).cell 0
          have a6 := (zq.below hb4).cell 1
          rw [hu] at a2
          rw [hwq]
          exact ⟨a1, a2, a3, a4, a5, a6⟩
        have hSB : w5.cell? ⟨k10, 0, none⟩ = some (.slice (some ⟨g, 0, none⟩) n cap) ∧ w5.cell? ⟨g, l, none⟩ = some u ∧ w5.cell? ⟨kp, 0, none⟩ = some (.int .i64 p.1) ∧ w5.cell? ⟨kp, 1, none⟩ = some (.int .i64 p.2) ∧ w5.cell? ⟨kq, 0, none⟩ = some (.int .i64 q.1) ∧ w5.cell? ⟨kq, 1, none⟩ = some (.int .i64 q.2) := ⟨z10'.cell 0, cU5, zp'.cell 0, zp'.cell 1, zq'.cell 0, zq'.cell 1⟩
        rw [hwq] at hSA
        clear hwq wq hnl
        gi_wp2
        refine round_late hmx (by kernel_rfl) (lt := (fun x => x == 12)) (S := fun w' => w'.cell? ⟨k10, 0, none⟩ = some (.slice (some ⟨g, 0, none⟩) n cap) ∧ w'.cell? ⟨g, l, none⟩ = some u ∧ w'.cell? ⟨kp, 0, none⟩ = some (.int .i64 p.1) ∧ w'.cell? ⟨kp, 1, none⟩ = some (.int .i64 p.2) ∧ w'.cell? ⟨kq, 0, none⟩ = some (.int .i64 q.1) ∧ w'.cell? ⟨kq, 1, none⟩ = some (.int .i64 q.2)) ?_
        show wpAnyM _ _ _ _ _ _ _ _ _ w4.drew
        have hS0 := hS00
        refine late_tk (lt := (fun x => x == 12)) (i := 0) (v := .slice (some ⟨g, 0, none⟩) n cap) (some 34) rfl (fun w' hS => by (obtain ⟨q1, -, -, -, -, -⟩ := hS); go_simp) hS0 ?_
        try simp only [Act.put, List.setIfInBounds_toArray, List.set_cons_zero, List.set_cons_succ]
        refine late_tk (lt := (fun x => x == 12)) (i := 1) (v := .int .i64 l) (some 35) rfl (fun w' hS => by (skip); go_simp) hS0 ?_
        try simp only [Act.put, List.setIfInBounds_toArray, List.set_cons_zero, List.set_cons_succ]
        refine late_tk (lt := (fun x => x == 12)) (i := 2) (v := .slice (some ⟨g, 0, none⟩) n cap) (some 36) rfl (fun w' hS => by (obtain ⟨q1, -, -, -, -, -⟩ := hS); go_simp) hS0 ?_
        try simp only [Act.put, List.setIfInBounds_toArray, List.set_cons_zero, List.set_cons_succ]
        refine late_tk (lt := (fun x => x == 12)) (i := 3) (v := .int .i64 l) (some 37) rfl (fun w' hS => by (skip); go_simp) hS0 ?_
        try simp only [Act.put, List.setIfInBounds_toArray, List.set_cons_zero, List.set_cons_succ]
        refine late_tk (lt := (fun x => x == 12)) (i := 4) (v := .pointer (some ⟨g, l, none⟩)) (some 38) rfl (fun w' hS => by (skip); go_simp) hS0 ?_
        try simp only [Act.put, List.setIfInBounds_toArray, List.set_cons_zero, List.set_cons_succ]
        refine late_tk (lt := (fun x => x == 12)) (i := 5) (v := u) (some 39) rfl (fun w' hS => by (obtain ⟨-, q1, -, -, -, -⟩ := hS); go_simp) hS0 ?_
        try simp only [Act.put, List.setIfInBounds_toArray, List.set_cons_zero, List.set_cons_succ]
        refine late_tk (lt := (fun x => x == 12)) (i := 6) (v := .agg #[.int .i64 p.1, .int .i64 p.2]) (some 40) rfl (fun w' hS => by (obtain ⟨-, -, q1, q2, -, -⟩ := hS); go_simp) hS0 ?_
        try simp only [Act.put, List.setIfInBounds_toArray, List.set_cons_zero, List.set_cons_succ]
        refine late_tk (lt := (fun x => x == 12)) (i := 7) (v := .agg #[.int .i64 q.1, .int .i64 q.2]) (some 41) rfl (fun w' hS => by (obtain ⟨-, -, -, -, q1, q2⟩ := hS); go_simp) hS0 ?_
        try simp only [Act.put, List.setIfInBounds_toArray, List.set_cons_zero, List.set_cons_succ]
        refine late_tk (lt := (fun x => x == 12)) (i := 8) (v := .agg #[.int .i64 p.1, .int .i64 p.2, .int .i64 q.1, .int .i64 q.2]) (some 42) rfl (fun w' hS => by (skip); go_simp) hS0 ?_
        try simp only [Act.put, List.setIfInBounds_toArray, List.set_cons_zero, List.set_cons_succ]
        refine late_one (i := 9) (by kernel_rfl) rfl (fun K hQ => ?_)
        go_simp
        have hS1 := hSA
        refine hQ.out _ _ (fun _ => hS1) ?_
        clear hQ
        try simp only [Act.put, List.setIfInBounds_toArray, List.set_cons_zero, List.set_cons_succ]
        refine late_one (i := 10) (by kernel_rfl) rfl (fun K hQ => ?_)
        refine step_append_run rfl (.tmp 39) (.tmp 43) 75 rfl u (.slice (some ⟨w4.drew.heap.size, 0, none⟩) 1 1) _ rfl rfl hrun ?_
        have hS2 := hSB
        refine hQ.out _ _ (fun _ => hS2) ?_
        clear hQ
        try simp only [Act.put, List.setIfInBounds_toArray]
        refine late_tk (lt := (fun x => x == 12)) (i := 11) (v := .pointer (some ⟨g, l, none⟩)) (some 45) rfl (fun w' hS => by (skip); go_simp) hS2 ?_
        try simp only [Act.put]
        refine late_one (i := 12) (by kernel_rfl) rfl (fun K hQ => ?_)
        go_simp
        refine hQ.out _ _ (fun h => by cases h) ?_
        clear hQ
        try simp only [Act.put, List.setIfInBounds_toArray, List.set_cons_zero, List.set_cons_succ]
        refine late_done (by kernel_rfl) ?_ _
        unfold NoOut
        have hq4 : qcells R ++ [.int .i64 p.1, .int .i64 p.2, .int .i64 q.1, .int .i64 q.2] = qcells (R ++ [(p, q)]) := by rw [qcells_app]; rfl
        have hR6 := RunsM.longer (x := (p, q)) hR hb4 hl hn.out hu (by rw [← hq4, hrn.out]; exact hoU2) hg5 hBB
        have hgw : w4.grownBy w5 u.ownBlock := ⟨hg5.os.trans hb4.os, hg5.tape.trans hb4.tape, hg5.output.trans hb4.output, Nat.le_trans hb4.size hg5.size, fun k hk hne => (hg5.block k (Nat.lt_of_lt_of_le hk hb4.size) hne).trans (hb4.block k hk)⟩
        have rd5 := rd4.grown hN hgw (fun r hr => by
          obtain ⟨c', f', h'⟩ := hty r hr
          have a1 := (hou.lt r hr).1
          exact ⟨by omega, by omega, .inl a1, _, _, _, h', by decide⟩)
        have rd6 := rd5.grown hN (grownBy_setCell w5 g l (.slice pu (rn + 1) cu)) (fun r hr => by
          injection hr with hr
          subst hr
          obtain ⟨c', f', h'⟩ := own_typ hov5 (j := g) rfl
          have a1 := (hov5.lt g rfl).1
          exact ⟨by omega, by omega, .inl a1, _, _, _, h', by decide⟩)
        have hgn := (hov5.lt g rfl).1
        have z10b := z10'.far (c := g) (i := l) (.slice pu (rn + 1) cu) (by omega)
        have z11b := z11'.far (c := g) (i := l) (.slice pu (rn + 1) cu) (by omega)
        have zpb := blk_keep rd6.kp zpZ
        have zqb := blk_keep rd6.kp zqZ
        obtain ⟨w6, hw6⟩ : ∃ w6, w6 = w5.setCell ⟨g, l, none⟩ (.slice pu (rn + 1) cu) := ⟨_, rfl⟩
        rw [← hw6] at hR6 rd6 z10b z11b zpb zqb ⊢
        clear hw6 rd5 hgw hSA hSB hS00 hov5 z10' z11' zp' zq' hkeep hty hty4 hrun hoU2 hg5 cU5 fU5 cU fU c10 p0 p1 q0 q1
        -- does the run go on
        obtain ⟨b2, hb2⟩ : ∃ b2, Hid (b2 = mayv m bl c p.1 p.2 o.al) := ⟨_, hid rfl⟩
        have hV6 := rd6.old.below hVw hk10 hk11
        have ca2 := clposs_b m s bl lp ln lk c k5 k6 k7 p o.al b2 w6 (hE.keep hV6) hh (hr.below hV6) (hl0.below hV6) (rd6.old.blk z5 h5b h5n) (rd6.old.blk z6 h6b h6n) (rd6.old.blk z7 h7b h7n) hb2
        have o4 := (rd6.old.blk z4 h4b h4n).cell 4
        have f9 := (rd6.old.blk z9 h9b h9n).cell 0
        have p0 := zpb.cell 0
        have p1 := zpb.cell 1
        simp only [List.getElem?_cons_zero, List.getElem?_cons_succ] at o4 f9 p0 p1
        gi_wp2
        refine ⟨trivial, ?_⟩
        ((with_reducible refine (CallsIn.inRound ll (callsIn_wide (n := 6).2 ca2)).mono ?_); rintro e w7 ⟨rfl, hb7⟩)
        clear ca2 o4 f9 p0 p1
        have rd7 := rd6.grown hN (below_grown hb7) (fun r hr => by cases hr)
        have z10c := z10b.below hb7
        have z11c := z11b.below hb7
        have hR7 := hR6.below hb7
        cases b2 with
        | false =>
          have hfin := fin w7 _ _ _ _ _ false rd7 hBB z10c z11c hR7 (hnx.out.trans (by rw [show crossG m bl c o (p, q) = false by unfold crossG; rw [← hb2.out]; rfl]))
          obtain ⟨c11, f11⟩ := z11c.one
          clear hb2 hb7 hR6 hR7
          gi_wp2
          repeat (refine ⟨fun _ h => (by cases h), ?_⟩; gi_wp2)
          exact hfin _
        | true =>
          obtain ⟨b3, hb3⟩ : ∃ b3, Hid (b3 = mayv m bl c q.1 q.2 o.al) := ⟨_, hid rfl⟩
          have hV7 := rd7.old.below hVw hk10 hk11
          have ca3 := clposs_b m s bl lp ln lk c k5 k6 k7 q o.al b3 w7 (hE.keep hV7) hh (hr.below hV7) (hl0.below hV7) (rd7.old.blk z5 h5b h5n) (rd7.old.blk z6 h6b h6n) (rd7.old.blk z7 h7b h7n) hb3
          have o4 := (rd7.old.blk z4 h4b h4n).cell 4
          have f9 := (rd7.old.blk z9 h9b h9n).cell 0
          have zqc := blk_keep rd7.kp zqZ
          have q0 := zqc.cell 0
          have q1 := zqc.cell 1
          simp only [List.getElem?_cons_zero, List.getElem?_cons_succ] at o4 f9 q0 q1
          gi_wp2
          refine ⟨trivial, ?_⟩
          ((with_reducible refine (CallsIn.inRound ll (callsIn_wide (n := 6).2 ca3)).mono ?_); rintro e w8 ⟨rfl, hb8⟩)
          have rd8 := rd7.grown hN (below_grown hb8) (fun r hr => by cases hr)
          have z10d := z10c.below hb8
          have z11d := z11c.below hb8
          have hR8 := hR7.below hb8
          have hfin := fin w8 _ _ _ _ _ b3 rd8 hBB z10d z11d hR8 (hnx.out.trans (by rw [show crossG m bl c o (p, q) = b3 by unfold crossG; rw [← hb2.out, ← hb3.out]; rfl]))
          obtain ⟨c11, f11⟩ := z11d.one
          clear ca3 o4 f9 q0 q1
          gi_wp2
          exact hfin _
  case done =>
    rintro D xs Z hD rfl ⟨hO, v, vs, Bk, hBB, y10, y11, hR⟩ hKd
    have c10 := y10.cell 0
    simp only [List.getElem?_cons_zero] at c10
    have hO2 := hO.grown hN.out.2.2 (grownBy_putObj' Z D (.deferred none)) (fun r e => by injection e with e; subst e; rw [hb0.out]; exact .inl hD)
    have hR2 := hR.turn (grownBy_putObj' Z D (.deferred none)) (fun r e c1 t1 f1 hc1 => by injection e with e; subst e; rw [hKd] at hc1; cases hc1)
    gi_wp2
    refine ⟨by simp, .inl ⟨_, _, rfl, run_takeDeferred hKd, ?_⟩⟩
    exact ⟨_, results_tmp rfl _ _ _, v, vs, Bk, rfl, hR2.base hVw.2, hO2.below hVw hk10 hk11⟩

end

section
open Go.RowKit Go.Lib

theorem qcells_cell (L : List PP) : ∀ u ∈ qcells L, u.oneCell' = true := by
  intro u hu
  unfold qcells pcells at hu
  obtain ⟨p, _, hp⟩ := List.mem_flatMap.1 hu
  simp at hp
  rcases hp with rfl | rfl <;> simp [Value.oneCell']
theorem qcells_len (L : List PP) : (qcells L).length = L.length * 4 := by
  induction L with
  | nil => rfl
  | cons x L ih => rw [show x :: L = [x] ++ L from rfl, qcells_app, List.length_append, ih, List.length_append]; simp [qcells_one]; omega
theorem entr_none {m : M3} {bl : List Bool} {c a b : Int} (h : (exv m a && exv m b && (bordv (arv m a) (arv m b)).2) = false) : entrv m bl c a b = [] := by unfold entrv; rw [if_neg (by rw [h]; exact Bool.false_ne_true)]
theorem take_flat (L : List (List PP)) {i : Nat} {R : List PP} (h : L[i]? = some R) : (L.take (i + 1)).flatMap pickv = (L.take i).flatMap pickv ++ pickv R := by
  rw [List.take_add_one, h, List.flatMap_append]; simp

set_option maxRecDepth 100000 in
set_option maxHeartbeats 8000000 in
theorem clentrances_b (m : M3) (sp : Option Addr) (sn sk : Nat) (bl : List Bool) (lp : Option Addr) (ln lk : Nat) (c a b : Int) (W : World) (hE : EnvT W) (hh : HighAt m) (hr : RowAt W (.slice sp sn sk) m.cs) (hl : BitsAt W (.slice lp ln lk) bl) :
    Calls Tryz.prog 35 #[.agg #[.int .i64 m.w, .int .i64 m.h, .slice sp sn sk], .slice lp ln lk, .int .i64 c, .int .i64 a, .int .i64 b] W fun e w' => ∃ u, e = .returned u ∧ w'.ownsRow W.heap.size 30 4 u (entrv m bl c a b).length (qcells (entrv m bl c a b)) ∧ Below W.heap.size W w' := by
  obtain ⟨t4, hi4, hy0, hy1, hy2⟩ := info_cut infoPair
  obtain ⟨x1, h1⟩ : ∃ x1, Hid (x1 = exv m a) := ⟨_, hid rfl⟩
  obtain ⟨x2, h2⟩ : ∃ x2, Hid (x2 = exv m b) := ⟨_, hid rfl⟩
  have hnil : ∀ w' : World, entrv m bl c a b = [] → w'.ownsRow W.heap.size 30 4 (.slice none 0 0) (entrv m bl c a b).length (qcells (entrv m bl c a b)) := fun w' e => by rw [e]; exact World.ownsRow_nil _ _ _ _
  have hT := Held1.start W [.int .i64 m.w, .int .i64 m.h, .slice sp sn sk] 24
  obtain ⟨k0, ek⟩ : ∃ k0, Hid (k0 = W.heap.size) := ⟨_, hid rfl⟩
  go_enter Tryz.func35, Tryz.ntmps35
  go_upto_region 1 with fail
  obtain ⟨X, hX⟩ : ∃ X, X = W.alloc (.cells [Value.int .i64 m.w, .int .i64 m.h, .slice sp sn sk].toArray 24) := ⟨_, rfl⟩
  rw [← hX] at hT ⊢
  clear hX
  have zm := hT.l.at ek.out.symm
  have hW := hT.old
  rw [← ek.out]
  clear hT
  have m0 := zm.cell 0
  have m1 := zm.cell 1
  have m2 := zm.cell 2
  simp only [List.getElem?_cons_zero, List.getElem?_cons_succ] at m0 m1 m2
  go_wp2_with fail
  ((with_reducible refine (clex_b m sp sn sk a x1 X (hr.below hW) h1).mono ?_); rintro e w1 ⟨rfl, hb1⟩)
  replace zm := zm.below hb1
  replace hW := below_call hW hb1
  clear hb1 m0 m1 m2
  cases x1 with
  | false =>
    have hn := fun w' => hnil w' (entr_none (by rw [← h1.out]; rfl))
    go_wp2_with fail
    go_ret
    exact ⟨_, rfl, hn _, hW⟩
  | true =>
    have m0 := zm.cell 0
    have m1 := zm.cell 1
    have m2 := zm.cell 2
    simp only [List.getElem?_cons_zero, List.getElem?_cons_succ] at m0 m1 m2
    go_wp2_with fail
    ((with_reducible refine (clex_b m sp sn sk b x2 w1 (hr.below hW) h2).mono ?_); rintro e w2 ⟨rfl, hb2⟩)
    replace zm := zm.below hb2
    replace hW := below_call hW hb2
    clear hb2 m0 m1 m2
    cases x2 with
    | false =>
      have hn := fun w' => hnil w' (entr_none (by rw [← h2.out, Bool.and_false]; rfl))
      go_wp2_with fail
      go_ret
      exact ⟨_, rfl, hn _, hW⟩
    | true =>
      have ha := h1.out.symm
      have hb := h2.out.symm
      obtain ⟨o, x3, h3⟩ : ∃ (o : B5) (x3 : Bool), Hid ((o, x3) = bordv (arv m a) (arv m b)) := ⟨_, _, hid rfl⟩
      have m0 := zm.cell 0
      have m1 := zm.cell 1
      have m2 := zm.cell 2
      simp only [List.getElem?_cons_zero, List.getElem?_cons_succ] at m0 m1 m2
      go_wp2_with fail
      ((with_reducible refine (clbord_b m sp sn sk a b o x3 w2 ha hb h3).mono ?_); rintro e w3 ⟨rfl, hb3⟩)
      replace zm := zm.below hb3
      replace hW := below_call hW hb3
      clear hb3 m0 m1 m2
      have hb4 := (Below.refl w3.heap.size w3).alloc (Nat.le_refl _) (.cells ([.int .i64 o.p.1, .int .i64 o.p.2, .int .i64 o.n, .int .i64 o.ac, .int .i64 o.al] : List Value).toArray 136)
      have zb := Blk.new w3 [.int .i64 o.p.1, .int .i64 o.p.2, .int .i64 o.n, .int .i64 o.ac, .int .i64 o.al] 136
      go_upto_region 4 with fail
      obtain ⟨Y, hY⟩ : ∃ Y, Y = w3.alloc (.cells #[Value.int .i64 o.p.1, .int .i64 o.p.2, .int .i64 o.n, .int .i64 o.ac, .int .i64 o.al] 136) := ⟨_, rfl⟩
      rw [← hY]
      rw [show w3.alloc (.cells ([.int .i64 o.p.1, .int .i64 o.p.2, .int .i64 o.n, .int .i64 o.ac, .int .i64 o.al] : List Value).toArray 136) = Y from hY.symm] at hb4 zb
      replace zm := zm.below hb4
      replace hW := below_call hW hb4
      clear hb4 hY
      obtain ⟨k1, ek1⟩ : ∃ k1, Hid (k1 = w3.heap.size) := ⟨_, hid rfl⟩
      rw [← ek1.out] at zb ⊢
      cases x3 with
      | false =>
        have hn := fun w' => hnil w' (entr_none (by rw [← h3.out, Bool.and_false]))
        go_wp2_with fail
        go_ret
        exact ⟨_, rfl, hn _, hW⟩
      | true =>
        have ok := bord_ok ha hb h3.out.symm
        obtain ⟨nn, hnn⟩ : ∃ nn : Nat, Hid (o.n = nn) := ⟨o.n.toNat, hid (by have := ok.n1; omega)⟩
        have h8 : nn ≤ 8 := by have := ok.n8; have := hnn.out; omega
        have hev : Hid (entrv m bl c a b = (runsG (crossA m bl c o) (crossG m bl c o) (bcells o nn)).1.flatMap pickv) := hid (by
          unfold entrv lineE
          rw [← h3.out, ha, hb, if_pos (show (true && true && (o, true).2) = true from rfl)]
          dsimp only
          rw [hnn.out, Int.toNat_natCast])
        have hfit := runs_fit (crossA m bl c o) (crossG m bl c o) (bcells o nn)
        rw [bcells_len] at hfit
        have hall := (runs_all (crossA m bl c o) (crossG m bl c o) (bcell o) nn).all
        have m0 := zm.cell 0
        have m1 := zm.cell 1
        have m2 := zm.cell 2
        have o0 := zb.cell 0
        have o1 := zb.cell 1
        have o2 := zb.cell 2
        have o3 := zb.cell 3
        have o4 := zb.cell 4
        simp only [List.getElem?_cons_zero, List.getElem?_cons_succ] at m0 m1 m2 o0 o1 o2 o3 o4
        clear h1 h2 h3 ok
        go_wp2_with fail
        ((with_reducible refine (clruns_b o nn hnn h8 m (.slice sp sn sk) bl lp ln lk c Y (hE.keep hW) hh (hr.below hW) (hl.below hW)).mono ?_); rintro e w5 ⟨v, vs, Bk, rfl, hR, hb5⟩)
        obtain ⟨L, hL⟩ : ∃ L, Hid (L = (runsG (crossA m bl c o) (crossG m bl c o) (bcells o nn)).1) := ⟨_, hid rfl⟩
        have hL8 : L.length ≤ 8 := by rw [hL.out]; have := hfit.1; omega
        have hR1 : ∀ R ∈ L, 1 ≤ R.length ∧ R.length ≤ 8 := fun R hR => by
          rw [hL.out] at hR
          have e : (bcells o nn) = (List.range nn).map (bcell o) := rfl
          obtain ⟨i, l, rfl, q⟩ := hall R (by rw [← e]; exact hR)
          rw [segG_len]
          have := q.one
          have := q.le
          omega
        rw [← hL.out] at hR hev
        replace hR := hR.base (Nat.le_refl _)
        have hW5 := below_call hW hb5
        have hbase := hW5.size
        clear m0 m1 m2 o0 o1 o2 o3 o4 zm zb hW hb5 hfit hall hL
        obtain ⟨n, hn⟩ : ∃ n, Hid (L.length = n) := ⟨_, hid rfl⟩
        have hov := hR.o
        rw [hn.out] at hov hL8
        obtain ⟨pv, cv, rfl⟩ := own_slice hov
        go_wp2_with fail
        go_loopw [13, 41] (fun u vi wr => ∃ (i : Nat) (ac : List PP), vi = .int .i64 i ∧ i ≤ n ∧ Hid (ac = (L.take i).flatMap pickv) ∧ ac.length ≤ 2 * i ∧ wr.ownsRow w5.heap.size 30 4 u ac.length (qcells ac) ∧ Below w5.heap.size w5 wr) (fun _ vi _ => n - (RowKit.intOf vi).toNat)
        case atStart => exact ⟨0, [], rfl, by omega, hid rfl, by simp, World.ownsRow_nil _ _ _ _, Below.refl _ _⟩
        case round =>
          obtain ⟨i, ac, rfl, hi, hac, hal, hou, hb⟩ := hrel
          by_cases hlt : i < n
          · have z1 : decide ((i : Int) < (n : Int)) = true := decide_eq_true (by omega)
            have i0 : (0 : Int) ≤ (i : Int) := by omega
            have i1 : (i : Int) < (n : Int) := by omega
            have nadd : IntKind.i64.wrap ((i : Int) + 1) = ((i + 1 : Nat) : Int) := by rw [IntWalk.i64_in _ (by omega)]; simp
            have hil : i < L.length := by rw [hn.out]; exact hlt
            obtain ⟨R, hRi⟩ : ∃ R, L[i]? = some R := ⟨_, List.getElem?_eq_getElem hil⟩
            obtain ⟨y, y1, y2, -⟩ := hR.each i R hRi
            obtain ⟨r1, r8⟩ := hR1 R (List.mem_of_getElem? hRi)
            obtain ⟨gv, cv', ev⟩ := own_some hov (by omega)
            injection ev with ev1 _ ev2
            subst ev1 ev2
            have cI := (own_below hov hb).cellAt i (by omega)
            rw [y1] at cI
            have hnx := hid (take_flat L hRi)
            rw [← hac.out] at hnx
            obtain ⟨rn, hrn⟩ : ∃ rn, R.length = rn := ⟨_, rfl⟩
            have ce := clentr_b R y rn (Y.heap.size) wr hrn (by omega) (by omega) (by rw [← hrn]; exact own_below y2 hb)
            clear hac hRi y1 y2
            go_wp2_with fail
            ((with_reducible refine ce.mono ?_); rintro e w6 ⟨z, rfl, hoz, hb6⟩)
            have hpl : 1 ≤ (pickv R).length := by
              obtain ⟨x, hx⟩ := pickv_some (R := R) (by omega)
              exact List.length_pos_of_mem hx
            have hpl2 := pickv_len R
            obtain ⟨pk, hpk⟩ : ∃ pk, Hid (pk = pickv R) := ⟨_, hid rfl⟩
            rw [← hpk.out] at hoz hnx hpl hpl2
            obtain ⟨gz, cz, rfl⟩ := own_some hoz hpl
            have hou6 := own_below hou hb6
            have hb6' := hb.trans (hb6.mono hb.size)
            have hs6 := hb6'.size
            have hnews : ∀ j u, (qcells pk)[j]? = some u → w6.cell? ((⟨gz, 0, none⟩ : Addr).add j) = some u := hoz.cells rfl
            have hnl := qcells_len pk
            obtain ⟨an, han⟩ : ∃ an, Hid (ac.length = an) := ⟨_, hid rfl⟩
            obtain ⟨kn, hkn⟩ : ∃ kn, Hid (pk.length = kn) := ⟨_, hid rfl⟩
            rw [han.out] at hou6 hal
            rw [hkn.out] at hnl hpl2 ⊢
            clear ce hou hoz hb
            go_wp2_with (at_builtin; refine wpList_append_own _ rfl _ _ 75 rfl w5.heap.size 30 t4 (.agg #[.int .i64 0, .int .i64 0, .int .i64 0, .int .i64 0]) 4 32 Tryz.underlying75 hi4 hy0 hy1 hy2 rfl (by decide) _ _ _ rfl hou6 ⟨gz, 0, none⟩ kn cz (qcells pk) rfl hnl hnews (qcells_cell pk) (by unfold maxLen; omega) (by omega) hs6 ?_)
            intro u9 w9 hou9 hg9 _
            have hb9 := hb6'.grown hg9 hs6 (fun j hj => (hou6.lt j hj).1)
            have hN := hid (show ac ++ pk = (L.take (i + 1)).flatMap pickv from hnx.out.symm)
            have hou10 := own_to hou9 (m := (ac ++ pk).length) (ys := qcells (ac ++ pk)) (by rw [List.length_append, han.out, hkn.out]) (qcells_app ac pk).symm
            have hal10 : (ac ++ pk).length ≤ 2 * (i + 1) := by rw [List.length_append, han.out, hkn.out]; omega
            clear hou9 hg9 hou6 hb6' hb6 hnews hnx
            have hmeas : n - (RowKit.intOf (Value.int .i64 ((i : Int) + 1))).toNat < n - (RowKit.intOf (Value.int .i64 (i : Int))).toNat := by simp [RowKit.intOf]; omega
            go_wp2_with fail
            have hadd : Value.int .i64 ((i : Int) + 1) = Value.int .i64 ((i + 1 : Nat) : Int) := by push_cast; rfl
            exact ⟨⟨i + 1, ac ++ pk, hadd, by omega, hN, hal10, hou10, hb9⟩, hmeas⟩
          · obtain rfl : n = i := by omega
            have z1 : decide ((n : Int) < (n : Int)) = false := decide_eq_false (by omega)
            have hE2 : ac = entrv m bl c a b := by rw [hev.out, hac.out, ← hn.out, List.take_length]
            clear hac hev
            go_wp2_with fail
            go_ret
            exact ⟨_, rfl, by rw [← hE2]; exact own_base hou hbase, below_call hW5 hb⟩

end

end Go.Proofs.YtpgchjhfhndaaaaGreatDoor
