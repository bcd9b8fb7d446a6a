/-
  What the reference of cluster answers: pick, Same; runs and their entrances as lists.
-/
import Derived.Test.YtpgchjhfhndaaaaGreatDoorClLandR
import Derived.ChangeKeysEq
namespace Go.Proofs.YtpgchjhfhndaaaaGreatDoor

section
open Go.RowKit Go.Lib

set_option maxRecDepth 100000 in
set_option maxHeartbeats 4000000 in
theorem rpick_b (R : List PP) (v : Value) (n B : Nat) (W : World) (hn : R.length = n) (h8 : n ≤ 8) (ho : W.ownsRow B 30 4 v n (qcells R)) :
    Calls Tryz.prog 152 #[v] W fun e w' => ∃ u, e = .returned u ∧ w'.ownsRow W.heap.size 30 4 u (pickv R).length (qcells (pickv R)) ∧ Below W.heap.size W w' := by
  by_cases h0 : n = 0
  · subst h0
    obtain ⟨p, c, rfl⟩ := own_slice ho
    have hR : R = [] := List.eq_nil_of_length_eq_zero hn
    subst hR
    clear hn h8 ho
    go_enter Tryz.func152, Tryz.ntmps152
    go_wp2_with fail
    go_ret
    exact ⟨_, rfl, World.ownsRow_nil _ _ _ _, Below.refl _ _⟩
  have h1 : 1 ≤ n := by omega
  have z0 : ((n : Int) == 0) = false := beq_eq_false_iff_ne.2 (by omega)
  obtain ⟨g, cap, rfl⟩ := own_some ho h1
  clear h0
  obtain ⟨l, hl⟩ : ∃ l, Hid (n = l + 1) := ⟨n - 1, hid (by omega)⟩
  have hl0 : l < n ∧ n < l + 2 := by rw [hl.out]; omega
  have hbs : ∀ (a b c d : Value) (w : World), (Instr.buildSlice 75 1 #[(0, .agg #[a, b, c, d])]).run Tryz.prog w = .ok (.slice (some ⟨w.heap.size, 0, none⟩) 1 1) (w.alloc (.cells #[a, b, c, d] 30)) := fun a b c d w => by kernel_rfl
  have s1 : IntKind.i64.wrap ((n : Int) - 1) = (l : Int) := by rw [IntWalk.i64_in _ (by omega)]; omega
  by_cases h6 : n < 6
  · have z1 : decide ((n : Int) < 6) = true := decide_eq_true (by omega)
    obtain ⟨h, hh⟩ : ∃ h, Hid (h = l / 2) := ⟨_, hid rfl⟩
    have hhl : h ≤ l := by rw [hh.out]; omega
    have s2 : (l : Int).tdiv 2 = (h : Int) := by rw [Int.tdiv_eq_ediv_of_nonneg (by omega), hh.out]; omega
    have s3 : wrap64 (h : Int) = (h : Int) := IntWalk.wrap64_in _ (by omega)
    have s4 : IntKind.i64.wrap (h : Int) = (h : Int) := IntWalk.i64_in _ (by omega)
    have i0 : (0 : Int) ≤ (h : Int) := by omega
    have i1 : (h : Int) < (n : Int) := by omega
    have hr : h < R.length := by omega
    obtain ⟨q0, q1, q2, q3⟩ := qcells_at R h hr
    obtain ⟨x, hx⟩ : ∃ x, Hid (x = R[h]'hr) := ⟨_, hid rfl⟩
    rw [← hx.out] at q0 q1 q2 q3
    have c0 := ho.cellAt (h * 4) (by omega)
    have c1 := ho.cellAt (h * 4 + 1) (by omega)
    have c2 := ho.cellAt (h * 4 + 2) (by omega)
    have c3 := ho.cellAt (h * 4 + 3) (by omega)
    rw [q0] at c0
    rw [q1] at c1
    rw [q2] at c2
    rw [q3] at c3
    have hpk : pickv R = [x] := by
      unfold pickv
      rw [hn, if_pos h6, show (n - 1) / 2 = h by rw [hh.out, hl.out]; rfl, List.getElem?_eq_getElem hr, ← hx.out]
      rfl
    clear q0 q1 q2 q3 hx hr
    replace hpk := hid hpk
    replace hn := hid hn
    go_enter Tryz.func152, Tryz.ntmps152
    go_wp2_with fail
    go_ret
    refine ⟨_, rfl, ?_, (Below.refl _ _).alloc (Nat.le_refl _) _⟩
    rw [hpk.out]
    exact own_lit (qcells [x]) rfl (Nat.le_refl _) (by omega)
  · have z1 : decide ((n : Int) < 6) = false := decide_eq_false (by omega)
    have i0 : (0 : Int) ≤ (l : Int) := by omega
    have i1 : (l : Int) < (n : Int) := by omega
    have i2 : (0 : Int) < (n : Int) := by omega
    have hr : l < R.length := by omega
    have hr0 : 0 < R.length := by omega
    obtain ⟨q0, q1, q2, q3⟩ := qcells_at R l hr
    obtain ⟨r0, r1, r2, r3⟩ := qcells_at R 0 hr0
    obtain ⟨x, hx⟩ : ∃ x, Hid (x = R[0]'hr0) := ⟨_, hid rfl⟩
    obtain ⟨y, hy⟩ : ∃ y, Hid (y = R[l]'hr) := ⟨_, hid rfl⟩
    rw [← hy.out] at q0 q1 q2 q3
    rw [← hx.out] at r0 r1 r2 r3
    have c0 := ho.cellAt (l * 4) (by omega)
    have c1 := ho.cellAt (l * 4 + 1) (by omega)
    have c2 := ho.cellAt (l * 4 + 2) (by omega)
    have c3 := ho.cellAt (l * 4 + 3) (by omega)
    have d0 := ho.cellAt 0 (by omega)
    have d1 := ho.cellAt 1 (by omega)
    have d2 := ho.cellAt 2 (by omega)
    have d3 := ho.cellAt 3 (by omega)
    rw [q0] at c0
    rw [q1] at c1
    rw [q2] at c2
    rw [q3] at c3
    simp only [Nat.zero_mul, Nat.zero_add] at r0 r1 r2 r3
    rw [r0] at d0
    rw [r1] at d1
    rw [r2] at d2
    rw [r3] at d3
    have hpk : pickv R = [x, y] := by
      unfold pickv
      rw [hn, if_neg h6, show n - 1 = l by omega, List.getElem?_eq_getElem hr, List.getElem?_eq_getElem hr0, ← hx.out, ← hy.out]
      rfl
    clear q0 q1 q2 q3 r0 r1 r2 r3 hx hy hr hr0
    replace hpk := hid hpk
    replace hn := hid hn
    go_enter Tryz.func152, Tryz.ntmps152
    go_wp2_with fail
    go_region
    all_goals
      go_wp2_with fail
      go_ret
      refine ⟨_, rfl, ?_, ((Below.refl _ _).drew).alloc (Nat.le_refl _) _⟩
      rw [hpk.out]
      exact own_lit (w := W.drew) (qcells [x, y]) rfl (Nat.le_refl _) (by omega)

end

section
open Go.RowKit Go.Lib

set_option maxRecDepth 100000 in
theorem neq_pairs (a b c d : Int) (w : World) : (binOp .neq 30 (.agg #[.int .i64 a, .int .i64 b, .int .i64 c, .int .i64 d]) (.agg #[.int .i64 a, .int .i64 b, .int .i64 c, .int .i64 d])).run Tryz.prog w = .ok (.bool false) w := by
  have hu : Tryz.prog.underlying 30 = some (.array 2 29) := by kernel_rfl
  obtain ⟨i, hi⟩ : ∃ i, Tryz.prog.info? 29 = some i := Option.isSome_iff_exists.1 (by kernel_rfl)
  have hc : Tryz.prog.cellsOf 29 = 2 := by kernel_rfl
  have p1 : ∀ (w : World) (a b c d : Value), (part 29 #[a, b, c, d] (0 * 2)).run Tryz.prog w = .ok (.agg #[a, b]) w := fun w a b c d => by kernel_rfl
  have p2 : ∀ (w : World) (a b c d : Value), (part 29 #[a, b, c, d] (1 * 2)).run Tryz.prog w = .ok (.agg #[c, d]) w := fun w a b c d => by kernel_rfl
  have pe : ∀ (w : World) (a b : Int), (Op.equalIn 9999 29 (.agg #[.int .i64 a, .int .i64 b]) (.agg #[.int .i64 a, .int .i64 b])).run Tryz.prog w = .ok true w := fun w a b => by
    rw [show (9999 : Nat) = 9998 + 1 from rfl]
    go_simp
  rw [run_neq_struct, show (10000 : Nat) = 9999 + 1 from rfl, run_equalIn_array _ _ _ _ hu hi, hc]
  simp only [List.range, List.range.loop, Op.eqItems, Sem.run_bind, p1, p2, pe, Result.andThen_ok, Bool.not_true, Bool.false_eq_true, if_false, Sem.run_pure]

end

section

/-- One pair of cells more, as the program takes it (A: can it be crossed; G: does the run go on behind it). -/
def runStep (A G : PP → Bool) (s : List (List PP) × Bool) (x : PP) : List (List PP) × Bool :=
  if A x = true then ((if s.2 = true then s.1.dropLast ++ [s.1.getLastD [] ++ [x]] else s.1 ++ [[x]]), G x) else (s.1, false)
def runsG (A G : PP → Bool) (xs : List PP) : List (List PP) × Bool := xs.foldl (runStep A G) ([], false)
/-- .. and as the reference takes it. -/
def refStep (A G : PP → Bool) (s : List PP × List PP) (x : PP) : List PP × List PP :=
  if A x = true then (if G x = true then (s.1, s.2 ++ [x]) else (s.1 ++ pickv (s.2 ++ [x]), [])) else (s.1 ++ pickv s.2, [])
def refG (A G : PP → Bool) (xs : List PP) : List PP × List PP := xs.foldl (refStep A G) ([], [])
theorem runsG_snoc (A G : PP → Bool) (xs : List PP) (x : PP) : runsG A G (xs ++ [x]) = runStep A G (runsG A G xs) x := by unfold runsG; rw [List.foldl_append]; rfl
theorem refG_snoc (A G : PP → Bool) (xs : List PP) (x : PP) : refG A G (xs ++ [x]) = refStep A G (refG A G xs) x := by unfold refG; rw [List.foldl_append]; rfl
/-- How the two stand to each other. -/
def Agree15 (s : List (List PP) × Bool) (r : List PP × List PP) : Prop :=
  (s.2 = true ∧ ∃ D, s.1 = D ++ [r.2] ∧ r.1 = D.flatMap pickv) ∨ (s.2 = false ∧ r.2 = [] ∧ r.1 = s.1.flatMap pickv)
theorem agree_step (A G : PP → Bool) (s : List (List PP) × Bool) (r : List PP × List PP) (x : PP) (h : Agree15 s r) : Agree15 (runStep A G s x) (refStep A G r x) := by
  obtain ⟨L, go⟩ := s
  obtain ⟨out, run⟩ := r
  unfold runStep refStep
  rcases h with ⟨h1, D, h2, h3⟩ | ⟨h1, h2, h3⟩
  · dsimp only at h1 h2 h3
    subst h1 h2 h3
    by_cases ha : A x = true
    · rw [if_pos ha, if_pos ha, if_pos rfl]
      have e1 : (D ++ [run]).dropLast ++ [(D ++ [run]).getLastD [] ++ [x]] = D ++ [run ++ [x]] := by simp
      rw [e1]
      by_cases hg : G x = true
      · rw [if_pos hg]; exact .inl ⟨hg, D, rfl, rfl⟩
      · rw [if_neg hg]; exact .inr ⟨Bool.eq_false_iff.2 hg, rfl, by simp⟩
    · rw [if_neg ha, if_neg ha]; exact .inr ⟨rfl, rfl, by simp⟩
  · dsimp only at h1 h2 h3
    subst h1 h2 h3
    by_cases ha : A x = true
    · rw [if_pos ha, if_pos ha, if_neg (show ¬ ((L, false) : List (List PP) × Bool).2 = true from Bool.false_ne_true)]
      by_cases hg : G x = true
      · rw [if_pos hg]; exact .inl ⟨hg, L, rfl, rfl⟩
      · rw [if_neg hg]; exact .inr ⟨Bool.eq_false_iff.2 hg, rfl, by simp⟩
    · rw [if_neg ha, if_neg ha]; exact .inr ⟨rfl, rfl, by simp [pickv]⟩
theorem agree_all (A G : PP → Bool) : ∀ (xs : List PP) (s : List (List PP) × Bool) (r : List PP × List PP), Agree15 s r → Agree15 (xs.foldl (runStep A G) s) (xs.foldl (refStep A G) r)
  | [], _, _, h => h
  | x :: xs, s, r, h => agree_all A G xs _ _ (agree_step A G s r x h)
/-- The entrances of the program's runs are the reference's. -/
theorem runs_ref (A G : PP → Bool) (xs : List PP) : (runsG A G xs).1.flatMap pickv = (refG A G xs).1 ++ pickv (refG A G xs).2 := by
  have h := agree_all A G xs ([], false) ([], []) (.inr ⟨rfl, rfl, rfl⟩)
  rcases h with ⟨_, D, h2, h3⟩ | ⟨_, h2, h3⟩
  · unfold runsG refG; rw [h2, h3]; simp
  · unfold runsG refG; rw [h2, h3]; simp [pickv]

end

section

/-- Cells beside each other. -/
def segG (f : Nat → PP) (i l : Nat) : List PP := (List.range l).map fun t => f (i + t)
theorem segG_one (f : Nat → PP) (i : Nat) : segG f i 1 = [f i] := rfl
theorem segG_succ (f : Nat → PP) (i l : Nat) : segG f i (l + 1) = segG f i l ++ [f (i + l)] := by unfold segG; rw [List.range_succ, List.map_append]; rfl
theorem segG_mem {f : Nat → PP} {i l : Nat} {x : PP} (h : x ∈ segG f i l) : ∃ t, t < l ∧ x = f (i + t) := by
  unfold segG at h
  obtain ⟨t, ht, rfl⟩ := List.mem_map.1 h
  exact ⟨t, List.mem_range.1 ht, rfl⟩
theorem segG_at (f : Nat → PP) {i l t : Nat} (h : t < l) : f (i + t) ∈ segG f i l := List.mem_map.2 ⟨t, List.mem_range.2 h, rfl⟩
theorem segG_len (f : Nat → PP) (i l : Nat) : (segG f i l).length = l := by unfold segG; rw [List.length_map, List.length_range]
/-- A run. -/
structure RunI (A G : PP → Bool) (f : Nat → PP) (i l k : Nat) : Prop where
  one : 1 ≤ l
  le : i + l ≤ k
  a : ∀ t, t < l → A (f (i + t)) = true
  g : ∀ t, t + 1 < l → G (f (i + t)) = true
structure RunsI (A G : PP → Bool) (f : Nat → PP) (s : List (List PP) × Bool) (k : Nat) : Prop where
  all : ∀ R ∈ s.1, ∃ i l, R = segG f i l ∧ RunI A G f i l k
  mem : ∀ t, t < k → A (f t) = true → ∃ R ∈ s.1, f t ∈ R
  last : s.2 = true → ∃ D i l, s.1 = D ++ [segG f i l] ∧ RunI A G f i l k ∧ i + l = k ∧ G (f (i + (l - 1))) = true
theorem runs_step {A G : PP → Bool} {f : Nat → PP} {s : List (List PP) × Bool} {k : Nat} (h : RunsI A G f s k) : RunsI A G f (runStep A G s (f k)) (k + 1) := by
  have hall : ∀ R ∈ s.1, ∃ i l, R = segG f i l ∧ RunI A G f i l (k + 1) := fun R hR => by
    obtain ⟨i, l, e, q⟩ := h.all R hR
    exact ⟨i, l, e, q.one, by have := q.le; omega, q.a, q.g⟩
  obtain ⟨L, go⟩ := s
  unfold runStep
  by_cases ha : A (f k) = true
  · rw [if_pos ha]
    cases go with
    | true =>
      obtain ⟨D, i, l, e1, q, e2, e3⟩ := h.last rfl
      dsimp only at e1 hall ⊢
      subst e1
      rw [if_pos rfl]
      have e4 : (D ++ [segG f i l]).dropLast ++ [(D ++ [segG f i l]).getLastD [] ++ [f k]] = D ++ [segG f i (l + 1)] := by
        rw [segG_succ, e2]; simp
      rw [e4]
      have q2 : RunI A G f i (l + 1) (k + 1) := by
        refine ⟨by omega, by omega, fun t ht => ?_, fun t ht => ?_⟩
        · by_cases hl : t < l
          · exact q.a t hl
          · obtain rfl : t = l := by omega
            rw [e2]; exact ha
        · by_cases hl : t + 1 < l
          · exact q.g t hl
          · obtain rfl : t = l - 1 := by omega
            exact e3
      refine ⟨fun R hR => ?_, fun t ht hA => ?_, fun hg => ⟨D, i, l + 1, rfl, q2, by omega, by rw [Nat.add_sub_cancel, e2]; exact hg⟩⟩
      · rcases List.mem_append.1 hR with hR | hR
        · exact hall R (List.mem_append.2 (.inl hR))
        · rw [List.mem_singleton.1 hR]; exact ⟨i, l + 1, rfl, q2⟩
      · by_cases htk : t < k
        · obtain ⟨R, hR, hx⟩ := h.mem t htk hA
          dsimp only at hR
          rcases List.mem_append.1 hR with hR | hR
          · exact ⟨R, List.mem_append.2 (.inl hR), hx⟩
          · rw [List.mem_singleton.1 hR] at hx
            exact ⟨segG f i (l + 1), List.mem_append.2 (.inr (List.mem_singleton.2 rfl)), by rw [segG_succ]; exact List.mem_append.2 (.inl hx)⟩
        · obtain rfl : t = k := by omega
          exact ⟨segG f i (l + 1), List.mem_append.2 (.inr (List.mem_singleton.2 rfl)), by rw [segG_succ, e2]; exact List.mem_append.2 (.inr (List.mem_singleton.2 rfl))⟩
    | false =>
      dsimp only at hall ⊢
      rw [if_neg Bool.false_ne_true]
      have q2 : RunI A G f k 1 (k + 1) := by
        refine ⟨by omega, by omega, fun t ht => ?_, fun t ht => by omega⟩
        obtain rfl : t = 0 := by omega
        exact ha
      refine ⟨fun R hR => ?_, fun t ht hA => ?_, fun hg => ⟨L, k, 1, rfl, q2, rfl, hg⟩⟩
      · rcases List.mem_append.1 hR with hR | hR
        · exact hall R hR
        · rw [List.mem_singleton.1 hR]; exact ⟨k, 1, rfl, q2⟩
      · by_cases htk : t < k
        · obtain ⟨R, hR, hx⟩ := h.mem t htk hA
          exact ⟨R, List.mem_append.2 (.inl hR), hx⟩
        · obtain rfl : t = k := by omega
          exact ⟨[f t], List.mem_append.2 (.inr (List.mem_singleton.2 rfl)), List.mem_singleton.2 rfl⟩
  · rw [if_neg ha]
    refine ⟨hall, fun t ht hA => ?_, fun hg => by cases hg⟩
    by_cases htk : t < k
    · exact h.mem t htk hA
    · obtain rfl : t = k := by omega
      exact absurd hA ha
theorem runs_all (A G : PP → Bool) (f : Nat → PP) : ∀ k, RunsI A G f (runsG A G ((List.range k).map f)) k
  | 0 => ⟨fun R hR => (by cases hR), fun t ht => (by omega), fun h => (by cases h)⟩
  | k + 1 => by
    rw [List.range_succ, List.map_append]
    show RunsI A G f (runsG A G ((List.range k).map f ++ [f k])) (k + 1)
    rw [runsG_snoc]
    exact runs_step (runs_all A G f k)
theorem pickv_mem {R : List PP} {x : PP} (h : x ∈ pickv R) : x ∈ R := by
  unfold pickv at h
  split at h
  · exact List.mem_of_getElem? (Option.mem_toList.1 h)
  · rcases List.mem_append.1 h with h | h <;> exact List.mem_of_getElem? (Option.mem_toList.1 h)
theorem pickv_some {R : List PP} (h : 1 ≤ R.length) : ∃ x, x ∈ pickv R := by
  unfold pickv
  split
  · have hl : (R.length - 1) / 2 < R.length := by omega
    exact ⟨R[(R.length - 1) / 2], by rw [List.getElem?_eq_getElem hl]; exact List.mem_singleton.2 rfl⟩
  · exact ⟨R[0], List.mem_append.2 (.inl (by rw [List.getElem?_eq_getElem (by omega)]; exact List.mem_singleton.2 rfl))⟩
theorem pickv_len (R : List PP) : (pickv R).length ≤ 2 := by
  unfold pickv
  split
  · cases R[(R.length - 1) / 2]? <;> simp
  · cases R[0]? <;> cases R[R.length - 1]? <;> simp
/-- Each entrance is a pair of cells that can be crossed. -/
theorem entr_cross {A G : PP → Bool} {f : Nat → PP} {k : Nat} {x : PP} (h : x ∈ (runsG A G ((List.range k).map f)).1.flatMap pickv) : ∃ t, t < k ∧ x = f t ∧ A (f t) = true := by
  obtain ⟨R, hR, hx⟩ := List.mem_flatMap.1 h
  obtain ⟨i, l, rfl, q⟩ := (runs_all A G f k).all R hR
  obtain ⟨t, ht, rfl⟩ := segG_mem (pickv_mem hx)
  exact ⟨i + t, by have := q.le; omega, rfl, q.a t ht⟩
/-- .. and for each such pair there is an entrance on the same run. -/
theorem entr_join {A G : PP → Bool} {f : Nat → PP} {k : Nat} (J : Nat → Nat → Prop) (hr : ∀ i, J i i) (hs : ∀ i j, J i j → J j i) (ht : ∀ i j l, J i j → J j l → J i l)
    (hg : ∀ i, i + 1 < k → A (f i) = true → A (f (i + 1)) = true → G (f i) = true → J i (i + 1)) {t : Nat} (htk : t < k) (hA : A (f t) = true) (hinj : ∀ i j, i < k → j < k → f i = f j → i = j) :
    ∃ u, u < k ∧ f u ∈ (runsG A G ((List.range k).map f)).1.flatMap pickv ∧ A (f u) = true ∧ J t u := by
  have R := runs_all A G f k
  obtain ⟨R1, hR, hx⟩ := R.mem t htk hA
  obtain ⟨i, l, rfl, q⟩ := R.all R1 hR
  obtain ⟨x, hp⟩ := pickv_some (R := segG f i l) (by rw [segG_len]; exact q.one)
  obtain ⟨v, hv, rfl⟩ := segG_mem (pickv_mem hp)
  obtain ⟨d, hd, ed⟩ := segG_mem hx
  have hle := q.le
  obtain rfl : t = i + d := hinj _ _ htk (by omega) ed
  have up : ∀ n, n < l → J i (i + n) := fun n => by
    induction n with
    | zero => exact fun _ => hr i
    | succ n ih => exact fun hn => ht _ _ _ (ih (by omega)) (hg (i + n) (by omega) (q.a n (by omega)) (q.a (n + 1) hn) (q.g n hn))
  exact ⟨i + v, by omega, List.mem_flatMap.2 ⟨_, hR, hp⟩, q.a v hv, ht _ _ _ (hs _ _ (up d hd)) (up v hv)⟩

end

section
open Go.RowKit Go.Lib

/-- What is known of a border. -/
structure BordOk (r s : R4) (o : B5) : Prop where
  n1 : 1 ≤ o.n
  n8 : o.n ≤ 8
  xy : (o.ac = 0 ∧ o.al = 2 ∧ s.y = r.y ∧ s.x = r.x + r.w ∧ s.h = r.h ∧ o.n = r.h ∧ o.p = (r.x + r.w - 1, r.y)) ∨ (o.ac = 2 ∧ o.al = 0 ∧ s.x = r.x ∧ s.y = r.y + r.h ∧ s.w = r.w ∧ o.n = r.w ∧ o.p = (r.x, r.y + r.h - 1))
theorem bord_ok {m : M3} {a b : Int} (ha : exv m a = true) (hb : exv m b = true) {o : B5} (h : bordv (arv m a) (arv m b) = (o, true)) : BordOk (arv m a) (arv m b) o := by
  have okr := ar_ok ha
  have oks := ar_ok hb
  have e1 : (arv m a).w = min 8 (m.w - (arv m a).x) := rfl
  have e2 : (arv m a).h = min 8 (m.h - (arv m a).y) := rfl
  have e3 : (arv m b).w = min 8 (m.w - (arv m b).x) := rfl
  have e4 : (arv m b).h = min 8 (m.h - (arv m b).y) := rfl
  generalize arv m a = r at *
  generalize arv m b = s at *
  obtain ⟨rx, ry, rw1, rh1, rw8, rh8, rxw, ryh⟩ := okr
  obtain ⟨sx, sy, sw1, sh1, sw8, sh8, sxw, syh⟩ := oks
  unfold bordv at h
  split at h
  · next k =>
    injection h with h1 h2
    subst h1
    refine ⟨rh1, rh8, .inl ⟨rfl, rfl, k.1, k.2, by rw [e4, k.1, ← e2], rfl, ?_⟩⟩
    rw [k.1, k.2]
  · split at h
    · next k =>
      injection h with h1 h2
      subst h1
      refine ⟨rw1, rw8, .inr ⟨rfl, rfl, k.1, k.2, by rw [e3, k.1, ← e1], rfl, ?_⟩⟩
      rw [k.1, k.2]
    · injection h with h1 h2
      cases h2
theorem st_east (x y : Int) : stx x 0 = nr x + 1 ∧ sty y 0 = nr y := by
  unfold stx sty
  rw [if_neg (by omega), if_neg (by omega), show shx 0 = 1 by decide, show shy 0 = 0 by decide]
  omega
theorem st_south (x y : Int) : stx x 2 = nr x ∧ sty y 2 = nr y + 1 := by
  unfold stx sty
  rw [if_neg (by omega), if_neg (by omega), show shx 2 = 0 by decide, show shy 2 = 1 by decide]
  omega
theorem bpos_east {o : B5} (h : o.al = 0) (h1 : 0 ≤ o.p.1 ∧ o.p.1 ≤ 100) (h2 : 0 ≤ o.p.2 ∧ o.p.2 ≤ 100) : ∀ k : Nat, k ≤ 100 → bpos o k = (o.p.1 + k, o.p.2)
  | 0, _ => by simp [bpos]
  | k + 1, hk => by
    have ih := bpos_east h h1 h2 k (by omega)
    unfold bpos
    rw [ih, h, (st_east _ o.p.2).1, (st_east 0 _).2, nr_in (by omega) (by omega), nr_in (by omega) (by omega)]
    push_cast
    congr 1
    omega
theorem bpos_south {o : B5} (h : o.al = 2) (h1 : 0 ≤ o.p.1 ∧ o.p.1 ≤ 100) (h2 : 0 ≤ o.p.2 ∧ o.p.2 ≤ 100) : ∀ k : Nat, k ≤ 100 → bpos o k = (o.p.1, o.p.2 + k)
  | 0, _ => by simp [bpos]
  | k + 1, hk => by
    have ih := bpos_south h h1 h2 k (by omega)
    unfold bpos
    rw [ih, h, (st_south _ o.p.2).1, (st_south 0 _).2, nr_in (by omega) (by omega), nr_in (by omega) (by omega)]
    push_cast
    congr 1
    omega
variable {m : M3} {a b : Int} {o : B5}
/-- Where the cells of a border lie. -/
theorem bcell_at (hf : formedv m = true) (okr : ArOk m (arv m a)) (oks : ArOk m (arv m b)) (h : BordOk (arv m a) (arv m b) o) {k : Nat} (hk : k ≤ 8) :
    (o.ac = 0 ∧ bcell o k = (((arv m a).x + (arv m a).w - 1, (arv m a).y + k), ((arv m b).x, (arv m a).y + k))) ∨ (o.ac = 2 ∧ bcell o k = (((arv m a).x + k, (arv m a).y + (arv m a).h - 1), ((arv m a).x + k, (arv m b).y))) := by
  obtain ⟨_, _, s1, s2, s3, s4⟩ := col_num hf
  generalize arv m a = r at *
  generalize arv m b = s at *
  obtain ⟨rx, ry, rw1, rh1, rw8, rh8, rxw, ryh⟩ := okr
  obtain ⟨sx, sy, sw1, sh1, sw8, sh8, sxw, syh⟩ := oks
  rcases h.xy with ⟨q1, q2, q3, q4, q5, q6, q7⟩ | ⟨q1, q2, q3, q4, q5, q6, q7⟩
  · refine .inl ⟨q1, ?_⟩
    unfold bcell
    rw [bpos_south q2 (by rw [q7]; dsimp only; omega) (by rw [q7]; dsimp only; omega) k (by omega), q1, q7]
    dsimp only
    rw [(st_east _ 0).1, (st_east 0 _).2, nr_in (by omega) (by omega), nr_in (by omega) (by omega), q4]
    congr 2
    omega
  · refine .inr ⟨q1, ?_⟩
    unfold bcell
    rw [bpos_east q2 (by rw [q7]; dsimp only; omega) (by rw [q7]; dsimp only; omega) k (by omega), q1, q7]
    dsimp only
    rw [(st_south _ 0).1, (st_south 0 _).2, nr_in (by omega) (by omega), nr_in (by omega) (by omega), q4]
    congr 2
    omega
theorem bcell_in (ha : exv m a = true) (hb : exv m b = true) (h : BordOk (arv m a) (arv m b) o) {k : Nat} (hk : (k : Int) < o.n) :
    insv (arv m a) (bcell o k).1.1 (bcell o k).1.2 = true ∧ insv (arv m b) (bcell o k).2.1 (bcell o k).2.2 = true := by
  have hf := valid_formed (ex_valid ha).1
  have okr := ar_ok ha
  have oks := ar_ok hb
  have n8 := h.n8
  have hc := bcell_at hf okr oks h (k := k) (by omega)
  rw [ar_ins okr hf, ar_ins oks hf, decide_eq_true_iff, decide_eq_true_iff]
  generalize arv m a = r at *
  generalize arv m b = s at *
  obtain ⟨rx, ry, rw1, rh1, rw8, rh8, rxw, ryh⟩ := okr
  obtain ⟨sx, sy, sw1, sh1, sw8, sh8, sxw, syh⟩ := oks
  rcases hc with ⟨q0, e⟩ | ⟨q0, e⟩ <;> rw [e] <;> dsimp only <;> rcases h.xy with ⟨q1, q2, q3, q4, q5, q6, q7⟩ | ⟨q1, q2, q3, q4, q5, q6, q7⟩ <;> omega
theorem bcell_two (k : Nat) : (bcell o k).2 = (stx (bcell o k).1.1 o.ac, sty (bcell o k).1.2 o.ac) := rfl
theorem bcell_inj (ha : exv m a = true) (hb : exv m b = true) (h : BordOk (arv m a) (arv m b) o) {i j : Nat} (hi : i ≤ 8) (hj : j ≤ 8) (e : bcell o i = bcell o j) : i = j := by
  have hf := valid_formed (ex_valid ha).1
  rcases bcell_at hf (ar_ok ha) (ar_ok hb) h hi with ⟨q0, e1⟩ | ⟨q0, e1⟩ <;> rcases bcell_at hf (ar_ok ha) (ar_ok hb) h hj with ⟨q1, e2⟩ | ⟨q1, e2⟩ <;> rw [e1, e2] at e <;> injection e with e e' <;> injection e with e3 e4 <;> omega
/-- The next cells. -/
theorem bcell_next (ha : exv m a = true) (hb : exv m b = true) (h : BordOk (arv m a) (arv m b) o) {k : Nat} (hk : k + 1 ≤ 8) :
    (bcell o (k + 1)).1 = (stx (bcell o k).1.1 o.al, sty (bcell o k).1.2 o.al) ∧ (bcell o (k + 1)).2 = (stx (bcell o k).2.1 o.al, sty (bcell o k).2.2 o.al) := by
  refine ⟨rfl, ?_⟩
  have hf := valid_formed (ex_valid ha).1
  obtain ⟨_, _, s1, s2, s3, s4⟩ := col_num hf
  have okr := ar_ok ha
  have oks := ar_ok hb
  have c1 := bcell_at hf okr oks h (k := k) (by omega)
  have c2 := bcell_at hf okr oks h (k := k + 1) (by omega)
  generalize arv m a = r at *
  generalize arv m b = s at *
  obtain ⟨rx, ry, rw1, rh1, rw8, rh8, rxw, ryh⟩ := okr
  obtain ⟨sx, sy, sw1, sh1, sw8, sh8, sxw, syh⟩ := oks
  rcases c1 with ⟨q0, e1⟩ | ⟨q0, e1⟩ <;> rcases c2 with ⟨q1, e2⟩ | ⟨q1, e2⟩
  · rw [e1, e2]
    dsimp only
    rcases h.xy with ⟨_, q2, _⟩ | ⟨q2, _⟩
    · rw [q2, (st_south _ 0).1, (st_south 0 _).2, nr_in (by omega) (by omega), nr_in (by omega) (by omega)]; push_cast; congr 1; omega
    · omega
  · omega
  · omega
  · rw [e1, e2]
    dsimp only
    rcases h.xy with ⟨q2, _⟩ | ⟨_, q2, _⟩
    · omega
    · rw [q2, (st_east _ 0).1, (st_east 0 _).2, nr_in (by omega) (by omega), nr_in (by omega) (by omega)]; push_cast; congr 1; omega
/-- A cell from which the step leads over the border. -/
theorem bcell_all (ha : exv m a = true) (hb : exv m b = true) (h : BordOk (arv m a) (arv m b) o) {p : Pt} (hp : insv (arv m a) p.1 p.2 = true) (hq : insv (arv m b) (stx p.1 o.ac) (sty p.2 o.ac) = true) :
    ∃ k : Nat, (k : Int) < o.n ∧ k ≤ 8 ∧ bcell o k = (p, (stx p.1 o.ac, sty p.2 o.ac)) := by
  have hf := valid_formed (ex_valid ha).1
  obtain ⟨_, _, s1, s2, s3, s4⟩ := col_num hf
  have okr := ar_ok ha
  have oks := ar_ok hb
  have p1 := ar_in okr hf hp
  have p2 := ar_in oks hf hq
  have hn8 := h.n8
  have key : ∃ k : Nat, (k : Int) < o.n ∧ bpos o k = p := by
    have hc := fun (k : Nat) (hk : k ≤ 8) => bcell_at hf okr oks h (k := k) hk
    generalize arv m a = r at *
    generalize arv m b = s at *
    obtain ⟨rx, ry, rw1, rh1, rw8, rh8, rxw, ryh⟩ := okr
    obtain ⟨sx, sy, sw1, sh1, sw8, sh8, sxw, syh⟩ := oks
    rcases h.xy with ⟨q1, q2, q3, q4, q5, q6, q7⟩ | ⟨q1, q2, q3, q4, q5, q6, q7⟩
    · rw [q1, (st_east _ 0).1, (st_east 0 _).2, nr_in (by omega) (by omega), nr_in (by omega) (by omega)] at p2
      obtain ⟨k, hk⟩ := Int.eq_ofNat_of_zero_le (show 0 ≤ p.2 - r.y by omega)
      refine ⟨k, by omega, ?_⟩
      rcases hc k (by omega) with ⟨_, e⟩ | ⟨e0, _⟩
      · have e := congrArg Prod.fst e
        refine (show bpos o k = _ from e).trans ?_
        obtain ⟨px, py⟩ := p
        dsimp only at *
        congr 1 <;> omega
      · omega
    · rw [q1, (st_south _ 0).1, (st_south 0 _).2, nr_in (by omega) (by omega), nr_in (by omega) (by omega)] at p2
      obtain ⟨k, hk⟩ := Int.eq_ofNat_of_zero_le (show 0 ≤ p.1 - r.x by omega)
      refine ⟨k, by omega, ?_⟩
      rcases hc k (by omega) with ⟨e0, _⟩ | ⟨_, e⟩
      · omega
      · have e := congrArg Prod.fst e
        refine (show bpos o k = _ from e).trans ?_
        obtain ⟨px, py⟩ := p
        dsimp only at *
        congr 1 <;> omega
  obtain ⟨k, hk, e⟩ := key
  exact ⟨k, hk, by omega, by unfold bcell; rw [e]⟩

def crossA (m : M3) (bl : List Bool) (c : Int) (o : B5) (x : PP) : Bool := mayv m bl c x.1.1 x.1.2 o.ac
def crossG (m : M3) (bl : List Bool) (c : Int) (o : B5) (x : PP) : Bool := mayv m bl c x.1.1 x.1.2 o.al && mayv m bl c x.2.1 x.2.2 o.al
def lineE (m : M3) (bl : List Bool) (c : Int) (o : B5) : List PP := (runsG (crossA m bl c o) (crossG m bl c o) (bcells o o.n.toNat)).1.flatMap pickv
def entrv (m : M3) (bl : List Bool) (c a b : Int) : List PP := if (exv m a && exv m b && (bordv (arv m a) (arv m b)).2) = true then lineE m bl c (bordv (arv m a) (arv m b)).1 else []
theorem may_num {bl : List Bool} {c x y d : Int} (h : mayv m bl c x y d = true) : classv c = true ∧ openv m bl c x y = true ∧ openv m bl c (stx x d) (sty y d) = true ∧ (0 ≤ d ∧ d ≤ 7) := by
  unfold mayv nearv at h
  simp only [Bool.and_eq_true] at h
  obtain ⟨⟨hd, ⟨h1, h2⟩, _⟩, _⟩ := h
  refine ⟨?_, h1, h2, of_decide_eq_true hd⟩
  unfold openv passv at h1
  rw [Bool.and_eq_true] at h1
  have h1 := h1.1
  refine decide_eq_true ?_
  split at h1
  · exact .inl ‹_›
  · split at h1
    · exact .inr (.inl ‹_›)
    · split at h1
      · exact .inr (.inr ‹_›)
      · cases h1
/-- The entrances as the reference collects them. -/
theorem line_ref (m : M3) (bl : List Bool) (c : Int) (o : B5) : lineE m bl c o = if classv c = true then (refG (crossA m bl c o) (crossG m bl c o) (bcells o o.n.toNat)).1 ++ pickv (refG (crossA m bl c o) (crossG m bl c o) (bcells o o.n.toNat)).2 else [] := by
  unfold lineE
  by_cases h : classv c = true
  · rw [if_pos h, runs_ref]
  · rw [if_neg h]
    have hA : ∀ x, crossA m bl c o x = false := fun x => Bool.eq_false_iff.2 fun e => h (may_num e).1
    have : ∀ xs : List PP, xs.foldl (runStep (crossA m bl c o) (crossG m bl c o)) ([], false) = ([], false) := fun xs => by
      induction xs with
      | nil => rfl
      | cons x xs ih => rw [List.foldl_cons]; unfold runStep; rw [hA, if_neg Bool.false_ne_true]; exact ih
    unfold runsG
    rw [this]
    rfl
theorem flat_len (L : List (List PP)) (n : Nat) (h : L.length ≤ n) : (L.flatMap pickv).length ≤ 2 * n := by
  induction L generalizing n with
  | nil => simp
  | cons R L ih =>
    rw [List.flatMap_cons, List.length_append]
    have := pickv_len R
    have := ih (n - 1) (by rw [List.length_cons] at h; omega)
    rw [List.length_cons] at h
    omega
/-- Each entrance is a crossing. -/
theorem line_sound {bl : List Bool} {c : Int} (ha : exv m a = true) (hb : exv m b = true) (h : BordOk (arv m a) (arv m b) o) {x : PP} (hx : x ∈ lineE m bl c o) :
    mayv m bl c x.1.1 x.1.2 o.ac = true ∧ x.2 = (stx x.1.1 o.ac, sty x.1.2 o.ac) ∧ insv (arv m a) x.1.1 x.1.2 = true ∧ insv (arv m b) x.2.1 x.2.2 = true := by
  obtain ⟨t, ht, rfl, hA⟩ := entr_cross hx
  have hn := h.n1
  have hk : (t : Int) < o.n := by omega
  obtain ⟨h1, h2⟩ := bcell_in ha hb h hk
  exact ⟨hA, rfl, h1, h2⟩
/-- .. and from each crossing one can go to an entrance, on both sides. -/
theorem line_joins {bl : List Bool} {c : Int} (ha : exv m a = true) (hb : exv m b = true) (h : BordOk (arv m a) (arv m b) o) {p : Pt} (hp : insv (arv m a) p.1 p.2 = true) (hq : insv (arv m b) (stx p.1 o.ac) (sty p.2 o.ac) = true) (hm : mayv m bl c p.1 p.2 o.ac = true) :
    ∃ x ∈ lineE m bl c o, InReach m bl c a p x.1 ∧ InReach m bl c b (stx p.1 o.ac, sty p.2 o.ac) x.2 := by
  have hf := valid_formed (ex_valid ha).1
  have hn1 := h.n1
  have hn8 := h.n8
  obtain ⟨k, hk, hk8, ek⟩ := bcell_all ha hb h hp hq
  obtain ⟨J, hJ⟩ : ∃ J : Nat → Nat → Prop, J = fun i j => Conn (nbc m bl c a) (cix m a (bcell o i).1) (cix m a (bcell o j).1) ∧ Conn (nbc m bl c b) (cix m b (bcell o i).2) (cix m b (bcell o j).2) := ⟨_, rfl⟩
  have hA : crossA m bl c o (bcell o k) = true := by rw [ek]; exact hm
  obtain ⟨u, hu, hx, hA2, hj⟩ := entr_join (A := crossA m bl c o) (G := crossG m bl c o) (f := bcell o) (k := o.n.toNat) J (fun i => by rw [hJ]; exact ⟨.refl _, .refl _⟩) (fun i j => by rw [hJ]; exact fun q => ⟨q.1.symm (cls_nb ha bl c), q.2.symm (cls_nb hb bl c)⟩)
    (fun i j l => by rw [hJ]; exact fun q q' => ⟨q.1.trans q'.1, q.2.trans q'.2⟩)
    (fun i hi _ _ hg => by
      rw [hJ]
      unfold crossG at hg
      rw [Bool.and_eq_true] at hg
      obtain ⟨n1, n2⟩ := bcell_next ha hb h (k := i) (by omega)
      obtain ⟨i1, i2⟩ := bcell_in ha hb h (k := i) (by omega)
      obtain ⟨j1, j2⟩ := bcell_in ha hb h (k := i + 1) (by omega)
      have hd : ∃ d : Nat, o.al = d ∧ d < 8 := by
        rcases h.xy with ⟨_, q, _⟩ | ⟨_, q, _⟩
        · exact ⟨2, q, by omega⟩
        · exact ⟨0, q, by omega⟩
      obtain ⟨d, hd, hd8⟩ := hd
      rw [hd] at hg n1 n2
      rw [n1] at j1 ⊢
      rw [n2] at j2 ⊢
      exact ⟨⟨_, (part_step (ar_ok ha) hf bl c i1 hd8 hg.1 j1 |> Way.one)⟩, ⟨_, (part_step (ar_ok hb) hf bl c i2 hd8 hg.2 j2 |> Way.one)⟩⟩)
    (by omega) hA (fun i j hi hj e => bcell_inj ha hb h (by omega) (by omega) e)
  rw [hJ] at hj
  obtain ⟨h1, h2⟩ := bcell_in ha hb h (k := u) (by omega)
  obtain ⟨m1, m2, m3, m4⟩ := may_num hm
  rw [ek] at hj
  exact ⟨bcell o u, hx, ⟨ha, m1, hp, h1, m2, hj.1⟩, ⟨hb, m1, hq, h2, m3, hj.2⟩⟩

end

end Go.Proofs.YtpgchjhfhndaaaaGreatDoor
