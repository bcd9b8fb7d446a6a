/-
  What the reference of occupy answers: Spots.
-/
import Derived.Test.YtoodnblhjopnlaaDoorOcRc
import Derived.Deep.Upon
import Derived.Deep.AppendSrc
namespace Go.Proofs.YtoodnblhjopnlaaDoor
open Go.RowKit Go.Lib

section
variable {P : Program} {rest : List Oper} {ops : Array Oper} {o : Oper} {a : Act} {w : World} {Q : Exit → Act → World → Prop}
/-- An append, by its run. -/
theorem ocapp_run (hg : o.guard = none) (s x : Operand) (t : TypeId) (ho : o.op = .call { callee := .builtin .append, args := #[s, x], argTypes := #[t, t] }) (v y v' : Value) (w' : World) (hs : a.eval s = v) (hx : a.eval x = y)
    (hrun : (Builtin.append_ #[t, t] o.type #[v, y]).run P w = .ok v' w') (h : wpList P ops Q rest (a.put o.dst v') w') : wpList P ops Q (o :: rest) a w :=
  wpList_plain hg fun K hK => by
    unfold Oper.wp execOp
    simp only [ho, resolve, invoke, builtin, Sem.run_bind, Sem.run_pure, Result.andThen_ok, List.map_toArray, List.map_cons, List.map_nil, hs, hx, hrun]
    exact hK _ _ h
/-- A slice taken, by its run. -/
theorem ocsl_h (hg : o.guard = none) (t : TypeId) (x y : Operand) (ho : o.op = .slice t x none (some y) none) (v u v' : Value) (hx : a.eval x = v) (hy : a.eval y = u) (hz : ∀ w, Sem.run P (Instr.sliceAt t v none (some u) none) w = .ok v' w)
    (h : wpList P ops Q rest (a.put o.dst v') w) : wpList P ops Q (o :: rest) a w :=
  wpList_plain hg fun K hK => by
    unfold Oper.wp execOp
    simp only [ho, hx, hy, Option.map_some, Option.map_none, Sem.run_bind, Result.andThen_ok, hz]
    exact hK _ _ h
theorem ocsl_l (hg : o.guard = none) (t : TypeId) (x y : Operand) (ho : o.op = .slice t x (some y) none none) (v u v' : Value) (hx : a.eval x = v) (hy : a.eval y = u) (hz : ∀ w, Sem.run P (Instr.sliceAt t v (some u) none none) w = .ok v' w)
    (h : wpList P ops Q rest (a.put o.dst v') w) : wpList P ops Q (o :: rest) a w :=
  wpList_plain hg fun K hK => by
    unfold Oper.wp execOp
    simp only [ho, hx, hy, Option.map_some, Option.map_none, Sem.run_bind, Result.andThen_ok, hz]
    exact hK _ _ h
end
/-- Positions that are only read, put behind positions that the call owns. -/
theorem appP_read {w : World} {B c n : Nat} {v : Value} {a : Option Addr} {L K : List (Int × Int)} (h : w.ownsRow B 42 2 v L.length (pcells L)) (k : PosAt w (.slice a n c) K) (hn : K.length = n) (hB : B ≤ w.heap.size) (hs : L.length + K.length ≤ 100000) (ty : TypeId) :
    ∃ v' w', (Builtin.append_ #[39, 39] ty #[v, .slice a n c]).run Tryd.prog w = .ok v' w' ∧ w'.ownsRow B 42 2 v' (L ++ K).length (pcells (L ++ K)) ∧ w.grownBy w' v.ownBlock := by
  subst hn
  obtain ⟨i0, hi0, hz0, hz1, hz2⟩ := info_cut infoPos
  have hap : pcells L ++ pcells K = pcells (L ++ K) := by unfold pcells; rw [List.flatMap_append]
  cases a with
  | none =>
    have hM : K = [] := by
      cases K with
      | nil => rfl
      | cons x K => obtain ⟨_, _, e, _⟩ := k.at (i := 0) (by simp); cases e
    subst hM
    rcases id h.2 with ⟨rfl, h0⟩ | ⟨g, cap, cur, rfl, -, -, hle, -, -, -⟩
    · have hl : L = [] := List.eq_nil_of_length_eq_zero h0
      subst hl
      exact ⟨_, w, run_append_nothing w 39 39 ty 42 i0 Tryd.underlying39 hi0 none 0 0 (Nat.le_refl _) _ (Src.ofNil w Tryd.underlying39 c), h, World.grownBy.refl _ _⟩
    · exact ⟨_, w, run_append_nothing w 39 39 ty 42 i0 Tryd.underlying39 hi0 _ L.length cap hle _ (Src.ofNil w Tryd.underlying39 c), by rw [List.append_nil]; exact h, World.grownBy.refl _ _⟩
  | some a =>
    have hal : 1 ≤ K.length → ∃ g o, a = ⟨g, o, none⟩ := fun h1 => by
      obtain ⟨g, o, e, _⟩ := k.at (i := 0) (by omega)
      injection e with e
      exact ⟨g, o, e⟩
    obtain ⟨v9, w9, hrun, ho9, hg9, -⟩ := run_append_own (P := Tryd.prog) w B 39 ty 42 i0 (.agg #[.int .i64 0, .int .i64 0]) 2 16 Tryd.underlying39 hi0 hz0 hz1 hz2 rfl (by decide) v L.length _ h a K.length c (pcells K) (pcells_size K)
      (fun j u hj => by
        have h1 : 1 ≤ K.length := by
          have := (List.getElem?_eq_some_iff.1 hj).1
          rw [pcells_size] at this
          omega
        obtain ⟨g, o, rfl⟩ := hal h1
        exact k.flat h1 j u hj) (pcells_lone K) (by unfold maxLen; omega) (by omega) hB
    exact ⟨_, w9, hrun, by rw [List.length_append, ← hap]; exact ho9, hg9⟩
theorem ins_splitP {f x : Int × Int} {l : List (Int × Int)} {k : Nat} (hk : k ≤ l.length) (h1 : ∀ j (h : j < l.length), k ≤ j → farv f x (l[j]'h) = true) (h2 : ∀ (h : k - 1 < l.length), 0 < k → farv f x (l[k - 1]'h) = false) : putS (farv f) l x = l.take k ++ [x] ++ l.drop k := by
  conv => lhs; rw [← List.take_append_drop k l]
  rw [putS_left (farv f) (fun y hy => by
    obtain ⟨j, hj, rfl⟩ := List.getElem_of_mem hy
    rw [List.getElem_drop]
    exact h1 _ _ (by omega))]
  congr 1
  unfold putS
  by_cases h0 : k = 0
  · subst h0
    rfl
  · obtain ⟨m, rfl⟩ : ∃ m, k = m + 1 := ⟨k - 1, by omega⟩
    have hm : m < l.length := by omega
    rw [List.take_succ_eq_append_getElem hm, List.reverse_append, List.reverse_singleton, List.singleton_append]
    unfold insS
    rw [if_neg (by rw [show farv f x (l[m]'hm) = false from h2 hm (by omega)]; decide)]
    simp
theorem spots_next {m : M3} {bl : List Bool} {q : Int} {f : Int × Int} {A : List (Int × Int)} {i : Nat} (h : i < A.length) : mergS (farv f) [] ((A.take (i + 1)).filter (fun p => openv m bl q p.1 p.2)) = if openv m bl q (A[i]'h).1 (A[i]'h).2 = true then putS (farv f) (mergS (farv f) [] ((A.take i).filter (fun p => openv m bl q p.1 p.2))) (A[i]'h) else mergS (farv f) [] ((A.take i).filter (fun p => openv m bl q p.1 p.2)) := by
  rw [filter_next (fun p => openv m bl q p.1 p.2) A h, mergS_app]
  split
  · rfl
  · rfl
theorem own_shape2 {w : World} {B n k : Nat} {e : TypeId} {v : Value} {xs : List Value} (h : w.ownsRow B e k v n xs) : ∃ p c, v = .slice p n c ∧ n ≤ c ∧ c ≤ maxLen := by
  rcases id h.2 with ⟨rfl, rfl⟩ | ⟨g, cap, cur, rfl, -, -, h1, h2, -⟩
  · exact ⟨none, 0, rfl, Nat.le_refl _, Nat.zero_le _⟩
  · exact ⟨_, _, rfl, h1, h2⟩
theorem PosAt.take {W : World} {p : Option Addr} {n c k : Nat} {l : List (Int × Int)} (h : PosAt W (.slice p n c) l) (hk : k ≤ l.length) : PosAt W (.slice p (l.take k).length c) (l.take k) := by
  obtain ⟨p', c', e, hm, hat⟩ := h
  injection e with e1 e2 e3
  subst e1
  subst e3
  refine ⟨p, c, rfl, by rw [List.length_take]; omega, fun h1 => ?_⟩
  rw [List.length_take] at h1
  obtain ⟨g, o, hp, hg, hc⟩ := hat (by omega)
  refine ⟨g, o, hp, hg, fun i hi => ?_⟩
  have hi2 : i < l.length := by rw [List.length_take] at hi; omega
  have := hc i hi2
  rw [List.getElem_take]
  exact this
theorem PosAt.drop {W : World} {g o n c k : Nat} {l : List (Int × Int)} (h : PosAt W (.slice (some ⟨g, o, none⟩) n c) l) (hk : k ≤ l.length) : PosAt W (.slice (some ⟨g, o + k * 2, none⟩) (l.drop k).length (c - k)) (l.drop k) := by
  obtain ⟨p', c', e, hm, hat⟩ := h
  injection e with e1 e2 e3
  subst e1
  subst e3
  refine ⟨_, _, rfl, by rw [List.length_drop]; omega, fun h1 => ?_⟩
  rw [List.length_drop] at h1
  obtain ⟨g', o', hp, hg, hc⟩ := hat (by omega)
  injection hp with hp
  injection hp with hp1 hp2
  subst hp1
  subst hp2
  refine ⟨g, o + k * 2, rfl, hg, fun i hi => ?_⟩
  have hi2 : k + i < l.length := by rw [List.length_drop] at hi; omega
  have := hc (k + i) hi2
  rw [List.getElem_drop, show o + k * 2 + i * 2 = o + (k + i) * 2 by omega]
  exact this
theorem takeP {W : World} {p : Option Addr} {n c k : Nat} {l : List (Int × Int)} (h : PosAt W (.slice p n c) l) (hk : k ≤ l.length) (hc : l.length ≤ c) (_hb : c ≤ maxLen) :
    ∃ p', (∀ w, Sem.run Tryd.prog (Instr.sliceAt 39 (.slice p n c) none (some (.int .i64 k)) none) w = .ok (.slice p' k c) w) ∧ PosAt W (.slice p' k c) (l.take k) := by
  have hl : (l.take k).length = k := by rw [List.length_take]; omega
  refine ⟨p, fun w => ?_, by have := h.take hk; rwa [hl] at this⟩
  clear hl
  have hb := _hb; unfold maxLen at hb
  cases p with
  | none =>
    unfold Instr.sliceAt Instr.slice
    go_simp
    intro h9
    exfalso; omega
  | some a =>
    obtain ⟨g, o, sp⟩ := a
    have h1 : 1 ≤ l.length → sp = none := fun h1 => by
      obtain ⟨_, _, e, _⟩ := h.at (i := 0) (by omega)
      injection e with e
      injection e
    unfold Instr.sliceAt Instr.slice
    go_simp
    intro h9
    exfalso; omega
theorem dropP {W : World} {p : Option Addr} {n c k : Nat} {l : List (Int × Int)} (h : PosAt W (.slice p n c) l) (hk : k ≤ l.length) (hc : l.length ≤ c) (_hb : c ≤ maxLen) :
    ∃ p', (∀ w, Sem.run Tryd.prog (Instr.sliceAt 39 (.slice p n c) (some (.int .i64 k)) none none) w = .ok (.slice p' (n - k) (c - k)) w) ∧ PosAt W (.slice p' (n - k) (c - k)) (l.drop k) := by
  have hn : n = l.length := by obtain ⟨_, _, e, _⟩ := h; injection e
  have hl : n - k = (l.drop k).length := by rw [List.length_drop, hn]
  refine ⟨if c = k then p else p.map (·.add (k * 2)), fun w => ?_, ?_⟩
  · clear hl
    have hb := _hb; unfold maxLen at hb
    unfold Instr.sliceAt Instr.slice
    go_simp
  · rw [hl]
    by_cases hck : c = k
    · rw [if_pos hck]
      have he : l.drop k = [] := List.drop_eq_nil_of_le (by omega)
      rw [he]
      exact ⟨p, _, rfl, Nat.zero_le _, fun h => by simp at h⟩
    · rw [if_neg hck]
      cases p with
      | none =>
        have he : l = [] := by
          cases l with
          | nil => rfl
          | cons x l => obtain ⟨_, _, e, _⟩ := h.at (i := 0) (by simp); cases e
        subst he
        rw [List.drop_nil]
        exact ⟨none, _, rfl, Nat.zero_le _, fun h => by simp at h⟩
      | some a =>
        by_cases h0 : l.length = 0
        · have he : l = [] := List.eq_nil_of_length_eq_zero h0
          subst he
          rw [List.drop_nil]
          exact ⟨_, _, rfl, Nat.zero_le _, fun h => by simp at h⟩
        · obtain ⟨g, o, e, _⟩ := h.at (i := 0) (by omega)
          injection e with e
          subst e
          show PosAt W (.slice (some (Addr.add ⟨g, o, none⟩ (k * 2))) _ _) _
          rw [Addr.add_lit]
          exact h.drop hk
theorem own_empty (Z : World) : (Z.alloc (.cells #[] 42)).ownsRow Z.heap.size 42 2 (.slice (some ⟨Z.heap.size, 0, none⟩) 0 0) 0 (pcells []) := by
  refine ⟨rfl, .inr ⟨Z.heap.size, 0, #[], rfl, Nat.le_refl _, ?_, Nat.le_refl _, Nat.zero_le _, rfl, rfl⟩⟩
  have := Blk.new Z [] 42
  exact this
set_option maxHeartbeats 8000000 in
set_option maxRecDepth 100000 in
theorem rspots_b (m : M3) (s : Value) (bl : List Bool) (sb : Value) (q : Int) (f : Int × Int) (L : List (Int × Int)) (W : World) (hr : RowAt W s m.cs) (hl : BitsAt W sb bl) (e : Hid (spotsv m bl q f = L)) :
    Calls Tryd.prog 25 #[.agg #[.int .i64 m.w, .int .i64 m.h, s], sb, .int .i64 q, .agg #[.int .i64 f.1, .int .i64 f.2]] W fun e w' => ∃ v, e = .returned v ∧ w'.ownsRow W.heap.size 42 2 v L.length (pcells L) ∧ Below W.heap.size W w' := by
  obtain ⟨z, hz⟩ : ∃ z, Hid (z = formedv m) := ⟨_, hid rfl⟩
  have cf := fun (w : World) (hb : Below W.heap.size W w) => rformed_b m s z w (hr.below hb) hz
  have hT := Held2.start W [.int .i64 m.w, .int .i64 m.h, s] [.int .i64 f.1, .int .i64 f.2] 24 42
  obtain ⟨_, _, _, _, _, _⟩ := hT.l.three; obtain ⟨_, _, _, _⟩ := hT.r.two
  cases z with
  | false =>
    have hL : L = [] := by rw [← e.out]; unfold spotsv; rw [allp_none hz.out.symm]; rfl
    subst hL
    go_enter Tryd.func25, Tryd.ntmps25
    go_wp2_with (go_at_call 26; with_reducible refine (cf _ hT.old).mono ?_; rintro e w1 ⟨rfl, hb⟩)
    go_ret
    exact ⟨_, rfl, World.ownsRow_nil _ _ _ _, below_call hT.old hb⟩
  | true =>
    have hf := hz.out.symm
    obtain ⟨A, hA⟩ : ∃ A, Hid (allp m = A) := ⟨_, hid rfl⟩
    have hAl : A.length ≤ 1024 := by rw [← hA.out]; exact all_le m
    have hAt : Hid (∀ i (h : i < A.length), A[i]'h = (atx m.w i, aty m.w i)) := hid (by rw [← hA.out]; exact fun i h => allp_at hf h)
    have hmul : IntKind.i64.wrap (m.w * m.h) = (A.length : Int) := by rw [← hA.out, allp_len hf]; exact formed_mul hf
    have hLL : Hid (mergS (farv f) [] (A.filter (fun p => openv m bl q p.1 p.2)) = L) := hid (by rw [← e.out, ← hA.out]; rfl)
    have cop := fun (x y : Int) (z : Bool) (w : World) (hb : Below W.heap.size W w) (e : Hid (z = openv m bl q x y)) => ropen_b m s bl sb q x y z w (hr.below hb) (hl.below hb) e
    have coc := fun (x y u v n : Int) (w : World) (e : Hid (n = octv x y u v)) => soct_n x y u v n w e
    clear e hr hz hf hA hl
    go_enter Tryd.func25, Tryd.ntmps25
    go_wp2_with (go_at_call 26; with_reducible refine (cf _ hT.old).mono ?_; rintro e V ⟨rfl, hb⟩; replace hT := hT.call hb; clear hb; obtain ⟨_, _, _, _, _, _⟩ := hT.l.three; obtain ⟨_, _, _, _⟩ := hT.r.two)
    clear cf
    have hT0 := hT.old.size
    go_loopw [9, 10] (fun vs vi wr => ∃ (i : Nat) (l : List (Int × Int)), vi = .int .i64 i ∧ i ≤ A.length ∧ l.length ≤ i ∧ wr.ownsRow V.heap.size 42 2 vs l.length (pcells l) ∧ Below V.heap.size V wr ∧ Hid (l = mergS (farv f) [] ((A.take i).filter (fun p => openv m bl q p.1 p.2)))) (fun _ vi _ => A.length - (RowKit.intOf vi).toNat)
    case atStart => exact ⟨0, [], rfl, by omega, by simp, World.ownsRow_nil _ _ _ _, Below.refl _ _, hid (by simp [mergS])⟩
    case round =>
      obtain ⟨i, l, rfl, hi, hli, hown, hV, hI⟩ := hrel
      replace hT := hT.call hV
      obtain ⟨_, _, _, _, _, _⟩ := hT.l.three; obtain ⟨_, _, _, _⟩ := hT.r.two
      by_cases hlt : i < A.length
      · have d1 : (i : Int) < A.length := by omega
        have hN := spots_next (m := m) (bl := bl) (q := q) (f := f) hlt
        rw [← hI.out, hAt.out i hlt] at hN
        obtain ⟨x, y, hxy⟩ : ∃ x y, Hid (x = atx m.w i ∧ y = aty m.w i) := ⟨_, _, hid ⟨rfl, rfl⟩⟩
        rw [← hxy.out.1, ← hxy.out.2] at hN
        have cat := fun (w : World) => sat_n m.w i x y w ⟨by omega, by omega⟩ hxy
        obtain ⟨z, hz'⟩ : ∃ z, Hid (z = openv m bl q x y) := ⟨_, hid rfl⟩
        have c1 := fun (w : World) (hb : Below W.heap.size W w) => cop x y z w hb hz'
        dsimp only at hN
        rw [← hz'.out] at hN
        replace hN := hid hN
        clear hxy hI hz' cop
        go_upto_region 8 with (go_at_call 36; with_reducible refine (cat _).mono ?_; rintro e w3 ⟨rfl, hb⟩; replace hown := own_below hown hb; replace hT := hT.call hb; replace hV := below_call hV hb; clear hb)
        have hX := Blk.new w3 [.int .i64 x, .int .i64 y] 42
        have hal := (Below.refl w3.heap.size w3).alloc (Nat.le_refl _) (.cells [Value.int .i64 x, .int .i64 y].toArray 42)
        replace hown := own_below hown hal
        replace hT := hT.call hal
        replace hV := below_call hV hal
        clear hal cat
        generalize w3.alloc (.cells [Value.int .i64 x, .int .i64 y].toArray 42) = X at *
        generalize w3.heap.size = bx at *
        obtain ⟨_, _, _, _, _, _⟩ := hT.l.three; obtain ⟨_, _, _, _⟩ := hT.r.two
        obtain ⟨_, _, _, _⟩ := hX.two
        cases z with
        | false =>
          go_wp2_with (go_at_call 27; with_reducible refine (c1 _ hT.old).mono ?_; rintro e w4 ⟨rfl, hb⟩; replace hown := own_below hown hb; replace hV := below_call hV hb; clear hb)
          go_roundw
          case rel => exact ⟨i + 1, l, by go_num, by omega, by omega, hown, hV, hid (by rw [hN.out]; simp)⟩
          case measure => simp [RowKit.intOf]; omega
        | true =>
          obtain ⟨p9, c9, rfl, hnc, hcm⟩ := own_shape2 hown
          go_wp2_with (go_at_call 27; with_reducible refine (c1 _ hT.old).mono ?_; rintro e w4 ⟨rfl, hb⟩; replace hown := own_below hown hb; replace hX := hX.below hb; replace hT := hT.call hb; replace hV := below_call hV hb; clear hb)
          have hPw := PosAt.any hown rfl (by unfold maxLen; omega)
          go_loopw [12] (fun vk wr => ∃ k : Nat, vk = .int .i64 k ∧ k ≤ l.length ∧ Below w4.heap.size w4 wr ∧ Hid (∀ j (h : j < l.length), k ≤ j → farv f (x, y) (l[j]'h) = true)) (fun vk _ => (RowKit.intOf vk).toNat)
          case atStart => exact ⟨l.length, rfl, Nat.le_refl _, Below.refl _ _, hid (fun j h h2 => absurd h (by omega))⟩
          case round =>
            obtain ⟨k, rfl, hk, hV2, hJ⟩ := hrel
            replace hown := own_below hown hV2
            replace hX := hX.below hV2
            replace hT := hT.call hV2
            replace hV := below_call hV hV2
            have hPr := hPw.below hV2
            obtain ⟨_, _, _, _, _, _⟩ := hT.l.three; obtain ⟨_, _, _, _⟩ := hT.r.two
            obtain ⟨_, _, _, _⟩ := hX.two
            have EXIT : (∀ (h : k - 1 < l.length), 0 < k → farv f (x, y) (l[k - 1]'h) = false) → Hid (mergS (farv f) [] ((A.take (i + 1)).filter (fun p => openv m bl q p.1 p.2)) = l.take k ++ [(x, y)] ++ l.drop k) := fun h2 => hid (by rw [hN.out]; simp only [if_true]; exact ins_splitP hk hJ.out h2)
            obtain ⟨pt, ht1, ht2⟩ := takeP hPr hk hnc hcm
            obtain ⟨pd, hd1, hd2⟩ := dropP hPr hk hnc hcm
            obtain ⟨nd, hnd⟩ : ∃ nd, Hid (nd = l.length - k) := ⟨_, hid rfl⟩
            obtain ⟨cd, hcd⟩ : ∃ cd, Hid (cd = c9 - k) := ⟨_, hid rfl⟩
            rw [← hnd.out, ← hcd.out] at hd1 hd2
            have hkl : (l.take k).length = k ∧ (l.drop k).length = l.length - k := by rw [List.length_take, List.length_drop]; omega
            by_cases h0 : k = 0
            · have hE := EXIT (fun _ h => absurd h (by omega))
              have z1 : decide ((0 : Int) < (k : Int)) = false := decide_eq_false (by omega)
              have p1 : ¬ 0 < k := by omega
              clear EXIT hJ hN h0
              go_upto_region 10 with fail
              go_quiet (fail)
              rename_i nq
              have hbq := below_many (Below.refl wr.heap.size wr) nq
              go_upto_region 12 with fail
              generalize wr.drewN nq = Z at *
              replace hown := own_below hown hbq
              replace hX := hX.below hbq
              replace hT := hT.call hbq
              replace hV := below_call hV hbq
              replace ht2 := ht2.below hbq
              replace hd2 := hd2.below hbq
              have hVZ := hV.size
              have hbX := hX.lt
              have hZ1 := (Below.refl Z.heap.size Z).alloc (Nat.le_refl _) (.cells #[] 42)
              obtain ⟨va, wa, hra, hoa, hga⟩ := appP_read (own_empty Z) (ht2.below hZ1) hkl.1 (by rw [World.size_alloc]; omega) (by rw [hkl.1]; simp; omega) 39
              have hZa : Below Z.heap.size Z wa := hZ1.grown hga (by rw [World.size_alloc]; omega) (fun j hj => ((own_empty Z).lt j hj).1)
              rw [List.nil_append] at hoa
              clear hga hZ1 hown
              go_upto_region 13 with (first | (refine ocsl_h rfl 39 (.tmp 56) (.tmp 57) rfl (.slice p9 l.length c9) (.int .i64 k) (.slice pt k c9) rfl rfl ht1 ?_) | (at_builtin; refine ocapp_run rfl (.tmp 55) (.tmp 58) 39 rfl (.slice (some ⟨Z.heap.size, 0, none⟩) 0 0) (.slice pt k c9) va wa rfl rfl hra ?_))
              clear hra ht1 ht2
              have hXa := hX.below hZa
              obtain ⟨_, _, _, _⟩ := hXa.two
              obtain ⟨i0, hi0, hz0, hz1, hz2⟩ := info_cut infoPos
              have hsa := hZa.size
              have htk := hkl.1
              go_upto_region 14 with (at_builtin; refine wpList_append_own _ rfl _ _ 39 rfl Z.heap.size 42 i0 (.agg #[.int .i64 0, .int .i64 0]) 2 16 Tryd.underlying39 hi0 hz0 hz1 hz2 rfl (by decide) _ _ _ rfl (hoa.alloc _) ⟨wa.heap.size, 0, none⟩ 1 1 [.int .i64 x, .int .i64 y] rfl rfl cells_new ints_lone (by unfold maxLen; omega) (by omega) (by simp; omega) ?_)
              intro vb wb hob hgb _
              have hZb := below_push (t := 42) hsa hZa hoa (Nat.le_refl _) hgb
              have hob2 := own_to hob (m := (l.take k ++ [(x, y)]).length) (ys := pcells (l.take k ++ [(x, y)])) (by have := hkl.1; simp only [List.length_append, List.length_cons, List.length_nil]; omega) ((pcells_snoc _ x y).trans (by first | rfl | (rw [h0]; rfl)))
              obtain ⟨vc, wc, hrc, hoc, hgc⟩ := appP_read hob2 (hd2.below hZb) (by rw [hkl.2]; exact hnd.out.symm) hZb.size (by rw [hkl.2]; simp; omega) 39
              have hZc : Below Z.heap.size Z wc := hZb.grown hgc hZb.size (fun j hj => (hob2.lt j hj).1)
              rw [← hE.out] at hoc
              have hlc : ((A.take (i + 1)).filter (fun p => openv m bl q p.1 p.2)).length ≤ i + 1 := Nat.le_trans (List.length_filter_le _ _) (by rw [List.length_take]; omega)
              have hV9 := below_call hV hZc
              clear hob hgb hoa hgc hob2 hZb hXa hX hT hE hkl htk
              go_wp2_with (first | (refine ocsl_l rfl 39 (.tmp 65) (.tmp 66) rfl (.slice p9 l.length c9) (.int .i64 k) (.slice pd nd cd) rfl rfl hd1 ?_) | (at_builtin; refine ocapp_run rfl (.tmp 64) (.tmp 67) 39 rfl vb (.slice pd nd cd) vc wc rfl rfl hrc ?_))
              go_roundw
              case rel => exact ⟨i + 1, _, by go_num, by omega, by rw [mergS_len]; simp; omega, own_base hoc hVZ, hV9, hid rfl⟩
              case measure => simp [RowKit.intOf]; omega
            · obtain ⟨kp, hkp⟩ : ∃ kp, k = kp + 1 := ⟨k - 1, by omega⟩
              have hkp' := hid hkp
              have z1 : decide ((0 : Int) < (k : Int)) = true := decide_eq_true (by omega)
              have p1 : 0 < k := by omega
              have p2 : ¬ k = 0 := by omega
              have p3 : ¬ (k : Int) = 0 := by omega
              have wk : IntKind.i64.wrap ((k : Int) - 1) = (kp : Int) := by rw [IntKind.wrap_i64]; omega
              have hkl2 : kp < l.length := by omega
              have y1 : (0 : Int) ≤ (kp : Int) := by omega
              have y2 : (kp : Int) < (l.length : Int) := by omega
              have y3 : kp ≤ l.length := by omega
              clear hkp h0
              obtain ⟨g, o, rfl, hg, q0, q1⟩ := hPr.at hkl2
              obtain ⟨n1, hn1⟩ : ∃ n, Hid (n = octv f.1 f.2 (l[kp]'hkl2).1 (l[kp]'hkl2).2) := ⟨_, hid rfl⟩
              obtain ⟨n2, hn2⟩ : ∃ n, Hid (n = octv f.1 f.2 x y) := ⟨_, hid rfl⟩
              have hfar : Hid (farv f (x, y) (l[kp]'hkl2) = decide (n2 < n1)) := hid (by rw [hn1.out, hn2.out]; unfold farv; rw [oct_turn x y, oct_turn (l[kp]'hkl2).1]) 
              have hY : Hid (n2 < n1 → ∀ j (h : j < l.length), kp ≤ j → farv f (x, y) (l[j]'h) = true) := hid (fun hlt j h hj => by
                by_cases e : kp = j
                · subst e; rw [hfar.out]; exact decide_eq_true hlt
                · exact hJ.out j h (by have := hkp'.out; omega))
              have hNo : Hid (¬ n2 < n1 → Hid (mergS (farv f) [] ((A.take (i + 1)).filter (fun p => openv m bl q p.1 p.2)) = l.take k ++ [(x, y)] ++ l.drop k)) := hid (fun hlt => EXIT (fun h _ => by
                have e : k - 1 = kp := by have := hkp'.out; omega
                subst e
                rw [hfar.out]; exact decide_eq_false hlt))
              have c3 := fun (w : World) => coc f.1 f.2 (l[kp]'hkl2).1 (l[kp]'hkl2).2 n1 w hn1
              have c4 := fun (w : World) => coc f.1 f.2 x y n2 w hn2
              generalize (l[kp]'hkl2).1 = lx at *
              generalize (l[kp]'hkl2).2 = ly at *
              have hkk := fun (w' : World) (hb : Below wr.heap.size wr w') => And.intro ((hX.below hb).cell 0) (And.intro ((hX.below hb).cell 1) (And.intro ((hT.r.below hb).cell 0) (And.intro ((hT.r.below hb).cell 1) (And.intro ((hb.cell (p := ⟨g, o + kp * 2, none⟩) hg).trans q0) ((hb.cell (p := ⟨g, o + kp * 2 + 1, none⟩) hg).trans q1)))))
              have hq := (Below.refl wr.heap.size wr).drew
              obtain ⟨_, _, _, _, _, _⟩ := hkk _ hq
              clear EXIT hJ hN hfar hn1 hn2 q0 q1
              go_upto_region 10 with fail
              go_region_held3 (fun w' => w'.cell? ⟨bx, 0, none⟩ = some (.int .i64 x) ∧ w'.cell? ⟨bx, 1, none⟩ = some (.int .i64 y) ∧ w'.cell? ⟨W.heap.size + 1, 0, none⟩ = some (.int .i64 f.1) ∧ w'.cell? ⟨W.heap.size + 1, 1, none⟩ = some (.int .i64 f.2) ∧ w'.cell? ⟨g, o + kp * 2, none⟩ = some (.int .i64 lx) ∧ w'.cell? ⟨g, o + kp * 2 + 1, none⟩ = some (.int .i64 ly))
                (exact hkk _ hq)
                (first
                  | (go_at_call 50; with_reducible refine (c3 _).mono ?_; rintro e w' ⟨rfl, hb⟩; replace hq := below_call hq hb; clear hb)
                  | (go_at_call 50; with_reducible refine (c4 _).mono ?_; rintro e w' ⟨rfl, hb⟩; replace hq := below_call hq hb; clear hb))
              clear hkk c3 c4
              by_cases hn : n2 < n1
              · have z2 : decide (n2 < n1) = true := decide_eq_true hn
                have hJ := hid (hY.out hn)
                have hV9 := below_call hV2 hq
                clear hY hNo hown hX hT hV hV2 hPr hq ht1 ht2 hd1 hd2
                go_wp2_with fail
                go_roundw
                case rel => exact ⟨kp, rfl, y3, hV9, hJ⟩
                case measure => have := hkp'.out; simp [RowKit.intOf]; omega
              · have z2 : decide (n2 < n1) = false := decide_eq_false hn
                have hE := hNo.out (by omega)
                clear hY hNo
                go_upto_region 12 with fail
                have hbq := hq
                generalize w' = Z at *
                replace hown := own_below hown hbq
                replace hX := hX.below hbq
                replace hT := hT.call hbq
                replace hV := below_call hV hbq
                replace ht2 := ht2.below hbq
                replace hd2 := hd2.below hbq
                have hVZ := hV.size
                have hbX := hX.lt
                have hZ1 := (Below.refl Z.heap.size Z).alloc (Nat.le_refl _) (.cells #[] 42)
                obtain ⟨va, wa, hra, hoa, hga⟩ := appP_read (own_empty Z) (ht2.below hZ1) hkl.1 (by rw [World.size_alloc]; omega) (by rw [hkl.1]; simp; omega) 39
                have hZa : Below Z.heap.size Z wa := hZ1.grown hga (by rw [World.size_alloc]; omega) (fun j hj => ((own_empty Z).lt j hj).1)
                rw [List.nil_append] at hoa
                clear hga hZ1 hown
                go_upto_region 13 with (first | (refine ocsl_h rfl 39 (.tmp 56) (.tmp 57) rfl (.slice (some ⟨g, o, none⟩) l.length c9) (.int .i64 k) (.slice pt k c9) rfl rfl ht1 ?_) | (at_builtin; refine ocapp_run rfl (.tmp 55) (.tmp 58) 39 rfl (.slice (some ⟨Z.heap.size, 0, none⟩) 0 0) (.slice pt k c9) va wa rfl rfl hra ?_))
                clear hra ht1 ht2
                have hXa := hX.below hZa
                obtain ⟨_, _, _, _⟩ := hXa.two
                obtain ⟨i0, hi0, hz0, hz1, hz2⟩ := info_cut infoPos
                have hsa := hZa.size
                have htk := hkl.1
                go_upto_region 14 with (at_builtin; refine wpList_append_own _ rfl _ _ 39 rfl Z.heap.size 42 i0 (.agg #[.int .i64 0, .int .i64 0]) 2 16 Tryd.underlying39 hi0 hz0 hz1 hz2 rfl (by decide) _ _ _ rfl (hoa.alloc _) ⟨wa.heap.size, 0, none⟩ 1 1 [.int .i64 x, .int .i64 y] rfl rfl cells_new ints_lone (by unfold maxLen; omega) (by omega) (by simp; omega) ?_)
                intro vb wb hob hgb _
                have hZb := below_push (t := 42) hsa hZa hoa (Nat.le_refl _) hgb
                have hob2 := own_to hob (m := (l.take k ++ [(x, y)]).length) (ys := pcells (l.take k ++ [(x, y)])) (by have := hkl.1; simp only [List.length_append, List.length_cons, List.length_nil]; omega) ((pcells_snoc _ x y).trans (by first | rfl | (rw [h0]; rfl)))
                obtain ⟨vc, wc, hrc, hoc, hgc⟩ := appP_read hob2 (hd2.below hZb) (by rw [hkl.2]; exact hnd.out.symm) hZb.size (by rw [hkl.2]; simp; omega) 39
                have hZc : Below Z.heap.size Z wc := hZb.grown hgc hZb.size (fun j hj => (hob2.lt j hj).1)
                rw [← hE.out] at hoc
                have hlc : ((A.take (i + 1)).filter (fun p => openv m bl q p.1 p.2)).length ≤ i + 1 := Nat.le_trans (List.length_filter_le _ _) (by rw [List.length_take]; omega)
                have hV9 := below_call hV hZc
                clear hob hgb hoa hgc hob2 hZb hXa hX hT hE hkl htk
                go_wp2_with (first | (refine ocsl_l rfl 39 (.tmp 65) (.tmp 66) rfl (.slice (some ⟨g, o, none⟩) l.length c9) (.int .i64 k) (.slice pd nd cd) rfl rfl hd1 ?_) | (at_builtin; refine ocapp_run rfl (.tmp 64) (.tmp 67) 39 rfl vb (.slice pd nd cd) vc wc rfl rfl hrc ?_))
                go_roundw
                case rel => exact ⟨i + 1, _, by go_num, by omega, by rw [mergS_len]; simp; omega, own_base hoc hVZ, hV9, hid rfl⟩
                case measure => simp [RowKit.intOf]; omega
      · obtain rfl : i = A.length := by omega
        have hl9 : l = L := by have := hI.out; rw [List.take_length] at this; exact this.trans hLL.out
        subst hl9
        go_wp2_with fail
        go_ret
        exact ⟨_, rfl, own_base hown hT0, hT.old⟩

end Go.Proofs.YtoodnblhjopnlaaDoor
