/-
  Rules as text: a text that is parsed without an error is the text of the rules. No program is named here; What the reference of rules answers: typed.
-/
import Derived.Test.YtnjcdmjaecgblaaGreatDoorX05
namespace Go.Proofs.YtnjcdmjaecgblaaGreatDoor
section
open Go.RowKit Go.Lib
set_option maxRecDepth 100000 in
theorem ofU_other (u : U9) (f g : ByteArray) (v : V10) (hf : f ∈ fieldsv 1) (hg : g ∈ fieldsv 1) (hne : ¬ g = f) : ofUv (withUv u f v) g = ofUv u g := by
 rw [fieldsU] at hf hg
 simp only [List.mem_cons, List.not_mem_nil, or_false] at hf hg
 rcases hf with rfl | rfl | rfl | rfl | rfl | rfl | rfl | rfl | rfl | rfl | rfl | rfl | rfl | rfl | rfl | rfl | rfl | rfl <;> rcases hg with rfl | rfl | rfl | rfl | rfl | rfl | rfl | rfl | rfl | rfl | rfl | rfl | rfl | rfl | rfl | rfl | rfl | rfl <;> first | rfl | exact absurd rfl hne
set_option maxRecDepth 100000 in
theorem ofW_other (u : W9) (f g : ByteArray) (v : V10) (hf : f ∈ fieldsv 2) (hg : g ∈ fieldsv 2) (hne : ¬ g = f) : ofWv (withWv u f v) g = ofWv u g := by
 rw [fieldsW] at hf hg
 simp only [List.mem_cons, List.not_mem_nil, or_false] at hf hg
 rcases hf with rfl | rfl | rfl | rfl | rfl <;> rcases hg with rfl | rfl | rfl | rfl | rfl <;> first | rfl | exact absurd rfl hne
set_option maxRecDepth 100000 in
theorem ofT_other (u : T9) (f g : ByteArray) (v : V10) (hf : f ∈ fieldsv 3) (hg : g ∈ fieldsv 3) (hne : ¬ g = f) : ofTv (withTv u f v) g = ofTv u g := by
 rw [fieldsT] at hf hg
 simp only [List.mem_cons, List.not_mem_nil, or_false] at hf hg
 rcases hf with rfl | rfl | rfl | rfl | rfl | rfl | rfl <;> rcases hg with rfl | rfl | rfl | rfl | rfl | rfl | rfl <;> first | rfl | exact absurd rfl hne
def InvP (p : P10) (ls : List (List UInt8)) : Prop :=
 (p.k = 0 ∧ p.d = 0 ∧ p.r = R9.zero ∧ ls = []) ∨
 (p.k = 1 ∧ p.d ≤ (fieldsv 1).length ∧ ∃ us x, p.r = ⟨us ++ [x], [], []⟩ ∧ ls = linesU us ++ (elemL 1 x.nm (ofUv x)).take (1 + p.d)) ∨
 (p.k = 2 ∧ p.d ≤ (fieldsv 2).length ∧ ∃ us ws x, p.r = ⟨us, ws ++ [x], []⟩ ∧ ls = (linesU us ++ linesW ws) ++ (elemL 2 x.nm (ofWv x)).take (1 + p.d)) ∨
 (p.k = 3 ∧ p.d ≤ (fieldsv 3).length ∧ ∃ us ws ts x, p.r = ⟨us, ws, ts ++ [x]⟩ ∧ ls = (linesU us ++ linesW ws ++ linesT ts) ++ (elemL 3 x.nm (ofTv x)).take (1 + p.d))
theorem InvP.full {p : P10} {ls : List (List UInt8)} (h : InvP p ls) (hd : p.d = (fieldsv p.k).length) : ls = rulesL p.r ∧ (p.k ≤ 1 → p.r.ws = []) ∧ (p.k ≤ 2 → p.r.ts = []) := by
 rcases h with ⟨hk, -, hr, rfl⟩ | ⟨hk, -, us, x, hr, rfl⟩ | ⟨hk, -, us, ws, x, hr, rfl⟩ | ⟨hk, -, us, ws, ts, x, hr, rfl⟩
 · rw [hr]
   exact ⟨rfl, fun _ => rfl, fun _ => rfl⟩
 · rw [hk] at hd
   rw [hr, take_full hd, rulesL_eq, linesU_app, linesU_one]
   exact ⟨by simp [linesW, linesT], fun _ => rfl, fun _ => rfl⟩
 · rw [hk] at hd
   rw [hr, take_full hd, rulesL_eq, linesW_app, linesW_one]
   exact ⟨by simp [linesT], fun q => by omega, fun _ => rfl⟩
 · rw [hk] at hd
   rw [hr, take_full hd, rulesL_eq, linesT_app, linesT_one]
   exact ⟨by simp, fun q => by omega, fun q => by omega⟩
theorem line_field {k : Int} {f : ByteArray} {s t : List UInt8} {v : V10} {val : ByteArray → V10} (hs : stripB (32 :: (f.toList ++ [32])) t = some s) (hr : readv (typev k f) s = some v) (hv : val f = v) : t = fieldL k val f := by
 have h1 := (strip_iff _ _ _).1 hs
 unfold fieldL
 rw [hv, read_text hr, h1]
 simp
theorem InvP.step {p q : P10} {t : List UInt8} {ls : List (List UInt8)} (h : InvP p ls) (hl : lineP p t = some q) : InvP q (ls ++ [t]) := by
 unfold lineP at hl
 by_cases hd : p.d = (fieldsv p.k).length
 · rw [if_pos hd] at hl
   obtain ⟨hL, hw, ht⟩ := h.full hd
   cases hf : firstL t with
   | none => rw [hf] at hl; cases hl
   | some kn =>
    obtain ⟨k, nm⟩ := kn
    rw [hf] at hl
    dsimp only at hl
    by_cases hk : k < p.k
    · rw [if_pos hk] at hl; cases hl
    rw [if_neg hk] at hl
    injection hl with hl
    subst hl
    obtain ⟨hk3, -, rfl⟩ := first_some hf
    have hr9 : p.r = ⟨p.r.us, p.r.ws, p.r.ts⟩ := rfl
    rcases hk3 with rfl | rfl | rfl
    · have w0 := hw (by omega)
      have t0 := ht (by omega)
      refine .inr (.inl ⟨rfl, Nat.zero_le _, p.r.us, { U9.zero with nm := toB nm }, ?_, ?_⟩)
      · show (⟨p.r.us ++ [{ U9.zero with nm := toB nm }], p.r.ws, p.r.ts⟩ : R9) = _
        rw [w0, t0]
      · rw [hL, rulesL_eq, w0, t0, take_head, toB_list]
        simp [linesW, linesT]
    · have t0 := ht (by omega)
      refine .inr (.inr (.inl ⟨rfl, Nat.zero_le _, p.r.us, p.r.ws, { W9.zero with nm := toB nm }, ?_, ?_⟩))
      · show (⟨p.r.us, p.r.ws ++ [{ W9.zero with nm := toB nm }], p.r.ts⟩ : R9) = _
        rw [t0]
      · rw [hL, rulesL_eq, t0, take_head, toB_list]
        simp [linesT]
    · refine .inr (.inr (.inr ⟨rfl, Nat.zero_le _, p.r.us, p.r.ws, p.r.ts, { T9.zero with nm := toB nm }, rfl, ?_⟩))
      rw [hL, rulesL_eq, take_head, toB_list]
 · rw [if_neg hd] at hl
   cases hs : stripB (32 :: (((fieldsv p.k).getD p.d ⟨#[]⟩).toList ++ [32])) t with
   | none => rw [hs] at hl; cases hl
   | some s =>
   rw [hs] at hl
   dsimp only at hl
   cases hv : readv (typev p.k ((fieldsv p.k).getD p.d ⟨#[]⟩)) s with
   | none => rw [hv] at hl; cases hl
   | some v =>
   rw [hv] at hl
   dsimp only at hl
   injection hl with hl
   rcases h with ⟨hk, h0, -, -⟩ | ⟨hk, hle, us, x, hr, rfl⟩ | ⟨hk, hle, us, ws, x, hr, rfl⟩ | ⟨hk, hle, us, ws, ts, x, hr, rfl⟩
   · exact absurd (by rw [h0, hk]; rfl) hd
   · rw [hk] at hd hs hv hl
     have hlt : p.d < (fieldsv 1).length := by omega
     obtain ⟨f, hf⟩ : ∃ f, (fieldsv 1)[p.d]'hlt = f := ⟨_, rfl⟩
     have hg : (fieldsv 1).getD p.d ⟨#[]⟩ = f := by rw [List.getD_eq_getElem?_getD, List.getElem?_eq_getElem hlt]; exact hf
     have hm : f ∈ fieldsv 1 := hf ▸ List.getElem_mem hlt
     rw [hg] at hs hv hl
     have hso := read_sort (sort_one f) (show readv (sortv f) s = some v by rw [← type_in hm]; exact hv)
     subst hl
     refine .inr (.inl ⟨rfl, by dsimp only; omega, us, withUv x f v, ?_, ?_⟩)
     · rw [hr]
       exact lastU ⟨us, [], []⟩ x f v
     · rw [withU_nm, elem_next hlt hf fun g hg2 hne => ofU_other x f g v hm hg2 hne, ← List.append_assoc, ← line_field hs hv (ofU_with x f v hm hso)]
   · rw [hk] at hd hs hv hl
     have hlt : p.d < (fieldsv 2).length := by omega
     obtain ⟨f, hf⟩ : ∃ f, (fieldsv 2)[p.d]'hlt = f := ⟨_, rfl⟩
     have hg : (fieldsv 2).getD p.d ⟨#[]⟩ = f := by rw [List.getD_eq_getElem?_getD, List.getElem?_eq_getElem hlt]; exact hf
     have hm : f ∈ fieldsv 2 := hf ▸ List.getElem_mem hlt
     rw [hg] at hs hv hl
     have hso := read_sort (sort_one f) (show readv (sortv f) s = some v by rw [← type_in hm]; exact hv)
     subst hl
     refine .inr (.inr (.inl ⟨rfl, by dsimp only; omega, us, ws, withWv x f v, ?_, ?_⟩))
     · rw [hr]
       exact lastW ⟨us, ws, []⟩ x f v
     · rw [withW_nm, elem_next hlt hf fun g hg2 hne => ofW_other x f g v hm hg2 hne, ← List.append_assoc, ← line_field hs hv (ofW_with x f v hm hso)]
   · rw [hk] at hd hs hv hl
     have hlt : p.d < (fieldsv 3).length := by omega
     obtain ⟨f, hf⟩ : ∃ f, (fieldsv 3)[p.d]'hlt = f := ⟨_, rfl⟩
     have hg : (fieldsv 3).getD p.d ⟨#[]⟩ = f := by rw [List.getD_eq_getElem?_getD, List.getElem?_eq_getElem hlt]; exact hf
     have hm : f ∈ fieldsv 3 := hf ▸ List.getElem_mem hlt
     rw [hg] at hs hv hl
     have hso := read_sort (sort_one f) (show readv (sortv f) s = some v by rw [← type_in hm]; exact hv)
     subst hl
     refine .inr (.inr (.inr ⟨rfl, by dsimp only; omega, us, ws, ts, withTv x f v, ?_, ?_⟩))
     · rw [hr]
       exact lastT ⟨us, ws, ts⟩ x f v
     · rw [withT_nm, elem_next hlt hf fun g hg2 hne => ofT_other x f g v hm hg2 hne, ← List.append_assoc, ← line_field hs hv (ofT_with x f v hm hso)]
theorem InvP.all : ∀ (ls done : List (List UInt8)) (p q : P10) (n m : Nat), InvP p done → goP p n ls = (q, m, true) → InvP q (done ++ ls)
 | [], done, p, q, n, m, h, e => by
  rw [goP_nil] at e
  injection e with e _
  subst e
  rw [List.append_nil]
  exact h
 | t :: ls, done, p, q, n, m, h, e => by
  cases hl : lineP p t with
  | none =>
   rw [goP_none hl] at e
   injection e with _ e
   injection e with _ e
   cases e
  | some p2 =>
   rw [goP_some hl] at e
   have := InvP.all ls (done ++ [t]) p2 q (n + 1) m (h.step hl) e
   rw [List.append_assoc] at this
   exact this
theorem print_parse10 {s : List UInt8} {r : R9} {i : Int} (h : parsev10 s = (r, i, 0)) : valv r = 0 ∧ joinT (rulesL r) = s ∧ i = 0 := by
 unfold parsev10 at h
 split at h
 · injection h with _ h
   injection h with _ h
   cases h
 obtain ⟨⟨q, m, b⟩, hg⟩ : ∃ z, goP ⟨0, 0, R9.zero⟩ 1 (linesB s) = z := ⟨_, rfl⟩
 rw [hg] at h
 dsimp only at h
 split at h
 · injection h with _ h
   injection h with _ h
   cases h
 rename_i hc
 simp only [not_or] at hc
 obtain ⟨c1, c2, c3⟩ := hc
 have hb : b = true := by cases b with
  | true => rfl
  | false => exact absurd rfl c1
 subst hb
 have ht : tailB s = [] := Classical.not_not.1 c2
 have hi := InvP.all (linesB s) [] _ _ _ _ (.inl ⟨rfl, rfl, rfl, rfl⟩) hg
 rw [List.nil_append] at hi
 have hfull : q.d = (fieldsv q.k).length := by
  rcases hi with ⟨hk, h0, -, -⟩ | ⟨hk, hle, -⟩ | ⟨hk, hle, -⟩ | ⟨hk, hle, -⟩
  · rw [h0, hk]; rfl
  · rw [hk] at c3 ⊢; omega
  · rw [hk] at c3 ⊢; omega
  · rw [hk] at c3 ⊢; omega
 split at h
 · rename_i hv
   injection h with h1 h2
   injection h2 with h2 _
   subst h1 h2
   refine ⟨hv, ?_, rfl⟩
   have hL := (hi.full hfull).1
   have hj := text_join s
   rw [ht, List.append_nil, hL] at hj
   exact hj.symm
 · rename_i hv
   injection h with _ h
   injection h with _ h
   exact absurd h hv
end
section
open Go.RowKit Go.Lib
def trn1 (r : R9) (b : Bool) (s : ByteArray) : Bool := ((unitv r s).getD U9.zero).bld != b
def typ1 (r : R9) (u : U9) : Bool := neededv r u.needs && (u.bld || u.ress.isEmpty) && u.trains.all (trn1 r u.bld)
def typ2 (r : R9) (t : T9) : Bool := neededv r t.needs
theorem typedv_eq (r : R9) : typedv r = (r.us.all (typ1 r) && r.ts.all (typ2 r)) := rfl
set_option maxHeartbeats 8000000 in
set_option maxRecDepth 100000 in
theorem r9typed_b (su sw st : Value) (r : R9) (b : Bool) (W : World) (hR : RAt W su sw st r) (e : Hid (b = typedv r)) :
 Calls Tryz.prog 48 #[.agg #[su, sw, st]] W fun e w' => e = .returned (.bool b) ∧ Below W.heap.size W w' := by
 replace e := hid (e.out.trans (typedv_eq r))
 have hR0 := hid hR
 obtain ⟨p, c, rfl, hm, hat⟩ := hR.u
 obtain ⟨p1, c1, rfl, hm1, hat1⟩ := hR.w
 obtain ⟨p2, c2, rfl, hm2, hat2⟩ := hR.t
 have hB := Blk.new W [.slice p r.us.length c, .slice p1 r.ws.length c1, .slice p2 r.ts.length c2] 31
 have hL := (Below.refl W.heap.size W).alloc (Nat.le_refl _) (.cells [.slice p r.us.length c, .slice p1 r.ws.length c1, .slice p2 r.ts.length c2].toArray 31)
 unfold maxLen at hm hm1 hm2
 have hR1 := hR.below hL
 clear hR
 go_enter Tryz.func48, Tryz.ntmps48
 go_wp2_with fail
 generalize W.alloc (.cells [.slice p r.us.length c, .slice p1 r.ws.length c1, .slice p2 r.ts.length c2].toArray 31) = V at *
 clear hR1
 go_loopw [3] (fun vi wr => ∃ i : Nat, vi = .int .i64 i ∧ i ≤ r.us.length ∧ Blk wr W.heap.size [.slice p r.us.length c, .slice p1 r.ws.length c1, .slice p2 r.ts.length c2] 31 ∧ Below W.heap.size W wr ∧ Hid ((r.us.take i).all (typ1 r) = true)) (fun vi _ => r.us.length - (RowKit.intOf vi).toNat)
 case atStart => exact ⟨0, rfl, by omega, hB, hL, hid rfl⟩
 case round =>
  clear hB hL
  obtain ⟨i, rfl, hi, hB, hL, hA⟩ := hrel
  obtain ⟨_, _, _, _, _, _⟩ := hB.three
  by_cases hlt : i < r.us.length
  · have d1 : (i : Int) < r.us.length := by omega
    have d0 : (0 : Int) ≤ i := by omega
    obtain ⟨g, o, rfl, hc⟩ := hat (by omega)
    obtain ⟨vs, hU, hcs⟩ := (hc i hlt).ul
    have kl := hid ((hcs.below' (hcs.lt' hU.name) hL).loads (P := Tryz.prog) hU.len)
    obtain ⟨pn, cn, pt, ct, pr, cr, hvs, s1, s2, s3⟩ := hU.lists
    have l1 := s1.small
    have l2 := s2.small
    have l3 := s3.small
    have HN := fun q => hid (allp_take (f := typ1 r) hlt hA.out q)
    have HY := fun q => hid (allp_no (f := typ1 r) hlt q)
    have hU' := hid hU
    obtain ⟨u, hu⟩ : ∃ u, r.us[i]'hlt = u := ⟨_, rfl⟩
    rw [hu] at HN HY hU' hvs s1 s2 s3 l1 l2 l3
    have hZ := Blk.new wr vs 53
    have v1 : vs[1]? = some (.bool u.bld) := by rw [hvs]; rfl
    have v16 : vs[16]? = some (.slice pn u.needs.length cn) := by rw [hvs]; rfl
    have v17 : vs[17]? = some (.slice pt u.trains.length ct) := by rw [hvs]; rfl
    have v18 : vs[18]? = some (.slice pr u.ress.length cr) := by rw [hvs]; rfl
    have hB2 := hB.alloc (.cells vs.toArray 53)
    have hL2 := hL.alloc hL.size (.cells vs.toArray 53)
    obtain ⟨bl, hbl⟩ : ∃ q, u.bld = q := ⟨_, rfl⟩
    obtain ⟨q1, hq1⟩ : ∃ q, Hid (q = neededv r u.needs) := ⟨_, hid rfl⟩
    have hF : typ1 r u = (q1 && (bl || u.ress.isEmpty) && u.trains.all (trn1 r bl)) := by rw [hq1.out, ← hbl]; rfl
    have hF' := hid hF
    rw [hbl] at v1
    have z16 : (wr.alloc (.cells vs.toArray 53)).cell? ⟨wr.heap.size, 16, none⟩ = some (.slice pn u.needs.length cn) := (hZ.cell 16).trans v16
    have hB3 := hB2.three
    clear hu hat hc hU hA hcs hvs l1 l2 hF hbl
    obtain ⟨_, _, _, _, _, _⟩ := hB3
    clear hB
    go_wp2_with (first | (with_reducible refine wpList_load_agg rfl 53 _ rfl ⟨g, o + i * 19, none⟩ (by with_unfolding_all rfl) Tryz.isAgg53 Tryz.sizeOf53 vs kl.out ?_) | (with_reducible refine wpList_alloc_agg rfl 53 rfl _ rfl uZero zeroU ?_) | (with_reducible refine wpList_store_new rfl 53 _ _ rfl rfl Tryz.sizeOf53 vs uZero 53 (by with_unfolding_all rfl) (by with_unfolding_all rfl) hU'.out.len rfl hU'.out.lone ?_))
    ((with_reducible refine (r9needed_b _ _ _ _ r u.needs q1 W _ hR0.out hL2 s1 hq1).mono ?_); rintro e w1 ⟨rfl, hb⟩)
    replace hZ := hZ.below hb
    replace hB2 := hB2.below hb
    replace hL2 := below_call hL2 hb
    have z1 : w1.cell? ⟨wr.heap.size, 1, none⟩ = some (.bool bl) := (hZ.cell 1).trans v1
    have z18 : w1.cell? ⟨wr.heap.size, 18, none⟩ = some (.slice pr u.ress.length cr) := (hZ.cell 18).trans v18
    have z17 : w1.cell? ⟨wr.heap.size, 17, none⟩ = some (.slice pt u.trains.length ct) := (hZ.cell 17).trans v17
    have hN := hZ.lt
    clear hb z16 kl hL hU' s1 s3
    cases q1 with
    | false =>
     have hb : b = false := by rw [e.out, (HY (by rw [hF'.out]; simp [])).out]; rfl
     subst hb
     clear e HN HY hF'
     go_wp2_with fail
     go_ret
     exact ⟨rfl, hL2⟩
    | true =>
    obtain ⟨n3, hn3⟩ : ∃ n, u.ress.length = n := ⟨_, rfl⟩
    rw [hn3] at z18 l3
    by_cases hx : bl = false ∧ 0 < n3
    · obtain ⟨rfl, hx⟩ := hx
      have hx2 : u.ress.isEmpty = false := by cases h : u.ress with | nil => rw [h] at hn3; simp at hn3; omega | cons a l => rfl
      replace hn3 := hid hn3
      have hb : b = false := by rw [e.out, (HY (by rw [hF'.out]; simp [hx2])).out]; rfl
      subst hb
      clear e HN HY hF'
      go_wp2_with fail
      go_ret
      exact ⟨rfl, hL2⟩
    have hx2 : (bl || u.ress.isEmpty) = true := by
     cases bl with
     | true => rfl
     | false =>
      cases h : u.ress with
      | nil => rfl
      | cons a l => exact absurd ⟨rfl, by rw [← hn3, h]; simp⟩ hx
    replace hF' := hid (show typ1 r u = u.trains.all (trn1 r bl) by rw [hF'.out, hx2]; rfl)
    have hx3 : bl = true ∨ (bl = false ∧ ¬ (0 : Int) < n3) := by
     cases bl with
     | true => exact .inl rfl
     | false => exact .inr ⟨rfl, by have : ¬ 0 < n3 := fun h => hx ⟨rfl, h⟩; omega⟩
    clear hx hx2
    replace hn3 := hid hn3
    generalize wr.heap.size = N at *
    obtain ⟨qt, ctt, hpt, hmt, hatt⟩ := s2
    injection hpt with hpt _ _
    subst hpt
    unfold maxLen at hmt
    have HZ := hid hZ
    clear hZ
    rcases hx3 with rfl | ⟨rfl, hx3⟩
    · go_wp2_with fail
      clear z17 z18 z1
      go_loopw [5] (fun vi wr => ∃ k : Nat, vi = .int .i64 k ∧ k ≤ u.trains.length ∧ Blk wr W.heap.size [.slice (some ⟨g, o, none⟩) r.us.length c, .slice p1 r.ws.length c1, .slice p2 r.ts.length c2] 31 ∧ Hid (Blk wr N vs 53) ∧ Below W.heap.size W wr ∧ Hid ((u.trains.take k).all (trn1 r true) = true)) (fun vi _ => u.trains.length - (RowKit.intOf vi).toNat)
      case atStart => exact ⟨0, rfl, by omega, hB2, HZ, hL2, hid rfl⟩
      case round =>
       clear HZ hB2 hL2 hN
       obtain ⟨k, rfl, hk, hB, HZ, hL, hA⟩ := hrel
       have z17 : wr.cell? ⟨N, 17, none⟩ = some (.slice pt u.trains.length ct) := (HZ.out.cell 17).trans v17
       by_cases hlt2 : k < u.trains.length
       · have d3 : (k : Int) < u.trains.length := by omega
         have d4 : (0 : Int) ≤ k := by omega
         obtain ⟨g2, o2, rfl, hc2⟩ := hatt (by omega)
         have k1 := (hL.cell (p := ⟨g2, o2 + k, none⟩) (World.block_lt_of_cell? W _ (hc2 k hlt2))).trans (hc2 k hlt2)
         have hk2 := World.block_lt_of_cell? wr _ k1
         have HN2 := fun q => hid (allp_take (f := trn1 r true) hlt2 hA.out q)
         have HY2 := fun q => hid (allp_no (f := trn1 r true) hlt2 q)
         obtain ⟨x, hx⟩ : ∃ x, u.trains[k]'hlt2 = x := ⟨_, rfl⟩
         rw [hx] at k1 HN2 HY2
         obtain ⟨ok, hok⟩ : ∃ q, Hid (q = (unitv r x).isSome) := ⟨_, hid rfl⟩
         obtain ⟨uu, huu⟩ : ∃ q, Hid (q = (unitv r x).getD U9.zero) := ⟨_, hid rfl⟩
         have hF2 := hid (show trn1 r true x = (uu.bld != true) by unfold trn1; rw [← huu.out])
         clear hx hc2 hA hatt
         go_upto_region 10 with fail
         go_cut [6, 7] from 37 to 58 (fun s6 s7 wx => ∃ bx : Nat, s6 = .pointer (some ⟨bx, 0, none⟩) ∧ s7 = .bool ok ∧ wx.cell? ⟨bx, 1, none⟩ = some (.bool uu.bld) ∧ Below wr.heap.size wr wx)
         case first =>
          have hmx : Tryz.prog.follows .mixedOrders = true := by kernel_rfl
          refine wp_region_held (S := fun w' => Below wr.heap.size wr w') hmx ?_
          show wpAnyH _ _ _ _ _ _ _ _ wr.drew
          have hS0 := (Below.refl wr.heap.size wr).drew
          refine reg_tk (i := 0) (v := .agg #[.slice (some ⟨g, o, none⟩) r.us.length c, .slice p1 r.ws.length c1, .slice p2 r.ts.length c2]) _ rfl (fun w' hS => by (obtain ⟨_, _, _, _, _, _⟩ := (hB.below hS).three; have := (hS.cell (p := ⟨g2, o2 + k, none⟩) hk2).trans k1; have := ((HZ.out.below hS).cell 17).trans v17); go_simp) hS0 ?_
          simp only [Act.put, List.setIfInBounds_toArray]
          refine reg_tk (i := 1) (v := .pointer (some ⟨N, 17, none⟩)) _ rfl (fun w' hS => by (obtain ⟨_, _, _, _, _, _⟩ := (hB.below hS).three; have := (hS.cell (p := ⟨g2, o2 + k, none⟩) hk2).trans k1; have := ((HZ.out.below hS).cell 17).trans v17); go_simp) hS0 ?_
          simp only [Act.put]
          refine reg_tk (i := 2) (v := .slice (some ⟨g2, o2, none⟩) u.trains.length ct) _ rfl (fun w' hS => by (obtain ⟨_, _, _, _, _, _⟩ := (hB.below hS).three; have := (hS.cell (p := ⟨g2, o2 + k, none⟩) hk2).trans k1; have := ((HZ.out.below hS).cell 17).trans v17); go_simp) hS0 ?_
          simp only [Act.put]
          refine reg_tk (i := 3) (v := .int .i64 k) _ rfl (fun w' hS => by (obtain ⟨_, _, _, _, _, _⟩ := (hB.below hS).three; have := (hS.cell (p := ⟨g2, o2 + k, none⟩) hk2).trans k1; have := ((HZ.out.below hS).cell 17).trans v17); go_simp) hS0 ?_
          simp only [Act.put]
          refine reg_tk (i := 4) (v := .pointer (some ⟨g2, o2 + k, none⟩)) _ rfl (fun w' hS => by (obtain ⟨_, _, _, _, _, _⟩ := (hB.below hS).three; have := (hS.cell (p := ⟨g2, o2 + k, none⟩) hk2).trans k1; have := ((HZ.out.below hS).cell 17).trans v17); go_simp) hS0 ?_
          simp only [Act.put]
          refine reg_tk (i := 5) (v := .string x) _ rfl (fun w' hS => by (obtain ⟨_, _, _, _, _, _⟩ := (hB.below hS).three; have := (hS.cell (p := ⟨g2, o2 + k, none⟩) hk2).trans k1; have := ((HZ.out.below hS).cell 17).trans v17); go_simp) hS0 ?_
          simp only [Act.put]
          refine held_two (i := 6) (k := 10) (by kernel_rfl) rfl rfl (fun K hQ => ?_) (fun K hQ => ?_)
          · go_simp
            (with_reducible refine (r9unit_c _ _ _ r x ok uu W _ hR0.out (hL.trans (hS0.mono hL.size)) hok huu).mono ?_)
            rintro e w1 ⟨vs, rfl, hUL, hb⟩
            have hS1 := below_call hS0 hb
            refine hQ.out _ _ hS1 ?_
            clear hQ
            try simp only [Act.put, List.setIfInBounds_toArray, List.set_cons_zero, List.set_cons_succ]
            refine reg_tk (i := 7) (v := .tuple #[.agg vs.toArray, .bool ok]) _ rfl (fun w' hS => by skip; go_simp) hS1 ?_
            simp only [Act.put, List.setIfInBounds_toArray]
            refine reg_tk (i := 8) (v := .agg vs.toArray) _ rfl (fun w' hS => by skip; go_simp) hS1 ?_
            simp only [Act.put]
            refine reg_tk (i := 9) (v := .bool ok) _ rfl (fun w' hS => by skip; go_simp) hS1 ?_
            simp only [Act.put]
            refine held_one (i := 10) (by kernel_rfl) rfl (fun K hQ => ?_)
            refine step_alloc_agg rfl 53 rfl uZero zeroU ?_
            have hS2 := hS1.alloc hS1.size (.cells uZero.toArray 53)
            refine hQ.out _ _ hS2 ?_
            clear hQ
            try simp only [Act.put]
            have hbox := Blk.new w1 uZero 53
            refine held_one (i := 11) (by kernel_rfl) rfl (fun K hQ => ?_)
            refine step_store_agg rfl 53 (.tmp 6) (.tmp 52) rfl rfl w1.heap.size rfl Tryz.sizeOf53 vs rfl hUL.len hbox rfl hUL.lone ?_
            have hw3 := below_setRow hS2 hS1.size vs.toArray
            refine hQ.out _ _ hw3 ?_
            clear hQ
            skip
            replace hbox := hbox.put vs
            refine reg_tk (i := 12) (v := .bool ok) _ rfl (fun w' hS => by skip; go_simp) hw3 ?_
            simp only [Act.put]
            refine wpAnyH_done (by kernel_rfl) ?_ _
            show Exit.then _ _ Exit.normal _ _
            go_wp2_with fail
            go_meet
            case rel => exact ⟨_, rfl, rfl, (hbox.cell 1).trans hUL.bld, hw3⟩
          · refine step_alloc_agg rfl 53 rfl uZero zeroU ?_
            have hS1 := hS0.alloc hS0.size (.cells uZero.toArray 53)
            have hbox := Blk.new wr.drew uZero 53
            refine hQ.out _ _ hS1 ?_
            clear hQ
            generalize wr.drew.alloc (.cells uZero.toArray 53) = wB at *
            try simp only [Act.put]
            refine held_one (i := 6) (by kernel_rfl) rfl (fun K hQ => ?_)
            go_simp
            (with_reducible refine (r9unit_c _ _ _ r x ok uu W _ hR0.out (hL.trans (hS1.mono hL.size)) hok huu).mono ?_)
            rintro e w1 ⟨vs, rfl, hUL, hb⟩
            replace hbox := hbox.below hb
            have hS2 := below_call hS1 hb
            refine hQ.out _ _ hS2 ?_
            clear hQ
            try simp only [Act.put, List.setIfInBounds_toArray, List.set_cons_zero, List.set_cons_succ]
            refine reg_tk (i := 7) (v := .tuple #[.agg vs.toArray, .bool ok]) _ rfl (fun w' hS => by skip; go_simp) hS2 ?_
            simp only [Act.put, List.setIfInBounds_toArray]
            refine reg_tk (i := 8) (v := .agg vs.toArray) _ rfl (fun w' hS => by skip; go_simp) hS2 ?_
            simp only [Act.put]
            refine reg_tk (i := 9) (v := .bool ok) _ rfl (fun w' hS => by skip; go_simp) hS2 ?_
            simp only [Act.put]
            refine held_one (i := 11) (by kernel_rfl) rfl (fun K hQ => ?_)
            refine step_store_agg rfl 53 (.tmp 6) (.tmp 52) rfl rfl wr.heap.size rfl Tryz.sizeOf53 vs rfl hUL.len hbox rfl hUL.lone ?_
            have hw3 := below_setRow hS2 (Nat.le_refl _) vs.toArray
            refine hQ.out _ _ hw3 ?_
            clear hQ
            replace hbox := hbox.put vs
            refine reg_tk (i := 12) (v := .bool ok) _ rfl (fun w' hS => by skip; go_simp) hw3 ?_
            simp only [Act.put]
            refine wpAnyH_done (by kernel_rfl) ?_ _
            show Exit.then _ _ Exit.normal _ _
            go_wp2_with fail
            go_meet
            case rel => exact ⟨_, rfl, rfl, (hbox.cell 1).trans hUL.bld, hw3⟩
         case rest =>
         obtain ⟨bx, rfl, rfl, hbx, hX⟩ := hcut
         obtain ⟨bl, hbl⟩ : ∃ q, uu.bld = q := ⟨_, rfl⟩
         rw [hbl] at hbx hF2
         replace hB := hB.below hX
         replace HZ := hid (HZ.out.below hX)
         replace hL := below_call hL hX
         have z1 := (HZ.out.cell 1).trans v1
         clear hbl hX k1 hk2 hok huu z17
         cases bl with
         | true =>
          have hb : b = false := by rw [e.out, (HY (by rw [hF'.out, (HY2 (by rw [hF2.out]; rfl)).out])).out]; rfl
          subst hb
          clear HN2 HY2 hF2 e HN HY hF'
          go_wp2_with fail
          go_ret
          exact ⟨rfl, hL⟩
         | false =>
          have HS := HN2 (by rw [hF2.out]; rfl)
          clear HN2 HY2 hF2
          go_wp2_with fail
          go_roundw
          case rel => exact ⟨k + 1, by go_num, by omega, hB, HZ, hL, HS⟩
          case measure => simp [RowKit.intOf]; omega
       · obtain rfl : k = u.trains.length := by omega
         have ha := hA.out
         rw [List.take_length] at ha
         have d3 : ¬ (u.trains.length : Int) < u.trains.length := by omega
         have HS := HN (by rw [hF'.out, ha])
         clear HN HY hF' ha hA hatt HZ
         go_wp2_with fail
         go_roundw
         case rel => exact ⟨i + 1, by go_num, by omega, hB, hL, HS⟩
         case measure => simp [RowKit.intOf]; omega
    · go_wp2_with fail
      have hx4 : decide (0 < n3) = false := decide_eq_false (by omega)
      simp only [hx4]
      clear hx4
      clear z17 z18 z1
      go_loopw [5] (fun vi wr => ∃ k : Nat, vi = .int .i64 k ∧ k ≤ u.trains.length ∧ Blk wr W.heap.size [.slice (some ⟨g, o, none⟩) r.us.length c, .slice p1 r.ws.length c1, .slice p2 r.ts.length c2] 31 ∧ Hid (Blk wr N vs 53) ∧ Below W.heap.size W wr ∧ Hid ((u.trains.take k).all (trn1 r false) = true)) (fun vi _ => u.trains.length - (RowKit.intOf vi).toNat)
      case atStart => exact ⟨0, rfl, by omega, hB2, HZ, hL2, hid rfl⟩
      case round =>
       clear HZ hB2 hL2 hN
       obtain ⟨k, rfl, hk, hB, HZ, hL, hA⟩ := hrel
       have z17 : wr.cell? ⟨N, 17, none⟩ = some (.slice pt u.trains.length ct) := (HZ.out.cell 17).trans v17
       by_cases hlt2 : k < u.trains.length
       · have d3 : (k : Int) < u.trains.length := by omega
         have d4 : (0 : Int) ≤ k := by omega
         obtain ⟨g2, o2, rfl, hc2⟩ := hatt (by omega)
         have k1 := (hL.cell (p := ⟨g2, o2 + k, none⟩) (World.block_lt_of_cell? W _ (hc2 k hlt2))).trans (hc2 k hlt2)
         have hk2 := World.block_lt_of_cell? wr _ k1
         have HN2 := fun q => hid (allp_take (f := trn1 r false) hlt2 hA.out q)
         have HY2 := fun q => hid (allp_no (f := trn1 r false) hlt2 q)
         obtain ⟨x, hx⟩ : ∃ x, u.trains[k]'hlt2 = x := ⟨_, rfl⟩
         rw [hx] at k1 HN2 HY2
         obtain ⟨ok, hok⟩ : ∃ q, Hid (q = (unitv r x).isSome) := ⟨_, hid rfl⟩
         obtain ⟨uu, huu⟩ : ∃ q, Hid (q = (unitv r x).getD U9.zero) := ⟨_, hid rfl⟩
         have hF2 := hid (show trn1 r false x = (uu.bld != false) by unfold trn1; rw [← huu.out])
         clear hx hc2 hA hatt
         go_upto_region 10 with fail
         go_cut [6, 7] from 37 to 58 (fun s6 s7 wx => ∃ bx : Nat, s6 = .pointer (some ⟨bx, 0, none⟩) ∧ s7 = .bool ok ∧ wx.cell? ⟨bx, 1, none⟩ = some (.bool uu.bld) ∧ Below wr.heap.size wr wx)
         case first =>
          have hmx : Tryz.prog.follows .mixedOrders = true := by kernel_rfl
          refine wp_region_held (S := fun w' => Below wr.heap.size wr w') hmx ?_
          show wpAnyH _ _ _ _ _ _ _ _ wr.drew
          have hS0 := (Below.refl wr.heap.size wr).drew
          refine reg_tk (i := 0) (v := .agg #[.slice (some ⟨g, o, none⟩) r.us.length c, .slice p1 r.ws.length c1, .slice p2 r.ts.length c2]) _ rfl (fun w' hS => by (obtain ⟨_, _, _, _, _, _⟩ := (hB.below hS).three; have := (hS.cell (p := ⟨g2, o2 + k, none⟩) hk2).trans k1; have := ((HZ.out.below hS).cell 17).trans v17); go_simp) hS0 ?_
          simp only [Act.put, List.setIfInBounds_toArray]
          refine reg_tk (i := 1) (v := .pointer (some ⟨N, 17, none⟩)) _ rfl (fun w' hS => by (obtain ⟨_, _, _, _, _, _⟩ := (hB.below hS).three; have := (hS.cell (p := ⟨g2, o2 + k, none⟩) hk2).trans k1; have := ((HZ.out.below hS).cell 17).trans v17); go_simp) hS0 ?_
          simp only [Act.put]
          refine reg_tk (i := 2) (v := .slice (some ⟨g2, o2, none⟩) u.trains.length ct) _ rfl (fun w' hS => by (obtain ⟨_, _, _, _, _, _⟩ := (hB.below hS).three; have := (hS.cell (p := ⟨g2, o2 + k, none⟩) hk2).trans k1; have := ((HZ.out.below hS).cell 17).trans v17); go_simp) hS0 ?_
          simp only [Act.put]
          refine reg_tk (i := 3) (v := .int .i64 k) _ rfl (fun w' hS => by (obtain ⟨_, _, _, _, _, _⟩ := (hB.below hS).three; have := (hS.cell (p := ⟨g2, o2 + k, none⟩) hk2).trans k1; have := ((HZ.out.below hS).cell 17).trans v17); go_simp) hS0 ?_
          simp only [Act.put]
          refine reg_tk (i := 4) (v := .pointer (some ⟨g2, o2 + k, none⟩)) _ rfl (fun w' hS => by (obtain ⟨_, _, _, _, _, _⟩ := (hB.below hS).three; have := (hS.cell (p := ⟨g2, o2 + k, none⟩) hk2).trans k1; have := ((HZ.out.below hS).cell 17).trans v17); go_simp) hS0 ?_
          simp only [Act.put]
          refine reg_tk (i := 5) (v := .string x) _ rfl (fun w' hS => by (obtain ⟨_, _, _, _, _, _⟩ := (hB.below hS).three; have := (hS.cell (p := ⟨g2, o2 + k, none⟩) hk2).trans k1; have := ((HZ.out.below hS).cell 17).trans v17); go_simp) hS0 ?_
          simp only [Act.put]
          refine held_two (i := 6) (k := 10) (by kernel_rfl) rfl rfl (fun K hQ => ?_) (fun K hQ => ?_)
          · go_simp
            (with_reducible refine (r9unit_c _ _ _ r x ok uu W _ hR0.out (hL.trans (hS0.mono hL.size)) hok huu).mono ?_)
            rintro e w1 ⟨vs, rfl, hUL, hb⟩
            have hS1 := below_call hS0 hb
            refine hQ.out _ _ hS1 ?_
            clear hQ
            try simp only [Act.put, List.setIfInBounds_toArray, List.set_cons_zero, List.set_cons_succ]
            refine reg_tk (i := 7) (v := .tuple #[.agg vs.toArray, .bool ok]) _ rfl (fun w' hS => by skip; go_simp) hS1 ?_
            simp only [Act.put, List.setIfInBounds_toArray]
            refine reg_tk (i := 8) (v := .agg vs.toArray) _ rfl (fun w' hS => by skip; go_simp) hS1 ?_
            simp only [Act.put]
            refine reg_tk (i := 9) (v := .bool ok) _ rfl (fun w' hS => by skip; go_simp) hS1 ?_
            simp only [Act.put]
            refine held_one (i := 10) (by kernel_rfl) rfl (fun K hQ => ?_)
            refine step_alloc_agg rfl 53 rfl uZero zeroU ?_
            have hS2 := hS1.alloc hS1.size (.cells uZero.toArray 53)
            refine hQ.out _ _ hS2 ?_
            clear hQ
            try simp only [Act.put]
            have hbox := Blk.new w1 uZero 53
            refine held_one (i := 11) (by kernel_rfl) rfl (fun K hQ => ?_)
            refine step_store_agg rfl 53 (.tmp 6) (.tmp 52) rfl rfl w1.heap.size rfl Tryz.sizeOf53 vs rfl hUL.len hbox rfl hUL.lone ?_
            have hw3 := below_setRow hS2 hS1.size vs.toArray
            refine hQ.out _ _ hw3 ?_
            clear hQ
            skip
            replace hbox := hbox.put vs
            refine reg_tk (i := 12) (v := .bool ok) _ rfl (fun w' hS => by skip; go_simp) hw3 ?_
            simp only [Act.put]
            refine wpAnyH_done (by kernel_rfl) ?_ _
            show Exit.then _ _ Exit.normal _ _
            go_wp2_with fail
            go_meet
            case rel => exact ⟨_, rfl, rfl, (hbox.cell 1).trans hUL.bld, hw3⟩
          · refine step_alloc_agg rfl 53 rfl uZero zeroU ?_
            have hS1 := hS0.alloc hS0.size (.cells uZero.toArray 53)
            have hbox := Blk.new wr.drew uZero 53
            refine hQ.out _ _ hS1 ?_
            clear hQ
            generalize wr.drew.alloc (.cells uZero.toArray 53) = wB at *
            try simp only [Act.put]
            refine held_one (i := 6) (by kernel_rfl) rfl (fun K hQ => ?_)
            go_simp
            (with_reducible refine (r9unit_c _ _ _ r x ok uu W _ hR0.out (hL.trans (hS1.mono hL.size)) hok huu).mono ?_)
            rintro e w1 ⟨vs, rfl, hUL, hb⟩
            replace hbox := hbox.below hb
            have hS2 := below_call hS1 hb
            refine hQ.out _ _ hS2 ?_
            clear hQ
            try simp only [Act.put, List.setIfInBounds_toArray, List.set_cons_zero, List.set_cons_succ]
            refine reg_tk (i := 7) (v := .tuple #[.agg vs.toArray, .bool ok]) _ rfl (fun w' hS => by skip; go_simp) hS2 ?_
            simp only [Act.put, List.setIfInBounds_toArray]
            refine reg_tk (i := 8) (v := .agg vs.toArray) _ rfl (fun w' hS => by skip; go_simp) hS2 ?_
            simp only [Act.put]
            refine reg_tk (i := 9) (v := .bool ok) _ rfl (fun w' hS => by skip; go_simp) hS2 ?_
            simp only [Act.put]
            refine held_one (i := 11) (by kernel_rfl) rfl (fun K hQ => ?_)
            refine step_store_agg rfl 53 (.tmp 6) (.tmp 52) rfl rfl wr.heap.size rfl Tryz.sizeOf53 vs rfl hUL.len hbox rfl hUL.lone ?_
            have hw3 := below_setRow hS2 (Nat.le_refl _) vs.toArray
            refine hQ.out _ _ hw3 ?_
            clear hQ
            replace hbox := hbox.put vs
            refine reg_tk (i := 12) (v := .bool ok) _ rfl (fun w' hS => by skip; go_simp) hw3 ?_
            simp only [Act.put]
            refine wpAnyH_done (by kernel_rfl) ?_ _
            show Exit.then _ _ Exit.normal _ _
            go_wp2_with fail
            go_meet
            case rel => exact ⟨_, rfl, rfl, (hbox.cell 1).trans hUL.bld, hw3⟩
         case rest =>
         obtain ⟨bx, rfl, rfl, hbx, hX⟩ := hcut
         obtain ⟨bl, hbl⟩ : ∃ q, uu.bld = q := ⟨_, rfl⟩
         rw [hbl] at hbx hF2
         replace hB := hB.below hX
         replace HZ := hid (HZ.out.below hX)
         replace hL := below_call hL hX
         have z1 := (HZ.out.cell 1).trans v1
         clear hbl hX k1 hk2 hok huu z17
         cases bl with
         | false =>
          have hb : b = false := by rw [e.out, (HY (by rw [hF'.out, (HY2 (by rw [hF2.out]; rfl)).out])).out]; rfl
          subst hb
          clear HN2 HY2 hF2 e HN HY hF'
          go_wp2_with fail
          go_ret
          exact ⟨rfl, hL⟩
         | true =>
          have HS := HN2 (by rw [hF2.out]; rfl)
          clear HN2 HY2 hF2
          go_wp2_with fail
          go_roundw
          case rel => exact ⟨k + 1, by go_num, by omega, hB, HZ, hL, HS⟩
          case measure => simp [RowKit.intOf]; omega
       · obtain rfl : k = u.trains.length := by omega
         have ha := hA.out
         rw [List.take_length] at ha
         have d3 : ¬ (u.trains.length : Int) < u.trains.length := by omega
         have HS := HN (by rw [hF'.out, ha])
         clear HN HY hF' ha hA hatt HZ
         go_wp2_with fail
         go_roundw
         case rel => exact ⟨i + 1, by go_num, by omega, hB, hL, HS⟩
         case measure => simp [RowKit.intOf]; omega
  · obtain rfl : i = r.us.length := by omega
    have ha := hA.out
    rw [List.take_length] at ha
    have d1 : ¬ (r.us.length : Int) < r.us.length := by omega
    replace e := hid (show b = r.ts.all (typ2 r) by rw [e.out, ha]; rfl)
    clear hat ha hA
    go_wp2_with fail
    clear d1
    go_loopw [8] (fun vi wr => ∃ i : Nat, vi = .int .i64 i ∧ i ≤ r.ts.length ∧ Blk wr W.heap.size [.slice p r.us.length c, .slice p1 r.ws.length c1, .slice p2 r.ts.length c2] 31 ∧ Below W.heap.size W wr ∧ Hid ((r.ts.take i).all (typ2 r) = true)) (fun vi _ => r.ts.length - (RowKit.intOf vi).toNat)
    case atStart => exact ⟨0, rfl, by omega, hB, hL, hid rfl⟩
    case round =>
     clear hB hL
     obtain ⟨i, rfl, hi, hB, hL, hA⟩ := hrel
     obtain ⟨_, _, _, _, _, _⟩ := hB.three
     by_cases hlt : i < r.ts.length
     · have d1 : (i : Int) < r.ts.length := by omega
       have d0 : (0 : Int) ≤ i := by omega
       obtain ⟨g, o, rfl, hc⟩ := hat2 (by omega)
       obtain ⟨vs, hU, hcs⟩ := (hc i hlt).tl
       obtain ⟨pn, cn, hvs, s1⟩ := hU.lists
       have hgW := hcs.lt' hU.name
       have k1 : W.cell? ⟨g, o + i * 8 + 1, none⟩ = some (.slice pn (r.ts[i]'hlt).needs.length cn) := hcs 1 _ (by rw [hvs]; rfl)
       have HN := fun q => hid (allp_take (f := typ2 r) hlt hA.out q)
       have HY := fun q => hid (allp_no (f := typ2 r) hlt q)
       obtain ⟨u, hu⟩ : ∃ u, r.ts[i]'hlt = u := ⟨_, rfl⟩
       rw [hu] at HN HY k1 s1
       obtain ⟨q1, hq1⟩ : ∃ q, Hid (q = neededv r u.needs) := ⟨_, hid rfl⟩
       have hF' := hid (show typ2 r u = q1 from hq1.out.symm)
       clear hu hat2 hc hU hA hcs hvs
       have hq := (Below.refl wr.heap.size wr).drew
       go_upto_region 16 with fail
       go_region_held3 (fun w' => w'.cell? ⟨W.heap.size, 0, none⟩ = some (.slice p r.us.length c) ∧ w'.cell? ⟨W.heap.size, 1, none⟩ = some (.slice p1 r.ws.length c1) ∧ w'.cell? ⟨W.heap.size, 2, none⟩ = some (.slice (some ⟨g, o, none⟩) r.ts.length c2) ∧ w'.cell? ⟨g, o + i * 8 + 1, none⟩ = some (.slice pn u.needs.length cn))
        (first | exact ⟨(hB.below (by assumption)).cell 0, (hB.below (by assumption)).cell 1, (hB.below (by assumption)).cell 2, ((below_call hL (by assumption)).cell (p := ⟨g, o + i * 8 + 1, none⟩) hgW).trans k1⟩)
        (first | (go_at_call 87; with_reducible refine (r9needed_b _ _ _ _ r u.needs q1 W _ hR0.out (below_call hL hq) s1 hq1).mono ?_; rintro e w1 ⟨rfl, hb⟩; replace hq := below_call hq hb; clear hb))
       replace hB := hB.below hq
       replace hL := below_call hL hq
       clear hq k1 hgW
       cases q1 with
       | false =>
        have hb := e.out.trans (HY hF'.out).out
        subst hb
        clear e HN HY hF'
        go_wp2_with fail
        go_ret
        exact ⟨rfl, hL⟩
       | true =>
        have HS := HN hF'.out
        clear HN HY hF'
        go_wp2_with fail
        go_roundw
        case rel => exact ⟨i + 1, by go_num, by omega, hB, hL, HS⟩
        case measure => simp [RowKit.intOf]; omega
     · obtain rfl : i = r.ts.length := by omega
       have ha := hA.out
       rw [List.take_length] at ha
       have d1 : ¬ (r.ts.length : Int) < r.ts.length := by omega
       have hb := e.out.trans ha
       subst hb
       clear e ha hA hat2
       go_wp2_with fail
       go_ret
       exact ⟨rfl, hL⟩
end

end Go.Proofs.YtnjcdmjaecgblaaGreatDoor
