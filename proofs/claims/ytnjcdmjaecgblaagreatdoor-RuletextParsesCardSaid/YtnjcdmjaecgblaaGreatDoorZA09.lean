/-
  ruletext as landed at a382b96: slices.Clone at structs; rules with memory of their own.
-/
import Derived.Test.YtnjcdmjaecgblaaGreatDoorZA08
namespace Go.Proofs.YtnjcdmjaecgblaaGreatDoor
section
open Go.RowKit Go.Lib
def CloneK (n k : Nat) (T : TypeId) (xs : List Value) (w : World) (e : Ending) (w' : World) : Prop := ∃ p c, e = .returned (.slice p n c) ∧ w'.ownsRow w.heap.size T k (.slice p n c) n xs ∧ Below w.heap.size w w'
set_option maxHeartbeats 8000000 in
set_option maxRecDepth 100000 in
theorem lcloneU_b (n : Nat) (cs : Nat → List Value) (s : Value) (V0 W : World) (hr : RowV V0 19 s n cs) (h0 : Below V0.heap.size V0 W) (hsm : n ≤ 10000) (h1 : ∀ i, i < n → (cs i).length = 19 ∧ ∀ v ∈ cs i, v.oneCell' = true) :
 Calls Tryz.prog 69 #[s] W (CloneK n 19 53 (flatR cs n) W) := by
 obtain ⟨i0, hi, hz0, hz1, hz2⟩ := info_cut9 infoU9
 have hrW := hr.below h0
 obtain ⟨p, c, rfl, hm, hc⟩ := id hr
 have q22 : ∀ (w : World) (a : Option Addr) (n c n' c' : Nat), (binOp .eql 27 (.slice a n c) (.slice none n' c')).run Tryz.prog w = .ok (.bool a.isNone) w := fun w a n c n' c' => Lib.run_eql_slice_nil w _ _ a n c n' c' Tryz.underlying27
 have hlen := flatR_len n fun i hi => (h1 i hi).1
 have hsrc := fun (V : World) (hV : Below W.heap.size W V) => row_src (hrW.below hV) (by decide) h1
 cases p with
 | none =>
  have hl0 : n = 0 := by
   rcases Nat.eq_zero_or_pos n with q | q
   · exact q
   · obtain ⟨_, _, e, _⟩ := hc q
     cases e
  subst hl0
  clear hr hc hrW hsrc hlen h1
  go_enter Tryz.func69, Tryz.ntmps69
  go_wp2_with fail
  go_ret
  exact ⟨none, 0, rfl, World.ownsRow_nil _ _ _ _, Below.refl _ _⟩
 | some a =>
  have hat := fun (V : World) (hV : Below W.heap.size W V) => (hsrc V hV).2.2.2 a rfl
  have hlo := (hsrc W (Below.refl _ _)).2.1
  clear hc hr hrW hsrc h1
  generalize flatR cs n = xs at *
  have hown0 := World.ownsRow_made (e := 53) (base := W.heap.size) (size := 19) W #[] 0 (Nat.le_refl _) (by unfold maxLen; omega) rfl
  go_enter Tryz.func69, Tryz.ntmps69
  go_wp2_with (at_builtin; refine wpList_append_own _ rfl _ _ 27 rfl W.heap.size 53 i0 (.agg uZero.toArray) 19 208 Tryz.underlying27 hi hz0 hz1 hz2 rfl (by decide) _ _ _ rfl hown0 a n c xs rfl hlen (hat _ ((Below.refl _ _).alloc (Nat.le_refl _) _)) hlo (by unfold maxLen; omega) (by omega) (by first | (simp; done) | (simp; omega)) ?_)
  intro v' X hown hg _
  have hown' : X.ownsRow W.heap.size 53 19 v' n xs := by simpa using hown
  obtain ⟨p', c', rfl⟩ : ∃ p' c', v' = .slice p' n c' := by
   rcases hown'.2 with ⟨q1, q2, -⟩ | ⟨g, cap, cur, q, -⟩
   · exact ⟨none, 0, q1⟩
   · exact ⟨_, _, q⟩
  clear hown hat
  go_wp2_with fail
  go_ret
  exact ⟨p', c', rfl, hown', ((Below.refl _ W).alloc (Nat.le_refl _) _).grown hg (by simp) (by intro k hk; simp [Value.ownBlock] at hk; omega)⟩
set_option maxHeartbeats 8000000 in
set_option maxRecDepth 100000 in
theorem lcloneW_b (n : Nat) (cs : Nat → List Value) (s : Value) (V0 W : World) (hr : RowV V0 6 s n cs) (h0 : Below V0.heap.size V0 W) (hsm : n ≤ 10000) (h1 : ∀ i, i < n → (cs i).length = 6 ∧ ∀ v ∈ cs i, v.oneCell' = true) :
 Calls Tryz.prog 70 #[s] W (CloneK n 6 51 (flatR cs n) W) := by
 obtain ⟨i0, hi, hz0, hz1, hz2⟩ := info_cut9 infoW9
 have hrW := hr.below h0
 obtain ⟨p, c, rfl, hm, hc⟩ := id hr
 have q22 : ∀ (w : World) (a : Option Addr) (n c n' c' : Nat), (binOp .eql 28 (.slice a n c) (.slice none n' c')).run Tryz.prog w = .ok (.bool a.isNone) w := fun w a n c n' c' => Lib.run_eql_slice_nil w _ _ a n c n' c' Tryz.underlying28
 have hlen := flatR_len n fun i hi => (h1 i hi).1
 have hsrc := fun (V : World) (hV : Below W.heap.size W V) => row_src (hrW.below hV) (by decide) h1
 cases p with
 | none =>
  have hl0 : n = 0 := by
   rcases Nat.eq_zero_or_pos n with q | q
   · exact q
   · obtain ⟨_, _, e, _⟩ := hc q
     cases e
  subst hl0
  clear hr hc hrW hsrc hlen h1
  go_enter Tryz.func70, Tryz.ntmps70
  go_wp2_with fail
  go_ret
  exact ⟨none, 0, rfl, World.ownsRow_nil _ _ _ _, Below.refl _ _⟩
 | some a =>
  have hat := fun (V : World) (hV : Below W.heap.size W V) => (hsrc V hV).2.2.2 a rfl
  have hlo := (hsrc W (Below.refl _ _)).2.1
  clear hc hr hrW hsrc h1
  generalize flatR cs n = xs at *
  have hown0 := World.ownsRow_made (e := 51) (base := W.heap.size) (size := 6) W #[] 0 (Nat.le_refl _) (by unfold maxLen; omega) rfl
  go_enter Tryz.func70, Tryz.ntmps70
  go_wp2_with (at_builtin; refine wpList_append_own _ rfl _ _ 28 rfl W.heap.size 51 i0 (.agg wZero.toArray) 6 56 Tryz.underlying28 hi hz0 hz1 hz2 rfl (by decide) _ _ _ rfl hown0 a n c xs rfl hlen (hat _ ((Below.refl _ _).alloc (Nat.le_refl _) _)) hlo (by unfold maxLen; omega) (by omega) (by first | (simp; done) | (simp; omega)) ?_)
  intro v' X hown hg _
  have hown' : X.ownsRow W.heap.size 51 6 v' n xs := by simpa using hown
  obtain ⟨p', c', rfl⟩ : ∃ p' c', v' = .slice p' n c' := by
   rcases hown'.2 with ⟨q1, q2, -⟩ | ⟨g, cap, cur, q, -⟩
   · exact ⟨none, 0, q1⟩
   · exact ⟨_, _, q⟩
  clear hown hat
  go_wp2_with fail
  go_ret
  exact ⟨p', c', rfl, hown', ((Below.refl _ W).alloc (Nat.le_refl _) _).grown hg (by simp) (by intro k hk; simp [Value.ownBlock] at hk; omega)⟩
set_option maxHeartbeats 8000000 in
set_option maxRecDepth 100000 in
theorem lcloneT_b (n : Nat) (cs : Nat → List Value) (s : Value) (V0 W : World) (hr : RowV V0 8 s n cs) (h0 : Below V0.heap.size V0 W) (hsm : n ≤ 10000) (h1 : ∀ i, i < n → (cs i).length = 8 ∧ ∀ v ∈ cs i, v.oneCell' = true) :
 Calls Tryz.prog 71 #[s] W (CloneK n 8 56 (flatR cs n) W) := by
 obtain ⟨i0, hi, hz0, hz1, hz2⟩ := info_cut9 infoT9
 have hrW := hr.below h0
 obtain ⟨p, c, rfl, hm, hc⟩ := id hr
 have q22 : ∀ (w : World) (a : Option Addr) (n c n' c' : Nat), (binOp .eql 29 (.slice a n c) (.slice none n' c')).run Tryz.prog w = .ok (.bool a.isNone) w := fun w a n c n' c' => Lib.run_eql_slice_nil w _ _ a n c n' c' Tryz.underlying29
 have hlen := flatR_len n fun i hi => (h1 i hi).1
 have hsrc := fun (V : World) (hV : Below W.heap.size W V) => row_src (hrW.below hV) (by decide) h1
 cases p with
 | none =>
  have hl0 : n = 0 := by
   rcases Nat.eq_zero_or_pos n with q | q
   · exact q
   · obtain ⟨_, _, e, _⟩ := hc q
     cases e
  subst hl0
  clear hr hc hrW hsrc hlen h1
  go_enter Tryz.func71, Tryz.ntmps71
  go_wp2_with fail
  go_ret
  exact ⟨none, 0, rfl, World.ownsRow_nil _ _ _ _, Below.refl _ _⟩
 | some a =>
  have hat := fun (V : World) (hV : Below W.heap.size W V) => (hsrc V hV).2.2.2 a rfl
  have hlo := (hsrc W (Below.refl _ _)).2.1
  clear hc hr hrW hsrc h1
  generalize flatR cs n = xs at *
  have hown0 := World.ownsRow_made (e := 56) (base := W.heap.size) (size := 8) W #[] 0 (Nat.le_refl _) (by unfold maxLen; omega) rfl
  go_enter Tryz.func71, Tryz.ntmps71
  go_wp2_with (at_builtin; refine wpList_append_own _ rfl _ _ 29 rfl W.heap.size 56 i0 (.agg tZero.toArray) 8 96 Tryz.underlying29 hi hz0 hz1 hz2 rfl (by decide) _ _ _ rfl hown0 a n c xs rfl hlen (hat _ ((Below.refl _ _).alloc (Nat.le_refl _) _)) hlo (by unfold maxLen; omega) (by omega) (by first | (simp; done) | (simp; omega)) ?_)
  intro v' X hown hg _
  have hown' : X.ownsRow W.heap.size 56 8 v' n xs := by simpa using hown
  obtain ⟨p', c', rfl⟩ : ∃ p' c', v' = .slice p' n c' := by
   rcases hown'.2 with ⟨q1, q2, -⟩ | ⟨g, cap, cur, q, -⟩
   · exact ⟨none, 0, q1⟩
   · exact ⟨_, _, q⟩
  clear hown hat
  go_wp2_with fail
  go_ret
  exact ⟨p', c', rfl, hown', ((Below.refl _ W).alloc (Nat.le_refl _) _).grown hg (by simp) (by intro k hk; simp [Value.ownBlock] at hk; omega)⟩
def UN (w : World) (B : Nat) (vs : List Value) (u : U9) : Prop := ∃ sn st sr, vs = uCells u sn st sr ∧ w.ownsRow B 9 1 sn u.needs.length (strs u.needs) ∧ w.ownsRow B 9 1 st u.trains.length (strs u.trains) ∧ w.ownsRow B 9 1 sr u.ress.length (strs u.ress)
def TN (w : World) (B : Nat) (vs : List Value) (u : T9) : Prop := ∃ sn, vs = tCells u sn ∧ w.ownsRow B 9 1 sn u.needs.length (strs u.needs)
theorem UN.below {w w' : World} {B : Nat} {vs : List Value} {u : U9} (h : UN w B vs u) (hb : Below w.heap.size w w') : UN w' B vs u := by
 obtain ⟨sn, st, sr, e, a, b, c⟩ := h
 exact ⟨sn, st, sr, e, own_below a hb, own_below b hb, own_below c hb⟩
theorem TN.below {w w' : World} {B : Nat} {vs : List Value} {u : T9} (h : TN w B vs u) (hb : Below w.heap.size w w') : TN w' B vs u := by
 obtain ⟨sn, e, a⟩ := h
 exact ⟨sn, e, own_below a hb⟩
theorem UN.moves {w w' : World} {B g : Nat} {vs us : List Value} {u : U9} {t : TypeId} (h : UN w B vs u) (hb : Blk w g us t) (ne : 9 ≠ t) (hk : ∀ j, j ≠ g → w'.heap[j]? = w.heap[j]?) : UN w' B vs u := by
 obtain ⟨sn, st, sr, e, a, b, c⟩ := h
 exact ⟨sn, st, sr, e, own_byType a hb ne hk, own_byType b hb ne hk, own_byType c hb ne hk⟩
theorem TN.moves {w w' : World} {B g : Nat} {vs us : List Value} {u : T9} {t : TypeId} (h : TN w B vs u) (hb : Blk w g us t) (ne : 9 ≠ t) (hk : ∀ j, j ≠ g → w'.heap[j]? = w.heap[j]?) : TN w' B vs u := by
 obtain ⟨sn, e, a⟩ := h
 exact ⟨sn, e, own_byType a hb ne hk⟩
theorem own_capv {w : World} {B k n : Nat} {e : TypeId} {v : Value} {xs : List Value} (h : w.ownsRow B e k v n xs) : CapV v := by
 intro p m c q
 rcases h.2 with ⟨e1, -⟩ | ⟨g, cap, cur, e1, -, -, hc, -⟩
 · rw [e1] at q
   injection q with _ q1 q2
   omega
 · rw [e1] at q
   injection q with _ q1 q2
   omega
theorem UN.ul {w : World} {B : Nat} {vs : List Value} {u : U9} (h : UN w B vs u) (h1 : u.needs.length ≤ 100000 ∧ u.trains.length ≤ 100000 ∧ u.ress.length ≤ 100000) : UL w vs u ∧ ∀ v ∈ vs, CapV v := by
 obtain ⟨sn, st, sr, rfl, a, b, c⟩ := h
 refine ⟨⟨sn, st, sr, rfl, own_strs a h1.1, own_strs b h1.2.1, own_strs c h1.2.2⟩, fun v hv => ?_⟩
 simp only [uCells, List.mem_cons, List.not_mem_nil, or_false] at hv
 rcases hv with rfl | rfl | rfl | rfl | rfl | rfl | rfl | rfl | rfl | rfl | rfl | rfl | rfl | rfl | rfl | rfl | rfl | rfl | rfl <;> first | exact own_capv a | exact own_capv b | exact own_capv c | exact cap_no (by intros; intro q; cases q)
theorem TN.tl {w : World} {B : Nat} {vs : List Value} {u : T9} (h : TN w B vs u) (h1 : u.needs.length ≤ 100000) : TL w vs u ∧ ∀ v ∈ vs, CapV v := by
 obtain ⟨sn, rfl, a⟩ := h
 refine ⟨⟨sn, rfl, own_strs a h1⟩, fun v hv => ?_⟩
 simp only [tCells, List.mem_cons, List.not_mem_nil, or_false] at hv
 rcases hv with rfl | rfl | rfl | rfl | rfl | rfl | rfl | rfl <;> first | exact own_capv a | exact cap_no (by intros; intro q; cases q)
theorem flatR_set {cs : Nat → List Value} {k n i j : Nat} {x : Value} (hk : 0 < k) (h : ∀ m, m < n → (cs m).length = k) (hi : i < n) (hj : j < k) : (flatR cs n).set (i * k + j) x = flatR (fun m => if m = i then (cs i).set j x else cs m) n := by
 have h1 : ((cs i).set j x).length = k := by rw [List.length_set]; exact h i hi
 have hl := flatR_len n h
 have hik : i * k + k ≤ n * k := by
  have := Nat.mul_le_mul_right k (show i + 1 ≤ n by omega)
  rwa [Nat.succ_mul] at this
 rw [← flatR_put hk h hi h1]
 apply List.ext_getElem?
 intro m
 rw [putRow_at _ _ _ _ (by rw [hl, h1]; exact hik), h1]
 by_cases e : m = i * k + j
 · subst e
   rw [List.getElem?_set_self (by omega), if_pos (by omega), Nat.add_sub_cancel_left, List.getElem?_set_self (by rw [h i hi]; exact hj)]
 · rw [List.getElem?_set_ne (by omega)]
   split
   · rename_i q
     obtain ⟨d, rfl⟩ : ∃ d, m = i * k + d := ⟨m - i * k, by omega⟩
     rw [Nat.add_sub_cancel_left, List.getElem?_set_ne (by omega)]
     exact flatR_at n h i hi d (by omega)
   · rfl
theorem own_set1 {w : World} {B k n g c o : Nat} {e : TypeId} {xs : List Value} (h : w.ownsRow B e k (.slice (some ⟨g, 0, none⟩) n c) n xs) (ho : o < n * k) (x : Value) : (w.setCell ⟨g, o, none⟩ x).ownsRow B e k (.slice (some ⟨g, 0, none⟩) n c) n (xs.set o x) := own_putIn (vs := [x]) h ho
theorem own_at {w : World} {B k n g c i j : Nat} {e : TypeId} {cs : Nat → List Value} (h : w.ownsRow B e k (.slice (some ⟨g, 0, none⟩) n c) n (flatR cs n)) (hi : i < n) (hk : ∀ m, m < n → (cs m).length = k) (hj : j < k) : w.cell? ⟨g, i * k + j, none⟩ = (cs i)[j]? := by
 rw [← flatR_at n hk i hi j hj]
 obtain ⟨hl, hn | ⟨g', cap, cur, he, hB, hg, hc, hM, hs, ht⟩⟩ := h
 · cases hn.1
 · injection he with e1 _ e3
   injection e1 with e1
   injection e1 with e1
   subst e1 e3
   have hb : Blk w g cur.toList e := by unfold Blk; rw [Array.toArray_toList]; exact hg
   rw [hb.cell (i * k + j), ← ht, List.getElem?_take, if_pos]
   have : (i + 1) * k ≤ n * k := Nat.mul_le_mul_right k (by omega)
   rw [Nat.succ_mul] at this
   omega
theorem flatR_set3 {cs : Nat → List Value} {k n i a b c : Nat} {x y z : Value} (hk : 0 < k) (h : ∀ m, m < n → (cs m).length = k) (hi : i < n) (ha : a < k) (hb : b < k) (hc : c < k) : (((flatR cs n).set (i * k + a) x).set (i * k + b) y).set (i * k + c) z = flatR (fun m => if m = i then (((cs i).set a x).set b y).set c z else cs m) n := by
 have q1 : ∀ m, m < n → (if m = i then (cs i).set a x else cs m).length = k := fun m hm => by
  split
  · rw [List.length_set]; exact h i hi
  · exact h m hm
 have q2 : ∀ m, m < n → (if m = i then ((cs i).set a x).set b y else cs m).length = k := fun m hm => by
  split
  · rw [List.length_set, List.length_set]; exact h i hi
  · exact h m hm
 have e1 : (fun m => if m = i then (if i = i then (cs i).set a x else cs i).set b y else if m = i then (cs i).set a x else cs m) = (fun m => if m = i then ((cs i).set a x).set b y else cs m) := by
  funext m
  rw [if_pos rfl]
  split <;> rfl
 have e2 : (fun m => if m = i then (if i = i then ((cs i).set a x).set b y else cs i).set c z else if m = i then ((cs i).set a x).set b y else cs m) = (fun m => if m = i then (((cs i).set a x).set b y).set c z else cs m) := by
  funext m
  rw [if_pos rfl]
  split <;> rfl
 rw [flatR_set hk h hi ha, flatR_set hk q1 hi hb, e1, flatR_set hk q2 hi hc, e2]
def CloneAll (r : R9) (w : World) (e : Ending) (w' : World) : Prop := ∃ q0 k0 q1 k1 q2 k2 cu cw ct, e = .returned (.agg #[.slice q0 r.us.length k0, .slice q1 r.ws.length k1, .slice q2 r.ts.length k2]) ∧
 w'.ownsRow w.heap.size 53 19 (.slice q0 r.us.length k0) r.us.length (flatR cu r.us.length) ∧ w'.ownsRow w.heap.size 51 6 (.slice q1 r.ws.length k1) r.ws.length (flatR cw r.ws.length) ∧ w'.ownsRow w.heap.size 56 8 (.slice q2 r.ts.length k2) r.ts.length (flatR ct r.ts.length) ∧
 (∀ j (h : j < r.us.length), UN w' w.heap.size (cu j) (r.us[j]'h)) ∧ (∀ j (h : j < r.ws.length), WL (cw j) (r.ws[j]'h)) ∧ (∀ j (h : j < r.ts.length), TN w' w.heap.size (ct j) (r.ts[j]'h)) ∧ Below w.heap.size w w'
set_option maxHeartbeats 8000000 in
set_option maxRecDepth 100000 in
theorem dclone_b (su sw st : Value) (r : R9) (V0 W : World) (hR : RAt V0 su sw st r) (h0 : Below V0.heap.size V0 W) (hu : r.us.length ≤ 10000) (hw : r.ws.length ≤ 10000) (ht : r.ts.length ≤ 10000) (hlu : ∀ u ∈ r.us, u.needs.length ≤ 100000 ∧ u.trains.length ≤ 100000 ∧ u.ress.length ≤ 100000) (hlt9 : ∀ u ∈ r.ts, u.needs.length ≤ 100000) :
 Calls Tryz.prog 33 #[.agg #[su, sw, st]] W (CloneAll r W) := by
 obtain ⟨csu, hru, hcu⟩ := hR.u.rowU
 obtain ⟨csw, hrw, hcw⟩ := hR.w.rowW
 obtain ⟨cst, hrt, hct⟩ := hR.t.rowT
 have hu1 : ∀ i, i < r.us.length → (csu i).length = 19 ∧ ∀ v ∈ csu i, v.oneCell' = true := fun i h => ⟨(hcu i h).len, (hcu i h).lone⟩
 have hw1 : ∀ i, i < r.ws.length → (csw i).length = 6 ∧ ∀ v ∈ csw i, v.oneCell' = true := fun i h => ⟨(hcw i h).len, (hcw i h).lone⟩
 have ht1 : ∀ i, i < r.ts.length → (cst i).length = 8 ∧ ∀ v ∈ cst i, v.oneCell' = true := fun i h => ⟨(hct i h).len, (hct i h).lone⟩
 obtain ⟨p, c, rfl, -, -⟩ := hR.u
 obtain ⟨p1, c1, rfl, -, -⟩ := hR.w
 obtain ⟨p2, c2, rfl, -, -⟩ := hR.t
 have hB := (Blk.new W [.slice p r.us.length c, .slice p1 r.ws.length c1, .slice p2 r.ts.length c2] 31).alloc (.cells ([.slice none 0 0, .slice none 0 0, .slice none 0 0] : List Value).toArray 31)
 have hZ := (Blk.new (W.alloc (.cells [.slice p r.us.length c, .slice p1 r.ws.length c1, .slice p2 r.ts.length c2].toArray 31)) [.slice none 0 0, .slice none 0 0, .slice none 0 0] 31).at (World.size_alloc _ _)
 have hL := ((Below.refl W.heap.size W).alloc (Nat.le_refl _) (.cells [.slice p r.us.length c, .slice p1 r.ws.length c1, .slice p2 r.ts.length c2].toArray 31)).alloc (by simp) (.cells ([.slice none 0 0, .slice none 0 0, .slice none 0 0] : List Value).toArray 31)
 clear hR
 go_enter Tryz.func33, Tryz.ntmps33
 go_upto_region 1 with fail
 generalize (W.alloc (.cells [.slice p r.us.length c, .slice p1 r.ws.length c1, .slice p2 r.ts.length c2].toArray 31)).alloc (.cells ([.slice none 0 0, .slice none 0 0, .slice none 0 0] : List Value).toArray 31) = X at *
 have hxl := hB.lt
 have z0 := hB.cell 0
 have z1 := hB.cell 1
 have z2 := hB.cell 2
 simp only [List.getElem?_cons_zero, List.getElem?_cons_succ] at z0 z1 z2
 have hV2 := h0.trans (hL.mono h0.size)
 have hzl := hZ.lt
 have hmx : Tryz.prog.follows .mixedOrders = true := by kernel_rfl
 go_cut [] from 7 to 18 (fun wy => ∃ q0 k0 q1 k1 q2 k2, Blk wy W.heap.size [.slice q0 r.us.length k0, .slice q1 r.ws.length k1, .slice q2 r.ts.length k2] 31 ∧ wy.ownsRow (W.heap.size + 2) 53 19 (.slice q0 r.us.length k0) r.us.length (flatR csu r.us.length) ∧ wy.ownsRow (W.heap.size + 2) 51 6 (.slice q1 r.ws.length k1) r.ws.length (flatR csw r.ws.length) ∧ wy.ownsRow (W.heap.size + 2) 56 8 (.slice q2 r.ts.length k2) r.ts.length (flatR cst r.ts.length) ∧ Blk wy (W.heap.size + 1) [.slice none 0 0, .slice none 0 0, .slice none 0 0] 31 ∧ Below W.heap.size W wy)
 case first =>
  refine wp_region_any hmx (wpAny_of_late (lt := (fun x => x == 10 || x == 11 || x == 12 || x == 13 || x == 14)) (S := fun w' => Below X.heap.size X w') _ _ _ _ ?_)
  show wpAnyM _ _ _ _ _ _ _ _ _ X.drew
  have hS0 := (Below.refl X.heap.size X).drew
  refine late_tk (lt := (fun x => x == 10 || x == 11 || x == 12 || x == 13 || x == 14)) (i := 0) (v := .pointer (some ⟨W.heap.size, 0, none⟩)) (some 7) rfl (fun w' hS => by skip; go_simp) hS0 ?_
  simp only [Act.put, List.setIfInBounds_toArray, List.set_cons_zero, List.set_cons_succ]
  refine late_tk (lt := (fun x => x == 10 || x == 11 || x == 12 || x == 13 || x == 14)) (i := 1) (v := .slice p r.us.length c) (some 8) rfl (fun w' hS => by (have := (hS.cell (p := ⟨W.heap.size, 0, none⟩) hxl).trans z0); go_simp) hS0 ?_
  simp only [Act.put, List.setIfInBounds_toArray, List.set_cons_zero, List.set_cons_succ]
  refine late_tk (lt := (fun x => x == 10 || x == 11 || x == 12 || x == 13 || x == 14)) (i := 3) (v := .pointer (some ⟨W.heap.size, 1, none⟩)) (some 10) rfl (fun w' hS => by skip; go_simp) hS0 ?_
  simp only [Act.put, List.setIfInBounds_toArray, List.set_cons_zero, List.set_cons_succ]
  refine late_tk (lt := (fun x => x == 10 || x == 11 || x == 12 || x == 13 || x == 14)) (i := 4) (v := .slice p1 r.ws.length c1) (some 11) rfl (fun w' hS => by (have := (hS.cell (p := ⟨W.heap.size, 1, none⟩) hxl).trans z1); go_simp) hS0 ?_
  simp only [Act.put, List.setIfInBounds_toArray, List.set_cons_zero, List.set_cons_succ]
  refine late_tk (lt := (fun x => x == 10 || x == 11 || x == 12 || x == 13 || x == 14)) (i := 6) (v := .pointer (some ⟨W.heap.size, 2, none⟩)) (some 13) rfl (fun w' hS => by skip; go_simp) hS0 ?_
  simp only [Act.put, List.setIfInBounds_toArray, List.set_cons_zero, List.set_cons_succ]
  refine late_tk (lt := (fun x => x == 10 || x == 11 || x == 12 || x == 13 || x == 14)) (i := 7) (v := .slice p2 r.ts.length c2) (some 14) rfl (fun w' hS => by (have := (hS.cell (p := ⟨W.heap.size, 2, none⟩) hxl).trans z2); go_simp) hS0 ?_
  simp only [Act.put, List.setIfInBounds_toArray, List.set_cons_zero, List.set_cons_succ]
  refine late_one (i := 2) (by kernel_rfl) rfl (fun K hQ => ?_)
  go_simp
  (with_reducible refine (lcloneU_b r.us.length csu _ V0 _ hru (hV2.trans (hS0.mono hV2.size)) hu hu1).mono ?_)
  rintro e w2 ⟨q0, k0, rfl, t0, hb0⟩
  have hS1 := below_call hS0 hb0
  have hz0 := hS0.size
  replace t0 := own_base t0 (show W.heap.size + 2 ≤ _ by omega)
  refine hQ.out _ _ (fun _ => hS1) ?_
  clear hQ
  try simp only [Act.put, List.setIfInBounds_toArray, List.set_cons_zero, List.set_cons_succ]
  refine late_tk (lt := (fun x => x == 10 || x == 11 || x == 12 || x == 13 || x == 14)) (i := 9) (v := .pointer (some ⟨W.heap.size, 0, none⟩)) (some 16) rfl (fun w' hS => by skip; go_simp) hS1 ?_
  simp only [Act.put, List.setIfInBounds_toArray, List.set_cons_zero, List.set_cons_succ]
  refine late_one (i := 5) (by kernel_rfl) rfl (fun K hQ => ?_)
  go_simp
  (with_reducible refine (lcloneW_b r.ws.length csw _ V0 _ hrw (hV2.trans (hS1.mono hV2.size)) hw hw1).mono ?_)
  rintro e w3 ⟨q1, k1, rfl, t1, hb1⟩
  have hS2 := below_call hS1 hb1
  have hz1 := hS1.size
  replace t1 := own_base t1 (show W.heap.size + 2 ≤ _ by omega)
  replace t0 := own_below t0 hb1
  refine hQ.out _ _ (fun _ => hS2) ?_
  clear hQ
  try simp only [Act.put, List.setIfInBounds_toArray, List.set_cons_zero, List.set_cons_succ]
  refine late_one (i := 8) (by kernel_rfl) rfl (fun K hQ => ?_)
  go_simp
  (with_reducible refine (lcloneT_b r.ts.length cst _ V0 _ hrt (hV2.trans (hS2.mono hV2.size)) ht ht1).mono ?_)
  rintro e w4 ⟨q2, k2, rfl, t2, hb2⟩
  have hS3 := below_call hS2 hb2
  have hz2 := hS2.size
  replace t2 := own_base t2 (show W.heap.size + 2 ≤ _ by omega)
  replace t0 := own_below t0 hb2
  replace t1 := own_below t1 hb2
  refine hQ.out _ _ (fun _ => hS3) ?_
  clear hQ
  try simp only [Act.put, List.setIfInBounds_toArray, List.set_cons_zero, List.set_cons_succ]
  have hX1 := hB.below hS3
  have hZ1 := hZ.below hS3
  have hL1 := below_call hL hS3
  clear hS0 hS1 hS2 hS3 hB hZ hL hb0 hb1 hb2 z0 z1 z2
  have g0 := hX1.cell 0
  simp only [List.getElem?_cons_zero] at g0
  have f0 := hX1.frozen 0
  refine late_one (i := 10) (by kernel_rfl) rfl (fun K hQ => ?_)
  go_simp
  refine hQ.out _ _ (fun h => by cases h) ?_
  clear hQ
  replace hX1 := hX1.set 0 (.slice q0 r.us.length k0)
  replace hZ1 := hZ1.far (c := W.heap.size) (i := 0) (.slice q0 r.us.length k0) (by omega)
  replace hL1 := hL1.setCell (p := ⟨W.heap.size, 0, none⟩) (Nat.le_refl _) (.slice q0 r.us.length k0)
  replace t0 := own_cell (i := 0) t0 (show W.heap.size < W.heap.size + 2 by omega) (.slice q0 r.us.length k0)
  replace t1 := own_cell (i := 0) t1 (show W.heap.size < W.heap.size + 2 by omega) (.slice q0 r.us.length k0)
  replace t2 := own_cell (i := 0) t2 (show W.heap.size < W.heap.size + 2 by omega) (.slice q0 r.us.length k0)
  clear g0 f0
  try simp only [Act.put, List.setIfInBounds_toArray, List.set_cons_zero, List.set_cons_succ]
  refine late_one (i := 11) (by kernel_rfl) rfl (fun K hQ => ?_)
  go_simp
  refine hQ.out _ _ (fun h => by cases h) ?_
  clear hQ
  skip
  try simp only [Act.put, List.setIfInBounds_toArray, List.set_cons_zero, List.set_cons_succ]
  have g1 := hX1.cell 1
  simp only [List.getElem?_cons_zero, List.getElem?_cons_succ, List.set_cons_zero] at g1
  have f1 := hX1.frozen 1
  refine late_one (i := 12) (by kernel_rfl) rfl (fun K hQ => ?_)
  go_simp
  refine hQ.out _ _ (fun h => by cases h) ?_
  clear hQ
  replace hX1 := hX1.set 1 (.slice q1 r.ws.length k1)
  replace hZ1 := hZ1.far (c := W.heap.size) (i := 1) (.slice q1 r.ws.length k1) (by omega)
  replace hL1 := hL1.setCell (p := ⟨W.heap.size, 1, none⟩) (Nat.le_refl _) (.slice q1 r.ws.length k1)
  replace t0 := own_cell (i := 1) t0 (show W.heap.size < W.heap.size + 2 by omega) (.slice q1 r.ws.length k1)
  replace t1 := own_cell (i := 1) t1 (show W.heap.size < W.heap.size + 2 by omega) (.slice q1 r.ws.length k1)
  replace t2 := own_cell (i := 1) t2 (show W.heap.size < W.heap.size + 2 by omega) (.slice q1 r.ws.length k1)
  clear g1 f1
  try simp only [Act.put, List.setIfInBounds_toArray, List.set_cons_zero, List.set_cons_succ]
  refine late_one (i := 13) (by kernel_rfl) rfl (fun K hQ => ?_)
  go_simp
  refine hQ.out _ _ (fun h => by cases h) ?_
  clear hQ
  skip
  try simp only [Act.put, List.setIfInBounds_toArray, List.set_cons_zero, List.set_cons_succ]
  have g2 := hX1.cell 2
  simp only [List.getElem?_cons_zero, List.getElem?_cons_succ, List.set_cons_zero, List.set_cons_succ] at g2
  have f2 := hX1.frozen 2
  refine late_one (i := 14) (by kernel_rfl) rfl (fun K hQ => ?_)
  go_simp
  refine hQ.out _ _ (fun h => by cases h) ?_
  clear hQ
  replace hX1 := hX1.set 2 (.slice q2 r.ts.length k2)
  replace hZ1 := hZ1.far (c := W.heap.size) (i := 2) (.slice q2 r.ts.length k2) (by omega)
  replace hL1 := hL1.setCell (p := ⟨W.heap.size, 2, none⟩) (Nat.le_refl _) (.slice q2 r.ts.length k2)
  replace t0 := own_cell (i := 2) t0 (show W.heap.size < W.heap.size + 2 by omega) (.slice q2 r.ts.length k2)
  replace t1 := own_cell (i := 2) t1 (show W.heap.size < W.heap.size + 2 by omega) (.slice q2 r.ts.length k2)
  replace t2 := own_cell (i := 2) t2 (show W.heap.size < W.heap.size + 2 by omega) (.slice q2 r.ts.length k2)
  clear g2 f2
  try simp only [Act.put, List.setIfInBounds_toArray, List.set_cons_zero, List.set_cons_succ]
  refine late_done (by kernel_rfl) ?_ _
  show Exit.then _ _ Exit.normal _ _
  go_wp2_with fail
  go_meet
  case rel => exact ⟨q0, k0, q1, k1, q2, k2, hX1, t0, t1, t2, hZ1, hL1⟩
 case rest =>
 obtain ⟨q0, k0, q1, k1, q2, k2, hX1, t0, t1, t2, hZ1, hL1⟩ := hcut
 clear hB hZ hL z0 z1 z2 hV2 hru hrw hrt hw1
 rename_i wa _
 obtain ⟨_, _, _, _, _, _⟩ := hX1.three
 go_upto_region 3 with fail
 go_loopw [22] (fun vi wr => ∃ (i : Nat) (cu : Nat → List Value), vi = .int .i64 i ∧ i ≤ r.us.length ∧ Blk wr W.heap.size [.slice q0 r.us.length k0, .slice q1 r.ws.length k1, .slice q2 r.ts.length k2] 31 ∧ wr.ownsRow (W.heap.size + 2) 53 19 (.slice q0 r.us.length k0) r.us.length (flatR cu r.us.length) ∧ wr.ownsRow (W.heap.size + 2) 51 6 (.slice q1 r.ws.length k1) r.ws.length (flatR csw r.ws.length) ∧ wr.ownsRow (W.heap.size + 2) 56 8 (.slice q2 r.ts.length k2) r.ts.length (flatR cst r.ts.length) ∧ Blk wr (W.heap.size + 1) [.slice none 0 0, .slice none 0 0, .slice none 0 0] 31 ∧ Below W.heap.size W wr ∧ Hid (∀ j (h : j < r.us.length), (j < i → UN wr (W.heap.size + 2) (cu j) (r.us[j]'h)) ∧ (i ≤ j → cu j = csu j))) (fun vi _ => r.us.length - (RowKit.intOf vi).toNat)
 case atStart => exact ⟨0, csu, rfl, by omega, hX1, t0, t1, t2, hZ1, hL1, hid fun j h => ⟨fun h => by omega, fun _ => rfl⟩⟩
 case round =>
  clear hX1 t0 t1 t2 hZ1 hL1
  obtain ⟨i, cu, rfl, hi, hX1, t0, t1, t2, hZ1, hL1, hI⟩ := hrel
  have hV2 := h0.trans (hL1.mono h0.size)
  by_cases hlt : i < r.us.length
  · obtain ⟨g, rfl⟩ := own_g t0 (by omega)
    have d1 : (i : Int) < r.us.length := by omega
    have d0 : (0 : Int) ≤ i := by omega
    have e0 : cu i = csu i := (hI.out i hlt).2 (by omega)
    obtain ⟨sn, st, sr, eC, a1, a2, a3⟩ := hcu i hlt
    have hli := hlu _ (List.getElem_mem hlt)
    obtain ⟨cur, hg, hcl, hgB⟩ := own_blk t0
    have hgl := hg.lt
    have hcell : ∀ j, j < 19 → wr.cell? ⟨g, i * 19 + j, none⟩ = (cu i)[j]? := fun j hj => by
     have hcl9 : ∀ m, m < r.us.length → (cu m).length = 19 := fun m hm => by
      rcases Nat.lt_or_ge m i with q | q
      · obtain ⟨x, y, z, e, -⟩ := (hI.out m hm).1 q
        rw [e]
        rfl
      · rw [(hI.out m hm).2 q]
        exact (hu1 m hm).1
     exact own_at t0 hlt hcl9 hj
    have c16 := hcell 16 (by decide)
    have c17 := hcell 17 (by decide)
    have c18 := hcell 18 (by decide)
    rw [e0, eC] at c16 c17 c18
    replace c16 : wr.cell? ⟨g, i * 19 + 16, none⟩ = some sn := c16
    replace c17 : wr.cell? ⟨g, i * 19 + 17, none⟩ = some st := c17
    replace c18 : wr.cell? ⟨g, i * 19 + 18, none⟩ = some sr := c18
    clear hcell hg hcl
    obtain ⟨_, _, _, _, _, _⟩ := hX1.three
    go_upto_region 6 with fail
    refine wp_region_held (S := fun _ => True) hmx ?_
    show wpAnyH _ _ _ _ _ _ _ _ wr.drew
    refine reg_tk (i := 0) (v := .pointer (some ⟨g, i * 19, none⟩)) (some 29) rfl (fun w' hS => by go_simp) trivial ?_
    simp only [Act.put, List.setIfInBounds_toArray, List.set_cons_zero, List.set_cons_succ]
    refine reg_tk (i := 1) (v := .pointer (some ⟨g, i * 19, none⟩)) (some 30) rfl (fun w' hS => by go_simp) trivial ?_
    simp only [Act.put, List.setIfInBounds_toArray, List.set_cons_zero, List.set_cons_succ]
    refine reg_tk (i := 2) (v := .pointer (some ⟨g, i * 19, none⟩)) (some 31) rfl (fun w' hS => by go_simp) trivial ?_
    simp only [Act.put, List.setIfInBounds_toArray, List.set_cons_zero, List.set_cons_succ]
    refine reg_tk (i := 3) (v := .pointer (some ⟨g, i * 19, none⟩)) (some 32) rfl (fun w' hS => by go_simp) trivial ?_
    simp only [Act.put, List.setIfInBounds_toArray, List.set_cons_zero, List.set_cons_succ]
    refine reg_tk (i := 4) (v := .pointer (some ⟨g, i * 19, none⟩)) (some 33) rfl (fun w' hS => by go_simp) trivial ?_
    simp only [Act.put, List.setIfInBounds_toArray, List.set_cons_zero, List.set_cons_succ]
    refine reg_tk (i := 5) (v := .pointer (some ⟨g, i * 19 + 16, none⟩)) (some 34) rfl (fun w' hS => by go_simp) trivial ?_
    simp only [Act.put, List.setIfInBounds_toArray, List.set_cons_zero, List.set_cons_succ]
    refine reg_tk (i := 8) (v := .pointer (some ⟨g, i * 19, none⟩)) (some 37) rfl (fun w' hS => by go_simp) trivial ?_
    simp only [Act.put, List.setIfInBounds_toArray, List.set_cons_zero, List.set_cons_succ]
    refine reg_tk (i := 9) (v := .pointer (some ⟨g, i * 19, none⟩)) (some 38) rfl (fun w' hS => by go_simp) trivial ?_
    simp only [Act.put, List.setIfInBounds_toArray, List.set_cons_zero, List.set_cons_succ]
    refine reg_tk (i := 10) (v := .pointer (some ⟨g, i * 19 + 17, none⟩)) (some 39) rfl (fun w' hS => by go_simp) trivial ?_
    simp only [Act.put, List.setIfInBounds_toArray, List.set_cons_zero, List.set_cons_succ]
    refine reg_tk (i := 13) (v := .pointer (some ⟨g, i * 19, none⟩)) (some 42) rfl (fun w' hS => by go_simp) trivial ?_
    simp only [Act.put, List.setIfInBounds_toArray, List.set_cons_zero, List.set_cons_succ]
    refine reg_tk (i := 14) (v := .pointer (some ⟨g, i * 19, none⟩)) (some 43) rfl (fun w' hS => by go_simp) trivial ?_
    simp only [Act.put, List.setIfInBounds_toArray, List.set_cons_zero, List.set_cons_succ]
    refine reg_tk (i := 15) (v := .pointer (some ⟨g, i * 19 + 18, none⟩)) (some 44) rfl (fun w' hS => by go_simp) trivial ?_
    simp only [Act.put, List.setIfInBounds_toArray, List.set_cons_zero, List.set_cons_succ]
    refine wpAnyH_of_any _ _ _ _ (wpAny_of_late (lt := (fun x => decide (18 ≤ x))) (S := fun w' => Below wr.heap.size wr w') _ _ _ _ ?_)
    have hS0 := (Below.refl wr.heap.size wr).drew
    refine late_tk (lt := (fun x => decide (18 ≤ x))) (i := 6) (v := sn) (some 35) rfl (fun w' hS => by (have := (hS.cell (p := ⟨g, i * 19 + 16, none⟩) hgl).trans c16); go_simp) hS0 ?_
    simp only [Act.put, List.setIfInBounds_toArray, List.set_cons_zero, List.set_cons_succ]
    refine late_tk (lt := (fun x => decide (18 ≤ x))) (i := 11) (v := st) (some 40) rfl (fun w' hS => by (have := (hS.cell (p := ⟨g, i * 19 + 17, none⟩) hgl).trans c17); go_simp) hS0 ?_
    simp only [Act.put, List.setIfInBounds_toArray, List.set_cons_zero, List.set_cons_succ]
    refine late_tk (lt := (fun x => decide (18 ≤ x))) (i := 16) (v := sr) (some 45) rfl (fun w' hS => by (have := (hS.cell (p := ⟨g, i * 19 + 18, none⟩) hgl).trans c18); go_simp) hS0 ?_
    simp only [Act.put, List.setIfInBounds_toArray, List.set_cons_zero, List.set_cons_succ]
    refine late_one (i := 7) (by kernel_rfl) rfl (fun K hQ => ?_)
    go_simp
    (with_reducible refine (lclone_b _ _ V0 _ a1 (hV2.trans (hS0.mono hV2.size)) hli.1).mono ?_)
    rintro e w2 ⟨p0, d0, rfl, n0, hb0⟩
    have hS1 := below_call hS0 hb0
    have hz0 := hS0.size
    replace n0 := own_base n0 (show W.heap.size + 2 ≤ _ by omega)
    refine hQ.out _ _ (fun _ => hS1) ?_
    clear hQ
    try simp only [Act.put, List.setIfInBounds_toArray, List.set_cons_zero, List.set_cons_succ]
    refine late_one (i := 12) (by kernel_rfl) rfl (fun K hQ => ?_)
    go_simp
    (with_reducible refine (lclone_b _ _ V0 _ a2 (hV2.trans (hS1.mono hV2.size)) hli.2.1).mono ?_)
    rintro e w3 ⟨p1, d1, rfl, n1, hb1⟩
    have hS2 := below_call hS1 hb1
    have hz1 := hS1.size
    replace n1 := own_base n1 (show W.heap.size + 2 ≤ _ by omega)
    replace n0 := own_below n0 hb1
    refine hQ.out _ _ (fun _ => hS2) ?_
    clear hQ
    try simp only [Act.put, List.setIfInBounds_toArray, List.set_cons_zero, List.set_cons_succ]
    refine late_one (i := 17) (by kernel_rfl) rfl (fun K hQ => ?_)
    go_simp
    (with_reducible refine (lclone_b _ _ V0 _ a3 (hV2.trans (hS2.mono hV2.size)) hli.2.2).mono ?_)
    rintro e w4 ⟨p2, d2, rfl, n2, hb2⟩
    have hS3 := below_call hS2 hb2
    have hz2 := hS2.size
    replace n2 := own_base n2 (show W.heap.size + 2 ≤ _ by omega)
    replace n0 := own_below n0 hb2
    replace n1 := own_below n1 hb2
    refine hQ.out _ _ (fun _ => hS3) ?_
    clear hQ
    try simp only [Act.put, List.setIfInBounds_toArray, List.set_cons_zero, List.set_cons_succ]
    replace hX1 := hX1.below hS3
    replace hZ1 := hZ1.below hS3
    replace hL1 := below_call hL1 hS3
    replace t0 := own_below t0 hS3
    replace t1 := own_below t1 hS3
    replace t2 := own_below t2 hS3
    have hI' : ∀ j (h : j < r.us.length), j < i → UN w4 (W.heap.size + 2) (cu j) (r.us[j]'h) := fun j h hj => ((hI.out j h).1 hj).below hS3
    have hI2 : ∀ j (h : j < r.us.length), i ≤ j → cu j = csu j := fun j h hj => (hI.out j h).2 hj
    clear hI hS0 hS1 hS2 hS3 hb0 hb1 hb2 c16 c17 c18 hV2 hz0 hz1 hz2
    refine late_one (i := 18) (by kernel_rfl) rfl (fun K hQ => ?_)
    go_simp
    refine hQ.out _ _ (fun h => by cases h) ?_
    clear hQ
    skip
    try simp only [Act.put, List.setIfInBounds_toArray, List.set_cons_zero, List.set_cons_succ]
    refine late_one (i := 19) (by kernel_rfl) rfl (fun K hQ => ?_)
    go_simp
    refine hQ.out _ _ (fun h => by cases h) ?_
    clear hQ
    skip
    try simp only [Act.put, List.setIfInBounds_toArray, List.set_cons_zero, List.set_cons_succ]
    obtain ⟨cur, hg, hcl, hgB⟩ := own_blk t0
    have gs := hg.cell (i * 19 + 16)
    rw [List.getElem?_eq_getElem (show i * 19 + 16 < cur.length by omega)] at gs
    have gf := hg.frozen (i * 19 + 16)
    refine late_one (i := 20) (by kernel_rfl) rfl (fun K hQ => ?_)
    go_simp
    refine hQ.out _ _ (fun h => by cases h) ?_
    clear hQ
    replace hX1 := hX1.far (c := g) (i := i * 19 + 16) (.slice p0 (r.us[i]'hlt).needs.length d0) (by omega)
    replace hZ1 := hZ1.far (c := g) (i := i * 19 + 16) (.slice p0 (r.us[i]'hlt).needs.length d0) (by omega)
    replace hL1 := hL1.setCell (p := ⟨g, i * 19 + 16, none⟩) (by show W.heap.size ≤ g; omega) (.slice p0 (r.us[i]'hlt).needs.length d0)
    replace hI' := fun j h hj => (hI' j h hj).moves hg (by decide) (fun k hk => Below.heap_setCell _ ⟨g, i * 19 + 16, none⟩ (.slice p0 (r.us[i]'hlt).needs.length d0) k hk)
    replace t1 := own_byType t1 hg (by decide) (fun k hk => Below.heap_setCell _ ⟨g, i * 19 + 16, none⟩ (.slice p0 (r.us[i]'hlt).needs.length d0) k hk)
    replace t2 := own_byType t2 hg (by decide) (fun k hk => Below.heap_setCell _ ⟨g, i * 19 + 16, none⟩ (.slice p0 (r.us[i]'hlt).needs.length d0) k hk)
    replace n0 := own_byType n0 hg (by decide) (fun k hk => Below.heap_setCell _ ⟨g, i * 19 + 16, none⟩ (.slice p0 (r.us[i]'hlt).needs.length d0) k hk)
    replace n1 := own_byType n1 hg (by decide) (fun k hk => Below.heap_setCell _ ⟨g, i * 19 + 16, none⟩ (.slice p0 (r.us[i]'hlt).needs.length d0) k hk)
    replace n2 := own_byType n2 hg (by decide) (fun k hk => Below.heap_setCell _ ⟨g, i * 19 + 16, none⟩ (.slice p0 (r.us[i]'hlt).needs.length d0) k hk)
    replace t0 := own_set1 (o := i * 19 + 16) t0 (by omega) (.slice p0 (r.us[i]'hlt).needs.length d0)
    clear gs gf hg hcl hgB cur
    try simp only [Act.put, List.setIfInBounds_toArray, List.set_cons_zero, List.set_cons_succ]
    refine late_one (i := 21) (by kernel_rfl) rfl (fun K hQ => ?_)
    go_simp
    refine hQ.out _ _ (fun h => by cases h) ?_
    clear hQ
    skip
    try simp only [Act.put, List.setIfInBounds_toArray, List.set_cons_zero, List.set_cons_succ]
    refine late_one (i := 22) (by kernel_rfl) rfl (fun K hQ => ?_)
    go_simp
    refine hQ.out _ _ (fun h => by cases h) ?_
    clear hQ
    skip
    try simp only [Act.put, List.setIfInBounds_toArray, List.set_cons_zero, List.set_cons_succ]
    obtain ⟨cur, hg, hcl, hgB⟩ := own_blk t0
    have gs := hg.cell (i * 19 + 17)
    rw [List.getElem?_eq_getElem (show i * 19 + 17 < cur.length by omega)] at gs
    have gf := hg.frozen (i * 19 + 17)
    refine late_one (i := 23) (by kernel_rfl) rfl (fun K hQ => ?_)
    go_simp
    refine hQ.out _ _ (fun h => by cases h) ?_
    clear hQ
    replace hX1 := hX1.far (c := g) (i := i * 19 + 17) (.slice p1 (r.us[i]'hlt).trains.length d1) (by omega)
    replace hZ1 := hZ1.far (c := g) (i := i * 19 + 17) (.slice p1 (r.us[i]'hlt).trains.length d1) (by omega)
    replace hL1 := hL1.setCell (p := ⟨g, i * 19 + 17, none⟩) (by show W.heap.size ≤ g; omega) (.slice p1 (r.us[i]'hlt).trains.length d1)
    replace hI' := fun j h hj => (hI' j h hj).moves hg (by decide) (fun k hk => Below.heap_setCell _ ⟨g, i * 19 + 17, none⟩ (.slice p1 (r.us[i]'hlt).trains.length d1) k hk)
    replace t1 := own_byType t1 hg (by decide) (fun k hk => Below.heap_setCell _ ⟨g, i * 19 + 17, none⟩ (.slice p1 (r.us[i]'hlt).trains.length d1) k hk)
    replace t2 := own_byType t2 hg (by decide) (fun k hk => Below.heap_setCell _ ⟨g, i * 19 + 17, none⟩ (.slice p1 (r.us[i]'hlt).trains.length d1) k hk)
    replace n0 := own_byType n0 hg (by decide) (fun k hk => Below.heap_setCell _ ⟨g, i * 19 + 17, none⟩ (.slice p1 (r.us[i]'hlt).trains.length d1) k hk)
    replace n1 := own_byType n1 hg (by decide) (fun k hk => Below.heap_setCell _ ⟨g, i * 19 + 17, none⟩ (.slice p1 (r.us[i]'hlt).trains.length d1) k hk)
    replace n2 := own_byType n2 hg (by decide) (fun k hk => Below.heap_setCell _ ⟨g, i * 19 + 17, none⟩ (.slice p1 (r.us[i]'hlt).trains.length d1) k hk)
    replace t0 := own_set1 (o := i * 19 + 17) t0 (by omega) (.slice p1 (r.us[i]'hlt).trains.length d1)
    clear gs gf hg hcl hgB cur
    try simp only [Act.put, List.setIfInBounds_toArray, List.set_cons_zero, List.set_cons_succ]
    refine late_one (i := 24) (by kernel_rfl) rfl (fun K hQ => ?_)
    go_simp
    refine hQ.out _ _ (fun h => by cases h) ?_
    clear hQ
    skip
    try simp only [Act.put, List.setIfInBounds_toArray, List.set_cons_zero, List.set_cons_succ]
    refine late_one (i := 25) (by kernel_rfl) rfl (fun K hQ => ?_)
    go_simp
    refine hQ.out _ _ (fun h => by cases h) ?_
    clear hQ
    skip
    try simp only [Act.put, List.setIfInBounds_toArray, List.set_cons_zero, List.set_cons_succ]
    obtain ⟨cur, hg, hcl, hgB⟩ := own_blk t0
    have gs := hg.cell (i * 19 + 18)
    rw [List.getElem?_eq_getElem (show i * 19 + 18 < cur.length by omega)] at gs
    have gf := hg.frozen (i * 19 + 18)
    refine late_one (i := 26) (by kernel_rfl) rfl (fun K hQ => ?_)
    go_simp
    refine hQ.out _ _ (fun h => by cases h) ?_
    clear hQ
    replace hX1 := hX1.far (c := g) (i := i * 19 + 18) (.slice p2 (r.us[i]'hlt).ress.length d2) (by omega)
    replace hZ1 := hZ1.far (c := g) (i := i * 19 + 18) (.slice p2 (r.us[i]'hlt).ress.length d2) (by omega)
    replace hL1 := hL1.setCell (p := ⟨g, i * 19 + 18, none⟩) (by show W.heap.size ≤ g; omega) (.slice p2 (r.us[i]'hlt).ress.length d2)
    replace hI' := fun j h hj => (hI' j h hj).moves hg (by decide) (fun k hk => Below.heap_setCell _ ⟨g, i * 19 + 18, none⟩ (.slice p2 (r.us[i]'hlt).ress.length d2) k hk)
    replace t1 := own_byType t1 hg (by decide) (fun k hk => Below.heap_setCell _ ⟨g, i * 19 + 18, none⟩ (.slice p2 (r.us[i]'hlt).ress.length d2) k hk)
    replace t2 := own_byType t2 hg (by decide) (fun k hk => Below.heap_setCell _ ⟨g, i * 19 + 18, none⟩ (.slice p2 (r.us[i]'hlt).ress.length d2) k hk)
    replace n0 := own_byType n0 hg (by decide) (fun k hk => Below.heap_setCell _ ⟨g, i * 19 + 18, none⟩ (.slice p2 (r.us[i]'hlt).ress.length d2) k hk)
    replace n1 := own_byType n1 hg (by decide) (fun k hk => Below.heap_setCell _ ⟨g, i * 19 + 18, none⟩ (.slice p2 (r.us[i]'hlt).ress.length d2) k hk)
    replace n2 := own_byType n2 hg (by decide) (fun k hk => Below.heap_setCell _ ⟨g, i * 19 + 18, none⟩ (.slice p2 (r.us[i]'hlt).ress.length d2) k hk)
    replace t0 := own_set1 (o := i * 19 + 18) t0 (by omega) (.slice p2 (r.us[i]'hlt).ress.length d2)
    clear gs gf hg hcl hgB cur
    try simp only [Act.put, List.setIfInBounds_toArray, List.set_cons_zero, List.set_cons_succ]
    refine late_done (by kernel_rfl) ?_ _
    show Exit.inBlock _ _ Exit.normal _ _


    have hcl : ∀ m, m < r.us.length → (cu m).length = 19 := fun m hm => by
     rcases Nat.lt_or_ge m i with q | q
     · obtain ⟨x, y, z, e, -⟩ := hI' m hm q
       rw [e]
       rfl
     · rw [hI2 m hm q]
       exact (hu1 m hm).1
    rw [flatR_set3 (by decide) hcl hlt (by decide) (by decide) (by decide), e0] at t0
    go_wp2_with fail
    go_roundw
    case rel =>
     refine ⟨i + 1, _, by go_num, by omega, hX1, t0, t1, t2, hZ1, hL1, hid fun j h => ⟨fun hj => ?_, fun hj => ?_⟩⟩
     · by_cases e : j = i
       · subst e
         rw [if_pos rfl]
         exact ⟨_, _, _, by rw [eC]; rfl, n0, n1, n2⟩
       · rw [if_neg e]
         exact hI' j h (by omega)
     · rw [if_neg (by omega)]
       exact hI2 j h (by omega)
    case measure => simp [RowKit.intOf]; omega
  · have d1 : ¬ (i : Int) < r.us.length := by omega
    obtain rfl : i = r.us.length := by omega
    have hun : ∀ j (h : j < r.us.length), UN wr (W.heap.size + 2) (cu j) (r.us[j]'h) := fun j h => (hI.out j h).1 h
    clear hI
    obtain ⟨_, _, _, _, _, _⟩ := hX1.three
    go_upto_region 9 with fail
    go_loopw [57] (fun vi wr => ∃ (i : Nat) (ct : Nat → List Value), vi = .int .i64 i ∧ i ≤ r.ts.length ∧ Blk wr W.heap.size [.slice q0 r.us.length k0, .slice q1 r.ws.length k1, .slice q2 r.ts.length k2] 31 ∧ wr.ownsRow (W.heap.size + 2) 53 19 (.slice q0 r.us.length k0) r.us.length (flatR cu r.us.length) ∧ wr.ownsRow (W.heap.size + 2) 51 6 (.slice q1 r.ws.length k1) r.ws.length (flatR csw r.ws.length) ∧ wr.ownsRow (W.heap.size + 2) 56 8 (.slice q2 r.ts.length k2) r.ts.length (flatR ct r.ts.length) ∧ Blk wr (W.heap.size + 1) [.slice none 0 0, .slice none 0 0, .slice none 0 0] 31 ∧ Below W.heap.size W wr ∧ Hid (∀ j (h : j < r.us.length), UN wr (W.heap.size + 2) (cu j) (r.us[j]'h)) ∧ Hid (∀ j (h : j < r.ts.length), (j < i → TN wr (W.heap.size + 2) (ct j) (r.ts[j]'h)) ∧ (i ≤ j → ct j = cst j))) (fun vi _ => r.ts.length - (RowKit.intOf vi).toNat)
    case atStart => exact ⟨0, cst, rfl, by omega, hX1, t0, t1, t2, hZ1, hL1, hid hun, hid fun j h => ⟨fun h => by omega, fun _ => rfl⟩⟩
    case round =>
     clear hX1 t0 t1 t2 hZ1 hL1 hun hV2
     obtain ⟨i, ct, rfl, hi, hX1, t0, t1, t2, hZ1, hL1, hU, hI⟩ := hrel
     have hV2 := h0.trans (hL1.mono h0.size)
     by_cases hlt : i < r.ts.length
     · obtain ⟨g, rfl⟩ := own_g t2 (by omega)
       have d1 : (i : Int) < r.ts.length := by omega
       have d0 : (0 : Int) ≤ i := by omega
       have e0 : ct i = cst i := (hI.out i hlt).2 (by omega)
       obtain ⟨sn, eC, a1⟩ := hct i hlt
       have hli := hlt9 _ (List.getElem_mem hlt)
       obtain ⟨cur, hg, hcl, hgB⟩ := own_blk t2
       have hgl := hg.lt
       have hzs := hL1.size
       have hz2 := hZ1.lt
       have c1 : wr.cell? ⟨g, i * 8 + 1, none⟩ = (ct i)[1]? := by
        have hcl9 : ∀ m, m < r.ts.length → (ct m).length = 8 := fun m hm => by
         rcases Nat.lt_or_ge m i with q | q
         · obtain ⟨x, e, -⟩ := (hI.out m hm).1 q
           rw [e]
           rfl
         · rw [(hI.out m hm).2 q]
           exact (ht1 m hm).1
        exact own_at t2 hlt hcl9 (by decide)
       rw [e0, eC] at c1
       replace c1 : wr.cell? ⟨g, i * 8 + 1, none⟩ = some sn := c1
       clear hg hcl
       obtain ⟨_, _, _, _, _, _⟩ := hX1.three
       go_wp2_with fail
       ((with_reducible refine (lclone_b _ _ V0 _ a1 hV2 hli).mono ?_); rintro e w2 ⟨p0, d0', rfl, n0, hb⟩)
       replace n0 := own_base n0 (show W.heap.size + 2 ≤ _ by omega)
       replace hX1 := hX1.below hb
       replace hZ1 := hZ1.below hb
       replace hL1 := below_call hL1 hb
       replace t0 := own_below t0 hb
       replace t1 := own_below t1 hb
       replace t2 := own_below t2 hb
       have hU' : ∀ j (h : j < r.us.length), UN w2 (W.heap.size + 2) (cu j) (r.us[j]'h) := fun j h => (hU.out j h).below hb
       have hI' : ∀ j (h : j < r.ts.length), j < i → TN w2 (W.heap.size + 2) (ct j) (r.ts[j]'h) := fun j h hj => ((hI.out j h).1 hj).below hb
       have hI2 : ∀ j (h : j < r.ts.length), i ≤ j → ct j = cst j := fun j h hj => (hI.out j h).2 hj
       clear hI hU hb c1 hV2
       obtain ⟨cur, hg, hcl, hgB⟩ := own_blk t2
       have gs := hg.cell (i * 8 + 1)
       rw [List.getElem?_eq_getElem (show i * 8 + 1 < cur.length by omega)] at gs
       have gf := hg.frozen (i * 8 + 1)
       replace hX1 := hX1.far (c := g) (i := i * 8 + 1) (.slice p0 (r.ts[i]'hlt).needs.length d0') (by omega)
       replace hZ1 := hZ1.far (c := g) (i := i * 8 + 1) (.slice p0 (r.ts[i]'hlt).needs.length d0') (by omega)
       replace hL1 := hL1.setCell (p := ⟨g, i * 8 + 1, none⟩) (by show W.heap.size ≤ g; omega) (.slice p0 (r.ts[i]'hlt).needs.length d0')
       replace hU' := fun j h => (hU' j h).moves hg (by decide) (fun k hk => Below.heap_setCell _ ⟨g, i * 8 + 1, none⟩ (.slice p0 (r.ts[i]'hlt).needs.length d0') k hk)
       replace hI' := fun j h hj => (hI' j h hj).moves hg (by decide) (fun k hk => Below.heap_setCell _ ⟨g, i * 8 + 1, none⟩ (.slice p0 (r.ts[i]'hlt).needs.length d0') k hk)
       replace t0 := own_byType t0 hg (by decide) (fun k hk => Below.heap_setCell _ ⟨g, i * 8 + 1, none⟩ (.slice p0 (r.ts[i]'hlt).needs.length d0') k hk)
       replace t1 := own_byType t1 hg (by decide) (fun k hk => Below.heap_setCell _ ⟨g, i * 8 + 1, none⟩ (.slice p0 (r.ts[i]'hlt).needs.length d0') k hk)
       replace n0 := own_byType n0 hg (by decide) (fun k hk => Below.heap_setCell _ ⟨g, i * 8 + 1, none⟩ (.slice p0 (r.ts[i]'hlt).needs.length d0') k hk)
       replace t2 := own_set1 (o := i * 8 + 1) t2 (by omega) (.slice p0 (r.ts[i]'hlt).needs.length d0')
       have hcl9 : ∀ m, m < r.ts.length → (ct m).length = 8 := fun m hm => by
        rcases Nat.lt_or_ge m i with q | q
        · obtain ⟨x, e, -⟩ := hI' m hm q
          rw [e]
          rfl
        · rw [hI2 m hm q]
          exact (ht1 m hm).1
       rw [flatR_set (by decide) hcl9 hlt (by decide), e0] at t2
       clear hg hgB
       go_wp2_with fail
       go_roundw
       case rel =>
        refine ⟨i + 1, _, by go_num, by omega, hX1, t0, t1, t2, hZ1, hL1, hid hU', hid fun j h => ⟨fun hj => ?_, fun hj => ?_⟩⟩
        · by_cases e : j = i
          · subst e
            rw [if_pos rfl]
            exact ⟨_, by rw [eC]; rfl, n0⟩
          · rw [if_neg e]
            exact hI' j h (by omega)
        · rw [if_neg (by omega)]
          exact hI2 j h (by omega)
       case measure => simp [RowKit.intOf]; omega
     · have d1 : ¬ (i : Int) < r.ts.length := by omega
       obtain rfl : i = r.ts.length := by omega
       have hts : ∀ j (h : j < r.ts.length), TN wr (W.heap.size + 2) (ct j) (r.ts[j]'h) := fun j h => (hI.out j h).1 h
       clear hI
       obtain ⟨_, _, _, _, _, _⟩ := hX1.three
       obtain ⟨_, _, _, _, _, _⟩ := hZ1.three
       go_wp2_with fail
       have hF := ((hZ1.set 0 (.slice q0 r.us.length k0)).set 1 (.slice q1 r.ws.length k1)).set 2 (.slice q2 r.ts.length k2)
       simp only [List.set_cons_zero, List.set_cons_succ] at hF
       -- (.slice q0 r.us.length k0) (.slice q1 r.ws.length k1) (.slice q2 r.ts.length k2)
       refine bodyPost_ret (results_agg_one rfl rfl Tryz.isAgg31 Tryz.sizeOf31 hF rfl) rfl ?_
       have hk : ∀ k, W.heap.size + 2 ≤ k → (((wr.setCell ⟨W.heap.size + 1, 0, none⟩ (.slice q0 r.us.length k0)).setCell ⟨W.heap.size + 1, 1, none⟩ (.slice q1 r.ws.length k1)).setCell ⟨W.heap.size + 1, 2, none⟩ (.slice q2 r.ts.length k2)).heap[k]? = wr.heap[k]? := fun k hk => by
        rw [Below.heap_setCell _ _ _ k (by show k ≠ W.heap.size + 1; omega), Below.heap_setCell _ _ _ k (by show k ≠ W.heap.size + 1; omega), Below.heap_setCell _ _ _ k (by show k ≠ W.heap.size + 1; omega)]
       refine ⟨q0, k0, q1, k1, q2, k2, cu, csw, ct, rfl, own_base (own_heap t0 hk) (by omega), own_base (own_heap t1 hk) (by omega), own_base (own_heap t2 hk) (by omega), fun j h => ?_, fun j h => hcw j h, fun j h => ?_, ((hL1.setCell (by show W.heap.size ≤ W.heap.size + 1; omega) _).setCell (by show W.heap.size ≤ W.heap.size + 1; omega) _).setCell (by show W.heap.size ≤ W.heap.size + 1; omega) _⟩
       · obtain ⟨sn, st, sr, e, a, b, c⟩ := hU.out j h
         exact ⟨sn, st, sr, e, own_base (own_heap a hk) (by omega), own_base (own_heap b hk) (by omega), own_base (own_heap c hk) (by omega)⟩
       · obtain ⟨sn, e, a⟩ := hts j h
         exact ⟨sn, e, own_base (own_heap a hk) (by omega)⟩
end

end Go.Proofs.YtnjcdmjaecgblaaGreatDoor
