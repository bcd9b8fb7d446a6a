/-
  occupy: blocked cells, free rectangles, rings and spots, as plain functions; facts about them. No program is named here.
-/
import Derived.Test.YtbdgpldhfemejaaDoorShOct
import Derived.Test.YtbdgpldhfemejaaDoorGridClipMath
import Derived.Test.YtbdgpldhfemejaaDoorGridMeetMath
import Derived.Test.YtbdgpldhfemejaaDoorSymM
namespace Go.Proofs.YtbdgpldhfemejaaDoor
open Go.RowKit Go.Lib

def blockedAt (m : M3) (l : List R4) (i : Nat) : Bool := l.any fun r => insv r (atx m.w i) (aty m.w i)
def blockedv (m : M3) (l : List R4) : List Bool := if formedv m = true then (List.range m.cs.length).map (blockedAt m l) else []
def withinv (m : M3) (r : R4) : Bool := formedv m && decide (1 ≤ r.w ∧ 1 ≤ r.h ∧ 0 ≤ r.x ∧ 0 ≤ r.y ∧ r.x + r.w ≤ m.w ∧ r.y + r.h ≤ m.h)
def blkat (m : M3) (b : List Bool) (x y : Int) : Bool := b.getD (indexv m.w x y).toNat false
def okv (m : M3) (b : List Bool) (h : Int) (p : Int × Int) : Bool := decide ((getv m p.1 p.2).k = 1) && decide ((getv m p.1 p.2).h = h) && !blkat m b p.1 p.2
def freev (m : M3) (b : List Bool) (r : R4) : Bool := withinv m r && (cellsv r).all (okv m b (getv m r.x r.y).h)
def fitsv (m : M3) (l : List R4) (r : R4) : Bool := freev m (blockedv m l) r
/-- The positions of a map, by index. -/
def allp (m : M3) : List (Int × Int) := if formedv m = true then (List.range m.cs.length).map fun (i : Nat) => (atx m.w i, aty m.w i) else []
def touchv (r : R4) (p : Int × Int) : Bool := (List.range 8).any fun (d : Nat) => insv r (stx p.1 d) (sty p.2 d)
def ringv (m : M3) (r : R4) : List (Int × Int) := (allp m).filter fun p => !insv r p.1 p.2 && touchv r p
def farv (f : Int × Int) (a b : Int × Int) : Bool := decide (octv a.1 a.2 f.1 f.2 < octv b.1 b.2 f.1 f.2)
def spotsv (m : M3) (b : List Bool) (q : Int) (f : Int × Int) : List (Int × Int) := mergS (farv f) [] ((allp m).filter fun p => openv m b q p.1 p.2)

theorem pos_at {m : M3} (hf : formedv m = true) {i : Nat} (hi : i < m.cs.length) : inv m.w m.h (atx m.w i) (aty m.w i) = true ∧ indexv m.w (atx m.w i) (aty m.w i) = i := by
  obtain ⟨X, Y, e1, e2, x1, x2, _, y2, hl, _⟩ := formed_num hf
  obtain ⟨a, b, h1, h2, h3, -⟩ := cell_pick X Y i x1 x2 y2 (by omega)
  rw [e1, e2, ← h1.out.1, ← h1.out.2]
  exact ⟨h2.out.symm, h3.out.symm⟩
theorem pos_of {m : M3} (hf : formedv m = true) {x y : Int} (h : inv m.w m.h x y = true) : ∃ n : Nat, n < m.cs.length ∧ indexv m.w x y = n ∧ x = atx m.w n ∧ y = aty m.w n := by
  obtain ⟨X, Y, e1, e2, x1, x2, _, y2, hl, _⟩ := formed_num hf
  rw [e1, e2] at h
  obtain ⟨n, h1, h2, h3⟩ := index_pick X Y x y x1 x2 y2 h
  rw [e1]
  exact ⟨n, by omega, h1.out.symm, h3.out.1, h3.out.2⟩
theorem all_len (m : M3) : (allp m).length = if formedv m = true then m.cs.length else 0 := by
  unfold allp; split <;> simp
theorem formed_len {m : M3} (hf : formedv m = true) : m.cs.length ≤ 1024 := by
  obtain ⟨X, Y, _, _, x1, x2, _, y2, hl, _⟩ := formed_num hf
  rw [hl]
  exact Nat.mul_le_mul x2 y2
theorem all_le (m : M3) : (allp m).length ≤ 1024 := by
  rw [all_len]
  split
  · exact formed_len (by assumption)
  · omega
theorem rowGo_map (x y : Int) : ∀ (k i : Nat), rowGo x y k i = (List.range k).map fun (t : Nat) => (x + ((i + t : Nat) : Int), y)
  | 0, _ => rfl
  | k + 1, i => by
    rw [rowGo, rowGo_map x y k (i + 1), List.range_succ_eq_map, List.map_cons, List.map_map]
    congr 1
    refine List.map_congr_left fun t _ => ?_
    show _ = (x + ((i + (t + 1) : Nat) : Int), y)
    rw [show i + 1 + t = i + (t + 1) by omega]
theorem rowsGo_map (x y : Int) (w : Nat) (hw : 0 < w) : ∀ (k j : Nat), rowsGo x y w k j = (List.range (k * w)).map fun (i : Nat) => (x + ((i % w : Nat) : Int), y + ((j + i / w : Nat) : Int))
  | 0, _ => by simp [rowsGo]
  | k + 1, j => by
    rw [rowsGo, rowGo_map, rowsGo_map x y w hw k (j + 1), Nat.succ_mul, Nat.add_comm (k * w) w, List.range_add, List.map_append, List.map_map]
    congr 1
    · refine List.map_congr_left fun t ht => ?_
      have := List.mem_range.1 ht
      rw [Nat.mod_eq_of_lt this, Nat.div_eq_of_lt this, Nat.zero_add, Nat.add_zero]
    · refine List.map_congr_left fun t ht => ?_
      show _ = (x + (((w + t) % w : Nat) : Int), y + ((j + (w + t) / w : Nat) : Int))
      rw [Nat.add_mod_left, Nat.add_div_left t hw, show j + 1 + t / w = j + (t / w).succ by omega]
theorem cells_all {m : M3} (hf : formedv m = true) : cellsv ⟨0, 0, m.w, m.h⟩ = allp m := by
  obtain ⟨X, Y, e1, e2, x1, x2, y1, y2, hl, _⟩ := formed_num hf
  unfold allp cellsv R4.nrm
  have hXY : X * Y ≤ 32 * 32 := Nat.mul_le_mul x2 y2
  dsimp only
  rw [e1, e2, nr_nat (show X ≤ 1000000 by omega), nr_nat (show Y ≤ 1000000 by omega), if_neg (by rw [← Int.natCast_mul]; omega), if_pos hf, show nr 0 = 0 from rfl, Int.toNat_natCast, Int.toNat_natCast, rowsGo_map 0 0 X x1, hl, Nat.mul_comm Y X]
  refine List.map_congr_left fun i _ => ?_
  rw [(at_nat X i x1).1, (at_nat X i x1).2, Int.zero_add, Int.zero_add, Nat.zero_add]

/-! ### marking -/
def markv (w : Int) (L : List Bool) (C : List (Int × Int)) : List Bool := C.foldl (fun L p => L.set (indexv w p.1 p.2).toNat true) L
def marksv (m : M3) (L : List Bool) (l : List R4) : List Bool := l.foldl (fun L r => markv m.w L (cellsv (clipv m.w m.h r))) L
theorem mark_snoc (w : Int) (L : List Bool) (C : List (Int × Int)) (p : Int × Int) : markv w L (C ++ [p]) = (markv w L C).set (indexv w p.1 p.2).toNat true := by
  unfold markv; rw [List.foldl_append]; rfl
theorem marks_snoc (m : M3) (L : List Bool) (l : List R4) (r : R4) : marksv m L (l ++ [r]) = markv m.w (marksv m L l) (cellsv (clipv m.w m.h r)) := by
  unfold marksv; rw [List.foldl_append]; rfl
theorem mark_len (w : Int) : ∀ (C : List (Int × Int)) (L : List Bool), (markv w L C).length = L.length
  | [], _ => rfl
  | p :: C, L => by
    have e : markv w L (p :: C) = markv w (L.set (indexv w p.1 p.2).toNat true) C := rfl
    rw [e, mark_len w C, List.length_set]
theorem marks_len (m : M3) : ∀ (l : List R4) (L : List Bool), (marksv m L l).length = L.length
  | [], _ => rfl
  | r :: l, L => by
    have e : marksv m L (r :: l) = marksv m (markv m.w L (cellsv (clipv m.w m.h r))) l := rfl
    rw [e, marks_len m l, mark_len]
theorem mark_get (w : Int) {n : Nat} : ∀ (C : List (Int × Int)) (L : List Bool), n < L.length → (markv w L C).getD n false = (L.getD n false || C.any fun p => decide ((indexv w p.1 p.2).toNat = n))
  | [], L, _ => by simp [markv]
  | p :: C, L, h => by
    have e : markv w L (p :: C) = markv w (L.set (indexv w p.1 p.2).toNat true) C := rfl
    rw [e, mark_get w C _ (by rw [List.length_set]; exact h), List.any_cons, List.getD_eq_getElem?_getD, List.getD_eq_getElem?_getD, List.getElem?_set]
    by_cases hk : (indexv w p.1 p.2).toNat = n
    · rw [if_pos hk, if_pos (by omega), decide_eq_true hk]; simp
    · rw [if_neg hk, decide_eq_false hk, Bool.false_or]
theorem clip_box (X Y : Nat) (r : R4) (X1 : 1 ≤ X) (X2 : X ≤ 32) (Y1 : 1 ≤ Y) (Y2 : Y ≤ 32) : clipv X Y r = R4.zero ∨ (0 ≤ (clipv X Y r).x ∧ 1 ≤ (clipv X Y r).w ∧ (clipv X Y r).x + (clipv X Y r).w ≤ X ∧ 0 ≤ (clipv X Y r).y ∧ 1 ≤ (clipv X Y r).h ∧ (clipv X Y r).y + (clipv X Y r).h ≤ Y) := by
  unfold clipv common R4.nrm
  dsimp only
  rw [nr_nat (show X ≤ 1000000 by omega), nr_nat (show Y ≤ 1000000 by omega), show nr 0 = 0 from rfl]
  split
  · exact .inl rfl
  · split
    · exact .inl rfl
    · refine .inr ?_
      dsimp only
      omega
theorem mem_cells {q : R4} (hx : 0 ≤ q.x) (hw : 1 ≤ q.w) (hxw : q.x + q.w ≤ 32) (hy : 0 ≤ q.y) (hh : 1 ≤ q.h) (hyh : q.y + q.h ≤ 32) (p : Int × Int) : p ∈ cellsv q ↔ q.x ≤ p.1 ∧ p.1 < q.x + q.w ∧ q.y ≤ p.2 ∧ p.2 < q.y + q.h := by
  obtain ⟨x, y, w, h⟩ := q
  dsimp only at *
  obtain ⟨a, rfl⟩ := Int.eq_ofNat_of_zero_le (show 0 ≤ w by omega)
  obtain ⟨b, rfl⟩ := Int.eq_ofNat_of_zero_le (show 0 ≤ h by omega)
  have hab : a * b ≤ 32 * 32 := Nat.mul_le_mul (by omega) (by omega)
  unfold cellsv R4.nrm
  dsimp only
  rw [nr_nat (show a ≤ 1000000 by omega), nr_nat (show b ≤ 1000000 by omega), nr_in (n := x) (by omega) (by omega), nr_in (n := y) (by omega) (by omega), if_neg (by rw [← Int.natCast_mul]; omega), Int.toNat_natCast, Int.toNat_natCast, mem_rows]
  constructor
  · rintro ⟨m, n, h1, -, h3, rfl⟩
    dsimp only
    omega
  · rintro ⟨h1, h2, h3, h4⟩
    refine ⟨(p.1 - x).toNat, (p.2 - y).toNat, by omega, by omega, by omega, ?_⟩
    apply Prod.ext
    · show p.1 = _; omega
    · show p.2 = _; omega
theorem ins_near {q : R4} {x y : Int} (hx : 0 ≤ q.x) (hw : 1 ≤ q.w) (hxw : q.x + q.w ≤ 32) (hy : 0 ≤ q.y) (hh : 1 ≤ q.h) (hyh : q.y + q.h ≤ 32) (h0 : 0 ≤ x) (h1 : x ≤ 32) (h2 : 0 ≤ y) (h3 : y ≤ 32) : insv q x y = decide (q.x ≤ x ∧ x < q.x + q.w ∧ q.y ≤ y ∧ y < q.y + q.h) := by
  unfold insv R4.nrm
  dsimp only
  rw [nr_in (n := q.x) (by omega) (by omega), nr_in (n := q.y) (by omega) (by omega), nr_in (n := q.w) (by omega) (by omega), nr_in (n := q.h) (by omega) (by omega), nr_in (n := x) (by omega) (by omega), nr_in (n := y) (by omega) (by omega)]
theorem ins_zero (x y : Int) : insv R4.zero x y = false := by
  unfold insv R4.nrm R4.zero
  dsimp only
  rw [show nr 0 = 0 from rfl]
  exact decide_eq_false (by omega)
theorem mem_clip {m : M3} (hf : formedv m = true) (r : R4) (p : Int × Int) : p ∈ cellsv (clipv m.w m.h r) ↔ inv m.w m.h p.1 p.2 = true ∧ insv r p.1 p.2 = true := by
  obtain ⟨X, Y, e1, e2, x1, x2, y1, y2, hl, _⟩ := formed_num hf
  rw [e1, e2]
  have hs : inv X Y p.1 p.2 = true → insv (clipv X Y r) p.1 p.2 = insv r p.1 p.2 := fun hi => by
    unfold inv at hi
    have h' := of_decide_eq_true hi
    obtain ⟨a, ha⟩ := Int.eq_ofNat_of_zero_le h'.1
    obtain ⟨b, hb⟩ := Int.eq_ofNat_of_zero_le h'.2.2.1
    rw [ha, hb]
    exact clip_same X Y r x1 x2 y1 y2 a b (by omega) (by omega)
  rcases clip_box X Y r x1 x2 y1 y2 with hz | ⟨b1, b2, b3, b4, b5, b6⟩
  · rw [hz] at hs ⊢
    have e : cellsv R4.zero = [] := by unfold cellsv R4.nrm R4.zero; dsimp only; rw [show nr 0 = 0 from rfl]; rfl
    rw [e]
    refine ⟨fun h => absurd h List.not_mem_nil, fun ⟨h1, h2⟩ => ?_⟩
    rw [← hs h1, ins_zero] at h2
    cases h2
  · rw [mem_cells b1 b2 (by omega) b4 b5 (by omega)]
    constructor
    · rintro ⟨h1, h2, h3, h4⟩
      have hi : inv X Y p.1 p.2 = true := by unfold inv; exact decide_eq_true (by omega)
      refine ⟨hi, ?_⟩
      rw [← hs hi, ins_near b1 b2 (by omega) b4 b5 (by omega) (by omega) (by omega) (by omega) (by omega)]
      exact decide_eq_true ⟨h1, h2, h3, h4⟩
    · rintro ⟨hi, h2⟩
      rw [← hs hi] at h2
      unfold inv at hi
      have h' := of_decide_eq_true hi
      rw [ins_near b1 b2 (by omega) b4 b5 (by omega) (by omega) (by omega) (by omega) (by omega)] at h2
      exact of_decide_eq_true h2
theorem clip_at {m : M3} (hf : formedv m = true) (r : R4) {n : Nat} (hn : n < m.cs.length) : ((cellsv (clipv m.w m.h r)).any fun p => decide ((indexv m.w p.1 p.2).toNat = n)) = insv r (atx m.w n) (aty m.w n) := by
  obtain ⟨hi, hx⟩ := pos_at hf hn
  rw [Bool.eq_iff_iff, List.any_eq_true]
  constructor
  · rintro ⟨p, hp, he⟩
    obtain ⟨h1, h2⟩ := (mem_clip hf r p).1 hp
    obtain ⟨k, hk, e, ex, ey⟩ := pos_of hf h1
    rw [e] at he
    have := of_decide_eq_true he
    obtain rfl : k = n := by omega
    rw [← ex, ← ey]; exact h2
  · intro h
    exact ⟨(atx m.w n, aty m.w n), (mem_clip hf r _).2 ⟨hi, h⟩, decide_eq_true (by dsimp only; rw [hx]; rfl)⟩
theorem marks_get {m : M3} (hf : formedv m = true) {n : Nat} (hn : n < m.cs.length) : ∀ (l : List R4) (L : List Bool), L.length = m.cs.length → (marksv m L l).getD n false = (L.getD n false || blockedAt m l n)
  | [], L, _ => by simp [marksv, blockedAt]
  | r :: l, L, h => by
    have e : marksv m L (r :: l) = marksv m (markv m.w L (cellsv (clipv m.w m.h r))) l := rfl
    rw [e, marks_get hf hn l _ (by rw [mark_len]; exact h), mark_get _ _ _ (by omega), clip_at hf r hn, Bool.or_assoc]
    rfl
theorem marks_blocked {m : M3} (hf : formedv m = true) (l : List R4) : marksv m (List.replicate m.cs.length false) l = blockedv m l := by
  unfold blockedv
  rw [if_pos hf]
  apply List.ext_getElem
  · rw [marks_len]; simp
  · intro n h1 h2
    have hn : n < m.cs.length := by simpa using h2
    have := marks_get hf hn l (List.replicate m.cs.length false) (by simp)
    rw [List.getD_eq_getElem?_getD, List.getElem?_eq_getElem h1] at this
    simp only [Option.getD_some] at this
    rw [this]
    simp [hn]
theorem blocked_at {m : M3} (hf : formedv m = true) (l : List R4) {x y : Int} (h : inv m.w m.h x y = true) : blkat m (blockedv m l) x y = l.any fun r => insv r x y := by
  obtain ⟨n, hn, e, ex, ey⟩ := pos_of hf h
  unfold blkat blockedv
  rw [if_pos hf, e, Int.toNat_natCast, List.getD_eq_getElem?_getD, List.getElem?_map, List.getElem?_range hn]
  show blockedAt m l n = _
  unfold blockedAt
  rw [← ex, ← ey]
theorem blocked_len (m : M3) (l : List R4) : (blockedv m l).length ≤ 1024 := by
  unfold blockedv
  split
  · rw [List.length_map, List.length_range]; exact formed_len (by assumption)
  · simp

/-! ### within -/
theorem within_clip {m : M3} {r : R4} (hf : formedv m = true) : withinv m r = true ↔ r ≠ R4.zero ∧ clipv m.w m.h r = r := by
  obtain ⟨X, Y, e1, e2, x1, x2, y1, y2, hl, _⟩ := formed_num hf
  unfold withinv
  rw [hf, Bool.true_and, decide_eq_true_iff, e1, e2]
  obtain ⟨x, y, w, h⟩ := r
  dsimp only
  constructor
  · rintro ⟨a1, a2, a3, a4, a5, a6⟩
    refine ⟨fun e => ?_, ?_⟩
    · injection e with _ _ e3; omega
    · unfold clipv common R4.nrm
      dsimp only
      rw [nr_nat (show X ≤ 1000000 by omega), nr_nat (show Y ≤ 1000000 by omega), show nr 0 = 0 from rfl, nr_in (n := x) (by omega) (by omega), nr_in (n := y) (by omega) (by omega), nr_in (n := w) (by omega) (by omega), nr_in (n := h) (by omega) (by omega), if_neg (by omega), if_neg (by omega), R4.mk.injEq]
      omega
  · rintro ⟨hz, hc⟩
    have hb := clip_box X Y ⟨x, y, w, h⟩ x1 x2 y1 y2
    rw [hc] at hb
    rcases hb with hb | hb
    · exact absurd hb hz
    · dsimp only at hb; omega
theorem within_num {m : M3} {r : R4} (h : withinv m r = true) : formedv m = true ∧ 1 ≤ r.w ∧ 1 ≤ r.h ∧ 0 ≤ r.x ∧ 0 ≤ r.y ∧ r.x + r.w ≤ m.w ∧ r.y + r.h ≤ m.h ∧ m.w ≤ 32 ∧ m.h ≤ 32 := by
  unfold withinv at h
  rw [Bool.and_eq_true, decide_eq_true_iff] at h
  obtain ⟨X, Y, e1, e2, x1, x2, y1, y2, hl, _⟩ := formed_num h.1
  refine ⟨h.1, ?_⟩
  have := h.2
  omega
theorem within_inside {m : M3} {r : R4} (h : withinv m r = true) {p : Int × Int} : p ∈ cellsv r ↔ r.x ≤ p.1 ∧ p.1 < r.x + r.w ∧ r.y ≤ p.2 ∧ p.2 < r.y + r.h := by
  obtain ⟨_, h1, h2, h3, h4, h5, h6, h7, h8⟩ := within_num h
  exact mem_cells h3 h1 (by omega) h4 h2 (by omega) p
theorem within_in {m : M3} {r : R4} (h : withinv m r = true) {p : Int × Int} (hp : p ∈ cellsv r) : inv m.w m.h p.1 p.2 = true := by
  obtain ⟨_, h1, h2, h3, h4, h5, h6, h7, h8⟩ := within_num h
  have := (within_inside h).1 hp
  unfold inv
  exact decide_eq_true (by omega)

/-! ### what fits -/
theorem fits_all {m : M3} {l : List R4} {r : R4} : fitsv m l r = true ↔ withinv m r = true ∧ ∀ p ∈ cellsv r, (getv m p.1 p.2).k = 1 ∧ (getv m p.1 p.2).h = (getv m r.x r.y).h ∧ ∀ q ∈ l, insv q p.1 p.2 = false := by
  unfold fitsv freev
  rw [Bool.and_eq_true, List.all_eq_true]
  refine and_congr_right fun hw => forall_congr' fun p => ?_
  refine ⟨fun h hp => ?_, fun h hp => ?_⟩
  · have h1 := h hp
    unfold okv at h1
    rw [blocked_at (within_num hw).1 l (within_in hw hp)] at h1
    simp only [Bool.and_eq_true, decide_eq_true_iff, Bool.not_eq_true', List.any_eq_false] at h1
    exact ⟨h1.1.1, h1.1.2, fun q hq => by have := h1.2 q hq; simpa using this⟩
  · obtain ⟨h1, h2, h3⟩ := h hp
    unfold okv
    rw [blocked_at (within_num hw).1 l (within_in hw hp)]
    simp only [Bool.and_eq_true, decide_eq_true_iff, Bool.not_eq_true', List.any_eq_false]
    exact ⟨⟨h1, h2⟩, fun q hq => by rw [h3 q hq]; simp⟩
theorem fits_fewer {m : M3} {l l' : List R4} {r : R4} (h : fitsv m l r = true) (hs : ∀ q ∈ l', q ∈ l) : fitsv m l' r = true := by
  rw [fits_all] at h ⊢
  exact ⟨h.1, fun p hp => ⟨(h.2 p hp).1, (h.2 p hp).2.1, fun q hq => (h.2 p hp).2.2 q (hs q hq)⟩⟩
theorem fits_meets {m : M3} {l : List R4} {r q : R4} (h : fitsv m l r = true) (hq : q ∈ l) : meetv r q = false := by
  rw [fits_all] at h
  obtain ⟨_, h1, h2, h3, h4, h5, h6, h7, h8⟩ := within_num h.1
  obtain ⟨x, y, w, t⟩ := r
  dsimp only at h1 h2 h3 h4 h5 h6
  obtain ⟨a, rfl⟩ := Int.eq_ofNat_of_zero_le (show 0 ≤ w by omega)
  obtain ⟨b, rfl⟩ := Int.eq_ofNat_of_zero_le (show 0 ≤ t by omega)
  have na : nr (a : Int) = a := nr_nat (by omega)
  have nb : nr (b : Int) = b := nr_nat (by omega)
  have hab : a * b ≤ 32 * 32 := Nat.mul_le_mul (by omega) (by omega)
  rw [← meet_any x y a b a b q na nb (by omega) (by omega)]
  have e : cellsv ⟨x, y, a, b⟩ = rowsGo (nr x) (nr y) a b 0 := by
    unfold cellsv R4.nrm
    dsimp only
    rw [na, nb, if_neg (by rw [← Int.natCast_mul]; omega), Int.toNat_natCast, Int.toNat_natCast]
  rw [← e]
  cases hm : (cellsv ⟨x, y, a, b⟩).any fun p => insv q p.1 p.2 with
  | false => rfl
  | true =>
    obtain ⟨p, hp, hi⟩ := List.any_eq_true.1 hm
    rw [(h.2 p hp).2.2 q hq] at hi
    cases hi

/-! ### spots -/
theorem oct_turn (a b c d : Int) : octv a b c d = octv c d a b := by
  unfold octv absv
  omega
theorem far_irr (f x y z : Int × Int) (h1 : farv f x y = false) (h2 : farv f y z = false) : farv f x z = false := by
  unfold farv at *
  rw [decide_eq_false_iff_not] at *
  omega
theorem far_tot (f x y : Int × Int) (h : farv f x y = true) : farv f y x = false := by
  unfold farv at *
  rw [decide_eq_true_iff] at h
  rw [decide_eq_false_iff_not]
  omega
theorem ocopen_inside {m : M3} {b : List Bool} {q x y : Int} (h : openv m b q x y = true) : insidev m x y = true := by
  unfold openv at h
  rw [Bool.and_eq_true] at h
  have := h.1
  unfold passv at this
  by_cases h1 : q = 1
  · rw [if_pos h1, Bool.and_eq_true] at this; exact this.1
  · rw [if_neg h1] at this
    by_cases h2 : q = 2
    · rw [if_pos h2, Bool.and_eq_true] at this; exact this.1
    · rw [if_neg h2] at this
      by_cases h3 : q = 3
      · rw [if_pos h3] at this; exact this
      · rw [if_neg h3] at this; cases this
/-- In the order of the distances, and of the places in a list where they are the same. -/
def lexv (f : Int × Int) (ix : Int × Int → Int) (a b : Int × Int) : Prop := octv a.1 a.2 f.1 f.2 < octv b.1 b.2 f.1 f.2 ∨ (octv a.1 a.2 f.1 f.2 = octv b.1 b.2 f.1 f.2 ∧ ix a < ix b)
theorem putS_lex {f : Int × Int} {ix : Int × Int → Int} {x : Int × Int} {s : List (Int × Int)} (hs : s.Pairwise (lexv f ix)) (hx : ∀ y ∈ s, ix y < ix x) : (putS (farv f) s x).Pairwise (lexv f ix) := by
  have key : ∀ l : List (Int × Int), l.Pairwise (fun a b => lexv f ix b a) → (∀ y ∈ l, ix y < ix x) → (insS (farv f) x l).Pairwise (fun a b => lexv f ix b a) := fun l => by
    induction l with
    | nil => intro _ _; simp [insS]
    | cons y l ih =>
      intro h hy
      obtain ⟨h1, h2⟩ := List.pairwise_cons.1 h
      unfold insS
      split
      · rename_i hq
        refine List.pairwise_cons.2 ⟨fun z hz => ?_, ih h2 fun z hz => hy z (List.mem_cons_of_mem _ hz)⟩
        rcases (mem_insS _).1 hz with rfl | hz
        · exact .inl (of_decide_eq_true hq)
        · exact h1 z hz
      · rename_i hq
        have hq : ¬ octv x.1 x.2 f.1 f.2 < octv y.1 y.2 f.1 f.2 := fun c => hq (decide_eq_true c)
        refine List.pairwise_cons.2 ⟨fun z hz => ?_, h⟩
        have hiy := hy z hz
        rcases List.mem_cons.1 hz with rfl | hz
        · unfold lexv; omega
        · have := h1 z hz
          unfold lexv at this ⊢
          omega
  unfold putS
  rw [List.pairwise_reverse]
  refine key _ ?_ fun y hy => hx y (List.mem_reverse.1 hy)
  rw [List.pairwise_reverse]
  exact hs
theorem merg_lex {f : Int × Int} {ix : Int × Int → Int} : ∀ (v u : List (Int × Int)), u.Pairwise (lexv f ix) → (v.Pairwise fun a b => ix a < ix b) → (∀ a ∈ u, ∀ b ∈ v, ix a < ix b) → (mergS (farv f) u v).Pairwise (lexv f ix)
  | [], _, h, _, _ => h
  | x :: v, u, h, hv, hu => by
    obtain ⟨h1, h2⟩ := List.pairwise_cons.1 hv
    have e : mergS (farv f) u (x :: v) = mergS (farv f) (putS (farv f) u x) v := rfl
    rw [e]
    refine merg_lex v _ (putS_lex h fun y hy => hu y hy x (List.mem_cons_self ..)) h2 fun a ha b hb => ?_
    rcases (mem_putS _).1 ha with rfl | ha
    · exact h1 b hb
    · exact hu a ha b (List.mem_cons_of_mem _ hb)
theorem all_order (m : M3) : (allp m).Pairwise fun a b => indexv m.w a.1 a.2 < indexv m.w b.1 b.2 := by
  unfold allp
  split
  · rename_i hf
    rw [List.pairwise_map]
    refine List.pairwise_iff_getElem.2 fun i j hi hj hij => ?_
    have hi' : i < m.cs.length := by simpa using hi
    have hj' : j < m.cs.length := by simpa using hj
    dsimp only
    rw [List.getElem_range, List.getElem_range, (pos_at hf hi').2, (pos_at hf hj').2]
    omega
  · exact List.Pairwise.nil
theorem spots_lex (m : M3) (b : List Bool) (q : Int) (f : Int × Int) : (spotsv m b q f).Pairwise (lexv f fun p => indexv m.w p.1 p.2) :=
  merg_lex _ _ List.Pairwise.nil ((all_order m).filter _) fun _ h => absurd h List.not_mem_nil
theorem spots_len (m : M3) (b : List Bool) (q : Int) (f : Int × Int) : (spotsv m b q f).length = ((allp m).filter fun p => openv m b q p.1 p.2).length := by
  unfold spotsv; rw [mergS_len]; simp
theorem filter_len (m : M3) (g : Int × Int → Bool) : ((allp m).filter g).length ≤ 1024 := Nat.le_trans (List.length_filter_le _ _) (all_le m)

end Go.Proofs.YtbdgpldhfemejaaDoor
