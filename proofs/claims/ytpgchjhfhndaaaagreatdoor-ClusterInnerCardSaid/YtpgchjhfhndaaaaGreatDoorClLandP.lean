/-
  Clusters: their areas; what the functions of cluster answer: numbers, areas, Inner.
-/
import Derived.Test.YtpgchjhfhndaaaaGreatDoorPureAs
import Derived.Test.YtpgchjhfhndaaaaGreatDoorAsLandR
import Derived.Test.YtpgchjhfhndaaaaGreatDoorGridLandH
import Derived.Test.YtpgchjhfhndaaaaGreatDoorTerLandQ
import Derived.Test.YtpgchjhfhndaaaaGreatDoorAsXd
import Derived.Test.YtpgchjhfhndaaaaGreatDoorAsXg
namespace Go.Proofs.YtpgchjhfhndaaaaGreatDoor

section
open Go.RowKit Go.Lib

def sqc (n : Int) : Int := (n + 7) / 8
def countv (m : M3) : Int := if validm m = true then sqc m.w * sqc m.h else 0
def ofv (m : M3) (p : Pt) : Int := if (validm m && insp m p) = true then p.2 / 8 * sqc m.w + p.1 / 8 else -1
def exv (m : M3) (k : Int) : Bool := decide (0 ≤ k ∧ k < countv m)
def arv (m : M3) (k : Int) : R4 := ⟨k % sqc m.w * 8, k / sqc m.w * 8, min 8 (m.w - k % sqc m.w * 8), min 8 (m.h - k / sqc m.w * 8)⟩
def areav (m : M3) (k : Int) : R4 := if exv m k = true then arv m k else R4.zero
/-- A rectangle within a map, at most 8 by 8. -/
structure ArOk (m : M3) (r : R4) : Prop where
  x0 : 0 ≤ r.x
  y0 : 0 ≤ r.y
  w1 : 1 ≤ r.w
  h1 : 1 ≤ r.h
  w8 : r.w ≤ 8
  h8 : r.h ≤ 8
  xw : r.x + r.w ≤ m.w
  yh : r.y + r.h ≤ m.h
theorem valid_formed {m : M3} (h : validm m = true) : formedv m = true := by
  unfold validm at h
  simp only [Bool.and_eq_true] at h
  exact h.1
theorem ex_valid {m : M3} {k : Int} (h : exv m k = true) : validm m = true ∧ 0 ≤ k ∧ k < sqc m.w * sqc m.h := by
  unfold exv countv at h
  have h := of_decide_eq_true h
  split at h
  · exact ⟨‹_›, h⟩
  · omega
theorem col_num {m : M3} (hf : formedv m = true) : (1 ≤ sqc m.w ∧ sqc m.w ≤ 4 ∧ m.w ≤ 8 * sqc m.w ∧ 8 * sqc m.w ≤ m.w + 7) ∧ (1 ≤ sqc m.h ∧ sqc m.h ≤ 4 ∧ m.h ≤ 8 * sqc m.h ∧ 8 * sqc m.h ≤ m.h + 7) ∧ (1 ≤ m.w ∧ m.w ≤ 32 ∧ 1 ≤ m.h ∧ m.h ≤ 32) := by
  obtain ⟨X, Y, e1, e2, x1, x2, y1, y2, _, _⟩ := formed_num hf
  unfold sqc
  rw [e1, e2]
  omega
theorem place_num {m : M3} {k : Int} (h : exv m k = true) : (0 ≤ k % sqc m.w ∧ k % sqc m.w < sqc m.w) ∧ (0 ≤ k / sqc m.w ∧ k / sqc m.w < sqc m.h) ∧ k / sqc m.w * sqc m.w + k % sqc m.w = k := by
  obtain ⟨hv, k0, k1⟩ := ex_valid h
  obtain ⟨⟨c1, c2, _, _⟩, _, _⟩ := col_num (valid_formed hv)
  refine ⟨⟨Int.emod_nonneg _ (by omega), Int.emod_lt_of_pos _ (by omega)⟩, ⟨Int.ediv_nonneg k0 (by omega), Int.ediv_lt_of_lt_mul (by omega) (by rw [Int.mul_comm]; exact k1)⟩, ?_⟩
  have := Int.mul_ediv_add_emod k (sqc m.w)
  rw [Int.mul_comm] at this
  exact this
theorem ar_ok {m : M3} {k : Int} (h : exv m k = true) : ArOk m (arv m k) := by
  obtain ⟨h1, h2, _⟩ := place_num h
  obtain ⟨⟨c1, c2, c3, c4⟩, ⟨d1, d2, d3, d4⟩, _⟩ := col_num (valid_formed (ex_valid h).1)
  unfold arv
  generalize k % sqc m.w = a at *
  generalize k / sqc m.w = b at *
  refine ⟨?_, ?_, ?_, ?_, ?_, ?_, ?_, ?_⟩ <;> dsimp only <;> omega
theorem ar_val {m : M3} {k : Int} (h : exv m k = true) : areav m k = arv m k := by unfold areav; rw [if_pos h]
/-- What Clip makes of the square of a cluster. -/
theorem ar_clip {m : M3} {k : Int} (h : exv m k = true) : clipv m.w m.h ⟨k % sqc m.w * 8, k / sqc m.w * 8, 8, 8⟩ = arv m k := by
  obtain ⟨h1, h2, _⟩ := place_num h
  obtain ⟨⟨c1, c2, c3, c4⟩, ⟨d1, d2, d3, d4⟩, s1, s2, s3, s4⟩ := col_num (valid_formed (ex_valid h).1)
  unfold arv clipv common R4.nrm
  generalize k % sqc m.w = a at *
  generalize k / sqc m.w = b at *
  dsimp only
  rw [nr_in (n := m.w) (by omega) (by omega), nr_in (n := m.h) (by omega) (by omega), show nr 0 = 0 from rfl, show nr 8 = 8 from rfl, nr_in (n := a * 8) (by omega) (by omega), nr_in (n := b * 8) (by omega) (by omega)]
  rw [if_neg (by omega), if_neg (by omega)]
  congr 1 <;> omega
theorem ar_ins {m : M3} {r : R4} (ok : ArOk m r) (hf : formedv m = true) (x y : Int) : insv r x y = decide (r.x ≤ x ∧ x < r.x + r.w ∧ r.y ≤ y ∧ y < r.y + r.h) := by
  obtain ⟨_, _, s1, s2, s3, s4⟩ := col_num hf
  obtain ⟨h1, h2, h3, h4, h5, h6, h7, h8⟩ := ok
  unfold insv R4.nrm
  dsimp only
  rw [nr_in (n := r.x) (by omega) (by omega), nr_in (n := r.y) (by omega) (by omega), nr_in (n := r.w) (by omega) (by omega), nr_in (n := r.h) (by omega) (by omega)]
  refine decide_eq_decide.2 ?_
  unfold nr
  omega
theorem ar_in {m : M3} {r : R4} (ok : ArOk m r) (hf : formedv m = true) {x y : Int} (h : insv r x y = true) : r.x ≤ x ∧ x < r.x + r.w ∧ r.y ≤ y ∧ y < r.y + r.h := by
  rw [ar_ins ok hf] at h
  exact of_decide_eq_true h
theorem ar_insp {m : M3} {r : R4} (ok : ArOk m r) (hf : formedv m = true) {x y : Int} (h : insv r x y = true) : insp m (x, y) = true ∧ insidev m x y = true := by
  have k := ar_in ok hf h
  obtain ⟨h1, h2, h3, h4, h5, h6, h7, h8⟩ := ok
  have hi : inv m.w m.h x y = true := decide_eq_true (by omega)
  exact ⟨hi, by unfold insidev; rw [hf, hi]; rfl⟩
/-- A cell lies in the area of its cluster alone. -/
theorem of_area {m : M3} {k : Int} (h : exv m k = true) {p : Pt} (hp : insp m p = true) : insv (arv m k) p.1 p.2 = true ↔ ofv m p = k := by
  have hv := (ex_valid h).1
  have hf := valid_formed hv
  obtain ⟨⟨c1, c2, c3, c4⟩, ⟨d1, d2, d3, d4⟩, s1, s2, s3, s4⟩ := col_num hf
  obtain ⟨h1, h2, h3⟩ := place_num h
  rw [ar_ins (ar_ok h) hf, decide_eq_true_iff]
  unfold ofv
  rw [hv, hp, Bool.and_self, if_pos rfl]
  unfold insp inv at hp
  replace hp := of_decide_eq_true hp
  unfold arv
  dsimp only
  generalize sqc m.w = C at *
  generalize sqc m.h = Dd at *
  rcases (show C = 1 ∨ C = 2 ∨ C = 3 ∨ C = 4 by omega) with rfl | rfl | rfl | rfl <;> omega
theorem of_ex {m : M3} (hv : validm m = true) {p : Pt} (hp : insp m p = true) : exv m (ofv m p) = true ∧ 0 ≤ ofv m p := by
  have hf := valid_formed hv
  obtain ⟨⟨c1, c2, c3, c4⟩, ⟨d1, d2, d3, d4⟩, s1, s2, s3, s4⟩ := col_num hf
  have e1 : countv m = sqc m.w * sqc m.h := by unfold countv; rw [if_pos hv]
  have e2 : ofv m p = p.2 / 8 * sqc m.w + p.1 / 8 := by unfold ofv; rw [hv, hp, Bool.and_self, if_pos rfl]
  unfold exv
  rw [e1, e2]
  unfold insp inv at hp
  replace hp := of_decide_eq_true hp
  have : 0 ≤ p.2 / 8 * sqc m.w + p.1 / 8 ∧ p.2 / 8 * sqc m.w + p.1 / 8 < sqc m.w * sqc m.h := by
    clear e1 e2
    generalize sqc m.w = C at *
    generalize sqc m.h = Dd at *
    rcases (show C = 1 ∨ C = 2 ∨ C = 3 ∨ C = 4 by omega) with rfl | rfl | rfl | rfl <;> omega
  exact ⟨decide_eq_true this, this.1⟩

def partm (m : M3) (r : R4) : M3 := ⟨r.w, r.h, (cellsv r).map fun p => getv m p.1 p.2⟩
def partb (m : M3) (bl : List Bool) (r : R4) : List Bool := (cellsv r).map fun p => bl.getD (indexv m.w p.1 p.2).toNat false
def shp (r : R4) (p : Pt) : Pt := (p.1 - r.x, p.2 - r.y)
theorem cells_ar {m : M3} {r : R4} (ok : ArOk m r) (hf : formedv m = true) : ∃ w h : Nat, r.w = w ∧ r.h = h ∧ 1 ≤ w ∧ w ≤ 8 ∧ 1 ≤ h ∧ h ≤ 8 ∧ cellsv r = (List.range (h * w)).map fun (i : Nat) => (r.x + ((i % w : Nat) : Int), r.y + ((i / w : Nat) : Int)) := by
  obtain ⟨_, _, s1, s2, s3, s4⟩ := col_num hf
  obtain ⟨h1, h2, h3, h4, h5, h6, h7, h8⟩ := ok
  obtain ⟨w, hw⟩ := Int.eq_ofNat_of_zero_le (show 0 ≤ r.w by omega)
  obtain ⟨h, hh⟩ := Int.eq_ofNat_of_zero_le (show 0 ≤ r.h by omega)
  refine ⟨w, h, hw, hh, by omega, by omega, by omega, by omega, ?_⟩
  have hwh : w * h ≤ 8 * 8 := Nat.mul_le_mul (by omega) (by omega)
  unfold cellsv R4.nrm
  dsimp only
  rw [hw, hh, nr_nat (show w ≤ 1000000 by omega), nr_nat (show h ≤ 1000000 by omega), nr_in (n := r.x) (by omega) (by omega), nr_in (n := r.y) (by omega) (by omega), if_neg (by rw [← Int.natCast_mul]; omega), Int.toNat_natCast, Int.toNat_natCast, rowsGo_map _ _ w (by omega)]
  refine List.map_congr_left fun i _ => ?_
  rw [Nat.zero_add]
theorem mem_ar {m : M3} {r : R4} (ok : ArOk m r) (hf : formedv m = true) {p : Pt} : p ∈ cellsv r ↔ insv r p.1 p.2 = true := by
  obtain ⟨_, _, s1, s2, s3, s4⟩ := col_num hf
  rw [ar_ins ok hf, decide_eq_true_iff]
  obtain ⟨h1, h2, h3, h4, h5, h6, h7, h8⟩ := ok
  exact mem_cells h1 h3 (by omega) h2 h4 (by omega) p
theorem part_formed {m : M3} {r : R4} (ok : ArOk m r) (hf : formedv m = true) : formedv (partm m r) = true := by
  obtain ⟨w, h, e1, e2, a1, a2, a3, a4, ec⟩ := cells_ar ok hf
  unfold formedv validv partm
  dsimp only
  rw [ec, List.length_map, List.length_map, List.length_range, e1, e2, Bool.and_eq_true, decide_eq_true_iff, decide_eq_true_iff]
  refine ⟨by omega, ?_⟩
  rw [Int.natCast_mul, Int.mul_comm]
theorem part_valid {m : M3} {r : R4} (ok : ArOk m r) (hv : validm m = true) : validm (partm m r) = true := by
  have hf := valid_formed hv
  have hp := part_formed ok hf
  unfold validm at hv ⊢
  rw [hp, Bool.true_and]
  simp only [Bool.and_eq_true] at hv
  rw [List.all_eq_true] at hv ⊢
  intro c hc
  unfold partm at hc
  dsimp only at hc
  obtain ⟨p, hp, rfl⟩ := List.mem_map.1 hc
  have hi := (ar_insp ok hf ((mem_ar ok hf).1 hp)).2
  obtain ⟨X, Y, a, b, _, _, _, _, _, _, _, _, _, hi2, hl⟩ := inside_at hi
  unfold getv
  rw [if_pos hi, hi2, Int.toNat_natCast, List.getD_eq_getElem?_getD, List.getElem?_eq_getElem hl]
  exact hv.2 _ (List.getElem_mem hl)
theorem part_at {m : M3} {r : R4} (ok : ArOk m r) (hf : formedv m = true) {x y : Int} (h : insv r x y = true) : ∃ i : Nat, i < (cellsv r).length ∧ (cellsv r)[i]? = some (x, y) ∧ indexv r.w (x - r.x) (y - r.y) = i := by
  obtain ⟨w, hh, e1, e2, a1, a2, a3, a4, ec⟩ := cells_ar ok hf
  have k := ar_in ok hf h
  obtain ⟨a, ha⟩ := Int.eq_ofNat_of_zero_le (show 0 ≤ x - r.x by omega)
  obtain ⟨b, hb⟩ := Int.eq_ofNat_of_zero_le (show 0 ≤ y - r.y by omega)
  have hlt : a < w := by omega
  have hlb : b < hh := by omega
  have hm : (b + 1) * w ≤ hh * w := Nat.mul_le_mul_right w hlb
  rw [Nat.succ_mul] at hm
  have hi : b * w + a < hh * w := by omega
  have m1 : (b * w + a) % w = a := by rw [Nat.add_comm, Nat.add_mul_mod_self_right, Nat.mod_eq_of_lt hlt]
  have m2 : (b * w + a) / w = b := by rw [Nat.add_comm, Nat.add_mul_div_right _ _ (by omega), Nat.div_eq_of_lt hlt, Nat.zero_add]
  refine ⟨b * w + a, by rw [ec, List.length_map, List.length_range]; exact hi, ?_, ?_⟩
  · rw [ec, List.getElem?_map, List.getElem?_range hi]
    show some (r.x + (((b * w + a) % w : Nat) : Int), r.y + (((b * w + a) / w : Nat) : Int)) = _
    rw [m1, m2, ← ha, ← hb]
    congr 2 <;> omega
  · unfold indexv
    rw [ha, hb, e1, nr_nat (show a ≤ 1000000 by omega), nr_nat (show b ≤ 1000000 by omega), nr_nat (show w ≤ 1000000 by omega)]
    simp
theorem part_ins {m : M3} {r : R4} (ok : ArOk m r) (hf : formedv m = true) (x y : Int) : insidev (partm m r) (x - r.x) (y - r.y) = insv r x y := by
  unfold insidev
  rw [part_formed ok hf, Bool.true_and, ar_ins ok hf]
  unfold inv partm
  exact decide_eq_decide.2 (by dsimp only; omega)
theorem part_insp {m : M3} {r : R4} (ok : ArOk m r) (hf : formedv m = true) (p : Pt) : insp (partm m r) (shp r p) = insv r p.1 p.2 := by
  have := part_ins ok hf p.1 p.2
  unfold insidev at this
  rw [part_formed ok hf, Bool.true_and] at this
  exact this
theorem part_get {m : M3} {r : R4} (ok : ArOk m r) (hf : formedv m = true) {x y : Int} (h : insv r x y = true) : getv (partm m r) (x - r.x) (y - r.y) = getv m x y := by
  obtain ⟨i, hi, hc, hx⟩ := part_at ok hf h
  conv => lhs; unfold getv
  rw [part_ins ok hf, if_pos h]
  unfold partm
  dsimp only
  rw [hx, Int.toNat_natCast, List.getD_eq_getElem?_getD, List.getElem?_map, hc]
  rfl
theorem part_blk {m : M3} {r : R4} (ok : ArOk m r) (hf : formedv m = true) (bl : List Bool) {x y : Int} (h : insv r x y = true) : (partb m bl r).getD (indexv (partm m r).w (x - r.x) (y - r.y)).toNat false = bl.getD (indexv m.w x y).toNat false := by
  obtain ⟨i, hi, hc, hx⟩ := part_at ok hf h
  show (partb m bl r).getD (indexv r.w (x - r.x) (y - r.y)).toNat false = _
  unfold partb
  rw [hx, Int.toNat_natCast, List.getD_eq_getElem?_getD, List.getElem?_map, hc]
  rfl
theorem part_open {m : M3} {r : R4} (ok : ArOk m r) (hf : formedv m = true) (bl : List Bool) (c : Int) {x y : Int} (h : insv r x y = true) : openv (partm m r) (partb m bl r) c (x - r.x) (y - r.y) = openv m bl c x y := by
  have hi := (ar_insp ok hf h).2
  unfold openv passv
  rw [part_ins ok hf, h, part_get ok hf h, part_blk ok hf bl h, hi]
theorem part_shut {m : M3} {r : R4} (ok : ArOk m r) (hf : formedv m = true) (bl : List Bool) (c : Int) {x y : Int} (h : insv r x y = false) : openv (partm m r) (partb m bl r) c (x - r.x) (y - r.y) = false := by
  unfold openv passv
  rw [part_ins ok hf, h]
  simp
theorem part_near {m : M3} {r : R4} (ok : ArOk m r) (hf : formedv m = true) (bl : List Bool) (c : Int) {x y u v : Int} (h : insv r x y = true) (k : insv r u v = true) : nearv (partm m r) (partb m bl r) c (x - r.x) (y - r.y) (u - r.x) (v - r.y) = nearv m bl c x y u v := by
  unfold nearv
  rw [part_open ok hf bl c h, part_open ok hf bl c k, part_get ok hf h, part_get ok hf k]
theorem st_shift {r : R4} {x y d : Int} (hx : 0 ≤ x ∧ x ≤ 32) (hy : 0 ≤ y ∧ y ≤ 32) (rx : 0 ≤ r.x ∧ r.x ≤ 32) (ry : 0 ≤ r.y ∧ r.y ≤ 32) (hd : 0 ≤ d ∧ d ≤ 7) : stx (x - r.x) d = stx x d - r.x ∧ sty (y - r.y) d = sty y d - r.y := by
  unfold stx sty
  rw [if_neg (by omega), if_neg (by omega), if_neg (by omega), if_neg (by omega), nr_in (n := x) (by omega) (by omega), nr_in (n := y) (by omega) (by omega), nr_in (n := x - r.x) (by omega) (by omega), nr_in (n := y - r.y) (by omega) (by omega)]
  omega
/-- A step of the part: one of the map that stays in the area. -/
theorem part_may {m : M3} {r : R4} (ok : ArOk m r) (hf : formedv m = true) (bl : List Bool) (c : Int) {x y d : Int} (h : insv r x y = true) (hd : 0 ≤ d ∧ d ≤ 7) :
    mayv (partm m r) (partb m bl r) c (x - r.x) (y - r.y) d = (mayv m bl c x y d && insv r (stx x d) (sty y d)) := by
  obtain ⟨_, _, s1, s2, s3, s4⟩ := col_num hf
  have k := ar_in ok hf h
  have o := ok
  obtain ⟨h1, h2, h3, h4, h5, h6, h7, h8⟩ := o
  obtain ⟨e1, e2⟩ := st_shift (r := r) (x := x) (y := y) (d := d) (by omega) (by omega) (by omega) (by omega) hd
  cases hq : insv r (stx x d) (sty y d) with
  | false =>
    rw [Bool.and_false]
    unfold mayv nearv
    rw [e1, e2, part_shut ok hf bl c hq]
    simp
  | true =>
    rw [Bool.and_true]
    have kq := ar_in ok hf hq
    have hu : insv r x (sty y d) = true := by rw [ar_ins ok hf]; exact decide_eq_true (by omega)
    have hw : insv r (stx x d) y = true := by rw [ar_ins ok hf]; exact decide_eq_true (by omega)
    unfold mayv
    rw [e1, e2, part_near ok hf bl c h hq, part_near ok hf bl c h hu, part_near ok hf bl c hu hq, part_near ok hf bl c h hw, part_near ok hf bl c hw hq]
theorem part_cost {m : M3} {r : R4} (ok : ArOk m r) (hf : formedv m = true) (bl : List Bool) (c : Int) {x y d : Int} (h : insv r x y = true) (hd : 0 ≤ d ∧ d ≤ 7) (hm : mayv m bl c x y d = true) (hq : insv r (stx x d) (sty y d) = true) :
    costv (partm m r) (partb m bl r) c (x - r.x) (y - r.y) d = costv m bl c x y d := by
  obtain ⟨_, _, s1, s2, s3, s4⟩ := col_num hf
  have k := ar_in ok hf h
  have o := ok
  obtain ⟨h1, h2, h3, h4, h5, h6, h7, h8⟩ := o
  obtain ⟨e1, e2⟩ := st_shift (r := r) (x := x) (y := y) (d := d) (by omega) (by omega) (by omega) (by omega) hd
  unfold costv
  rw [part_may ok hf bl c h hd, hm, hq, e1, e2, part_get ok hf h, part_get ok hf hq]
  rfl
/-- One direction, in the part. -/
theorem part_one {m : M3} {r : R4} (ok : ArOk m r) (hf : formedv m = true) (bl : List Bool) (c : Int) {p : Pt} (h : insv r p.1 p.2 = true) {d : Nat} (hd : d < 8) :
    oneD (partm m r) (partb m bl r) c (shp r p) d = if (mayv m bl c p.1 p.2 d && insv r (stx p.1 d) (sty p.2 d)) = true then [(shp r (stx p.1 d, sty p.2 d), costv m bl c p.1 p.2 d)] else [] := by
  obtain ⟨_, _, s1, s2, s3, s4⟩ := col_num hf
  have k := ar_in ok hf h
  have o := ok
  obtain ⟨h1, h2, h3, h4, h5, h6, h7, h8⟩ := o
  have hd' : (0 : Int) ≤ d ∧ (d : Int) ≤ 7 := by omega
  obtain ⟨e1, e2⟩ := st_shift (r := r) (x := p.1) (y := p.2) (d := d) (by omega) (by omega) (by omega) (by omega) hd'
  unfold oneD shp
  dsimp only
  rw [part_may ok hf bl c h hd', e1, e2]
  by_cases hc : (mayv m bl c p.1 p.2 d && insv r (stx p.1 d) (sty p.2 d)) = true
  · rw [if_pos hc, if_pos hc]
    rw [Bool.and_eq_true] at hc
    rw [part_cost ok hf bl c h hd' hc.1 hc.2]
  · rw [if_neg hc, if_neg hc]
theorem part_idx {m : M3} {r : R4} (ok : ArOk m r) (hf : formedv m = true) {p : Pt} (h : insv r p.1 p.2 = true) : ∃ i : Nat, i < (cellsv r).length ∧ (cellsv r)[i]? = some p ∧ idx (partm m r) (shp r p) = i ∧ ((p.2 - r.y) * r.w + (p.1 - r.x) = i) := by
  obtain ⟨i, hi, hc, hx⟩ := part_at ok hf h
  refine ⟨i, hi, hc, ?_, ?_⟩
  · unfold idx shp partm
    dsimp only
    rw [hx]; rfl
  · obtain ⟨_, _, s1, s2, s3, s4⟩ := col_num hf
    have k := ar_in ok hf h
    obtain ⟨h1, h2, h3, h4, h5, h6, h7, h8⟩ := ok
    unfold indexv at hx
    rw [nr_in (n := p.1 - r.x) (by omega) (by omega), nr_in (n := p.2 - r.y) (by omega) (by omega), nr_in (n := r.w) (by omega) (by omega)] at hx
    exact hx
/-- A step within the area is one of the part. -/
theorem part_step {m : M3} {r : R4} (ok : ArOk m r) (hf : formedv m = true) (bl : List Bool) (c : Int) {p : Pt} (h : insv r p.1 p.2 = true) {d : Nat} (hd : d < 8) (hm : mayv m bl c p.1 p.2 d = true) (hq : insv r (stx p.1 d) (sty p.2 d) = true) :
    (idx (partm m r) (shp r (stx p.1 d, sty p.2 d)), costv m bl c p.1 p.2 d) ∈ nb (partm m r) (partb m bl r) c (idx (partm m r) (shp r p)) := by
  rw [nb_at (part_formed ok hf) _ _ (by rw [part_insp ok hf]; exact h)]
  refine List.mem_map.2 ⟨(shp r (stx p.1 d, sty p.2 d), costv m bl c p.1 p.2 d), ?_, rfl⟩
  unfold nbp nbGo
  refine List.mem_flatMap.2 ⟨d, List.mem_range.2 hd, ?_⟩
  rw [part_one ok hf bl c h hd, if_pos (by rw [hm, hq]; rfl)]
  exact List.mem_singleton.2 rfl

end

section
open Go.RowKit Go.Lib

theorem clidx_b (w x y n : Int) (W : World) (e : Hid (n = indexv w x y)) : Calls Tryz.prog 43 #[.int .i64 w, .agg #[.int .i64 x, .int .i64 y]] W fun e w' => e = .returned (.int .i64 n) ∧ Below W.heap.size W w' := by
  rw [e.out]; exact dindex_any w x y W
theorem clin_b (w h x y : Int) (b : Bool) (W : World) (e : Hid (b = inv w h x y)) : Calls Tryz.prog 89 #[.int .i64 w, .int .i64 h, .agg #[.int .i64 x, .int .i64 y]] W fun e w' => e = .returned (.bool b) ∧ Below W.heap.size W w' := by
  rw [e.out]; exact din_any w h x y W
theorem clat_b (w i x y : Int) (W : World) (hi : i ≤ 9223372036854775807) (e : Hid (x = atx w i ∧ y = aty w i)) : Calls Tryz.prog 130 #[.int .i64 w, .int .i64 i] W fun e w' => e = .returned (.agg #[.int .i64 x, .int .i64 y]) ∧ Below W.heap.size W w' := by
  rw [e.out.1, e.out.2]; exact dat_any w i W hi
theorem clins_b (r : R4) (p : Pt) (b : Bool) (W : World) (e : Hid (b = insv r p.1 p.2)) : Calls Tryz.prog 39 #[.agg #[.int .i64 r.x, .int .i64 r.y, .int .i64 r.w, .int .i64 r.h], .agg #[.int .i64 p.1, .int .i64 p.2]] W fun e w' => e = .returned (.bool b) ∧ Below W.heap.size W w' := by
  rw [e.out]; exact dins_x r.x r.y r.w r.h p.1 p.2 W
theorem clclip_b (g h x y u v : Int) (q : R4) (W : World) (e : Hid (q = clipv g h ⟨x, y, u, v⟩)) : Calls Tryz.prog 131 #[.int .i64 g, .int .i64 h, .agg #[.int .i64 x, .int .i64 y, .int .i64 u, .int .i64 v]] W fun e w' => e = .returned (.agg #[.int .i64 q.x, .int .i64 q.y, .int .i64 q.w, .int .i64 q.h]) ∧ Below W.heap.size W w' := by
  rw [e.out]; exact dclip_x g h x y u v W

set_option maxHeartbeats 1000000 in
theorem clsq_b (n q : Int) (W : World) (h0 : 0 ≤ n) (h1 : n ≤ 1000) (e : Hid (q = sqc n)) : Calls Tryz.prog 88 #[.int .i64 n] W fun e w' => e = .returned (.int .i64 q) ∧ Below W.heap.size W w' := by
  have s1 : IntKind.i64.wrap (n + 8) = n + 8 := IntWalk.i64_in _ (by omega)
  have s2 : IntKind.i64.wrap (n + 8 - 1) = n + 7 := by rw [IntWalk.i64_in _ (by omega)]; omega
  have s3 : (n + 7).tdiv 8 = q := by rw [e.out]; unfold sqc; exact Int.tdiv_eq_ediv_of_nonneg (by omega)
  have hq : 0 ≤ q ∧ q ≤ 1000 := by rw [e.out]; unfold sqc; omega
  have s4 : wrap64 q = q := IntWalk.wrap64_in _ (by omega)
  have s5 : IntKind.i64.wrap q = q := IntWalk.i64_in _ (by omega)
  clear e
  go_enter Tryz.func88, Tryz.ntmps88
  go_wp2_with fail
  go_ret
  exact ⟨rfl, Below.refl _ _⟩

set_option maxRecDepth 100000 in
set_option maxHeartbeats 4000000 in
theorem clcount_b (m : M3) (sp : Option Addr) (sn sk : Nat) (n : Int) (W : World) (hr : RowAt W (.slice sp sn sk) m.cs) (e : Hid (n = countv m)) : Calls Tryz.prog 36 #[.agg #[.int .i64 m.w, .int .i64 m.h, .slice sp sn sk]] W fun e w' => e = .returned (.int .i64 n) ∧ Below W.heap.size W w' := by
  obtain ⟨b1, h1⟩ : ∃ b1, Hid (b1 = validm m) := ⟨_, hid rfl⟩
  have hT := Held1.start W [.int .i64 m.w, .int .i64 m.h, .slice sp sn sk] 24
  obtain ⟨k0, ek⟩ : ∃ k0, Hid (k0 = W.heap.size) := ⟨_, hid rfl⟩
  go_enter Tryz.func36, Tryz.ntmps36
  go_upto_region 1 with fail
  obtain ⟨X, hX⟩ : ∃ X, X = W.alloc (.cells [Value.int .i64 m.w, .int .i64 m.h, .slice sp sn sk].toArray 24) := ⟨_, rfl⟩
  rw [← hX] at hT ⊢
  clear hX
  have zm := hT.l.at ek.out.symm
  have hW := hT.old
  rw [← ek.out]
  clear hT
  have m0 := zm.cell 0
  have m1 := zm.cell 1
  have m2 := zm.cell 2
  simp only [List.getElem?_cons_zero, List.getElem?_cons_succ] at m0 m1 m2
  go_wp2_with fail
  ((with_reducible refine (dvalidm_b m (.slice sp sn sk) b1 X (hr.below hW) h1).mono ?_); rintro e w1 ⟨rfl, hb1⟩)
  replace zm := zm.below hb1
  replace hW := below_call hW hb1
  clear hb1 m0 m1 m2
  cases b1 with
  | false =>
    obtain rfl : n = 0 := by rw [e.out]; unfold countv; rw [if_neg (by rw [← h1.out]; decide)]
    clear e
    go_wp2_with fail
    go_ret
    exact ⟨rfl, hW⟩
  | true =>
    obtain ⟨cw, hcw⟩ : ∃ q, Hid (q = sqc m.w) := ⟨_, hid rfl⟩
    obtain ⟨ch, hch⟩ : ∃ q, Hid (q = sqc m.h) := ⟨_, hid rfl⟩
    obtain ⟨⟨c1, c2, _, _⟩, ⟨d1, d2, _, _⟩, s1, s2, s3, s4⟩ := col_num (valid_formed h1.out.symm)
    rw [← hcw.out] at c1 c2
    rw [← hch.out] at d1 d2
    obtain rfl : n = cw * ch := by rw [e.out, hcw.out, hch.out]; unfold countv; rw [if_pos h1.out.symm]
    have hb : 0 ≤ cw * ch ∧ cw * ch ≤ 16 := ⟨Int.mul_nonneg (by omega) (by omega), Int.mul_le_mul (c := 4) (d := 4) (by omega) (by omega) (by omega) (by omega)⟩
    have hmul : IntKind.i64.wrap (cw * ch) = cw * ch := IntWalk.i64_in _ (by omega)
    clear e
    have hmx : Tryz.prog.follows .mixedOrders = true := by kernel_rfl
    go_upto_region 3 with fail
    refine wp_onlyN (wp_region_held (S := fun w' => Below w1.heap.size w1 w') hmx ?_)
    show wpAnyH _ _ _ _ _ _ _ _ w1.drew
    have hS0 := (Below.refl w1.heap.size w1).drew
    refine reg_tk (i := 0) (v := .pointer (some ⟨k0, 0, none⟩)) (some 6) rfl (fun w' hS => by (skip); go_simp) hS0 ?_
    try simp only [Act.put, List.setIfInBounds_toArray, List.set_cons_zero, List.set_cons_succ]
    refine reg_tk (i := 1) (v := .int .i64 m.w) (some 7) rfl (fun w' hS => by (have c0 := (zm.below hS).cell 0; simp only [List.getElem?_cons_zero] at c0); go_simp) hS0 ?_
    try simp only [Act.put, List.setIfInBounds_toArray, List.set_cons_zero, List.set_cons_succ]
    refine reg_tk (i := 3) (v := .pointer (some ⟨k0, 1, none⟩)) (some 9) rfl (fun w' hS => by (skip); go_simp) hS0 ?_
    try simp only [Act.put, List.setIfInBounds_toArray, List.set_cons_zero, List.set_cons_succ]
    refine reg_tk (i := 4) (v := .int .i64 m.h) (some 10) rfl (fun w' hS => by (have c1 := (zm.below hS).cell 1; simp only [List.getElem?_cons_zero, List.getElem?_cons_succ] at c1); go_simp) hS0 ?_
    try simp only [Act.put, List.setIfInBounds_toArray, List.set_cons_zero, List.set_cons_succ]
    refine held_one (i := 2) (by kernel_rfl) rfl (fun K hQ => ?_)
    go_simp
    ((with_reducible refine (clsq_b m.w cw _ (by omega) (by omega) hcw).mono ?_); rintro e w2 ⟨rfl, hb2⟩)
    have hS1 := below_call hS0 hb2
    clear hb2
    refine hQ.out _ _ hS1 ?_
    clear hQ
    try simp only [Act.put, List.setIfInBounds_toArray, List.set_cons_zero, List.set_cons_succ]
    refine held_one (i := 5) (by kernel_rfl) rfl (fun K hQ => ?_)
    go_simp
    ((with_reducible refine (clsq_b m.h ch _ (by omega) (by omega) hch).mono ?_); rintro e w3 ⟨rfl, hb3⟩)
    have hS2 := below_call hS1 hb3
    clear hb3
    refine hQ.out _ _ hS2 ?_
    clear hQ
    try simp only [Act.put, List.setIfInBounds_toArray, List.set_cons_zero, List.set_cons_succ]
    refine reg_tk (i := 6) (v := .int .i64 (cw * ch)) (some 12) rfl (fun w' hS => by (skip); go_simp) hS2 ?_
    try simp only [Act.put, List.setIfInBounds_toArray, List.set_cons_zero, List.set_cons_succ]
    refine reg_tk (i := 7) (v := .int .i64 (cw * ch)) (some 2) rfl (fun w' hS => by (skip); go_simp) hS2 ?_
    try simp only [Act.put, List.setIfInBounds_toArray, List.set_cons_zero, List.set_cons_succ]
    refine wpAnyH_done (by kernel_rfl) ?_ _
    try simp only [onlyN]
    go_wp2_with fail
    go_ret
    exact ⟨rfl, below_call hW hS2⟩

set_option maxRecDepth 100000 in
set_option maxHeartbeats 4000000 in
theorem clex_b (m : M3) (sp : Option Addr) (sn sk : Nat) (k : Int) (b : Bool) (W : World) (hr : RowAt W (.slice sp sn sk) m.cs) (e : Hid (b = exv m k)) : Calls Tryz.prog 82 #[.agg #[.int .i64 m.w, .int .i64 m.h, .slice sp sn sk], .int .i64 k] W fun e w' => e = .returned (.bool b) ∧ Below W.heap.size W w' := by
  obtain ⟨n, hn⟩ : ∃ n, Hid (n = countv m) := ⟨_, hid rfl⟩
  have hT := Held1.start W [.int .i64 m.w, .int .i64 m.h, .slice sp sn sk] 24
  by_cases h0 : 0 ≤ k
  · have z0 : decide (0 ≤ k) = true := decide_eq_true h0
    have hb : b = decide (k < n) := by rw [e.out, hn.out]; unfold exv; exact decide_eq_decide.2 (by omega)
    clear e
    go_enter Tryz.func82, Tryz.ntmps82
    go_wp2_with (go_at_call 36; refine (clcount_b m sp sn sk n _ (hr.below hT.old) hn).mono ?_; rintro e w1 ⟨rfl, hb1⟩)
    go_ret
    exact ⟨ret_bit hb.symm, below_call hT.old hb1⟩
  · have z0 : decide (0 ≤ k) = false := decide_eq_false h0
    obtain rfl : b = false := by rw [e.out]; exact decide_eq_false (fun h => h0 h.1)
    clear e
    go_enter Tryz.func82, Tryz.ntmps82
    go_wp2_with fail
    go_ret
    exact ⟨rfl, hT.old⟩

/-- The number of a cell's cluster, as the program works it out. -/
theorem num_index {m : M3} (hf : formedv m = true) {p : Pt} (hp : insp m p = true) : p.2 / 8 * sqc m.w + p.1 / 8 = indexv (sqc m.w) (p.1 / 8) (p.2 / 8) := by
  obtain ⟨⟨c1, c2, _, _⟩, _, s1, s2, s3, s4⟩ := col_num hf
  obtain ⟨⟨x1, x2⟩, y1, y2⟩ := ins_small hf hp
  unfold indexv
  rw [nr_in (n := p.1 / 8) (by omega) (by omega), nr_in (n := p.2 / 8) (by omega) (by omega), nr_in (n := sqc m.w) (by omega) (by omega)]
set_option maxRecDepth 100000 in
set_option maxHeartbeats 4000000 in
theorem clnum_b (m : M3) (sp : Option Addr) (sn sk : Nat) (p : Pt) (k : Int) (W : World) (hf : formedv m = true) (hp : insp m p = true) (e : Hid (k = p.2 / 8 * sqc m.w + p.1 / 8)) : Calls Tryz.prog 90 #[.agg #[.int .i64 m.w, .int .i64 m.h, .slice sp sn sk], .agg #[.int .i64 p.1, .int .i64 p.2]] W fun e w' => e = .returned (.int .i64 k) ∧ Below W.heap.size W w' := by
  obtain ⟨cw, hcw⟩ : ∃ q, Hid (q = sqc m.w) := ⟨_, hid rfl⟩
  obtain ⟨_, _, s1, s2, _, _⟩ := col_num hf
  obtain ⟨⟨x1, x2⟩, y1, y2⟩ := ins_small hf hp
  obtain ⟨a, ha⟩ : ∃ a, Hid (a = p.1 / 8) := ⟨_, hid rfl⟩
  obtain ⟨b, hb⟩ : ∃ b, Hid (b = p.2 / 8) := ⟨_, hid rfl⟩
  have hix : Hid (k = indexv cw a b) := hid (by rw [e.out, hcw.out, ha.out, hb.out]; exact num_index hf hp)
  have t1 : p.1.tdiv 8 = a := by rw [ha.out]; exact Int.tdiv_eq_ediv_of_nonneg x1
  have t2 : p.2.tdiv 8 = b := by rw [hb.out]; exact Int.tdiv_eq_ediv_of_nonneg y1
  have ab : (0 ≤ a ∧ a ≤ 31) ∧ (0 ≤ b ∧ b ≤ 31) := by rw [ha.out, hb.out]; omega
  have t3 : IntKind.i64.wrap a = a := IntWalk.i64_in _ (by omega)
  have t4 : IntKind.i64.wrap b = b := IntWalk.i64_in _ (by omega)
  have t5 : wrap64 a = a := IntWalk.wrap64_in _ (by omega)
  have t6 : wrap64 b = b := IntWalk.wrap64_in _ (by omega)
  have hT := Held2.start W [.int .i64 m.w, .int .i64 m.h, .slice sp sn sk] [.int .i64 p.1, .int .i64 p.2] 24 29
  obtain ⟨k0, ek⟩ : ∃ k0, Hid (k0 = W.heap.size) := ⟨_, hid rfl⟩
  obtain ⟨k1, ek1⟩ : ∃ k1, Hid (k1 = W.heap.size + 1) := ⟨_, hid rfl⟩
  clear e
  go_enter Tryz.func90, Tryz.ntmps90
  go_upto_region 1 with fail
  obtain ⟨X, hX⟩ : ∃ X, X = (W.alloc (.cells [Value.int .i64 m.w, .int .i64 m.h, .slice sp sn sk].toArray 24)).alloc (.cells [Value.int .i64 p.1, .int .i64 p.2].toArray 29) := ⟨_, rfl⟩
  rw [← hX] at hT ⊢
  clear hX
  have zm := hT.l.at ek.out.symm
  have zp := hT.r.at ek1.out.symm
  have hW := hT.old
  rw [← ek1.out]
  rw [← ek.out]
  clear hT
  have hmx : Tryz.prog.follows .mixedOrders = true := by kernel_rfl
  go_upto_region 1 with fail
  refine wp_onlyN (wp_region_held (S := fun w' => Below X.heap.size X w') hmx ?_)
  show wpAnyH _ _ _ _ _ _ _ _ X.drew
  have hS0 := (Below.refl X.heap.size X).drew
  refine reg_tk (i := 0) (v := .pointer (some ⟨k0, 0, none⟩)) (some 5) rfl (fun w' hS => by (skip); go_simp) hS0 ?_
  try simp only [Act.put, List.setIfInBounds_toArray, List.set_cons_zero, List.set_cons_succ]
  refine reg_tk (i := 1) (v := .int .i64 m.w) (some 6) rfl (fun w' hS => by (have c0 := (zm.below hS).cell 0; simp only [List.getElem?_cons_zero] at c0); go_simp) hS0 ?_
  try simp only [Act.put, List.setIfInBounds_toArray, List.set_cons_zero, List.set_cons_succ]
  refine reg_tk (i := 3) (v := .pointer (some ⟨k1, 0, none⟩)) (some 8) rfl (fun w' hS => by (skip); go_simp) hS0 ?_
  try simp only [Act.put, List.setIfInBounds_toArray, List.set_cons_zero, List.set_cons_succ]
  refine reg_tk (i := 4) (v := .int .i64 p.1) (some 9) rfl (fun w' hS => by (have c0 := (zp.below hS).cell 0; simp only [List.getElem?_cons_zero] at c0); go_simp) hS0 ?_
  try simp only [Act.put, List.setIfInBounds_toArray, List.set_cons_zero, List.set_cons_succ]
  refine reg_tk (i := 5) (v := .int .i64 a) (some 10) rfl (fun w' hS => by (skip); go_simp) hS0 ?_
  try simp only [Act.put, List.setIfInBounds_toArray, List.set_cons_zero, List.set_cons_succ]
  refine reg_tk (i := 6) (v := .pointer (some ⟨k1, 1, none⟩)) (some 11) rfl (fun w' hS => by (skip); go_simp) hS0 ?_
  try simp only [Act.put, List.setIfInBounds_toArray, List.set_cons_zero, List.set_cons_succ]
  refine reg_tk (i := 7) (v := .int .i64 p.2) (some 12) rfl (fun w' hS => by (have c1 := (zp.below hS).cell 1; simp only [List.getElem?_cons_zero, List.getElem?_cons_succ] at c1); go_simp) hS0 ?_
  try simp only [Act.put, List.setIfInBounds_toArray, List.set_cons_zero, List.set_cons_succ]
  refine reg_tk (i := 8) (v := .int .i64 b) (some 13) rfl (fun w' hS => by (skip); go_simp) hS0 ?_
  try simp only [Act.put, List.setIfInBounds_toArray, List.set_cons_zero, List.set_cons_succ]
  refine reg_tk (i := 9) (v := .agg #[.int .i64 a, .int .i64 b]) (some 14) rfl (fun w' hS => by (skip); go_simp) hS0 ?_
  try simp only [Act.put, List.setIfInBounds_toArray, List.set_cons_zero, List.set_cons_succ]
  refine held_one (i := 2) (by kernel_rfl) rfl (fun K hQ => ?_)
  go_simp
  ((with_reducible refine (clsq_b m.w cw _ (by omega) (by omega) hcw).mono ?_); rintro e w2 ⟨rfl, hb2⟩)
  have hS1 := below_call hS0 hb2
  clear hb2
  refine hQ.out _ _ hS1 ?_
  clear hQ
  try simp only [Act.put, List.setIfInBounds_toArray, List.set_cons_zero, List.set_cons_succ]
  refine held_one (i := 10) (by kernel_rfl) rfl (fun K hQ => ?_)
  go_simp
  ((with_reducible refine (clidx_b cw a b k _ hix).mono ?_); rintro e w3 ⟨rfl, hb3⟩)
  have hS2 := below_call hS1 hb3
  clear hb3
  refine hQ.out _ _ hS2 ?_
  clear hQ
  try simp only [Act.put, List.setIfInBounds_toArray, List.set_cons_zero, List.set_cons_succ]
  refine reg_tk (i := 11) (v := .int .i64 k) (some 4) rfl (fun w' hS => by (skip); go_simp) hS2 ?_
  try simp only [Act.put, List.setIfInBounds_toArray, List.set_cons_zero, List.set_cons_succ]
  refine wpAnyH_done (by kernel_rfl) ?_ _
  try simp only [onlyN]
  go_wp2_with fail
  go_ret
  exact ⟨rfl, below_call hW hS2⟩

set_option maxRecDepth 100000 in
set_option maxHeartbeats 4000000 in
theorem claro_b (m : M3) (sp : Option Addr) (sn sk : Nat) (k : Int) (r : R4) (W : World) (hx : exv m k = true) (e : Hid (r = arv m k)) : Calls Tryz.prog 83 #[.agg #[.int .i64 m.w, .int .i64 m.h, .slice sp sn sk], .int .i64 k] W fun e w' => e = .returned (.agg #[.int .i64 r.x, .int .i64 r.y, .int .i64 r.w, .int .i64 r.h]) ∧ Below W.heap.size W w' := by
  have hf := valid_formed (ex_valid hx).1
  obtain ⟨⟨c1, c2, _, _⟩, ⟨d1, d2, _, _⟩, s1, s2, s3, s4⟩ := col_num hf
  obtain ⟨⟨g1, g2⟩, ⟨g3, g4⟩, _⟩ := place_num hx
  obtain ⟨_, k0', k1'⟩ := ex_valid hx
  have hkb : k ≤ 1000 := by
    have := Int.mul_le_mul (c := 4) (d := 4) (show sqc m.w ≤ 4 by omega) (show sqc m.h ≤ 4 by omega) (by omega) (by omega)
    omega
  obtain ⟨cw, hcw⟩ : ∃ q, Hid (q = sqc m.w) := ⟨_, hid rfl⟩
  obtain ⟨a, ha⟩ : ∃ a, Hid (a = k % sqc m.w) := ⟨_, hid rfl⟩
  obtain ⟨b, hb⟩ : ∃ b, Hid (b = k / sqc m.w) := ⟨_, hid rfl⟩
  have hat : Hid (a = atx cw k ∧ b = aty cw k) := hid (by
    rw [hcw.out]
    unfold atx aty
    rw [if_neg (by omega), if_neg (by omega), ha.out, hb.out]
    exact ⟨rfl, rfl⟩)
  rw [← ha.out] at g1 g2
  rw [← hb.out] at g3 g4
  have hcl : Hid (r = clipv m.w m.h ⟨a * 8, b * 8, 8, 8⟩) := hid (by rw [e.out, ha.out, hb.out, ar_clip hx])
  have t1 : IntKind.i64.wrap (a * 8) = a * 8 := IntWalk.i64_in _ (by omega)
  have t2 : IntKind.i64.wrap (b * 8) = b * 8 := IntWalk.i64_in _ (by omega)
  have hT := (Held1.start W [.int .i64 m.w, .int .i64 m.h, .slice sp sn sk] 24).alloc (.cells [Value.int .i64 0, .int .i64 0, .int .i64 0, .int .i64 0].toArray 72)
  have hB := (Blk.new (W.alloc (.cells [Value.int .i64 m.w, .int .i64 m.h, .slice sp sn sk].toArray 24)) [.int .i64 0, .int .i64 0, .int .i64 0, .int .i64 0] 72).at (World.size_alloc _ _)
  obtain ⟨k0, ek⟩ : ∃ k0, Hid (k0 = W.heap.size) := ⟨_, hid rfl⟩
  obtain ⟨k1, ek1⟩ : ∃ k1, Hid (k1 = W.heap.size + 1) := ⟨_, hid rfl⟩
  clear e hx
  go_enter Tryz.func83, Tryz.ntmps83
  go_upto_region 1 with fail
  obtain ⟨X, hX⟩ : ∃ X, X = (W.alloc (.cells [Value.int .i64 m.w, .int .i64 m.h, .slice sp sn sk].toArray 24)).alloc (.cells [Value.int .i64 0, .int .i64 0, .int .i64 0, .int .i64 0].toArray 72) := ⟨_, rfl⟩
  have zm := hT.l.at ek.out.symm
  have zr := hB.at ek1.out.symm
  have hW := hT.old
  rw [← hX] at zm zr hW ⊢
  clear hX hT hB
  rw [← ek1.out]
  rw [← ek.out]
  have hk1 : W.heap.size ≤ k1 := by rw [ek1.out]; omega
  have m0 := zm.cell 0
  have m1 := zm.cell 1
  simp only [List.getElem?_cons_zero, List.getElem?_cons_succ] at m0 m1
  go_wp2_with fail
  ((with_reducible refine (clsq_b m.w cw _ (by omega) (by omega) hcw).mono ?_); rintro e w1 ⟨rfl, hb1⟩)
  replace zm := zm.below hb1
  replace zr := zr.below hb1
  replace hW := below_call hW hb1
  clear hb1 m0 m1
  go_wp2_with fail
  ((with_reducible refine (clat_b cw k a b _ (by omega) hat).mono ?_); rintro e w2 ⟨rfl, hb2⟩)
  have hb3 := hb2.alloc hb2.size (.cells (ptL (a, b)).toArray 29)
  have zp := Blk.new w2 (ptL (a, b)) 29
  replace zm := zm.below hb3
  replace zr := zr.below hb3
  replace hW := below_call hW hb3
  go_upto_region 2 with fail
  obtain ⟨Y, hY⟩ : ∃ Y, Y = w2.alloc (.cells #[Value.int .i64 a, .int .i64 b] 29) := ⟨_, rfl⟩
  rw [← hY]
  rw [show w2.alloc (.cells (ptL (a, b)).toArray 29) = Y from hY.symm] at zm zr zp hW
  clear hY hb2 hb3
  have m0 := zm.cell 0
  have m1 := zm.cell 1
  have p0 := zp.cell 0
  have p1 := zp.cell 1
  simp only [List.getElem?_cons_zero, List.getElem?_cons_succ] at m0 m1 p0 p1
  go_wp2_with fail
  ((with_reducible refine (clclip_b m.w m.h (a * 8) (b * 8) 8 8 r _ hcl).mono ?_); rintro e w4 ⟨rfl, hb4⟩)
  replace zr := zr.below hb4
  replace hW := below_call hW hb4
  obtain ⟨_, _, _, _, _, _, _, _⟩ := zr.four
  go_wp2_with fail
  have zr2 := zr.put4 (.int .i64 r.x) (.int .i64 r.y) (.int .i64 r.w) (.int .i64 r.h)
  obtain ⟨_, _, _, _, -, -, -, -⟩ := zr2.four
  refine bodyPost_ret (v := .agg #[.int .i64 r.x, .int .i64 r.y, .int .i64 r.w, .int .i64 r.h]) (by simp [results, Tryz.results83, go_sem, *]) rfl ⟨rfl, ?_⟩
  exact (((hW.setCell hk1 _).setCell hk1 _).setCell hk1 _).setCell hk1 _

set_option maxRecDepth 100000 in
set_option maxHeartbeats 4000000 in
theorem clof_b (m : M3) (sp : Option Addr) (sn sk : Nat) (p : Pt) (k : Int) (W : World) (hr : RowAt W (.slice sp sn sk) m.cs) (e : Hid (k = ofv m p)) : Calls Tryz.prog 37 #[.agg #[.int .i64 m.w, .int .i64 m.h, .slice sp sn sk], .agg #[.int .i64 p.1, .int .i64 p.2]] W fun e w' => e = .returned (.int .i64 k) ∧ Below W.heap.size W w' := by
  obtain ⟨b1, h1⟩ : ∃ b1, Hid (b1 = validm m) := ⟨_, hid rfl⟩
  obtain ⟨b2, h2⟩ : ∃ b2, Hid (b2 = insp m p) := ⟨_, hid rfl⟩
  have hk : Hid (k = if (b1 && b2) = true then p.2 / 8 * sqc m.w + p.1 / 8 else -1) := hid (by rw [e.out, h1.out, h2.out]; rfl)
  clear e
  have hT := Held2.start W [.int .i64 m.w, .int .i64 m.h, .slice sp sn sk] [.int .i64 p.1, .int .i64 p.2] 24 29
  obtain ⟨k0, ek⟩ : ∃ k0, Hid (k0 = W.heap.size) := ⟨_, hid rfl⟩
  obtain ⟨k1, ek1⟩ : ∃ k1, Hid (k1 = W.heap.size + 1) := ⟨_, hid rfl⟩
  go_enter Tryz.func37, Tryz.ntmps37
  go_upto_region 1 with fail
  obtain ⟨X, hX⟩ : ∃ X, X = (W.alloc (.cells [Value.int .i64 m.w, .int .i64 m.h, .slice sp sn sk].toArray 24)).alloc (.cells [Value.int .i64 p.1, .int .i64 p.2].toArray 29) := ⟨_, rfl⟩
  rw [← hX] at hT ⊢
  clear hX
  have zm := hT.l.at ek.out.symm
  have zp := hT.r.at ek1.out.symm
  have hW := hT.old
  rw [← ek1.out]
  rw [← ek.out]
  clear hT
  have m0 := zm.cell 0
  have m1 := zm.cell 1
  have m2 := zm.cell 2
  simp only [List.getElem?_cons_zero, List.getElem?_cons_succ] at m0 m1 m2
  go_wp2_with fail
  ((with_reducible refine (dvalidm_b m (.slice sp sn sk) b1 X (hr.below hW) h1).mono ?_); rintro e w1 ⟨rfl, hb1⟩)
  replace zm := zm.below hb1
  replace zp := zp.below hb1
  replace hW := below_call hW hb1
  clear hb1 m0 m1 m2
  cases b1 with
  | false =>
    obtain rfl : k = -1 := hk.out
    clear hk
    go_wp2_with fail
    go_ret
    exact ⟨rfl, hW⟩
  | true =>
    have hf := valid_formed h1.out.symm
    have h2v : Hid (b2 = inv m.w m.h p.1 p.2) := hid h2.out
    have m0 := zm.cell 0
    have m1 := zm.cell 1
    have p0 := zp.cell 0
    have p1 := zp.cell 1
    simp only [List.getElem?_cons_zero, List.getElem?_cons_succ] at m0 m1 p0 p1
    go_wp2_with fail
    ((with_reducible refine (clin_b m.w m.h p.1 p.2 b2 w1 h2v).mono ?_); rintro e w2 ⟨rfl, hb2⟩)
    replace zm := zm.below hb2
    replace zp := zp.below hb2
    replace hW := below_call hW hb2
    clear hb2 m0 m1 p0 p1
    cases b2 with
    | false =>
      obtain rfl : k = -1 := hk.out
      clear hk
      go_wp2_with fail
      go_ret
      exact ⟨rfl, hW⟩
    | true =>
      have hk2 : Hid (k = p.2 / 8 * sqc m.w + p.1 / 8) := hid hk.out
      have m0 := zm.cell 0
      have m1 := zm.cell 1
      have m2 := zm.cell 2
      have p0 := zp.cell 0
      have p1 := zp.cell 1
      simp only [List.getElem?_cons_zero, List.getElem?_cons_succ] at m0 m1 m2 p0 p1
      clear hk
      go_wp2_with fail
      ((with_reducible refine (clnum_b m sp sn sk p k w2 hf h2.out.symm hk2).mono ?_); rintro e w3 ⟨rfl, hb3⟩)
      go_wp2_with fail
      go_ret
      exact ⟨rfl, below_call hW hb3⟩

set_option maxRecDepth 100000 in
set_option maxHeartbeats 4000000 in
theorem clarea_b (m : M3) (sp : Option Addr) (sn sk : Nat) (k : Int) (r : R4) (b : Bool) (W : World) (hr : RowAt W (.slice sp sn sk) m.cs) (hb : Hid (b = exv m k)) (e : Hid (r = areav m k)) : Calls Tryz.prog 34 #[.agg #[.int .i64 m.w, .int .i64 m.h, .slice sp sn sk], .int .i64 k] W fun e w' => e = .returned (.tuple #[.agg #[.int .i64 r.x, .int .i64 r.y, .int .i64 r.w, .int .i64 r.h], .bool b]) ∧ Below W.heap.size W w' := by
  have hT := (Held1.start W [.int .i64 m.w, .int .i64 m.h, .slice sp sn sk] 24).alloc (.cells [Value.int .i64 0, .int .i64 0, .int .i64 0, .int .i64 0].toArray 72)
  have hB := (Blk.new (W.alloc (.cells [Value.int .i64 m.w, .int .i64 m.h, .slice sp sn sk].toArray 24)) [.int .i64 0, .int .i64 0, .int .i64 0, .int .i64 0] 72).at (World.size_alloc _ _)
  obtain ⟨k0, ek⟩ : ∃ k0, Hid (k0 = W.heap.size) := ⟨_, hid rfl⟩
  obtain ⟨k1, ek1⟩ : ∃ k1, Hid (k1 = W.heap.size + 1) := ⟨_, hid rfl⟩
  go_enter Tryz.func34, Tryz.ntmps34
  go_upto_region 1 with fail
  obtain ⟨X, hX⟩ : ∃ X, X = (W.alloc (.cells [Value.int .i64 m.w, .int .i64 m.h, .slice sp sn sk].toArray 24)).alloc (.cells [Value.int .i64 0, .int .i64 0, .int .i64 0, .int .i64 0].toArray 72) := ⟨_, rfl⟩
  have zm := hT.l.at ek.out.symm
  have zr := hB.at ek1.out.symm
  have hW := hT.old
  rw [← hX] at zm zr hW ⊢
  clear hX hT hB
  rw [← ek1.out]
  rw [← ek.out]
  have hk1 : W.heap.size ≤ k1 := by rw [ek1.out]; omega
  have m0 := zm.cell 0
  have m1 := zm.cell 1
  have m2 := zm.cell 2
  simp only [List.getElem?_cons_zero, List.getElem?_cons_succ] at m0 m1 m2
  go_wp2_with fail
  ((with_reducible refine (clex_b m sp sn sk k b X (hr.below hW) hb).mono ?_); rintro e w1 ⟨rfl, hb1⟩)
  replace zm := zm.below hb1
  replace zr := zr.below hb1
  replace hW := below_call hW hb1
  clear hb1 m0 m1 m2
  cases b with
  | false =>
    obtain rfl : r = R4.zero := by rw [e.out]; unfold areav; rw [if_neg (by rw [← hb.out]; decide)]
    clear e
    obtain ⟨_, _, _, _, _, _, _, _⟩ := zr.four
    go_wp2_with fail
    have zr2 := zr.put4 (.int .i64 0) (.int .i64 0) (.int .i64 0) (.int .i64 0)
    obtain ⟨_, _, _, _, -, -, -, -⟩ := zr2.four
    refine bodyPost_ret (v := .tuple #[.agg #[.int .i64 0, .int .i64 0, .int .i64 0, .int .i64 0], .bool false]) (by simp [results, Tryz.results34, go_sem, *]) rfl ⟨rfl, ?_⟩
    exact (((hW.setCell hk1 _).setCell hk1 _).setCell hk1 _).setCell hk1 _
  | true =>
    have hr2 : Hid (r = arv m k) := hid (by rw [e.out, ar_val hb.out.symm])
    clear e
    have m0 := zm.cell 0
    have m1 := zm.cell 1
    have m2 := zm.cell 2
    simp only [List.getElem?_cons_zero, List.getElem?_cons_succ] at m0 m1 m2
    go_wp2_with fail
    ((with_reducible refine (claro_b m sp sn sk k r w1 hb.out.symm hr2).mono ?_); rintro e w2 ⟨rfl, hb2⟩)
    replace zr := zr.below hb2
    replace hW := below_call hW hb2
    clear hb2 m0 m1 m2
    obtain ⟨_, _, _, _, _, _, _, _⟩ := zr.four
    go_wp2_with fail
    have zr2 := zr.put4 (.int .i64 r.x) (.int .i64 r.y) (.int .i64 r.w) (.int .i64 r.h)
    obtain ⟨_, _, _, _, -, -, -, -⟩ := zr2.four
    refine bodyPost_ret (v := .tuple #[.agg #[.int .i64 r.x, .int .i64 r.y, .int .i64 r.w, .int .i64 r.h], .bool true]) (by simp [results, Tryz.results34, go_sem, *]) rfl ⟨rfl, ?_⟩
    exact (((hW.setCell hk1 _).setCell hk1 _).setCell hk1 _).setCell hk1 _

set_option maxRecDepth 100000 in
set_option maxHeartbeats 4000000 in
theorem clwithin_b (r : R4) (p q : Pt) (W : World) (h1 : 0 ≤ r.x ∧ r.x ≤ 32 ∧ 0 ≤ r.y ∧ r.y ≤ 32) (h2 : 0 ≤ p.1 ∧ p.1 ≤ 32 ∧ 0 ≤ p.2 ∧ p.2 ≤ 32) (e : Hid (q = shp r p)) : Calls Tryz.prog 42 #[.agg #[.int .i64 r.x, .int .i64 r.y, .int .i64 r.w, .int .i64 r.h], .agg #[.int .i64 p.1, .int .i64 p.2]] W fun e w' => e = .returned (.agg #[.int .i64 q.1, .int .i64 q.2]) ∧ Below W.heap.size W w' := by
  have hK := ((((Keep.nil W).alloc [.int .i64 r.x, .int .i64 r.y, .int .i64 r.w, .int .i64 r.h] 72).alloc [.int .i64 p.1, .int .i64 p.2] 29).alloc [.int .i64 0, .int .i64 0] 29)
  simp only [World.size_alloc] at hK
  have t1 : IntKind.i64.wrap (p.1 - r.x) = q.1 := by rw [e.out]; exact IntWalk.i64_in _ (by omega)
  have t2 : IntKind.i64.wrap (p.2 - r.y) = q.2 := by rw [e.out]; exact IntWalk.i64_in _ (by omega)
  clear e
  go_enter Tryz.func42, Tryz.ntmps42
  go_upto_region 1 with fail
  obtain ⟨X, hX⟩ : ∃ X, X = ((W.alloc (.cells [Value.int .i64 r.x, .int .i64 r.y, .int .i64 r.w, .int .i64 r.h].toArray 72)).alloc (.cells [Value.int .i64 p.1, .int .i64 p.2].toArray 29)).alloc (.cells [Value.int .i64 0, .int .i64 0].toArray 29) := ⟨_, rfl⟩
  rw [← hX] at hK ⊢
  clear hX
  obtain ⟨zq, zp, zr⟩ := hK.three
  have hW := hK.old
  obtain ⟨_, _, _, _⟩ := zq.two
  obtain ⟨_, _, -, -⟩ := zp.two
  obtain ⟨_, _, _, _, -, -, -, -⟩ := zr.four
  go_wp2_with fail
  have zq2 := zq.put2 (.int .i64 q.1) (.int .i64 q.2)
  obtain ⟨_, _, -, -⟩ := zq2.two
  refine bodyPost_ret (v := .agg #[.int .i64 q.1, .int .i64 q.2]) (by simp [results, Tryz.results42, go_sem, *]) rfl ⟨rfl, ?_⟩
  exact ((hW.setCell (by simp; omega) _).setCell (by simp; omega) _)

end

section
open Go.RowKit Go.Lib

theorem ccells_next (f : Pt → C3) (L : List Pt) (p : Pt) : ccells (L.map f) ++ [.int .i64 (f p).k, .int .i64 (f p).h, .int .i64 (f p).a] = ccells ((L ++ [p]).map f) := by
  rw [ccells_snoc, List.map_append]
  rfl
theorem bools_next (f : Pt → Bool) (L : List Pt) (p : Pt) : bools (L.map f) ++ [.bool (f p)] = bools ((L ++ [p]).map f) := by
  unfold bools
  rw [List.map_append, List.map_append]
  rfl
def cutC (m : M3) (L : List Pt) (i : Nat) : List Value := ccells ((L.take i).map fun p => getv m p.1 p.2)
def cutB (m : M3) (bl : List Bool) (L : List Pt) (i : Nat) : List Value := bools ((L.take i).map fun p => bl.getD (indexv m.w p.1 p.2).toNat false)
theorem cutC_next (m : M3) {L : List Pt} {i : Nat} {p : Pt} (h : L.take (i + 1) = L.take i ++ [p]) : cutC m L i ++ [.int .i64 (getv m p.1 p.2).k, .int .i64 (getv m p.1 p.2).h, .int .i64 (getv m p.1 p.2).a] = cutC m L (i + 1) := by
  unfold cutC
  rw [h]
  exact ccells_next (fun p => getv m p.1 p.2) _ p
theorem cutB_next (m : M3) (bl : List Bool) {L : List Pt} {i : Nat} {p : Pt} (h : L.take (i + 1) = L.take i ++ [p]) : cutB m bl L i ++ [.bool (bl.getD (indexv m.w p.1 p.2).toNat false)] = cutB m bl L (i + 1) := by
  unfold cutB
  rw [h]
  exact bools_next (fun p => bl.getD (indexv m.w p.1 p.2).toNat false) _ p
theorem cutC_all (m : M3) {L : List Pt} {r : R4} {n : Nat} (h : cellsv r = L) (hn : L.length = n) : cutC m L n = ccells (partm m r).cs := by
  unfold cutC partm
  rw [h, ← hn, List.take_length]
theorem cutB_all (m : M3) (bl : List Bool) {L : List Pt} {r : R4} {n : Nat} (h : cellsv r = L) (hn : L.length = n) : cutB m bl L n = bools (partb m bl r) := by
  unfold cutB partb
  rw [h, ← hn, List.take_length]
theorem cellLone3 (a b c : Int) : ∀ u ∈ [Value.int .i64 a, .int .i64 b, .int .i64 c], u.oneCell' = true := by
  intro u h
  simp only [List.mem_cons, List.not_mem_nil, or_false] at h
  rcases h with rfl | rfl | rfl <;> rfl
theorem boolLone (b : Bool) : ∀ u ∈ [Value.bool b], u.oneCell' = true := by
  intro u h
  rw [List.mem_singleton.1 h]
  rfl

theorem own_kept2 {w w' : World} {B k n : Nat} {e : TypeId} {v : Value} {xs : List Value} {row : Option Nat} (h : w.ownsRow B e k v n xs) (hg : w.grownBy w' row) (hne : ∀ j, v.ownBlock = some j → row ≠ some j) : w'.ownsRow B e k v n xs := by
  refine h.kept hg ?_
  cases hv : v.ownBlock with
  | none => exact .inl rfl
  | some j => exact .inr (fun e => hne j hv e.symm)
/-- Rows of different types lie in different blocks. -/
theorem own_apart_t {w : World} {B C k n k2 m : Nat} {e f : TypeId} {v u : Value} {xs ys : List Value} (h : w.ownsRow B e k v n xs) (h2 : w.ownsRow C f k2 u m ys) (hef : e ≠ f) (j : Nat) (hv : v.ownBlock = some j) (hu : u.ownBlock = some j) : False := by
  rcases h.2 with ⟨rfl, _⟩ | ⟨g, cap, cur, rfl, _, hh, _⟩
  · cases hv
  · rcases h2.2 with ⟨rfl, _⟩ | ⟨g2, cap2, cur2, rfl, _, hh2, _⟩
    · cases hu
    · injection hv with hv
      injection hu with hu
      subst hv
      subst hu
      rw [hh] at hh2
      injection hh2 with hh2
      injection hh2 with _ h3
      exact hef h3
set_option maxRecDepth 100000 in
set_option maxHeartbeats 16000000 in
theorem clcut_b (m : M3) (sp : Option Addr) (sn sk : Nat) (bl : List Bool) (lp : Option Addr) (lk : Nat) (r : R4) (W : World) (hr : RowAt W (.slice sp sn sk) m.cs) (hl : BitsAt W (.slice lp bl.length lk) bl) (hf : formedv m = true) (ok : ArOk m r) :
    Calls Tryz.prog 40 #[.agg #[.int .i64 m.w, .int .i64 m.h, .slice sp sn sk], .slice lp bl.length lk, .agg #[.int .i64 r.x, .int .i64 r.y, .int .i64 r.w, .int .i64 r.h]] W fun e w' =>
      ∃ N g cap g2 cap2, e = .returned (.tuple #[.agg #[.int .i64 r.w, .int .i64 r.h, .slice (some ⟨g, 0, none⟩) N cap], .slice (some ⟨g2, 0, none⟩) N cap2]) ∧ Hid (N = (cellsv r).length) ∧ w'.ownsRow W.heap.size 53 3 (.slice (some ⟨g, 0, none⟩) N cap) N (ccells (partm m r).cs) ∧ w'.ownsRow W.heap.size 4 1 (.slice (some ⟨g2, 0, none⟩) N cap2) N (bools (partb m bl r)) ∧ Below W.heap.size W w' := by
  have hmx : Tryz.prog.follows .mixedOrders = true := by kernel_rfl
  obtain ⟨ti, hi0, hz0, hz1, hz2⟩ := info_cut infoCell
  obtain ⟨tj, hj0, hy0, hy1, hy2⟩ := info_cut asinfoBool
  obtain ⟨pm, cm, em, hmm, hmc⟩ := id hr
  injection em with em1 em2 em3
  subst em1 em2 em3
  obtain ⟨cw, ch, ew, eh, w1, w8, h1, h8, ec⟩ := cells_ar ok hf
  obtain ⟨L, hL⟩ : ∃ L, Hid (cellsv r = L) := ⟨_, hid rfl⟩
  have hLl : L.length ≤ 64 ∧ 1 ≤ L.length := by
    rw [← hL.out, ec, List.length_map, List.length_range]
    exact ⟨Nat.mul_le_mul h8 w8, Nat.mul_le_mul h1 w1⟩
  clear ec ew eh
  have hLin : ∀ p, p ∈ L → insidev m p.1 p.2 = true := fun p hp => by
    rw [← hL.out] at hp
    exact (ar_insp ok hf ((mem_ar ok hf).1 hp)).2
  obtain ⟨gm, om, rfl, hmq⟩ := hmc (by
    obtain ⟨X, Y, _, _, x1, _, y1, _, hl, _⟩ := formed_num hf
    rw [hl]
    exact Nat.mul_le_mul x1 y1)
  have hK := ((((Keep.nil W).alloc [.int .i64 m.w, .int .i64 m.h, .slice (some ⟨gm, om, none⟩) m.cs.length sk] 24).alloc [.int .i64 r.x, .int .i64 r.y, .int .i64 r.w, .int .i64 r.h] 72).alloc [.int .i64 0, .int .i64 0, .slice none 0 0] 24)
  simp only [World.size_alloc] at hK
  obtain ⟨k2, e2⟩ : ∃ k2, Hid (k2 = W.heap.size + 1 + 1) := ⟨_, hid rfl⟩
  obtain ⟨k1, e1⟩ : ∃ k1, Hid (k1 = W.heap.size + 1) := ⟨_, hid rfl⟩
  obtain ⟨k0, e0⟩ : ∃ k0, Hid (k0 = W.heap.size) := ⟨_, hid rfl⟩
  obtain ⟨sn, hsn⟩ : ∃ sn, Hid (sn = m.cs.length) := ⟨_, hid rfl⟩
  rw [← hsn.out] at hK hmm ⊢
  unfold maxLen at hmm
  go_enter Tryz.func40, Tryz.ntmps40
  go_upto_region 1 with fail
  obtain ⟨X, hX⟩ : ∃ X, X = ((W.alloc (.cells [Value.int .i64 m.w, .int .i64 m.h, .slice (some ⟨gm, om, none⟩) sn sk].toArray 24)).alloc (.cells [Value.int .i64 r.x, .int .i64 r.y, .int .i64 r.w, .int .i64 r.h].toArray 72)).alloc (.cells [Value.int .i64 0, .int .i64 0, .slice none 0 0].toArray 24) := ⟨_, rfl⟩
  rw [← hX] at hK ⊢
  clear hX
  have zm : Blk X k0 [.int .i64 m.w, .int .i64 m.h, .slice (some ⟨gm, om, none⟩) sn sk] 24 := (hK.blks (W.heap.size, [.int .i64 m.w, .int .i64 m.h, .slice (some ⟨gm, om, none⟩) sn sk], 24) (by simp)).at e0.out.symm
  have zr : Blk X k1 [.int .i64 r.x, .int .i64 r.y, .int .i64 r.w, .int .i64 r.h] 72 := (hK.blks (W.heap.size + 1, [.int .i64 r.x, .int .i64 r.y, .int .i64 r.w, .int .i64 r.h], 72) (by simp)).at e1.out.symm
  have zo : Blk X k2 [.int .i64 0, .int .i64 0, .slice none 0 0] 24 := (hK.blks (W.heap.size + 1 + 1, [.int .i64 0, .int .i64 0, .slice none 0 0], 24) (by simp)).at e2.out.symm
  have hW := hK.old
  rw [← e2.out, ← e1.out]
  rw [← e0.out]
  have hk2W : W.heap.size ≤ k2 := by rw [e2.out]; omega
  have hk02 : k0 ≠ k2 := by rw [e2.out, e0.out]; omega
  clear hK
  have q0 := zr.cell 0
  have q1 := zr.cell 1
  have q2 := zr.cell 2
  have q3 := zr.cell 3
  simp only [List.getElem?_cons_zero, List.getElem?_cons_succ] at q0 q1 q2 q3
  go_upto_region 3 with fail
  have hb0 := (Below.refl X.heap.size X).alloc (Nat.le_refl _) (.cells [Value.int .i64 r.w, .int .i64 r.h, .slice none 0 0].toArray 24)
  have zpt := Blk.new X [.int .i64 r.w, .int .i64 r.h, .slice none 0 0] 24
  obtain ⟨Y, hY⟩ : ∃ Y, Y = X.alloc (.cells [Value.int .i64 r.w, .int .i64 r.h, .slice none 0 0].toArray 24) := ⟨_, rfl⟩
  rw [← hY] at hb0 zpt ⊢
  obtain ⟨kp, ep⟩ : ∃ kp, Hid (kp = X.heap.size) := ⟨_, hid rfl⟩
  have hkpW : W.heap.size ≤ kp := by rw [ep.out]; exact hW.size
  have hkp02 : kp ≠ k0 ∧ kp ≠ k2 := by have h1 := zm.lt; have h2 := zo.lt; rw [ep.out]; omega
  rw [← ep.out] at zpt ⊢
  replace zm := zm.below hb0
  replace zr := zr.below hb0
  replace zo := zo.below hb0
  replace hW := below_call hW hb0
  have hkY := zpt.lt
  clear hb0 hY q0 q1 q2 q3
  have q0 := zr.cell 0
  have q1 := zr.cell 1
  have q2 := zr.cell 2
  have q3 := zr.cell 3
  simp only [List.getElem?_cons_zero, List.getElem?_cons_succ] at q0 q1 q2 q3
  go_wp2_with fail
  ((with_reducible refine (dcells_x r.x r.y r.w r.h Y L hL).mono ?_); rintro e V ⟨s, rfl, hos, hb1⟩)
  replace zm := zm.below hb1
  replace zo := zo.below hb1
  replace zpt := zpt.below hb1
  have hWV := below_call hW hb1
  have hsz1 := hb1.size
  have hkV := zpt.lt
  clear hb1 zr q0 q1 q2 q3 hW
  obtain ⟨gs, cs, rfl⟩ := own_some hos hLl.2
  have hgs := (hos.lt gs rfl).2
  have hgsk : gs ≠ kp := by have := (hos.lt gs rfl).1; omega
  obtain ⟨n, hn⟩ : ∃ n, Hid (L.length = n) := ⟨_, hid rfl⟩
  rw [hn.out] at hos hLl ⊢
  have hkV0 := zm.lt
  have hkV2 := zo.lt
  go_upto_region 4 with fail
  go_loopw [9, 21] (fun v vi wr => ∃ (i : Nat) (u : Value), vi = .int .i64 i ∧ i ≤ n ∧ Blk wr kp [.int .i64 r.w, .int .i64 r.h, u] 24 ∧ wr.ownsRow V.heap.size 53 3 u i (cutC m L i) ∧ wr.ownsRow V.heap.size 4 1 v i (cutB m bl L i) ∧ wr.ownsRow W.heap.size 29 2 (.slice (some ⟨gs, 0, none⟩) n cs) n (pcells L) ∧ Blk wr k0 [.int .i64 m.w, .int .i64 m.h, .slice (some ⟨gm, om, none⟩) sn sk] 24 ∧ Blk wr k2 [.int .i64 0, .int .i64 0, .slice none 0 0] 24 ∧ Below W.heap.size W wr ∧ V.heap.size ≤ wr.heap.size) (fun _ vi _ => n - (RowKit.intOf vi).toNat)
  case atStart => exact ⟨0, .slice none 0 0, rfl, by omega, zpt, World.ownsRow_nil _ _ _ _, World.ownsRow_nil _ _ _ _, own_base hos (by omega), zm, zo, hWV, Nat.le_refl _⟩
  case round =>
    clear zpt hos zm zo hWV
    obtain ⟨i, u, rfl, hi, zpt, hou, hov, hos, zm, zo, hWV, hVs⟩ := hrel
    obtain ⟨pv, cv, rfl⟩ := own_slice hov
    obtain ⟨pu, cu, rfl⟩ := own_slice hou
    by_cases hlt : i < n
    · have z1 : decide ((i : Int) < (n : Int)) = true := decide_eq_true (by omega)
      have hiL : i < L.length := by rw [hn.out]; exact hlt
      obtain ⟨p, hp⟩ : ∃ p, Hid (p = L[i]'hiL) := ⟨_, hid rfl⟩
      have htk : L.take (i + 1) = L.take i ++ [p] := by rw [hp.out, List.take_add_one, List.getElem?_eq_getElem hiL]; rfl
      obtain ⟨j, hj, hix, hgj⟩ := get_at (hLin p (by rw [hp.out]; exact List.getElem_mem hiL))
      have hcell := hmq j hj
      rw [← hgj] at hcell
      obtain ⟨c, hc⟩ : ∃ c, Hid (c = getv m p.1 p.2) := ⟨_, hid rfl⟩
      rw [← hc.out] at hcell
      obtain ⟨x1, x2, x3⟩ := hcell
      have hgW := World.block_lt_of_cell? W _ x1
      obtain ⟨bb, hbb⟩ : ∃ bb, Hid (bb = bl.getD j false) := ⟨_, hid rfl⟩
      have hbv : bl.getD (indexv m.w p.1 p.2).toNat false = bb := by rw [← hix.out, hbb.out]; rfl
      have c1 := hos.cellAt (i * 2) (by omega)
      have c2 := hos.cellAt (i * 2 + 1) (by omega)
      have hpc := pcells_at L i hiL
      rw [Nat.mul_comm 2 i] at hpc
      rw [hpc.1] at c1
      rw [hpc.2] at c2
      rw [← hp.out] at c1 c2
      have i0 : (0 : Int) ≤ (i : Int) := by omega
      have i1 : (i : Int) < (n : Int) := by omega
      have j0 : (0 : Int) ≤ (j : Int) := by omega
      have j1 : (j : Int) < (sn : Int) := by rw [hsn.out]; omega
      have hjs : j ≤ 1024 := by have := formed_len hf; omega
      clear hgj hpc
      go_upto_region 6 with fail
      have hb0 := (Below.refl wr.heap.size wr).alloc (Nat.le_refl _) (.cells [Value.int .i64 p.1, .int .i64 p.2].toArray 29)
      have zp := Blk.new wr [.int .i64 p.1, .int .i64 p.2] 29
      obtain ⟨Y1, hY1⟩ : ∃ Y1, Y1 = wr.alloc (.cells [Value.int .i64 p.1, .int .i64 p.2].toArray 29) := ⟨_, rfl⟩
      rw [← hY1] at hb0 zp ⊢
      obtain ⟨pb, epb⟩ : ∃ pb, Hid (pb = wr.heap.size) := ⟨_, hid rfl⟩
      rw [← epb.out] at zp ⊢
      have y0 := zp.cell 0
      have y1 := zp.cell 1
      have m0 := (zm.below hb0).cell 0
      simp only [List.getElem?_cons_zero, List.getElem?_cons_succ] at y0 y1 m0
      clear c1 c2 hY1
      go_wp2_with fail
      ((with_reducible refine (clidx_b m.w p.1 p.2 j Y1 hix).mono ?_); rintro e Z ⟨rfl, hb2⟩)
      have hbZ := below_call hb0 hb2
      have hzs := hbZ.size
      replace zpt := zpt.below hbZ
      replace hou := own_below hou hbZ
      replace hov := own_below hov hbZ
      replace hos := own_below hos hbZ
      replace zm := zm.below hbZ
      replace zo := zo.below hbZ
      replace hWV := below_call hWV hbZ
      clear hb0 hb2 hbZ zp y0 y1 m0

      have hgZ : gm < Z.heap.size := by have := hWV.size; omega
      obtain ⟨X, hX⟩ : ∃ X, X = (Z.alloc (.cells [Value.int .i64 c.k, .int .i64 c.h, .int .i64 c.a].toArray 53)).drew := ⟨_, rfl⟩
      have hZX : Below Z.heap.size Z X := by rw [hX]; exact ((Below.refl Z.heap.size Z).alloc (Nat.le_refl _) _).drew
      have hXs : X.heap.size = Z.heap.size + 1 := by rw [hX]; show (Z.alloc _).heap.size = _; simp
      obtain ⟨v', W', hrun, hou2, hg, hwh⟩ := app_where (P := Tryz.prog) X V.heap.size 22 22 53 ti (.agg #[.int .i64 0, .int .i64 0, .int .i64 0]) 3 24 Tryz.underlying22 hi0 hz0 hz1 hz2 rfl (by decide) (.slice pu i cu) _ _ (own_below hou hZX) ⟨Z.heap.size, 0, none⟩ 1 [.int .i64 c.k, .int .i64 c.h, .int .i64 c.a] rfl
        (by rw [hX]; exact cells_new (w := Z)) (cellLone3 _ _ _) (by unfold maxLen; omega) (by omega) (by omega)
      have hnu : ∀ k, k < V.heap.size → ∀ q, (Value.slice pu i cu).ownBlock = some q → k ≠ q := fun k hk q hq => by have := (hou.lt q hq).1; omega
      have zm' := (zm.below hZX).grown hg (hnu _ hkV0)
      have zo' := (zo.below hZX).grown hg (hnu _ hkV2)
      have zpt' := (zpt.below hZX).grown hg (hnu _ hkV)
      have hWV' : Below W.heap.size W W' := (below_call hWV hZX).grown hg (by have := hWV.size; omega) (fun q hq => by have := (hou.lt q hq).1; omega)
      have hos' := own_kept2 (own_below hos hZX) hg (fun q hq e => by
        have h1 := (hou.lt q e).1
        have h2 : gs = q := by simpa [Value.ownBlock] using hq
        omega)
      have hov' := own_kept2 (own_below hov hZX) hg (fun q hq e => own_apart_t (own_below hov hZX) (own_below hou hZX) (by decide) q hq e)
      have hou3 := own_to hou2 (m := i + 1) (ys := cutC m L (i + 1)) rfl (by rw [hc.out]; exact cutC_next m htk)
      obtain ⟨g9, c9, rfl⟩ := own_some hou3 (by omega)
      have hou4 := own_other hou3 ⟨kp, 2, none⟩ (.slice (some ⟨g9, 0, none⟩) (i + 1) c9) (fun q hq => by have := (hou3.lt q hq).1; show q ≠ kp; omega)
      have hov4 := own_other hov' ⟨kp, 2, none⟩ (.slice (some ⟨g9, 0, none⟩) (i + 1) c9) (fun q hq => by have := (hov'.lt q hq).1; show q ≠ kp; omega)
      have hos4 := own_other hos' ⟨kp, 2, none⟩ (.slice (some ⟨g9, 0, none⟩) (i + 1) c9) (fun q hq => by
        have h2 : gs = q := by simpa [Value.ownBlock] using hq
        show q ≠ kp
        omega)
      have zm4 := zm'.far (c := kp) (i := 2) (.slice (some ⟨g9, 0, none⟩) (i + 1) c9) (fun e => hkp02.1 e.symm)
      have zo4 := zo'.far (c := kp) (i := 2) (.slice (some ⟨g9, 0, none⟩) (i + 1) c9) (fun e => hkp02.2 e.symm)
      have zpt4 := zpt'.set 2 (.slice (some ⟨g9, 0, none⟩) (i + 1) c9)
      have hWV4 := hWV'.setCell (p := ⟨kp, 2, none⟩) hkpW (.slice (some ⟨g9, 0, none⟩) (i + 1) c9)
      have t2 := zpt'.cell 2
      have ft2 := zpt'.frozen 2
      simp only [List.getElem?_cons_zero, List.getElem?_cons_succ] at t2
      have hV4s : V.heap.size ≤ W'.heap.size := by have := hg.size; omega
      go_upto_region 7 with fail
      refine wp_region_any hmx (wpAny_of_late (lt := (fun x => x == 10)) (S := fun w' => Below W.heap.size W w' ∧ Blk w' k0 [.int .i64 m.w, .int .i64 m.h, .slice (some ⟨gm, om, none⟩) sn sk] 24 ∧ Blk w' kp [.int .i64 r.w, .int .i64 r.h, .slice pu i cu] 24) _ _ _ _ ?_)
      show wpAnyM _ _ _ _ _ _ _ _ _ Z.drew
      have hS0 : Below W.heap.size W Z.drew ∧ Blk Z.drew k0 [.int .i64 m.w, .int .i64 m.h, .slice (some ⟨gm, om, none⟩) sn sk] 24 ∧ Blk Z.drew kp [.int .i64 r.w, .int .i64 r.h, .slice pu i cu] 24 := ⟨hWV.drew, zm.drew, zpt.drew⟩
      refine late_tk (lt := (fun x => x == 10)) (i := 0) (v := .pointer (some ⟨kp, 2, none⟩)) (some 29) rfl (fun w' hS => by (skip); go_simp) hS0 ?_
      try simp only [Act.put, List.setIfInBounds_toArray, List.set_cons_zero, List.set_cons_succ]
      refine late_tk (lt := (fun x => x == 10)) (i := 1) (v := .slice pu i cu) (some 30) rfl (fun w' hS => by (have c2 := hS.2.2.cell 2; simp only [List.getElem?_cons_zero, List.getElem?_cons_succ] at c2); go_simp) hS0 ?_
      try simp only [Act.put, List.setIfInBounds_toArray, List.set_cons_zero, List.set_cons_succ]
      refine late_tk (lt := (fun x => x == 10)) (i := 2) (v := .pointer (some ⟨k0, 2, none⟩)) (some 31) rfl (fun w' hS => by (skip); go_simp) hS0 ?_
      try simp only [Act.put, List.setIfInBounds_toArray, List.set_cons_zero, List.set_cons_succ]
      refine late_tk (lt := (fun x => x == 10)) (i := 3) (v := .slice (some ⟨gm, om, none⟩) sn sk) (some 32) rfl (fun w' hS => by (have c2 := hS.2.1.cell 2; simp only [List.getElem?_cons_zero, List.getElem?_cons_succ] at c2); go_simp) hS0 ?_
      try simp only [Act.put, List.setIfInBounds_toArray, List.set_cons_zero, List.set_cons_succ]
      refine late_tk (lt := (fun x => x == 10)) (i := 4) (v := .int .i64 j) (some 33) rfl (fun w' hS => by (skip); go_simp) hS0 ?_
      try simp only [Act.put, List.setIfInBounds_toArray, List.set_cons_zero, List.set_cons_succ]
      refine late_tk (lt := (fun x => x == 10)) (i := 5) (v := .pointer (some ⟨gm, om + j * 3, none⟩)) (some 34) rfl (fun w' hS => by (skip); go_simp) hS0 ?_
      try simp only [Act.put, List.setIfInBounds_toArray, List.set_cons_zero, List.set_cons_succ]
      refine late_tk (lt := (fun x => x == 10)) (i := 6) (v := .agg #[.int .i64 c.k, .int .i64 c.h, .int .i64 c.a]) (some 35) rfl (fun w' hS => by (have c0 := (hS.1.cell (p := ⟨gm, om + j * 3, none⟩) hgW).trans x1; have c1 := (hS.1.cell (p := ⟨gm, om + j * 3 + 1, none⟩) hgW).trans x2; have c2 := (hS.1.cell (p := ⟨gm, om + j * 3 + 2, none⟩) hgW).trans x3); go_simp) hS0 ?_
      try simp only [Act.put, List.setIfInBounds_toArray, List.set_cons_zero, List.set_cons_succ]
      refine late_one (i := 7) (by kernel_rfl) rfl (fun K hQ => ?_)
      go_simp
      rw [← hX]
      have hS1 : Below W.heap.size W X ∧ Blk X k0 [.int .i64 m.w, .int .i64 m.h, .slice (some ⟨gm, om, none⟩) sn sk] 24 ∧ Blk X kp [.int .i64 r.w, .int .i64 r.h, .slice pu i cu] 24 := ⟨below_call hWV hZX, zm.below hZX, zpt.below hZX⟩
      refine hQ.out _ _ (fun _ => hS1) ?_
      clear hQ
      try simp only [Act.put, List.setIfInBounds_toArray, List.set_cons_zero, List.set_cons_succ]
      refine late_one (i := 8) (by kernel_rfl) rfl (fun K hQ => ?_)
      refine step_app_run rfl (.tmp 30) (.tmp 36) 22 rfl _ _ _ rfl rfl hrun ?_
      have hS2 : Below W.heap.size W W' ∧ Blk W' k0 [.int .i64 m.w, .int .i64 m.h, .slice (some ⟨gm, om, none⟩) sn sk] 24 ∧ Blk W' kp [.int .i64 r.w, .int .i64 r.h, .slice pu i cu] 24 := ⟨hWV', zm', zpt'⟩
      refine hQ.out _ _ (fun _ => hS2) ?_
      clear hQ
      try simp only [Act.put, List.setIfInBounds_toArray]
      refine late_tk (lt := (fun x => x == 10)) (i := 9) (v := .pointer (some ⟨kp, 2, none⟩)) (some 38) rfl (fun w' hS => by (skip); go_simp) hS2 ?_
      try simp only [Act.put]
      refine late_one (i := 10) (by kernel_rfl) rfl (fun K hQ => ?_)
      go_simp
      refine hQ.out _ _ (fun h => by cases h) ?_
      clear hQ
      try simp only [Act.put, List.setIfInBounds_toArray, List.set_cons_zero, List.set_cons_succ]
      refine late_done (by kernel_rfl) ?_ _
      obtain ⟨Y4, hY4⟩ : ∃ Y4, Y4 = W'.setCell ⟨kp, 2, none⟩ (.slice (some ⟨g9, 0, none⟩) (i + 1) c9) := ⟨_, rfl⟩
      rw [← hY4] at hou4 hov4 hos4 zm4 zo4 zpt4 hWV4 ⊢
      have hV5 : V.heap.size ≤ Y4.heap.size := by rw [hY4]; simp [World.setCell]; omega
      clear hY4 hrun hou2 hou3 hg hwh zm' zo' zpt' hWV' hos' hov' hS0 t2 ft2 x1 x2 x3 zm zo zpt hou hov hos hX hZX
      have nadd : IntKind.i64.wrap ((i : Int) + 1) = ((i + 1 : Nat) : Int) := by rw [IntWalk.i64_in _ (by omega)]; simp
      by_cases hjb : j < bl.length
      · obtain ⟨pB, cB', eB, hmB, hcB⟩ := id hl
        injection eB with eB1 _ eB3
        subst eB1 eB3
        obtain ⟨gB, oB, rfl, hcB2⟩ := hcB (by omega)
        have cB := hcB2 j hjb
        have hgB := World.block_lt_of_cell? W _ cB
        rw [← hWV4.cell (p := ⟨gB, _, none⟩) hgB] at cB
        have ebb : bl[j]'hjb = bb := by rw [hbb.out, List.getD_eq_getElem?_getD, List.getElem?_eq_getElem hjb]; rfl
        rw [ebb] at cB
        have z3 : decide ((j : Int) < (bl.length : Int)) = true := decide_eq_true (by omega)
        have j2 : (j : Int) < (bl.length : Int) := by omega
        clear ebb hcB hcB2
        go_wp2_with (at_builtin; refine wpList_append_own _ rfl _ _ 25 rfl V.heap.size 4 tj (.bool false) 1 1 Tryz.underlying25 hj0 hy0 hy1 hy2 rfl (by decide) _ _ _ rfl (hov4.alloc _) ⟨Y4.heap.size, 0, none⟩ 1 1 [.bool bb] rfl rfl cells_new (boolLone bb) (by unfold maxLen; omega) (by omega) (by simp; omega) ?_)
        intro v5 w9 hov5 hg5 _
        have hb6 := (Below.refl Y4.heap.size Y4).alloc (Nat.le_refl _) (.cells [Value.bool bb].toArray 4)
        have hnv : ∀ k, k < V.heap.size → ∀ q, (Value.slice pv i cv).ownBlock = some q → k ≠ q := fun k hk q hq => by have := (hov4.lt q hq).1; omega
        have zm5 := (zm4.below hb6).grown hg5 (hnv _ hkV0)
        have zo5 := (zo4.below hb6).grown hg5 (hnv _ hkV2)
        have zpt5 := (zpt4.below hb6).grown hg5 (hnv _ hkV)
        have hWV5 : Below W.heap.size W w9 := (below_call hWV4 hb6).grown hg5 (by have := hWV4.size; simp; omega) (fun q hq => by have := (hov4.lt q hq).1; omega)
        have hos5 := own_kept2 (own_below hos4 hb6) hg5 (fun q hq e => by
          have h1 := (hov4.lt q e).1
          have h2 : gs = q := by simpa [Value.ownBlock] using hq
          omega)
        have hou5 := own_kept2 (own_below hou4 hb6) hg5 (fun q hq e => own_apart_t (own_below hou4 hb6) (own_below hov4 hb6) (by decide) q hq e)
        have hov6 := own_to hov5 (m := i + 1) (ys := cutB m bl L (i + 1)) rfl (by rw [← hbv]; exact cutB_next m bl htk)
        have hV6 : V.heap.size ≤ w9.heap.size := by have := hg5.size; have := hb6.size; omega
        obtain ⟨p5, c5, rfl⟩ := own_slice hov6
        clear hov5 hg5 hou4 hov4 hos4 zm4 zo4 zpt4 hWV4 hb6
        go_wp2_with fail
        have hadd : Value.int .i64 ((i : Int) + 1) = Value.int .i64 ((i + 1 : Nat) : Int) := by push_cast; rfl
        have hmeas : n - (RowKit.intOf (Value.int .i64 ((i : Int) + 1))).toNat < n - (RowKit.intOf (Value.int .i64 (i : Int))).toNat := by simp [RowKit.intOf]; omega
        exact ⟨⟨i + 1, _, hadd, by omega, zpt5, hou5, hov6, hos5, zm5, zo5, hWV5, hV6⟩, hmeas⟩
      · have z3 : decide ((j : Int) < (bl.length : Int)) = false := decide_eq_false (by omega)
        have ebb : bb = false := by rw [hbb.out, List.getD_eq_getElem?_getD, List.getElem?_eq_none (by omega)]; rfl
        rw [ebb] at hbv
        go_wp2_with (at_builtin; refine wpList_append_own _ rfl _ _ 25 rfl V.heap.size 4 tj (.bool false) 1 1 Tryz.underlying25 hj0 hy0 hy1 hy2 rfl (by decide) _ _ _ rfl (hov4.alloc _) ⟨Y4.heap.size, 0, none⟩ 1 1 [.bool false] rfl rfl cells_new (boolLone false) (by unfold maxLen; omega) (by omega) (by simp; omega) ?_)
        intro v5 w9 hov5 hg5 _
        have hb6 := (Below.refl Y4.heap.size Y4).alloc (Nat.le_refl _) (.cells [Value.bool false].toArray 4)
        have hnv : ∀ k, k < V.heap.size → ∀ q, (Value.slice pv i cv).ownBlock = some q → k ≠ q := fun k hk q hq => by have := (hov4.lt q hq).1; omega
        have zm5 := (zm4.below hb6).grown hg5 (hnv _ hkV0)
        have zo5 := (zo4.below hb6).grown hg5 (hnv _ hkV2)
        have zpt5 := (zpt4.below hb6).grown hg5 (hnv _ hkV)
        have hWV5 : Below W.heap.size W w9 := (below_call hWV4 hb6).grown hg5 (by have := hWV4.size; simp; omega) (fun q hq => by have := (hov4.lt q hq).1; omega)
        have hos5 := own_kept2 (own_below hos4 hb6) hg5 (fun q hq e => by
          have h1 := (hov4.lt q e).1
          have h2 : gs = q := by simpa [Value.ownBlock] using hq
          omega)
        have hou5 := own_kept2 (own_below hou4 hb6) hg5 (fun q hq e => own_apart_t (own_below hou4 hb6) (own_below hov4 hb6) (by decide) q hq e)
        have hov6 := own_to hov5 (m := i + 1) (ys := cutB m bl L (i + 1)) rfl (by rw [← hbv]; exact cutB_next m bl htk)
        have hV6 : V.heap.size ≤ w9.heap.size := by have := hg5.size; have := hb6.size; omega
        obtain ⟨p5, c5, rfl⟩ := own_slice hov6
        clear hov5 hg5 hou4 hov4 hos4 zm4 zo4 zpt4 hWV4 hb6
        go_wp2_with fail
        have hadd : Value.int .i64 ((i : Int) + 1) = Value.int .i64 ((i + 1 : Nat) : Int) := by push_cast; rfl
        have hmeas : n - (RowKit.intOf (Value.int .i64 ((i : Int) + 1))).toNat < n - (RowKit.intOf (Value.int .i64 (i : Int))).toNat := by simp [RowKit.intOf]; omega
        exact ⟨⟨i + 1, _, hadd, by omega, zpt5, hou5, hov6, hos5, zm5, zo5, hWV5, hV6⟩, hmeas⟩
    · obtain rfl : n = i := by omega
      have z1 : decide ((n : Int) < (n : Int)) = false := decide_eq_false (by omega)
      rw [cutC_all m hL.out hn.out] at hou
      rw [cutB_all m bl hL.out hn.out] at hov
      obtain ⟨gu, cu', eu⟩ := own_some hou (by omega)
      injection eu with eu1 _ eu3
      subst eu1 eu3
      obtain ⟨gv, cv', ev⟩ := own_some hov (by omega)
      injection ev with ev1 _ ev3
      subst ev1 ev3
      have t0 := zpt.cell 0
      have t1 := zpt.cell 1
      have t2 := zpt.cell 2
      simp only [List.getElem?_cons_zero, List.getElem?_cons_succ] at t0 t1 t2
      have o0 := zo.cell 0
      have o1 := zo.cell 1
      have o2 := zo.cell 2
      simp only [List.getElem?_cons_zero, List.getElem?_cons_succ] at o0 o1 o2
      have f0 := zo.frozen 0
      have f1 := zo.frozen 1
      have f2 := zo.frozen 2
      have zo3 := ((zo.set 0 (.int .i64 r.w)).set 1 (.int .i64 r.h)).set 2 (.slice (some ⟨gu, 0, none⟩) n cu)
      have hnk : ∀ q, (Value.slice (some ⟨gu, 0, none⟩) n cu).ownBlock = some q → q ≠ k2 := fun q hq => by have := (hou.lt q hq).1; omega
      have hnk2 : ∀ q, (Value.slice (some ⟨gv, 0, none⟩) n cv).ownBlock = some q → q ≠ k2 := fun q hq => by have := (hov.lt q hq).1; omega
      have hou9 := own_other (own_other (own_other hou ⟨k2, 0, none⟩ (.int .i64 r.w) hnk) ⟨k2, 1, none⟩ (.int .i64 r.h) hnk) ⟨k2, 2, none⟩ (.slice (some ⟨gu, 0, none⟩) n cu) hnk
      have hov9 := own_other (own_other (own_other hov ⟨k2, 0, none⟩ (.int .i64 r.w) hnk2) ⟨k2, 1, none⟩ (.int .i64 r.h) hnk2) ⟨k2, 2, none⟩ (.slice (some ⟨gu, 0, none⟩) n cu) hnk2
      have hW9 := ((hWV.setCell (p := ⟨k2, 0, none⟩) hk2W (.int .i64 r.w)).setCell (p := ⟨k2, 1, none⟩) hk2W (.int .i64 r.h)).setCell (p := ⟨k2, 2, none⟩) hk2W (.slice (some ⟨gu, 0, none⟩) n cu)
      have hVW : W.heap.size ≤ V.heap.size := by omega
      have hN : Hid (n = (cellsv r).length) := hid (by rw [hL.out, hn.out])
      clear hmq hmc hLin hL hn hos zm zpt
      go_wp2_with fail
      obtain ⟨_, _, _, -, -, -⟩ := zo3.three
      refine bodyPost_ret (v := .tuple #[.agg #[.int .i64 r.w, .int .i64 r.h, .slice (some ⟨gu, 0, none⟩) n cu], .slice (some ⟨gv, 0, none⟩) n cv]) (by simp [results, Tryz.results40, go_sem, *]) rfl ⟨n, gu, cu, gv, cv, rfl, hN, own_base hou9 hVW, own_base hov9 hVW, hW9⟩

end

section
open Go.RowKit Go.Lib

abbrev nbc (m : M3) (bl : List Bool) (c k : Int) : Nb := nb (partm m (arv m k)) (partb m bl (arv m k)) c
abbrev cix (m : M3) (k : Int) (p : Pt) : Nat := idx (partm m (arv m k)) (shp (arv m k) p)
/-- There is a way within the cluster. -/
structure InReach (m : M3) (bl : List Bool) (c k : Int) (a b : Pt) : Prop where
  ex : exv m k = true
  cls : classv c = true
  ia : insv (arv m k) a.1 a.2 = true
  ib : insv (arv m k) b.1 b.2 = true
  opn : openv m bl c a.1 a.2 = true
  way : Conn (nbc m bl c k) (cix m k a) (cix m k b)
/-- What Inner says. -/
inductive InnerR (m : M3) (bl : List Bool) (c k : Int) (a b : Pt) : Int → Bool → Prop
  | yes (n : Int) : InReach m bl c k a b → Way (nbc m bl c k) (cix m k a) (cix m k b) n → (∀ e, Way (nbc m bl c k) (cix m k a) (cix m k b) e → n ≤ e) → InnerR m bl c k a b n true
  | no : ¬ InReach m bl c k a b → InnerR m bl c k a b 0 false
theorem InnerR.eq {m : M3} {bl : List Bool} {c k : Int} {a b : Pt} {n n' : Int} {o o' : Bool} (h : InnerR m bl c k a b n o) (h' : InnerR m bl c k a b n' o') : n = n' ∧ o = o' := by
  cases h with
  | yes n h1 h2 h3 => cases h' with
    | yes n' _ k2 k3 => exact ⟨by have := h3 _ k2; have := k3 _ h2; omega, rfl⟩
    | no k1 => exact absurd h1 k1
  | no h1 => cases h' with
    | yes n' k1 => exact absurd k1 h1
    | no => exact ⟨rfl, rfl⟩
theorem InnerR.ok {m : M3} {bl : List Bool} {c k : Int} {a b : Pt} {n : Int} {o : Bool} (h : InnerR m bl c k a b n o) : o = true ↔ InReach m bl c k a b := by
  cases h with
  | yes n h1 => exact ⟨fun _ => h1, fun _ => rfl⟩
  | no h1 => exact ⟨fun h => (by cases h), fun h => absurd h h1⟩
def InnerA (m : M3) (bl : List Bool) (c k : Int) (a b : Pt) (W : World) (e : Ending) (w' : World) : Prop := ∃ n o, e = .returned (.tuple #[.int .i64 n, .bool o]) ∧ Below W.heap.size W w' ∧ InnerR m bl c k a b n o
theorem inner_mk {m : M3} {bl : List Bool} {c k : Int} {a b : Pt} {W w' : World} {n : Int} {o : Bool} (hb : Below W.heap.size W w') (h : InnerR m bl c k a b n o) : InnerA m bl c k a b W (.returned (.tuple #[.int .i64 n, .bool o])) w' := ⟨n, o, rfl, hb, h⟩
theorem cls_nb {m : M3} {k : Int} (h : exv m k = true) (bl : List Bool) (c : Int) : GOk (nbc m bl c k) (partm m (arv m k)).cs.length :=
  nb_ok (part_formed (ar_ok h) (valid_formed (ex_valid h).1)) _ _
theorem cls_posn {m : M3} {k : Int} (h : exv m k = true) {p : Pt} (hp : insv (arv m k) p.1 p.2 = true) : posn (partm m (arv m k)) (cix m k p) = shp (arv m k) p ∧ cix m k p < (partm m (arv m k)).cs.length := by
  have hf := valid_formed (ex_valid h).1
  have h1 := posn_idx (part_formed (ar_ok h) hf) (p := shp (arv m k) p) (by rw [part_insp (ar_ok h) hf]; exact hp)
  exact ⟨h1.1, h1.2.1⟩
theorem part_high {m : M3} (hh : HighAt m) (r : R4) : HighAt (partm m r) := fun c hc => by
  unfold partm at hc
  dsimp only at hc
  obtain ⟨p, _, rfl⟩ := List.mem_map.1 hc
  exact hh.get p.1 p.2
theorem BitsAt.own {w : World} {B g n cap : Nat} {e : TypeId} {l : List Bool} (h : w.ownsRow B e 1 (.slice (some ⟨g, 0, none⟩) n cap) n (bools l)) (hn : l.length = n) (hm : n ≤ 2000) : BitsAt w (.slice (some ⟨g, 0, none⟩) n cap) l := by
  subst hn
  refine ⟨_, _, rfl, by unfold maxLen; omega, fun _ => ⟨g, 0, rfl, fun i hi => ?_⟩⟩
  rw [Nat.zero_add, h.cellAt i (by omega), bools_at hi]
  unfold gb
  rw [List.getD_eq_getElem?_getD, List.getElem?_eq_getElem hi]
  rfl
/-- What Reach says in the part of an area. -/
theorem clreach_b (m : M3) (bl : List Bool) (c k : Int) (r : R4) (g cap g2 cap2 N B : Nat) (q a : Pt) (W : World) (hE : EnvT W) (hh : HighAt m) (hx : exv m k = true) (hr : r = arv m k) (hN : N = (cellsv r).length) (hN2 : N ≤ 2000) (hq : q = shp r a) (ha : insv r a.1 a.2 = true)
    (ho : W.ownsRow B 53 3 (.slice (some ⟨g, 0, none⟩) N cap) N (ccells (partm m r).cs)) (ho2 : W.ownsRow B 4 1 (.slice (some ⟨g2, 0, none⟩) N cap2) N (bools (partb m bl r))) :
    Calls Tryz.prog 41 #[.agg #[.int .i64 r.w, .int .i64 r.h, .slice (some ⟨g, 0, none⟩) N cap], .slice (some ⟨g2, 0, none⟩) N cap2, .int .i64 c, .agg #[.int .i64 q.1, .int .i64 q.2]] W fun e w' =>
      ∃ v D, e = .returned v ∧ IntsAt w' v D ∧ ReachR (partm m r) (partb m bl r) c q (classv c) D ∧ Below W.heap.size W w' := by
  subst hr hq
  have hf := valid_formed (ex_valid hx).1
  have hcl : (partm m (arv m k)).cs.length = N := by unfold partm; dsimp only; rw [List.length_map, hN]
  have hbl : (partb m bl (arv m k)).length = N := by unfold partb; rw [List.length_map, hN]
  have hG : Gd W (partm m (arv m k)) (.slice (some ⟨g, 0, none⟩) N cap) (partb m bl (arv m k)) (.slice (some ⟨g2, 0, none⟩) N cap2) := by
    refine ⟨hE, part_high hh _, ?_, BitsAt.own ho2 hbl hN2⟩
    have h := RowAt.own (l := (partm m (arv m k)).cs) (g := g) (cap := cap) (w := W) (B := B) (e := 53) (by rw [hcl]; exact ho) (by rw [hcl]; unfold maxLen; omega)
    rw [hcl] at h
    exact h
  exact asreach_r (partm m (arv m k)) (some ⟨g, 0, none⟩) N cap (partb m bl (arv m k)) (some ⟨g2, 0, none⟩) N cap2 c (shp (arv m k) a) (classv c) W hG (hid (by
    rw [part_valid (ar_ok hx) (ex_valid hx).1, part_insp (ar_ok hx) hf, ha]
    cases classv c <;> rfl))
/-- What that comes to. -/
theorem reach_inner {m : M3} {bl : List Bool} {c k : Int} {a b : Pt} {D : List Int} (hx : exv m k = true) (ha : insv (arv m k) a.1 a.2 = true) (hb : insv (arv m k) b.1 b.2 = true) (h : ReachR (partm m (arv m k)) (partb m bl (arv m k)) c (shp (arv m k) a) (classv c) D) :
    (0 ≤ ga D (cix m k b) → cix m k b < D.length ∧ InnerR m bl c k a b (ga D (cix m k b)) true) ∧ (¬ 0 ≤ ga D (cix m k b) → InnerR m bl c k a b 0 false) := by
  have hf := valid_formed (ex_valid hx).1
  obtain ⟨pa, la⟩ := cls_posn hx ha
  have ok := cls_nb hx bl c
  refine ⟨fun h0 => ⟨ga_lt h0, ?_⟩, fun h0 => .no fun hr => h0 ?_⟩
  · cases hc : classv c with
    | false =>
      rw [hc] at h
      rw [h.no rfl] at h0
      unfold ga at h0
      simp at h0
    | true =>
      rw [hc] at h
      have hd := h.yes rfl
      unfold Dst at hd
      have e : openv (partm m (arv m k)) (partb m bl (arv m k)) c (posn (partm m (arv m k)) (idx (partm m (arv m k)) (shp (arv m k) a))).1 (posn (partm m (arv m k)) (idx (partm m (arv m k)) (shp (arv m k) a))).2 = openv m bl c a.1 a.2 := by
        rw [pa]
        exact part_open (ar_ok hx) hf bl c ha
      rw [e] at hd
      split at hd
      · next ho => exact .yes _ ⟨hx, hc, ha, hb, ho, ⟨_, hd.way h0⟩⟩ (hd.way h0) (fun e w => (hd.least ok la w).2)
      · rw [hd, ga_none] at h0
        omega
  · have hd := (hr.cls ▸ h).yes rfl
    unfold Dst at hd
    have e : openv (partm m (arv m k)) (partb m bl (arv m k)) c (posn (partm m (arv m k)) (idx (partm m (arv m k)) (shp (arv m k) a))).1 (posn (partm m (arv m k)) (idx (partm m (arv m k)) (shp (arv m k) a))).2 = openv m bl c a.1 a.2 := by
      rw [pa]
      exact part_open (ar_ok hx) hf bl c ha
    rw [e, if_pos hr.opn] at hd
    obtain ⟨n, hw⟩ := hr.way
    exact (hd.least ok la hw).1

set_option maxRecDepth 100000 in
set_option maxHeartbeats 16000000 in
theorem clinner_b (m : M3) (sp : Option Addr) (sn sk : Nat) (bl : List Bool) (lp : Option Addr) (lk : Nat) (c k : Int) (a b : Pt) (W : World) (hE : EnvT W) (hh : HighAt m) (hrow : RowAt W (.slice sp sn sk) m.cs) (hbit : BitsAt W (.slice lp bl.length lk) bl) :
    Calls Tryz.prog 12 #[.agg #[.int .i64 m.w, .int .i64 m.h, .slice sp sn sk], .slice lp bl.length lk, .int .i64 c, .int .i64 k, .agg #[.int .i64 a.1, .int .i64 a.2], .agg #[.int .i64 b.1, .int .i64 b.2]] W (InnerA m bl c k a b W) := by
  have hmx : Tryz.prog.follows .mixedOrders = true := by kernel_rfl
  obtain ⟨x1, h1⟩ : ∃ x1, Hid (x1 = exv m k) := ⟨_, hid rfl⟩
  obtain ⟨r, hr⟩ : ∃ r, Hid (r = areav m k) := ⟨_, hid rfl⟩
  obtain ⟨x2, h2⟩ : ∃ x2, Hid (x2 = insv r a.1 a.2) := ⟨_, hid rfl⟩
  obtain ⟨x3, h3⟩ : ∃ x3, Hid (x3 = insv r b.1 b.2) := ⟨_, hid rfl⟩
  have hno : Hid ((x1 && x2 && x3) = false → ¬ InReach m bl c k a b) := hid (fun h hi => by
    have e1 : x1 = true := h1.out.trans hi.ex
    have er : r = arv m k := by rw [hr.out, ar_val hi.ex]
    have e2 : x2 = true := by rw [h2.out, er]; exact hi.ia
    have e3 : x3 = true := by rw [h3.out, er]; exact hi.ib
    rw [e1, e2, e3] at h
    cases h)
  have hK := ((((Keep.nil W).alloc [.int .i64 m.w, .int .i64 m.h, .slice sp sn sk] 24).alloc [.int .i64 a.1, .int .i64 a.2] 29).alloc [.int .i64 b.1, .int .i64 b.2] 29)
  simp only [World.size_alloc] at hK
  go_enter Tryz.func12, Tryz.ntmps12
  go_upto_region 1 with fail
  obtain ⟨X, hX⟩ : ∃ X, X = ((W.alloc (.cells [Value.int .i64 m.w, .int .i64 m.h, .slice sp sn sk].toArray 24)).alloc (.cells [Value.int .i64 a.1, .int .i64 a.2].toArray 29)).alloc (.cells [Value.int .i64 b.1, .int .i64 b.2].toArray 29) := ⟨_, rfl⟩
  rw [← hX] at hK ⊢
  clear hX
  obtain ⟨k2, e2⟩ : ∃ k2, Hid (k2 = W.heap.size + 1 + 1) := ⟨_, hid rfl⟩
  obtain ⟨k1, e1⟩ : ∃ k1, Hid (k1 = W.heap.size + 1) := ⟨_, hid rfl⟩
  obtain ⟨k0, e0⟩ : ∃ k0, Hid (k0 = W.heap.size) := ⟨_, hid rfl⟩
  have zm : Blk X k0 [.int .i64 m.w, .int .i64 m.h, .slice sp sn sk] 24 := (hK.blks (W.heap.size, [.int .i64 m.w, .int .i64 m.h, .slice sp sn sk], 24) (by simp)).at e0.out.symm
  have za : Blk X k1 (ptL a) 29 := (hK.blks (W.heap.size + 1, ptL a, 29) (by simp)).at e1.out.symm
  have zb : Blk X k2 (ptL b) 29 := (hK.blks (W.heap.size + 1 + 1, ptL b, 29) (by simp)).at e2.out.symm
  have hW := hK.old
  rw [← e2.out, ← e1.out]
  rw [← e0.out]
  clear hK
  have m0 := zm.cell 0
  have m1 := zm.cell 1
  have m2 := zm.cell 2
  simp only [List.getElem?_cons_zero, List.getElem?_cons_succ] at m0 m1 m2
  have ca := clarea_b m sp sn sk k r x1 X (hrow.below hW) h1 hr
  go_upto_region 2 with (go_at_call 34; refine ca.mono ?_; rintro e w1 ⟨rfl, hb1⟩)
  have hb2 := hb1.alloc hb1.size (.cells [.int .i64 r.x, .int .i64 r.y, .int .i64 r.w, .int .i64 r.h].toArray 72)
  have zr := Blk.new w1 [.int .i64 r.x, .int .i64 r.y, .int .i64 r.w, .int .i64 r.h] 72
  obtain ⟨Y, hY⟩ : ∃ Y, Y = w1.alloc (.cells #[Value.int .i64 r.x, .int .i64 r.y, .int .i64 r.w, .int .i64 r.h] 72) := ⟨_, rfl⟩
  rw [← hY]
  rw [show w1.alloc (.cells [.int .i64 r.x, .int .i64 r.y, .int .i64 r.w, .int .i64 r.h].toArray 72) = Y from hY.symm] at hb2 zr
  obtain ⟨kr, er⟩ : ∃ kr, Hid (kr = w1.heap.size) := ⟨_, hid rfl⟩
  rw [← er.out] at zr ⊢
  replace zm := zm.below hb2
  replace za := za.below hb2
  replace zb := zb.below hb2
  replace hW := below_call hW hb2
  clear hb1 hb2 hY m0 m1 m2 ca
  cases x1 with
  | false =>
    have hq : InnerR m bl c k a b 0 false := .no (hno.out rfl)
    clear hno
    go_wp2_with fail
    go_ret2
    exact inner_mk hW hq
  | true =>
    have r0 := zr.cell 0
    have r1 := zr.cell 1
    have r2 := zr.cell 2
    have r3 := zr.cell 3
    have a0 := za.cell 0
    have a1 := za.cell 1
    simp only [List.getElem?_cons_zero, List.getElem?_cons_succ] at r0 r1 r2 r3 a0 a1
    go_wp2_with fail
    ((with_reducible refine (clins_b r a x2 Y h2).mono ?_); rintro e w2 ⟨rfl, hb2⟩)
    replace zm := zm.below hb2
    replace za := za.below hb2
    replace zb := zb.below hb2
    replace zr := zr.below hb2
    replace hW := below_call hW hb2
    clear hb2 r0 r1 r2 r3 a0 a1
    cases x2 with
    | false =>
      have hq : InnerR m bl c k a b 0 false := .no (hno.out rfl)
      clear hno
      go_wp2_with fail
      go_ret2
      exact inner_mk hW hq
    | true =>
      have r0 := zr.cell 0
      have r1 := zr.cell 1
      have r2 := zr.cell 2
      have r3 := zr.cell 3
      have b0 := zb.cell 0
      have b1 := zb.cell 1
      simp only [List.getElem?_cons_zero, List.getElem?_cons_succ] at r0 r1 r2 r3 b0 b1
      go_wp2_with fail
      ((with_reducible refine (clins_b r b x3 w2 h3).mono ?_); rintro e w3 ⟨rfl, hb3⟩)
      replace zm := zm.below hb3
      replace za := za.below hb3
      replace zb := zb.below hb3
      replace zr := zr.below hb3
      replace hW := below_call hW hb3
      clear hb3 r0 r1 r2 r3 b0 b1
      cases x3 with
      | false =>
        have hq : InnerR m bl c k a b 0 false := .no (hno.out rfl)
        clear hno
        go_wp2_with fail
        go_ret2
        exact inner_mk hW hq
      | true =>
        have hx : exv m k = true := h1.out.symm
        have hf := valid_formed (ex_valid hx).1
        have hra : Hid (r = arv m k) := hid (by rw [hr.out, ar_val hx])
        have ok := ar_ok hx
        rw [← hra.out] at ok
        have hia := ar_in ok hf h2.out.symm
        have hib := ar_in ok hf h3.out.symm
        obtain ⟨_, _, s1, s2, s3, s4⟩ := col_num hf
        have hr32 : 0 ≤ r.x ∧ r.x ≤ 32 ∧ 0 ≤ r.y ∧ r.y ≤ 32 := by have := ok.x0; have := ok.y0; have := ok.xw; have := ok.yh; have := ok.w1; have := ok.h1; omega
        have ha32 : 0 ≤ a.1 ∧ a.1 ≤ 32 ∧ 0 ≤ a.2 ∧ a.2 ≤ 32 := by have := ok.x0; have := ok.y0; have := ok.xw; have := ok.yh; omega
        have hb32 : 0 ≤ b.1 ∧ b.1 ≤ 32 ∧ 0 ≤ b.2 ∧ b.2 ≤ 32 := by have := ok.x0; have := ok.y0; have := ok.xw; have := ok.yh; omega
        obtain ⟨qa, hqa⟩ : ∃ q, Hid (q = shp r a) := ⟨_, hid rfl⟩
        obtain ⟨qb, hqb⟩ : ∃ q, Hid (q = shp r b) := ⟨_, hid rfl⟩
        obtain ⟨i, hil, _, hii⟩ := part_at ok hf h3.out.symm
        have hix : Hid ((i : Int) = indexv r.w qb.1 qb.2) := hid (by rw [hqb.out]; exact hii.symm)
        have hci : Hid (cix m k b = i) := hid (by
          show idx (partm m (arv m k)) (shp (arv m k) b) = i
          rw [← hra.out]
          unfold idx partm shp
          dsimp only
          rw [hii]
          rfl)
        have r0 := zr.cell 0
        have r1 := zr.cell 1
        have r2 := zr.cell 2
        have r3 := zr.cell 3
        have m0 := zm.cell 0
        have m1 := zm.cell 1
        have m2 := zm.cell 2
        simp only [List.getElem?_cons_zero, List.getElem?_cons_succ] at r0 r1 r2 r3 m0 m1 m2
        have cc := clcut_b m sp sn sk bl lp lk r w3 (hrow.below hW) (hbit.below hW) hf ok
        clear hno hia hib hii
        go_upto_region 5 with (go_at_call 40; refine cc.mono ?_; rintro e w4 ⟨N, g, cap, g2, cap2, rfl, hN, ho, ho2, hb4⟩)
        have hb5 := hb4.alloc hb4.size (.cells [Value.int .i64 r.w, .int .i64 r.h, .slice (some ⟨g, 0, none⟩) N cap].toArray 24)
        have zp := Blk.new w4 [.int .i64 r.w, .int .i64 r.h, .slice (some ⟨g, 0, none⟩) N cap] 24
        obtain ⟨Z, hZ⟩ : ∃ Z, Z = w4.alloc (.cells #[Value.int .i64 r.w, .int .i64 r.h, .slice (some ⟨g, 0, none⟩) N cap] 24) := ⟨_, rfl⟩
        rw [← hZ]
        rw [show w4.alloc (.cells [Value.int .i64 r.w, .int .i64 r.h, .slice (some ⟨g, 0, none⟩) N cap].toArray 24) = Z from hZ.symm] at hb5 zp
        obtain ⟨kp, ekp⟩ : ∃ kp, Hid (kp = w4.heap.size) := ⟨_, hid rfl⟩
        rw [← ekp.out] at zp ⊢
        have hb6 := (Below.refl w4.heap.size w4).alloc (Nat.le_refl _) (.cells [Value.int .i64 r.w, .int .i64 r.h, .slice (some ⟨g, 0, none⟩) N cap].toArray 24)
        rw [show w4.alloc (.cells [Value.int .i64 r.w, .int .i64 r.h, .slice (some ⟨g, 0, none⟩) N cap].toArray 24) = Z from hZ.symm] at hb6
        replace ho := own_below ho hb6
        replace ho2 := own_below ho2 hb6
        replace zm := zm.below hb5
        replace za := za.below hb5
        replace zb := zb.below hb5
        replace zr := zr.below hb5
        replace hW := below_call hW hb5
        have hN2 : N ≤ 2000 := by
          obtain ⟨cw, chh, _, _, _, w8, _, h8, ec⟩ := cells_ar ok hf
          rw [hN.out, ec, List.length_map, List.length_range]
          have := Nat.mul_le_mul h8 w8
          omega
        have hiN : i < N := by rw [hN.out]; exact hil
        clear hb4 hb5 hb6 hZ cc r0 r1 r2 r3 m0 m1 m2
        have cr := fun w (hS : Below Z.heap.size Z w) => clreach_b m bl c k r g cap g2 cap2 N w3.heap.size qa a w (hE.keep (below_call hW hS)) hh hx hra.out hN.out hN2 hqa.out h2.out.symm (own_below ho hS) (own_below ho2 hS)
        go_upto_region 5 with fail
        refine wp_onlyN (wp_region_held (S := fun w' => Below Z.heap.size Z w') hmx ?_)
        show wpAnyH _ _ _ _ _ _ _ _ Z.drew
        have hS0 := (Below.refl Z.heap.size Z).drew
        refine reg_tk (i := 0) (v := .agg #[.int .i64 r.w, .int .i64 r.h, .slice (some ⟨g, 0, none⟩) N cap]) (some 47) rfl (fun w' hS => by (have c0 := (zp.below hS).cell 0; have c1 := (zp.below hS).cell 1; have c2 := (zp.below hS).cell 2; simp only [List.getElem?_cons_zero, List.getElem?_cons_succ] at c0 c1 c2); go_simp) hS0 ?_
        try simp only [Act.put, List.setIfInBounds_toArray, List.set_cons_zero, List.set_cons_succ]
        refine reg_tk (i := 1) (v := .slice (some ⟨g2, 0, none⟩) N cap2) (some 48) rfl (fun w' hS => by (skip); go_simp) hS0 ?_
        try simp only [Act.put, List.setIfInBounds_toArray, List.set_cons_zero, List.set_cons_succ]
        refine reg_tk (i := 2) (v := .int .i64 c) (some 49) rfl (fun w' hS => by (skip); go_simp) hS0 ?_
        try simp only [Act.put, List.setIfInBounds_toArray, List.set_cons_zero, List.set_cons_succ]
        refine reg_tk (i := 3) (v := .agg #[.int .i64 r.x, .int .i64 r.y, .int .i64 r.w, .int .i64 r.h]) (some 50) rfl (fun w' hS => by (have c0 := (zr.below hS).cell 0; have c1 := (zr.below hS).cell 1; have c2 := (zr.below hS).cell 2; have c3 := (zr.below hS).cell 3; simp only [List.getElem?_cons_zero, List.getElem?_cons_succ] at c0 c1 c2 c3); go_simp) hS0 ?_
        try simp only [Act.put, List.setIfInBounds_toArray, List.set_cons_zero, List.set_cons_succ]
        refine reg_tk (i := 4) (v := .agg #[.int .i64 a.1, .int .i64 a.2]) (some 51) rfl (fun w' hS => by (have c0 := (za.below hS).cell 0; have c1 := (za.below hS).cell 1; simp only [List.getElem?_cons_zero, List.getElem?_cons_succ] at c0 c1); go_simp) hS0 ?_
        try simp only [Act.put, List.setIfInBounds_toArray, List.set_cons_zero, List.set_cons_succ]
        refine held_one (i := 5) (by kernel_rfl) rfl (fun K hQ => ?_)
        go_simp
        ((with_reducible refine (clwithin_b r a qa _ hr32 ha32 hqa).mono ?_); rintro e w5 ⟨rfl, hb5⟩)
        have hS1 := below_call hS0 hb5
        clear hb5
        refine hQ.out _ _ hS1 ?_
        clear hQ
        try simp only [Act.put, List.setIfInBounds_toArray, List.set_cons_zero, List.set_cons_succ]
        refine held_one (i := 6) (by kernel_rfl) rfl (fun K hQ => ?_)
        go_simp
        ((with_reducible refine (cr _ hS1).mono ?_); rintro e w6 ⟨vD, D, rfl, hD, hRE, hb6⟩)
        have hS2 := below_call hS1 hb6
        clear hb6
        refine hQ.out _ _ hS2 ?_
        clear hQ
        try simp only [Act.put, List.setIfInBounds_toArray, List.set_cons_zero, List.set_cons_succ]
        refine reg_tk (i := 7) (v := vD) (some 18) rfl (fun w' hS => by (skip); go_simp) hS2 ?_
        try simp only [Act.put, List.setIfInBounds_toArray, List.set_cons_zero, List.set_cons_succ]
        refine wpAnyH_done (by kernel_rfl) ?_ _
        try simp only [onlyN]
        replace zb := zb.below hS2
        replace zr := zr.below hS2
        replace hW := below_call hW hS2
        obtain ⟨Y, hY⟩ : ∃ Y, Y = w6 := ⟨_, rfl⟩
        rw [← hY] at zb zr hW hD ⊢
        clear hY hS2 hS0 hS1 cr ho ho2 zm za zp
        go_upto_region 6 with fail
        refine wp_onlyN (wp_region_held (S := fun w' => Below Y.heap.size Y w') hmx ?_)
        show wpAnyH _ _ _ _ _ _ _ _ Y.drew
        have hT0 := (Below.refl Y.heap.size Y).drew
        refine reg_tk (i := 0) (v := .pointer (some ⟨kr, 2, none⟩)) (some 54) rfl (fun w' hS => by (skip); go_simp) hT0 ?_
        try simp only [Act.put, List.setIfInBounds_toArray, List.set_cons_zero, List.set_cons_succ]
        refine reg_tk (i := 1) (v := .int .i64 r.w) (some 55) rfl (fun w' hS => by (have c2 := (zr.below hS).cell 2; simp only [List.getElem?_cons_zero, List.getElem?_cons_succ] at c2); go_simp) hT0 ?_
        try simp only [Act.put, List.setIfInBounds_toArray, List.set_cons_zero, List.set_cons_succ]
        refine reg_tk (i := 2) (v := .agg #[.int .i64 r.x, .int .i64 r.y, .int .i64 r.w, .int .i64 r.h]) (some 56) rfl (fun w' hS => by (have c0 := (zr.below hS).cell 0; have c1 := (zr.below hS).cell 1; have c2 := (zr.below hS).cell 2; have c3 := (zr.below hS).cell 3; simp only [List.getElem?_cons_zero, List.getElem?_cons_succ] at c0 c1 c2 c3); go_simp) hT0 ?_
        try simp only [Act.put, List.setIfInBounds_toArray, List.set_cons_zero, List.set_cons_succ]
        refine reg_tk (i := 3) (v := .agg #[.int .i64 b.1, .int .i64 b.2]) (some 57) rfl (fun w' hS => by (have c0 := (zb.below hS).cell 0; have c1 := (zb.below hS).cell 1; simp only [List.getElem?_cons_zero, List.getElem?_cons_succ] at c0 c1); go_simp) hT0 ?_
        try simp only [Act.put, List.setIfInBounds_toArray, List.set_cons_zero, List.set_cons_succ]
        refine held_one (i := 4) (by kernel_rfl) rfl (fun K hQ => ?_)
        go_simp
        ((with_reducible refine (clwithin_b r b qb _ hr32 hb32 hqb).mono ?_); rintro e w7 ⟨rfl, hb7⟩)
        have hT1 := below_call hT0 hb7
        clear hb7
        refine hQ.out _ _ hT1 ?_
        clear hQ
        try simp only [Act.put, List.setIfInBounds_toArray, List.set_cons_zero, List.set_cons_succ]
        refine held_one (i := 5) (by kernel_rfl) rfl (fun K hQ => ?_)
        go_simp
        ((with_reducible refine (clidx_b r.w qb.1 qb.2 i _ hix).mono ?_); rintro e w8 ⟨rfl, hb8⟩)
        have hT2 := below_call hT1 hb8
        clear hb8
        refine hQ.out _ _ hT2 ?_
        clear hQ
        try simp only [Act.put, List.setIfInBounds_toArray, List.set_cons_zero, List.set_cons_succ]
        refine reg_tk (i := 6) (v := .int .i64 i) (some 19) rfl (fun w' hS => by (skip); go_simp) hT2 ?_
        try simp only [Act.put, List.setIfInBounds_toArray, List.set_cons_zero, List.set_cons_succ]
        refine wpAnyH_done (by kernel_rfl) ?_ _
        try simp only [onlyN]
        replace hW := below_call hW hT2
        have hD8 := hD.below hT2
        clear hT2 hT0 hT1 hD zb zr
        rw [hqa.out, hra.out] at hRE
        have hin := reach_inner hx (by rw [← hra.out]; exact h2.out.symm) (by rw [← hra.out]; exact h3.out.symm) hRE
        rw [hci.out] at hin
        obtain ⟨hy, hnn⟩ := hin
        obtain ⟨pD, cD, rfl, hDl, hDc⟩ := hD8
        obtain ⟨x, hxx⟩ : ∃ x, Hid (x = ga D i) := ⟨_, hid rfl⟩
        rw [← hxx.out] at hy hnn
        by_cases hlt : i < D.length
        · obtain ⟨gD, rfl, _, hDc⟩ := hDc (by omega)
          have cI := hDc i hlt
          rw [← hxx.out] at cI
          have z1 : decide ((D.length : Int) ≤ (i : Int)) = false := decide_eq_false (by omega)
          have i0 : (0 : Int) ≤ (i : Int) := by omega
          have i1 : (i : Int) < (D.length : Int) := by omega
          by_cases hx0 : x < 0
          · have z2 : decide (x < 0) = true := decide_eq_true hx0
            have hq := hnn (by omega)
            clear hy hnn hRE hDc hxx
            go_wp2_with fail
            go_ret2
            exact inner_mk hW hq
          · have z2 : decide (x < 0) = false := decide_eq_false hx0
            have hq := (hy (by omega)).2
            clear hy hnn hRE hDc hxx
            go_wp2_with fail
            go_ret2
            exact inner_mk hW hq
        · have z1 : decide ((D.length : Int) ≤ (i : Int)) = true := decide_eq_true (by omega)
          have hq := hnn (fun h => hlt (by
            rw [hxx.out] at h
            exact ga_lt h))
          clear hy hnn hRE hDc hxx
          go_wp2_with fail
          go_ret2
          exact inner_mk hW hq

end

end Go.Proofs.YtpgchjhfhndaaaaGreatDoor
