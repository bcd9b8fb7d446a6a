/-
  What the reference's Parse comes to, round by round. Plain lists.
-/
import Derived.Test.YtmpbgfobiceehaaGreatDoorMapRefM
import Derived.Test.YtmpbgfobiceehaaGreatDoorMapReadQ
namespace Go.Proofs.YtmpbgfobiceehaaGreatDoor
open Go.RowKit Go.Lib

section
variable {n : Nat} {tl nm : List UInt8} {w h : Nat}
/-- The rows that are left. -/
def RV (set : C3 → UInt8 → Option C3) (w h k : Nat) (cs : List C3) (ls : List (List UInt8)) : Res (List C3) := rowsv set w (h - k) (cs.take (k * w)) (cs.drop (k * w)) ls
variable {set : C3 → UInt8 → Option C3} {k : Nat} {cs : List C3} {l : List UInt8} {ls : List (List UInt8)}
theorem rv_start : rowsv set w h [] cs ls = RV set w h 0 cs ls := by unfold RV; rw [Nat.zero_mul, List.take_zero, List.drop_zero, Nat.sub_zero]
theorem rv_cut (hk : k < h) : RV set w h k cs [] = .cut := by
  unfold RV
  rw [show h - k = (h - (k + 1)) + 1 by omega, rowsv]
theorem rv_bad (hk : k < h) (hr : rowv set (rowAt w cs k) l = none) : RV set w h k cs (l :: ls) = .bad (l :: ls) := by
  unfold RV
  rw [show h - k = (h - (k + 1)) + 1 by omega, rowsv, show (cs.drop (k * w)).take w = rowAt w cs k from rfl, hr]
theorem rv_next {r : List C3} (hk : k < h) (hl : cs.length = h * w) (hr : rowv set (rowAt w cs k) l = some r) (hrl : r.length = w) : RV set w h k cs (l :: ls) = RV set w h (k + 1) (repl cs k w r) ls := by
  have hkw : (k + 1) * w ≤ h * w := Nat.mul_le_mul_right w hk
  rw [Nat.succ_mul] at hkw
  have e1 : (cs.take (k * w)).length = k * w := by rw [List.length_take]; omega
  have t1 : (repl cs k w r).take ((k + 1) * w) = cs.take (k * w) ++ r := by
    unfold repl
    exact List.take_left' (by rw [List.length_append, e1, hrl, Nat.succ_mul])
  have t2 : (repl cs k w r).drop ((k + 1) * w) = cs.drop ((k + 1) * w) := by
    unfold repl
    exact List.drop_left' (by rw [List.length_append, e1, hrl, Nat.succ_mul])
  unfold RV
  rw [t1, t2, show h - k = (h - (k + 1)) + 1 by omega, rowsv, show (cs.drop (k * w)).take w = rowAt w cs k from rfl, hr]
  simp only
  rw [List.drop_drop, Nat.succ_mul]
theorem repl_len {r : List C3} (hk : k < h) (hl : cs.length = h * w) (hrl : r.length = w) : (repl cs k w r).length = h * w := by
  have hkw : (k + 1) * w ≤ h * w := Nat.mul_le_mul_right w hk
  rw [Nat.succ_mul] at hkw
  unfold repl
  rw [List.length_append, List.length_append, List.length_take, hrl, List.length_drop, Nat.succ_mul]
  omega
theorem rv_end (_hl : cs.length = h * w) : RV set w h h cs ls = .ok cs ls := by
  unfold RV
  rw [Nat.sub_self, rowsv, List.take_append_drop]

/-- How Parse stands behind k lines of kinds and heights. -/
def ST (n : Nat) (tl nm : List UInt8) (w h k : Nat) (cs : List C3) (ls : List (List UInt8)) : F3 × Int × Int :=
  if k < h then andv n (RV setK w h k cs ls) (fun c1 l1 => rest2 n tl nm w h c1 l1) else andv n (RV setH w h (k - h) cs ls) (fun c2 l2 => rest3 n tl nm w h c2 l2)
theorem st_start (h1 : 1 ≤ h) : restv n tl nm w h ls = ST n tl nm w h 0 (List.replicate (w * h) C3.zero) ls := by
  unfold ST
  rw [if_pos (by omega), ← rv_start]
  rfl
theorem st_cut (hk : k < 2 * h) : ST n tl nm w h k cs [] = (F3.zero, ((n + 1 : Nat) : Int), 4) := by
  unfold ST
  split
  · rename_i h1; rw [rv_cut h1]; rfl
  · rw [rv_cut (by omega)]; rfl
theorem st_badK (hk : k < h) (hr : rowv setK (rowAt w cs k) l = none) : ST n tl nm w h k cs (l :: ls) = (F3.zero, ((n - (l :: ls).length + 1 : Nat) : Int), 5) := by
  unfold ST
  rw [if_pos hk, rv_bad hk hr]; rfl
theorem st_badH (hk : k < h) (hr : rowv setH (rowAt w cs k) l = none) : ST n tl nm w h (h + k) cs (l :: ls) = (F3.zero, ((n - (l :: ls).length + 1 : Nat) : Int), 5) := by
  unfold ST
  rw [if_neg (by omega), show h + k - h = k by omega, rv_bad hk hr]; rfl
theorem st_nextK {r : List C3} (hk : k < h) (hl : cs.length = h * w) (hr : rowv setK (rowAt w cs k) l = some r) (hrl : r.length = w) : ST n tl nm w h k cs (l :: ls) = ST n tl nm w h (k + 1) (repl cs k w r) ls := by
  have hl2 := repl_len hk hl hrl
  unfold ST
  rw [if_pos hk, rv_next hk hl hr hrl]
  by_cases h2 : k + 1 < h
  · rw [if_pos h2]
  · obtain rfl : k + 1 = h := by omega
    rw [if_neg h2, rv_end hl2, Nat.sub_self, ← rv_start]
    rfl
theorem st_nextH {r : List C3} (hk : k < h) (hl : cs.length = h * w) (hr : rowv setH (rowAt w cs k) l = some r) (hrl : r.length = w) : ST n tl nm w h (h + k) cs (l :: ls) = ST n tl nm w h (h + k + 1) (repl cs k w r) ls := by
  unfold ST
  rw [if_neg (by omega), if_neg (by omega), show h + k - h = k by omega, rv_next hk hl hr hrl, show h + k + 1 - h = k + 1 by omega]

/-- .. behind the amounts of i cells. -/
def AM (n : Nat) (tl nm : List UInt8) (w h i : Nat) (cs : List C3) (ls : List (List UInt8)) : F3 × Int × Int := andv n (amtsv w (cs.take i) (cs.drop i) ls) (fun c3 l3 => rest4 n tl nm w h c3 l3)
theorem st_end (hl : cs.length = h * w) : ST n tl nm w h (2 * h) cs ls = AM n tl nm w h 0 cs ls := by
  unfold ST AM
  by_cases h0 : 2 * h < h
  · omega
  · rw [if_neg h0, show 2 * h - h = h by omega, rv_end hl, List.take_zero, List.drop_zero]
    rfl
variable {i : Nat} {c : C3}
theorem drop_get (hc : cs[i]? = some c) : cs.drop i = c :: cs.drop (i + 1) := by
  obtain ⟨hi, rfl⟩ := List.getElem?_eq_some_iff.1 hc
  exact List.drop_eq_getElem_cons hi
theorem take_get (hc : cs[i]? = some c) : cs.take (i + 1) = cs.take i ++ [c] := by
  obtain ⟨hi, rfl⟩ := List.getElem?_eq_some_iff.1 hc
  exact List.take_succ_eq_append_getElem hi
theorem am_skip (hc : cs[i]? = some c) (hr : resB c.k = false) : AM n tl nm w h i cs ls = AM n tl nm w h (i + 1) cs ls := by
  unfold AM
  rw [drop_get hc, amtsv_skip (by rw [hr]; simp), take_get hc]
theorem am_cut (hc : cs[i]? = some c) (hr : resB c.k = true) : AM n tl nm w h i cs [] = (F3.zero, ((n + 1 : Nat) : Int), 4) := by
  unfold AM
  rw [drop_get hc, amtsv_nil hr]; rfl
theorem take_len (hc : cs[i]? = some c) : (cs.take i).length = i := by
  obtain ⟨hi, rfl⟩ := List.getElem?_eq_some_iff.1 hc
  rw [List.length_take]; omega
theorem am_bad (hc : cs[i]? = some c) (hr : resB c.k = true) (ha : amtv (i % w) (i / w) l = none) : AM n tl nm w h i cs (l :: ls) = (F3.zero, ((n - (l :: ls).length + 1 : Nat) : Int), 5) := by
  unfold AM
  rw [drop_get hc, amtsv_bad hr (by rw [take_len hc]; exact ha)]; rfl
theorem am_next {x : Nat} (hc : cs[i]? = some c) (hr : resB c.k = true) (ha : amtv (i % w) (i / w) l = some x) : AM n tl nm w h i cs (l :: ls) = AM n tl nm w h (i + 1) (cs.set i (updC 2 x c)) ls := by
  obtain ⟨hi, rfl⟩ := List.getElem?_eq_some_iff.1 hc
  unfold AM
  rw [drop_get hc, amtsv_line hr (by rw [take_len hc]; exact ha)]
  have e1 : (cs.set i (updC 2 x cs[i])).take (i + 1) = cs.take i ++ [updC 2 x cs[i]] := by
    rw [take_get (c := updC 2 x cs[i]) (by rw [List.getElem?_set_self hi]), List.take_set_of_le (Nat.le_refl _)]
  have e2 : (cs.set i (updC 2 x cs[i])).drop (i + 1) = cs.drop (i + 1) := by rw [List.drop_set_of_lt (by omega)]
  rw [e1, e2]
  rfl

/-- .. behind some starts. -/
def SV (n : Nat) (tl nm : List UInt8) (w h : Nat) (cs : List C3) (acc : List (Int × Int)) (ls : List (List UInt8)) : F3 × Int × Int := andv n (startsv tl acc ls) (fun st _ => checkv ⟨nm, ⟨w, h, cs⟩, st⟩)
theorem am_end : AM n tl nm w h cs.length cs ls = SV n tl nm w h cs [] ls := by
  unfold AM SV
  rw [List.take_length, List.drop_length, amtsv]
  rfl
variable {acc : List (Int × Int)}
theorem sv_bad (hs : startv l = none) : SV n tl nm w h cs acc (l :: ls) = (F3.zero, ((n - (l :: ls).length + 1 : Nat) : Int), 5) := by
  unfold SV
  rw [startsv, hs]; rfl
theorem sv_next {p : Int × Int} (hs : startv l = some p) : SV n tl nm w h cs acc (l :: ls) = SV n tl nm w h cs (acc ++ [p]) ls := by
  unfold SV
  rw [startsv, hs]
theorem sv_cut (ht : ¬ tl = []) : SV n tl nm w h cs acc [] = (F3.zero, ((n + 1 : Nat) : Int), 4) := by
  unfold SV
  rw [startsv, if_neg ht]; rfl
theorem sv_end (ht : tl = []) : SV n tl nm w h cs acc [] = checkv ⟨nm, ⟨w, h, cs⟩, acc⟩ := by
  unfold SV
  rw [startsv, if_pos ht]; rfl

theorem zero_exit {R : F3} {rl re line err : Int} {W w' : World} (e : (R, rl, re) = (F3.zero, line, err)) (hb : Below W.heap.size W w') : ParsePost R rl re W (.returned (.tuple #[.agg #[.string ⟨#[]⟩, .int .i64 0, .int .i64 0, .slice none 0 0, .slice none 0 0], .int .i64 line, .int .i64 err])) w' := by
  cases e
  exact zero_post _ _ hb
/-- The lines of a text, by the pieces. -/
theorem lines_get {s : List UInt8} {ls : List (List UInt8)} (e : ls = parts 10 s) : ls = linesB s ++ [tailB s] ∧ ls.length = (linesB s).length + 1 := by
  have hne := parts_ne 10 s
  have h1 : ls = linesB s ++ [tailB s] := by
    rw [e]
    unfold linesB tailB
    rw [List.getLastD_eq_getLast?, List.getLast?_eq_some_getLast hne, Option.getD_some, List.dropLast_concat_getLast hne]
  exact ⟨h1, by rw [h1]; simp⟩
end

end Go.Proofs.YtmpbgfobiceehaaGreatDoor
