/-
  The permutation of layer 3, on lists. No program is named here.
-/
import Derived.Test.YtcflfkdamhkfdaaRngMath
namespace Go.Proofs.Ytcflfkdamhkfdaa
open Go.RowKit Go.Lib

/-- The values of a list of ints. -/
def ints (L : List Int) : List Value := L.map (Value.int .i64)
theorem ints_len (L : List Int) : (ints L).length = L.length := by unfold ints; simp
theorem ints_set (L : List Int) (i : Nat) (a : Int) : (ints L).set i (.int .i64 a) = ints (L.set i a) := by unfold ints; rw [List.map_set]
theorem ints_at (L : List Int) (i : Nat) (h : i < L.length) : (ints L)[i]? = some (.int .i64 (L.getD i 0)) := by
  unfold ints
  rw [List.getElem?_map, List.getElem?_eq_getElem h, List.getD_eq_getElem?_getD, List.getElem?_eq_getElem h]
  rfl
theorem ints_snoc (L : List Int) (a : Int) : ints L ++ [.int .i64 a] = ints (L ++ [a]) := by unfold ints; simp

/-- The list 0, 1, .., k - 1. -/
def upTo (k : Nat) : List Int := (List.range k).map Int.ofNat
theorem upTo_len (k : Nat) : (upTo k).length = k := by unfold upTo; simp
theorem upTo_next (k : Nat) : upTo (k + 1) = upTo k ++ [(k : Int)] := by unfold upTo; rw [List.range_succ]; simp

/-- The elements at i and j, exchanged. -/
def swapL (L : List Int) (i j : Nat) : List Int := (L.set i (L.getD j 0)).set j (L.getD i 0)
theorem swap_len (L : List Int) (i j : Nat) : (swapL L i j).length = L.length := by unfold swapL; simp

/-- From the list and the state: draws for the indexes i, i - 1, .., 1. -/
def shufGo : Nat → List Int → Int → List Int × Int
  | 0, L, s => (L, s)
  | i + 1, L, s => shufGo i (swapL L (i + 1) (belowv s ((i : Int) + 2)).1.toNat) (belowv s ((i : Int) + 2)).2
def shufv (s : Int) (n : Nat) : List Int × Int := shufGo (n - 1) (upTo n) s
theorem go_len : ∀ (i : Nat) (L : List Int) (s : Int), (shufGo i L s).1.length = L.length
  | 0, _, _ => rfl
  | i + 1, L, s => by unfold shufGo; rw [go_len i, swap_len]
theorem shuf_len (s : Int) (n : Nat) : (shufv s n).1.length = n := by unfold shufv; rw [go_len, upTo_len]

/-- An exchange keeps what is in the list. -/
theorem swap_perm (L : List Int) (i j : Nat) (hi : i < L.length) (hj : j < L.length) : (swapL L i j).Perm L := by
  have h := Array.swap_perm (xs := L.toArray) (i := i) (j := j) (by simpa using hi) (by simpa using hj)
  have e : (L.toArray.swap i j (by simpa using hi) (by simpa using hj)).toList = swapL L i j := by
    unfold swapL
    simp [Array.swap, List.getD_eq_getElem?_getD, List.getElem?_eq_getElem hi, List.getElem?_eq_getElem hj]
  have h2 := h.toList
  rw [e] at h2
  simpa using h2
theorem go_perm : ∀ (i : Nat) (L : List Int) (s : Int), i < L.length → L.length ≤ 1001 → (shufGo i L s).1.Perm L
  | 0, _, _, _, _ => List.Perm.refl _
  | i + 1, L, s, h, hl => by
    unfold shufGo
    have b := below_bd (s := s) (n := (i : Int) + 2) (by omega) (by omega)
    exact (go_perm i _ _ (by rw [swap_len]; omega) (by rw [swap_len]; exact hl)).trans (swap_perm L (i + 1) _ h (by omega))
theorem shuf_perm (s : Int) (n : Nat) (h : n ≤ 1000) : (shufv s n).1.Perm (upTo n) := by
  unfold shufv
  cases n with
  | zero => exact List.Perm.refl _
  | succ n => exact go_perm _ _ _ (by rw [upTo_len]; omega) (by rw [upTo_len]; omega)
theorem upTo_mem (n : Nat) (a : Int) (h : a ∈ upTo n) : 0 ≤ a ∧ a < n := by
  unfold upTo at h
  obtain ⟨k, hk, rfl⟩ := List.mem_map.1 h
  have := List.mem_range.1 hk
  exact ⟨Int.natCast_nonneg k, by show (k : Int) < n; omega⟩
theorem upTo_nodup (n : Nat) : (upTo n).Nodup := by
  unfold upTo
  rw [List.nodup_iff_pairwise_ne, List.pairwise_map]
  exact (List.nodup_range (n := n)).imp (fun h e => h (Int.ofNat.inj e))
theorem shuf_nodup (s : Int) (n : Nat) (h : n ≤ 1000) : (shufv s n).1.Nodup := ((shuf_perm s n h).nodup_iff).2 (upTo_nodup n)
theorem shuf_mem (s : Int) (n : Nat) (h : n ≤ 1000) (a : Int) (ha : a ∈ (shufv s n).1) : 0 ≤ a ∧ a < n := upTo_mem n a (((shuf_perm s n h).mem_iff).1 ha)

/-- The state behind the draws alone. -/
def drawGo : Nat → Int → Int
  | 0, s => s
  | i + 1, s => drawGo i (belowv s ((i : Int) + 2)).2
theorem go_state : ∀ (i : Nat) (L : List Int) (s : Int), (shufGo i L s).2 = drawGo i s
  | 0, _, _ => rfl
  | i + 1, L, s => by unfold shufGo drawGo; exact go_state i _ _

end Go.Proofs.Ytcflfkdamhkfdaa
