/-
  Rules without their last technology: as plain facts; the front of a slice.
-/
import Derived.Test.YtaefioikflllcaaGreatRulPure
import Derived.Test.YtaefioikflllcaaGreatRulRefP
namespace Go.Proofs.YtaefioikflllcaaGreat
open Go.RowKit Go.Lib

def use1 (s : ByteArray) (u : U9) : Bool := hasv u.needs s || hasv u.ress s
def use2 (s : ByteArray) (t : T9) : Bool := hasv t.needs s
theorem less_at {r : R9} {k : Nat} (hk : r.ts.length = k + 1) (h : valv r = 0) :
    valv ⟨r.us, r.ws, r.ts.take k⟩ = if (r.us.any (use1 (r.ts[k]'(by omega)).nm) || (r.ts.take k).any (use2 (r.ts[k]'(by omega)).nm)) = true then 8 else 0 := by
  obtain ⟨us, ws, l⟩ := r
  dsimp only at hk h ⊢
  have e : l = l.take k ++ [l[k]'(by omega)] := by
    rw [← List.take_succ_eq_append_getElem (by omega), List.take_of_length_le (by omega)]
  have hv := less_val us ws (l.take k) (l[k]'(by omega)) (by rw [← e]; exact h)
  have hd : (l.take k ++ [l[k]'(by omega)]).dropLast = l.take k := List.dropLast_concat
  rw [hv]
  unfold usedv
  dsimp only
  rw [hd]
  rfl
theorem any_take {α : Type} {f : α → Bool} {l : List α} {i : Nat} (hi : i < l.length) : (l.take (i + 1)).any f = ((l.take i).any f || f (l[i]'hi)) := by
  rw [List.take_succ_eq_append_getElem hi, List.any_append, List.any_cons, List.any_nil, Bool.or_false]
theorem SlAt.take {α : Type} {at_ : World → Nat → Nat → α → Prop} {k : Nat} {W : World} {p : Option Addr} {n c : Nat} {l : List α} (h : SlAt at_ k W (.slice p n c) l) {j : Nat} (hj : j ≤ l.length) : SlAt at_ k W (.slice p j c) (l.take j) := by
  obtain ⟨q, d, e, hm, hat⟩ := h
  injection e with e1 e2 e3
  subst e1 e3
  have hl : (l.take j).length = j := by rw [List.length_take]; omega
  refine ⟨_, _, by rw [hl], by omega, fun h1 => ?_⟩
  obtain ⟨g, o, rfl, hc⟩ := hat (by omega)
  refine ⟨g, o, rfl, fun i hi => ?_⟩
  rw [List.getElem_take]
  exact hc i (by omega)
theorem StrSl.take {W : World} {p : Option Addr} {n c : Nat} {l : List ByteArray} (h : StrSl W (.slice p n c) l) {j : Nat} (hj : j ≤ l.length) : StrSl W (.slice p j c) (l.take j) := by
  obtain ⟨q, d, e, hm, hat⟩ := h
  injection e with e1 e2 e3
  subst e1 e3
  have hl : (l.take j).length = j := by rw [List.length_take]; omega
  refine ⟨_, _, by rw [hl], by omega, fun h1 => ?_⟩
  obtain ⟨g, o, rfl, hc⟩ := hat (by omega)
  refine ⟨g, o, rfl, fun i hi => ?_⟩
  rw [List.getElem_take]
  exact hc i (by omega)

end Go.Proofs.YtaefioikflllcaaGreat
