/-
  Rows that a call owns, one appended to another. No program is named here.
-/
import Derived.Test.YtbdgpldhfemejaaDoorMem
import Derived.Deep.Upon
import Derived.Deep.AppendSrc
import Derived.Deep.RegionHeld3
namespace Go.Proofs.YtbdgpldhfemejaaDoor
open Go.RowKit

section
variable {P : Program} {w : World} {e : TypeId} {k n m : Nat} {v u : Value} {xs ys : List Value} {B C : Nat}
theorem run_append_rows (t ty : TypeId) (i : TypeInfo) (z : Value) (size bytes : Nat) (ht : P.underlying t = some (.slice e)) (hi : P.info? e = some i) (hz : i.zero = some z)
    (hsize : i.size = size) (hby : i.bytes = bytes) (hzs : z.cells.size = size) (hsz : 0 < size) (hown : w.ownsRow B e size v n xs) (hu : w.ownsRow C e size u m ys) (h1 : ∀ y ∈ ys, y.oneCell' = true)
    (h63 : n + m ≤ maxLen) (hbytes : (n + m) * bytes ≤ 140737488355328) (hB : B ≤ w.heap.size) :
    ∃ v' w', (Builtin.append_ #[t, t] ty #[v, u]).run P w = .ok v' w' ∧ w'.ownsRow B e size v' (n + m) (xs ++ ys) ∧ w.grownBy w' v.ownBlock := by
  rcases id hu.2 with ⟨rfl, rfl⟩ | ⟨g, cap, cur, rfl, -, -, -, -, -, -⟩
  · have hy : ys = [] := List.eq_nil_of_length_eq_zero (by rw [hu.1, Nat.zero_mul])
    subst hy
    rcases id hown.2 with ⟨rfl, rfl⟩ | ⟨g, cap, cur, rfl, -, -, hle, -, -, -⟩
    · exact ⟨_, w, run_append_nothing w t t ty e i ht hi none 0 0 (Nat.le_refl _) _ (Src.ofNil w ht 0), by rw [List.append_nil]; exact hown, ⟨rfl, rfl, rfl, Nat.le_refl _, fun _ _ _ => rfl⟩⟩
    · exact ⟨_, w, run_append_nothing w t t ty e i ht hi _ n cap hle _ (Src.ofNil w ht 0), by rw [List.append_nil]; exact hown, ⟨rfl, rfl, rfl, Nat.le_refl _, fun _ _ _ => rfl⟩⟩
  · obtain ⟨v', w', h, ho, hg, -⟩ := run_append_own (P := P) w B t ty e i z size bytes ht hi hz hsize hby hzs hsz v n xs hown ⟨g, 0, none⟩ m cap ys hu.1 (hu.cells rfl) h1 h63 hbytes hB
    exact ⟨v', w', h, ho, hg⟩
/-- A row, behind an append to another one. -/
theorem own_kept {w' : World} {row : Option Nat} (h : w.ownsRow B e k v n xs) (hg : w.grownBy w' row) (hne : ∀ j, row = some j → j < B) : w'.ownsRow B e k v n xs :=
  h.kept hg (by
    cases ho : v.ownBlock with
    | none => exact .inl rfl
    | some j =>
      right
      intro e2
      have := (h.lt j ho).1
      have := hne j e2.symm
      omega)
end

/-- A row just made lies apart from those of before. -/
theorem own_apart {w w1 : World} {v u : Value} {B k n k2 m : Nat} {e e3 : TypeId} {xs ys : List Value} (h : w.ownsRow B e k v n xs) (h2 : w1.ownsRow (w.heap.size + 1) e3 k2 u m ys) : v.ownBlock = none ∨ v.ownBlock ≠ u.ownBlock := by
  cases ho : v.ownBlock with
  | none => exact .inl rfl
  | some j =>
    right
    intro e4
    have := (h.lt j ho).2
    have := (h2.lt j e4.symm).1
    omega
theorem own_apart' {w w1 : World} {v u : Value} {B k n k2 m : Nat} {e e3 : TypeId} {xs ys : List Value} (h : w.ownsRow B e k v n xs) (h2 : w1.ownsRow (w.heap.size + 1) e3 k2 u m ys) : u.ownBlock = none ∨ u.ownBlock ≠ v.ownBlock := by
  cases ho : u.ownBlock with
  | none => exact .inl rfl
  | some j =>
    right
    intro e4
    have := (h.lt j e4.symm).2
    have := (h2.lt j ho).1
    omega
section
variable {P : Program} {rest : List Oper} {ops : Array Oper} {o : Oper} {a : Act} {w : World} {Q : Exit → Act → World → Prop}
/-- An append, by its run. -/
theorem wpList_append_run (hg : o.guard = none) (s x : Operand) (t : TypeId) (ho : o.op = .call { callee := .builtin .append, args := #[s, x], argTypes := #[t, t] }) (v y v' : Value) (w' : World) (hs : a.eval s = v) (hx : a.eval x = y)
    (hrun : (Builtin.append_ #[t, t] o.type #[v, y]).run P w = .ok v' w') (h : wpList P ops Q rest (a.put o.dst v') w') : wpList P ops Q (o :: rest) a w :=
  wpList_plain hg fun K hK => by
    unfold Oper.wp execOp
    simp only [ho, resolve, invoke, builtin, Sem.run_bind, Sem.run_pure, Result.andThen_ok, List.map_toArray, List.map_cons, List.map_nil, hs, hx, hrun]
    exact hK _ _ h
end
section
variable {P : Program} {ops : Array Oper} {Q : Exit → Act → World → Prop}
/-- .. as one step of a region. -/
theorem step_app_run {o : Oper} {a : Act} {w w' : World} {K : Act → World → Prop} {E : Prop} (hg : o.guard = none) (s x : Operand) (t : TypeId) (hop : o.op = Op.call { callee := Callee.builtin Builtin.append, args := #[s, x], argTypes := #[t, t] })
    (v y v' : Value) (hs : a.eval s = v) (hx : a.eval x = y) (hrun : (Builtin.append_ #[t, t] o.type #[v, y]).run P w = .ok v' w') (hK : K (a.put o.dst v') w') :
    if Region.wanted o (yielded ops a.tmps) = true then Oper.wp P o a w K Q else E := by
  have hw : Region.wanted o (yielded ops a.tmps) = true := by simp [Region.wanted, hg]
  rw [if_pos hw]
  unfold Oper.wp
  simp [execOp, hop, resolve, invoke, builtin, hs, hx, hrun, Result.andThen]
  exact hK
end

end Go.Proofs.YtbdgpldhfemejaaDoor
