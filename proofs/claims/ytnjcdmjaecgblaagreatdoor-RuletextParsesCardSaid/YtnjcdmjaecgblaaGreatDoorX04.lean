/-
  What the reference's Digits answers: the decimal digits; What the reference of ruletext answers: the text of a value; Rows that a call owns, one appended to another. No program is named here; Regions that draw, operation by operation; Regions that draw, operation by operation: one or two that may come up; a struct's box made and stored into. No program is named here.
-/
import Derived.Test.YtnjcdmjaecgblaaGreatDoorX00
namespace Go.Proofs.YtnjcdmjaecgblaaGreatDoor
section
open Go.RowKit Go.Lib
theorem decDigits_len20 {n : Nat} (h : n < 18446744073709551616) : (Lib.decDigits n).length ≤ 20 := by
 rw [decDigits_length]
 by_cases h1 : n < 1
 · rw [nDigits_small (by omega)]; omega
 · have h2 := numDigits_eq n (by omega) h
   split at h2 <;> omega
theorem dig_ofNat (k : Nat) : UInt8.ofNat (48 + k) = 48 + UInt8.ofNat k := by simp [UInt8.ofNat_add]
theorem digits_step {m n : Nat} {t : ByteArray} (h9 : 9 < m) (h : Lib.decDigits m ++ t.data.toList = Lib.decDigits n) :
 Lib.decDigits (m / 10) ++ (ByteArray.mk #[48 + UInt8.ofNat (m % 10)] ++ t).data.toList = Lib.decDigits n := by
 rw [decDigits, dif_neg (by omega)] at h
 rw [← h, ByteArray.data_append, dig_ofNat]
 simp
theorem digits_last {m n : Nat} {t : ByteArray} (h9 : ¬ 9 < m) (h : Lib.decDigits m ++ t.data.toList = Lib.decDigits n) :
 ByteArray.mk #[48 + UInt8.ofNat m] ++ t = ⟨(Lib.decDigits n).toArray⟩ := by
 rw [decDigits_one (by omega)] at h
 apply ByteArray.ext
 rw [ByteArray.data_append, ← h, dig_ofNat]
 simp
theorem digits_size {m n : Nat} {t : ByteArray} (hn : n < 18446744073709551616) (h : Lib.decDigits m ++ t.data.toList = Lib.decDigits n) : t.size ≤ 20 := by
 have h1 := decDigits_len20 hn
 rw [← h, List.length_append] at h1
 rw [Lib.size_eq]
 omega
set_option maxHeartbeats 400000 in
theorem digits_any (n : Nat) (w : World) (hn : n < 18446744073709551616) :
 Calls Tryz.prog 112 #[.int .u64 n] w fun e w' => e = .returned (.string ⟨(Lib.decDigits n).toArray⟩) ∧ Below w.heap.size w w' := by
 have kc := conv_one (P := Tryz.prog) Tryz.underlying86 Tryz.underlying5 Tryz.underlying9
 go_enter Tryz.func112, Tryz.ntmps112
 go_wp2
 go_loopw [0, 3] (fun v s wr => ∃ (m : Nat) (t : ByteArray), v = .int .u64 m ∧ s = .string t ∧ m ≤ n ∧ Hid (Lib.decDigits m ++ t.data.toList = Lib.decDigits n) ∧ Below w.heap.size w wr) (fun v _ _ => (RowKit.intOf v).toNat)
 case atStart => exact ⟨n, _, rfl, rfl, Nat.le_refl _, Lib.hid (by simp), Below.refl _ _⟩
 case round =>
  obtain ⟨m, t, rfl, rfl, hm, hd, hb⟩ := hrel
  have ht := digits_size hn hd.out
  by_cases h9 : 9 < m
  · have HS := Lib.hid (digits_step h9 hd.out)
    clear hd
    go_wp2
    go_roundw
    case rel => exact ⟨m / 10, _, by go_num, rfl, by omega, HS, hb.alloc hb.size _⟩
    case measure => simp [RowKit.intOf]; omega
  · have HS := Lib.hid (digits_last h9 hd.out)
    clear hd
    go_wp2
    go_ret
    exact ⟨ret_str HS.out, hb.alloc hb.size _⟩
end
section
open Go.RowKit Go.Lib
theorem cat_toB (a b : List UInt8) : toB a ++ toB b = toB (a ++ b) := by
 apply ByteArray.ext
 rw [ByteArray.data_append]
 simp [toB]
set_option maxHeartbeats 4000000 in
set_option maxRecDepth 100000 in
theorem r10dec_b (n : Int) (W : World) (h1 : -9223372036854775808 ≤ n) (h2 : n ≤ 9223372036854775807) : Calls Tryz.prog 65 #[.int .i64 n] W fun e w' => e = .returned (.string (toB (decv n))) ∧ Below W.heap.size W w' := by
 by_cases hn : n < 0
 · obtain ⟨k, hk⟩ : ∃ k : Nat, n = -((k : Int) + 1) := ⟨(-(n + 1)).toNat, by omega⟩
   have hd : decv n = 45 :: decDigits (k + 1) := by
    unfold decv
    rw [if_pos hn, show n.natAbs = k + 1 by omega]
   rw [hd]
   clear hd
   subst hk
   have z1 : decide (-((k : Int) + 1) < 0) = true := decide_eq_true (by omega)
   have hs := decDigits_len20 (n := k + 1) (by omega)
   go_enter Tryz.func65, Tryz.ntmps65
   go_wp2_with fail
   rw [show -(-((k : Int) + 1) + 1) + 1 = ((k + 1 : Nat) : Int) by omega]
   ((with_reducible refine (digits_any (k + 1) _ (by omega)).mono ?_); rintro e w1 ⟨rfl, hb⟩)
   have hE : (ByteArray.mk #[45]) ++ ByteArray.mk (decDigits (k + 1)).toArray = toB (45 :: decDigits (k + 1)) := cat_toB [45] (decDigits (k + 1))
   have hsz : (ByteArray.mk (decDigits (k + 1)).toArray).size ≤ 20 := by rw [show ByteArray.mk (decDigits (k + 1)).toArray = toB (decDigits (k + 1)) from rfl, size_toB]; exact hs
   generalize ByteArray.mk (decDigits (k + 1)).toArray = t at *
   replace hE := hid hE
   go_wp2_with fail
   go_ret
   exact ⟨congrArg (fun z => Ending.returned (.string z)) hE.out, hb⟩
 · obtain ⟨k, rfl⟩ : ∃ k : Nat, n = (k : Int) := ⟨n.toNat, by omega⟩
   have hd : decv (k : Int) = decDigits k := by unfold decv; rw [if_neg hn]; rfl
   rw [hd]
   clear hd
   go_enter Tryz.func65, Tryz.ntmps65
   go_wp2_with fail
   ((with_reducible refine (digits_any k _ (by omega)).mono ?_); rintro e w1 ⟨rfl, hb⟩)
   go_wp2_with fail
   go_ret
   exact ⟨rfl, hb⟩
end
section
open Go.RowKit
section
variable {P : Program} {w : World} {e : TypeId} {k n m : Nat} {v u : Value} {xs ys : List Value} {B C : Nat}
theorem run_append_rows (t ty : TypeId) (i : TypeInfo) (z : Value) (size bytes : Nat) (ht : P.underlying t = some (.slice e)) (hi : P.info? e = some i) (hz : i.zero = some z)
 (hsize : i.size = size) (hby : i.bytes = bytes) (hzs : z.cells.size = size) (hsz : 0 < size) (hown : w.ownsRow B e size v n xs) (hu : w.ownsRow C e size u m ys) (h1 : ∀ y ∈ ys, y.oneCell' = true)
 (h63 : n + m ≤ maxLen) (hbytes : (n + m) * bytes ≤ 140737488355328) (hB : B ≤ w.heap.size) :
 ∃ v' w', (Builtin.append_ #[t, t] ty #[v, u]).run P w = .ok v' w' ∧ w'.ownsRow B e size v' (n + m) (xs ++ ys) ∧ w.grownBy w' v.ownBlock := by
 rcases id hu.2 with ⟨rfl, rfl⟩ | ⟨g, cap, cur, rfl, -, -, -, -, -, -⟩
 · have hy : ys = [] := List.eq_nil_of_length_eq_zero (by rw [hu.1, Nat.zero_mul])
   subst hy
   rcases id hown.2 with ⟨rfl, rfl⟩ | ⟨g, cap, cur, rfl, -, -, hle, -, -, -⟩
   · exact ⟨_, w, run_append_nothing w t t ty e i ht hi none 0 0 (Nat.le_refl _) _ (Src.ofNil w ht 0), by rw [List.append_nil]; exact hown, ⟨rfl, rfl, rfl, Nat.le_refl _, fun _ _ _ => rfl⟩⟩
   · exact ⟨_, w, run_append_nothing w t t ty e i ht hi _ n cap hle _ (Src.ofNil w ht 0), by rw [List.append_nil]; exact hown, ⟨rfl, rfl, rfl, Nat.le_refl _, fun _ _ _ => rfl⟩⟩
 · obtain ⟨v', w', h, ho, hg, -⟩ := run_append_own (P := P) w B t ty e i z size bytes ht hi hz hsize hby hzs hsz v n xs hown ⟨g, 0, none⟩ m cap ys hu.1 (hu.cells rfl) h1 h63 hbytes hB
   exact ⟨v', w', h, ho, hg⟩
end
theorem own_apart {w w1 : World} {v u : Value} {B k n k2 m : Nat} {e e3 : TypeId} {xs ys : List Value} (h : w.ownsRow B e k v n xs) (h2 : w1.ownsRow (w.heap.size + 1) e3 k2 u m ys) : v.ownBlock = none ∨ v.ownBlock ≠ u.ownBlock := by
 cases ho : v.ownBlock with
 | none => exact .inl rfl
 | some j =>
  right
  intro e4
  have := (h.lt j ho).2
  have := (h2.lt j e4.symm).1
  omega
theorem own_apart' {w w1 : World} {v u : Value} {B k n k2 m : Nat} {e e3 : TypeId} {xs ys : List Value} (h : w.ownsRow B e k v n xs) (h2 : w1.ownsRow (w.heap.size + 1) e3 k2 u m ys) : u.ownBlock = none ∨ u.ownBlock ≠ v.ownBlock := by
 cases ho : u.ownBlock with
 | none => exact .inl rfl
 | some j =>
  right
  intro e4
  have := (h.lt j e4.symm).2
  have := (h2.lt j ho).1
  omega
section
variable {P : Program} {rest : List Oper} {ops : Array Oper} {o : Oper} {a : Act} {w : World} {Q : Exit → Act → World → Prop}
theorem wpList_append_run (hg : o.guard = none) (s x : Operand) (t : TypeId) (ho : o.op = .call { callee := .builtin .append, args := #[s, x], argTypes := #[t, t] }) (v y v' : Value) (w' : World) (hs : a.eval s = v) (hx : a.eval x = y)
 (hrun : (Builtin.append_ #[t, t] o.type #[v, y]).run P w = .ok v' w') (h : wpList P ops Q rest (a.put o.dst v') w') : wpList P ops Q (o :: rest) a w :=
 wpList_plain hg fun K hK => by
  unfold Oper.wp execOp
  simp only [ho, resolve, invoke, builtin, Sem.run_bind, Sem.run_pure, Result.andThen_ok, List.map_toArray, List.map_cons, List.map_nil, hs, hx, hrun]
  exact hK _ _ h
end
section
variable {P : Program} {ops : Array Oper} {Q : Exit → Act → World → Prop}
theorem step_app_run {o : Oper} {a : Act} {w w' : World} {K : Act → World → Prop} {E : Prop} (hg : o.guard = none) (s x : Operand) (t : TypeId) (hop : o.op = Op.call { callee := Callee.builtin Builtin.append, args := #[s, x], argTypes := #[t, t] })
 (v y v' : Value) (hs : a.eval s = v) (hx : a.eval x = y) (hrun : (Builtin.append_ #[t, t] o.type #[v, y]).run P w = .ok v' w') (hK : K (a.put o.dst v') w') :
 if Region.wanted o (yielded ops a.tmps) = true then Oper.wp P o a w K Q else E := by
 have hw : Region.wanted o (yielded ops a.tmps) = true := by simp [Region.wanted, hg]
 rw [if_pos hw]
 unfold Oper.wp
 simp [execOp, hop, resolve, invoke, builtin, hs, hx, hrun, Result.andThen]
 exact hK
end
end
section
section
open Go.RowKit Go.Lib
section
variable {P : Program} {ops : Array Oper} {Q : Exit → Act → World → Prop} {md : Region.Mode} {S : World → Prop}
theorem reg_skip {i : Nat} {oi : Oper} {fuel : Nat} {listed : Array Bool} {a : Act} {w : World} (d : Option Tmp) (hi : ops[i]? = some oi) (hd : oi.dst = d)
 (hs : Region.noSelect ops = true) (hf : Region.free md ops listed i = true) (hr : (Region.ready md ops listed).contains i = true)
 (hQ : ∀ c a w, Q (.panic c) (a.put oi.dst undef) w → Q (.panic c) a w) (hw : Region.wanted oi (yielded ops a.tmps) = false) (hS : S w)
 (h : wpAnyH P md ops Q S fuel (listed.setIfInBounds i true) (a.put d undef) w) : wpAnyH P md ops Q S (fuel + 1) listed a w := by
 subst hd
 exact wpAnyH_take hi hs hf hr hQ (Or.inr ⟨hw, rfl⟩) hS h
end
end
end
section
open Go.RowKit Go.Lib
section
variable {P : Program} {ops : Array Oper} {Q : Exit → Act → World → Prop} {md : Region.Mode} {S : World → Prop}
theorem held_two {i k : Nat} {o1 o2 : Oper} {fuel : Nat} {listed : Array Bool} {a : Act} {w : World} (hr : Region.ready md ops listed = [i, k]) (h1 : ops[i]? = some o1) (h2 : ops[k]? = some o2)
 (H1 : ∀ K' : Act → World → Prop, Shut (∀ a w, S w → wpAnyH P md ops Q S fuel (listed.setIfInBounds i true) a w → K' a w) → if Region.wanted o1 (yielded ops a.tmps) = true then Oper.wp P o1 a w K' Q else K' (a.put o1.dst undef) w)
 (H2 : ∀ K' : Act → World → Prop, Shut (∀ a w, S w → wpAnyH P md ops Q S fuel (listed.setIfInBounds k true) a w → K' a w) → if Region.wanted o2 (yielded ops a.tmps) = true then Oper.wp P o2 a w K' Q else K' (a.put o2.dst undef) w) :
 wpAnyH P md ops Q S (fuel + 1) listed a w := by
 refine ⟨fun h0 => (by rw [hr] at h0; cases h0), fun j hj => ?_⟩
 rw [hr] at hj
 rcases List.mem_cons.1 hj with rfl | hj
 · exact wpOp_step h1 (fun K' hK => H1 K' (fun a w hS hW => hK a w ⟨hS, hW⟩))
 · rcases List.mem_cons.1 hj with rfl | hj
   · exact wpOp_step h2 (fun K' hK => H2 K' (fun a w hS hW => hK a w ⟨hS, hW⟩))
   · cases hj
theorem step_alloc_agg {o : Oper} {a : Act} {w : World} {K : Act → World → Prop} {E : Prop} (hg : o.guard = none) (t : TypeId) (ho : o.op = .alloc t) (zs : List Value) (hz : ∀ w, (zeroValue t).run P w = .ok (.agg zs.toArray) w)
 (hK : K (a.put o.dst (.pointer (some ⟨w.heap.size, 0, none⟩))) (w.alloc (.cells zs.toArray t))) : if Region.wanted o (yielded ops a.tmps) = true then Oper.wp P o a w K Q else E := by
 have hw : Region.wanted o (yielded ops a.tmps) = true := by simp [Region.wanted, hg]
 rw [if_pos hw]
 unfold Oper.wp execOp
 simp only [ho, Instr.alloc, newVar, newRow, Value.cells, Sem.run_bind, Sem.run_pure, Result.andThen_ok, hz, run_newObj]
 exact hK
end
end

end Go.Proofs.YtnjcdmjaecgblaaGreatDoor
