/-
  What the walks ask of the package-level variables of Go's library: the powers of ten, bytealg's MaxLen, strconv's ErrRange; and that calls which only make memory keep it.
-/
import Derived.Test.YtepkfnohlchpeaaDoorShelf
import Derived.Test.YtepkfnohlchpeaaDoorKit
import Derived.WalkSmall
import Derived.Lib.LaidTab
import Derived.Lib.UnsafeStr
import Derived.Lib.BufferRead
import Derived.Lib.ItoaNum
namespace Go.Proofs.YtepkfnohlchpeaaDoor
open Go.RowKit Go.Lib

structure Env (w : World) : Prop where
  tab : Lib.TabIs Tryd.prog w "internal/strconv.uint64pow10" .u64 Lib.pow10Tab
  len : ∃ m, w.cell? ⟨1, 0, none⟩ = some (.int .i64 m)
  rng : ∃ te pe, w.cell? ⟨3, 0, none⟩ = some (.iface te pe)
  big : 6 ≤ w.heap.size

theorem gTab : Tryd.prog.globalNamed "internal/strconv.uint64pow10" = some 0 := by kernel_rfl

theorem Env.below {w w' : World} {B : Nat} (h : Env w) (hb : Below B w w') (hB : 6 ≤ B) : Env w' := by
  obtain ⟨ht, ⟨m, hm⟩, ⟨te, pe, hr⟩, h6⟩ := h
  exact ⟨var?_below hb gTab (by omega) ht, ⟨m, (hb.cell (by show 1 < B; omega)).trans hm⟩, ⟨te, pe, (hb.cell (by show 3 < B; omega)).trans hr⟩, Nat.le_trans h6 hb.size⟩
theorem Env.drewN {w : World} (h : Env w) (n : Nat) : Env (w.drewN n) := by
  induction n with
  | zero => exact h
  | succ n ih => exact ih.below (Below.refl _ _).drew ih.big

/-- 'string(b)' of a slice that the call owns. -/
theorem conv_owned {P : Program} {src dst e : TypeId} (hs : P.underlying src = some (.slice e)) (he : P.underlying e = some (.int .u8)) (hd : P.underlying dst = some .string) {w : World} {B : Nat} {v : Value} {l : List UInt8}
    (h : w.ownsRow B e 1 v l.length (Lib.byteCells l)) : (convert src dst v).run P w = .ok (.string ⟨l.toArray⟩) w := by
  rcases h.2 with ⟨rfl, h0⟩ | ⟨g, cap, cur, rfl, _⟩
  · have : l = [] := List.eq_nil_of_length_eq_zero h0
    subst this
    exact run_convert_nil_bytes w src dst e 0 hs he hd
  · refine run_convert_bytes_back w src dst e ⟨g, 0, none⟩ cap l hs he hd fun j hj => ?_
    refine h.cells rfl j _ ?_
    simp [Lib.byteCells, List.getElem?_eq_getElem hj]

theorem byteCells_snoc {l : List UInt8} {x : Int} (h0 : 0 ≤ x) (h1 : x < 256) : Lib.byteCells l ++ [.int .u8 x] = Lib.byteCells (l ++ [UInt8.ofNat x.toNat]) := by
  simp only [Lib.byteCells, List.map_append, List.map_cons, List.map_nil]
  congr 1
  have : (UInt8.ofNat x.toNat).toNat = x.toNat := by simp; omega
  rw [this, Int.toNat_of_nonneg h0]

theorem info5 : (Tryd.prog.info? 5).map (fun i => (i.zero, i.size, i.bytes)) = some (some (.int .u8 0), 1, 1) := by kernel_rfl

/-- strconv.AppendUint at base 10. -/
theorem appendUint_any (B n : Nat) (u : Int) (h0 : 0 ≤ u) (h1 : u < 18446744073709551616) (sv : Value) (xs : List Value) (w : World) (hown : w.ownsRow B 5 1 sv n xs) (hBw : B ≤ w.heap.size) (hlim : n + 20 ≤ 140737488355328) (hE : Env w) :
    Calls Tryd.prog 30 #[sv, .int .u64 u, .int .i64 10] w fun e w' => ∃ v', e = .returned v' ∧ w'.ownsRow B 5 1 v' (n + (Lib.decDigits u.toNat).length) (xs ++ Lib.byteCells (Lib.decDigits u.toNat)) ∧ Below B w w' := by
  obtain ⟨U, rfl⟩ := Int.eq_ofNat_of_zero_le h0
  have hc := Tryd.internal_strconv_AppendUint_10 B n U (by omega) sv xs w hown hBw hlim hE.tab
  go_enter Tryd.func30, Tryd.ntmps30
  go_wp2_with fail
  refine hc.mono ?_
  rintro e w' ⟨v', rfl, hown', hb, _⟩
  go_wp2_with fail
  go_ret
  exact ⟨v', rfl, hown', hb⟩

end Go.Proofs.YtepkfnohlchpeaaDoor
