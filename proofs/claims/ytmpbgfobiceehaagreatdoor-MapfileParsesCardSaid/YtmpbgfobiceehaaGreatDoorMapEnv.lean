/-
  What the walks of mapfile ask of package-level variables; texts of bytes.
-/
import Derived.Test.YtmpbgfobiceehaaGreatDoorShelf
import Derived.Test.YtmpbgfobiceehaaGreatDoorKit
import Derived.Test.YtmpbgfobiceehaaGreatDoorTerLandQ
import Derived.Lib.AtoiErrMem
import Derived.Lib.LaidTab
import Derived.Lib.ItoaNum
import Derived.WalkSmall
import Derived.Test.YtmpbgfobiceehaaGreatDoorMapPure
namespace Go.Proofs.YtmpbgfobiceehaaGreatDoor
open Go.RowKit Go.Lib

/-- A text of bytes. -/
def bs (l : List UInt8) : ByteArray := ⟨l.toArray⟩
theorem bs_list (l : List UInt8) : (bs l).data.toList = l := by unfold bs; simp
theorem bs_size (l : List UInt8) : (bs l).size = l.length := by unfold bs; rw [Lib.size_eq]
theorem bs_app (l m : List UInt8) : bs l ++ bs m = bs (l ++ m) := by
  apply ByteArray.ext
  rw [ByteArray.data_append]
  unfold bs
  simp
theorem bs_of (s : ByteArray) : bs s.data.toList = s := by
  apply ByteArray.ext
  unfold bs
  simp
theorem take_next {s : ByteArray} {k : Nat} (hk : k < s.size) : s.data.toList.take (k + 1) = s.data.toList.take k ++ [s[k]'hk] := by
  rw [List.take_succ_eq_append_getElem (by simpa using hk)]; rfl
theorem take_all {s : ByteArray} : s.data.toList.take s.size = s.data.toList := List.take_of_length_le (by rw [← Lib.size_eq]; exact Nat.le_refl _)
theorem ba_zero {s : ByteArray} (h : s.size = 0) : s = ⟨#[]⟩ := by
  apply ByteArray.ext
  exact Array.eq_empty_of_size_eq_zero h
theorem ba_emp {s : ByteArray} (h : s.size ≠ 0) : s.toList.isEmpty = false := by
  rw [← decide_eq_emptyBytes]
  exact decide_eq_false (fun e => h (by rw [e]; rfl))

theorem ba_list (s : ByteArray) : s.toList = s.data.toList := ByteArray.toList_eq s
theorem ba_ne {s t : ByteArray} (h : ¬ s = t) : ¬ s.toList = t.toList := fun e => h (by rw [← bs_of s, ← bs_of t, ← ba_list, ← ba_list, e])
/-- What the functions of mapfile ask of the listed variables. -/
structure EnvM (w : World) : Prop where
  p : EnvP w
  tab : Lib.TabIs Tryz.prog w "internal/strconv.uint64pow10" .u64 Lib.pow10Tab
  len : ∃ m, w.cell? ⟨1, 0, none⟩ = some (.int .i64 m)
  syn : ∃ te pe, w.var? Tryz.prog "strconv.ErrSyntax" = some #[.iface te pe]
  rng : ∃ te pe, w.var? Tryz.prog "strconv.ErrRange" = some #[.iface te pe]
  big : 12 ≤ w.heap.size
theorem gTab : Tryz.prog.globalNamed "internal/strconv.uint64pow10" = some 2 := by kernel_rfl
theorem gSyn : Tryz.prog.globalNamed "strconv.ErrSyntax" = some 3 := by kernel_rfl
theorem gRng : Tryz.prog.globalNamed "strconv.ErrRange" = some 4 := by kernel_rfl
theorem EnvM.keep {w w' : World} (h : EnvM w) (hb : Below w.heap.size w w') : EnvM w' := by
  obtain ⟨hp, ht, ⟨m, hm⟩, ⟨te, pe, hs⟩, ⟨tr, pr, hr⟩, h6⟩ := h
  exact ⟨hp.keep hb, var?_below hb gTab (by omega) ht, ⟨m, (hb.cell (by show 1 < _; omega)).trans hm⟩,
    ⟨te, pe, var?_below hb gSyn (by omega) hs⟩, ⟨tr, pr, var?_below hb gRng (by omega) hr⟩, Nat.le_trans h6 hb.size⟩
theorem EnvP.keep30 {w w' : World} (h : EnvP w) (hb : Below 12 w w') (_h6 : 12 ≤ w.heap.size) : EnvP w' :=
  ⟨fun k hk => ⟨(hb.cell (by show 0 < 12; decide)).trans (h.pas k hk).1, (hb.cell (by show 0 < 12; decide)).trans (h.pas k hk).2.1, (hb.cell (by show 0 < 12; decide)).trans (h.pas k hk).2.2⟩, Nat.lt_of_lt_of_le h.big hb.size⟩
theorem EnvM.keep30 {w w' : World} (h : EnvM w) (hb : Below 12 w w') : EnvM w' := by
  obtain ⟨hp, ht, ⟨m, hm⟩, ⟨te, pe, hs⟩, ⟨tr, pr, hr⟩, h6⟩ := h
  exact ⟨hp.keep30 hb h6, var?_below hb gTab (by decide) ht, ⟨m, (hb.cell (by show 1 < 12; decide)).trans hm⟩,
    ⟨te, pe, var?_below hb gSyn (by decide) hs⟩, ⟨tr, pr, var?_below hb gRng (by decide) hr⟩, Nat.le_trans h6 hb.size⟩
theorem EnvM.to {w w' : World} {B : Nat} (h : EnvM w) (hB : B = w.heap.size) (hb : Below B w w') : EnvM w' := h.keep (hB ▸ hb)

end Go.Proofs.YtmpbgfobiceehaaGreatDoor
