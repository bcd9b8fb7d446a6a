/-
  wire as it landed at 48062e2: isPosition, appendUint, Uint.
-/
import Derived.Test.YtmpgeipknnoclaaWireLaws
import Derived.Test.YtmpgeipknnoclaaWireBits
import Derived.Lib.Walk
import Derived.Laws.OwnMore
import Derived.Lib.BufferRead
namespace Go.Proofs.Ytmpgeipknnoclaa
open Go.RowKit Go.Lib

set_option maxHeartbeats 400000 in
theorem pos_yes (s : ByteArray) (i : Nat) (w : World) (hi : i ≤ s.size) : Calls Try.prog 29 #[.string s, .int .i64 i] w fun e w' => e = .returned (.bool true) ∧ w = w' := by
  have d : decide ((0 : Int) ≤ i) = true := decide_eq_true (by omega)
  have d2 : decide ((i : Int) ≤ s.size) = true := decide_eq_true (by omega)
  have d3 : decide (i ≤ s.size) = true := decide_eq_true (by omega)
  go_enter Try.func29, Try.ntmps29
  go_wp2
  go_ret
  exact ⟨rfl, rfl⟩
set_option maxHeartbeats 400000 in
theorem pos_no (s : ByteArray) (i : Int) (w : World) (hi : i < 0 ∨ (s.size : Int) < i) : Calls Try.prog 29 #[.string s, .int .i64 i] w fun e w' => e = .returned (.bool false) ∧ w = w' := by
  by_cases h : i < 0
  · have d : decide ((0 : Int) ≤ i) = false := decide_eq_false (by omega)
    go_enter Try.func29, Try.ntmps29
    go_wp2
    go_ret
    exact ⟨rfl, rfl⟩
  · have d : decide ((0 : Int) ≤ i) = true := decide_eq_true (by omega)
    have d2 : decide (i ≤ (s.size : Int)) = false := decide_eq_false (by omega)
    go_enter Try.func29, Try.ntmps29
    go_wp2
    go_ret
    exact ⟨rfl, rfl⟩

/-- 'string(b)' of a slice that the call owns. -/
theorem conv_owned {P : Program} {src dst e : TypeId} (hs : P.underlying src = some (.slice e)) (he : P.underlying e = some (.int .u8)) (hd : P.underlying dst = some .string) {w : World} {B : Nat} {v : Value} {l : List UInt8}
    (h : w.ownsRow B e 1 v l.length (Lib.byteCells l)) : (convert src dst v).run P w = .ok (.string ⟨l.toArray⟩) w := by
  rcases h.2 with ⟨rfl, h0⟩ | ⟨g, cap, cur, rfl, _⟩
  · have : l = [] := List.eq_nil_of_length_eq_zero h0
    subst this
    exact run_convert_nil_bytes w src dst e 0 hs he hd
  · refine run_convert_bytes_back w src dst e ⟨g, 0, none⟩ cap l hs he hd fun j hj => ?_
    refine h.cells rfl j _ ?_
    simp [Lib.byteCells, List.getElem?_eq_getElem hj]

theorem byteCells_snoc {l : List UInt8} {x : Int} (h0 : 0 ≤ x) (h1 : x < 256) : Lib.byteCells l ++ [.int .u8 x] = Lib.byteCells (l ++ [UInt8.ofNat x.toNat]) := by
  simp only [Lib.byteCells, List.map_append, List.map_cons, List.map_nil]
  congr 1
  have : (UInt8.ofNat x.toNat).toNat = x.toNat := by simp; omega
  rw [this, Int.toNat_of_nonneg h0]
theorem info5 : (Try.prog.info? 5).map (fun i => (i.zero, i.size, i.bytes)) = some (some (.int .u8 0), 1, 1) := by kernel_rfl
theorem cell_lone {w : World} {u : Value} {t : TypeId} : ∀ j x, ([u] : List Value)[j]? = some x → (w.alloc (.cells #[u] t)).cell? ((⟨w.heap.size, 0, none⟩ : Addr).add j) = some x := by
  intro j x hj
  match j, hj with
  | 0, hj => simp at hj; subst hj; simp [Addr.add]
theorem one_lone {k : IntKind} {x : Int} : ∀ u ∈ ([.int k x] : List Value), u.oneCell' = true := by
  intro u hu; simp at hu; subst hu; rfl
/-- Behind one append of a single value. -/
theorem below_append {w0 wr w1 : World} {B n : Nat} {v : Value} {xs : List Value} {t : TypeId} {o : Obj} (hB : B ≤ wr.heap.size) (hb : Below B w0 wr) (hown : wr.ownsRow B t 1 v n xs) (hg : (wr.alloc o).grownBy w1 v.ownBlock) : Below B w0 w1 :=
  (hb.alloc hB o).grown hg (by have := hB; simp; omega) (fun k hk => (hown.lt k hk).1)
theorem own_cast {w : World} {B : Nat} {e : TypeId} {v : Value} {n m : Nat} {xs ys : List Value} (h : w.ownsRow B e 1 v n xs) (hn : n = m) (hx : xs = ys) : w.ownsRow B e 1 v m ys := by subst hn; subst hx; exact h

set_option maxRecDepth 100000 in
set_option maxHeartbeats 2000000 in
theorem app_any (n : Nat) (v0 : Value) (B : Nat) (w : World) (hn : n < 18446744073709551616) (hB : B ≤ w.heap.size) (hown0 : w.ownsRow B 5 1 v0 0 []) :
    Calls Try.prog 28 #[v0, .int .u64 n] w fun e w' => ∃ v', e = .returned v' ∧ w'.ownsRow B 5 1 v' (encU n).length (Lib.byteCells (encU n)) ∧ Below B w w' := by
  obtain ⟨i0, hi, hz0, hz1, hz2⟩ := info_parts info5
  go_enter Try.func28, Try.ntmps28
  go_wp2
  go_loopw [0, 1] (fun r v wr => ∃ (m : Nat) (l : List UInt8), v = .int .u64 m ∧ m ≤ n ∧ wr.ownsRow B 5 1 r l.length (Lib.byteCells l) ∧ Below B w wr ∧ Hid (l ++ encU m = encU n)) (fun _ v _ => (RowKit.intOf v).toNat)
  case atStart => exact ⟨n, [], rfl, Nat.le_refl _, hown0, Below.refl _ _, hid rfl⟩
  case round =>
    obtain ⟨m, l, rfl, hm, hown, hbr, hR⟩ := hrel
    have hlen : l.length ≤ 10 := by
      have h1 := enc_ten n hn
      rw [← hR.out, List.length_append] at h1
      omega
    have hBw : B ≤ wr.heap.size := Nat.le_trans hB hbr.size
    by_cases h9 : m < 128
    · have HS : Hid (l ++ [UInt8.ofNat m] = encU n) := hid (by rw [← hR.out, enc_low h9])
      have e8 : IntKind.u8.wrap (m : Int) = (m : Int) := IntWalk.u8_in _ (by omega)
      clear hR
      go_wp2_with (at_builtin; refine wpList_append_own _ rfl _ _ 47 rfl B 5 i0 (.int .u8 0) 1 1 Try.underlying47 hi hz0 hz1 hz2 rfl (by decide) _ _ _ rfl (hown.alloc _) ⟨wr.heap.size, 0, none⟩ 1 1 [.int .u8 (m)] rfl rfl cell_lone one_lone (by unfold maxLen; omega) (by omega) (by simp; omega) ?_)
      intro v' w' hown' hg' _
      have hb' := below_append (t := 5) hBw hbr hown hg'
      have hown2 := own_cast hown' (m := (l ++ [UInt8.ofNat m]).length) (ys := Lib.byteCells (l ++ [UInt8.ofNat m])) (by simp) (by rw [byteCells_snoc (by omega) (by omega), Int.toNat_natCast])
      rw [HS.out] at hown2
      clear hg' hown hbr hown'
      go_wp2_with fail
      go_ret
      exact ⟨_, rfl, hown2, hb'⟩
    · have HS : Hid ((l ++ [UInt8.ofNat (128 + m % 128)]) ++ encU (m / 128) = encU n) := hid (by rw [← hR.out, enc_high h9]; simp)
      have e8 : IntKind.u8.wrap (128 + (m : Int) % 128) = 128 + (m : Int) % 128 := IntWalk.u8_in _ (by omega)
      clear hR
      go_wp2_with (at_builtin; refine wpList_append_own _ rfl _ _ 47 rfl B 5 i0 (.int .u8 0) 1 1 Try.underlying47 hi hz0 hz1 hz2 rfl (by decide) _ _ _ rfl (hown.alloc _) ⟨wr.heap.size, 0, none⟩ 1 1 [.int .u8 (128 + (m : Int) % 128)] rfl rfl cell_lone one_lone (by unfold maxLen; omega) (by omega) (by simp; omega) ?_)
      intro v' w' hown' hg' _
      have hb' := below_append (t := 5) hBw hbr hown hg'
      have hown2 := own_cast hown' (m := (l ++ [UInt8.ofNat (128 + m % 128)]).length) (ys := Lib.byteCells (l ++ [UInt8.ofNat (128 + m % 128)])) (by simp) (by rw [byteCells_snoc (by omega) (by omega), show (128 + (m : Int) % 128).toNat = 128 + m % 128 by omega])
      clear hg' hown hbr hown'
      go_wp2_with fail
      go_roundw
      case rel => exact ⟨m / 128, _, by go_num, by omega, hown2, hb', HS⟩
      case measure => simp [RowKit.intOf]; omega

set_option maxHeartbeats 400000 in
theorem duint_any (n : Nat) (w : World) (hn : n < 18446744073709551616) : Calls Try.prog 10 #[.int .u64 n] w fun e w' => e = .returned (.string (bs (encU n))) ∧ Below w.heap.size w w' := by
  go_enter Try.func10, Try.ntmps10
  go_wp2_with fail
  ((with_reducible refine (app_any n _ w.heap.size _ hn (Nat.le_refl _) (World.ownsRow_nil _ _ _ _)).mono ?_); rintro e w1 ⟨v', rfl, hown, hb⟩)
  have kc := conv_owned (P := Try.prog) Try.underlying47 Try.underlying5 Try.underlying9 hown
  go_wp2_with fail
  go_ret
  exact ⟨rfl, hb⟩

end Go.Proofs.Ytmpgeipknnoclaa
