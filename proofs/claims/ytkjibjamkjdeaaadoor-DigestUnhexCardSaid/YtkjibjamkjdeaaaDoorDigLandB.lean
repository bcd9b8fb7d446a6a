/-
  digest as it landed at 946a7bb: strconv.FormatUint at base 16, Hex.
-/
import Derived.Test.YtkjibjamkjdeaaaDoorDigLandA
import Derived.Test.YtkjibjamkjdeaaaDoorDigLaws
import Derived.Test.YtkjibjamkjdeaaaDoorShelf
namespace Go.Proofs.YtkjibjamkjdeaaaDoor
open Go.RowKit Go.Lib

/-- What the walks ask of the package-level variables of Go's library. -/
structure EnvD (w : World) : Prop where
  tz : w.cell? ⟨5, 15, none⟩ = some (.int .u8 4)
  big : 6 ≤ w.heap.size
theorem EnvD.keep {w w' : World} (h : EnvD w) (hb : Below w.heap.size w w') : EnvD w' :=
  ⟨(hb.cell (by show 5 < _; have := h.big; omega)).trans h.tz, Nat.le_trans h.big hb.size⟩

theorem tz_num : bits .and .u64 (16 : Int) (IntKind.u64.wrap (-16)) = 16 := by decide
theorem tz_mul : IntKind.u64.wrap (16 * 285870213051353865) = 4573923408821661840 := by decide
set_option maxHeartbeats 400000 in
theorem tz64_n (w : World) (hE : EnvD w) : Calls Tryd.prog 62 #[.int .u64 16] w fun e w' => e = .returned (.int .i64 4) ∧ w = w' := by
  have e1 := tz_num
  have e2 := tz_mul
  have hc := hE.tz
  go_enter Tryd.func62, Tryd.ntmps62
  go_wp2_with fail
  go_ret
  exact ⟨rfl, rfl⟩
set_option maxHeartbeats 400000 in
theorem tz_n (w : World) (hE : EnvD w) : Calls Tryd.prog 55 #[.int .u64 16] w fun e w' => e = .returned (.int .i64 4) ∧ w = w' := by
  go_enter Tryd.func55, Tryd.ntmps55
  go_wp2_with fail
  ((with_reducible refine (tz64_n _ hE).mono ?_); rintro e w1 ⟨rfl, hw⟩)
  rw [← hw]
  clear hw
  go_wp2_with fail
  go_ret
  exact ⟨rfl, rfl⟩
set_option maxHeartbeats 400000 in
theorem pow2_n (w : World) : Calls Tryd.prog 54 #[.int .i64 16] w fun e w' => e = .returned (.bool true) ∧ w = w' := by
  have e1 : bits .and .i64 (16 : Int) 15 = 0 := by decide
  go_enter Tryd.func54, Tryd.ntmps54
  go_wp2_with fail
  go_ret
  exact ⟨rfl, rfl⟩

theorem dig36 : ∀ k, (h : k < 16) → (ByteArray.mk #[48, 49, 50, 51, 52, 53, 54, 55, 56, 57, 97, 98, 99, 100, 101, 102, 103, 104, 105, 106, 107, 108, 109, 110, 111, 112, 113, 114, 115, 116, 117, 118, 119, 120, 121, 122])[k]'(by show k < 36; omega) = hexd k := by decide
theorem hexR_front (k n : Nat) : hexR (k + 1) n = hexd (n / 16 ^ k % 16) :: hexR k n := by
  induction k generalizing n with
  | zero => simp [hexR]
  | succ k ih =>
    rw [hexR, ih, List.cons_append, Nat.div_div_eq_div_mul, Nat.pow_succ, Nat.mul_comm 16]
    rfl
/-- The 65 cells of formatBits behind k digits. -/
def fb (k n : Nat) : List Value := List.replicate (65 - k) (.int .u8 0) ++ Lib.byteCells (hexR k n)
theorem fb_zero (n : Nat) : fb 0 n = List.replicate 65 (.int .u8 0) := by simp [fb, hexR, Lib.byteCells]
theorem fb_set (k n : Nat) (hk : k ≤ 64) : (fb k n).set (64 - k) (.int .u8 ((hexd (n / 16 ^ k % 16)).toNat : Int)) = fb (k + 1) n := by
  unfold fb
  rw [hexR_front, show 65 - k = (64 - k) + 1 by omega, show 65 - (k + 1) = 64 - k by omega, List.replicate_succ', List.append_assoc, List.set_append_right _ _ (by simp)]
  simp [Lib.byteCells]
theorem fb_cell {k n b : Nat} {wr : World} {t : TypeId} (h : Blk wr b (fb k n) t) (hk : k ≤ 64) : wr.cell? ⟨b, 64 - k, none⟩ = some (.int .u8 0) := by
  rw [h.cell]
  unfold fb
  rw [List.getElem?_append_left (by rw [List.length_replicate]; omega), List.getElem?_replicate, if_pos (by omega)]
theorem fb_bytes {k n b : Nat} {wr : World} {t : TypeId} (h : Blk wr b (fb k n) t) (_hk : k ≤ 64) : ∀ j, (hj : j < (hexR k n).length) → wr.cell? ((⟨b, 65 - k, none⟩ : Addr).add j) = some (.int .u8 ((hexR k n)[j]'hj).toNat) := by
  intro j hj
  have hadd : (⟨b, 65 - k, none⟩ : Addr).add j = ⟨b, 65 - k + j, none⟩ := by unfold Addr.add; split <;> simp_all
  rw [hadd, h.cell]
  unfold fb
  rw [List.getElem?_append_right (by simp)]
  simp [Lib.byteCells, List.getElem?_eq_getElem hj]
theorem hex_and (m : Nat) (h : m < 18446744073709551616) : bits .and .u64 (m : Int) 15 = ((m % 16 : Nat) : Int) := by
  rw [u64_and _ _ (by omega) (by omega) (by omega) (by omega), Int.toNat_natCast, show (15 : Int).toNat = 2 ^ 4 - 1 by decide, Nat.and_two_pow_sub_one_eq_mod]

set_option maxRecDepth 1000000 in
set_option maxHeartbeats 1000000 in
theorem bits_any (n : Nat) (w : World) (hE : EnvD w) (hn : n < 18446744073709551616) :
    Calls Tryd.prog 39 #[.slice none 0 0, .int .u64 n, .int .i64 16, .bool false, .bool false] w fun e w' => ∃ L, 1 ≤ L ∧ L ≤ 16 ∧ n < 16 ^ L ∧ e = .returned (.tuple #[.slice none 0 0, .string (bs (hexR L n))]) ∧ Below w.heap.size w w' := by
  go_enter Tryd.func39, Tryd.ntmps39
  go_wp2_with fail
  ((with_reducible refine (pow2_n _).mono ?_); rintro e w1 ⟨rfl, hw⟩)
  rw [← hw]
  clear hw
  have hz : Tryd.zeroCells80 = (fb 0 n).toArray := by rw [fb_zero]; rfl
  go_wp2_with fail
  have hL := (Below.refl w.heap.size w).alloc (Nat.le_refl _) (.cells (fb 0 n).toArray 80)
  have hB := Blk.new w (fb 0 n) 80
  have hE2 := hE.keep hL
  generalize w.alloc (.cells (fb 0 n).toArray 80) = W at *
  ((with_reducible refine (tz_n _ hE2).mono ?_); rintro e w1 ⟨rfl, hw⟩)
  rw [← hw]
  clear hw hE2 hz
  go_wp2_with fail
  go_loopw [1, 13] (fun vu vi wr => ∃ k : Nat, vu = .int .u64 ((n / 16 ^ k : Nat) : Int) ∧ vi = .int .i64 ((65 - k : Nat) : Int) ∧ k ≤ 15 ∧ Blk wr w.heap.size (fb k n) 80 ∧ Below w.heap.size w wr) (fun vu _ _ => (RowKit.intOf vu).toNat)
  case atStart => exact ⟨0, by simp, rfl, by omega, hB, hL⟩
  case round =>
    clear hB hL
    obtain ⟨k, rfl, rfl, hk, hB, hL⟩ := hrel
    obtain ⟨i, hi⟩ : ∃ i, 65 - k = i + 1 := ⟨64 - k, by omega⟩
    have hc := fb_cell hB (by omega)
    have hf := hB.frozen i
    have hst := fb_set k n (by omega)
    have hmx : n / 16 ^ k ≤ n := Nat.div_le_self _ _
    have hdv : n / 16 ^ (k + 1) = n / 16 ^ k / 16 := by rw [Nat.pow_succ, Nat.div_div_eq_div_mul]
    have hlv := Nat.lt_mul_div_succ n (Nat.pow_pos (n := k) (show 0 < 16 by decide))
    obtain ⟨m, hm⟩ : ∃ m, n / 16 ^ k = m := ⟨_, rfl⟩
    have e3 : 64 - k = i := by omega
    rw [e3] at hc hst
    rw [hm] at hst hmx hdv hlv ⊢
    rw [hi]
    have e2 := hex_and m (by omega)
    have hlt : m % 16 < 16 := Nat.mod_lt _ (by omega)
    have hch := dig36 (m % 16) hlt
    have i64 : i ≤ 64 := by omega
    by_cases h16 : 16 ≤ m
    · have b1 : (16 : Int) ≤ m := by omega
      have hk2 : k + 1 ≤ 15 := by
        have h1 : 16 ≤ n / 16 ^ k := by omega
        have h2 : 16 * 16 ^ k ≤ n := (Nat.le_div_iff_mul_le (Nat.pow_pos (by decide))).1 h1
        rcases Nat.lt_or_ge k 15 with h3 | h3
        · omega
        · obtain rfl : k = 15 := by omega
          have e : (16 : Nat) * 16 ^ 15 = 18446744073709551616 := by decide
          omega
      clear hm hlv
      go_wp2_with fail
      refine ⟨⟨k + 1, by rw [hdv]; go_num, by go_num, hk2, by rw [← hst]; exact hB.set i _, hL.setCell (Nat.le_refl _) _⟩, ?_⟩
      simp [RowKit.intOf]; omega
    · have b1 : ¬ (16 : Int) ≤ m := by omega
      have hm2 : m % 16 = m := Nat.mod_eq_of_lt (by omega)
      rw [hm2] at hst
      have hch2 := dig36 m (by omega)
      have hB2 : Blk (wr.setCell ⟨w.heap.size, i, none⟩ (.int .u8 ((hexd m).toNat : Int))) w.heap.size (fb (k + 1) n) 80 := by rw [← hst]; exact hB.set i _
      have hL2 : Below w.heap.size w (wr.setCell ⟨w.heap.size, i, none⟩ (.int .u8 ((hexd m).toNat : Int))) := hL.setCell (Nat.le_refl _) _
      have hfb := fb_bytes hB2 (by omega)
      rw [show 65 - (k + 1) = i by omega] at hfb
      have hcv := run_convert_bytes_back (P := Tryd.prog) _ 37 9 5 ⟨w.heap.size, i, none⟩ (65 - i) (hexR (k + 1) n) Tryd.underlying37 Tryd.underlying5 Tryd.underlying9 hfb
      rw [hexR_len, show k + 1 = 65 - i by omega] at hcv
      have hi65 : (i : Int) ≤ 65 := by omega
      have hln : n < 16 ^ (k + 1) := Nat.lt_of_lt_of_le hlv (by rw [Nat.pow_succ]; exact Nat.mul_le_mul_left _ (by omega))
      clear hdv hst hfb hB hL hlv
      go_wp2_with fail
      go_ret2
      refine ⟨65 - i, by omega, by omega, ?_, ?_, hL2⟩
      · rw [show 65 - i = k + 1 by omega]; exact hln
      · rfl

def HexOut (n : Nat) (w : World) (e : Ending) (w' : World) : Prop := ∃ L, 1 ≤ L ∧ L ≤ 16 ∧ n < 16 ^ L ∧ e = .returned (.string (bs (hexR L n))) ∧ Below w.heap.size w w'
set_option maxHeartbeats 400000 in
theorem formatI_any (n : Nat) (w : World) (hE : EnvD w) (hn : n < 18446744073709551616) :
    Calls Tryd.prog 27 #[.int .u64 n, .int .i64 16] w (HexOut n w) := by
  go_enter Tryd.func27, Tryd.ntmps27
  go_wp2_with fail
  ((with_reducible refine (bits_any n _ hE hn).mono ?_); rintro e w1 ⟨L, l1, l2, l3, rfl, hb⟩)
  go_wp2_with fail
  go_ret
  exact ⟨L, l1, l2, l3, rfl, hb⟩
set_option maxHeartbeats 400000 in
theorem format_any (n : Nat) (w : World) (hE : EnvD w) (hn : n < 18446744073709551616) :
    Calls Tryd.prog 23 #[.int .u64 n, .int .i64 16] w (HexOut n w) := by
  go_enter Tryd.func23, Tryd.ntmps23
  go_wp2_with fail
  ((with_reducible refine (formatI_any n _ hE hn).mono ?_); rintro e w1 ⟨L, l1, l2, l3, rfl, hb⟩)
  go_wp2_with fail
  go_ret
  exact ⟨L, l1, l2, l3, rfl, hb⟩

theorem hexR_zero (k : Nat) : hexR k 0 = List.replicate k 48 := by
  induction k with
  | zero => rfl
  | succ k ih => rw [hexR, ih, List.replicate_succ']; rfl
theorem hexR_pad (L j n : Nat) (h : n < 16 ^ L) : hexR (j + L) n = List.replicate j 48 ++ hexR L n := by
  induction L generalizing n with
  | zero => obtain rfl : n = 0 := by simpa using h
            rw [Nat.add_zero, hexR_zero]; simp [hexR]
  | succ L ih => rw [← Nat.add_assoc, hexR, hexR, ih (n / 16) (by rw [Nat.pow_succ] at h; omega), List.append_assoc]
theorem repeatL_one (j : Nat) : Lib.repeatL [48] j = List.replicate j 48 := by
  induction j with
  | zero => rfl
  | succ j ih => rw [List.replicate_succ, ← ih]; rfl
theorem hex_all (L n : Nat) (h : n < 16 ^ L) (hL : L ≤ 16) : ByteArray.mk (Lib.repeatL (ByteArray.mk #[48]).data.toList (16 - L)).toArray ++ bs (hexR L n) = bs (hexR 16 n) := by
  show bs (Lib.repeatL [48] (16 - L)) ++ _ = _
  rw [bs_app, repeatL_one, ← hexR_pad L (16 - L) n h, show 16 - L + L = 16 by omega]
theorem rep_n (L : Nat) (h : L ≤ 16) (R : ByteArray) (hR : Hid (R = ⟨(Lib.repeatL (ByteArray.mk #[48]).data.toList (16 - L)).toArray⟩)) (w : World) : Calls Tryd.prog 24 #[.string ⟨#[48]⟩, .int .i64 (16 - (L : Int))] w fun e w' => e = .returned (.string R) ∧ Below w.heap.size w w' := by
  rw [hR.out, show (16 : Int) - L = ((16 - L : Nat) : Int) by omega]
  exact Tryd.strings_Repeat ⟨#[48]⟩ (16 - L) w (by omega) (by rw [show (ByteArray.mk #[48]).size = 1 by decide]; omega)

set_option maxHeartbeats 400000 in
theorem dhex_any (n : Nat) (w : World) (hE : EnvD w) (hn : n < 18446744073709551616) :
    Calls Tryd.prog 16 #[.int .u64 n] w fun e w' => e = .returned (.string (bs (hexR 16 n))) ∧ Below w.heap.size w w' := by
  go_enter Tryd.func16, Tryd.ntmps16
  go_wp2_with fail
  ((with_reducible refine (format_any n _ hE hn).mono ?_); rintro e w1 ⟨L, l1, l2, l3, rfl, hL⟩)
  have hz : (bs (hexR L n)).size = L := by rw [bs_size, hexR_len]
  have e1 : wrap64 (16 - ((bs (hexR L n)).size : Int)) = ((16 - L : Nat) : Int) := by rw [hz, IntWalk.wrap64_in _ (by omega)]; omega
  obtain ⟨R, hR⟩ : ∃ R : ByteArray, Hid (R = ByteArray.mk (Lib.repeatL (ByteArray.mk #[48]).data.toList (16 - L)).toArray) := ⟨_, hid rfl⟩
  have hcat : R ++ bs (hexR L n) = bs (hexR 16 n) := by rw [hR.out]; exact hex_all L n l3 l2
  have hRs : R.size = 16 - L := by
    have h := congrArg ByteArray.size hcat
    rw [ByteArray.size_append, bs_size, bs_size, hexR_len, hexR_len] at h
    omega
  go_wp2_with fail
  ((with_reducible refine (rep_n L l2 R hR _).mono ?_); rintro e w2 ⟨rfl, hb⟩)
  replace hL := below_call hL hb
  clear hb
  go_wp2_with fail
  go_ret
  exact ⟨rfl, hL⟩

end Go.Proofs.YtkjibjamkjdeaaaDoor
