/-
  Sizes of rules: what the laws of ruletext examine; The imports of the walks and small facts on endings. No program is named here; Blocks of cells that the call itself made, known whole: read, stored into, kept behind calls that only make memory. No program is named here; What the reference of ruletext answers: Fields, Type; What the reference of ruletext answers: the value of a field; What the reference's Digits answers: the decimal digits; What the reference of ruletext answers: the text of a value; What the reference of ruletext answers: find, value; A tied card's row in either form (the law's, and the one of bounded bulk): its witness from the listed variables' own data.
-/
import Derived.Test.YtnjcdmjaecgblaaGreatDoorZB00
import Derived.Test.YtnjcdmjaecgblaaGreatDoorZD00
namespace Go.Proofs.YtnjcdmjaecgblaaGreatDoor
section
open Go.RowKit Go.Lib
theorem mem_sum {α : Type} (f : α → Nat) {l : List α} {x : α} (h : x ∈ l) : f x ≤ (l.map f).sum := by
 induction l with
 | nil => cases h
 | cons a l ih =>
  rw [List.map_cons, List.sum_cons]
  rcases List.mem_cons.1 h with rfl | h
  · omega
  · have := ih h; omega
theorem sum_bound {α : Type} (f : α → Nat) (B : Nat) : ∀ l : List α, (∀ x ∈ l, f x ≤ B) → (l.map f).sum ≤ l.length * B
 | [], _ => by simp
 | a :: l, h => by
  rw [List.map_cons, List.sum_cons, List.length_cons, Nat.succ_mul]
  have h1 := h a (List.mem_cons_self ..)
  have h2 := sum_bound f B l fun x hx => h x (List.mem_cons_of_mem _ hx)
  omega
theorem smin_le (s : ByteArray) : smin s ≤ 100000 := Nat.min_le_right ..
theorem namesS_le (l : List ByteArray) : namesS l ≤ l.length * 100001 := by
 have := sum_bound smin 100000 l fun x _ => smin_le x
 unfold namesS smS
 omega
theorem smS_cons (a : ByteArray) (l : List ByteArray) : smS (a :: l) = smin a + smS l := by unfold smS; rw [List.map_cons, List.sum_cons]
theorem names_sz : ∀ {l : List ByteArray}, namesS l ≤ 20000 → szL l ≤ 20000
 | [], _ => by decide
 | a :: l, h => by
  have h1 : namesS (a :: l) = 1 + smin a + namesS l := by unfold namesS; rw [smS_cons, List.length_cons]; omega
  have h2 : smin a ≤ 20000 := by omega
  have h3 : a.size = smin a := by unfold smin at *; omega
  have e : ∀ m : List ByteArray, smS m ≤ 20000 → (m.map ByteArray.size).sum = smS m := by
   intro m
   induction m with
   | nil => intro _; rfl
   | cons b m ih =>
    intro hm
    rw [smS_cons] at hm ⊢
    rw [List.map_cons, List.sum_cons, ih (by omega)]
    unfold smin at *
    omega
  have h4 := e (a :: l) (by unfold namesS at h; omega)
  unfold szL
  rw [h4]
  unfold namesS at h
  exact h
theorem small_huge {r : R9} (h : hugev r = false) (hb : FewL 1048576 r) : r.us.length ≤ 100 ∧ r.ws.length ≤ 100 ∧ r.ts.length ≤ 100 ∧ ShR 20000 r := by
 unfold hugev at h
 by_cases h0 : 100 < r.us.length ∨ 100 < r.ws.length ∨ 100 < r.ts.length
 · rw [if_pos h0] at h; cases h
 · rw [if_neg h0] at h
   have h1 : sumR r ≤ 100 * 400000000000 + 100 * 400000000000 + 100 * 400000000000 := by
    have a1 := sum_bound sumU 400000000000 r.us fun u hu => by
     obtain ⟨b1, b2, b3⟩ := hb.1 u hu
     have c0 := namesS_le [u.nm, u.wpn]
     have c1 := namesS_le u.needs
     have c2 := namesS_le u.trains
     have c3 := namesS_le u.ress
     simp only [List.length_cons, List.length_nil] at c0
     unfold sumU
     omega
    have a2 := sum_bound sumW 400000000000 r.ws fun u _ => by
     have c0 := namesS_le [u.nm]
     simp only [List.length_cons, List.length_nil] at c0
     unfold sumW
     omega
    have a3 := sum_bound sumT 400000000000 r.ts fun u hu => by
     have b1 := hb.2 u hu
     have c0 := namesS_le [u.nm, u.un]
     have c1 := namesS_le u.needs
     simp only [List.length_cons, List.length_nil] at c0
     unfold sumT
     omega
    unfold sumR
    omega
   rw [wrap_nat9 (by omega)] at h
   have h2 : sumR r ≤ 20000 := by
    have := of_decide_eq_false h
    omega
   refine ⟨by omega, by omega, by omega, fun u hu => ?_, fun u hu => ?_⟩
   · have hx : sumU u ≤ _ := mem_sum sumU hu
     have hy : sumU u = namesS [u.nm, u.wpn] + namesS u.needs + namesS u.trains + namesS u.ress := rfl
     unfold sumR at h2
     have hn : namesS [u.nm, u.wpn] ≤ 20000 := by omega
     have hz := names_sz hn
     rw [szL_cons, szL_cons] at hz
     exact ⟨by omega, names_sz (by omega), names_sz (by omega), names_sz (by omega)⟩
   · have hx : sumT u ≤ _ := mem_sum sumT hu
     have hy : sumT u = namesS [u.nm, u.un] + namesS u.needs := rfl
     unfold sumR at h2
     have hn : namesS [u.nm, u.un] ≤ 20000 := by omega
     have hz := names_sz hn
     rw [szL_cons, szL_cons] at hz
     exact ⟨by omega, names_sz (by omega)⟩
end
section
open Go.RowKit Go.Lib
theorem ret_str {a b : ByteArray} (h : a = b) : Ending.returned (.string a) = .returned (.string b) := by rw [h]
theorem conv_one {P : Program} {src dst e : TypeId} (hs : P.underlying src = some (.slice e)) (he : P.underlying e = some (.int .u8)) (hd : P.underlying dst = some .string) (w : World) (x : Int) (t : TypeId) :
 (convert src dst (.slice (some ⟨w.heap.size, 0, none⟩) 1 1)).run P (w.alloc (.cells #[.int .u8 x] t)) = .ok (.string ⟨#[UInt8.ofNat x.toNat]⟩) (w.alloc (.cells #[.int .u8 x] t)) := by
 rw [run_convert_bytes_string _ src dst e _ 1 1 hs he hd]
 have hl := run_loadCells_list (P := P) (w.alloc (.cells #[.int .u8 x] t)) ⟨w.heap.size, 0, none⟩ [.int .u8 x] (fun j v hj => by
  match j, hj with
  | 0, hj =>
   simp at hj
   subst hj
   simp [Addr.add])
 rw [run_bytesToString _ _ 1 1 [x] hl]
 rfl
end
section
open Go.RowKit
theorem Blk.four {w : World} {b : Nat} {p q r s : Value} {t : TypeId} (h : Blk w b [p, q, r, s] t) :
 w.cell? ⟨b, 0, none⟩ = some p ∧ w.cell? ⟨b, 1, none⟩ = some q ∧ w.cell? ⟨b, 2, none⟩ = some r ∧ w.cell? ⟨b, 3, none⟩ = some s ∧
 w.frozen? ⟨b, 0, none⟩ = false ∧ w.frozen? ⟨b, 1, none⟩ = false ∧ w.frozen? ⟨b, 2, none⟩ = false ∧ w.frozen? ⟨b, 3, none⟩ = false :=
 ⟨h.cell 0, h.cell 1, h.cell 2, h.cell 3, h.frozen 0, h.frozen 1, h.frozen 2, h.frozen 3⟩
theorem Blk.put4 {W : World} {b : Nat} {p q r s : Value} {t : TypeId} (h : Blk W b [p, q, r, s] t) (x y u v : Value) : Blk ((((W.setCell ⟨b, 0, none⟩ x).setCell ⟨b, 1, none⟩ y).setCell ⟨b, 2, none⟩ u).setCell ⟨b, 3, none⟩ v) b [x, y, u, v] t := (((h.set 0 x).set 1 y).set 2 u).set 3 v
end
section
open Go.RowKit Go.Lib
theorem type_hit {k : Int} {f : ByteArray} {i : Nat} (hi : i < (fieldsv k).length) (h : (fieldsv k)[i]'hi = f) : typev k f = sortv f := type_in (h ▸ List.getElem_mem hi)
set_option maxHeartbeats 4000000 in
set_option maxRecDepth 100000 in
theorem r10type_b (k : Int) (f : ByteArray) (n : Int) (W : World) (e : Hid (n = typev k f)) : Calls Tryz.prog 29 #[.int .i64 k, .string f] W fun e w' => e = .returned (.int .i64 n) ∧ Below W.heap.size W w' := by
 go_enter Tryz.func29, Tryz.ntmps29
 go_wp2_with fail
 ((with_reducible refine (r10fields_b k _).mono ?_); rintro e w1 ⟨v, rfl, hv, hL⟩)
 have HY := fun i (hi : i < (fieldsv k).length) (h : (fieldsv k)[i]'hi = f) => e.out.trans (type_hit hi h)
 have HN := fun h => e.out.trans (type_miss (k := k) (f := f) h)
 generalize fieldsv k = l at *
 replace HY := hid HY
 replace HN := hid HN
 clear e
 obtain ⟨p, c, rfl, hm, hat⟩ := hv
 unfold maxLen at hm
 go_wp2_with fail
 go_loop [6] (fun vi => ∃ i : Nat, vi = .int .i64 i ∧ i ≤ l.length ∧ Hid (hasv (l.take i) f = false)) (fun vi => l.length - (RowKit.intOf vi).toNat)
 case atStart => exact ⟨0, rfl, by omega, hid rfl⟩
 case round =>
  obtain ⟨i, rfl, hi, hA⟩ := hrel
  by_cases hlt : i < l.length
  · have d1 : (i : Int) < l.length := by omega
    have d0 : (0 : Int) ≤ i := by omega
    obtain ⟨g, o, rfl, hc⟩ := hat (by omega)
    have k1 := hc i hlt
    have HS := fun q => hid (has_take hlt hA.out q)
    have HT := HY.out i hlt
    obtain ⟨x, hx⟩ : ∃ x, l[i]'hlt = x := ⟨_, rfl⟩
    rw [hx] at k1 HS HT
    replace HT := hid HT
    clear hx hat hA hc HY HN
    by_cases hq : x = f
    · have hn := hid (HT.out hq)
      subst hq
      clear HS HT
      by_cases h_building : x = ⟨#[98, 117, 105, 108, 100, 105, 110, 103]⟩
      · subst h_building
        obtain rfl : n = 2 := hn.out
        clear hn
        go_wp2_with fail
        go_ret
        exact ⟨rfl, hL⟩
      by_cases h_depot : x = ⟨#[100, 101, 112, 111, 116]⟩
      · subst h_depot
        obtain rfl : n = 2 := hn.out
        clear hn
        go_wp2_with fail
        go_ret
        exact ⟨rfl, hL⟩
      by_cases h_weapon : x = ⟨#[119, 101, 97, 112, 111, 110]⟩
      · subst h_weapon
        obtain rfl : n = 3 := hn.out
        clear hn
        go_wp2_with fail
        go_ret
        exact ⟨rfl, hL⟩
      by_cases h_unit : x = ⟨#[117, 110, 105, 116]⟩
      · subst h_unit
        obtain rfl : n = 3 := hn.out
        clear hn
        go_wp2_with fail
        go_ret
        exact ⟨rfl, hL⟩
      by_cases h_needs : x = ⟨#[110, 101, 101, 100, 115]⟩
      · subst h_needs
        obtain rfl : n = 4 := hn.out
        clear hn
        go_wp2_with fail
        go_ret
        exact ⟨rfl, hL⟩
      by_cases h_trains : x = ⟨#[116, 114, 97, 105, 110, 115]⟩
      · subst h_trains
        obtain rfl : n = 4 := hn.out
        clear hn
        go_wp2_with fail
        go_ret
        exact ⟨rfl, hL⟩
      by_cases h_researches : x = ⟨#[114, 101, 115, 101, 97, 114, 99, 104, 101, 115]⟩
      · subst h_researches
        obtain rfl : n = 4 := hn.out
        clear hn
        go_wp2_with fail
        go_ret
        exact ⟨rfl, hL⟩
      obtain rfl : n = 1 := hn.out.trans (by unfold sortv; rw [if_neg (fun q => q.elim h_building h_depot), if_neg (fun q => q.elim h_weapon h_unit), if_neg (fun q => q.elim h_needs fun q => q.elim h_trains h_researches)])
      obtain ⟨a0, b0⟩ := lit_two h_building
      obtain ⟨a1, b1⟩ := lit_two h_depot
      obtain ⟨a2, b2⟩ := lit_two h_weapon
      obtain ⟨a3, b3⟩ := lit_two h_unit
      obtain ⟨a4, b4⟩ := lit_two h_needs
      obtain ⟨a5, b5⟩ := lit_two h_trains
      obtain ⟨a6, b6⟩ := lit_two h_researches
      clear hn
      go_wp2_with fail
      go_ret
      exact ⟨rfl, hL⟩
    · have HQ := HS hq
      obtain ⟨a1, a2⟩ := ne_list hq
      clear HS HT hq
      go_wp2_with fail
      go_round
      case rel => exact ⟨i + 1, by go_num, by omega, HQ⟩
      case measure => simp [RowKit.intOf]; omega
  · obtain rfl : i = l.length := by omega
    have d1 : ¬ (l.length : Int) < l.length := by omega
    have ha := hA.out
    rw [List.take_length] at ha
    obtain rfl : n = 0 := HN.out ha
    clear hat ha hA HY HN
    go_wp2_with fail
    go_ret
    exact ⟨rfl, hL⟩
end
section
open Go.RowKit Go.Lib
def VL (W : World) (vs : List Value) (v : V10) : Prop := ∃ sl, vs = [.int .i64 v.n, .bool v.b, .string v.s, sl] ∧ StrSl W sl v.l
end
section
open Go.RowKit Go.Lib
theorem decDigits_len20 {n : Nat} (h : n < 18446744073709551616) : (Lib.decDigits n).length ≤ 20 := by
 rw [decDigits_length]
 by_cases h1 : n < 1
 · rw [nDigits_small (by omega)]; omega
 · have h2 := numDigits_eq n (by omega) h
   split at h2 <;> omega
theorem dig_ofNat (k : Nat) : UInt8.ofNat (48 + k) = 48 + UInt8.ofNat k := by simp [UInt8.ofNat_add]
theorem digits_step {m n : Nat} {t : ByteArray} (h9 : 9 < m) (h : Lib.decDigits m ++ t.data.toList = Lib.decDigits n) :
 Lib.decDigits (m / 10) ++ (ByteArray.mk #[48 + UInt8.ofNat (m % 10)] ++ t).data.toList = Lib.decDigits n := by
 rw [decDigits, dif_neg (by omega)] at h
 rw [← h, ByteArray.data_append, dig_ofNat]
 simp
theorem digits_last {m n : Nat} {t : ByteArray} (h9 : ¬ 9 < m) (h : Lib.decDigits m ++ t.data.toList = Lib.decDigits n) :
 ByteArray.mk #[48 + UInt8.ofNat m] ++ t = ⟨(Lib.decDigits n).toArray⟩ := by
 rw [decDigits_one (by omega)] at h
 apply ByteArray.ext
 rw [ByteArray.data_append, ← h, dig_ofNat]
 simp
theorem digits_size {m n : Nat} {t : ByteArray} (hn : n < 18446744073709551616) (h : Lib.decDigits m ++ t.data.toList = Lib.decDigits n) : t.size ≤ 20 := by
 have h1 := decDigits_len20 hn
 rw [← h, List.length_append] at h1
 rw [Lib.size_eq]
 omega
set_option maxHeartbeats 400000 in
theorem digits_any (n : Nat) (w : World) (hn : n < 18446744073709551616) :
 Calls Tryz.prog 112 #[.int .u64 n] w fun e w' => e = .returned (.string ⟨(Lib.decDigits n).toArray⟩) ∧ Below w.heap.size w w' := by
 have kc := conv_one (P := Tryz.prog) Tryz.underlying86 Tryz.underlying5 Tryz.underlying9
 go_enter Tryz.func112, Tryz.ntmps112
 go_wp2
 go_loopw [0, 3] (fun v s wr => ∃ (m : Nat) (t : ByteArray), v = .int .u64 m ∧ s = .string t ∧ m ≤ n ∧ Hid (Lib.decDigits m ++ t.data.toList = Lib.decDigits n) ∧ Below w.heap.size w wr) (fun v _ _ => (RowKit.intOf v).toNat)
 case atStart => exact ⟨n, _, rfl, rfl, Nat.le_refl _, Lib.hid (by simp), Below.refl _ _⟩
 case round =>
  obtain ⟨m, t, rfl, rfl, hm, hd, hb⟩ := hrel
  have ht := digits_size hn hd.out
  by_cases h9 : 9 < m
  · have HS := Lib.hid (digits_step h9 hd.out)
    clear hd
    go_wp2
    go_roundw
    case rel => exact ⟨m / 10, _, by go_num, rfl, by omega, HS, hb.alloc hb.size _⟩
    case measure => simp [RowKit.intOf]; omega
  · have HS := Lib.hid (digits_last h9 hd.out)
    clear hd
    go_wp2
    go_ret
    exact ⟨ret_str HS.out, hb.alloc hb.size _⟩
end
section
open Go.RowKit Go.Lib
theorem cat_toB (a b : List UInt8) : toB a ++ toB b = toB (a ++ b) := by
 apply ByteArray.ext
 rw [ByteArray.data_append]
 simp [toB]
set_option maxHeartbeats 4000000 in
set_option maxRecDepth 100000 in
theorem r10dec_b (n : Int) (W : World) (h1 : -9223372036854775808 ≤ n) (h2 : n ≤ 9223372036854775807) : Calls Tryz.prog 65 #[.int .i64 n] W fun e w' => e = .returned (.string (toB (decv n))) ∧ Below W.heap.size W w' := by
 by_cases hn : n < 0
 · obtain ⟨k, hk⟩ : ∃ k : Nat, n = -((k : Int) + 1) := ⟨(-(n + 1)).toNat, by omega⟩
   have hd : decv n = 45 :: decDigits (k + 1) := by
    unfold decv
    rw [if_pos hn, show n.natAbs = k + 1 by omega]
   rw [hd]
   clear hd
   subst hk
   have z1 : decide (-((k : Int) + 1) < 0) = true := decide_eq_true (by omega)
   have hs := decDigits_len20 (n := k + 1) (by omega)
   go_enter Tryz.func65, Tryz.ntmps65
   go_wp2_with fail
   rw [show -(-((k : Int) + 1) + 1) + 1 = ((k + 1 : Nat) : Int) by omega]
   ((with_reducible refine (digits_any (k + 1) _ (by omega)).mono ?_); rintro e w1 ⟨rfl, hb⟩)
   have hE : (ByteArray.mk #[45]) ++ ByteArray.mk (decDigits (k + 1)).toArray = toB (45 :: decDigits (k + 1)) := cat_toB [45] (decDigits (k + 1))
   have hsz : (ByteArray.mk (decDigits (k + 1)).toArray).size ≤ 20 := by rw [show ByteArray.mk (decDigits (k + 1)).toArray = toB (decDigits (k + 1)) from rfl, size_toB]; exact hs
   generalize ByteArray.mk (decDigits (k + 1)).toArray = t at *
   replace hE := hid hE
   go_wp2_with fail
   go_ret
   exact ⟨congrArg (fun z => Ending.returned (.string z)) hE.out, hb⟩
 · obtain ⟨k, rfl⟩ : ∃ k : Nat, n = (k : Int) := ⟨n.toNat, by omega⟩
   have hd : decv (k : Int) = decDigits k := by unfold decv; rw [if_neg hn]; rfl
   rw [hd]
   clear hd
   go_enter Tryz.func65, Tryz.ntmps65
   go_wp2_with fail
   ((with_reducible refine (digits_any k _ (by omega)).mono ?_); rintro e w1 ⟨rfl, hb⟩)
   go_wp2_with fail
   go_ret
   exact ⟨rfl, hb⟩
end
section
open Go.RowKit Go.Lib
theorem findv_hit {l : List ByteArray} {s : ByteArray} {i : Nat} (hi : i < l.length) (h : l[i]'hi = s) (hb : hasv (l.take i) s = false) : findv l s = i := by
 have e : l.findIdx? (fun x => decide (x = s)) = some i := by
  rw [List.findIdx?_eq_some_iff_getElem]
  refine ⟨hi, decide_eq_true h, fun j hj => ?_⟩
  have hjl : j < (l.take i).length := by rw [List.length_take]; omega
  intro q
  have hm : s ∈ l.take i := by
   have := List.getElem_mem hjl
   rw [List.getElem_take, of_decide_eq_true q] at this
   exact this
  rw [hasv_iff.2 hm] at hb
  cases hb
 unfold findv
 rw [e]
theorem findv_miss {l : List ByteArray} {s : ByteArray} (hb : hasv l s = false) : findv l s = -1 := by
 have e : l.findIdx? (fun x => decide (x = s)) = none := by
  rw [List.findIdx?_eq_none_iff]
  intro x hx
  exact decide_eq_false fun q => by
   rw [q] at hx
   rw [hasv_iff.2 hx] at hb
   cases hb
 unfold findv
 rw [e]
set_option maxHeartbeats 8000000 in
set_option maxRecDepth 100000 in
theorem r10find_b (su sw st : Value) (r : R9) (k : Int) (nm : ByteArray) (n : Int) (V0 W : World) (hR : RAt V0 su sw st r) (h0 : Below V0.heap.size V0 W) (e : Hid (n = findv (namesK r k) nm)) :
 Calls Tryz.prog 30 #[.agg #[su, sw, st], .int .i64 k, .string nm] W fun e w' => e = .returned (.int .i64 n) ∧ Below W.heap.size W w' := by
 obtain ⟨p, c, rfl, hm, hat⟩ := hR.u
 obtain ⟨p1, c1, rfl, hm1, hat1⟩ := hR.w
 obtain ⟨p2, c2, rfl, hm2, hat2⟩ := hR.t
 have hB := Blk.new W [.slice p r.us.length c, .slice p1 r.ws.length c1, .slice p2 r.ts.length c2] 31
 have hL := (Below.refl W.heap.size W).alloc (Nat.le_refl _) (.cells [.slice p r.us.length c, .slice p1 r.ws.length c1, .slice p2 r.ts.length c2].toArray 31)
 unfold maxLen at hm hm1 hm2
 clear hR
 have b0 := hB.cell 0
 have b1 := hB.cell 1
 have b2 := hB.cell 2
 simp only [List.getElem?_cons_zero, List.getElem?_cons_succ] at b0 b1 b2
 by_cases h1 : k = 1
 · subst h1
   replace e := hid (show n = findv (namesU r) nm from e.out)
   have hlen : (namesU r).length = r.us.length := by unfold namesU; rw [List.length_map]
   go_enter Tryz.func30, Tryz.ntmps30
   go_upto_region 3 with fail
   generalize hVV : W.alloc (.cells [.slice p r.us.length c, .slice p1 r.ws.length c1, .slice p2 r.ts.length c2].toArray 31) = V at *
   go_wp2_with fail
   replace hlen := hid hlen
   go_loop [7] (fun vi => ∃ i : Nat, vi = .int .i64 i ∧ i ≤ r.us.length ∧ Hid (hasv ((namesU r).take i) nm = false)) (fun vi => r.us.length - (RowKit.intOf vi).toNat)
   case atStart => exact ⟨0, rfl, by omega, hid rfl⟩
   case round =>
    obtain ⟨i, rfl, hi, hA⟩ := hrel
    by_cases hlt : i < r.us.length
    · have d1 : (i : Int) < r.us.length := by omega
      have d0 : (0 : Int) ≤ i := by omega
      obtain ⟨g, o, rfl, hc⟩ := hat (by omega)
      obtain ⟨vs, hU, hcs⟩ := (hc i hlt).ul
      have k1 := ((h0.trans (hL.mono h0.size)).cell (p := ⟨g, o + i * 19, none⟩) (World.block_lt_of_cell? V0 _ (hcs 0 _ hU.name))).trans (hcs 0 _ hU.name)
      have hln : i < (namesU r).length := by rw [hlen.out]; exact hlt
      have hx : (namesU r)[i]'hln = (r.us[i]'hlt).nm := List.getElem_map U9.nm
      have HY := fun q => e.out.trans (findv_hit (s := nm) hln (hx.trans q) hA.out)
      have HN := fun (q : ¬ (r.us[i]'hlt).nm = nm) => hid (has_take hln hA.out (fun q2 => q (hx.symm.trans q2)))
      obtain ⟨y, hy⟩ : ∃ y, (r.us[i]'hlt).nm = y := ⟨_, rfl⟩
      rw [hy] at k1 HY HN
      clear hy hx hln hc hcs hat hat1 hat2 hA hU
      by_cases hq : y = nm
      · obtain rfl : n = i := HY hq
        subst hq
        clear HY HN e
        go_wp2_with fail
        go_ret
        exact ⟨rfl, hL⟩
      · have HS := HN hq
        obtain ⟨a1, a2⟩ := ne_list hq
        clear HY HN hq
        go_wp2_with fail
        go_round
        case rel => exact ⟨i + 1, by go_num, by omega, HS⟩
        case measure => simp [RowKit.intOf]; omega
    · obtain rfl : i = r.us.length := by omega
      have d1 : ¬ (r.us.length : Int) < r.us.length := by omega
      have ha := hA.out
      rw [← hlen.out, List.take_length] at ha
      obtain rfl : n = -1 := e.out.trans (findv_miss ha)
      clear ha hA e hat hat1 hat2
      go_wp2_with fail
      go_ret
      exact ⟨rfl, hL⟩
 have z1 : (k == 1) = false := beq_eq_false_iff_ne.2 h1
 by_cases h2 : k = 2
 · subst h2
   replace e := hid (show n = findv (namesW r) nm from e.out)
   have hlen : (namesW r).length = r.ws.length := by unfold namesW; rw [List.length_map]
   go_enter Tryz.func30, Tryz.ntmps30
   go_upto_region 3 with fail
   generalize hVV : W.alloc (.cells [.slice p r.us.length c, .slice p1 r.ws.length c1, .slice p2 r.ts.length c2].toArray 31) = V at *
   go_wp2_with fail
   replace hlen := hid hlen
   go_loop [8] (fun vi => ∃ i : Nat, vi = .int .i64 i ∧ i ≤ r.ws.length ∧ Hid (hasv ((namesW r).take i) nm = false)) (fun vi => r.ws.length - (RowKit.intOf vi).toNat)
   case atStart => exact ⟨0, rfl, by omega, hid rfl⟩
   case round =>
    obtain ⟨i, rfl, hi, hA⟩ := hrel
    by_cases hlt : i < r.ws.length
    · have d1 : (i : Int) < r.ws.length := by omega
      have d0 : (0 : Int) ≤ i := by omega
      obtain ⟨g, o, rfl, hc⟩ := hat1 (by omega)
      have hcs := hc i hlt
      have k1 := ((h0.trans (hL.mono h0.size)).cell (p := ⟨g, o + i * 6, none⟩) (World.block_lt_of_cell? V0 _ (hcs 0 _ rfl))).trans (hcs 0 _ rfl)
      have hln : i < (namesW r).length := by rw [hlen.out]; exact hlt
      have hx : (namesW r)[i]'hln = (r.ws[i]'hlt).nm := List.getElem_map W9.nm
      have HY := fun q => e.out.trans (findv_hit (s := nm) hln (hx.trans q) hA.out)
      have HN := fun (q : ¬ (r.ws[i]'hlt).nm = nm) => hid (has_take hln hA.out (fun q2 => q (hx.symm.trans q2)))
      obtain ⟨y, hy⟩ : ∃ y, (r.ws[i]'hlt).nm = y := ⟨_, rfl⟩
      rw [hy] at k1 HY HN
      clear hy hx hln hc hcs hat hat1 hat2 hA
      by_cases hq : y = nm
      · obtain rfl : n = i := HY hq
        subst hq
        clear HY HN e
        go_wp2_with fail
        go_ret
        exact ⟨rfl, hL⟩
      · have HS := HN hq
        obtain ⟨a1, a2⟩ := ne_list hq
        clear HY HN hq
        go_wp2_with fail
        go_round
        case rel => exact ⟨i + 1, by go_num, by omega, HS⟩
        case measure => simp [RowKit.intOf]; omega
    · obtain rfl : i = r.ws.length := by omega
      have d1 : ¬ (r.ws.length : Int) < r.ws.length := by omega
      have ha := hA.out
      rw [← hlen.out, List.take_length] at ha
      obtain rfl : n = -1 := e.out.trans (findv_miss ha)
      clear ha hA e hat hat1 hat2
      go_wp2_with fail
      go_ret
      exact ⟨rfl, hL⟩
 have z2 : (k == 2) = false := beq_eq_false_iff_ne.2 h2
 by_cases h3 : k = 3
 · subst h3
   replace e := hid (show n = findv (namesT r) nm from e.out)
   have hlen : (namesT r).length = r.ts.length := by unfold namesT; rw [List.length_map]
   go_enter Tryz.func30, Tryz.ntmps30
   go_upto_region 3 with fail
   generalize hVV : W.alloc (.cells [.slice p r.us.length c, .slice p1 r.ws.length c1, .slice p2 r.ts.length c2].toArray 31) = V at *
   go_wp2_with fail
   replace hlen := hid hlen
   go_loop [9] (fun vi => ∃ i : Nat, vi = .int .i64 i ∧ i ≤ r.ts.length ∧ Hid (hasv ((namesT r).take i) nm = false)) (fun vi => r.ts.length - (RowKit.intOf vi).toNat)
   case atStart => exact ⟨0, rfl, by omega, hid rfl⟩
   case round =>
    obtain ⟨i, rfl, hi, hA⟩ := hrel
    by_cases hlt : i < r.ts.length
    · have d1 : (i : Int) < r.ts.length := by omega
      have d0 : (0 : Int) ≤ i := by omega
      obtain ⟨g, o, rfl, hc⟩ := hat2 (by omega)
      obtain ⟨vs, hU, hcs⟩ := (hc i hlt).tl
      have k1 := ((h0.trans (hL.mono h0.size)).cell (p := ⟨g, o + i * 8, none⟩) (World.block_lt_of_cell? V0 _ (hcs 0 _ hU.name))).trans (hcs 0 _ hU.name)
      have hln : i < (namesT r).length := by rw [hlen.out]; exact hlt
      have hx : (namesT r)[i]'hln = (r.ts[i]'hlt).nm := List.getElem_map T9.nm
      have HY := fun q => e.out.trans (findv_hit (s := nm) hln (hx.trans q) hA.out)
      have HN := fun (q : ¬ (r.ts[i]'hlt).nm = nm) => hid (has_take hln hA.out (fun q2 => q (hx.symm.trans q2)))
      obtain ⟨y, hy⟩ : ∃ y, (r.ts[i]'hlt).nm = y := ⟨_, rfl⟩
      rw [hy] at k1 HY HN
      clear hy hx hln hc hcs hat hat1 hat2 hA hU
      by_cases hq : y = nm
      · obtain rfl : n = i := HY hq
        subst hq
        clear HY HN e
        go_wp2_with fail
        go_ret
        exact ⟨rfl, hL⟩
      · have HS := HN hq
        obtain ⟨a1, a2⟩ := ne_list hq
        clear HY HN hq
        go_wp2_with fail
        go_round
        case rel => exact ⟨i + 1, by go_num, by omega, HS⟩
        case measure => simp [RowKit.intOf]; omega
    · obtain rfl : i = r.ts.length := by omega
      have d1 : ¬ (r.ts.length : Int) < r.ts.length := by omega
      have ha := hA.out
      rw [← hlen.out, List.take_length] at ha
      obtain rfl : n = -1 := e.out.trans (findv_miss ha)
      clear ha hA e hat hat1 hat2
      go_wp2_with fail
      go_ret
      exact ⟨rfl, hL⟩
 have z3 : (k == 3) = false := beq_eq_false_iff_ne.2 h3
 obtain rfl : n = -1 := e.out.trans (by unfold namesK; rw [if_neg h1, if_neg h2, if_neg h3]; rfl)
 clear e hat hat1 hat2
 go_enter Tryz.func30, Tryz.ntmps30
 go_wp2_with fail
 go_ret
 exact ⟨rfl, hL⟩
end
section
open Go.ChangeShapes Go.WideShapes Go.ChangeAt Go.WideMaps Go.WideElems Go.RowKit Go.Lib
theorem FewL.mono {N M : Nat} {r : R9} (h : FewL N r) (le : N ≤ M) : FewL M r := ⟨fun u hu => by
 obtain ⟨a, b, c⟩ := h.1 u hu
 omega, fun t ht => Nat.le_trans (h.2 t ht) le⟩
end

end Go.Proofs.YtnjcdmjaecgblaaGreatDoor
