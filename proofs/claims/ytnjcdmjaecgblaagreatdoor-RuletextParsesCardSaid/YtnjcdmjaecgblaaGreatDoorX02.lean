/-
  What the laws of ruletext ask of the functions; What the reference of ruletext answers: Fields, Type; What the reference of ruletext answers: the value of a field.
-/
import Derived.Test.YtnjcdmjaecgblaaGreatDoorX00
import Derived.Test.YtnjcdmjaecgblaaGreatDoorZB00
namespace Go.Proofs.YtnjcdmjaecgblaaGreatDoor
section
open Go.RowKit Go.Lib
theorem CapR.below {W w : World} {su sw st : Value} {r : R9} (h : CapR W su st) (hR : RAt W su sw st r) (hb : Below W.heap.size W w) : CapR w su st := by
 obtain ⟨p, c, rfl, hm, hat⟩ := hR.u
 obtain ⟨p2, c2, rfl, hm2, hat2⟩ := hR.t
 refine ⟨fun g o n k e j v hj hv => ?_, fun g o n k e j v hj hv => ?_⟩
 · injection e with e1 e2 e3
   subst e1 e2 e3
   have h1 : 1 ≤ r.us.length := by rcases Nat.eq_zero_or_pos r.us.length with q | q; · rw [q] at hj; simp at hj
                                   · exact q
   obtain ⟨g', o', e, hi⟩ := hat h1
   injection e with e
   injection e with e4 e5
   subst e4 e5
   have hg : g < W.heap.size := by
    obtain ⟨sn, st, sr, hc, -⟩ := hi 0 (by omega)
    exact World.block_lt_of_cell? W _ (hc 0 _ rfl)
   exact h.u g o _ _ rfl j v hj ((hb.cell (p := ⟨g, o + j, none⟩) hg).symm.trans hv)
 · injection e with e1 e2 e3
   subst e1 e2 e3
   have h1 : 1 ≤ r.ts.length := by rcases Nat.eq_zero_or_pos r.ts.length with q | q; · rw [q] at hj; simp at hj
                                   · exact q
   obtain ⟨g', o', e, hi⟩ := hat2 h1
   injection e with e
   injection e with e4 e5
   subst e4 e5
   have hg : g < W.heap.size := by
    obtain ⟨sn, hc, -⟩ := hi 0 (by omega)
    exact World.block_lt_of_cell? W _ (hc 0 _ rfl)
   exact h.t g o _ _ rfl j v hj ((hb.cell (p := ⟨g, o + j, none⟩) hg).symm.trans hv)
abbrev RParseP : Prop := ∀ (s : ByteArray) (R : R9) (ln er : Int) (W : World), s.size ≤ 40000 → Hid ((R, ln, er) = parsev10 s.toList) → Calls Tryz.prog 23 #[.string s] W fun e w' => ∃ tu tw tt, e = .returned (.tuple #[.agg #[tu, tw, tt], .int .i64 ln, .int .i64 er]) ∧ RAt w' tu tw tt R ∧ Below W.heap.size W w'
end
section
open Go.RowKit Go.Lib
theorem type_hit {k : Int} {f : ByteArray} {i : Nat} (hi : i < (fieldsv k).length) (h : (fieldsv k)[i]'hi = f) : typev k f = sortv f := type_in (h ▸ List.getElem_mem hi)
set_option maxHeartbeats 4000000 in
set_option maxRecDepth 100000 in
theorem r10type_b (k : Int) (f : ByteArray) (n : Int) (W : World) (e : Hid (n = typev k f)) : Calls Tryz.prog 29 #[.int .i64 k, .string f] W fun e w' => e = .returned (.int .i64 n) ∧ Below W.heap.size W w' := by
 go_enter Tryz.func29, Tryz.ntmps29
 go_wp2_with fail
 ((with_reducible refine (r10fields_b k _).mono ?_); rintro e w1 ⟨v, rfl, hv, hL⟩)
 have HY := fun i (hi : i < (fieldsv k).length) (h : (fieldsv k)[i]'hi = f) => e.out.trans (type_hit hi h)
 have HN := fun h => e.out.trans (type_miss (k := k) (f := f) h)
 generalize fieldsv k = l at *
 replace HY := hid HY
 replace HN := hid HN
 clear e
 obtain ⟨p, c, rfl, hm, hat⟩ := hv
 unfold maxLen at hm
 go_wp2_with fail
 go_loop [6] (fun vi => ∃ i : Nat, vi = .int .i64 i ∧ i ≤ l.length ∧ Hid (hasv (l.take i) f = false)) (fun vi => l.length - (RowKit.intOf vi).toNat)
 case atStart => exact ⟨0, rfl, by omega, hid rfl⟩
 case round =>
  obtain ⟨i, rfl, hi, hA⟩ := hrel
  by_cases hlt : i < l.length
  · have d1 : (i : Int) < l.length := by omega
    have d0 : (0 : Int) ≤ i := by omega
    obtain ⟨g, o, rfl, hc⟩ := hat (by omega)
    have k1 := hc i hlt
    have HS := fun q => hid (has_take hlt hA.out q)
    have HT := HY.out i hlt
    obtain ⟨x, hx⟩ : ∃ x, l[i]'hlt = x := ⟨_, rfl⟩
    rw [hx] at k1 HS HT
    replace HT := hid HT
    clear hx hat hA hc HY HN
    by_cases hq : x = f
    · have hn := hid (HT.out hq)
      subst hq
      clear HS HT
      by_cases h_building : x = ⟨#[98, 117, 105, 108, 100, 105, 110, 103]⟩
      · subst h_building
        obtain rfl : n = 2 := hn.out
        clear hn
        go_wp2_with fail
        go_ret
        exact ⟨rfl, hL⟩
      by_cases h_depot : x = ⟨#[100, 101, 112, 111, 116]⟩
      · subst h_depot
        obtain rfl : n = 2 := hn.out
        clear hn
        go_wp2_with fail
        go_ret
        exact ⟨rfl, hL⟩
      by_cases h_weapon : x = ⟨#[119, 101, 97, 112, 111, 110]⟩
      · subst h_weapon
        obtain rfl : n = 3 := hn.out
        clear hn
        go_wp2_with fail
        go_ret
        exact ⟨rfl, hL⟩
      by_cases h_unit : x = ⟨#[117, 110, 105, 116]⟩
      · subst h_unit
        obtain rfl : n = 3 := hn.out
        clear hn
        go_wp2_with fail
        go_ret
        exact ⟨rfl, hL⟩
      by_cases h_needs : x = ⟨#[110, 101, 101, 100, 115]⟩
      · subst h_needs
        obtain rfl : n = 4 := hn.out
        clear hn
        go_wp2_with fail
        go_ret
        exact ⟨rfl, hL⟩
      by_cases h_trains : x = ⟨#[116, 114, 97, 105, 110, 115]⟩
      · subst h_trains
        obtain rfl : n = 4 := hn.out
        clear hn
        go_wp2_with fail
        go_ret
        exact ⟨rfl, hL⟩
      by_cases h_researches : x = ⟨#[114, 101, 115, 101, 97, 114, 99, 104, 101, 115]⟩
      · subst h_researches
        obtain rfl : n = 4 := hn.out
        clear hn
        go_wp2_with fail
        go_ret
        exact ⟨rfl, hL⟩
      obtain rfl : n = 1 := hn.out.trans (by unfold sortv; rw [if_neg (fun q => q.elim h_building h_depot), if_neg (fun q => q.elim h_weapon h_unit), if_neg (fun q => q.elim h_needs fun q => q.elim h_trains h_researches)])
      obtain ⟨a0, b0⟩ := lit_two h_building
      obtain ⟨a1, b1⟩ := lit_two h_depot
      obtain ⟨a2, b2⟩ := lit_two h_weapon
      obtain ⟨a3, b3⟩ := lit_two h_unit
      obtain ⟨a4, b4⟩ := lit_two h_needs
      obtain ⟨a5, b5⟩ := lit_two h_trains
      obtain ⟨a6, b6⟩ := lit_two h_researches
      clear hn
      go_wp2_with fail
      go_ret
      exact ⟨rfl, hL⟩
    · have HQ := HS hq
      obtain ⟨a1, a2⟩ := ne_list hq
      clear HS HT hq
      go_wp2_with fail
      go_round
      case rel => exact ⟨i + 1, by go_num, by omega, HQ⟩
      case measure => simp [RowKit.intOf]; omega
  · obtain rfl : i = l.length := by omega
    have d1 : ¬ (l.length : Int) < l.length := by omega
    have ha := hA.out
    rw [List.take_length] at ha
    obtain rfl : n = 0 := HN.out ha
    clear hat ha hA HY HN
    go_wp2_with fail
    go_ret
    exact ⟨rfl, hL⟩
end
section
open Go.RowKit Go.Lib
def VL (W : World) (vs : List Value) (v : V10) : Prop := ∃ sl, vs = [.int .i64 v.n, .bool v.b, .string v.s, sl] ∧ StrSl W sl v.l
end

end Go.Proofs.YtnjcdmjaecgblaaGreatDoor
