/-
  What the reference of shadow answers: Union, Same.
-/
import Derived.Test.YtlcbkeieejmmbaaDoorShO
namespace Go.Proofs.YtlcbkeieejmmbaaDoor
open Go.RowKit Go.Lib

def ubits (a b : List Bool) (i : Nat) : List Value := ((List.range i).map fun n => a.getD n false || b.getD n false).map .bool
theorem ubits_next {a b : List Bool} {c : Bool} {i : Nat} (h : (a.getD i false || b.getD i false) = c) : ubits a b i ++ [.bool c] = ubits a b (i + 1) := by unfold ubits; rw [List.range_succ, List.map_append, List.map_append, ← h]; rfl
theorem getD_in {l : List Bool} {i : Nat} (h : i < l.length) : l.getD i false = l[i]'h := by rw [List.getD_eq_getElem?_getD, List.getElem?_eq_getElem h]; rfl
theorem getD_out {l : List Bool} {i : Nat} (h : ¬ i < l.length) : l.getD i false = false := by rw [List.getD_eq_getElem?_getD, List.getElem?_eq_none (by omega)]; rfl
set_option maxRecDepth 100000 in
set_option maxHeartbeats 8000000 in
theorem runion_b (a b : List Bool) (sa sb : Value) (W : World) (ha : BitsAt W sa a) (hb : BitsAt W sb b) (la : a.length ≤ 20000) (lb : b.length ≤ 20000) :
    Calls Tryd.prog 19 #[sa, sb] W fun e w' => ∃ v, e = .returned v ∧ BitsAt w' v (unionv a b) ∧ Below W.heap.size W w' := by
  obtain ⟨p1, c1, rfl, -, ha'⟩ := ha
  obtain ⟨p2, c2, rfl, -, hb'⟩ := hb
  obtain ⟨i0, hi0, hz0, hz1, hz2⟩ := info_cut infoBoo
  obtain ⟨N, hN⟩ : ∃ N : Nat, Hid (max a.length b.length = N) := ⟨_, hid rfl⟩
  have hmax : max (a.length : Int) (b.length : Int) = (N : Int) := by have := hN.out; omega
  have hN2 : N ≤ 20000 := by have := hN.out; omega
  go_enter Tryd.func19, Tryd.ntmps19
  go_wp2_with fail
  go_loopw [5, 6] (fun vo vi wr => ∃ i : Nat, vi = .int .i64 i ∧ i ≤ N ∧ wr.ownsRow W.heap.size 4 1 vo i (ubits a b i) ∧ Below W.heap.size W wr) (fun _ vi _ => N - (RowKit.intOf vi).toNat)
  case atStart => exact ⟨0, rfl, by omega, World.ownsRow_nil _ _ _ _, Below.refl _ _⟩
  case round =>
    obtain ⟨i, rfl, hi, hown, hL⟩ := hrel
    by_cases hlt : i < N
    · have z1 : decide ((i : Int) < (N : Int)) = true := decide_eq_true (by omega)
      have wi : IntKind.i64.wrap ((i : Int) + 1) = (i : Int) + 1 := IntWalk.i64_in _ (by omega)
      have k0 : (0 : Int) ≤ i := by omega
      have hsz := hL.size
      by_cases ha : i < a.length
      · obtain ⟨ga, oa, rfl, hata⟩ := ha' (by omega)
        have hca := hata i ha
        rw [← hL.cell (p := ⟨ga, oa + i, none⟩) (World.block_lt_of_cell? W _ hca)] at hca
        have ka : (i : Int) < a.length := by omega
        have da : decide ((i : Int) < (a.length : Int)) = true := decide_eq_true ka
        obtain ⟨ua, hua⟩ : ∃ u, Hid (a[i]'ha = u) := ⟨_, hid rfl⟩
        rw [hua.out] at hca
        have hda := hid ((getD_in ha).trans hua.out)
        clear hata hua
        cases ua with
        | true =>
          go_wp2_with (at_builtin; refine wpList_append_own _ rfl _ _ 33 rfl W.heap.size 4 i0 (.bool false) 1 1 Tryd.underlying33 hi0 hz0 hz1 hz2 rfl (by decide) _ _ _ rfl (hown.alloc _) ⟨wr.heap.size, 0, none⟩ 1 1 [.bool true] rfl rfl cells_new (bools_lone [true]) (by unfold maxLen; omega) (by omega) (by simp; omega) ?_)
          intro v' w' hown' hg' _
          have hL2 := (hL.alloc hL.size _).grown hg' (by have := hL.size; simp; omega) (fun j hj => (hown.lt j hj).1)
          have hown2 := own_to hown' (m := i + 1) rfl (ubits_next (c := true) (by rw [hda.out]; rfl))
          clear hg' hown hown' hL hN
          go_wp2_with fail
          go_roundw
          case rel => exact ⟨i + 1, by go_num, by omega, hown2, hL2⟩
          case measure => simp [RowKit.intOf]; omega
        | false =>
          by_cases hb : i < b.length
          · obtain ⟨gb, ob, rfl, hatb⟩ := hb' (by omega)
            have hcb := hatb i hb
            rw [← hL.cell (p := ⟨gb, ob + i, none⟩) (World.block_lt_of_cell? W _ hcb)] at hcb
            have kb : (i : Int) < b.length := by omega
            have db : decide ((i : Int) < (b.length : Int)) = true := decide_eq_true kb
            obtain ⟨ub, hub⟩ : ∃ u, Hid (b[i]'hb = u) := ⟨_, hid rfl⟩
            rw [hub.out] at hcb
            have hdb := hid ((getD_in hb).trans hub.out)
            clear hatb hub
            go_wp2_with (at_builtin; refine wpList_append_own _ rfl _ _ 33 rfl W.heap.size 4 i0 (.bool false) 1 1 Tryd.underlying33 hi0 hz0 hz1 hz2 rfl (by decide) _ _ _ rfl (hown.alloc _) ⟨wr.heap.size, 0, none⟩ 1 1 [.bool ub] rfl rfl cells_new (bools_lone [ub]) (by unfold maxLen; omega) (by omega) (by simp; omega) ?_)
            intro v' w' hown' hg' _
            have hL2 := (hL.alloc hL.size _).grown hg' (by have := hL.size; simp; omega) (fun j hj => (hown.lt j hj).1)
            have hown2 := own_to hown' (m := i + 1) rfl (ubits_next (c := ub) (by rw [hda.out, hdb.out]; rfl))
            clear hg' hown hown' hL hN
            go_wp2_with fail
            go_roundw
            case rel => exact ⟨i + 1, by go_num, by omega, hown2, hL2⟩
            case measure => simp [RowKit.intOf]; omega
          · have db : decide ((i : Int) < (b.length : Int)) = false := decide_eq_false (by omega)
            have hdb := hid (getD_out hb)
            go_wp2_with (at_builtin; refine wpList_append_own _ rfl _ _ 33 rfl W.heap.size 4 i0 (.bool false) 1 1 Tryd.underlying33 hi0 hz0 hz1 hz2 rfl (by decide) _ _ _ rfl (hown.alloc _) ⟨wr.heap.size, 0, none⟩ 1 1 [.bool false] rfl rfl cells_new (bools_lone [false]) (by unfold maxLen; omega) (by omega) (by simp; omega) ?_)
            intro v' w' hown' hg' _
            have hL2 := (hL.alloc hL.size _).grown hg' (by have := hL.size; simp; omega) (fun j hj => (hown.lt j hj).1)
            have hown2 := own_to hown' (m := i + 1) rfl (ubits_next (c := false) (by rw [hda.out, hdb.out]; rfl))
            clear hg' hown hown' hL hN
            go_wp2_with fail
            go_roundw
            case rel => exact ⟨i + 1, by go_num, by omega, hown2, hL2⟩
            case measure => simp [RowKit.intOf]; omega
      · have da : decide ((i : Int) < (a.length : Int)) = false := decide_eq_false (by omega)
        have hda := hid (getD_out ha)
        by_cases hb : i < b.length
        · obtain ⟨gb, ob, rfl, hatb⟩ := hb' (by omega)
          have hcb := hatb i hb
          rw [← hL.cell (p := ⟨gb, ob + i, none⟩) (World.block_lt_of_cell? W _ hcb)] at hcb
          have kb : (i : Int) < b.length := by omega
          have db : decide ((i : Int) < (b.length : Int)) = true := decide_eq_true kb
          obtain ⟨ub, hub⟩ : ∃ u, Hid (b[i]'hb = u) := ⟨_, hid rfl⟩
          rw [hub.out] at hcb
          have hdb := hid ((getD_in hb).trans hub.out)
          clear hatb hub
          go_wp2_with (at_builtin; refine wpList_append_own _ rfl _ _ 33 rfl W.heap.size 4 i0 (.bool false) 1 1 Tryd.underlying33 hi0 hz0 hz1 hz2 rfl (by decide) _ _ _ rfl (hown.alloc _) ⟨wr.heap.size, 0, none⟩ 1 1 [.bool ub] rfl rfl cells_new (bools_lone [ub]) (by unfold maxLen; omega) (by omega) (by simp; omega) ?_)
          intro v' w' hown' hg' _
          have hL2 := (hL.alloc hL.size _).grown hg' (by have := hL.size; simp; omega) (fun j hj => (hown.lt j hj).1)
          have hown2 := own_to hown' (m := i + 1) rfl (ubits_next (c := ub) (by rw [hda.out, hdb.out]; rfl))
          clear hg' hown hown' hL hN
          go_wp2_with fail
          go_roundw
          case rel => exact ⟨i + 1, by go_num, by omega, hown2, hL2⟩
          case measure => simp [RowKit.intOf]; omega
        · exfalso
          have := hN.out
          omega
    · obtain rfl : i = N := by omega
      have z1 : decide ((i : Int) < (i : Int)) = false := decide_eq_false (by omega)
      have hu : (List.range i).map (fun n => a.getD n false || b.getD n false) = unionv a b := by unfold unionv; rw [hN.out]
      unfold ubits at hown
      rw [hu] at hown
      have hBA := BitsAt.any hown (by rw [union_len, hN.out]) (by unfold maxLen; omega)
      clear hN hu hown
      go_wp2_with fail
      go_ret
      exact ⟨_, rfl, hBA, hL⟩
set_option maxRecDepth 100000 in
set_option maxHeartbeats 8000000 in
theorem rsamebits_b (a b : List Bool) (sa sb : Value) (z : Bool) (W : World) (ha : BitsAt W sa a) (hb : BitsAt W sb b) (la : a.length ≤ 20000) (lb : b.length ≤ 20000) (hz : Hid (z = decide (a = b))) :
    Calls Tryd.prog 15 #[sa, sb] W fun e w' => e = .returned (.bool z) ∧ Below W.heap.size W w' := by
  obtain ⟨p1, c1, rfl, -, ha'⟩ := ha
  obtain ⟨p2, c2, rfl, -, hb'⟩ := hb
  by_cases hl : a.length = b.length
  · have e1 : ((a.length : Int) == (b.length : Int)) = true := by rw [hl]; exact beq_self_eq_true _
    obtain ⟨n, hn⟩ : ∃ n, Hid (b.length = n) := ⟨_, hid rfl⟩
    rw [hl, hn.out]
    rw [hl, hn.out] at e1 la
    rw [hn.out] at hl lb
    have hna := hid hl
    clear hl
    go_enter Tryd.func15, Tryd.ntmps15
    go_wp2_with fail
    go_loopw [5] (fun vi wr => ∃ i : Nat, vi = .int .i64 i ∧ i ≤ n ∧ Below W.heap.size W wr ∧ Hid (∀ j, (h : j < a.length) → (h' : j < b.length) → j < i → a[j]'h = b[j]'h')) (fun vi _ => n - (RowKit.intOf vi).toNat)
    case atStart => exact ⟨0, rfl, by omega, Below.refl _ _, hid (fun j _ _ h => by omega)⟩
    case round =>
      obtain ⟨i, rfl, hi, hL, hE⟩ := hrel
      by_cases hlt : i < n
      · have z1 : decide ((i : Int) < (n : Int)) = true := decide_eq_true (by omega)
        have wi : IntKind.i64.wrap ((i : Int) + 1) = (i : Int) + 1 := IntWalk.i64_in _ (by omega)
        have k0 : (0 : Int) ≤ i := by omega
        have k1 : (i : Int) < n := by omega
        have ha : i < a.length := by rw [hna.out]; exact hlt
        have hb : i < b.length := by rw [hn.out]; exact hlt
        obtain ⟨ga, oa, rfl, hata⟩ := ha' (by omega)
        obtain ⟨gb, ob, rfl, hatb⟩ := hb' (by omega)
        have ca := hata i ha
        have cb := hatb i hb
        rw [← hL.cell (p := ⟨ga, oa + i, none⟩) (World.block_lt_of_cell? W _ ca)] at ca
        rw [← hL.cell (p := ⟨gb, ob + i, none⟩) (World.block_lt_of_cell? W _ cb)] at cb
        obtain ⟨u, hu⟩ : ∃ u, Hid (a[i]'ha = u) := ⟨_, hid rfl⟩
        obtain ⟨v, hv⟩ : ∃ u, Hid (b[i]'hb = u) := ⟨_, hid rfl⟩
        rw [hu.out] at ca
        rw [hv.out] at cb
        by_cases he : u = v
        · have hN := hid (show ∀ j, (h : j < a.length) → (h' : j < b.length) → j < i + 1 → a[j]'h = b[j]'h' from fun j h h' hj => by
            by_cases e : j < i
            · exact hE.out j h h' e
            · obtain rfl : j = i := by omega
              rw [hu.out, hv.out, he])
          subst he
          clear hE hu hv hata hatb hz
          go_upto_region 6 with fail
          go_quiet (fail)
          go_wp2_with fail
          go_roundw
          case rel => exact ⟨i + 1, by go_num, by omega, below_many hL _, hN⟩
          case measure => simp [RowKit.intOf]; omega
        · have hx : z = false := by
            rw [hz.out]
            refine decide_eq_false fun e => he ?_
            rw [← hu.out, ← hv.out]
            subst e
            rfl
          subst hx
          have e2 : (u == v) = false := beq_eq_false_iff_ne.2 he
          have e3 : (u != v) = true := by rw [bne, e2]; rfl
          clear hE hu hv hata hatb hz
          go_upto_region 6 with fail
          go_quiet (fail)
          go_wp2_with fail
          go_ret
          exact ⟨rfl, below_many hL _⟩
      · obtain rfl : i = n := by omega
        have z1 : decide ((i : Int) < (i : Int)) = false := decide_eq_false (by omega)
        have hx : z = true := by
          rw [hz.out]
          refine decide_eq_true (List.ext_getElem (by rw [hna.out, hn.out]) fun j h h' => hE.out j h h' ?_)
          rw [hna.out] at h
          exact h
        subst hx
        clear hE hz
        go_wp2_with fail
        go_ret
        exact ⟨rfl, hL⟩
  · have hx : z = false := by rw [hz.out]; exact decide_eq_false fun e => hl (by rw [e])
    subst hx
    have e1 : ((a.length : Int) == (b.length : Int)) = false := beq_eq_false_iff_ne.2 (by omega)
    clear hz
    go_enter Tryd.func15, Tryd.ntmps15
    go_wp2_with fail
    go_ret
    exact ⟨rfl, Below.refl _ _⟩

end Go.Proofs.YtlcbkeieejmmbaaDoor
