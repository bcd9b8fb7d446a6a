/-
  What the reference of astar answers: lists of -1, the nearest cell that is not settled, lists compared.
-/
import Derived.Test.YtmbadkgeoealoaaDoorAsXb
namespace Go.Proofs.YtmbadkgeoealoaaDoor
open Go.RowKit Go.Lib

def lenV : Value → Nat | .slice _ n _ => n | _ => 0
theorem ints_next (n : Nat) : ints (List.replicate n (-1)) ++ [.int .i64 (-1)] = ints (List.replicate (n + 1) (-1)) := by
  unfold ints
  rw [List.replicate_succ', List.map_append]
  rfl
theorem ints_lone1 (x : Int) : ∀ u ∈ [Value.int .i64 x], u.oneCell' = true := by
  intro u h
  rw [List.mem_singleton.1 h]
  rfl
theorem own_slice {w : World} {B n k : Nat} {e : TypeId} {v : Value} {xs : List Value} (h : w.ownsRow B e k v n xs) : ∃ p cap, v = .slice p n cap := by
  rcases h.2 with ⟨rfl, rfl⟩ | ⟨g, cap, cur, rfl, _⟩
  · exact ⟨_, _, rfl⟩
  · exact ⟨_, _, rfl⟩

set_option maxHeartbeats 4000000 in
theorem r14none_b (n : Nat) (W : World) (h1 : 1 ≤ n) (hn : n ≤ 2000) :
    Calls Tryd.prog 59 #[.int .i64 n] W fun e w' => ∃ g cap, e = .returned (.slice (some ⟨g, 0, none⟩) n cap) ∧ w'.ownsRow W.heap.size 3 1 (.slice (some ⟨g, 0, none⟩) n cap) n (ints (List.replicate n (-1))) ∧ Below W.heap.size W w' := by
  obtain ⟨i0, hi0, hz0, hz1, hz2⟩ := info_cut asinfoInt
  go_enter Tryd.func59, Tryd.ntmps59
  go_wp2_with fail
  go_loopw [3] (fun vs wr => ∃ i : Nat, i ≤ n ∧ wr.ownsRow W.heap.size 3 1 vs i (ints (List.replicate i (-1))) ∧ Below W.heap.size W wr) (fun vs _ => n - lenV vs)
  case atStart => exact ⟨0, by omega, World.ownsRow_nil _ _ _ _, Below.refl _ _⟩
  case round =>
    obtain ⟨i, hi, hown, hL⟩ := hrel
    obtain ⟨p, cap, rfl⟩ := own_slice hown
    by_cases hlt : i < n
    · have z1 : decide ((i : Int) < (n : Int)) = true := decide_eq_true (by omega)
      have hzz := hL.size
      go_wp2_with (at_builtin; refine wpList_append_own _ rfl _ _ 41 rfl W.heap.size 3 i0 (.int .i64 0) 1 8 Tryd.underlying41 hi0 hz0 hz1 hz2 rfl (by decide) _ _ _ rfl (hown.alloc _) ⟨wr.heap.size, 0, none⟩ 1 1 [.int .i64 (-1)] rfl rfl cells_new (ints_lone1 (-1)) (by unfold maxLen; omega) (by omega) (by simp; omega) ?_)
      intro v' w9 hown' hg' _
      have hL9 := (hL.alloc hL.size (.cells [Value.int .i64 (-1)].toArray 3)).grown hg' (by simp; omega) (fun j hj => by have := (hown.lt j hj).1; omega)
      have hown9 := own_to hown' (m := i + 1) rfl (ints_next i)
      obtain ⟨p9, c9, rfl⟩ := own_slice hown9
      clear hown' hg' hown hL
      go_wp2_with fail
      go_roundw
      case rel => exact ⟨i + 1, by omega, hown9, hL9⟩
      case measure => simp [lenV]; omega
    · obtain rfl : n = i := by omega
      have z1 : decide ((n : Int) < (n : Int)) = false := decide_eq_false (by omega)
      obtain ⟨g, cap', e⟩ := own_some hown (by omega)
      injection e with e1 e2 e3
      subst e1 e3
      go_wp2_with fail
      go_ret
      exact ⟨g, _, rfl, hown, hL⟩

set_option maxHeartbeats 8000000 in
theorem r14near_b (g b n cap cap2 : Nat) (D : List Int) (s : List Bool) (W : World) (hn : n ≤ 2000) (hc : ∀ i, i < n → W.cell? ⟨g, i, none⟩ = some (.int .i64 (ga D i))) (hs : ∀ i, i < n → W.cell? ⟨b, i, none⟩ = some (.bool (gb s i))) :
    Calls Tryd.prog 99 #[.slice (some ⟨g, 0, none⟩) n cap, .slice (some ⟨b, 0, none⟩) n cap2] W fun e w' => ∃ k : Int, e = .returned (.int .i64 k) ∧ NearU D s n k ∧ Below W.heap.size W w' := by
  go_enter Tryd.func99, Tryd.ntmps99
  go_wp2_with fail
  go_loopw [5, 6] (fun vk vi wr => ∃ (i : Nat) (k : Int), vk = .int .i64 k ∧ vi = .int .i64 i ∧ i ≤ n ∧ Hid (NearU D s i k) ∧ Below W.heap.size W wr) (fun _ vi _ => n - (RowKit.intOf vi).toNat)
  case atStart => exact ⟨0, -1, rfl, rfl, by omega, hid (.inl ⟨rfl, fun q h => by omega⟩), Below.refl _ _⟩
  case round =>
    obtain ⟨i, k, rfl, rfl, hi, hN, hL⟩ := hrel
    by_cases hlt : i < n
    · have z1 : decide ((i : Int) < (n : Int)) = true := decide_eq_true (by omega)
      have hci := hc i hlt
      have hsi := hs i hlt
      have kg := World.block_lt_of_cell? W _ hci
      have kb := World.block_lt_of_cell? W _ hsi
      rw [← hL.cell (p := ⟨g, _, none⟩) kg] at hci
      rw [← hL.cell (p := ⟨b, _, none⟩) kb] at hsi
      have b0 : (0 : Int) ≤ (i : Int) := by omega
      have b1 : (i : Int) < (n : Int) := by omega
      have nadd : IntKind.i64.wrap ((i : Int) + 1) = ((i + 1 : Nat) : Int) := by rw [IntWalk.i64_in _ (by omega)]; simp
      have hst := hN.out.step
      cases hsv : gb s i with
      | true =>
        rw [hsv] at hsi
        rw [if_neg (by rw [hsv]; simp)] at hst
        have hN2 := hid hst
        clear hst hN hci hsv hs hc
        go_wp2_with fail
        go_quiet (fail)
        go_wp2_with fail
        go_roundw
        case rel => exact ⟨i + 1, k, rfl, by go_num, by omega, hN2, below_many hL _⟩
        case measure => simp [RowKit.intOf]; omega
      | false =>
        rw [hsv] at hsi
        obtain ⟨x, hx⟩ : ∃ x, x = ga D i := ⟨_, rfl⟩
        rw [← hx] at hci hst
        by_cases h0 : 0 ≤ x
        · have y1 : decide (0 ≤ x) = true := decide_eq_true h0
          by_cases hk : k < 0
          · have y2 : decide (k < 0) = true := decide_eq_true hk
            rw [if_pos ⟨hsv, h0, .inl hk⟩] at hst
            have hN2 := hid hst
            clear hst hN hsv hs hc hx h0 hk
            go_wp2_with fail
            go_quiet (fail)
            go_wp2_with fail
            go_roundw
            case rel => exact ⟨i + 1, i, rfl, by go_num, by omega, hN2, below_many hL _⟩
            case measure => simp [RowKit.intOf]; omega
          · have y2 : decide (k < 0) = false := decide_eq_false hk
            obtain ⟨j, rfl, hj⟩ : ∃ j : Nat, k = j ∧ j < i := by
              rcases hN.out with ⟨e, _⟩ | ⟨j, e, hj, _⟩
              · omega
              · exact ⟨j, e, hj⟩
            have hcj := hc j (by omega)
            rw [← hL.cell (p := ⟨g, j, none⟩) kg] at hcj
            obtain ⟨y, hy⟩ : ∃ y, y = ga D j := ⟨_, rfl⟩
            rw [Int.toNat_natCast, ← hy] at hst
            rw [← hy] at hcj
            have b2 : (0 : Int) ≤ (j : Int) := by omega
            have b3 : (j : Int) < (n : Int) := by omega
            by_cases hxy : x < y
            · have y3 : decide (x < y) = true := decide_eq_true hxy
              rw [if_pos ⟨hsv, h0, .inr hxy⟩] at hst
              have hN2 := hid hst
              clear hst hN hsv hs hc hx h0 hk hy hxy
              go_wp2_with fail
              go_quiet (fail)
              go_wp2_with fail
              go_roundw
              case rel => exact ⟨i + 1, i, rfl, by go_num, by omega, hN2, below_many hL _⟩
              case measure => simp [RowKit.intOf]; omega
            · have y3 : decide (x < y) = false := decide_eq_false hxy
              rw [if_neg (fun h => by rcases h.2.2 with h | h; exact hk h; exact hxy h)] at hst
              have hN2 := hid hst
              clear hst hN hsv hs hc hx h0 hk hy hxy
              go_wp2_with fail
              go_quiet (fail)
              go_wp2_with fail
              go_roundw
              case rel => exact ⟨i + 1, j, rfl, by go_num, by omega, hN2, below_many hL _⟩
              case measure => simp [RowKit.intOf]; omega
        · have y1 : decide (0 ≤ x) = false := decide_eq_false h0
          rw [if_neg (fun h => h0 h.2.1)] at hst
          have hN2 := hid hst
          clear hst hN hsv hs hc hx h0
          go_wp2_with fail
          go_quiet (fail)
          go_wp2_with fail
          go_roundw
          case rel => exact ⟨i + 1, k, rfl, by go_num, by omega, hN2, below_many hL _⟩
          case measure => simp [RowKit.intOf]; omega
    · obtain rfl : n = i := by omega
      have z1 : decide ((n : Int) < (n : Int)) = false := decide_eq_false (by omega)
      go_wp2_with fail
      go_ret
      exact ⟨k, rfl, hN.out, hL⟩

/-- A slice of numbers that can be read. -/
def IntsAt (W : World) (v : Value) (D : List Int) : Prop :=
  ∃ p c, v = .slice p D.length c ∧ D.length ≤ 2000 ∧ (1 ≤ D.length → ∃ g, p = some ⟨g, 0, none⟩ ∧ g < W.heap.size ∧ ∀ i, i < D.length → W.cell? ⟨g, i, none⟩ = some (.int .i64 (ga D i)))
theorem IntsAt.below {W w' : World} {v : Value} {D : List Int} (h : IntsAt W v D) (hb : Below W.heap.size W w') : IntsAt w' v D := by
  obtain ⟨p, c, rfl, h1, h2⟩ := h
  refine ⟨p, c, rfl, h1, fun h0 => ?_⟩
  obtain ⟨g, rfl, hg, hi⟩ := h2 h0
  exact ⟨g, rfl, Nat.lt_of_lt_of_le hg hb.size, fun i hi' => (hb.cell (p := ⟨g, i, none⟩) hg).trans (hi i hi')⟩
theorem IntsAt.nil (W : World) : IntsAt W (.slice none 0 0) [] := ⟨none, 0, rfl, Nat.zero_le _, fun h => by simp at h⟩
theorem IntsAt.blk {W : World} {b n c : Nat} {t : TypeId} {D : List Int} (h : Blk W b (ints D) t) (hn : D.length = n) (h2 : n ≤ 2000) : IntsAt W (.slice (some ⟨b, 0, none⟩) n c) D := by
  subst hn
  exact ⟨_, _, rfl, h2, fun _ => ⟨b, rfl, h.lt, fun i hi => by rw [h.cell, ints_at hi]⟩⟩
theorem IntsAt.own {W : World} {B n c g : Nat} {t : TypeId} {D : List Int} (h : W.ownsRow B t 1 (.slice (some ⟨g, 0, none⟩) n c) n (ints D)) (hn : D.length = n) (h2 : n ≤ 2000) : IntsAt W (.slice (some ⟨g, 0, none⟩) n c) D := by
  subst hn
  exact ⟨_, _, rfl, h2, fun _ => ⟨g, rfl, (h.lt g rfl).2, fun i hi => by rw [h.cellAt i (by omega), ints_at hi]⟩⟩

set_option maxHeartbeats 4000000 in
theorem r14same_b (u v : Value) (D E : List Int) (W : World) (hu : IntsAt W u D) (hv : IntsAt W v E) (e : D = E) :
    Calls Tryd.prog 20 #[u, v] W fun e w' => e = .returned (.bool true) ∧ Below W.heap.size W w' := by
  subst e
  obtain ⟨p, c, rfl, h2, hp⟩ := hu
  obtain ⟨p', c', rfl, -, hp'⟩ := hv
  obtain ⟨n, hn⟩ : ∃ n, D.length = n := ⟨_, rfl⟩
  rw [hn] at h2 hp hp' ⊢
  go_enter Tryd.func20, Tryd.ntmps20
  go_wp2_with fail
  go_loopw [5] (fun vi wr => ∃ i : Nat, vi = .int .i64 i ∧ i ≤ n ∧ Below W.heap.size W wr) (fun vi _ => n - (RowKit.intOf vi).toNat)
  case atStart => exact ⟨0, rfl, by omega, Below.refl _ _⟩
  case round =>
    obtain ⟨i, rfl, hi, hL⟩ := hrel
    by_cases hlt : i < n
    · have z1 : decide ((i : Int) < (n : Int)) = true := decide_eq_true (by omega)
      obtain ⟨g, rfl, kg, hc⟩ := hp (by omega)
      obtain ⟨g', rfl, kg', hc'⟩ := hp' (by omega)
      have a1 := hc i hlt
      have a2 := hc' i hlt
      rw [← hL.cell (p := ⟨g, _, none⟩) kg] at a1
      rw [← hL.cell (p := ⟨g', _, none⟩) kg'] at a2
      obtain ⟨x, hx⟩ : ∃ x, ga D i = x := ⟨_, rfl⟩
      rw [hx] at a1 a2
      have b0 : (0 : Int) ≤ (i : Int) := by omega
      have b1 : (i : Int) < (n : Int) := by omega
      have nadd : IntKind.i64.wrap ((i : Int) + 1) = ((i + 1 : Nat) : Int) := by rw [IntWalk.i64_in _ (by omega)]; simp
      clear hc hc' hp hp' hx hn
      go_wp2_with fail
      go_quiet (fail)
      go_wp2_with fail
      go_roundw
      case rel => exact ⟨i + 1, by go_num, by omega, below_many hL _⟩
      case measure => simp [RowKit.intOf]; omega
    · obtain rfl : n = i := by omega
      have z1 : decide ((n : Int) < (n : Int)) = false := decide_eq_false (by omega)
      go_wp2_with fail
      go_ret
      exact ⟨rfl, hL⟩

end Go.Proofs.YtmbadkgeoealoaaDoor
