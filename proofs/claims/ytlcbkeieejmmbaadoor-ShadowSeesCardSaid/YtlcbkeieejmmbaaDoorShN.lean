/-
  What the reference of shadow answers: Sees.
-/
import Derived.Test.YtlcbkeieejmmbaaDoorShM
namespace Go.Proofs.YtlcbkeieejmmbaaDoor
open Go.RowKit Go.Lib

set_option maxRecDepth 100000 in
set_option maxHeartbeats 8000000 in
theorem rsees_b (m : M3) (s : Value) (x y u v : Int) (z : Bool) (W : World) (hr : RowAt W s m.cs) (hf : formedv m = true) (ia : inv m.w m.h x y = true) (ib : inv m.w m.h u v = true) (hz : Hid (z = seesv m x y u v)) :
    Calls Tryd.prog 37 #[.agg #[.int .i64 m.w, .int .i64 m.h, s], .agg #[.int .i64 x, .int .i64 y], .agg #[.int .i64 u, .int .i64 v]] W fun e w' => e = .returned (.bool z) ∧ Below W.heap.size W w' := by
  have sa := (inv_sm hf ia).1
  have sb := (inv_sm hf ib).1
  have hin : Hid (∀ p q, min x u ≤ p → p ≤ max x u → min y v ≤ q → q ≤ max y v → inv m.w m.h p q = true) := hid (by
    unfold inv at ia ib ⊢
    rw [decide_eq_true_iff] at ia ib
    intro p q h1 h2 h3 h4
    rw [decide_eq_true_iff]
    omega)
  have cb := fun (p q : Int) (o : Bool) (w : World) (hb : Below W.heap.size W w) (hi : inv m.w m.h p q = true) (ho : Hid (o = blkv m x y u v p q)) => rblk_b m s x y u v p q o w (hr.below hb) hf ia ib hi ho
  clear ia ib hr hf
  have hF := Thr.start W [.int .i64 m.w, .int .i64 m.h, s] [.int .i64 x, .int .i64 y] [.int .i64 u, .int .i64 v]
  obtain ⟨_, _, _, _, _, _⟩ := hF.m.three
  obtain ⟨_, _, _, _⟩ := hF.p.two
  obtain ⟨_, _, _, _⟩ := hF.q.two
  go_enter Tryd.func37, Tryd.ntmps37
  go_upto_region 1 with fail
  generalize ((W.alloc (.cells [Value.int .i64 m.w, .int .i64 m.h, s].toArray 24)).alloc (.cells [Value.int .i64 x, .int .i64 y].toArray 26)).alloc (.cells [Value.int .i64 u, .int .i64 v].toArray 26) = X at *
  go_wp2_with fail
  go_loopw [7] (fun vj wr => ∃ j : Int, vj = .int .i64 j ∧ min y v ≤ j ∧ j ≤ max y v + 1 ∧ Thr W wr [.int .i64 m.w, .int .i64 m.h, s] [.int .i64 x, .int .i64 y] [.int .i64 u, .int .i64 v] W.heap.size ∧ Hid (∀ p q, min x u ≤ p → p ≤ max x u → min y v ≤ q → q < j → blkv m x y u v p q = false)) (fun vj _ => (max y v + 1 - RowKit.intOf vj).toNat)
  case atStart => exact ⟨min y v, rfl, by omega, by omega, hF, hid (fun p q h1 h2 h3 h4 => by omega)⟩
  case round =>
    clear hF
    obtain ⟨j, rfl, j0, j1, hF, hG⟩ := hrel
    obtain ⟨_, _, _, _, _, _⟩ := hF.m.three
    obtain ⟨_, _, _, _⟩ := hF.p.two
    obtain ⟨_, _, _, _⟩ := hF.q.two
    by_cases hlt : j ≤ max y v
    · have z1 : decide (j ≤ max y v) = true := decide_eq_true hlt
      have w1 : IntKind.i64.wrap (j + 1) = j + 1 := IntWalk.i64_in _ (by omega)
      go_wp2_with fail
      go_loopw [8] (fun vi wr => ∃ i : Int, vi = .int .i64 i ∧ min x u ≤ i ∧ i ≤ max x u + 1 ∧ Thr W wr [.int .i64 m.w, .int .i64 m.h, s] [.int .i64 x, .int .i64 y] [.int .i64 u, .int .i64 v] W.heap.size ∧ Hid (∀ p, min x u ≤ p → p < i → blkv m x y u v p j = false)) (fun vi _ => (max x u + 1 - RowKit.intOf vi).toNat)
      case atStart => exact ⟨min x u, rfl, by omega, by omega, hF, hid (fun p h1 h2 => by omega)⟩
      case round =>
        clear hF
        obtain ⟨i, rfl, i0, i1, hF, hC⟩ := hrel
        obtain ⟨_, _, _, _, _, _⟩ := hF.m.three
        obtain ⟨_, _, _, _⟩ := hF.p.two
        obtain ⟨_, _, _, _⟩ := hF.q.two
        by_cases hlt2 : i ≤ max x u
        · have z2 : decide (i ≤ max x u) = true := decide_eq_true hlt2
          have w2 : IntKind.i64.wrap (i + 1) = i + 1 := IntWalk.i64_in _ (by omega)
          obtain ⟨o, ho⟩ : ∃ o, Hid (o = blkv m x y u v i j) := ⟨_, hid rfl⟩
          have c := fun (w : World) (hb : Below W.heap.size W w) => cb i j o w hb (hin.out i j i0 hlt2 j0 hlt) ho
          clear cb
          cases o with
          | true =>
            have hx : z = false := by rw [hz.out]; exact sees_false ho.out.symm
            subst hx
            clear hC hG ho
            go_wp2_with (go_at_call 32; with_reducible refine (c _ hF.old).mono ?_; rintro e w3 ⟨rfl, hb⟩)
            go_ret
            exact ⟨rfl, below_call hF.old hb⟩
          | false =>
            have hN := hid (show ∀ p, min x u ≤ p → p < i + 1 → blkv m x y u v p j = false from fun p h1 h2 => by
              by_cases e : p < i
              · exact hC.out p h1 e
              · obtain rfl : p = i := by omega
                exact ho.out.symm)
            clear hC hG ho
            go_wp2_with (go_at_call 32; with_reducible refine (c _ hF.old).mono ?_; rintro e w3 ⟨rfl, hb⟩)
            go_roundw
            case rel => exact ⟨i + 1, by go_num, by omega, by omega, hF.call hb, hN⟩
            case measure => simp [RowKit.intOf]; omega
        · have z2 : decide (i ≤ max x u) = false := decide_eq_false hlt2
          have hN := hid (show ∀ p q, min x u ≤ p → p ≤ max x u → min y v ≤ q → q < j + 1 → blkv m x y u v p q = false from fun p q h1 h2 h3 h4 => by
            by_cases e : q < j
            · exact hG.out p q h1 h2 h3 e
            · obtain rfl : q = j := by omega
              exact hC.out p h1 (by omega))
          clear hC hG cb
          go_wp2_with fail
          go_roundw
          case rel => exact ⟨j + 1, by go_num, by omega, by omega, hF, hN⟩
          case measure => simp [RowKit.intOf]; omega
    · have z1 : decide (j ≤ max y v) = false := decide_eq_false hlt
      have hx : z = true := by
        rw [hz.out]
        exact sees_box fun p q h1 h2 h3 h4 => hG.out p q h1 h2 h3 (by omega)
      subst hx
      clear hG cb
      go_wp2_with fail
      go_ret
      exact ⟨rfl, hF.old⟩
set_option maxRecDepth 100000 in
set_option maxHeartbeats 8000000 in
theorem rlook_b (m : M3) (s : Value) (x y u v : Int) (z : Bool) (W : World) (hr : RowAt W s m.cs) (hz : Hid (z = lookv m x y u v)) :
    Calls Tryd.prog 14 #[.agg #[.int .i64 m.w, .int .i64 m.h, s], .agg #[.int .i64 x, .int .i64 y], .agg #[.int .i64 u, .int .i64 v]] W fun e w' => e = .returned (.bool z) ∧ Below W.heap.size W w' := by
  obtain ⟨k0, h0⟩ : ∃ k, Hid (k = validm m) := ⟨_, hid rfl⟩
  obtain ⟨k1, h1⟩ : ∃ k, Hid (k = inv m.w m.h x y) := ⟨_, hid rfl⟩
  obtain ⟨k2, h2⟩ : ∃ k, Hid (k = inv m.w m.h u v) := ⟨_, hid rfl⟩
  have hz1 : Hid (z = (k0 && k1 && k2 && seesv m x y u v)) := hid (by rw [hz.out, h0.out, h1.out, h2.out]; rfl)
  have cv := fun (w : World) (hb : Below W.heap.size W w) => rvalidm_c m s k0 w (hr.below hb) h0
  have c1 := fun (w : World) => rinsd_b m.w m.h x y s k1 w h1
  have c2 := fun (w : World) => rinsd_b m.w m.h u v s k2 w h2
  clear hz
  have hF := Thr.start W [.int .i64 m.w, .int .i64 m.h, s] [.int .i64 x, .int .i64 y] [.int .i64 u, .int .i64 v]
  obtain ⟨_, _, _, _, _, _⟩ := hF.m.three
  obtain ⟨_, _, _, _⟩ := hF.p.two
  obtain ⟨_, _, _, _⟩ := hF.q.two
  go_enter Tryd.func14, Tryd.ntmps14
  go_upto_region 1 with fail
  generalize ((W.alloc (.cells [Value.int .i64 m.w, .int .i64 m.h, s].toArray 24)).alloc (.cells [Value.int .i64 x, .int .i64 y].toArray 26)).alloc (.cells [Value.int .i64 u, .int .i64 v].toArray 26) = X at *
  cases k0 with
  | false =>
    have hx : z = false := by rw [hz1.out]; rfl
    subst hx
    go_wp2_with (first | (go_at_call 21; with_reducible refine (cv _ hF.old).mono ?_; rintro e w1 ⟨rfl, hb⟩; replace hF := hF.call hb; clear hb; obtain ⟨_, _, _, _, _, _⟩ := hF.m.three; obtain ⟨_, _, _, _⟩ := hF.p.two; obtain ⟨_, _, _, _⟩ := hF.q.two))
    go_ret
    exact ⟨rfl, hF.old⟩
  | true =>
    cases k1 with
    | false =>
      have hx : z = false := by rw [hz1.out]; rfl
      subst hx
      go_wp2_with (first | (go_at_call 21; with_reducible refine (cv _ hF.old).mono ?_; rintro e w1 ⟨rfl, hb⟩; replace hF := hF.call hb; clear hb; obtain ⟨_, _, _, _, _, _⟩ := hF.m.three; obtain ⟨_, _, _, _⟩ := hF.p.two; obtain ⟨_, _, _, _⟩ := hF.q.two) | (go_at_call 31; with_reducible refine (c1 _).mono ?_; rintro e w2 ⟨rfl, hb⟩; replace hF := hF.call hb; clear hb; obtain ⟨_, _, _, _, _, _⟩ := hF.m.three; obtain ⟨_, _, _, _⟩ := hF.p.two; obtain ⟨_, _, _, _⟩ := hF.q.two))
      go_ret
      exact ⟨rfl, hF.old⟩
    | true =>
      cases k2 with
      | false =>
        have hx : z = false := by rw [hz1.out]; rfl
        subst hx
        go_wp2_with (first | (go_at_call 21; with_reducible refine (cv _ hF.old).mono ?_; rintro e w1 ⟨rfl, hb⟩; replace hF := hF.call hb; clear hb; obtain ⟨_, _, _, _, _, _⟩ := hF.m.three; obtain ⟨_, _, _, _⟩ := hF.p.two; obtain ⟨_, _, _, _⟩ := hF.q.two) | (go_at_call 31; with_reducible refine (c1 _).mono ?_; rintro e w2 ⟨rfl, hb⟩; replace hF := hF.call hb; clear hb; obtain ⟨_, _, _, _, _, _⟩ := hF.m.three; obtain ⟨_, _, _, _⟩ := hF.p.two; obtain ⟨_, _, _, _⟩ := hF.q.two) | (go_at_call 31; with_reducible refine (c2 _).mono ?_; rintro e w2 ⟨rfl, hb⟩; replace hF := hF.call hb; clear hb; obtain ⟨_, _, _, _, _, _⟩ := hF.m.three; obtain ⟨_, _, _, _⟩ := hF.p.two; obtain ⟨_, _, _, _⟩ := hF.q.two))
        go_ret
        exact ⟨rfl, hF.old⟩
      | true =>
        have cb := fun (w : World) (hb : Below W.heap.size W w) => rsees_b m s x y u v z w (hr.below hb) (formed_of h0.out.symm) h1.out.symm h2.out.symm (hid (by rw [hz1.out]; rfl))
        clear h0 h1 h2 hz1
        go_wp2_with (first | (go_at_call 21; with_reducible refine (cv _ hF.old).mono ?_; rintro e w1 ⟨rfl, hb⟩; replace hF := hF.call hb; clear hb; obtain ⟨_, _, _, _, _, _⟩ := hF.m.three; obtain ⟨_, _, _, _⟩ := hF.p.two; obtain ⟨_, _, _, _⟩ := hF.q.two) | (go_at_call 31; with_reducible refine (c1 _).mono ?_; rintro e w2 ⟨rfl, hb⟩; replace hF := hF.call hb; clear hb; obtain ⟨_, _, _, _, _, _⟩ := hF.m.three; obtain ⟨_, _, _, _⟩ := hF.p.two; obtain ⟨_, _, _, _⟩ := hF.q.two) | (go_at_call 31; with_reducible refine (c2 _).mono ?_; rintro e w2 ⟨rfl, hb⟩; replace hF := hF.call hb; clear hb; obtain ⟨_, _, _, _, _, _⟩ := hF.m.three; obtain ⟨_, _, _, _⟩ := hF.p.two; obtain ⟨_, _, _, _⟩ := hF.q.two) | (go_at_call 37; with_reducible refine (cb _ hF.old).mono ?_; rintro e w3 ⟨rfl, hb⟩; replace hF := hF.call hb))
        go_ret
        exact ⟨by simp, hF.old⟩

end Go.Proofs.YtlcbkeieejmmbaaDoor
