/-
  slices.SortStableFunc at a row of elements of several cells: what each function of its family makes of the row.
-/
import Derived.Test.YtoodnblhjopnlaaDoorOcMath
import Derived.Test.YtoodnblhjopnlaaDoorSymM
import Derived.Test.YtoodnblhjopnlaaDoorChecked
import Derived.Shelf.SlSortCmp.HeapSortK
import Derived.Shelf.SlGeneric
import Derived.Test.YtoodnblhjopnlaaDoorShelf
namespace Go.Proofs.YtoodnblhjopnlaaDoor
open Go.Shelf Go.RowKit Go.Lib Go.Sort

section
variable {α : Type} [Inhabited α]

set_option maxHeartbeats 8000000 in
set_option maxRecDepth 1000000 in
/-- Two blocks of one length exchanged. -/
theorem symP_swap (enc : α → List Value) (k : Nat) (hk2 : k = 2) (cf : α → α → Int) (g : Nat) (cb : Array Value) (blk off cap : Nat) (d0 d : Array α) (w0 W : World)
    (_eg : ∀ args w, (callFunc g args).run Tryd.prog w = .ok (.enter g args) w) (hcmp : CmpLays Tryd.prog g cb enc k cf blk off d0.size w0) (R : RowK enc k w0 blk off d0) (hs : d0.size = d.size) (S : SWK enc k w0 blk off d W) (hsz : d.size < 4294967296) (a b n : Nat) (x A M B y : List α) (h : Is d (x ++ (A ++ (M ++ (B ++ y))))) (hA : A.length = n) (hB : B.length = n) (ha : x.length = a) (hb : a + n + M.length = b) :
    Calls Tryd.prog 83 #[.slice (some ⟨blk, off, none⟩) d.size cap, .int .i64 a, .int .i64 b, .int .i64 n, .func (.func g) #[] cb] W fun e w' =>
      e = .returned (.tuple #[]) ∧ ∃ d' : Array α, d'.size = d.size ∧ Is d' (x ++ (B ++ (M ++ (A ++ y)))) ∧ SWK enc k w0 blk off d' w' := by
  have aE : ∀ w, (isAgg 42).run Tryd.prog w = .ok true w := Tryd.isAgg42
  have zE : ∀ w, (Go.sizeOf 42).run Tryd.prog w = .ok k w := by rw [hk2]; exact Tryd.sizeOf42
  have HK2 : Hid (k = 2) := hk2
  have HC : Aside _ := hcmp
  have S0 : Aside _ := S
  have mixed : Tryd.prog.follows Departure.mixedOrders = true := by kernel_rfl
  clear hk2 hcmp S
  have hlen := h.size
  simp only [List.length_append] at hlen
  have hl2 : b + n ≤ d.size := by omega
  have hl1 : a + n ≤ b := by omega
  clear hlen
  have I0 : Hid (Is d (swR x A M B y 0)) := hid (by rw [swR_zero]; exact h)
  clear h
  go_enter Tryd.func83, Tryd.ntmps83
  go_wp2
  go_loopg [10] n (fun g1 vi wr => ∃ (i : Nat) (dk : Array α), vi = .int .i64 i ∧ i ≤ n ∧ n ≤ g1 + i ∧ dk.size = d.size ∧ Aside (SWK enc k w0 blk off dk wr) ∧ Hid (Is dk (swR x A M B y i)))
  case atStart => exact ⟨0, d, by go_num, by omega, by omega, rfl, S0, I0⟩
  case round =>
    clear S0 I0
    obtain ⟨i, dk, rfl, hin, hg1, hsk, S1, I1⟩ := hrel
    by_cases hlt : i < n
    · have hltz : (i : Int) < (n : Int) := by omega
      have I2 := hid (swR_step I1.out hA hB hlt (a := a + i) (b := b + i) (by omega) (by omega))
      have ea : (((a : Int) + (i : Int) : Int)).toNat = a + i := by omega
      have pa : (0 : Int) ≤ (a : Int) + (i : Int) := by omega
      have ba : ((a : Int) + (i : Int) : Int) < (d.size : Int) := by omega
      have ra : IntKind.i64.wrap ((a : Int) + (i : Int) : Int) = (a : Int) + (i : Int) := by rw [IntKind.wrap_i64]; omega

      have ec : (((b : Int) + (i : Int) : Int)).toNat = b + i := by omega
      have pc : (0 : Int) ≤ (b : Int) + (i : Int) := by omega
      have bc : ((b : Int) + (i : Int) : Int) < (d.size : Int) := by omega
      have rc : IntKind.i64.wrap ((b : Int) + (i : Int) : Int) = (b : Int) + (i : Int) := by rw [IntKind.wrap_i64]; omega

      have S2 : Aside (SWK enc k w0 blk off (swp dk (a + i) (b + i)) ((wr.drew.setCells blk (off + (a + i) * k) (enc dk[b + i]!)).setCells blk (off + (b + i) * k) (enc dk[a + i]!))) := S1.out.swapped R (a + i) (b + i) (by omega) (by omega)
      have la := S1.out.ld1 R (by omega) Tryd.prog (a + i) (by omega)
      have lb := S1.out.ld1 R (by omega) Tryd.prog (b + i) (by omega)
      have sa := S1.out.st1 R (by omega) Tryd.prog (a + i) (by omega) dk[b + i]!
      have sb := S1.out.st2 R (by omega) Tryd.prog (a + i) (b + i) (by omega) (by omega) dk[b + i]! dk[a + i]!
      have na : (enc dk[a + i]!).length = k := R.hk _
      have nb : (enc dk[b + i]!).length = k := R.hk _
      generalize enc dk[a + i]! = cI at S2 la sb na
      generalize enc dk[b + i]! = cJ at S2 lb sa sb nb
      clear S1
      go_wp2_with fail
      go_big_region_o
      clear la lb sa sb
      generalize (wr.drew.setCells blk (off + (a + i) * k) cJ).setCells blk (off + (b + i) * k) cI = w2 at S2 ⊢
      go_wp2
      go_roundg (n - (i + 1))
      case measure => omega
      case rel => exact ⟨i + 1, swp dk (a + i) (b + i), by go_num, by omega, by omega, by rw [size_swp]; exact hsk, S2, I2⟩
    · obtain rfl : i = n := by omega
      have hltz : ¬ (i : Int) < (i : Int) := by omega
      go_wp2
      go_end0
      exact ⟨rfl, dk, hsk, by have := I1.out; rwa [swR_end hA hB] at this, S1.out⟩

set_option maxHeartbeats 8000000 in
set_option maxRecDepth 1000000 in
/-- Two neighboring blocks turned. -/
theorem symP_rot (enc : α → List Value) (k : Nat) (hk2 : k = 2) (cf : α → α → Int) (g : Nat) (cb : Array Value) (blk off cap : Nat) (d0 d : Array α) (w0 W : World)
    (eg : ∀ args w, (callFunc g args).run Tryd.prog w = .ok (.enter g args) w) (hcmp : CmpLays Tryd.prog g cb enc k cf blk off d0.size w0) (R : RowK enc k w0 blk off d0) (hs : d0.size = d.size) (S : SWK enc k w0 blk off d W) (hsz : d.size < 4294967296) (a m b : Nat) (x u v y : List α) (h : Is d (x ++ (u ++ (v ++ y)))) (ha : x.length = a) (hm : a + u.length = m) (hb : m + v.length = b) (hu : 0 < u.length) (hv : 0 < v.length) :
    Calls Tryd.prog 82 #[.slice (some ⟨blk, off, none⟩) d.size cap, .int .i64 a, .int .i64 m, .int .i64 b, .func (.func g) #[] cb] W fun e w' => e = .returned (.tuple #[]) ∧ ∃ d' : Array α, d'.size = d.size ∧ Is d' (x ++ (v ++ (u ++ y))) ∧ SWK enc k w0 blk off d' w' := by
  have aE : ∀ w, (isAgg 42).run Tryd.prog w = .ok true w := Tryd.isAgg42
  have zE : ∀ w, (Go.sizeOf 42).run Tryd.prog w = .ok k w := by rw [hk2]; exact Tryd.sizeOf42
  have HK2 : Hid (k = 2) := hk2
  have HC : Aside _ := hcmp
  have S0 : Aside _ := S
  have mixed : Tryd.prog.follows Departure.mixedOrders = true := by kernel_rfl
  clear hk2 hcmp S
  have hlen := h.size
  simp only [List.length_append] at hlen
  have hl2 : b ≤ d.size := by omega
  clear hlen
  obtain ⟨goal, hgo⟩ : ∃ goal, goal = x ++ (v ++ (u ++ y)) := ⟨_, rfl⟩
  rw [← hgo]
  have I0 : Hid (RotG d goal m (m - a) (b - m) x u v y) := hid ⟨h, hgo, by omega, by omega, by omega, by omega, by omega⟩
  have r1 : IntKind.i64.wrap ((m : Int) - (a : Int)) = ((m - a : Nat) : Int) := by rw [IntKind.wrap_i64]; omega
  have r2 : IntKind.i64.wrap ((b : Int) - (m : Int)) = ((b - m : Nat) : Int) := by rw [IntKind.wrap_i64]; omega
  have k1 : 0 < m - a := by omega
  have k2 : 0 < b - m := by omega
  have k3 : m - a ≤ m := by omega
  have k4 : m + (b - m) ≤ d.size := by omega
  clear h hgo ha hm hb hu hv
  go_enter Tryd.func82, Tryd.ntmps82
  go_wp2
  go_loopg [10, 11] (m - a + (b - m)) (fun g1 vi vj wr => ∃ (i j : Nat) (P U V Q : List α) (dk : Array α), vi = .int .i64 i ∧ vj = .int .i64 j ∧ i + j ≤ g1 ∧ 0 < i ∧ 0 < j ∧ i ≤ m ∧ m + j ≤ d.size ∧ dk.size = d.size ∧ Aside (SWK enc k w0 blk off dk wr) ∧ Hid (RotG dk goal m i j P U V Q))
  case atStart => exact ⟨m - a, b - m, x, u, v, y, d, rfl, rfl, by omega, by omega, by omega, by omega, by omega, rfl, S0, I0⟩
  case round =>
    clear S0 I0 r1 r2 k1 k2 k3 k4
    obtain ⟨i, j, P, U, V, Q, dk, rfl, rfl, hg1, i0, j0, him, hjd, hsk, S1, I1⟩ := hrel
    have q1 : IntKind.i64.wrap ((m : Int) - (i : Int)) = (m : Int) - (i : Int) := by rw [IntKind.wrap_i64]; omega
    have q2 : IntKind.i64.wrap ((m : Int) + (j : Int)) = (m : Int) + (j : Int) := by rw [IntKind.wrap_i64]; omega
    have q3 : IntKind.i64.wrap ((m : Int) + (j : Int) - (i : Int)) = (m : Int) + (j : Int) - (i : Int) := by rw [IntKind.wrap_i64]; omega
    have hp := I1.out.p
    by_cases heq : i = j
    · subst heq
      have h1 : Is dk (P ++ (U ++ ([] ++ (V ++ Q)))) := I1.out.is
      have hcall := symP_swap enc k HK2.out cf g cb blk off cap d0 dk w0 wr eg HC.out R (by omega) S1.out (by omega) P.length m i P U [] V Q h1 I1.out.u I1.out.v rfl (by simp; omega)
      rw [hsk, show ((P.length : Nat) : Int) = (m : Int) - (i : Int) by omega] at hcall
      clear h1 hp S1
      have n1 : ((i : Int) == (i : Int)) = true := by simp
      go_wp2_with (go_at_call 83; refine hcall.mono ?_; rintro e w1 ⟨rfl, d1, hs1, I2, S2⟩)
      go_end0
      exact ⟨rfl, d1, hs1, I1.out.end I2, S2⟩
    · have n1 : ((i : Int) == (j : Int)) = false := beq_eq_false_iff_ne.2 (by omega)
      have n2 : ¬ (i : Int) = (j : Int) := by omega
      by_cases hgt : j < i
      · have n3 : (j : Int) < (i : Int) := by omega
        obtain ⟨U1, U2, hU, hl1, h1, hnext⟩ := I1.out.more hgt
        have hl2 : U2.length = i - j := by have := I1.out.u; rw [hU, List.length_append] at this; omega
        have hcall := symP_swap enc k HK2.out cf g cb blk off cap d0 dk w0 wr eg HC.out R (by omega) S1.out (by omega) P.length m j P U1 U2 V Q h1 hl1 I1.out.v rfl (by omega)
        rw [hsk, show ((P.length : Nat) : Int) = (m : Int) - (i : Int) by omega] at hcall
        have HN := hid hnext
        have q4 : IntKind.i64.wrap ((i : Int) - (j : Int)) = (i : Int) - (j : Int) := by rw [IntKind.wrap_i64]; omega
        clear h1 hp S1 hnext hU hl1 hl2
        go_wp2_with (go_at_call 83; refine hcall.mono ?_; rintro e w1 ⟨rfl, d1, hs1, I2, S2⟩)
        go_roundg (i - j + j)
        case measure => omega
        case rel => exact ⟨i - j, j, _, _, _, _, d1, by congr 1; omega, rfl, Nat.le_refl _, by omega, by omega, by omega, by omega, by omega, S2, hid (HN.out d1 I2)⟩
      · have n3 : ¬ (j : Int) < (i : Int) := by omega
        obtain ⟨V1, V2, hV, hl1, hl2, h1, hnext⟩ := I1.out.less (by omega)
        have hcall := symP_swap enc k HK2.out cf g cb blk off cap d0 dk w0 wr eg HC.out R (by omega) S1.out (by omega) P.length (m + j - i) i P U V1 V2 Q h1 I1.out.u hl2 rfl (by omega)
        rw [hsk, show ((P.length : Nat) : Int) = (m : Int) - (i : Int) by omega, show ((m + j - i : Nat) : Int) = (m : Int) + (j : Int) - (i : Int) by omega] at hcall
        have HN := hid hnext
        have q4 : IntKind.i64.wrap ((j : Int) - (i : Int)) = (j : Int) - (i : Int) := by rw [IntKind.wrap_i64]; omega
        clear h1 hp S1 hnext hV hl1 hl2
        go_wp2_with (go_at_call 83; refine hcall.mono ?_; rintro e w1 ⟨rfl, d1, hs1, I2, S2⟩)
        go_roundg (i + (j - i))
        case measure => omega
        case rel => exact ⟨i, j - i, _, _, _, _, d1, rfl, by congr 1; omega, Nat.le_refl _, by omega, by omega, by omega, by omega, by omega, S2, hid (HN.out d1 I2)⟩

set_option maxHeartbeats 8000000 in
set_option maxRecDepth 1000000 in
theorem symP_mergeA (enc : α → List Value) (k : Nat) (hk2 : k = 2) (cf : α → α → Int) (g : Nat) (cb : Array Value) (blk off cap : Nat) (d0 d : Array α) (w0 W : World)
    (eg : ∀ args w, (callFunc g args).run Tryd.prog w = .ok (.enter g args) w) (hcmp : CmpLays Tryd.prog g cb enc k cf blk off d0.size w0) (R : RowK enc k w0 blk off d0) (hs : d0.size = d.size) (S : SWK enc k w0 blk off d W) (hsz : d.size < 4294967296) (irr : ∀ p q r : α, ltOf cf p q = false → ltOf cf q r = false → ltOf cf p r = false) (a m b : Nat) (x v y : List α) (z : α) (h : Is d (x ++ ([z] ++ (v ++ y)))) (ha : x.length = a) (hm : a + 1 = m) (hb : m + v.length = b) (hv : AscS (ltOf cf) v) :
    Calls Tryd.prog 81 #[.slice (some ⟨blk, off, none⟩) d.size cap, .int .i64 a, .int .i64 m, .int .i64 b, .func (.func g) #[] cb] W fun e w' => e = .returned (.tuple #[]) ∧ ∃ d' : Array α, d'.size = d.size ∧ Is d' (x ++ (mergS (ltOf cf) [z] v ++ y)) ∧ SWK enc k w0 blk off d' w' := by
  have aE : ∀ w, (isAgg 42).run Tryd.prog w = .ok true w := Tryd.isAgg42
  have zE : ∀ w, (Go.sizeOf 42).run Tryd.prog w = .ok k w := by rw [hk2]; exact Tryd.sizeOf42
  have HK2 : Hid (k = 2) := hk2
  have HC : Aside _ := hcmp
  have S0 : Aside _ := S
  have mixed : Tryd.prog.follows Departure.mixedOrders = true := by kernel_rfl
  clear hk2 hcmp S
  have hlen := h.size
  simp only [List.length_append, List.length_cons, List.length_nil] at hlen
  have hl2 : b ≤ d.size := by omega
  have hmb : m ≤ b := by omega
  have ham : a < m := by omega
  have IN := hid (fun i c1 c2 c3 c4 => one_left (ltOf cf) irr (i := i) h ha hm hb hv c1 c2 c3 c4)
  have HX := hid (And.intro ha hm)
  have t1 : IntKind.i64.wrap ((m : Int) - (a : Int)) = (m : Int) - (a : Int) := by rw [IntKind.wrap_i64]; omega
  have t2 : ((m : Int) - (a : Int) == 1) = true := by rw [beq_iff_eq]; omega
  clear h hlen ha hm hb hv
  go_enter Tryd.func81, Tryd.ntmps81
  go_wp2
  clear t1 t2
  go_loopg [10, 11] (b - m) (fun g1 vi vj wr => ∃ (i j : Nat), vi = .int .i64 i ∧ vj = .int .i64 j ∧ m ≤ i ∧ i ≤ j ∧ j ≤ b ∧ j ≤ g1 + i ∧ Aside (SWK enc k w0 blk off d wr) ∧ Hid ((i = m ∨ ltOf cf d[i - 1]! d[a]! = true) ∧ (j = b ∨ ltOf cf d[j]! d[a]! = false)))
  case atStart => exact ⟨m, b, rfl, rfl, by omega, by omega, by omega, by omega, S0, hid ⟨.inl rfl, .inl rfl⟩⟩
  case round =>
    clear S0
    obtain ⟨i, j, rfl, rfl, hmi, hij, hjb, hg1, S1, I1⟩ := hrel
    by_cases hlt : i < j
    · have hltz : (i : Int) < (j : Int) := by omega
      obtain ⟨h, hh⟩ : ∃ h, h = (i + j) / 2 := ⟨_, rfl⟩
      have w1 : IntKind.i64.wrap ((i : Int) + (j : Int)) = (i : Int) + (j : Int) := by rw [IntKind.wrap_i64]; omega
      have w2 : IntKind.u64.wrap ((i : Int) + (j : Int)) = (i : Int) + (j : Int) := by rw [IntKind.wrap_u64]; omega
      have e2 : ((i : Int) + (j : Int)) / 2 = ((h : Nat) : Int) := by omega
      have hb1 : i ≤ h := by omega
      have hb2 : h < j := by omega
      have w3 : IntKind.i64.wrap ((h : Int) + 1) = (h : Int) + 1 := by rw [IntKind.wrap_i64]; omega
      clear hh
      cases hlv : ltOf cf d[h]! d[a]! with
      | true =>
        have ea : (((h : Int) : Int)).toNat = h := by omega
        have pa : (0 : Int) ≤ (h : Int) := by omega
        have ba : ((h : Int) : Int) < (d.size : Int) := by omega
        have ra : IntKind.i64.wrap ((h : Int) : Int) = (h : Int) := by rw [IntKind.wrap_i64]; omega

        have ec : (((a : Int) : Int)).toNat = a := by omega
        have pc : (0 : Int) ≤ (a : Int) := by omega
        have bc : ((a : Int) : Int) < (d.size : Int) := by omega
        have rc : IntKind.i64.wrap ((a : Int) : Int) = (a : Int) := by rw [IntKind.wrap_i64]; omega

        obtain ⟨x9, hx9⟩ : ∃ x, x = d[h]! := ⟨_, rfl⟩
        obtain ⟨y9, hy9⟩ : ∃ x, x = d[a]! := ⟨_, rfl⟩
        have la := S1.out.ld R (by omega) Tryd.prog (h) (by omega)
        have lb := S1.out.ld R (by omega) Tryd.prog (a) (by omega)
        rw [← hx9] at la
        rw [← hy9] at lb
        have hc9 := S1.out.cmp HC.out (by omega) x9 y9

        have hv9 : cf x9 y9 < 0 := by rw [hx9, hy9]; exact of_decide_eq_true hlv
        have hd9 : decide (cf x9 y9 < 0) = true := decide_eq_true hv9

        have HV : Hid (ltOf cf d[h]! d[a]! = true) := hid hlv
        clear hx9 hy9 hlv
        go_wp2_with fail
        go_quiet_grown (first | (go_at_fn g; refine Calls.grown_of (hc9 _ _)))
        have S2 : Aside (SWK enc k w0 blk off d (grow (wr.drewN nq) osq)) := S1.out.grown nq osq
        clear la lb hc9 S1
        generalize grow (wr.drewN nq) osq = w2 at S2 ⊢
        clear nq osq
        go_wp2
        go_roundg (j - (h + 1))
        case measure => omega
        case rel => exact ⟨h + 1, j, by go_num, rfl, by omega, by omega, by omega, by omega, S2, hid ⟨.inr (by rw [Nat.add_sub_cancel]; exact HV.out), I1.out.2⟩⟩
      | false =>
        have ea : (((h : Int) : Int)).toNat = h := by omega
        have pa : (0 : Int) ≤ (h : Int) := by omega
        have ba : ((h : Int) : Int) < (d.size : Int) := by omega
        have ra : IntKind.i64.wrap ((h : Int) : Int) = (h : Int) := by rw [IntKind.wrap_i64]; omega

        have ec : (((a : Int) : Int)).toNat = a := by omega
        have pc : (0 : Int) ≤ (a : Int) := by omega
        have bc : ((a : Int) : Int) < (d.size : Int) := by omega
        have rc : IntKind.i64.wrap ((a : Int) : Int) = (a : Int) := by rw [IntKind.wrap_i64]; omega

        obtain ⟨x9, hx9⟩ : ∃ x, x = d[h]! := ⟨_, rfl⟩
        obtain ⟨y9, hy9⟩ : ∃ x, x = d[a]! := ⟨_, rfl⟩
        have la := S1.out.ld R (by omega) Tryd.prog (h) (by omega)
        have lb := S1.out.ld R (by omega) Tryd.prog (a) (by omega)
        rw [← hx9] at la
        rw [← hy9] at lb
        have hc9 := S1.out.cmp HC.out (by omega) x9 y9

        have hv9 : ¬ cf x9 y9 < 0 := by rw [hx9, hy9]; exact of_decide_eq_false hlv
        have hd9 : decide (cf x9 y9 < 0) = false := decide_eq_false hv9

        have HV : Hid (ltOf cf d[h]! d[a]! = false) := hid hlv
        clear hx9 hy9 hlv
        go_wp2_with fail
        go_quiet_grown (first | (go_at_fn g; refine Calls.grown_of (hc9 _ _)))
        have S2 : Aside (SWK enc k w0 blk off d (grow (wr.drewN nq) osq)) := S1.out.grown nq osq
        clear la lb hc9 S1
        generalize grow (wr.drewN nq) osq = w2 at S2 ⊢
        clear nq osq
        go_wp2
        go_roundg (h - i)
        case measure => omega
        case rel => exact ⟨i, h, rfl, by go_num, by omega, by omega, by omega, by omega, S2, hid ⟨I1.out.1, .inr HV.out⟩⟩
    · obtain rfl : i = j := by omega
      have hltz : ¬ (i : Int) < (i : Int) := by omega
      obtain ⟨v1, v2, hv, hi, hmg, h0⟩ := IN.out i hmi hjb I1.out.1 I1.out.2
      have r1 : IntKind.i64.wrap ((i : Int) - 1) = (i : Int) - 1 := by rw [IntKind.wrap_i64]; omega
      have I2 : Hid (Is d (x ++ ([] ++ z :: (v1 ++ (v2 ++ y))))) := hid h0
      have HM := hid hmg
      have HI := hid hi
      have HV : Hid (x.length = a ∧ a + 1 = m) := HX
      have hi2 : i ≤ d.size := by omega
      have hi3 : m ≤ i := hmi
      clear I1 IN h0 hmg hv hi hjb hij hmi HX hg1
      go_wp2
      go_loopg [13] v1.length (fun g1 vk wr => ∃ (kk : Nat) (p q : List α) (dk : Array α), vk = .int .i64 kk ∧ q.length ≤ g1 ∧ dk.size = d.size ∧ Aside (SWK enc k w0 blk off dk wr) ∧ Hid (p ++ q = v1 ∧ a + p.length = kk ∧ Is dk (x ++ (p ++ z :: (q ++ (v2 ++ y))))))
      case atStart => exact ⟨a, [], v1, d, rfl, Nat.le_refl _, rfl, S1, hid ⟨rfl, rfl, I2.out⟩⟩
      case round =>
        clear S1 I2
        obtain ⟨kk, p, q, dk, rfl, hgq, hsk, S1, I1⟩ := hrel
        have hnum : kk + 1 + q.length = i := by
          have e := I1.out.1
          have e2 := HI.out
          rw [← e, List.length_append] at e2
          have := I1.out.2.1
          have := HV.out
          omega
        cases q with
        | nil =>
          have hltz : ¬ (kk : Int) < (i : Int) - 1 := by simp at hnum; omega
          clear hnum
          go_wp2
          ((try simp only [Exit.inBlock, Exit.then]); refine bodyPost_ret (results_none rfl _ _ _) rfl ?_)
          refine ⟨rfl, dk, hsk, ?_, S1.out⟩
          have e := I1.out.1
          rw [List.append_nil] at e
          rw [HM.out, ← e, List.append_assoc]
          exact I1.out.2.2
        | cons c q =>
          have hltz : (kk : Int) < (i : Int) - 1 := by simp at hnum; omega
          have hk1 : kk + 1 < i := by simp at hnum; omega
          have I3 : Hid (Is (swp dk kk (kk + 1)) ((x ++ p) ++ c :: ([] ++ z :: (q ++ (v2 ++ y))))) := hid (swp_list (x := x ++ p) (m := []) (by have := I1.out.2.2; rw [List.append_assoc]; exact this) (by have := I1.out.2.1; have := HV.out.1; rw [List.length_append]; omega) rfl)
          clear hnum
          have ea : (((kk : Int) : Int)).toNat = kk := by omega
          have pa : (0 : Int) ≤ (kk : Int) := by omega
          have ba : ((kk : Int) : Int) < (d.size : Int) := by omega
          have ra : IntKind.i64.wrap ((kk : Int) : Int) = (kk : Int) := by rw [IntKind.wrap_i64]; omega

          have ec : (((kk : Int) + 1 : Int)).toNat = kk + 1 := by omega
          have pc : (0 : Int) ≤ (kk : Int) + 1 := by omega
          have bc : ((kk : Int) + 1 : Int) < (d.size : Int) := by omega
          have rc : IntKind.i64.wrap ((kk : Int) + 1 : Int) = (kk : Int) + 1 := by rw [IntKind.wrap_i64]; omega

          have S2 : Aside (SWK enc k w0 blk off (swp dk (kk) (kk + 1)) ((wr.drew.setCells blk (off + (kk) * k) (enc dk[kk + 1]!)).setCells blk (off + (kk + 1) * k) (enc dk[kk]!))) := S1.out.swapped R (kk) (kk + 1) (by omega) (by omega)
          have la := S1.out.ld1 R (by omega) Tryd.prog (kk) (by omega)
          have lb := S1.out.ld1 R (by omega) Tryd.prog (kk + 1) (by omega)
          have sa := S1.out.st1 R (by omega) Tryd.prog (kk) (by omega) dk[kk + 1]!
          have sb := S1.out.st2 R (by omega) Tryd.prog (kk) (kk + 1) (by omega) (by omega) dk[kk + 1]! dk[kk]!
          have na : (enc dk[kk]!).length = k := R.hk _
          have nb : (enc dk[kk + 1]!).length = k := R.hk _
          generalize enc dk[kk]! = cI at S2 la sb na
          generalize enc dk[kk + 1]! = cJ at S2 lb sa sb nb
          clear S1
          go_wp2_with fail
          go_big_region_o
          clear la lb sa sb
          generalize (wr.drew.setCells blk (off + (kk) * k) cJ).setCells blk (off + (kk + 1) * k) cI = w2 at S2 ⊢
          go_wp2
          go_roundg (q.length)
          case measure => simp at hgq; omega
          case rel => exact ⟨kk + 1, p ++ [c], q, swp dk kk (kk + 1), by go_num, Nat.le_refl _, by rw [size_swp]; exact hsk, S2, hid ⟨by rw [← I1.out.1]; simp, by have := I1.out.2.1; simp; omega, by have := I3.out; simpa using this⟩⟩

set_option maxHeartbeats 8000000 in
set_option maxRecDepth 1000000 in
theorem symP_mergeB (enc : α → List Value) (k : Nat) (hk2 : k = 2) (cf : α → α → Int) (g : Nat) (cb : Array Value) (blk off cap : Nat) (d0 d : Array α) (w0 W : World)
    (eg : ∀ args w, (callFunc g args).run Tryd.prog w = .ok (.enter g args) w) (hcmp : CmpLays Tryd.prog g cb enc k cf blk off d0.size w0) (R : RowK enc k w0 blk off d0) (hs : d0.size = d.size) (S : SWK enc k w0 blk off d W) (hsz : d.size < 4294967296) (irr : ∀ p q r : α, ltOf cf p q = false → ltOf cf q r = false → ltOf cf p r = false) (a m b : Nat) (x u y : List α) (z : α) (h : Is d (x ++ (u ++ ([z] ++ y)))) (ha : x.length = a) (hm : a + u.length = m) (hb : m + 1 = b) (hu : AscS (ltOf cf) u) (hne : u.length ≠ 1) :
    Calls Tryd.prog 81 #[.slice (some ⟨blk, off, none⟩) d.size cap, .int .i64 a, .int .i64 m, .int .i64 b, .func (.func g) #[] cb] W fun e w' => e = .returned (.tuple #[]) ∧ ∃ d' : Array α, d'.size = d.size ∧ Is d' (x ++ (mergS (ltOf cf) u [z] ++ y)) ∧ SWK enc k w0 blk off d' w' := by
  have aE : ∀ w, (isAgg 42).run Tryd.prog w = .ok true w := Tryd.isAgg42
  have zE : ∀ w, (Go.sizeOf 42).run Tryd.prog w = .ok k w := by rw [hk2]; exact Tryd.sizeOf42
  have HK2 : Hid (k = 2) := hk2
  have HC : Aside _ := hcmp
  have S0 : Aside _ := S
  have mixed : Tryd.prog.follows Departure.mixedOrders = true := by kernel_rfl
  clear hk2 hcmp S
  have hlen := h.size
  simp only [List.length_append, List.length_cons, List.length_nil] at hlen
  have hl2 : b ≤ d.size := by omega
  have hmb : m < b := by omega
  have ham : a ≤ m := by omega
  have IN := hid (fun i c1 c2 c3 c4 => one_right (ltOf cf) irr (i := i) h ha hm hu c1 c2 c3 c4)
  have HX := hid (And.intro ha hm)
  have t1 : IntKind.i64.wrap ((m : Int) - (a : Int)) = (m : Int) - (a : Int) := by rw [IntKind.wrap_i64]; omega
  have t2 : ((m : Int) - (a : Int) == 1) = false := beq_eq_false_iff_ne.2 (by omega)
  have t3 : IntKind.i64.wrap ((b : Int) - (m : Int)) = (b : Int) - (m : Int) := by rw [IntKind.wrap_i64]; omega
  have t4 : ((b : Int) - (m : Int) == 1) = true := by rw [beq_iff_eq]; omega
  have t5 : ¬ (m : Int) - (a : Int) = 1 := by omega
  clear h hlen ha hm hb hu hne
  go_enter Tryd.func81, Tryd.ntmps81
  go_wp2
  clear t1 t2 t3 t4 t5
  go_loopg [14, 15] (m - a) (fun g1 vi vj wr => ∃ (i j : Nat), vi = .int .i64 i ∧ vj = .int .i64 j ∧ a ≤ i ∧ i ≤ j ∧ j ≤ m ∧ j ≤ g1 + i ∧ Aside (SWK enc k w0 blk off d wr) ∧ Hid ((i = a ∨ ltOf cf d[m]! d[i - 1]! = false) ∧ (j = m ∨ ltOf cf d[m]! d[j]! = true)))
  case atStart => exact ⟨a, m, rfl, rfl, by omega, by omega, by omega, by omega, S0, hid ⟨.inl rfl, .inl rfl⟩⟩
  case round =>
    clear S0
    obtain ⟨i, j, rfl, rfl, hmi, hij, hjb, hg1, S1, I1⟩ := hrel
    by_cases hlt : i < j
    · have hltz : (i : Int) < (j : Int) := by omega
      obtain ⟨h, hh⟩ : ∃ h, h = (i + j) / 2 := ⟨_, rfl⟩
      have w1 : IntKind.i64.wrap ((i : Int) + (j : Int)) = (i : Int) + (j : Int) := by rw [IntKind.wrap_i64]; omega
      have w2 : IntKind.u64.wrap ((i : Int) + (j : Int)) = (i : Int) + (j : Int) := by rw [IntKind.wrap_u64]; omega
      have e2 : ((i : Int) + (j : Int)) / 2 = ((h : Nat) : Int) := by omega
      have hb1 : i ≤ h := by omega
      have hb2 : h < j := by omega
      have w3 : IntKind.i64.wrap ((h : Int) + 1) = (h : Int) + 1 := by rw [IntKind.wrap_i64]; omega
      clear hh
      cases hlv : ltOf cf d[m]! d[h]! with
      | true =>
        have ea : (((m : Int) : Int)).toNat = m := by omega
        have pa : (0 : Int) ≤ (m : Int) := by omega
        have ba : ((m : Int) : Int) < (d.size : Int) := by omega
        have ra : IntKind.i64.wrap ((m : Int) : Int) = (m : Int) := by rw [IntKind.wrap_i64]; omega

        have ec : (((h : Int) : Int)).toNat = h := by omega
        have pc : (0 : Int) ≤ (h : Int) := by omega
        have bc : ((h : Int) : Int) < (d.size : Int) := by omega
        have rc : IntKind.i64.wrap ((h : Int) : Int) = (h : Int) := by rw [IntKind.wrap_i64]; omega

        obtain ⟨x9, hx9⟩ : ∃ x, x = d[m]! := ⟨_, rfl⟩
        obtain ⟨y9, hy9⟩ : ∃ x, x = d[h]! := ⟨_, rfl⟩
        have la := S1.out.ld R (by omega) Tryd.prog (m) (by omega)
        have lb := S1.out.ld R (by omega) Tryd.prog (h) (by omega)
        rw [← hx9] at la
        rw [← hy9] at lb
        have hc9 := S1.out.cmp HC.out (by omega) x9 y9

        have hv9 : cf x9 y9 < 0 := by rw [hx9, hy9]; exact of_decide_eq_true hlv
        have hd9 : decide (cf x9 y9 < 0) = true := decide_eq_true hv9

        have HV : Hid (ltOf cf d[m]! d[h]! = true) := hid hlv
        clear hx9 hy9 hlv
        go_wp2_with fail
        go_quiet_grown (first | (go_at_fn g; refine Calls.grown_of (hc9 _ _)))
        have S2 : Aside (SWK enc k w0 blk off d (grow (wr.drewN nq) osq)) := S1.out.grown nq osq
        clear la lb hc9 S1
        generalize grow (wr.drewN nq) osq = w2 at S2 ⊢
        clear nq osq
        go_wp2
        go_roundg (h - i)
        case measure => omega
        case rel => exact ⟨i, h, rfl, by go_num, by omega, by omega, by omega, by omega, S2, hid ⟨I1.out.1, .inr HV.out⟩⟩
      | false =>
        have ea : (((m : Int) : Int)).toNat = m := by omega
        have pa : (0 : Int) ≤ (m : Int) := by omega
        have ba : ((m : Int) : Int) < (d.size : Int) := by omega
        have ra : IntKind.i64.wrap ((m : Int) : Int) = (m : Int) := by rw [IntKind.wrap_i64]; omega

        have ec : (((h : Int) : Int)).toNat = h := by omega
        have pc : (0 : Int) ≤ (h : Int) := by omega
        have bc : ((h : Int) : Int) < (d.size : Int) := by omega
        have rc : IntKind.i64.wrap ((h : Int) : Int) = (h : Int) := by rw [IntKind.wrap_i64]; omega

        obtain ⟨x9, hx9⟩ : ∃ x, x = d[m]! := ⟨_, rfl⟩
        obtain ⟨y9, hy9⟩ : ∃ x, x = d[h]! := ⟨_, rfl⟩
        have la := S1.out.ld R (by omega) Tryd.prog (m) (by omega)
        have lb := S1.out.ld R (by omega) Tryd.prog (h) (by omega)
        rw [← hx9] at la
        rw [← hy9] at lb
        have hc9 := S1.out.cmp HC.out (by omega) x9 y9

        have hv9 : ¬ cf x9 y9 < 0 := by rw [hx9, hy9]; exact of_decide_eq_false hlv
        have hd9 : decide (cf x9 y9 < 0) = false := decide_eq_false hv9

        have HV : Hid (ltOf cf d[m]! d[h]! = false) := hid hlv
        clear hx9 hy9 hlv
        go_wp2_with fail
        go_quiet_grown (first | (go_at_fn g; refine Calls.grown_of (hc9 _ _)))
        have S2 : Aside (SWK enc k w0 blk off d (grow (wr.drewN nq) osq)) := S1.out.grown nq osq
        clear la lb hc9 S1
        generalize grow (wr.drewN nq) osq = w2 at S2 ⊢
        clear nq osq
        go_wp2
        go_roundg (j - (h + 1))
        case measure => omega
        case rel => exact ⟨h + 1, j, by go_num, rfl, by omega, by omega, by omega, by omega, S2, hid ⟨.inr (by rw [Nat.add_sub_cancel]; exact HV.out), I1.out.2⟩⟩
    · obtain rfl : i = j := by omega
      have hltz : ¬ (i : Int) < (i : Int) := by omega
      obtain ⟨u1, u2, hu, hi, hmg, h0⟩ := IN.out i hmi hjb I1.out.1 I1.out.2
      have I2 : Hid (Is d ((x ++ u1) ++ (u2 ++ z :: ([] ++ y)))) := hid h0
      have HM := hid hmg
      have HV : Hid (x.length = a ∧ a + u1.length = i ∧ i + u2.length = m) := hid ⟨HX.out.1, hi, by have := HX.out.2; rw [hu, List.length_append] at this; omega⟩
      have hi2 : m < d.size := by omega
      clear I1 IN h0 hmg hu hi hjb hij hmi HX hg1
      go_wp2
      go_loopg [17] u2.length (fun g1 vk wr => ∃ (kk : Nat) (p q : List α) (dk : Array α), vk = .int .i64 kk ∧ p.length ≤ g1 ∧ dk.size = d.size ∧ Aside (SWK enc k w0 blk off dk wr) ∧ Hid (p ++ q = u2 ∧ i + p.length = kk ∧ Is dk ((x ++ u1) ++ (p ++ z :: (q ++ y)))))
      case atStart => exact ⟨m, u2, [], d, rfl, Nat.le_refl _, rfl, S1, hid ⟨List.append_nil _, HV.out.2.2, I2.out⟩⟩
      case round =>
        clear S1 I2
        obtain ⟨kk, p, q, dk, rfl, hgq, hsk, S1, I1⟩ := hrel
        have hnum := I1.out.2.1
        have hnm : kk ≤ m := by
          have e := I1.out.1
          have e2 := HV.out.2.2
          rw [← e, List.length_append] at e2
          omega
        rcases parts_last p with rfl | ⟨p, c, rfl⟩
        · have hltz : ¬ (i : Int) < (kk : Int) := by simp at hnum; omega
          clear hnum hnm
          go_wp2
          ((try simp only [Exit.inBlock, Exit.then]); refine bodyPost_ret (results_none rfl _ _ _) rfl ?_)
          refine ⟨rfl, dk, hsk, ?_, S1.out⟩
          have e := I1.out.1
          rw [List.nil_append] at e
          have h9 := I1.out.2.2
          rw [HM.out, ← e]
          simpa using h9
        · obtain ⟨kp, rfl⟩ : ∃ kp, kk = kp + 1 := ⟨i + p.length, by simp at hnum; omega⟩
          have hltz : (i : Int) < (kp : Int) + 1 := by simp at hnum; omega
          have I3 : Hid (Is (swp dk (kp + 1) kp) ((x ++ u1 ++ p) ++ z :: ([] ++ c :: (q ++ y)))) := hid (swp_list' (x := x ++ u1 ++ p) (m := []) (by have := I1.out.2.2; simpa using this) (by have := HV.out; simp at hnum ⊢; omega) rfl)
          have hip : i ≤ kp := by simp at hnum; omega
          clear hnum
          have ea : (((kp : Int) + 1 : Int)).toNat = kp + 1 := by omega
          have pa : (0 : Int) ≤ (kp : Int) + 1 := by omega
          have ba : ((kp : Int) + 1 : Int) < (d.size : Int) := by omega
          have ra : IntKind.i64.wrap ((kp : Int) + 1 : Int) = (kp : Int) + 1 := by rw [IntKind.wrap_i64]; omega

          have ec : (((kp : Int) : Int)).toNat = kp := by omega
          have pc : (0 : Int) ≤ (kp : Int) := by omega
          have bc : ((kp : Int) : Int) < (d.size : Int) := by omega
          have rc : IntKind.i64.wrap ((kp : Int) : Int) = (kp : Int) := by rw [IntKind.wrap_i64]; omega

          have S2 : Aside (SWK enc k w0 blk off (swp dk (kp + 1) (kp)) ((wr.drew.setCells blk (off + (kp + 1) * k) (enc dk[kp]!)).setCells blk (off + (kp) * k) (enc dk[kp + 1]!))) := S1.out.swapped R (kp + 1) (kp) (by omega) (by omega)
          have la := S1.out.ld1 R (by omega) Tryd.prog (kp + 1) (by omega)
          have lb := S1.out.ld1 R (by omega) Tryd.prog (kp) (by omega)
          have sa := S1.out.st1 R (by omega) Tryd.prog (kp + 1) (by omega) dk[kp]!
          have sb := S1.out.st2 R (by omega) Tryd.prog (kp + 1) (kp) (by omega) (by omega) dk[kp]! dk[kp + 1]!
          have na : (enc dk[kp + 1]!).length = k := R.hk _
          have nb : (enc dk[kp]!).length = k := R.hk _
          generalize enc dk[kp + 1]! = cI at S2 la sb na
          generalize enc dk[kp]! = cJ at S2 lb sa sb nb
          clear S1
          go_wp2_with fail
          go_big_region_o
          clear la lb sa sb
          generalize (wr.drew.setCells blk (off + (kp + 1) * k) cJ).setCells blk (off + (kp) * k) cI = w2 at S2 ⊢
          go_wp2
          go_roundg (p.length)
          case measure => simp at hgq; omega
          case rel => exact ⟨kp, p, c :: q, swp dk (kp + 1) kp, by first | rfl | go_num | (congr 1; omega), Nat.le_refl _, by rw [size_swp]; exact hsk, S2, hid ⟨by rw [← I1.out.1]; simp, by have := I1.out.2.1; simp at this; omega, by have := I3.out; simpa using this⟩⟩

set_option maxHeartbeats 8000000 in
set_option maxRecDepth 1000000 in
theorem symP_mergeC (N : Nat)
    (ih : ∀ (enc : α → List Value) (k : Nat) (_hk2 : k = 2) (cf : α → α → Int) (g : Nat) (cb : Array Value) (blk off cap : Nat) (d0 d : Array α) (w0 W : World)
    (_eg : ∀ args w, (callFunc g args).run Tryd.prog w = .ok (.enter g args) w) (_hcmp : CmpLays Tryd.prog g cb enc k cf blk off d0.size w0) (_R : RowK enc k w0 blk off d0) (_hs : d0.size = d.size) (_S : SWK enc k w0 blk off d W) (_hsz : d.size < 4294967296) (_irr : ∀ p q r : α, ltOf cf p q = false → ltOf cf q r = false → ltOf cf p r = false) (a m b : Nat) (x u v y : List α) (_hN : b - a ≤ N) (_h : Is d (x ++ (u ++ (v ++ y)))) (_ha : x.length = a) (_hm : a + u.length = m) (_hb : m + v.length = b) (_hu0 : 0 < u.length) (_hv0 : 0 < v.length) (_hu : AscS (ltOf cf) u) (_hv : AscS (ltOf cf) v),
      Calls Tryd.prog 81 #[.slice (some ⟨blk, off, none⟩) d.size cap, .int .i64 a, .int .i64 m, .int .i64 b, .func (.func g) #[] cb] W fun e w' => e = .returned (.tuple #[]) ∧ ∃ d' : Array α, d'.size = d.size ∧ Is d' (x ++ (mergS (ltOf cf) u v ++ y)) ∧ SWK enc k w0 blk off d' w')
    (enc : α → List Value) (k : Nat) (hk2 : k = 2) (cf : α → α → Int) (g : Nat) (cb : Array Value) (blk off cap : Nat) (d0 d : Array α) (w0 W : World)
    (eg : ∀ args w, (callFunc g args).run Tryd.prog w = .ok (.enter g args) w) (hcmp : CmpLays Tryd.prog g cb enc k cf blk off d0.size w0) (R : RowK enc k w0 blk off d0) (hs : d0.size = d.size) (S : SWK enc k w0 blk off d W) (hsz : d.size < 4294967296) (irr : ∀ p q r : α, ltOf cf p q = false → ltOf cf q r = false → ltOf cf p r = false) (a m b : Nat) (x u v y : List α) (hN : b - a ≤ N + 1) (h : Is d (x ++ (u ++ (v ++ y)))) (ha : x.length = a) (hm : a + u.length = m) (hb : m + v.length = b) (hu1 : 1 < u.length) (hv1 : 1 < v.length) (hu : AscS (ltOf cf) u) (hv : AscS (ltOf cf) v) :
    Calls Tryd.prog 81 #[.slice (some ⟨blk, off, none⟩) d.size cap, .int .i64 a, .int .i64 m, .int .i64 b, .func (.func g) #[] cb] W fun e w' => e = .returned (.tuple #[]) ∧ ∃ d' : Array α, d'.size = d.size ∧ Is d' (x ++ (mergS (ltOf cf) u v ++ y)) ∧ SWK enc k w0 blk off d' w' := by
  have aE : ∀ w, (isAgg 42).run Tryd.prog w = .ok true w := Tryd.isAgg42
  have zE : ∀ w, (Go.sizeOf 42).run Tryd.prog w = .ok k w := by rw [hk2]; exact Tryd.sizeOf42
  have HK2 : Hid (k = 2) := hk2
  have HC : Aside _ := hcmp
  have S0 : Aside _ := S
  have mixed : Tryd.prog.follows Departure.mixedOrders = true := by kernel_rfl
  clear hk2 hcmp S
  have hlen := h.size
  simp only [List.length_append] at hlen
  have hl2 : b ≤ d.size := by omega
  have hmb : m + 1 < b := by omega
  have ham : a + 1 < m := by omega
  have CUT := hid (fun st en c1 c2 c3 c4 c5 c6 => sym_cut (ltOf cf) irr (st := st) (en := en) h ha hm hb hu hv c1 c2 c3 c4 c5 c6)
  have HX := hid ha
  have HMV := hid (And.intro hm hb)
  have t1 : IntKind.i64.wrap ((m : Int) - (a : Int)) = (m : Int) - (a : Int) := by rw [IntKind.wrap_i64]; omega
  have t2 : ((m : Int) - (a : Int) == 1) = false := beq_eq_false_iff_ne.2 (by omega)
  have t3 : IntKind.i64.wrap ((b : Int) - (m : Int)) = (b : Int) - (m : Int) := by rw [IntKind.wrap_i64]; omega
  have t4 : ((b : Int) - (m : Int) == 1) = false := beq_eq_false_iff_ne.2 (by omega)
  have t5 : ¬ (m : Int) - (a : Int) = 1 := by omega
  have t6 : ¬ (b : Int) - (m : Int) = 1 := by omega
  obtain ⟨mid, hmid⟩ : ∃ mid, mid = (a + b) / 2 := ⟨_, rfl⟩
  have w1 : IntKind.i64.wrap ((a : Int) + (b : Int)) = (a : Int) + (b : Int) := by rw [IntKind.wrap_i64]; omega
  have w2 : IntKind.u64.wrap ((a : Int) + (b : Int)) = (a : Int) + (b : Int) := by rw [IntKind.wrap_u64]; omega
  have e2 : ((a : Int) + (b : Int)) / 2 = ((mid : Nat) : Int) := by omega
  have w3 : IntKind.i64.wrap (mid : Int) = (mid : Int) := by rw [IntKind.wrap_i64]; omega
  have w4 : IntKind.i64.wrap ((mid : Int) + (m : Int)) = (mid : Int) + (m : Int) := by rw [IntKind.wrap_i64]; omega
  have w5 : IntKind.i64.wrap ((mid : Int) + (m : Int) - (b : Int)) = (mid : Int) + (m : Int) - (b : Int) := by rw [IntKind.wrap_i64]; omega
  have w6 : IntKind.i64.wrap ((mid : Int) + (m : Int) - 1) = (mid : Int) + (m : Int) - 1 := by rw [IntKind.wrap_i64]; omega
  have hmd : a < mid ∧ mid < b ∧ 2 * mid ≤ a + b ∧ a + b ≤ 2 * mid + 1 := by omega
  obtain ⟨md1, md2, md4, md5⟩ := hmd
  clear h hlen ha hm hb hu hv hu1 hv1 hmid
  -- where the search begins
  obtain ⟨s0, r0, hsr⟩ : ∃ s0 r0 : Nat, Hid ((mid < m → (s0 : Int) = (mid : Int) + (m : Int) - (b : Int) ∧ r0 = mid) ∧ (¬ mid < m → s0 = a ∧ r0 = m)) := by
    by_cases q : mid < m
    · exact ⟨mid + m - b, mid, hid ⟨fun _ => by omega, fun c => absurd q c⟩⟩
    · exact ⟨a, m, hid ⟨fun c => absurd c q, fun _ => by omega⟩⟩
  have hsr2 : s0 ≤ r0 ∧ a ≤ s0 ∧ r0 ≤ m ∧ mid + m ≤ b + s0 ∧ r0 ≤ mid := by
    have := hsr.out
    by_cases q : mid < m
    · have := this.1 q; omega
    · have := this.2 q; omega
  have EN : Hid (∀ st, (st = r0 → mid + m - st = m ∨ st = m) ∧ (st = s0 → mid + m - st = b ∨ st = a)) := hid (fun st => by
    have := hsr.out
    by_cases q : mid < m
    · have := this.1 q; omega
    · have := this.2 q; omega)
  obtain ⟨n1, n2, n3, n4, n5⟩ := hsr2
  have key : ∀ w5 : World, Hid (SWK enc k w0 blk off d w5) → ∀ st : Nat, s0 ≤ st → st ≤ r0 → Hid ((st = s0 ∨ ltOf cf d[mid + m - 1 - (st - 1)]! d[st - 1]! = false) ∧ (st = r0 ∨ ltOf cf d[mid + m - 1 - st]! d[st]! = true)) → ∃ en u1 u2 v1 v2, en + st = mid + m ∧ Hid (mergS (ltOf cf) u v = mergS (ltOf cf) u1 v1 ++ mergS (ltOf cf) u2 v2) ∧ Hid (AscS (ltOf cf) u1 ∧ AscS (ltOf cf) u2 ∧ AscS (ltOf cf) v1 ∧ AscS (ltOf cf) v2) ∧ Hid (Is d ((x ++ u1) ++ (u2 ++ (v1 ++ (v2 ++ y))))) ∧ a + u1.length = st ∧ st + u2.length = m ∧ m + v1.length = en ∧ en + v2.length = b := by
    intro w5 _ st h1 h2 hc
    have e1 := EN.out st
    have e3 := hc.out
    obtain ⟨u1, u2, v1, v2, c1, c2, c3, c4, c5, c6, c7, c8, c9, c10⟩ := CUT.out st (mid + m - st) (by omega) (by omega) (by omega) (by omega)
      (by
        rcases e3.2 with q | q
        · rcases e1.1 q with q | q
          · exact .inl q
          · exact .inr (.inl q)
        · refine .inr (.inr ?_)
          rw [show mid + m - st - 1 = mid + m - 1 - st by omega]; exact q)
      (by
        rcases e3.1 with q | q
        · rcases e1.2 q with q | q
          · exact .inl q
          · exact .inr (.inl q)
        · by_cases hz : st = 0
          · refine .inr (.inl ?_); omega
          · refine .inr (.inr ?_)
            rw [show mid + m - st = mid + m - 1 - (st - 1) by omega]; exact q)
    have f1 := HMV.out.1
    have f2 := HMV.out.2
    rw [c1, List.length_append] at f1
    rw [c2, List.length_append] at f2
    exact ⟨mid + m - st, u1, u2, v1, v2, by omega, hid c5, hid ⟨c6, c7, c8, c9⟩, hid c10, by omega, by omega, by omega, by omega⟩
  have KEY := hid key
  clear key CUT
  by_cases hmm : mid < m
  all_goals
    first
      | (have hmz : (mid : Int) < (m : Int) := by omega
         have hs9 : (mid : Int) + (m : Int) - (b : Int) = (s0 : Int) := ((hsr.out.1 hmm).1).symm
         have hr9 : mid = r0 := (hsr.out.1 hmm).2.symm)
      | (have hmz : ¬ (mid : Int) < (m : Int) := by omega
         have hs9 : a = s0 := (hsr.out.2 hmm).1.symm
         have hr9 : m = r0 := (hsr.out.2 hmm).2.symm)
    have HS9 := hid (And.intro hs9 hr9)
    clear hs9 hr9 hsr EN hmm
    go_enter Tryd.func81, Tryd.ntmps81
    go_wp2
    clear t1 t2 t3 t4 t5 t6 w1 w2 w3 w4 w5
    go_loopg [20, 21] (r0 - s0) (fun g1 vi vj wr => ∃ (i j : Nat), vi = .int .i64 i ∧ vj = .int .i64 j ∧ s0 ≤ i ∧ i ≤ j ∧ j ≤ r0 ∧ j ≤ g1 + i ∧ Aside (SWK enc k w0 blk off d wr) ∧ Hid ((i = s0 ∨ ltOf cf d[mid + m - 1 - (i - 1)]! d[i - 1]! = false) ∧ (j = r0 ∨ ltOf cf d[mid + m - 1 - j]! d[j]! = true)))
    case atStart => exact ⟨s0, r0, by have := HS9.out.1; first | rw [this] | (congr 1; omega), by have := HS9.out.2; first | rw [this] | (congr 1; omega), by omega, by omega, by omega, by omega, S0, hid ⟨.inl rfl, .inl rfl⟩⟩
    case round =>
      clear S0 HS9 hmz
      obtain ⟨i, j, rfl, rfl, hmi, hij, hjb, hg1, S1, I1⟩ := hrel
      by_cases hlt : i < j
      · have hltz : (i : Int) < (j : Int) := by omega
        obtain ⟨h, hh⟩ : ∃ h, h = (i + j) / 2 := ⟨_, rfl⟩
        have w1 : IntKind.i64.wrap ((i : Int) + (j : Int)) = (i : Int) + (j : Int) := by rw [IntKind.wrap_i64]; omega
        have w2 : IntKind.u64.wrap ((i : Int) + (j : Int)) = (i : Int) + (j : Int) := by rw [IntKind.wrap_u64]; omega
        have e2 : ((i : Int) + (j : Int)) / 2 = ((h : Nat) : Int) := by omega
        have hb1 : i ≤ h := by omega
        have hb2 : h < j := by omega
        have w3 : IntKind.i64.wrap ((h : Int) + 1) = (h : Int) + 1 := by rw [IntKind.wrap_i64]; omega
        clear hh
        obtain ⟨p9, hp9⟩ : ∃ p9 : Nat, p9 = mid + m - 1 - h := ⟨_, rfl⟩
        have q3 : IntKind.i64.wrap ((mid : Int) + (m : Int) - 1 - (h : Int)) = (p9 : Int) := by rw [IntKind.wrap_i64]; omega
        have q6 : p9 < d.size := by omega
        have HP9 := hid hp9
        clear hp9
        cases hlv : ltOf cf d[p9]! d[h]! with
        | true =>
          have ea : (((p9 : Int) : Int)).toNat = p9 := by omega
          have pa : (0 : Int) ≤ (p9 : Int) := by omega
          have ba : ((p9 : Int) : Int) < (d.size : Int) := by omega
          have ra : IntKind.i64.wrap ((p9 : Int) : Int) = (p9 : Int) := by rw [IntKind.wrap_i64]; omega

          have ec : (((h : Int) : Int)).toNat = h := by omega
          have pc : (0 : Int) ≤ (h : Int) := by omega
          have bc : ((h : Int) : Int) < (d.size : Int) := by omega
          have rc : IntKind.i64.wrap ((h : Int) : Int) = (h : Int) := by rw [IntKind.wrap_i64]; omega

          obtain ⟨x9, hx9⟩ : ∃ x, x = d[p9]! := ⟨_, rfl⟩
          obtain ⟨y9, hy9⟩ : ∃ x, x = d[h]! := ⟨_, rfl⟩
          have la := S1.out.ld R (by omega) Tryd.prog (p9) (by omega)
          have lb := S1.out.ld R (by omega) Tryd.prog (h) (by omega)
          rw [← hx9] at la
          rw [← hy9] at lb
          have hc9 := S1.out.cmp HC.out (by omega) x9 y9

          have hv9 : cf x9 y9 < 0 := by rw [hx9, hy9]; exact of_decide_eq_true hlv
          have hd9 : decide (cf x9 y9 < 0) = true := decide_eq_true hv9

          have HV : Hid (ltOf cf d[p9]! d[h]! = true) := hid hlv
          clear hx9 hy9 hlv
          go_wp2_with fail
          go_quiet_grown (first | (go_at_fn g; refine Calls.grown_of (hc9 _ _)))
          have S2 : Aside (SWK enc k w0 blk off d (grow (wr.drewN nq) osq)) := S1.out.grown nq osq
          clear la lb hc9 S1
          generalize grow (wr.drewN nq) osq = w2 at S2 ⊢
          clear nq osq
          go_wp2
          go_roundg (h - i)
          case measure => omega
          case rel => exact ⟨i, h, rfl, by go_num, by omega, by omega, by omega, by omega, S2, hid ⟨I1.out.1, .inr (by rw [← HP9.out]; exact HV.out)⟩⟩
        | false =>
          have ea : (((p9 : Int) : Int)).toNat = p9 := by omega
          have pa : (0 : Int) ≤ (p9 : Int) := by omega
          have ba : ((p9 : Int) : Int) < (d.size : Int) := by omega
          have ra : IntKind.i64.wrap ((p9 : Int) : Int) = (p9 : Int) := by rw [IntKind.wrap_i64]; omega

          have ec : (((h : Int) : Int)).toNat = h := by omega
          have pc : (0 : Int) ≤ (h : Int) := by omega
          have bc : ((h : Int) : Int) < (d.size : Int) := by omega
          have rc : IntKind.i64.wrap ((h : Int) : Int) = (h : Int) := by rw [IntKind.wrap_i64]; omega

          obtain ⟨x9, hx9⟩ : ∃ x, x = d[p9]! := ⟨_, rfl⟩
          obtain ⟨y9, hy9⟩ : ∃ x, x = d[h]! := ⟨_, rfl⟩
          have la := S1.out.ld R (by omega) Tryd.prog (p9) (by omega)
          have lb := S1.out.ld R (by omega) Tryd.prog (h) (by omega)
          rw [← hx9] at la
          rw [← hy9] at lb
          have hc9 := S1.out.cmp HC.out (by omega) x9 y9

          have hv9 : ¬ cf x9 y9 < 0 := by rw [hx9, hy9]; exact of_decide_eq_false hlv
          have hd9 : decide (cf x9 y9 < 0) = false := decide_eq_false hv9

          have HV : Hid (ltOf cf d[p9]! d[h]! = false) := hid hlv
          clear hx9 hy9 hlv
          go_wp2_with fail
          go_quiet_grown (first | (go_at_fn g; refine Calls.grown_of (hc9 _ _)))
          have S2 : Aside (SWK enc k w0 blk off d (grow (wr.drewN nq) osq)) := S1.out.grown nq osq
          clear la lb hc9 S1
          generalize grow (wr.drewN nq) osq = w2 at S2 ⊢
          clear nq osq
          go_wp2
          go_roundg (j - (h + 1))
          case measure => omega
          case rel => exact ⟨h + 1, j, by go_num, rfl, by omega, by omega, by omega, by omega, S2, hid ⟨.inr (by rw [Nat.add_sub_cancel, ← HP9.out]; exact HV.out), I1.out.2⟩⟩
      · obtain rfl : i = j := by omega
        have hltz : ¬ (i : Int) < (i : Int) := by omega
        obtain ⟨en, u1, u2, v1, v2, hen, HM, AS, I5, n1, n2, n3, n4⟩ := KEY.out wr S1 i hmi hjb I1
        have q4 : IntKind.i64.wrap ((mid : Int) + (m : Int) - (i : Int)) = (mid : Int) + (m : Int) - (i : Int) := by rw [IntKind.wrap_i64]; omega
        have q5 : (mid : Int) + (m : Int) - (i : Int) = (en : Int) := by omega
        generalize i = st at *
        generalize wr = w5 at *
        have S5 := S1
        clear S1 I1 KEY hg1 hij hmi hjb w6 HMV
        rcases Nat.eq_zero_or_pos u1.length with lu1 | lu1 <;> rcases Nat.eq_zero_or_pos u2.length with lu2 | lu2 <;> rcases Nat.eq_zero_or_pos v1.length with lv1 | lv1 <;> rcases Nat.eq_zero_or_pos v2.length with lv2 | lv2
        · exfalso; omega
        · exfalso; omega
        · exfalso; omega
        · exfalso; omega
        · exfalso; omega
        · exfalso; omega
        · have hu1 : u1.length = 0 := lu1
          obtain rfl : u1 = [] := List.eq_nil_of_length_eq_zero hu1
          have hu2 : 0 < u2.length := lu2
          have hv1 : 0 < v1.length := lv1
          have hv2 : v2.length = 0 := lv2
          obtain rfl : v2 = [] := List.eq_nil_of_length_eq_zero hv2
          simp only [List.length_nil, Nat.add_zero] at n1 n2 n3 n4
          subst n1
          subst n4
          have z1 : decide ((a : Int) < (m : Int)) = true := decide_eq_true (by omega)
          have z1n : (a : Int) < (m : Int) := by omega
          have z2 : decide ((m : Int) < (en : Int)) = true := decide_eq_true (by omega)
          have z2n : (m : Int) < (en : Int) := by omega
          have z3 : decide ((a : Int) < (a : Int)) = false := decide_eq_false (by omega)
          have z3n : ¬ (a : Int) < (a : Int) := by omega
          have z4 : decide ((a : Int) < (mid : Int)) = true := decide_eq_true (by omega)
          have z4n : (a : Int) < (mid : Int) := by omega
          have z5 : decide ((mid : Int) < (en : Int)) = true := decide_eq_true (by omega)
          have z5n : (mid : Int) < (en : Int) := by omega
          have z6 : decide ((en : Int) < (en : Int)) = false := decide_eq_false (by omega)
          have z6n : ¬ (en : Int) < (en : Int) := by omega
          have crot := symP_rot enc k HK2.out cf g cb blk off cap d0 d w0 w5 eg HC.out R hs S5.out hsz a m en (x ++ []) u2 v1 ([] ++ y) I5.out (by rw [List.length_append]; have := HX.out; omega) (by omega) (by omega) (by omega) (by omega)
          go_wp2_with (first | (go_at_call 82; with_reducible refine crot.mono ?_; rintro e w6 ⟨rfl, d6, hs6, I6, S6⟩; replace I6 := hid I6))
          go_end0
          exact ⟨rfl, d6, by omega, by rw [HM.out]; have := I6.out; simpa [mergS_nil_left _ AS.out.2.2.1, mergS_nil_right] using this, S6⟩
        · have hu1 : u1.length = 0 := lu1
          obtain rfl : u1 = [] := List.eq_nil_of_length_eq_zero hu1
          have hu2 : 0 < u2.length := lu2
          have hv1 : 0 < v1.length := lv1
          have hv2 : 0 < v2.length := lv2
          simp only [List.length_nil, Nat.add_zero] at n1 n2 n3 n4
          subst n1
          have z1 : decide ((a : Int) < (m : Int)) = true := decide_eq_true (by omega)
          have z1n : (a : Int) < (m : Int) := by omega
          have z2 : decide ((m : Int) < (en : Int)) = true := decide_eq_true (by omega)
          have z2n : (m : Int) < (en : Int) := by omega
          have z3 : decide ((a : Int) < (a : Int)) = false := decide_eq_false (by omega)
          have z3n : ¬ (a : Int) < (a : Int) := by omega
          have z4 : decide ((a : Int) < (mid : Int)) = true := decide_eq_true (by omega)
          have z4n : (a : Int) < (mid : Int) := by omega
          have z5 : decide ((mid : Int) < (en : Int)) = true := decide_eq_true (by omega)
          have z5n : (mid : Int) < (en : Int) := by omega
          have z6 : decide ((en : Int) < (b : Int)) = true := decide_eq_true (by omega)
          have z6n : (en : Int) < (b : Int) := by omega
          have crot := symP_rot enc k HK2.out cf g cb blk off cap d0 d w0 w5 eg HC.out R hs S5.out hsz a m en (x ++ []) u2 v1 (v2 ++ y) I5.out (by rw [List.length_append]; have := HX.out; omega) (by omega) (by omega) (by omega) (by omega)
          have cm2 := fun (d7 : Array α) (w7 : World) (hs7 : d7.size = d.size) (I7 : Is d7 ((x ++ mergS (ltOf cf) [] v1) ++ (u2 ++ (v2 ++ y)))) (S7 : SWK enc k w0 blk off d7 w7) => ih enc k HK2.out cf g cb blk off cap d0 d7 w0 w7 eg HC.out R (hs.trans hs7.symm) S7 (by omega) irr mid en b (x ++ mergS (ltOf cf) [] v1) u2 v2 y (by omega) I7 (by rw [List.length_append, mergS_len]; have := HX.out; omega) (by omega) (by omega) (by omega) (by omega) AS.out.2.1 AS.out.2.2.2
          go_wp2_with (first | (go_at_call 82; with_reducible refine crot.mono ?_; rintro e w6 ⟨rfl, d6, hs6, I6, S6⟩; replace I6 := hid I6) | (go_at_call 81; have c2 := cm2 d6 w6 hs6 (by have := I6.out; simpa [mergS_nil_left _ AS.out.2.2.1] using this) S6; rw [hs6] at c2; with_reducible refine c2.mono ?_; rintro e w8 ⟨rfl, d8, hs8, I8, S8⟩; replace I8 := hid I8; clear c2))
          go_end0
          exact ⟨rfl, d8, by omega, by rw [HM.out]; have := I8.out; simpa [mergS_nil_left _ AS.out.2.2.1] using this, S8⟩
        · exfalso; omega
        · have hu1 : 0 < u1.length := lu1
          have hu2 : u2.length = 0 := lu2
          obtain rfl : u2 = [] := List.eq_nil_of_length_eq_zero hu2
          have hv1 : v1.length = 0 := lv1
          obtain rfl : v1 = [] := List.eq_nil_of_length_eq_zero hv1
          have hv2 : 0 < v2.length := lv2
          simp only [List.length_nil, Nat.add_zero] at n1 n2 n3 n4
          subst n2
          subst n3
          have z1 : decide ((st : Int) < (st : Int)) = false := decide_eq_false (by omega)
          have z1n : ¬ (st : Int) < (st : Int) := by omega
          have z2 : decide ((st : Int) < (st : Int)) = false := decide_eq_false (by omega)
          have z2n : ¬ (st : Int) < (st : Int) := by omega
          have z3 : decide ((a : Int) < (st : Int)) = true := decide_eq_true (by omega)
          have z3n : (a : Int) < (st : Int) := by omega
          have z4 : decide ((st : Int) < (mid : Int)) = false := decide_eq_false (by omega)
          have z4n : ¬ (st : Int) < (mid : Int) := by omega
          have z5 : decide ((mid : Int) < (st : Int)) = false := decide_eq_false (by omega)
          have z5n : ¬ (mid : Int) < (st : Int) := by omega
          have z6 : decide ((st : Int) < (b : Int)) = true := decide_eq_true (by omega)
          have z6n : (st : Int) < (b : Int) := by omega
          go_wp2_with fail
          go_end0
          exact ⟨rfl, d, rfl, by rw [HM.out]; have := I5.out; simpa [mergS_nil_right, mergS_nil_left _ AS.out.2.2.2] using this, S5.out⟩
        · exfalso; omega
        · have hu1 : 0 < u1.length := lu1
          have hu2 : u2.length = 0 := lu2
          obtain rfl : u2 = [] := List.eq_nil_of_length_eq_zero hu2
          have hv1 : 0 < v1.length := lv1
          have hv2 : 0 < v2.length := lv2
          simp only [List.length_nil, Nat.add_zero] at n1 n2 n3 n4
          subst n2
          have z1 : decide ((st : Int) < (st : Int)) = false := decide_eq_false (by omega)
          have z1n : ¬ (st : Int) < (st : Int) := by omega
          have z2 : decide ((st : Int) < (en : Int)) = true := decide_eq_true (by omega)
          have z2n : (st : Int) < (en : Int) := by omega
          have z3 : decide ((a : Int) < (st : Int)) = true := decide_eq_true (by omega)
          have z3n : (a : Int) < (st : Int) := by omega
          have z4 : decide ((st : Int) < (mid : Int)) = true := decide_eq_true (by omega)
          have z4n : (st : Int) < (mid : Int) := by omega
          have z5 : decide ((mid : Int) < (en : Int)) = false := decide_eq_false (by omega)
          have z5n : ¬ (mid : Int) < (en : Int) := by omega
          have z6 : decide ((en : Int) < (b : Int)) = true := decide_eq_true (by omega)
          have z6n : (en : Int) < (b : Int) := by omega
          have cm1 := fun (d6 : Array α) (w6 : World) (hs6 : d6.size = d.size) (I6 : Is d6 (x ++ (u1 ++ (v1 ++ ([] ++ (v2 ++ y)))))) (S6 : SWK enc k w0 blk off d6 w6) => ih enc k HK2.out cf g cb blk off cap d0 d6 w0 w6 eg HC.out R (hs.trans hs6.symm) S6 (by omega) irr a st mid x u1 v1 ([] ++ (v2 ++ y)) (by omega) I6 HX.out (by omega) (by omega) (by omega) (by omega) AS.out.1 AS.out.2.2.1
          go_wp2_with (first | (go_at_call 81; have c1 := cm1 d w5 rfl (by simpa using I5.out) S5.out; with_reducible refine c1.mono ?_; rintro e w7 ⟨rfl, d7, hs7, I7, S7⟩; replace I7 := hid I7; clear c1))
          go_end0
          exact ⟨rfl, d7, by omega, by rw [HM.out]; have := I7.out; simpa [mergS_nil_left _ AS.out.2.2.2] using this, S7⟩
        · exfalso; omega
        · have hu1 : 0 < u1.length := lu1
          have hu2 : 0 < u2.length := lu2
          have hv1 : v1.length = 0 := lv1
          obtain rfl : v1 = [] := List.eq_nil_of_length_eq_zero hv1
          have hv2 : 0 < v2.length := lv2
          simp only [List.length_nil, Nat.add_zero] at n1 n2 n3 n4
          subst n3
          have z1 : decide ((st : Int) < (m : Int)) = true := decide_eq_true (by omega)
          have z1n : (st : Int) < (m : Int) := by omega
          have z2 : decide ((m : Int) < (m : Int)) = false := decide_eq_false (by omega)
          have z2n : ¬ (m : Int) < (m : Int) := by omega
          have z3 : decide ((a : Int) < (st : Int)) = true := decide_eq_true (by omega)
          have z3n : (a : Int) < (st : Int) := by omega
          have z4 : decide ((st : Int) < (mid : Int)) = false := decide_eq_false (by omega)
          have z4n : ¬ (st : Int) < (mid : Int) := by omega
          have z5 : decide ((mid : Int) < (m : Int)) = true := decide_eq_true (by omega)
          have z5n : (mid : Int) < (m : Int) := by omega
          have z6 : decide ((m : Int) < (b : Int)) = true := decide_eq_true (by omega)
          have z6n : (m : Int) < (b : Int) := by omega
          have cm2 := fun (d7 : Array α) (w7 : World) (hs7 : d7.size = d.size) (I7 : Is d7 ((x ++ mergS (ltOf cf) u1 []) ++ (u2 ++ (v2 ++ y)))) (S7 : SWK enc k w0 blk off d7 w7) => ih enc k HK2.out cf g cb blk off cap d0 d7 w0 w7 eg HC.out R (hs.trans hs7.symm) S7 (by omega) irr mid m b (x ++ mergS (ltOf cf) u1 []) u2 v2 y (by omega) I7 (by rw [List.length_append, mergS_len]; have := HX.out; omega) (by omega) (by omega) (by omega) (by omega) AS.out.2.1 AS.out.2.2.2
          go_wp2_with (first | (go_at_call 81; have c2 := cm2 d w5 rfl (by have := I5.out; simpa [mergS_nil_right] using this) S5.out; with_reducible refine c2.mono ?_; rintro e w8 ⟨rfl, d8, hs8, I8, S8⟩; replace I8 := hid I8; clear c2))
          go_end0
          exact ⟨rfl, d8, by omega, by rw [HM.out]; have := I8.out; simpa [mergS_nil_right] using this, S8⟩
        · have hu1 : 0 < u1.length := lu1
          have hu2 : 0 < u2.length := lu2
          have hv1 : 0 < v1.length := lv1
          have hv2 : v2.length = 0 := lv2
          obtain rfl : v2 = [] := List.eq_nil_of_length_eq_zero hv2
          simp only [List.length_nil, Nat.add_zero] at n1 n2 n3 n4
          subst n4
          have z1 : decide ((st : Int) < (m : Int)) = true := decide_eq_true (by omega)
          have z1n : (st : Int) < (m : Int) := by omega
          have z2 : decide ((m : Int) < (en : Int)) = true := decide_eq_true (by omega)
          have z2n : (m : Int) < (en : Int) := by omega
          have z3 : decide ((a : Int) < (st : Int)) = true := decide_eq_true (by omega)
          have z3n : (a : Int) < (st : Int) := by omega
          have z4 : decide ((st : Int) < (mid : Int)) = true := decide_eq_true (by omega)
          have z4n : (st : Int) < (mid : Int) := by omega
          have z5 : decide ((mid : Int) < (en : Int)) = true := decide_eq_true (by omega)
          have z5n : (mid : Int) < (en : Int) := by omega
          have z6 : decide ((en : Int) < (en : Int)) = false := decide_eq_false (by omega)
          have z6n : ¬ (en : Int) < (en : Int) := by omega
          have crot := symP_rot enc k HK2.out cf g cb blk off cap d0 d w0 w5 eg HC.out R hs S5.out hsz st m en (x ++ u1) u2 v1 ([] ++ y) I5.out (by rw [List.length_append]; have := HX.out; omega) (by omega) (by omega) (by omega) (by omega)
          have cm1 := fun (d6 : Array α) (w6 : World) (hs6 : d6.size = d.size) (I6 : Is d6 (x ++ (u1 ++ (v1 ++ (u2 ++ ([] ++ y)))))) (S6 : SWK enc k w0 blk off d6 w6) => ih enc k HK2.out cf g cb blk off cap d0 d6 w0 w6 eg HC.out R (hs.trans hs6.symm) S6 (by omega) irr a st mid x u1 v1 (u2 ++ ([] ++ y)) (by omega) I6 HX.out (by omega) (by omega) (by omega) (by omega) AS.out.1 AS.out.2.2.1
          go_wp2_with (first | (go_at_call 82; with_reducible refine crot.mono ?_; rintro e w6 ⟨rfl, d6, hs6, I6, S6⟩; replace I6 := hid I6) | (go_at_call 81; have c1 := cm1 d6 w6 hs6 (by simpa using I6.out) S6; rw [hs6] at c1; with_reducible refine c1.mono ?_; rintro e w7 ⟨rfl, d7, hs7, I7, S7⟩; replace I7 := hid I7; clear c1))
          go_end0
          exact ⟨rfl, d7, by omega, by rw [HM.out]; have := I7.out; simpa [mergS_nil_right] using this, S7⟩
        · have hu1 : 0 < u1.length := lu1
          have hu2 : 0 < u2.length := lu2
          have hv1 : 0 < v1.length := lv1
          have hv2 : 0 < v2.length := lv2
          have z1 : decide ((st : Int) < (m : Int)) = true := decide_eq_true (by omega)
          have z1n : (st : Int) < (m : Int) := by omega
          have z2 : decide ((m : Int) < (en : Int)) = true := decide_eq_true (by omega)
          have z2n : (m : Int) < (en : Int) := by omega
          have z3 : decide ((a : Int) < (st : Int)) = true := decide_eq_true (by omega)
          have z3n : (a : Int) < (st : Int) := by omega
          have z4 : decide ((st : Int) < (mid : Int)) = true := decide_eq_true (by omega)
          have z4n : (st : Int) < (mid : Int) := by omega
          have z5 : decide ((mid : Int) < (en : Int)) = true := decide_eq_true (by omega)
          have z5n : (mid : Int) < (en : Int) := by omega
          have z6 : decide ((en : Int) < (b : Int)) = true := decide_eq_true (by omega)
          have z6n : (en : Int) < (b : Int) := by omega
          have crot := symP_rot enc k HK2.out cf g cb blk off cap d0 d w0 w5 eg HC.out R hs S5.out hsz st m en (x ++ u1) u2 v1 (v2 ++ y) I5.out (by rw [List.length_append]; have := HX.out; omega) (by omega) (by omega) (by omega) (by omega)
          have cm1 := fun (d6 : Array α) (w6 : World) (hs6 : d6.size = d.size) (I6 : Is d6 (x ++ (u1 ++ (v1 ++ (u2 ++ (v2 ++ y)))))) (S6 : SWK enc k w0 blk off d6 w6) => ih enc k HK2.out cf g cb blk off cap d0 d6 w0 w6 eg HC.out R (hs.trans hs6.symm) S6 (by omega) irr a st mid x u1 v1 (u2 ++ (v2 ++ y)) (by omega) I6 HX.out (by omega) (by omega) (by omega) (by omega) AS.out.1 AS.out.2.2.1
          have cm2 := fun (d7 : Array α) (w7 : World) (hs7 : d7.size = d.size) (I7 : Is d7 ((x ++ mergS (ltOf cf) u1 v1) ++ (u2 ++ (v2 ++ y)))) (S7 : SWK enc k w0 blk off d7 w7) => ih enc k HK2.out cf g cb blk off cap d0 d7 w0 w7 eg HC.out R (hs.trans hs7.symm) S7 (by omega) irr mid en b (x ++ mergS (ltOf cf) u1 v1) u2 v2 y (by omega) I7 (by rw [List.length_append, mergS_len]; have := HX.out; omega) (by omega) (by omega) (by omega) (by omega) AS.out.2.1 AS.out.2.2.2
          go_wp2_with (first | (go_at_call 82; with_reducible refine crot.mono ?_; rintro e w6 ⟨rfl, d6, hs6, I6, S6⟩; replace I6 := hid I6) | (go_at_call 81; have c1 := cm1 d6 w6 hs6 (by simpa using I6.out) S6; rw [hs6] at c1; with_reducible refine c1.mono ?_; rintro e w7 ⟨rfl, d7, hs7, I7, S7⟩; replace I7 := hid I7; clear c1) | (go_at_call 81; have c2 := cm2 d7 w7 (by omega) (by have := I7.out; simpa using this) S7; have e9 : d7.size = d.size := (by omega); rw [e9] at c2; with_reducible refine c2.mono ?_; rintro e w8 ⟨rfl, d8, hs8, I8, S8⟩; replace I8 := hid I8; clear c2))
          go_end0
          exact ⟨rfl, d8, by omega, by rw [HM.out]; have := I8.out; simpa [] using this, S8⟩

/-- Two neighboring sorted blocks merged. -/
theorem symP_merge (N : Nat) : ∀ (enc : α → List Value) (k : Nat) (_hk2 : k = 2) (cf : α → α → Int) (g : Nat) (cb : Array Value) (blk off cap : Nat) (d0 d : Array α) (w0 W : World)
    (_eg : ∀ args w, (callFunc g args).run Tryd.prog w = .ok (.enter g args) w) (_hcmp : CmpLays Tryd.prog g cb enc k cf blk off d0.size w0) (_R : RowK enc k w0 blk off d0) (_hs : d0.size = d.size) (_S : SWK enc k w0 blk off d W) (_hsz : d.size < 4294967296) (_irr : ∀ p q r : α, ltOf cf p q = false → ltOf cf q r = false → ltOf cf p r = false) (a m b : Nat) (x u v y : List α) (_hN : b - a ≤ N) (_h : Is d (x ++ (u ++ (v ++ y)))) (_ha : x.length = a) (_hm : a + u.length = m) (_hb : m + v.length = b) (_hu0 : 0 < u.length) (_hv0 : 0 < v.length) (_hu : AscS (ltOf cf) u) (_hv : AscS (ltOf cf) v),
      Calls Tryd.prog 81 #[.slice (some ⟨blk, off, none⟩) d.size cap, .int .i64 a, .int .i64 m, .int .i64 b, .func (.func g) #[] cb] W fun e w' => e = .returned (.tuple #[]) ∧ ∃ d' : Array α, d'.size = d.size ∧ Is d' (x ++ (mergS (ltOf cf) u v ++ y)) ∧ SWK enc k w0 blk off d' w' := by
  induction N with
  | zero => intros; exfalso; omega
  | succ N ih =>
    intro enc k hk2 cf g cb blk off cap d0 d w0 W eg hcmp R hs S hsz irr a m b x u v y hN h ha hm hb hu0 hv0 hu hv
    match u, v, h, hm, hb, hu0, hv0, hu, hv with
    | [z], v, h, hm, hb, _, _, _, hv => exact symP_mergeA enc k hk2 cf g cb blk off cap d0 d w0 W eg hcmp R hs S hsz irr a m b x v y z h ha hm hb hv
    | p :: q :: u, [z], h, hm, hb, _, _, hu, _ => exact symP_mergeB enc k hk2 cf g cb blk off cap d0 d w0 W eg hcmp R hs S hsz irr a m b x (p :: q :: u) y z h ha hm hb hu (by simp)
    | p :: q :: u, p' :: q' :: v, h, hm, hb, _, _, hu, hv => exact symP_mergeC N ih enc k hk2 cf g cb blk off cap d0 d w0 W eg hcmp R hs S hsz irr a m b x (p :: q :: u) (p' :: q' :: v) y hN h ha hm hb (by simp) (by simp) hu hv

theorem symP_ins (enc : α → List Value) (k : Nat) (hk2 : k = 2) (cf : α → α → Int) (g : Nat) (cb : Array Value) (blk off cap : Nat) (d0 d : Array α) (w0 W : World)
    (eg : ∀ args w, (callFunc g args).run Tryd.prog w = .ok (.enter g args) w) (hcmp : CmpLays Tryd.prog g cb enc k cf blk off d0.size w0) (R : RowK enc k w0 blk off d0) (hs : d0.size = d.size) (S : SWK enc k w0 blk off d W) (hsz : d.size < 4294967296) (a b : Nat) (x u y : List α) (h : Is d (x ++ (u ++ y))) (ha : x.length = a) (hb : a + u.length = b) :
    Calls Tryd.prog 80 #[.slice (some ⟨blk, off, none⟩) d.size cap, .int .i64 a, .int .i64 b, .func (.func g) #[] cb] W fun e w' => e = .returned (.tuple #[]) ∧ ∃ d' : Array α, d'.size = d.size ∧ Is d' (x ++ (mergS (ltOf cf) [] u ++ y)) ∧ SWK enc k w0 blk off d' w' := by
  have hlen := h.size
  simp only [List.length_append] at hlen
  subst hk2
  have hH : HoldsK enc 2 W blk off d := S.holds R.hblk R.hH hs.symm
  have hC : CmpLays Tryd.prog g cb enc 2 cf blk off d.size W := by
    obtain ⟨n, os, hw⟩ := S
    intro m os' dk hd p q
    obtain ⟨n2, os2, e2⟩ := SWK.on (W := W) ⟨n, os, hw⟩ R.hblk m dk os' hd
    rw [e2]
    exact hcmp n2 os2 dk (hd.trans hs.symm) p q
  have := AnyQ.insertionSortCmpFunc Tryd.laysInsP 2 Tryd.isAgg42 Tryd.sizeOf42 enc R.hk R.h1 cf g cb blk off cap a b d W eg hC hH (S.lt R.hblk) (by omega) (by omega) (by omega)
  refine Calls.mono (show Calls Tryd.prog 80 _ W _ from this) fun e w' ⟨he, n, os, hw⟩ => ?_
  have hsz9 : (Sort.insertionSort (ltOf cf) d a b).size = d.size := by
    have e1 := (insertion_list (ltOf cf) h ha hb).size
    have e2 := h.size
    rw [e1, e2]
    simp [mergS_len]
  refine ⟨he, _, hsz9, insertion_list (ltOf cf) h ha hb, ?_⟩
  rw [hw]
  exact S.on R.hblk n _ os hsz9

set_option maxHeartbeats 8000000 in
set_option maxRecDepth 1000000 in
/-- The whole row sorted, what is equal in its order. -/
theorem symP_stab (enc : α → List Value) (k : Nat) (hk2 : k = 2) (cf : α → α → Int) (g : Nat) (cb : Array Value) (blk off cap : Nat) (d0 d : Array α) (w0 W : World)
    (eg : ∀ args w, (callFunc g args).run Tryd.prog w = .ok (.enter g args) w) (hcmp : CmpLays Tryd.prog g cb enc k cf blk off d0.size w0) (R : RowK enc k w0 blk off d0) (hs : d0.size = d.size) (S : SWK enc k w0 blk off d W) (hsz : d.size < 4294967296) (irr : ∀ p q r : α, ltOf cf p q = false → ltOf cf q r = false → ltOf cf p r = false) (tot : ∀ p q : α, ltOf cf p q = true → ltOf cf q p = false) (l : List α) (n : Nat) (h : Is d l) (hn : d.size = n) :
    Calls Tryd.prog 77 #[.slice (some ⟨blk, off, none⟩) d.size cap, .int .i64 n, .func (.func g) #[] cb] W fun e w' => e = .returned (.tuple #[]) ∧ ∃ d' : Array α, d'.size = d.size ∧ Is d' (mergS (ltOf cf) [] l) ∧ SWK enc k w0 blk off d' w' := by
  have aE : ∀ w, (isAgg 42).run Tryd.prog w = .ok true w := Tryd.isAgg42
  have zE : ∀ w, (Go.sizeOf 42).run Tryd.prog w = .ok k w := by rw [hk2]; exact Tryd.sizeOf42
  have HK2 : Hid (k = 2) := hk2
  have HC : Aside _ := hcmp
  have S0 : Aside _ := S
  have mixed : Tryd.prog.follows Departure.mixedOrders = true := by kernel_rfl
  clear hk2 hcmp S
  have hlen : l.length = n := by rw [← hn]; exact h.size.symm
  have I0 : Hid (Is d ([] ++ l) ∧ [] ++ runsS (ltOf cf) 20 l = runsS (ltOf cf) 20 l) := hid ⟨h, rfl⟩
  have HL := hid hlen
  have HN := hid hn
  have hn2 : n < 4294967296 := by omega
  have w20 : IntKind.i64.wrap 40 = 40 := by rw [IntKind.wrap_i64]; omega
  have ASC := hid (asc_merg (ltOf cf) irr tot)
  have HALF := hid (mergS_halves (ltOf cf) irr tot)
  have cins := fun (a b : Nat) (dk : Array α) (wr : World) (S1 : SWK enc k w0 blk off dk wr) (hsk : dk.size = d.size) (x u y : List α) (I : Is dk (x ++ (u ++ y))) (ha : x.length = a) (hb : a + u.length = b) => symP_ins enc k HK2.out cf g cb blk off cap d0 dk w0 wr eg HC.out R (hs.trans hsk.symm) S1 (by omega) a b x u y I ha hb
  have cmer := fun (a m b : Nat) (dk : Array α) (wr : World) (S1 : SWK enc k w0 blk off dk wr) (hsk : dk.size = d.size) (x u v y : List α) (I : Is dk (x ++ (u ++ (v ++ y)))) (ha : x.length = a) (hm : a + u.length = m) (hb : m + v.length = b) (hu0 : 0 < u.length) (hv0 : 0 < v.length) (hu : AscS (ltOf cf) u) (hv : AscS (ltOf cf) v) => symP_merge (b - a) enc k HK2.out cf g cb blk off cap d0 dk w0 wr eg HC.out R (hs.trans hsk.symm) S1 (by omega) irr a m b x u v y (Nat.le_refl _) I ha hm hb hu0 hv0 hu hv
  have CI := hid cins
  have CM := hid cmer
  clear h hlen hn cins cmer
  go_enter Tryd.func77, Tryd.ntmps77
  go_wp2
  go_loopg [7, 8] n (fun g1 va vb wr => ∃ (a : Nat) (P Q : List α) (dk : Array α), va = .int .i64 a ∧ vb = .int .i64 (((a + 20 : Nat)) : Int) ∧ a ≤ n ∧ n ≤ g1 + a ∧ a + Q.length = n ∧ dk.size = d.size ∧ P.length = a ∧ Aside (SWK enc k w0 blk off dk wr) ∧ Hid (Is dk (P ++ Q) ∧ P ++ runsS (ltOf cf) 20 Q = runsS (ltOf cf) 20 l))
  case atStart => exact ⟨0, [], l, d, rfl, rfl, by omega, by omega, by have := HL.out; omega, rfl, rfl, S0, I0⟩
  case round =>
    clear S0 I0
    obtain ⟨a, P, Q, dk, rfl, rfl, han, hg1, hQ, hsk, hP, S1, I1⟩ := hrel
    have q1 : IntKind.i64.wrap (((a + 20 : Nat) : Int) + 20) = (((a + 20 + 20 : Nat)) : Int) := by rw [IntKind.wrap_i64]; omega
    by_cases hle : a + 20 ≤ n
    · have hlez : ((a + 20 : Nat) : Int) ≤ (n : Int) := by omega
      obtain ⟨U, Q', hUQ, hU⟩ := parts2 Q (n := 20) (by omega)
      have hQ' : a + 20 + Q'.length = n := by rw [hUQ, List.length_append] at hQ; omega
      have hc := CI.out a (a + 20) dk wr S1.out hsk P U Q' (by rw [← hUQ]; exact I1.out.1) hP (by omega)
      rw [hsk] at hc
      have HU := hid (And.intro hUQ hU)
      have HP := hid hP
      clear hUQ hU hP hQ S1
      go_wp2_with (go_at_call 80; refine hc.mono ?_; rintro e w1 ⟨rfl, d1, hs1, I2, S2⟩; replace I2 := hid I2)
      go_roundg (n - (a + 20))
      case measure => omega
      case rel => exact ⟨a + 20, P ++ mergS (ltOf cf) [] U, Q', d1, rfl, by first | rfl | (congr 1; omega), by omega, by omega, by omega, by omega, by rw [List.length_append, mergS_len, HP.out, HU.out.2]; rfl, S2, hid ⟨by have := I2.out; rw [List.append_assoc]; exact this, by rw [← I1.out.2, HU.out.1, runs_more (ltOf cf) HU.out.2 (by decide), List.append_assoc]⟩⟩
    · have hlez : ¬ ((a + 20 : Nat) : Int) ≤ (n : Int) := by omega
      have hc := CI.out a n dk wr S1.out hsk P Q [] (by have := I1.out.1; simpa using this) hP (by omega)
      rw [hsk] at hc
      have I3 : Hid (P ++ (mergS (ltOf cf) [] Q ++ []) = runsS (ltOf cf) 20 l) := hid (by rw [← I1.out.2, List.append_nil, runs_short (ltOf cf) (by omega)])
      clear I1 hP hQ S1 hg1 q1
      go_wp2_with (go_at_call 80; refine hc.mono ?_; rintro e w1 ⟨rfl, d1, hs1, I2, S2⟩; replace I2 := hid I2; replace S2 := (show Aside _ from S2))
      have I4 : Hid (Is d1 (runsS (ltOf cf) 20 l)) := hid (by rw [← I3.out]; exact I2.out)
      clear I2 I3 hc hlez
      have hs1' : d1.size = d.size := by omega
      clear hs1
      clear hsk
      go_loopg [6, 7, 8, 9] n (fun g1 vs va vb vm wr => ∃ (s : Nat) (dk : Array α), vs = .int .i64 s ∧ 20 ≤ s ∧ s ≤ 2 * n + 20 ∧ n ≤ g1 + s ∧ dk.size = d.size ∧ Aside (SWK enc k w0 blk off dk wr) ∧ Hid (Is dk (runsS (ltOf cf) s l)))
      case atStart => exact ⟨20, d1, rfl, by omega, by omega, by omega, hs1', S2, I4⟩
      case round =>
        clear S2 I4 hs1'
        obtain ⟨s, dk, rfl, hs20, hsn, hg1, hsk, S1, I1⟩ := hrel
        by_cases hlt : s < n
        · have hltz : (s : Int) < (n : Int) := by omega
          have q1 : IntKind.i64.wrap (2 * (s : Int)) = ((2 * s : Nat) : Int) := by rw [IntKind.wrap_i64]; omega
          have q2 : IntKind.i64.wrap ((s : Int) * 2) = ((2 * s : Nat) : Int) := by rw [IntKind.wrap_i64]; omega
          go_wp2
          go_loopg [7, 8] n (fun g2 va vb wr => ∃ (a : Nat) (P Q : List α) (dk : Array α), va = .int .i64 a ∧ vb = .int .i64 ((a + 2 * s : Nat) : Int) ∧ a ≤ n ∧ n ≤ g2 + a ∧ a + Q.length = n ∧ dk.size = d.size ∧ P.length = a ∧ Aside (SWK enc k w0 blk off dk wr) ∧ Hid (Is dk (P ++ runsS (ltOf cf) s Q) ∧ P ++ runsS (ltOf cf) (2 * s) Q = runsS (ltOf cf) (2 * s) l))
          case atStart => exact ⟨0, [], l, dk, rfl, by first | rfl | (congr 1; omega), by omega, by omega, by have := HL.out; omega, hsk, rfl, S1, hid ⟨I1.out, rfl⟩⟩
          case round =>
            clear S1 I1 hsk
            obtain ⟨a, P, Q, dk, rfl, rfl, han, hg2, hQ, hsk, hP, S1, I1⟩ := hrel
            have r1 : IntKind.i64.wrap (((a + 2 * s : Nat) : Int) + ((2 * s : Nat) : Int)) = ((a + 2 * s + 2 * s : Nat) : Int) := by rw [IntKind.wrap_i64]; omega
            have r2 : IntKind.i64.wrap ((a : Int) + (s : Int)) = ((a + s : Nat) : Int) := by rw [IntKind.wrap_i64]; omega
            by_cases hle : a + 2 * s ≤ n
            · have hlez : ((a + 2 * s : Nat) : Int) ≤ (n : Int) := by omega
              obtain ⟨U, Q1, hUQ, hU⟩ := parts2 Q (n := s) (by omega)
              obtain ⟨V, Q', hVQ, hV⟩ := parts2 Q1 (n := s) (by rw [hUQ, List.length_append] at hQ; omega)
              have hQ' : a + 2 * s + Q'.length = n := by rw [hUQ, hVQ, List.length_append, List.length_append] at hQ; omega
              have hc := CM.out a (a + s) (a + 2 * s) dk wr S1.out hsk P (mergS (ltOf cf) [] U) (mergS (ltOf cf) [] V) (runsS (ltOf cf) s Q') (by have := I1.out.1; rw [hUQ, hVQ, runs_more (ltOf cf) hU (by omega), runs_more (ltOf cf) hV (by omega)] at this; exact this) hP (by rw [mergS_len, hU]; simp) (by rw [mergS_len, hV]; simp; omega) (by rw [mergS_len, hU]; simp; omega) (by rw [mergS_len, hV]; simp; omega) (ASC.out U) (ASC.out V)
              rw [hsk, HALF.out U V] at hc
              have I3 : Hid ((P ++ mergS (ltOf cf) [] (U ++ V)) ++ runsS (ltOf cf) (2 * s) Q' = runsS (ltOf cf) (2 * s) l) := hid (by rw [← I1.out.2, hUQ, hVQ, ← List.append_assoc U V Q', runs_more (ltOf cf) (u := U ++ V) (by rw [List.length_append]; omega) (by omega), List.append_assoc])
              have hlp : (P ++ mergS (ltOf cf) [] (U ++ V)).length = a + 2 * s := by rw [List.length_append, mergS_len, List.length_append, hP, hU, hV]; simp; omega
              have HP := hid hlp
              clear hUQ hVQ hU hV hP hQ S1 I1 hlp
              go_wp2_with (go_at_call 81; refine hc.mono ?_; rintro e w1 ⟨rfl, d1, hs1, I2, S2⟩; replace I2 := hid I2)
              go_roundg (n - (a + 2 * s))
              case measure => omega
              case rel => exact ⟨a + 2 * s, P ++ mergS (ltOf cf) [] (U ++ V), Q', d1, rfl, by first | rfl | (congr 1; omega), by omega, by omega, by omega, by omega, HP.out, S2, hid ⟨by have := I2.out; rw [List.append_assoc]; exact this, I3.out⟩⟩
            · have hlez : ¬ ((a + 2 * s : Nat) : Int) ≤ (n : Int) := by omega
              by_cases hm : a + s < n
              · have hmz : ((a + s : Nat) : Int) < (n : Int) := by omega
                obtain ⟨U, V, hUQ, hU⟩ := parts2 Q (n := s) (by omega)
                have hV : V.length = n - (a + s) := by rw [hUQ, List.length_append] at hQ; omega
                have hc := CM.out a (a + s) n dk wr S1.out hsk P (mergS (ltOf cf) [] U) (mergS (ltOf cf) [] V) [] (by have := I1.out.1; rw [hUQ, runs_more (ltOf cf) hU (by omega), runs_short (ltOf cf) (l := V) (by omega)] at this; simpa using this) hP (by rw [mergS_len, hU]; simp) (by rw [mergS_len, hV]; simp; omega) (by rw [mergS_len, hU]; simp; omega) (by rw [mergS_len, hV]; simp; omega) (ASC.out U) (ASC.out V)
                rw [hsk, HALF.out U V] at hc
                have I3 : Hid (P ++ (mergS (ltOf cf) [] (U ++ V) ++ []) = runsS (ltOf cf) (2 * s) l) := hid (by rw [← I1.out.2, hUQ, runs_short (ltOf cf) (l := U ++ V) (by rw [List.length_append]; omega), List.append_nil])
                clear hUQ hU hV hP hQ S1 I1
                go_wp2_with (go_at_call 81; refine hc.mono ?_; rintro e w1 ⟨rfl, d1, hs1, I2, S2⟩; replace I2 := hid I2)
                go_roundg (n - 2 * s)
                case measure => omega
                case rel => exact ⟨2 * s, d1, rfl, by omega, by omega, by omega, by omega, S2, hid (by rw [← I3.out]; exact I2.out)⟩
              · have hmz : ¬ ((a + s : Nat) : Int) < (n : Int) := by omega
                have I3 : Hid (Is dk (runsS (ltOf cf) (2 * s) l)) := hid (by
                  have := I1.out.1
                  rw [← I1.out.2]
                  rw [runs_short (ltOf cf) (l := Q) (by omega)] at this
                  rw [runs_short (ltOf cf) (l := Q) (by omega)]
                  exact this)
                clear hP hQ I1
                go_wp2
                go_roundg (n - 2 * s)
                case measure => omega
                case rel => exact ⟨2 * s, dk, rfl, by omega, by omega, by omega, hsk, S1, I3⟩
        · have hltz : ¬ (s : Int) < (n : Int) := by omega
          go_wp2
          go_end0
          exact ⟨rfl, dk, hsk, by have := I1.out; rwa [runs_short (ltOf cf) (by have := HL.out; omega)] at this, S1.out⟩
set_option maxHeartbeats 4000000 in
theorem symP_sort (enc : α → List Value) (k : Nat) (hk2 : k = 2) (cf : α → α → Int) (g : Nat) (cb : Array Value) (blk off cap : Nat) (d0 d : Array α) (w0 W : World)
    (eg : ∀ args w, (callFunc g args).run Tryd.prog w = .ok (.enter g args) w) (hcmp : CmpLays Tryd.prog g cb enc k cf blk off d0.size w0) (R : RowK enc k w0 blk off d0) (hs : d0.size = d.size) (S : SWK enc k w0 blk off d W) (hsz : d.size < 4294967296) (irr : ∀ p q r : α, ltOf cf p q = false → ltOf cf q r = false → ltOf cf p r = false) (tot : ∀ p q : α, ltOf cf p q = true → ltOf cf q p = false) (l : List α) (h : Is d l) :
    Calls Tryd.prog 67 #[.slice (some ⟨blk, off, none⟩) d.size cap, .func (.func g) #[] cb] W fun e w' => e = .returned (.tuple #[]) ∧ ∃ d' : Array α, d'.size = d.size ∧ Is d' (mergS (ltOf cf) [] l) ∧ SWK enc k w0 blk off d' w' := by
  have cst := symP_stab enc k hk2 cf g cb blk off cap d0 d w0 W eg hcmp R hs S hsz irr tot l d.size h rfl
  clear hcmp S R
  go_enter Tryd.func67, Tryd.ntmps67
  go_wp2_with (go_at_call 77; refine cst.mono ?_; rintro e w1 ⟨rfl, d1, hs1, I2, S2⟩)
  go_end0
  exact ⟨rfl, d1, hs1, I2, S2⟩

end

end Go.Proofs.YtoodnblhjopnlaaDoor
