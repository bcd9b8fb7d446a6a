/-
  What the reference of mapfile answers: names, numbers, pieces, Valid, Print.
-/
import Derived.Test.YtmpbgfobiceehaaGreatDoorMapLandP
import Derived.Test.YtmpbgfobiceehaaGreatDoorMapRefP
import Derived.Test.YtmpbgfobiceehaaGreatDoorMapLandQ
import Derived.Test.YtmpbgfobiceehaaGreatDoorTerRefH
import Derived.Laws.OwnMore
import Derived.BigQuiet
namespace Go.Proofs.YtmpbgfobiceehaaGreatDoor

section
open Go.RowKit Go.Lib

/-- A name but for its length. -/
def firstB (s : List UInt8) : Bool := match s with
  | [] => true
  | c :: l => letB c && l.all wordB
theorem name_firstB (s : List UInt8) : nameB s = (decide (1 ≤ s.length ∧ s.length ≤ 12) && firstB s) := by
  unfold nameB firstB
  cases s with
  | nil => rfl
  | cons c l => rfl
theorem firstB_snoc (l : List UInt8) (c : UInt8) : firstB (l ++ [c]) = (firstB l && (if l = [] then letB c else wordB c)) := by
  cases l with
  | nil => simp [firstB]
  | cons a l => simp [firstB, Bool.and_assoc]
theorem take_nil {s : ByteArray} {k : Nat} (hk : k < s.size) (h : s.data.toList.take k = []) : k = 0 := by
  have := congrArg List.length h
  have hl : s.data.toList.length = s.size := (Lib.size_eq s).symm
  rw [List.length_take, List.length_nil] at this
  omega
theorem first_next {s : ByteArray} {k : Nat} (hk : k < s.size) (h : firstB (s.data.toList.take k) = true)
    (hc : (97 ≤ ((s[k]'hk).toNat : Int) ∧ ((s[k]'hk).toNat : Int) ≤ 122) ∨ (k ≠ 0 ∧ (((s[k]'hk).toNat : Int) = 95 ∨ (48 ≤ ((s[k]'hk).toNat : Int) ∧ ((s[k]'hk).toNat : Int) ≤ 57)))) : firstB (s.data.toList.take (k + 1)) = true := by
  rw [take_next hk, firstB_snoc, h, Bool.true_and]
  by_cases hl : 97 ≤ (s[k]'hk).toNat ∧ (s[k]'hk).toNat ≤ 122
  · have : letB (s[k]'hk) = true := by unfold letB; exact decide_eq_true hl
    rw [let_word this, this]
    simp
  · rw [if_neg (fun e => by have := take_nil hk e; omega)]
    rcases hc with hc | ⟨_, hc | hc⟩
    · omega
    · have : (s[k]'hk) = 95 := UInt8.toNat_inj.1 (by show (s[k]'hk).toNat = 95; omega)
      rw [this]; rfl
    · have : digB (s[k]'hk) = true := by unfold digB; exact decide_eq_true (by omega)
      unfold wordB
      rw [this]; simp
theorem first_bad {s : ByteArray} {k : Nat} (hk : k < s.size) (hc : ¬ ((97 ≤ ((s[k]'hk).toNat : Int) ∧ ((s[k]'hk).toNat : Int) ≤ 122) ∨ (k ≠ 0 ∧ (((s[k]'hk).toNat : Int) = 95 ∨ (48 ≤ ((s[k]'hk).toNat : Int) ∧ ((s[k]'hk).toNat : Int) ≤ 57))))) : nameB s.data.toList = false := by
  have h1 : firstB (s.data.toList.take (k + 1)) = false := by
    rw [take_next hk, firstB_snoc]
    have hl : letB (s[k]'hk) = false := by unfold letB; exact decide_eq_false (by omega)
    split
    · rw [hl, Bool.and_false]
    · rename_i h0
      have k0 : k ≠ 0 := fun e => h0 (by rw [e]; rfl)
      have hd : digB (s[k]'hk) = false := by unfold digB; exact decide_eq_false (by omega)
      have h5 : ((s[k]'hk) == 95) = false := beq_eq_false_iff_ne.2 (fun e => by
        have : (s[k]'hk).toNat = 95 := by rw [e]; rfl
        omega)
      unfold wordB
      rw [hl, hd, h5]
      simp
  have h2 : ∀ (a b : List UInt8), firstB a = false → firstB (a ++ b) = false := by
    intro a b h
    cases a with
    | nil => simp [firstB] at h
    | cons c l =>
      simp only [firstB, List.cons_append, List.all_append] at h ⊢
      rw [← Bool.and_assoc, h, Bool.false_and]
  have h3 := h2 _ (s.data.toList.drop (k + 1)) h1
  rw [List.take_append_drop] at h3
  rw [name_firstB, h3, Bool.and_false]

set_option maxHeartbeats 2000000 in
theorem rname_b (s : ByteArray) (b : Bool) (W : World) (hs : s.size ≤ 100000) (e : Hid (b = nameB s.data.toList)) :
    Calls Tryz.prog 38 #[.string s] W fun e w' => e = .returned (.bool b) ∧ W = w' := by
  have hsl : s.data.toList.length = s.size := (Lib.size_eq s).symm
  go_enter Tryz.func38, Tryz.ntmps38
  go_wp2_with fail
  go_loop [3] (fun vi => ∃ k : Nat, vi = .int .i64 k ∧ k ≤ s.size ∧ Hid (firstB (s.data.toList.take k) = true)) (fun vi => s.size - (RowKit.intOf vi).toNat)
  case atStart => exact ⟨0, rfl, by omega, hid rfl⟩
  case round =>
    obtain ⟨k, rfl, hk, hA⟩ := hrel
    by_cases hlt : k < s.size
    · have k0 : (0 : Int) ≤ k := by omega
      have k1 : (k : Int) < s.size := by omega
      obtain ⟨c, hc⟩ : ∃ c : Int, ((s[k]'hlt).toNat : Int) = c := ⟨_, rfl⟩
      have hN := fun q => hid (first_next hlt hA.out q)
      have hB := fun q => hid (e.out.trans (first_bad hlt q))
      rw [hc] at hN hB
      clear hA e
      by_cases hl : 97 ≤ c ∧ c ≤ 122
      · have z1 : decide (97 ≤ c) = true := decide_eq_true hl.1
        have z2 : decide (c ≤ 122) = true := decide_eq_true hl.2
        have HS := hN (.inl hl)
        clear hN hB hl
        go_wp2_with fail
        go_round
        case rel => exact ⟨k + 1, by go_num, by omega, HS⟩
        case measure => simp [RowKit.intOf]; omega
      · by_cases h0 : k = 0
        · subst h0
          have hb := hB (by omega)
          clear hN hB
          have hb := hb.out
          subst hb
          by_cases h97 : 97 ≤ c
          · have z1 : decide (97 ≤ c) = true := decide_eq_true h97
            have z2 : decide (c ≤ 122) = false := decide_eq_false (by omega)
            go_wp2_with fail
            go_ret
            exact ⟨rfl, rfl⟩
          · have z1 : decide (97 ≤ c) = false := decide_eq_false h97
            go_wp2_with fail
            go_ret
            exact ⟨rfl, rfl⟩
        · have z0 : ((k : Int) == 0) = false := beq_eq_false_iff_ne.2 (by omega)
          by_cases h97 : 97 ≤ c
          · have z1 : decide (97 ≤ c) = true := decide_eq_true h97
            have z2 : decide (c ≤ 122) = false := decide_eq_false (by omega)
            have z3 : (c != 95) = true := by simp; omega
            have z4 : decide (c < 48) = false := decide_eq_false (by omega)
            have z5 : decide (57 < c) = true := decide_eq_true (by omega)
            have hb := (hB (by omega)).out
            clear hN hB
            subst hb
            go_wp2_with fail
            go_ret
            exact ⟨rfl, rfl⟩
          · have z1 : decide (97 ≤ c) = false := decide_eq_false h97
            by_cases h5 : c = 95
            · have z3 : (c != 95) = false := by simp [h5]
              have HS := hN (.inr ⟨h0, .inl h5⟩)
              clear hN hB h5
              go_wp2_with fail
              go_round
              case rel => exact ⟨k + 1, by go_num, by omega, HS⟩
              case measure => simp [RowKit.intOf]; omega
            · have z3 : (c != 95) = true := by simp [h5]
              by_cases h48 : c < 48
              · have z4 : decide (c < 48) = true := decide_eq_true h48
                have hb := (hB (by omega)).out
                clear hN hB
                subst hb
                go_wp2_with fail
                go_ret
                exact ⟨rfl, rfl⟩
              · have z4 : decide (c < 48) = false := decide_eq_false h48
                by_cases h57 : 57 < c
                · have z5 : decide (57 < c) = true := decide_eq_true h57
                  have hb := (hB (by omega)).out
                  clear hN hB
                  subst hb
                  go_wp2_with fail
                  go_ret
                  exact ⟨rfl, rfl⟩
                · have z5 : decide (57 < c) = false := decide_eq_false h57
                  have HS := hN (by omega)
                  clear hN hB
                  go_wp2_with fail
                  go_round
                  case rel => exact ⟨k + 1, by go_num, by omega, HS⟩
                  case measure => simp [RowKit.intOf]; omega
    · obtain rfl : k = s.size := by omega
      have hb := e.out
      have hA2 := hA.out
      rw [take_all] at hA2
      rw [name_firstB, hA2, Bool.and_true, hsl] at hb
      clear hA hA2 e
      by_cases h1 : 1 ≤ s.size
      · have z1 : decide ((1 : Int) ≤ s.size) = true := decide_eq_true (by omega)
        by_cases h12 : s.size ≤ 12
        · have z2 : decide ((s.size : Int) ≤ 12) = true := decide_eq_true (by omega)
          rw [decide_eq_true ⟨h1, h12⟩] at hb
          subst hb
          go_wp2_with fail
          go_ret
          exact ⟨rfl, rfl⟩
        · have z2 : decide ((s.size : Int) ≤ 12) = false := decide_eq_false (by omega)
          rw [decide_eq_false (p := 1 ≤ s.size ∧ s.size ≤ 12) (fun q => h12 q.2)] at hb
          subst hb
          go_wp2_with fail
          go_ret
          exact ⟨rfl, rfl⟩
      · have z1 : decide ((1 : Int) ≤ s.size) = false := decide_eq_false (by omega)
        rw [decide_eq_false (p := 1 ≤ s.size ∧ s.size ≤ 12) (fun q => h1 q.1)] at hb
        subst hb
        go_wp2_with fail
        go_ret
        exact ⟨rfl, rfl⟩

theorem digits_at {n : Nat} (h : n < 10) : (ByteArray.mk #[48, 49, 50, 51, 52, 53, 54, 55, 56, 57]).extract n (n + 1) = bs [UInt8.ofNat (48 + n)] := by
  obtain rfl | rfl | rfl | rfl | rfl | rfl | rfl | rfl | rfl | rfl : n = 0 ∨ n = 1 ∨ n = 2 ∨ n = 3 ∨ n = 4 ∨ n = 5 ∨ n = 6 ∨ n = 7 ∨ n = 8 ∨ n = 9 := by omega
  all_goals decide
set_option maxHeartbeats 1000000 in
theorem rtext_b (n : Nat) : ∀ W : World, n ≤ 1000000000 → Calls Tryz.prog 31 #[.int .i64 n] W fun e w' => e = .returned (.string (bs (decDigits n))) ∧ W = w' := by
  induction n using Nat.strongRecOn with
  | _ n ih =>
    intro W hn
    rw [decDigits]
    by_cases h : n < 10
    · have z : decide ((n : Int) < 10) = true := decide_eq_true (by omega)
      have n0 : (0 : Int) ≤ n := by omega
      have n1 : (n : Int) + 1 ≤ 10 := by omega
      have hx := hid (digits_at h)
      rw [dif_pos h]
      clear ih
      go_enter Tryz.func31, Tryz.ntmps31
      go_wp2_with fail
      go_ret
      exact ⟨ret_str hx.out, rfl⟩
    · have z : decide ((n : Int) < 10) = false := decide_eq_false (by omega)
      have h1 := ih (n / 10) (by omega) W (by omega)
      have h2 := ih (n % 10) (by omega) W (by omega)
      have e1 : ((n / 10 : Nat) : Int) = (n : Int) / 10 := by omega
      have e2 : ((n % 10 : Nat) : Int) = (n : Int) % 10 := by omega
      have e3 : decDigits (n % 10) = [UInt8.ofNat (48 + n % 10)] := decDigits_one (by omega)
      rw [e1] at h1
      rw [e2, e3] at h2
      rw [dif_neg h]
      obtain ⟨u, hu⟩ : ∃ u, Hid (u = bs (decDigits (n / 10))) := ⟨_, hid rfl⟩
      obtain ⟨v, hv⟩ : ∃ u, Hid (u = bs [UInt8.ofNat (48 + n % 10)]) := ⟨_, hid rfl⟩
      have huv := hid (show u ++ v = bs (decDigits (n / 10) ++ [UInt8.ofNat (48 + n % 10)]) by rw [hu.out, hv.out, bs_app])
      rw [← hu.out] at h1
      rw [← hv.out] at h2
      have us : u.size ≤ 10 := by rw [hu.out, bs_size]; exact dec_len 9 _ (by have : (10 : Nat) ^ (9 + 1) = 10000000000 := rfl
                                                                              omega)
      have vs : v.size ≤ 10 := by rw [hv.out, bs_size]; simp
      clear ih e1 e2 e3
      go_enter Tryz.func31, Tryz.ntmps31
      go_wp2_with fail
      ((with_reducible refine h1.mono ?_); rintro e w1 ⟨rfl, rfl⟩)
      go_wp2_with fail
      ((with_reducible refine h2.mono ?_); rintro e w1 ⟨rfl, rfl⟩)
      go_wp2_with fail
      go_ret
      exact ⟨ret_str huv.out, rfl⟩

end

section
open Go.RowKit Go.Lib

/-- What the reference's Valid keeps while it goes on. -/
structure RIn (f : F3) (sc : Value) (p : Option Addr) (c : Nat) (W wr : World) : Prop where
  t : Held1 W wr W.heap.size [.string (bs f.name), .int .i64 f.m.w, .int .i64 f.m.h, sc, .slice p f.st.length c] 27
  r : RowAt wr sc f.m.cs
  q : PosAt wr (.slice p f.st.length c) f.st
theorem RIn.call {f : F3} {sc : Value} {p : Option Addr} {c : Nat} {W wr w' : World} (h : RIn f sc p c W wr) (hb : Below wr.heap.size wr w') : RIn f sc p c W w' := ⟨h.t.call hb, h.r.below hb, h.q.below hb⟩
theorem RIn.fields {f : F3} {sc : Value} {p : Option Addr} {c : Nat} {W wr : World} (h : RIn f sc p c W wr) :
    wr.cell? ⟨W.heap.size, 0, none⟩ = some (.string (bs f.name)) ∧ wr.cell? ⟨W.heap.size, 1, none⟩ = some (.int .i64 f.m.w) ∧ wr.cell? ⟨W.heap.size, 2, none⟩ = some (.int .i64 f.m.h) ∧ wr.cell? ⟨W.heap.size, 3, none⟩ = some sc ∧ wr.cell? ⟨W.heap.size, 4, none⟩ = some (.slice p f.st.length c) :=
  ⟨h.t.l.cell 0, h.t.l.cell 1, h.t.l.cell 2, h.t.l.cell 3, h.t.l.cell 4⟩
/-- The cells that a region reads, behind work that makes memory only. -/
theorem RIn.low {f : F3} {sc : Value} {p : Option Addr} {c : Nat} {W wr w' : World} {g o i : Nat} {x y : Int} (h : RIn f sc p c W wr) (a1 : wr.cell? ⟨g, o + i * 2, none⟩ = some (.int .i64 x)) (a2 : wr.cell? ⟨g, o + i * 2 + 1, none⟩ = some (.int .i64 y)) (hb : Below wr.heap.size wr w') :
    w'.cell? ⟨W.heap.size, 1, none⟩ = some (.int .i64 f.m.w) ∧ w'.cell? ⟨W.heap.size, 2, none⟩ = some (.int .i64 f.m.h) ∧ w'.cell? ⟨W.heap.size, 3, none⟩ = some sc ∧ w'.cell? ⟨W.heap.size, 4, none⟩ = some (.slice p f.st.length c) ∧ w'.cell? ⟨g, o + i * 2, none⟩ = some (.int .i64 x) ∧ w'.cell? ⟨g, o + i * 2 + 1, none⟩ = some (.int .i64 y) := by
  obtain ⟨_, b1, b2, b3, b4⟩ := (h.call hb).fields
  have k : g < wr.heap.size := World.block_lt_of_cell? wr _ a1
  exact ⟨b1, b2, b3, b4, (hb.cell (p := ⟨g, o + i * 2, none⟩) k).trans a1, (hb.cell (p := ⟨g, o + i * 2 + 1, none⟩) k).trans a2⟩
theorem take_mem {ps : List (Int × Int)} {k i : Nat} (hk : k < ps.length) (hki : k < i) : ps[k]'hk ∈ ps.take i := by
  rw [List.mem_take_iff_getElem]
  exact ⟨k, by omega, rfl⟩

set_option maxRecDepth 100000 in
set_option maxHeartbeats 4000000 in
theorem rvalidf_b (f : F3) (sc ss : Value) (r : Int) (W : World) (hr : RowAt W sc f.m.cs) (hp : PosAt W ss f.st) (hn : f.name.length ≤ 100000) (e : Hid (r = validf f)) :
    Calls Tryz.prog 15 #[.agg #[.string (bs f.name), .int .i64 f.m.w, .int .i64 f.m.h, sc, ss]] W fun e w' => e = .returned (.int .i64 r) ∧ Below W.heap.size W w' := by
  obtain ⟨p, c, rfl, hm, -⟩ := id hp
  unfold maxLen at hm
  have hcap := hm.1
  replace hm := Nat.le_trans hm.1 hm.2
  have hT := Held1.start W [.string (bs f.name), .int .i64 f.m.w, .int .i64 f.m.h, sc, .slice p f.st.length c] 27
  have hV : RIn f sc p c W _ := ⟨hT, hr.below hT.old, hp.below hT.old⟩
  clear hr hp hT
  have hs : (bs f.name).size ≤ 100000 := by rw [bs_size]; exact hn
  obtain ⟨F0, F1, F2, F3, F4⟩ := hV.fields
  have hv := e.out
  unfold validf at hv
  obtain ⟨nb, hnb⟩ : ∃ b, Hid (b = nameB (bs f.name).data.toList) := ⟨_, hid rfl⟩
  obtain ⟨vb, hvb⟩ : ∃ b, Hid (b = validm f.m) := ⟨_, hid rfl⟩
  have e1 : nameB f.name = nb := by rw [hnb.out]; simp [bs]
  rw [e1, ← hvb.out] at hv
  clear e e1
  go_enter Tryz.func15, Tryz.ntmps15
  go_wp2_with fail
  ((with_reducible refine (rname_b _ nb _ hs hnb).mono ?_); rintro e w1 ⟨rfl, rfl⟩)
  generalize W.alloc (.cells #[.string (bs f.name), .int .i64 f.m.w, .int .i64 f.m.h, sc, .slice p f.st.length c] 27) = V at *
  cases nb with
  | false =>
    rw [if_pos rfl] at hv
    subst hv
    go_wp2_with fail
    go_ret
    exact ⟨rfl, hV.t.old⟩
  | true =>
    rw [if_neg (by decide)] at hv
    go_wp2_with fail
    ((with_reducible refine (rvalidm_c f.m sc vb _ hV.r hvb).mono ?_); rintro e w1 ⟨rfl, hb⟩)
    replace hV := hV.call hb
    clear F0 F1 F2 F3 F4 hb
    obtain ⟨F0, F1, F2, F3, F4⟩ := hV.fields
    cases vb with
    | false =>
      rw [if_pos rfl] at hv
      subst hv
      go_wp2_with fail
      go_ret
      exact ⟨rfl, hV.t.old⟩
    | true =>
      rw [if_neg (by decide)] at hv
      have hL0 := Nat.zero_le f.st.length
      by_cases h2 : f.st.length < 2
      · rw [if_pos (.inl h2)] at hv
        subst hv
        have z : decide ((f.st.length : Int) < 2) = true := decide_eq_true (by omega)
        go_wp2_with fail
        go_ret
        exact ⟨rfl, hV.t.old⟩
      · have z : decide ((f.st.length : Int) < 2) = false := decide_eq_false (by omega)
        by_cases h6 : 6 < f.st.length
        · rw [if_pos (.inr h6)] at hv
          subst hv
          have z' : decide ((6 : Int) < f.st.length) = true := decide_eq_true (by omega)
          go_wp2_with fail
          go_ret
          exact ⟨rfl, hV.t.old⟩
        · rw [if_neg (by omega)] at hv
          have z' : decide ((6 : Int) < f.st.length) = false := decide_eq_false (by omega)
          have HV := hid hv
          clear hv
          go_wp2_with fail
          clear z z'
          go_loopw [3] (fun vi wr => ∃ i : Nat, vi = .int .i64 i ∧ i ≤ f.st.length ∧ RIn f sc p c W wr ∧ Hid (r = startsE f.m (f.st.take i) (f.st.drop i))) (fun vi _ => f.st.length - (RowKit.intOf vi).toNat)
          case atStart => exact ⟨0, rfl, by omega, hV, hid (by rw [HV.out]; rfl)⟩
          case round =>
            clear hV HV F0 F1 F2 F3 F4
            obtain ⟨i, rfl, hi, hV, hG⟩ := hrel
            obtain ⟨F0, F1, F2, F3, F4⟩ := hV.fields
            by_cases hlt : i < f.st.length
            · have d1 : (i : Int) < f.st.length := by omega
              have i0 : (0 : Int) ≤ i := by omega
              obtain ⟨g, o, c', e1, -, a1, a2⟩ := hV.q.at hlt
              injection e1 with e1 k1 k2
              subst e1
              clear k1 k2
              have hN := hid (show f.st.take (i + 1) = f.st.take i ++ [f.st[i]'hlt] from List.take_succ_eq_append_getElem hlt)
              have hS := hid (hG.out.trans (starts_drop f.m f.st hlt))
              obtain ⟨q, hq⟩ : ∃ q, f.st[i]'hlt = q := ⟨_, rfl⟩
              rw [hq] at a1 a2 hN hS
              obtain ⟨x, y⟩ := q
              dsimp only at a1 a2
              clear hq hG
              obtain ⟨pb, hpb⟩ : ∃ b, Hid (b = passv f.m 1 x y) := ⟨_, hid rfl⟩
              have hq := (Below.refl wr.heap.size wr).drew
              go_wp2_with fail
              go_region_held3 (fun w' => w'.cell? ⟨W.heap.size, 1, none⟩ = some (.int .i64 f.m.w) ∧ w'.cell? ⟨W.heap.size, 2, none⟩ = some (.int .i64 f.m.h) ∧ w'.cell? ⟨W.heap.size, 3, none⟩ = some sc ∧ w'.cell? ⟨W.heap.size, 4, none⟩ = some (.slice (some ⟨g, o, none⟩) f.st.length c) ∧ w'.cell? ⟨g, o + i * 2, none⟩ = some (.int .i64 x) ∧ w'.cell? ⟨g, o + i * 2 + 1, none⟩ = some (.int .i64 y))
                (first | exact RIn.low hV a1 a2 (by assumption))
                (first
                  | (go_at_call 40; with_reducible refine (rpass_b f.m _ 1 x y pb _ (hV.r.below hq) hpb).mono ?_; rintro e w' ⟨rfl, hb⟩; replace hq := below_call hq hb; clear hb))
              replace hV := hV.call hq
              have hS' := hS.out
              rw [← hpb.out] at hS'
              clear F0 F1 F2 F3 F4 a1 a2 hq hS hpb
              cases pb with
              | false =>
                rw [if_pos rfl] at hS'
                subst hS'
                go_wp2_with fail
                go_ret
                exact ⟨rfl, hV.t.old⟩
              | true =>
                rw [if_neg (by decide)] at hS'
                have HS := hid hS'
                clear hS'
                simp only [Bool.not_true]
                go_wp2_with fail
                go_loopw [4] (fun vk wr => ∃ k : Nat, vk = .int .i64 k ∧ k ≤ i ∧ RIn f sc (some ⟨g, o, none⟩) c W wr ∧ Hid (∀ q ∈ f.st.take k, q ≠ (x, y))) (fun vk _ => i - (RowKit.intOf vk).toNat)
                case atStart => exact ⟨0, rfl, by omega, hV, hid (by simp)⟩
                case round =>
                  clear hV
                  obtain ⟨k, rfl, hk, hV, hG⟩ := hrel
                  obtain ⟨F0, F1, F2, F3, F4⟩ := hV.fields
                  by_cases hki : k < i
                  · have d2 : (k : Int) < i := by omega
                    have d3 : (k : Int) < f.st.length := by omega
                    have k0 : (0 : Int) ≤ k := by omega
                    have hkl : k < f.st.length := by omega
                    obtain ⟨g2, o2, c2, e2, -, a1, a2⟩ := hV.q.at hlt
                    injection e2 with e2 k1 k2
                    injection e2 with e2
                    injection e2 with e2 e3
                    subst e2 e3
                    clear k1 k2
                    obtain ⟨g2, o2, c2, e2, -, b1, b2⟩ := hV.q.at hkl
                    injection e2 with e2 k1 k2
                    injection e2 with e2
                    injection e2 with e2 e3
                    subst e2 e3
                    clear k1 k2
                    have hiq : f.st[i]'hlt = (x, y) := by
                      have h := hN.out
                      rw [List.take_succ_eq_append_getElem hlt] at h
                      have h2 := List.append_cancel_left h
                      injection h2
                    rw [hiq] at a1 a2
                    dsimp only at a1 a2
                    have hkm := hid (take_mem hkl hki)
                    have hkn := hid (show f.st.take (k + 1) = f.st.take k ++ [f.st[k]'hkl] from List.take_succ_eq_append_getElem hkl)
                    obtain ⟨q, hq⟩ : ∃ q, f.st[k]'hkl = q := ⟨_, rfl⟩
                    rw [hq] at b1 b2 hkm hkn
                    obtain ⟨qx, qy⟩ := q
                    dsimp only at b1 b2
                    clear hq hiq
                    have hD := hid (show ∀ n, RIn f sc (some ⟨g, o, none⟩) c W (wr.drewN n) from fun n => hV.call (below_many (Below.refl _ wr) n))
                    by_cases hqq : (qx, qy) = (x, y)
                    · injection hqq with f1 f2
                      subst f1 f2
                      have hr7 := HS.out
                      rw [if_pos hkm.out] at hr7
                      subst hr7
                      clear HS hG hN hkn hV hkm
                      go_wp2_with fail
                      go_quiet (fail)
                      go_wp2_with fail
                      go_ret
                      exact ⟨rfl, (hD.out _).t.old⟩
                    · have hG2 : Hid (∀ q ∈ f.st.take (k + 1), q ≠ (x, y)) := hid (by
                        rw [hkn.out]; intro q hqm; rcases List.mem_append.1 hqm with h | h
                        · exact hG.out q h
                        · rw [List.mem_singleton] at h; rw [h]; exact hqq)
                      by_cases f1 : qx = x
                      · subst f1
                        have f2 : (qy == y) = false := beq_eq_false_iff_ne.2 fun h => hqq (by rw [h])
                        clear hqq hG hkn hV hkm
                        go_wp2_with fail
                        go_quiet (fail)
                        go_wp2_with fail
                        go_roundw
                        case rel => exact ⟨k + 1, by go_num, by omega, hD.out _, hG2⟩
                        case measure => simp [RowKit.intOf]; omega
                      · have f2 : (qx == x) = false := beq_eq_false_iff_ne.2 f1
                        clear hqq hG hkn hV hkm f1
                        go_wp2_with fail
                        go_quiet (fail)
                        go_wp2_with fail
                        go_roundw
                        case rel => exact ⟨k + 1, by go_num, by omega, hD.out _, hG2⟩
                        case measure => simp [RowKit.intOf]; omega
                  · obtain rfl : k = i := by omega
                    have hr := HS.out
                    rw [if_neg (fun hm => hG.out _ hm rfl)] at hr
                    have HR := hid hr
                    clear hr HS hG
                    go_wp2_with fail
                    go_roundw
                    case rel => exact ⟨k + 1, by go_num, by omega, hV, HR⟩
                    case measure => simp [RowKit.intOf]; omega
            · obtain rfl : i = f.st.length := by omega
              have hr0 : r = 0 := by rw [hG.out]; exact starts_end _ _ _ (Nat.le_refl _)
              subst hr0
              clear hG
              go_wp2_with fail
              go_ret
              exact ⟨rfl, hV.t.old⟩

end

section
open Go.RowKit Go.Lib

theorem head_at {s : ByteArray} (h : 0 < s.size) : s.data.toList.head? = some (s[0]'h) := by
  have hl : s.data.toList.length = s.size := by rw [← Lib.size_eq]
  have e : s.data.toList = s[0]'h :: s.data.toList.drop 1 := by
    conv => lhs; rw [← List.drop_zero (l := s.data.toList), List.drop_eq_getElem_cons (by omega)]
    rfl
  rw [e]
  rfl
theorem val_next {s : ByteArray} {k : Nat} (hk : k < s.size) : valN 0 (s.data.toList.take (k + 1)) = valN 0 (s.data.toList.take k) * 10 + ((s[k]'hk).toNat - 48) := by
  rw [take_next hk, valN_snoc]
theorem val_small {s : ByteArray} {k : Nat} (h7 : s.size ≤ 7) (h : (s.data.toList.take k).all digB = true) : valN 0 (s.data.toList.take k) < 10000000 := by
  have h1 := valN_lt _ h
  have hl : s.data.toList.length = s.size := (Lib.size_eq s).symm
  have h2 : (s.data.toList.take k).length ≤ 7 := by rw [List.length_take]; omega
  have h3 : 10 ^ (s.data.toList.take k).length ≤ 10 ^ 7 := Nat.pow_le_pow_right (by omega) h2
  have h4 : (10 : Nat) ^ 7 = 10000000 := rfl
  omega

set_option maxHeartbeats 2000000 in
theorem rnumber_b (s : ByteArray) (v : Int) (W : World) (hs : s.size ≤ 100000) (e : Hid (v = refNum s.data.toList)) :
    Calls Tryz.prog 82 #[.string s] W fun e w' => e = .returned (.int .i64 v) ∧ W = w' := by
  have hsl : s.data.toList.length = s.size := (Lib.size_eq s).symm
  by_cases h1 : s.size < 1
  · have z1 : decide ((s.size : Int) < 1) = true := decide_eq_true (by omega)
    have hv : v = -1 := e.out.trans (refNum_nil (by omega))
    subst hv
    clear e
    go_enter Tryz.func82, Tryz.ntmps82
    go_wp2_with fail
    go_ret
    exact ⟨rfl, rfl⟩
  · have z1 : decide ((s.size : Int) < 1) = false := decide_eq_false (by omega)
    by_cases h7 : 7 < s.size
    · have z2 : decide ((7 : Int) < s.size) = true := decide_eq_true (by omega)
      have hv : v = -1 := e.out.trans (refNum_long (by omega))
      subst hv
      clear e
      go_enter Tryz.func82, Tryz.ntmps82
      go_wp2_with fail
      go_ret
      exact ⟨rfl, rfl⟩
    · have z2 : decide ((7 : Int) < s.size) = false := decide_eq_false (by omega)
      have h0 : 0 < s.size := by omega
      have hh := head_at h0
      obtain ⟨c0, hc0⟩ : ∃ c : Int, ((s[0]'h0).toNat : Int) = c := ⟨_, rfl⟩
      by_cases hz : 1 < s.size ∧ c0 = 48
      · have z3 : decide ((1 : Int) < s.size) = true := decide_eq_true (by omega)
        have z4 : (c0 == 48) = true := by simp [hz.2]
        have h48 : (s[0]'h0) = 48 := UInt8.toNat_inj.1 (by show (s[0]'h0).toNat = 48; omega)
        have hv : v = -1 := e.out.trans (refNum_no (.inl (canon_zero (by omega) (by rw [hh, h48]))))
        subst hv
        obtain ⟨hz1, hz2⟩ := hz
        clear e hh h48 z4
        subst hz2
        go_enter Tryz.func82, Tryz.ntmps82
        go_wp2_with fail
        go_ret
        exact ⟨rfl, rfl⟩
      · have hT : Hid (∀ l, l = s.data.toList → l.all digB = true → canonB l = true) := hid (fun l hl hd => by
          subst hl
          rw [canon_iff]
          refine ⟨fun q => by rw [q] at hsl; simp at hsl; omega, hd, ?_⟩
          by_cases h2 : 1 < s.size
          · right
            rw [hh]
            intro q
            injection q with q
            have : (s[0]'h0).toNat = 48 := by rw [q]; rfl
            exact hz ⟨h2, by omega⟩
          · left; omega)
        have HE : Hid (v = refNum s.data.toList) := e
        clear e hh
        have HW : ∀ (Q : Prop), (decide ((1 : Int) < s.size) = false → Q) → (decide ((1 : Int) < s.size) = true → (c0 == 48) = false → Q) → Q := fun Q q1 q2 => by
          by_cases h2 : 1 < s.size
          · exact q2 (decide_eq_true (by omega)) (beq_eq_false_iff_ne.2 (fun q => hz ⟨h2, q⟩))
          · exact q1 (decide_eq_false (by omega))
        have h7' : s.size ≤ 7 := by omega
        have hmain : ∀ (K : Prop), K → K := fun _ k => k
        clear hz
        refine HW _ (fun z3 => ?_) (fun z3 z4 => ?_)
        all_goals
          clear HW hmain
          go_enter Tryz.func82, Tryz.ntmps82
          go_wp2_with fail
          clear z1 z2 z3
          try clear z4
          go_loop [3, 4] (fun vn vi => ∃ k n : Nat, vn = .int .i64 n ∧ vi = .int .i64 k ∧ k ≤ s.size ∧ n < 10000000 ∧ Hid (n = valN 0 (s.data.toList.take k) ∧ (s.data.toList.take k).all digB = true)) (fun _ vi => s.size - (RowKit.intOf vi).toNat)
          case atStart => exact ⟨0, 0, rfl, rfl, by omega, by omega, hid ⟨rfl, rfl⟩⟩
          case round =>
            obtain ⟨k, n, rfl, rfl, hk, hn, hA⟩ := hrel
            by_cases hlt : k < s.size
            · have k0 : (0 : Int) ≤ k := by omega
              have k1 : (k : Int) < s.size := by omega
              have hbad : digB (s[k]'hlt) = false → Hid (v = -1) := fun q => hid (HE.out.trans (refNum_no (.inl (canon_dig (all_not hlt q)))))
              have hgood : digB (s[k]'hlt) = true → Hid (n * 10 + ((s[k]'hlt).toNat - 48) = valN 0 (s.data.toList.take (k + 1)) ∧ (s.data.toList.take (k + 1)).all digB = true) := fun q => hid ⟨by rw [val_next hlt, hA.out.1], all_next hlt hA.out.2 q⟩
              have hd := digB_iff (s[k]'hlt)
              have hsm : Hid (valN 0 (s.data.toList.take (k + 1)) < 10000000 ∨ digB (s[k]'hlt) = false) := hid (by
                cases hq : digB (s[k]'hlt) with
                | false => exact .inr rfl
                | true => exact .inl (val_small h7' (all_next hlt hA.out.2 hq)))
              obtain ⟨c, hc⟩ : ∃ c : Nat, (s[k]'hlt).toNat = c := ⟨_, rfl⟩
              have hc2 : ((s[k]'hlt).toNat : Int) = c := by omega
              rw [hc] at hd hgood
              have hcb : c < 256 := by have := (s[k]'hlt).toNat_lt; omega
              clear hA hc
              by_cases h48 : c < 48
              · have z5 : decide ((c : Int) < 48) = true := decide_eq_true (by omega)
                have hv := (hbad (by cases hq : digB (s[k]'hlt) with
                  | false => rfl
                  | true => have := hd.1 hq; omega)).out
                subst hv
                clear hbad hgood hd hsm
                go_wp2_with fail
                go_ret
                exact ⟨rfl, rfl⟩
              · have z5 : decide ((c : Int) < 48) = false := decide_eq_false (by omega)
                by_cases h57 : 57 < c
                · have z6 : decide ((57 : Int) < c) = true := decide_eq_true (by omega)
                  have hv := (hbad (by cases hq : digB (s[k]'hlt) with
                    | false => rfl
                    | true => have := hd.1 hq; omega)).out
                  subst hv
                  clear hbad hgood hd hsm
                  go_wp2_with fail
                  go_ret
                  exact ⟨rfl, rfl⟩
                · have z6 : decide ((57 : Int) < c) = false := decide_eq_false (by omega)
                  have hq := hd.2 (by omega)
                  have HG := hgood hq
                  have hlt2 : n * 10 + (c - 48) < 10000000 := by
                    have h1 := HG.out.1
                    rcases hsm.out with h2 | h2
                    · omega
                    · rw [hq] at h2; cases h2
                  clear hbad hgood hd hsm hq
                  go_wp2_with fail
                  go_round
                  case rel => exact ⟨k + 1, n * 10 + (c - 48), by go_num, by go_num, by omega, hlt2, HG⟩
                  case measure => simp [RowKit.intOf]; omega
            · obtain rfl : k = s.size := by omega
              have hA2 := hA.out
              rw [take_all] at hA2
              have hc := hT.out _ rfl hA2.2
              by_cases hm : 1000000 < n
              · have z5 : decide ((1000000 : Int) < n) = true := decide_eq_true (by omega)
                have hv : v = -1 := HE.out.trans (refNum_no (.inr (by omega)))
                subst hv
                clear hA hA2 hc HE hT
                go_wp2_with fail
                go_ret
                exact ⟨rfl, rfl⟩
              · have z5 : decide ((1000000 : Int) < n) = false := decide_eq_false (by omega)
                have hv : v = n := by rw [HE.out, refNum_pos hc (by omega), hA2.1]
                subst hv
                clear hA hA2 hc HE hT
                go_wp2_with fail
                go_ret
                exact ⟨rfl, rfl⟩

/-- The place of a byte; -1 if it is not there. -/
def findI : List UInt8 → UInt8 → Nat → Int
  | [], _, _ => -1
  | b :: l, c, k => if b = c then (k : Int) else findI l c (k + 1)
theorem find_kind (c : UInt8) : kindV c = if findI [46, 126, 35, 84, 42] c 0 < 0 then none else some (findI [46, 126, 35, 84, 42] c 0 + 1) := by
  have h : ∀ n : Fin 256, kindV (UInt8.ofFin n) = if findI [46, 126, 35, 84, 42] (UInt8.ofFin n) 0 < 0 then none else some (findI [46, 126, 35, 84, 42] (UInt8.ofFin n) 0 + 1) := by decide +kernel
  exact h c.toFin
theorem find_high (c : UInt8) : highV c = if findI [48, 49, 50, 51] c 0 < 0 then none else some (findI [48, 49, 50, 51] c 0) := by
  have h : ∀ n : Fin 256, highV (UInt8.ofFin n) = if findI [48, 49, 50, 51] (UInt8.ofFin n) 0 < 0 then none else some (findI [48, 49, 50, 51] (UInt8.ofFin n) 0) := by decide +kernel
  exact h c.toFin
theorem find_le (l : List UInt8) (c : UInt8) : ∀ k : Nat, -1 ≤ findI l c k ∧ findI l c k ≤ k + l.length := by
  induction l with
  | nil => intro k; rw [findI]; simp
  | cons b l ih =>
    intro k
    rw [findI, List.length_cons]
    have := ih (k + 1)
    split <;> omega
theorem find_at {t : ByteArray} {k : Nat} (h : k < t.size) (c : UInt8) : findI (t.data.toList.drop k) c k = if t[k]'h = c then (k : Int) else findI (t.data.toList.drop (k + 1)) c (k + 1) := by
  have e : t.data.toList.drop k = (t[k]'h) :: t.data.toList.drop (k + 1) := by
    rw [List.drop_eq_getElem_cons (by rw [← Lib.size_eq]; exact h)]; rfl
  rw [e, findI]
theorem find_end {t : ByteArray} {k : Nat} (h : t.size ≤ k) (c : UInt8) : findI (t.data.toList.drop k) c k = -1 := by
  rw [List.drop_eq_nil_of_le (by rw [← Lib.size_eq]; exact h), findI]
set_option maxHeartbeats 1000000 in
theorem rfind_b (t : ByteArray) (c : UInt8) (v : Int) (W : World) (hs : t.size ≤ 100000) (e : Hid (v = findI t.data.toList c 0)) :
    Calls Tryz.prog 83 #[.string t, .int .u8 (c.toNat : Int)] W fun e w' => e = .returned (.int .i64 v) ∧ W = w' := by
  go_enter Tryz.func83, Tryz.ntmps83
  go_wp2_with fail
  go_loop [5] (fun vi => ∃ k : Nat, vi = .int .i64 k ∧ k ≤ t.size ∧ Hid (v = findI (t.data.toList.drop k) c k)) (fun vi => t.size - (RowKit.intOf vi).toNat)
  case atStart => exact ⟨0, rfl, by omega, e⟩
  case round =>
    obtain ⟨k, rfl, hk, hA⟩ := hrel
    clear e
    by_cases hlt : k < t.size
    · have k0 : (0 : Int) ≤ k := by omega
      have k1 : (k : Int) < t.size := by omega
      have h := hA.out.trans (find_at hlt c)
      by_cases hc : t[k]'hlt = c
      · rw [if_pos hc] at h
        subst h
        subst hc
        clear hA
        go_wp2_with fail
        go_ret
        exact ⟨rfl, rfl⟩
      · rw [if_neg hc] at h
        have HN := hid h
        have hz : (((t[k]'hlt).toNat : Int) == (c.toNat : Int)) = false := beq_eq_false_iff_ne.2 (fun q => hc (UInt8.toNat_inj.1 (by omega)))
        clear hA h hc
        go_wp2_with fail
        go_round
        case rel => exact ⟨k + 1, by go_num, by omega, HN⟩
        case measure => simp [RowKit.intOf]; omega
    · have h := hA.out.trans (find_end (by omega) c)
      subst h
      obtain rfl : k = t.size := by omega
      clear hA
      go_wp2_with fail
      go_ret
      exact ⟨rfl, rfl⟩

/-- A row of texts. -/
def strV (ls : List (List UInt8)) : List Value := ls.map fun l => .string (bs l)
theorem strV_len (ls : List (List UInt8)) : (strV ls).length = ls.length := by unfold strV; simp
theorem strV_at {ls : List (List UInt8)} {i : Nat} (h : i < ls.length) : (strV ls)[i]? = some (.string (bs (ls[i]'h))) := by
  unfold strV; rw [List.getElem?_map, List.getElem?_eq_getElem h]; rfl
theorem strV_snoc (ls : List (List UInt8)) (x : List UInt8) : strV ls ++ [.string (bs x)] = strV (ls ++ [x]) := by unfold strV; simp
theorem str_lone (x : ByteArray) : ∀ u ∈ ([.string x] : List Value), u.oneCell' = true := by
  intro u hu; simp at hu; subst hu; rfl
theorem infoStr : (Tryz.prog.info? 9).map (fun i => (i.zero, i.size, i.bytes)) = some (some (.string ⟨#[]⟩), 1, 16) := by kernel_rfl
theorem ext_drop (s : ByteArray) (i j : Nat) (_hj : j ≤ s.size) : s.extract i j = bs ((s.data.toList.drop i).take (j - i)) := by
  apply ByteArray.ext
  rw [ByteArray.data_extract]
  unfold bs
  apply Array.toList_inj.1
  rw [Array.toList_extract]
theorem drop_free {s : ByteArray} {c : UInt8} {i k : Nat} (hk : k < s.size) (hi : i ≤ k) (h : c ∉ (s.data.toList.drop i).take (k - i)) (hc : ¬ s[k]'hk = c) : c ∉ (s.data.toList.drop i).take (k + 1 - i) := by
  have hl : s.data.toList.length = s.size := (Lib.size_eq s).symm
  rw [show k + 1 - i = (k - i) + 1 by omega, List.take_succ_eq_append_getElem (by rw [List.length_drop]; omega), List.mem_append, not_or]
  refine ⟨h, fun q => ?_⟩
  rw [List.mem_singleton, List.getElem_drop] at q
  apply hc
  rw [q]
  show s.data[k] = _
  simp [show i + (k - i) = k by omega]
theorem parts_here {s : ByteArray} {c : UInt8} {i k : Nat} (hk : k < s.size) (hi : i ≤ k) (h : c ∉ (s.data.toList.drop i).take (k - i)) (hc : s[k]'hk = c) : parts c (s.data.toList.drop i) = (s.data.toList.drop i).take (k - i) :: parts c (s.data.toList.drop (k + 1)) := by
  have hl : s.data.toList.length = s.size := (Lib.size_eq s).symm
  have e : s.data.toList.drop i = (s.data.toList.drop i).take (k - i) ++ c :: s.data.toList.drop (k + 1) := by
    conv => lhs; rw [← List.take_append_drop (k - i) (s.data.toList.drop i)]
    congr 1
    rw [List.drop_drop, show i + (k - i) = k by omega, List.drop_eq_getElem_cons (by omega)]
    congr 1
  conv => lhs; rw [e]
  exact parts_of _ _ h

set_option maxHeartbeats 4000000 in
theorem rparts_b (s : ByteArray) (c : UInt8) (W : World) (hs : s.size ≤ 100000) (ls : List (List UInt8)) (e : Hid (ls = parts c s.data.toList)) :
    Calls Tryz.prog 46 #[.string s, .int .u8 (c.toNat : Int)] W fun e w' => ∃ g cap, e = .returned (.slice (some ⟨g, 0, none⟩) ls.length cap) ∧ w'.ownsRow W.heap.size 9 1 (.slice (some ⟨g, 0, none⟩) ls.length cap) ls.length (strV ls) ∧ Below W.heap.size W w' := by
  have hsl : s.data.toList.length = s.size := (Lib.size_eq s).symm
  obtain ⟨i0, hi0, hz0, hz1, hz2⟩ := info_cut infoStr
  go_enter Tryz.func46, Tryz.ntmps46
  go_wp2_with fail
  go_loopw [5, 6, 7] (fun vo vf vi wr => ∃ (k i : Nat) (l : List (List UInt8)), vi = .int .i64 k ∧ vf = .int .i64 i ∧ i ≤ k ∧ k ≤ s.size ∧ l.length ≤ i ∧ wr.ownsRow W.heap.size 9 1 vo l.length (strV l) ∧ Below W.heap.size W wr ∧ Hid (ls = l ++ parts c (s.data.toList.drop i) ∧ c ∉ (s.data.toList.drop i).take (k - i))) (fun _ _ vi _ => s.size - (RowKit.intOf vi).toNat)
  case atStart => exact ⟨0, 0, [], rfl, rfl, by omega, by omega, by simp, World.ownsRow_nil _ _ _ _, Below.refl _ _, hid ⟨e.out, by simp⟩⟩
  case round =>
    clear e
    obtain ⟨k, i, l, rfl, rfl, hik, hk, hll, hown, hL, hA⟩ := hrel
    have k0 : (0 : Int) ≤ k := by omega
    have i0' : (0 : Int) ≤ i := by omega
    have ik : (i : Int) ≤ k := by omega
    by_cases hlt : k < s.size
    · have k1 : (k : Int) < s.size := by omega
      have k2 : (k : Int) ≤ s.size := by omega
      by_cases hc : s[k]'hlt = c
      · have hx := ext_drop s i k (by omega)
        have hN := hid (show ls = (l ++ [(s.data.toList.drop i).take (k - i)]) ++ parts c (s.data.toList.drop (k + 1)) ∧ c ∉ (s.data.toList.drop (k + 1)).take (k + 1 - (k + 1)) from ⟨by rw [hA.out.1, parts_here hlt hik hA.out.2 hc, List.append_assoc]; rfl, by simp⟩)
        obtain ⟨x, hxe⟩ : ∃ x, x = (s.data.toList.drop i).take (k - i) := ⟨_, rfl⟩
        rw [← hxe] at hx hN
        have hz : (((s[k]'hlt).toNat : Int) == (c.toNat : Int)) = true := by rw [hc]; simp
        have HX := hid hx
        clear hA hx hxe
        go_wp2_with (at_builtin; refine wpList_append_own _ rfl _ _ 71 rfl W.heap.size 9 i0 (.string ⟨#[]⟩) 1 16 Tryz.underlying71 hi0 hz0 hz1 hz2 rfl (by decide) _ _ _ rfl (hown.alloc _) ⟨wr.heap.size, 0, none⟩ 1 1 [.string (s.extract i k)] rfl rfl cells_new (str_lone _) (by unfold maxLen; omega) (by omega) (by have := hL.size; simp; omega) ?_)
        intro v' w' hown' hg' _
        have hb' := below_push (t := 9) hL.size hL hown (Nat.le_refl _) hg'
        have hown2 := own_to hown' (m := (l ++ [x]).length) (ys := strV (l ++ [x])) (by simp) (by rw [HX.out]; exact strV_snoc l x)
        clear hg' hown hL hown' HX
        go_wp2_with fail
        go_roundw
        case rel => exact ⟨k + 1, k + 1, l ++ [x], by go_num, by go_num, by omega, by omega, by simp; omega, hown2, hb', hN⟩
        case measure => simp [RowKit.intOf]; omega
      · have hN := hid (show ls = l ++ parts c (s.data.toList.drop i) ∧ c ∉ (s.data.toList.drop i).take (k + 1 - i) from ⟨hA.out.1, drop_free hlt hik hA.out.2 hc⟩)
        have hz : (((s[k]'hlt).toNat : Int) == (c.toNat : Int)) = false := beq_eq_false_iff_ne.2 (fun q => hc (UInt8.toNat_inj.1 (by omega)))
        clear hA
        go_wp2_with fail
        go_roundw
        case rel => exact ⟨k + 1, i, l, by go_num, rfl, by omega, by omega, by omega, hown, hL, hN⟩
        case measure => simp [RowKit.intOf]; omega
    · obtain rfl : k = s.size := by omega
      have hx := ext_drop s i s.size (Nat.le_refl _)
      have hN : ls = l ++ [(s.data.toList.drop i).take (s.size - i)] := by
        have h1 := hA.out
        have h2 : (s.data.toList.drop i).take (s.size - i) = s.data.toList.drop i := List.take_of_length_le (by rw [List.length_drop]; omega)
        rw [h2] at h1 ⊢
        rw [h1.1, parts_one _ h1.2]
      obtain ⟨x, hxe⟩ : ∃ x, x = (s.data.toList.drop i).take (s.size - i) := ⟨_, rfl⟩
      rw [← hxe] at hx hN
      subst hN
      have HX := hid hx
      clear hA hx hxe
      go_wp2_with (at_builtin; refine wpList_append_own _ rfl _ _ 71 rfl W.heap.size 9 i0 (.string ⟨#[]⟩) 1 16 Tryz.underlying71 hi0 hz0 hz1 hz2 rfl (by decide) _ _ _ rfl (hown.alloc _) ⟨wr.heap.size, 0, none⟩ 1 1 [.string (s.extract i s.size)] rfl rfl cells_new (str_lone _) (by unfold maxLen; omega) (by omega) (by have := hL.size; simp; omega) ?_)
      intro v' w' hown' hg' _
      have hb' := below_push (t := 9) hL.size hL hown (Nat.le_refl _) hg'
      have hown2 := own_to hown' (m := (l ++ [x]).length) (ys := strV (l ++ [x])) (by simp) (by rw [HX.out]; exact strV_snoc l x)
      obtain ⟨g, cap, rfl⟩ := own_some hown2 (by simp)
      clear hg' hown hL hown' HX
      go_wp2_with fail
      go_ret
      exact ⟨g, cap, rfl, hown2, hb'⟩

end

section
open Go.RowKit Go.Lib

theorem signs_at {K : Nat} (h : K ≤ 4) (x y : Int) : (ByteArray.mk #[46, 126, 35, 84, 42]).extract K (K + 1) = bs [kindC ⟨(K : Int) + 1, x, y⟩] := by
  obtain rfl | rfl | rfl | rfl | rfl : K = 0 ∨ K = 1 ∨ K = 2 ∨ K = 3 ∨ K = 4 := by omega
  all_goals
    show _ = bs [kindC ⟨_, x, y⟩]
    simp [kindC]
    decide
theorem highs_at {H : Nat} (h : H ≤ 3) (x y : Int) : (ByteArray.mk #[48, 49, 50, 51, 52, 53, 54, 55, 56, 57]).extract H (H + 1) = bs [highC ⟨x, (H : Int), y⟩] := by
  rw [digits_at (by omega)]
  rfl
theorem line_step {ch : C3 → UInt8} {w i : Nat} {cs : List C3} {t x : ByteArray} (hi : i < cs.length) (ht : t = bs (lineT ch w 0 (cs.take i))) (hx : x = bs [ch (cs[i]'hi)]) (hm : ¬ i % w = w - 1) : t ++ x = bs (lineT ch w 0 (cs.take (i + 1))) := by
  rw [ht, hx, bs_app, lineT_next ch w cs hi, if_neg hm]
theorem line_turn {ch : C3 → UInt8} {w i : Nat} {cs : List C3} {t x : ByteArray} (hi : i < cs.length) (ht : t = bs (lineT ch w 0 (cs.take i))) (hx : x = bs [ch (cs[i]'hi)]) (hm : i % w = w - 1) : t ++ x ++ ByteArray.mk #[10] = bs (lineT ch w 0 (cs.take (i + 1))) := by
  have e : ByteArray.mk #[10] = bs [10] := rfl
  rw [ht, hx, e, bs_app, bs_app, lineT_next ch w cs hi, if_pos hm, List.append_assoc]
  rfl

set_option maxHeartbeats 4000000 in
theorem rrows_b (w h : Nat) (cs : List C3) (sc : Value) (T : ByteArray) (W : World) (hw : 1 ≤ w) (hw2 : w ≤ 32) (hh : h ≤ 32) (hl : cs.length = h * w) (hv : ∀ c ∈ cs, validc c = true) (hr : RowAt W sc cs)
    (e : Hid (T = bs (joinT (rowsT kindC w h cs) ++ joinT (rowsT highC w h cs)))) :
    Calls Tryz.prog 32 #[.agg #[.int .i64 w, .int .i64 h, sc]] W fun e w' => e = .returned (.string T) ∧ Below W.heap.size W w' := by
  obtain ⟨p, c, rfl, hmx, -⟩ := id hr
  unfold maxLen at hmx
  have hln : cs.length ≤ 1024 := by rw [hl]; exact Nat.mul_le_mul hh hw2
  have hT := Held1.start W [.int .i64 w, .int .i64 h, .slice p cs.length c] 24
  have hR := hr.below hT.old
  obtain ⟨_, _, _, -, -, -⟩ := hT.l.three
  have HL := Lib.hid hl
  clear hr hl
  go_enter Tryz.func32, Tryz.ntmps32
  go_wp2_with fail
  go_loopw [3, 4, 5] (fun va vb vi wr => ∃ (i : Nat) (ta tb : ByteArray), va = .string ta ∧ vb = .string tb ∧ vi = .int .i64 i ∧ i ≤ cs.length ∧ Held1 W wr W.heap.size [.int .i64 w, .int .i64 h, .slice p cs.length c] 24 ∧ RowAt wr (.slice p cs.length c) cs ∧ ta.size ≤ 2 * i ∧ tb.size ≤ 2 * i ∧ Hid (ta = bs (lineT kindC w 0 (cs.take i)) ∧ tb = bs (lineT highC w 0 (cs.take i)))) (fun _ _ vi _ => cs.length - (RowKit.intOf vi).toNat)
  case atStart => exact ⟨0, _, _, rfl, rfl, rfl, by omega, hT, hR, by decide, by decide, hid ⟨rfl, rfl⟩⟩
  case round =>
    clear hT hR
    obtain ⟨i, ta, tb, rfl, rfl, rfl, hi, hT, hR, hsa, hsb, hG⟩ := hrel
    obtain ⟨_, _, _, -, -, -⟩ := hT.l.three
    by_cases hlt : i < cs.length
    · have d1 : (i : Int) < cs.length := by omega
      have i0 : (0 : Int) ≤ i := by omega
      obtain ⟨p', c', e1, -, hat⟩ := id hR
      injection e1 with e1 k1 k2
      subst e1 k2
      clear k1
      obtain ⟨g, o, rfl, hat2⟩ := hat (by omega)
      obtain ⟨a1, a2, a3⟩ := hat2 i hlt
      obtain ⟨q, hq⟩ : ∃ q, cs[i]'hlt = q := ⟨_, rfl⟩
      have hqv := valid_cell (hv q (hq ▸ List.getElem_mem hlt))
      rw [hq] at a1 a2 a3
      obtain ⟨qk, qh, qa⟩ := q
      dsimp only at a1 a2 a3 hqv
      obtain ⟨⟨v1, v2, v3, v4, -, -⟩, -⟩ := hqv
      obtain ⟨K, hK⟩ := Int.eq_ofNat_of_zero_le (show 0 ≤ qk - 1 by omega)
      obtain ⟨H, rfl⟩ := Int.eq_ofNat_of_zero_le v3
      obtain rfl : qk = (K : Int) + 1 := by omega
      have K4 : K ≤ 4 := by omega
      have H3 : H ≤ 3 := by omega
      obtain ⟨x1, hx1⟩ : ∃ x, x = (ByteArray.mk #[46, 126, 35, 84, 42]).extract K (K + 1) := ⟨_, rfl⟩
      obtain ⟨x2, hx2⟩ : ∃ x, x = (ByteArray.mk #[48, 49, 50, 51, 52, 53, 54, 55, 56, 57]).extract H (H + 1) := ⟨_, rfl⟩
      have y1 := hx1.trans (signs_at K4 (H : Int) qa)
      have y2 := hx2.trans (highs_at H3 ((K : Int) + 1) qa)
      have s1 : x1.size ≤ 1 := by rw [y1, bs_size]; exact Nat.le_refl _
      have s2 : x2.size ≤ 1 := by rw [y2, bs_size]; exact Nat.le_refl _
      rw [← hq] at y1 y2
      have hz1 := hx1.symm
      have hz2 := hx2.symm
      have hS := hid (fun (hm : ¬ i % w = w - 1) => And.intro (line_step hlt hG.out.1 y1 hm) (line_step hlt hG.out.2 y2 hm))
      have hN := hid (fun (hm : i % w = w - 1) => And.intro (line_turn hlt hG.out.1 y1 hm) (line_turn hlt hG.out.2 y2 hm))
      clear hG y1 y2 hq hx1 hx2 hat hat2
      have w0 : ((w : Int) == 0) = false := beq_eq_false_iff_ne.2 (by omega)
      have em : (i : Int).tmod w = ((i % w : Nat) : Int) := by rw [Int.ofNat_tmod]
      have hml : i % w < w := Nat.mod_lt _ (by omega)
      have ew1 : IntKind.i64.wrap ((w : Int) - 1) = (w : Int) - 1 := IntWalk.i64_in _ (by omega)
      have ew2 : IntKind.i64.wrap ((i : Int).tmod w) = ((i % w : Nat) : Int) := by rw [em]; exact IntWalk.i64_in _ (by omega)
      obtain ⟨wz, hwz⟩ : ∃ wz, wz = wr.alloc (.cells #[.int .i64 ((K : Int) + 1), .int .i64 H, .int .i64 qa] 44) := ⟨_, rfl⟩
      have hb := (Below.refl wr.heap.size wr).alloc (Nat.le_refl _) (.cells #[.int .i64 ((K : Int) + 1), .int .i64 H, .int .i64 qa] 44)
      have hB := Blk.new wr [.int .i64 ((K : Int) + 1), .int .i64 H, .int .i64 qa] 44
      have hT2 := hT.call hb
      have hR2 := hR.below hb
      obtain ⟨_, _, _, -, -, -⟩ := hT2.l.three
      obtain ⟨_, _, _, -, -, -⟩ := hB.three
      have hD := hid (show ∀ n, Held1 W ((wr.alloc (.cells #[.int .i64 ((K : Int) + 1), .int .i64 H, .int .i64 qa] 44)).drewN n) W.heap.size [.int .i64 w, .int .i64 h, .slice (some ⟨g, o, none⟩) cs.length c] 24 from fun n => ⟨hT2.l.drewN n, below_many hT2.old n⟩)
      have hD2 := hid (show ∀ n, RowAt ((wr.alloc (.cells #[.int .i64 ((K : Int) + 1), .int .i64 H, .int .i64 qa] 44)).drewN n) (.slice (some ⟨g, o, none⟩) cs.length c) cs from fun n => hR2.below (below_many (Below.refl _ _) n))
      clear hwz wz hB hT2 hR2 hb hR
      by_cases hm : i % w = w - 1
      · have hN' := hN.out hm
        have HN := hid hN'
        have z : (((i % w : Nat) : Int) == (w : Int) - 1) = true := by rw [hm]; simp; omega
        clear hS hN hN'
        go_wp2_with fail
        go_quiet (fail)
        go_wp2_with fail
        go_roundw
        case rel => exact ⟨i + 1, _, _, rfl, rfl, by go_num, by omega, hD.out _, hD2.out _, by rw [ByteArray.size_append, ByteArray.size_append, show (ByteArray.mk #[10]).size = 1 from rfl]; omega, by rw [ByteArray.size_append, ByteArray.size_append, show (ByteArray.mk #[10]).size = 1 from rfl]; omega, HN⟩
        case measure => simp [RowKit.intOf]; omega
      · have HS := hid (hS.out hm)
        have z : (((i % w : Nat) : Int) == (w : Int) - 1) = false := beq_eq_false_iff_ne.2 (by omega)
        clear hS hN
        go_wp2_with fail
        go_quiet (fail)
        go_wp2_with fail
        go_roundw
        case rel => exact ⟨i + 1, _, _, rfl, rfl, by go_num, by omega, hD.out _, hD2.out _, by rw [ByteArray.size_append]; omega, by rw [ByteArray.size_append]; omega, HS⟩
        case measure => simp [RowKit.intOf]; omega
    · obtain rfl : i = cs.length := by omega
      have hE := hG.out
      rw [List.take_length, ← Nat.zero_mul w, lineT_rows kindC w hw h cs 0 HL.out, lineT_rows highC w hw h cs 0 HL.out] at hE
      have HE := hid (show ta ++ tb = T by rw [hE.1, hE.2, bs_app, e.out])
      clear hG hE e
      go_wp2_with fail
      go_ret
      exact ⟨ret_str HE.out, hT.old⟩

end

section
open Go.RowKit Go.Lib

theorem cat_run {P : Program} {a b x : ByteArray} (h : x = a ++ b) (hs : a.size + b.size ≤ 100000) (w : World) : (Op.stringOp .add a b).run P w = .ok (.string x) w := by
  rw [run_string_add_sum w a b (by omega), h]
theorem cat_size {a b x : ByteArray} {m n : Nat} (h : x = a ++ b) (ha : a.size ≤ m) (hb : b.size ≤ n) : x.size ≤ m + n := by
  rw [h, ByteArray.size_append]; omega
theorem rresource_b (c : C3) (b : Bool) (W : World) (e : Hid (b = resB c.k)) : Calls Tryz.prog 33 #[.agg #[.int .i64 c.k, .int .i64 c.h, .int .i64 c.a]] W fun e w' => e = .returned (.bool b) ∧ Below W.heap.size W w' := by
  have hb : b = ((c.k == 4) || (c.k == 5)) := by
    rw [e.out]; unfold resB
    by_cases h4 : c.k = 4
    · rw [h4]; rfl
    · by_cases h5 : c.k = 5
      · rw [h5]; rfl
      · rw [decide_eq_false (by omega), beq_eq_false_iff_ne.2 h4, beq_eq_false_iff_ne.2 h5]; rfl
  subst hb
  clear e
  obtain ⟨k, h, a⟩ := c
  have hL := (Below.refl W.heap.size W).alloc (Nat.le_refl _) (.cells #[.int .i64 k, .int .i64 h, .int .i64 a] 44)
  obtain ⟨_, _, _, -, -, -⟩ := (Blk.new W [.int .i64 k, .int .i64 h, .int .i64 a] 44).three
  cases h4 : k == 4 <;> cases h5 : k == 5
  all_goals
    go_enter Tryz.func33, Tryz.ntmps33
    go_wp2
    go_ret
    exact ⟨rfl, hL⟩

theorem rtext_q (n : Nat) (u : ByteArray) (hn : n ≤ 1000000000) (hu : Hid (u = bs (decDigits n))) (W : World) : Calls Tryz.prog 31 #[.int .i64 n] W fun e w' => e = .returned (.string u) ∧ w' = W := by
  rw [hu.out]
  refine (rtext_b n W hn).mono ?_
  rintro e w' ⟨rfl, rfl⟩
  exact ⟨rfl, rfl⟩
theorem text_name (n : Nat) (hn : n ≤ 1000000000) : ∃ u : ByteArray, Hid (u = bs (decDigits n)) ∧ u.size ≤ 10 :=
  ⟨_, hid rfl, by rw [bs_size]; exact dec_len 9 _ (by have : (10 : Nat) ^ (9 + 1) = 10000000000 := rfl
                                                      omega)⟩
theorem low_print {V w' : World} {bm bf : Nat} {a b c d n s : Value} {t u : TypeId} (hM : Blk V bm [a, b, c] t) (hF : Blk V bf [n, a, b, d, s] u) (hb : Below V.heap.size V w') :
    w'.cell? ⟨bm, 0, none⟩ = some a ∧ w'.cell? ⟨bm, 1, none⟩ = some b ∧ w'.cell? ⟨bm, 2, none⟩ = some c ∧ w'.cell? ⟨bf, 0, none⟩ = some n :=
  ⟨(hM.below hb).cell 0, (hM.below hb).cell 1, (hM.below hb).cell 2, (hF.below hb).cell 0⟩

theorem head_text {nm tw th rr : ByteArray} {nl : List UInt8} {w h : Nat} {cs : List C3} {st : List (Int × Int)} (hn : nm = bs nl) (e1 : tw = bs (decDigits w)) (e2 : th = bs (decDigits h)) (e3 : rr = bs (joinT (rowsT kindC w h cs) ++ joinT (rowsT highC w h cs))) :
    ByteArray.mk #[109, 97, 112, 32] ++ nm ++ ByteArray.mk #[32] ++ tw ++ ByteArray.mk #[32] ++ th ++ ByteArray.mk #[10] ++ rr = bs (joinT [headL ⟨nl, ⟨w, h, cs⟩, st⟩] ++ joinT (rowsT kindC w h cs) ++ joinT (rowsT highC w h cs)) := by
  have a1 : ByteArray.mk #[109, 97, 112, 32] = bs [109, 97, 112, 32] := rfl
  have a2 : ByteArray.mk #[32] = bs [32] := rfl
  have a3 : ByteArray.mk #[10] = bs [10] := rfl
  rw [hn, e1, e2, e3, a1, a2, a3]
  simp only [bs_app]
  congr 1
  unfold joinT headL wordsV mapW
  simp
theorem amt_text {s tx ty ta : ByteArray} {A : List UInt8} {w i : Nat} {cs : List C3} (hi : i < cs.length) (hr : resB (cs[i]'hi).k = true) (hs : s = bs (A ++ joinT (amtsL w 0 (cs.take i)))) (e1 : tx = bs (decDigits (i % w))) (e2 : ty = bs (decDigits (i / w))) (e3 : ta = bs (decDigits (cs[i]'hi).a.toNat)) :
    s ++ ByteArray.mk #[97, 109, 111, 117, 110, 116, 32] ++ tx ++ ByteArray.mk #[32] ++ ty ++ ByteArray.mk #[32] ++ ta ++ ByteArray.mk #[10] = bs (A ++ joinT (amtsL w 0 (cs.take (i + 1)))) := by
  have a1 : ByteArray.mk #[97, 109, 111, 117, 110, 116, 32] = bs [97, 109, 111, 117, 110, 116, 32] := rfl
  have a2 : ByteArray.mk #[32] = bs [32] := rfl
  have a3 : ByteArray.mk #[10] = bs [10] := rfl
  rw [hs, e1, e2, e3, a1, a2, a3, amts_next w cs hi, if_pos hr, join_app, join_one]
  simp only [bs_app]
  congr 1
  unfold amtL wordsV amountW
  simp
theorem amt_none {s : ByteArray} {A : List UInt8} {w i : Nat} {cs : List C3} (hi : i < cs.length) (hr : resB (cs[i]'hi).k = false) (hs : s = bs (A ++ joinT (amtsL w 0 (cs.take i)))) : s = bs (A ++ joinT (amtsL w 0 (cs.take (i + 1)))) := by
  rw [amts_next w cs hi, if_neg (by rw [hr]; simp), List.append_nil]
  exact hs
theorem start_text {s tx ty : ByteArray} {A : List UInt8} {i : Nat} {st : List (Int × Int)} (hi : i < st.length) (hs : s = bs (A ++ joinT ((st.take i).map startL))) (e1 : tx = bs (decDigits (st[i]'hi).1.toNat)) (e2 : ty = bs (decDigits (st[i]'hi).2.toNat)) :
    s ++ ByteArray.mk #[115, 116, 97, 114, 116, 32] ++ tx ++ ByteArray.mk #[32] ++ ty ++ ByteArray.mk #[10] = bs (A ++ joinT ((st.take (i + 1)).map startL)) := by
  have a1 : ByteArray.mk #[115, 116, 97, 114, 116, 32] = bs [115, 116, 97, 114, 116, 32] := rfl
  have a2 : ByteArray.mk #[32] = bs [32] := rfl
  have a3 : ByteArray.mk #[10] = bs [10] := rfl
  rw [hs, e1, e2, a1, a2, a3, strt_next st hi]
  simp only [bs_app]
  congr 1
  unfold startL wordsV startW
  simp

end

section
open Go.RowKit Go.Lib

set_option maxRecDepth 100000 in
set_option maxHeartbeats 8000000 in
theorem rprint_ok (nm : List UInt8) (w h : Nat) (cs : List C3) (st : List (Int × Int)) (sc ss : Value) (T : ByteArray) (W : World) (hr : RowAt W sc cs) (hp : PosAt W ss st)
    (hv : validf ⟨nm, ⟨w, h, cs⟩, st⟩ = 0) (e : Hid (T = bs (joinT (linesF ⟨nm, ⟨w, h, cs⟩, st⟩)))) :
    Calls Tryz.prog 13 #[.agg #[.string (bs nm), .int .i64 w, .int .i64 h, sc, ss]] W fun e w' => e = .returned (.tuple #[.string T, .int .i64 0]) ∧ Below W.heap.size W w' := by
  have hG := good_of hv
  have hN := name_len hG.name
  have hN' : nm.length ≤ 12 := hN.2
  have hgw : 1 ≤ w ∧ w ≤ 32 := by have := hG.w; simp only at this; omega
  have hgh : 1 ≤ h ∧ h ≤ 32 := by have := hG.h; simp only at this; omega
  have hlen : cs.length = h * w := by have := (form_at (show formedv ⟨w, h, cs⟩ = true by have := hG.m; unfold validm at this; rw [Bool.and_eq_true] at this; exact this.1)).2.2; simp only [Int.toNat_natCast] at this; rw [this, Nat.mul_comm]
  have hcells : ∀ c ∈ cs, validc c = true := by
    have := hG.m
    unfold validm at this
    rw [Bool.and_eq_true, List.all_eq_true] at this
    exact this.2
  have hat := hG.at
  have hln : cs.length ≤ 1024 := by rw [hlen]; exact Nat.mul_le_mul hgh.2 hgw.2
  have HL := Lib.hid hlen
  clear hlen
  have htl := text_len hG
  have hst6 : st.length ≤ 6 := hG.two.2
  obtain ⟨p, c, rfl, hmx, -⟩ := id hr
  obtain ⟨ps, pc, rfl, hpx, -⟩ := id hp
  have hK := (Keep.nil W).alloc [.string (bs nm), .int .i64 w, .int .i64 h, .slice p cs.length c, .slice ps st.length pc] 27
  have hR := hr.below hK.old
  have hP := hp.below hK.old
  have hF := hK.one
  obtain ⟨F0, F1, F2, F3, F4⟩ : _ ∧ _ ∧ _ ∧ _ ∧ _ := ⟨hF.cell 0, hF.cell 1, hF.cell 2, hF.cell 3, hF.cell 4⟩
  simp only [List.getElem?_cons_zero, List.getElem?_cons_succ] at F0 F1 F2 F3 F4
  have c0 := fun V a b => rvalidf_b ⟨nm, ⟨w, h, cs⟩, st⟩ (.slice p cs.length c) (.slice ps st.length pc) 0 V a b (by show nm.length ≤ _; omega) (hid hv.symm)
  dsimp only at c0
  go_enter Tryz.func13, Tryz.ntmps13
  go_wp2_with fail
  ((with_reducible refine (c0 _ hR hP).mono ?_); rintro e w1 ⟨rfl, hb⟩)
  replace hR := hR.below hb
  replace hP := hP.below hb
  replace hK := hK.call hb
  clear hb F0 F1 F2 F3 F4 hF
  have hF := hK.one
  obtain ⟨F0, F1, F2, F3, F4⟩ : _ ∧ _ ∧ _ ∧ _ ∧ _ := ⟨hF.cell 0, hF.cell 1, hF.cell 2, hF.cell 3, hF.cell 4⟩
  simp only [List.getElem?_cons_zero, List.getElem?_cons_succ] at F0 F1 F2 F3 F4
  have hb1 := (Below.refl w1.heap.size w1).alloc (Nat.le_refl _) (.cells #[.int .i64 w, .int .i64 h, .slice p cs.length c] 24)
  have hK1 := hK.alloc [.int .i64 w, .int .i64 h, .slice p cs.length c] 24
  replace hR := hR.below hb1
  replace hP := hP.below hb1
  obtain ⟨tw, htw, stw⟩ := text_name w (by omega)
  obtain ⟨th, hth, sth⟩ := text_name h (by omega)
  obtain ⟨rr, hrr⟩ : ∃ r : ByteArray, Hid (r = bs (joinT (rowsT kindC w h cs) ++ joinT (rowsT highC w h cs))) := ⟨_, hid rfl⟩
  obtain ⟨nb, hnb⟩ : ∃ b : ByteArray, b = bs nm := ⟨_, rfl⟩
  have snb : nb.size ≤ 12 := by rw [hnb, bs_size]; exact hN'
  have srr : rr.size ≤ 32768 := by
    rw [hrr.out, bs_size]
    have h1 : (joinT (linesF ⟨nm, ⟨w, h, cs⟩, st⟩)).length ≤ 32768 := htl
    unfold linesF at h1
    simp only [Int.toNat_natCast] at h1
    rw [← List.singleton_append, join_app, join_app, join_app, join_app, List.length_append, List.length_append, List.length_append, List.length_append] at h1
    rw [List.length_append]
    omega
  have hhead := Lib.hid (head_text (st := st) hnb htw.out hth.out hrr.out)
  rw [← hnb] at F0 hK hK1 ⊢
  have q1 := fun W => rtext_q w tw (by omega) htw W
  have q2 := fun W => rtext_q h th (by omega) hth W
  have q3 := fun W a => rrows_b w h cs (.slice p cs.length c) rr W hgw.1 hgw.2 hgh.2 HL.out hcells a hrr
  go_upto_region 1 with fail
  generalize w1.alloc (.cells #[.int .i64 w, .int .i64 h, .slice p cs.length c] 24) = V at *
  have hG0 := Lib.hid hG
  have hV1 := Lib.hid (And.intro hcells hat)
  obtain ⟨x1, e1⟩ : ∃ x, x = ByteArray.mk #[109, 97, 112, 32] ++ nb := ⟨_, rfl⟩
  obtain ⟨x2, e2⟩ : ∃ x, x = x1 ++ ByteArray.mk #[32] := ⟨_, rfl⟩
  obtain ⟨x3, e3⟩ : ∃ x, x = x2 ++ tw := ⟨_, rfl⟩
  obtain ⟨x4, e4⟩ : ∃ x, x = x3 ++ ByteArray.mk #[32] := ⟨_, rfl⟩
  obtain ⟨x5, e5⟩ : ∃ x, x = x4 ++ th := ⟨_, rfl⟩
  obtain ⟨x6, e6⟩ : ∃ x, x = x5 ++ ByteArray.mk #[10] := ⟨_, rfl⟩
  obtain ⟨x7, e7⟩ : ∃ x, x = x6 ++ rr := ⟨_, rfl⟩
  have m1 := cat_size e1 (show _ ≤ 4 from Nat.le_refl _) snb
  have m2 := cat_size e2 m1 (show _ ≤ 1 from Nat.le_refl _)
  have m3 := cat_size e3 m2 stw
  have m4 := cat_size e4 m3 (show _ ≤ 1 from Nat.le_refl _)
  have m5 := cat_size e5 m4 sth
  have m6 := cat_size e6 m5 (show _ ≤ 1 from Nat.le_refl _)
  have m7 := cat_size e7 m6 srr
  have r1 := cat_run (P := Tryz.prog) e1 (by show 4 + _ ≤ _; omega)
  have r2 := cat_run (P := Tryz.prog) e2 (by show _ + 1 ≤ _; omega)
  have r3 := cat_run (P := Tryz.prog) e3 (by omega)
  have r4 := cat_run (P := Tryz.prog) e4 (by show _ + 1 ≤ _; omega)
  have r5 := cat_run (P := Tryz.prog) e5 (by omega)
  have r6 := cat_run (P := Tryz.prog) e6 (by show _ + 1 ≤ _; omega)
  have r7 := cat_run (P := Tryz.prog) e7 (by omega)
  have hx7 : x7 = bs (joinT [headL ⟨nm, ⟨w, h, cs⟩, st⟩] ++ joinT (rowsT kindC w h cs) ++ joinT (rowsT highC w h cs)) := by rw [e7, e6, e5, e4, e3, e2, e1]; exact hhead.out
  replace hx7 := Lib.hid hx7
  clear e1 e2 e3 e4 e5 e6 e7 m1 m2 m3 m4 m5 m6 hhead
  clear hr hp hv htl c0 hF F0 F1 F2 F3 F4 hK hrr htw hth hG hcells hat hb1 hnb
  obtain ⟨hM, hF⟩ := hK1.two
  have hq := (Below.refl V.heap.size V).drew
  go_region_held3 (fun w' => w'.cell? ⟨w1.heap.size, 0, none⟩ = some (.int .i64 w) ∧ w'.cell? ⟨w1.heap.size, 1, none⟩ = some (.int .i64 h) ∧ w'.cell? ⟨w1.heap.size, 2, none⟩ = some (.slice p cs.length c) ∧ w'.cell? ⟨W.heap.size, 0, none⟩ = some (.string nb))
    (first | exact low_print hM hF (by assumption))
    (first
      | (go_at_call 31; first | (with_reducible refine (q1 _).mono ?_; rintro e w' ⟨rfl, rfl⟩) | (with_reducible refine (q2 _).mono ?_; rintro e w' ⟨rfl, rfl⟩))
      | (go_at_call 32; with_reducible refine (q3 _ (hR.below hq)).mono ?_; rintro e w' ⟨rfl, hb⟩; replace hq := below_call hq hb; clear hb))
  obtain ⟨A, hA⟩ : ∃ A, A = joinT [headL ⟨nm, ⟨w, h, cs⟩, st⟩] ++ joinT (rowsT kindC w h cs) ++ joinT (rowsT highC w h cs) := ⟨_, rfl⟩
  have hB := Lib.hid (show A.length + (joinT (amtsL w 0 cs)).length + (joinT (st.map startL)).length ≤ 32768 ∧ joinT (linesF ⟨nm, ⟨w, h, cs⟩, st⟩) = A ++ joinT (amtsL w 0 cs) ++ joinT (st.map startL) from by
    have h1 : (joinT (linesF ⟨nm, ⟨w, h, cs⟩, st⟩)).length ≤ 32768 := text_len hG0.out
    have h2 : joinT (linesF ⟨nm, ⟨w, h, cs⟩, st⟩) = A ++ joinT (amtsL w 0 cs) ++ joinT (st.map startL) := by
      rw [hA]
      unfold linesF
      simp only [Int.toNat_natCast]
      rw [← List.singleton_append, join_app, join_app, join_app, join_app]
      simp only [List.append_assoc]
    rw [h2, List.length_append, List.length_append] at h1
    exact ⟨h1, h2⟩)
  rw [← hA] at hx7
  have hs0 : x7.size ≤ 32768 := by rw [hx7.out, bs_size]; have := hB.out.1; omega
  replace hK1 := hK1.call hq
  replace hR := hR.below hq
  replace hP := hP.below hq
  clear hq hM hF hA r1 r2 r3 r4 r5 r6 r7 q1 q2 q3 m7 srr snb stw sth
  go_wp2_with fail
  clear V
  go_loopw [6, 7] (fun vs vi wr => ∃ (i : Nat) (s : ByteArray), vs = .string s ∧ vi = .int .i64 i ∧ i ≤ cs.length ∧ Keep W wr [(w1.heap.size, [.int .i64 w, .int .i64 h, .slice p cs.length c], 24), (W.heap.size, [.string nb, .int .i64 w, .int .i64 h, .slice p cs.length c, .slice ps st.length pc], 27)] ∧ RowAt wr (.slice p cs.length c) cs ∧ PosAt wr (.slice ps st.length pc) st ∧ s.size ≤ 32768 ∧ Hid (s = bs (A ++ joinT (amtsL w 0 (cs.take i))))) (fun _ vi _ => cs.length - (RowKit.intOf vi).toNat)
  case atStart => exact ⟨0, _, rfl, rfl, by omega, hK1, hR, hP, hs0, hid (by rw [hx7.out]; simp [amtsL, joinT])⟩
  case round =>
    clear hK1 hR hP hx7 hs0
    obtain ⟨i, s, rfl, rfl, hi, hK1, hR, hP, hsz, hS⟩ := hrel
    obtain ⟨hM, hF⟩ := hK1.two
    obtain ⟨M0, M1, M2⟩ : _ ∧ _ ∧ _ := ⟨hM.cell 0, hM.cell 1, hM.cell 2⟩
    simp only [List.getElem?_cons_zero, List.getElem?_cons_succ] at M0 M1 M2
    by_cases hlt : i < cs.length
    · have d1 : (i : Int) < cs.length := by omega
      have i0 : (0 : Int) ≤ i := by omega
      obtain ⟨p', c', k0, -, hat⟩ := id hR
      injection k0 with k0 k1 k2
      subst k0 k2
      clear k1
      obtain ⟨g, o, rfl, hat2⟩ := hat (by omega)
      obtain ⟨a1, a2, a3⟩ := hat2 i hlt
      have hqm := List.getElem_mem hlt
      have hSn := hid (fun q => amt_none hlt q hS.out)
      have hSt := hid (fun q (tx ty ta : ByteArray) e1 e2 e3 => amt_text (s := s) (tx := tx) (ty := ty) (ta := ta) hlt q hS.out e1 e2 e3)
      have hle := hid (amts_le w cs (i + 1))
      obtain ⟨q, hq⟩ : ∃ q, cs[i]'hlt = q := ⟨_, rfl⟩
      have hqv := valid_cell (hV1.out.1 q (hq ▸ hqm))
      rw [hq] at a1 a2 a3 hSn hSt
      clear hq hqm hS hat hat2
      obtain ⟨qk, qh, qa⟩ := q
      dsimp only at a1 a2 a3 hqv
      obtain ⟨⟨-, -, -, -, v5, v6⟩, -⟩ := hqv
      obtain ⟨a0, rfl⟩ := Int.eq_ofNat_of_zero_le v5
      obtain ⟨rb, hrb⟩ : ∃ b, Hid (b = resB qk) := ⟨_, hid rfl⟩
      have c1 := fun V => rresource_b ⟨qk, qh, a0⟩ rb V hrb
      dsimp only at c1
      go_wp2_with fail
      ((with_reducible refine (c1 _).mono ?_); rintro e w2 ⟨rfl, hb⟩)
      have kg : g < wr.heap.size := World.block_lt_of_cell? wr _ a3
      have a3' := (hb.cell (p := ⟨g, o + i * 3 + 2, none⟩) kg).trans a3
      replace hK1 := hK1.call hb
      replace hR := hR.below hb
      replace hP := hP.below hb
      clear hb hM hF M0 M1 M2 a1 a2 a3 c1 kg
      cases rb with
      | false =>
        have HN := hid (hSn.out hrb.out.symm)
        clear hSn hSt hrb
        go_wp2_with fail
        go_roundw
        case rel => exact ⟨i + 1, s, rfl, by go_num, by omega, hK1, hR, hP, hsz, HN⟩
        case measure => simp [RowKit.intOf]; omega
      | true =>
        obtain ⟨hM, -⟩ := hK1.two
        obtain ⟨M0, M1, M2⟩ : _ ∧ _ ∧ _ := ⟨hM.cell 0, hM.cell 1, hM.cell 2⟩
        simp only [List.getElem?_cons_zero, List.getElem?_cons_succ] at M0 M1 M2
        obtain ⟨mx, hmx⟩ : ∃ m, m = i % w := ⟨_, rfl⟩
        obtain ⟨dx, hdx⟩ : ∃ m, m = i / w := ⟨_, rfl⟩
        have hml : mx ≤ 100000 := by have := Nat.mod_lt i (show w > 0 by omega); omega
        have hdl : dx ≤ 100000 := by have := Nat.div_le_self i w; omega
        have em1 : (i : Int).tmod w = (mx : Int) := by rw [hmx, Int.ofNat_tmod]
        have ed1 : (i : Int).tdiv w = (dx : Int) := by rw [hdx, Int.ofNat_tdiv]
        have em2 : (i : Int) % w = (mx : Int) := by rw [hmx]; simp
        have ed2 : (i : Int) / w = (dx : Int) := by rw [hdx]; simp
        have wne : ¬ w = 0 := by omega
        rw [← hmx, ← hdx] at hSt
        obtain ⟨tx, htx, stx⟩ := text_name mx (by omega)
        obtain ⟨ty, hty, sty⟩ := text_name dx (by omega)
        obtain ⟨ta, hta, sta⟩ := text_name a0 (by omega)
        have q1 := fun W => rtext_q mx tx (by omega) htx W
        have q2 := fun W => rtext_q dx ty (by omega) hty W
        have q3 := fun W => rtext_q a0 ta (by omega) hta W
        obtain ⟨x1, e1⟩ : ∃ x, x = s ++ ByteArray.mk #[97, 109, 111, 117, 110, 116, 32] := ⟨_, rfl⟩
        obtain ⟨x2, e2⟩ : ∃ x, x = x1 ++ tx := ⟨_, rfl⟩
        obtain ⟨x3, e3⟩ : ∃ x, x = x2 ++ ByteArray.mk #[32] := ⟨_, rfl⟩
        obtain ⟨x4, e4⟩ : ∃ x, x = x3 ++ ty := ⟨_, rfl⟩
        obtain ⟨x5, e5⟩ : ∃ x, x = x4 ++ ByteArray.mk #[32] := ⟨_, rfl⟩
        obtain ⟨x6, e6⟩ : ∃ x, x = x5 ++ ta := ⟨_, rfl⟩
        obtain ⟨x7, e7⟩ : ∃ x, x = x6 ++ ByteArray.mk #[10] := ⟨_, rfl⟩
        have m1 := cat_size e1 hsz (show _ ≤ 7 from Nat.le_refl _)
        have m2 := cat_size e2 m1 stx
        have m3 := cat_size e3 m2 (show _ ≤ 1 from Nat.le_refl _)
        have m4 := cat_size e4 m3 sty
        have m5 := cat_size e5 m4 (show _ ≤ 1 from Nat.le_refl _)
        have m6 := cat_size e6 m5 sta
        have m7 := cat_size e7 m6 (show _ ≤ 1 from Nat.le_refl _)
        have r1 := cat_run (P := Tryz.prog) e1 (by show _ + 7 ≤ _; omega)
        have r2 := cat_run (P := Tryz.prog) e2 (by omega)
        have r3 := cat_run (P := Tryz.prog) e3 (by show _ + 1 ≤ _; omega)
        have r4 := cat_run (P := Tryz.prog) e4 (by omega)
        have r5 := cat_run (P := Tryz.prog) e5 (by show _ + 1 ≤ _; omega)
        have r6 := cat_run (P := Tryz.prog) e6 (by omega)
        have r7 := cat_run (P := Tryz.prog) e7 (by show _ + 1 ≤ _; omega)
        have HN : Hid (x7 = bs (A ++ joinT (amtsL w 0 (cs.take (i + 1))))) := hid (by
          rw [e7, e6, e5, e4, e3, e2, e1]
          exact hSt.out hrb.out.symm tx ty ta htx.out hty.out (by rw [hta.out]; rfl))
        have hs7 : x7.size ≤ 32768 := by
          rw [HN.out, bs_size, List.length_append]
          have h1 := hB.out.1
          have h2 := hle.out
          omega
        have hD := hid (show ∀ n, Keep W (w2.drewN n) _ ∧ RowAt (w2.drewN n) _ cs ∧ PosAt (w2.drewN n) _ st from fun n => ⟨hK1.call (below_many (Below.refl _ _) n), hR.below (below_many (Below.refl _ _) n), hP.below (below_many (Below.refl _ _) n)⟩)
        clear e1 e2 e3 e4 e5 e6 e7 m1 m2 m3 m4 m5 m6 m7 stx sty sta hSn hSt hrb hmx hdx hM hK1 hR hP htx hty hta
        go_wp2_with fail
        go_quiet ((go_at_call 31; first | with_reducible exact Calls.quiet_of_same (q1 _) | with_reducible exact Calls.quiet_of_same (q2 _) | with_reducible exact Calls.quiet_of_same (q3 _)))
        go_wp2_with fail
        go_roundw
        case rel => exact ⟨i + 1, x7, rfl, by go_num, by omega, (hD.out _).1, (hD.out _).2.1, (hD.out _).2.2, hs7, HN⟩
        case measure => simp [RowKit.intOf]; omega
    · obtain rfl : i = cs.length := by omega
      have hSe := hS.out
      rw [List.take_length] at hSe
      have HS := hid hSe
      clear hSe hS
      go_wp2_with fail
      go_loopw [6, 8] (fun vs vi wr => ∃ (i : Nat) (s : ByteArray), vs = .string s ∧ vi = .int .i64 i ∧ i ≤ st.length ∧ Keep W wr [(w1.heap.size, [.int .i64 w, .int .i64 h, .slice p cs.length c], 24), (W.heap.size, [.string nb, .int .i64 w, .int .i64 h, .slice p cs.length c, .slice ps st.length pc], 27)] ∧ PosAt wr (.slice ps st.length pc) st ∧ s.size ≤ 32768 ∧ Hid (s = bs ((A ++ joinT (amtsL w 0 cs)) ++ joinT ((st.take i).map startL)))) (fun _ vi _ => st.length - (RowKit.intOf vi).toNat)
      case atStart => exact ⟨0, _, rfl, rfl, by omega, hK1, hP, hsz, hid (by rw [HS.out]; simp [joinT])⟩
      case round =>
        clear hK1 hR hP hsz HS hM hF M0 M1 M2
        obtain ⟨i, s, rfl, rfl, hi, hK1, hP, hsz, hS⟩ := hrel
        obtain ⟨-, hF⟩ := hK1.two
        have F4 := hF.cell 4
        simp only [List.getElem?_cons_zero, List.getElem?_cons_succ] at F4
        by_cases hlt : i < st.length
        · have d1 : (i : Int) < st.length := by omega
          have i0 : (0 : Int) ≤ i := by omega
          obtain ⟨g, o, c', k0, -, a1, a2⟩ := hP.at hlt
          injection k0 with k0 k1 k2
          subst k0
          clear k1 k2
          have hqb := hV1.out.2 _ (List.getElem_mem hlt)
          have hSt := hid (fun (tx ty : ByteArray) e1 e2 => start_text (s := s) (tx := tx) (ty := ty) hlt hS.out e1 e2)
          have hle := hid (strt_le st (i + 1))
          obtain ⟨q, hq⟩ : ∃ q, st[i]'hlt = q := ⟨_, rfl⟩
          rw [hq] at a1 a2 hqb hSt
          clear hq hS
          obtain ⟨x, y⟩ := q
          dsimp only at a1 a2 hqb
          obtain ⟨b0, b1, b2, b3⟩ := hqb
          obtain ⟨X, rfl⟩ := Int.eq_ofNat_of_zero_le b0
          obtain ⟨Y, rfl⟩ := Int.eq_ofNat_of_zero_le b2
          obtain ⟨tx, htx, stx⟩ := text_name X (by omega)
          obtain ⟨ty, hty, sty⟩ := text_name Y (by omega)
          have q1 := fun W => rtext_q X tx (by omega) htx W
          have q2 := fun W => rtext_q Y ty (by omega) hty W
          obtain ⟨x1, e1⟩ : ∃ x, x = s ++ ByteArray.mk #[115, 116, 97, 114, 116, 32] := ⟨_, rfl⟩
          obtain ⟨x2, e2⟩ : ∃ x, x = x1 ++ tx := ⟨_, rfl⟩
          obtain ⟨x3, e3⟩ : ∃ x, x = x2 ++ ByteArray.mk #[32] := ⟨_, rfl⟩
          obtain ⟨x4, e4⟩ : ∃ x, x = x3 ++ ty := ⟨_, rfl⟩
          obtain ⟨x5, e5⟩ : ∃ x, x = x4 ++ ByteArray.mk #[10] := ⟨_, rfl⟩
          have m1 := cat_size e1 hsz (show _ ≤ 6 from Nat.le_refl _)
          have m2 := cat_size e2 m1 stx
          have m3 := cat_size e3 m2 (show _ ≤ 1 from Nat.le_refl _)
          have m4 := cat_size e4 m3 sty
          have r1 := cat_run (P := Tryz.prog) e1 (by show _ + 6 ≤ _; omega)
          have r2 := cat_run (P := Tryz.prog) e2 (by omega)
          have r3 := cat_run (P := Tryz.prog) e3 (by show _ + 1 ≤ _; omega)
          have r4 := cat_run (P := Tryz.prog) e4 (by omega)
          have r5 := cat_run (P := Tryz.prog) e5 (by show _ + 1 ≤ _; omega)
          have HN : Hid (x5 = bs ((A ++ joinT (amtsL w 0 cs)) ++ joinT ((st.take (i + 1)).map startL))) := hid (by
            rw [e5, e4, e3, e2, e1]
            exact hSt.out tx ty (by rw [htx.out]; rfl) (by rw [hty.out]; rfl))
          have hs5 : x5.size ≤ 32768 := by
            rw [HN.out, bs_size, List.length_append, List.length_append]
            have h1 := hB.out.1
            have h2 := hle.out
            omega
          have hD := hid (show ∀ n, Keep W (wr.drewN n) _ ∧ PosAt (wr.drewN n) _ st from fun n => ⟨hK1.call (below_many (Below.refl _ _) n), hP.below (below_many (Below.refl _ _) n)⟩)
          clear e1 e2 e3 e4 e5 m1 m2 m3 m4 stx sty hSt hF hK1 hP htx hty
          go_wp2_with fail
          go_quiet ((go_at_call 31; first | with_reducible exact Calls.quiet_of_same (q1 _) | with_reducible exact Calls.quiet_of_same (q2 _)))
          go_wp2_with fail
          go_roundw
          case rel => exact ⟨i + 1, x5, rfl, by go_num, by omega, (hD.out _).1, (hD.out _).2, hs5, HN⟩
          case measure => simp [RowKit.intOf]; omega
        · obtain rfl : i = st.length := by omega
          have hSe := hS.out
          rw [List.take_length, ← hB.out.2] at hSe
          have HS := hid (hSe.trans e.out.symm)
          clear hSe hS
          go_wp2_with fail
          go_ret2
          exact ⟨by rw [HS.out]; rfl, hK1.old⟩

theorem rprint_no (f : F3) (sc ss : Value) (r : Int) (W : World) (hr : RowAt W sc f.m.cs) (hp : PosAt W ss f.st) (hn : f.name.length ≤ 100000) (e : Hid (r = validf f)) (h0 : (r == 0) = false) :
    Calls Tryz.prog 13 #[.agg #[.string (bs f.name), .int .i64 f.m.w, .int .i64 f.m.h, sc, ss]] W fun e w' => e = .returned (.tuple #[.string ⟨#[]⟩, .int .i64 r]) ∧ Below W.heap.size W w' := by
  have c0 := fun V b c => rvalidf_b f sc ss r V b c hn e
  obtain ⟨p, c, rfl, -, -⟩ := id hr
  obtain ⟨ps, pc, rfl, -, -⟩ := id hp
  have hT := Held1.start W [.string (bs f.name), .int .i64 f.m.w, .int .i64 f.m.h, .slice p f.m.cs.length c, .slice ps f.st.length pc] 27
  have hR := hr.below hT.old
  have hP := hp.below hT.old
  obtain ⟨F0, F1, F2, F3, F4⟩ : _ ∧ _ ∧ _ ∧ _ ∧ _ := ⟨hT.l.cell 0, hT.l.cell 1, hT.l.cell 2, hT.l.cell 3, hT.l.cell 4⟩
  simp only [List.getElem?_cons_zero, List.getElem?_cons_succ] at F0 F1 F2 F3 F4
  clear hr hp e
  go_enter Tryz.func13, Tryz.ntmps13
  go_wp2_with fail
  ((with_reducible refine (c0 _ hR hP).mono ?_); rintro e w1 ⟨rfl, hb⟩)
  have hL := below_call hT.old hb
  clear c0 hb
  go_wp2_with fail
  go_ret2
  exact ⟨rfl, hL⟩
theorem rprint_b (f : F3) (sc ss : Value) (T : ByteArray) (r : Int) (W : World) (hr : RowAt W sc f.m.cs) (hp : PosAt W ss f.st) (hn : f.name.length ≤ 100000) (e : Hid (T.data.toList = (printv f).1 ∧ r = (printv f).2)) :
    Calls Tryz.prog 13 #[.agg #[.string (bs f.name), .int .i64 f.m.w, .int .i64 f.m.h, sc, ss]] W fun e w' => e = .returned (.tuple #[.string T, .int .i64 r]) ∧ Below W.heap.size W w' := by
  obtain ⟨e1, e2⟩ := e.out
  unfold printv at e1 e2
  by_cases hv : validf f = 0
  · rw [if_pos hv] at e1 e2
    have hG := good_of hv
    obtain ⟨nm, ⟨w, h, cs⟩, st⟩ := f
    have hgw := hG.w
    have hgh := hG.h
    simp only at hgw hgh e1 e2
    obtain ⟨w', rfl⟩ := Int.eq_ofNat_of_zero_le (show 0 ≤ w by omega)
    obtain ⟨h', rfl⟩ := Int.eq_ofNat_of_zero_le (show 0 ≤ h by omega)
    have hT : T = bs (joinT (linesF ⟨nm, ⟨w', h', cs⟩, st⟩)) := by rw [← bs_of T, e1]
    subst e2
    exact rprint_ok nm w' h' cs st sc ss T W hr hp hv (hid hT)
  · rw [if_neg hv] at e1 e2
    have hT : T = ⟨#[]⟩ := by rw [← bs_of T, e1]; rfl
    subst hT
    exact rprint_no f sc ss r W hr hp hn (hid e2) (by rw [e2]; simpa using hv)

end

end Go.Proofs.YtmpbgfobiceehaaGreatDoor
