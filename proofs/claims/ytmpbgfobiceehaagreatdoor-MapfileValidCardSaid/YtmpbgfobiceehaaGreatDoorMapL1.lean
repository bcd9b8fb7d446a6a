/-
  Laws of map files: texts that are too long, what Parse accepts, Valid and Print.
-/
import Derived.Test.YtmpbgfobiceehaaGreatDoorMapLaws
import Derived.Test.YtmpbgfobiceehaaGreatDoorMapRefQ
namespace Go.Proofs.YtmpbgfobiceehaaGreatDoor
open Go.RowKit Go.Lib

/-- How long a text is. -/
def strN : Value → Nat
  | .string s => s.size
  | _ => 0
theorem long_parse {t : ByteArray} (h : 32768 < t.size) : parsev t.data.toList = (F3.zero, 0, 2) := by
  have hsl : t.data.toList.length = t.size := (Lib.size_eq t).symm
  unfold parsev
  rw [if_pos (by omega)]

set_option maxRecDepth 100000 in
set_option maxHeartbeats 4000000 in
theorem law_long (s : ByteArray) (W : World) (hE : EnvM W) :
    Calls Tryz.prog 5 #[.string s] W fun e w' => e = .returned (.bool true) ∧ Below W.heap.size W w' := by
  by_cases h1 : 100 < s.size
  · have z1 : decide ((100 : Int) < s.size) = true := decide_eq_true (by omega)
    go_enter Tryz.func5, Tryz.ntmps5
    go_wp2_with fail
    ((with_reducible refine (dalive_any _ hE).mono ?_); rintro e w1 ⟨rfl, hb⟩)
    go_wp2_with fail
    go_ret
    exact ⟨rfl, hb⟩
  · have z1 : decide ((100 : Int) < s.size) = false := decide_eq_false (by omega)
    by_cases h0 : s.size = 0
    · have z2 : ((s.size : Int) == 0) = true := by rw [h0]; rfl
      go_enter Tryz.func5, Tryz.ntmps5
      go_wp2_with fail
      ((with_reducible refine (dalive_any _ hE).mono ?_); rintro e w1 ⟨rfl, hb⟩)
      go_wp2_with fail
      go_ret
      exact ⟨rfl, hb⟩
    · have z2 : ((s.size : Int) == 0) = false := beq_eq_false_iff_ne.2 (by omega)
      go_enter Tryz.func5, Tryz.ntmps5
      go_wp2_with fail
      clear z1 z2
      go_loop [3] (fun vt => ∃ t : ByteArray, vt = .string t ∧ 1 ≤ t.size ∧ t.size ≤ 65536) (fun vt => 65536 - strN vt)
      case atStart => exact ⟨s, rfl, by omega, by omega⟩
      case round =>
        obtain ⟨t, rfl, ht1, ht2⟩ := hrel
        by_cases hl : t.size ≤ 32768
        · have z : decide ((t.size : Int) ≤ 32768) = true := decide_eq_true (by omega)
          go_wp2_with fail
          go_round
          case rel => exact ⟨t ++ t, rfl, by rw [ByteArray.size_append]; omega, by rw [ByteArray.size_append]; omega⟩
          case measure => simp [strN, ByteArray.size_append]; omega
        · have z : decide ((t.size : Int) ≤ 32768) = false := decide_eq_false (by omega)
          have c1 := fun V hE => dparse_b t V hE (by omega)
          rw [long_parse (by omega)] at c1
          have c2 := fun V hE => (c1 V hE).mono fun _ _ h => zero_open h
          clear c1
          go_wp2_with fail
          ((with_reducible refine (c2 _ hE).mono ?_); rintro e w1 ⟨p, c, q, d, rfl, hb⟩)
          have hK := (show Keep W w1 [] from ⟨fun e he => by simp at he, hb⟩).other (.cells #[.string ⟨#[]⟩, .int .i64 0, .int .i64 0, .slice p 0 c, .slice q 0 d] 27)
          clear hb c2
          go_wp2_with fail
          ((with_reducible refine (dalive_any _ (hE.keep hK.old)).mono ?_); rintro e w2 ⟨rfl, hb⟩)
          replace hK := hK.call hb
          go_wp2_with fail
          go_ret
          exact ⟨rfl, hK.old⟩

set_option maxRecDepth 100000 in
set_option maxHeartbeats 4000000 in
theorem law_accepts (s : ByteArray) (W : World) (hE : EnvM W) :
    Calls Tryz.prog 8 #[.string s] W fun e w' => e = .returned (.bool true) ∧ Below W.heap.size W w' := by
  by_cases h1 : 6000 < s.size
  · have z1 : decide ((6000 : Int) < s.size) = true := decide_eq_true (by omega)
    go_enter Tryz.func8, Tryz.ntmps8
    go_wp2_with fail
    ((with_reducible refine (dalive_any _ hE).mono ?_); rintro e w1 ⟨rfl, hb⟩)
    go_wp2_with fail
    go_ret
    exact ⟨rfl, hb⟩
  · have z1 : decide ((6000 : Int) < s.size) = false := decide_eq_false (by omega)
    have c1 := fun V hE => dparse_b s V hE (by omega)
    obtain ⟨f, l, er, hP⟩ : ∃ f l er, parsev s.data.toList = (f, l, er) := ⟨_, _, _, rfl⟩
    rw [hP] at c1
    by_cases h0 : er = 0
    · subst h0
      obtain ⟨hv, ht, rfl⟩ := print_parse hP
      have hN := name_len (good_of hv).name
      have hq := hid (show s.data.toList = (printv f).1 ∧ (0 : Int) = (printv f).2 by unfold printv; rw [if_pos hv]; exact ⟨ht.symm, rfl⟩)
      have c2 := fun sc ss V hE a b k => dprint_b f sc ss s 0 V hE a b k (by omega) hq
      have c3 := fun sc ss V hE a b => dvalidf_b f sc ss 0 V hE a b (by omega) (hid hv.symm)
      unfold fileV at c2 c3
      have c0 : ∀ V, EnvM V → Calls Tryz.prog 16 #[.string s] V fun e w' => ∃ sc ss, e = .returned (.tuple #[.agg #[.string (bs f.name), .int .i64 f.m.w, .int .i64 f.m.h, sc, ss], .int .i64 0, .int .i64 0]) ∧ RowAt w' sc f.m.cs ∧ PosAt w' ss f.st ∧ CapOk sc ∧ Below V.heap.size V w' := fun V hE => c1 V hE
      clear c1 hP hv ht hN hq
      go_enter Tryz.func8, Tryz.ntmps8
      go_wp2_with fail
      ((with_reducible refine (c0 _ hE).mono ?_); rintro e w1 ⟨sc, ss, rfl, hr, hp, hc, hb⟩)
      obtain ⟨p, c, rfl, -, -⟩ := id hr
      obtain ⟨ps, pc, rfl, -, -⟩ := id hp
      have hb2 := (Below.refl w1.heap.size w1).alloc (Nat.le_refl _) (.cells #[.string (bs f.name), .int .i64 f.m.w, .int .i64 f.m.h, .slice p f.m.cs.length c, .slice ps f.st.length pc] 27)
      replace hr := hr.below hb2
      replace hp := hp.below hb2
      have hK := (show Keep W w1 [] from ⟨fun e he => by simp at he, hb⟩).alloc [.string (bs f.name), .int .i64 f.m.w, .int .i64 f.m.h, .slice p f.m.cs.length c, .slice ps f.st.length pc] 27
      clear hb2 hb c0
      go_wp2_with fail
      ((with_reducible refine (c2 _ _ _ (hE.keep hK.old) hr hp hc).mono ?_); rintro e w2 ⟨rfl, hb⟩)
      replace hK := hK.call hb
      replace hr := hr.below hb
      replace hp := hp.below hb
      clear hb c2
      have hF := hK.one
      obtain ⟨F0, F1, F2, F3, F4⟩ : _ ∧ _ ∧ _ ∧ _ ∧ _ := ⟨hF.cell 0, hF.cell 1, hF.cell 2, hF.cell 3, hF.cell 4⟩
      simp only [List.getElem?_cons_zero, List.getElem?_cons_succ] at F0 F1 F2 F3 F4
      go_wp2_with fail
      ((with_reducible refine (c3 _ _ _ (hE.keep hK.old).p hr hp).mono ?_); rintro e w3 ⟨rfl, hb⟩)
      replace hK := hK.call hb
      clear hb c3
      go_wp2_with fail
      ((with_reducible refine (dalive_any _ (hE.keep hK.old)).mono ?_); rintro e w4 ⟨rfl, hb⟩)
      replace hK := hK.call hb
      go_wp2_with fail
      go_ret
      exact ⟨rfl, hK.old⟩
    · have hz := parse_zero (s := s.data.toList) (by rw [hP]; exact h0)
      rw [hP] at hz
      simp only at hz
      subst hz
      have z2 : (er != 0) = true := by simpa using h0
      have c2 := fun V hE => (c1 V hE).mono fun _ _ h => zero_open h
      dsimp only at c2
      clear c1 hP h0
      go_enter Tryz.func8, Tryz.ntmps8
      go_wp2_with fail
      ((with_reducible refine (c2 _ hE).mono ?_); rintro e w1 ⟨p, c, q, d, rfl, hb⟩)
      have hK := (show Keep W w1 [] from ⟨fun e he => by simp at he, hb⟩).other (.cells #[.string ⟨#[]⟩, .int .i64 0, .int .i64 0, .slice p 0 c, .slice q 0 d] 27)
      clear hb c2
      go_wp2_with fail
      ((with_reducible refine (dalive_any _ (hE.keep hK.old)).mono ?_); rintro e w2 ⟨rfl, hb⟩)
      replace hK := hK.call hb
      go_wp2_with fail
      go_ret
      exact ⟨rfl, hK.old⟩

theorem low5 {V w' : World} {b : Nat} {p q r x y : Value} {t : TypeId} (hF : Blk V b [p, q, r, x, y] t) (h : Below V.heap.size V w') :
    w'.cell? ⟨b, 0, none⟩ = some p ∧ w'.cell? ⟨b, 1, none⟩ = some q ∧ w'.cell? ⟨b, 2, none⟩ = some r ∧ w'.cell? ⟨b, 3, none⟩ = some x ∧ w'.cell? ⟨b, 4, none⟩ = some y :=
  ⟨(hF.below h).cell 0, (hF.below h).cell 1, (hF.below h).cell 2, (hF.below h).cell 3, (hF.below h).cell 4⟩
set_option maxRecDepth 100000 in
set_option maxHeartbeats 8000000 in
theorem law_valid (f : F3) (sc ss : Value) (W : World) (hE : EnvM W) (hr : RowAt W sc f.m.cs) (hp : PosAt W ss f.st) (hc : CapOk sc) :
    Calls Tryz.prog 3 #[.agg #[.string (bs f.name), .int .i64 f.m.w, .int .i64 f.m.h, sc, ss]] W fun e w' => e = .returned (.bool true) ∧ Below W.heap.size W w' := by
  obtain ⟨p, c, rfl, -, -⟩ := id hr
  obtain ⟨ps, pc, rfl, -, -⟩ := id hp
  have hK := (Keep.nil W).alloc [.string (bs f.name), .int .i64 f.m.w, .int .i64 f.m.h, .slice p f.m.cs.length c, .slice ps f.st.length pc] 27
  replace hr := hr.below hK.old
  replace hp := hp.below hK.old
  obtain ⟨sb, hsb⟩ : ∃ b, Hid (b = decide (f.m.cs.length ≤ 1100 ∧ f.st.length ≤ 20 ∧ (bs f.name).size ≤ 1000)) := ⟨_, hid rfl⟩
  have c0 := fun V a b => dsmall_b (bs f.name) f.m.w f.m.h f.m.cs f.st (.slice p f.m.cs.length c) (.slice ps f.st.length pc) sb V a b hsb
  go_enter Tryz.func3, Tryz.ntmps3
  go_wp2_with fail
  ((with_reducible refine (c0 _ hr hp).mono ?_); rintro e w1 ⟨rfl, hb⟩)
  replace hK := hK.call hb
  replace hr := hr.below hb
  replace hp := hp.below hb
  clear hb c0
  cases sb with
  | false =>
    go_wp2_with fail
    ((with_reducible refine (dalive_any _ (hE.keep hK.old)).mono ?_); rintro e w2 ⟨rfl, hb⟩)
    replace hK := hK.call hb
    go_wp2_with fail
    go_ret
    exact ⟨rfl, hK.old⟩
  | true =>
    have hs := of_decide_eq_true hsb.out.symm
    rw [bs_size] at hs
    have hn : f.name.length ≤ 100000 := by omega
    obtain ⟨T, r, hT⟩ : ∃ (T : ByteArray) (r : Int), Hid (T.data.toList = (printv f).1 ∧ r = (printv f).2) := ⟨bs (printv f).1, _, hid ⟨bs_list _, rfl⟩⟩
    obtain ⟨v, hv⟩ : ∃ v, Hid (v = validf f) := ⟨_, hid rfl⟩
    have c1 := fun V hE a b => dprint_b f (.slice p f.m.cs.length c) (.slice ps f.st.length pc) T r V hE a b hc hn hT
    have c2 := fun V a b => rprint_b f (.slice p f.m.cs.length c) (.slice ps f.st.length pc) T r V a b hn hT
    have c3 := fun V hE a b => dvalidf_b f (.slice p f.m.cs.length c) (.slice ps f.st.length pc) v V hE a b hn hv
    have c4 := fun V a b => rvalidf_b f (.slice p f.m.cs.length c) (.slice ps f.st.length pc) v V a b hn hv
    unfold fileV at c1 c3
    have hF := hK.one
    obtain ⟨F0, F1, F2, F3, F4⟩ := low5 hF (Below.refl _ _)
    clear hsb hT hv hs hn
    go_wp2_with fail
    ((with_reducible refine (c1 _ (hE.keep hK.old) hr hp).mono ?_); rintro e w2 ⟨rfl, hb⟩)
    replace hK := hK.call hb
    replace hr := hr.below hb
    replace hp := hp.below hb
    clear hb c1 F0 F1 F2 F3 F4 hF
    have hF := hK.one
    obtain ⟨F0, F1, F2, F3, F4⟩ := low5 hF (Below.refl _ _)
    go_wp2_with fail
    ((with_reducible refine (c2 _ hr hp).mono ?_); rintro e w3 ⟨rfl, hb⟩)
    replace hK := hK.call hb
    replace hr := hr.below hb
    replace hp := hp.below hb
    clear hb c2 F0 F1 F2 F3 F4 hF
    have hF := hK.one
    have hq := (Below.refl w3.heap.size w3).drew
    go_wp2_with fail
    go_region_held3 (fun w' => w'.cell? ⟨W.heap.size, 0, none⟩ = some (.string (bs f.name)) ∧ w'.cell? ⟨W.heap.size, 1, none⟩ = some (.int .i64 f.m.w) ∧ w'.cell? ⟨W.heap.size, 2, none⟩ = some (.int .i64 f.m.h) ∧ w'.cell? ⟨W.heap.size, 3, none⟩ = some (.slice p f.m.cs.length c) ∧ w'.cell? ⟨W.heap.size, 4, none⟩ = some (.slice ps f.st.length pc))
      (first | exact low5 hF (by assumption))
      (first
        | (go_at_call 14; with_reducible refine (c3 _ (hE.keep (below_call hK.old hq)).p (hr.below hq) (hp.below hq)).mono ?_; rintro e w' ⟨rfl, hb⟩; replace hq := below_call hq hb; clear hb)
        | (go_at_call 15; with_reducible refine (c4 _ (hr.below hq) (hp.below hq)).mono ?_; rintro e w' ⟨rfl, hb⟩; replace hq := below_call hq hb; clear hb)
        | (go_at_call 11; with_reducible refine (dalive_any _ (hE.keep (below_call hK.old hq))).mono ?_; rintro e w' ⟨rfl, hb⟩; replace hq := below_call hq hb; clear hb))
    go_wp2_with fail
    go_ret
    exact ⟨rfl, below_call hK.old hq⟩

end Go.Proofs.YtmpbgfobiceehaaGreatDoor
