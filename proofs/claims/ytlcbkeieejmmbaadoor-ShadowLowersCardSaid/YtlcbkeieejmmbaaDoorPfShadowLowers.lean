/-
  For all maps and cells, ShadowLowers answers true: lowering a cell to flat ground hides nothing behind it (of maps of more than 1024 cells the law asks its examples alone). The program's listed package-level variables hold what their own initialisers lay (the card ties them to the program's text).
-/
import Derived.Test.YtlcbkeieejmmbaaDoorTerHaveAll
import Derived.Test.YtlcbkeieejmmbaaDoorShU
namespace Go.Proofs.YtlcbkeieejmmbaaDoor
open Go.ChangeShapes Go.WideShapes Go.ChangeAt Go.WideMaps Go.WideElems Go.RowKit

set_option maxRecDepth 100000 in
theorem shadowLowers_lifted (os : Os) (started : os.Started) (H : Type) (enc : TypeId × Value → H) :
    ReturnsInHanded {} Tryd.checked os 9 .any (fun w args => (Rows.shadowLowersSpec.pre enc Tryd.prog Tryd.f9 [] false w args ∧ laidMetH Tryd.prog laidT w) ∧ sizedMet enc Tryd.prog Tryd.f9 (OpenSpec.ofChange Rows.shadowLowersSpec) false w args)
      (Rows.shadowLowersSpec.post enc Tryd.prog Tryd.f9 false true false false) := by
  refine lift_card env_t started (by kernel_rfl) Tryd.func9
    (ChangeSpec.witness_shaped (enc := enc) (C := Tryd.checked) (os := os) (X := fun w _ => laidMetH Tryd.prog laidT w) false (World.doorLaid Tryd.prog 62 os) #[.agg #[.int .i64 0, .int .i64 0, .slice none 0 0], .agg #[.int .i64 0, .int .i64 0], .agg #[.int .i64 0, .int .i64 0], .agg #[.int .i64 0, .int .i64 0]] 8 rfl (World.shaped_of_RefB (by kernel_rfl) (by kernel_rfl)) (by kernel_rfl) (by kernel_rfl) (by kernel_rfl) (door_t os _)) ?_
  intro W base args ds gs before hval0 hW hE
  have hval : ∀ (j : Nat) t v, Tryd.f9.params[j]? = some t → args[j]? = some v → Value.okWide Tryd.prog W .any base t v := hval0
  have hW' := hW
  obtain ⟨p, q, hA0, hV, rfl, hfz, hnd⟩ := hW
  have hA : DataW.TrodAll enc Tryd.prog W 0 (fun _ => true) true Tryd.f9.params.toList args.toList ds p := hA0
  have hA1 := hA
  rw [Tryd.params9] at hA hval
  obtain ⟨v0, v1, v2, v3, d0, d1, d2, d3, p0, p1, p2, p3, rfl, rfl, rfl, h0, h1, h2, h3⟩ := trodAll_four hA
  obtain ⟨rfl, rfl⟩ := trodVars_none hV
  obtain ⟨m0, s0, rfl, hr0, hn0⟩ := open_map (hval 0 24 v0 rfl rfl) h0
  obtain ⟨x1, y1, rfl, ix1, iy1⟩ := open_pos (hval 1 26 v1 rfl rfl) h1
  obtain ⟨x2, y2, rfl, ix2, iy2⟩ := open_pos (hval 2 26 v2 rfl rfl) h2
  obtain ⟨x3, y3, rfl, ix3, iy3⟩ := open_pos (hval 3 26 v3 rfl rfl) h3
  clear hA0 hval0
  simp only [List.append_nil] at hW'
  refine (law12_lowers m0 s0 x1 y1 x2 y2 x3 y3 W hE hr0).mono ?_
  rintro e W' ⟨rfl, hb⟩
  exact ⟨_, rfl, post_stays hW' hA1 (by first | rfl | simp only [List.append_nil]) (by rw [Tryd.params9]; exact of_decide_eq_true (by kernel_rfl)) rfl (fun _ _ _ => trodAll_mk1 (shut_bool Tryd.underlying4 _)) (fun _ => rfl) hb (ok_one (by kernel_rfl) rfl (okWide_bool_mk Tryd.underlying4 _))⟩

theorem shadowLowers_row_holds : Rows.ShadowLowersSaid :=
  OpenClaim.holds_of_wide 9 Tryd.f9 rfl rfl rfl rfl rfl rfl rfl ⟨rfl, rfl, rfl, rfl, rfl⟩ rfl rfl rfl rfl rfl (by kernel_rfl) Tryd.func9 (by kernel_rfl)
    (of_decide_eq_true (by kernel_rfl)) (by unfold Func.isWrapper; first | (rw [if_pos (by decide +kernel)]; kernel_rfl) | (rw [if_neg (by decide +kernel)]; exact ⟨rfl, rfl⟩))
    (fun os started H enc _ => shadowLowers_lifted os started H enc)

theorem shadowLowers_holds : Rows.ShadowLowersCardSaid :=
  Claim7.holds_tied_plain_at .later [] [.data, .data] true (true, "cd771922c23f6f775d310bf28e2c78b6afc22734e4793388b318b5d07260bbb6") false
    shadowLowers_row_holds (fun _ h => by cases h) (by kernel_rfl) (fun _ h => by cases h) shadowLowers_row_tie rfl ⟨rfl, rfl⟩ (by kernel_rfl) rfl
    (fun f fn hf hfn => by
      obtain rfl : f = 9 := Option.some.inj ((show Tryd.prog.funcNamed "skirmish/skirmishlaw12.ShadowLowers" = some 9 by kernel_rfl).symm.trans hf) |>.symm
      obtain rfl : fn = Tryd.f9 := (Option.some.inj (Tryd.func9.symm.trans hfn)).symm
      exact ⟨by kernel_rfl, fun j t ht => by
        rw [Tryd.params9] at ht
        have hm : t ∈ [24, 26, 26, 26] := by simpa using Array.mem_of_getElem? ht
        have hall : ([24, 26, 26, 26].all fun u => !Tryd.prog.wantsStandIn u) = true := by kernel_rfl
        exact (show Tryd.prog.wantsStandIn t = false by simpa using List.all_eq_true.1 hall t hm)⟩)
    (by kernel_rfl)

end Go.Proofs.YtlcbkeieejmmbaaDoor
