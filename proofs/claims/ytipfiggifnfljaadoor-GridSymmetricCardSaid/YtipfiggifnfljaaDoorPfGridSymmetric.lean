/-
  For all cells and directions, GridSymmetric answers true: distances are symmetrical and satisfy the triangle inequality, and opposite steps undo each other (of coordinates beyond 1000 the law asks its examples alone). The program's listed package-level variables hold what their own initialisers lay (the card ties them to the program's text).
-/
import Derived.Test.YtipfiggifnfljaaDoorGridLandAll
import Derived.Test.YtipfiggifnfljaaDoorGridL5
namespace Go.Proofs.YtipfiggifnfljaaDoor
open Go.ChangeShapes Go.WideShapes Go.ChangeAt Go.WideMaps Go.WideElems Go.RowKit

set_option maxRecDepth 100000 in
theorem gridSymmetric_lifted (os : Os) (started : os.Started) (H : Type) (enc : TypeId × Value → H) :
    ReturnsInHanded {} Tryd.checked os 8 .any (fun w args => (Rows.gridSymmetricSpec.pre enc Tryd.prog Tryd.f8 [] false w args ∧ laidMetH Tryd.prog laidG w) ∧ sizedMet enc Tryd.prog Tryd.f8 (OpenSpec.ofChange Rows.gridSymmetricSpec) false w args)
      (Rows.gridSymmetricSpec.post enc Tryd.prog Tryd.f8 false true false false) := by
  refine lift_card env_g started (by kernel_rfl) Tryd.func8
    (ChangeSpec.witness_shaped (enc := enc) (C := Tryd.checked) (os := os) (X := fun w _ => laidMetH Tryd.prog laidG w) false (World.doorLaid Tryd.prog 62 os) #[.agg #[.int .i64 0, .int .i64 0, .int .i64 0, .int .i64 0, .int .i64 0, .int .i64 0], .int .u8 0] 8 rfl (World.shaped_of_RefB (by kernel_rfl) (by kernel_rfl)) (by kernel_rfl) (by kernel_rfl) (by kernel_rfl) (door_g os _)) ?_
  intro W base args ds gs before hval0 hW hE
  have hval : ∀ (j : Nat) t v, Tryd.f8.params[j]? = some t → args[j]? = some v → Value.okWide Tryd.prog W .any base t v := hval0
  have hW' := hW
  obtain ⟨p, q, hA0, hV, rfl, hfz, hnd⟩ := hW
  have hA : DataW.TrodAll enc Tryd.prog W 0 (fun _ => true) true Tryd.f8.params.toList args.toList ds p := hA0
  have hA1 := hA
  rw [Tryd.params8] at hA hval
  obtain ⟨v0, v1, d0, d1, p0, p1, rfl, rfl, rfl, h0, h1⟩ := trodAll_two hA
  obtain ⟨rfl, rfl⟩ := trodVars_none hV
  obtain ⟨a0, b0, c0, e0, f0, g0, rfl, -, -, -, -, -, -, -, -⟩ := open_three (hval 0 43 v0 rfl rfl) h0
  obtain ⟨n1, rfl, rfl, rfl, wn1⟩ := open_int Tryd.underlying5 (hval 1 5 v1 rfl rfl) h1
  have in1 := wf_u8 wn1
  clear hA0 hval0
  simp only [List.append_nil] at hW'
  refine (law_sym have_grid a0 b0 c0 e0 f0 g0 n1 W hE in1.1 in1.2).mono ?_
  rintro e W' ⟨rfl, hb⟩
  exact ⟨_, rfl, post_stays hW' hA1 (by first | rfl | simp only [List.append_nil]) (by rw [Tryd.params8]; exact of_decide_eq_true (by kernel_rfl)) rfl (fun _ _ _ => trodAll_mk1 (shut_bool Tryd.underlying4 _)) (fun _ => rfl) hb (ok_one (by kernel_rfl) rfl (okWide_bool_mk Tryd.underlying4 _))⟩

theorem gridSymmetric_row_holds : Rows.GridSymmetricSaid :=
  OpenClaim.holds_of_wide 8 Tryd.f8 rfl rfl rfl rfl rfl rfl rfl ⟨rfl, rfl, rfl, rfl, rfl⟩ rfl rfl rfl rfl rfl (by kernel_rfl) Tryd.func8 (by kernel_rfl)
    (of_decide_eq_true (by kernel_rfl)) (by unfold Func.isWrapper; first | (rw [if_pos (by decide +kernel)]; kernel_rfl) | (rw [if_neg (by decide +kernel)]; exact ⟨rfl, rfl⟩))
    (fun os started H enc _ => gridSymmetric_lifted os started H enc)

theorem gridSymmetric_holds : Rows.GridSymmetricCardSaid :=
  Claim7.holds_tied_plain_at .later [] [.data] true (true, "51968959f4b8f7322e4374d7462ae186efe81fecc79d015bf478c6d93f88da61") false
    gridSymmetric_row_holds (fun _ h => by cases h) (by kernel_rfl) (fun _ h => by cases h) gridSymmetric_row_tie rfl ⟨rfl, rfl⟩ (by kernel_rfl) rfl
    (fun f fn hf hfn => by
      obtain rfl : f = 8 := Option.some.inj ((show Tryd.prog.funcNamed "skirmish/skirmishlaw06.GridSymmetric" = some 8 by kernel_rfl).symm.trans hf) |>.symm
      obtain rfl : fn = Tryd.f8 := (Option.some.inj (Tryd.func8.symm.trans hfn)).symm
      exact ⟨by kernel_rfl, fun j t ht => by
        rw [Tryd.params8] at ht
        have hm : t ∈ [43, 5] := by simpa using Array.mem_of_getElem? ht
        have hall : ([43, 5].all fun u => !Tryd.prog.wantsStandIn u) = true := by kernel_rfl
        exact (show Tryd.prog.wantsStandIn t = false by simpa using List.all_eq_true.1 hall t hm)⟩)
    (by kernel_rfl)

end Go.Proofs.YtipfiggifnfljaaDoor
