/-
  For all maps, blocked cells, classes and clusters, ClusterEntrances answers true: Entrances returns the crossings that the chapter defines (of maps of more than 1024 cells, or more than 1024 elements that tell what is blocked, the law asks its examples alone). The program's listed package-level variables hold what their own initialisers lay (the card ties them to the program's text).
-/
import Derived.Test.YtpgchjhfhndaaaaDoorTerHaveAll
import Derived.Test.YtpgchjhfhndaaaaDoorLiftCl
import Derived.Test.YtpgchjhfhndaaaaDoorClLawQ
namespace Go.Proofs.YtpgchjhfhndaaaaDoor
open Go.ChangeShapes Go.WideShapes Go.ChangeAt Go.WideMaps Go.WideElems Go.RowKit

set_option maxRecDepth 100000 in
theorem clusterEntrances_lifted (os : Os) (started : os.Started) (H : Type) (enc : TypeId × Value → H) :
    ReturnsInHanded {} Tryd.checked os 4 .any (fun w args => (Rows.clusterEntrancesSpec.pre enc Tryd.prog Tryd.f4 [] false w args ∧ laidMetH Tryd.prog laidT w) ∧ sizedMet enc Tryd.prog Tryd.f4 (OpenSpec.ofChange Rows.clusterEntrancesSpec) false w args)
      (Rows.clusterEntrancesSpec.post enc Tryd.prog Tryd.f4 false true false false) := by
  refine lift_card env_t started (by kernel_rfl) Tryd.func4
    (ChangeSpec.witness_shaped (enc := enc) (C := Tryd.checked) (os := os) (X := fun w _ => laidMetH Tryd.prog laidT w) false (World.doorLaid Tryd.prog 62 os) #[.agg #[.int .i64 0, .int .i64 0, .slice none 0 0, .slice none 0 0, .int .i64 0], .int .i64 0, .int .i64 0] 8 rfl (World.shaped_of_RefB (by kernel_rfl) (by kernel_rfl)) (by kernel_rfl) (by kernel_rfl) (by kernel_rfl) (door_t os _)) ?_
  intro W base args ds gs before hval0 hW hE
  have hval : ∀ (j : Nat) t v, Tryd.f4.params[j]? = some t → args[j]? = some v → Value.okWide Tryd.prog W .any base t v := hval0
  have hW' := hW
  obtain ⟨p, q, hA0, hV, rfl, hfz, hnd⟩ := hW
  have hA : DataW.TrodAll enc Tryd.prog W 0 (fun _ => true) true Tryd.f4.params.toList args.toList ds p := hA0
  have hA1 := hA
  rw [Tryd.params4] at hA hval
  obtain ⟨v0, v1, v2, d0, d1, d2, p0, p1, p2, rfl, rfl, rfl, h0, h1, h2⟩ := trodAll_three hA
  obtain ⟨rfl, rfl⟩ := trodVars_none hV
  obtain ⟨m0, s0, b0, u0, c0, rfl, hr0, hn0, hb0⟩ := open_fld15 (hval 0 37 v0 rfl rfl) h0
  obtain ⟨n1, rfl, rfl, rfl, wn1⟩ := open_int Tryd.underlying3 (hval 1 3 v1 rfl rfl) h1
  have in1 := wf_i64 wn1
  obtain ⟨n2, rfl, rfl, rfl, wn2⟩ := open_int Tryd.underlying3 (hval 2 3 v2 rfl rfl) h2
  have in2 := wf_i64 wn2
  clear hA0 hval0
  simp only [List.append_nil] at hW'
  refine (law15_entrances m0 s0 b0 u0 c0 n1 n2 W hE (fun c hc => (hn0.c c hc).2.1) hr0 hb0).mono ?_
  rintro e W' ⟨rfl, hb⟩
  exact ⟨_, rfl, post_stays hW' hA1 (by first | rfl | simp only [List.append_nil]) (by rw [Tryd.params4]; exact of_decide_eq_true (by kernel_rfl)) rfl (fun _ _ _ => trodAll_mk1 (shut_bool Tryd.underlying4 _)) (fun _ => rfl) hb (ok_one (by kernel_rfl) rfl (okWide_bool_mk Tryd.underlying4 _))⟩

theorem clusterEntrances_row_holds : Rows.ClusterEntrancesSaid :=
  OpenClaim.holds_of_wide 4 Tryd.f4 rfl rfl rfl rfl rfl rfl rfl ⟨rfl, rfl, rfl, rfl, rfl⟩ rfl rfl rfl rfl rfl (by kernel_rfl) Tryd.func4 (by kernel_rfl)
    (of_decide_eq_true (by kernel_rfl)) (by unfold Func.isWrapper; first | (rw [if_pos (by decide +kernel)]; kernel_rfl) | (rw [if_neg (by decide +kernel)]; exact ⟨rfl, rfl⟩))
    (fun os started H enc _ => clusterEntrances_lifted os started H enc)

theorem clusterEntrances_holds : Rows.ClusterEntrancesCardSaid :=
  Claim7.holds_tied_plain_at .later [] [.data, .data] true (true, "7b6c53a48c9cc4bf40dbb8a76d611156ed115c50c622681c6b5e858a66e7e9e9") false
    clusterEntrances_row_holds (fun _ h => by cases h) (by kernel_rfl) (fun _ h => by cases h) clusterEntrances_row_tie rfl ⟨rfl, rfl⟩ (by kernel_rfl) rfl
    (fun f fn hf hfn => by
      obtain rfl : f = 4 := Option.some.inj ((show Tryd.prog.funcNamed "skirmish/skirmishlaw15.ClusterEntrances" = some 4 by kernel_rfl).symm.trans hf) |>.symm
      obtain rfl : fn = Tryd.f4 := (Option.some.inj (Tryd.func4.symm.trans hfn)).symm
      exact ⟨by kernel_rfl, fun j t ht => by
        rw [Tryd.params4] at ht
        have hm : t ∈ [37, 3, 3] := by simpa using Array.mem_of_getElem? ht
        have hall : ([37, 3, 3].all fun u => !Tryd.prog.wantsStandIn u) = true := by kernel_rfl
        exact (show Tryd.prog.wantsStandIn t = false by simpa using List.all_eq_true.1 hall t hm)⟩)
    (by kernel_rfl)

end Go.Proofs.YtpgchjhfhndaaaaDoor
