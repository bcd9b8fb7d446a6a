/-
  For all values and texts, WireRoundTrips answers true: what is encoded is decoded, whatever stands before and behind it.
-/
import Derived.Test.YtmpgeipknnoclaaLiftP
import Derived.Test.YtmpgeipknnoclaaWireHaveAll
import Derived.Test.YtmpgeipknnoclaaWireRound
import Derived.Test.YtmpgeipknnoclaaLiftD
namespace Go.Proofs.Ytmpgeipknnoclaa
open Go.ChangeShapes Go.WideShapes Go.ChangeAt Go.RowKit Go.Joins
open Go.ChangeMaps (open_string shut_string)
set_option maxRecDepth 100000 in
theorem wireRoundTrips_lifted (os : Os) (started : os.Started) (H : Type) (enc : TypeId × Value → H) :
    ReturnsInHanded {} Try.checked os 3 .any (Rows.wireRoundTripsSpec.pre6 enc Try.prog Try.f3 Rows.wireRoundTripsRow.domain false) (Rows.wireRoundTripsSpec.post enc Try.prog Try.f3 false true false false) := by
  refine returnsInHanded_of_change (C := Try.checked) own started (by kernel_rfl) Try.func3
    (ChangeSpec.witness6 (enc := enc) (C := Try.checked) false ⟨#[], #[.agg #[.int .u64 0, .int .i64 0, .bool false, .string ByteArray.empty], .string ByteArray.empty, .string ByteArray.empty], []⟩ 8 (by kernel_rfl) (by kernel_rfl) (by kernel_rfl) (by kernel_rfl)) ?_
  intro W base args ds gs before hval0 hW _ _
  have hval : ∀ (j : Nat) t v, Try.f3.params[j]? = some t → args[j]? = some v → Value.okWide Try.prog W .any base t v := hval0
  have hW' := hW
  obtain ⟨p, q, hA0, hV, rfl, hfz, hnd⟩ := hW
  have hA : DataW.TrodAll enc Try.prog W 0 (fun _ => true) true Try.f3.params.toList args.toList ds p := hA0
  rw [Try.params3] at hA hval
  obtain ⟨v0, v1, v2, d0, d1, d2, p0, p1, p2, rfl, rfl, rfl, h0, h1, h2⟩ := trodAll_three hA
  obtain ⟨rfl, rfl⟩ := trodVars_none hV
  obtain ⟨c0, e0, f0, g0, y0, z0, q0, r0, m0, rfl, rfl, rfl, hy0, hz0, hq0, hr0⟩ := open_agg4 Try.underlying24 (by kernel_rfl) cellsData (hval 0 24 v0 rfl rfl) h0
  obtain ⟨x0, ex0, rfl, wx0⟩ := DataW.trod_int Try.underlying22 hy0
  obtain ⟨t0, et0, rfl, wt0⟩ := DataW.trod_int Try.underlying3 hz0
  obtain ⟨b0, eb0, rfl⟩ := DataW.trod_bool Try.underlying4 hq0
  obtain ⟨s0, es0, rfl, ws0⟩ := DataW.trod_string Try.underlying9 hr0
  simp at ex0 et0 eb0 es0
  subst ex0 et0 eb0 es0
  obtain ⟨x1, rfl, rfl, rfl, wx1⟩ := open_string Try.underlying9 (hval 1 9 v1 rfl rfl) h1
  obtain ⟨x2, rfl, rfl, rfl, wx2⟩ := open_string Try.underlying9 (hval 2 9 v2 rfl rfl) h2
  clear hA0 hval0
  simp only [List.append_nil] at hW'
  refine (law_round have_wire x0 t0 b0 s0 x1 x2 W (wf_u64 wx0) (wf_i64 wt0)).mono ?_
  rintro e W' ⟨rfl, hb⟩
  exact ⟨_, rfl, post_law hW' (fun _ _ _ => trodAll_mk1 (shut_bool Try.underlying4 _)) (fun sp _ => trodAll_mk3 (data_reads _ sp wx0 wt0 ws0) (shut_string Try.underlying9 wx1) (shut_string Try.underlying9 wx2)) (fun _ => rfl) hb (ok_one (by kernel_rfl) rfl (okWide_bool_mk Try.underlying4 _))⟩

theorem wireRoundTrips_holds : Rows.WireRoundTripsSaid :=
  OpenClaim.holds_of_wide 3 Try.f3 rfl rfl rfl rfl rfl rfl rfl ⟨rfl, rfl, rfl, rfl, rfl⟩ rfl rfl rfl rfl rfl (by kernel_rfl) Try.func3 (by kernel_rfl)
    (of_decide_eq_true (by kernel_rfl)) (by unfold Func.isWrapper; first | (rw [if_pos (by decide +kernel)]; kernel_rfl) | (rw [if_neg (by decide +kernel)]; exact ⟨rfl, rfl⟩))
    (fun os started H enc _ => wireRoundTrips_lifted os started H enc)

end Go.Proofs.Ytmpgeipknnoclaa
