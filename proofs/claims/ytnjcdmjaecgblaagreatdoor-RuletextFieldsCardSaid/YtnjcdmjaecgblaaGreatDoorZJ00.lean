/-
  What the laws of ruletext ask of the functions; The laws of ruletext; The reference of ruletext, as the laws ask it: Fields.
-/
import Derived.Test.YtnjcdmjaecgblaaGreatDoorZA17
import Derived.Test.YtnjcdmjaecgblaaGreatDoorZB00
import Derived.Test.YtnjcdmjaecgblaaGreatDoorZC00
namespace Go.Proofs.YtnjcdmjaecgblaaGreatDoor
section
open Go.RowKit Go.Lib
abbrev RFieldsP : Prop := ∀ (k : Int) (W : World), Calls Tryz.prog 11 #[.int .i64 k] W fun e w' => ∃ v, e = .returned v ∧ StrSl w' v (fieldsv k) ∧ Below W.heap.size W w'
abbrev RNamesP : Prop := ∀ (l m : List ByteArray) (v u : Value) (b : Bool) (W : World), StrSl W v l → StrSl W u m → Hid (b = decide (l = m)) →
 Calls Tryz.prog 9 #[v, u] W fun e w' => e = .returned (.bool b) ∧ Below W.heap.size W w'
end
section
open Go.RowKit Go.Lib
section
variable {E : World → Prop} (H : RtHave E)
include H
set_option maxHeartbeats 8000000 in
set_option maxRecDepth 100000 in
theorem law10_fields (k : Int) (W : World) (hE : E W) (hrf : RFieldsP) (hrn : RNamesP) :
 Calls Tryz.prog 3 #[.int .i64 k] W fun e w' => e = .returned (.bool true) ∧ Below W.heap.size W w' := by
 have hL := Below.refl W.heap.size W
 go_enter Tryz.func3, Tryz.ntmps3
 go_wp2_with fail
 ((with_reducible refine (H.fields k _).mono ?_); rintro e w1 ⟨v, rfl, hs, hb⟩)
 replace hL := below_call hL hb
 clear hb
 go_wp2_with fail
 ((with_reducible refine (hrf k _).mono ?_); rintro e w2 ⟨u, rfl, hu, hb⟩)
 replace hL := below_call hL hb
 replace hs := hs.below hb
 clear hb
 go_wp2_with fail
 ((with_reducible refine (hrn (fieldsv k) (fieldsv k) v u true _ hs hu (hid (by simp))).mono ?_); rintro e w3 ⟨rfl, hb⟩)
 replace hL := below_call hL hb
 clear hb
 go_wp2_with fail
 ((with_reducible refine (awake10_b H _ (H.keep hE hL)).mono ?_); rintro e w4 ⟨rfl, hb⟩)
 replace hL := below_call hL hb
 clear hb
 go_wp2_with fail
 go_ret
 exact ⟨rfl, hL⟩
end
end
section
open Go.RowKit Go.Lib
theorem rfields_have : RFieldsP := fun k W => r10fields_b k W
theorem rnames_have : RNamesP := fun l m v u b W hl hm e => r9names_b l m v u b W hl hm e
end

end Go.Proofs.YtnjcdmjaecgblaaGreatDoor
