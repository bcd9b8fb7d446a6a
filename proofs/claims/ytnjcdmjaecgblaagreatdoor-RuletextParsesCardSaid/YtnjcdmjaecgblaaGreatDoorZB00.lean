/-
  What the reference of ruletext answers: Fields, Type.
-/
import Derived.Test.YtnjcdmjaecgblaaGreatDoorZA01
namespace Go.Proofs.YtnjcdmjaecgblaaGreatDoor
section
open Go.RowKit Go.Lib
set_option maxHeartbeats 4000000 in
set_option maxRecDepth 100000 in
theorem r10fields_b (k : Int) (W : World) : Calls Tryz.prog 11 #[.int .i64 k] W (SlNew (fieldsv k) W) := by
 by_cases h1 : k = 1
 · subst h1
   rw [fieldsU]
   go_enter Tryz.func11, Tryz.ntmps11
   go_wp2_with fail
   go_ret
   exact ⟨_, rfl, strs_blk (l := [⟨#[98, 117, 105, 108, 100, 105, 110, 103]⟩, ⟨#[100, 101, 112, 111, 116]⟩, ⟨#[99, 108, 97, 115, 115]⟩, ⟨#[119]⟩, ⟨#[104]⟩, ⟨#[114, 97, 100, 105, 117, 115]⟩, ⟨#[115, 112, 101, 101, 100]⟩, ⟨#[115, 105, 103, 104, 116]⟩, ⟨#[104, 112]⟩, ⟨#[97, 114, 109, 111, 114]⟩, ⟨#[108, 111, 97, 100]⟩, ⟨#[119, 101, 97, 112, 111, 110]⟩, ⟨#[111, 114, 101]⟩, ⟨#[119, 111, 111, 100]⟩, ⟨#[116, 105, 109, 101]⟩, ⟨#[110, 101, 101, 100, 115]⟩, ⟨#[116, 114, 97, 105, 110, 115]⟩, ⟨#[114, 101, 115, 101, 97, 114, 99, 104, 101, 115]⟩]) (Blk.new W [.string ⟨#[98, 117, 105, 108, 100, 105, 110, 103]⟩, .string ⟨#[100, 101, 112, 111, 116]⟩, .string ⟨#[99, 108, 97, 115, 115]⟩, .string ⟨#[119]⟩, .string ⟨#[104]⟩, .string ⟨#[114, 97, 100, 105, 117, 115]⟩, .string ⟨#[115, 112, 101, 101, 100]⟩, .string ⟨#[115, 105, 103, 104, 116]⟩, .string ⟨#[104, 112]⟩, .string ⟨#[97, 114, 109, 111, 114]⟩, .string ⟨#[108, 111, 97, 100]⟩, .string ⟨#[119, 101, 97, 112, 111, 110]⟩, .string ⟨#[111, 114, 101]⟩, .string ⟨#[119, 111, 111, 100]⟩, .string ⟨#[116, 105, 109, 101]⟩, .string ⟨#[110, 101, 101, 100, 115]⟩, .string ⟨#[116, 114, 97, 105, 110, 115]⟩, .string ⟨#[114, 101, 115, 101, 97, 114, 99, 104, 101, 115]⟩] _) (by decide) 18, (Below.refl W.heap.size W).alloc (Nat.le_refl _) _⟩
 have z1 : (k == 1) = false := beq_eq_false_iff_ne.2 h1
 by_cases h2 : k = 2
 · subst h2
   rw [fieldsW]
   go_enter Tryz.func11, Tryz.ntmps11
   go_wp2_with fail
   go_ret
   exact ⟨_, rfl, strs_blk (l := [⟨#[114, 97, 110, 103, 101]⟩, ⟨#[100, 97, 109, 97, 103, 101]⟩, ⟨#[99, 111, 111, 108]⟩, ⟨#[115, 112, 101, 101, 100]⟩, ⟨#[115, 112, 108, 97, 115, 104]⟩]) (Blk.new W [.string ⟨#[114, 97, 110, 103, 101]⟩, .string ⟨#[100, 97, 109, 97, 103, 101]⟩, .string ⟨#[99, 111, 111, 108]⟩, .string ⟨#[115, 112, 101, 101, 100]⟩, .string ⟨#[115, 112, 108, 97, 115, 104]⟩] _) (by decide) 5, (Below.refl W.heap.size W).alloc (Nat.le_refl _) _⟩
 have z2 : (k == 2) = false := beq_eq_false_iff_ne.2 h2
 by_cases h3 : k = 3
 · subst h3
   rw [fieldsT]
   go_enter Tryz.func11, Tryz.ntmps11
   go_wp2_with fail
   go_ret
   exact ⟨_, rfl, strs_blk (l := [⟨#[110, 101, 101, 100, 115]⟩, ⟨#[111, 114, 101]⟩, ⟨#[119, 111, 111, 100]⟩, ⟨#[116, 105, 109, 101]⟩, ⟨#[117, 110, 105, 116]⟩, ⟨#[115, 116, 97, 116]⟩, ⟨#[97, 109, 111, 117, 110, 116]⟩]) (Blk.new W [.string ⟨#[110, 101, 101, 100, 115]⟩, .string ⟨#[111, 114, 101]⟩, .string ⟨#[119, 111, 111, 100]⟩, .string ⟨#[116, 105, 109, 101]⟩, .string ⟨#[117, 110, 105, 116]⟩, .string ⟨#[115, 116, 97, 116]⟩, .string ⟨#[97, 109, 111, 117, 110, 116]⟩] _) (by decide) 7, (Below.refl W.heap.size W).alloc (Nat.le_refl _) _⟩
 have z3 : (k == 3) = false := beq_eq_false_iff_ne.2 h3
 rw [show fieldsv k = [] by unfold fieldsv; rw [if_neg h1, if_neg h2, if_neg h3]]
 go_enter Tryz.func11, Tryz.ntmps11
 go_wp2_with fail
 go_ret
 exact ⟨_, rfl, strSl_nil W, Below.refl _ _⟩
end

end Go.Proofs.YtnjcdmjaecgblaaGreatDoor
