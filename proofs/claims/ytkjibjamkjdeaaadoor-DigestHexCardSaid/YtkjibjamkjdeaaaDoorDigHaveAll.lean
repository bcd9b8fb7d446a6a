/-
  What digest's functions are held to, all of it; and what the listed variables give.
-/
import Derived.Test.YtkjibjamkjdeaaaDoorDigLandC
import Derived.Test.YtkjibjamkjdeaaaDoorLiftC
namespace Go.Proofs.YtkjibjamkjdeaaaDoor
open Go.ChangeShapes Go.WideShapes Go.ChangeAt Go.WideMaps Go.WideElems Go.RowKit Go.Lib

theorem same_below {e a : Ending} {w w' : World} (h : e = a ∧ w = w') : e = a ∧ Below w.heap.size w w' := ⟨h.1, h.2 ▸ Below.refl _ _⟩
theorem have_dig : DigHave EnvD where
  keep := EnvD.keep
  fnv := fun s v w _ hs h => dfnv_n s v w hs h
  extend := fun h s v w _ _ hs hv => dextend_n h s v w hs hv
  mix := fun a b v w _ ha hb hv => dmix_n a b v w ha hb hv
  hex := fun n w hE hn => dhex_any n w hE hn
theorem have_dig5 : DigHave EnvU where
  keep := EnvU.keep
  fnv := fun s v w _ hs h => dfnv_n s v w hs h
  extend := fun h s v w _ _ hs hv => dextend_n h s v w hs hv
  mix := fun a b v w _ ha hb hv => dmix_n a b v w ha hb hv
  hex := fun n w hE hn => dhex_any n w hE.d hn
theorem have_unhex : UnhexHave EnvU := fun s n er w hE hs h => dunhex_n s n er w hE hs h

/-- The listed variables of the rows: three of them, or five. -/
def laidThree : List (String × DataW Unit) := [("math/bits.deBruijn32tab", Rows.laid_math_bits_deBruijn32tab), ("math/bits.deBruijn64tab", Rows.laid_math_bits_deBruijn64tab), ("internal/strconv.uint64pow10", Rows.laid_internal_strconv_uint64pow10)]
def laidFive : List (String × DataW Unit) := [("math/bits.deBruijn32tab", Rows.laid_math_bits_deBruijn32tab), ("math/bits.deBruijn64tab", Rows.laid_math_bits_deBruijn64tab), ("internal/strconv.uint64pow10", Rows.laid_internal_strconv_uint64pow10), ("strconv.ErrRange", Rows.laid_strconv_ErrRange), ("strconv.ErrSyntax", Rows.laid_strconv_ErrSyntax)]
theorem door_three (os : Os) (args : Array Value) : laidMetH Tryd.prog laidThree ((World.doorLaid Tryd.prog 62 os).forCall (fun _ _ => 0) ⟨#[], args, []⟩).memory :=
  laidMetH_of_parts3 (fuel := 8) (laidMet_of_run' 8 (by kernel_rfl) (by kernel_rfl)) (by kernel_rfl) (by kernel_rfl)
theorem door_five (os : Os) (args : Array Value) : laidMetH Tryd.prog laidFive ((World.doorLaid Tryd.prog 62 os).forCall (fun _ _ => 0) ⟨#[], args, []⟩).memory :=
  laidMetH_of_parts3 (fuel := 8) (laidMet_of_run' 8 (by kernel_rfl) (by kernel_rfl)) (by kernel_rfl) (by kernel_rfl)

theorem gBru : Tryd.prog.globalNamed "math/bits.deBruijn64tab" = some 5 := by kernel_rfl
theorem tBru : (Tryd.prog.globals[5]?).map (·.type) = some 95 := by kernel_rfl
theorem cellsU8 : Tryd.prog.cellsOf 5 = 1 := by kernel_rfl
theorem cellsBru : Tryd.prog.cellsOf 95 = 64 := by kernel_rfl
def bruTab : List Int := [0, 1, 56, 2, 57, 49, 28, 3, 61, 58, 42, 50, 38, 29, 17, 4, 62, 47, 59, 36, 45, 43, 51, 22, 53, 39, 33, 30, 24, 18, 12, 5, 63, 55, 48, 27, 60, 41, 37, 16, 46, 35, 44, 21, 52, 32, 23, 11, 54, 26, 40, 15, 34, 20, 31, 10, 25, 14, 19, 9, 13, 8, 7, 6]
theorem bru_data : (Rows.laid_math_bits_deBruijn64tab : DataW Unit) = Lib.tabData .u8 bruTab := by rfl
theorem gErr : Tryd.prog.globalNamed "strconv.ErrRange" = some 2 := by kernel_rfl
theorem tErr : (Tryd.prog.globals[2]?).map (·.type) = some 42 := by kernel_rfl
theorem gSyn : Tryd.prog.globalNamed "strconv.ErrSyntax" = some 1 := by kernel_rfl
theorem tSyn : (Tryd.prog.globals[1]?).map (·.type) = some 42 := by kernel_rfl
theorem cellsErr : Tryd.prog.cellsOf 93 = 1 := by kernel_rfl
theorem cellsStr : Tryd.prog.cellsOf 9 = 1 := by kernel_rfl
theorem starErr : "*" ++ "errors.errorString" = "*errors.errorString" := by decide
theorem rowErr (u : TypeId) (h : Tryd.prog.typeName? 3 u = some "*errors.errorString") : u = 91 :=
  typeName_ptr_named (nm := "errors.errorString") (by rw [starErr]; kernel_rfl) (by kernel_rfl) (by decide) u (by rw [starErr]; exact h)

theorem envD_of {W : World} {l : List (String × DataW Unit)} (h : laidMet Tryd.prog (("math/bits.deBruijn64tab", Rows.laid_math_bits_deBruijn64tab) :: l) W) : EnvD W := by
  rw [bru_data] at h
  have hb := tabIs_of_head gBru tBru Tryd.underlying95 Tryd.underlying5 cellsU8 cellsBru h
  have hc := hb.cell gBru 15 (by decide)
  have : 5 < W.heap.size := Lib.lt_of_cell hc
  exact ⟨hc, by omega⟩
theorem env_three (W : World) (h : laidMetH Tryd.prog laidThree W) (_hsh : W.ShapedOpen Tryd.prog) : EnvD W := by
  rw [MakeChecks.laidMetH_plain _ _ _ (by kernel_rfl)] at h
  exact envD_of h.tail
theorem env_five (W : World) (h : laidMetH Tryd.prog laidFive W) (_hsh : W.ShapedOpen Tryd.prog) : EnvU W := by
  rw [MakeChecks.laidMetH_plain _ _ _ (by kernel_rfl)] at h
  have h3 := h.tail.tail.tail
  obtain ⟨a, s, hv, _⟩ := laid_sentinel h3 gErr tErr Tryd.underlying42 rowErr Tryd.underlying91 Tryd.underlying93 rfl rfl Tryd.underlying9 cellsErr cellsStr
  obtain ⟨b, t, hu, _⟩ := laid_sentinel h3.tail gSyn tSyn Tryd.underlying42 rowErr Tryd.underlying91 Tryd.underlying93 rfl rfl Tryd.underlying9 cellsErr cellsStr
  exact ⟨envD_of h.tail, ⟨_, _, by simpa using World.var?_cell gSyn hu 0⟩, ⟨_, _, by simpa using World.var?_cell gErr hv 0⟩⟩

end Go.Proofs.YtkjibjamkjdeaaaDoor
