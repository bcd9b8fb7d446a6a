/-
  What the six listed variables of mapfile's rows give.
-/
import Derived.Test.YtmpbgfobiceehaaGreatDoorLifts
import Derived.Test.YtmpbgfobiceehaaGreatDoorLiftM
namespace Go.Proofs.YtmpbgfobiceehaaGreatDoor
open Go.ChangeShapes Go.WideShapes Go.ChangeAt Go.WideMaps Go.WideElems Go.RowKit Go.Joins Go.Deep Go.Lib

/-- The listed variables of the rows. -/
def laidSix : List (String × DataW Unit) := [("math/bits.deBruijn32tab", Rows.laid_math_bits_deBruijn32tab), ("math/bits.deBruijn64tab", Rows.laid_math_bits_deBruijn64tab), ("internal/strconv.uint64pow10", Rows.laid_internal_strconv_uint64pow10), ("strconv.ErrRange", Rows.laid_strconv_ErrRange), ("strconv.ErrSyntax", Rows.laid_strconv_ErrSyntax), ("skirmish/terrain.passages", Rows.laid_skirmish_terrain_passages)]
theorem door_six (os : Os) (args : Array Value) : laidMetH Tryz.prog laidSix ((World.doorLaid Tryz.prog 62 os).forCall (fun _ _ => 0) ⟨#[], args, []⟩).memory :=
  laidMetH_of_parts3 (fuel := 8) (laidMet_of_run' 8 (by kernel_rfl) (by kernel_rfl)) (by kernel_rfl) (by kernel_rfl)

theorem tErr : (Tryz.prog.globals[4]?).map (·.type) = some 50 := by kernel_rfl
theorem tSyn : (Tryz.prog.globals[3]?).map (·.type) = some 50 := by kernel_rfl
theorem tTab : (Tryz.prog.globals[2]?).map (·.type) = some 139 := by kernel_rfl
theorem cellsErr : Tryz.prog.cellsOf 163 = 1 := by kernel_rfl
theorem cellsU64 : Tryz.prog.cellsOf 130 = 1 := by kernel_rfl
theorem cellsTab : Tryz.prog.cellsOf 139 = 20 := by kernel_rfl
theorem starErr : "*" ++ "errors.errorString" = "*errors.errorString" := by decide
theorem rowErr (u : TypeId) (h : Tryz.prog.typeName? 3 u = some "*errors.errorString") : u = 161 :=
  typeName_ptr_named (nm := "errors.errorString") (by rw [starErr]; kernel_rfl) (by kernel_rfl) (by decide) u (by rw [starErr]; exact h)
theorem tab_data : (Rows.laid_internal_strconv_uint64pow10 : DataW Unit) = Lib.tabData .u64 Lib.pow10Tab := by rfl

theorem gPas : Tryz.prog.globalNamed "skirmish/terrain.passages" = some 0 := by kernel_rfl
theorem tPas : (Tryz.prog.globals[0]?).map (·.type) = some 120 := by kernel_rfl
theorem cellsPas : Tryz.prog.cellsOf 120 = 18 := by kernel_rfl
theorem cellsPass : Tryz.prog.cellsOf 91 = 3 := by kernel_rfl
theorem pas_cells {W : World} {base : Nat} {sp : Nat → Bool} {held : Bool} {m : Nat} {cs : List Value} {y : DataW Unit × List MemPlace} (h : DataW.trod (fun _ => ()) Tryz.prog W base sp held m 91 cs = some y) :
    ∃ a b c, cs = [.bool a, .bool b, .bool c] ∧ y = (.agg [.lit (.bool a), .lit (.bool b), .lit (.bool c)], []) := by
  obtain ⟨y0, y1, y2, n, rfl, hl, h0, h1, h2⟩ := trod_struct3 Tryz.underlying91 h
  rw [cellsPass] at hl
  obtain ⟨u, v, w, rfl⟩ := list_3 cs hl
  have h0' : DataW.trod (fun _ => ()) Tryz.prog W base sp held n 4 [u] = some y0 := by simpa [cellsB] using h0
  have h1' : DataW.trod (fun _ => ()) Tryz.prog W base sp held n 4 [v] = some y1 := by simpa [cellsB] using h1
  have h2' : DataW.trod (fun _ => ()) Tryz.prog W base sp held n 4 [w] = some y2 := by simpa [cellsB] using h2
  obtain ⟨a, ea, rfl⟩ := DataW.trod_bool Tryz.underlying4 h0'
  obtain ⟨b, eb, rfl⟩ := DataW.trod_bool Tryz.underlying4 h1'
  obtain ⟨c, ec, rfl⟩ := DataW.trod_bool Tryz.underlying4 h2'
  injection ea with ea
  injection eb with eb
  injection ec with ec
  exact ⟨a, b, c, by rw [ea, eb, ec], rfl⟩
/-- The element of an array's cells, and its datum. -/
theorem tab_at {W : World} {base : Nat} {sp : Nat → Bool} {held : Bool} {fuel n size : Nat} {t e : TypeId} {cs : List Value} {D : List (DataW Unit)} {p : List MemPlace} (ht : Tryz.prog.underlying t = some (.array n e)) (hs : Tryz.prog.cellsOf e = size) (hn : Tryz.prog.cellsOf t = n * size)
    (h : DataW.trod (fun _ => ()) Tryz.prog W base sp held fuel t cs = some (.agg D, p)) (k : Nat) (hk : k < n) :
    ∃ m y, D[k]? = some y.1 ∧ DataW.trod (fun _ => ()) Tryz.prog W base sp held m e ((cs.drop (k * size)).take size) = some y ∧ cs.length = n * size := by
  obtain ⟨xs, m, _, hx, hl, hx2, ha⟩ := DataW.trod_array ht h
  rw [hn] at hl
  have e := ha k hk
  rw [hs] at e
  have ex : xs[k]? = some (xs[k]'(by omega)) := List.getElem?_eq_getElem (by omega)
  rw [ex] at e
  injection hx with hD _
  injection hD with hD
  exact ⟨m, _, by rw [hD, List.getElem?_map, ex]; rfl, e, hl⟩
theorem slice_at {cs l : List Value} {a n i : Nat} (h : (cs.drop a).take n = l) (hi : i < n) : cs[a + i]? = l[i]? := by
  rw [← h, List.getElem?_take, if_pos hi, List.getElem?_drop]

theorem envP_of {W : World} {l : List (String × DataW Unit)} (h : laidMet Tryz.prog (("skirmish/terrain.passages", Rows.laid_skirmish_terrain_passages) :: l) W) : EnvP W := by
  obtain ⟨ps, ⟨g2, t2, cs2, fuel2, p2, q2, hg2, ht2, hvar2, hd2, _, _⟩, _⟩ := h
  obtain rfl := Option.some.inj (gPas.symm.trans hg2)
  obtain rfl := Option.some.inj (tPas.symm.trans ht2)
  have hc2 : ∀ i, W.cell? ⟨0, i, none⟩ = cs2.toList[i]? := fun i => by simpa using World.var?_cell gPas hvar2 i
  have hall2 : ∀ k : Nat, k < 6 → W.cell? ⟨0, k * 3, none⟩ = some (.bool (footv k)) ∧ W.cell? ⟨0, k * 3 + 1, none⟩ = some (.bool (hoverv k)) ∧ W.cell? ⟨0, k * 3 + 2, none⟩ = some (.bool (sightv k)) := by
    intro k hk
    obtain ⟨m, y, e, ht, _⟩ := tab_at Tryz.underlying120 cellsPass cellsPas hd2 k hk
    obtain ⟨a, b, c, e1, rfl⟩ := pas_cells ht
    have f0 := slice_at (i := 0) e1 (by decide)
    have f1 := slice_at (i := 1) e1 (by decide)
    have f2 := slice_at (i := 2) e1 (by decide)
    rw [Nat.add_zero] at f0
    rw [hc2, hc2, hc2, f0, f1, f2]
    obtain rfl | rfl | rfl | rfl | rfl | rfl : k = 0 ∨ k = 1 ∨ k = 2 ∨ k = 3 ∨ k = 4 ∨ k = 5 := by omega
    all_goals
      injection e with e
      injection e with e
      injection e with ea e
      injection e with eb e
      injection e with ec _
      injection ea with ea
      injection ea with ea
      injection eb with eb
      injection eb with eb
      injection ec with ec
      injection ec with ec
      subst ea eb ec
      exact ⟨rfl, rfl, rfl⟩
  exact ⟨hall2, World.block_lt_of_cell? W _ (hall2 0 (by decide)).1⟩

theorem low_big : decide (12 ≤ Tryz.prog.low) = true := by kernel_rfl
theorem few_vars : decide (Tryz.prog.globals.size ≤ 11) = true := by kernel_rfl
theorem big_of {W : World} (hsh : W.ShapedOpen Tryz.prog) : 12 ≤ W.heap.size := by
  obtain ⟨o, _, ho, _⟩ := hsh.2 11 (of_decide_eq_true few_vars) (of_decide_eq_true low_big)
  have := (Array.getElem?_eq_some_iff.1 ho).1
  omega
theorem env_six (W : World) (h : laidMetH Tryz.prog laidSix W) (hsh : W.ShapedOpen Tryz.prog) : EnvM W := by
  rw [MakeChecks.laidMetH_plain _ _ _ (by kernel_rfl)] at h
  have h2 := h.tail.tail
  have h3 := h2.tail
  have h4 := h3.tail
  have hp := envP_of h4.tail
  rw [tab_data] at h2
  have ht := tabIs_of_head gTab tTab Tryz.underlying139 Tryz.underlying130 cellsU64 cellsTab h2
  obtain ⟨a, s, hv, _⟩ := laid_sentinel h3 gRng tErr Tryz.underlying50 rowErr Tryz.underlying161 Tryz.underlying163 rfl rfl Tryz.underlying9 cellsErr cellsStr
  obtain ⟨b, t, hu, _⟩ := laid_sentinel h4 gSyn tSyn Tryz.underlying50 rowErr Tryz.underlying161 Tryz.underlying163 rfl rfl Tryz.underlying9 cellsErr cellsStr
  exact ⟨hp, ht, Tryz.laysM145.s1_3 W hsh, ⟨_, _, hu⟩, ⟨_, _, hv⟩, big_of hsh⟩

end Go.Proofs.YtmpbgfobiceehaaGreatDoor
