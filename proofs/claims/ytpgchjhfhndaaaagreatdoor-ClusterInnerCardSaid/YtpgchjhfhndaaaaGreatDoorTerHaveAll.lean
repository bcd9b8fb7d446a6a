/-
  What terrain's functions are held to, all of it, as landed at 6373918; and what the listed tables of displacements and passages give.
-/
import Derived.Test.YtpgchjhfhndaaaaGreatDoorTerLandP
import Derived.Test.YtpgchjhfhndaaaaGreatDoorTerLandQ
import Derived.Test.YtpgchjhfhndaaaaGreatDoorLifts
import Derived.Test.YtpgchjhfhndaaaaGreatDoorLiftT
namespace Go.Proofs.YtpgchjhfhndaaaaGreatDoor
open Go.ChangeShapes Go.WideShapes Go.ChangeAt Go.WideMaps Go.WideElems Go.RowKit Go.Joins Go.Deep

theorem have_in : InHave := fun w h x y b W _ _ _ _ e => din_b w h x y b W e

/-- The listed variables of the rows. -/
def laidT : List (String × DataW Unit) := [("skirmish/grid.displacements", Rows.laid_skirmish_grid_displacements), ("skirmish/terrain.passages", Rows.laid_skirmish_terrain_passages)]
theorem door_t (os : Os) (args : Array Value) : laidMetH Tryz.prog laidT ((World.doorLaid Tryz.prog 62 os).forCall (fun _ _ => 0) ⟨#[], args, []⟩).memory :=
  laidMetH_of_parts3 (fuel := 8) (laidMet_of_run' 8 (by kernel_rfl) (by kernel_rfl)) (by kernel_rfl) (by kernel_rfl)

theorem gDis : Tryz.prog.globalNamed "skirmish/grid.displacements" = some 0 := by kernel_rfl
theorem tDis : (Tryz.prog.globals[0]?).map (·.type) = some 218 := by kernel_rfl
theorem cellsDis : Tryz.prog.cellsOf 218 = 16 := by kernel_rfl
theorem gPas : Tryz.prog.globalNamed "skirmish/terrain.passages" = some 1 := by kernel_rfl
theorem tPas : (Tryz.prog.globals[1]?).map (·.type) = some 226 := by kernel_rfl
theorem cellsPas : Tryz.prog.cellsOf 226 = 18 := by kernel_rfl
theorem cellsPass : Tryz.prog.cellsOf 210 = 3 := by kernel_rfl
/-- Two cells that read as a displacement, three that read as a passage: with their data. -/
theorem dis_cells {W : World} {base : Nat} {sp : Nat → Bool} {held : Bool} {m : Nat} {cs : List Value} {y : DataW Unit × List MemPlace} (h : DataW.trod (fun _ => ()) Tryz.prog W base sp held m 29 cs = some y) :
    ∃ a b, cs = [.int .i64 a, .int .i64 b] ∧ y = (.agg [.lit (.int .i64 a), .lit (.int .i64 b)], []) := by
  obtain ⟨y0, y1, n, rfl, hl, h0, h1⟩ := trod_struct2 Tryz.underlying29 h
  rw [cells2] at hl
  obtain ⟨u, v, rfl⟩ := list_2 cs hl
  have h0' : DataW.trod (fun _ => ()) Tryz.prog W base sp held n 3 [u] = some y0 := by simpa [cells1] using h0
  have h1' : DataW.trod (fun _ => ()) Tryz.prog W base sp held n 3 [v] = some y1 := by simpa [cells1] using h1
  obtain ⟨a, ea, rfl, _⟩ := DataW.trod_int Tryz.underlying3 h0'
  obtain ⟨b, eb, rfl, _⟩ := DataW.trod_int Tryz.underlying3 h1'
  injection ea with ea
  injection eb with eb
  exact ⟨a, b, by rw [ea, eb], rfl⟩
theorem pas_cells {W : World} {base : Nat} {sp : Nat → Bool} {held : Bool} {m : Nat} {cs : List Value} {y : DataW Unit × List MemPlace} (h : DataW.trod (fun _ => ()) Tryz.prog W base sp held m 210 cs = some y) :
    ∃ a b c, cs = [.bool a, .bool b, .bool c] ∧ y = (.agg [.lit (.bool a), .lit (.bool b), .lit (.bool c)], []) := by
  obtain ⟨y0, y1, y2, n, rfl, hl, h0, h1, h2⟩ := trod_struct3 Tryz.underlying210 h
  rw [cellsPass] at hl
  obtain ⟨u, v, w, rfl⟩ := list_3 cs hl
  have h0' : DataW.trod (fun _ => ()) Tryz.prog W base sp held n 4 [u] = some y0 := by simpa [cellsB] using h0
  have h1' : DataW.trod (fun _ => ()) Tryz.prog W base sp held n 4 [v] = some y1 := by simpa [cellsB] using h1
  have h2' : DataW.trod (fun _ => ()) Tryz.prog W base sp held n 4 [w] = some y2 := by simpa [cellsB] using h2
  obtain ⟨a, ea, rfl⟩ := DataW.trod_bool Tryz.underlying4 h0'
  obtain ⟨b, eb, rfl⟩ := DataW.trod_bool Tryz.underlying4 h1'
  obtain ⟨c, ec, rfl⟩ := DataW.trod_bool Tryz.underlying4 h2'
  injection ea with ea
  injection eb with eb
  injection ec with ec
  exact ⟨a, b, c, by rw [ea, eb, ec], rfl⟩
/-- The element of an array's cells, and its datum. -/
theorem tab_at {W : World} {base : Nat} {sp : Nat → Bool} {held : Bool} {fuel n size : Nat} {t e : TypeId} {cs : List Value} {D : List (DataW Unit)} {p : List MemPlace} (ht : Tryz.prog.underlying t = some (.array n e)) (hs : Tryz.prog.cellsOf e = size) (hn : Tryz.prog.cellsOf t = n * size)
    (h : DataW.trod (fun _ => ()) Tryz.prog W base sp held fuel t cs = some (.agg D, p)) (k : Nat) (hk : k < n) :
    ∃ m y, D[k]? = some y.1 ∧ DataW.trod (fun _ => ()) Tryz.prog W base sp held m e ((cs.drop (k * size)).take size) = some y ∧ cs.length = n * size := by
  obtain ⟨xs, m, _, hx, hl, hx2, ha⟩ := DataW.trod_array ht h
  rw [hn] at hl
  have e := ha k hk
  rw [hs] at e
  have ex : xs[k]? = some (xs[k]'(by omega)) := List.getElem?_eq_getElem (by omega)
  rw [ex] at e
  injection hx with hD _
  injection hD with hD
  exact ⟨m, _, by rw [hD, List.getElem?_map, ex]; rfl, e, hl⟩
theorem slice_at {cs l : List Value} {a n i : Nat} (h : (cs.drop a).take n = l) (hi : i < n) : cs[a + i]? = l[i]? := by
  rw [← h, List.getElem?_take, if_pos hi, List.getElem?_drop]

theorem env_t (W : World) (h : laidMetH Tryz.prog laidT W) (_hsh : W.ShapedOpen Tryz.prog) : EnvT W := by
  rw [MakeChecks.laidMetH_plain _ _ _ (by kernel_rfl)] at h
  obtain ⟨ps, ⟨g', t', cs, fuel, p, q, hg', ht', hvar, hd, hrest, _⟩, _⟩ := h
  obtain ⟨g2, t2, cs2, fuel2, p2, q2, hg2, ht2, hvar2, hd2, _, _⟩ := hrest
  obtain rfl := Option.some.inj (gDis.symm.trans hg')
  obtain rfl := Option.some.inj (tDis.symm.trans ht')
  obtain rfl := Option.some.inj (gPas.symm.trans hg2)
  obtain rfl := Option.some.inj (tPas.symm.trans ht2)
  have hc : ∀ i, W.cell? ⟨0, i, none⟩ = cs.toList[i]? := fun i => by simpa using World.var?_cell gDis hvar i
  have hc2 : ∀ i, W.cell? ⟨1, i, none⟩ = cs2.toList[i]? := fun i => by simpa using World.var?_cell gPas hvar2 i
  have hall : ∀ k : Nat, k < 8 → W.cell? ⟨0, k * 2, none⟩ = some (.int .i64 (shx k)) ∧ W.cell? ⟨0, k * 2 + 1, none⟩ = some (.int .i64 (shy k)) := by
    intro k hk
    obtain ⟨m, y, e, ht, _⟩ := tab_at Tryz.underlying218 cells2 cellsDis hd k hk
    obtain ⟨a, b, e1, rfl⟩ := dis_cells ht
    have f0 := slice_at (i := 0) e1 (by decide)
    have f1 := slice_at (i := 1) e1 (by decide)
    rw [Nat.add_zero] at f0
    rw [hc, hc, f0, f1]
    obtain rfl | rfl | rfl | rfl | rfl | rfl | rfl | rfl : k = 0 ∨ k = 1 ∨ k = 2 ∨ k = 3 ∨ k = 4 ∨ k = 5 ∨ k = 6 ∨ k = 7 := by omega
    all_goals
      injection e with e
      injection e with e
      injection e with ea e
      injection e with eb _
      injection ea with ea
      injection ea with _ ea
      injection eb with eb
      injection eb with _ eb
      subst ea eb
      exact ⟨rfl, rfl⟩
  have hall2 : ∀ k : Nat, k < 6 → W.cell? ⟨1, k * 3, none⟩ = some (.bool (footv k)) ∧ W.cell? ⟨1, k * 3 + 1, none⟩ = some (.bool (hoverv k)) ∧ W.cell? ⟨1, k * 3 + 2, none⟩ = some (.bool (sightv k)) := by
    intro k hk
    obtain ⟨m, y, e, ht, _⟩ := tab_at Tryz.underlying226 cellsPass cellsPas hd2 k hk
    obtain ⟨a, b, c, e1, rfl⟩ := pas_cells ht
    have f0 := slice_at (i := 0) e1 (by decide)
    have f1 := slice_at (i := 1) e1 (by decide)
    have f2 := slice_at (i := 2) e1 (by decide)
    rw [Nat.add_zero] at f0
    rw [hc2, hc2, hc2, f0, f1, f2]
    obtain rfl | rfl | rfl | rfl | rfl | rfl : k = 0 ∨ k = 1 ∨ k = 2 ∨ k = 3 ∨ k = 4 ∨ k = 5 := by omega
    all_goals
      injection e with e
      injection e with e
      injection e with ea e
      injection e with eb e
      injection e with ec _
      injection ea with ea
      injection ea with ea
      injection eb with eb
      injection eb with eb
      injection ec with ec
      injection ec with ec
      subst ea eb ec
      exact ⟨rfl, rfl, rfl⟩
  exact ⟨⟨hall, World.block_lt_of_cell? W _ (hall 0 (by decide)).1⟩, ⟨hall2, World.block_lt_of_cell? W _ (hall2 0 (by decide)).1⟩⟩

end Go.Proofs.YtpgchjhfhndaaaaGreatDoor
