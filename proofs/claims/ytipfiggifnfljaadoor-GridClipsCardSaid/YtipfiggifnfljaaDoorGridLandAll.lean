/-
  What grid's functions are held to, all of it, as landed at da8c777; and what the listed table of displacements gives.
-/
import Derived.Lib.AtoiErrMem
import Derived.Test.YtipfiggifnfljaaDoorGridLandH
import Derived.Test.YtipfiggifnfljaaDoorLiftC
import Derived.Test.YtipfiggifnfljaaDoorLiftG
namespace Go.Proofs.YtipfiggifnfljaaDoor
open Go.ChangeShapes Go.WideShapes Go.ChangeAt Go.WideMaps Go.WideElems Go.RowKit Go.Lib

theorem have_grid : GridHave EnvG where
  keep := EnvG.keep
  valid := fun w h b W _ _ e => by rw [e.out]; exact (dvalid_any w h W).mono fun _ _ => same_below
  inn := fun w h x y b W _ _ _ _ e => by rw [e.out]; exact din_any w h x y W
  index := fun w x y n W _ _ _ e => by rw [e.out]; exact dindex_any w x y W
  at_ := fun w i x y W _ hi e => by rw [e.out.1, e.out.2]; exact dat_any w i W hi.2
  step := fun x y d u v W hE _ _ _ e => by rw [e.out.1, e.out.2]; exact dstep_any x y d W hE
  nei := fun w h x y L W hE _ _ _ _ e => by
    have h1 := e.out
    unfold neiv at h1
    cases hv : validv w h with
    | true =>
      rw [if_pos hv] at h1
      exact dnei_yes w h x y W hv L hE (hid h1)
    | false =>
      rw [if_neg (by rw [hv]; simp)] at h1
      subst h1
      exact (dnei_no w h x y W hv).mono fun e w' ⟨he, hb⟩ => ⟨_, he, World.ownsRow_nil _ _ _ _, hb⟩
  oct := fun x y u v n W _ _ _ _ e => by rw [e.out]; exact doct_any x y u v W
  cheb := fun x y u v n W _ _ _ _ e => by rw [e.out]; exact dcheb_any x y u v W
  inside := fun x y u v p q b W _ _ _ _ _ _ e => by rw [e.out]; exact dins_x x y u v p q W
  clip := fun g h x y u v a b c d W _ _ _ _ _ _ e => by
    have h1 := dclip_x g h x y u v W
    rw [e.out] at h1
    exact h1
  cells := fun x y u v L W _ _ _ _ e => dcells_x x y u v W L e
  meet := fun x y u v p q m n b W _ _ _ _ _ _ _ _ e => by rw [e.out]; exact dmeet_x x y u v p q m n W

/-- The listed variable of the rows. -/
def laidG : List (String × DataW Unit) := [("skirmish/grid.displacements", Rows.laid_skirmish_grid_displacements)]
theorem door_g (os : Os) (args : Array Value) : laidMetH Tryd.prog laidG ((World.doorLaid Tryd.prog 62 os).forCall (fun _ _ => 0) ⟨#[], args, []⟩).memory :=
  laidMetH_of_parts3 (fuel := 8) (laidMet_of_run' 8 (by kernel_rfl) (by kernel_rfl)) (by kernel_rfl) (by kernel_rfl)

theorem gDis : Tryd.prog.globalNamed "skirmish/grid.displacements" = some 0 := by kernel_rfl
theorem tDis : (Tryd.prog.globals[0]?).map (·.type) = some 50 := by kernel_rfl
theorem cellsDis : Tryd.prog.cellsOf 50 = 16 := by kernel_rfl
/-- A table of cells, cell for cell. -/
theorem tab_cells {W : World} {base : Nat} {sp : Nat → Bool} {held : Bool} {fuel : Nat} {cs : List Value} {D : List (DataW Unit)} {p : List MemPlace} (h : DataW.trod (fun _ => ()) Tryd.prog W base sp held fuel 50 cs = some (.agg D, p)) (k : Nat) (hk : k < 8) :
    ∃ a b : Int, D[k]? = some (.agg [.lit (.int .i64 a), .lit (.int .i64 b)]) ∧ cs[k * 2]? = some (.int .i64 a) ∧ cs[k * 2 + 1]? = some (.int .i64 b) := by
  obtain ⟨xs, m, _, hx, hl, hn, ha⟩ := DataW.trod_array Tryd.underlying50 h
  rw [cellsDis] at hl
  have e := ha k hk
  rw [cellsPos] at e
  have ex : xs[k]? = some (xs[k]'(by omega)) := List.getElem?_eq_getElem (by omega)
  rw [ex] at e
  obtain ⟨u, x, hux⟩ := list_two ((cs.drop (k * 2)).take 2) (by simp; omega)
  rw [hux] at e
  obtain ⟨a, b, rfl, rfl, hy, -, -⟩ := pos_cells e
  injection hx with hD hp
  injection hD with hD
  refine ⟨a, b, ?_, ?_, ?_⟩
  · rw [hD, List.getElem?_map, ex, hy]; rfl
  · have := congrArg (·[0]?) hux
    simpa [List.getElem?_take, List.getElem?_drop] using this
  · have := congrArg (·[1]?) hux
    simpa [List.getElem?_take, List.getElem?_drop] using this
theorem env_g (W : World) (h : laidMetH Tryd.prog laidG W) (_hsh : W.ShapedOpen Tryd.prog) : EnvG W := by
  rw [MakeChecks.laidMetH_plain _ _ _ (by kernel_rfl)] at h
  obtain ⟨ps, ⟨g', t', cs, fuel, p, q, hg', ht', hvar, hd, _, _⟩, _⟩ := h
  obtain rfl := Option.some.inj (gDis.symm.trans hg')
  obtain rfl := Option.some.inj (tDis.symm.trans ht')
  have hc : ∀ i, W.cell? ⟨0, i, none⟩ = cs.toList[i]? := fun i => by simpa using World.var?_cell gDis hvar i
  have hall : ∀ k : Nat, k < 8 → W.cell? ⟨0, k * 2, none⟩ = some (.int .i64 (shx k)) ∧ W.cell? ⟨0, k * 2 + 1, none⟩ = some (.int .i64 (shy k)) := by
    intro k hk
    obtain ⟨a, b, e, e1, e2⟩ := tab_cells hd k hk
    rw [hc, hc, e1, e2]
    obtain rfl | rfl | rfl | rfl | rfl | rfl | rfl | rfl : k = 0 ∨ k = 1 ∨ k = 2 ∨ k = 3 ∨ k = 4 ∨ k = 5 ∨ k = 6 ∨ k = 7 := by omega
    all_goals
      injection e with e
      injection e with e
      injection e with ea e
      injection e with eb _
      injection ea with ea
      injection ea with _ ea
      injection eb with eb
      injection eb with _ eb
      subst ea eb
      exact ⟨rfl, rfl⟩
  exact ⟨hall, Lib.lt_of_cell (hall 0 (by decide)).1⟩

end Go.Proofs.YtipfiggifnfljaaDoor
