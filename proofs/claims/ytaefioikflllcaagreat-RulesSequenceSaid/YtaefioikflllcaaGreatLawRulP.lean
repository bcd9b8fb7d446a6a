/-
  The laws' building, few and awake.
-/
import Derived.Test.YtaefioikflllcaaGreatRulRefP
import Derived.Test.YtaefioikflllcaaGreatRulPure
import Derived.Deep.CutRange
import Derived.Test.YtaefioikflllcaaGreatLandRulS
import Derived.Test.YtaefioikflllcaaGreatLandRulQ
import Derived.Test.YtaefioikflllcaaGreatLandRulT
namespace Go.Proofs.YtaefioikflllcaaGreat

section
open Go.RowKit Go.Lib

def bldU (nm : ByteArray) (l : List ByteArray) : U9 := ⟨nm, true, false, 0, 1, 1, 0, 0, 0, 1, 0, 0, ⟨#[]⟩, 0, 0, 0, l, [], []⟩
theorem buildB (nm : ByteArray) (p : Option Addr) (n c : Nat) : ∀ w, Sem.run Tryz.prog (Instr.build 34 #[(0, .string nm), (1, .bool true), (4, .int .i64 1), (5, .int .i64 1), (9, .int .i64 1), (16, .slice p n c)]) w = .ok (.agg [.string nm, .bool true, .bool false, .int .i64 0, .int .i64 1, .int .i64 1, .int .i64 0, .int .i64 0, .int .i64 0, .int .i64 1, .int .i64 0, .int .i64 0, .string ⟨#[]⟩, .int .i64 0, .int .i64 0, .int .i64 0, .slice p n c, .slice none 0 0, .slice none 0 0].toArray) w := fun w => by kernel_rfl
theorem lone9 (nm : ByteArray) (p : Option Addr) (n c : Nat) : ∀ v ∈ ([.string nm, .bool true, .bool false, .int .i64 0, .int .i64 1, .int .i64 1, .int .i64 0, .int .i64 0, .int .i64 0, .int .i64 1, .int .i64 0, .int .i64 0, .string ⟨#[]⟩, .int .i64 0, .int .i64 0, .int .i64 0, .slice p n c, .slice none 0 0, .slice none 0 0] : List Value), v.oneCell' = true := by
  intro v hv
  simp only [List.mem_cons, List.not_mem_nil, or_false] at hv
  rcases hv with rfl | rfl | rfl | rfl | rfl | rfl | rfl | rfl | rfl | rfl | rfl | rfl | rfl | rfl | rfl | rfl | rfl | rfl | rfl <;> rfl
section
variable {P : Program} {Q : Exit → Act → World → Prop} {a : Act} {w : World} {ops : Array Oper} {o : Oper} {rest : List Oper}
theorem wpList_build_agg (hg : o.guard = none) (t : TypeId) (parts : Array (Nat × Operand)) (ho : o.op = .build t parts) (ps : Array (Nat × Value)) (hp : parts.map (fun (i, x) => (i, a.eval x)) = ps) (zs : List Value) (hz : ∀ w, Sem.run P (Instr.build t ps) w = .ok (.agg zs.toArray) w)
    (h : wpList P ops Q rest (a.put o.dst (.agg zs.toArray)) w) : wpList P ops Q (o :: rest) a w :=
  wpList_plain hg fun K hK => by
    unfold Oper.wp execOp
    simp only [ho, hp, Sem.run_bind, Result.andThen_ok, hz]
    exact hK _ _ h
end
set_option maxHeartbeats 8000000 in
set_option maxRecDepth 100000 in
theorem building_b (nm : ByteArray) (p : Option Addr) (n c : Nat) (W : World) :
    Calls Tryz.prog 33 #[.string nm, .slice p n c] W fun e w' => e = .returned (.agg #[.string nm, .bool true, .bool false, .int .i64 0, .int .i64 1, .int .i64 1, .int .i64 0, .int .i64 0, .int .i64 0, .int .i64 1, .int .i64 0, .int .i64 0, .string ⟨#[]⟩, .int .i64 0, .int .i64 0, .int .i64 0, .slice p n c, .slice none 0 0, .slice none 0 0]) ∧ Below W.heap.size W w' := by
  have hZ := Blk.new W uZero 34
  have hL := (Below.refl W.heap.size W).alloc (Nat.le_refl _) (.cells uZero.toArray 34)
  go_enter Tryz.func33, Tryz.ntmps33
  go_wp2_with (first | (with_reducible refine wpList_alloc_agg rfl 34 rfl _ rfl uZero zeroU ?_) | (with_reducible refine wpList_build_agg rfl 34 _ rfl _ (by rfl) _ (buildB nm p n c) ?_) | (with_reducible refine wpList_store_agg rfl 34 _ _ rfl rfl (W.heap.size) (by with_unfolding_all rfl) Tryz.sizeOf34 _ (by with_unfolding_all rfl) rfl hZ rfl (lone9 nm p n c) ?_))
  refine bodyPost_ret (results_agg_one rfl rfl Tryz.isAgg34 Tryz.sizeOf34 (hZ.put _) rfl) rfl ?_
  exact ⟨rfl, below_setRow hL (Nat.le_refl _) _⟩

end

section
open Go.RowKit Go.Lib

def exR : R9 := ⟨[bldU ⟨#[98, 97, 115, 101]⟩ [], bldU ⟨#[102, 111, 114, 103, 101]⟩ [⟨#[98, 97, 115, 101]⟩]], [], [⟨⟨#[97, 114, 109, 111, 114]⟩, [⟨#[102, 111, 114, 103, 101]⟩], 0, 0, 0, ⟨#[98, 97, 115, 101]⟩, 2, 0⟩]⟩
def badR : R9 := ⟨[bldU ⟨#[98, 97, 115, 101]⟩ [⟨#[102, 111, 114, 103, 101]⟩], bldU ⟨#[102, 111, 114, 103, 101]⟩ [⟨#[98, 97, 115, 101]⟩]], [], []⟩
theorem ex_val : valv exR = 0 := by decide +kernel
theorem ex_seq : seqv exR = [⟨#[98, 97, 115, 101]⟩, ⟨#[102, 111, 114, 103, 101]⟩, ⟨#[97, 114, 109, 111, 114]⟩] := by decide +kernel
theorem ex_ord : orderv exR = ([⟨#[98, 97, 115, 101]⟩, ⟨#[102, 111, 114, 103, 101]⟩, ⟨#[97, 114, 109, 111, 114]⟩], 0) := by unfold orderv; rw [if_pos ex_val, ex_seq]
theorem ex_unit : unitv exR ⟨#[102, 111, 114, 103, 101]⟩ = some (bldU ⟨#[102, 111, 114, 103, 101]⟩ [⟨#[98, 97, 115, 101]⟩]) := by decide +kernel
theorem ex_weapon : weaponv exR ⟨#[102, 111, 114, 103, 101]⟩ = none := by decide +kernel
theorem bad_val : valv badR = 14 := by decide +kernel
theorem none_val : valv ⟨[], [], []⟩ = 0 := by decide +kernel
theorem ex_bad : ¬ exR = badR := by decide +kernel
theorem tank_name : nameB (ByteArray.mk #[116, 97, 110, 107, 95, 50]).data.toList = true := by decide +kernel
theorem two_name : nameB (ByteArray.mk #[50, 116, 97, 110, 107]).data.toList = false := by decide +kernel
theorem no_name : nameB (ByteArray.mk #[]).data.toList = false := by decide +kernel
section
variable {W : World} {g : Nat} {vs : List Value} {t : TypeId}
theorem cells_blk (h : Blk W g vs t) (o k : Nat) : CellsAt W g o ((vs.drop o).take k) := fun i v e => by
  rw [h.cell (o + i)]
  rw [List.getElem?_take] at e
  split at e
  · rw [List.getElem?_drop] at e
    exact e
  · cases e
theorem str_blk {s : ByteArray} (h : Blk W g [.string s] t) (k : Nat) (_hk : k = 1 := by rfl) : StrSl W (.slice (some ⟨g, 0, none⟩) 1 k) [s] :=
  ⟨_, k, rfl, by simp [maxLen], fun _ => ⟨g, 0, rfl, fun i hi => by
    obtain rfl : i = 0 := by simpa using hi
    exact h.cell 0⟩⟩
end
theorem sl_two {W : World} {g c : Nat} {a b : U9} (h0 : UAt W g 0 a) (h1 : UAt W g 19 b) : SlAt UAt 19 W (.slice (some ⟨g, 0, none⟩) 2 c) [a, b] :=
  ⟨_, c, rfl, by simp [maxLen], fun _ => ⟨g, 0, rfl, fun i hi => by
    match i, hi with
    | 0, _ => exact h0
    | 1, _ => exact h1⟩⟩
theorem sl_one {W : World} {g c : Nat} {a : T9} (h0 : TAt W g 0 a) : SlAt TAt 8 W (.slice (some ⟨g, 0, none⟩) 1 c) [a] :=
  ⟨_, c, rfl, by simp [maxLen], fun _ => ⟨g, 0, rfl, fun i hi => by
    obtain rfl : i = 0 := by simpa using hi
    exact h0⟩⟩
theorem sl_none {α : Type} {at_ : World → Nat → Nat → α → Prop} {k : Nat} (W : World) (p : Option Addr) (c : Nat) : SlAt at_ k W (.slice p 0 c) [] := ⟨p, c, rfl, by simp, fun h => absurd h (by simp)⟩
/-- The units of the example: two buildings. -/
theorem units_blk {W : World} {g : Nat} {a b : ByteArray} {la lb : List ByteArray} {pa pb : Option Addr} {na ca nb cb : Nat} {t : TypeId} (h : Blk W g [.string a, .bool true, .bool false, .int .i64 0, .int .i64 1, .int .i64 1, .int .i64 0, .int .i64 0, .int .i64 0, .int .i64 1, .int .i64 0, .int .i64 0, .string ⟨#[]⟩, .int .i64 0, .int .i64 0, .int .i64 0, .slice pa na ca, .slice none 0 0, .slice none 0 0, .string b, .bool true, .bool false, .int .i64 0, .int .i64 1, .int .i64 1, .int .i64 0, .int .i64 0, .int .i64 0, .int .i64 1, .int .i64 0, .int .i64 0, .string ⟨#[]⟩, .int .i64 0, .int .i64 0, .int .i64 0, .slice pb nb cb, .slice none 0 0, .slice none 0 0] t) (ha : StrSl W (.slice pa na ca) la) (hb : StrSl W (.slice pb nb cb) lb) :
    SlAt UAt 19 W (.slice (some ⟨g, 0, none⟩) 2 2) [bldU a la, bldU b lb] :=
  sl_two ⟨_, _, _, cells_blk h 0 19, ha, strSl_nil W, strSl_nil W⟩ ⟨_, _, _, cells_blk h 19 19, hb, strSl_nil W, strSl_nil W⟩
theorem techs_blk {W : World} {g : Nat} {a b : ByteArray} {l : List ByteArray} {p : Option Addr} {n c : Nat} {t : TypeId} (h : Blk W g [.string a, .slice p n c, .int .i64 0, .int .i64 0, .int .i64 0, .string b, .int .i64 2, .int .i64 0] t) (ha : StrSl W (.slice p n c) l) :
    SlAt TAt 8 W (.slice (some ⟨g, 0, none⟩) 1 1) [⟨a, l, 0, 0, 0, b, 2, 0⟩] :=
  sl_one ⟨_, cells_blk h 0 8, ha⟩

theorem ex_mem (w : World) (b1 : Nat) (h1 : Blk w b1 [.string ⟨#[98, 97, 115, 101]⟩] 9) :
    RAt ((((w.alloc (.cells [.string ⟨#[98, 97, 115, 101]⟩, .bool true, .bool false, .int .i64 0, .int .i64 1, .int .i64 1, .int .i64 0, .int .i64 0, .int .i64 0, .int .i64 1, .int .i64 0, .int .i64 0, .string ⟨#[]⟩, .int .i64 0, .int .i64 0, .int .i64 0, .slice none 0 0, .slice none 0 0, .slice none 0 0, .string ⟨#[102, 111, 114, 103, 101]⟩, .bool true, .bool false, .int .i64 0, .int .i64 1, .int .i64 1, .int .i64 0, .int .i64 0, .int .i64 0, .int .i64 1, .int .i64 0, .int .i64 0, .string ⟨#[]⟩, .int .i64 0, .int .i64 0, .int .i64 0, .slice (some ⟨b1, 0, none⟩) 1 1, .slice none 0 0, .slice none 0 0].toArray 34)).alloc (.cells [Value.string ⟨#[102, 111, 114, 103, 101]⟩].toArray 9)).alloc (.cells [.string ⟨#[97, 114, 109, 111, 114]⟩, .slice (some ⟨w.heap.size + 1, 0, none⟩) 1 1, .int .i64 0, .int .i64 0, .int .i64 0, .string ⟨#[98, 97, 115, 101]⟩, .int .i64 2, .int .i64 0].toArray 42)).alloc (.cells [.slice (some ⟨w.heap.size, 0, none⟩) 2 2, .slice none 0 0, .slice (some ⟨w.heap.size + 1 + 1, 0, none⟩) 1 1].toArray 28)) (.slice (some ⟨w.heap.size, 0, none⟩) 2 2) (.slice none 0 0) (.slice (some ⟨w.heap.size + 1 + 1, 0, none⟩) 1 1) exR ∧ Blk ((((w.alloc (.cells [.string ⟨#[98, 97, 115, 101]⟩, .bool true, .bool false, .int .i64 0, .int .i64 1, .int .i64 1, .int .i64 0, .int .i64 0, .int .i64 0, .int .i64 1, .int .i64 0, .int .i64 0, .string ⟨#[]⟩, .int .i64 0, .int .i64 0, .int .i64 0, .slice none 0 0, .slice none 0 0, .slice none 0 0, .string ⟨#[102, 111, 114, 103, 101]⟩, .bool true, .bool false, .int .i64 0, .int .i64 1, .int .i64 1, .int .i64 0, .int .i64 0, .int .i64 0, .int .i64 1, .int .i64 0, .int .i64 0, .string ⟨#[]⟩, .int .i64 0, .int .i64 0, .int .i64 0, .slice (some ⟨b1, 0, none⟩) 1 1, .slice none 0 0, .slice none 0 0].toArray 34)).alloc (.cells [Value.string ⟨#[102, 111, 114, 103, 101]⟩].toArray 9)).alloc (.cells [.string ⟨#[97, 114, 109, 111, 114]⟩, .slice (some ⟨w.heap.size + 1, 0, none⟩) 1 1, .int .i64 0, .int .i64 0, .int .i64 0, .string ⟨#[98, 97, 115, 101]⟩, .int .i64 2, .int .i64 0].toArray 42)).alloc (.cells [.slice (some ⟨w.heap.size, 0, none⟩) 2 2, .slice none 0 0, .slice (some ⟨w.heap.size + 1 + 1, 0, none⟩) 1 1].toArray 28)) (w.heap.size + 1 + 1 + 1) [.slice (some ⟨w.heap.size, 0, none⟩) 2 2, .slice none 0 0, .slice (some ⟨w.heap.size + 1 + 1, 0, none⟩) 1 1] 28 ∧ Below w.heap.size w ((((w.alloc (.cells [.string ⟨#[98, 97, 115, 101]⟩, .bool true, .bool false, .int .i64 0, .int .i64 1, .int .i64 1, .int .i64 0, .int .i64 0, .int .i64 0, .int .i64 1, .int .i64 0, .int .i64 0, .string ⟨#[]⟩, .int .i64 0, .int .i64 0, .int .i64 0, .slice none 0 0, .slice none 0 0, .slice none 0 0, .string ⟨#[102, 111, 114, 103, 101]⟩, .bool true, .bool false, .int .i64 0, .int .i64 1, .int .i64 1, .int .i64 0, .int .i64 0, .int .i64 0, .int .i64 1, .int .i64 0, .int .i64 0, .string ⟨#[]⟩, .int .i64 0, .int .i64 0, .int .i64 0, .slice (some ⟨b1, 0, none⟩) 1 1, .slice none 0 0, .slice none 0 0].toArray 34)).alloc (.cells [Value.string ⟨#[102, 111, 114, 103, 101]⟩].toArray 9)).alloc (.cells [.string ⟨#[97, 114, 109, 111, 114]⟩, .slice (some ⟨w.heap.size + 1, 0, none⟩) 1 1, .int .i64 0, .int .i64 0, .int .i64 0, .string ⟨#[98, 97, 115, 101]⟩, .int .i64 2, .int .i64 0].toArray 42)).alloc (.cells [.slice (some ⟨w.heap.size, 0, none⟩) 2 2, .slice none 0 0, .slice (some ⟨w.heap.size + 1 + 1, 0, none⟩) 1 1].toArray 28)) := by
  have hU := (((Blk.new w [.string ⟨#[98, 97, 115, 101]⟩, .bool true, .bool false, .int .i64 0, .int .i64 1, .int .i64 1, .int .i64 0, .int .i64 0, .int .i64 0, .int .i64 1, .int .i64 0, .int .i64 0, .string ⟨#[]⟩, .int .i64 0, .int .i64 0, .int .i64 0, .slice none 0 0, .slice none 0 0, .slice none 0 0, .string ⟨#[102, 111, 114, 103, 101]⟩, .bool true, .bool false, .int .i64 0, .int .i64 1, .int .i64 1, .int .i64 0, .int .i64 0, .int .i64 0, .int .i64 1, .int .i64 0, .int .i64 0, .string ⟨#[]⟩, .int .i64 0, .int .i64 0, .int .i64 0, .slice (some ⟨b1, 0, none⟩) 1 1, .slice none 0 0, .slice none 0 0] 34).alloc (.cells [Value.string ⟨#[102, 111, 114, 103, 101]⟩].toArray 9)).alloc (.cells [.string ⟨#[97, 114, 109, 111, 114]⟩, .slice (some ⟨w.heap.size + 1, 0, none⟩) 1 1, .int .i64 0, .int .i64 0, .int .i64 0, .string ⟨#[98, 97, 115, 101]⟩, .int .i64 2, .int .i64 0].toArray 42)).alloc (.cells [.slice (some ⟨w.heap.size, 0, none⟩) 2 2, .slice none 0 0, .slice (some ⟨w.heap.size + 1 + 1, 0, none⟩) 1 1].toArray 28)
  have hS := (((Blk.new (w.alloc (.cells [.string ⟨#[98, 97, 115, 101]⟩, .bool true, .bool false, .int .i64 0, .int .i64 1, .int .i64 1, .int .i64 0, .int .i64 0, .int .i64 0, .int .i64 1, .int .i64 0, .int .i64 0, .string ⟨#[]⟩, .int .i64 0, .int .i64 0, .int .i64 0, .slice none 0 0, .slice none 0 0, .slice none 0 0, .string ⟨#[102, 111, 114, 103, 101]⟩, .bool true, .bool false, .int .i64 0, .int .i64 1, .int .i64 1, .int .i64 0, .int .i64 0, .int .i64 0, .int .i64 1, .int .i64 0, .int .i64 0, .string ⟨#[]⟩, .int .i64 0, .int .i64 0, .int .i64 0, .slice (some ⟨b1, 0, none⟩) 1 1, .slice none 0 0, .slice none 0 0].toArray 34)) [Value.string ⟨#[102, 111, 114, 103, 101]⟩] 9).at (World.size_alloc _ _)).alloc (.cells [.string ⟨#[97, 114, 109, 111, 114]⟩, .slice (some ⟨w.heap.size + 1, 0, none⟩) 1 1, .int .i64 0, .int .i64 0, .int .i64 0, .string ⟨#[98, 97, 115, 101]⟩, .int .i64 2, .int .i64 0].toArray 42)).alloc (.cells [.slice (some ⟨w.heap.size, 0, none⟩) 2 2, .slice none 0 0, .slice (some ⟨w.heap.size + 1 + 1, 0, none⟩) 1 1].toArray 28)
  have hT := ((Blk.new ((w.alloc (.cells [.string ⟨#[98, 97, 115, 101]⟩, .bool true, .bool false, .int .i64 0, .int .i64 1, .int .i64 1, .int .i64 0, .int .i64 0, .int .i64 0, .int .i64 1, .int .i64 0, .int .i64 0, .string ⟨#[]⟩, .int .i64 0, .int .i64 0, .int .i64 0, .slice none 0 0, .slice none 0 0, .slice none 0 0, .string ⟨#[102, 111, 114, 103, 101]⟩, .bool true, .bool false, .int .i64 0, .int .i64 1, .int .i64 1, .int .i64 0, .int .i64 0, .int .i64 0, .int .i64 1, .int .i64 0, .int .i64 0, .string ⟨#[]⟩, .int .i64 0, .int .i64 0, .int .i64 0, .slice (some ⟨b1, 0, none⟩) 1 1, .slice none 0 0, .slice none 0 0].toArray 34)).alloc (.cells [Value.string ⟨#[102, 111, 114, 103, 101]⟩].toArray 9)) [.string ⟨#[97, 114, 109, 111, 114]⟩, .slice (some ⟨w.heap.size + 1, 0, none⟩) 1 1, .int .i64 0, .int .i64 0, .int .i64 0, .string ⟨#[98, 97, 115, 101]⟩, .int .i64 2, .int .i64 0] 42).at (c := w.heap.size + 1 + 1) (by simp)).alloc (.cells [.slice (some ⟨w.heap.size, 0, none⟩) 2 2, .slice none 0 0, .slice (some ⟨w.heap.size + 1 + 1, 0, none⟩) 1 1].toArray 28)
  have hR := (Blk.new (((w.alloc (.cells [.string ⟨#[98, 97, 115, 101]⟩, .bool true, .bool false, .int .i64 0, .int .i64 1, .int .i64 1, .int .i64 0, .int .i64 0, .int .i64 0, .int .i64 1, .int .i64 0, .int .i64 0, .string ⟨#[]⟩, .int .i64 0, .int .i64 0, .int .i64 0, .slice none 0 0, .slice none 0 0, .slice none 0 0, .string ⟨#[102, 111, 114, 103, 101]⟩, .bool true, .bool false, .int .i64 0, .int .i64 1, .int .i64 1, .int .i64 0, .int .i64 0, .int .i64 0, .int .i64 1, .int .i64 0, .int .i64 0, .string ⟨#[]⟩, .int .i64 0, .int .i64 0, .int .i64 0, .slice (some ⟨b1, 0, none⟩) 1 1, .slice none 0 0, .slice none 0 0].toArray 34)).alloc (.cells [Value.string ⟨#[102, 111, 114, 103, 101]⟩].toArray 9)).alloc (.cells [.string ⟨#[97, 114, 109, 111, 114]⟩, .slice (some ⟨w.heap.size + 1, 0, none⟩) 1 1, .int .i64 0, .int .i64 0, .int .i64 0, .string ⟨#[98, 97, 115, 101]⟩, .int .i64 2, .int .i64 0].toArray 42)) [.slice (some ⟨w.heap.size, 0, none⟩) 2 2, .slice none 0 0, .slice (some ⟨w.heap.size + 1 + 1, 0, none⟩) 1 1] 28).at (c := w.heap.size + 1 + 1 + 1) (by simp)
  have hb := ((((Below.refl w.heap.size w).alloc (Nat.le_refl _) (.cells [.string ⟨#[98, 97, 115, 101]⟩, .bool true, .bool false, .int .i64 0, .int .i64 1, .int .i64 1, .int .i64 0, .int .i64 0, .int .i64 0, .int .i64 1, .int .i64 0, .int .i64 0, .string ⟨#[]⟩, .int .i64 0, .int .i64 0, .int .i64 0, .slice none 0 0, .slice none 0 0, .slice none 0 0, .string ⟨#[102, 111, 114, 103, 101]⟩, .bool true, .bool false, .int .i64 0, .int .i64 1, .int .i64 1, .int .i64 0, .int .i64 0, .int .i64 0, .int .i64 1, .int .i64 0, .int .i64 0, .string ⟨#[]⟩, .int .i64 0, .int .i64 0, .int .i64 0, .slice (some ⟨b1, 0, none⟩) 1 1, .slice none 0 0, .slice none 0 0].toArray 34)).alloc (by simp) (.cells [Value.string ⟨#[102, 111, 114, 103, 101]⟩].toArray 9)).alloc (by simp; omega) (.cells [.string ⟨#[97, 114, 109, 111, 114]⟩, .slice (some ⟨w.heap.size + 1, 0, none⟩) 1 1, .int .i64 0, .int .i64 0, .int .i64 0, .string ⟨#[98, 97, 115, 101]⟩, .int .i64 2, .int .i64 0].toArray 42)).alloc (by simp; omega) (.cells [.slice (some ⟨w.heap.size, 0, none⟩) 2 2, .slice none 0 0, .slice (some ⟨w.heap.size + 1 + 1, 0, none⟩) 1 1].toArray 28)
  have h1' := h1.below hb
  exact ⟨⟨units_blk hU (strSl_nil _) (str_blk h1' 1), sl_none _ _ _, techs_blk hT (str_blk hS 1)⟩, hR, hb⟩
theorem bad_mem (w : World) (b1 b2 : Nat) (h1 : Blk w b1 [.string ⟨#[102, 111, 114, 103, 101]⟩] 9) (h2 : Blk w b2 [.string ⟨#[98, 97, 115, 101]⟩] 9) :
    RAt ((w.alloc (.cells [.string ⟨#[98, 97, 115, 101]⟩, .bool true, .bool false, .int .i64 0, .int .i64 1, .int .i64 1, .int .i64 0, .int .i64 0, .int .i64 0, .int .i64 1, .int .i64 0, .int .i64 0, .string ⟨#[]⟩, .int .i64 0, .int .i64 0, .int .i64 0, .slice (some ⟨b1, 0, none⟩) 1 1, .slice none 0 0, .slice none 0 0, .string ⟨#[102, 111, 114, 103, 101]⟩, .bool true, .bool false, .int .i64 0, .int .i64 1, .int .i64 1, .int .i64 0, .int .i64 0, .int .i64 0, .int .i64 1, .int .i64 0, .int .i64 0, .string ⟨#[]⟩, .int .i64 0, .int .i64 0, .int .i64 0, .slice (some ⟨b2, 0, none⟩) 1 1, .slice none 0 0, .slice none 0 0].toArray 34)).alloc (.cells [.slice (some ⟨w.heap.size, 0, none⟩) 2 2, .slice none 0 0, .slice none 0 0].toArray 28)) (.slice (some ⟨w.heap.size, 0, none⟩) 2 2) (.slice none 0 0) (.slice none 0 0) badR ∧ Blk ((w.alloc (.cells [.string ⟨#[98, 97, 115, 101]⟩, .bool true, .bool false, .int .i64 0, .int .i64 1, .int .i64 1, .int .i64 0, .int .i64 0, .int .i64 0, .int .i64 1, .int .i64 0, .int .i64 0, .string ⟨#[]⟩, .int .i64 0, .int .i64 0, .int .i64 0, .slice (some ⟨b1, 0, none⟩) 1 1, .slice none 0 0, .slice none 0 0, .string ⟨#[102, 111, 114, 103, 101]⟩, .bool true, .bool false, .int .i64 0, .int .i64 1, .int .i64 1, .int .i64 0, .int .i64 0, .int .i64 0, .int .i64 1, .int .i64 0, .int .i64 0, .string ⟨#[]⟩, .int .i64 0, .int .i64 0, .int .i64 0, .slice (some ⟨b2, 0, none⟩) 1 1, .slice none 0 0, .slice none 0 0].toArray 34)).alloc (.cells [.slice (some ⟨w.heap.size, 0, none⟩) 2 2, .slice none 0 0, .slice none 0 0].toArray 28)) (w.heap.size + 1) [.slice (some ⟨w.heap.size, 0, none⟩) 2 2, .slice none 0 0, .slice none 0 0] 28 ∧ Below w.heap.size w ((w.alloc (.cells [.string ⟨#[98, 97, 115, 101]⟩, .bool true, .bool false, .int .i64 0, .int .i64 1, .int .i64 1, .int .i64 0, .int .i64 0, .int .i64 0, .int .i64 1, .int .i64 0, .int .i64 0, .string ⟨#[]⟩, .int .i64 0, .int .i64 0, .int .i64 0, .slice (some ⟨b1, 0, none⟩) 1 1, .slice none 0 0, .slice none 0 0, .string ⟨#[102, 111, 114, 103, 101]⟩, .bool true, .bool false, .int .i64 0, .int .i64 1, .int .i64 1, .int .i64 0, .int .i64 0, .int .i64 0, .int .i64 1, .int .i64 0, .int .i64 0, .string ⟨#[]⟩, .int .i64 0, .int .i64 0, .int .i64 0, .slice (some ⟨b2, 0, none⟩) 1 1, .slice none 0 0, .slice none 0 0].toArray 34)).alloc (.cells [.slice (some ⟨w.heap.size, 0, none⟩) 2 2, .slice none 0 0, .slice none 0 0].toArray 28)) := by
  have hU := (Blk.new w [.string ⟨#[98, 97, 115, 101]⟩, .bool true, .bool false, .int .i64 0, .int .i64 1, .int .i64 1, .int .i64 0, .int .i64 0, .int .i64 0, .int .i64 1, .int .i64 0, .int .i64 0, .string ⟨#[]⟩, .int .i64 0, .int .i64 0, .int .i64 0, .slice (some ⟨b1, 0, none⟩) 1 1, .slice none 0 0, .slice none 0 0, .string ⟨#[102, 111, 114, 103, 101]⟩, .bool true, .bool false, .int .i64 0, .int .i64 1, .int .i64 1, .int .i64 0, .int .i64 0, .int .i64 0, .int .i64 1, .int .i64 0, .int .i64 0, .string ⟨#[]⟩, .int .i64 0, .int .i64 0, .int .i64 0, .slice (some ⟨b2, 0, none⟩) 1 1, .slice none 0 0, .slice none 0 0] 34).alloc (.cells [.slice (some ⟨w.heap.size, 0, none⟩) 2 2, .slice none 0 0, .slice none 0 0].toArray 28)
  have hR := (Blk.new (w.alloc (.cells [.string ⟨#[98, 97, 115, 101]⟩, .bool true, .bool false, .int .i64 0, .int .i64 1, .int .i64 1, .int .i64 0, .int .i64 0, .int .i64 0, .int .i64 1, .int .i64 0, .int .i64 0, .string ⟨#[]⟩, .int .i64 0, .int .i64 0, .int .i64 0, .slice (some ⟨b1, 0, none⟩) 1 1, .slice none 0 0, .slice none 0 0, .string ⟨#[102, 111, 114, 103, 101]⟩, .bool true, .bool false, .int .i64 0, .int .i64 1, .int .i64 1, .int .i64 0, .int .i64 0, .int .i64 0, .int .i64 1, .int .i64 0, .int .i64 0, .string ⟨#[]⟩, .int .i64 0, .int .i64 0, .int .i64 0, .slice (some ⟨b2, 0, none⟩) 1 1, .slice none 0 0, .slice none 0 0].toArray 34)) [.slice (some ⟨w.heap.size, 0, none⟩) 2 2, .slice none 0 0, .slice none 0 0] 28).at (World.size_alloc _ _)
  have hb := ((Below.refl w.heap.size w).alloc (Nat.le_refl _) (.cells [.string ⟨#[98, 97, 115, 101]⟩, .bool true, .bool false, .int .i64 0, .int .i64 1, .int .i64 1, .int .i64 0, .int .i64 0, .int .i64 0, .int .i64 1, .int .i64 0, .int .i64 0, .string ⟨#[]⟩, .int .i64 0, .int .i64 0, .int .i64 0, .slice (some ⟨b1, 0, none⟩) 1 1, .slice none 0 0, .slice none 0 0, .string ⟨#[102, 111, 114, 103, 101]⟩, .bool true, .bool false, .int .i64 0, .int .i64 1, .int .i64 1, .int .i64 0, .int .i64 0, .int .i64 0, .int .i64 1, .int .i64 0, .int .i64 0, .string ⟨#[]⟩, .int .i64 0, .int .i64 0, .int .i64 0, .slice (some ⟨b2, 0, none⟩) 1 1, .slice none 0 0, .slice none 0 0].toArray 34)).alloc (by simp) (.cells [.slice (some ⟨w.heap.size, 0, none⟩) 2 2, .slice none 0 0, .slice none 0 0].toArray 28)
  have h1' := h1.below hb
  have h2' := h2.below hb
  exact ⟨⟨units_blk hU (str_blk h1' 1) (str_blk h2' 1), sl_none _ _ _, sl_none _ _ _⟩, hR, hb⟩
theorem none_rules (W : World) : RAt W (.slice none 0 0) (.slice none 0 0) (.slice none 0 0) ⟨[], [], []⟩ := ⟨sl_none _ _ _, sl_none _ _ _, sl_none _ _ _⟩
theorem names_blk {W : World} {g : Nat} {a b c : ByteArray} {t : TypeId} (h : Blk W g [.string a, .string b, .string c] t) : StrSl W (.slice (some ⟨g, 0, none⟩) 3 3) [a, b, c] :=
  ⟨_, 3, rfl, by simp [maxLen], fun _ => ⟨g, 0, rfl, fun i hi => by
    match i, hi with
    | 0, _ => exact h.cell 0
    | 1, _ => exact h.cell 1
    | 2, _ => exact h.cell 2⟩⟩

end

section
open Go.RowKit Go.Lib

theorem ex_order_call (su sw st : Value) (E W : World) (hR : RAt E su sw st exR) (hE : Below E.heap.size E W) :
    Calls Tryz.prog 24 #[.agg #[su, sw, st]] W fun e w' => ∃ p c, e = .returned (.tuple #[.slice p 3 c, .int .i64 0]) ∧ StrSl w' (.slice p 3 c) [⟨#[98, 97, 115, 101]⟩, ⟨#[102, 111, 114, 103, 101]⟩, ⟨#[97, 114, 109, 111, 114]⟩] ∧ Below W.heap.size W w' := by
  have c1 := lOrd_b su sw st exR E W hR hE (by decide) (by decide) (by decide)
  rw [ex_ord] at c1
  refine c1.mono ?_
  rintro e w1 ⟨v, rfl, ⟨hv, -⟩, hb⟩
  obtain ⟨p, c, rfl, -⟩ := id hv
  exact ⟨p, c, rfl, hv, hb⟩
theorem ex_unit_call (su sw st : Value) (E W : World) (hR : RAt E su sw st exR) (hE : Below E.heap.size E W) :
    Calls Tryz.prog 16 #[.agg #[su, sw, st], .string ⟨#[102, 111, 114, 103, 101]⟩] W fun e w' => ∃ vs, e = .returned (.tuple #[.agg vs.toArray, .bool true]) ∧ UL w' vs (bldU ⟨#[102, 111, 114, 103, 101]⟩ [⟨#[98, 97, 115, 101]⟩]) ∧ Below W.heap.size W w' := by
  refine (lUnit_b su sw st exR ⟨#[102, 111, 114, 103, 101]⟩ E W hR hE (by decide)).mono ?_
  rintro e w1 ⟨vs, rfl, hU, hb⟩
  rw [ex_unit] at hU ⊢
  exact ⟨vs, rfl, hU, hb⟩
theorem ex_weapon_call (su sw st : Value) (E W : World) (hR : RAt E su sw st exR) (hE : Below E.heap.size E W) :
    Calls Tryz.prog 17 #[.agg #[su, sw, st], .string ⟨#[102, 111, 114, 103, 101]⟩] W fun e w' => ∃ vs, e = .returned (.tuple #[.agg vs.toArray, .bool false]) ∧ WL vs W9.zero ∧ Below W.heap.size W w' := by
  refine (lWeapon_b su sw st exR ⟨#[102, 111, 114, 103, 101]⟩ E W hR hE).mono ?_
  rintro e w1 ⟨vs, rfl, hU, hb⟩
  rw [ex_weapon] at hU ⊢
  exact ⟨vs, rfl, hU, hb⟩
theorem wl_lone {vs : List Value} {u : W9} (h : WL vs u) : ∀ v ∈ vs, v.oneCell' = true := by
  subst h
  intro v hv
  unfold wCells at hv
  simp only [List.mem_cons, List.not_mem_nil, or_false] at hv
  rcases hv with rfl | rfl | rfl | rfl | rfl | rfl <;> rfl
theorem ul_four {W : World} {vs : List Value} {u : U9} (h : UL W vs u) : vs[4]? = some (.int .i64 u.w) := by
  obtain ⟨sn, st, sr, rfl, -⟩ := h
  rfl

set_option maxHeartbeats 8000000 in
set_option maxRecDepth 100000 in
theorem awake_b (W : World) : Calls Tryz.prog 12 #[] W fun e w' => e = .returned (.bool true) ∧ Below W.heap.size W w' := by
  go_enter Tryz.func12, Tryz.ntmps12
  go_upto_region 1 with fail
  go_cut [1] from 9 to 93 (fun s1 wx => ∃ g g2 b : Nat, s1 = .pointer (some ⟨b, 0, none⟩) ∧ Blk wx b [.slice (some ⟨g, 0, none⟩) 2 2, .slice none 0 0, .slice (some ⟨g2, 0, none⟩) 1 1] 28 ∧ RAt wx (.slice (some ⟨g, 0, none⟩) 2 2) (.slice none 0 0) (.slice (some ⟨g2, 0, none⟩) 1 1) exR ∧ Below W.heap.size W wx)
  case first =>
    go_wp2_with fail
    ((with_reducible refine (building_b _ none 0 0 _).mono ?_); rintro e w1 ⟨rfl, hb⟩)
    have hL := hb
    clear hb
    have hs1 := Blk.new w1 [.string ⟨#[98, 97, 115, 101]⟩] 9
    replace hL := hL.alloc hL.size (.cells [Value.string ⟨#[98, 97, 115, 101]⟩].toArray 9)
    go_wp2_with fail
    generalize w1.heap.size = b1 at *
    generalize w1.alloc (.cells [Value.string ⟨#[98, 97, 115, 101]⟩].toArray 9) = V1 at *
    ((with_reducible refine (building_b _ (some ⟨b1, 0, none⟩) 1 1 _).mono ?_); rintro e w2 ⟨rfl, hb⟩)
    replace hs1 := hs1.below hb
    replace hL := below_call hL hb
    clear hb
    go_wp2_with fail
    go_meet
    case rel =>
      obtain ⟨hR, hB, hb⟩ := ex_mem w2 b1 hs1
      exact ⟨_, _, _, rfl, hB, hR, below_call hL hb⟩
  case rest =>
  obtain ⟨g, g2, bR, rfl, hB, hR, hL⟩ := hcut
  generalize wc = E at *
  have hE := Below.refl E.heap.size E
  obtain ⟨_, _, _, _, _, _⟩ := hB.three
  go_wp2_with fail
  ((with_reducible refine (ex_order_call _ _ _ E _ hR hE).mono ?_); rintro e w3 ⟨pv, cv, rfl, hv, hb⟩)
  replace hB := hB.below hb
  replace hL := below_call hL hb
  replace hE := below_call hE hb
  clear hb
  obtain ⟨_, _, _, _, _, _⟩ := hB.three
  go_wp2_with fail
  ((with_reducible refine (ex_unit_call _ _ _ E _ hR hE).mono ?_); rintro e w4 ⟨vs, rfl, hU, hb⟩)
  replace hB := hB.below hb
  replace hv := hv.below hb
  replace hL := below_call hL hb
  replace hE := below_call hE hb
  clear hb
  have hU' := hid hU
  go_upto_region 4 with (first | (with_reducible refine wpList_alloc_agg rfl 34 rfl _ rfl uZero zeroU ?_) | (with_reducible refine wpList_store_new rfl 34 _ _ rfl rfl Tryz.sizeOf34 vs uZero 34 (by with_unfolding_all rfl) (by with_unfolding_all rfl) hU'.out.len rfl hU'.out.lone ?_))
  have hA := ((Blk.new w4 vs 34).cell 4).trans (ul_four hU)
  replace hB := hB.alloc (.cells vs.toArray 34)
  have hb := (Below.refl w4.heap.size w4).alloc (Nat.le_refl _) (.cells vs.toArray 34)
  replace hv := hv.below hb
  replace hL := below_call hL hb
  replace hE := below_call hE hb
  have hlt := (show w4.heap.size < (w4.alloc (.cells vs.toArray 34)).heap.size by simp)
  clear hb hU hU'
  generalize w4.alloc (.cells vs.toArray 34) = V4 at *
  generalize w4.heap.size = b4 at *
  replace hA : V4.cell? ⟨b4, 4, none⟩ = some (.int .i64 1) := hA
  obtain ⟨_, _, _, _, _, _⟩ := hB.three
  go_wp2_with fail
  ((with_reducible refine (ex_weapon_call _ _ _ E _ hR hE).mono ?_); rintro e w5 ⟨ws, rfl, hW, hb⟩)
  replace hB := hB.below hb
  replace hv := hv.below hb
  replace hA := (hb.cell (p := ⟨b4, 4, none⟩) hlt).trans hA
  replace hlt := Nat.lt_of_lt_of_le hlt hb.size
  replace hL := below_call hL hb
  replace hE := below_call hE hb
  clear hb
  have hW' := hid hW
  go_upto_region 5 with (first | (with_reducible refine wpList_alloc_agg rfl 38 rfl _ rfl wZero zeroW ?_) | (with_reducible refine wpList_store_new rfl 38 _ _ rfl rfl Tryz.sizeOf38 ws wZero 38 (by with_unfolding_all rfl) (by with_unfolding_all rfl) hW'.out.len rfl (wl_lone hW'.out) ?_))
  replace hB := hB.alloc (.cells ws.toArray 38)
  have hb := (Below.refl w5.heap.size w5).alloc (Nat.le_refl _) (.cells ws.toArray 38)
  clear hW hW'
  replace hv := hv.below hb
  replace hA := (hb.cell (p := ⟨b4, 4, none⟩) hlt).trans hA
  replace hlt := Nat.lt_of_lt_of_le hlt hb.size
  replace hL := below_call hL hb
  replace hE := below_call hE hb
  clear hb
  generalize w5.alloc (.cells ws.toArray 38) = V5 at *
  go_cut [8] from 9 to 93 (fun s8 wx => ∃ q b : Nat, s8 = .pointer (some ⟨b, 0, none⟩) ∧ Blk wx b [.slice (some ⟨q, 0, none⟩) 2 2, .slice none 0 0, .slice none 0 0] 28 ∧ RAt wx (.slice (some ⟨q, 0, none⟩) 2 2) (.slice none 0 0) (.slice none 0 0) badR ∧ Below V5.heap.size V5 wx)
  case first =>
    have hs1 := Blk.new V5 [.string ⟨#[102, 111, 114, 103, 101]⟩] 9
    have hX := (Below.refl V5.heap.size V5).alloc (Nat.le_refl _) (.cells [Value.string ⟨#[102, 111, 114, 103, 101]⟩].toArray 9)
    clear hv hA hlt hL hE hR hB
    go_wp2_with fail
    generalize V5.alloc (.cells [Value.string ⟨#[102, 111, 114, 103, 101]⟩].toArray 9) = V6 at *
    ((with_reducible refine (building_b _ (some ⟨V5.heap.size, 0, none⟩) 1 1 _).mono ?_); rintro e w6 ⟨rfl, hb⟩)
    replace hs1 := hs1.below hb
    replace hX := hX.trans (hb.mono hX.size)
    clear hb
    have hs2 := Blk.new w6 [.string ⟨#[98, 97, 115, 101]⟩] 9
    replace hs1 := hs1.alloc (.cells [Value.string ⟨#[98, 97, 115, 101]⟩].toArray 9)
    replace hX := hX.alloc hX.size (.cells [Value.string ⟨#[98, 97, 115, 101]⟩].toArray 9)
    go_wp2_with fail
    generalize w6.heap.size = c2 at *
    generalize w6.alloc (.cells [Value.string ⟨#[98, 97, 115, 101]⟩].toArray 9) = V7 at *
    ((with_reducible refine (building_b _ (some ⟨c2, 0, none⟩) 1 1 _).mono ?_); rintro e w7 ⟨rfl, hb⟩)
    replace hs1 := hs1.below hb
    replace hs2 := hs2.below hb
    replace hX := hX.trans (hb.mono hX.size)
    clear hb
    go_wp2_with fail
    go_meet
    case rel =>
      obtain ⟨hS, hC, hb⟩ := bad_mem w7 _ c2 hs1 hs2
      exact ⟨_, _, rfl, hC, hS, hX.trans (hb.mono hX.size)⟩
  case rest =>
  obtain ⟨q, bS, rfl, hC, hS, hb⟩ := hcut
  replace hB := hB.below hb
  replace hv := hv.below hb
  replace hA := (hb.cell (p := ⟨b4, 4, none⟩) hlt).trans hA
  replace hlt := Nat.lt_of_lt_of_le hlt hb.size
  replace hL := below_call hL hb
  replace hE := below_call hE hb
  clear hb
  generalize wc = E2 at *
  have hE2 := Below.refl E2.heap.size E2
  have hR2 := hR.below hE
  clear hR hE
  obtain ⟨_, _, _, _, _, _⟩ := hB.three
  obtain ⟨_, _, _, _, _, _⟩ := hC.three
  go_wp2_with fail
  ((with_reducible refine (lname_b _ true _ (hid tank_name.symm)).mono ?_); rintro e w8 ⟨rfl, rfl⟩)
  go_wp2_with fail
  ((with_reducible refine (lname_b _ false _ (hid two_name.symm)).mono ?_); rintro e w8 ⟨rfl, rfl⟩)
  go_wp2_with fail
  ((with_reducible refine (lname_b _ false _ (hid no_name.symm)).mono ?_); rintro e w8 ⟨rfl, rfl⟩)
  go_wp2_with fail
  ((with_reducible refine (lVal_b _ _ _ ⟨[], [], []⟩ 0 E2 _ (none_rules E2) hE2 (by decide) (by decide) (by decide) (hid none_val.symm)).mono ?_); rintro e w8 ⟨rfl, hb⟩)
  replace hB := hB.below hb
  replace hC := hC.below hb
  replace hv := hv.below hb
  replace hA := (hb.cell (p := ⟨b4, 4, none⟩) hlt).trans hA
  replace hlt := Nat.lt_of_lt_of_le hlt hb.size
  replace hL := below_call hL hb
  replace hE2 := below_call hE2 hb
  clear hb
  obtain ⟨_, _, _, _, _, _⟩ := hB.three
  obtain ⟨_, _, _, _, _, _⟩ := hC.three
  go_wp2_with fail
  ((with_reducible refine (lVal_b _ _ _ exR 0 E2 _ hR2 hE2 (by decide) (by decide) (by decide) (hid ex_val.symm)).mono ?_); rintro e w9 ⟨rfl, hb⟩)
  replace hB := hB.below hb
  replace hC := hC.below hb
  replace hv := hv.below hb
  replace hA := (hb.cell (p := ⟨b4, 4, none⟩) hlt).trans hA
  replace hlt := Nat.lt_of_lt_of_le hlt hb.size
  replace hL := below_call hL hb
  replace hE2 := below_call hE2 hb
  clear hb
  obtain ⟨_, _, _, _, _, _⟩ := hB.three
  obtain ⟨_, _, _, _, _, _⟩ := hC.three
  have hns := Blk.new w9 [.string ⟨#[98, 97, 115, 101]⟩, .string ⟨#[102, 111, 114, 103, 101]⟩, .string ⟨#[97, 114, 109, 111, 114]⟩] 9
  replace hB := hB.alloc (.cells [Value.string ⟨#[98, 97, 115, 101]⟩, .string ⟨#[102, 111, 114, 103, 101]⟩, .string ⟨#[97, 114, 109, 111, 114]⟩].toArray 9)
  replace hC := hC.alloc (.cells [Value.string ⟨#[98, 97, 115, 101]⟩, .string ⟨#[102, 111, 114, 103, 101]⟩, .string ⟨#[97, 114, 109, 111, 114]⟩].toArray 9)
  have hb := (Below.refl w9.heap.size w9).alloc (Nat.le_refl _) (.cells [Value.string ⟨#[98, 97, 115, 101]⟩, .string ⟨#[102, 111, 114, 103, 101]⟩, .string ⟨#[97, 114, 109, 111, 114]⟩].toArray 9)
  replace hv := hv.below hb
  replace hA := (hb.cell (p := ⟨b4, 4, none⟩) hlt).trans hA
  replace hlt := Nat.lt_of_lt_of_le hlt hb.size
  replace hL := below_call hL hb
  replace hE2 := below_call hE2 hb
  clear hb
  obtain ⟨_, _, _, _, _, _⟩ := hB.three
  obtain ⟨_, _, _, _, _, _⟩ := hC.three
  go_wp2_with fail
  generalize w9.heap.size = g4 at *
  generalize w9.alloc (.cells [Value.string ⟨#[98, 97, 115, 101]⟩, .string ⟨#[102, 111, 114, 103, 101]⟩, .string ⟨#[97, 114, 109, 111, 114]⟩].toArray 9) = V9 at *
  ((with_reducible refine (r9names_b _ _ _ _ true _ hv (names_blk hns) (hid (decide_eq_true rfl).symm)).mono ?_); rintro e w10 ⟨rfl, hb⟩)
  clear hns hv
  replace hB := hB.below hb
  replace hC := hC.below hb
  replace hA := (hb.cell (p := ⟨b4, 4, none⟩) hlt).trans hA
  replace hlt := Nat.lt_of_lt_of_le hlt hb.size
  replace hL := below_call hL hb
  replace hE2 := below_call hE2 hb
  clear hb
  obtain ⟨_, _, _, _, _, _⟩ := hB.three
  obtain ⟨_, _, _, _, _, _⟩ := hC.three
  go_wp2_with fail
  ((with_reducible refine (lVal_b _ _ _ badR 14 E2 _ hS hE2 (by decide) (by decide) (by decide) (hid bad_val.symm)).mono ?_); rintro e w11 ⟨rfl, hb⟩)
  replace hB := hB.below hb
  replace hC := hC.below hb
  replace hA := (hb.cell (p := ⟨b4, 4, none⟩) hlt).trans hA
  replace hlt := Nat.lt_of_lt_of_le hlt hb.size
  replace hL := below_call hL hb
  replace hE2 := below_call hE2 hb
  clear hb
  obtain ⟨_, _, _, _, _, _⟩ := hB.three
  obtain ⟨_, _, _, _, _, _⟩ := hC.three
  go_wp2_with fail
  ((with_reducible refine (lSame_b _ _ _ _ _ _ exR exR true E2 _ hR2 hR2 hE2 (hid (decide_eq_true rfl).symm)).mono ?_); rintro e w12 ⟨rfl, hb⟩)
  replace hB := hB.below hb
  replace hC := hC.below hb
  replace hA := (hb.cell (p := ⟨b4, 4, none⟩) hlt).trans hA
  replace hlt := Nat.lt_of_lt_of_le hlt hb.size
  replace hL := below_call hL hb
  replace hE2 := below_call hE2 hb
  clear hb
  obtain ⟨_, _, _, _, _, _⟩ := hB.three
  obtain ⟨_, _, _, _, _, _⟩ := hC.three
  go_wp2_with fail
  ((with_reducible refine (lSame_b _ _ _ _ _ _ exR badR false E2 _ hR2 hS hE2 (hid (decide_eq_false ex_bad).symm)).mono ?_); rintro e w13 ⟨rfl, hb⟩)
  replace hL := below_call hL hb
  go_wp2_with fail
  go_ret
  exact ⟨rfl, hL⟩

end

section
open Go.RowKit Go.Lib

def few1 (u : U9) : Bool := decide (u.needs.length ≤ 20) && decide (u.trains.length ≤ 20) && decide (u.ress.length ≤ 20)
def few2 (t : T9) : Bool := decide (t.needs.length ≤ 20)
def fewv (r : R9) : Bool := decide (r.us.length ≤ 40) && decide (r.ws.length ≤ 40) && decide (r.ts.length ≤ 40) && r.us.all few1 && r.ts.all few2
theorem fewv_eq (r : R9) : fewv r = (decide (r.us.length ≤ 40) && decide (r.ws.length ≤ 40) && decide (r.ts.length ≤ 40) && r.us.all few1 && r.ts.all few2) := rfl
theorem fewv_small {r : R9} (h : fewv r = true) : r.us.length ≤ 1000 ∧ r.ws.length ≤ 1000 ∧ r.ts.length ≤ 1000 ∧ (∀ u ∈ r.us, u.needs.length ≤ 1000 ∧ u.trains.length ≤ 1000 ∧ u.ress.length ≤ 1000) ∧ ∀ t ∈ r.ts, t.needs.length ≤ 1000 := by
  unfold fewv at h
  simp only [Bool.and_eq_true, decide_eq_true_eq, List.all_eq_true] at h
  obtain ⟨⟨⟨⟨a, b⟩, c⟩, d⟩, e⟩ := h
  refine ⟨by omega, by omega, by omega, fun u hu => ?_, fun t ht => ?_⟩
  · have q := d u hu
    unfold few1 at q
    simp only [Bool.and_eq_true, decide_eq_true_eq] at q
    omega
  · have q := e t ht
    unfold few2 at q
    simp only [decide_eq_true_eq] at q
    omega

set_option maxHeartbeats 4000000 in
set_option maxRecDepth 100000 in
theorem few_b (su sw st : Value) (r : R9) (b : Bool) (W : World) (hR : RAt W su sw st r) (e : Hid (b = fewv r)) :
    Calls Tryz.prog 13 #[.agg #[su, sw, st]] W fun e w' => e = .returned (.bool b) ∧ Below W.heap.size W w' := by
  obtain ⟨p, c, rfl, hm, hat⟩ := hR.u
  obtain ⟨p1, c1, rfl, hm1, -⟩ := hR.w
  obtain ⟨p2, c2, rfl, hm2, hat2⟩ := hR.t
  have hB := Blk.new W [.slice p r.us.length c, .slice p1 r.ws.length c1, .slice p2 r.ts.length c2] 28
  have hL := (Below.refl W.heap.size W).alloc (Nat.le_refl _) (.cells [.slice p r.us.length c, .slice p1 r.ws.length c1, .slice p2 r.ts.length c2].toArray 28)
  unfold maxLen at hm hm1 hm2
  replace e := hid (e.out.trans (fewv_eq r))
  clear hR
  by_cases h1 : 40 < r.us.length
  · have hb : b = false := by rw [e.out, decide_eq_false (by omega)]; rfl
    subst hb
    clear e
    go_enter Tryz.func13, Tryz.ntmps13
    go_wp2_with fail
    go_ret
    exact ⟨rfl, hL⟩
  by_cases h2 : 40 < r.ws.length
  · have hb : b = false := by rw [e.out, decide_eq_false (show ¬ r.ws.length ≤ 40 by omega), Bool.and_false]; rfl
    subst hb
    clear e
    go_enter Tryz.func13, Tryz.ntmps13
    go_wp2_with fail
    go_ret
    exact ⟨rfl, hL⟩
  by_cases h3 : 40 < r.ts.length
  · have hb : b = false := by rw [e.out, decide_eq_false (show ¬ r.ts.length ≤ 40 by omega), Bool.and_false]; rfl
    subst hb
    clear e
    go_enter Tryz.func13, Tryz.ntmps13
    go_wp2_with fail
    go_ret
    exact ⟨rfl, hL⟩
  replace e := hid (show b = (r.us.all few1 && r.ts.all few2) by rw [e.out, decide_eq_true (show r.us.length ≤ 40 by omega), decide_eq_true (show r.ws.length ≤ 40 by omega), decide_eq_true (show r.ts.length ≤ 40 by omega)]; rfl)
  go_enter Tryz.func13, Tryz.ntmps13
  go_wp2_with fail
  generalize W.alloc (.cells [.slice p r.us.length c, .slice p1 r.ws.length c1, .slice p2 r.ts.length c2].toArray 28) = V at *
  go_loopw [3] (fun vi wr => ∃ i : Nat, vi = .int .i64 i ∧ i ≤ r.us.length ∧ Blk wr W.heap.size [.slice p r.us.length c, .slice p1 r.ws.length c1, .slice p2 r.ts.length c2] 28 ∧ Below W.heap.size W wr ∧ Hid ((r.us.take i).all few1 = true)) (fun vi _ => r.us.length - (RowKit.intOf vi).toNat)
  case atStart => exact ⟨0, rfl, by omega, hB, hL, hid rfl⟩
  case round =>
    clear hB hL
    obtain ⟨i, rfl, hi, hB, hL, hA⟩ := hrel
    have b0 := hB.cell 0
    have b2 := hB.cell 2
    simp only [List.getElem?_cons_zero, List.getElem?_cons_succ] at b0 b2
    by_cases hlt : i < r.us.length
    · have d1 : (i : Int) < r.us.length := by omega
      have d0 : (0 : Int) ≤ i := by omega
      obtain ⟨g, o, rfl, hc⟩ := hat (by omega)
      obtain ⟨vs, hU, hcs⟩ := (hc i hlt).ul
      have kl := hid ((hcs.below' (hcs.lt' hU.name) hL).loads (P := Tryz.prog) hU.len)
      obtain ⟨pn, cn, pt, ct, pr, cr, hvs, s1, s2, s3⟩ := hU.lists
      have l1 := s1.small
      have l2 := s2.small
      have l3 := s3.small
      have HN := fun q => hid (allp_take (f := few1) hlt hA.out q)
      have HY := fun q => hid (allp_no (f := few1) hlt q)
      have hU' := hid hU
      obtain ⟨u, hu⟩ : ∃ u, r.us[i]'hlt = u := ⟨_, rfl⟩
      rw [hu] at HN HY hU' hvs l1 l2 l3
      have hZ := Blk.new wr vs 34
      have t16 : (wr.alloc (.cells vs.toArray 34)).cell? ⟨wr.heap.size, 16, none⟩ = some (.slice pn u.needs.length cn) := (hZ.cell 16).trans (by rw [hvs]; rfl)
      have t17 : (wr.alloc (.cells vs.toArray 34)).cell? ⟨wr.heap.size, 17, none⟩ = some (.slice pt u.trains.length ct) := (hZ.cell 17).trans (by rw [hvs]; rfl)
      have t18 : (wr.alloc (.cells vs.toArray 34)).cell? ⟨wr.heap.size, 18, none⟩ = some (.slice pr u.ress.length cr) := (hZ.cell 18).trans (by rw [hvs]; rfl)
      have hB2 := hB.alloc (.cells vs.toArray 34)
      have hL2 := hL.alloc hL.size (.cells vs.toArray 34)
      clear hu hat hc hU hA hcs s1 s2 s3 hvs hZ
      by_cases g1 : 20 < u.needs.length
      · have hb : b = false := by rw [e.out, (HY (by unfold few1; simp; omega)).out]; rfl
        subst hb
        clear e HN HY
        go_wp2_with (first | (with_reducible refine wpList_load_agg rfl 34 _ rfl ⟨g, o + i * 19, none⟩ (by with_unfolding_all rfl) Tryz.isAgg34 Tryz.sizeOf34 vs kl.out ?_) | (with_reducible refine wpList_alloc_agg rfl 34 rfl _ rfl uZero zeroU ?_) | (with_reducible refine wpList_store_new rfl 34 _ _ rfl rfl Tryz.sizeOf34 vs uZero 34 (by with_unfolding_all rfl) (by with_unfolding_all rfl) hU'.out.len rfl hU'.out.lone ?_))
        go_ret
        exact ⟨rfl, hL2⟩
      by_cases g2 : 20 < u.trains.length
      · have hb : b = false := by rw [e.out, (HY (by unfold few1; simp; omega)).out]; rfl
        subst hb
        clear e HN HY
        go_wp2_with (first | (with_reducible refine wpList_load_agg rfl 34 _ rfl ⟨g, o + i * 19, none⟩ (by with_unfolding_all rfl) Tryz.isAgg34 Tryz.sizeOf34 vs kl.out ?_) | (with_reducible refine wpList_alloc_agg rfl 34 rfl _ rfl uZero zeroU ?_) | (with_reducible refine wpList_store_new rfl 34 _ _ rfl rfl Tryz.sizeOf34 vs uZero 34 (by with_unfolding_all rfl) (by with_unfolding_all rfl) hU'.out.len rfl hU'.out.lone ?_))
        go_ret
        exact ⟨rfl, hL2⟩
      by_cases g3 : 20 < u.ress.length
      · have hb : b = false := by rw [e.out, (HY (by unfold few1; simp; omega)).out]; rfl
        subst hb
        clear e HN HY
        go_wp2_with (first | (with_reducible refine wpList_load_agg rfl 34 _ rfl ⟨g, o + i * 19, none⟩ (by with_unfolding_all rfl) Tryz.isAgg34 Tryz.sizeOf34 vs kl.out ?_) | (with_reducible refine wpList_alloc_agg rfl 34 rfl _ rfl uZero zeroU ?_) | (with_reducible refine wpList_store_new rfl 34 _ _ rfl rfl Tryz.sizeOf34 vs uZero 34 (by with_unfolding_all rfl) (by with_unfolding_all rfl) hU'.out.len rfl hU'.out.lone ?_))
        go_ret
        exact ⟨rfl, hL2⟩
      have HS := HN (by unfold few1; simp; omega)
      clear HN HY
      go_wp2_with (first | (with_reducible refine wpList_load_agg rfl 34 _ rfl ⟨g, o + i * 19, none⟩ (by with_unfolding_all rfl) Tryz.isAgg34 Tryz.sizeOf34 vs kl.out ?_) | (with_reducible refine wpList_alloc_agg rfl 34 rfl _ rfl uZero zeroU ?_) | (with_reducible refine wpList_store_new rfl 34 _ _ rfl rfl Tryz.sizeOf34 vs uZero 34 (by with_unfolding_all rfl) (by with_unfolding_all rfl) hU'.out.len rfl hU'.out.lone ?_))
      go_roundw
      case rel => exact ⟨i + 1, by go_num, by omega, hB2, hL2, HS⟩
      case measure => simp [RowKit.intOf]; omega
    · obtain rfl : i = r.us.length := by omega
      have ha := hA.out
      rw [List.take_length] at ha
      have d1 : ¬ (r.us.length : Int) < r.us.length := by omega
      replace e := hid (show b = r.ts.all few2 by rw [e.out, ha]; rfl)
      clear hat ha hA
      go_wp2_with fail
      clear b0 b2 d1
      go_loop [5] (fun vi => ∃ i : Nat, vi = .int .i64 i ∧ i ≤ r.ts.length ∧ Hid ((r.ts.take i).all few2 = true)) (fun vi => r.ts.length - (RowKit.intOf vi).toNat)
      case atStart => exact ⟨0, rfl, by omega, hid rfl⟩
      case round =>
        obtain ⟨i, rfl, hi, hA⟩ := hrel
        have b2 := hB.cell 2
        simp only [List.getElem?_cons_zero, List.getElem?_cons_succ] at b2
        by_cases hlt : i < r.ts.length
        · have d1 : (i : Int) < r.ts.length := by omega
          have d0 : (0 : Int) ≤ i := by omega
          obtain ⟨g, o, rfl, hc⟩ := hat2 (by omega)
          obtain ⟨vs, hU, hcs⟩ := (hc i hlt).tl
          obtain ⟨pn, cn, hvs, s1⟩ := hU.lists
          have l1 := s1.small
          have k1 : wr.cell? ⟨g, o + i * 8 + 1, none⟩ = some (.slice pn (r.ts[i]'hlt).needs.length cn) := (hcs.below' (hcs.lt' hU.name) hL) 1 _ (by rw [hvs]; rfl)
          have HN := fun q => hid (allp_take (f := few2) hlt hA.out q)
          have HY := fun q => hid (allp_no (f := few2) hlt q)
          obtain ⟨u, hu⟩ : ∃ u, r.ts[i]'hlt = u := ⟨_, rfl⟩
          rw [hu] at HN HY k1 l1
          clear hu hat2 hc hU hA hcs s1 hvs
          by_cases g1 : 20 < u.needs.length
          · have hb : b = false := by rw [e.out, (HY (by unfold few2; simp; omega)).out]
            subst hb
            clear e HN HY
            go_wp2_with fail
            go_ret
            exact ⟨rfl, hL⟩
          have HS := HN (by unfold few2; simp; omega)
          clear HN HY
          go_wp2_with fail
          go_round
          case rel => exact ⟨i + 1, by go_num, by omega, HS⟩
          case measure => simp [RowKit.intOf]; omega
        · obtain rfl : i = r.ts.length := by omega
          have ha := hA.out
          rw [List.take_length] at ha
          have d1 : ¬ (r.ts.length : Int) < r.ts.length := by omega
          have hb := e.out.trans ha
          subst hb
          clear e ha hA hat2
          go_wp2_with fail
          go_ret
          exact ⟨rfl, hL⟩

end

end Go.Proofs.YtaefioikflllcaaGreat
