/-
  What the functions of mapfile answer: Valid, Print.
-/
import Derived.Test.YtmpbgfobiceehaaGreatDoorMapChunk
import Derived.Test.YtmpbgfobiceehaaGreatDoorMapLandP
import Derived.Lib.BufferRead
import Derived.Test.YtmpbgfobiceehaaGreatDoorHeldLib
import Derived.Test.YtmpbgfobiceehaaGreatDoorMapPure
import Derived.Test.YtmpbgfobiceehaaGreatDoorTerLandQ
namespace Go.Proofs.YtmpbgfobiceehaaGreatDoor

section
open Go.RowKit Go.Lib Go.Shelf

attribute [local go_sem] Oper.semAt_some
/-- The k-th row of cells; its line. -/
def rowAt (w : Nat) (cs : List C3) (k : Nat) : List C3 := (cs.drop (k * w)).take w
def lineAt (ch : C3 → UInt8) (w : Nat) (cs : List C3) (k : Nat) : List UInt8 := (rowAt w cs k).map ch ++ [10]
def textOf {h : Nat} (ch : C3 → UInt8) (w : Nat) (cs : List C3) (ks : List (Upto h)) : List UInt8 := ks.flatMap fun k => lineAt ch w cs k.1
theorem textOf_snoc {h : Nat} (ch : C3 → UInt8) (w : Nat) (cs : List C3) (ks : List (Upto h)) (k : Upto h) : textOf ch w cs (ks ++ [k]) = textOf ch w cs ks ++ lineAt ch w cs k.1 := by
  unfold textOf; rw [List.flatMap_append]; simp
theorem rowsT_snoc (ch : C3 → UInt8) (w : Nat) : ∀ (k : Nat) (cs : List C3), rowsT ch w (k + 1) cs = rowsT ch w k cs ++ [(rowAt w cs k).map ch] := by
  intro k
  induction k with
  | zero => intro cs; simp [rowsT, rowAt]
  | succ k ih =>
    intro cs
    rw [rowsT, ih (cs.drop w), rowsT, List.cons_append]
    unfold rowAt
    rw [List.drop_drop, Nat.succ_mul, Nat.add_comm w]
theorem text_firsts {h : Nat} (ch : C3 → UInt8) (w : Nat) (cs : List C3) : ∀ k : Nat, k ≤ h → textOf ch w cs (firsts h k) = joinT (rowsT ch w k cs) := by
  intro k
  induction k with
  | zero => intro _; rfl
  | succ k ih =>
    intro hk
    rw [firsts_succ (by omega), textOf_snoc, ih (by omega), rowsT_snoc]
    unfold joinT lineAt
    rw [List.flatMap_append]
    simp
theorem row_len {w h : Nat} {cs : List C3} (hl : cs.length = h * w) (k : Upto h) : (rowAt w cs k.1).length = w := by
  unfold rowAt
  have : (k.1 + 1) * w ≤ h * w := Nat.mul_le_mul_right w k.2
  rw [Nat.succ_mul] at this
  rw [List.length_take, List.length_drop]
  omega
theorem row_cell {w h : Nat} {cs : List C3} (hl : cs.length = h * w) (k : Upto h) {i : Nat} (hi : i < w) : ∃ hx : k.1 * w + i < cs.length, (rowAt w cs k.1)[i]'(by rw [row_len hl k]; exact hi) = cs[k.1 * w + i]'hx := by
  have : (k.1 + 1) * w ≤ h * w := Nat.mul_le_mul_right w k.2
  rw [Nat.succ_mul] at this
  refine ⟨by omega, ?_⟩
  unfold rowAt
  rw [List.getElem_take, List.getElem_drop]
theorem ktext_len {h w : Nat} {cs : List C3} (ch : C3 → UInt8) (hl : cs.length = h * w) (ks : List (Upto h)) : (textOf ch w cs ks).length = ks.length * (w + 1) := by
  induction ks with
  | nil => simp [textOf]
  | cons k ks ih =>
    have : textOf ch w cs (k :: ks) = lineAt ch w cs k.1 ++ textOf ch w cs ks := by unfold textOf; rw [List.flatMap_cons]
    rw [this, List.length_append, ih, List.length_cons, Nat.succ_mul]
    unfold lineAt
    rw [List.length_append, List.length_map, row_len hl k, List.length_singleton]
    omega
theorem byte_snoc (l : List UInt8) (b : UInt8) : Lib.byteCells l ++ [.int .u8 (b.toNat : Int)] = Lib.byteCells (l ++ [b]) := by
  simp [Lib.byteCells]
/-- 'string(b)' of a slice that the call owns. -/
theorem conv_mine {P : Program} {src dst e : TypeId} (hs : P.underlying src = some (.slice e)) (he : P.underlying e = some (.int .u8)) (hd : P.underlying dst = some .string) {w : World} {B : Nat} {v : Value} {l : List UInt8}
    (h : w.ownsRow B e 1 v l.length (Lib.byteCells l)) : (convert src dst v).run P w = .ok (.string (bs l)) w := by
  rcases h.2 with ⟨rfl, h0⟩ | ⟨g, cap, cur, rfl, _⟩
  · have : l = [] := List.eq_nil_of_length_eq_zero h0
    subst this
    exact run_convert_nil_bytes w src dst e 0 hs he hd
  · refine run_convert_bytes_back w src dst e ⟨g, 0, none⟩ cap l hs he hd fun j hj => ?_
    refine h.cells rfl j _ ?_
    simp [Lib.byteCells, List.getElem?_eq_getElem hj]
theorem keeps_below {B : Nat} {w w' : World} (h : Below w.heap.size w w') : KeepsFrom B w w' := ⟨h.size, fun k _o _ hk _ => (h.block k (Array.getElem?_eq_some_iff.1 hk).1).trans hk⟩
theorem boxed_below {w w' : World} {B : Nat} {t : TypeId} {v : Value} (h : Boxed w B t v) (hb : Below w.heap.size w w') : Boxed w' B t v := (hb.block B h.lt).trans h

/-- How things stand within the loops: the text in its box, the boxes of the function, the slice and the number; what has turned since V. -/
structure RowIn (n0 B : Nat) (fv sv nv : Value) (V : World) (l : List UInt8) (wr : World) (v : Value) : Prop where
  box : Boxed wr (n0 + 1 + 1) 46 v
  own : wr.ownsRow n0 5 1 v l.length (Lib.byteCells l)
  fn : Boxed wr (n0 + 1) 57 fv
  sb : Boxed wr (n0 + 1 + 1 + 1) 22 sv
  nb : Boxed wr (n0 + 1 + 1 + 1 + 1) 3 nv
  keeps : KeepsFrom B V wr
  low : Below n0 V wr
theorem RowIn.room {n0 B : Nat} {fv sv nv : Value} {V wr : World} {l : List UInt8} {v : Value} (h : RowIn n0 B fv sv nv V l wr v) : n0 ≤ wr.heap.size := by have := h.box.lt; omega
theorem RowIn.call {n0 B : Nat} {fv sv nv : Value} {V wr w' : World} {l : List UInt8} {v : Value} (h : RowIn n0 B fv sv nv V l wr v) (hb : Below wr.heap.size wr w') : RowIn n0 B fv sv nv V l w' v :=
  ⟨boxed_below h.box hb, own_below h.own hb, boxed_below h.fn hb, boxed_below h.sb hb, boxed_below h.nb hb, h.keeps.trans (keeps_below hb), h.low.trans (hb.mono h.room)⟩
theorem RowIn.drew {n0 B : Nat} {fv sv nv : Value} {V wr : World} {l : List UInt8} {v : Value} (h : RowIn n0 B fv sv nv V l wr v) : RowIn n0 B fv sv nv V l wr.drew v := h.call (Below.refl _ _).drew
theorem RowIn.alloc {n0 B : Nat} {fv sv nv : Value} {V wr : World} {l : List UInt8} {v : Value} (h : RowIn n0 B fv sv nv V l wr v) (o : Obj) : RowIn n0 B fv sv nv V l (wr.alloc o) v := h.call ((Below.refl _ _).alloc (Nat.le_refl _) _)
theorem RowIn.two {n0 B : Nat} {fv sv nv : Value} {V wr : World} {l : List UInt8} {v : Value} (h : RowIn n0 B fv sv nv V l wr v) (hs : Boxed V (n0 + 1 + 1 + 1) 22 sv) (hn : Boxed V (n0 + 1 + 1 + 1 + 1) 3 nv) : KeepTwo (n0 + 1 + 1 + 1) (n0 + 1 + 1 + 1 + 1) V wr :=
  ⟨Eq.trans h.sb (Eq.symm hs), Eq.trans h.nb (Eq.symm hn)⟩
/-- A byte appended to the text in its box. -/
theorem RowIn.append {n0 B : Nat} {fv sv nv : Value} {V wr : World} {l : List UInt8} {v : Value} (h : RowIn n0 B fv sv nv V l wr v) (b : UInt8) (hlen : l.length ≤ 100000) :
    ∃ g cap w2, (Builtin.append_ #[46, 46] 46 #[v, .slice (some ⟨wr.heap.size, 0, none⟩) 1 1]).run Tryz.prog (wr.alloc (.cells #[.int .u8 (b.toNat : Int)] 5)) = .ok (.slice (some ⟨g, 0, none⟩) (l.length + 1) cap) w2 ∧
      w2.cell? ⟨n0 + 1 + 1, 0, none⟩ = some v ∧ w2.frozen? ⟨n0 + 1 + 1, 0, none⟩ = false ∧ (∀ (k : Nat) (vs : List Value) (t : TypeId), Blk wr k vs t → t ≠ 5 → Blk w2 k vs t) ∧ RowIn n0 B fv sv nv V (l ++ [b]) (w2.setCell ⟨n0 + 1 + 1, 0, none⟩ (.slice (some ⟨g, 0, none⟩) (l.length + 1) cap)) (.slice (some ⟨g, 0, none⟩) (l.length + 1) cap) := by
  obtain ⟨i0, hi, hz0, hz1, hz2⟩ := info_parts infoByte
  obtain ⟨v', w2, hrun, hown', hgrow, _⟩ := run_append_own (P := Tryz.prog) (wr.alloc (.cells #[.int .u8 (b.toNat : Int)] 5)) n0 46 46 5 i0 (.int .u8 0) 1 1 Tryz.underlying46 hi hz0 hz1 hz2 rfl (by decide) v l.length _ (own_below h.own ((Below.refl _ _).alloc (Nat.le_refl _) _))
    ⟨wr.heap.size, 0, none⟩ 1 1 [.int .u8 (b.toNat : Int)] rfl (cell_one_new _ _ _) (by simp [Value.oneCell']) (by unfold maxLen; omega) (by omega) (by have := h.room; simp; omega)
  obtain ⟨g', cap', rfl⟩ := ownsRow_succ hown'
  obtain ⟨hv1, hv2, hr2, hk2, hb2⟩ := h.box.appended (by decide) h.own h.room (by omega) hown' hgrow
  have put : ∀ (k : Nat) (t : TypeId) (x : Value), Boxed wr k t x → t ≠ 5 → k ≠ n0 + 1 + 1 → Boxed (w2.setCell ⟨n0 + 1 + 1, 0, none⟩ (.slice (some ⟨g', 0, none⟩) (l.length + 1) cap')) k t x := fun k t x hb ht hne =>
    ((hb.alloc _).kept hgrow (hb.not_row ht h.own)).kept (grownBy_setCell' w2 _ _) (fun e => hne (by cases e; rfl))
  have hlen1 : (l ++ [b]).length = l.length + 1 := by simp
  have blks : ∀ (k : Nat) (vs : List Value) (t : TypeId), Blk wr k vs t → t ≠ 5 → Blk w2 k vs t := fun k vs t hb ht => by
    refine (hgrow.block k (by have := hb.lt; simp; omega) ?_).trans (hb.alloc _)
    rcases h.own.2 with ⟨rfl, _⟩ | ⟨g, cap, cur, rfl, _, hgb, _⟩
    · simp [Value.ownBlock]
    · intro e'
      obtain rfl : k = g := by simpa [Value.ownBlock] using e'
      have := (show wr.heap[k]? = _ from hb).symm.trans hgb
      simp at this
      exact ht this.2
  refine ⟨g', cap', w2, hrun, hv1.cell, hv1.frozen, blks, ⟨hv2, ?_, put _ _ _ h.fn (by decide) (by omega), put _ _ _ h.sb (by decide) (by omega), put _ _ _ h.nb (by decide) (by omega), h.keeps.trans (hk2.from _), h.low.trans hb2⟩⟩
  rw [hlen1, ← byte_snoc]; exact hr2

set_option maxRecDepth 100000 in
set_option maxHeartbeats 4000000 in
theorem drows_b (g o w h cap : Nat) (cs : List C3) (hw : 1 ≤ w) (hw2 : w ≤ 32) (hh : h ≤ 32) (hl : cs.length = h * w) (hcap : h * w ≤ cap) (hcap2 : cap ≤ 9223372036854775807) (F : FuncId) (caps : Array Value) (ch : C3 → UInt8) (P : World → Prop) (W : World)
    (hg : g < W.heap.size) (hP : P W) (hkeep : ∀ A, P W → Below W.heap.size W A → P A)
    (hcell : ∀ i, (hi : i < cs.length) → W.cell? ⟨g, o + i * 3, none⟩ = some (.int .i64 (cs[i]'hi).k) ∧ W.cell? ⟨g, o + i * 3 + 1, none⟩ = some (.int .i64 (cs[i]'hi).h) ∧ W.cell? ⟨g, o + i * 3 + 2, none⟩ = some (.int .i64 (cs[i]'hi).a))
    (eF : ∀ args w, (callFunc F args).run Tryz.prog w = .ok (.enter F args) w)
    (hch : ∀ c ∈ cs, ∀ A, P A → Calls Tryz.prog F (#[.agg #[.int .i64 c.k, .int .i64 c.h, .int .i64 c.a]] ++ caps) A fun e w' => e = .returned (.int .u8 ((ch c).toNat : Int)) ∧ Below A.heap.size A w') :
    Calls Tryz.prog 25 #[.agg #[.int .i64 w, .int .i64 h, .slice (some ⟨g, o, none⟩) (h * w) cap], .func (.func F) #[] caps] W fun e w' => e = .returned (.string (bs (joinT (rowsT ch w h cs)))) ∧ Below W.heap.size W w' := by
  refine (callsIn_wide (n := 9)).1 ?_
  refine callsIn_of_wp_marks Tryz.func25 rfl trivial ?_ rfl
  simp only [Tryz.ntmps25, List.size_toArray, List.length_cons, List.length_nil, Nat.reduceAdd, Nat.reduceSub, Array.replicate_succ, Array.replicate_zero, List.push_toArray, List.append_toArray, List.nil_append, List.cons_append]
  have hw1 : (1 : Int) ≤ w := by omega
  have HC := Lib.hid hcell
  have HP := Lib.hid hP
  have HCH := Lib.hid hch
  clear hcell hP hch
  gi_wp2_with (refine ⟨trivial, ?_⟩; gi_at_call 58; refine (chunk_in 8 _ _ _ _ hw1 _).mono ?_; rintro e w' ⟨rfl, rfl⟩)
  have bF := Boxed.new (W.alloc (.cells #[Value.int .i64 w, .int .i64 h, .slice (some ⟨g, o, none⟩) (h * w) cap] 24)) 57 (.func (.func F) #[] caps)
  have bT := Boxed.new ((W.alloc (.cells #[Value.int .i64 w, .int .i64 h, .slice (some ⟨g, o, none⟩) (h * w) cap] 24)).alloc (.cells #[Value.func (.func F) #[] caps] 57)) 46 (.slice none 0 0)
  have L0 := (((Below.refl W.heap.size W).alloc (Nat.le_refl _) (.cells #[Value.int .i64 w, .int .i64 h, .slice (some ⟨g, o, none⟩) (h * w) cap] 24)).alloc (by simp) (.cells #[Value.func (.func F) #[] caps] 57)).alloc (by simp; omega) (.cells #[Value.slice none 0 0] 46)
  replace bF := bF.alloc (.cells #[Value.slice none 0 0] 46)
  simp only [World.size_alloc] at bF bT
  have hsz : (((W.alloc (.cells #[Value.int .i64 w, .int .i64 h, .slice (some ⟨g, o, none⟩) (h * w) cap] 24)).alloc (.cells #[Value.func (.func F) #[] caps] 57)).alloc (.cells #[Value.slice none 0 0] 46)).heap.size = W.heap.size + 1 + 1 + 1 := by simp
  generalize (((W.alloc (.cells #[Value.int .i64 w, .int .i64 h, .slice (some ⟨g, o, none⟩) (h * w) cap] 24)).alloc (.cells #[Value.func (.func F) #[] caps] 57)).alloc (.cells #[Value.slice none 0 0] 46)) = U at *
  have cS := (Boxed.new U 22 (.slice (some ⟨g, o, none⟩) (h * w) cap)).alloc (.cells #[Value.int .i64 w] 3)
  have cN := Boxed.new (U.alloc (.cells #[Value.slice (some ⟨g, o, none⟩) (h * w) cap] 22)) 3 (.int .i64 w)
  replace bF := (bF.alloc (.cells #[Value.slice (some ⟨g, o, none⟩) (h * w) cap] 22)).alloc (.cells #[Value.int .i64 w] 3)
  replace bT := (bT.alloc (.cells #[Value.slice (some ⟨g, o, none⟩) (h * w) cap] 22)).alloc (.cells #[Value.int .i64 w] 3)
  have L1 := (L0.alloc L0.size (.cells #[Value.slice (some ⟨g, o, none⟩) (h * w) cap] 22)).alloc (by have := L0.size; simp; omega) (.cells #[Value.int .i64 w] 3)
  have hs2 : ((U.alloc (.cells #[Value.slice (some ⟨g, o, none⟩) (h * w) cap] 22)).alloc (.cells #[Value.int .i64 w] 3)).heap.size = U.heap.size + 1 + 1 := by simp
  rw [World.size_alloc] at cN
  rw [hsz] at cS cN hs2
  generalize ((U.alloc (.cells #[Value.slice (some ⟨g, o, none⟩) (h * w) cap] 22)).alloc (.cells #[Value.int .i64 w] 3)) = V0 at *
  clear L0
  refine wpIn_rangeFunc_ownG (w0 := V0) rfl (by omega) (gf := 89) (lb := #[.pointer (some ⟨W.heap.size + 1 + 1 + 1, 0, none⟩), .pointer (some ⟨W.heap.size + 1 + 1 + 1 + 1, 0, none⟩)]) rfl trivial (enters_of Tryz.func89 (by kernel_rfl) rfl)
    (chunk_stops 8 (by omega) (W.heap.size + 1 + 1 + 1) (W.heap.size + 1 + 1 + 1 + 1) g o w h cap hw (by omega) (by omega) hcap hcap2 V0 cS.cell cN.cell cS.lt cN.lt) KeepTwo.trans (KeepTwo.put cS.lt cN.lt) (Below.refl _ _) (fun _ => rfl)
    (fun pre V => (∃ v, Boxed V (W.heap.size + 1 + 1) 46 v ∧ V.ownsRow W.heap.size 5 1 v (textOf ch w cs pre).length (Lib.byteCells (textOf ch w cs pre)) ∧ True) ∧ Boxed V (W.heap.size + 1) 57 (.func (.func F) #[] caps) ∧
      Boxed V (W.heap.size + 1 + 1 + 1) 22 (.slice (some ⟨g, o, none⟩) (h * w) cap) ∧ Boxed V (W.heap.size + 1 + 1 + 1 + 1) 3 (.int .i64 w) ∧ Below W.heap.size W V)
    (fun _ _ _ => False)
    (OwnFrom.and (Own.from (holdsRow_own W.heap.size (W.heap.size + 1 + 1) 46 5 1 (fun pre => (textOf ch w cs pre).length) (fun pre => Lib.byteCells (textOf ch w cs pre)) (fun _ _ => True)) _)
      (OwnFrom.and (Own.from (boxed_own _ _ (fun _ => .func (.func F) #[] caps)) _) (OwnFrom.and (Own.from (boxed_own _ _ (fun _ => .slice (some ⟨g, o, none⟩) (h * w) cap)) _) (OwnFrom.and (Own.from (boxed_own _ _ (fun _ => .int .i64 w)) _) (ownFrom_below (Nat.le_refl _) L1.size)))))
    (fun _ _ _ _ _ hs _ _ => hs)
    ⟨⟨_, bT, World.ownsRow_nil _ _ _ _, trivial⟩, bF, cS, cN, L1⟩
    (fun x => { tmps := #[Value.agg #[Value.int IntKind.i64 ↑w, Value.int IntKind.i64 ↑h, Value.slice (some { block := g, off := o }) (h * w) cap],
                Value.func (Fn.func F) #[] caps, Value.pointer (some { block := W.heap.size, off := 0 }),
                Value.pointer (some { block := W.heap.size + 1, off := 0 }), Value.string { data := #[] },
                Value.pointer (some { block := W.heap.size + 1 + 1, off := 0 }), chunkV g o w x.1, undef, undef,
                Value.pointer (some { block := W.heap.size, off := 2 }),
                Value.slice (some { block := g, off := o }) (h * w) cap,
                Value.pointer (some { block := W.heap.size, off := 0 }), Value.int IntKind.i64 ↑w, .func (.func 89) #[] #[.pointer (some ⟨W.heap.size + 1 + 1 + 1, 0, none⟩), .pointer (some ⟨W.heap.size + 1 + 1 + 1 + 1, 0, none⟩)], chunkV g o w x.1, undef,
                undef, undef, undef, undef, undef, undef, undef, undef, undef, undef, undef, undef, undef, undef, undef,
                undef, undef], defers := [] }) ?assign ?body ?done ?stop
  case assign =>
    intro l x V K hK
    gi_wp2
    exact hK
  case body =>
    rintro l pre x V ⟨⟨v, hv, hrow, -⟩, hf, hs, hn, hB⟩ hlt
    have hR0 : RowIn W.heap.size V0.heap.size (.func (.func F) #[] caps) (.slice (some ⟨g, o, none⟩) (h * w) cap) (.int .i64 w) V (textOf ch w cs pre) V v := ⟨hv, hrow, hf, hs, hn, KeepsFrom.refl _ _, Below.refl _ _⟩
    have hrl := row_len hl x
    have hpl := ktext_len ch hl pre
    have hpl2 : (textOf ch w cs pre).length ≤ 2000 := by
      rw [hpl]
      exact Nat.le_trans (Nat.mul_le_mul (show pre.length ≤ 32 by omega) (show w + 1 ≤ 33 by omega)) (by decide)
    have HX := Lib.hid x.2
    clear hv hrow hf hrl hpl
    unfold chunkV
    gi_wp2
    gi_loopw [17] (fun vi wr => ∃ (i : Nat) (u : Value), vi = .int .i64 i ∧ i ≤ w ∧ RowIn W.heap.size V0.heap.size (.func (.func F) #[] caps) (.slice (some ⟨g, o, none⟩) (h * w) cap) (.int .i64 w) V (textOf ch w cs pre ++ ((rowAt w cs x.1).take i).map ch) wr u) (fun vi _ => w - (RowKit.intOf vi).toNat)
    case atStart => exact ⟨0, v, rfl, Nat.zero_le _, by simpa using hR0⟩
    case round =>
      obtain ⟨i, u, rfl, hi, hR⟩ := hrel
      clear hR0
      by_cases hil : i < w
      · obtain ⟨hix, hce⟩ := row_cell hl x hil
        obtain ⟨c, hc⟩ : ∃ c, c = (rowAt w cs x.1)[i]'(by rw [row_len hl x]; exact hil) := ⟨_, rfl⟩
        obtain ⟨c0, c1, c2⟩ := HC.out _ hix
        rw [← hce, ← hc] at c0 c1 c2
        have hmem : c ∈ cs := by rw [hc, hce]; exact List.getElem_mem _
        have HT : Hid (textOf ch w cs pre ++ ((rowAt w cs x.1).take (i + 1)).map ch = (textOf ch w cs pre ++ ((rowAt w cs x.1).take i).map ch) ++ [ch c]) := hid (by
          rw [List.take_succ_eq_append_getElem (by rw [row_len hl x]; exact hil), ← hc]; simp)
        have hLw := hB.trans hR.low
        replace c0 := (hLw.cell (p := ⟨g, o + (x.1 * w + i) * 3, none⟩) hg).trans c0
        replace c1 := (hLw.cell (p := ⟨g, o + (x.1 * w + i) * 3 + 1, none⟩) hg).trans c1
        replace c2 := (hLw.cell (p := ⟨g, o + (x.1 * w + i) * 3 + 2, none⟩) hg).trans c2
        have ea : o + (x.1 * w + i) * 3 = o + x.1 * w * 3 + i * 3 := by rw [Nat.add_mul]; omega
        rw [ea] at c0 c1 c2
        have hlen : (textOf ch w cs pre ++ ((rowAt w cs x.1).take i).map ch).length ≤ 100000 := by
          rw [List.length_append, List.length_map, List.length_take]; omega
        have i0 : (0 : Int) ≤ i := by omega
        have i1 : (i : Int) < w := by omega
        have HMEM := Lib.hid hmem
        have hBx := Blk.new wr [.int .i64 c.k, .int .i64 c.h, .int .i64 c.a] 44
        have hRA := hR.alloc (.cells [Value.int .i64 c.k, .int .i64 c.h, .int .i64 c.a].toArray 44)
        have HPA := Lib.hid (hkeep _ HP.out (hB.trans hRA.drew.low))
        clear hmem ea hc hce hix hR
        gi_wp2
        generalize wr.alloc (.cells [Value.int .i64 c.k, .int .i64 c.h, .int .i64 c.a].toArray 44) = WA at *
        have hRD := hRA.drew
        have hmx : Tryz.prog.follows .mixedOrders = true := by kernel_rfl
        have f1 := hRA.box.cell
        have f2 := hRA.fn.cell
        obtain ⟨f3, f4, f5, -, -, -⟩ := hBx.three
        have HBX := Lib.hid hBx
        have HRD := Lib.hid hRD
        clear hBx hRA hRD c0 c1 c2 hLw
        refine wpIn_region_round hmx (fun j o ho c => by rcases j with _ | _ | _ | _ | _ | _ | _ | j <;> (simp at ho; try (rw [← ho]; simp))) (wpAny_of_last (x := 6) (S := fun w' => w'.cell? ⟨W.heap.size + 1 + 1, 0, none⟩ = some u ∧ w'.cell? ⟨W.heap.size + 1, 0, none⟩ = some (.func (.func F) #[] caps) ∧ w'.cell? ⟨wr.heap.size, 0, none⟩ = some (.int .i64 c.k) ∧ w'.cell? ⟨wr.heap.size, 1, none⟩ = some (.int .i64 c.h) ∧ w'.cell? ⟨wr.heap.size, 2, none⟩ = some (.int .i64 c.a)) _ _ _ _ ?_)
        have hS0 : WA.drew.cell? ⟨W.heap.size + 1 + 1, 0, none⟩ = some u ∧ WA.drew.cell? ⟨W.heap.size + 1, 0, none⟩ = some (.func (.func F) #[] caps) ∧ WA.drew.cell? ⟨wr.heap.size, 0, none⟩ = some (.int .i64 c.k) ∧ WA.drew.cell? ⟨wr.heap.size, 1, none⟩ = some (.int .i64 c.h) ∧ WA.drew.cell? ⟨wr.heap.size, 2, none⟩ = some (.int .i64 c.a) := ⟨f1, f2, f3, f4, f5⟩
        refine last_take (x := 6) (hl := by kernel_rfl) (hix := by decide) (i := 0) (v := u) _ rfl rfl (by kernel_rfl) (by kernel_rfl) (by kernel_rfl) (fun _ _ _ h => h) (by rfl) (fun w' hS => by obtain ⟨s1, s2, s3, s4, s5⟩ := hS; go_simp) hS0 ?_
        simp only [Act.put, List.setIfInBounds_toArray]
        refine last_take (x := 6) (hl := by kernel_rfl) (hix := by decide) (i := 1) (v := .func (.func F) #[] caps) _ rfl rfl (by kernel_rfl) (by kernel_rfl) (by kernel_rfl) (fun _ _ _ h => h) (by rfl) (fun w' hS => by obtain ⟨s1, s2, s3, s4, s5⟩ := hS; go_simp) hS0 ?_
        simp only [Act.put]
        refine last_take (x := 6) (hl := by kernel_rfl) (hix := by decide) (i := 2) (v := .agg #[.int .i64 c.k, .int .i64 c.h, .int .i64 c.a]) _ rfl rfl (by kernel_rfl) (by kernel_rfl) (by kernel_rfl) (fun _ _ _ h => h) (by rfl) (fun w' hS => by obtain ⟨s1, s2, s3, s4, s5⟩ := hS; go_simp) hS0 ?_
        simp only [Act.put]
        refine last_one (i := 3) (by kernel_rfl) rfl (fun K hK => ?_)
        go_simp
        refine (HCH.out c HMEM.out _ HPA.out).mono ?_
        rintro e w' ⟨rfl, hb⟩
        have hRC := HRD.out.call hb
        have hS1 : w'.cell? ⟨W.heap.size + 1 + 1, 0, none⟩ = some u ∧ w'.cell? ⟨W.heap.size + 1, 0, none⟩ = some (.func (.func F) #[] caps) ∧ w'.cell? ⟨wr.heap.size, 0, none⟩ = some (.int .i64 c.k) ∧ w'.cell? ⟨wr.heap.size, 1, none⟩ = some (.int .i64 c.h) ∧ w'.cell? ⟨wr.heap.size, 2, none⟩ = some (.int .i64 c.a) := by
          obtain ⟨q1, q2, q3, -, -, -⟩ := ((HBX.out.drew).below hb).three
          exact ⟨hRC.box.cell, hRC.fn.cell, q1, q2, q3⟩
        refine hK.out _ _ (fun _ => hS1) ?_
        clear hK
        refine last_one (i := 4) (by kernel_rfl) rfl (fun K hK => ?_)
        go_simp
        have hRL := (HBX.out.drew).below hb
        have hS2 : (w'.alloc (.cells #[.int .u8 ((ch c).toNat : Int)] 5)).cell? ⟨W.heap.size + 1 + 1, 0, none⟩ = some u ∧ (w'.alloc (.cells #[.int .u8 ((ch c).toNat : Int)] 5)).cell? ⟨W.heap.size + 1, 0, none⟩ = some (.func (.func F) #[] caps) ∧ (w'.alloc (.cells #[.int .u8 ((ch c).toNat : Int)] 5)).cell? ⟨wr.heap.size, 0, none⟩ = some (.int .i64 c.k) ∧ (w'.alloc (.cells #[.int .u8 ((ch c).toNat : Int)] 5)).cell? ⟨wr.heap.size, 1, none⟩ = some (.int .i64 c.h) ∧ (w'.alloc (.cells #[.int .u8 ((ch c).toNat : Int)] 5)).cell? ⟨wr.heap.size, 2, none⟩ = some (.int .i64 c.a) := by
          obtain ⟨q1, q2, q3, -, -, -⟩ := (hRL.alloc (.cells #[.int .u8 ((ch c).toNat : Int)] 5)).three
          exact ⟨(hRC.alloc _).box.cell, (hRC.alloc _).fn.cell, q1, q2, q3⟩
        refine hK.out _ _ (fun _ => hS2) ?_
        clear hK
        obtain ⟨g3, cap3, w3, hrun, d1, d2, dB, hR3⟩ := hRC.append (ch c) hlen
        refine last_one (i := 5) (by kernel_rfl) rfl (fun K hK => ?_)
        refine step_append_run rfl (.tmp 21) (.tmp 25) 46 rfl u (.slice (some ⟨w'.heap.size, 0, none⟩) 1 1) _ rfl rfl hrun ?_
        have hS3 : w3.cell? ⟨W.heap.size + 1 + 1, 0, none⟩ = some u ∧ w3.cell? ⟨W.heap.size + 1, 0, none⟩ = some (.func (.func F) #[] caps) ∧ w3.cell? ⟨wr.heap.size, 0, none⟩ = some (.int .i64 c.k) ∧ w3.cell? ⟨wr.heap.size, 1, none⟩ = some (.int .i64 c.h) ∧ w3.cell? ⟨wr.heap.size, 2, none⟩ = some (.int .i64 c.a) := by
          obtain ⟨q1, q2, q3, -, -, -⟩ := (dB _ _ _ hRL (by decide)).three
          exact ⟨d1, (show Boxed w3 _ _ _ from dB _ [_] _ hRC.fn (by decide)).cell, q1, q2, q3⟩
        refine hK.out _ _ (fun _ => hS3) ?_
        clear hK
        simp only [Act.put, List.setIfInBounds_toArray]
        refine last_one (i := 6) (by kernel_rfl) rfl (fun K hK => ?_)
        go_simp
        refine hK.out _ _ (fun h => absurd rfl h) ?_
        clear hK
        refine last_done (by kernel_rfl) ?_ _
        show Exit.inBlock 3 _ Exit.normal _ _
        have e1 : (textOf ch w cs pre ++ List.map ch (List.take i (rowAt w cs x.val))).length = (textOf ch w cs pre).length + min i (rowAt w cs x.val).length := by simp
        rw [e1] at hR3
        gi_wp2
        go_roundw
        case rel => exact ⟨i + 1, _, by go_num, by omega, by rw [HT.out]; exact hR3⟩
        case measure => simp [RowKit.intOf]; omega
      · have hiw : i = w := by omega
        rw [hiw] at hR ⊢
        clear hiw hil hi
        have hlen : (textOf ch w cs pre ++ ((rowAt w cs x.1).take w).map ch).length ≤ 100000 := by
          rw [List.length_append, List.length_map, List.length_take]; omega
        obtain ⟨g3, cap3, w3, hrun, d1, d2, -, hR3⟩ := hR.append 10 hlen
        have e10 : (((10 : UInt8).toNat : Nat) : Int) = 10 := rfl
        rw [e10] at hrun
        have hRA := hR.alloc (.cells #[.int .u8 10] 5)
        have f1 := hR.box.cell
        have hv := hR.box
        have hrow := hR.own
        have hn0 := hR.room
        obtain ⟨i0, hi, hz0, hz1, hz2⟩ := info_parts infoByte
        clear hR3 d1 d2 hrun
        gi_wp2_with (gi_at_builtin; go_loud (refine wpListIn_append_own _ rfl _ _ 46 rfl W.heap.size 5 i0 (.int .u8 0) 1 1 Tryz.underlying46 hi hz0 hz1 hz2 rfl (by decide) _ _ _ rfl (hrow.alloc _) ⟨wr.heap.size, 0, none⟩ 1 1 [.int .u8 10] rfl rfl (cell_one_new _ _ _) (by simp [Value.oneCell']) (by unfold maxLen; omega) (by omega) (by simp; omega) ?_; intro v' w1 hown' hgrow _; obtain ⟨g', cap', rfl⟩ := ownsRow_succ hown'; obtain ⟨hv1, hv2, hr2, hk2, hb2⟩ := hv.appended (by decide) hrow hn0 (by omega) hown' hgrow; have hc1 := hv1.cell; have hf1 := hv1.frozen))
        have put : ∀ (k : Nat) (t : TypeId) (y : Value), Boxed wr k t y → t ≠ 5 → k ≠ W.heap.size + 1 + 1 → Boxed (w1.setCell ⟨W.heap.size + 1 + 1, 0, none⟩ (.slice (some ⟨g', 0, none⟩) ((textOf ch w cs pre ++ List.map ch (List.take w (rowAt w cs x.val))).length + 1) cap')) k t y := fun k t y hb ht hne =>
          ((hb.alloc _).kept hgrow (hb.not_row ht hrow)).kept (grownBy_setCell' w1 _ _) (fun e => hne (by cases e; rfl))
        have hfn := put _ _ _ hR.fn (by decide) (by omega)
        have hsb := put _ _ _ hR.sb (by decide) (by omega)
        have hnb := put _ _ _ hR.nb (by decide) (by omega)
        have hkk := hR.keeps.trans (hk2.from _)
        have hll := hR.low.trans hb2
        have e1 : (textOf ch w cs pre ++ List.map ch (List.take w (rowAt w cs x.val))).length = (textOf ch w cs pre).length + min w (rowAt w cs x.val).length := by simp
        have e2 : textOf ch w cs (pre ++ [x]) = (textOf ch w cs pre ++ List.map ch (List.take w (rowAt w cs x.val))) ++ [10] := by
          rw [textOf_snoc, List.take_of_length_le (Nat.le_of_eq (row_len hl x))]; unfold lineAt; rw [List.append_assoc]
        have e3 : (textOf ch w cs (pre ++ [x])).length = (textOf ch w cs pre ++ List.map ch (List.take w (rowAt w cs x.val))).length + 1 := by rw [e2, List.length_append, List.length_singleton]
        have hr3 : (w1.setCell ⟨W.heap.size + 1 + 1, 0, none⟩ (.slice (some ⟨g', 0, none⟩) ((textOf ch w cs pre ++ List.map ch (List.take w (rowAt w cs x.val))).length + 1) cap')).ownsRow W.heap.size 5 1 (.slice (some ⟨g', 0, none⟩) ((textOf ch w cs pre ++ List.map ch (List.take w (rowAt w cs x.val))).length + 1) cap')
            (textOf ch w cs (pre ++ [x])).length (Lib.byteCells (textOf ch w cs (pre ++ [x]))) := by
          rw [e3, e2, ← byte_snoc]; exact hr2
        have hT2 : KeepTwo (W.heap.size + 1 + 1 + 1) (W.heap.size + 1 + 1 + 1 + 1) V (w1.setCell ⟨W.heap.size + 1 + 1, 0, none⟩ (.slice (some ⟨g', 0, none⟩) ((textOf ch w cs pre ++ List.map ch (List.take w (rowAt w cs x.val))).length + 1) cap')) := ⟨Eq.trans hsb (Eq.symm hs), Eq.trans hnb (Eq.symm hn)⟩
        rw [e1] at hv2 hr3 hfn hsb hnb hkk hll hT2
        exact ⟨hkk, hT2, ⟨⟨_, hv2, hr3, trivial⟩, hfn, hsb, hnb, hB.trans hll⟩⟩
  case done =>
    rintro D ys V hD rfl ⟨⟨v, hv, hrow, -⟩, hf, hs, hn, hB⟩ hK
    have hc := hv.cell
    have kc := conv_mine (P := Tryz.prog) Tryz.underlying46 Tryz.underlying5 Tryz.underlying9 hrow
    gi_wp2
    refine ⟨by simp, .inl ⟨_, _, rfl, run_takeDeferred hK, ?_⟩⟩
    exact ⟨_, results_tmp rfl _ _ _, by rw [← text_firsts ch w cs h (Nat.le_refl _)]; rfl, hB.trans (belowK_b (w := W) (Nat.le_refl _) V D _ _ (by have := L1.size; omega) hK rfl rfl)⟩
  case stop =>
    rintro D c pre V _ _ h _
    exact h.elim

end

section
open Go.RowKit Go.Lib Go.Maps

/-- A slice of positions. -/
def PosAt (W : World) (s : Value) (ps : List (Int × Int)) : Prop :=
  ∃ p c, s = .slice p ps.length c ∧ (ps.length ≤ c ∧ c ≤ maxLen) ∧ (1 ≤ ps.length → ∃ g o, p = some ⟨g, o, none⟩ ∧ ∀ i, (h : i < ps.length) →
    W.cell? ⟨g, o + i * 2, none⟩ = some (.int .i64 (ps[i]'h).1) ∧ W.cell? ⟨g, o + i * 2 + 1, none⟩ = some (.int .i64 (ps[i]'h).2))
theorem PosAt.below {W w' : World} {s : Value} {ps : List (Int × Int)} (h : PosAt W s ps) (hb : Below W.heap.size W w') : PosAt w' s ps := by
  obtain ⟨p, c, rfl, hm, hc⟩ := h
  refine ⟨p, c, rfl, hm, fun h1 => ?_⟩
  obtain ⟨g, o, rfl, hi⟩ := hc h1
  refine ⟨g, o, rfl, fun i hi' => ?_⟩
  obtain ⟨a, b⟩ := hi i hi'
  have k : g < W.heap.size := World.block_lt_of_cell? W _ a
  exact ⟨(hb.cell k).trans a, (hb.cell k).trans b⟩
theorem PosAt.at {W : World} {s : Value} {ps : List (Int × Int)} (h : PosAt W s ps) {i : Nat} (hi : i < ps.length) :
    ∃ g o c, s = .slice (some ⟨g, o, none⟩) ps.length c ∧ g < W.heap.size ∧ W.cell? ⟨g, o + i * 2, none⟩ = some (.int .i64 (ps[i]'hi).1) ∧ W.cell? ⟨g, o + i * 2 + 1, none⟩ = some (.int .i64 (ps[i]'hi).2) := by
  obtain ⟨p, c, rfl, hm, hc⟩ := h
  obtain ⟨g, o, rfl, hat⟩ := hc (by omega)
  obtain ⟨a, b⟩ := hat i hi
  exact ⟨g, o, c, rfl, World.block_lt_of_cell? W _ a, a, b⟩
/-- The positions ahead of one. -/
theorem PosAt.take {W : World} {p : Option Addr} {n c : Nat} {ps : List (Int × Int)} (h : PosAt W (.slice p n c) ps) {i : Nat} (hi : i ≤ ps.length) : PosAt W (.slice p i c) (ps.take i) := by
  obtain ⟨p', c', e, hm, hc⟩ := h
  have hl : (ps.take i).length = i := by rw [List.length_take]; omega
  injection e with e1 e2 e3
  subst e1 e3
  refine ⟨p, c, by rw [hl], ⟨by omega, hm.2⟩, fun h1 => ?_⟩
  obtain ⟨g, o, rfl, hat⟩ := hc (by omega)
  refine ⟨g, o, rfl, fun k hk => ?_⟩
  rw [List.getElem_take]
  exact hat k (by omega)

theorem dresource_b (k : Int) (b : Bool) (W : World) (e : Hid (b = resB k)) : Calls Tryz.prog 28 #[.int .i64 k] W fun e w' => e = .returned (.bool b) ∧ W = w' := by
  have hb : b = ((k == 4) || (k == 5)) := by
    rw [e.out]; unfold resB
    by_cases h4 : k = 4
    · subst h4; rfl
    · by_cases h5 : k = 5
      · subst h5; rfl
      · rw [decide_eq_false (by omega), beq_eq_false_iff_ne.2 h4, beq_eq_false_iff_ne.2 h5]; rfl
  subst hb
  clear e
  cases h4 : k == 4 <;> cases h5 : k == 5
  all_goals
    go_enter Tryz.func28, Tryz.ntmps28
    go_wp2
    go_ret
    exact ⟨rfl, rfl⟩

theorem zeroByte (w : World) : (zeroValue 5).run Tryz.prog w = .ok (.int .u8 0) w := by kernel_rfl
/-- The character of the kind of a cell. -/
theorem dkchar_b (k h a : Int) (bm bx : Nat) (W : World) (h1 : 1 ≤ k) (h5 : k ≤ 5) (hx : W.cell? ⟨bx, 0, none⟩ = some (.map (some bm))) (hk : bx < W.heap.size) (hown : KindMap W bm) :
    Calls Tryz.prog 26 #[.agg #[.int .i64 k, .int .i64 h, .int .i64 a], .pointer (some ⟨bx, 0, none⟩)] W fun e w' => e = .returned (.int .u8 (kc k)) ∧ Below W.heap.size W w' := by
  have hL := (Below.refl W.heap.size W).alloc (Nat.le_refl _) (.cells #[.int .i64 k, .int .i64 h, .int .i64 a] 44)
  have c1 := (hL.cell (p := ⟨bx, 0, none⟩) hk).trans hx
  have hw2 := hown.below hL
  obtain ⟨_, _, _, -, -, -⟩ := (Blk.new W [.int .i64 k, .int .i64 h, .int .i64 a] 44).three
  obtain ⟨c, hc, hat, -⟩ := World.ownsMap.lookup_int (H := Unit) hw2 lawInt Tryz.underlying54 Tryz.underlying5 (zeroByte _) (keyOf_int_mk Tryz.underlying3 (q := .i64) (a := k) (wfK h1 h5))
  rw [kind_at h1 h5] at hat
  injection hat with hat
  injection hat with _ hat
  subst hat
  clear hw2 hown
  go_enter Tryz.func26, Tryz.ntmps26
  go_wp2_with fail
  go_ret
  exact ⟨rfl, hL⟩

theorem dhchar_b (k h a : Int) (W : World) (h0 : 0 ≤ h) (h3 : h ≤ 3) :
    Calls Tryz.prog 27 #[.agg #[.int .i64 k, .int .i64 h, .int .i64 a]] W fun e w' => e = .returned (.int .u8 (48 + h)) ∧ Below W.heap.size W w' := by
  have hL := (Below.refl W.heap.size W).alloc (Nat.le_refl _) (.cells #[.int .i64 k, .int .i64 h, .int .i64 a] 44)
  obtain ⟨_, _, _, -, -, -⟩ := (Blk.new W [.int .i64 k, .int .i64 h, .int .i64 a] 44).three
  have e1 : IntKind.u8.wrap h = h := by simp [IntKind.wrap, IntKind.signed, IntKind.bits]; omega
  have e2 : IntKind.u8.wrap (48 + h) = 48 + h := by simp [IntKind.wrap, IntKind.signed, IntKind.bits]; omega
  go_enter Tryz.func27, Tryz.ntmps27
  go_wp2
  go_ret
  exact ⟨rfl, hL⟩

set_option maxHeartbeats 1000000 in
theorem didxpos_b (ps : List (Int × Int)) (s : Value) (x y : Int) (b : Bool) (W : World) (hr : PosAt W s ps) (e : Hid (b = decide ((x, y) ∈ ps))) :
    Calls Tryz.prog 66 #[s, .agg #[.int .i64 x, .int .i64 y]] W fun e w' => ∃ r : Int, e = .returned (.int .i64 r) ∧ (decide (0 ≤ r) = b) ∧ Below W.heap.size W w' := by
  have hT := Held1.start W [.int .i64 x, .int .i64 y] 41
  have hR := hr.below hT.old
  obtain ⟨p, c, rfl, hm, -⟩ := id hr
  unfold maxLen at hm
  replace hm := Nat.le_trans hm.1 hm.2
  clear hr
  go_enter Tryz.func66, Tryz.ntmps66
  go_wp2_with fail
  generalize W.alloc (.cells [Value.int .i64 x, .int .i64 y].toArray 41) = V at *
  go_loopw [8] (fun vi wr => ∃ i : Nat, vi = .int .i64 i ∧ i ≤ ps.length ∧ Held1 W wr W.heap.size [.int .i64 x, .int .i64 y] 41 ∧ PosAt wr (.slice p ps.length c) ps ∧ Hid (∀ q ∈ ps.take i, q ≠ (x, y))) (fun vi _ => ps.length - (RowKit.intOf vi).toNat)
  case atStart => exact ⟨0, rfl, by omega, hT, hR, hid (by simp)⟩
  case round =>
    clear hT hR
    obtain ⟨i, rfl, hi, hT, hR, hG⟩ := hrel
    by_cases hlt : i < ps.length
    · have d1 : (i : Int) < ps.length := by omega
      have i0 : (0 : Int) ≤ i := by omega
      obtain ⟨g, o, c', e1, -, a1, a2⟩ := hR.at hlt
      injection e1 with e1 k1 k2
      subst e1
      clear k1 k2
      obtain ⟨c1, c2, -, -⟩ := hT.l.two
      obtain ⟨q, hq⟩ : ∃ q, ps[i]'hlt = q := ⟨_, rfl⟩
      have hqm := hid (hq ▸ List.getElem_mem hlt : q ∈ ps)
      have hN := hid (show ps.take (i + 1) = ps.take i ++ [q] by rw [List.take_succ_eq_append_getElem hlt, hq])
      rw [hq] at a1 a2
      obtain ⟨qx, qy⟩ := q
      dsimp only at a1 a2
      clear hq
      by_cases hqq : (qx, qy) = (x, y)
      · injection hqq with f1 f2
        subst f1 f2
        have hbt : b = true := by rw [e.out]; exact decide_eq_true hqm.out
        subst hbt
        go_wp2_with fail
        go_quiet (fail)
        go_wp2_with fail
        go_ret
        exact ⟨i, rfl, decide_eq_true (by omega), below_many hT.old _⟩
      · have hG2 : Hid (∀ q ∈ ps.take (i + 1), q ≠ (x, y)) := hid (by
          rw [hN.out]; intro q hqm; rcases List.mem_append.1 hqm with h | h
          · exact hG.out q h
          · rw [List.mem_singleton] at h; rw [h]; exact hqq)
        have hT2 := fun n => (show Held1 W (wr.drewN n) W.heap.size [.int .i64 x, .int .i64 y] 41 from ⟨hT.l.drewN n, below_many hT.old n⟩)
        have hR2 := fun n => hR.below (below_many (Below.refl _ wr) n)
        by_cases f1 : x = qx
        · subst f1
          have f2 : (y == qy) = false := beq_eq_false_iff_ne.2 fun h => hqq (by rw [h])
          clear hqq hqm hN hG
          go_wp2_with fail
          go_quiet (fail)
          go_wp2_with fail
          go_roundw
          case rel => exact ⟨i + 1, by go_num, by omega, hT2 _, hR2 _, hG2⟩
          case measure => simp [RowKit.intOf]; omega
        · have f2 : (x == qx) = false := beq_eq_false_iff_ne.2 f1
          clear hqq hqm hN hG f1
          go_wp2_with fail
          go_quiet (fail)
          go_wp2_with fail
          go_roundw
          case rel => exact ⟨i + 1, by go_num, by omega, hT2 _, hR2 _, hG2⟩
          case measure => simp [RowKit.intOf]; omega
    · obtain rfl : i = ps.length := by omega
      have hbf : b = false := by
        rw [e.out]; exact decide_eq_false fun hm => hG.out _ (by rw [List.take_length]; exact hm) rfl
      subst hbf
      clear hG
      go_wp2_with fail
      go_ret
      exact ⟨-1, rfl, rfl, hT.old⟩

set_option maxHeartbeats 1000000 in
theorem dhaspos_b (ps : List (Int × Int)) (s : Value) (x y : Int) (b : Bool) (W : World) (hr : PosAt W s ps) (e : Hid (b = decide ((x, y) ∈ ps))) :
    Calls Tryz.prog 37 #[s, .agg #[.int .i64 x, .int .i64 y]] W fun e w' => e = .returned (.bool b) ∧ Below W.heap.size W w' := by
  have hT := Held1.start W [.int .i64 x, .int .i64 y] 41
  have hR := hr.below hT.old
  obtain ⟨_, _, -, -⟩ := hT.l.two
  go_enter Tryz.func37, Tryz.ntmps37
  go_wp2_with fail
  ((with_reducible refine (didxpos_b ps s x y b _ hR e).mono ?_); rintro e w1 ⟨r, rfl, hrr, hb⟩)
  have hL := below_call hT.old hb
  clear e
  go_wp2_with fail
  go_ret
  exact ⟨by rw [← hrr]; rfl, hL⟩

end

section
open Go.RowKit Go.Lib

attribute [local go_sem] Oper.semAt_some
/-- A map file in memory: its name, the slices of its cells and of its starts. -/
def fileV (f : F3) (sc ss : Value) : Value := .agg #[.string (bs f.name), .int .i64 f.m.w, .int .i64 f.m.h, sc, ss]
theorem starts_done {m : M3} {seen ps : List (Int × Int)} (h : startsE m seen ps = 0) : ∀ p ∈ ps, passv m 1 p.1 p.2 = true := by
  induction ps generalizing seen with
  | nil => intro p hp; cases hp
  | cons q qs ih =>
    unfold startsE at h
    cases hp : passv m 1 q.1 q.2 with
    | false => rw [if_pos hp] at h; cases h
    | true =>
      rw [if_neg (by simp [hp])] at h
      by_cases hm : q ∈ seen
      · rw [if_pos hm] at h; cases h
      · rw [if_neg hm] at h
        intro p hpp
        rcases List.mem_cons.1 hpp with rfl | hpp
        · exact hp
        · exact ih h p hpp
theorem starts_drop (m : M3) (ps : List (Int × Int)) {i : Nat} (hi : i < ps.length) : startsE m (ps.take i) (ps.drop i) =
    if passv m 1 (ps[i]'hi).1 (ps[i]'hi).2 = false then 9 else if ps[i]'hi ∈ ps.take i then 7 else startsE m (ps.take (i + 1)) (ps.drop (i + 1)) := by
  rw [List.drop_eq_getElem_cons hi, startsE, List.take_succ_eq_append_getElem hi]
theorem starts_end (m : M3) (ps seen : List (Int × Int)) {i : Nat} (hi : ps.length ≤ i) : startsE m seen (ps.drop i) = 0 := by
  rw [List.drop_eq_nil_of_le hi, startsE]

/-- What Valid keeps while it goes on. -/
structure VIn (f : F3) (sc : Value) (p : Option Addr) (c : Nat) (W wr : World) : Prop where
  t : Held1 W wr W.heap.size [.string (bs f.name), .int .i64 f.m.w, .int .i64 f.m.h, sc, .slice p f.st.length c] 27
  r : RowAt wr sc f.m.cs
  q : PosAt wr (.slice p f.st.length c) f.st
  e : EnvP wr
theorem VIn.call {f : F3} {sc : Value} {p : Option Addr} {c : Nat} {W wr w' : World} (h : VIn f sc p c W wr) (hb : Below wr.heap.size wr w') : VIn f sc p c W w' := ⟨h.t.call hb, h.r.below hb, h.q.below hb, h.e.keep hb⟩
theorem VIn.fields {f : F3} {sc : Value} {p : Option Addr} {c : Nat} {W wr : World} (h : VIn f sc p c W wr) :
    wr.cell? ⟨W.heap.size, 0, none⟩ = some (.string (bs f.name)) ∧ wr.cell? ⟨W.heap.size, 1, none⟩ = some (.int .i64 f.m.w) ∧ wr.cell? ⟨W.heap.size, 2, none⟩ = some (.int .i64 f.m.h) ∧ wr.cell? ⟨W.heap.size, 3, none⟩ = some sc ∧ wr.cell? ⟨W.heap.size, 4, none⟩ = some (.slice p f.st.length c) :=
  ⟨h.t.l.cell 0, h.t.l.cell 1, h.t.l.cell 2, h.t.l.cell 3, h.t.l.cell 4⟩
/-- .. beside the box of one of its starts. -/
structure VIn2 (f : F3) (sc : Value) (p : Option Addr) (c : Nat) (W wr : World) (b : Nat) (x y : Int) : Prop where
  v : VIn f sc p c W wr
  q : Blk wr b [.int .i64 x, .int .i64 y] 41
theorem VIn2.call {f : F3} {sc : Value} {p : Option Addr} {c b : Nat} {x y : Int} {W wr w' : World} (h : VIn2 f sc p c W wr b x y) (hb : Below wr.heap.size wr w') : VIn2 f sc p c W w' b x y := ⟨h.v.call hb, h.q.below hb⟩
theorem VIn2.three {f : F3} {sc : Value} {p : Option Addr} {c b : Nat} {x y : Int} {W wr : World} (h : VIn2 f sc p c W wr b x y) :
    wr.cell? ⟨W.heap.size, 4, none⟩ = some (.slice p f.st.length c) ∧ wr.cell? ⟨b, 0, none⟩ = some (.int .i64 x) ∧ wr.cell? ⟨b, 1, none⟩ = some (.int .i64 y) ∧ VIn2 f sc p c W wr b x y := ⟨h.v.t.l.cell 4, h.q.two.1, h.q.two.2.1, h⟩

theorem VIn2.call3 {f : F3} {sc : Value} {p : Option Addr} {c b : Nat} {x y : Int} {W wr w' : World} (h : wr.cell? ⟨W.heap.size, 4, none⟩ = some (.slice p f.st.length c) ∧ wr.cell? ⟨b, 0, none⟩ = some (.int .i64 x) ∧ wr.cell? ⟨b, 1, none⟩ = some (.int .i64 y) ∧ VIn2 f sc p c W wr b x y) (hb : Below wr.heap.size wr w') :
    w'.cell? ⟨W.heap.size, 4, none⟩ = some (.slice p f.st.length c) ∧ w'.cell? ⟨b, 0, none⟩ = some (.int .i64 x) ∧ w'.cell? ⟨b, 1, none⟩ = some (.int .i64 y) ∧ VIn2 f sc p c W w' b x y := (h.2.2.2.call hb).three
theorem VIn2.pos3 {f : F3} {sc : Value} {p : Option Addr} {c b i : Nat} {x y : Int} {W wr : World} (h : wr.cell? ⟨W.heap.size, 4, none⟩ = some (.slice p f.st.length c) ∧ wr.cell? ⟨b, 0, none⟩ = some (.int .i64 x) ∧ wr.cell? ⟨b, 1, none⟩ = some (.int .i64 y) ∧ VIn2 f sc p c W wr b x y) (hi : i ≤ f.st.length) : PosAt wr (.slice p i c) (f.st.take i) := h.2.2.2.v.q.take hi

set_option maxRecDepth 100000 in
set_option maxHeartbeats 4000000 in
theorem dvalidf_b (f : F3) (sc ss : Value) (r : Int) (W : World) (hE : EnvP W) (hr : RowAt W sc f.m.cs) (hp : PosAt W ss f.st) (hn : f.name.length ≤ 100000) (e : Hid (r = validf f)) :
    Calls Tryz.prog 14 #[fileV f sc ss] W fun e w' => e = .returned (.int .i64 r) ∧ Below W.heap.size W w' := by
  obtain ⟨p, c, rfl, hm, -⟩ := id hp
  unfold maxLen at hm
  have hcap := hm.1
  replace hm := Nat.le_trans hm.1 hm.2
  have hT := Held1.start W [.string (bs f.name), .int .i64 f.m.w, .int .i64 f.m.h, sc, .slice p f.st.length c] 27
  unfold fileV
  have hV : VIn f sc p c W _ := ⟨hT, hr.below hT.old, hp.below hT.old, hE.keep hT.old⟩
  clear hr hp hE hT
  have hs : (bs f.name).size ≤ 100000 := by rw [bs_size]; exact hn
  obtain ⟨F0, F1, F2, F3, F4⟩ := hV.fields
  have hv := e.out
  unfold validf at hv
  obtain ⟨nb, hnb⟩ : ∃ b, Hid (b = nameB (bs f.name).data.toList) := ⟨_, hid rfl⟩
  obtain ⟨vb, hvb⟩ : ∃ b, Hid (b = validm f.m) := ⟨_, hid rfl⟩
  have e1 : nameB f.name = nb := by rw [hnb.out]; simp [bs]
  rw [e1, ← hvb.out] at hv
  clear e e1
  go_enter Tryz.func14, Tryz.ntmps14
  go_wp2_with fail
  ((with_reducible refine (disname_b _ nb _ hs hnb).mono ?_); rintro e w1 ⟨rfl, rfl⟩)
  generalize W.alloc (.cells #[.string (bs f.name), .int .i64 f.m.w, .int .i64 f.m.h, sc, .slice p f.st.length c] 27) = V at *
  cases nb with
  | false =>
    rw [if_pos rfl] at hv
    subst hv
    go_wp2_with fail
    go_ret
    exact ⟨rfl, hV.t.old⟩
  | true =>
    rw [if_neg (by decide)] at hv
    go_wp2_with fail
    ((with_reducible refine (dvalidm_b f.m sc vb _ hV.r hvb).mono ?_); rintro e w1 ⟨rfl, hb⟩)
    replace hV := hV.call hb
    clear F0 F1 F2 F3 F4 hb
    obtain ⟨F0, F1, F2, F3, F4⟩ := hV.fields
    cases vb with
    | false =>
      rw [if_pos rfl] at hv
      subst hv
      go_wp2_with fail
      go_ret
      exact ⟨rfl, hV.t.old⟩
    | true =>
      rw [if_neg (by decide)] at hv
      have hL0 := Nat.zero_le f.st.length
      by_cases h2 : f.st.length < 2
      · rw [if_pos (.inl h2)] at hv
        subst hv
        have z : (f.st.length : Int) < 2 := by omega
        go_wp2_with fail
        go_ret
        exact ⟨rfl, hV.t.old⟩
      · by_cases h6 : 6 < f.st.length
        · rw [if_pos (.inr h6)] at hv
          subst hv
          have z : ¬ (f.st.length : Int) < 2 := by omega
          have z' : (6 : Int) < f.st.length := by omega
          go_wp2_with fail
          go_ret
          exact ⟨rfl, hV.t.old⟩
        · rw [if_neg (by omega)] at hv
          have z : ¬ (f.st.length : Int) < 2 := by omega
          have z' : ¬ (6 : Int) < f.st.length := by omega
          have HV := hid hv
          clear hv
          go_wp2_with fail
          go_loopw [29] (fun vi wr => ∃ i : Nat, vi = .int .i64 i ∧ i ≤ f.st.length ∧ VIn f sc p c W wr ∧ Hid (r = startsE f.m (f.st.take i) (f.st.drop i))) (fun vi _ => f.st.length - (RowKit.intOf vi).toNat)
          case atStart => exact ⟨0, rfl, by omega, hV, hid (by rw [HV.out]; rfl)⟩
          case round =>
            clear hV HV F0 F1 F2 F3 F4
            obtain ⟨i, rfl, hi, hV, hG⟩ := hrel
            obtain ⟨F0, F1, F2, F3, F4⟩ := hV.fields
            by_cases hlt : i < f.st.length
            · have d1 : (i : Int) < f.st.length := by omega
              have i0 : (0 : Int) ≤ i := by omega
              obtain ⟨g, o, c', e1, -, a1, a2⟩ := hV.q.at hlt
              injection e1 with e1 k1 k2
              subst e1
              clear k1 k2
              have hN := hid (show f.st.take (i + 1) = f.st.take i ++ [f.st[i]'hlt] from List.take_succ_eq_append_getElem hlt)
              have hS := hid (hG.out.trans (starts_drop f.m f.st hlt))
              obtain ⟨q, hq⟩ : ∃ q, f.st[i]'hlt = q := ⟨_, rfl⟩
              rw [hq] at a1 a2 hN hS
              obtain ⟨x, y⟩ := q
              dsimp only at a1 a2
              clear hq hG
              obtain ⟨pb, hpb⟩ : ∃ b, Hid (b = passv f.m 1 x y) := ⟨_, hid rfl⟩
              have hV2 : VIn2 f sc (some ⟨g, o, none⟩) c W (wr.alloc (.cells #[.int .i64 x, .int .i64 y] 41)) wr.heap.size x y :=
                ⟨hV.call ((Below.refl _ _).alloc (Nat.le_refl _) _), Blk.new wr [.int .i64 x, .int .i64 y] 41⟩
              obtain ⟨G0, G1, G2, G3, G4⟩ := hV2.v.fields
              obtain ⟨P0, P1, -, -⟩ := hV2.q.two
              clear hV
              go_wp2_with fail
              ((with_reducible refine (dpass_b f.m sc 1 x y pb _ hV2.v.e hV2.v.r hpb).mono ?_); rintro e w1 ⟨rfl, hb⟩)
              generalize wr.alloc (.cells #[.int .i64 x, .int .i64 y] 41) = V2 at *
              replace hV2 := hV2.call hb
              have hS' := hS.out
              rw [← hpb.out] at hS'
              clear F0 F1 F2 F3 F4 G0 G1 G2 G3 G4 P0 P1 a1 a2 hb hS hpb
              cases pb with
              | false =>
                rw [if_pos rfl] at hS'
                subst hS'
                go_wp2_with fail
                go_ret
                exact ⟨rfl, hV2.v.t.old⟩
              | true =>
                rw [if_neg (by decide)] at hS'
                obtain ⟨mb, hmb⟩ : ∃ b, Hid (b = decide ((x, y) ∈ f.st.take i)) := ⟨_, hid rfl⟩
                have HS := hid hS'
                clear hS'
                have hi' : (i : Int) ≤ f.st.length := by omega
                have hcap' : (i : Int) ≤ c := by omega
                have hS0 := (show VIn2 f sc (some ⟨g, o, none⟩) c W w1.drew wr.heap.size x y from hV2.call (Below.refl _ _).drew).three
                go_wp2_with fail
                go_region_held3 (fun w' => w'.cell? ⟨W.heap.size, 4, none⟩ = some (.slice (some ⟨g, o, none⟩) f.st.length c) ∧ w'.cell? ⟨wr.heap.size, 0, none⟩ = some (.int .i64 x) ∧ w'.cell? ⟨wr.heap.size, 1, none⟩ = some (.int .i64 y) ∧ VIn2 f sc (some ⟨g, o, none⟩) c W w' wr.heap.size x y)
                  (first | exact hS0 | exact VIn2.call3 (by assumption) (by assumption) | assumption)
                  (first
                    | (go_at_call 37; with_reducible refine (dhaspos_b (f.st.take i) _ x y mb _ (VIn2.pos3 (by assumption) hi) hmb).mono ?_; rintro e w' ⟨rfl, hb⟩))
                rename_i hH
                have hV3 := hH.2.2.2.v
                clear hH hS0
                have hr := HS.out
                cases mb with
                | true =>
                  rw [if_pos (of_decide_eq_true hmb.out.symm)] at hr
                  subst hr
                  go_wp2_with fail
                  go_ret
                  exact ⟨rfl, hV3.t.old⟩
                | false =>
                  rw [if_neg (of_decide_eq_false hmb.out.symm)] at hr
                  have HR := hid hr
                  clear hr HS hmb
                  go_wp2_with fail
                  go_roundw
                  case rel => exact ⟨i + 1, by go_num, by omega, hV3, HR⟩
                  case measure => simp [RowKit.intOf]; omega
            · obtain rfl : i = f.st.length := by omega
              have hr0 : r = 0 := by rw [hG.out]; exact starts_end _ _ _ (Nat.le_refl _)
              subst hr0
              clear hG
              go_wp2_with fail
              go_ret
              exact ⟨rfl, hV.t.old⟩

end

section
open Go.RowKit Go.Lib

attribute [local go_sem] Oper.semAt_some
/-- A slice's room. -/
def CapOk (s : Value) : Prop := ∀ p n c, s = .slice p n c → n ≤ c ∧ c ≤ 9223372036854775807
theorem bld_below {B b : Nat} {p : Value} {xs : List Value} {w w' : World} (h : Lib.BuilderAt 48 5 B b p xs w) (hb : Below w.heap.size w w') : Lib.BuilderAt 48 5 B b p xs w' := by
  have hlt := h.lt
  obtain ⟨hB, v, hk, hown, hne⟩ := h
  exact ⟨hB, v, (hb.block b hlt).trans hk, own_below hown hb, hne⟩
theorem isbld_below {B b : Nat} {xs : List Value} {w w' : World} (h : Lib.IsBuilder 48 5 B b xs w) (hb : Below w.heap.size w w') : Lib.IsBuilder 48 5 B b xs w' :=
  h.imp (fun h => bld_below h hb) (fun h => bld_below h hb)
theorem cells_str (l : List UInt8) (s : ByteArray) : Lib.byteCells l ++ Lib.strCells s = Lib.byteCells (l ++ s.data.toList) := by
  unfold Lib.byteCells Lib.strCells
  rw [List.map_append]
/-- The map file's box, the builder behind it, the text so far. -/
structure PIn (nm : ByteArray) (w h : Nat) (sc ss : Value) (W : World) (b : Nat) (l : List UInt8) (wr : World) : Prop where
  t : Blk wr W.heap.size [.string nm, .int .i64 w, .int .i64 h, sc, ss] 27
  lo : Below W.heap.size W wr
  gt : W.heap.size < b
  b : Lib.IsBuilder 48 5 b b (Lib.byteCells l) wr
section
variable {nm : ByteArray} {w h : Nat} {sc ss : Value} {W : World} {b : Nat} {l : List UInt8} {wr : World}
theorem PIn.call {w' : World} (i : PIn nm w h sc ss W b l wr) (hb : Below wr.heap.size wr w') : PIn nm w h sc ss W b l w' := ⟨i.t.below hb, below_call i.lo hb, i.gt, isbld_below i.b hb⟩
theorem PIn.lt (i : PIn nm w h sc ss W b l wr) : b < wr.heap.size := by
  rcases i.b with hb | hb
  · exact hb.lt
  · exact hb.lt
theorem PIn.wrote {w' : World} {s : ByteArray} (i : PIn nm w h sc ss W b l wr) (hb : Lib.BuilderAt 48 5 b b (.pointer (some ⟨b, 0, none⟩)) (Lib.byteCells l ++ Lib.strCells s) w') (hl : Below b wr w') : PIn nm w h sc ss W b (l ++ s.data.toList) w' :=
  ⟨i.t.under hl i.gt, i.lo.trans (hl.mono (Nat.le_of_lt i.gt)), i.gt, .inr (cells_str l s ▸ hb)⟩
theorem PIn.fields (i : PIn nm w h sc ss W b l wr) : wr.cell? ⟨W.heap.size, 0, none⟩ = some (.string nm) ∧ wr.cell? ⟨W.heap.size, 1, none⟩ = some (.int .i64 w) ∧ wr.cell? ⟨W.heap.size, 2, none⟩ = some (.int .i64 h) ∧ wr.cell? ⟨W.heap.size, 3, none⟩ = some sc ∧ wr.cell? ⟨W.heap.size, 4, none⟩ = some ss :=
  ⟨i.t.cell 0, i.t.cell 1, i.t.cell 2, i.t.cell 3, i.t.cell 4⟩
/-- WriteString of the text at hand. -/
theorem PIn.write (i : PIn nm w h sc ss W b l wr) (s : ByteArray) (hlen : l.length + s.size ≤ 1000000) :
    Calls Tryz.prog 22 #[.pointer (some ⟨b, 0, none⟩), .string s] wr fun e w' => e = .returned (.tuple #[.int .i64 s.size, .nilIface]) ∧ PIn nm w h sc ss W b (l ++ s.data.toList) w' := by
  refine (dwrite_b _ _ _ s wr i.b (by rw [show (Lib.byteCells l).length = l.length by unfold Lib.byteCells; rw [List.length_map]]; omega) (by have := i.lt; omega)).mono ?_
  rintro e w' ⟨rfl, hb, hl⟩
  exact ⟨rfl, i.wrote hb hl⟩
end
theorem kc_kindC {c : C3} (h1 : 1 ≤ c.k) (h5 : c.k ≤ 5) : kc c.k = ((kindC c).toNat : Int) := by
  unfold kc kindC
  obtain h | h | h | h | h : c.k = 1 ∨ c.k = 2 ∨ c.k = 3 ∨ c.k = 4 ∨ c.k = 5 := by omega
  all_goals (rw [h]; rfl)
theorem highC_nat {c : C3} (h0 : 0 ≤ c.h) (h3 : c.h ≤ 3) : 48 + c.h = ((highC c).toNat : Int) := by
  unfold highC
  obtain h | h | h | h : c.h = 0 ∨ c.h = 1 ∨ c.h = 2 ∨ c.h = 3 := by omega
  all_goals (rw [h]; rfl)
theorem drows_c (w h : Nat) (cs : List C3) (sc : Value) (hw : 1 ≤ w) (hw2 : w ≤ 32) (hh1 : 1 ≤ h) (hh : h ≤ 32) (hl : cs.length = h * w) (W : World) (hr : RowAt W sc cs) (hcap : CapOk sc) (F : FuncId) (caps : Array Value) (ch : C3 → UInt8) (P : World → Prop)
    (hP : P W) (hkeep : ∀ A, P W → Below W.heap.size W A → P A) (eF : ∀ args w, (callFunc F args).run Tryz.prog w = .ok (.enter F args) w)
    (hch : ∀ c ∈ cs, ∀ A, P A → Calls Tryz.prog F (#[.agg #[.int .i64 c.k, .int .i64 c.h, .int .i64 c.a]] ++ caps) A fun e w' => e = .returned (.int .u8 ((ch c).toNat : Int)) ∧ Below A.heap.size A w')
    (T : ByteArray) (e : Hid (T = bs (joinT (rowsT ch w h cs)))) :
    Calls Tryz.prog 25 #[.agg #[.int .i64 w, .int .i64 h, sc], .func (.func F) #[] caps] W fun e w' => e = .returned (.string T) ∧ Below W.heap.size W w' := by
  obtain ⟨p, c, rfl, hm, hc⟩ := hr
  have h1 : 1 ≤ cs.length := by rw [hl]; exact Nat.mul_pos hh1 hw
  obtain ⟨g, o, rfl, hat⟩ := hc h1
  obtain ⟨k1, k2⟩ := hcap _ _ _ rfl
  have hg : g < W.heap.size := World.block_lt_of_cell? W _ (hat 0 h1).1
  rw [e.out, hl]
  exact drows_b g o w h c cs hw hw2 hh hl (by rw [← hl]; exact k1) k2 F caps ch P W hg hP hkeep hat eF hch
/-- The rows of the kinds. -/
theorem drowsK_b (w h : Nat) (cs : List C3) (sc : Value) (hw : 1 ≤ w) (hw2 : w ≤ 32) (hh1 : 1 ≤ h) (hh : h ≤ 32) (hl : cs.length = h * w) (W : World) (hr : RowAt W sc cs) (hcap : CapOk sc) (hv : ∀ c ∈ cs, validc c = true)
    (bm bx : Nat) (hx : W.cell? ⟨bx, 0, none⟩ = some (.map (some bm))) (hk : KindMap W bm) (T : ByteArray) (e : Hid (T = bs (joinT (rowsT kindC w h cs)))) :
    Calls Tryz.prog 25 #[.agg #[.int .i64 w, .int .i64 h, sc], .func (.func 26) #[] #[.pointer (some ⟨bx, 0, none⟩)]] W fun e w' => e = .returned (.string T) ∧ Below W.heap.size W w' := by
  refine drows_c w h cs sc hw hw2 hh1 hh hl W hr hcap _ _ kindC (fun A => A.cell? ⟨bx, 0, none⟩ = some (.map (some bm)) ∧ KindMap A bm) ⟨hx, hk⟩ (fun A hP hb => ⟨(hb.cell (World.block_lt_of_cell? W _ hx)).trans hP.1, hP.2.below hb⟩) (enters_of Tryz.func26 (by kernel_rfl) rfl) ?_ T e
  intro c hc A hA
  obtain ⟨v1, v2⟩ : 1 ≤ c.k ∧ c.k ≤ 5 := by have := hv c hc; unfold validc at this; simp at this; omega
  rw [← kc_kindC v1 v2]
  exact dkchar_b c.k c.h c.a bm bx A v1 v2 hA.1 (World.block_lt_of_cell? A _ hA.1) hA.2
/-- The rows of the heights. -/
theorem drowsH_b (w h : Nat) (cs : List C3) (sc : Value) (hw : 1 ≤ w) (hw2 : w ≤ 32) (hh1 : 1 ≤ h) (hh : h ≤ 32) (hl : cs.length = h * w) (W : World) (hr : RowAt W sc cs) (hcap : CapOk sc) (hv : ∀ c ∈ cs, validc c = true)
    (T : ByteArray) (e : Hid (T = bs (joinT (rowsT highC w h cs)))) :
    Calls Tryz.prog 25 #[.agg #[.int .i64 w, .int .i64 h, sc], .func (.func 27) #[] #[]] W fun e w' => e = .returned (.string T) ∧ Below W.heap.size W w' := by
  refine drows_c w h cs sc hw hw2 hh1 hh hl W hr hcap _ _ highC (fun _ => True) trivial (fun _ _ _ => trivial) (enters_of Tryz.func27 (by kernel_rfl) rfl) ?_ T e
  intro c hc A _
  obtain ⟨v1, v2⟩ : 0 ≤ c.h ∧ c.h ≤ 3 := by have := hv c hc; unfold validc at this; simp at this; omega
  rw [← highC_nat v1 v2]
  exact dhchar_b c.k c.h c.a A v1 v2

end

section
open Go.RowKit Go.Lib

theorem atx_nat {w i : Nat} (hw : 1 ≤ w) : atx w i = ((i % w : Nat) : Int) := by unfold atx; rw [if_neg (by omega)]; omega
theorem aty_nat {w i : Nat} (hw : 1 ≤ w) : aty w i = ((i / w : Nat) : Int) := by unfold aty; rw [if_neg (by omega)]; omega
theorem amtsL_app (w : Nat) : ∀ (xs ys : List C3) (k : Nat), amtsL w k (xs ++ ys) = amtsL w k xs ++ amtsL w (k + xs.length) ys := by
  intro xs
  induction xs with
  | nil => intro ys k; simp [amtsL]
  | cons x xs ih =>
    intro ys k
    rw [List.cons_append, amtsL.eq_def, amtsL.eq_def w k (x :: xs)]
    simp only
    rw [ih, List.length_cons, show k + 1 + xs.length = k + (xs.length + 1) by omega]
    split
    · rfl
    · rfl
theorem amts_next (w : Nat) (cs : List C3) {i : Nat} (hi : i < cs.length) : amtsL w 0 (cs.take (i + 1)) = amtsL w 0 (cs.take i) ++ (if resB (cs[i]'hi).k = true then [amtL w i (cs[i]'hi)] else []) := by
  rw [List.take_succ_eq_append_getElem hi, amtsL_app, List.length_take, Nat.min_eq_left (by omega), Nat.zero_add]
  congr 1
theorem join_one (a : List UInt8) : joinT [a] = a ++ [10] := by unfold joinT; simp
theorem amts_le (w : Nat) (cs : List C3) (i : Nat) : (joinT (amtsL w 0 (cs.take i))).length ≤ (joinT (amtsL w 0 cs)).length := by
  have h := amtsL_app w (cs.take i) (cs.drop i) 0
  rw [List.take_append_drop] at h
  rw [h, join_app, List.length_append]
  omega
theorem strt_le (st : List (Int × Int)) (i : Nat) : (joinT ((st.take i).map startL)).length ≤ (joinT (st.map startL)).length := by
  have h : st.map startL = (st.take i).map startL ++ (st.drop i).map startL := by rw [← List.map_append, List.take_append_drop]
  rw [h, join_app, List.length_append]
  omega
theorem strt_next (st : List (Int × Int)) {i : Nat} (hi : i < st.length) : joinT ((st.take (i + 1)).map startL) = joinT ((st.take i).map startL) ++ (startL (st[i]'hi) ++ [10]) := by
  rw [List.take_succ_eq_append_getElem hi, List.map_append, join_app]
  show _ ++ joinT [_] = _
  rw [join_one]

set_option maxRecDepth 100000 in
set_option maxHeartbeats 8000000 in
theorem dprint_ok (nm : List UInt8) (w h : Nat) (cs : List C3) (st : List (Int × Int)) (sc ss : Value) (T : ByteArray) (W : World) (hE : EnvM W) (hr : RowAt W sc cs) (hp : PosAt W ss st) (hcap : CapOk sc)
    (hv : validf ⟨nm, ⟨w, h, cs⟩, st⟩ = 0) (e : Hid (T = bs (joinT (linesF ⟨nm, ⟨w, h, cs⟩, st⟩)))) :
    Calls Tryz.prog 12 #[.agg #[.string (bs nm), .int .i64 w, .int .i64 h, sc, ss]] W fun e w' => e = .returned (.tuple #[.string T, .int .i64 0]) ∧ Below W.heap.size W w' := by
  have hG := good_of hv
  have hN := name_len hG.name
  dsimp only at hN
  have hw := hG.w
  have hh := hG.h
  have hl := hG.len
  simp only [Int.toNat_natCast] at hw hh hl
  have hw1 : 1 ≤ w := by omega
  have hw2 : w ≤ 32 := by omega
  have hh1 : 1 ≤ h := by omega
  have hh2 : h ≤ 32 := by omega
  rw [Nat.mul_comm] at hl
  have hlen : cs.length ≤ 1024 := by rw [hl]; exact Nat.mul_le_mul hh2 hw2
  have hst : st.length ≤ 6 := hG.two.2
  replace hl := hid hl
  have hlen' : cs.length ≤ 9223372036854775807 := by omega
  have HC := hid hG.cells
  have HS := hid hG.starts
  dsimp only at HC HS
  have htot := text_len hG
  -- the text's parts
  have hparts : joinT (linesF ⟨nm, ⟨w, h, cs⟩, st⟩) = (headL ⟨nm, ⟨w, h, cs⟩, st⟩ ++ [10]) ++ joinT (rowsT kindC w h cs) ++ joinT (rowsT highC w h cs) ++ joinT (amtsL w 0 cs) ++ joinT (st.map startL) := by
    unfold linesF
    simp only [Int.toNat_natCast]
    rw [show ∀ (x : List UInt8) (xs : List (List UInt8)), x :: xs = [x] ++ xs from fun _ _ => rfl, join_app, join_one, join_app, join_app, join_app]
    simp only [List.append_assoc]
  have HT := hid (e.out.trans (congrArg bs hparts))
  rw [hparts] at htot
  simp only [List.length_append] at htot
  obtain ⟨hd, hhd⟩ : ∃ x, x = headL ⟨nm, ⟨w, h, cs⟩, st⟩ := ⟨_, rfl⟩
  obtain ⟨tk, htk⟩ : ∃ x, Hid (x = bs (joinT (rowsT kindC w h cs))) := ⟨_, hid rfl⟩
  obtain ⟨th, hth⟩ : ∃ x, Hid (x = bs (joinT (rowsT highC w h cs))) := ⟨_, hid rfl⟩
  rw [← hhd] at HT htot
  have lk : tk.size = (joinT (rowsT kindC w h cs)).length := by rw [htk.out, bs_size]
  have lh : th.size = (joinT (rowsT highC w h cs)).length := by rw [hth.out, bs_size]
  have hv0 : Hid ((0 : Int) = validf ⟨nm, ⟨w, h, cs⟩, st⟩) := hid hv.symm
  clear hG hv hparts e
  have c0 := fun V (a : EnvP V) b c => dvalidf_b ⟨nm, ⟨w, h, cs⟩, st⟩ sc ss 0 V a b c (by dsimp only; omega) hv0
  unfold fileV at c0
  dsimp only at c0
  clear hv0
  have hT := Held1.start W [.string (bs nm), .int .i64 w, .int .i64 h, sc, ss] 27
  obtain ⟨F0, F1, F2, F3, F4⟩ : _ ∧ _ ∧ _ ∧ _ ∧ _ := ⟨hT.l.cell 0, hT.l.cell 1, hT.l.cell 2, hT.l.cell 3, hT.l.cell 4⟩
  simp only [List.getElem?_cons_zero, List.getElem?_cons_succ] at F0 F1 F2 F3 F4
  go_enter Tryz.func12, Tryz.ntmps12
  go_wp2_with fail
  ((with_reducible refine (c0 _ (hE.keep hT.old).p (hr.below hT.old) (hp.below hT.old)).mono ?_); rintro e w1 ⟨rfl, hb⟩)
  replace hT := hT.call hb
  clear F0 F1 F2 F3 F4 hb c0
  obtain ⟨b, hb⟩ : ∃ b, b = w1.heap.size := ⟨_, rfl⟩
  have P0 : PIn (bs nm) w h sc ss W b [] (w1.alloc (.cells #[.pointer none, .slice none 0 0] 48)) :=
    ⟨hT.l.alloc _, hT.old.alloc hT.old.size _, by rw [hb]; exact hT.l.lt, by rw [hb]; exact Lib.fresh_isBuilder _ _ w1⟩
  obtain ⟨F0, F1, F2, F3, F4⟩ := P0.fields
  have hs1 : (bs nm).size ≤ 12 := by rw [bs_size]; omega
  obtain ⟨T1, h1⟩ : ∃ x, Hid (x = bs (wordsV (ByteArray.mk #[109, 97, 112, 32] ++ bs nm).data.toList [w, h])) := ⟨_, hid rfl⟩
  have h1' : T1 = bs hd := by
    rw [h1.out, hhd]
    show bs (wordsV (bs [109, 97, 112, 32] ++ bs nm).data.toList [w, h]) = bs (wordsV ([109, 97, 112] ++ 32 :: nm) [(w : Int).toNat, (h : Int).toNat])
    rw [bs_app, bs_list, Int.toNat_natCast, Int.toNat_natCast]
    rfl
  have l1 : T1.size = hd.length := by rw [h1', bs_size]
  replace h1' := hid h1'
  clear hhd
  have hs2 : (ByteArray.mk #[109, 97, 112, 32] ++ bs nm).size ≤ 1000 := by rw [ByteArray.size_append]; show 4 + _ ≤ _; omega
  have hE1 := hE.keep P0.lo
  have hb2 := Blk.new (w1.alloc (.cells #[.pointer none, .slice none 0 0] 48)) [.int .i64 w, .int .i64 h] 3
  have hVb : (w1.alloc (.cells #[.pointer none, .slice none 0 0] 48)).heap.size = b + 1 := by rw [hb]; simp
  rw [hVb] at hb2
  clear hT
  go_wp2_with fail
  generalize w1.alloc (.cells #[.pointer none, .slice none 0 0] 48) = V at *
  rw [← hb]
  clear F0 F1 F2 F3 F4 hb w1
  ((with_reducible refine (dwords2_b _ w h _ _ T1 _ (hE1.keep ((Below.refl _ V).alloc (Nat.le_refl _) _)) hs2 (by omega) (by omega) hb2 h1).mono ?_); rintro e w2 ⟨rfl, hb⟩)
  have P1 := (P0.call ((Below.refl _ V).alloc (Nat.le_refl _) _)).call hb
  clear P0 hb hb2 hE1 hs2 hs1 h1
  have e1 : T1.size ≤ 32768 := by omega
  go_wp2_with fail
  ((with_reducible refine (P1.write (T1 ++ ByteArray.mk #[10]) (by rw [ByteArray.size_append, List.length_nil, show (ByteArray.mk #[10]).size = 1 from rfl]; omega)).mono ?_); rintro e w3 ⟨rfl, P2⟩)
  have e2 : [] ++ (T1 ++ ByteArray.mk #[10]).data.toList = hd ++ [10] := by rw [h1'.out]; show [] ++ (bs hd ++ bs [10]).data.toList = _; rw [bs_app, bs_list]; rfl
  rw [e2] at P2
  clear e2 P1 e1 w2
  go_wp2_with fail
  ((with_reducible refine (dkinds_b w3).mono ?_); rintro e w4 ⟨rfl, hk, hb⟩)
  have P3 := (P2.call hb).call ((Below.refl _ w4).alloc (Nat.le_refl _) (.cells #[.map (some w3.heap.size)] 54))
  have hk3 := hk.below ((Below.refl _ w4).alloc (Nat.le_refl _) (.cells #[.map (some w3.heap.size)] 54))
  have hx3 := (Blk.new w4 [.map (some w3.heap.size)] 54).cell 0
  obtain ⟨F0, F1, F2, F3, F4⟩ := P3.fields
  clear P2 hk hb
  go_wp2_with fail
  ((with_reducible refine (drowsK_b w h cs sc hw1 hw2 hh1 hh2 hl.out _ (hr.below P3.lo) hcap HC.out _ _ hx3 hk3 tk htk).mono ?_); rintro e w5 ⟨rfl, hb⟩)
  have P4 := P3.call hb
  clear P3 hk3 hx3 hb F0 F1 F2 F3 F4
  go_wp2_with fail
  ((with_reducible refine (P4.write tk (by simp at htot ⊢; omega)).mono ?_); rintro e w6 ⟨rfl, P5⟩)
  clear P4
  rw [htk.out, bs_list] at P5
  obtain ⟨F0, F1, F2, F3, F4⟩ := P5.fields
  go_wp2_with fail
  ((with_reducible refine (drowsH_b w h cs sc hw1 hw2 hh1 hh2 hl.out _ (hr.below P5.lo) hcap HC.out th hth).mono ?_); rintro e w7 ⟨rfl, hb⟩)
  have P6 := P5.call hb
  clear P5 hb F0 F1 F2 F3 F4
  go_wp2_with fail
  ((with_reducible refine (P6.write th (by simp at htot ⊢; omega)).mono ?_); rintro e w8 ⟨rfl, P7⟩)
  clear P6
  rw [hth.out, bs_list] at P7
  clear htk hth lk lh
  obtain ⟨F0, F1, F2, F3, F4⟩ := P7.fields
  obtain ⟨p, c, rfl, hm, -⟩ := id hr
  unfold maxLen at hm
  obtain ⟨t2, ht2⟩ : ∃ x, x = hd ++ [10] ++ joinT (rowsT kindC w h cs) ++ joinT (rowsT highC w h cs) := ⟨_, rfl⟩
  rw [← ht2] at P7 HT
  have hl2 : t2.length + (joinT (amtsL w 0 cs)).length + (joinT (List.map startL st)).length ≤ 32768 := by rw [ht2]; simp only [List.length_append]; omega
  clear ht2 htot
  clear l1 h1' hVb
  go_wp2_with fail
  go_loopw [44] (fun vi wr => ∃ i : Nat, vi = .int .i64 i ∧ i ≤ cs.length ∧ PIn (bs nm) w h (.slice p cs.length c) ss W b (t2 ++ joinT (amtsL w 0 (cs.take i))) wr) (fun vi _ => cs.length - (RowKit.intOf vi).toNat)
  case atStart => exact ⟨0, rfl, by omega, by simpa [amtsL, joinT] using P7⟩
  case round =>
    clear P7 F0 F1 F2 F3 F4
    obtain ⟨i, rfl, hi, P⟩ := hrel
    by_cases hlt : i < cs.length
    · have d1 : (i : Int) < cs.length := by omega
      have i0 : (0 : Int) ≤ i := by omega
      obtain ⟨g, o, c', e1, a1, a2, a3⟩ := row_cells hr P.lo hlt
      injection e1 with e1 k1 k2
      subst e1
      clear k1 k2
      have hN := amts_next w cs hlt
      have hb1 := amts_le w cs (i + 1)
      have hvc := HC.out _ (List.getElem_mem hlt)
      obtain ⟨q, hq⟩ : ∃ q, cs[i]'hlt = q := ⟨_, rfl⟩
      rw [hq] at a1 a2 a3 hN hvc
      clear hq
      obtain ⟨k, hc, a⟩ := q
      dsimp only at a1 a2 a3 hN
      have ha : 0 ≤ a ∧ a ≤ 1000000 := by unfold validc at hvc; simp at hvc; omega
      obtain ⟨n, rfl⟩ := Int.eq_ofNat_of_zero_le ha.1
      clear hvc
      obtain ⟨rb, hrb⟩ : ∃ b, Hid (b = resB k) := ⟨_, hid rfl⟩
      rw [← hrb.out] at hN
      have hN := hid hN
      have PA := P.call ((Below.refl _ wr).alloc (Nat.le_refl _) (.cells #[.int .i64 k, .int .i64 hc, .int .i64 n] 44))
      have hBx := Blk.new wr [.int .i64 k, .int .i64 hc, .int .i64 n] 44
      obtain ⟨q1, q2, q3, -, -, -⟩ := hBx.three
      have hBx := hid hBx
      obtain ⟨G0, G1, G2, G3, G4⟩ := PA.fields
      clear P
      go_wp2_with fail
      ((with_reducible refine (dresource_b k rb _ hrb).mono ?_); rintro e w1 ⟨rfl, rfl⟩)
      clear hrb
      cases rb with
      | false =>
        have hN2 := hN.out
        rw [if_neg (by decide), List.append_nil] at hN2
        have PA2 := hid PA
        clear hN PA hBx
        go_wp2_with fail
        go_roundw
        case rel => exact ⟨i + 1, by go_num, by omega, by rw [hN2]; exact PA2.out⟩
        case measure => simp [RowKit.intOf]; omega
      | true =>
        have hN2 := hN.out
        rw [if_pos rfl] at hN2
        clear hN
        rw [hN2, join_app, join_one] at hb1
        simp only [List.length_append, List.length_singleton] at hb1
        go_wp2_with fail
        ((with_reducible refine (dat_any (w : Int) (i : Int) _ (by omega)).mono ?_); rintro e w2 ⟨rfl, hb⟩)
        rw [atx_nat hw1, aty_nat hw1]
        obtain ⟨T2, h2⟩ : ∃ x, Hid (x = bs (wordsV (ByteArray.mk #[97, 109, 111, 117, 110, 116]).data.toList [i % w, i / w, n])) := ⟨_, hid rfl⟩
        have h2' : Hid (T2 = bs (amtL w i ⟨k, hc, n⟩)) := hid (by rw [h2.out]; rfl)
        have l2 : T2.size = (amtL w i ⟨k, hc, n⟩).length := by rw [h2'.out, bs_size]
        have hN3 := hid (show t2 ++ joinT (amtsL w 0 (cs.take (i + 1))) = (t2 ++ joinT (amtsL w 0 (cs.take i))) ++ (T2 ++ ByteArray.mk #[10]).data.toList by
          rw [hN2, join_app, join_one, h2'.out]; show _ = _ ++ (bs _ ++ bs [10]).data.toList; rw [bs_app, bs_list, List.append_assoc])
        have hmod : i % w ≤ 1000000 := by have := Nat.mod_lt i hw1; omega
        have hdiv : i / w ≤ 1000000 := by have := Nat.div_le_self i w; omega
        generalize i % w = X at *
        generalize i / w = Y at *
        have l3 : T2.size ≤ 32768 := by omega
        have l4 : (t2 ++ joinT (amtsL w 0 (cs.take i))).length + (T2 ++ ByteArray.mk #[10]).size ≤ 1000000 := by
          rw [List.length_append, ByteArray.size_append, show (ByteArray.mk #[10]).size = 1 from rfl]; omega
        replace l4 := hid l4
        clear hN2 h2' l2
        have PB := (PA.call hb).call ((Below.refl _ w2).alloc (Nat.le_refl _) (.cells #[.int .i64 X, .int .i64 Y] 41))
        obtain ⟨r1, r2, r3, -, -, -⟩ := ((hBx.out.below hb).alloc (.cells #[.int .i64 X, .int .i64 Y] 41)).three
        obtain ⟨s1, s2, -, -⟩ := (Blk.new w2 [.int .i64 X, .int .i64 Y] 41).two
        have hvs : (w2.alloc (.cells #[.int .i64 X, .int .i64 Y] 41)).heap.size = w2.heap.size + 1 := by simp
        have hb2 := Blk.new (w2.alloc (.cells #[.int .i64 X, .int .i64 Y] 41)) [.int .i64 X, .int .i64 Y, .int .i64 n] 3
        rw [hvs] at hb2
        have PC := PB.call ((Below.refl _ (w2.alloc (.cells #[.int .i64 X, .int .i64 Y] 41))).alloc (Nat.le_refl _) (.cells #[.int .i64 X, .int .i64 Y, .int .i64 n] 3))
        clear G0 G1 G2 G3 G4 PA hBx hb a1 a2 a3 q1 q2 q3
        go_wp2_with fail
        ((with_reducible refine (dwords3_b _ X Y n _ _ T2 _ (hE.keep PC.lo) (by decide) hmod hdiv (by omega) hb2 h2).mono ?_); rintro e w5 ⟨rfl, hb⟩)
        replace PC := PC.call hb
        clear PB hb hb2 r1 r2 r3 s1 s2 hvs
        go_wp2_with fail
        ((with_reducible refine (PC.write (T2 ++ ByteArray.mk #[10]) l4.out).mono ?_); rintro e w6 ⟨rfl, PD⟩)
        rw [← hN3.out] at PD
        have PD2 := hid PD
        clear PC PD hN3 h2
        go_wp2_with fail
        go_roundw
        case rel => exact ⟨i + 1, by go_num, by omega, PD2.out⟩
        case measure => simp [RowKit.intOf]; omega
    · obtain rfl : i = cs.length := by omega
      rw [List.take_length] at P
      obtain ⟨F0, F1, F2, F3, F4⟩ := P.fields
      obtain ⟨p', c', rfl, hm', -⟩ := id hp
      obtain ⟨t3, ht3⟩ : ∃ x, x = t2 ++ joinT (amtsL w 0 cs) := ⟨_, rfl⟩
      rw [← ht3] at P HT
      have hl3 : t3.length + (joinT (List.map startL st)).length ≤ 32768 := by rw [ht3, List.length_append]; omega
      clear ht3 hl2
      go_wp2_with fail
      go_loopw [71] (fun vi wr => ∃ i : Nat, vi = .int .i64 i ∧ i ≤ st.length ∧ PIn (bs nm) w h (.slice p cs.length c) (.slice p' st.length c') W b (t3 ++ joinT ((st.take i).map startL)) wr) (fun vi _ => st.length - (RowKit.intOf vi).toNat)
      case atStart => exact ⟨0, rfl, by omega, by simpa [joinT] using P⟩
      case round =>
        clear P F0 F1 F2 F3 F4
        obtain ⟨i, rfl, hi, P⟩ := hrel
        by_cases hlt : i < st.length
        · have d1 : (i : Int) < st.length := by omega
          have i0 : (0 : Int) ≤ i := by omega
          obtain ⟨g, o, c2, e1, -, a1, a2⟩ := (hp.below P.lo).at hlt
          injection e1 with e1 k1 k2
          subst e1
          clear k1 k2
          have hN2 := strt_next st hlt
          have hb1 := strt_le st (i + 1)
          have hvc := pass_in (starts_done HS.out _ (List.getElem_mem hlt))
          dsimp only at hvc
          obtain ⟨q, hq⟩ : ∃ q, st[i]'hlt = q := ⟨_, rfl⟩
          rw [hq] at a1 a2 hN2 hvc
          clear hq
          obtain ⟨x, y⟩ := q
          dsimp only at a1 a2 hvc
          obtain ⟨X, rfl⟩ := Int.eq_ofNat_of_zero_le hvc.1
          obtain ⟨Y, rfl⟩ := Int.eq_ofNat_of_zero_le hvc.2.2.1
          have hX : X ≤ 1000000 := by omega
          have hY : Y ≤ 1000000 := by omega
          clear hvc
          rw [hN2] at hb1
          simp only [List.length_append, List.length_singleton] at hb1
          obtain ⟨T2, h2⟩ : ∃ x, Hid (x = bs (wordsV (ByteArray.mk #[115, 116, 97, 114, 116]).data.toList [X, Y])) := ⟨_, hid rfl⟩
          have h2' : Hid (T2 = bs (startL ((X : Int), (Y : Int)))) := hid (by rw [h2.out]; rfl)
          have l2 : T2.size = (startL ((X : Int), (Y : Int))).length := by rw [h2'.out, bs_size]
          have hN3 := hid (show t3 ++ joinT ((st.take (i + 1)).map startL) = (t3 ++ joinT ((st.take i).map startL)) ++ (T2 ++ ByteArray.mk #[10]).data.toList by
            rw [hN2, h2'.out]; show _ = _ ++ (bs _ ++ bs [10]).data.toList; rw [bs_app, bs_list, List.append_assoc])
          have l3 : T2.size ≤ 32768 := by omega
          have l4 : (t3 ++ joinT ((st.take i).map startL)).length + (T2 ++ ByteArray.mk #[10]).size ≤ 1000000 := by
            rw [List.length_append, ByteArray.size_append, show (ByteArray.mk #[10]).size = 1 from rfl]; omega
          replace l4 := hid l4
          clear hN2 h2' l2
          have hvs : (wr.alloc (.cells #[.int .i64 X, .int .i64 Y] 41)).heap.size = wr.heap.size + 1 := by simp
          obtain ⟨s1, s2, -, -⟩ := (Blk.new wr [.int .i64 X, .int .i64 Y] 41).two
          have hb2 := Blk.new (wr.alloc (.cells #[.int .i64 X, .int .i64 Y] 41)) [.int .i64 X, .int .i64 Y] 3
          rw [hvs] at hb2
          have PC := (P.call ((Below.refl _ wr).alloc (Nat.le_refl _) (.cells #[.int .i64 X, .int .i64 Y] 41))).call ((Below.refl _ (wr.alloc (.cells #[.int .i64 X, .int .i64 Y] 41))).alloc (Nat.le_refl _) (.cells #[.int .i64 X, .int .i64 Y] 3))
          clear P
          go_wp2_with fail
          ((with_reducible refine (dwords2_b _ X Y _ _ T2 _ (hE.keep PC.lo) (by decide) hX hY hb2 h2).mono ?_); rintro e w5 ⟨rfl, hb⟩)
          replace PC := PC.call hb
          clear hb hb2 s1 s2 hvs a1 a2
          go_wp2_with fail
          ((with_reducible refine (PC.write (T2 ++ ByteArray.mk #[10]) l4.out).mono ?_); rintro e w6 ⟨rfl, PD⟩)
          rw [← hN3.out] at PD
          have PD2 := hid PD
          clear PC PD hN3 h2
          go_wp2_with fail
          go_roundw
          case rel => exact ⟨i + 1, by go_num, by omega, PD2.out⟩
          case measure => simp [RowKit.intOf]; omega
        · obtain rfl : i = st.length := by omega
          rw [List.take_length] at P
          have hlo := P.lo
          have hgt := P.gt
          have hlt2 := P.lt
          go_wp2_with fail
          ((with_reducible refine (Tryz.Builder_String_any b b _ _ P.b (Nat.le_of_lt hlt2)).mono ?_); rintro e w9 ⟨rfl, hb⟩)
          have hL := hlo.trans (hb.mono (Nat.le_of_lt hgt))
          go_wp2_with fail
          go_ret2
          exact ⟨by rw [HT.out]; rfl, hL⟩

end

end Go.Proofs.YtmpbgfobiceehaaGreatDoor
