/-
  What the reader of mapfile answers: lines, rows.
-/
import Derived.Test.YtmpbgfobiceehaaGreatDoorMapLandQ
namespace Go.Proofs.YtmpbgfobiceehaaGreatDoor

section
open Go.RowKit Go.Lib

/-- Of what lay there only two blocks may have changed. -/
structure Two (R G : Nat) (w w' : World) : Prop where
  os : w'.os = w.os
  tape : w'.tape = w.tape
  output : w'.output = w.output
  size : w.heap.size ≤ w'.heap.size
  block : ∀ k, k < w.heap.size → k ≠ R → k ≠ G → w'.heap[k]? = w.heap[k]?
theorem Two.refl (R G : Nat) (w : World) : Two R G w w := ⟨rfl, rfl, rfl, Nat.le_refl _, fun _ _ _ _ => rfl⟩
theorem Two.trans {R G : Nat} {a b c : World} (h : Two R G a b) (k : Two R G b c) : Two R G a c :=
  ⟨k.os.trans h.os, k.tape.trans h.tape, k.output.trans h.output, Nat.le_trans h.size k.size, fun i hi hR hG => (k.block i (Nat.lt_of_lt_of_le hi h.size) hR hG).trans (h.block i hi hR hG)⟩
theorem Two.of_below {R G : Nat} {a b : World} (h : Below a.heap.size a b) : Two R G a b := ⟨h.os, h.tape, h.output, h.size, fun i hi _ _ => h.block i hi⟩
theorem Two.set {R G : Nat} (w : World) (a : Addr) (x : Value) (h : a.block = R ∨ a.block = G) : Two R G w (w.setCell a x) := by
  have hb := (Below.refl 0 w).setCell (p := a) (Nat.zero_le _) x
  refine ⟨hb.os, hb.tape, hb.output, hb.size, fun k hk hR hG => Below.heap_setCell w a x k ?_⟩
  rcases h with h | h
  · rw [h]; exact hR
  · rw [h]; exact hG
theorem Two.below {R G B : Nat} {w w' : World} (h : Two R G w w') (hR : B ≤ R) (hG : B ≤ G) (hB : B ≤ w.heap.size) : Below B w w' :=
  ⟨h.os, h.tape, h.output, h.size, fun k hk => h.block k (by omega) (by omega) (by omega)⟩
theorem Blk.two_ {w w' : World} {R G b : Nat} {vs : List Value} {t : TypeId} (h : Blk w b vs t) (k : Two R G w w') (hR : b ≠ R) (hG : b ≠ G) : Blk w' b vs t := (k.block b h.lt hR hG).trans h

/-- The reader's block. -/
def RdV (rest : ByteArray) (line : Int) (vs : List Value) : List Value := .string rest :: .int .i64 line :: vs

/-- What read leaves: no line; a line without its form; a line read. -/
def ReadPost (R : Nat) (rest y : ByteArray) (line : Int) (vs : List Value) (f : Bool) (Post : Bool → World → Prop) (w : World) (e : Ending) (w' : World) : Prop :=
  (f = false ∧ e = .returned (.int .i64 4) ∧ Blk w' R (RdV rest (line + 1) vs) 68 ∧ Two R R w w') ∨
  (f = true ∧ ∃ vs', e = .returned (.int .i64 5) ∧ Post false w' ∧ Blk w' R (RdV rest (line + 1) vs') 68) ∨
  (f = true ∧ ∃ w2 vs', e = .returned (.int .i64 0) ∧ Post true w2 ∧ Blk w2 R (RdV rest (line + 1) vs') 68 ∧ w' = w2.setCell ⟨R, 0, none⟩ (.string y))
set_option maxHeartbeats 2000000 in
set_option maxRecDepth 100000 in
/-- read: one line, and what the function makes of it. -/
theorem dread_b (R : Nat) (rest x y : ByteArray) (f : Bool) (line : Int) (vs : List Value) (F : FuncId) (caps : Array Value) (w : World) (hE : EnvM w) (h30 : 12 ≤ R) (hB : Blk w R (RdV rest line vs) 68) (hs : rest.size ≤ 32768) (hl : 0 ≤ line) (hl2 : line ≤ 1000000)
    (e1 : Hid (x = bs (cutC 10 rest.data.toList).1)) (e2 : Hid (y = bs (cutC 10 rest.data.toList).2.1)) (e3 : Hid (f = (cutC 10 rest.data.toList).2.2))
    (eF : ∀ args w, (callFunc F args).run Tryz.prog w = .ok (.enter F args) w) (Post : Bool → World → Prop)
    (htake : f = true → ∀ w1, Blk w1 R (RdV rest (line + 1) vs) 68 → (∀ k, k < w.heap.size → k ≠ R → w1.heap[k]? = w.heap[k]?) → EnvM w1 → Below R w w1 → Two R R w w1 →
      Calls Tryz.prog F (#[.string x] ++ caps) w1 fun e w2 => ∃ b vs', e = .returned (.bool b) ∧ Post b w2 ∧ Blk w2 R (RdV rest (line + 1) vs') 68) :
    Calls Tryz.prog 70 #[.pointer (some ⟨R, 0, none⟩), .func (.func F) #[] caps] w (ReadPost R rest y line vs f Post w) := by
  have c0 := hB.cell 0
  have c1 := hB.cell 1
  have f1 := hB.frozen 1
  simp only [RdV, List.getElem?_cons_zero, List.getElem?_cons_succ] at c0 c1
  have hB1 : Blk (w.setCell ⟨R, 1, none⟩ (.int .i64 (line + 1))) R (RdV rest (line + 1) vs) 68 := hB.set 1 (.int .i64 (line + 1))
  have hW : IntKind.i64.wrap (line + 1) = line + 1 := by simp [IntKind.wrap, IntKind.signed, IntKind.bits]; omega
  have hT1 : Two R R w (w.setCell ⟨R, 1, none⟩ (.int .i64 (line + 1))) := Two.set w _ _ (.inl rfl)
  have hE1 := EnvM.keep30 hE (hT1.below (B := 12) h30 h30 hE.big)
  have d0 := hB1.cell 0
  simp only [RdV, List.getElem?_cons_zero] at d0
  go_enter Tryz.func70, Tryz.ntmps70
  go_wp2_with fail
  generalize w.setCell ⟨R, 1, none⟩ (.int .i64 (line + 1)) = w1 at *
  ((with_reducible refine (cut_b rest 10 x y f _ hE1 (by omega) e1 e2 e3).mono ?_); rintro e w2 ⟨rfl, hb⟩)
  have hB2 := hB1.below hb
  have hT2 := hT1.trans (Two.of_below hb)
  have hE2 := hE1.keep hb
  have HT := Lib.hid htake
  clear e1 e2 e3 hE hE1 hT1 htake hB1 d0
  cases f with
  | false =>
    go_wp2_with fail
    go_ret
    exact .inl ⟨rfl, rfl, hB2, hT2⟩
  | true =>
    have hc := HT.out rfl w2 hB2 (fun k hk hR => hT2.block k hk hR hR) hE2 (hT2.below (Nat.le_refl _) (Nat.le_refl _) (Nat.le_of_lt hB.lt)) hT2
    go_wp2_with fail
    ((with_reducible refine hc.mono ?_); rintro e w3 ⟨b, vs', rfl, hP, hB3⟩)
    have g0 := hB3.frozen 0
    have g1 := hB3.cell 0
    simp only [RdV, List.getElem?_cons_zero] at g1
    cases b with
    | false =>
      go_wp2_with fail
      go_ret
      exact .inr (.inl ⟨rfl, vs', rfl, hP, hB3⟩)
    | true =>
      go_wp2_with fail
      go_ret
      exact .inr (.inr ⟨rfl, w3, vs', rfl, hP, hB3, rfl⟩)

end

section
open Go.RowKit Go.Lib

/-- A cell with its kind or its height replaced. -/
def updC (f : Nat) (x : Int) (c : C3) : C3 := if f = 0 then ⟨x, c.h, c.a⟩ else if f = 1 then ⟨c.k, x, c.a⟩ else ⟨c.k, c.h, x⟩
/-- What a function says of a character: whether it is something, and what is set. -/
structure SetIs (set : C3 → UInt8 → Option C3) (f : Nat) (val : UInt8 → Int) (ok : UInt8 → Bool) : Prop where
  f2 : f < 3
  is : ∀ c b, set c b = if ok b = true then some (updC f (val b) c) else none
def rowUp (f : Nat) (val : UInt8 → Int) (cs : List C3) (o : Nat) (l : List UInt8) : Nat → List C3
  | 0 => cs
  | i + 1 => (rowUp f val cs o l i).set (o + i) (updC f (val (l.getD i 0)) ((rowUp f val cs o l i).getD (o + i) C3.zero))
section
variable {f : Nat} {val : UInt8 → Int} {ok : UInt8 → Bool} {set : C3 → UInt8 → Option C3}
theorem rowUp_len (cs : List C3) (o : Nat) (l : List UInt8) : ∀ i, (rowUp f val cs o l i).length = cs.length := by
  intro i
  induction i with
  | zero => rfl
  | succ i ih => rw [rowUp, List.length_set, ih]
theorem rowUp_at (cs : List C3) (o : Nat) (l : List UInt8) : ∀ i j, (hj : j < cs.length) → (rowUp f val cs o l i)[j]'(by rw [rowUp_len]; exact hj) = if o ≤ j ∧ j < o + i then updC f (val (l.getD (j - o) 0)) (cs[j]'hj) else cs[j]'hj := by
  intro i
  induction i with
  | zero => intro j hj; rw [if_neg (by omega)]; rfl
  | succ i ih =>
    intro j hj
    have hl := rowUp_len (f := f) (val := val) cs o l i
    rw [show (rowUp f val cs o l (i + 1))[j]'(by rw [rowUp_len]; exact hj) = ((rowUp f val cs o l i).set (o + i) (updC f (val (l.getD i 0)) ((rowUp f val cs o l i).getD (o + i) C3.zero)))[j]'(by rw [List.length_set, hl]; exact hj) from rfl]
    rw [List.getElem_set]
    by_cases h : o + i = j
    · subst h
      rw [if_pos rfl, if_pos (by omega), show o + i - o = i by omega, show (rowUp f val cs o l i).getD (o + i) C3.zero = (rowUp f val cs o l i)[o + i]'(by rw [hl]; exact hj) by rw [List.getD_eq_getElem?_getD, List.getElem?_eq_getElem (by rw [hl]; exact hj)]; rfl, ih _ hj, if_neg (by omega)]
    · rw [if_neg h, ih j hj]
      by_cases h2 : o ≤ j ∧ j < o + i
      · rw [if_pos h2, if_pos (by omega)]
      · rw [if_neg h2, if_neg (by omega)]
theorem rowv_is (hS : SetIs set f val ok) : ∀ (row : List C3) (l : List UInt8), rowv set row l = if row.length = l.length ∧ l.all ok = true then some (List.zipWith (fun c b => updC f (val b) c) row l) else none := by
  intro row
  induction row with
  | nil =>
    intro l
    cases l with
    | nil => rw [if_pos ⟨rfl, rfl⟩]; rfl
    | cons b l => rw [if_neg (by simp)]; rfl
  | cons c row ih =>
    intro l
    cases l with
    | nil => rw [if_neg (by simp)]; rfl
    | cons b l =>
      rw [rowv, hS.is, ih l]
      by_cases hb : ok b = true
      · rw [if_pos hb]
        by_cases h : row.length = l.length ∧ l.all ok = true
        · rw [if_pos h, if_pos (by simp [hb, h.1, h.2])]; rfl
        · rw [if_neg h, if_neg (fun x => h ⟨by simpa using x.1, by have := x.2; rw [List.all_cons, Bool.and_eq_true] at this; exact this.2⟩)]; rfl
      · rw [if_neg hb]
        show none = _
        rw [if_neg (fun x => hb (by have := x.2; rw [List.all_cons, Bool.and_eq_true] at this; exact this.1))]
/-- One row replaced. -/
def repl (cs : List C3) (k w : Nat) (r : List C3) : List C3 := cs.take (k * w) ++ r ++ cs.drop ((k + 1) * w)
theorem rowUp_repl (hS : SetIs set f val ok) {w h : Nat} {cs : List C3} (hl : cs.length = h * w) (k : Upto h) (l : List UInt8) {r : List C3} (hr : rowv set (rowAt w cs k.1) l = some r) : rowUp f val cs (k.1 * w) l w = repl cs k.1 w r ∧ r.length = w := by
  rw [rowv_is hS] at hr
  have hrl := row_len hl k
  have hk : (k.1 + 1) * w ≤ h * w := Nat.mul_le_mul_right w k.2
  rw [Nat.succ_mul] at hk
  split at hr
  · rename_i hh
    injection hr with hr
    have hlen : r.length = w := by rw [← hr, List.length_zipWith, hrl, ← hh.1, hrl, Nat.min_self]
    refine ⟨?_, hlen⟩
    unfold repl
    rw [Nat.succ_mul]
    apply List.ext_getElem
    · rw [rowUp_len, List.length_append, List.length_append, List.length_take, List.length_drop, hlen]; omega
    · intro j h1 h2
      rw [rowUp_len] at h1
      rw [rowUp_at cs _ l w j h1]
      by_cases hj : k.1 * w ≤ j ∧ j < k.1 * w + w
      · rw [if_pos hj]
        have e1 : (cs.take (k.1 * w)).length = k.1 * w := by rw [List.length_take]; omega
        rw [List.getElem_append_left (by rw [List.length_append, e1, hlen]; exact hj.2), List.getElem_append_right (by rw [e1]; exact hj.1)]
        simp only [e1, ← hr, List.getElem_zipWith]
        congr 1
        · rw [List.getD_eq_getElem?_getD, List.getElem?_eq_getElem (by rw [← hh.1, hrl]; omega), Option.getD_some]
        · unfold rowAt
          rw [List.getElem_take, List.getElem_drop]
          congr 1
          omega
      · rw [if_neg hj]
        by_cases hj2 : j < k.1 * w
        · rw [List.getElem_append_left (by rw [List.length_append, List.length_take]; omega), List.getElem_append_left (by rw [List.length_take]; omega), List.getElem_take]
        · rw [List.getElem_append_right (by rw [List.length_append, List.length_take, hlen]; omega), List.getElem_drop]
          congr 1
          rw [List.length_append, List.length_take, hlen]
          omega
  · cases hr
theorem rowv_no (hS : SetIs set f val ok) {row : List C3} {l : List UInt8} {i : Nat} (hi : i < l.length) (hb : ok (l[i]'hi) = false) : rowv set row l = none := by
  rw [rowv_is hS, if_neg]
  rintro ⟨_, h⟩
  rw [List.all_eq_true] at h
  rw [h _ (List.getElem_mem hi)] at hb
  cases hb
theorem rowv_len (hS : SetIs set f val ok) {row : List C3} {l : List UInt8} (h : ¬ row.length = l.length) : rowv set row l = none := by rw [rowv_is hS, if_neg fun x => h x.1]
theorem rowv_yes (hS : SetIs set f val ok) {row : List C3} {l : List UInt8} (h : row.length = l.length) (hb : l.all ok = true) : ∃ r, rowv set row l = some r := ⟨_, by rw [rowv_is hS, if_pos ⟨h, hb⟩]⟩
end

/-- The block of the cells. -/
def CB (w : World) (G : Nat) (cs : List C3) : Prop := Blk w G (ccells cs) 44
theorem qcells_at : ∀ (cs : List C3) (i : Nat), (hi : i < cs.length) → (ccells cs)[i * 3]? = some (.int .i64 (cs[i]'hi).k) ∧ (ccells cs)[i * 3 + 1]? = some (.int .i64 (cs[i]'hi).h) ∧ (ccells cs)[i * 3 + 2]? = some (.int .i64 (cs[i]'hi).a) := by
  intro cs
  induction cs with
  | nil => intro i hi; simp at hi
  | cons c cs ih =>
    intro i hi
    cases i with
    | zero => exact ⟨rfl, rfl, rfl⟩
    | succ i =>
      have := ih i (by simpa using hi)
      rw [show (i + 1) * 3 = i * 3 + 3 by omega]
      exact this
theorem qcells_set : ∀ (cs : List C3) (i f : Nat) (x : Int), (hi : i < cs.length) → f < 3 → (ccells cs).set (i * 3 + f) (.int .i64 x) = ccells (cs.set i (updC f x (cs[i]'hi))) := by
  intro cs
  induction cs with
  | nil => intro i f x hi; simp at hi
  | cons c cs ih =>
    intro i f x hi hf
    cases i with
    | zero =>
      obtain rfl | rfl | rfl : f = 0 ∨ f = 1 ∨ f = 2 := by omega
      all_goals rfl
    | succ i =>
      have := ih i f x (by simpa using hi) hf
      rw [show (i + 1) * 3 + f = i * 3 + f + 1 + 1 + 1 by omega]
      show Value.int .i64 c.k :: Value.int .i64 c.h :: Value.int .i64 c.a :: (ccells cs).set (i * 3 + f) (.int .i64 x) = _
      rw [this]
      rfl
theorem CB.cells {w : World} {G : Nat} {cs : List C3} (h : CB w G cs) {i : Nat} (hi : i < cs.length) :
    w.cell? ⟨G, i * 3, none⟩ = some (.int .i64 (cs[i]'hi).k) ∧ w.cell? ⟨G, i * 3 + 1, none⟩ = some (.int .i64 (cs[i]'hi).h) ∧ w.cell? ⟨G, i * 3 + 2, none⟩ = some (.int .i64 (cs[i]'hi).a) := by
  obtain ⟨a, b, c⟩ := qcells_at cs i hi
  exact ⟨(h.cell _).trans a, (h.cell _).trans b, (h.cell _).trans c⟩
theorem CB.set {w : World} {G : Nat} {cs : List C3} (h : CB w G cs) {i f : Nat} (hi : i < cs.length) (hf : f < 3) (x : Int) : CB (w.setCell ⟨G, i * 3 + f, none⟩ (.int .i64 x)) G (cs.set i (updC f x (cs[i]'hi))) := by
  unfold CB
  rw [← qcells_set cs i f x hi hf]
  exact Blk.set h _ _

/-- A function that sets a cell from a character. -/
def SetOk (F : FuncId) (caps : Array Value) (f : Nat) (val : UInt8 → Int) (ok : UInt8 → Bool) (G : Nat) (P : World → Prop) : Prop :=
  ∀ (A : World) (i : Nat) (b : UInt8) (cs : List C3), P A → CB A G cs → (hi : i < cs.length) →
    Calls Tryz.prog F (#[.pointer (some ⟨G, i * 3, none⟩), .int .u8 (b.toNat : Int)] ++ caps) A fun e w' => e = .returned (.bool (ok b)) ∧ CB w' G (cs.set i (updC f (val b) (cs[i]'hi))) ∧ P w' ∧ Two G G A w'

set_option maxHeartbeats 4000000 in
set_option maxRecDepth 100000 in
/-- setRow. -/
theorem dsetrow_b (G w h : Nat) (cs : List C3) (hw : 1 ≤ w) (hw2 : w ≤ 32) (_hh : h ≤ 32) (hl : cs.length = h * w) (k : Upto h) (s : ByteArray) (_hs : s.size ≤ 32768) (F : FuncId) (caps : Array Value) (f : Nat) (val : UInt8 → Int) (ok : UInt8 → Bool) (set : C3 → UInt8 → Option C3)
    (hS : SetIs set f val ok) (P : World → Prop) (hset : SetOk F caps f val ok G P) (eF : ∀ args w, (callFunc F args).run Tryz.prog w = .ok (.enter F args) w) (hdr : ∀ A, P A → P A.drew) (W : World) (hP : P W) (hC : CB W G cs) :
    Calls Tryz.prog 103 #[chunkV G 0 w k.1, .string s, .func (.func F) #[] caps] W fun e w' => ∃ cs', e = .returned (.bool (rowv set (rowAt w cs k.1) s.data.toList).isSome) ∧ CB w' G cs' ∧ P w' ∧ Two G G W w' ∧ cs'.length = cs.length ∧ (∀ r, rowv set (rowAt w cs k.1) s.data.toList = some r → cs' = repl cs k.1 w r ∧ r.length = w) := by
  obtain ⟨o, ho⟩ : ∃ o, rowv set (rowAt w cs k.1) s.data.toList = o := ⟨_, rfl⟩
  rw [ho]
  have hrl := row_len hl k
  have hsl : s.data.toList.length = s.size := (Lib.size_eq s).symm
  unfold chunkV
  rw [Nat.zero_add]
  by_cases hn : s.size = w
  · have hko : k.1 * w + w ≤ cs.length := by
      have := Nat.mul_le_mul_right w k.2
      rw [Nat.succ_mul] at this
      omega
    have z : ((s.size : Int) == (w : Int)) = true := by rw [hn]; exact beq_self_eq_true _
    have HS := Lib.hid hset
    have HD := Lib.hid hdr
    have HO := Lib.hid ho
    clear hset hdr ho
    generalize hq : k.1 * w = q at *
    replace hq := hid hq
    go_enter Tryz.func103, Tryz.ntmps103
    go_wp2_with fail
    go_loopw [15] (fun vi wr => ∃ i : Nat, vi = .int .i64 i ∧ i ≤ w ∧ CB wr G (rowUp f val cs q s.data.toList i) ∧ P wr ∧ Two G G W wr ∧ Hid (∀ j, (hj : j < s.data.toList.length) → j < i → ok (s.data.toList[j]'hj) = true)) (fun vi _ => w - (RowKit.intOf vi).toNat)
    case atStart => exact ⟨0, rfl, by omega, hC, hP, Two.refl _ _ _, hid (fun j _ h => by omega)⟩
    case round =>
      clear hC hP
      obtain ⟨i, rfl, hi, hC, hP, hT, hG⟩ := hrel
      by_cases hlt : i < w
      · have d1 : (i : Int) < w := by omega
        have i0 : (0 : Int) ≤ i := by omega
        have hsi : i < s.size := by omega
        have d2 : (i : Int) < s.size := by omega
        have hll := rowUp_len (f := f) (val := val) cs q s.data.toList i
        have hc := HS.out wr.drew (q + i) (s[i]'hsi) _ (HD.out _ hP) hC (by rw [hll]; omega)
        rw [show (q + i) * 3 = q * 3 + i * 3 by omega] at hc
        have hsg : s.data.toList.getD i 0 = s[i]'hsi := by rw [List.getD_eq_getElem?_getD, List.getElem?_eq_getElem (by rw [hsl]; exact hsi)]; rfl
        have hup : (rowUp f val cs q s.data.toList i).set (q + i) (updC f (val (s[i]'hsi)) ((rowUp f val cs q s.data.toList i)[q + i]'(by rw [hll]; omega))) = rowUp f val cs q s.data.toList (i + 1) := by
          rw [rowUp, hsg, List.getD_eq_getElem?_getD, List.getElem?_eq_getElem (by rw [hll]; omega)]; rfl
        rw [hup] at hc
        clear hup hsg hll
        obtain ⟨b, hb⟩ : ∃ b, b = ok (s[i]'hsi) := ⟨_, rfl⟩
        rw [← hb] at hc
        replace hb := hid hb
        have HC := hid hc
        clear hc
        go_wp2_with fail
        go_region_with (first | ((with_reducible refine HC.out.mono ?_); rintro e w' ⟨rfl, hC2, hP2, hT2⟩))
        have hT3 := hT.trans ((Two.of_below (Below.refl _ wr).drew).trans hT2)
        cases b with
        | false =>
          have hno : o = none := by rw [← HO.out]; exact rowv_no hS (i := i) (by omega) hb.out.symm
          subst hno
          clear HO hb
          go_wp2_with fail
          go_ret
          exact ⟨_, rfl, hC2, hP2, hT3, rowUp_len _ _ _ _, fun r hr => by cases hr⟩
        | true =>
          have hG2 : Hid (∀ j, (hj : j < s.data.toList.length) → j < i + 1 → ok (s.data.toList[j]'hj) = true) := hid (fun j hj hji => by
            rcases Nat.lt_or_ge j i with h | h
            · exact hG.out j hj h
            · obtain rfl : j = i := by omega
              exact hb.out.symm)
          clear hG hb hT hC hP HC
          go_wp2_with fail
          go_roundw
          case rel => exact ⟨i + 1, by go_num, by omega, hC2, hP2, hT3, hG2⟩
          case measure => simp [RowKit.intOf]; omega
      · obtain rfl : w = i := by omega
        obtain ⟨r, hr⟩ := rowv_yes hS (row := rowAt w cs k.1) (l := s.data.toList) (by rw [hrl, hsl]; omega) (by
          rw [List.all_eq_true]
          intro b hb
          obtain ⟨j, hj, rfl⟩ := List.mem_iff_getElem.1 hb
          exact hG.out j hj (by omega))
        have hup := rowUp_repl hS hl k s.data.toList hr
        rw [hq.out] at hup
        rw [HO.out] at hr
        subst hr
        have HU := hid hup
        clear HO hup hG
        go_wp2_with fail
        go_ret
        exact ⟨_, rfl, hC, hP, hT, rowUp_len _ _ _ _, fun r' hr' => by cases hr'; exact HU.out⟩
  · have z : ((s.size : Int) == (w : Int)) = false := beq_eq_false_iff_ne.2 (by omega)
    have hno : o = none := by rw [← ho]; exact rowv_len hS (by rw [hrl, hsl]; omega)
    subst hno
    go_enter Tryz.func103, Tryz.ntmps103
    go_wp2_with fail
    go_ret
    exact ⟨cs, rfl, hC, hP, Two.refl _ _ _, rfl, fun r hr => by cases hr⟩

end

section
open Go.RowKit Go.Lib

theorem setK_is : SetIs setK 0 (fun b => optK (kindV b)) (fun b => (kindV b).isSome) := ⟨by decide, fun c b => by
  unfold setK
  cases kindV b with
  | none => rfl
  | some k => rfl⟩
theorem setH_is : SetIs setH 1 (fun b => (b.toNat : Int) - 48) (fun b => decide (48 ≤ b.toNat ∧ b.toNat ≤ 51)) := ⟨by decide, fun c b => by
  unfold setH highV
  by_cases h : 48 ≤ b.toNat ∧ b.toNat ≤ 51
  · rw [if_pos h, if_pos (decide_eq_true h)]; rfl
  · rw [if_neg h, if_neg (by simpa using h)]; rfl⟩
/-- What is asked for the kinds: the map of characters in its box. -/
def KindBox (bx bm : Nat) (A : World) : Prop := A.cell? ⟨bx, 0, none⟩ = some (.map (some bm)) ∧ KindMap A bm
theorem KindBox.below {bx bm : Nat} {A w' : World} (h : KindBox bx bm A) (hb : Below A.heap.size A w') : KindBox bx bm w' :=
  ⟨(hb.cell (World.block_lt_of_cell? A _ h.1)).trans h.1, h.2.below hb⟩
theorem kind_map_two {w w' : World} {b R G : Nat} (h : KindMap w b) (k : Two R G w w') (hR : b ≠ R) (hG : b ≠ G) : KindMap w' b := by
  have h' : w.ownsMap Tryz.prog 3 (plainElem (H := Unit) Tryz.prog 5) b 5 kindD := h
  have hlt := h'.lt
  obtain ⟨es, clock, hh, F, hs, hD⟩ := h'
  exact ⟨es, clock, (k.block b hlt hR hG).trans hh, F, hs, hD⟩
theorem KindBox.two {bx bm R G : Nat} {A w' : World} (h : KindBox bx bm A) (k : Two R G A w') (h1 : bx ≠ R) (h2 : bx ≠ G) (h3 : bm ≠ R) (h4 : bm ≠ G) : KindBox bx bm w' :=
  ⟨(World.cell?_of_block (w := A) (a := ⟨bx, 0, none⟩) (k.block bx (World.block_lt_of_cell? A _ h.1) h1 h2)).trans h.1, kind_map_two h.2 k h3 h4⟩

set_option maxHeartbeats 1000000 in
theorem dkinds1_b (G bx bm : Nat) (h1 : bx ≠ G) (h2 : bm ≠ G) : SetOk 76 #[.pointer (some ⟨bx, 0, none⟩)] 0 (fun b => optK (kindV b)) (fun b => (kindV b).isSome) G (KindBox bx bm) := by
  intro A i b cs hP hC hi
  dsimp only
  obtain ⟨o, ho⟩ : ∃ o, Hid (o = kindV b) := ⟨_, hid rfl⟩
  rw [← ho.out]
  obtain ⟨c0, -, -⟩ := hC.cells hi
  have hx := hP.1
  have hk := hP.2
  go_enter Tryz.func76, Tryz.ntmps76
  go_wp2_with fail
  ((with_reducible refine (dkindOf_b bm b o _ hk ho).mono ?_); rintro e w1 ⟨rfl, hb⟩)
  have hC1 : CB w1 G cs := Blk.below hC hb
  obtain ⟨d0, -, -⟩ := hC1.cells hi
  have f0 := Blk.frozen hC1 (i * 3)
  go_wp2_with fail
  go_ret
  have hC2 := hC1.set (f := 0) hi (by decide) (optK o)
  have hT := (Two.of_below (R := G) (G := G) hb).trans (Two.set (R := G) (G := G) w1 ⟨G, i * 3 + 0, none⟩ (.int .i64 (optK o)) (.inl rfl))
  exact ⟨rfl, hC2, hP.two hT h1 h1 h2 h2, hT⟩

set_option maxHeartbeats 1000000 in
theorem dheights1_b (G : Nat) : SetOk 78 #[] 1 (fun b => (b.toNat : Int) - 48) (fun b => decide (48 ≤ b.toNat ∧ b.toNat ≤ 51)) G (fun _ => True) := by
  intro A i b cs _ hC hi
  dsimp only
  obtain ⟨-, c0, -⟩ := hC.cells hi
  have f0 := Blk.frozen hC (i * 3 + 1)
  have hC2 := hC.set (f := 1) hi (by decide) ((b.toNat : Int) - 48)
  have hT := Two.set (R := G) (G := G) A ⟨G, i * 3 + 1, none⟩ (.int .i64 ((b.toNat : Int) - 48)) (.inl rfl)
  have hlt : b.toNat < 256 := b.toNat_lt
  generalize hn : b.toNat = n at *
  clear hn
  have w1 : IntKind.i64.wrap (n : Int) = n := by simp [IntKind.wrap, IntKind.signed, IntKind.bits]; omega
  have w2 : IntKind.i64.wrap ((n : Int) - 48) = (n : Int) - 48 := by simp [IntKind.wrap, IntKind.signed, IntKind.bits]; omega
  by_cases h1 : 48 ≤ n
  · have z1 : (0 : Int) ≤ (n : Int) - 48 := by omega
    by_cases h2 : n ≤ 51
    · have z2 : (n : Int) - 48 ≤ 3 := by omega
      rw [decide_eq_true (show 48 ≤ n ∧ n ≤ 51 from ⟨h1, h2⟩)]
      clear h1 h2
      go_enter Tryz.func78, Tryz.ntmps78
      go_wp2_with fail
      go_ret
      first | exact ⟨rfl, hC2, trivial, hT⟩ | exact ⟨rfl, hC2, hT⟩ | exact ⟨hC2, hT⟩
    · have z2 : ¬ (n : Int) - 48 ≤ 3 := by omega
      rw [decide_eq_false (show ¬ (48 ≤ n ∧ n ≤ 51) from fun h => h2 h.2)]
      clear h1 h2
      go_enter Tryz.func78, Tryz.ntmps78
      go_wp2_with fail
      go_ret
      first | exact ⟨rfl, hC2, trivial, hT⟩ | exact ⟨rfl, hC2, hT⟩ | exact ⟨hC2, hT⟩
  · have z1 : ¬ (0 : Int) ≤ (n : Int) - 48 := by omega
    rw [decide_eq_false (show ¬ (48 ≤ n ∧ n ≤ 51) from fun h => h1 h.1)]
    clear h1
    go_enter Tryz.func78, Tryz.ntmps78
    go_wp2_with fail
    go_ret
    first | exact ⟨rfl, hC2, trivial, hT⟩ | exact ⟨rfl, hC2, hT⟩ | exact ⟨hC2, hT⟩

set_option maxHeartbeats 1000000 in
/-- One line of a row, for the function that was made of the row and of what sets a cell. -/
theorem drows1_b (G w h : Nat) (cs : List C3) (hw : 1 ≤ w) (hw2 : w ≤ 32) (hh : h ≤ 32) (hl : cs.length = h * w) (k : Upto h) (s : ByteArray) (hs : s.size ≤ 32768) (F : FuncId) (caps : Array Value) (f : Nat) (val : UInt8 → Int) (ok : UInt8 → Bool) (set : C3 → UInt8 → Option C3)
    (hS : SetIs set f val ok) (P : World → Prop) (hset : SetOk F caps f val ok G P) (eF : ∀ args w, (callFunc F args).run Tryz.prog w = .ok (.enter F args) w) (hdr : ∀ A, P A → P A.drew) (W : World) (hP : P W) (hC : CB W G cs)
    (b5 b3 : Nat) (h5 : W.cell? ⟨b5, 0, none⟩ = some (chunkV G 0 w k.1)) (h3 : W.cell? ⟨b3, 0, none⟩ = some (.func (.func F) #[] caps)) :
    Calls Tryz.prog 102 #[.string s, .pointer (some ⟨b5, 0, none⟩), .pointer (some ⟨b3, 0, none⟩)] W fun e w' => ∃ cs', e = .returned (.bool (rowv set (rowAt w cs k.1) s.data.toList).isSome) ∧ CB w' G cs' ∧ P w' ∧ Two G G W w' ∧ cs'.length = cs.length ∧ (∀ r, rowv set (rowAt w cs k.1) s.data.toList = some r → cs' = repl cs k.1 w r ∧ r.length = w) := by
  have hc := dsetrow_b G w h cs hw hw2 hh hl k s hs F caps f val ok set hS P hset eF hdr W hP hC
  obtain ⟨o, ho⟩ : ∃ o, rowv set (rowAt w cs k.1) s.data.toList = o := ⟨_, rfl⟩
  rw [ho] at hc ⊢
  unfold chunkV at h5 hc
  rw [Nat.zero_add] at h5 hc
  have HC := hid hc
  clear hc ho hset eF hdr hS hP hC
  go_enter Tryz.func102, Tryz.ntmps102
  go_wp2_with fail
  ((with_reducible refine HC.out.mono ?_); rintro e w1 ⟨cs', rfl, g1, g2, g3, g4, g5⟩)
  have G5 := hid g5
  clear g5
  go_wp2_with fail
  go_ret
  exact ⟨cs', rfl, g1, g2, g3, g4, G5.out⟩

end

section
open Go.RowKit Go.Lib

def stepR (set : C3 → UInt8 → Option C3) (w : Nat) (st : Option (List C3 × List (List UInt8))) (k : Nat) : Option (List C3 × List (List UInt8)) :=
  match st with
  | none => none
  | some (_, []) => none
  | some (cs, l :: ls) => (rowv set (rowAt w cs k) l).map fun r => (repl cs k w r, ls)
def foldR {h : Nat} (set : C3 → UInt8 → Option C3) (w : Nat) (cs : List C3) (ls : List (List UInt8)) (pre : List (Upto h)) : Option (List C3 × List (List UInt8)) := pre.foldl (fun st k => stepR set w st k.1) (some (cs, ls))
theorem foldR_snoc {h : Nat} (set : C3 → UInt8 → Option C3) (w : Nat) (cs : List C3) (ls : List (List UInt8)) (pre : List (Upto h)) (x : Upto h) : foldR set w cs ls (pre ++ [x]) = stepR set w (foldR set w cs ls pre) x.1 := by
  unfold foldR; rw [List.foldl_append]; rfl
theorem rows_take {set : C3 → UInt8 → Option C3} {w h : Nat} {cs : List C3} (hl : cs.length = h * w) (hlen : ∀ row l r, rowv set row l = some r → r.length = row.length) {ls : List (List UInt8)} : ∀ k, k ≤ h → ∀ cs' ls', foldR (h := h) set w cs ls (firsts h k) = some (cs', ls') →
    cs'.length = h * w ∧ rowsv set w h [] cs ls = rowsv set w (h - k) (cs'.take (k * w)) (cs'.drop (k * w)) ls' := by
  intro k
  induction k with
  | zero =>
    intro _ cs' ls' he
    cases (show some (cs, ls) = some (cs', ls') from he)
    refine ⟨hl, ?_⟩
    rw [Nat.zero_mul, List.take_zero, List.drop_zero, Nat.sub_zero]
  | succ k ih =>
    intro hk cs' ls' he
    rw [firsts_succ (by omega), foldR_snoc] at he
    cases hf : foldR (h := h) set w cs ls (firsts h k) with
    | none => rw [hf] at he; cases he
    | some p =>
      obtain ⟨c1, l1⟩ := p
      rw [hf] at he
      obtain ⟨i1, i2⟩ := ih (by omega) c1 l1 hf
      cases l1 with
      | nil => cases he
      | cons l l1 =>
        unfold stepR at he
        simp only at he
        cases hr : rowv set (rowAt w c1 k) l with
        | none => rw [hr] at he; cases he
        | some r =>
          rw [hr] at he
          cases (show some (repl c1 k w r, l1) = some (cs', ls') from he)
          have hrl : r.length = w := (hlen _ _ _ hr).trans (row_len i1 ⟨k, by omega⟩)
          have hkw : (k + 1) * w ≤ h * w := Nat.mul_le_mul_right w hk
          rw [Nat.succ_mul] at hkw
          have e1 : (c1.take (k * w)).length = k * w := by rw [List.length_take]; omega
          have t1 : (repl c1 k w r).take ((k + 1) * w) = c1.take (k * w) ++ r := by
            unfold repl
            exact List.take_left' (by rw [List.length_append, e1, hrl, Nat.succ_mul])
          have t2 : (repl c1 k w r).drop ((k + 1) * w) = c1.drop ((k + 1) * w) := by
            unfold repl
            exact List.drop_left' (by rw [List.length_append, e1, hrl, Nat.succ_mul])
          refine ⟨by unfold repl; rw [List.length_append, List.length_append, e1, hrl, List.length_drop, Nat.succ_mul]; omega, ?_⟩
          rw [i2, t1, t2, show h - k = (h - (k + 1)) + 1 by omega, rowsv, show (c1.drop (k * w)).take w = rowAt w c1 k from rfl, hr]
          simp only
          rw [List.drop_drop, Nat.succ_mul]
theorem rows_all {set : C3 → UInt8 → Option C3} {w h : Nat} {cs cs' : List C3} {ls ls' : List (List UInt8)} (hl : cs.length = h * w) (hlen : ∀ row l r, rowv set row l = some r → r.length = row.length) (he : foldR (h := h) set w cs ls (firsts h h) = some (cs', ls')) : rowsv set w h [] cs ls = .ok cs' ls' := by
  obtain ⟨h1, h2⟩ := rows_take hl hlen h (Nat.le_refl _) cs' ls' he
  rw [h2, Nat.sub_self, rowsv, List.take_append_drop]
theorem rows_cut {set : C3 → UInt8 → Option C3} {w h : Nat} {cs cs' : List C3} {ls : List (List UInt8)} (hl : cs.length = h * w) (hlen : ∀ row l r, rowv set row l = some r → r.length = row.length) {k : Nat} (hk : k < h) (he : foldR (h := h) set w cs ls (firsts h k) = some (cs', [])) : rowsv set w h [] cs ls = .cut := by
  obtain ⟨h1, h2⟩ := rows_take hl hlen k (by omega) cs' [] he
  rw [h2, show h - k = (h - (k + 1)) + 1 by omega, rowsv]
theorem rows_bad {set : C3 → UInt8 → Option C3} {w h : Nat} {cs cs' : List C3} {ls ls' : List (List UInt8)} {l : List UInt8} (hl : cs.length = h * w) (hlen : ∀ row l r, rowv set row l = some r → r.length = row.length) {k : Nat} (hk : k < h) (he : foldR (h := h) set w cs ls (firsts h k) = some (cs', l :: ls')) (hr : rowv set (rowAt w cs' k) l = none) :
    rowsv set w h [] cs ls = .bad (l :: ls') := by
  obtain ⟨h1, h2⟩ := rows_take hl hlen k (by omega) cs' (l :: ls') he
  rw [h2, show h - k = (h - (k + 1)) + 1 by omega, rowsv, show (cs'.drop (k * w)).take w = rowAt w cs' k from rfl, hr]
theorem rowv_keeps {f : Nat} {val : UInt8 → Int} {ok : UInt8 → Bool} {set : C3 → UInt8 → Option C3} (hS : SetIs set f val ok) : ∀ row l r, rowv set row l = some r → r.length = row.length := by
  intro row l r hr
  rw [rowv_is hS] at hr
  split at hr
  · rename_i hh
    injection hr with hr
    rw [← hr, List.length_zipWith, ← hh.1, Nat.min_self]
  · cases hr

/-- The reader's block: a text, the line, a name, a map, starts. -/
def RdAt (V : World) (R : Nat) (rest : ByteArray) (line : Int) (nm : Value) (w h : Nat) (sc ss : Value) : Prop := Blk V R (RdV rest line [nm, .int .i64 w, .int .i64 h, sc, ss]) 68
/-- How things stand between rows. -/
structure RowsIn {hh : Nat} (R G n0 : Nat) (set : C3 → UInt8 → Option C3) (w : Nat) (nm sf ss : Value) (N : Nat) (cs : List C3) (rest : ByteArray) (W : World) (pre : List (Upto hh)) (cs' : List C3) (r' : ByteArray) (V : World) : Prop where
  fold : foldR set w cs (linesB rest.data.toList) pre = some (cs', linesB r'.data.toList)
  len : cs'.length = hh * w
  small : r'.size ≤ 32768
  tail : tailB r'.data.toList = tailB rest.data.toList
  lines : (linesB r'.data.toList).length ≤ N
  rd : RdAt V R r' ((N - (linesB r'.data.toList).length : Nat) : Int) nm w hh (.slice (some ⟨G, 0, none⟩) (hh * w) (hh * w)) ss
  cb : CB V G cs'
  two : Two R G W V
  b2 : Blk V n0 [.pointer (some ⟨R, 0, none⟩)] 94
  b3 : Blk V (n0 + 1) [sf] 106
  b4 : Blk V (n0 + 1 + 1) [.int .i64 0] 30
/-- .. where a row could not be read. -/
structure RowsNo {hh : Nat} (R G n0 : Nat) (set : C3 → UInt8 → Option C3) (w : Nat) (N : Nat) (cs : List C3) (rest : ByteArray) (W : World) (pre : List (Upto hh)) (V : World) : Prop where
  ex : ∃ (p : List (Upto hh)) (x : Upto hh) (cs' : List C3) (ls' : List (List UInt8)) (err : Int), pre = p ++ [x] ∧ foldR set w cs (linesB rest.data.toList) p = some (cs', ls') ∧ ((ls' = [] ∧ err = 4) ∨ (∃ l l2, ls' = l :: l2 ∧ rowv set (rowAt w cs' x.1) l = none ∧ err = 5)) ∧
    V.cell? ⟨R, 1, none⟩ = some (.int .i64 ((N - ls'.length + 1 : Nat) : Int)) ∧ Blk V (n0 + 1 + 1) [.int .i64 err] 30
  two : Two R G W V

end

section
open Go.RowKit Go.Lib Go.Shelf

attribute [local go_sem] Oper.semAt_some
theorem Blk.other_row {W W' : World} {row : Option Nat} {b : Nat} {vs : List Value} {t : TypeId} (h : Blk W b vs t) (hg : W.grownBy W' row) (hr : ∀ r, row = some r → ∃ o : Obj, W.heap[r]? = some o ∧ o.isCells = false) : Blk W' b vs t := by
  refine (hg.block b h.lt (fun e => ?_)).trans h
  obtain ⟨o, ho, hc⟩ := hr b e.symm
  rw [show W.heap[b]? = _ from h] at ho
  cases ho; cases hc
theorem Two.row {R G B : Nat} {W V V' : World} {row : Option Nat} (h : Two R G W V) (hg : V.grownBy V' row) (hB : W.heap.size ≤ B) (hr : ∀ r, row = some r → B ≤ r) : Two R G W V' :=
  ⟨hg.os.trans h.os, hg.tape.trans h.tape, hg.output.trans h.output, Nat.le_trans h.size hg.size, fun k hk hR hG => (hg.block k (Nat.lt_of_lt_of_le hk h.size) (fun e => by have := hr k e.symm; omega)).trans (h.block k hk hR hG)⟩
section
variable {hh R G n0 w N : Nat} {set : C3 → UInt8 → Option C3} {nm sf ss : Value} {cs : List C3} {rest : ByteArray} {W : World} {pre : List (Upto hh)} {cs' : List C3} {r' : ByteArray} {V : World}
theorem RowsIn.row {B : Nat} {V' : World} {row : Option Nat} (h : RowsIn R G n0 set w nm sf ss N cs rest W pre cs' r' V) (hg : V.grownBy V' row) (hB : W.heap.size ≤ B) (hr : ∀ r, row = some r → B ≤ r ∧ ∃ o : Obj, V.heap[r]? = some o ∧ o.isCells = false) : RowsIn R G n0 set w nm sf ss N cs rest W pre cs' r' V' :=
  ⟨h.fold, h.len, h.small, h.tail, h.lines, Blk.other_row h.rd hg (fun r e => (hr r e).2), Blk.other_row h.cb hg (fun r e => (hr r e).2), h.two.row hg hB (fun r e => (hr r e).1), Blk.other_row h.b2 hg (fun r e => (hr r e).2), Blk.other_row h.b3 hg (fun r e => (hr r e).2), Blk.other_row h.b4 hg (fun r e => (hr r e).2)⟩
theorem RowsNo.row {B : Nat} {V' : World} {row : Option Nat} (h : RowsNo (hh := hh) R G n0 set w N cs rest W pre V) (hg : V.grownBy V' row) (hB : W.heap.size ≤ B) (hr : ∀ r, row = some r → B ≤ r ∧ ∃ o : Obj, V.heap[r]? = some o ∧ o.isCells = false) : RowsNo (hh := hh) R G n0 set w N cs rest W pre V' := by
  obtain ⟨⟨p, x, c, l, err, e1, e2, e3, e4, e5⟩, ht⟩ := h
  refine ⟨⟨p, x, c, l, err, e1, e2, e3, ?_, Blk.other_row e5 hg (fun r e => (hr r e).2)⟩, ht.row hg hB (fun r e => (hr r e).1)⟩
  have hlt := World.block_lt_of_cell? V _ e4
  refine (World.cell?_of_block (w := V) (a := ⟨R, 1, none⟩) (hg.block R hlt (fun e => ?_))).trans e4
  obtain ⟨o, ho, hc⟩ := (hr R e.symm).2
  unfold World.cell? at e4
  simp only at e4
  rw [ho] at e4
  cases o <;> simp_all [Obj.isCells]
end
theorem Two.left {R G : Nat} {a b : World} (h : Two R R a b) : Two R G a b := ⟨h.os, h.tape, h.output, h.size, fun k hk hR _ => h.block k hk hR hR⟩
theorem Two.right {R G : Nat} {a b : World} (h : Two G G a b) : Two R G a b := ⟨h.os, h.tape, h.output, h.size, fun k hk _ hG => h.block k hk hG hG⟩
theorem Two.keeps {R G B : Nat} {a b : World} (h : Two R G a b) (hR : R < B) (hG : G < B) : KeepsFrom B a b := ⟨h.size, fun k o hk ho _ => (h.block k (Array.getElem?_eq_some_iff.1 ho).1 (by omega) (by omega)).trans ho⟩
theorem Boxed.two_ {w w' : World} {R G b : Nat} {v : Value} {t : TypeId} (h : Boxed w b t v) (k : Two R G w w') (hR : b ≠ R) (hG : b ≠ G) : Boxed w' b t v := (k.block b h.lt hR hG).trans h
theorem Two.later {R G b : Nat} {W w' : World} (h : Two R G W w') (hb : W.heap.size ≤ b) (i : Nat) (x : Value) : Two R G W (w'.setCell ⟨b, i, none⟩ x) := by
  have k := (Below.refl 0 w').setCell (p := ⟨b, i, none⟩) (Nat.zero_le _) x
  exact ⟨k.os.trans h.os, k.tape.trans h.tape, k.output.trans h.output, Nat.le_trans h.size k.size, fun j hj hR hG => (Below.heap_setCell w' _ x j (show j ≠ b by omega)).trans (h.block j hj hR hG)⟩
/-- What is left where a row could not be read. -/
theorem rows_stop {hh R G n0 w N B : Nat} {set : C3 → UInt8 → Option C3} {nm sf ss : Value} {cs : List C3} {rest : ByteArray} {W : World} {pre : List (Upto hh)} {cs' : List C3} {r' : ByteArray} {V w' : World} (hi : RowsIn R G n0 set w nm sf ss N cs rest W pre cs' r' V) (x : Upto hh) (err line : Int)
    (hR : R < n0) (hG : G < n0) (hn : W.heap.size ≤ n0) (hB : n0 + 1 + 1 < B) (hT : Two R G V w') (hcl : w'.cell? ⟨R, 1, none⟩ = some (.int .i64 (line + 1))) (hline : line = ((N - (linesB r'.data.toList).length : Nat) : Int))
    (he : ((linesB r'.data.toList) = [] ∧ err = 4) ∨ (∃ l l2, (linesB r'.data.toList) = l :: l2 ∧ rowv set (rowAt w cs' x.1) l = none ∧ err = 5)) :
    KeepsFrom B V (w'.setCell ⟨n0 + 1 + 1, 0, none⟩ (.int .i64 err)) ∧ Code.ret = Code.ret ∧ RowsNo (hh := hh) R G n0 set w N cs rest W (pre ++ [x]) (w'.setCell ⟨n0 + 1 + 1, 0, none⟩ (.int .i64 err)) := by
  refine ⟨(hT.keeps (by omega) (by omega)).trans (KeepsFrom.of_grownBy (grownBy_setCell' w' _ _) (fun j e => by cases e; exact hB)), rfl, ⟨⟨pre, x, cs', _, err, rfl, hi.fold, he, ?_, ?_⟩, (hi.two.trans hT).later (by omega) _ _⟩⟩
  · rw [World.cell?_setCell_far _ _ _ _ (show n0 + 1 + 1 ≠ R by omega), hcl, hline]
    congr 2
  · exact (Blk.two_ hi.b4 hT (by omega) (by omega)).set 0 (.int .i64 err)
/-- What is left behind a row that was read. -/
theorem rows_next {hh R G n0 w N B Bs Bn : Nat} {set : C3 → UInt8 → Option C3} {nm sf ss vS vN : Value} {tS tN : TypeId} {cs : List C3} {rest : ByteArray} {W : World} {pre : List (Upto hh)} {cs' : List C3} {r' : ByteArray} {V w2 : World} (hi : RowsIn R G n0 set w nm sf ss N cs rest W pre cs' r' V) (x : Upto hh) (line : Int)
    (hR : R < n0) (hG : G < n0) (hn : W.heap.size ≤ n0) (hB : n0 + 1 + 1 < B) (hRW : R < W.heap.size) (hT : Two R G V w2) (hRG : R ≠ G) (hline : line = ((N - (linesB r'.data.toList).length : Nat) : Int)) (l : List UInt8) (yr : ByteArray) (hys : yr.size ≤ 32768)
    (hls : linesB r'.data.toList = l :: linesB yr.data.toList) (hta : tailB r'.data.toList = tailB yr.data.toList) (r c2 : List C3) (hr : rowv set (rowAt w cs' x.1) l = some r) (hc2 : c2 = repl cs' x.1 w r) (hrl : r.length = w) (hCB : CB w2 G c2)
    (hrd : Blk w2 R (RdV r' (line + 1) [nm, .int .i64 w, .int .i64 hh, .slice (some ⟨G, 0, none⟩) (hh * w) (hh * w), ss]) 68)
    (hs : Boxed V Bs tS vS) (hb : Boxed V Bn tN vN) (hs1 : n0 < Bs) (hb1 : n0 < Bn) :
    KeepsFrom B V (w2.setCell ⟨R, 0, none⟩ (.string yr)) ∧ KeepTwo Bs Bn V (w2.setCell ⟨R, 0, none⟩ (.string yr)) ∧ ((∃ cs' r', RowsIn R G n0 set w nm sf ss N cs rest W (pre ++ [x]) cs' r' (w2.setCell ⟨R, 0, none⟩ (.string yr))) ∧ Boxed (w2.setCell ⟨R, 0, none⟩ (.string yr)) Bs tS vS ∧ Boxed (w2.setCell ⟨R, 0, none⟩ (.string yr)) Bn tN vN) := by
  have hT2 : Two R G V (w2.setCell ⟨R, 0, none⟩ (.string yr)) := hT.trans (Two.set w2 _ _ (.inl rfl))
  have s1 := Boxed.two_ hs hT2 (by omega) (by omega)
  have s2 := Boxed.two_ hb hT2 (by omega) (by omega)
  have hln := hi.lines
  rw [hls] at hln hline
  simp only [List.length_cons] at hln hline
  refine ⟨hT2.keeps (by omega) (by omega), ⟨Eq.trans s1 (Eq.symm hs), Eq.trans s2 (Eq.symm hb)⟩, ⟨c2, yr, ⟨?_, ?_, hys, hta.symm.trans hi.tail, by omega, ?_, hCB.far (.string yr) (Ne.symm hRG), hi.two.trans hT2, Blk.two_ hi.b2 hT2 (by omega) (by omega), Blk.two_ hi.b3 hT2 (by omega) (by omega), Blk.two_ hi.b4 hT2 (by omega) (by omega)⟩⟩, s1, s2⟩
  · rw [foldR_snoc, hi.fold, hls]
    unfold stepR
    simp only
    rw [hr, hc2]
    rfl
  · have hk : (x.1 + 1) * w ≤ hh * w := Nat.mul_le_mul_right w x.2
    rw [hc2]
    unfold repl
    rw [List.length_append, List.length_append, List.length_take, List.length_drop, hrl, hi.len]
    rw [Nat.succ_mul] at hk ⊢
    omega
  · have := hrd.set 0 (.string yr)
    rw [hline] at this
    rw [show ((N - (linesB yr.data.toList).length : Nat) : Int) = ((N - ((linesB yr.data.toList).length + 1) : Nat) : Int) + 1 by omega]
    exact this
theorem dchunk_b (p : Option Addr) (len cap : Nat) (w : Int) (h1 : 1 ≤ w) (W : World) :
    Calls Tryz.prog 58 #[.slice p len cap, .int .i64 w] W fun e w' => e = .returned (.func (.func 89) #[] #[.pointer (some ⟨W.heap.size, 0, none⟩), .pointer (some ⟨W.heap.size + 1, 0, none⟩)]) ∧
      w' = (W.alloc (.cells #[.slice p len cap] 22)).alloc (.cells #[.int .i64 w] 3) := callsIn_wide.1 (chunk_in 0 p len cap w h1 W)

set_option maxRecDepth 100000 in
set_option maxHeartbeats 8000000 in
theorem drowsP_b (R G w h : Nat) (cs : List C3) (rest : ByteArray) (nm ss : Value) (N : Nat) (hw : 1 ≤ w) (hw2 : w ≤ 32) (hh : h ≤ 32) (hl : cs.length = h * w) (W : World) (hE : EnvM W) (h30 : 12 ≤ R) (g30 : 12 ≤ G) (hRG : R ≠ G) (hs : rest.size ≤ 32768) (hN : (linesB rest.data.toList).length ≤ N) (hN2 : N ≤ 100000)
    (hR : RdAt W R rest ((N - (linesB rest.data.toList).length : Nat) : Int) nm w h (.slice (some ⟨G, 0, none⟩) (h * w) (h * w)) ss) (hC : CB W G cs)
    (F : FuncId) (caps : Array Value) (f : Nat) (val : UInt8 → Int) (ok : UInt8 → Bool) (set : C3 → UInt8 → Option C3) (hS : SetIs set f val ok) (P : World → Prop) (hP : P W) (hset : SetOk F caps f val ok G P) (hst : ∀ A A', P A → Two R G A A' → P A')
    (eF : ∀ args w, (callFunc F args).run Tryz.prog w = .ok (.enter F args) w) :
    Calls Tryz.prog 75 #[.pointer (some ⟨R, 0, none⟩), .func (.func F) #[] caps] W fun e w' => Two R G W w' ∧
      ((∃ cs' r', e = .returned (.int .i64 0) ∧ rowsv set w h [] cs (linesB rest.data.toList) = .ok cs' (linesB r'.data.toList) ∧ cs'.length = h * w ∧ r'.size ≤ 32768 ∧ tailB r'.data.toList = tailB rest.data.toList ∧ (linesB r'.data.toList).length ≤ N ∧
          RdAt w' R r' ((N - (linesB r'.data.toList).length : Nat) : Int) nm w h (.slice (some ⟨G, 0, none⟩) (h * w) (h * w)) ss ∧ CB w' G cs') ∨
       (∃ err ls', e = .returned (.int .i64 err) ∧ ((rowsv set w h [] cs (linesB rest.data.toList) = .cut ∧ ls' = 0 ∧ err = 4) ∨ (∃ l2, rowsv set w h [] cs (linesB rest.data.toList) = .bad l2 ∧ ls' = l2.length ∧ err = 5)) ∧ w'.cell? ⟨R, 1, none⟩ = some (.int .i64 ((N - ls' + 1 : Nat) : Int)))) := by
  refine (callsIn_wide (n := 9)).1 ?_
  refine callsIn_of_wp_marks Tryz.func75 rfl trivial ?_ rfl
  simp only [Tryz.ntmps75, List.size_toArray, List.length_cons, List.length_nil, Nat.reduceAdd, Nat.reduceSub, Array.replicate_succ, Array.replicate_zero, List.push_toArray, List.append_toArray, List.nil_append, List.cons_append]
  have hw1 : (1 : Int) ≤ w := by omega
  have hLR : R < W.heap.size := Blk.lt hR
  have hLG : G < W.heap.size := Blk.lt hC
  have HS := Lib.hid hset
  have HP := Lib.hid hP
  have HST := Lib.hid hst
  have HI := Lib.hid hS
  clear hset hP hst hS
  have b2 := ((Blk.new W [.pointer (some ⟨R, 0, none⟩)] 94).alloc (.cells #[Value.func (.func F) #[] caps] 106)).alloc (.cells #[.int .i64 0] 30)
  have b3 := ((Blk.new (W.alloc (.cells #[.pointer (some ⟨R, 0, none⟩)] 94)) [.func (.func F) #[] caps] 106).at (World.size_alloc _ _)).alloc (.cells #[.int .i64 0] 30)
  have b4 := (Blk.new ((W.alloc (.cells #[.pointer (some ⟨R, 0, none⟩)] 94)).alloc (.cells #[Value.func (.func F) #[] caps] 106)) [.int .i64 0] 30).at ((World.size_alloc _ _).trans (congrArg (· + 1) (World.size_alloc _ _)))
  have L0 := (((Below.refl W.heap.size W).alloc (Nat.le_refl _) (.cells #[.pointer (some ⟨R, 0, none⟩)] 94)).alloc (by simp) (.cells #[Value.func (.func F) #[] caps] 106)).alloc (by simp; omega) (.cells #[.int .i64 0] 30)
  gi_wp2
  have hsz : (((W.alloc (.cells #[.pointer (some ⟨R, 0, none⟩)] 94)).alloc (.cells #[Value.func (.func F) #[] caps] 106)).alloc (.cells #[.int .i64 0] 30)).heap.size = W.heap.size + 1 + 1 + 1 := by simp
  generalize (((W.alloc (.cells #[.pointer (some ⟨R, 0, none⟩)] 94)).alloc (.cells #[Value.func (.func F) #[] caps] 106)).alloc (.cells #[.int .i64 0] 30)) = U at *
  have hRU : RdAt U R rest ((N - (linesB rest.data.toList).length : Nat) : Int) nm w h (.slice (some ⟨G, 0, none⟩) (h * w) (h * w)) ss := Blk.under hR L0 hLR
  have hCU : CB U G cs := Blk.under hC L0 hLG
  have d0 := b2.cell 0
  have d5 := Blk.cell hRU 5
  have d3 := Blk.cell hRU 3
  simp only [RdV, List.getElem?_cons_zero, List.getElem?_cons_succ] at d0 d5 d3
  have hS0 : U.drew.cell? ⟨W.heap.size, 0, none⟩ = some (.pointer (some ⟨R, 0, none⟩)) ∧ U.drew.cell? ⟨R, 5, none⟩ = some (.slice (some ⟨G, 0, none⟩) (h * w) (h * w)) ∧ U.drew.cell? ⟨R, 3, none⟩ = some (.int .i64 w) := ⟨d0, d5, d3⟩
  refine wpIn_wide.2 ?_
  go_region_held3 (fun w' => w'.cell? ⟨W.heap.size, 0, none⟩ = some (.pointer (some ⟨R, 0, none⟩)) ∧ w'.cell? ⟨R, 5, none⟩ = some (.slice (some ⟨G, 0, none⟩) (h * w) (h * w)) ∧ w'.cell? ⟨R, 3, none⟩ = some (.int .i64 w))
    (first | exact hS0 | go_keep)
    (first | (go_at_call 58; with_reducible refine (dchunk_b _ _ _ _ hw1 _).mono ?_; rintro e w' ⟨rfl, rfl⟩))
  clear hS0 d0 d3 d5
  rename_i hH
  clear hH
  have cS := (Boxed.new U 22 (.slice (some ⟨G, 0, none⟩) (h * w) (h * w))).alloc (.cells #[.int .i64 w] 3)
  have cN := Boxed.new (U.alloc (.cells #[Value.slice (some ⟨G, 0, none⟩) (h * w) (h * w)] 22)) 3 (.int .i64 w)
  rw [World.size_alloc] at cN
  have hUV := ((Below.refl U.heap.size U).alloc (Nat.le_refl _) (.cells #[Value.slice (some ⟨G, 0, none⟩) (h * w) (h * w)] 22)).alloc (by simp) (.cells #[.int .i64 w] 3)
  have hs2 : ((U.alloc (.cells #[Value.slice (some ⟨G, 0, none⟩) (h * w) (h * w)] 22)).alloc (.cells #[.int .i64 w] 3)).heap.size = U.heap.size + 1 + 1 := by simp
  rw [hsz] at cS cN hs2
  gi_wp2
  generalize ((U.alloc (.cells #[Value.slice (some ⟨G, 0, none⟩) (h * w) (h * w)] 22)).alloc (.cells #[.int .i64 w] 3)) = V00 at *
  replace cS : Boxed V00.drew (W.heap.size + 1 + 1 + 1) 22 (.slice (some ⟨G, 0, none⟩) (h * w) (h * w)) := cS
  replace cN : Boxed V00.drew (W.heap.size + 1 + 1 + 1 + 1) 3 (.int .i64 w) := cN
  replace hUV := hUV.drew
  replace hs2 : V00.drew.heap.size = W.heap.size + 1 + 1 + 1 + 1 + 1 := hs2
  generalize V00.drew = V0 at *
  have hRV : RdAt V0 R rest ((N - (linesB rest.data.toList).length : Nat) : Int) nm w h (.slice (some ⟨G, 0, none⟩) (h * w) (h * w)) ss := Blk.below hRU hUV
  have hIn : RowsIn (hh := h) R G W.heap.size set w nm (.func (.func F) #[] caps) ss N cs rest W [] cs rest V0 :=
    ⟨rfl, hl, hs, rfl, hN, hRV, Blk.below hCU hUV, Two.of_below (below_call L0 hUV), b2.below hUV, b3.below hUV, b4.below hUV⟩
  clear b2 b3 b4 hRU hCU hRV hR hC hUV
  refine wpIn_rangeFunc_ownH (w0 := V0) rfl (by omega) (gf := 89) (lb := #[.pointer (some ⟨W.heap.size + 1 + 1 + 1, 0, none⟩), .pointer (some ⟨W.heap.size + 1 + 1 + 1 + 1, 0, none⟩)]) rfl trivial (enters_of Tryz.func89 (by kernel_rfl) rfl)
    (chunk_stops 8 (by omega) (W.heap.size + 1 + 1 + 1) (W.heap.size + 1 + 1 + 1 + 1) G 0 w h (h * w) hw (by omega) (by omega) (Nat.le_refl _) (Nat.le_trans (Nat.mul_le_mul hh hw2) (by decide)) V0 cS.cell cN.cell cS.lt cN.lt) KeepTwo.trans (KeepTwo.put cS.lt cN.lt) (Below.refl _ _) (fun _ => rfl)
    (fun pre V => (∃ cs' r', RowsIn R G W.heap.size set w nm (.func (.func F) #[] caps) ss N cs rest W pre cs' r' V) ∧ Boxed V (W.heap.size + 1 + 1 + 1) 22 (.slice (some ⟨G, 0, none⟩) (h * w) (h * w)) ∧ Boxed V (W.heap.size + 1 + 1 + 1 + 1) 3 (.int .i64 w))
    (fun c pre V => c = Code.ret ∧ RowsNo (hh := h) R G W.heap.size set w N cs rest W pre V)
    (OwnFrom.and (fun pre X Y row ⟨c, r, hi⟩ hg hr => ⟨c, r, hi.row hg (by omega) hr⟩) (OwnFrom.and (Own.from (boxed_own _ _ (fun _ => .slice (some ⟨G, 0, none⟩) (h * w) (h * w))) _) (Own.from (boxed_own _ _ (fun _ => .int .i64 w)) _)))
    (fun c pre X Y row ⟨e, hi⟩ hg hr => ⟨e, hi.row hg (by omega) hr⟩)
    ⟨⟨cs, rest, hIn⟩, cS, cN⟩
    (fun x a' V => ∃ b5, W.heap.size + 1 + 1 + 1 + 1 + 1 ≤ b5 ∧ Boxed V b5 22 (chunkV G 0 w x.1) ∧ a' =
      { tmps := #[Value.pointer (some { block := R, off := 0 }), Value.func (Fn.func F) #[] caps,
          Value.pointer (some { block := W.heap.size, off := 0 }),
          Value.pointer (some { block := W.heap.size + 1, off := 0 }),
          Value.pointer (some { block := W.heap.size + 1 + 1, off := 0 }), .pointer (some ⟨b5, 0, none⟩), undef,
          Value.pointer (some { block := R, off := 0 }), Value.pointer (some { block := R, off := 0 }),
          Value.pointer (some { block := R, off := 2 }), Value.pointer (some { block := R, off := 3 }),
          Value.pointer (some { block := R, off := 5 }), Value.slice (some { block := G, off := 0 }) (h * w) (h * w),
          Value.pointer (some { block := R, off := 0 }), Value.pointer (some { block := R, off := 0 }),
          Value.pointer (some { block := R, off := 2 }), Value.pointer (some { block := R, off := 3 }),
          Value.pointer (some { block := R, off := 3 }), Value.int IntKind.i64 ↑w,
          Value.func (Fn.func 89) #[]
            #[Value.pointer (some { block := W.heap.size + 1 + 1 + 1, off := 0 }),
              Value.pointer (some { block := W.heap.size + 1 + 1 + 1 + 1, off := 0 })],
          (chunkV G 0 w x.1), undef, undef, undef, undef, undef, undef],
          defers := [] })
    (fun x a' s X Y row ⟨b5, h1, h2, h3⟩ hg hr => ⟨b5, h1, boxed_own b5 _ (fun _ => chunkV G 0 w x.1) s X Y row h2 hg (fun r e => (hr r e).2), h3⟩) ?assign ?body ?done ?stop
  case assign =>
    rintro l pre x V K ⟨⟨cs', r', hi⟩, h1, h2⟩ hK
    have hsV : W.heap.size + 1 + 1 + 1 + 1 + 1 ≤ V.heap.size := by have := h2.lt; omega
    have hg : V.grownBy (V.alloc (.cells #[chunkV G 0 w x.1] 22)) none := World.grownBy_alloc V _ none
    have HK := Lib.hid (hK _ _ (KeepsFrom.of_grownBy hg (fun j e => by cases e)) ⟨hg.block _ h1.lt (by simp), hg.block _ h2.lt (by simp)⟩ ⟨⟨cs', r', hi.row (B := W.heap.size) hg (Nat.le_refl _) (fun r e => by cases e)⟩, h1.alloc _, h2.alloc _⟩ ⟨V.heap.size, hsV, Boxed.new V _ _, rfl⟩)
    have hz : chunkV G 0 w x.1 = .slice (some ⟨G, x.1 * w * 3, none⟩) w w := by unfold chunkV; rw [Nat.zero_add]
    rw [hz] at HK ⊢
    clear hK hi h1 h2 hg hz
    gi_wp2
    exact HK.out
  case body =>
    rintro l pre x a' V - - ⟨⟨cs', r', hi⟩, h1, h2⟩ ⟨b5, hb5, hbx, rfl⟩ hlt
    have hEV : EnvM V := hE.keep30 (hi.two.below h30 g30 hE.big)
    have hPV := HST.out _ _ HP.out hi.two
    obtain ⟨xl, e1⟩ : ∃ q, Hid (q = bs (cutC 10 r'.data.toList).1) := ⟨_, hid rfl⟩
    obtain ⟨yr, e2⟩ : ∃ q, Hid (q = bs (cutC 10 r'.data.toList).2.1) := ⟨_, hid rfl⟩
    obtain ⟨fl, e3⟩ : ∃ q, Hid (q = (cutC 10 r'.data.toList).2.2) := ⟨_, hid rfl⟩
    have hrs : r'.data.toList.length = r'.size := (Lib.size_eq r').symm
    have hcl := cutC_le (c := 10) r'.data.toList
    have hsm := hi.small
    have hxs : xl.size ≤ 32768 := by rw [e1.out, bs_size]; omega
    have hys : yr.size ≤ 32768 := by rw [e2.out, bs_size]; omega
    obtain ⟨line, hline⟩ : ∃ q : Int, q = ((N - (linesB r'.data.toList).length : Nat) : Int) := ⟨_, rfl⟩
    have hrd : Blk V R (RdV r' line [nm, .int .i64 w, .int .i64 h, .slice (some ⟨G, 0, none⟩) (h * w) (h * w), ss]) 68 := by rw [hline]; exact hi.rd
    have hc := dread_b R r' xl yr fl line [nm, .int .i64 w, .int .i64 h, .slice (some ⟨G, 0, none⟩) (h * w) (h * w), ss] 102 #[.pointer (some ⟨b5, 0, none⟩), .pointer (some ⟨W.heap.size + 1, 0, none⟩)] V hEV h30 hrd hsm (by omega) (by omega) e1 e2 e3
      (enters_of Tryz.func102 (by kernel_rfl) rfl)
      (fun b w2 => ∃ cs'', CB w2 G cs'' ∧ Two R G V w2 ∧ b = (rowv set (rowAt w cs' x.1) xl.data.toList).isSome ∧ (∀ r, rowv set (rowAt w cs' x.1) xl.data.toList = some r → cs'' = repl cs' x.1 w r ∧ r.length = w) ∧ Blk w2 R (RdV r' (line + 1) [nm, .int .i64 w, .int .i64 h, .slice (some ⟨G, 0, none⟩) (h * w) (h * w), ss]) 68)
      (fun _ w1 hB1 _ _ _ hT1 => by
        have b5c := (Boxed.two_ hbx hT1 (by omega) (by omega)).cell
        have b3c := (Blk.two_ hi.b3 hT1 (by omega) (by omega)).cell 0
        refine (drows1_b G w h cs' hw hw2 hh hi.len x xl hxs F caps f val ok set HI.out P HS.out eF (fun A hA => HST.out _ _ hA (Two.of_below (Below.refl _ A).drew)) w1 (HST.out _ _ hPV hT1.left) (Blk.two_ hi.cb hT1 (Ne.symm hRG) (Ne.symm hRG)) b5 (W.heap.size + 1) b5c b3c).mono ?_
        rintro e w2 ⟨c2, rfl, q1, q2, q3, q4, q5⟩
        have hB2 := Blk.two_ hB1 q3 hRG hRG
        exact ⟨_, _, rfl, ⟨c2, q1, hT1.left.trans q3.right, rfl, q5, hB2⟩, hB2⟩)
    have HC := Lib.hid hc
    have d2 := hi.b2.cell 0
    have hb4 := hi.b4
    simp only [List.getElem?_cons_zero] at d2
    have HI2 := Lib.hid hi
    have H1 := Lib.hid h1
    have H2 := Lib.hid h2
    have hz : chunkV G 0 w x.1 = .slice (some ⟨G, x.1 * w * 3, none⟩) w w := by unfold chunkV; rw [Nat.zero_add]
    rw [hz]
    clear hc hi h1 h2 hbx hPV hEV hz hcl hrs hrd
    gi_wp2
    refine ⟨trivial, ?_⟩
    refine CallsIn.mono (F := Fence.wide) (callsIn_wide.2 HC.out) ?_
    intro e w' hp
    clear HC
    have hlx := HI2.out.lines
    rcases hp with ⟨hf, rfl, hB, hT⟩ | ⟨hf, vs', rfl, ⟨c2, q1, q2, q3, q4, q5⟩, -⟩ | ⟨hf, w2, vs', rfl, ⟨c2, q1, q2, q3, q4, q5⟩, -, rfl⟩
    · have hno := linesB_no (e3.out.symm.trans hf)
      have hbb := Blk.two_ hb4 hT (by omega) (by omega)
      obtain ⟨b40, b41⟩ := hbb.one
      have hcl := Blk.cell hB 1
      simp only [RdV, List.getElem?_cons_zero, List.getElem?_cons_succ] at hcl
      have HE := Lib.hid (rows_stop (B := V0.heap.size) HI2.out x 4 line hLR hLG (Nat.le_refl _) (by omega) hT.left hcl hline (.inl ⟨hno.1, rfl⟩))
      clear hline
      gi_wp2
      exact ⟨HE.out.1, rfl, HE.out.2.2⟩
    · have hyes := linesB_yes (e3.out.symm.trans hf)
      rw [e1.out, bs_list] at q3
      have hro : rowv set (rowAt w cs' x.1) (cutC 10 r'.data.toList).1 = none := by
        cases hq : rowv set (rowAt w cs' x.1) (cutC 10 r'.data.toList).1 with
        | none => rfl
        | some r => rw [hq] at q3; cases q3
      have hbb := Blk.two_ hb4 q2 (by omega) (by omega)
      obtain ⟨b40, b41⟩ := hbb.one
      have hcl := Blk.cell q5 1
      simp only [RdV, List.getElem?_cons_zero, List.getElem?_cons_succ] at hcl
      have HE := Lib.hid (rows_stop (B := V0.heap.size) HI2.out x 5 line hLR hLG (Nat.le_refl _) (by omega) q2 hcl hline (.inr ⟨_, _, hyes.1, hro, rfl⟩))
      clear hline q3 q4
      gi_wp2
      exact ⟨HE.out.1, rfl, HE.out.2.2⟩
    · have hyes := linesB_yes (e3.out.symm.trans hf)
      rw [e1.out, bs_list] at q3 q4
      have hy2 : (cutC 10 r'.data.toList).2.1 = yr.data.toList := by rw [e2.out, bs_list]
      rw [hy2] at hyes
      obtain ⟨r, hro⟩ : ∃ r, rowv set (rowAt w cs' x.1) (cutC 10 r'.data.toList).1 = some r := by
        cases hq : rowv set (rowAt w cs' x.1) (cutC 10 r'.data.toList).1 with
        | none => rw [hq] at q3; cases q3
        | some r => exact ⟨r, rfl⟩
      obtain ⟨hc2, hrl⟩ := q4 r hro
      have HE := Lib.hid (rows_next (B := V0.heap.size) HI2.out x line hLR hLG (Nat.le_refl _) (by omega) hLR q2 hRG hline _ yr hys hyes.1 hyes.2 r c2 hro hc2 hrl q1 q5 H1.out H2.out (by omega) (by omega))
      clear hline q3 q4 hyes hy2 hro hc2 hrl
      gi_wp2
      exact HE.out
  case done =>
    rintro D ys V hD rfl ⟨⟨cs', r', hi⟩, h1, h2⟩ hK
    obtain ⟨b40, b41⟩ := hi.b4.one
    have HI2 := Lib.hid hi
    clear hi h1 h2
    have hT := HI2.out.two
    have hD2 : W.heap.size + 1 + 1 ≠ D := by omega
    have hK2 : (V.setCell ⟨W.heap.size + 1 + 1, 0, none⟩ (.int .i64 0)).heap[D]? = some (.deferred (some [])) := (Below.heap_setCell V ⟨W.heap.size + 1 + 1, 0, none⟩ _ D (fun e => hD2 e.symm)).trans hK
    gi_wp2
    refine ⟨by simp, .inl ⟨_, _, rfl, run_takeDeferred hK2, ?_⟩⟩
    have g1 := grownBy_setCell' V (W.heap.size + 1 + 1) (.int .i64 0)
    have g2 := grownBy_putObj' (V.setCell ⟨W.heap.size + 1 + 1, 0, none⟩ (.int .i64 0)) D (.deferred none)
    have hi := HI2.out
    have hb4 := ((hi.b4.set 0 (.int .i64 0)).grown g2 (fun k e => by cases e; omega)).cell 0
    have hrd : RdAt ((V.setCell ⟨W.heap.size + 1 + 1, 0, none⟩ (.int .i64 0)).putObj D (.deferred none)) R r' ((N - (linesB r'.data.toList).length : Nat) : Int) nm w h (.slice (some ⟨G, 0, none⟩) (h * w) (h * w)) ss := Blk.grown (Blk.grown hi.rd g1 (fun k e => by cases e; omega)) g2 (fun k e => by cases e; omega)
    have hcb : CB ((V.setCell ⟨W.heap.size + 1 + 1, 0, none⟩ (.int .i64 0)).putObj D (.deferred none)) G cs' := Blk.grown (Blk.grown hi.cb g1 (fun k e => by cases e; omega)) g2 (fun k e => by cases e; omega)
    have hTT : Two R G W ((V.setCell ⟨W.heap.size + 1 + 1, 0, none⟩ (.int .i64 0)).putObj D (.deferred none)) := (hT.later (b := W.heap.size + 1 + 1) (by omega) 0 (.int .i64 0)).row (B := W.heap.size) g2 (Nat.le_refl _) (fun r e => by cases e; omega)
    generalize (V.setCell ⟨W.heap.size + 1 + 1, 0, none⟩ (.int .i64 0)).putObj D (.deferred none) = V' at *
    simp only [List.set_cons_zero, List.getElem?_cons_zero] at hb4
    refine ⟨.int .i64 0, ?_, hTT, .inl ⟨cs', r', rfl, rows_all hl (rowv_keeps HI.out) hi.fold, hi.len, hi.small, hi.tail, hi.lines, hrd, hcb⟩⟩
    simp [results, Tryz.results75, go_sem, hb4]
  case stop =>
    rintro D c pre V hD ⟨kk, hkk, hpre⟩ ⟨rfl, hno⟩ hK
    gi_wp2
    refine ⟨by simp, .inl ⟨_, _, rfl, run_takeDeferred hK, ?_⟩⟩
    have g2 := grownBy_putObj' V D (.deferred none)
    obtain ⟨p, x, c1, ls', err, e1, e2, e3, e4, e5⟩ := hno.ex
    have hb4 := (e5.grown g2 (fun k e => by cases e; omega)).cell 0
    have hTT : Two R G W (V.putObj D (.deferred none)) := hno.two.row (B := W.heap.size) g2 (Nat.le_refl _) (fun r e => by cases e; omega)
    have hcl : (V.putObj D (.deferred none)).cell? ⟨R, 1, none⟩ = some (.int .i64 ((N - ls'.length + 1 : Nat) : Int)) := (World.cell?_of_block (w := V) (a := ⟨R, 1, none⟩) (g2.block R (World.block_lt_of_cell? V _ e4) (fun e => by cases e; omega))).trans e4
    generalize V.putObj D (.deferred none) = V' at *
    simp only [List.getElem?_cons_zero] at hb4
    -- the rows ahead of the one that could not be read are the first ones
    have hpx : ∃ k, k < h ∧ p = firsts h k ∧ x.1 = k := by
      cases kk with
      | zero => rw [hpre] at e1; simp [firsts] at e1
      | succ kk =>
        rw [firsts_succ (by omega)] at hpre
        rw [hpre] at e1
        have := List.append_inj' e1 rfl
        refine ⟨kk, by omega, this.1.symm, ?_⟩
        have h2 := this.2
        simp only [List.cons.injEq, and_true] at h2
        rw [← h2]
    obtain ⟨k, hk, rfl, hxk⟩ := hpx
    refine ⟨.int .i64 err, ?_, hTT, .inr ⟨err, ls'.length, rfl, ?_, hcl⟩⟩
    · simp [results, Tryz.results75, go_sem, hb4]
    · rcases e3 with ⟨rfl, rfl⟩ | ⟨l, l2, rfl, hrv, rfl⟩
      · exact .inl ⟨rows_cut hl (rowv_keeps HI.out) hk e2, rfl, rfl⟩
      · rw [hxk] at hrv
        exact .inr ⟨_, rows_bad hl (rowv_keeps HI.out) hk e2 hrv, rfl, rfl⟩

end

section
open Go.RowKit Go.Lib

/-- What reading the rows, or the amounts, leaves. -/
def SecPost (R G : Nat) (W : World) (N : Nat) (tl : List UInt8) (nm : Value) (w h : Nat) (ss : Value) (res : Res (List C3)) (e : Ending) (w' : World) : Prop := Two R G W w' ∧
      ((∃ cs' r', e = .returned (.int .i64 0) ∧ res = .ok cs' (linesB r'.data.toList) ∧ cs'.length = h * w ∧ r'.size ≤ 32768 ∧ tailB r'.data.toList = tl ∧ (linesB r'.data.toList).length ≤ N ∧
          RdAt w' R r' ((N - (linesB r'.data.toList).length : Nat) : Int) nm w h (.slice (some ⟨G, 0, none⟩) (h * w) (h * w)) ss ∧ CB w' G cs') ∨
       (∃ err ls', e = .returned (.int .i64 err) ∧ ((res = .cut ∧ ls' = 0 ∧ err = 4) ∨ (∃ l2, res = .bad l2 ∧ ls' = l2.length ∧ err = 5)) ∧ w'.cell? ⟨R, 1, none⟩ = some (.int .i64 ((N - ls' + 1 : Nat) : Int))))
section
variable {R G : Nat} {W W1 : World} {N : Nat} {tl : List UInt8} {nm : Value} {w h : Nat} {ss : Value} {res : Res (List C3)} {e : Ending} {w' : World}
theorem SecPost.value (hp : SecPost R G W N tl nm w h ss res e w') : ∃ k : Int, e = .returned (.int .i64 k) ∧ SecPost R G W N tl nm w h ss res (.returned (.int .i64 k)) w' := by
  obtain ⟨-, ⟨_, _, rfl, _⟩ | ⟨_, _, rfl, _⟩⟩ := id hp
  · exact ⟨_, rfl, hp⟩
  · exact ⟨_, rfl, hp⟩
theorem SecPost.from (hp : SecPost R G W1 N tl nm w h ss res e w') (hb : Below W.heap.size W W1) : SecPost R G W N tl nm w h ss res e w' := ⟨(Two.of_below hb).trans hp.1, hp.2⟩
end

set_option maxHeartbeats 1000000 in
theorem dkindsP_b (R G w h : Nat) (cs : List C3) (rest : ByteArray) (nm ss : Value) (N : Nat) (hw : 1 ≤ w) (hw2 : w ≤ 32) (hh : h ≤ 32) (hl : cs.length = h * w) (W : World) (hE : EnvM W) (h30 : 12 ≤ R) (g30 : 12 ≤ G) (hRG : R ≠ G) (hs : rest.size ≤ 32768) (hN : (linesB rest.data.toList).length ≤ N) (hN2 : N ≤ 100000)
    (hR : RdAt W R rest ((N - (linesB rest.data.toList).length : Nat) : Int) nm w h (.slice (some ⟨G, 0, none⟩) (h * w) (h * w)) ss) (hC : CB W G cs) :
    Calls Tryz.prog 42 #[.pointer (some ⟨R, 0, none⟩)] W (SecPost R G W N (tailB rest.data.toList) nm w h ss (rowsv setK w h [] cs (linesB rest.data.toList))) := by
  have hLR : R < W.heap.size := Blk.lt hR
  have hLG : G < W.heap.size := Blk.lt hC
  go_enter Tryz.func42, Tryz.ntmps42
  go_wp2_with fail
  ((with_reducible refine (dkinds_b W).mono ?_); rintro e w1 ⟨rfl, hk, hb⟩)
  have hL := (Below.refl _ w1).alloc (Nat.le_refl _) (.cells #[.map (some W.heap.size)] 54)
  have hbx : KindBox w1.heap.size W.heap.size (w1.alloc (.cells #[.map (some W.heap.size)] 54)) := ⟨(Blk.new w1 [.map (some W.heap.size)] 54).cell 0, hk.below hL⟩
  have hW1 := below_call hb hL
  have h1 := hb.size
  have hc := drowsP_b R G w h cs rest nm ss N hw hw2 hh hl _ (hE.keep hW1) h30 g30 hRG hs hN hN2 (Blk.below hR hW1) (Blk.below hC hW1) 76 #[.pointer (some ⟨w1.heap.size, 0, none⟩)] 0 (fun b => optK (kindV b)) (fun b => (kindV b).isSome) setK setK_is
    (KindBox w1.heap.size W.heap.size) hbx (dkinds1_b G _ _ (by omega) (by omega)) (fun A A' hA hT => hA.two hT (by omega) (by omega) (by omega) (by omega)) (enters_of Tryz.func76 (by kernel_rfl) rfl)
  have HC := Lib.hid hc
  have HW := Lib.hid hW1
  clear hc hW1 hbx hk hL hb h1 hR hC hE
  go_wp2_with fail
  refine Calls.mono HC.out ?_
  intro e w' hp
  obtain ⟨k, rfl, hq⟩ := SecPost.value (show SecPost R G _ N (tailB rest.data.toList) nm w h ss (rowsv setK w h [] cs (linesB rest.data.toList)) e w' from hp)
  have HP := Lib.hid (SecPost.from hq HW.out)
  clear hp hq
  go_wp2_with fail
  go_ret
  exact HP.out

set_option maxHeartbeats 1000000 in
theorem dheightsP_b (R G w h : Nat) (cs : List C3) (rest : ByteArray) (nm ss : Value) (N : Nat) (hw : 1 ≤ w) (hw2 : w ≤ 32) (hh : h ≤ 32) (hl : cs.length = h * w) (W : World) (hE : EnvM W) (h30 : 12 ≤ R) (g30 : 12 ≤ G) (hRG : R ≠ G) (hs : rest.size ≤ 32768) (hN : (linesB rest.data.toList).length ≤ N) (hN2 : N ≤ 100000)
    (hR : RdAt W R rest ((N - (linesB rest.data.toList).length : Nat) : Int) nm w h (.slice (some ⟨G, 0, none⟩) (h * w) (h * w)) ss) (hC : CB W G cs) :
    Calls Tryz.prog 43 #[.pointer (some ⟨R, 0, none⟩)] W (SecPost R G W N (tailB rest.data.toList) nm w h ss (rowsv setH w h [] cs (linesB rest.data.toList))) := by
  have hc := drowsP_b R G w h cs rest nm ss N hw hw2 hh hl _ hE h30 g30 hRG hs hN hN2 hR hC 78 #[] 1 (fun b => (b.toNat : Int) - 48) (fun b => decide (48 ≤ b.toNat ∧ b.toNat ≤ 51)) setH setH_is
    (fun _ => True) trivial (dheights1_b G) (fun _ _ _ _ => trivial) (enters_of Tryz.func78 (by kernel_rfl) rfl)
  have HC := Lib.hid hc
  clear hc hR hC hE
  go_enter Tryz.func43, Tryz.ntmps43
  go_wp2_with fail
  refine Calls.mono HC.out ?_
  intro e w' hp
  obtain ⟨k, rfl, hq⟩ := SecPost.value (show SecPost R G W N (tailB rest.data.toList) nm w h ss (rowsv setH w h [] cs (linesB rest.data.toList)) e w' from hp)
  have HP := Lib.hid hq
  clear hp hq
  go_wp2_with fail
  go_ret
  exact HP.out

end

end Go.Proofs.YtmpbgfobiceehaaGreatDoor
