/-
  What the reader of mapfile answers: amounts, starts, the head, Parse.
-/
import Derived.Test.YtmpbgfobiceehaaGreatDoorMapReadP
import Derived.Test.YtmpbgfobiceehaaGreatDoorMapLandQ
import Derived.LoopN
namespace Go.Proofs.YtmpbgfobiceehaaGreatDoor

section
open Go.RowKit Go.Lib

set_option maxHeartbeats 1000000 in
theorem damounts1_b (G w h : Nat) (cs : List C3) (hw : 1 ≤ w) (hw2 : w ≤ 32) (hh : h ≤ 32) (hl : cs.length = h * w) (i : Nat) (hi : i < cs.length) (s : ByteArray) (hs : s.size ≤ 32768) (b3 b4 : Nat) (W : World) (hE : EnvM W) (_g30 : 12 ≤ G)
    (hC : CB W G cs) (h3 : Blk W b3 [.int .i64 w, .int .i64 h, .slice (some ⟨G, 0, none⟩) (h * w) (h * w)] 24) (h4 : Blk W b4 [.int .i64 i] 3) :
    Calls Tryz.prog 79 #[.string s, .pointer (some ⟨b3, 0, none⟩), .pointer (some ⟨b4, 0, none⟩)] W fun e w' => e = .returned (.bool (amtv (i % w) (i / w) s.data.toList).isSome) ∧ CB w' G (cs.set i (updC 2 (optI (amtv (i % w) (i / w) s.data.toList)) (cs[i]'hi))) ∧ Two G G W w' := by
  obtain ⟨o, ho⟩ : ∃ o, Hid (o = amtv (i % w) (i / w) s.data.toList) := ⟨_, hid rfl⟩
  rw [← ho.out]
  have hlen : cs.length ≤ 1024 := by rw [hl]; exact Nat.mul_le_mul hh hw2
  have hmod : i % w ≤ 1000 := by have := Nat.mod_lt i hw; omega
  have hdiv : i / w ≤ 1000 := by
    have := Nat.div_le_self i w
    have := (Nat.div_lt_iff_lt_mul hw).2 (show i < 1000 * w by have := Nat.mul_le_mul_right w (show h ≤ 1000 by omega); omega)
    omega
  rw [hl] at hi
  have i0 : (0 : Int) ≤ i := by omega
  have i1 : (i : Int) < (h * w : Nat) := by omega
  obtain ⟨c0, c1, c2, -, -, -⟩ := h3.three
  obtain ⟨d0, -⟩ := h4.one
  generalize h * w = L at *
  go_enter Tryz.func79, Tryz.ntmps79
  go_wp2_with fail
  ((with_reducible refine (dat_any (w : Int) (i : Int) _ (by omega)).mono ?_); rintro e w1 ⟨rfl, hb1⟩)
  rw [atx_nat hw, aty_nat hw]
  generalize i % w = X at *
  generalize i / w = Y at *
  go_wp2_with fail
  ((with_reducible refine (damount_b s X Y o _ (hE.keep hb1) (by omega) hmod hdiv ho).mono ?_); rintro e w2 ⟨rfl, hb2⟩)
  have hb := below_call hb1 hb2
  have hC2 : CB w2 G cs := Blk.below hC hb
  obtain ⟨_, _, e2, -, -, -⟩ := (h3.below hb).three
  obtain ⟨f0, -⟩ := (h4.below hb).one
  have hi2 : i < cs.length := by omega
  obtain ⟨-, -, a2⟩ := hC2.cells hi2
  have fz := Blk.frozen hC2 (i * 3 + 2)
  have hC3 := hC2.set (f := 2) hi2 (by decide) (optI o)
  have hT := (Two.of_below (R := G) (G := G) hb).trans (Two.set (R := G) (G := G) w2 ⟨G, i * 3 + 2, none⟩ (.int .i64 (optI o)) (.inl rfl))
  clear hb1 hb2 hb c0 c1 c2 d0 hC hC2 h3 h4 ho
  go_wp2_with fail
  go_ret
  exact ⟨rfl, hC3, hT⟩

/-- How things stand between cells. -/
structure AmIn (R G : Nat) (w h : Nat) (nm ss : Value) (N : Nat) (cs : List C3) (rest : ByteArray) (W : World) (i : Nat) (done todo : List C3) (r' : ByteArray) (V : World) : Prop where
  eq : amtsv w [] cs (linesB rest.data.toList) = amtsv w done todo (linesB r'.data.toList)
  di : done.length = i
  len : done.length + todo.length = h * w
  small : r'.size ≤ 32768
  tail : tailB r'.data.toList = tailB rest.data.toList
  lines : (linesB r'.data.toList).length ≤ N
  rd : RdAt V R r' ((N - (linesB r'.data.toList).length : Nat) : Int) nm w h (.slice (some ⟨G, 0, none⟩) (h * w) (h * w)) ss
  cb : CB V G (done ++ todo)
  two : Two R G W V
  b3 : Blk V W.heap.size [.int .i64 w, .int .i64 h, .slice (some ⟨G, 0, none⟩) (h * w) (h * w)] 24
theorem AmIn.call {R G w h : Nat} {nm ss : Value} {N : Nat} {cs : List C3} {rest : ByteArray} {W : World} {i : Nat} {done todo : List C3} {r' : ByteArray} {V V' : World} (h1 : AmIn R G w h nm ss N cs rest W i done todo r' V) (hb : Below V.heap.size V V') : AmIn R G w h nm ss N cs rest W i done todo r' V' :=
  ⟨h1.eq, h1.di, h1.len, h1.small, h1.tail, h1.lines, Blk.below h1.rd hb, Blk.below h1.cb hb, h1.two.trans (Two.of_below hb), h1.b3.below hb⟩
theorem AmIn.skip {R G w h : Nat} {nm ss : Value} {N : Nat} {cs : List C3} {rest : ByteArray} {W : World} {i : Nat} {done todo : List C3} {c : C3} {r' : ByteArray} {V : World} (h1 : AmIn R G w h nm ss N cs rest W i done (c :: todo) r' V) (hr : resB c.k = false) : AmIn R G w h nm ss N cs rest W (i + 1) (done ++ [c]) todo r' V :=
  ⟨by rw [h1.eq, amtsv_skip (by rw [hr]; decide)], by rw [List.length_append, h1.di]; rfl, by have := h1.len; rw [List.length_append]; simp only [List.length_cons, List.length_nil] at this ⊢; omega, h1.small, h1.tail, h1.lines, h1.rd, by rw [List.append_assoc]; exact h1.cb, h1.two, h1.b3⟩

set_option maxRecDepth 100000 in
set_option maxHeartbeats 8000000 in
theorem damountsP_b (R G w h : Nat) (cs : List C3) (rest : ByteArray) (nm ss : Value) (N : Nat) (hw : 1 ≤ w) (hw2 : w ≤ 32) (hh : h ≤ 32) (hl : cs.length = h * w) (W : World) (hE : EnvM W) (h30 : 12 ≤ R) (g30 : 12 ≤ G) (hRG : R ≠ G) (hs : rest.size ≤ 32768) (hN : (linesB rest.data.toList).length ≤ N) (hN2 : N ≤ 100000)
    (hR : RdAt W R rest ((N - (linesB rest.data.toList).length : Nat) : Int) nm w h (.slice (some ⟨G, 0, none⟩) (h * w) (h * w)) ss) (hC : CB W G cs) :
    Calls Tryz.prog 44 #[.pointer (some ⟨R, 0, none⟩)] W (SecPost R G W N (tailB rest.data.toList) nm w h ss (amtsv w [] cs (linesB rest.data.toList))) := by
  have hLR : R < W.heap.size := Blk.lt hR
  have hLG : G < W.heap.size := Blk.lt hC
  have hLb : h * w ≤ 1024 := Nat.mul_le_mul hh hw2
  have d3 := Blk.cell hR 3
  have d4 := Blk.cell hR 4
  have d5 := Blk.cell hR 5
  simp only [RdV, List.getElem?_cons_zero, List.getElem?_cons_succ] at d3 d4 d5
  have hL := (Below.refl _ W).alloc (Nat.le_refl _) (.cells #[.int .i64 w, .int .i64 h, .slice (some ⟨G, 0, none⟩) (h * w) (h * w)] 24)
  have b3 := Blk.new W [.int .i64 w, .int .i64 h, .slice (some ⟨G, 0, none⟩) (h * w) (h * w)] 24
  have hIn : AmIn R G w h nm ss N cs rest W 0 [] cs rest (W.alloc (.cells #[.int .i64 w, .int .i64 h, .slice (some ⟨G, 0, none⟩) (h * w) (h * w)] 24)) :=
    ⟨rfl, rfl, by rw [hl]; exact Nat.zero_add _, hs, rfl, hN, Blk.below hR hL, Blk.below hC hL, Two.of_below hL, b3⟩
  obtain ⟨m0, m1, m2, -, -, -⟩ := b3.three
  obtain ⟨L, hLL⟩ : ∃ L, L = h * w := ⟨_, rfl⟩
  rw [← hLL] at m2 d5 hLb
  have HL := Lib.hid hLL
  have HIN := Lib.hid hIn
  clear hR hC b3 hL hl hIn
  rw [← hLL] at HIN
  clear hLL
  go_enter Tryz.func44, Tryz.ntmps44
  go_wp2_with fail
  clear m0 m1 m2 d3 d4 d5
  go_loopw [14] (fun vi wr => ∃ (i : Nat) (done todo : List C3) (r' : ByteArray), vi = .int .i64 i ∧ i ≤ L ∧ AmIn R G w h nm ss N cs rest W i done todo r' wr) (fun vi _ => L - (RowKit.intOf vi).toNat)
  case atStart => exact ⟨0, [], cs, rest, rfl, Nat.zero_le _, HIN.out⟩
  case round =>
    clear HIN
    obtain ⟨i, done, todo, r', rfl, hi, hI⟩ := hrel
    have hlen := hI.len
    rw [← HL.out] at hlen
    have hdi := hI.di
    by_cases hlt : i < L
    · obtain ⟨c, todo, rfl⟩ : ∃ c t, todo = c :: t := by
        cases todo with
        | nil => simp at hlen; omega
        | cons c t => exact ⟨c, t, rfl⟩
      have i0 : (0 : Int) ≤ i := by omega
      have i1 : (i : Int) < L := by omega
      have hA := (Below.refl _ wr).alloc (Nat.le_refl _) (.cells #[.int .i64 i] 3)
      have hI2 := hI.call hA
      have b4 := Blk.new wr [.int .i64 i] 3
      obtain ⟨n0, -⟩ := b4.one
      have b3 := hI2.b3
      rw [← HL.out] at b3
      obtain ⟨m0, m1, m2, -, -, -⟩ := b3.three
      have hix : i < (done ++ c :: todo).length := by rw [List.length_append, hdi]; simp
      obtain ⟨a0, -, -⟩ := hI2.cb.cells hix
      have hg : (done ++ c :: todo)[i]'hix = c := by
        rw [List.getElem_append_right (by omega)]; simp [hdi]
      rw [hg] at a0
      obtain ⟨rb, hrb⟩ : ∃ b, Hid (b = resB c.k) := ⟨_, hid rfl⟩
      have hWr : W.heap.size < wr.heap.size := hI.b3.lt
      clear hI
      go_wp2_with fail
      generalize hV : wr.alloc (.cells #[.int .i64 i] 3) = V at *
      have hbV : wr.heap.size < V.heap.size := by rw [← hV]; simp
      clear hV hA hg
      ((with_reducible refine (dresource_b c.k rb _ hrb).mono ?_); rintro e w1 ⟨rfl, rfl⟩)
      cases rb with
      | false =>
        have HN := Lib.hid (hI2.skip hrb.out.symm)
        clear hI2 hrb
        go_wp2_with fail
        go_roundw
        case rel => exact ⟨i + 1, done ++ [c], todo, r', by go_num, by omega, HN.out⟩
        case measure => simp [RowKit.intOf]; omega
      | true =>
        have hres : resB c.k = true := hrb.out.symm
        obtain ⟨xl, e1⟩ : ∃ q, Hid (q = bs (cutC 10 r'.data.toList).1) := ⟨_, hid rfl⟩
        obtain ⟨yr, e2⟩ : ∃ q, Hid (q = bs (cutC 10 r'.data.toList).2.1) := ⟨_, hid rfl⟩
        obtain ⟨fl, e3⟩ : ∃ q, Hid (q = (cutC 10 r'.data.toList).2.2) := ⟨_, hid rfl⟩
        have hrs : r'.data.toList.length = r'.size := (Lib.size_eq r').symm
        have hcl := cutC_le (c := 10) r'.data.toList
        have hsm := hI2.small
        have hxs : xl.size ≤ 32768 := by rw [e1.out, bs_size]; omega
        have hys : yr.size ≤ 32768 := by rw [e2.out, bs_size]; omega
        obtain ⟨line, hline⟩ : ∃ q : Int, q = ((N - (linesB r'.data.toList).length : Nat) : Int) := ⟨_, rfl⟩
        have hrd : Blk V R (RdV r' line [nm, .int .i64 w, .int .i64 h, .slice (some ⟨G, 0, none⟩) (h * w) (h * w), ss]) 68 := by rw [hline]; exact hI2.rd
        have hEV : EnvM V := hE.keep30 (hI2.two.below h30 g30 hE.big)
        have hc := dread_b R r' xl yr fl line [nm, .int .i64 w, .int .i64 h, .slice (some ⟨G, 0, none⟩) (h * w) (h * w), ss] 79 #[.pointer (some ⟨W.heap.size, 0, none⟩), .pointer (some ⟨wr.heap.size, 0, none⟩)] V hEV h30 hrd hsm (by omega) (by omega) e1 e2 e3
          (enters_of Tryz.func79 (by kernel_rfl) rfl)
          (fun b w2 => b = (amtv (i % w) (i / w) xl.data.toList).isSome ∧ CB w2 G ((done ++ c :: todo).set i (updC 2 (optI (amtv (i % w) (i / w) xl.data.toList)) ((done ++ c :: todo)[i]'hix))) ∧ Two R G V w2 ∧ Blk w2 R (RdV r' (line + 1) [nm, .int .i64 w, .int .i64 h, .slice (some ⟨G, 0, none⟩) (h * w) (h * w), ss]) 68)
          (fun _ w1 hB1 _ hE1 _ hT1 => by
            refine (damounts1_b G w h (done ++ c :: todo) hw hw2 hh (by rw [List.length_append]; exact hI2.len) i hix xl hxs W.heap.size wr.heap.size w1 hE1 g30 (Blk.two_ hI2.cb hT1 (Ne.symm hRG) (Ne.symm hRG)) (Blk.two_ hI2.b3 hT1 (by omega) (by omega)) (Blk.two_ b4 hT1 (by omega) (by omega))).mono ?_
            rintro e w2 ⟨rfl, q1, q2⟩
            have hB2 := Blk.two_ hB1 q2 hRG hRG
            exact ⟨_, _, rfl, ⟨rfl, q1, hT1.left.trans q2.right, hB2⟩, hB2⟩)
        have HC := Lib.hid hc
        have HI := Lib.hid hI2
        clear hc hI2 b3 b4 m0 m1 m2 a0 n0 hEV hcl hrs hrd
        go_wp2_with fail
        refine Calls.mono HC.out ?_
        intro e w' hp
        clear HC
        have hI2 := HI.out
        rcases hp with ⟨hf, rfl, hB, hT⟩ | ⟨hf, vs', rfl, ⟨q1, q2, q3, q4⟩, -⟩ | ⟨hf, w2, vs', rfl, ⟨q1, q2, q3, q4⟩, -, rfl⟩
        · have hno := linesB_no (e3.out.symm.trans hf)
          have hcl := Blk.cell hB 1
          simp only [RdV, List.getElem?_cons_zero, List.getElem?_cons_succ] at hcl
          have HE : Hid (SecPost R G W N (tailB rest.data.toList) nm w h ss (amtsv w [] cs (linesB rest.data.toList)) (.returned (.int .i64 4)) w') := hid ⟨hI2.two.trans hT.left, .inr ⟨4, 0, rfl, .inl ⟨by rw [hI2.eq, hno.1, amtsv_nil hres], rfl, rfl⟩, by rw [hcl, hline, hno.1]; rfl⟩⟩
          clear hline hI2 hcl hB hT
          go_wp2_with fail
          go_ret
          exact HE.out
        · have hyes := linesB_yes (e3.out.symm.trans hf)
          have hcl := Blk.cell q4 1
          simp only [RdV, List.getElem?_cons_zero, List.getElem?_cons_succ] at hcl
          rw [e1.out, bs_list] at q1
          have hno : amtv (i % w) (i / w) (cutC 10 r'.data.toList).1 = none := by
            cases hq : amtv (i % w) (i / w) (cutC 10 r'.data.toList).1 with
            | none => rfl
            | some r => rw [hq] at q1; cases q1
          rw [← hdi] at hno
          have HE : Hid (SecPost R G W N (tailB rest.data.toList) nm w h ss (amtsv w [] cs (linesB rest.data.toList)) (.returned (.int .i64 5)) w') := hid ⟨hI2.two.trans q3, .inr ⟨5, _, rfl, .inr ⟨_, by rw [hI2.eq, hyes.1, amtsv_bad hres hno], rfl, rfl⟩, by rw [hcl, hline, hyes.1]; rfl⟩⟩
          clear hline hI2 hcl q1 q2 q3 q4
          go_wp2_with fail
          go_ret
          exact HE.out
        · have hyes := linesB_yes (e3.out.symm.trans hf)
          have hy2 : (cutC 10 r'.data.toList).2.1 = yr.data.toList := by rw [e2.out, bs_list]
          rw [hy2] at hyes
          have hx2 : xl.data.toList = (cutC 10 r'.data.toList).1 := by rw [e1.out, bs_list]
          rw [hx2] at q1 q2
          obtain ⟨n, hn⟩ : ∃ n, amtv (i % w) (i / w) (cutC 10 r'.data.toList).1 = some n := by
            cases hq : amtv (i % w) (i / w) (cutC 10 r'.data.toList).1 with
            | none => rw [hq] at q1; cases q1
            | some r => exact ⟨r, rfl⟩
          rw [hn] at q2
          have hset : (done ++ c :: todo).set i (updC 2 (optI (some n)) ((done ++ c :: todo)[i]'hix)) = (done ++ [⟨c.k, c.h, (n : Int)⟩]) ++ todo := by
            have hg2 : (done ++ c :: todo)[i]'hix = c := by rw [List.getElem_append_right (by omega)]; simp [hdi]
            rw [hg2, List.set_append_right _ _ (by omega), hdi, Nat.sub_self, List.append_assoc]; rfl
          rw [hset] at q2
          rw [← hdi] at hn
          have hT2 : Two R G V (w2.setCell ⟨R, 0, none⟩ (.string yr)) := q3.trans (Two.set w2 _ _ (.inl rfl))
          have hln := hI2.lines
          rw [hyes.1] at hln hline
          simp only [List.length_cons] at hln hline
          have hrd2 := q4.set 0 (.string yr)
          rw [hline] at hrd2
          have HN : Hid (AmIn R G w h nm ss N cs rest W (i + 1) (done ++ [⟨c.k, c.h, (n : Int)⟩]) todo yr (w2.setCell ⟨R, 0, none⟩ (.string yr))) := hid
            ⟨by rw [hI2.eq, hyes.1, amtsv_line hres hn], by rw [List.length_append, hdi]; rfl, by have := hI2.len; rw [List.length_append]; simp only [List.length_cons, List.length_nil] at this ⊢; omega, hys, hyes.2.symm.trans hI2.tail, by omega,
              by rw [show ((N - (linesB yr.data.toList).length : Nat) : Int) = ((N - ((linesB yr.data.toList).length + 1) : Nat) : Int) + 1 by omega]; exact hrd2, Blk.far q2 (.string yr) (Ne.symm hRG), hI2.two.trans hT2, Blk.two_ hI2.b3 hT2 (by omega) (by omega)⟩
          clear hline hI2 q1 q2 q3 q4 hn hset hrd2 hyes hy2 hx2
          go_wp2_with fail
          go_roundw
          case rel => exact ⟨i + 1, _, todo, yr, by go_num, by omega, HN.out⟩
          case measure => simp [RowKit.intOf]; omega
    · obtain rfl : i = L := by omega
      have htd : todo = [] := by
        cases todo with
        | nil => rfl
        | cons c t => simp at hlen; omega
      subst htd
      have HE : Hid (SecPost R G W N (tailB rest.data.toList) nm w h ss (amtsv w [] cs (linesB rest.data.toList)) (.returned (.int .i64 0)) wr) := hid ⟨hI.two, .inl ⟨done, r', rfl, by rw [hI.eq]; rfl, by have := hI.len; simpa using this, hI.small, hI.tail, hI.lines, hI.rd, by have := hI.cb; rw [List.append_nil] at this; exact this⟩⟩
      clear hI
      go_wp2_with fail
      go_ret
      exact HE.out

end

section
open Go.RowKit Go.Lib

/-- The two numbers that a line of a start is read as. -/
def startN (l : List UInt8) : Option Nat × Option Nat := match stripB (startW ++ [32]) l with
  | none => (numR (cutC 32 l).1 0 31, numR (cutC 32 l).2.1 0 31)
  | some b => (numR (cutC 32 b).1 0 31, numR (cutC 32 b).2.1 0 31)

/-- What reading the line of a start leaves. -/
def StartPost (B R : Nat) (rest : ByteArray) (line : Int) (nm vw vh sc : Value) (st : List (Int × Int)) (s : ByteArray) (W : World) (e : Ending) (w' : World) : Prop := ∃ p ss', e = .returned (.bool (startv s.data.toList).isSome) ∧ (∀ q, startv s.data.toList = some q → p = q) ∧ Below B W w' ∧
      Blk w' R (RdV rest line [nm, vw, vh, sc, ss']) 68 ∧ w'.ownsRow B 41 2 ss' (st.length + 1) (pcells (st ++ [p])) ∧ (∀ (k : Nat) (vs : List Value) (t : TypeId), Blk W k vs t → t ≠ 41 → k ≠ R → Blk w' k vs t)
set_option maxRecDepth 100000 in
set_option maxHeartbeats 8000000 in
theorem dstarts1_b (B R bx : Nat) (rest : ByteArray) (line : Int) (nm vw vh sc ss : Value) (st : List (Int × Int)) (s : ByteArray) (hs : s.size ≤ 32768) (W : World) (hE : EnvM W) (_h30 : 12 ≤ B) (hR : Blk W R (RdV rest line [nm, vw, vh, sc, ss]) 68) (hbx : Blk W bx [.pointer (some ⟨R, 0, none⟩)] 94) (hne : bx ≠ R) (hBR : B ≤ R) (_hBx : B ≤ bx)
    (hown : W.ownsRow B 41 2 ss st.length (pcells st)) (hst : st.length ≤ 100000) :
    Calls Tryz.prog 81 #[.string s, .pointer (some ⟨bx, 0, none⟩)] W (StartPost B R rest line nm vw vh sc st s W) := by
  obtain ⟨x, f, hx, hxs⟩ := strip_cases ⟨#[115, 116, 97, 114, 116, 32]⟩ s
  obtain ⟨a, ea⟩ : ∃ q, Hid (q = numR (cutC 32 x.data.toList).1 0 31) := ⟨_, hid rfl⟩
  obtain ⟨b, eb⟩ : ∃ q, Hid (q = numR (cutC 32 x.data.toList).2.1 0 31) := ⟨_, hid rfl⟩
  go_enter Tryz.func81, Tryz.ntmps81
  go_wp2_with fail
  ((with_reducible refine (prefix_b s _ x f _ hx).mono ?_); rintro e w1 ⟨rfl, rfl⟩)
  go_wp2_with fail
  ((with_reducible refine (dpair0_b x a b _ hE (by omega) ea eb).mono ?_); rintro e w1 ⟨rfl, hb⟩)
  have hown1 := own_below hown hb
  have hR1 := hR.below hb
  have hbx1 := hbx.below hb
  go_wp2_with fail
  obtain ⟨d0, -⟩ := hbx1.one
  have d6 := Blk.cell hR1 6
  simp only [RdV, List.getElem?_cons_zero, List.getElem?_cons_succ] at d6
  have hmx : Tryz.prog.follows .mixedOrders = true := by kernel_rfl
  have hS0 : w1.drew.cell? ⟨bx, 0, none⟩ = some (.pointer (some ⟨R, 0, none⟩)) ∧ w1.drew.cell? ⟨R, 6, none⟩ = some ss := ⟨d0, d6⟩
  have hsz : B ≤ w1.heap.size := Nat.le_trans hBR (Nat.le_of_lt hR1.lt)
  refine wp_region_any hmx (wpAny_of_last (x := 14) (S := fun w' => w'.cell? ⟨bx, 0, none⟩ = some (.pointer (some ⟨R, 0, none⟩)) ∧ w'.cell? ⟨R, 6, none⟩ = some ss) _ _ _ _ ?_)
  show wpAnyL _ _ _ _ _ _ _ _ _ w1.drew
  refine last_take (x := 14) (hl := by kernel_rfl) (hix := by decide) (i := 0) (v := .pointer (some ⟨R, 0, none⟩)) _ rfl rfl (by kernel_rfl) (by kernel_rfl) (by kernel_rfl) (fun _ _ _ h => h) (by rfl) (fun w' hS => by obtain ⟨s1, s2⟩ := hS; go_simp) hS0 ?_
  simp only [Act.put, List.setIfInBounds_toArray]
  refine last_take (x := 14) (hl := by kernel_rfl) (hix := by decide) (i := 1) (v := .pointer (some ⟨R, 0, none⟩)) _ rfl rfl (by kernel_rfl) (by kernel_rfl) (by kernel_rfl) (fun _ _ _ h => h) (by rfl) (fun w' hS => by obtain ⟨s1, s2⟩ := hS; go_simp) hS0 ?_
  simp only [Act.put]
  refine last_take (x := 14) (hl := by kernel_rfl) (hix := by decide) (i := 2) (v := .pointer (some ⟨R, 0, none⟩)) _ rfl rfl (by kernel_rfl) (by kernel_rfl) (by kernel_rfl) (fun _ _ _ h => h) (by rfl) (fun w' hS => by obtain ⟨s1, s2⟩ := hS; go_simp) hS0 ?_
  simp only [Act.put]
  refine last_take (x := 14) (hl := by kernel_rfl) (hix := by decide) (i := 3) (v := .pointer (some ⟨R, 2, none⟩)) _ rfl rfl (by kernel_rfl) (by kernel_rfl) (by kernel_rfl) (fun _ _ _ h => h) (by rfl) (fun w' hS => by obtain ⟨s1, s2⟩ := hS; go_simp) hS0 ?_
  simp only [Act.put]
  refine last_take (x := 14) (hl := by kernel_rfl) (hix := by decide) (i := 4) (v := .pointer (some ⟨R, 6, none⟩)) _ rfl rfl (by kernel_rfl) (by kernel_rfl) (by kernel_rfl) (fun _ _ _ h => h) (by rfl) (fun w' hS => by obtain ⟨s1, s2⟩ := hS; go_simp) hS0 ?_
  simp only [Act.put]
  refine last_take (x := 14) (hl := by kernel_rfl) (hix := by decide) (i := 5) (v := ss) _ rfl rfl (by kernel_rfl) (by kernel_rfl) (by kernel_rfl) (fun _ _ _ h => h) (by rfl) (fun w' hS => by obtain ⟨s1, s2⟩ := hS; go_simp) hS0 ?_
  simp only [Act.put]
  refine last_take (x := 14) (hl := by kernel_rfl) (hix := by decide) (i := 6) (v := .int .i64 (optI a)) _ rfl rfl (by kernel_rfl) (by kernel_rfl) (by kernel_rfl) (fun _ _ _ h => h) (by rfl) (fun w' hS => by obtain ⟨s1, s2⟩ := hS; go_simp) hS0 ?_
  simp only [Act.put]
  refine last_take (x := 14) (hl := by kernel_rfl) (hix := by decide) (i := 7) (v := .int .i64 (optI b)) _ rfl rfl (by kernel_rfl) (by kernel_rfl) (by kernel_rfl) (fun _ _ _ h => h) (by rfl) (fun w' hS => by obtain ⟨s1, s2⟩ := hS; go_simp) hS0 ?_
  simp only [Act.put]
  refine last_take (x := 14) (hl := by kernel_rfl) (hix := by decide) (i := 8) (v := .agg #[.int .i64 (optI a), .int .i64 (optI b)]) _ rfl rfl (by kernel_rfl) (by kernel_rfl) (by kernel_rfl) (fun _ _ _ h => h) (by rfl) (fun w' hS => by obtain ⟨s1, s2⟩ := hS; go_simp) hS0 ?_
  simp only [Act.put]
  refine last_one (i := 9) (by kernel_rfl) rfl (fun K hK => ?_)
  go_simp
  have hR2 := (hR1.drew).alloc (.cells #[.int .i64 (optI a), .int .i64 (optI b)] 41)
  have hbx2 := (hbx1.drew).alloc (.cells #[.int .i64 (optI a), .int .i64 (optI b)] 41)
  have hS2 : (w1.drew.alloc (.cells #[.int .i64 (optI a), .int .i64 (optI b)] 41)).cell? ⟨bx, 0, none⟩ = some (.pointer (some ⟨R, 0, none⟩)) ∧ (w1.drew.alloc (.cells #[.int .i64 (optI a), .int .i64 (optI b)] 41)).cell? ⟨R, 6, none⟩ = some ss := ⟨hbx2.cell 0, hR2.cell 6⟩
  refine hK.out _ _ (fun _ => hS2) ?_
  clear hK
  obtain ⟨i0, hi, hz0, hz1, hz2⟩ := info_parts infoPos
  obtain ⟨v', w2, hrun, hown', hgrow, _⟩ := run_append_own (P := Tryz.prog) (w1.drew.alloc (.cells #[.int .i64 (optI a), .int .i64 (optI b)] 41)) B 25 25 41 i0 (.agg #[.int .i64 0, .int .i64 0]) 2 16 Tryz.underlying25 hi hz0 hz1 hz2 rfl (by decide) ss st.length _ (own_below hown1 (((Below.refl _ w1).drew).alloc (Nat.le_refl _) _))
    ⟨w1.heap.size, 0, none⟩ 1 1 [.int .i64 (optI a), .int .i64 (optI b)] rfl (cells_new (w := w1.drew)) (by simp [Value.oneCell']) (by unfold maxLen; omega) (by omega) (by simp; omega)
  have hown0 := own_below hown1 (((Below.refl _ w1).drew).alloc (Nat.le_refl _) (.cells #[.int .i64 (optI a), .int .i64 (optI b)] 41))
  have keep : ∀ (k : Nat) (vs : List Value) (t : TypeId), Blk (w1.drew.alloc (.cells #[.int .i64 (optI a), .int .i64 (optI b)] 41)) k vs t → t ≠ 41 → Blk w2 k vs t := fun k vs t hb ht => by
    refine (hgrow.block k hb.lt ?_).trans hb
    rcases hown0.2 with ⟨e0, _⟩ | ⟨g, cap, cur, e0, _, hgb, _⟩
    · rw [e0]; simp [Value.ownBlock]
    · rw [e0]
      intro e'
      obtain rfl : k = g := by simpa [Value.ownBlock] using e'
      have := (show (w1.drew.alloc (.cells #[.int .i64 (optI a), .int .i64 (optI b)] 41)).heap[k]? = _ from hb).symm.trans hgb
      simp at this
      exact ht this.2
  have hR3 := keep _ _ _ hR2 (by decide)
  have hbx3 := keep _ _ _ hbx2 (by decide)
  have hS3 : w2.cell? ⟨bx, 0, none⟩ = some (.pointer (some ⟨R, 0, none⟩)) ∧ w2.cell? ⟨R, 6, none⟩ = some ss := ⟨hbx3.cell 0, hR3.cell 6⟩
  obtain ⟨g', cap', rfl⟩ := ownsRow_succ hown'
  have hlow : Below B W w2 := ((hb.mono (by have := hR.lt; omega)).drew.alloc (by exact hsz) _).grown hgrow (by simp; omega) (fun k hk => (hown0.lt k hk).1)
  have hgR : g' ≠ R := by
    rintro rfl
    rcases hown'.2 with ⟨e0, _⟩ | ⟨g, cap, cur, e0, _, hgb, _⟩
    · cases e0
    · cases e0
      have := (show w2.heap[g']? = _ from hR3).symm.trans hgb
      simp at this
  refine last_one (i := 10) (by kernel_rfl) rfl (fun K hK => ?_)
  refine step_append_run rfl (.tmp 25) (.tmp 29) 25 rfl ss (.slice (some ⟨w1.heap.size, 0, none⟩) 1 1) _ rfl rfl hrun ?_
  refine hK.out _ _ (fun _ => hS3) ?_
  clear hK
  try simp only [Act.put, List.setIfInBounds_toArray]
  refine last_one (i := 11) (by kernel_rfl) rfl (fun K hK => ?_)
  go_simp
  refine hK.out _ _ (fun _ => hS3) ?_
  clear hK
  try simp only [Act.put, List.setIfInBounds_toArray, List.set_cons_zero, List.set_cons_succ]
  refine last_one (i := 12) (by kernel_rfl) rfl (fun K hK => ?_)
  go_simp
  refine hK.out _ _ (fun _ => hS3) ?_
  clear hK
  try simp only [Act.put, List.setIfInBounds_toArray, List.set_cons_zero, List.set_cons_succ]
  refine last_one (i := 13) (by kernel_rfl) rfl (fun K hK => ?_)
  go_simp
  refine hK.out _ _ (fun _ => hS3) ?_
  clear hK
  try simp only [Act.put, List.setIfInBounds_toArray, List.set_cons_zero, List.set_cons_succ]
  have e6 := hS3.2
  have f6 := hR3.frozen 6
  refine last_one (i := 14) (by kernel_rfl) rfl (fun K hK => ?_)
  go_simp
  refine hK.out _ _ (fun h => absurd rfl h) ?_
  clear hK
  refine last_done (by kernel_rfl) ?_ _
  have hR4 := hR3.set 6 (.slice (some ⟨g', 0, none⟩) (st.length + 1) cap')
  have hown4 : (w2.setCell ⟨R, 6, none⟩ (.slice (some ⟨g', 0, none⟩) (st.length + 1) cap')).ownsRow B 41 2 (.slice (some ⟨g', 0, none⟩) (st.length + 1) cap') (st.length + 1) (pcells (st ++ [(optI a, optI b)])) := by
    rw [← pcells_snoc]
    exact ownsRow_setCell_other hown' (a := ⟨R, 6, none⟩) (by simp [Value.ownBlock]; exact hgR) _
  have hlow4 := hlow.setCell (p := ⟨R, 6, none⟩) hBR (.slice (some ⟨g', 0, none⟩) (st.length + 1) cap')
  have hkeep4 : ∀ (k : Nat) (vs : List Value) (t : TypeId), Blk W k vs t → t ≠ 41 → k ≠ R → Blk (w2.setCell ⟨R, 6, none⟩ (.slice (some ⟨g', 0, none⟩) (st.length + 1) cap')) k vs t := fun k vs t h1 h2 h3 =>
    (keep k vs t (((h1.below hb).drew).alloc _) h2).far _ h3
  -- what the line is read as
  have hsv : startv s.data.toList = if f = true then (match a, b with | some a, some b => some ((a : Int), (b : Int)) | _, _ => none) else none := by
    unfold startv
    rcases hx.out with ⟨h1, h2⟩ | ⟨h1, h2, h3⟩
    · rw [show startW ++ [32] = (⟨#[115, 116, 97, 114, 116, 32]⟩ : ByteArray).data.toList from rfl, h1, h2, if_pos rfl]
      simp only
      unfold pairv
      rw [← ea.out, ← eb.out]
      cases a <;> cases b <;> rfl
    · rw [show startW ++ [32] = (⟨#[115, 116, 97, 114, 116, 32]⟩ : ByteArray).data.toList from rfl, h1, h3, if_neg (by decide)]
  have hq : ∀ q, startv s.data.toList = some q → (optI a, optI b) = q := by
    intro q hq
    rw [hsv] at hq
    cases f <;> cases a <;> cases b <;> simp_all [optI]
  have hbit : (startv s.data.toList).isSome = (f && (a.isSome && b.isSome)) := by
    rw [hsv]
    cases f <;> cases a <;> cases b <;> rfl
  have HQ := Lib.hid hq
  have HB := Lib.hid hbit
  have HK := Lib.hid hkeep4
  have HO := Lib.hid hown4
  have HR := Lib.hid hR4
  have HLo := Lib.hid hlow4
  clear hq hbit hsv hkeep4 hown4 hR4 hlow4 keep hrun hown' hgrow hown0 hR3 hbx3 hR2 hbx2 hown1 hR1 hbx1 hS0 hS2 hS3 d0 d6 e6 f6
  generalize w2.setCell ⟨R, 6, none⟩ (.slice (some ⟨g', 0, none⟩) (st.length + 1) cap') = V at *
  cases f with
  | false =>
    go_wp2_with fail
    go_ret
    exact ⟨(optI a, optI b), _, by rw [HB.out]; rfl, HQ.out, HLo.out, HR.out, HO.out, HK.out⟩
  | true =>
    go_wp2_with fail
    go_ret
    exact ⟨(optI a, optI b), _, by rw [HB.out]; rfl, HQ.out, HLo.out, HR.out, HO.out, HK.out⟩

end

section
open Go.RowKit Go.Lib

theorem Two.grown {R : Nat} {a b : World} (h : Two R R a b) : a.grownBy b (some R) := ⟨h.os, h.tape, h.output, h.size, fun k hk hR => h.block k hk (fun e => hR (by rw [e])) (fun e => hR (by rw [e]))⟩
theorem own_ne {w : World} {R B k n : Nat} {vs xs : List Value} {t e : TypeId} {v : Value} (h : Blk w R vs t) (ho : w.ownsRow B e k v n xs) (ht : t ≠ e) : v.ownBlock ≠ some R := by
  rcases ho.2 with ⟨e0, _⟩ | ⟨g, cap, cur, e0, _, hgb, _⟩
  · rw [e0]; simp [Value.ownBlock]
  · rw [e0]
    intro e'
    obtain rfl : g = R := by simpa [Value.ownBlock] using e'
    have := (show w.heap[g]? = _ from h).symm.trans hgb
    simp at this
    exact ht this.2
/-- How things stand between starts. -/
structure StIn (B R G : Nat) (w h : Nat) (nm sc : Value) (N : Nat) (cs : List C3) (rest : ByteArray) (W : World) (st : List (Int × Int)) (r' : ByteArray) (ss : Value) (V : World) : Prop where
  eq : startsv (tailB rest.data.toList) [] (linesB rest.data.toList) = startsv (tailB rest.data.toList) st (linesB r'.data.toList)
  small : r'.size ≤ 32768
  tail : tailB r'.data.toList = tailB rest.data.toList
  lines : st.length + (linesB r'.data.toList).length ≤ N
  rd : RdAt V R r' ((N - (linesB r'.data.toList).length : Nat) : Int) nm w h sc ss
  cb : CB V G cs
  low : Below B W V
  own : V.ownsRow B 41 2 ss st.length (pcells st)
  bx : Blk V W.heap.size [.pointer (some ⟨R, 0, none⟩)] 94
/-- What reading the starts leaves. -/
def StsPost (B R G : Nat) (W : World) (N : Nat) (nm : Value) (w h : Nat) (sc : Value) (cs : List C3) (res : Res (List (Int × Int))) (e : Ending) (w' : World) : Prop := Below B W w' ∧
  ((∃ st ss r' line, e = .returned (.int .i64 0) ∧ res = .ok st [] ∧ st.length ≤ N ∧ RdAt w' R r' line nm w h sc ss ∧ CB w' G cs ∧ w'.ownsRow B 41 2 ss st.length (pcells st)) ∨
   (∃ err ls', e = .returned (.int .i64 err) ∧ ((res = .cut ∧ ls' = 0 ∧ err = 4) ∨ (∃ l2, res = .bad l2 ∧ ls' = l2.length ∧ err = 5)) ∧ w'.cell? ⟨R, 1, none⟩ = some (.int .i64 ((N - ls' + 1 : Nat) : Int))))

set_option maxRecDepth 100000 in
set_option maxHeartbeats 8000000 in
theorem dstartsP_b (B R G w h : Nat) (cs : List C3) (rest : ByteArray) (nm sc : Value) (N : Nat) (W : World) (hE : EnvM W) (h30 : 12 ≤ B) (hBR : B ≤ R) (_hBG : B ≤ G) (hRG : R ≠ G) (hs : rest.size ≤ 32768) (hN : (linesB rest.data.toList).length ≤ N) (hN2 : N ≤ 100000)
    (hR : RdAt W R rest ((N - (linesB rest.data.toList).length : Nat) : Int) nm w h sc (.slice none 0 0)) (hC : CB W G cs) :
    Calls Tryz.prog 45 #[.pointer (some ⟨R, 0, none⟩)] W (StsPost B R G W N nm w h sc cs (startsv (tailB rest.data.toList) [] (linesB rest.data.toList))) := by
  have hLR : R < W.heap.size := Blk.lt hR
  have hL := (Below.refl W.heap.size W).alloc (Nat.le_refl _) (.cells #[.pointer (some ⟨R, 0, none⟩)] 94)
  have bx := Blk.new W [.pointer (some ⟨R, 0, none⟩)] 94
  have hIn : StIn B R G w h nm sc N cs rest W [] rest (.slice none 0 0) (W.alloc (.cells #[.pointer (some ⟨R, 0, none⟩)] 94)) :=
    ⟨rfl, hs, rfl, by simpa using hN, Blk.below hR hL, Blk.below hC hL, hL.mono (by omega), World.ownsRow_nil _ _ _ _, bx⟩
  have HIN := Lib.hid hIn
  clear hR hC bx hL hIn
  go_enter Tryz.func45, Tryz.ntmps45
  go_wp2_with fail
  go_loopw [] (fun wr => ∃ st r' ss, StIn B R G w h nm sc N cs rest W st r' ss wr) (fun wr => match wr.cell? ⟨R, 0, none⟩ with | some (.string b) => b.size | _ => 0)
  case atStart => exact ⟨[], rest, .slice none 0 0, HIN.out⟩
  case round =>
    clear HIN
    obtain ⟨st, r', ss, hI⟩ := hrel
    obtain ⟨n0, -⟩ := hI.bx.one
    have d0 := Blk.cell hI.rd 0
    simp only [RdV, List.getElem?_cons_zero] at d0
    by_cases h0 : r'.size = 0
    · obtain rfl := ba_zero h0
      have hnil : linesB (ByteArray.mk #[]).data.toList = [] ∧ tailB (ByteArray.mk #[]).data.toList = [] := linesB_nil
      have HE : Hid (StsPost B R G W N nm w h sc cs (startsv (tailB rest.data.toList) [] (linesB rest.data.toList)) (.returned (.int .i64 0)) wr) := hid
        ⟨hI.low, .inl ⟨st, ss, _, _, rfl, by rw [hI.eq, hnil.1, ← hI.tail, hnil.2, startsv, if_pos rfl], by have := hI.lines; omega, hI.rd, hI.cb, hI.own⟩⟩
      clear hI h0
      go_wp2_with fail
      go_ret
      exact HE.out
    · have hemp := ba_emp h0
      obtain ⟨xl, e1⟩ : ∃ q, Hid (q = bs (cutC 10 r'.data.toList).1) := ⟨_, hid rfl⟩
      obtain ⟨yr, e2⟩ : ∃ q, Hid (q = bs (cutC 10 r'.data.toList).2.1) := ⟨_, hid rfl⟩
      obtain ⟨fl, e3⟩ : ∃ q, Hid (q = (cutC 10 r'.data.toList).2.2) := ⟨_, hid rfl⟩
      have hrs : r'.data.toList.length = r'.size := (Lib.size_eq r').symm
      have hcl := cutC_le (c := 10) r'.data.toList
      have hsm := hI.small
      have hlx := hI.lines
      have hxs : xl.size ≤ 32768 := by rw [e1.out, bs_size]; omega
      have hys : yr.size ≤ 32768 := by rw [e2.out, bs_size]; omega
      obtain ⟨line, hline⟩ : ∃ q : Int, q = ((N - (linesB r'.data.toList).length : Nat) : Int) := ⟨_, rfl⟩
      have hrd : Blk wr R (RdV r' line [nm, .int .i64 w, .int .i64 h, sc, ss]) 68 := by rw [hline]; exact hI.rd
      have hEV : EnvM wr := hE.keep30 (hI.low.mono h30)
      have hnb : W.heap.size ≠ R := by omega
      have hc := dread_b R r' xl yr fl line [nm, .int .i64 w, .int .i64 h, sc, ss] 81 #[.pointer (some ⟨W.heap.size, 0, none⟩)] wr hEV (by omega) hrd hsm (by omega) (by omega) e1 e2 e3
        (enters_of Tryz.func81 (by kernel_rfl) rfl)
        (fun b w2 => ∃ p ss', b = (startv xl.data.toList).isSome ∧ (∀ q, startv xl.data.toList = some q → p = q) ∧ Below B wr w2 ∧ Blk w2 R (RdV r' (line + 1) [nm, .int .i64 w, .int .i64 h, sc, ss']) 68 ∧
          w2.ownsRow B 41 2 ss' (st.length + 1) (pcells (st ++ [p])) ∧ CB w2 G cs ∧ Blk w2 W.heap.size [.pointer (some ⟨R, 0, none⟩)] 94)
        (fun _ w1 hB1 _ hE1 _ hT1 => by
          have ho1 := hI.own.kept hT1.grown (.inr (own_ne hrd hI.own (by decide)))
          have hC1 : CB w1 G cs := Blk.two_ hI.cb hT1 (Ne.symm hRG) (Ne.symm hRG)
          have hb1 := Blk.two_ hI.bx hT1 hnb hnb
          refine (dstarts1_b B R W.heap.size r' (line + 1) nm (.int .i64 w) (.int .i64 h) sc ss st xl hxs w1 hE1 h30 hB1 hb1 hnb hBR (by omega) ho1 (by omega)).mono ?_
          rintro e w2 ⟨p, ss', rfl, q1, q2, q3, q4, q5⟩
          exact ⟨_, _, rfl, ⟨p, ss', rfl, q1, (hT1.below hBR hBR (by have := hrd.lt; omega)).trans q2, q3, q4, q5 G _ _ hC1 (by decide) (Ne.symm hRG), q5 _ _ _ hb1 (by decide) hnb⟩, q3⟩)
      have HC := Lib.hid hc
      have HI := Lib.hid hI
      clear hc hI hEV hcl hrs hrd
      go_wp2_with fail
      refine Calls.mono HC.out ?_
      intro e w' hp
      clear HC
      have hI := HI.out
      rcases hp with ⟨hf, rfl, hB, hT⟩ | ⟨hf, vs', rfl, ⟨p, ss', q1, q2, q3, q4, q5, q6, q7⟩, -⟩ | ⟨hf, w2, vs', rfl, ⟨p, ss', q1, q2, q3, q4, q5, q6, q7⟩, -, rfl⟩
      · have hno := linesB_no (e3.out.symm.trans hf)
        have hcl := Blk.cell hB 1
        simp only [RdV, List.getElem?_cons_zero, List.getElem?_cons_succ] at hcl
        have htl : ¬ tailB rest.data.toList = [] := by
          rw [← hI.tail, hno.2]; intro h; apply h0; rw [Lib.size_eq, h]; rfl
        have HE : Hid (StsPost B R G W N nm w h sc cs (startsv (tailB rest.data.toList) [] (linesB rest.data.toList)) (.returned (.int .i64 4)) w') := hid
          ⟨hI.low.trans (hT.below hBR hBR (by have := hI.rd.lt; omega)), .inr ⟨4, 0, rfl, .inl ⟨by rw [hI.eq, hno.1, startsv, if_neg htl], rfl, rfl⟩, by rw [hcl, hline, hno.1]; rfl⟩⟩
        clear hline hI hcl hB hT
        go_wp2_with fail
        go_ret
        exact HE.out
      · have hyes := linesB_yes (e3.out.symm.trans hf)
        have hcl := Blk.cell q4 1
        simp only [RdV, List.getElem?_cons_zero, List.getElem?_cons_succ] at hcl
        rw [e1.out, bs_list] at q1
        have hno : startv (cutC 10 r'.data.toList).1 = none := by
          cases hq : startv (cutC 10 r'.data.toList).1 with
          | none => rfl
          | some r => rw [hq] at q1; cases q1
        have HE : Hid (StsPost B R G W N nm w h sc cs (startsv (tailB rest.data.toList) [] (linesB rest.data.toList)) (.returned (.int .i64 5)) w') := hid
          ⟨hI.low.trans q3, .inr ⟨5, _, rfl, .inr ⟨_, by rw [hI.eq, hyes.1, startsv, hno], rfl, rfl⟩, by rw [hcl, hline, hyes.1]; rfl⟩⟩
        clear hline hI hcl q1 q2 q3 q4 q5 q6 q7
        go_wp2_with fail
        go_ret
        exact HE.out
      · have hyes := linesB_yes (e3.out.symm.trans hf)
        have hy2 : (cutC 10 r'.data.toList).2.1 = yr.data.toList := by rw [e2.out, bs_list]
        rw [hy2] at hyes
        have hx2 : xl.data.toList = (cutC 10 r'.data.toList).1 := by rw [e1.out, bs_list]
        rw [hx2] at q1 q2
        obtain ⟨n, hn⟩ : ∃ n, startv (cutC 10 r'.data.toList).1 = some n := by
          cases hq : startv (cutC 10 r'.data.toList).1 with
          | none => rw [hq] at q1; cases q1
          | some r => exact ⟨r, rfl⟩
        obtain rfl := q2 n hn
        have hyl : yr.size < r'.size := by
          have := cutC_len r'.data.toList (e3.out.symm.trans hf)
          rw [e2.out, bs_size, ← (Lib.size_eq r').symm]
          omega
        rw [hyes.1] at hlx hline
        simp only [List.length_cons] at hlx hline
        have hrd2 := q4.set 0 (.string yr)
        rw [hline] at hrd2
        have d9 := hrd2.cell 0
        simp only [RdV, List.set_cons_zero, List.getElem?_cons_zero] at d9
        have HN : Hid (StIn B R G w h nm sc N cs rest W (st ++ [p]) yr ss' (w2.setCell ⟨R, 0, none⟩ (.string yr))) := hid
          ⟨by rw [hI.eq, hyes.1, startsv, hn], hys, hyes.2.symm.trans hI.tail, by rw [List.length_append]; simp only [List.length_cons, List.length_nil]; omega,
            by rw [show ((N - (linesB yr.data.toList).length : Nat) : Int) = ((N - ((linesB yr.data.toList).length + 1) : Nat) : Int) + 1 by omega]; exact hrd2, Blk.far q6 (.string yr) (Ne.symm hRG),
            (hI.low.trans q3).setCell (p := ⟨R, 0, none⟩) hBR _, by rw [List.length_append]; exact ownsRow_setCell_other q5 (a := ⟨R, 0, none⟩) (own_ne q4 q5 (by decide)) _, Blk.far q7 (.string yr) hnb⟩
        clear hline hI q1 q2 q3 q4 q5 q6 q7 hn hrd2 hyes hy2 hx2
        go_wp2_with fail
        go_roundw
        case rel => exact ⟨_, yr, ss', HN.out⟩
        case measure => rw [d9, d0]; exact hyl

end

section
open Go.RowKit Go.Lib

/-- What reading the first line leaves. -/
def HeadPost (_B R : Nat) (rest : ByteArray) (line : Int) (s : ByteArray) (W : World) (e : Ending) (w' : World) : Prop := e = .returned (.bool (headv s.data.toList).isSome) ∧ Two R R W w' ∧ (∃ vs, Blk w' R (RdV rest line vs) 68) ∧
  (∀ nm w h, headv s.data.toList = some (nm, w, h) → ∃ G, W.heap.size ≤ G ∧ (1 ≤ w ∧ w ≤ 32 ∧ 1 ≤ h ∧ h ≤ 32) ∧ RdAt w' R rest line (.string (bs nm)) w h (.slice (some ⟨G, 0, none⟩) (h * w) (h * w)) (.slice none 0 0) ∧ CB w' G (List.replicate (w * h) C3.zero))
theorem zero_cells (n : Nat) : ccells (List.replicate n C3.zero) = List.replicate (n * 3) (.int .i64 0) := by
  induction n with
  | zero => rfl
  | succ n ih =>
    rw [List.replicate_succ]
    show _ :: _ :: _ :: ccells (List.replicate n C3.zero) = _
    rw [ih, Nat.succ_mul, show n * 3 + 3 = n * 3 + 1 + 1 + 1 from rfl, List.replicate_succ, List.replicate_succ, List.replicate_succ]
    rfl

theorem made_three (n : Nat) : (madeCells (Value.cells (.agg #[.int .i64 0, .int .i64 0, .int .i64 0])) n).toList = List.replicate n (.int .i64 0) := by
  refine List.eq_replicate_iff.2 ⟨by rw [Array.length_toList, size_madeCells], fun v hv => ?_⟩
  unfold madeCells at hv
  rw [Array.toList_map, List.mem_map] at hv
  obtain ⟨j, -, rfl⟩ := hv
  show (#[Value.int .i64 0, .int .i64 0, .int .i64 0] : Array Value)[j % 3]! = _
  have hj : j % 3 < 3 := Nat.mod_lt _ (by decide)
  obtain h | h | h : j % 3 = 0 ∨ j % 3 = 1 ∨ j % 3 = 2 := by omega
  all_goals (rw [h]; rfl)
theorem made_zero {W : World} {B G n : Nat} (h : W.ownsRow B 44 3 (.slice (some ⟨G, 0, none⟩) n n) n (madeCells (Value.cells (.agg #[.int .i64 0, .int .i64 0, .int .i64 0])) (n * 3)).toList) : CB W G (List.replicate n C3.zero) := by
  rcases h.2 with ⟨e0, _⟩ | ⟨g, cap, cur, e0, _, hgb, _, _, hsz, htk⟩
  · cases e0
  · cases e0
    rw [made_three, List.take_of_length_le (by rw [Array.length_toList, hsz]; exact Nat.le_refl _)] at htk
    unfold CB Blk
    rw [zero_cells, ← htk, Array.toArray_toList]
    exact hgb

set_option maxRecDepth 100000 in
set_option maxHeartbeats 8000000 in
theorem dhead1_b (B R bx : Nat) (rest : ByteArray) (line : Int) (s : ByteArray) (hs : s.size ≤ 32768) (W : World) (hE : EnvM W) (_h30 : 12 ≤ B) (hR : Blk W R (RdV rest line [.string ⟨#[]⟩, .int .i64 0, .int .i64 0, .slice none 0 0, .slice none 0 0]) 68) (hbx : Blk W bx [.pointer (some ⟨R, 0, none⟩)] 94) (hne : bx ≠ R) (_hBR : B ≤ R) :
    Calls Tryz.prog 71 #[.string s, .pointer (some ⟨bx, 0, none⟩)] W (HeadPost B R rest line s W) := by
  obtain ⟨x, f, hx, hxs⟩ := strip_cases ⟨#[109, 97, 112, 32]⟩ s
  obtain ⟨nm, en⟩ : ∃ q, Hid (q = bs (cutC 32 x.data.toList).1) := ⟨_, hid rfl⟩
  obtain ⟨sd, es⟩ : ∃ q, Hid (q = bs (cutC 32 x.data.toList).2.1) := ⟨_, hid rfl⟩
  obtain ⟨fc, ef⟩ : ∃ q, Hid (q = (cutC 32 x.data.toList).2.2) := ⟨_, hid rfl⟩
  obtain ⟨a, ea⟩ : ∃ q, Hid (q = numR (cutC 32 sd.data.toList).1 1 32) := ⟨_, hid rfl⟩
  obtain ⟨b, eb⟩ : ∃ q, Hid (q = numR (cutC 32 sd.data.toList).2.1 1 32) := ⟨_, hid rfl⟩
  obtain ⟨nb, enb⟩ : ∃ q, Hid (q = nameB nm.data.toList) := ⟨_, hid rfl⟩
  have hcl := cutC_le (c := 32) x.data.toList
  have hxl : x.data.toList.length = x.size := (Lib.size_eq x).symm
  have hns : nm.size ≤ 100000 := by rw [en.out, bs_size]; omega
  have hds : sd.size ≤ 100000 := by rw [es.out, bs_size]; omega
  have hhv : headv s.data.toList = if f = true then (if nb = true then (match a, b with | some a, some b => some (nm.data.toList, a, b) | _, _ => none) else none) else none := by
    unfold headv
    rcases hx.out with ⟨h1, h2⟩ | ⟨h1, h2, h3⟩
    · rw [show mapW ++ [32] = (⟨#[109, 97, 112, 32]⟩ : ByteArray).data.toList from rfl, h1, h2, if_pos rfl]
      simp only
      have e1 : (cutC 32 x.data.toList).1 = nm.data.toList := by rw [en.out, bs_list]
      have e2 : (cutC 32 x.data.toList).2.1 = sd.data.toList := by rw [es.out, bs_list]
      rw [e1, e2, ← enb.out]
      unfold pairv
      rw [← ea.out, ← eb.out]
      cases nb <;> cases a <;> cases b <;> rfl
    · rw [show mapW ++ [32] = (⟨#[109, 97, 112, 32]⟩ : ByteArray).data.toList from rfl, h1, h3, if_neg (by decide)]
  have HV := Lib.hid hhv
  clear hhv hcl hxl
  go_enter Tryz.func71, Tryz.ntmps71
  go_wp2_with fail
  ((with_reducible refine (prefix_b s _ x f _ hx).mono ?_); rintro e w1 ⟨rfl, rfl⟩)
  go_wp2_with fail
  ((with_reducible refine (cut_b x 32 nm sd fc _ hE (by omega) en es ef).mono ?_); rintro e w1 ⟨rfl, hb1⟩)
  go_wp2_with fail
  ((with_reducible refine (dpair1_b sd a b _ (hE.keep hb1) (by omega) ea eb).mono ?_); rintro e w2 ⟨rfl, hb2⟩)
  have hb := below_call hb1 hb2
  have hR2 := hR.below hb
  have hbx2 := hbx.below hb
  clear hb1 hb2
  have HNO : (headv s.data.toList).isSome = false → HeadPost B R rest line s W (.returned (.bool false)) w2 := fun h0 =>
    ⟨by rw [h0], Two.of_below hb, ⟨_, hR2⟩, fun n w h e => by rw [e] at h0; cases h0⟩
  have HN := Lib.hid HNO
  clear HNO
  cases f with
  | false =>
    have HE := Lib.hid (HN.out (by rw [HV.out]; first | rfl | simp))
    clear HN
    go_wp2_with fail
    go_ret
    exact HE.out
  | true =>
    go_wp2_with fail
    ((with_reducible refine (disname_b nm nb _ hns enb).mono ?_); rintro e w3 ⟨rfl, rfl⟩)
    cases nb with
    | false =>
      have HE := Lib.hid (HN.out (by rw [HV.out]; first | rfl | simp))
      clear HN
      go_wp2_with fail
      go_ret
      exact HE.out
    | true =>
      cases hab : (a.isSome && b.isSome) with
      | false =>
        have HE := Lib.hid (HN.out (by rw [HV.out]; cases a <;> cases b <;> first | rfl | (simp at hab) | simp))
        clear HN
        go_wp2_with fail
        go_ret
        exact HE.out
      | true =>
        obtain ⟨w, rfl⟩ : ∃ w, a = some w := by cases a with | none => simp at hab | some w => exact ⟨w, rfl⟩
        obtain ⟨h, rfl⟩ : ∃ h, b = some h := by cases b with | none => simp at hab | some h => exact ⟨h, rfl⟩
        obtain ⟨-, w1, w32⟩ := numR_some ea.out.symm
        obtain ⟨-, h1, h32⟩ := numR_some eb.out.symm
        clear HN hab
        obtain ⟨d0, -⟩ := hbx2.one
        have f2 := hR2.frozen 2
        have c2 := hR2.cell 2
        simp only [RdV, List.getElem?_cons_zero, List.getElem?_cons_succ] at c2
        have hR3 := hR2.set 2 (.string nm)
        have hbx3 := hbx2.far (c := R) (i := 2) (.string nm) hne
        go_wp2_with fail
        simp only [show optI (some w) = (w : Int) from rfl, show optI (some h) = (h : Int) from rfl]
        generalize hV : w2.setCell ⟨R, 2, none⟩ (.string nm) = V at *
        have hlV : Two R R W V := by rw [← hV]; exact (Two.of_below hb).trans (Two.set w2 ⟨R, 2, none⟩ (.string nm) (.inl rfl))
        have hsV : W.heap.size ≤ V.heap.size := hlV.size
        clear hV d0 c2 f2
        obtain ⟨d0, -⟩ := hbx3.one
        obtain ⟨i0, hi, hz0, hz1, hz2⟩ := info_cut infoCell
        have hwh : w * h ≤ 1024 := Nat.mul_le_mul w32 h32
        obtain ⟨W5, hmk, hown, hg⟩ := run_make_full V.drew V.heap.size 22 44 i0 (.agg #[.int .i64 0, .int .i64 0, .int .i64 0]) 3 Tryz.underlying22 hi hz0 hz1 .i64 .i64 (w * h) (by rw [hz2]; omega) (by unfold maxLen; omega) (Nat.le_refl _)
        rw [Int.natCast_mul] at hmk
        have hwr : IntKind.i64.wrap ((w : Int) * h) = (w : Int) * h := by
          have h1 : (w : Int) * h = ((w * h : Nat) : Int) := (Int.natCast_mul w h).symm
          rw [h1]; simp [IntKind.wrap, IntKind.signed, IntKind.bits]; omega
        have hmx : Tryz.prog.follows .mixedOrders = true := by kernel_rfl
        have hS0 : V.drew.cell? ⟨bx, 0, none⟩ = some (.pointer (some ⟨R, 0, none⟩)) := d0
        have hR5 := hR3.drew.grown hg (fun k e => by cases e)
        have hbx5 := hbx3.drew.grown hg (fun k e => by cases e)
        have hS5 : W5.cell? ⟨bx, 0, none⟩ = some (.pointer (some ⟨R, 0, none⟩)) := hbx5.cell 0
        refine wp_region_any hmx (wpAny_of_last (x := 11) (S := fun w' => w'.cell? ⟨bx, 0, none⟩ = some (.pointer (some ⟨R, 0, none⟩))) _ _ _ _ ?_)
        show wpAnyL _ _ _ _ _ _ _ _ _ V.drew
        refine last_take (x := 11) (hl := by kernel_rfl) (hix := by decide) (i := 0) (v := .pointer (some ⟨R, 0, none⟩)) _ rfl rfl (by kernel_rfl) (by kernel_rfl) (by kernel_rfl) (fun _ _ _ h => h) (by rfl) (fun w' hS => by go_simp) hS0 ?_
        try simp only [Act.put, List.setIfInBounds_toArray]
        refine last_take (x := 11) (hl := by kernel_rfl) (hix := by decide) (i := 1) (v := .int .i64 w) _ rfl rfl (by kernel_rfl) (by kernel_rfl) (by kernel_rfl) (fun _ _ _ h => h) (by rfl) (fun w' hS => by go_simp) hS0 ?_
        try simp only [Act.put]
        refine last_take (x := 11) (hl := by kernel_rfl) (hix := by decide) (i := 2) (v := .int .i64 h) _ rfl rfl (by kernel_rfl) (by kernel_rfl) (by kernel_rfl) (fun _ _ _ h => h) (by rfl) (fun w' hS => by go_simp) hS0 ?_
        try simp only [Act.put]
        refine last_take (x := 11) (hl := by kernel_rfl) (hix := by decide) (i := 3) (v := .int .i64 w) _ rfl rfl (by kernel_rfl) (by kernel_rfl) (by kernel_rfl) (fun _ _ _ h => h) (by rfl) (fun w' hS => by go_simp) hS0 ?_
        try simp only [Act.put]
        refine last_take (x := 11) (hl := by kernel_rfl) (hix := by decide) (i := 4) (v := .int .i64 h) _ rfl rfl (by kernel_rfl) (by kernel_rfl) (by kernel_rfl) (fun _ _ _ h => h) (by rfl) (fun w' hS => by go_simp) hS0 ?_
        try simp only [Act.put]
        refine last_take (x := 11) (hl := by kernel_rfl) (hix := by decide) (i := 5) (v := .int .i64 ((w : Int) * h)) _ rfl rfl (by kernel_rfl) (by kernel_rfl) (by kernel_rfl) (fun _ _ _ h => h) (by rfl) (fun w' hS => by go_simp) hS0 ?_
        try simp only [Act.put]
        refine last_one (i := 6) (by kernel_rfl) rfl (fun K hK => ?_)
        go_simp
        refine hK.out _ _ (fun _ => hS5) ?_
        clear hK
        try simp only [Act.put, List.setIfInBounds_toArray, List.set_cons_zero, List.set_cons_succ]
        refine last_one (i := 7) (by kernel_rfl) rfl (fun K hK => ?_)
        go_simp
        refine hK.out _ _ (fun _ => hS5) ?_
        clear hK
        try simp only [Act.put, List.setIfInBounds_toArray, List.set_cons_zero, List.set_cons_succ]
        refine last_one (i := 8) (by kernel_rfl) rfl (fun K hK => ?_)
        go_simp
        refine hK.out _ _ (fun _ => hS5) ?_
        clear hK
        try simp only [Act.put, List.setIfInBounds_toArray, List.set_cons_zero, List.set_cons_succ]
        refine last_one (i := 9) (by kernel_rfl) rfl (fun K hK => ?_)
        go_simp
        refine hK.out _ _ (fun _ => hS5) ?_
        clear hK
        try simp only [Act.put, List.setIfInBounds_toArray, List.set_cons_zero, List.set_cons_succ]
        refine last_one (i := 10) (by kernel_rfl) rfl (fun K hK => ?_)
        go_simp
        refine hK.out _ _ (fun _ => hS5) ?_
        clear hK
        try simp only [Act.put, List.setIfInBounds_toArray, List.set_cons_zero, List.set_cons_succ]
        have g3 := hR5.frozen 3
        have g4 := hR5.frozen 4
        have g5 := hR5.frozen 5
        have c3 := hR5.cell 3
        have c4 := hR5.cell 4
        have c5 := hR5.cell 5
        simp only [RdV, List.set_cons_zero, List.set_cons_succ, List.getElem?_cons_zero, List.getElem?_cons_succ] at c3 c4 c5
        refine last_one (i := 11) (by kernel_rfl) rfl (fun K hK => ?_)
        go_simp
        refine hK.out _ _ (fun h => absurd rfl h) ?_
        clear hK
        refine last_done (by kernel_rfl) ?_ _
        have hcb : CB W5 V.heap.size (List.replicate (w * h) C3.zero) := made_zero hown
        have hR6 : RdAt (((W5.setCell ⟨R, 3, none⟩ (.int .i64 w)).setCell ⟨R, 4, none⟩ (.int .i64 h)).setCell ⟨R, 5, none⟩ (.slice (some ⟨V.heap.size, 0, none⟩) (w * h) (w * h))) R rest line (.string nm) w h (.slice (some ⟨V.heap.size, 0, none⟩) (w * h) (w * h)) (.slice none 0 0) :=
          ((hR5.set 3 (.int .i64 w)).set 4 (.int .i64 h)).set 5 (.slice (some ⟨V.heap.size, 0, none⟩) (w * h) (w * h))
        have hRV : R < V.heap.size := hR3.lt
        have hcb6 := ((Blk.far hcb (c := R) (i := 3) (.int .i64 w) (by omega)).far (c := R) (i := 4) (.int .i64 h) (by omega)).far (c := R) (i := 5) (.slice (some ⟨V.heap.size, 0, none⟩) (w * h) (w * h)) (by omega)
        have hl5 : Two R R W W5 := (hlV.trans (Two.of_below (Below.refl _ V).drew)).row (B := W.heap.size) hg (Nat.le_refl _) (fun k e => by cases e)
        have hl6 := ((hl5.trans (Two.set W5 ⟨R, 3, none⟩ (.int .i64 w) (.inl rfl))).trans (Two.set (W5.setCell ⟨R, 3, none⟩ (.int .i64 w)) ⟨R, 4, none⟩ (.int .i64 h) (.inl rfl))).trans (Two.set ((W5.setCell ⟨R, 3, none⟩ (.int .i64 w)).setCell ⟨R, 4, none⟩ (.int .i64 h)) ⟨R, 5, none⟩ (.slice (some ⟨V.heap.size, 0, none⟩) (w * h) (w * h)) (.inl rfl))
        have hhv : headv s.data.toList = some (nm.data.toList, w, h) := by rw [HV.out]; simp
        have HE : Hid (HeadPost B R rest line s W (.returned (.bool true)) (((W5.setCell ⟨R, 3, none⟩ (.int .i64 w)).setCell ⟨R, 4, none⟩ (.int .i64 h)).setCell ⟨R, 5, none⟩ (.slice (some ⟨V.heap.size, 0, none⟩) (w * h) (w * h)))) := hid
          ⟨by rw [hhv]; rfl, hl6, ⟨_, hR6⟩, fun n w' h' e => by
            rw [hhv] at e
            cases e
            exact ⟨V.heap.size, hsV, ⟨w1, w32, h1, h32⟩, by rw [bs_of, Nat.mul_comm h w]; exact hR6, hcb6⟩⟩
        clear hcb hR6 hcb6 hl6 hhv HV hmk hown hg hR5 hbx5 hS5 hS0 c3 c4 c5 g3 g4 g5
        show Exit.then _ _ Exit.normal _ _
        go_wp2_with fail
        go_ret
        exact HE.out

end

section
open Go.RowKit Go.Lib

/-- What head leaves. -/
def HdPost (_B R : Nat) (W : World) (N : Nat) (tl : List UInt8) (res : Res (List UInt8 × Nat × Nat)) (e : Ending) (w' : World) : Prop := Two R R W w' ∧
  ((∃ nm w h G r', e = .returned (.int .i64 0) ∧ res = .ok (nm, w, h) (linesB r'.data.toList) ∧ (1 ≤ w ∧ w ≤ 32 ∧ 1 ≤ h ∧ h ≤ 32) ∧ W.heap.size ≤ G ∧ r'.size ≤ 32768 ∧ tailB r'.data.toList = tl ∧ (linesB r'.data.toList).length ≤ N ∧
      RdAt w' R r' ((N - (linesB r'.data.toList).length : Nat) : Int) (.string (bs nm)) w h (.slice (some ⟨G, 0, none⟩) (h * w) (h * w)) (.slice none 0 0) ∧ CB w' G (List.replicate (w * h) C3.zero)) ∨
   (∃ err ls', e = .returned (.int .i64 err) ∧ ((res = .cut ∧ ls' = 0 ∧ err = 4) ∨ (∃ l2, res = .bad l2 ∧ ls' = l2.length ∧ err = 5)) ∧ w'.cell? ⟨R, 1, none⟩ = some (.int .i64 ((N - ls' + 1 : Nat) : Int))))

set_option maxRecDepth 100000 in
set_option maxHeartbeats 8000000 in
theorem dheadP_b (B R : Nat) (rest : ByteArray) (N : Nat) (W : World) (hE : EnvM W) (h30 : 12 ≤ B) (hBR : B ≤ R) (hs : rest.size ≤ 32768) (hN : N = (linesB rest.data.toList).length)
    (hR : Blk W R (RdV rest 0 [.string ⟨#[]⟩, .int .i64 0, .int .i64 0, .slice none 0 0, .slice none 0 0]) 68) :
    Calls Tryz.prog 41 #[.pointer (some ⟨R, 0, none⟩)] W (HdPost B R W N (tailB rest.data.toList) (headsv (linesB rest.data.toList))) := by
  have hLR : R < W.heap.size := Blk.lt hR
  have hL := (Below.refl W.heap.size W).alloc (Nat.le_refl _) (.cells #[.pointer (some ⟨R, 0, none⟩)] 94)
  have hbx := Blk.new W [.pointer (some ⟨R, 0, none⟩)] 94
  have hRU := hR.below hL
  obtain ⟨n0, -⟩ := hbx.one
  obtain ⟨xl, e1⟩ : ∃ q, Hid (q = bs (cutC 10 rest.data.toList).1) := ⟨_, hid rfl⟩
  obtain ⟨yr, e2⟩ : ∃ q, Hid (q = bs (cutC 10 rest.data.toList).2.1) := ⟨_, hid rfl⟩
  obtain ⟨fl, e3⟩ : ∃ q, Hid (q = (cutC 10 rest.data.toList).2.2) := ⟨_, hid rfl⟩
  have hrs : rest.data.toList.length = rest.size := (Lib.size_eq rest).symm
  have hcl := cutC_le (c := 10) rest.data.toList
  have hxs : xl.size ≤ 32768 := by rw [e1.out, bs_size]; omega
  have hys : yr.size ≤ 32768 := by rw [e2.out, bs_size]; omega
  have hnb : W.heap.size ≠ R := by omega
  have hc := dread_b R rest xl yr fl 0 [.string ⟨#[]⟩, .int .i64 0, .int .i64 0, .slice none 0 0, .slice none 0 0] 71 #[.pointer (some ⟨W.heap.size, 0, none⟩)] _ (hE.keep hL) (by omega) hRU hs (by omega) (by omega) e1 e2 e3
    (enters_of Tryz.func71 (by kernel_rfl) rfl)
    (fun b w2 => b = (headv xl.data.toList).isSome ∧ Two R R W w2 ∧ (∃ vs, Blk w2 R (RdV rest (0 + 1) vs) 68) ∧
      (∀ nm w h, headv xl.data.toList = some (nm, w, h) → ∃ G, W.heap.size ≤ G ∧ (1 ≤ w ∧ w ≤ 32 ∧ 1 ≤ h ∧ h ≤ 32) ∧ RdAt w2 R rest (0 + 1) (.string (bs nm)) w h (.slice (some ⟨G, 0, none⟩) (h * w) (h * w)) (.slice none 0 0) ∧ CB w2 G (List.replicate (w * h) C3.zero)))
    (fun _ w1 hB1 _ hE1 _ hT1 => by
      have hb1 := Blk.two_ hbx hT1 hnb hnb
      have hl1 : Two R R W w1 := (Two.of_below hL).trans hT1
      refine (dhead1_b B R W.heap.size rest (0 + 1) xl hxs w1 hE1 h30 hB1 hb1 hnb hBR).mono ?_
      rintro e w2 ⟨rfl, q1, ⟨vs, q2⟩, q3⟩
      exact ⟨_, vs, rfl, ⟨rfl, hl1.trans q1, ⟨vs, q2⟩, fun nm w h e => by
        obtain ⟨G, g1, g2⟩ := q3 nm w h e
        exact ⟨G, Nat.le_trans hl1.size g1, g2⟩⟩, q2⟩)
  have HC := Lib.hid hc
  have HL := Lib.hid hL
  clear hc hcl hrs hRU hbx hR hE hL
  go_enter Tryz.func41, Tryz.ntmps41
  go_wp2_with fail
  refine Calls.mono HC.out ?_
  intro e w' hp
  clear HC
  rcases hp with ⟨hf, rfl, hB, hT⟩ | ⟨hf, vs', rfl, ⟨q1, q2, -, q3⟩, q4⟩ | ⟨hf, w2, vs', rfl, ⟨q1, q2, -, q3⟩, q4, rfl⟩
  · have hno := linesB_no (e3.out.symm.trans hf)
    have hcl := Blk.cell hB 1
    simp only [RdV, List.getElem?_cons_zero, List.getElem?_cons_succ] at hcl
    have HE : Hid (HdPost B R W N (tailB rest.data.toList) (headsv (linesB rest.data.toList)) (.returned (.int .i64 4)) w') := hid
      ⟨(Two.of_below HL.out).trans hT, .inr ⟨4, 0, rfl, .inl ⟨by rw [hno.1]; rfl, rfl, rfl⟩, by rw [hcl, hN, hno.1]; rfl⟩⟩
    clear hcl hB hT hN
    go_wp2_with fail
    go_ret
    exact HE.out
  · have hyes := linesB_yes (e3.out.symm.trans hf)
    have hcl := Blk.cell q4 1
    simp only [RdV, List.getElem?_cons_zero, List.getElem?_cons_succ] at hcl
    rw [e1.out, bs_list] at q1
    have hno : headv (cutC 10 rest.data.toList).1 = none := by
      cases hq : headv (cutC 10 rest.data.toList).1 with
      | none => rfl
      | some r => rw [hq] at q1; cases q1
    have HE : Hid (HdPost B R W N (tailB rest.data.toList) (headsv (linesB rest.data.toList)) (.returned (.int .i64 5)) w') := hid
      ⟨q2, .inr ⟨5, _, rfl, .inr ⟨_, by rw [hyes.1, headsv_bad hno], rfl, rfl⟩, by rw [hcl, hN, hyes.1, Nat.sub_self]; rfl⟩⟩
    clear hcl q1 q2 q3 q4 hN
    go_wp2_with fail
    go_ret
    exact HE.out
  · have hyes := linesB_yes (e3.out.symm.trans hf)
    have hy2 : (cutC 10 rest.data.toList).2.1 = yr.data.toList := by rw [e2.out, bs_list]
    rw [hy2] at hyes
    have hx2 : xl.data.toList = (cutC 10 rest.data.toList).1 := by rw [e1.out, bs_list]
    rw [hx2] at q1 q3
    obtain ⟨⟨nm, w, h⟩, hn⟩ : ∃ n, headv (cutC 10 rest.data.toList).1 = some n := by
      cases hq : headv (cutC 10 rest.data.toList).1 with
      | none => rw [hq] at q1; cases q1
      | some r => exact ⟨r, rfl⟩
    obtain ⟨G, g1, g2, g3, g4⟩ := q3 nm w h hn
    have hrd2 := Blk.set g3 0 (.string yr)
    have HE : Hid (HdPost B R W N (tailB rest.data.toList) (headsv (linesB rest.data.toList)) (.returned (.int .i64 0)) (w2.setCell ⟨R, 0, none⟩ (.string yr))) := hid
      ⟨q2.trans (Two.set w2 ⟨R, 0, none⟩ (.string yr) (.inl rfl)), .inl ⟨nm, w, h, G, yr, rfl, by rw [hyes.1, headsv_ok hn], g2, g1, hys, hyes.2.symm, by rw [hN, hyes.1]; simp,
        by rw [show ((N - (linesB yr.data.toList).length : Nat) : Int) = 0 + 1 by rw [hN, hyes.1]; simp only [List.length_cons]; omega]; exact hrd2, Blk.far g4 (.string yr) (by omega)⟩⟩
    clear q1 q2 q3 q4 g3 g4 hrd2 hyes hy2 hx2 hn hN
    go_wp2_with fail
    go_ret
    exact HE.out

end

section
open Go.RowKit Go.Lib

/-- What Parse leaves. -/
def ParsePost (f : F3) (line err : Int) (W : World) (e : Ending) (w' : World) : Prop := ∃ sc ss, e = .returned (.tuple #[fileV f sc ss, .int .i64 line, .int .i64 err]) ∧ RowAt w' sc f.m.cs ∧ PosAt w' ss f.st ∧ CapOk sc ∧ Below W.heap.size W w'
theorem row_nil (w : World) : RowAt w (.slice none 0 0) [] := ⟨none, 0, rfl, by decide, fun h => by simp at h⟩
theorem pos_nil (w : World) : PosAt w (.slice none 0 0) [] := ⟨none, 0, rfl, ⟨by decide, by decide⟩, fun h => by simp at h⟩
theorem cap_nil : CapOk (.slice none 0 0) := fun p n c h => by cases h; exact ⟨by decide, by decide⟩
theorem zero_post {W w' : World} (line err : Int) (hb : Below W.heap.size W w') : ParsePost F3.zero line err W (.returned (.tuple #[.agg #[.string ⟨#[]⟩, .int .i64 0, .int .i64 0, .slice none 0 0, .slice none 0 0], .int .i64 line, .int .i64 err])) w' :=
  ⟨_, _, rfl, row_nil _, pos_nil _, cap_nil, hb⟩

def rest4 (n : Nat) (tl : List UInt8) (nm : List UInt8) (w h : Nat) (c3 : List C3) (l3 : List (List UInt8)) : F3 × Int × Int := andv n (startsv tl [] l3) fun st _ => checkv ⟨nm, ⟨w, h, c3⟩, st⟩
def rest3 (n : Nat) (tl : List UInt8) (nm : List UInt8) (w h : Nat) (c2 : List C3) (l2 : List (List UInt8)) : F3 × Int × Int := andv n (amtsv w [] c2 l2) fun c3 l3 => rest4 n tl nm w h c3 l3
def rest2 (n : Nat) (tl : List UInt8) (nm : List UInt8) (w h : Nat) (c1 : List C3) (l1 : List (List UInt8)) : F3 × Int × Int := andv n (rowsv setH w h [] c1 l1) fun c2 l2 => rest3 n tl nm w h c2 l2
theorem lines_le (s : List UInt8) : (linesB s).length ≤ s.length := by
  have h1 : ∀ ls : List (List UInt8), ls.length ≤ (ls.flatMap (fun l => l ++ [10])).length := by
    intro ls
    induction ls with
    | nil => exact Nat.zero_le _
    | cons l ls ih => rw [List.flatMap_cons, List.length_append, List.length_append, List.length_cons]; simp only [List.length_cons, List.length_nil]; omega
  have h2 := congrArg List.length (text_join s)
  rw [List.length_append] at h2
  have := h1 (linesB s)
  omega
theorem Blk.below_ {B b : Nat} {w w' : World} {vs : List Value} {t : TypeId} (h : Blk w b vs t) (k : Below B w w') (hb : b < B) : Blk w' b vs t := (k.block b hb).trans h
theorem PosAt.own {w : World} {B : Nat} {e : TypeId} {ss : Value} {st : List (Int × Int)} (ho : w.ownsRow B e 2 ss st.length (pcells st)) : PosAt w ss st := by
  obtain ⟨-, ⟨rfl, hn⟩ | ⟨g, cap, cur, rfl, -, -, h1, h2, -⟩⟩ := id ho
  · rw [List.eq_nil_of_length_eq_zero hn]; exact pos_nil w
  · refine ⟨some ⟨g, 0, none⟩, cap, rfl, ⟨h1, h2⟩, fun _ => ⟨g, 0, rfl, fun i hi => ?_⟩⟩
    obtain ⟨a, b⟩ := pcells_at st i hi
    have k0 := ho.cells rfl _ _ a
    have k1 := ho.cells rfl _ _ b
    have hadd : ∀ j, (⟨g, 0, none⟩ : Addr).add j = ⟨g, 0 + j, none⟩ := fun j => by unfold Addr.add; split <;> simp_all
    rw [hadd, Nat.mul_comm] at k0 k1
    exact ⟨k0, by rw [Nat.add_assoc]; exact k1⟩
theorem CB.row {w : World} {G n : Nat} {l : List C3} (h : CB w G l) (hn : l.length = n) (hm : l.length ≤ maxLen) : RowAt w (.slice (some ⟨G, 0, none⟩) n n) l := by
  subst hn
  refine ⟨_, _, rfl, hm, fun _ => ⟨G, 0, rfl, fun i hi => ?_⟩⟩
  rw [Nat.zero_add]
  exact h.cells hi
theorem cap_same (p : Option Addr) (n : Nat) (h : n ≤ maxLen) : CapOk (.slice p n n) := fun _ _ _ e => by
  injection e with _ e2 e3
  subst e2 e3
  exact ⟨Nat.le_refl _, h⟩
theorem heads_name {ls rest : List (List UInt8)} {nm : List UInt8} {w h : Nat} (e : headsv ls = .ok (nm, w, h) rest) : nm.length ≤ 12 := by
  cases ls with
  | nil => cases e
  | cons l ls =>
    rw [headsv] at e
    cases hh : headv l with
    | none => rw [hh] at e; cases e
    | some a =>
      obtain ⟨a, b, c⟩ := a
      rw [hh] at e
      injection e with e1 e2
      injection e1 with e1 e3
      subst e1
      exact (name_len (head_some hh).1).2

set_option maxRecDepth 100000 in
set_option maxHeartbeats 8000000 in
theorem dparse_b (s : ByteArray) (W : World) (hE : EnvM W) (hs0 : s.size ≤ 1000000) :
    Calls Tryz.prog 16 #[.string s] W (ParsePost (parsev s.data.toList).1 (parsev s.data.toList).2.1 (parsev s.data.toList).2.2 W) := by
  have hsl : s.data.toList.length = s.size := (Lib.size_eq s).symm
  have hL0 := (Below.refl W.heap.size W).alloc (Nat.le_refl _) (.cells #[.string ⟨#[]⟩, .int .i64 0, .int .i64 0, .slice none 0 0, .slice none 0 0] 27)
  have hT := Blk.new W [.string ⟨#[]⟩, .int .i64 0, .int .i64 0, .slice none 0 0, .slice none 0 0] 27
  by_cases hlong : 32768 < s.size
  · have hp : parsev s.data.toList = (F3.zero, 0, 2) := by unfold parsev; rw [if_pos (by omega)]
    have z : (32768 : Int) < s.size := by omega
    rw [hp]
    clear hp
    obtain ⟨t0, t1, t2, t3, t4⟩ : _ ∧ _ ∧ _ ∧ _ ∧ _ := ⟨hT.cell 0, hT.cell 1, hT.cell 2, hT.cell 3, hT.cell 4⟩
    simp only [List.getElem?_cons_zero, List.getElem?_cons_succ] at t0 t1 t2 t3 t4
    clear hT
    go_enter Tryz.func16, Tryz.ntmps16
    go_wp2_with fail
    refine bodyPost_ret (v := .tuple #[.agg #[.string ⟨#[]⟩, .int .i64 0, .int .i64 0, .slice none 0 0, .slice none 0 0], .int .i64 0, .int .i64 2]) (by simp [results, Tryz.results16, go_sem, *]) rfl (zero_post 0 2 hL0)
  · have z : ¬ (32768 : Int) < s.size := by omega
    obtain ⟨N, hN⟩ : ∃ N, N = (linesB s.data.toList).length := ⟨_, rfl⟩
    go_enter Tryz.func16, Tryz.ntmps16
    go_wp2_with fail
    refine wp_loop_rounds 6 ?_
    rw [rounds_succ]
    go_wp2_with fail
    have hTY := (hT.alloc (.cells (RdV s 0 [.string ⟨#[]⟩, .int .i64 0, .int .i64 0, .slice none 0 0, .slice none 0 0]).toArray 68)).alloc (.cells #[.func (.func 41) #[.pointer (some ⟨W.heap.size + 1, 0, none⟩)] #[], .func (.func 42) #[.pointer (some ⟨W.heap.size + 1, 0, none⟩)] #[], .func (.func 43) #[.pointer (some ⟨W.heap.size + 1, 0, none⟩)] #[], .func (.func 44) #[.pointer (some ⟨W.heap.size + 1, 0, none⟩)] #[], .func (.func 45) #[.pointer (some ⟨W.heap.size + 1, 0, none⟩)] #[]] 69)
    have hRY := ((Blk.new (W.alloc (.cells #[.string ⟨#[]⟩, .int .i64 0, .int .i64 0, .slice none 0 0, .slice none 0 0] 27)) (RdV s 0 [.string ⟨#[]⟩, .int .i64 0, .int .i64 0, .slice none 0 0, .slice none 0 0]) 68).at (World.size_alloc _ _)).alloc (.cells #[.func (.func 41) #[.pointer (some ⟨W.heap.size + 1, 0, none⟩)] #[], .func (.func 42) #[.pointer (some ⟨W.heap.size + 1, 0, none⟩)] #[], .func (.func 43) #[.pointer (some ⟨W.heap.size + 1, 0, none⟩)] #[], .func (.func 44) #[.pointer (some ⟨W.heap.size + 1, 0, none⟩)] #[], .func (.func 45) #[.pointer (some ⟨W.heap.size + 1, 0, none⟩)] #[]] 69)
    have hFY := (Blk.new ((W.alloc (.cells #[.string ⟨#[]⟩, .int .i64 0, .int .i64 0, .slice none 0 0, .slice none 0 0] 27)).alloc (.cells (RdV s 0 [.string ⟨#[]⟩, .int .i64 0, .int .i64 0, .slice none 0 0, .slice none 0 0]).toArray 68)) [.func (.func 41) #[.pointer (some ⟨W.heap.size + 1, 0, none⟩)] #[], .func (.func 42) #[.pointer (some ⟨W.heap.size + 1, 0, none⟩)] #[], .func (.func 43) #[.pointer (some ⟨W.heap.size + 1, 0, none⟩)] #[], .func (.func 44) #[.pointer (some ⟨W.heap.size + 1, 0, none⟩)] #[], .func (.func 45) #[.pointer (some ⟨W.heap.size + 1, 0, none⟩)] #[]] 69).at ((World.size_alloc _ _).trans (congrArg (· + 1) (World.size_alloc _ _)))
    have hLY := (hL0.alloc hL0.size (.cells (RdV s 0 [.string ⟨#[]⟩, .int .i64 0, .int .i64 0, .slice none 0 0, .slice none 0 0]).toArray 68)).alloc (by simp; omega) (.cells #[.func (.func 41) #[.pointer (some ⟨W.heap.size + 1, 0, none⟩)] #[], .func (.func 42) #[.pointer (some ⟨W.heap.size + 1, 0, none⟩)] #[], .func (.func 43) #[.pointer (some ⟨W.heap.size + 1, 0, none⟩)] #[], .func (.func 44) #[.pointer (some ⟨W.heap.size + 1, 0, none⟩)] #[], .func (.func 45) #[.pointer (some ⟨W.heap.size + 1, 0, none⟩)] #[]] 69)
    simp only [RdV] at hTY hRY hFY hLY
    generalize ((W.alloc (.cells #[.string ⟨#[]⟩, .int .i64 0, .int .i64 0, .slice none 0 0, .slice none 0 0] 27)).alloc (.cells #[.string s, .int .i64 0, .string ⟨#[]⟩, .int .i64 0, .int .i64 0, .slice none 0 0, .slice none 0 0] 68)).alloc (.cells #[.func (.func 41) #[.pointer (some ⟨W.heap.size + 1, 0, none⟩)] #[], .func (.func 42) #[.pointer (some ⟨W.heap.size + 1, 0, none⟩)] #[], .func (.func 43) #[.pointer (some ⟨W.heap.size + 1, 0, none⟩)] #[], .func (.func 44) #[.pointer (some ⟨W.heap.size + 1, 0, none⟩)] #[], .func (.func 45) #[.pointer (some ⟨W.heap.size + 1, 0, none⟩)] #[]] 69) = Y at *
    refine Calls.mono (dheadP_b (W.heap.size + 1) (W.heap.size + 1) s N Y (hE.keep hLY) (by have := hE.big; omega) (Nat.le_refl _) (by omega) hN hRY) ?_
    intro e w1 hp
    have hFlt := hFY.lt
    rcases hp with ⟨hT1, ⟨nm, w, h, G, r', rfl, hres, hbd, hG, hrs, htl, hln, hrd, hcb⟩ | ⟨err, ls', rfl, hres, hcl⟩⟩
    · obtain ⟨hw1, hw2, hh1, hh2⟩ := hbd
      have hRG : W.heap.size + 1 ≠ G := by omega
      have hTw := Blk.two_ hTY hT1 (by omega) (by omega)
      have hFw := Blk.two_ hFY hT1 (by omega) (by omega)
      have hLw : Below W.heap.size W w1 := hLY.trans (hT1.below (by omega) (by omega) (by omega))
      have h30 : 12 ≤ W.heap.size + 1 := by have := hE.big; omega
      have hN2 : N ≤ 100000 := by
        have h1 := lines_le s.data.toList
        omega
      have hnl := heads_name hres
      have HP1 : Hid (parsev s.data.toList = restv N (tailB s.data.toList) nm w h (linesB r'.data.toList)) := hid (by unfold parsev; rw [if_neg (by omega), ← hN, hres]; rfl)
      clear hTY hFY hLY hT1 hRY hT hL0 hres
      obtain ⟨-, k1, k2, k3, k4⟩ : _ ∧ _ ∧ _ ∧ _ ∧ _ := ⟨hFw.cell 0, hFw.cell 1, hFw.cell 2, hFw.cell 3, hFw.cell 4⟩
      simp only [List.getElem?_cons_zero, List.getElem?_cons_succ] at k1 k2 k3 k4
      go_wp2_with fail
      rw [rounds_succ]
      go_wp2_with fail
      refine Calls.mono (dkindsP_b (W.heap.size + 1) G w h _ r' _ _ N hw1 hw2 hh2 (by rw [List.length_replicate, Nat.mul_comm]) w1 (hE.keep hLw) h30 (by omega) hRG hrs hln hN2 hrd hcb) ?_
      intro e w2 hp
      rw [htl] at hp
      rcases hp with ⟨hq, ⟨c1, r1, rfl, hres, hl1, hrs1, htl1, hln1, hrd1, hcb1⟩ | ⟨err, ls', rfl, hres, hcl⟩⟩
      rotate_left
      · have hp : parsev s.data.toList = (F3.zero, ((N - ls' + 1 : Nat) : Int), err) ∧ (err == 0) = false := by
          rw [HP1.out]
          rcases hres with ⟨e1, rfl, rfl⟩ | ⟨l2, e1, rfl, rfl⟩
          · unfold restv; rw [e1]; exact ⟨rfl, rfl⟩
          · unfold restv; rw [e1]; exact ⟨rfl, rfl⟩
        have hne := hp.2
        have hTx := Blk.two_ hTw hq (by omega) (by omega)
        have hLx : Below W.heap.size W w2 := hLw.trans (hq.below (by omega) (by omega) hLw.size)
        have HP := Lib.hid hp.1
        clear hp hres hTw hLw hFw hq HP1 k1 k2 k3 k4
        obtain ⟨t0, t1, t2, t3, t4⟩ : _ ∧ _ ∧ _ ∧ _ ∧ _ := ⟨hTx.cell 0, hTx.cell 1, hTx.cell 2, hTx.cell 3, hTx.cell 4⟩
        obtain ⟨g0, g1, g2, g3, g4⟩ : _ ∧ _ ∧ _ ∧ _ ∧ _ := ⟨hTx.frozen 0, hTx.frozen 1, hTx.frozen 2, hTx.frozen 3, hTx.frozen 4⟩
        simp only [List.getElem?_cons_zero, List.getElem?_cons_succ] at t0 t1 t2 t3 t4
        generalize ((N - ls' + 1 : Nat) : Int) = L at *
        go_wp2_with fail
        have hL6 := (((((hLx.setCell (p := ⟨W.heap.size, 0, none⟩) (Nat.le_refl _) (.string ⟨#[]⟩)).setCell (p := ⟨W.heap.size, 1, none⟩) (Nat.le_refl _) (.int .i64 0)).setCell (p := ⟨W.heap.size, 2, none⟩) (Nat.le_refl _) (.int .i64 0)).setCell (p := ⟨W.heap.size, 3, none⟩) (Nat.le_refl _) (.slice none 0 0)).setCell (p := ⟨W.heap.size, 4, none⟩) (Nat.le_refl _) (.slice none 0 0)).drew
        have hT6 := (((((hTx.set 0 (.string ⟨#[]⟩)).set 1 (.int .i64 0)).set 2 (.int .i64 0)).set 3 (.slice none 0 0)).set 4 (.slice none 0 0)).drew
        obtain ⟨u0, u1, u2, u3, u4⟩ : _ ∧ _ ∧ _ ∧ _ ∧ _ := ⟨hT6.cell 0, hT6.cell 1, hT6.cell 2, hT6.cell 3, hT6.cell 4⟩
        simp only [List.set_cons_zero, List.set_cons_succ, List.getElem?_cons_zero, List.getElem?_cons_succ] at u0 u1 u2 u3 u4
        have HZ := Lib.hid (show ParsePost (parsev s.data.toList).1 (parsev s.data.toList).2.1 (parsev s.data.toList).2.2 W _ _ by rw [HP.out]; exact zero_post L err hL6)
        clear hTx hT6 hLx hL6
        go_region
        all_goals
          go_wp2_with fail
          refine bodyPost_ret (v := .tuple #[.agg #[.string ⟨#[]⟩, .int .i64 0, .int .i64 0, .slice none 0 0, .slice none 0 0], .int .i64 L, .int .i64 err]) (by simp [results, Tryz.results16, go_sem, *]) rfl HZ.out
      have HP2 : Hid (parsev s.data.toList = rest2 N (tailB s.data.toList) nm w h c1 (linesB r1.data.toList)) := hid (by rw [HP1.out]; unfold restv; rw [hres]; rfl)
      have hTx := Blk.two_ hTw hq (by omega) (by omega)
      have hFx := Blk.two_ hFw hq (by omega) (by omega)
      have hLx : Below W.heap.size W w2 := hLw.trans (hq.below (by omega) (by omega) hLw.size)
      clear hTw hFw hLw hq hres HP1 hrd hcb k1 k2 k3 k4 hrs htl hln
      have hTw := hTx
      have hFw := hFx
      have hLw := hLx
      have hrd := hrd1
      have hcb := hcb1
      have hrs := hrs1
      have htl := htl1
      have hln := hln1
      clear hTx hFx hLx hrd1 hcb1 hrs1 htl1 hln1
      obtain ⟨-, k1, k2, k3, k4⟩ : _ ∧ _ ∧ _ ∧ _ ∧ _ := ⟨hFw.cell 0, hFw.cell 1, hFw.cell 2, hFw.cell 3, hFw.cell 4⟩
      simp only [List.getElem?_cons_zero, List.getElem?_cons_succ] at k1 k2 k3 k4
      go_wp2_with fail
      rw [rounds_succ]
      go_wp2_with fail
      refine Calls.mono (dheightsP_b (W.heap.size + 1) G w h _ r1 _ _ N hw1 hw2 hh2 hl1 w2 (hE.keep hLw) h30 (by omega) hRG hrs hln hN2 hrd hcb) ?_
      intro e w3 hp
      rw [htl] at hp
      rcases hp with ⟨hq, ⟨c2, r2, rfl, hres, hl2, hrs2, htl2, hln2, hrd2, hcb2⟩ | ⟨err, ls', rfl, hres, hcl⟩⟩
      rotate_left
      · have hp : parsev s.data.toList = (F3.zero, ((N - ls' + 1 : Nat) : Int), err) ∧ (err == 0) = false := by
          rw [HP2.out]
          rcases hres with ⟨e1, rfl, rfl⟩ | ⟨l2, e1, rfl, rfl⟩
          · unfold rest2; rw [e1]; exact ⟨rfl, rfl⟩
          · unfold rest2; rw [e1]; exact ⟨rfl, rfl⟩
        have hne := hp.2
        have hTx := Blk.two_ hTw hq (by omega) (by omega)
        have hLx : Below W.heap.size W w3 := hLw.trans (hq.below (by omega) (by omega) hLw.size)
        have HP := Lib.hid hp.1
        clear hp hres hTw hLw hFw hq HP2 k1 k2 k3 k4
        obtain ⟨t0, t1, t2, t3, t4⟩ : _ ∧ _ ∧ _ ∧ _ ∧ _ := ⟨hTx.cell 0, hTx.cell 1, hTx.cell 2, hTx.cell 3, hTx.cell 4⟩
        obtain ⟨g0, g1, g2, g3, g4⟩ : _ ∧ _ ∧ _ ∧ _ ∧ _ := ⟨hTx.frozen 0, hTx.frozen 1, hTx.frozen 2, hTx.frozen 3, hTx.frozen 4⟩
        simp only [List.getElem?_cons_zero, List.getElem?_cons_succ] at t0 t1 t2 t3 t4
        generalize ((N - ls' + 1 : Nat) : Int) = L at *
        go_wp2_with fail
        have hL6 := (((((hLx.setCell (p := ⟨W.heap.size, 0, none⟩) (Nat.le_refl _) (.string ⟨#[]⟩)).setCell (p := ⟨W.heap.size, 1, none⟩) (Nat.le_refl _) (.int .i64 0)).setCell (p := ⟨W.heap.size, 2, none⟩) (Nat.le_refl _) (.int .i64 0)).setCell (p := ⟨W.heap.size, 3, none⟩) (Nat.le_refl _) (.slice none 0 0)).setCell (p := ⟨W.heap.size, 4, none⟩) (Nat.le_refl _) (.slice none 0 0)).drew
        have hT6 := (((((hTx.set 0 (.string ⟨#[]⟩)).set 1 (.int .i64 0)).set 2 (.int .i64 0)).set 3 (.slice none 0 0)).set 4 (.slice none 0 0)).drew
        obtain ⟨u0, u1, u2, u3, u4⟩ : _ ∧ _ ∧ _ ∧ _ ∧ _ := ⟨hT6.cell 0, hT6.cell 1, hT6.cell 2, hT6.cell 3, hT6.cell 4⟩
        simp only [List.set_cons_zero, List.set_cons_succ, List.getElem?_cons_zero, List.getElem?_cons_succ] at u0 u1 u2 u3 u4
        have HZ := Lib.hid (show ParsePost (parsev s.data.toList).1 (parsev s.data.toList).2.1 (parsev s.data.toList).2.2 W _ _ by rw [HP.out]; exact zero_post L err hL6)
        clear hTx hT6 hLx hL6
        go_region
        all_goals
          go_wp2_with fail
          refine bodyPost_ret (v := .tuple #[.agg #[.string ⟨#[]⟩, .int .i64 0, .int .i64 0, .slice none 0 0, .slice none 0 0], .int .i64 L, .int .i64 err]) (by simp [results, Tryz.results16, go_sem, *]) rfl HZ.out
      have HP3 : Hid (parsev s.data.toList = rest3 N (tailB s.data.toList) nm w h c2 (linesB r2.data.toList)) := hid (by rw [HP2.out]; unfold rest2; rw [hres]; rfl)
      have hTx := Blk.two_ hTw hq (by omega) (by omega)
      have hFx := Blk.two_ hFw hq (by omega) (by omega)
      have hLx : Below W.heap.size W w3 := hLw.trans (hq.below (by omega) (by omega) hLw.size)
      clear hTw hFw hLw hq hres HP2 hrd hcb k1 k2 k3 k4 hrs htl hln
      have hTw := hTx
      have hFw := hFx
      have hLw := hLx
      have hrd := hrd2
      have hcb := hcb2
      have hrs := hrs2
      have htl := htl2
      have hln := hln2
      clear hTx hFx hLx hrd2 hcb2 hrs2 htl2 hln2
      obtain ⟨-, k1, k2, k3, k4⟩ : _ ∧ _ ∧ _ ∧ _ ∧ _ := ⟨hFw.cell 0, hFw.cell 1, hFw.cell 2, hFw.cell 3, hFw.cell 4⟩
      simp only [List.getElem?_cons_zero, List.getElem?_cons_succ] at k1 k2 k3 k4
      go_wp2_with fail
      rw [rounds_succ]
      go_wp2_with fail
      refine Calls.mono (damountsP_b (W.heap.size + 1) G w h _ r2 _ _ N hw1 hw2 hh2 hl2 w3 (hE.keep hLw) h30 (by omega) hRG hrs hln hN2 hrd hcb) ?_
      intro e w4 hp
      rw [htl] at hp
      rcases hp with ⟨hq, ⟨c3, r3, rfl, hres, hl3, hrs3, htl3, hln3, hrd3, hcb3⟩ | ⟨err, ls', rfl, hres, hcl⟩⟩
      rotate_left
      · have hp : parsev s.data.toList = (F3.zero, ((N - ls' + 1 : Nat) : Int), err) ∧ (err == 0) = false := by
          rw [HP3.out]
          rcases hres with ⟨e1, rfl, rfl⟩ | ⟨l2, e1, rfl, rfl⟩
          · unfold rest3; rw [e1]; exact ⟨rfl, rfl⟩
          · unfold rest3; rw [e1]; exact ⟨rfl, rfl⟩
        have hne := hp.2
        have hTx := Blk.two_ hTw hq (by omega) (by omega)
        have hLx : Below W.heap.size W w4 := hLw.trans (hq.below (by omega) (by omega) hLw.size)
        have HP := Lib.hid hp.1
        clear hp hres hTw hLw hFw hq HP3 k1 k2 k3 k4
        obtain ⟨t0, t1, t2, t3, t4⟩ : _ ∧ _ ∧ _ ∧ _ ∧ _ := ⟨hTx.cell 0, hTx.cell 1, hTx.cell 2, hTx.cell 3, hTx.cell 4⟩
        obtain ⟨g0, g1, g2, g3, g4⟩ : _ ∧ _ ∧ _ ∧ _ ∧ _ := ⟨hTx.frozen 0, hTx.frozen 1, hTx.frozen 2, hTx.frozen 3, hTx.frozen 4⟩
        simp only [List.getElem?_cons_zero, List.getElem?_cons_succ] at t0 t1 t2 t3 t4
        generalize ((N - ls' + 1 : Nat) : Int) = L at *
        go_wp2_with fail
        have hL6 := (((((hLx.setCell (p := ⟨W.heap.size, 0, none⟩) (Nat.le_refl _) (.string ⟨#[]⟩)).setCell (p := ⟨W.heap.size, 1, none⟩) (Nat.le_refl _) (.int .i64 0)).setCell (p := ⟨W.heap.size, 2, none⟩) (Nat.le_refl _) (.int .i64 0)).setCell (p := ⟨W.heap.size, 3, none⟩) (Nat.le_refl _) (.slice none 0 0)).setCell (p := ⟨W.heap.size, 4, none⟩) (Nat.le_refl _) (.slice none 0 0)).drew
        have hT6 := (((((hTx.set 0 (.string ⟨#[]⟩)).set 1 (.int .i64 0)).set 2 (.int .i64 0)).set 3 (.slice none 0 0)).set 4 (.slice none 0 0)).drew
        obtain ⟨u0, u1, u2, u3, u4⟩ : _ ∧ _ ∧ _ ∧ _ ∧ _ := ⟨hT6.cell 0, hT6.cell 1, hT6.cell 2, hT6.cell 3, hT6.cell 4⟩
        simp only [List.set_cons_zero, List.set_cons_succ, List.getElem?_cons_zero, List.getElem?_cons_succ] at u0 u1 u2 u3 u4
        have HZ := Lib.hid (show ParsePost (parsev s.data.toList).1 (parsev s.data.toList).2.1 (parsev s.data.toList).2.2 W _ _ by rw [HP.out]; exact zero_post L err hL6)
        clear hTx hT6 hLx hL6
        go_region
        all_goals
          go_wp2_with fail
          refine bodyPost_ret (v := .tuple #[.agg #[.string ⟨#[]⟩, .int .i64 0, .int .i64 0, .slice none 0 0, .slice none 0 0], .int .i64 L, .int .i64 err]) (by simp [results, Tryz.results16, go_sem, *]) rfl HZ.out
      have HP4 : Hid (parsev s.data.toList = rest4 N (tailB s.data.toList) nm w h c3 (linesB r3.data.toList)) := hid (by rw [HP3.out]; unfold rest3; rw [hres]; rfl)
      have hTx := Blk.two_ hTw hq (by omega) (by omega)
      have hFx := Blk.two_ hFw hq (by omega) (by omega)
      have hLx : Below W.heap.size W w4 := hLw.trans (hq.below (by omega) (by omega) hLw.size)
      clear hTw hFw hLw hq hres HP3 hrd hcb k1 k2 k3 k4 hrs htl hln
      have hTw := hTx
      have hFw := hFx
      have hLw := hLx
      have hrd := hrd3
      have hcb := hcb3
      have hrs := hrs3
      have htl := htl3
      have hln := hln3
      clear hTx hFx hLx hrd3 hcb3 hrs3 htl3 hln3
      obtain ⟨-, k1, k2, k3, k4⟩ : _ ∧ _ ∧ _ ∧ _ ∧ _ := ⟨hFw.cell 0, hFw.cell 1, hFw.cell 2, hFw.cell 3, hFw.cell 4⟩
      simp only [List.getElem?_cons_zero, List.getElem?_cons_succ] at k1 k2 k3 k4
      go_wp2_with fail
      rw [rounds_succ]
      go_wp2_with fail
      refine Calls.mono (dstartsP_b (W.heap.size + 1) (W.heap.size + 1) G w h _ r3 _ _ N w4 (hE.keep hLw) h30 (Nat.le_refl _) (by omega) hRG hrs hln hN2 hrd hcb) ?_
      intro e w5 hp
      rw [htl] at hp
      rcases hp with ⟨hq, ⟨st, ss, r4, line4, rfl, hres, hl4, hrd4, hcb4, ho⟩ | ⟨err, ls', rfl, hres, hcl⟩⟩
      rotate_left
      · have hp : parsev s.data.toList = (F3.zero, ((N - ls' + 1 : Nat) : Int), err) ∧ (err == 0) = false := by
          rw [HP4.out]
          rcases hres with ⟨e1, rfl, rfl⟩ | ⟨l2, e1, rfl, rfl⟩
          · unfold rest4; rw [e1]; exact ⟨rfl, rfl⟩
          · unfold rest4; rw [e1]; exact ⟨rfl, rfl⟩
        have hne := hp.2
        have hTx := hTw.below_ hq (by omega)
        have hLx : Below W.heap.size W w5 := hLw.trans (hq.mono (by omega))
        have HP := Lib.hid hp.1
        clear hp hres hTw hLw hFw hq HP4 k1 k2 k3 k4
        obtain ⟨t0, t1, t2, t3, t4⟩ : _ ∧ _ ∧ _ ∧ _ ∧ _ := ⟨hTx.cell 0, hTx.cell 1, hTx.cell 2, hTx.cell 3, hTx.cell 4⟩
        obtain ⟨g0, g1, g2, g3, g4⟩ : _ ∧ _ ∧ _ ∧ _ ∧ _ := ⟨hTx.frozen 0, hTx.frozen 1, hTx.frozen 2, hTx.frozen 3, hTx.frozen 4⟩
        simp only [List.getElem?_cons_zero, List.getElem?_cons_succ] at t0 t1 t2 t3 t4
        generalize ((N - ls' + 1 : Nat) : Int) = L at *
        go_wp2_with fail
        have hL6 := (((((hLx.setCell (p := ⟨W.heap.size, 0, none⟩) (Nat.le_refl _) (.string ⟨#[]⟩)).setCell (p := ⟨W.heap.size, 1, none⟩) (Nat.le_refl _) (.int .i64 0)).setCell (p := ⟨W.heap.size, 2, none⟩) (Nat.le_refl _) (.int .i64 0)).setCell (p := ⟨W.heap.size, 3, none⟩) (Nat.le_refl _) (.slice none 0 0)).setCell (p := ⟨W.heap.size, 4, none⟩) (Nat.le_refl _) (.slice none 0 0)).drew
        have hT6 := (((((hTx.set 0 (.string ⟨#[]⟩)).set 1 (.int .i64 0)).set 2 (.int .i64 0)).set 3 (.slice none 0 0)).set 4 (.slice none 0 0)).drew
        obtain ⟨u0, u1, u2, u3, u4⟩ : _ ∧ _ ∧ _ ∧ _ ∧ _ := ⟨hT6.cell 0, hT6.cell 1, hT6.cell 2, hT6.cell 3, hT6.cell 4⟩
        simp only [List.set_cons_zero, List.set_cons_succ, List.getElem?_cons_zero, List.getElem?_cons_succ] at u0 u1 u2 u3 u4
        have HZ := Lib.hid (show ParsePost (parsev s.data.toList).1 (parsev s.data.toList).2.1 (parsev s.data.toList).2.2 W _ _ by rw [HP.out]; exact zero_post L err hL6)
        clear hTx hT6 hLx hL6
        go_region
        all_goals
          go_wp2_with fail
          refine bodyPost_ret (v := .tuple #[.agg #[.string ⟨#[]⟩, .int .i64 0, .int .i64 0, .slice none 0 0, .slice none 0 0], .int .i64 L, .int .i64 err]) (by simp [results, Tryz.results16, go_sem, *]) rfl HZ.out
      have hTx := hTw.below_ hq (by omega)
      have hLx : Below W.heap.size W w5 := hLw.trans (hq.mono (by omega))
      obtain ⟨sp, sc, rfl, -, -⟩ := id (PosAt.own ho)
      have HP5 : Hid (parsev s.data.toList = checkv ⟨nm, ⟨w, h, c3⟩, st⟩) := hid (by rw [HP4.out]; unfold rest4; rw [hres]; rfl)
      have hwh : h * w ≤ 1024 := Nat.mul_le_mul hh2 hw2
      have hcap := cap_same (some ⟨G, 0, none⟩) (h * w) (by unfold maxLen; omega)
      have hrow : RowAt w5 (.slice (some ⟨G, 0, none⟩) (h * w) (h * w)) c3 := CB.row hcb4 hl3 (by unfold maxLen; omega)
      obtain ⟨r, hr⟩ : ∃ r, Hid (r = validf ⟨nm, ⟨w, h, c3⟩, st⟩) := ⟨_, hid rfl⟩
      have c0 := dvalidf_b ⟨nm, ⟨w, h, c3⟩, st⟩ (.slice (some ⟨G, 0, none⟩) (h * w) (h * w)) (.slice sp st.length sc) r w5 (hE.keep hLx).p hrow (PosAt.own ho) (by dsimp only; omega) hr
      unfold fileV at c0
      dsimp only at c0
      obtain ⟨d2, d3, d4, d5, d6⟩ : _ ∧ _ ∧ _ ∧ _ ∧ _ := ⟨Blk.cell hrd4 2, Blk.cell hrd4 3, Blk.cell hrd4 4, Blk.cell hrd4 5, Blk.cell hrd4 6⟩
      simp only [RdV, List.getElem?_cons_zero, List.getElem?_cons_succ] at d2 d3 d4 d5 d6
      have HWH := hid hwh
      have HL3 := hid hl3
      clear hTw hLw hFw hq HP4 hres hrd hcb k1 k2 k3 k4 hrs htl hln hwh hrow hl1 hl2 hl3
      go_wp2_with fail
      rw [rounds_succ]
      go_wp2_with fail
      refine c0.mono ?_
      rintro e w6 ⟨rfl, hb6⟩
      have hTy := hTx.below hb6
      have hLy : Below W.heap.size W w6 := hLx.trans (hb6.mono hLx.size)
      have hRy := Blk.below hrd4 hb6
      have hCy : CB w6 G c3 := Blk.below hcb4 hb6
      have hoy := own_below ho hb6
      clear c0 d2 d3 d4 d5 d6 hTx hLx hrd4 hcb4 ho hb6
      obtain ⟨d2, d3, d4, d5, d6⟩ : _ ∧ _ ∧ _ ∧ _ ∧ _ := ⟨Blk.cell hRy 2, Blk.cell hRy 3, Blk.cell hRy 4, Blk.cell hRy 5, Blk.cell hRy 6⟩
      simp only [RdV, List.getElem?_cons_zero, List.getElem?_cons_succ] at d2 d3 d4 d5 d6
      obtain ⟨t0, t1, t2, t3, t4⟩ : _ ∧ _ ∧ _ ∧ _ ∧ _ := ⟨hTy.cell 0, hTy.cell 1, hTy.cell 2, hTy.cell 3, hTy.cell 4⟩
      obtain ⟨g0, g1, g2, g3, g4⟩ : _ ∧ _ ∧ _ ∧ _ ∧ _ := ⟨hTy.frozen 0, hTy.frozen 1, hTy.frozen 2, hTy.frozen 3, hTy.frozen 4⟩
      simp only [List.getElem?_cons_zero, List.getElem?_cons_succ] at t0 t1 t2 t3 t4
      by_cases h0 : r = 0
      · subst h0
        have hT6 := ((((hTy.set 0 (.string (bs nm))).set 1 (.int .i64 w)).set 2 (.int .i64 h)).set 3 (.slice (some ⟨G, 0, none⟩) (h * w) (h * w))).set 4 (.slice sp st.length sc)
        obtain ⟨u0, u1, u2, u3, u4⟩ : _ ∧ _ ∧ _ ∧ _ ∧ _ := ⟨hT6.cell 0, hT6.cell 1, hT6.cell 2, hT6.cell 3, hT6.cell 4⟩
        simp only [List.set_cons_zero, List.set_cons_succ, List.getElem?_cons_zero, List.getElem?_cons_succ] at u0 u1 u2 u3 u4
        have hL6 := ((((hLy.setCell (p := ⟨W.heap.size, 0, none⟩) (Nat.le_refl _) (.string (bs nm))).setCell (p := ⟨W.heap.size, 1, none⟩) (Nat.le_refl _) (.int .i64 w)).setCell (p := ⟨W.heap.size, 2, none⟩) (Nat.le_refl _) (.int .i64 h)).setCell (p := ⟨W.heap.size, 3, none⟩) (Nat.le_refl _) (.slice (some ⟨G, 0, none⟩) (h * w) (h * w))).setCell (p := ⟨W.heap.size, 4, none⟩) (Nat.le_refl _) (.slice sp st.length sc)
        have hGT : G ≠ W.heap.size := by omega
        have hC6 := ((((Blk.far hCy (c := W.heap.size) (i := 0) (.string (bs nm)) hGT).far (c := W.heap.size) (i := 1) (.int .i64 w) hGT).far (c := W.heap.size) (i := 2) (.int .i64 h) hGT).far (c := W.heap.size) (i := 3) (.slice (some ⟨G, 0, none⟩) (h * w) (h * w)) hGT).far (c := W.heap.size) (i := 4) (.slice sp st.length sc) hGT
        have hnb : (Value.slice sp st.length sc).ownBlock ≠ some W.heap.size := fun e => by have := (hoy.lt _ e).1; omega
        have ho6 := ownsRow_setCell_other (ownsRow_setCell_other (ownsRow_setCell_other (ownsRow_setCell_other (ownsRow_setCell_other hoy (a := ⟨W.heap.size, 0, none⟩) hnb (.string (bs nm))) (a := ⟨W.heap.size, 1, none⟩) hnb (.int .i64 w)) (a := ⟨W.heap.size, 2, none⟩) hnb (.int .i64 h)) (a := ⟨W.heap.size, 3, none⟩) hnb (.slice (some ⟨G, 0, none⟩) (h * w) (h * w))) (a := ⟨W.heap.size, 4, none⟩) hnb (.slice sp st.length sc)
        have hrow6 := CB.row hC6 HL3.out (by have := HWH.out; rw [HL3.out]; unfold maxLen; omega)
        have HZ := Lib.hid (show ParsePost (parsev s.data.toList).1 (parsev s.data.toList).2.1 (parsev s.data.toList).2.2 W (.returned (.tuple #[.agg #[.string (bs nm), .int .i64 w, .int .i64 h, .slice (some ⟨G, 0, none⟩) (h * w) (h * w), (.slice sp st.length sc)], .int .i64 0, .int .i64 0])) _ by
          rw [HP5.out]
          unfold checkv
          rw [if_pos hr.out.symm]
          exact ⟨_, _, rfl, hrow6, PosAt.own ho6, hcap, hL6⟩)
        clear hTy hLy hRy hCy hoy hT6 hL6 hC6 ho6 hrow6 hcap HP5 hr
        go_wp2_with fail
        refine bodyPost_ret (v := .tuple #[.agg #[.string (bs nm), .int .i64 w, .int .i64 h, .slice (some ⟨G, 0, none⟩) (h * w) (h * w), (.slice sp st.length sc)], .int .i64 0, .int .i64 0]) (by simp [results, Tryz.results16, go_sem, *]) rfl HZ.out
      · have hne : (r == 0) = false := by simpa using h0
        have hT6 := ((((hTy.set 0 (.string ⟨#[]⟩)).set 1 (.int .i64 0)).set 2 (.int .i64 0)).set 3 (.slice none 0 0)).set 4 (.slice none 0 0)
        obtain ⟨u0, u1, u2, u3, u4⟩ : _ ∧ _ ∧ _ ∧ _ ∧ _ := ⟨hT6.cell 0, hT6.cell 1, hT6.cell 2, hT6.cell 3, hT6.cell 4⟩
        simp only [List.set_cons_zero, List.set_cons_succ, List.getElem?_cons_zero, List.getElem?_cons_succ] at u0 u1 u2 u3 u4
        have HU := Lib.hid (And.intro u0 (And.intro u1 (And.intro u2 (And.intro u3 u4))))
        clear u0 u1 u2 u3 u4
        have hL6 := ((((hLy.setCell (p := ⟨W.heap.size, 0, none⟩) (Nat.le_refl _) (.string ⟨#[]⟩)).setCell (p := ⟨W.heap.size, 1, none⟩) (Nat.le_refl _) (.int .i64 0)).setCell (p := ⟨W.heap.size, 2, none⟩) (Nat.le_refl _) (.int .i64 0)).setCell (p := ⟨W.heap.size, 3, none⟩) (Nat.le_refl _) (.slice none 0 0)).setCell (p := ⟨W.heap.size, 4, none⟩) (Nat.le_refl _) (.slice none 0 0)
        have HZ := Lib.hid (show ParsePost (parsev s.data.toList).1 (parsev s.data.toList).2.1 (parsev s.data.toList).2.2 W _ _ by
          rw [HP5.out]
          unfold checkv
          rw [if_neg (fun e => h0 (hr.out.trans e))]
          rw [← hr.out]
          exact zero_post 0 r hL6)
        clear hTy hLy hRy hCy hoy hT6 hL6 hcap HP5 hr d2 d3 d4 d5 d6 h0
        go_wp2_with fail
        obtain ⟨u0, u1, u2, u3, u4⟩ := HU.out
        refine bodyPost_ret (v := .tuple #[.agg #[.string ⟨#[]⟩, .int .i64 0, .int .i64 0, .slice none 0 0, .slice none 0 0], .int .i64 0, .int .i64 r]) (by simp [results, Tryz.results16, go_sem, *]) rfl HZ.out
    · have hp : parsev s.data.toList = (F3.zero, ((N - ls' + 1 : Nat) : Int), err) ∧ (err == 0) = false := by
        unfold parsev
        rw [if_neg (by omega), ← hN]
        rcases hres with ⟨e1, rfl, rfl⟩ | ⟨l2, e1, rfl, rfl⟩
        · rw [e1]; exact ⟨rfl, rfl⟩
        · rw [e1]; exact ⟨rfl, rfl⟩
      have hne := hp.2
      have hTw := Blk.two_ hTY hT1 (by omega) (by omega)
      have hLw : Below W.heap.size W w1 := hLY.trans (hT1.below (by omega) (by omega) (by omega))
      have HP := Lib.hid hp.1
      clear hp hres hRY hFY hTY hT hL0 hT1 hLY
      obtain ⟨t0, t1, t2, t3, t4⟩ : _ ∧ _ ∧ _ ∧ _ ∧ _ := ⟨hTw.cell 0, hTw.cell 1, hTw.cell 2, hTw.cell 3, hTw.cell 4⟩
      obtain ⟨g0, g1, g2, g3, g4⟩ : _ ∧ _ ∧ _ ∧ _ ∧ _ := ⟨hTw.frozen 0, hTw.frozen 1, hTw.frozen 2, hTw.frozen 3, hTw.frozen 4⟩
      simp only [List.getElem?_cons_zero, List.getElem?_cons_succ] at t0 t1 t2 t3 t4
      generalize ((N - ls' + 1 : Nat) : Int) = L at *
      go_wp2_with fail
      have hL6 := (((((hLw.setCell (p := ⟨W.heap.size, 0, none⟩) (Nat.le_refl _) (.string ⟨#[]⟩)).setCell (p := ⟨W.heap.size, 1, none⟩) (Nat.le_refl _) (.int .i64 0)).setCell (p := ⟨W.heap.size, 2, none⟩) (Nat.le_refl _) (.int .i64 0)).setCell (p := ⟨W.heap.size, 3, none⟩) (Nat.le_refl _) (.slice none 0 0)).setCell (p := ⟨W.heap.size, 4, none⟩) (Nat.le_refl _) (.slice none 0 0)).drew
      have hT6 := (((((hTw.set 0 (.string ⟨#[]⟩)).set 1 (.int .i64 0)).set 2 (.int .i64 0)).set 3 (.slice none 0 0)).set 4 (.slice none 0 0)).drew
      obtain ⟨u0, u1, u2, u3, u4⟩ : _ ∧ _ ∧ _ ∧ _ ∧ _ := ⟨hT6.cell 0, hT6.cell 1, hT6.cell 2, hT6.cell 3, hT6.cell 4⟩
      simp only [List.set_cons_zero, List.set_cons_succ, List.getElem?_cons_zero, List.getElem?_cons_succ] at u0 u1 u2 u3 u4
      have HZ := Lib.hid (show ParsePost (parsev s.data.toList).1 (parsev s.data.toList).2.1 (parsev s.data.toList).2.2 W _ _ by rw [HP.out]; exact zero_post L err hL6)
      clear hTw hT6 hLw hL6
      go_region
      all_goals
        go_wp2_with fail
        refine bodyPost_ret (v := .tuple #[.agg #[.string ⟨#[]⟩, .int .i64 0, .int .i64 0, .slice none 0 0, .slice none 0 0], .int .i64 L, .int .i64 err]) (by simp [results, Tryz.results16, go_sem, *]) rfl HZ.out

end

end Go.Proofs.YtmpbgfobiceehaaGreatDoor
