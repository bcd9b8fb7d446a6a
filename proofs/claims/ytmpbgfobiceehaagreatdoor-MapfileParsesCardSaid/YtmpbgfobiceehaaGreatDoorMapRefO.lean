/-
  What the reference of mapfile answers: Parse.
-/
import Derived.Test.YtmpbgfobiceehaaGreatDoorMapRefN
import Derived.Test.YtmpbgfobiceehaaGreatDoorMapRefH
import Derived.Deep.RegionWith
namespace Go.Proofs.YtmpbgfobiceehaaGreatDoor
open Go.RowKit Go.Lib

/-- How Parse's memory stands: the result's block, the lines, what has been read, the cells. -/
structure PSt (W wr : World) (g Fb G N : Nat) (ls : List (List UInt8)) (nb : ByteArray) (w h : Nat) (ss : Value) (cs : List C3) : Prop where
  t : Blk wr W.heap.size [.string ⟨#[]⟩, .int .i64 0, .int .i64 0, .slice none 0 0, .slice none 0 0] 27
  l : StrAt wr g ls
  f : Blk wr Fb [.string nb, .int .i64 w, .int .i64 h, .slice (some ⟨G, 0, none⟩) N N, ss] 27
  c : CB wr G cs
  old : Below W.heap.size W wr
  hg : g < wr.heap.size
  hG : W.heap.size < G
  n2 : g ≠ G
  n3 : Fb ≠ G
  n4 : W.heap.size < Fb
  n5 : W.heap.size < g
section
variable {W wr w' : World} {g Fb G N : Nat} {ls : List (List UInt8)} {nb : ByteArray} {w h : Nat} {ss : Value} {cs cs' : List C3}
theorem StrAt.two (h : StrAt wr g ls) (hT : Two G G wr w') (hg : g < wr.heap.size) (ne : g ≠ G) : StrAt w' g ls := fun i hi => (World.cell?_of_block (w := wr) (a := ⟨g, i, none⟩) (hT.block g hg ne ne)).trans (h i hi)
theorem PSt.two (hI : PSt W wr g Fb G N ls nb w h ss cs) (hT : Two G G wr w') (hC : CB w' G cs') : PSt W w' g Fb G N ls nb w h ss cs' :=
  ⟨Blk.two_ hI.t hT (Nat.ne_of_lt hI.hG) (Nat.ne_of_lt hI.hG), hI.l.two hT hI.hg hI.n2, Blk.two_ hI.f hT hI.n3 hI.n3, hC, hI.old.trans (hT.below (Nat.le_of_lt hI.hG) (Nat.le_of_lt hI.hG) hI.old.size), Nat.lt_of_lt_of_le hI.hg hT.size, hI.hG, hI.n2, hI.n3, hI.n4, hI.n5⟩
theorem PSt.low (hI : PSt W wr g Fb G N ls nb w h ss cs) (hT : Two G G wr w') : Blk w' W.heap.size [.string ⟨#[]⟩, .int .i64 0, .int .i64 0, .slice none 0 0, .slice none 0 0] 27 ∧ Below W.heap.size W w' :=
  ⟨Blk.two_ hI.t hT (Nat.ne_of_lt hI.hG) (Nat.ne_of_lt hI.hG), hI.old.trans (hT.below (Nat.le_of_lt hI.hG) (Nat.le_of_lt hI.hG) hI.old.size)⟩
theorem PSt.call (hI : PSt W wr g Fb G N ls nb w h ss cs) (hb : Below wr.heap.size wr w') : PSt W w' g Fb G N ls nb w h ss cs :=
  ⟨hI.t.below hb, hI.l.call hb hI.hg, hI.f.below hb, Blk.below hI.c hb, below_call hI.old hb, Nat.lt_of_lt_of_le hI.hg hb.size, hI.hG, hI.n2, hI.n3, hI.n4, hI.n5⟩
theorem PSt.under (hI : PSt W wr g Fb G N ls nb w h ss cs) {B : Nat} (hb : Below B wr w') (hF : Fb < B) (hg : g < B) (hG : G < B) : PSt W w' g Fb G N ls nb w h ss cs :=
  ⟨hI.t.under hb (Nat.lt_trans hI.n4 hF), fun i hi => (hb.cell (p := ⟨g, i, none⟩) hg).trans (hI.l i hi), hI.f.under hb hF, Blk.under hI.c hb hG, hI.old.trans (hb.mono (Nat.le_of_lt (Nat.lt_trans hI.n4 hF))), Nat.lt_of_lt_of_le hI.hg hb.size, hI.hG, hI.n2, hI.n3, hI.n4, hI.n5⟩
theorem PSt.store (hI : PSt W wr g Fb G N ls nb w h ss cs) (ne : g ≠ Fb) (v : Value) : PSt W (wr.setCell ⟨Fb, 4, none⟩ v) g Fb G N ls nb w h v cs :=
  have hT : Two Fb Fb wr (wr.setCell ⟨Fb, 4, none⟩ v) := Two.set wr _ v (.inl rfl)
  ⟨Blk.two_ hI.t hT (Nat.ne_of_lt hI.n4) (Nat.ne_of_lt hI.n4), hI.l.two hT hI.hg ne, hI.f.set 4 v, Blk.two_ hI.c hT hI.n3.symm hI.n3.symm, hI.old.setCell (p := ⟨Fb, 4, none⟩) (Nat.le_of_lt hI.n4) v, Nat.lt_of_lt_of_le hI.hg hT.size, hI.hG, hI.n2, hI.n3, hI.n4, hI.n5⟩
end
theorem heads_nil {s : List UInt8} {R : F3} {rl re : Int} (hP : parsev s = (R, rl, re)) (hs : ¬ 32768 < s.length) (h0 : (linesB s).length = 0) : (R, rl, re) = (F3.zero, (1 : Int), (4 : Int)) := by
  rw [← hP]
  unfold parsev
  rw [if_neg hs, List.eq_nil_of_length_eq_zero h0]
  rfl
theorem heads_no {s : List UInt8} {R : F3} {rl re : Int} (hP : parsev s = (R, rl, re)) (hs : ¬ 32768 < s.length) {l : List UInt8} {L : List (List UInt8)} (hL : linesB s = l :: L) (hv : headv l = none) : (R, rl, re) = (F3.zero, (1 : Int), (5 : Int)) := by
  rw [← hP]
  unfold parsev
  rw [if_neg hs, hL, headsv_bad hv]
  show (F3.zero, (((l :: L).length - (l :: L).length + 1 : Nat) : Int), (5 : Int)) = _
  rw [Nat.sub_self]
  rfl
theorem heads_yes {s : List UInt8} {R : F3} {rl re : Int} (hP : parsev s = (R, rl, re)) (hs : ¬ 32768 < s.length) {l : List UInt8} {L : List (List UInt8)} (hL : linesB s = l :: L) {nm : List UInt8} {w h : Nat} (hv : headv l = some (nm, w, h)) (h1 : 1 ≤ h) :
    (R, rl, re) = ST (l :: L).length (tailB s) nm w h 0 (List.replicate (w * h) C3.zero) L := by
  rw [← hP, ← st_start h1]
  unfold parsev
  rw [if_neg hs, hL, headsv_ok hv]
  rfl
theorem drop_line {L : List (List UInt8)} {i : Nat} {l : List UInt8} (h : L[i]? = some l) : L.drop i = l :: L.drop (i + 1) := by
  obtain ⟨hi, rfl⟩ := List.getElem?_eq_some_iff.1 h
  exact List.drop_eq_getElem_cons hi
theorem get_line {ls L : List (List UInt8)} {t l : List UInt8} {i : Nat} (e : ls = L ++ [t]) (h : L[i]? = some l) : ∃ hi : i < ls.length, ls[i]'hi = l := by
  obtain ⟨hi, rfl⟩ := List.getElem?_eq_some_iff.1 h
  subst e
  exact ⟨by rw [List.length_append]; omega, by rw [List.getElem_append_left hi]⟩
theorem get_tail {ls L : List (List UInt8)} {t : List UInt8} {n : Nat} (e : ls = L ++ [t]) (hn : n = L.length) : ∃ hi : n < ls.length, ls[n]'hi = t := by
  subst e hn
  exact ⟨by simp, by simp⟩
theorem check_no {nm tl : List UInt8} {w h n : Nat} {cs : List C3} {acc : List (Int × Int)} {R : F3} {rl re r : Int} (e : (R, rl, re) = SV n tl nm w h cs acc []) (ht : tl = []) (hr : r = validf ⟨nm, ⟨w, h, cs⟩, acc⟩) (h0 : ¬ r = 0) : (R, rl, re) = (F3.zero, (0 : Int), r) := by
  rw [e, sv_end ht]
  unfold checkv
  rw [if_neg (fun q => h0 (hr.trans q)), ← hr]
theorem check_yes {nm tl : List UInt8} {w h n : Nat} {cs : List C3} {acc : List (Int × Int)} {R : F3} {rl re : Int} (e : (R, rl, re) = SV n tl nm w h cs acc []) (ht : tl = []) (hr : 0 = validf ⟨nm, ⟨w, h, cs⟩, acc⟩) : (R, rl, re) = ((⟨nm, ⟨w, h, cs⟩, acc⟩ : F3), (0 : Int), (0 : Int)) := by
  rw [e, sv_end ht]
  unfold checkv
  rw [if_pos hr.symm]
theorem parse_yes {R f : F3} {rl re : Int} {W w' : World} {sc ss : Value} {nb : ByteArray} (e : (R, rl, re) = (f, (0 : Int), (0 : Int))) (hn : nb = bs f.name) (hr : RowAt w' sc f.m.cs) (hp : PosAt w' ss f.st) (hc : CapOk sc) (hb : Below W.heap.size W w') : ParsePost R rl re W (.returned (.tuple #[.agg #[.string nb, .int .i64 f.m.w, .int .i64 f.m.h, sc, ss], .int .i64 0, .int .i64 0])) w' := by
  cases e
  subst hn
  exact ⟨sc, ss, rfl, hr, hp, hc, hb⟩

set_option maxHeartbeats 16000000 in
set_option maxRecDepth 100000 in
theorem rparse_b (s : ByteArray) (W : World) (hs : s.size ≤ 100000) (R : F3) (rl re : Int) (hP : Hid (parsev s.data.toList = (R, rl, re))) :
    Calls Tryz.prog 17 #[.string s] W (ParsePost R rl re W) := by
  have hsl : s.data.toList.length = s.size := (Lib.size_eq s).symm
  have hK := (Keep.nil W).alloc [.string ⟨#[]⟩, .int .i64 0, .int .i64 0, .slice none 0 0, .slice none 0 0] 27
  by_cases hlong : 32768 < s.size
  · have z : decide ((32768 : Int) < s.size) = true := decide_eq_true (by omega)
    have HV : Hid ((R, rl, re) = (F3.zero, (0 : Int), (2 : Int))) := hid (by rw [← hP.out]; unfold parsev; rw [if_pos (by omega)])
    have hT := hK.one
    have hL := hK.old
    clear hP hK
    go_enter Tryz.func17, Tryz.ntmps17
    obtain ⟨t0, t1, t2, t3, t4⟩ := low5 hT (Below.refl _ _)
    clear hT
    go_wp2_with fail
    refine bodyPost_ret (v := .tuple #[.agg #[.string ⟨#[]⟩, .int .i64 0, .int .i64 0, .slice none 0 0, .slice none 0 0], .int .i64 0, .int .i64 2]) (by simp [results, Tryz.results17, go_sem, *]) rfl (zero_exit HV.out hL)
  · have z : decide ((32768 : Int) < s.size) = false := decide_eq_false (by omega)
    have hsh : ¬ 32768 < s.data.toList.length := by omega
    obtain ⟨ls, hls⟩ : ∃ ls, Hid (ls = parts 10 s.data.toList) := ⟨_, hid rfl⟩
    obtain ⟨hg1, hg2⟩ := lines_get hls.out
    obtain ⟨n, hn⟩ : ∃ n, n = (linesB s.data.toList).length := ⟨_, rfl⟩
    obtain ⟨L, hL0⟩ : ∃ L, L = linesB s.data.toList := ⟨_, rfl⟩
    obtain ⟨tl, htl⟩ : ∃ t, t = tailB s.data.toList := ⟨_, rfl⟩
    rw [← hL0] at hn hg1 hg2
    rw [← htl] at hg1
    rw [← hn] at hg2
    have hn1 : n ≤ 100000 := by have := lines_le s.data.toList; rw [← hL0, ← hn] at this; omega
    have hle : Hid (∀ x ∈ ls, x.length ≤ 100000) := hid (fun x hx => by
      rw [hls.out] at hx
      have := parts_le 10 _ x hx
      omega)
    have HG1 := Lib.hid hg1
    have HN := Lib.hid hn
    have HL0 := Lib.hid hL0
    have HTL := Lib.hid htl
    have HG2 := Lib.hid hg2
    clear hg1 hn hL0 htl hg2
    have c0 : ∀ V : World, Calls Tryz.prog 46 #[.string s, .int .u8 10] V fun e w' => ∃ g cap, e = .returned (.slice (some ⟨g, 0, none⟩) (n + 1) cap) ∧ StrAt w' g ls ∧ V.heap.size ≤ g ∧ g < w'.heap.size ∧ n + 1 ≤ cap ∧ Below V.heap.size V w' := fun V => by
      have := rparts_lf s V hs ls hls
      rw [HG2.out] at this
      exact this
    go_enter Tryz.func17, Tryz.ntmps17
    go_wp2_with fail
    ((with_reducible refine (c0 _).mono ?_); rintro e w1 ⟨g, cap, rfl, hst, hg1, hg2, hlc, hb⟩)
    replace hK := hK.call hb
    have hT := hK.one
    have hL := hK.old
    simp only [World.size_alloc] at hg1
    have hz := hb.size
    simp only [World.size_alloc] at hz
    clear hb c0 hls z hK
    by_cases hn0 : n = 0
    · have HV := Lib.hid (heads_nil hP.out hsh (by rw [← HL0.out, ← HN.out]; exact hn0))
      have z0 : decide ((n : Int) < 1) = true := decide_eq_true (by omega)
      clear hP hst hle
      obtain ⟨t0, t1, t2, t3, t4⟩ := low5 hT (Below.refl _ _)
      obtain ⟨g0, g1', g2', g3, g4⟩ : _ ∧ _ ∧ _ ∧ _ ∧ _ := ⟨hT.frozen 0, hT.frozen 1, hT.frozen 2, hT.frozen 3, hT.frozen 4⟩
      have hT6 := ((((hT.set 0 (.string ⟨#[]⟩)).set 1 (.int .i64 0)).set 2 (.int .i64 0)).set 3 (.slice none 0 0)).set 4 (.slice none 0 0)
      obtain ⟨u0, u1, u2, u3, u4⟩ : _ ∧ _ ∧ _ ∧ _ ∧ _ := ⟨hT6.cell 0, hT6.cell 1, hT6.cell 2, hT6.cell 3, hT6.cell 4⟩
      simp only [List.set_cons_zero, List.set_cons_succ, List.getElem?_cons_zero, List.getElem?_cons_succ] at u0 u1 u2 u3 u4
      have HU := Lib.hid (And.intro u0 (And.intro u1 (And.intro u2 (And.intro u3 u4))))
      clear u0 u1 u2 u3 u4
      have hL6 := (((((hL.setCell (p := ⟨W.heap.size, 0, none⟩) (Nat.le_refl _) (.string ⟨#[]⟩)).setCell (p := ⟨W.heap.size, 1, none⟩) (Nat.le_refl _) (.int .i64 0)).setCell (p := ⟨W.heap.size, 2, none⟩) (Nat.le_refl _) (.int .i64 0)).setCell (p := ⟨W.heap.size, 3, none⟩) (Nat.le_refl _) (.slice none 0 0)).setCell (p := ⟨W.heap.size, 4, none⟩) (Nat.le_refl _) (.slice none 0 0))
      have HZ := Lib.hid (zero_exit HV.out hL6)
      clear hT hT6 hL hL6
      go_wp2_with fail
      obtain ⟨u0, u1, u2, u3, u4⟩ := HU.out
      refine bodyPost_ret (v := .tuple #[.agg #[.string ⟨#[]⟩, .int .i64 0, .int .i64 0, .slice none 0 0, .slice none 0 0], .int .i64 (1), .int .i64 (4)]) (by simp [results, Tryz.results17, go_sem, *]) rfl HZ.out
    · have z0 : decide ((n : Int) < 1) = false := decide_eq_false (by omega)
      obtain ⟨l0, L1, hLe⟩ : ∃ l0 L1, L = l0 :: L1 := by
        have := HN.out
        cases L with
        | nil => simp at this; exact absurd this hn0
        | cons a b => exact ⟨a, b, rfl⟩
      obtain ⟨hi0, hl0⟩ := get_line (i := 0) HG1.out (show L[0]? = some l0 by rw [hLe]; rfl)
      have p0 := hst 0 hi0
      rw [hl0] at p0
      have hlz : (bs l0).size ≤ 100000 := by rw [bs_size, ← hl0]; exact hle.out _ (List.getElem_mem hi0)
      have c1 := fun V => rfirst_b (bs l0) V hlz
      rw [bs_list] at c1
      have HLE := Lib.hid hLe
      have lcap : (0 : Int) < (n : Int) + 1 := by omega
      clear hl0 hlz hLe
      go_wp2_with fail
      ((with_reducible refine (c1 _).mono ?_); rintro e w2 hfp)
      clear c1 p0 hi0 z0
      rcases hfp with ⟨hv, rfl, hb⟩ | ⟨nm, w, h, G, hv, rfl, hcb, hG, hb⟩
      · have HV := Lib.hid (heads_no hP.out hsh (HL0.out.symm.trans HLE.out) hv)
        have hb2 := hb.trans ((Below.refl w2.heap.size w2).alloc (Nat.le_refl _) (.cells #[.string ⟨#[]⟩, .int .i64 0, .int .i64 0, .slice none 0 0, .slice none 0 0] 27) |>.mono hb.size)
        replace hT := hT.below hb2
        replace hL := below_call hL hb2
        clear hP hst hle hv hb hb2
        obtain ⟨t0, t1, t2, t3, t4⟩ := low5 hT (Below.refl _ _)
        obtain ⟨g0, g1', g2', g3, g4⟩ : _ ∧ _ ∧ _ ∧ _ ∧ _ := ⟨hT.frozen 0, hT.frozen 1, hT.frozen 2, hT.frozen 3, hT.frozen 4⟩
        have hT6 := ((((hT.set 0 (.string ⟨#[]⟩)).set 1 (.int .i64 0)).set 2 (.int .i64 0)).set 3 (.slice none 0 0)).set 4 (.slice none 0 0)
        obtain ⟨u0, u1, u2, u3, u4⟩ : _ ∧ _ ∧ _ ∧ _ ∧ _ := ⟨hT6.cell 0, hT6.cell 1, hT6.cell 2, hT6.cell 3, hT6.cell 4⟩
        simp only [List.set_cons_zero, List.set_cons_succ, List.getElem?_cons_zero, List.getElem?_cons_succ] at u0 u1 u2 u3 u4
        have HU := Lib.hid (And.intro u0 (And.intro u1 (And.intro u2 (And.intro u3 u4))))
        clear u0 u1 u2 u3 u4
        have hL6 := (((((hL.setCell (p := ⟨W.heap.size, 0, none⟩) (Nat.le_refl _) (.string ⟨#[]⟩)).setCell (p := ⟨W.heap.size, 1, none⟩) (Nat.le_refl _) (.int .i64 0)).setCell (p := ⟨W.heap.size, 2, none⟩) (Nat.le_refl _) (.int .i64 0)).setCell (p := ⟨W.heap.size, 3, none⟩) (Nat.le_refl _) (.slice none 0 0)).setCell (p := ⟨W.heap.size, 4, none⟩) (Nat.le_refl _) (.slice none 0 0))
        have HZ := Lib.hid (zero_exit HV.out hL6)
        clear hT hT6 hL hL6
        go_wp2_with fail
        obtain ⟨u0, u1, u2, u3, u4⟩ := HU.out
        refine bodyPost_ret (v := .tuple #[.agg #[.string ⟨#[]⟩, .int .i64 0, .int .i64 0, .slice none 0 0, .slice none 0 0], .int .i64 (1), .int .i64 (5)]) (by simp [results, Tryz.results17, go_sem, *]) rfl HZ.out
      · obtain ⟨-, hw1, hw2, hh1, hh2, -⟩ := head_some hv
        have HST := Lib.hid (heads_yes hP.out hsh (HL0.out.symm.trans HLE.out) hv hh1)
        obtain ⟨N, hN⟩ : ∃ N, N = w * h := ⟨_, rfl⟩
        obtain ⟨nb, hnb⟩ : ∃ n, n = bs nm := ⟨_, rfl⟩
        have hN1024 : N ≤ 1024 := by rw [hN]; exact Nat.mul_le_mul hw2 hh2
        have hcl : (List.replicate (w * h) C3.zero).length = h * w := by rw [List.length_replicate, Nat.mul_comm]
        obtain ⟨cs0, hcs0⟩ : ∃ c, c = List.replicate (w * h) C3.zero := ⟨_, rfl⟩
        rw [← hcs0] at HST hcb hcl
        rw [← hN, ← hnb]
        have hw2s := hb.size
        have hI : PSt W (w2.alloc (.cells #[.string nb, .int .i64 w, .int .i64 h, .slice (some ⟨G, 0, none⟩) N N, .slice none 0 0] 27)) g w2.heap.size G N ls nb w h (.slice none 0 0) cs0 :=
          ⟨(hT.below hb).alloc _, (hst.call hb hg2).call ((Below.refl _ _).alloc (Nat.le_refl _) _) (by omega), Blk.new w2 [.string nb, .int .i64 w, .int .i64 h, .slice (some ⟨G, 0, none⟩) N N, .slice none 0 0] 27, Blk.alloc hcb _, (below_call hL hb).alloc (below_call hL hb).size _, by simp; omega, by omega, by omega, by have := hcb.lt; omega, by omega, by omega⟩
        have HNN := Lib.hid (show N = h * w by rw [hN, Nat.mul_comm])
        have HNB := Lib.hid hnb
        have hnm := (name_len (head_some hv).1).2
        have HLd : Hid (L1 = L.drop 1) := hid (by rw [HLE.out]; rfl)
        have hST : Hid ((R, rl, re) = ST n tl nm w h 0 cs0 (L.drop 1)) := hid (by
          rw [HST.out, HTL.out, ← HLd.out, HN.out, HLE.out])
        clear hP hst hv hb hT hL hcb HST hN hnb hcs0 HLd HLE
        go_wp2_with fail
        generalize w2.alloc (.cells #[.string nb, .int .i64 w, .int .i64 h, .slice (some ⟨G, 0, none⟩) N N, .slice none 0 0] 27) = V2 at *
        generalize w2.heap.size = Fb at *
        obtain ⟨E0, E1, E2, E3, E4⟩ := low5 hI.f (Below.refl _ _)
        go_loopw [9, 10] (fun va vk wr => ∃ (a k : Nat) (cs : List C3), va = .int .i64 a ∧ vk = .int .i64 k ∧ k ≤ 2 * h ∧ a ≤ n ∧ Hid (a = k + 1) ∧ PSt W wr g Fb G N ls nb w h (.slice none 0 0) cs ∧ Hid (cs.length = h * w) ∧ Hid ((R, rl, re) = ST n tl nm w h k cs (L.drop a))) (fun _ vk _ => 2 * h - (RowKit.intOf vk).toNat)
        case atStart => exact ⟨1, 0, cs0, rfl, rfl, by omega, by omega, hid rfl, hI, hid hcl, hST⟩
        case round =>
          clear hI E0 E1 E2 E3 E4 hST hcl
          obtain ⟨a, k, cs, rfl, rfl, hk, ha, hak, hI, hcl, hST⟩ := hrel
          obtain ⟨E0, E1, E2, E3, E4⟩ := low5 hI.f (Below.refl _ _)
          by_cases hlt : k < 2 * h
          · have d1 : (k : Int) < 2 * (h : Int) := by omega
            by_cases hcut : n ≤ a
            · have z1 : decide ((n : Int) ≤ (a : Int)) = true := decide_eq_true (by omega)
              have HV : Hid ((R, rl, re) = (F3.zero, (a : Int) + 1, (4 : Int))) := hid (by
                rw [hST.out, List.drop_eq_nil_of_le (by rw [← HN.out]; exact hcut), st_cut hlt, show n = a by omega, Int.natCast_add]; rfl)
              have hT := hI.t
              have hL := hI.old
              clear hST hI hcl E0 E3 E4
              obtain ⟨t0, t1, t2, t3, t4⟩ := low5 hT (Below.refl _ _)
              obtain ⟨g0, g1', g2', g3, g4⟩ : _ ∧ _ ∧ _ ∧ _ ∧ _ := ⟨hT.frozen 0, hT.frozen 1, hT.frozen 2, hT.frozen 3, hT.frozen 4⟩
              have hT6 := ((((hT.set 0 (.string ⟨#[]⟩)).set 1 (.int .i64 0)).set 2 (.int .i64 0)).set 3 (.slice none 0 0)).set 4 (.slice none 0 0)
              obtain ⟨u0, u1, u2, u3, u4⟩ : _ ∧ _ ∧ _ ∧ _ ∧ _ := ⟨hT6.cell 0, hT6.cell 1, hT6.cell 2, hT6.cell 3, hT6.cell 4⟩
              simp only [List.set_cons_zero, List.set_cons_succ, List.getElem?_cons_zero, List.getElem?_cons_succ] at u0 u1 u2 u3 u4
              have HU := Lib.hid (And.intro u0 (And.intro u1 (And.intro u2 (And.intro u3 u4))))
              clear u0 u1 u2 u3 u4
              have hL6 := (((((hL.setCell (p := ⟨W.heap.size, 0, none⟩) (Nat.le_refl _) (.string ⟨#[]⟩)).setCell (p := ⟨W.heap.size, 1, none⟩) (Nat.le_refl _) (.int .i64 0)).setCell (p := ⟨W.heap.size, 2, none⟩) (Nat.le_refl _) (.int .i64 0)).setCell (p := ⟨W.heap.size, 3, none⟩) (Nat.le_refl _) (.slice none 0 0)).setCell (p := ⟨W.heap.size, 4, none⟩) (Nat.le_refl _) (.slice none 0 0))
              have HZ := Lib.hid (zero_exit HV.out hL6)
              clear hT hT6 hL hL6
              go_wp2_with fail
              obtain ⟨u0, u1, u2, u3, u4⟩ := HU.out
              refine bodyPost_ret (v := .tuple #[.agg #[.string ⟨#[]⟩, .int .i64 0, .int .i64 0, .slice none 0 0, .slice none 0 0], .int .i64 ((a : Int) + 1), .int .i64 (4)]) (by simp [results, Tryz.results17, go_sem, *]) rfl HZ.out
            · have z1 : decide ((n : Int) ≤ (a : Int)) = false := decide_eq_false (by omega)
              obtain ⟨l, hl⟩ : ∃ l, L[a]? = some l := ⟨_, List.getElem?_eq_getElem (by rw [← HN.out]; omega)⟩
              obtain ⟨hi, hlq⟩ := get_line HG1.out hl
              have hdr := drop_line hl
              have p := hI.l a hi
              rw [hlq] at p
              have hlz : (bs l).size ≤ 100000 := by rw [bs_size, ← hlq]; exact hle.out _ (List.getElem_mem hi)
              have dat : (a : Int) < (n : Int) + 1 := by omega
              have dat0 : (0 : Int) ≤ a := by omega
              have hlen : (l :: L.drop (a + 1)).length = n - a := by rw [← hdr, List.length_drop, ← HN.out]
              clear hlq hl hi
              by_cases hkh : k < h
              · have hc := rrowK_b G w h N cs hw1 hw2 hh2 hcl.out (HNN.out.trans hcl.out.symm) ⟨k, hkh⟩ (bs l) hlz wr.drew (Blk.drew hI.c)
                rw [bs_list] at hc
                dsimp only at hc
                obtain ⟨o, ho⟩ : ∃ o, rowv setK (rowAt w cs k) l = o := ⟨_, rfl⟩
                rw [ho] at hc
                obtain ⟨b, hb⟩ : ∃ b, b = o.isSome := ⟨_, rfl⟩
                rw [← hb] at hc
                have HC := Lib.hid hc
                have HO := Lib.hid ho
                have HB := Lib.hid hb
                clear hc ho hb
                go_wp2_with fail
                go_region_with (first | ((with_reducible refine HC.out.mono ?_); rintro e w' ⟨cs', rfl, hC2, hT2, -, hr2⟩))
                all_goals
                  have hI2 := hI.two ((Two.of_below (Below.refl _ wr).drew).trans hT2) hC2
                  have hSo := hST.out
                  rw [hdr] at hSo
                  clear p E0 E1 E2 E3 E4 hI hC2 hT2 HC hST
                  cases b with
                  | false =>
                    have ho : rowv setK (rowAt w cs k) l = none := by
                      rw [HO.out]
                      have := HB.out
                      cases o with
                      | none => rfl
                      | some r => cases this
                    rw [st_badK hkh ho, hlen, show n - (n - a) + 1 = a + 1 by omega, Int.natCast_add] at hSo
                    have HV := Lib.hid hSo
                    have hT := hI2.t
                    have hL := hI2.old
                    clear hSo hdr hlen ho hI2 hr2 HO HB
                    obtain ⟨t0, t1, t2, t3, t4⟩ := low5 hT (Below.refl _ _)
                    obtain ⟨g0, g1', g2', g3, g4⟩ : _ ∧ _ ∧ _ ∧ _ ∧ _ := ⟨hT.frozen 0, hT.frozen 1, hT.frozen 2, hT.frozen 3, hT.frozen 4⟩
                    have hT6 := ((((hT.set 0 (.string ⟨#[]⟩)).set 1 (.int .i64 0)).set 2 (.int .i64 0)).set 3 (.slice none 0 0)).set 4 (.slice none 0 0)
                    obtain ⟨u0, u1, u2, u3, u4⟩ : _ ∧ _ ∧ _ ∧ _ ∧ _ := ⟨hT6.cell 0, hT6.cell 1, hT6.cell 2, hT6.cell 3, hT6.cell 4⟩
                    simp only [List.set_cons_zero, List.set_cons_succ, List.getElem?_cons_zero, List.getElem?_cons_succ] at u0 u1 u2 u3 u4
                    have HU := Lib.hid (And.intro u0 (And.intro u1 (And.intro u2 (And.intro u3 u4))))
                    clear u0 u1 u2 u3 u4
                    have hL6 := (((((hL.setCell (p := ⟨W.heap.size, 0, none⟩) (Nat.le_refl _) (.string ⟨#[]⟩)).setCell (p := ⟨W.heap.size, 1, none⟩) (Nat.le_refl _) (.int .i64 0)).setCell (p := ⟨W.heap.size, 2, none⟩) (Nat.le_refl _) (.int .i64 0)).setCell (p := ⟨W.heap.size, 3, none⟩) (Nat.le_refl _) (.slice none 0 0)).setCell (p := ⟨W.heap.size, 4, none⟩) (Nat.le_refl _) (.slice none 0 0))
                    have HZ := Lib.hid (zero_exit HV.out hL6)
                    clear hT hT6 hL hL6
                    go_wp2_with fail
                    obtain ⟨u0, u1, u2, u3, u4⟩ := HU.out
                    refine bodyPost_ret (v := .tuple #[.agg #[.string ⟨#[]⟩, .int .i64 0, .int .i64 0, .slice none 0 0, .slice none 0 0], .int .i64 ((a : Int) + 1), .int .i64 (5)]) (by simp [results, Tryz.results17, go_sem, *]) rfl HZ.out
                  | true =>
                    obtain ⟨r, hor⟩ : ∃ r, o = some r := by
                      have := HB.out
                      cases o with
                      | none => cases this
                      | some r => exact ⟨r, rfl⟩
                    have ho : rowv setK (rowAt w cs k) l = some r := HO.out.trans hor
                    obtain ⟨hcs, hrl⟩ := hr2 r hor
                    subst hcs
                    have HN2 : Hid ((R, rl, re) = ST n tl nm w h (k + 1) (repl cs k w r) (L.drop (a + 1))) := hid (by
                      rw [hSo, st_nextK hkh hcl.out ho hrl])
                    have hcl2 := repl_len (show k < h by omega) hcl.out hrl
                    clear hSo ho hr2 hdr hlen hcl HO HB hor
                    replace hcl2 := Lib.hid hcl2
                    go_wp2_with fail
                    go_roundw
                    case rel => exact ⟨a + 1, k + 1, _, by go_num, by go_num, by omega, by omega, hid (by rw [hak.out]), hI2, hcl2, HN2⟩
                    case measure => simp [RowKit.intOf]; omega
              · have hc := rrowH_b G w h N cs hw1 hw2 hh2 hcl.out (HNN.out.trans hcl.out.symm) ⟨k - h, by omega⟩ k (by show k = h + (k - h); omega) (bs l) hlz wr.drew (Blk.drew hI.c)
                rw [bs_list] at hc
                dsimp only at hc
                obtain ⟨o, ho⟩ : ∃ o, rowv setH (rowAt w cs (k - h)) l = o := ⟨_, rfl⟩
                rw [ho] at hc
                obtain ⟨b, hb⟩ : ∃ b, b = o.isSome := ⟨_, rfl⟩
                rw [← hb] at hc
                have HC := Lib.hid hc
                have HO := Lib.hid ho
                have HB := Lib.hid hb
                clear hc ho hb
                go_wp2_with fail
                go_region_with (first | ((with_reducible refine HC.out.mono ?_); rintro e w' ⟨cs', rfl, hC2, hT2, -, hr2⟩))
                all_goals
                  have hI2 := hI.two ((Two.of_below (Below.refl _ wr).drew).trans hT2) hC2
                  have hSo := hST.out
                  rw [hdr] at hSo
                  rw [show k = h + (k - h) by omega] at hSo
                  clear p E0 E1 E2 E3 E4 hI hC2 hT2 HC hST
                  cases b with
                  | false =>
                    have ho : rowv setH (rowAt w cs (k - h)) l = none := by
                      rw [HO.out]
                      have := HB.out
                      cases o with
                      | none => rfl
                      | some r => cases this
                    rw [st_badH (show k - h < h by omega) ho, hlen, show n - (n - a) + 1 = a + 1 by omega, Int.natCast_add] at hSo
                    have HV := Lib.hid hSo
                    have hT := hI2.t
                    have hL := hI2.old
                    clear hSo hdr hlen ho hI2 hr2 HO HB
                    obtain ⟨t0, t1, t2, t3, t4⟩ := low5 hT (Below.refl _ _)
                    obtain ⟨g0, g1', g2', g3, g4⟩ : _ ∧ _ ∧ _ ∧ _ ∧ _ := ⟨hT.frozen 0, hT.frozen 1, hT.frozen 2, hT.frozen 3, hT.frozen 4⟩
                    have hT6 := ((((hT.set 0 (.string ⟨#[]⟩)).set 1 (.int .i64 0)).set 2 (.int .i64 0)).set 3 (.slice none 0 0)).set 4 (.slice none 0 0)
                    obtain ⟨u0, u1, u2, u3, u4⟩ : _ ∧ _ ∧ _ ∧ _ ∧ _ := ⟨hT6.cell 0, hT6.cell 1, hT6.cell 2, hT6.cell 3, hT6.cell 4⟩
                    simp only [List.set_cons_zero, List.set_cons_succ, List.getElem?_cons_zero, List.getElem?_cons_succ] at u0 u1 u2 u3 u4
                    have HU := Lib.hid (And.intro u0 (And.intro u1 (And.intro u2 (And.intro u3 u4))))
                    clear u0 u1 u2 u3 u4
                    have hL6 := (((((hL.setCell (p := ⟨W.heap.size, 0, none⟩) (Nat.le_refl _) (.string ⟨#[]⟩)).setCell (p := ⟨W.heap.size, 1, none⟩) (Nat.le_refl _) (.int .i64 0)).setCell (p := ⟨W.heap.size, 2, none⟩) (Nat.le_refl _) (.int .i64 0)).setCell (p := ⟨W.heap.size, 3, none⟩) (Nat.le_refl _) (.slice none 0 0)).setCell (p := ⟨W.heap.size, 4, none⟩) (Nat.le_refl _) (.slice none 0 0))
                    have HZ := Lib.hid (zero_exit HV.out hL6)
                    clear hT hT6 hL hL6
                    go_wp2_with fail
                    obtain ⟨u0, u1, u2, u3, u4⟩ := HU.out
                    refine bodyPost_ret (v := .tuple #[.agg #[.string ⟨#[]⟩, .int .i64 0, .int .i64 0, .slice none 0 0, .slice none 0 0], .int .i64 ((a : Int) + 1), .int .i64 (5)]) (by simp [results, Tryz.results17, go_sem, *]) rfl HZ.out
                  | true =>
                    obtain ⟨r, hor⟩ : ∃ r, o = some r := by
                      have := HB.out
                      cases o with
                      | none => cases this
                      | some r => exact ⟨r, rfl⟩
                    have ho : rowv setH (rowAt w cs (k - h)) l = some r := HO.out.trans hor
                    obtain ⟨hcs, hrl⟩ := hr2 r hor
                    subst hcs
                    have HN2 : Hid ((R, rl, re) = ST n tl nm w h (k + 1) (repl cs (k - h) w r) (L.drop (a + 1))) := hid (by
                      rw [hSo, st_nextH (show k - h < h by omega) hcl.out ho hrl, show h + (k - h) + 1 = k + 1 by omega])
                    have hcl2 := repl_len (show (k - h) < h by omega) hcl.out hrl
                    clear hSo ho hr2 hdr hlen hcl HO HB hor
                    replace hcl2 := Lib.hid hcl2
                    go_wp2_with fail
                    go_roundw
                    case rel => exact ⟨a + 1, k + 1, _, by go_num, by go_num, by omega, by omega, hid (by rw [hak.out]), hI2, hcl2, HN2⟩
                    case measure => simp [RowKit.intOf]; omega
          · obtain rfl : k = 2 * h := by omega
            have d1 : ¬ ((2 * h : Nat) : Int) < 2 * (h : Int) := by omega
            have hAM : Hid ((R, rl, re) = AM n tl nm w h 0 cs (L.drop a)) := hid (by rw [hST.out, st_end hcl.out])
            have hcN : Hid (cs.length = N) := hid (by rw [hcl.out, HNN.out])
            clear hST hcl hak
            go_wp2_with fail
            go_loopw [9, 11] (fun va vi wr => ∃ (a i : Nat) (cs : List C3), va = .int .i64 a ∧ vi = .int .i64 i ∧ i ≤ N ∧ a ≤ n ∧ PSt W wr g Fb G N ls nb w h (.slice none 0 0) cs ∧ Hid (cs.length = N) ∧ Hid ((R, rl, re) = AM n tl nm w h i cs (L.drop a))) (fun _ vi _ => N - (RowKit.intOf vi).toNat)
            case atStart => exact ⟨a, 0, cs, rfl, rfl, by omega, ha, hI, hcN, hAM⟩
            case round =>
              clear hI E0 E1 E2 E3 E4 hAM hcN ha hk hlt d1
              obtain ⟨a, i, cs, rfl, rfl, hi, ha, hI, hcN, hAM⟩ := hrel
              obtain ⟨E0, E1, E2, E3, E4⟩ := low5 hI.f (Below.refl _ _)
              by_cases hlt : i < N
              · have d1 : (i : Int) < (N : Int) := by omega
                have i0 : (0 : Int) ≤ i := by omega
                have hil : i < cs.length := by rw [hcN.out]; exact hlt
                obtain ⟨k1, k2, k3⟩ := CB.cells hI.c hil
                obtain ⟨c, hc⟩ : ∃ c, c = cs[i]'hil := ⟨_, rfl⟩
                rw [← hc] at k1 k2 k3
                have HCI : Hid (cs[i]? = some c) := hid (by rw [hc]; exact List.getElem?_eq_getElem hil)
                obtain ⟨rb, hrb⟩ : ∃ b, Hid (b = resB c.k) := ⟨_, hid rfl⟩
                have c1 := fun V => rresource_b c rb V hrb
                clear hc hil
                go_wp2_with fail
                ((with_reducible refine (c1 _).mono ?_); rintro e w3 ⟨rfl, hb⟩)
                replace hI := hI.call hb
                clear hb k1 k2 k3 c1 E0 E1 E2 E3 E4
                obtain ⟨E0, E1, E2, E3, E4⟩ := low5 hI.f (Below.refl _ _)
                cases rb with
                | false =>
                  have HN2 : Hid ((R, rl, re) = AM n tl nm w h (i + 1) cs (L.drop a)) := hid (by rw [hAM.out, am_skip HCI.out hrb.out.symm])
                  clear hAM HCI hrb
                  go_wp2_with fail
                  go_roundw
                  case rel => exact ⟨a, i + 1, cs, rfl, by go_num, by omega, ha, hI, hcN, HN2⟩
                  case measure => simp [RowKit.intOf]; omega
                | true =>
                  by_cases hcut : n ≤ a
                  · have z1 : decide ((n : Int) ≤ (a : Int)) = true := decide_eq_true (by omega)
                    have HV : Hid ((R, rl, re) = (F3.zero, (a : Int) + 1, (4 : Int))) := hid (by
                      rw [hAM.out, List.drop_eq_nil_of_le (by rw [← HN.out]; exact hcut), am_cut HCI.out hrb.out.symm, show n = a by omega, Int.natCast_add]; rfl)
                    have hT := hI.t
                    have hL := hI.old
                    clear hAM hI hcN HCI E0 E3 E4
                    obtain ⟨t0, t1, t2, t3, t4⟩ := low5 hT (Below.refl _ _)
                    obtain ⟨g0, g1', g2', g3, g4⟩ : _ ∧ _ ∧ _ ∧ _ ∧ _ := ⟨hT.frozen 0, hT.frozen 1, hT.frozen 2, hT.frozen 3, hT.frozen 4⟩
                    have hT6 := ((((hT.set 0 (.string ⟨#[]⟩)).set 1 (.int .i64 0)).set 2 (.int .i64 0)).set 3 (.slice none 0 0)).set 4 (.slice none 0 0)
                    obtain ⟨u0, u1, u2, u3, u4⟩ : _ ∧ _ ∧ _ ∧ _ ∧ _ := ⟨hT6.cell 0, hT6.cell 1, hT6.cell 2, hT6.cell 3, hT6.cell 4⟩
                    simp only [List.set_cons_zero, List.set_cons_succ, List.getElem?_cons_zero, List.getElem?_cons_succ] at u0 u1 u2 u3 u4
                    have HU := Lib.hid (And.intro u0 (And.intro u1 (And.intro u2 (And.intro u3 u4))))
                    clear u0 u1 u2 u3 u4
                    have hL6 := (((((hL.setCell (p := ⟨W.heap.size, 0, none⟩) (Nat.le_refl _) (.string ⟨#[]⟩)).setCell (p := ⟨W.heap.size, 1, none⟩) (Nat.le_refl _) (.int .i64 0)).setCell (p := ⟨W.heap.size, 2, none⟩) (Nat.le_refl _) (.int .i64 0)).setCell (p := ⟨W.heap.size, 3, none⟩) (Nat.le_refl _) (.slice none 0 0)).setCell (p := ⟨W.heap.size, 4, none⟩) (Nat.le_refl _) (.slice none 0 0))
                    have HZ := Lib.hid (zero_exit HV.out hL6)
                    clear hT hT6 hL hL6
                    go_wp2_with fail
                    obtain ⟨u0, u1, u2, u3, u4⟩ := HU.out
                    refine bodyPost_ret (v := .tuple #[.agg #[.string ⟨#[]⟩, .int .i64 0, .int .i64 0, .slice none 0 0, .slice none 0 0], .int .i64 ((a : Int) + 1), .int .i64 (4)]) (by simp [results, Tryz.results17, go_sem, *]) rfl HZ.out
                  · have z1 : decide ((n : Int) ≤ (a : Int)) = false := decide_eq_false (by omega)
                    obtain ⟨l, hl⟩ : ∃ l, L[a]? = some l := ⟨_, List.getElem?_eq_getElem (by rw [← HN.out]; omega)⟩
                    obtain ⟨hi, hlq⟩ := get_line HG1.out hl
                    have hdr := drop_line hl
                    have p := hI.l a hi
                    rw [hlq] at p
                    have hlz : (bs l).size ≤ 100000 := by rw [bs_size, ← hlq]; exact hle.out _ (List.getElem_mem hi)
                    have dat : (a : Int) < (n : Int) + 1 := by omega
                    have dat0 : (0 : Int) ≤ a := by omega
                    have hlen : (l :: L.drop (a + 1)).length = n - a := by rw [← hdr, List.length_drop, ← HN.out]
                    clear hlq hl hi
                    obtain ⟨o, ho⟩ : ∃ o, amtv (i % w) (i / w) l = o := ⟨_, rfl⟩
                    obtain ⟨b, hb⟩ : ∃ b, b = o.isSome := ⟨_, rfl⟩
                    have HC : Hid (Calls Tryz.prog 49 #[.agg #[.int .i64 w, .int .i64 h, .slice (some ⟨G, 0, none⟩) N N], .int .i64 i, .string (bs l)] w3.drew fun e w' => e = .returned (.bool b) ∧ Two G G w3.drew w' ∧ ∀ x, o = some x → CB w' G (cs.set i (updC 2 x c))) := hid ((ramount_b G w h N i cs hw1 hw2 (hid hcN.out.symm) hN1024 hlt c (bs l) hlz w3.drew (Blk.drew hI.c) HCI).mono (by
                      rintro e w' ⟨hT, hd⟩
                      rw [bs_list, ho] at hd
                      rcases hd with ⟨h1, h2⟩ | ⟨x, h1, h2, h3⟩
                      · exact ⟨by rw [h2, hb, h1]; rfl, hT, fun y hy => by rw [h1] at hy; cases hy⟩
                      · exact ⟨by rw [h2, hb, h1]; rfl, hT, fun y hy => by rw [h1] at hy; cases hy; exact h3⟩))
                    have HO := Lib.hid ho
                    have HB := Lib.hid hb
                    clear ho hb
                    go_wp2_with fail
                    go_region_with (first | ((with_reducible refine HC.out.mono ?_); rintro e w' ⟨rfl, hT2, hr2⟩))
                    all_goals
                      have hT3 := (Two.of_below (Below.refl _ w3).drew).trans hT2
                      have hSo := hAM.out
                      rw [hdr] at hSo
                      clear p E0 E1 E2 E3 E4 hT2 HC hAM
                      cases b with
                      | false =>
                        have ho : amtv (i % w) (i / w) l = none := by
                          rw [HO.out]
                          have := HB.out
                          cases o with
                          | none => rfl
                          | some r => cases this
                        rw [am_bad HCI.out hrb.out.symm ho, hlen, show n - (n - a) + 1 = a + 1 by omega, Int.natCast_add] at hSo
                        have HV := Lib.hid hSo
                        obtain ⟨hT, hL⟩ := hI.low hT3
                        clear hSo hdr hlen ho hI hr2 HO HB hT3 HCI hcN
                        obtain ⟨t0, t1, t2, t3, t4⟩ := low5 hT (Below.refl _ _)
                        obtain ⟨g0, g1', g2', g3, g4⟩ : _ ∧ _ ∧ _ ∧ _ ∧ _ := ⟨hT.frozen 0, hT.frozen 1, hT.frozen 2, hT.frozen 3, hT.frozen 4⟩
                        have hT6 := ((((hT.set 0 (.string ⟨#[]⟩)).set 1 (.int .i64 0)).set 2 (.int .i64 0)).set 3 (.slice none 0 0)).set 4 (.slice none 0 0)
                        obtain ⟨u0, u1, u2, u3, u4⟩ : _ ∧ _ ∧ _ ∧ _ ∧ _ := ⟨hT6.cell 0, hT6.cell 1, hT6.cell 2, hT6.cell 3, hT6.cell 4⟩
                        simp only [List.set_cons_zero, List.set_cons_succ, List.getElem?_cons_zero, List.getElem?_cons_succ] at u0 u1 u2 u3 u4
                        have HU := Lib.hid (And.intro u0 (And.intro u1 (And.intro u2 (And.intro u3 u4))))
                        clear u0 u1 u2 u3 u4
                        have hL6 := (((((hL.setCell (p := ⟨W.heap.size, 0, none⟩) (Nat.le_refl _) (.string ⟨#[]⟩)).setCell (p := ⟨W.heap.size, 1, none⟩) (Nat.le_refl _) (.int .i64 0)).setCell (p := ⟨W.heap.size, 2, none⟩) (Nat.le_refl _) (.int .i64 0)).setCell (p := ⟨W.heap.size, 3, none⟩) (Nat.le_refl _) (.slice none 0 0)).setCell (p := ⟨W.heap.size, 4, none⟩) (Nat.le_refl _) (.slice none 0 0))
                        have HZ := Lib.hid (zero_exit HV.out hL6)
                        clear hT hT6 hL hL6
                        go_wp2_with fail
                        obtain ⟨u0, u1, u2, u3, u4⟩ := HU.out
                        refine bodyPost_ret (v := .tuple #[.agg #[.string ⟨#[]⟩, .int .i64 0, .int .i64 0, .slice none 0 0, .slice none 0 0], .int .i64 ((a : Int) + 1), .int .i64 (5)]) (by simp [results, Tryz.results17, go_sem, *]) rfl HZ.out
                      | true =>
                        obtain ⟨x, hor⟩ : ∃ r, o = some r := by
                          have := HB.out
                          cases o with
                          | none => cases this
                          | some r => exact ⟨r, rfl⟩
                        have ho : amtv (i % w) (i / w) l = some x := HO.out.trans hor
                        have hI2 := hI.two hT3 (hr2 x hor)
                        have HN2 : Hid ((R, rl, re) = AM n tl nm w h (i + 1) (cs.set i (updC 2 x c)) (L.drop (a + 1))) := hid (by
                          rw [hSo, am_next HCI.out hrb.out.symm ho])
                        have hcl2 : Hid ((cs.set i (updC 2 x c)).length = N) := hid (by rw [List.length_set, hcN.out])
                        clear hSo ho hr2 hdr hlen hcN HO HB hor hI hT3 HCI
                        go_wp2_with fail
                        go_roundw
                        case rel => exact ⟨a + 1, i + 1, _, by go_num, by go_num, by omega, by omega, hI2, hcl2, HN2⟩
                        case measure => simp [RowKit.intOf]; omega
              · obtain rfl : N = i := by omega
                have d1 : ¬ (N : Int) < (N : Int) := by omega
                have hSV : Hid ((R, rl, re) = SV n tl nm w h cs [] (L.drop a)) := hid (by
                  rw [hAM.out]
                  have := am_end (n := n) (tl := tl) (nm := nm) (w := w) (h := h) (cs := cs) (ls := L.drop a)
                  rw [hcN.out] at this
                  exact this)
                clear hAM
                go_wp2_with fail
                have hgF : g ≠ Fb := by omega
                have hFl := hI.f.lt
                have hCl := hI.c.lt
                have hgl := hI.hg
                obtain ⟨B, hB⟩ : ∃ B, B = wr.heap.size := ⟨_, rfl⟩
                rw [← hB] at hFl hCl hgl
                have hBw : B ≤ wr.heap.size := by omega
                clear hB hlt d1 hi
                go_loopw [9] (fun va wr => ∃ (a : Nat) (pv : Option Addr) (cv : Nat) (acc : List (Int × Int)), va = .int .i64 a ∧ a ≤ n ∧ acc.length ≤ a ∧ B ≤ wr.heap.size ∧ PSt W wr g Fb G N ls nb w h (.slice pv acc.length cv) cs ∧ wr.ownsRow B 41 2 (.slice pv acc.length cv) acc.length (pcells acc) ∧ Hid ((R, rl, re) = SV n tl nm w h cs acc (L.drop a))) (fun va _ => n - (RowKit.intOf va).toNat)
                case atStart => exact ⟨a, none, 0, [], rfl, ha, Nat.zero_le _, hBw, hI, World.ownsRow_nil _ _ _ _, hSV⟩
                case round =>
                  clear hI E0 E1 E2 E3 E4 hSV ha hBw
                  obtain ⟨a, pv, cv, acc, rfl, ha, hac, hBw, hI, hown, hSV⟩ := hrel
                  obtain ⟨E0, E1, E2, E3, E4⟩ := low5 hI.f (Below.refl _ _)
                  by_cases hlt : a < n
                  · have d1 : (a : Int) < (n : Int) := by omega
                    obtain ⟨l, hl⟩ : ∃ l, L[a]? = some l := ⟨_, List.getElem?_eq_getElem (by rw [← HN.out]; omega)⟩
                    obtain ⟨hi, hlq⟩ := get_line HG1.out hl
                    have hdr := drop_line hl
                    have p := hI.l a hi
                    rw [hlq] at p
                    have hlz : (bs l).size ≤ 100000 := by rw [bs_size, ← hlq]; exact hle.out _ (List.getElem_mem hi)
                    have dat : (a : Int) < (n : Int) + 1 := by omega
                    have dat0 : (0 : Int) ≤ a := by omega
                    have hlen : (l :: L.drop (a + 1)).length = n - a := by rw [← hdr, List.length_drop, ← HN.out]
                    clear hlq hl hi
                    obtain ⟨o, ho⟩ : ∃ o, startv l = o := ⟨_, rfl⟩
                    obtain ⟨b, hb⟩ : ∃ b, b = o.isSome := ⟨_, rfl⟩
                    have c1 : ∀ V, Calls Tryz.prog 50 #[.string (bs l)] V fun e w' => ∃ x y : Int, e = .returned (.tuple #[.agg #[.int .i64 x, .int .i64 y], .bool b]) ∧ (∀ q, o = some q → q = (x, y)) ∧ Below V.heap.size V w' := fun V => by
                      have := rstart_b (bs l) V hlz
                      unfold StPost at this
                      rw [bs_list, ho, ← hb] at this
                      exact this
                    have HO := Lib.hid ho
                    have HB := Lib.hid hb
                    clear ho hb
                    go_wp2_with fail
                    ((with_reducible refine (c1 _).mono ?_); rintro e w3 ⟨x, y, rfl, hq, hb3⟩)
                    have hb4 : Below w3.heap.size w3 (w3.alloc (.cells #[.int .i64 x, .int .i64 y] 41)) := (Below.refl _ w3).alloc (Nat.le_refl _) _
                    replace hI := (hI.call hb3).call hb4
                    replace hown := own_below (own_below hown hb3) hb4
                    replace hBw := Nat.le_trans (Nat.le_trans hBw hb3.size) hb4.size
                    have hPB := Blk.new w3 [.int .i64 x, .int .i64 y] 41
                    have hPs := hPB.lt
                    have hSo := hSV.out
                    rw [hdr] at hSo
                    clear p E0 E1 E2 E3 E4 hb3 hb4 c1 hSV
                    cases b with
                    | false =>
                      have ho : startv l = none := by
                        rw [HO.out]
                        have := HB.out
                        cases o with
                        | none => rfl
                        | some r => cases this
                      rw [sv_bad ho, hlen, show n - (n - a) + 1 = a + 1 by omega, Int.natCast_add] at hSo
                      have HV := Lib.hid hSo
                      have hT := hI.t
                      have hL := hI.old
                      clear hSo hdr hlen ho hI hq HO HB hown hPB hPs
                      obtain ⟨t0, t1, t2, t3, t4⟩ := low5 hT (Below.refl _ _)
                      obtain ⟨g0, g1', g2', g3, g4⟩ : _ ∧ _ ∧ _ ∧ _ ∧ _ := ⟨hT.frozen 0, hT.frozen 1, hT.frozen 2, hT.frozen 3, hT.frozen 4⟩
                      have hT6 := ((((hT.set 0 (.string ⟨#[]⟩)).set 1 (.int .i64 0)).set 2 (.int .i64 0)).set 3 (.slice none 0 0)).set 4 (.slice none 0 0)
                      obtain ⟨u0, u1, u2, u3, u4⟩ : _ ∧ _ ∧ _ ∧ _ ∧ _ := ⟨hT6.cell 0, hT6.cell 1, hT6.cell 2, hT6.cell 3, hT6.cell 4⟩
                      simp only [List.set_cons_zero, List.set_cons_succ, List.getElem?_cons_zero, List.getElem?_cons_succ] at u0 u1 u2 u3 u4
                      have HU := Lib.hid (And.intro u0 (And.intro u1 (And.intro u2 (And.intro u3 u4))))
                      clear u0 u1 u2 u3 u4
                      have hL6 := (((((hL.setCell (p := ⟨W.heap.size, 0, none⟩) (Nat.le_refl _) (.string ⟨#[]⟩)).setCell (p := ⟨W.heap.size, 1, none⟩) (Nat.le_refl _) (.int .i64 0)).setCell (p := ⟨W.heap.size, 2, none⟩) (Nat.le_refl _) (.int .i64 0)).setCell (p := ⟨W.heap.size, 3, none⟩) (Nat.le_refl _) (.slice none 0 0)).setCell (p := ⟨W.heap.size, 4, none⟩) (Nat.le_refl _) (.slice none 0 0))
                      have HZ := Lib.hid (zero_exit HV.out hL6)
                      clear hT hT6 hL hL6
                      go_wp2_with fail
                      obtain ⟨u0, u1, u2, u3, u4⟩ := HU.out
                      refine bodyPost_ret (v := .tuple #[.agg #[.string ⟨#[]⟩, .int .i64 0, .int .i64 0, .slice none 0 0, .slice none 0 0], .int .i64 ((a : Int) + 1), .int .i64 (5)]) (by simp [results, Tryz.results17, go_sem, *]) rfl HZ.out
                    | true =>
                      obtain ⟨q, hor⟩ : ∃ r, o = some r := by
                        have := HB.out
                        cases o with
                        | none => cases this
                        | some r => exact ⟨r, rfl⟩
                      have hqe := hq q hor
                      subst hqe
                      have ho : startv l = some (x, y) := HO.out.trans hor
                      have HN2 : Hid ((R, rl, re) = SV n tl nm w h cs (acc ++ [(x, y)]) (L.drop (a + 1))) := hid (by
                        rw [hSo, sv_next ho])
                      obtain ⟨E0, E1, E2, E3, E4⟩ := low5 hI.f (Below.refl _ _)
                      obtain ⟨F0, F1, F2, F3, F4⟩ : _ ∧ _ ∧ _ ∧ _ ∧ _ := ⟨hI.f.frozen 0, hI.f.frozen 1, hI.f.frozen 2, hI.f.frozen 3, hI.f.frozen 4⟩
                      clear hSo ho hdr hlen hq HO HB hor
                      obtain ⟨P0, P1⟩ : _ ∧ _ := ⟨hPB.cell 0, hPB.cell 1⟩
                      simp only [List.getElem?_cons_zero, List.getElem?_cons_succ] at P0 P1
                      obtain ⟨acc2, hA⟩ : ∃ A, Hid (A = acc ++ [(x, y)]) := ⟨_, hid rfl⟩
                      have hlen2 : Hid (acc2.length = acc.length + 1) := hid (by rw [hA.out]; simp)
                      have hpc2 : Hid (pcells acc ++ [.int .i64 x, .int .i64 y] = pcells acc2) := hid (by rw [hA.out]; exact pcells_snoc acc x y)
                      rw [← hA.out] at HN2
                      have hcn := cells_new (w := w3.alloc (.cells #[.int .i64 x, .int .i64 y] 41)) (vs := [.int .i64 x, .int .i64 y]) (t := 41)
                      have hVB := hBw
                      simp only [World.size_alloc] at hcn hVB
                      have HCN := Lib.hid hcn
                      clear hcn hA
                      obtain ⟨i0, hi0, hz0, hz1, hz2⟩ := info_parts infoPos
                      go_wp2_with (at_builtin; refine wpList_append_own _ rfl _ _ 25 rfl B 41 i0 (.agg #[.int .i64 0, .int .i64 0]) 2 16 Tryz.underlying25 hi0 hz0 hz1 hz2 rfl (by decide) _ _ _ rfl (hown.alloc _) _ 1 1 [.int .i64 x, .int .i64 y] rfl rfl HCN.out ints_lone (by unfold maxLen; omega) (by omega) (by simp; omega) ?_)
                      intro v' w4 hown' hgrow _
                      have hown2 := own_to hown' hlen2.out.symm hpc2.out
                      obtain ⟨pv', cv', rfl⟩ := own_slice hown2
                      have hbg := ((Below.refl B (w3.alloc (.cells #[.int .i64 x, .int .i64 y] 41))).alloc hBw (.cells #[.int .i64 x, .int .i64 y] 41)).grown hgrow (by simp; omega) (fun k hk => (hown.lt k hk).1)
                      have hI4 := hI.under hbg hFl hgl hCl
                      have hB4 : B ≤ w4.heap.size := Nat.le_trans hBw hbg.size
                      have ne : ∀ j, (Value.slice pv' acc2.length cv').ownBlock = some j → j ≠ (⟨Fb, 4, none⟩ : Addr).block := fun j hj => by
                        have := (hown2.lt j hj).1
                        show j ≠ Fb
                        omega
                      have HQ := Lib.hid (And.intro (hI4.store hgF (.slice pv' acc2.length cv')) (And.intro (own_other hown2 ⟨Fb, 4, none⟩ (.slice pv' acc2.length cv') ne) (show B ≤ (w4.setCell ⟨Fb, 4, none⟩ (.slice pv' acc2.length cv')).heap.size by simp; omega)))
                      have HAL : Hid (acc2.length ≤ a + 1) := hid (by rw [hlen2.out]; omega)
                      obtain ⟨E0, E1, E2, E3, E4⟩ := low5 hI4.f (Below.refl _ _)
                      have F4 := hI4.f.frozen 4
                      clear hown' hgrow hown hown2 hbg hI hI4 hlen2 hpc2 HCN ne P0 P1 hPB hPs hz0 hz1 hz2 hi0
                      go_wp2_with fail
                      go_roundw
                      case rel => exact ⟨a + 1, pv', cv', acc2, by go_num, by omega, HAL.out, HQ.out.2.2, HQ.out.1, HQ.out.2.1, HN2⟩
                      case measure => simp [RowKit.intOf]; omega
                  · obtain rfl : n = a := by omega
                    have d1 : ¬ (n : Int) < (n : Int) := by omega
                    have hST : Hid ((R, rl, re) = SV n tl nm w h cs acc []) := hid (by rw [hSV.out, List.drop_eq_nil_of_le (by rw [← HN.out]; omega)])
                    obtain ⟨hi, hlq⟩ := get_tail HG1.out HN.out
                    have p := hI.l n hi
                    rw [hlq] at p
                    have dat : (n : Int) < (n : Int) + 1 := by omega
                    have dat0 : (0 : Int) ≤ n := by omega
                    clear hlq hi hSV
                    by_cases ht : tl = []
                    · have ht0 := Lib.hid ht
                      rw [ht] at p
                      have eb : bs ([] : List UInt8) = ⟨#[]⟩ := rfl
                      rw [eb] at p
                      obtain ⟨r, hr⟩ : ∃ r, Hid (r = validf ⟨nm, ⟨w, h, cs⟩, acc⟩) := ⟨_, hid rfl⟩
                      have hcap := cap_same (some ⟨G, 0, none⟩) N (by unfold maxLen; omega)
                      have hrow : RowAt wr (.slice (some ⟨G, 0, none⟩) N N) cs := CB.row hI.c hcN.out (by rw [hcN.out]; unfold maxLen; omega)
                      have c1 := rvalidf_b ⟨nm, ⟨w, h, cs⟩, acc⟩ (.slice (some ⟨G, 0, none⟩) N N) (.slice pv acc.length cv) r wr hrow (PosAt.own hown) (by dsimp only; omega) hr
                      unfold fileV at c1
                      dsimp only at c1
                      rw [← HNB.out] at c1
                      clear ht eb hrow
                      go_wp2_with fail
                      ((with_reducible refine c1.mono ?_); rintro e w6 ⟨rfl, hb6⟩)
                      replace hI := hI.call hb6
                      replace hown := own_below hown hb6
                      clear c1 p E0 E1 E2 E3 E4 hb6
                      by_cases h0 : r = 0
                      · subst h0
                        have HV := Lib.hid (check_yes hST.out ht0.out hr.out)
                        obtain ⟨E0, E1, E2, E3, E4⟩ := low5 hI.f (Below.refl _ _)
                        have hT := hI.t
                        have hL := hI.old
                        obtain ⟨t0, t1, t2, t3, t4⟩ := low5 hT (Below.refl _ _)
                        obtain ⟨g0, g1', g2', g3, g4⟩ : _ ∧ _ ∧ _ ∧ _ ∧ _ := ⟨hT.frozen 0, hT.frozen 1, hT.frozen 2, hT.frozen 3, hT.frozen 4⟩
                        have hT6 := ((((hT.set 0 (.string nb)).set 1 (.int .i64 w)).set 2 (.int .i64 h)).set 3 (.slice (some ⟨G, 0, none⟩) N N)).set 4 (.slice pv acc.length cv)
                        obtain ⟨u0, u1, u2, u3, u4⟩ : _ ∧ _ ∧ _ ∧ _ ∧ _ := ⟨hT6.cell 0, hT6.cell 1, hT6.cell 2, hT6.cell 3, hT6.cell 4⟩
                        simp only [List.set_cons_zero, List.set_cons_succ, List.getElem?_cons_zero, List.getElem?_cons_succ] at u0 u1 u2 u3 u4
                        have HU := Lib.hid (And.intro u0 (And.intro u1 (And.intro u2 (And.intro u3 u4))))
                        clear u0 u1 u2 u3 u4
                        have hL6 := (((((hL.setCell (p := ⟨W.heap.size, 0, none⟩) (Nat.le_refl _) (.string nb)).setCell (p := ⟨W.heap.size, 1, none⟩) (Nat.le_refl _) (.int .i64 w)).setCell (p := ⟨W.heap.size, 2, none⟩) (Nat.le_refl _) (.int .i64 h)).setCell (p := ⟨W.heap.size, 3, none⟩) (Nat.le_refl _) (.slice (some ⟨G, 0, none⟩) N N)).setCell (p := ⟨W.heap.size, 4, none⟩) (Nat.le_refl _) (.slice pv acc.length cv))
                        have hGT : G ≠ W.heap.size := Nat.ne_of_gt hI.hG
                        have hC6 := ((((Blk.far hI.c (c := W.heap.size) (i := 0) (.string nb) hGT).far (c := W.heap.size) (i := 1) (.int .i64 w) hGT).far (c := W.heap.size) (i := 2) (.int .i64 h) hGT).far (c := W.heap.size) (i := 3) (.slice (some ⟨G, 0, none⟩) N N) hGT).far (c := W.heap.size) (i := 4) (.slice pv acc.length cv) hGT
                        have hTB : W.heap.size < B := Nat.lt_trans hI.n4 hFl
                        have ne : ∀ i j, (Value.slice pv acc.length cv).ownBlock = some j → j ≠ (⟨W.heap.size, i, none⟩ : Addr).block := fun i j hj => by
                          have := (hown.lt j hj).1
                          show j ≠ W.heap.size
                          omega
                        have ho6 := own_other (own_other (own_other (own_other (own_other hown ⟨W.heap.size, 0, none⟩ (.string nb) (ne 0)) ⟨W.heap.size, 1, none⟩ (.int .i64 w) (ne 1)) ⟨W.heap.size, 2, none⟩ (.int .i64 h) (ne 2)) ⟨W.heap.size, 3, none⟩ (.slice (some ⟨G, 0, none⟩) N N) (ne 3)) ⟨W.heap.size, 4, none⟩ (.slice pv acc.length cv) (ne 4)
                        have HZ := Lib.hid (parse_yes HV.out HNB.out (CB.row hC6 hcN.out (by rw [hcN.out]; unfold maxLen; omega)) (PosAt.own ho6) hcap hL6)
                        dsimp only at HZ
                        clear hT hT6 hL hL6 hC6 ho6 ne hI hown hcap hr hST HV ht0
                        go_wp2_with fail
                        obtain ⟨u0, u1, u2, u3, u4⟩ := HU.out
                        refine bodyPost_ret (v := .tuple #[.agg #[.string nb, .int .i64 w, .int .i64 h, .slice (some ⟨G, 0, none⟩) N N, .slice pv acc.length cv], .int .i64 0, .int .i64 0]) (by simp [results, Tryz.results17, go_sem, *]) rfl HZ.out
                      · have hne : (r == 0) = false := by simpa using h0
                        have HV := Lib.hid (check_no hST.out ht0.out hr.out h0)
                        have hT := hI.t
                        have hL := hI.old
                        clear hI hown hcap hr hST h0 ht0
                        obtain ⟨t0, t1, t2, t3, t4⟩ := low5 hT (Below.refl _ _)
                        obtain ⟨g0, g1', g2', g3, g4⟩ : _ ∧ _ ∧ _ ∧ _ ∧ _ := ⟨hT.frozen 0, hT.frozen 1, hT.frozen 2, hT.frozen 3, hT.frozen 4⟩
                        have hT6 := ((((hT.set 0 (.string ⟨#[]⟩)).set 1 (.int .i64 0)).set 2 (.int .i64 0)).set 3 (.slice none 0 0)).set 4 (.slice none 0 0)
                        obtain ⟨u0, u1, u2, u3, u4⟩ : _ ∧ _ ∧ _ ∧ _ ∧ _ := ⟨hT6.cell 0, hT6.cell 1, hT6.cell 2, hT6.cell 3, hT6.cell 4⟩
                        simp only [List.set_cons_zero, List.set_cons_succ, List.getElem?_cons_zero, List.getElem?_cons_succ] at u0 u1 u2 u3 u4
                        have HU := Lib.hid (And.intro u0 (And.intro u1 (And.intro u2 (And.intro u3 u4))))
                        clear u0 u1 u2 u3 u4
                        have hL6 := (((((hL.setCell (p := ⟨W.heap.size, 0, none⟩) (Nat.le_refl _) (.string ⟨#[]⟩)).setCell (p := ⟨W.heap.size, 1, none⟩) (Nat.le_refl _) (.int .i64 0)).setCell (p := ⟨W.heap.size, 2, none⟩) (Nat.le_refl _) (.int .i64 0)).setCell (p := ⟨W.heap.size, 3, none⟩) (Nat.le_refl _) (.slice none 0 0)).setCell (p := ⟨W.heap.size, 4, none⟩) (Nat.le_refl _) (.slice none 0 0))
                        have HZ := Lib.hid (zero_exit HV.out hL6)
                        clear hT hT6 hL hL6
                        go_wp2_with fail
                        obtain ⟨u0, u1, u2, u3, u4⟩ := HU.out
                        refine bodyPost_ret (v := .tuple #[.agg #[.string ⟨#[]⟩, .int .i64 0, .int .i64 0, .slice none 0 0, .slice none 0 0], .int .i64 (0), .int .i64 (r)]) (by simp [results, Tryz.results17, go_sem, *]) rfl HZ.out
                    · have HV : Hid ((R, rl, re) = (F3.zero, (n : Int) + 1, (4 : Int))) := hid (by rw [hST.out, sv_cut ht, Int.natCast_add]; rfl)
                      obtain ⟨tb, htb⟩ : ∃ b, b = bs tl := ⟨_, rfl⟩
                      rw [← htb] at p
                      have hq : ¬ tb = ⟨#[]⟩ := fun e => ht (by
                        have e2 := congrArg (fun x : ByteArray => x.data.toList) (htb.symm.trans e)
                        simpa [bs_list] using e2)
                      obtain ⟨q1, q2⟩ := ba_two hq
                      have q3 : ¬ tb.toList = [] := fun e => hq (by
                        have := ba_lit (u := tb) (l := []) (fun x => hq (x.trans rfl))
                        exact absurd e this)
                      have q4 : tb.toList.isEmpty = false := by
                        cases hx : tb.toList with
                        | nil => exact absurd hx q3
                        | cons _ _ => rfl
                      have q5 : (tb.toList == []) = false := by
                        cases hx : tb.toList with
                        | nil => exact absurd hx q3
                        | cons _ _ => rfl
                      have hT := hI.t
                      have hL := hI.old
                      clear hq htb ht hI hown hST
                      obtain ⟨t0, t1, t2, t3, t4⟩ := low5 hT (Below.refl _ _)
                      obtain ⟨g0, g1', g2', g3, g4⟩ : _ ∧ _ ∧ _ ∧ _ ∧ _ := ⟨hT.frozen 0, hT.frozen 1, hT.frozen 2, hT.frozen 3, hT.frozen 4⟩
                      have hT6 := ((((hT.set 0 (.string ⟨#[]⟩)).set 1 (.int .i64 0)).set 2 (.int .i64 0)).set 3 (.slice none 0 0)).set 4 (.slice none 0 0)
                      obtain ⟨u0, u1, u2, u3, u4⟩ : _ ∧ _ ∧ _ ∧ _ ∧ _ := ⟨hT6.cell 0, hT6.cell 1, hT6.cell 2, hT6.cell 3, hT6.cell 4⟩
                      simp only [List.set_cons_zero, List.set_cons_succ, List.getElem?_cons_zero, List.getElem?_cons_succ] at u0 u1 u2 u3 u4
                      have HU := Lib.hid (And.intro u0 (And.intro u1 (And.intro u2 (And.intro u3 u4))))
                      clear u0 u1 u2 u3 u4
                      have hL6 := (((((hL.setCell (p := ⟨W.heap.size, 0, none⟩) (Nat.le_refl _) (.string ⟨#[]⟩)).setCell (p := ⟨W.heap.size, 1, none⟩) (Nat.le_refl _) (.int .i64 0)).setCell (p := ⟨W.heap.size, 2, none⟩) (Nat.le_refl _) (.int .i64 0)).setCell (p := ⟨W.heap.size, 3, none⟩) (Nat.le_refl _) (.slice none 0 0)).setCell (p := ⟨W.heap.size, 4, none⟩) (Nat.le_refl _) (.slice none 0 0))
                      have HZ := Lib.hid (zero_exit HV.out hL6)
                      clear hT hT6 hL hL6
                      go_wp2_with fail
                      obtain ⟨u0, u1, u2, u3, u4⟩ := HU.out
                      refine bodyPost_ret (v := .tuple #[.agg #[.string ⟨#[]⟩, .int .i64 0, .int .i64 0, .slice none 0 0, .slice none 0 0], .int .i64 ((n : Int) + 1), .int .i64 (4)]) (by simp [results, Tryz.results17, go_sem, *]) rfl HZ.out

end Go.Proofs.YtmpbgfobiceehaaGreatDoor
