/-
  What the reference of mapfile answers: the lines of amounts.
-/
import Derived.Test.YtmpbgfobiceehaaGreatDoorMapRefL
namespace Go.Proofs.YtmpbgfobiceehaaGreatDoor
open Go.RowKit Go.Lib

/-- What the reader of an amount leaves. -/
def AmPost (G i w : Nat) (cs : List C3) (c : C3) (s : List UInt8) (W : World) (e : Ending) (w' : World) : Prop :=
  Two G G W w' ∧ ((amtv (i % w) (i / w) s = none ∧ e = .returned (.bool false)) ∨ (∃ n : Nat, amtv (i % w) (i / w) s = some n ∧ e = .returned (.bool true) ∧ CB w' G (cs.set i (updC 2 n c))))
theorem amt_not4 {x y : Nat} {s : List UInt8} (h : ¬ (parts 32 s).length = 4) : amtv x y s = none := by
  rw [amt_parts]
  match hp : parts 32 s with
  | [] => rfl
  | [_] => rfl
  | [_, _] => rfl
  | [_, _, _] => rfl
  | [_, _, _, _] => rw [hp] at h; simp at h
  | _ :: _ :: _ :: _ :: _ :: _ => rfl
theorem hTV_cb {W w1 V : World} {G : Nat} {cs : List C3} (hL : Below W.heap.size W w1) (hV : Below w1.heap.size w1 V) (hC : CB W G cs) (hG : G < W.heap.size) : CB V G cs := Blk.under hC (below_call hL hV) hG
theorem ba_two {u t : ByteArray} (h : ¬ u = t) : (u.toList == t.toList) = false ∧ ¬ u.toList = t.toList := ⟨beq_eq_false_iff_ne.2 (ba_ne h), ba_ne h⟩

set_option maxHeartbeats 8000000 in
set_option maxRecDepth 100000 in
theorem ramount_b (G w h n i : Nat) (cs : List C3) (hw : 1 ≤ w) (hw2 : w ≤ 32) (hn : Hid (n = cs.length)) (hn2 : n ≤ 1024) (hi : i < n) (c : C3) (s : ByteArray) (hs : s.size ≤ 100000) (W : World) (hC : CB W G cs) (hc : Hid (cs[i]? = some c)) :
    Calls Tryz.prog 49 #[.agg #[.int .i64 w, .int .i64 h, .slice (some ⟨G, 0, none⟩) n n], .int .i64 i, .string s] W (AmPost G i w cs c s.data.toList W) := by
  have hsl : s.data.toList.length = s.size := (Lib.size_eq s).symm
  have hGW := hC.lt
  have hK := (Keep.nil W).alloc [.int .i64 w, .int .i64 h, .slice (some ⟨G, 0, none⟩) n n] 24
  obtain ⟨ls, hls⟩ : ∃ ls, Hid (ls = parts 32 s.data.toList) := ⟨_, hid rfl⟩
  have hle : Hid (∀ x ∈ ls, x.length ≤ 100000) := hid (fun x hx => by
    rw [hls.out] at hx
    have := parts_le 32 _ x hx
    omega)
  have hgB : W.heap.size ≤ (W.alloc (.cells #[.int .i64 w, .int .i64 h, .slice (some ⟨G, 0, none⟩) n n] 24)).heap.size := by simp
  go_enter Tryz.func49, Tryz.ntmps49
  go_wp2_with fail
  ((with_reducible refine (rparts_space s _ hs ls hls).mono ?_); rintro e w1 ⟨g, cap, rfl, hst, hg1, hg2, hlc, hb⟩)
  replace hK := hK.call hb
  have hB := hK.one
  have hL := hK.old
  simp only [World.size_alloc] at hg1
  have hz := hb.size
  simp only [World.size_alloc] at hz
  obtain ⟨m0, m1, m2, -, -, -⟩ := hB.three
  have HT := Lib.hid (show ∀ k, Two G G W (w1.drewN k) from fun k => Two.of_below (below_many hL k))
  have i0 : (0 : Int) ≤ i := by omega
  have i1 : (i : Int) < n := by omega
  clear hb hgB hK
  obtain ⟨mx, hmx⟩ : ∃ m, m = i % w := ⟨_, rfl⟩
  obtain ⟨dx, hdx⟩ : ∃ m, m = i / w := ⟨_, rfl⟩
  have hml : mx ≤ 100000 := by have := Nat.mod_lt i (show w > 0 by omega); omega
  have hdl : dx ≤ 100000 := by have := Nat.div_le_self i w; omega
  have em1 : (i : Int).tmod w = (mx : Int) := by rw [hmx, Int.ofNat_tmod]
  have ed1 : (i : Int).tdiv w = (dx : Int) := by rw [hdx, Int.ofNat_tdiv]
  have em2 : (i : Int) % w = (mx : Int) := by rw [hmx]; simp
  have ed2 : (i : Int) / w = (dx : Int) := by rw [hdx]; simp
  have wne : ¬ w = 0 := by omega
  obtain ⟨tx, htx, stx⟩ := text_name mx (by omega)
  obtain ⟨ty, hty, sty⟩ := text_name dx (by omega)
  have q1 := fun W => rtext_q mx tx (by omega) htx W
  have q2 := fun W => rtext_q dx ty (by omega) hty W
  by_cases h4 : ls.length = 4
  · obtain ⟨a, b, d, f, rfl⟩ := four_of ls h4
    have p0 := hst 0 (by simp)
    have p1 := hst 1 (by simp)
    have p2 := hst 2 (by simp)
    have p3 := hst 3 (by simp)
    simp only [List.getElem_cons_zero, List.getElem_cons_succ] at p0 p1 p2 p3
    have hv : Hid (amtv (i % w) (i / w) s.data.toList = if a = amountW ∧ b = decDigits mx ∧ d = decDigits dx then numR f 1 1000000 else none) := hid (by rw [amt_parts, ← hls.out, hmx, hdx])
    have hlf : (bs f).size ≤ 100000 := by rw [bs_size]; exact hle.out f (by simp)
    obtain ⟨v, hvn⟩ : ∃ x, Hid (x = refNum (bs f).data.toList) := ⟨_, hid rfl⟩
    have q3 := fun V => (rnumber_b (bs f) v V hlf hvn).mono fun e w' hh => And.intro hh.1 hh.2.symm
    obtain ⟨ua, hua⟩ : ∃ u, u = bs a := ⟨_, rfl⟩
    obtain ⟨ub, hub⟩ : ∃ u, u = bs b := ⟨_, rfl⟩
    obtain ⟨ud, hud⟩ : ∃ u, u = bs d := ⟨_, rfl⟩
    obtain ⟨uf, huf⟩ : ∃ u, u = bs f := ⟨_, rfl⟩
    rw [← hua] at p0
    rw [← hub] at p1
    rw [← hud] at p2
    rw [← huf] at p3 q3
    have l2 : (1 : Int) < 4 := by decide
    have inj : ∀ {x y : List UInt8}, bs x = bs y → x = y := fun {x y} q => by
      have := congrArg (fun x : ByteArray => x.data.toList) q
      simpa only [bs_list] using this
    have HH := Lib.hid (And.intro hv.out (And.intro hvn.out (And.intro hua (And.intro hub (And.intro hud (And.intro htx.out (And.intro hty.out huf)))))))
    simp only [List.length_cons, List.length_nil] at hlc ⊢
    have lcap : 4 ≤ cap := by omega
    clear hls hle h4 hst hv hlf hvn hua hub hud huf htx hty stx sty hmx hdx hlc
    by_cases ha : ua = ⟨#[97, 109, 111, 117, 110, 116]⟩
    · subst ha
      by_cases hbb : ub = tx
      · subst hbb
        by_cases hdd : ud = ty
        · subst hdd
          have hva : amtv (i % w) (i / w) s.data.toList = numR f 1 1000000 := by
            obtain ⟨e1, e2, e3, e4, e5, e6, e7, e8⟩ := HH.out
            rw [e1, if_pos ⟨inj (e3.symm.trans rfl), inj (e4.symm.trans e6), inj (e5.symm.trans e7)⟩]
          have hvr := numR_ref f 1 1000000 (Nat.le_refl _)
          have hvf : v = refNum f := by rw [HH.out.2.1, bs_list]
          rw [← hvf] at hvr
          have hvb := refNum_ge f
          rw [← hvf] at hvb
          by_cases hv1 : v < 1
          · have z1 : decide (v < 1) = true := decide_eq_true hv1
            have HV := Lib.hid (show amtv (i % w) (i / w) s.data.toList = none by rw [hva, hvr, if_neg (by omega)])
            clear hva hvr hvf HH
            go_wp2_with fail
            go_quiet ((first | (go_at_call 31; first | with_reducible exact Calls.quiet_of_same (q1 _) | with_reducible exact Calls.quiet_of_same (q2 _)) | (go_at_call 82; with_reducible exact Calls.quiet_of_same (q3 _))))
            go_wp2_with fail
            go_ret
            exact ⟨HT.out _, .inl ⟨HV.out, rfl⟩⟩
          · have z1 : decide (v < 1) = false := decide_eq_false hv1
            obtain ⟨N, rfl⟩ := Int.eq_ofNat_of_zero_le (show 0 ≤ v by omega)
            have HV := Lib.hid (show amtv (i % w) (i / w) s.data.toList = some N by rw [hva, hvr, if_pos (by omega)]; simp)
            clear hva hvr hvf HH hvb
            go_wp2_with fail
            go_quiet ((first | (go_at_call 31; first | with_reducible exact Calls.quiet_of_same (q1 _) | with_reducible exact Calls.quiet_of_same (q2 _)) | (go_at_call 82; with_reducible exact Calls.quiet_of_same (q3 _))))
            go_wp2_with fail
            have hmx : Tryz.prog.follows .mixedOrders = true := by kernel_rfl
            have hbV := below_many (Below.refl w1.heap.size w1) nq
            have hTV := HT.out nq
            generalize w1.drewN nq = V at *
            have hCV : CB V G cs := (hTV_cb hL hbV hC hGW)
            have hS0 : V.drew.cell? ⟨W.heap.size, 2, none⟩ = some (.slice (some ⟨G, 0, none⟩) n n) ∧ V.drew.cell? ⟨g, 3, none⟩ = some (.string uf) := ⟨(hbV.cell (p := ⟨W.heap.size, 2, none⟩) hB.lt).trans m2, (hbV.cell (p := ⟨g, 3, none⟩) hg2).trans p3⟩
            have l3 : (3 : Int) < 4 := by decide
            refine wp_region_any hmx (wpAny_of_last (x := 9) (S := fun w' => w'.cell? ⟨W.heap.size, 2, none⟩ = some (.slice (some ⟨G, 0, none⟩) n n) ∧ w'.cell? ⟨g, 3, none⟩ = some (.string uf)) _ _ _ _ ?_)
            show wpAnyL _ _ _ _ _ _ _ _ _ V.drew
            refine last_take (x := 9) (hl := by kernel_rfl) (hix := by decide) (i := 0) (v := .pointer (some ⟨W.heap.size, 2, none⟩)) _ rfl rfl (by kernel_rfl) (by kernel_rfl) (by kernel_rfl) (fun _ _ _ h => h) (by rfl) (fun w' hS => by obtain ⟨s1, s2⟩ := hS; go_simp) hS0 ?_
            try simp only [Act.put, List.setIfInBounds_toArray]
            refine last_take (x := 9) (hl := by kernel_rfl) (hix := by decide) (i := 1) (v := .slice (some ⟨G, 0, none⟩) n n) _ rfl rfl (by kernel_rfl) (by kernel_rfl) (by kernel_rfl) (fun _ _ _ h => h) (by rfl) (fun w' hS => by obtain ⟨s1, s2⟩ := hS; go_simp) hS0 ?_
            try simp only [Act.put]
            refine last_take (x := 9) (hl := by kernel_rfl) (hix := by decide) (i := 2) (v := .int .i64 i) _ rfl rfl (by kernel_rfl) (by kernel_rfl) (by kernel_rfl) (fun _ _ _ h => h) (by rfl) (fun w' hS => by obtain ⟨s1, s2⟩ := hS; go_simp) hS0 ?_
            try simp only [Act.put]
            refine last_take (x := 9) (hl := by kernel_rfl) (hix := by decide) (i := 3) (v := .slice (some ⟨g, 0, none⟩) 4 cap) _ rfl rfl (by kernel_rfl) (by kernel_rfl) (by kernel_rfl) (fun _ _ _ h => h) (by rfl) (fun w' hS => by obtain ⟨s1, s2⟩ := hS; go_simp) hS0 ?_
            try simp only [Act.put]
            refine last_take (x := 9) (hl := by kernel_rfl) (hix := by decide) (i := 4) (v := .pointer (some ⟨g, 3, none⟩)) _ rfl rfl (by kernel_rfl) (by kernel_rfl) (by kernel_rfl) (fun _ _ _ h => h) (by rfl) (fun w' hS => by obtain ⟨s1, s2⟩ := hS; go_simp) hS0 ?_
            try simp only [Act.put]
            refine last_take (x := 9) (hl := by kernel_rfl) (hix := by decide) (i := 5) (v := .string uf) _ rfl rfl (by kernel_rfl) (by kernel_rfl) (by kernel_rfl) (fun _ _ _ h => h) (by rfl) (fun w' hS => by obtain ⟨s1, s2⟩ := hS; go_simp) hS0 ?_
            try simp only [Act.put]
            refine last_one (i := 6) (by kernel_rfl) rfl (fun K hQ => ?_)
            go_simp
            refine (q3 _).mono ?_
            rintro e w' ⟨rfl, rfl⟩
            refine hQ.out _ _ (fun _ => hS0) ?_
            clear hQ
            try simp only [Act.put, List.setIfInBounds_toArray, List.set_cons_zero, List.set_cons_succ]
            refine last_one (i := 7) (by kernel_rfl) rfl (fun K hQ => ?_)
            go_simp
            refine hQ.out _ _ (fun _ => hS0) ?_
            clear hQ
            try simp only [Act.put, List.setIfInBounds_toArray, List.set_cons_zero, List.set_cons_succ]
            refine last_one (i := 8) (by kernel_rfl) rfl (fun K hQ => ?_)
            go_simp
            refine hQ.out _ _ (fun _ => hS0) ?_
            clear hQ
            try simp only [Act.put, List.setIfInBounds_toArray, List.set_cons_zero, List.set_cons_succ]
            have hil : i < cs.length := by rw [← hn.out]; exact hi
            obtain ⟨-, -, c2⟩ := CB.cells hCV hil
            have f2 := Blk.frozen hCV (i * 3 + 2)
            have hci : cs[i]'hil = c := by
              have := hc.out
              rw [List.getElem?_eq_getElem hil] at this
              injection this
            have hset := CB.set hCV (i := i) (f := 2) hil (by decide) (N : Int)
            rw [hci] at hset
            have HE := Lib.hid (show AmPost G i w cs c s.data.toList W (.returned (.bool true)) (V.drew.setCell ⟨G, i * 3 + 2, none⟩ (.int .i64 N)) from ⟨(hTV.trans (Two.of_below (Below.refl _ V).drew)).trans (Two.set _ _ _ (.inl rfl)), .inr ⟨N, HV.out, rfl, hset⟩⟩)
            clear hset hci HV hTV HT hC
            refine last_one (i := 9) (by kernel_rfl) rfl (fun K hQ => ?_)
            go_simp
            refine hQ.out _ _ (fun h => absurd rfl h) ?_
            clear hQ hS0 hCV c2 f2
            refine last_done (by kernel_rfl) ?_ _
            show Exit.then _ _ Exit.normal _ _
            go_wp2_with fail
            go_ret
            exact HE.out
        · obtain ⟨z1, z2⟩ := ba_two hdd
          have HV := Lib.hid (show amtv (i % w) (i / w) s.data.toList = none by
            obtain ⟨e1, e2, e3, e4, e5, e6, e7, e8⟩ := HH.out
            rw [e1, if_neg (fun q => hdd (by rw [e5, e7, q.2.2]))])
          clear HH hdd
          go_wp2_with fail
          go_quiet ((first | (go_at_call 31; first | with_reducible exact Calls.quiet_of_same (q1 _) | with_reducible exact Calls.quiet_of_same (q2 _)) | (go_at_call 82; with_reducible exact Calls.quiet_of_same (q3 _))))
          go_wp2_with fail
          go_ret
          exact ⟨HT.out _, .inl ⟨HV.out, rfl⟩⟩
      · obtain ⟨z1, z2⟩ := ba_two hbb
        have HV := Lib.hid (show amtv (i % w) (i / w) s.data.toList = none by
          obtain ⟨e1, e2, e3, e4, e5, e6, e7, e8⟩ := HH.out
          rw [e1, if_neg (fun q => hbb (by rw [e4, e6, q.2.1]))])
        clear HH hbb
        go_wp2_with fail
        go_quiet ((first | (go_at_call 31; first | with_reducible exact Calls.quiet_of_same (q1 _) | with_reducible exact Calls.quiet_of_same (q2 _)) | (go_at_call 82; with_reducible exact Calls.quiet_of_same (q3 _))))
        go_wp2_with fail
        go_ret
        exact ⟨HT.out _, .inl ⟨HV.out, rfl⟩⟩
    · have z2 := ba_lit (l := [97, 109, 111, 117, 110, 116]) ha
      have z1 : (ua.toList == [97, 109, 111, 117, 110, 116]) = false := beq_eq_false_iff_ne.2 z2
      have HV := Lib.hid (show amtv (i % w) (i / w) s.data.toList = none by
        obtain ⟨e1, e2, e3, e4, e5, e6, e7, e8⟩ := HH.out
        rw [e1, if_neg (fun q => ha (by rw [e3, q.1]; rfl))])
      clear HH ha
      go_wp2_with fail
      go_quiet ((first | (go_at_call 31; first | with_reducible exact Calls.quiet_of_same (q1 _) | with_reducible exact Calls.quiet_of_same (q2 _)) | (go_at_call 82; with_reducible exact Calls.quiet_of_same (q3 _))))
      go_wp2_with fail
      go_ret
      exact ⟨HT.out _, .inl ⟨HV.out, rfl⟩⟩
  · have HV := Lib.hid (amt_not4 (x := i % w) (y := i / w) (s := s.data.toList) (by rw [← hls.out]; exact h4))
    have z4 : ((ls.length : Int) != 4) = true := by simp; omega
    have q3 := q1
    clear hls hle h4 hst htx hty stx sty hmx hdx
    go_wp2_with fail
    go_quiet ((first | (go_at_call 31; first | with_reducible exact Calls.quiet_of_same (q1 _) | with_reducible exact Calls.quiet_of_same (q2 _)) | (go_at_call 82; with_reducible exact Calls.quiet_of_same (q3 _))))
    go_wp2_with fail
    go_ret
    exact ⟨HT.out _, .inl ⟨HV.out, rfl⟩⟩

end Go.Proofs.YtmpbgfobiceehaaGreatDoor
