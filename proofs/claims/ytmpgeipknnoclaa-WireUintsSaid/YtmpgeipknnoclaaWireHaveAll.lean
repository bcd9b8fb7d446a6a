/-
  wire as it landed at 48062e2: Text, and all nine together.
-/
import Derived.Test.YtmpgeipknnoclaaWireLandD
import Derived.Lib.AppendStr
namespace Go.Proofs.Ytmpgeipknnoclaa
open Go.RowKit Go.Lib

set_option maxRecDepth 100000 in
set_option maxHeartbeats 1000000 in
theorem dtext (s : ByteArray) (w : World) (hs : s.size ≤ 2000) : Calls Try.prog 13 #[.string s] w fun e w' => e = .returned (.string (bs (encU s.size) ++ s)) ∧ Below w.heap.size w w' := by
  obtain ⟨i0, hi, hz0, hz1, hz2⟩ := info_parts info5
  obtain ⟨w1, hmk, hown, hg⟩ := run_make_own w w.heap.size 47 5 i0 (.int .u8 0) 1 Try.underlying47 hi hz0 hz1 .i64 .i64 (10 + s.size) (by rw [hz2]; omega) (by unfold maxLen; omega) (Nat.le_refl _)
  have hb1 : Below w.heap.size w w1 := (Below.refl w.heap.size w).grown hg (Nat.le_refl _) (fun k hk => by simp at hk)
  have e1 : wrap64 (10 + (s.size : Int)) = 10 + (s.size : Int) := IntWalk.wrap64_in _ (by omega)
  rw [show ((10 + s.size : Nat) : Int) = 10 + (s.size : Int) by omega] at hmk
  have e2 : IntKind.u64.wrap (s.size : Int) = (s.size : Int) := IntWalk.u64_in _ (by omega)
  have k1 := app_any s.size _ w.heap.size w1 (by omega) hb1.size hown
  have hten := enc_ten s.size (by omega)
  go_enter Try.func13, Try.ntmps13
  go_wp2_with fail
  ((with_reducible refine k1.mono ?_); rintro e w2 ⟨v', rfl, hown2, hb2⟩)
  have hb3 : Below w.heap.size w w2 := hb1.trans hb2
  go_wp2_with (at_builtin; refine wpList_append_own_string _ rfl _ _ 47 9 rfl w.heap.size 5 i0 Try.underlying47 Try.underlying9 hi hz0 hz1 hz2 _ _ _ rfl hown2 s rfl (by unfold maxLen; omega) (by omega) hb3.size ?_)
  intro v2 w3 hown3 hg3 _
  have hb4 : Below w.heap.size w w3 := hb3.grown hg3 hb3.size (fun k hk => (hown2.lt k hk).1)
  have hown4 := own_cast hown3 (m := (encU s.size ++ s.data.toList).length) (ys := Lib.byteCells (encU s.size ++ s.data.toList)) (by rw [List.length_append, len_size]) (by simp [Lib.byteCells, strCells])
  have kc := conv_owned (P := Try.prog) Try.underlying47 Try.underlying5 Try.underlying9 hown4
  go_wp2_with fail
  go_ret
  refine ⟨ret_str ?_, hb4⟩
  apply ByteArray.ext
  apply Array.toList_inj.1
  rw [ByteArray.data_append, Array.toList_append, bs_list]

theorem have_uint : UintHave := fun n w hn => duint_any n w hn
theorem have_take : TakeHave := fun s i w n x er hs _ hr => dtake_n s i w hs n x er hr
theorem have_wire : WireHave where
  uint := have_uint
  int := fun n w hn => dint have_uint n w hn
  bool := fun b w => dbool b w
  text := fun s w hs => dtext s w hs
  takeUint := have_take
  takeInt := fun s i w n x er hs hi hr => dtakeint have_take s i w hs hi n x er hr
  takeBool := fun s i w b x er hs hi hr => dtakebool s i w hs hi b x er hr
  takeText := fun s i m w t x er hs hi hm hr => dtaketext have_take s i m w hs hi hm.2 t x er hr
  takeCount := fun s i m w n x er hs hi hm hr => dcount have_take s i m w hs hi hm.2 n x er hr

end Go.Proofs.Ytmpgeipknnoclaa
