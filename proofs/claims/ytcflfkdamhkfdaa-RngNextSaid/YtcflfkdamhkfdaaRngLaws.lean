/-
  The laws of rng, given what rng's functions answer: Seed and Split, Next, Below.
-/
import Derived.Test.YtcflfkdamhkfdaaProg
import Derived.WalkKit
import Derived.IntWalk
import Derived.WalkSpells
import Derived.WalkLawsBesides
import Derived.Deep.QuietTactic
import Derived.BigQuiet
import Derived.Lib.Hide
import Derived.Lib.Walk
import Derived.Laws.OwnMore
import Derived.Test.YtcflfkdamhkfdaaRngA
import Derived.Test.YtcflfkdamhkfdaaRngB
import Derived.Test.YtcflfkdamhkfdaaBox
namespace Go.Proofs.Ytcflfkdamhkfdaa
open Go.RowKit Go.Lib

/-- What the functions of rng are held to. -/
structure RngHave : Prop where
  seed : ∀ (s : ByteArray) (h : Int) (w : World), s.size ≤ 5000 → Hid (h = hashv s.data.toList) → Calls Try.prog 10 #[.string s] w fun e w' => e = .returned (.int .u64 h) ∧ Below w.heap.size w w'
  split : ∀ (s : Int) (z : ByteArray) (h v : Int) (w : World), U64 s → z.size ≤ 5000 → Hid (h = hashv z.data.toList) → Hid (v = mixv (stepv (bits .xor .u64 s h))) → Calls Try.prog 12 #[.int .u64 s, .string z] w fun e w' => e = .returned (.int .u64 v) ∧ Below w.heap.size w w'
  next : ∀ (s v t : Int) (w : World), U64 s → Hid (v = mixv (stepv s) ∧ t = stepv s) → Calls Try.prog 14 #[.int .u64 s] w fun e w' => e = .returned (.tuple #[.int .u64 v, .int .u64 t]) ∧ Below w.heap.size w w'
  low : ∀ (s n : Int) (w : World), U64 s → n < 1 → -9223372036854775808 ≤ n → Calls Try.prog 16 #[.int .u64 s, .int .i64 n] w fun e w' => e = .returned (.tuple #[.int .i64 0, .int .u64 0, .int .i64 1]) ∧ Below w.heap.size w w'
  below : ∀ (s n a t : Int) (w : World), U64 s → 1 ≤ n → n ≤ 9223372036854775807 → Hid (belowv s n = (a, t)) → Calls Try.prog 16 #[.int .u64 s, .int .i64 n] w fun e w' => e = .returned (.tuple #[.int .i64 a, .int .u64 t, .int .i64 0]) ∧ Below w.heap.size w w'
  shufLow : ∀ (s n : Int) (w : World), U64 s → n < 0 → -9223372036854775808 ≤ n → Calls Try.prog 18 #[.int .u64 s, .int .i64 n] w fun e w' => ∃ v, e = .returned (.tuple #[v, .int .u64 0, .int .i64 1]) ∧ w'.ownsRow w.heap.size 3 1 v 0 [] ∧ Below w.heap.size w w'
  shufHigh : ∀ (s n : Int) (w : World), U64 s → 1000 < n → n ≤ 9223372036854775807 → Calls Try.prog 18 #[.int .u64 s, .int .i64 n] w fun e w' => ∃ v, e = .returned (.tuple #[v, .int .u64 0, .int .i64 2]) ∧ w'.ownsRow w.heap.size 3 1 v 0 [] ∧ Below w.heap.size w w'
  shuffle : ∀ (s : Int) (n : Nat) (w : World) (L : List Int) (t : Int), U64 s → n ≤ 1000 → Hid (shufv s n = (L, t)) → Calls Try.prog 18 #[.int .u64 s, .int .i64 n] w fun e w' => ∃ v, e = .returned (.tuple #[v, .int .u64 t, .int .i64 0]) ∧ w'.ownsRow w.heap.size 3 1 v n (ints L) ∧ Below w.heap.size w w'

/-- A slice of one int at least, told apart. -/
theorem owns_some {w : World} {B n : Nat} {e : TypeId} {v : Value} {xs : List Value} (h : w.ownsRow B e 1 v n xs) (h0 : 1 ≤ n) : ∃ g cap, v = .slice (some ⟨g, 0, none⟩) n cap := by
  rcases h.2 with ⟨_, h0'⟩ | ⟨g, cap, cur, rfl, _⟩
  · omega
  · exact ⟨g, cap, rfl⟩

theorem ex_next : Hid ((16294208416658607535 : Int) = mixv (stepv 0) ∧ (11400714819323198485 : Int) = stepv 0) := hid ⟨by decide, by decide⟩
theorem ex_below : Hid (belowv 0 1 = (0, 11400714819323198485)) := hid (by rw [below_acc (by decide)]; decide)
theorem ex_shuf : Hid (shufv 5 1 = ([0], 5)) := hid (by decide)
theorem ex_seed0 : Hid ((14695981039346656037 : Int) = hashv (ByteArray.mk #[]).data.toList) := hid (by decide)
theorem ex_seed1 : Hid ((12638187200555641996 : Int) = hashv (ByteArray.mk #[97]).data.toList) := hid (by decide)

theorem ex_shuffle (H : RngHave) (w : World) : Calls Try.prog 18 #[.int .u64 5, .int .i64 1] w fun e w' => ∃ v, e = .returned (.tuple #[v, .int .u64 5, .int .i64 0]) ∧ w'.ownsRow w.heap.size 3 1 v 1 (ints [0]) ∧ Below w.heap.size w w' :=
  H.shuffle 5 1 w [0] 5 ⟨by decide, by decide⟩ (by decide) ex_shuf

set_option maxHeartbeats 2000000 in
theorem awake_any (H : RngHave) (w : World) : Calls Try.prog 9 #[] w fun e w' => e = .returned (.bool true) ∧ Below w.heap.size w w' := by
  have u0 : U64 0 := ⟨by decide, by decide⟩
  go_enter Try.func9, Try.ntmps9
  go_wp2_with fail
  ((with_reducible refine (H.next 0 _ _ _ u0 ex_next).mono ?_); rintro e w1 ⟨rfl, hL⟩)
  go_wp2_with fail
  ((with_reducible refine (H.below 0 1 _ _ _ u0 (by decide) (by decide) ex_below).mono ?_); rintro e w2 ⟨rfl, hb⟩)
  replace hL := below_call hL hb
  clear hb
  go_wp2_with fail
  ((with_reducible refine (H.low 0 0 _ u0 (by decide) (by decide)).mono ?_); rintro e w3 ⟨rfl, hb⟩)
  replace hL := below_call hL hb
  clear hb
  go_wp2_with fail
  ((with_reducible refine (ex_shuffle H _).mono ?_); rintro e w4 ⟨v, rfl, hown, hb⟩)
  replace hL := below_call hL hb
  clear hb
  obtain ⟨g, cap, rfl⟩ := owns_some hown (by decide)
  have hc := hown.cellAt 0 (by decide)
  have hg : g < w4.heap.size := (hown.lt g rfl).2
  clear hown
  go_wp2_with fail
  ((with_reducible refine (H.seed _ _ _ (by decide) ex_seed0).mono ?_); rintro e w5 ⟨rfl, hb⟩)
  have hc5 : w5.cell? ⟨g, 0, none⟩ = some (.int .i64 0) := by rw [hb.cell hg, hc]; rfl
  have hg5 : g < w5.heap.size := Nat.lt_of_lt_of_le hg hb.size
  replace hL := below_call hL hb
  clear hb hc
  go_wp2_with fail
  ((with_reducible refine (H.seed _ _ _ (by decide) ex_seed1).mono ?_); rintro e w6 ⟨rfl, hb⟩)
  have hc6 : w6.cell? ⟨g, 0, none⟩ = some (.int .i64 0) := by rw [hb.cell hg5, hc5]
  replace hL := below_call hL hb
  clear hb hc5
  go_wp2_with fail
  go_ret
  exact ⟨rfl, hL⟩

set_option maxHeartbeats 2000000 in
theorem law_seeds_long (H : RngHave) (s : Int) (z : ByteArray) (w : World) (hz : 5000 < z.size) : Calls Try.prog 3 #[.int .u64 s, .string z] w fun e w' => e = .returned (.bool true) ∧ Below w.heap.size w w' := by
  go_enter Try.func3, Try.ntmps3
  go_wp2_with fail
  ((with_reducible refine (awake_any H _).mono ?_); rintro e w1 ⟨rfl, hL⟩)
  go_wp2_with fail
  go_ret
  exact ⟨rfl, hL⟩
set_option maxHeartbeats 2000000 in
theorem law_seeds_short (H : RngHave) (s : Int) (z : ByteArray) (w : World) (hs : U64 s) (hz : z.size ≤ 5000) : Calls Try.prog 3 #[.int .u64 s, .string z] w fun e w' => e = .returned (.bool true) ∧ Below w.heap.size w w' := by
  obtain ⟨h, hh⟩ : ∃ h, Hid (h = hashv z.data.toList) := ⟨_, hid rfl⟩
  obtain ⟨v, hv⟩ : ∃ v, Hid (v = mixv (stepv (bits .xor .u64 s h))) := ⟨_, hid rfl⟩
  go_enter Try.func3, Try.ntmps3
  go_wp2_with fail
  ((with_reducible refine (H.seed z h _ hz hh).mono ?_); rintro e w1 ⟨rfl, hL⟩)
  go_wp2_with fail
  ((with_reducible refine (rseed_n z h _ hz hh).mono ?_); rintro e w2 ⟨rfl, hw⟩)
  rw [← hw]
  clear hw
  go_wp2_with fail
  ((with_reducible refine (H.split s z h v _ hs hz hh hv).mono ?_); rintro e w3 ⟨rfl, hb⟩)
  replace hL := below_call hL hb
  clear hb
  go_wp2_with fail
  ((with_reducible refine (rsplit_n s z h v _ hz hh hv).mono ?_); rintro e w4 ⟨rfl, hw⟩)
  rw [← hw]
  clear hw
  go_wp2_with fail
  ((with_reducible refine (awake_any H _).mono ?_); rintro e w5 ⟨rfl, hb⟩)
  replace hL := below_call hL hb
  go_wp2_with fail
  go_ret
  exact ⟨rfl, hL⟩
theorem law_seeds (H : RngHave) (s : Int) (z : ByteArray) (w : World) (hs : U64 s) : Calls Try.prog 3 #[.int .u64 s, .string z] w fun e w' => e = .returned (.bool true) ∧ Below w.heap.size w w' := by
  by_cases hz : z.size ≤ 5000
  · exact law_seeds_short H s z w hs hz
  · exact law_seeds_long H s z w (by omega)

set_option maxHeartbeats 2000000 in
theorem law_next (H : RngHave) (s : Int) (w : World) (hs : U64 s) : Calls Try.prog 4 #[.int .u64 s] w fun e w' => e = .returned (.bool true) ∧ Below w.heap.size w w' := by
  obtain ⟨v, t, h⟩ : ∃ v t, Hid (v = mixv (stepv s) ∧ t = stepv s) := ⟨_, _, hid ⟨rfl, rfl⟩⟩
  go_enter Try.func4, Try.ntmps4
  go_wp2_with fail
  ((with_reducible refine (H.next s v t _ hs h).mono ?_); rintro e w1 ⟨rfl, hL⟩)
  go_wp2_with fail
  ((with_reducible refine (rnext_n s v t _ h).mono ?_); rintro e w2 ⟨rfl, hw⟩)
  rw [← hw]
  clear hw
  go_wp2_with fail
  ((with_reducible refine (awake_any H _).mono ?_); rintro e w5 ⟨rfl, hb⟩)
  replace hL := below_call hL hb
  go_wp2_with fail
  go_ret
  exact ⟨rfl, hL⟩

set_option maxHeartbeats 2000000 in
theorem law_below_low (H : RngHave) (s n : Int) (w : World) (hs : U64 s) (h0 : n < 1) (h1 : -9223372036854775808 ≤ n) : Calls Try.prog 5 #[.int .u64 s, .int .i64 n] w fun e w' => e = .returned (.bool true) ∧ Below w.heap.size w w' := by
  go_enter Try.func5, Try.ntmps5
  go_wp2_with fail
  ((with_reducible refine (H.low s n _ hs h0 h1).mono ?_); rintro e w1 ⟨rfl, hL⟩)
  go_wp2_with fail
  ((with_reducible refine (rbelow_low s n _ h0).mono ?_); rintro e w2 ⟨rfl, hw⟩)
  rw [← hw]
  clear hw
  go_wp2_with fail
  ((with_reducible refine (awake_any H _).mono ?_); rintro e w5 ⟨rfl, hb⟩)
  replace hL := below_call hL hb
  go_wp2_with fail
  go_ret
  exact ⟨rfl, hL⟩
set_option maxHeartbeats 2000000 in
theorem law_below_some (H : RngHave) (s n : Int) (w : World) (hs : U64 s) (h0 : 1 ≤ n) (h1 : n ≤ 9223372036854775807) : Calls Try.prog 5 #[.int .u64 s, .int .i64 n] w fun e w' => e = .returned (.bool true) ∧ Below w.heap.size w w' := by
  obtain ⟨a, t, h⟩ : ∃ a t, Hid (belowv s n = (a, t)) := ⟨_, _, hid rfl⟩
  go_enter Try.func5, Try.ntmps5
  go_wp2_with fail
  ((with_reducible refine (H.below s n a t _ hs h0 h1 h).mono ?_); rintro e w1 ⟨rfl, hL⟩)
  go_wp2_with fail
  ((with_reducible refine (rbelow_n s n a t _ h0 h1 h).mono ?_); rintro e w2 ⟨rfl, hw⟩)
  rw [← hw]
  clear hw
  go_wp2_with fail
  ((with_reducible refine (awake_any H _).mono ?_); rintro e w5 ⟨rfl, hb⟩)
  replace hL := below_call hL hb
  go_wp2_with fail
  go_ret
  exact ⟨rfl, hL⟩
theorem law_below (H : RngHave) (s n : Int) (w : World) (hs : U64 s) (h0 : -9223372036854775808 ≤ n) (h1 : n ≤ 9223372036854775807) : Calls Try.prog 5 #[.int .u64 s, .int .i64 n] w fun e w' => e = .returned (.bool true) ∧ Below w.heap.size w w' := by
  by_cases h : n < 1
  · exact law_below_low H s n w hs h h0
  · exact law_below_some H s n w hs (by omega) h1

end Go.Proofs.Ytcflfkdamhkfdaa
