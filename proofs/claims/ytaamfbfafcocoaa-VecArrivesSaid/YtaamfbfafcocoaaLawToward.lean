/-
  What the reference of vec answers. Practice.
-/
import Derived.Test.YtaamfbfafcocoaaProg
import Derived.WalkKit
import Derived.IntWalk
import Derived.WalkSpells
import Derived.WalkLawsBesides
import Derived.Deep.QuietTactic
import Derived.BigQuiet
import Derived.Lib.Hide
import Derived.Lib.Walk
import Derived.StillTailTactics
import Derived.Deep.RegionHeld3
import Derived.Test.YtaamfbfafcocoaaBox
import Derived.Test.YtaamfbfafcocoaaRefVec
import Derived.Test.YtaamfbfafcocoaaRefVecB
import Derived.Test.YtaamfbfafcocoaaRefVecC
import Derived.Test.YtaamfbfafcocoaaRefVecD
import Derived.Test.YtaamfbfafcocoaaRefVecE
import Derived.Test.YtaamfbfafcocoaaLawSums
import Derived.Test.YtaamfbfafcocoaaLawLengths
import Derived.Test.YtaamfbfafcocoaaLawParts
import Derived.Test.YtaamfbfafcocoaaRefSqrt
namespace Go.Proofs.Ytaamfbfafcocoaa
open Go.RowKit Go.Lib





/-- (p, q) is where a step of sp from (x, y) toward (u, v) leads. -/
def TowAt (x y u v sp p q : Int) : Prop :=
  (near sp ≤ 0 ∧ p = near x ∧ q = near y) ∨
  (¬ near sp ≤ 0 ∧ farv x y u v ≤ near sp * near sp ∧ p = near u ∧ q = near v) ∨
  (¬ near sp ≤ 0 ∧ ¬ farv x y u v ≤ near sp * near sp ∧ ∃ n, CRoot (farv x y u v) n ∧ p = near x + ((near u - near x) * near sp).tdiv n ∧ q = near y + ((near v - near y) * near sp).tdiv n)
theorem TowAt.same {x y u v sp p q p' q' : Int} (h : TowAt x y u v sp p q) (k : TowAt x y u v sp p' q') : p = p' ∧ q = q' := by
  rcases h with ⟨h0, hp, hq⟩ | ⟨h0, h1, hp, hq⟩ | ⟨h0, h1, n, hn, hp, hq⟩ <;> rcases k with ⟨k0, kp, kq⟩ | ⟨k0, k1, kp, kq⟩ | ⟨k0, k1, m, km, kp, kq⟩
  · exact ⟨hp.trans kp.symm, hq.trans kq.symm⟩
  · exact absurd h0 k0
  · exact absurd h0 k0
  · exact absurd k0 h0
  · exact ⟨hp.trans kp.symm, hq.trans kq.symm⟩
  · exact absurd h1 k1
  · exact absurd k0 h0
  · exact absurd k1 h1
  · have := hn.same km
    subst this
    exact ⟨hp.trans kp.symm, hq.trans kq.symm⟩
theorem croot_some (d : Int) (h0 : 1 ≤ d) (h1 : d ≤ 8796093022208) : ∃ n, CRoot d n := by
  obtain ⟨r, hr⟩ := rroot_some d (by omega)
  have b := hr.bd h0 h1
  by_cases k : r * r < d
  · exact ⟨_, hr.up b.1 k⟩
  · exact ⟨_, hr.exact b.1 k⟩
theorem tow_some (x y u v sp : Int) : ∃ p q, TowAt x y u v sp p q := by
  by_cases h0 : near sp ≤ 0
  · exact ⟨_, _, Or.inl ⟨h0, rfl, rfl⟩⟩
  · by_cases h1 : farv x y u v ≤ near sp * near sp
    · exact ⟨_, _, Or.inr (Or.inl ⟨h0, h1, rfl, rfl⟩)⟩
    · have := sq_bd _ (near_bd sp); have b := farv_bd x y u v
      obtain ⟨n, hn⟩ := croot_some (farv x y u v) (by omega) b.2
      exact ⟨_, _, Or.inr (Or.inr ⟨h0, h1, n, hn, rfl, rfl⟩)⟩
theorem rtoward_any (x y u v sp : Int) (w : World) :
    Calls Try.prog 27 #[.agg #[.int .i64 x, .int .i64 y], .agg #[.int .i64 u, .int .i64 v], .int .i64 sp] w fun e w' => ∃ p q, TowAt x y u v sp p q ∧ e = .returned (.agg #[.int .i64 p, .int .i64 q]) ∧ Below w.heap.size w w' := by
  by_cases h0 : near sp ≤ 0
  · refine (rtoward_stay x y u v sp _ w (hid rfl) h0).mono ?_
    rintro e w' ⟨rfl, hb⟩
    exact ⟨_, _, Or.inl ⟨h0, rfl, rfl⟩, rfl, hb⟩
  · by_cases h1 : farv x y u v ≤ near sp * near sp
    · refine (rtoward_goal x y u v sp _ w (hid rfl) (farv x y u v) (hid (farv_near x y u v).symm) h0 h1).mono ?_
      rintro e w' ⟨rfl, hb⟩
      exact ⟨_, _, Or.inr (Or.inl ⟨h0, h1, rfl, rfl⟩), rfl, hb⟩
    · refine (rtoward_step x y u v sp _ w (hid rfl) (farv x y u v) (hid (farv_near x y u v).symm) h0 h1).mono ?_
      rintro e w' ⟨⟨n, hn, rfl⟩, hb⟩
      exact ⟨_, _, Or.inr (Or.inr ⟨h0, h1, n, hn, rfl, rfl⟩), rfl, hb⟩
theorem rtoward_n (x y u v sp p q : Int) (w : World) (h : Hid (TowAt x y u v sp p q)) : Calls Try.prog 27 #[.agg #[.int .i64 x, .int .i64 y], .agg #[.int .i64 u, .int .i64 v], .int .i64 sp] w fun e w' => e = .returned (.agg #[.int .i64 p, .int .i64 q]) ∧ Below w.heap.size w w' := by
  refine (rtoward_any x y u v sp w).mono ?_
  rintro e w' ⟨p', q', ht, rfl, hb⟩
  obtain ⟨rfl, rfl⟩ := ht.same h.out
  exact ⟨rfl, hb⟩
/-- What Toward and Within of vec are held to. -/
structure VecTowardHave : Prop where
  toward : ∀ (x y u v sp : Int) (w : World), Calls Try.prog 26 #[.agg #[.int .i64 x, .int .i64 y], .agg #[.int .i64 u, .int .i64 v], .int .i64 sp] w fun e w' => ∃ p q, TowAt x y u v sp p q ∧ e = .returned (.agg #[.int .i64 p, .int .i64 q]) ∧ Below w.heap.size w w'
  within : ∀ (x y u v sp : Int) (w : World), Calls Try.prog 28 #[.agg #[.int .i64 x, .int .i64 y], .agg #[.int .i64 u, .int .i64 v], .int .i64 sp] w fun e w' => e = .returned (.bool (wthn x y u v sp)) ∧ Below w.heap.size w w'
  alive : ∀ w : World, Calls Try.prog 17 #[] w fun e w' => e = .returned (.bool true) ∧ Below w.heap.size w w'
theorem VecTowardHave.toward_n (H : VecTowardHave) (x y u v sp p q : Int) (w : World) (h : Hid (TowAt x y u v sp p q)) : Calls Try.prog 26 #[.agg #[.int .i64 x, .int .i64 y], .agg #[.int .i64 u, .int .i64 v], .int .i64 sp] w fun e w' => e = .returned (.agg #[.int .i64 p, .int .i64 q]) ∧ Below w.heap.size w w' := by
  refine (H.toward x y u v sp w).mono ?_
  rintro e w' ⟨p', q', ht, rfl, hb⟩
  obtain ⟨rfl, rfl⟩ := ht.same h.out
  exact ⟨rfl, hb⟩
set_option maxHeartbeats 2000000 in
theorem law_toward (H : VecTowardHave) (x y u v sp : Int) (w : World) : Calls Try.prog 6 #[.agg #[.int .i64 x, .int .i64 y], .agg #[.int .i64 u, .int .i64 v], .int .i64 sp] w fun e w' => e = .returned (.bool true) ∧ Below w.heap.size w w' := by
  obtain ⟨p, q, h⟩ := tow_some x y u v sp
  have h := hid h
  go_enter Try.func6, Try.ntmps6
  go_wp2_with fail
  have hS := hv2_start ((Box.new w (.int .i64 x) (.int .i64 y) 23).alloc (.cells #[.int .i64 u, .int .i64 v] 23)) (Box.new (w.alloc (.cells #[.int .i64 x, .int .i64 y] 23)) (.int .i64 u) (.int .i64 v) 23) (((Below.refl w.heap.size w).alloc (Nat.le_refl _) _).alloc (by simp) _)
  rw [World.size_alloc] at hS
  go_region_held3 (fun w' => w'.cell? ⟨w.heap.size, 0, none⟩ = some (.int .i64 x) ∧ w'.cell? ⟨w.heap.size, 1, none⟩ = some (.int .i64 y) ∧ w'.cell? ⟨w.heap.size + 1, 0, none⟩ = some (.int .i64 u) ∧ w'.cell? ⟨w.heap.size + 1, 1, none⟩ = some (.int .i64 v) ∧ Box w' w.heap.size (.int .i64 x) (.int .i64 y) 23 ∧ Box w' (w.heap.size + 1) (.int .i64 u) (.int .i64 v) 23 ∧ Below w.heap.size w w') (first | exact hS | exact hv2_call (by assumption) (by assumption) | assumption)
    (first
      | (go_at_call 26; refine (H.toward_n _ _ _ _ _ _ _ _ h).mono ?_; rintro e w' ⟨rfl, hb⟩)
      | (go_at_call 28; refine (H.within _ _ _ _ _ _).mono ?_; rintro e w' ⟨rfl, hb⟩)
      | (go_at_call 27; refine (rtoward_n _ _ _ _ _ _ _ _ h).mono ?_; rintro e w' ⟨rfl, hb⟩)
      | (go_at_call 29; refine (rwithin_any _ _ _ _ _ _).mono ?_; rintro e w' ⟨rfl, hb⟩)
      | (go_at_call 17; refine (H.alive _).mono ?_; rintro e w' ⟨rfl, hb⟩))
  rename_i hH
  obtain ⟨-, -, -, -, -, -, hL⟩ := hH
  go_wp2_with fail
  exact bodyPost_ret (v := .bool true) (by simp [results, Try.results6, go_sem]) rfl ⟨rfl, hL⟩

end Go.Proofs.Ytaamfbfafcocoaa
