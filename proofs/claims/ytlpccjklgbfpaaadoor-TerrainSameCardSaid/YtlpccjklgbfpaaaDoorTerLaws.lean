/-
  What the functions of terrain are held to; the chapter's examples.
-/
import Derived.Test.YtlpccjklgbfpaaaDoorTerRefB
import Derived.Test.YtlpccjklgbfpaaaDoorTerRefH
namespace Go.Proofs.YtlpccjklgbfpaaaDoor
open Go.RowKit Go.Lib

/-- A map of numbers of 64 bits, with not too many cells. -/
structure MapOk (m : M3) : Prop where
  w : I64 m.w
  h : I64 m.h
  c : ∀ c ∈ m.cs, I64 c.k ∧ I64 c.h ∧ I64 c.a
  len : m.cs.length ≤ 2000
theorem MapOk.high {m : M3} (h : MapOk m) : HighAt m := fun c hc => (h.c c hc).2.1
theorem MapOk.with {m : M3} (h : MapOk m) (x y : Int) (q : C3) (hq : I64 q.k ∧ I64 q.h ∧ I64 q.a) : MapOk (withv m x y q) := by
  refine ⟨h.w, h.h, fun c hc => ?_, ?_⟩
  · rcases List.mem_or_eq_of_mem_set hc with h1 | rfl
    · exact h.c c h1
    · exact hq
  · show (m.cs.set _ q).length ≤ 2000
    rw [List.length_set]; exact h.len
theorem MapOk.zero : MapOk M3.zero := ⟨⟨by decide, by decide⟩, ⟨by decide, by decide⟩, fun c hc => by simp [M3.zero] at hc, by simp [M3.zero]⟩

/-- A map of numbers of 64 bits. -/
structure MapNum (m : M3) : Prop where
  w : I64 m.w
  h : I64 m.h
  c : ∀ c ∈ m.cs, I64 c.k ∧ I64 c.h ∧ I64 c.a
theorem MapNum.ok {m : M3} (h : MapNum m) (hl : m.cs.length ≤ 2000) : MapOk m := ⟨h.w, h.h, h.c, hl⟩

/-- What the functions of terrain are held to. -/
structure TerHave (E : World → Prop) : Prop where
  keep : ∀ {w w' : World}, E w → Below w.heap.size w w' → E w'
  valid : ∀ (m : M3) (s : Value) (b : Bool) (W : World), MapOk m → RowAt W s m.cs → Hid (b = validm m) → Calls Tryd.prog 16 #[.agg #[.int .i64 m.w, .int .i64 m.h, s]] W fun e w' => e = .returned (.bool b) ∧ Below W.heap.size W w'
  get : ∀ (m : M3) (s : Value) (x y : Int) (q : C3) (b : Bool) (W : World), MapOk m → I64 x → I64 y → RowAt W s m.cs → Hid (b = insidev m x y) → Hid (q = getv m x y) → Calls Tryd.prog 12 #[.agg #[.int .i64 m.w, .int .i64 m.h, s], .agg #[.int .i64 x, .int .i64 y]] W fun e w' => e = .returned (.tuple #[.agg #[.int .i64 q.k, .int .i64 q.h, .int .i64 q.a], .bool b]) ∧ Below W.heap.size W w'
  set : ∀ (m : M3) (s : Value) (x y : Int) (q : C3) (W : World) (M : M3) (er : Int), MapOk m → I64 x → I64 y → I64 q.k → I64 q.h → I64 q.a → RowAt W s m.cs → Hid (setv m x y q = (M, er)) → Calls Tryd.prog 14 #[.agg #[.int .i64 m.w, .int .i64 m.h, s], .agg #[.int .i64 x, .int .i64 y], .agg #[.int .i64 q.k, .int .i64 q.h, .int .i64 q.a]] W fun e w' => ∃ s', e = .returned (.tuple #[.agg #[.int .i64 M.w, .int .i64 M.h, s'], .int .i64 er]) ∧ RowAt w' s' M.cs ∧ Below W.heap.size W w'
  pass : ∀ (m : M3) (s : Value) (c x y : Int) (b : Bool) (W : World), E W → MapOk m → I64 c → I64 x → I64 y → RowAt W s m.cs → Hid (b = passv m c x y) → Calls Tryd.prog 19 #[.agg #[.int .i64 m.w, .int .i64 m.h, s], .int .i64 c, .agg #[.int .i64 x, .int .i64 y]] W fun e w' => e = .returned (.bool b) ∧ Below W.heap.size W w'
  opaq : ∀ (m : M3) (s : Value) (x y : Int) (b : Bool) (W : World), E W → MapOk m → I64 x → I64 y → RowAt W s m.cs → Hid (b = opaquev m x y) → Calls Tryd.prog 21 #[.agg #[.int .i64 m.w, .int .i64 m.h, s], .agg #[.int .i64 x, .int .i64 y]] W fun e w' => e = .returned (.bool b) ∧ Below W.heap.size W w'
  step : ∀ (m : M3) (s : Value) (bl : List Bool) (l : Value) (c x y d : Int) (b : Bool) (k : Int) (W : World), E W → MapOk m → bl.length ≤ 3000 → I64 c → I64 x → I64 y → I64 d → RowAt W s m.cs → BitsAt W l bl → Hid (b = mayv m bl c x y d) → Hid (k = costv m bl c x y d) → Calls Tryd.prog 23 #[.agg #[.int .i64 m.w, .int .i64 m.h, s], l, .int .i64 c, .agg #[.int .i64 x, .int .i64 y], .int .i64 d] W fun e w' => e = .returned (.tuple #[.int .i64 k, .bool b]) ∧ Below W.heap.size W w'
  take : ∀ (m : M3) (s : Value) (x y n : Int) (W : World) (M : M3) (k er : Int), MapOk m → I64 x → I64 y → I64 n → RowAt W s m.cs → Hid (takev m x y n = (M, k, er)) → Calls Tryd.prog 27 #[.agg #[.int .i64 m.w, .int .i64 m.h, s], .agg #[.int .i64 x, .int .i64 y], .int .i64 n] W fun e w' => ∃ s', e = .returned (.tuple #[.agg #[.int .i64 M.w, .int .i64 M.h, s'], .int .i64 k, .int .i64 er]) ∧ RowAt w' s' M.cs ∧ Below W.heap.size W w'
  same : ∀ (m n : M3) (s t : Value) (b : Bool) (W : World), MapOk m → MapOk n → RowAt W s m.cs → RowAt W t n.cs → Hid (b = samev m n) → Calls Tryd.prog 29 #[.agg #[.int .i64 m.w, .int .i64 m.h, s], .agg #[.int .i64 n.w, .int .i64 n.h, t]] W fun e w' => e = .returned (.bool b) ∧ Below W.heap.size W w'

/-- What grid's In is held to. -/
abbrev InHave : Prop := ∀ (w h x y : Int) (b : Bool) (W : World), I64 w → I64 h → I64 x → I64 y → Hid (b = inv w h x y) → Calls Tryd.prog 26 #[.int .i64 w, .int .i64 h, .agg #[.int .i64 x, .int .i64 y]] W fun e w' => e = .returned (.bool b) ∧ Below W.heap.size W w'
/-- The map of the examples. -/
def flatM : M3 := ⟨2, 2, [⟨1, 0, 0⟩, ⟨1, 0, 0⟩, ⟨5, 0, 3⟩, ⟨1, 0, 0⟩]⟩
theorem RowAt.blk {W : World} {b : Nat} {l : List C3} {e : TypeId} {n : Nat} (h : Blk W b (ccells l) e) (hn : l.length = n) (hm : l.length ≤ maxLen) : RowAt W (.slice (some ⟨b, 0, none⟩) n n) l := by
  subst hn
  refine ⟨_, _, rfl, hm, fun _ => ⟨b, 0, rfl, fun i hi => ?_⟩⟩
  obtain ⟨a, c, d⟩ := ccells_at l i hi
  rw [Nat.zero_add]
  exact ⟨(h.cell _).trans a, (h.cell _).trans c, (h.cell _).trans d⟩
theorem BitsAt.nil (W : World) : BitsAt W (.slice none 0 0) [] := ⟨none, 0, rfl, Nat.zero_le _, fun h => by simp at h⟩
theorem BitsAt.blk {W : World} {b : Nat} {p q : Bool} {e : TypeId} (h : Blk W b [.bool p, .bool q] e) : BitsAt W (.slice (some ⟨b, 0, none⟩) 2 2) [p, q] := by
  refine ⟨_, _, rfl, by simp [maxLen], fun _ => ⟨b, 0, rfl, fun i hi => ?_⟩⟩
  rw [Nat.zero_add, h.cell]
  match i, hi with
  | 0, _ => rfl
  | 1, _ => rfl

set_option maxHeartbeats 1000000 in
theorem flat_any (W : World) : Calls Tryd.prog 30 #[] W fun e w' => ∃ g, e = .returned (.agg #[.int .i64 2, .int .i64 2, .slice (some ⟨g, 0, none⟩) 4 4]) ∧ RowAt w' (.slice (some ⟨g, 0, none⟩) 4 4) flatM.cs ∧ Below W.heap.size W w' := by
  go_enter Tryd.func30, Tryd.ntmps30
  go_wp2_with fail
  have hB := (Blk.new (W.alloc (.cells [Value.int .i64 2, .int .i64 2, .slice (some ⟨W.heap.size + 1, 0, none⟩) 4 4].toArray 24)) (ccells flatM.cs) 28).at (World.size_alloc _ _)
  refine bodyPost_ret (v := .agg #[.int .i64 2, .int .i64 2, .slice (some ⟨W.heap.size + 1, 0, none⟩) 4 4]) (by simp [results, Tryd.results30, go_sem]) rfl ⟨_, rfl, RowAt.blk hB rfl (by simp [flatM, maxLen]), ((Below.refl _ _).alloc (Nat.le_refl _) _).alloc (by simp) _⟩

theorem i64 {n : Int} (h : -9223372036854775808 ≤ n ∧ n ≤ 9223372036854775807) : I64 n := h
theorem flat_ok : MapOk flatM := ⟨i64 (by decide), i64 (by decide), by intro c hc; simp only [flatM, List.mem_cons, List.not_mem_nil, or_false] at hc; rcases hc with rfl | rfl | rfl | rfl <;> exact ⟨i64 (by decide), i64 (by decide), i64 (by decide)⟩, by decide⟩
def highM : M3 := withv flatM 1 1 ⟨1, 1, 0⟩
def restM : M3 := withv flatM 0 1 ⟨1, 0, 0⟩
theorem flatM_w : flatM.w = 2 := rfl
theorem flatM_h : flatM.h = 2 := rfl
theorem highM_w : highM.w = 2 := rfl
theorem highM_h : highM.h = 2 := rfl
theorem restM_w : restM.w = 2 := rfl
theorem restM_h : restM.h = 2 := rfl
theorem high_ok : MapOk highM := flat_ok.with 1 1 _ ⟨i64 (by decide), i64 (by decide), i64 (by decide)⟩
theorem rest_ok : MapOk restM := flat_ok.with 0 1 _ ⟨i64 (by decide), i64 (by decide), i64 (by decide)⟩
theorem RowAt.slice {W : World} {s : Value} {l : List C3} (h : RowAt W s l) : ∃ p c, s = .slice p l.length c := by
  obtain ⟨p, c, rfl, _⟩ := h
  exact ⟨p, c, rfl⟩

set_option maxRecDepth 100000 in
set_option maxHeartbeats 4000000 in
theorem awake_any {E : World → Prop} (H : TerHave E) (W : World) (hE : E W) : Calls Tryd.prog 11 #[] W fun e w' => e = .returned (.bool true) ∧ Below W.heap.size W w' := by
  have c1 := fun s w hE hr => H.step flatM s [] (.slice none 0 0) 1 0 0 1 true 14 w hE flat_ok (by decide) (i64 (by decide)) (i64 (by decide)) (i64 (by decide)) (i64 (by decide)) hr (BitsAt.nil _) (hid (by decide)) (hid (by decide))
  have c2 := fun s l w hE hr hl => H.step flatM s [false, true] l 1 0 0 1 false 0 w hE flat_ok (by decide) (i64 (by decide)) (i64 (by decide)) (i64 (by decide)) (i64 (by decide)) hr hl (hid (by decide)) (hid (by decide))
  have c3 := fun s l w hE hr hl => H.step flatM s [false, true] l 3 0 0 1 true 14 w hE flat_ok (by decide) (i64 (by decide)) (i64 (by decide)) (i64 (by decide)) (i64 (by decide)) hr hl (hid (by decide)) (hid (by decide))
  have c4 := fun s w hr => H.set flatM s 1 1 ⟨1, 1, 0⟩ w highM 0 flat_ok (i64 (by decide)) (i64 (by decide)) (i64 (by decide)) (i64 (by decide)) (i64 (by decide)) hr (hid (by rfl))
  have c5 := fun s w hE hr => H.step highM s [] (.slice none 0 0) 1 0 0 1 true 19 w hE high_ok (by decide) (i64 (by decide)) (i64 (by decide)) (i64 (by decide)) (i64 (by decide)) hr (BitsAt.nil _) (hid (by decide)) (hid (by decide))
  have c6 := fun s w hE hr => H.step highM s [] (.slice none 0 0) 1 1 0 2 true 15 w hE high_ok (by decide) (i64 (by decide)) (i64 (by decide)) (i64 (by decide)) (i64 (by decide)) hr (BitsAt.nil _) (hid (by decide)) (hid (by decide))
  have c7 := fun s w hr => H.take flatM s 0 1 5 w restM 3 0 flat_ok (i64 (by decide)) (i64 (by decide)) (i64 (by decide)) hr (hid (by rfl))
  have c8 := fun s w hr => H.get restM s 0 1 ⟨1, 0, 0⟩ true w rest_ok (i64 (by decide)) (i64 (by decide)) hr (hid (by decide)) (hid (by decide))
  have c9 := fun s w hr => H.valid flatM s true w flat_ok hr (hid (by decide))
  have ca := fun s w hE hr => H.opaq flatM s 2 0 true w hE flat_ok (i64 (by decide)) (i64 (by decide)) hr (hid (by decide))
  have cb := fun s w hE hr => H.opaq flatM s 0 0 false w hE flat_ok (i64 (by decide)) (i64 (by decide)) hr (hid (by decide))
  simp only [flatM_w, flatM_h, highM_w, highM_h, restM_w, restM_h] at c1 c2 c3 c4 c5 c6 c7 c8 c9 ca cb
  go_enter Tryd.func11, Tryd.ntmps11
  go_wp2_with fail
  ((with_reducible refine (flat_any _).mono ?_); rintro e w1 ⟨g, rfl, hr, hb1⟩)
  have hK : Keep W w1 [] := ⟨fun e he => by simp at he, hb1⟩
  replace hr := hr.below ((Below.refl w1.heap.size w1).alloc (Nat.le_refl _) (.cells [Value.int .i64 2, .int .i64 2, .slice (some ⟨g, 0, none⟩) 4 4].toArray 24))
  replace hK := hK.alloc [.int .i64 2, .int .i64 2, .slice (some ⟨g, 0, none⟩) 4 4] 24
  go_wp2_with fail
  generalize w1.heap.size = b1 at *
  ((with_reducible refine (c1 _ _ (H.keep hE hK.old) hr).mono ?_); rintro e w2 ⟨rfl, hb⟩)
  replace hr := hr.below hb
  replace hK := hK.call hb
  clear hb hb1 c1
  obtain ⟨_, _, _, _, _, _⟩ := hK.one.three
  replace hr := hr.below ((Below.refl w2.heap.size w2).alloc (Nat.le_refl _) (.cells [Value.bool false, .bool true].toArray 4))
  replace hK := hK.other (.cells [Value.bool false, .bool true].toArray 4)
  have hl := BitsAt.blk (Blk.new w2 [.bool false, .bool true] 4)
  go_wp2_with fail
  ((with_reducible refine (c2 _ _ _ (H.keep hE hK.old) hr hl).mono ?_); rintro e w3 ⟨rfl, hb⟩)
  replace hr := hr.below hb
  replace hK := hK.call hb
  clear hb c2 hl
  obtain ⟨_, _, _, _, _, _⟩ := hK.one.three
  replace hr := hr.below ((Below.refl w3.heap.size w3).alloc (Nat.le_refl _) (.cells [Value.bool false, .bool true].toArray 4))
  replace hK := hK.other (.cells [Value.bool false, .bool true].toArray 4)
  have hl := BitsAt.blk (Blk.new w3 [.bool false, .bool true] 4)
  go_wp2_with fail
  ((with_reducible refine (c3 _ _ _ (H.keep hE hK.old) hr hl).mono ?_); rintro e w4 ⟨rfl, hb⟩)
  replace hr := hr.below hb
  replace hK := hK.call hb
  clear hb c3 hl
  obtain ⟨_, _, _, _, _, _⟩ := hK.one.three
  go_wp2_with fail
  ((with_reducible refine (c4 _ _ hr).mono ?_); rintro e w5 ⟨s5, rfl, hh, hb⟩)
  obtain ⟨p5, k5, rfl⟩ := hh.slice
  replace hr := hr.below hb
  replace hK := hK.call hb
  clear hb c4
  generalize highM.cs.length = n5 at *
  replace hr := hr.below ((Below.refl w5.heap.size w5).alloc (Nat.le_refl _) (.cells [Value.int .i64 2, .int .i64 2, .slice p5 n5 k5].toArray 24))
  replace hh := hh.below ((Below.refl w5.heap.size w5).alloc (Nat.le_refl _) (.cells [Value.int .i64 2, .int .i64 2, .slice p5 n5 k5].toArray 24))
  replace hK := hK.alloc [.int .i64 2, .int .i64 2, .slice p5 n5 k5] 24
  go_wp2_with fail
  generalize w5.heap.size = b5 at *
  ((with_reducible refine (c5 _ _ (H.keep hE hK.old) hh).mono ?_); rintro e w6 ⟨rfl, hb⟩)
  replace hr := hr.below hb
  replace hh := hh.below hb
  replace hK := hK.call hb
  clear hb c5
  obtain ⟨_, _, _, _, _, _⟩ := hK.two.1.three
  go_wp2_with fail
  ((with_reducible refine (c6 _ _ (H.keep hE hK.old) hh).mono ?_); rintro e w7 ⟨rfl, hb⟩)
  replace hr := hr.below hb
  replace hK := hK.call hb
  clear hb c6 hh
  obtain ⟨_, _, _, _, _, _⟩ := hK.two.2.three
  go_wp2_with fail
  ((with_reducible refine (c7 _ _ hr).mono ?_); rintro e w8 ⟨s8, rfl, hh, hb⟩)
  obtain ⟨p8, k8, rfl⟩ := hh.slice
  replace hr := hr.below hb
  replace hK := hK.call hb
  clear hb c7
  generalize restM.cs.length = n8 at *
  replace hr := hr.below ((Below.refl w8.heap.size w8).alloc (Nat.le_refl _) (.cells [Value.int .i64 2, .int .i64 2, .slice p8 n8 k8].toArray 24))
  replace hh := hh.below ((Below.refl w8.heap.size w8).alloc (Nat.le_refl _) (.cells [Value.int .i64 2, .int .i64 2, .slice p8 n8 k8].toArray 24))
  replace hK := hK.other (.cells [Value.int .i64 2, .int .i64 2, .slice p8 n8 k8].toArray 24)
  go_wp2_with fail
  ((with_reducible refine (c8 _ _ hh).mono ?_); rintro e w9 ⟨rfl, hb⟩)
  replace hr := hr.below hb
  replace hK := hK.call hb
  clear hb c8 hh
  replace hr := hr.below ((Below.refl w9.heap.size w9).alloc (Nat.le_refl _) (.cells [Value.int .i64 1, .int .i64 0, .int .i64 0].toArray 28))
  replace hK := hK.other (.cells [Value.int .i64 1, .int .i64 0, .int .i64 0].toArray 28)
  obtain ⟨_, _, _, _, _, _⟩ := hK.two.2.three
  go_wp2_with fail
  ((with_reducible refine (c9 _ _ hr).mono ?_); rintro e wa ⟨rfl, hb⟩)
  replace hr := hr.below hb
  replace hK := hK.call hb
  clear hb c9
  obtain ⟨_, _, _, _, _, _⟩ := hK.two.2.three
  go_wp2_with fail
  ((with_reducible refine (ca _ _ (H.keep hE hK.old) hr).mono ?_); rintro e wb ⟨rfl, hb⟩)
  replace hr := hr.below hb
  replace hK := hK.call hb
  clear hb ca
  obtain ⟨_, _, _, _, _, _⟩ := hK.two.2.three
  go_wp2_with fail
  ((with_reducible refine (cb _ _ (H.keep hE hK.old) hr).mono ?_); rintro e wc ⟨rfl, hb⟩)
  replace hK := hK.call hb
  go_wp2_with fail
  go_ret
  exact ⟨rfl, hK.old⟩

end Go.Proofs.YtlpccjklgbfpaaaDoor
