/-
  The numbers, names and texts of map files, as plain functions; Rules as text: rules are read back from their text. No program is named here; Rules as text: the text of valid rules is short enough; it is parsed as these rules. No program is named here; What the laws of ruletext ask of the functions; What the reference of ruletext answers: Get; What the reference of ruletext answers: the lines of an element.
-/
import Derived.Test.YtnjcdmjaecgblaaGreatDoorZH00
import Derived.Test.YtnjcdmjaecgblaaGreatDoorZI00
namespace Go.Proofs.YtnjcdmjaecgblaaGreatDoor
section
section
open Go.RowKit Go.Lib
theorem linesB_of (x y : List UInt8) (h : (10 : UInt8) ∉ x) : linesB (x ++ 10 :: y) = x :: linesB y ∧ tailB (x ++ 10 :: y) = tailB y := by
 have hc : (cutC 10 (x ++ 10 :: y)).2.2 = true := by rw [cutC_of x y h]
 have := linesB_yes hc
 rw [cutC_of x y h] at this
 exact this
theorem lines_of_join : ∀ (ls : List (List UInt8)), (∀ l ∈ ls, (10 : UInt8) ∉ l) → linesB (ls.flatMap (fun l => l ++ [10])) = ls ∧ tailB (ls.flatMap (fun l => l ++ [10])) = [] := by
 intro ls
 induction ls with
 | nil => intro _; exact ⟨rfl, rfl⟩
 | cons l ls ih =>
  intro h
  obtain ⟨i1, i2⟩ := ih (fun x hx => h x (List.mem_cons_of_mem _ hx))
  have := linesB_of l (ls.flatMap (fun l => l ++ [10])) (h l (by simp))
  rw [List.flatMap_cons, List.append_assoc, List.singleton_append, this.1, this.2, i1, i2]
  exact ⟨rfl, rfl⟩
end
end
section
open Go.RowKit Go.Lib
theorem goP_app : ∀ (a b : List (List UInt8)) (p q : P10) (n m : Nat), goP p n a = (q, m, true) → goP p n (a ++ b) = goP q m b
 | [], b, p, q, n, m, h => by
  rw [goP_nil] at h
  injection h with h1 h2
  injection h2 with h2 _
  subst h1 h2
  rfl
 | t :: a, b, p, q, n, m, h => by
  cases hl : lineP p t with
  | none =>
   rw [goP_none hl] at h
   injection h with _ h2
   injection h2 with _ h2
   cases h2
  | some p2 =>
   rw [goP_some hl] at h
   rw [List.cons_append, goP_some hl]
   exact goP_app a b p2 q (n + 1) m h
theorem strip_12 (x : List UInt8) : stripB (wordK 1 ++ [32]) (wordK 2 ++ 32 :: x) = none := rfl
theorem strip_13 (x : List UInt8) : stripB (wordK 1 ++ [32]) (wordK 3 ++ 32 :: x) = none := rfl
theorem strip_23 (x : List UInt8) : stripB (wordK 2 ++ [32]) (wordK 3 ++ 32 :: x) = none := rfl
theorem strip_own (w x : List UInt8) : stripB (w ++ [32]) (w ++ 32 :: x) = some x := (strip_iff _ _ _).2 (by simp)
theorem first_word {k : Int} (hk : k = 1 ∨ k = 2 ∨ k = 3) {x : List UInt8} (h : nameB x = true) : firstL (wordK k ++ 32 :: x) = some (k, x) := by
 unfold firstL
 rcases hk with rfl | rfl | rfl
 · simp only [strip_own, h, if_true]
 · simp only [strip_12, strip_own, h, if_true]
 · simp only [strip_13, strip_23, strip_own, h, if_true]
theorem drop_at {α : Type} {l : List α} {d : Nat} {f : α} {fs : List α} (h : l.drop d = f :: fs) (z : α) : d < l.length ∧ l.getD d z = f ∧ l.drop (d + 1) = fs := by
 have hd : d < l.length := by
  rcases Nat.lt_or_ge d l.length with q | q
  · exact q
  · rw [List.drop_eq_nil_of_le q] at h; cases h
 rw [List.drop_eq_getElem_cons hd] at h
 injection h with h1 h2
 refine ⟨hd, ?_, h2⟩
 rw [List.getD_eq_getElem?_getD, List.getElem?_eq_getElem hd]
 exact h1
theorem fields_go {X : Type} (k : Int) (R : X → R9) (wth : X → ByteArray → V10 → X) (hR : ∀ x f v, setK10 (R x) k (lastK (R x) k) f v = R (wth x f v)) (val : ByteArray → V10) (hg : ∀ f ∈ fieldsv k, Good10 (sortv f) (val f)) :
 ∀ (fs : List ByteArray) (d : Nat) (x : X) (n : Nat), (fieldsv k).drop d = fs → goP ⟨k, d, R x⟩ n (fs.map (fieldL k val)) = (⟨k, d + fs.length, R (fs.foldl (fun x f => wth x f (val f)) x)⟩, n + fs.length, true)
 | [], d, x, n, _ => rfl
 | f :: fs, d, x, n, h => by
  obtain ⟨hd, hf, hr⟩ := drop_at h ⟨#[]⟩
  have hm : f ∈ fieldsv k := List.mem_of_mem_drop (h ▸ List.mem_cons_self)
  have hl : lineP ⟨k, d, R x⟩ (fieldL k val f) = some ⟨k, d + 1, R (wth x f (val f))⟩ := by
   unfold lineP
   rw [if_neg (show ¬ d = (fieldsv k).length by omega)]
   dsimp only
   rw [hf]
   unfold fieldL
   rw [show (32 :: (f.toList ++ 32 :: textL (typev k f) (val f)) : List UInt8) = 32 :: (f.toList ++ [32]) ++ textL (typev k f) (val f) by simp, strip_self]
   dsimp only
   rw [type_in hm, text_read (hg f hm)]
   dsimp only
   rw [hR]
  rw [List.map_cons, goP_some hl, fields_go k R wth hR val hg fs (d + 1) _ (n + 1) hr]
  simp only [List.length_cons, List.foldl_cons]
  rw [show d + 1 + fs.length = d + (fs.length + 1) by omega, show n + 1 + fs.length = n + (fs.length + 1) by omega]
theorem elems_go {X : Type} (k : Int) (hk : k = 1 ∨ k = 2 ∨ k = 3) (E : R9 → List X → R9) (hE0 : ∀ r, E r [] = r) (hE : ∀ r x l, E (E r [x]) l = E r (x :: l)) (wth : X → ByteArray → V10 → X) (val : X → ByteArray → V10) (nm : X → ByteArray) (x0 : X → X)
 (hnew : ∀ r x, newK r k (nm x).toList = E r [x0 x]) (hR : ∀ r x f v, setK10 (E r [x]) k (lastK (E r [x]) k) f v = E r [wth x f v]) (hfold : ∀ x, (fieldsv k).foldl (fun y f => wth y f (val x f)) (x0 x) = x) :
 ∀ (l : List X) (p : P10) (n : Nat), p.d = (fieldsv p.k).length → p.k ≤ k → (∀ x ∈ l, nameB (nm x).toList = true ∧ ∀ f ∈ fieldsv k, Good10 (sortv f) (val x f)) →
  ∃ q m, goP p n (l.flatMap fun x => elemL k (nm x) (val x)) = (q, m, true) ∧ q.r = E p.r l ∧ q.d = (fieldsv q.k).length ∧ q.k ≤ k
 | [], p, n, hd, hp, _ => ⟨p, n, rfl, (hE0 p.r).symm, hd, hp⟩
 | x :: l, p, n, hd, hp, hx => by
  obtain ⟨h1, h2⟩ := hx x (by simp)
  have hl : lineP p (wordK k ++ 32 :: (nm x).toList) = some ⟨k, 0, E p.r [x0 x]⟩ := by
   unfold lineP
   rw [if_pos hd, first_word hk h1]
   dsimp only
   rw [if_neg (by omega), hnew]
  have hf := fields_go k (fun y => E p.r [y]) wth (fun y f v => hR p.r y f v) (val x) h2 (fieldsv k) 0 (x0 x) (n + 1) rfl
  rw [hfold x, Nat.zero_add] at hf
  obtain ⟨q, m, g1, g2, g3, g4⟩ := elems_go k hk E hE0 hE wth val nm x0 hnew hR hfold l ⟨k, (fieldsv k).length, E p.r [x]⟩ (n + 1 + (fieldsv k).length) rfl (Int.le_refl _) (fun y hy => hx y (List.mem_cons_of_mem _ hy))
  refine ⟨q, m, ?_, by rw [g2, hE], g3, g4⟩
  rw [List.flatMap_cons]
  unfold elemL at g1 ⊢
  rw [List.cons_append, goP_some hl, goP_app _ _ _ _ _ _ hf]
  exact g1
theorem modify_last {α : Type} (x : α) (g : α → α) : ∀ l : List α, (l ++ [x]).modify l.length g = l ++ [g x]
 | [] => rfl
 | a :: l => by
  rw [List.cons_append, List.length_cons, List.modify_succ_cons, modify_last x g l]
  rfl
theorem wU_0 (nm_ : ByteArray) (bld_ : Bool) (dep_ : Bool) (cls_ : Int) (w_ : Int) (h_ : Int) (rad_ : Int) (spd_ : Int) (sgt_ : Int) (hp_ : Int) (arm_ : Int) (load_ : Int) (wpn_ : ByteArray) (ore_ : Int) (wood_ : Int) (time_ : Int) (needs_ : List ByteArray) (trains_ : List ByteArray) (ress_ : List ByteArray) (v : V10) : withUv ⟨nm_, bld_, dep_, cls_, w_, h_, rad_, spd_, sgt_, hp_, arm_, load_, wpn_, ore_, wood_, time_, needs_, trains_, ress_⟩ ⟨#[98, 117, 105, 108, 100, 105, 110, 103]⟩ v = ⟨nm_, v.b, dep_, cls_, w_, h_, rad_, spd_, sgt_, hp_, arm_, load_, wpn_, ore_, wood_, time_, needs_, trains_, ress_⟩ := rfl
theorem oU_0 (u : U9) : ofUv u ⟨#[98, 117, 105, 108, 100, 105, 110, 103]⟩ = ⟨0, u.bld, ⟨#[]⟩, []⟩ := rfl
theorem wU_1 (nm_ : ByteArray) (bld_ : Bool) (dep_ : Bool) (cls_ : Int) (w_ : Int) (h_ : Int) (rad_ : Int) (spd_ : Int) (sgt_ : Int) (hp_ : Int) (arm_ : Int) (load_ : Int) (wpn_ : ByteArray) (ore_ : Int) (wood_ : Int) (time_ : Int) (needs_ : List ByteArray) (trains_ : List ByteArray) (ress_ : List ByteArray) (v : V10) : withUv ⟨nm_, bld_, dep_, cls_, w_, h_, rad_, spd_, sgt_, hp_, arm_, load_, wpn_, ore_, wood_, time_, needs_, trains_, ress_⟩ ⟨#[100, 101, 112, 111, 116]⟩ v = ⟨nm_, bld_, v.b, cls_, w_, h_, rad_, spd_, sgt_, hp_, arm_, load_, wpn_, ore_, wood_, time_, needs_, trains_, ress_⟩ := rfl
theorem oU_1 (u : U9) : ofUv u ⟨#[100, 101, 112, 111, 116]⟩ = ⟨0, u.dep, ⟨#[]⟩, []⟩ := rfl
theorem wU_2 (nm_ : ByteArray) (bld_ : Bool) (dep_ : Bool) (cls_ : Int) (w_ : Int) (h_ : Int) (rad_ : Int) (spd_ : Int) (sgt_ : Int) (hp_ : Int) (arm_ : Int) (load_ : Int) (wpn_ : ByteArray) (ore_ : Int) (wood_ : Int) (time_ : Int) (needs_ : List ByteArray) (trains_ : List ByteArray) (ress_ : List ByteArray) (v : V10) : withUv ⟨nm_, bld_, dep_, cls_, w_, h_, rad_, spd_, sgt_, hp_, arm_, load_, wpn_, ore_, wood_, time_, needs_, trains_, ress_⟩ ⟨#[99, 108, 97, 115, 115]⟩ v = ⟨nm_, bld_, dep_, v.n, w_, h_, rad_, spd_, sgt_, hp_, arm_, load_, wpn_, ore_, wood_, time_, needs_, trains_, ress_⟩ := rfl
theorem oU_2 (u : U9) : ofUv u ⟨#[99, 108, 97, 115, 115]⟩ = ⟨u.cls, false, ⟨#[]⟩, []⟩ := rfl
theorem wU_3 (nm_ : ByteArray) (bld_ : Bool) (dep_ : Bool) (cls_ : Int) (w_ : Int) (h_ : Int) (rad_ : Int) (spd_ : Int) (sgt_ : Int) (hp_ : Int) (arm_ : Int) (load_ : Int) (wpn_ : ByteArray) (ore_ : Int) (wood_ : Int) (time_ : Int) (needs_ : List ByteArray) (trains_ : List ByteArray) (ress_ : List ByteArray) (v : V10) : withUv ⟨nm_, bld_, dep_, cls_, w_, h_, rad_, spd_, sgt_, hp_, arm_, load_, wpn_, ore_, wood_, time_, needs_, trains_, ress_⟩ ⟨#[119]⟩ v = ⟨nm_, bld_, dep_, cls_, v.n, h_, rad_, spd_, sgt_, hp_, arm_, load_, wpn_, ore_, wood_, time_, needs_, trains_, ress_⟩ := rfl
theorem oU_3 (u : U9) : ofUv u ⟨#[119]⟩ = ⟨u.w, false, ⟨#[]⟩, []⟩ := rfl
theorem wU_4 (nm_ : ByteArray) (bld_ : Bool) (dep_ : Bool) (cls_ : Int) (w_ : Int) (h_ : Int) (rad_ : Int) (spd_ : Int) (sgt_ : Int) (hp_ : Int) (arm_ : Int) (load_ : Int) (wpn_ : ByteArray) (ore_ : Int) (wood_ : Int) (time_ : Int) (needs_ : List ByteArray) (trains_ : List ByteArray) (ress_ : List ByteArray) (v : V10) : withUv ⟨nm_, bld_, dep_, cls_, w_, h_, rad_, spd_, sgt_, hp_, arm_, load_, wpn_, ore_, wood_, time_, needs_, trains_, ress_⟩ ⟨#[104]⟩ v = ⟨nm_, bld_, dep_, cls_, w_, v.n, rad_, spd_, sgt_, hp_, arm_, load_, wpn_, ore_, wood_, time_, needs_, trains_, ress_⟩ := rfl
theorem oU_4 (u : U9) : ofUv u ⟨#[104]⟩ = ⟨u.h, false, ⟨#[]⟩, []⟩ := rfl
theorem wU_5 (nm_ : ByteArray) (bld_ : Bool) (dep_ : Bool) (cls_ : Int) (w_ : Int) (h_ : Int) (rad_ : Int) (spd_ : Int) (sgt_ : Int) (hp_ : Int) (arm_ : Int) (load_ : Int) (wpn_ : ByteArray) (ore_ : Int) (wood_ : Int) (time_ : Int) (needs_ : List ByteArray) (trains_ : List ByteArray) (ress_ : List ByteArray) (v : V10) : withUv ⟨nm_, bld_, dep_, cls_, w_, h_, rad_, spd_, sgt_, hp_, arm_, load_, wpn_, ore_, wood_, time_, needs_, trains_, ress_⟩ ⟨#[114, 97, 100, 105, 117, 115]⟩ v = ⟨nm_, bld_, dep_, cls_, w_, h_, v.n, spd_, sgt_, hp_, arm_, load_, wpn_, ore_, wood_, time_, needs_, trains_, ress_⟩ := rfl
theorem oU_5 (u : U9) : ofUv u ⟨#[114, 97, 100, 105, 117, 115]⟩ = ⟨u.rad, false, ⟨#[]⟩, []⟩ := rfl
theorem wU_6 (nm_ : ByteArray) (bld_ : Bool) (dep_ : Bool) (cls_ : Int) (w_ : Int) (h_ : Int) (rad_ : Int) (spd_ : Int) (sgt_ : Int) (hp_ : Int) (arm_ : Int) (load_ : Int) (wpn_ : ByteArray) (ore_ : Int) (wood_ : Int) (time_ : Int) (needs_ : List ByteArray) (trains_ : List ByteArray) (ress_ : List ByteArray) (v : V10) : withUv ⟨nm_, bld_, dep_, cls_, w_, h_, rad_, spd_, sgt_, hp_, arm_, load_, wpn_, ore_, wood_, time_, needs_, trains_, ress_⟩ ⟨#[115, 112, 101, 101, 100]⟩ v = ⟨nm_, bld_, dep_, cls_, w_, h_, rad_, v.n, sgt_, hp_, arm_, load_, wpn_, ore_, wood_, time_, needs_, trains_, ress_⟩ := rfl
theorem oU_6 (u : U9) : ofUv u ⟨#[115, 112, 101, 101, 100]⟩ = ⟨u.spd, false, ⟨#[]⟩, []⟩ := rfl
theorem wU_7 (nm_ : ByteArray) (bld_ : Bool) (dep_ : Bool) (cls_ : Int) (w_ : Int) (h_ : Int) (rad_ : Int) (spd_ : Int) (sgt_ : Int) (hp_ : Int) (arm_ : Int) (load_ : Int) (wpn_ : ByteArray) (ore_ : Int) (wood_ : Int) (time_ : Int) (needs_ : List ByteArray) (trains_ : List ByteArray) (ress_ : List ByteArray) (v : V10) : withUv ⟨nm_, bld_, dep_, cls_, w_, h_, rad_, spd_, sgt_, hp_, arm_, load_, wpn_, ore_, wood_, time_, needs_, trains_, ress_⟩ ⟨#[115, 105, 103, 104, 116]⟩ v = ⟨nm_, bld_, dep_, cls_, w_, h_, rad_, spd_, v.n, hp_, arm_, load_, wpn_, ore_, wood_, time_, needs_, trains_, ress_⟩ := rfl
theorem oU_7 (u : U9) : ofUv u ⟨#[115, 105, 103, 104, 116]⟩ = ⟨u.sgt, false, ⟨#[]⟩, []⟩ := rfl
theorem wU_8 (nm_ : ByteArray) (bld_ : Bool) (dep_ : Bool) (cls_ : Int) (w_ : Int) (h_ : Int) (rad_ : Int) (spd_ : Int) (sgt_ : Int) (hp_ : Int) (arm_ : Int) (load_ : Int) (wpn_ : ByteArray) (ore_ : Int) (wood_ : Int) (time_ : Int) (needs_ : List ByteArray) (trains_ : List ByteArray) (ress_ : List ByteArray) (v : V10) : withUv ⟨nm_, bld_, dep_, cls_, w_, h_, rad_, spd_, sgt_, hp_, arm_, load_, wpn_, ore_, wood_, time_, needs_, trains_, ress_⟩ ⟨#[104, 112]⟩ v = ⟨nm_, bld_, dep_, cls_, w_, h_, rad_, spd_, sgt_, v.n, arm_, load_, wpn_, ore_, wood_, time_, needs_, trains_, ress_⟩ := rfl
theorem oU_8 (u : U9) : ofUv u ⟨#[104, 112]⟩ = ⟨u.hp, false, ⟨#[]⟩, []⟩ := rfl
theorem wU_9 (nm_ : ByteArray) (bld_ : Bool) (dep_ : Bool) (cls_ : Int) (w_ : Int) (h_ : Int) (rad_ : Int) (spd_ : Int) (sgt_ : Int) (hp_ : Int) (arm_ : Int) (load_ : Int) (wpn_ : ByteArray) (ore_ : Int) (wood_ : Int) (time_ : Int) (needs_ : List ByteArray) (trains_ : List ByteArray) (ress_ : List ByteArray) (v : V10) : withUv ⟨nm_, bld_, dep_, cls_, w_, h_, rad_, spd_, sgt_, hp_, arm_, load_, wpn_, ore_, wood_, time_, needs_, trains_, ress_⟩ ⟨#[97, 114, 109, 111, 114]⟩ v = ⟨nm_, bld_, dep_, cls_, w_, h_, rad_, spd_, sgt_, hp_, v.n, load_, wpn_, ore_, wood_, time_, needs_, trains_, ress_⟩ := rfl
theorem oU_9 (u : U9) : ofUv u ⟨#[97, 114, 109, 111, 114]⟩ = ⟨u.arm, false, ⟨#[]⟩, []⟩ := rfl
theorem wU_10 (nm_ : ByteArray) (bld_ : Bool) (dep_ : Bool) (cls_ : Int) (w_ : Int) (h_ : Int) (rad_ : Int) (spd_ : Int) (sgt_ : Int) (hp_ : Int) (arm_ : Int) (load_ : Int) (wpn_ : ByteArray) (ore_ : Int) (wood_ : Int) (time_ : Int) (needs_ : List ByteArray) (trains_ : List ByteArray) (ress_ : List ByteArray) (v : V10) : withUv ⟨nm_, bld_, dep_, cls_, w_, h_, rad_, spd_, sgt_, hp_, arm_, load_, wpn_, ore_, wood_, time_, needs_, trains_, ress_⟩ ⟨#[108, 111, 97, 100]⟩ v = ⟨nm_, bld_, dep_, cls_, w_, h_, rad_, spd_, sgt_, hp_, arm_, v.n, wpn_, ore_, wood_, time_, needs_, trains_, ress_⟩ := rfl
theorem oU_10 (u : U9) : ofUv u ⟨#[108, 111, 97, 100]⟩ = ⟨u.load, false, ⟨#[]⟩, []⟩ := rfl
theorem wU_11 (nm_ : ByteArray) (bld_ : Bool) (dep_ : Bool) (cls_ : Int) (w_ : Int) (h_ : Int) (rad_ : Int) (spd_ : Int) (sgt_ : Int) (hp_ : Int) (arm_ : Int) (load_ : Int) (wpn_ : ByteArray) (ore_ : Int) (wood_ : Int) (time_ : Int) (needs_ : List ByteArray) (trains_ : List ByteArray) (ress_ : List ByteArray) (v : V10) : withUv ⟨nm_, bld_, dep_, cls_, w_, h_, rad_, spd_, sgt_, hp_, arm_, load_, wpn_, ore_, wood_, time_, needs_, trains_, ress_⟩ ⟨#[119, 101, 97, 112, 111, 110]⟩ v = ⟨nm_, bld_, dep_, cls_, w_, h_, rad_, spd_, sgt_, hp_, arm_, load_, v.s, ore_, wood_, time_, needs_, trains_, ress_⟩ := rfl
theorem oU_11 (u : U9) : ofUv u ⟨#[119, 101, 97, 112, 111, 110]⟩ = ⟨0, false, u.wpn, []⟩ := rfl
theorem wU_12 (nm_ : ByteArray) (bld_ : Bool) (dep_ : Bool) (cls_ : Int) (w_ : Int) (h_ : Int) (rad_ : Int) (spd_ : Int) (sgt_ : Int) (hp_ : Int) (arm_ : Int) (load_ : Int) (wpn_ : ByteArray) (ore_ : Int) (wood_ : Int) (time_ : Int) (needs_ : List ByteArray) (trains_ : List ByteArray) (ress_ : List ByteArray) (v : V10) : withUv ⟨nm_, bld_, dep_, cls_, w_, h_, rad_, spd_, sgt_, hp_, arm_, load_, wpn_, ore_, wood_, time_, needs_, trains_, ress_⟩ ⟨#[111, 114, 101]⟩ v = ⟨nm_, bld_, dep_, cls_, w_, h_, rad_, spd_, sgt_, hp_, arm_, load_, wpn_, v.n, wood_, time_, needs_, trains_, ress_⟩ := rfl
theorem oU_12 (u : U9) : ofUv u ⟨#[111, 114, 101]⟩ = ⟨u.ore, false, ⟨#[]⟩, []⟩ := rfl
theorem wU_13 (nm_ : ByteArray) (bld_ : Bool) (dep_ : Bool) (cls_ : Int) (w_ : Int) (h_ : Int) (rad_ : Int) (spd_ : Int) (sgt_ : Int) (hp_ : Int) (arm_ : Int) (load_ : Int) (wpn_ : ByteArray) (ore_ : Int) (wood_ : Int) (time_ : Int) (needs_ : List ByteArray) (trains_ : List ByteArray) (ress_ : List ByteArray) (v : V10) : withUv ⟨nm_, bld_, dep_, cls_, w_, h_, rad_, spd_, sgt_, hp_, arm_, load_, wpn_, ore_, wood_, time_, needs_, trains_, ress_⟩ ⟨#[119, 111, 111, 100]⟩ v = ⟨nm_, bld_, dep_, cls_, w_, h_, rad_, spd_, sgt_, hp_, arm_, load_, wpn_, ore_, v.n, time_, needs_, trains_, ress_⟩ := rfl
theorem oU_13 (u : U9) : ofUv u ⟨#[119, 111, 111, 100]⟩ = ⟨u.wood, false, ⟨#[]⟩, []⟩ := rfl
theorem wU_14 (nm_ : ByteArray) (bld_ : Bool) (dep_ : Bool) (cls_ : Int) (w_ : Int) (h_ : Int) (rad_ : Int) (spd_ : Int) (sgt_ : Int) (hp_ : Int) (arm_ : Int) (load_ : Int) (wpn_ : ByteArray) (ore_ : Int) (wood_ : Int) (time_ : Int) (needs_ : List ByteArray) (trains_ : List ByteArray) (ress_ : List ByteArray) (v : V10) : withUv ⟨nm_, bld_, dep_, cls_, w_, h_, rad_, spd_, sgt_, hp_, arm_, load_, wpn_, ore_, wood_, time_, needs_, trains_, ress_⟩ ⟨#[116, 105, 109, 101]⟩ v = ⟨nm_, bld_, dep_, cls_, w_, h_, rad_, spd_, sgt_, hp_, arm_, load_, wpn_, ore_, wood_, v.n, needs_, trains_, ress_⟩ := rfl
theorem oU_14 (u : U9) : ofUv u ⟨#[116, 105, 109, 101]⟩ = ⟨u.time, false, ⟨#[]⟩, []⟩ := rfl
theorem wU_15 (nm_ : ByteArray) (bld_ : Bool) (dep_ : Bool) (cls_ : Int) (w_ : Int) (h_ : Int) (rad_ : Int) (spd_ : Int) (sgt_ : Int) (hp_ : Int) (arm_ : Int) (load_ : Int) (wpn_ : ByteArray) (ore_ : Int) (wood_ : Int) (time_ : Int) (needs_ : List ByteArray) (trains_ : List ByteArray) (ress_ : List ByteArray) (v : V10) : withUv ⟨nm_, bld_, dep_, cls_, w_, h_, rad_, spd_, sgt_, hp_, arm_, load_, wpn_, ore_, wood_, time_, needs_, trains_, ress_⟩ ⟨#[110, 101, 101, 100, 115]⟩ v = ⟨nm_, bld_, dep_, cls_, w_, h_, rad_, spd_, sgt_, hp_, arm_, load_, wpn_, ore_, wood_, time_, v.l, trains_, ress_⟩ := rfl
theorem oU_15 (u : U9) : ofUv u ⟨#[110, 101, 101, 100, 115]⟩ = ⟨0, false, ⟨#[]⟩, u.needs⟩ := rfl
theorem wU_16 (nm_ : ByteArray) (bld_ : Bool) (dep_ : Bool) (cls_ : Int) (w_ : Int) (h_ : Int) (rad_ : Int) (spd_ : Int) (sgt_ : Int) (hp_ : Int) (arm_ : Int) (load_ : Int) (wpn_ : ByteArray) (ore_ : Int) (wood_ : Int) (time_ : Int) (needs_ : List ByteArray) (trains_ : List ByteArray) (ress_ : List ByteArray) (v : V10) : withUv ⟨nm_, bld_, dep_, cls_, w_, h_, rad_, spd_, sgt_, hp_, arm_, load_, wpn_, ore_, wood_, time_, needs_, trains_, ress_⟩ ⟨#[116, 114, 97, 105, 110, 115]⟩ v = ⟨nm_, bld_, dep_, cls_, w_, h_, rad_, spd_, sgt_, hp_, arm_, load_, wpn_, ore_, wood_, time_, needs_, v.l, ress_⟩ := rfl
theorem oU_16 (u : U9) : ofUv u ⟨#[116, 114, 97, 105, 110, 115]⟩ = ⟨0, false, ⟨#[]⟩, u.trains⟩ := rfl
theorem wU_17 (nm_ : ByteArray) (bld_ : Bool) (dep_ : Bool) (cls_ : Int) (w_ : Int) (h_ : Int) (rad_ : Int) (spd_ : Int) (sgt_ : Int) (hp_ : Int) (arm_ : Int) (load_ : Int) (wpn_ : ByteArray) (ore_ : Int) (wood_ : Int) (time_ : Int) (needs_ : List ByteArray) (trains_ : List ByteArray) (ress_ : List ByteArray) (v : V10) : withUv ⟨nm_, bld_, dep_, cls_, w_, h_, rad_, spd_, sgt_, hp_, arm_, load_, wpn_, ore_, wood_, time_, needs_, trains_, ress_⟩ ⟨#[114, 101, 115, 101, 97, 114, 99, 104, 101, 115]⟩ v = ⟨nm_, bld_, dep_, cls_, w_, h_, rad_, spd_, sgt_, hp_, arm_, load_, wpn_, ore_, wood_, time_, needs_, trains_, v.l⟩ := rfl
theorem oU_17 (u : U9) : ofUv u ⟨#[114, 101, 115, 101, 97, 114, 99, 104, 101, 115]⟩ = ⟨0, false, ⟨#[]⟩, u.ress⟩ := rfl
set_option maxRecDepth 100000 in
theorem foldU (u : U9) : (fieldsv 1).foldl (fun y f => withUv y f (ofUv u f)) { U9.zero with nm := u.nm } = u := by
 rw [fieldsU]
 unfold U9.zero
 simp only [List.foldl_cons, List.foldl_nil, wU_0, wU_1, wU_2, wU_3, wU_4, wU_5, wU_6, wU_7, wU_8, wU_9, wU_10, wU_11, wU_12, wU_13, wU_14, wU_15, wU_16, wU_17, oU_0, oU_1, oU_2, oU_3, oU_4, oU_5, oU_6, oU_7, oU_8, oU_9, oU_10, oU_11, oU_12, oU_13, oU_14, oU_15, oU_16, oU_17]
theorem wW_0 (nm_ : ByteArray) (rng_ : Int) (dmg_ : Int) (cool_ : Int) (spd_ : Int) (spl_ : Int) (v : V10) : withWv ⟨nm_, rng_, dmg_, cool_, spd_, spl_⟩ ⟨#[114, 97, 110, 103, 101]⟩ v = ⟨nm_, v.n, dmg_, cool_, spd_, spl_⟩ := rfl
theorem wW_1 (nm_ : ByteArray) (rng_ : Int) (dmg_ : Int) (cool_ : Int) (spd_ : Int) (spl_ : Int) (v : V10) : withWv ⟨nm_, rng_, dmg_, cool_, spd_, spl_⟩ ⟨#[100, 97, 109, 97, 103, 101]⟩ v = ⟨nm_, rng_, v.n, cool_, spd_, spl_⟩ := rfl
theorem wW_2 (nm_ : ByteArray) (rng_ : Int) (dmg_ : Int) (cool_ : Int) (spd_ : Int) (spl_ : Int) (v : V10) : withWv ⟨nm_, rng_, dmg_, cool_, spd_, spl_⟩ ⟨#[99, 111, 111, 108]⟩ v = ⟨nm_, rng_, dmg_, v.n, spd_, spl_⟩ := rfl
theorem wW_3 (nm_ : ByteArray) (rng_ : Int) (dmg_ : Int) (cool_ : Int) (spd_ : Int) (spl_ : Int) (v : V10) : withWv ⟨nm_, rng_, dmg_, cool_, spd_, spl_⟩ ⟨#[115, 112, 101, 101, 100]⟩ v = ⟨nm_, rng_, dmg_, cool_, v.n, spl_⟩ := rfl
theorem wW_4 (nm_ : ByteArray) (rng_ : Int) (dmg_ : Int) (cool_ : Int) (spd_ : Int) (spl_ : Int) (v : V10) : withWv ⟨nm_, rng_, dmg_, cool_, spd_, spl_⟩ ⟨#[115, 112, 108, 97, 115, 104]⟩ v = ⟨nm_, rng_, dmg_, cool_, spd_, v.n⟩ := rfl
set_option maxRecDepth 100000 in
theorem foldW (u : W9) : (fieldsv 2).foldl (fun y f => withWv y f (ofWv u f)) { W9.zero with nm := u.nm } = u := by
 rw [fieldsW]
 unfold W9.zero
 simp only [List.foldl_cons, List.foldl_nil, wW_0, wW_1, wW_2, wW_3, wW_4, oW_0, oW_1, oW_2, oW_3, oW_4]
theorem wT_0 (nm_ : ByteArray) (needs_ : List ByteArray) (ore_ : Int) (wood_ : Int) (time_ : Int) (un_ : ByteArray) (stat_ : Int) (amt_ : Int) (v : V10) : withTv ⟨nm_, needs_, ore_, wood_, time_, un_, stat_, amt_⟩ ⟨#[110, 101, 101, 100, 115]⟩ v = ⟨nm_, v.l, ore_, wood_, time_, un_, stat_, amt_⟩ := rfl
theorem oT_0 (u : T9) : ofTv u ⟨#[110, 101, 101, 100, 115]⟩ = ⟨0, false, ⟨#[]⟩, u.needs⟩ := rfl
theorem wT_1 (nm_ : ByteArray) (needs_ : List ByteArray) (ore_ : Int) (wood_ : Int) (time_ : Int) (un_ : ByteArray) (stat_ : Int) (amt_ : Int) (v : V10) : withTv ⟨nm_, needs_, ore_, wood_, time_, un_, stat_, amt_⟩ ⟨#[111, 114, 101]⟩ v = ⟨nm_, needs_, v.n, wood_, time_, un_, stat_, amt_⟩ := rfl
theorem oT_1 (u : T9) : ofTv u ⟨#[111, 114, 101]⟩ = ⟨u.ore, false, ⟨#[]⟩, []⟩ := rfl
theorem wT_2 (nm_ : ByteArray) (needs_ : List ByteArray) (ore_ : Int) (wood_ : Int) (time_ : Int) (un_ : ByteArray) (stat_ : Int) (amt_ : Int) (v : V10) : withTv ⟨nm_, needs_, ore_, wood_, time_, un_, stat_, amt_⟩ ⟨#[119, 111, 111, 100]⟩ v = ⟨nm_, needs_, ore_, v.n, time_, un_, stat_, amt_⟩ := rfl
theorem oT_2 (u : T9) : ofTv u ⟨#[119, 111, 111, 100]⟩ = ⟨u.wood, false, ⟨#[]⟩, []⟩ := rfl
theorem wT_3 (nm_ : ByteArray) (needs_ : List ByteArray) (ore_ : Int) (wood_ : Int) (time_ : Int) (un_ : ByteArray) (stat_ : Int) (amt_ : Int) (v : V10) : withTv ⟨nm_, needs_, ore_, wood_, time_, un_, stat_, amt_⟩ ⟨#[116, 105, 109, 101]⟩ v = ⟨nm_, needs_, ore_, wood_, v.n, un_, stat_, amt_⟩ := rfl
theorem oT_3 (u : T9) : ofTv u ⟨#[116, 105, 109, 101]⟩ = ⟨u.time, false, ⟨#[]⟩, []⟩ := rfl
theorem wT_4 (nm_ : ByteArray) (needs_ : List ByteArray) (ore_ : Int) (wood_ : Int) (time_ : Int) (un_ : ByteArray) (stat_ : Int) (amt_ : Int) (v : V10) : withTv ⟨nm_, needs_, ore_, wood_, time_, un_, stat_, amt_⟩ ⟨#[117, 110, 105, 116]⟩ v = ⟨nm_, needs_, ore_, wood_, time_, v.s, stat_, amt_⟩ := rfl
theorem oT_4 (u : T9) : ofTv u ⟨#[117, 110, 105, 116]⟩ = ⟨0, false, u.un, []⟩ := rfl
theorem wT_5 (nm_ : ByteArray) (needs_ : List ByteArray) (ore_ : Int) (wood_ : Int) (time_ : Int) (un_ : ByteArray) (stat_ : Int) (amt_ : Int) (v : V10) : withTv ⟨nm_, needs_, ore_, wood_, time_, un_, stat_, amt_⟩ ⟨#[115, 116, 97, 116]⟩ v = ⟨nm_, needs_, ore_, wood_, time_, un_, v.n, amt_⟩ := rfl
theorem oT_5 (u : T9) : ofTv u ⟨#[115, 116, 97, 116]⟩ = ⟨u.stat, false, ⟨#[]⟩, []⟩ := rfl
theorem wT_6 (nm_ : ByteArray) (needs_ : List ByteArray) (ore_ : Int) (wood_ : Int) (time_ : Int) (un_ : ByteArray) (stat_ : Int) (amt_ : Int) (v : V10) : withTv ⟨nm_, needs_, ore_, wood_, time_, un_, stat_, amt_⟩ ⟨#[97, 109, 111, 117, 110, 116]⟩ v = ⟨nm_, needs_, ore_, wood_, time_, un_, stat_, v.n⟩ := rfl
theorem oT_6 (u : T9) : ofTv u ⟨#[97, 109, 111, 117, 110, 116]⟩ = ⟨u.amt, false, ⟨#[]⟩, []⟩ := rfl
set_option maxRecDepth 100000 in
theorem foldT (u : T9) : (fieldsv 3).foldl (fun y f => withTv y f (ofTv u f)) { T9.zero with nm := u.nm } = u := by
 rw [fieldsT]
 unfold T9.zero
 simp only [List.foldl_cons, List.foldl_nil, wT_0, wT_1, wT_2, wT_3, wT_4, wT_5, wT_6, oT_0, oT_1, oT_2, oT_3, oT_4, oT_5, oT_6]
theorem lastU (r : R9) (x : U9) (f : ByteArray) (v : V10) : setK10 { r with us := r.us ++ [x] } 1 (lastK { r with us := r.us ++ [x] } 1) f v = { r with us := r.us ++ [withUv x f v] } := by
 show ({ r with us := (r.us ++ [x]).modify ((r.us ++ [x]).length - 1) fun u => withUv u f v } : R9) = _
 rw [show (r.us ++ [x]).length - 1 = r.us.length by simp, modify_last]
theorem lastW (r : R9) (x : W9) (f : ByteArray) (v : V10) : setK10 { r with ws := r.ws ++ [x] } 2 (lastK { r with ws := r.ws ++ [x] } 2) f v = { r with ws := r.ws ++ [withWv x f v] } := by
 show ({ r with ws := (r.ws ++ [x]).modify ((r.ws ++ [x]).length - 1) fun u => withWv u f v } : R9) = _
 rw [show (r.ws ++ [x]).length - 1 = r.ws.length by simp, modify_last]
theorem lastT (r : R9) (x : T9) (f : ByteArray) (v : V10) : setK10 { r with ts := r.ts ++ [x] } 3 (lastK { r with ts := r.ts ++ [x] } 3) f v = { r with ts := r.ts ++ [withTv x f v] } := by
 show ({ r with ts := (r.ts ++ [x]).modify ((r.ts ++ [x]).length - 1) fun u => withTv u f v } : R9) = _
 rw [show (r.ts ++ [x]).length - 1 = r.ts.length by simp, modify_last]
theorem rules_go {r : R9} (h : valv r = 0) : ∃ q m, goP ⟨0, 0, R9.zero⟩ 1 (rulesL r) = (q, m, true) ∧ q.r = r ∧ q.d = (fieldsv q.k).length := by
 obtain ⟨-, hn, -⟩ := val_zero h
 obtain ⟨nu, nw, nt⟩ := named_at hn
 obtain ⟨q1, m1, a1, a2, a3, a4⟩ := elems_go 1 (.inl rfl) (fun r l => { r with us := r.us ++ l }) (fun r => by simp) (fun r x l => by simp) withUv ofUv U9.nm (fun u => { U9.zero with nm := u.nm }) (fun r x => by show ({ r with us := r.us ++ [{ U9.zero with nm := toB x.nm.toList }] } : R9) = _; rw [list_toB]) lastU foldU
  r.us ⟨0, 0, R9.zero⟩ 1 rfl (by decide) (fun u hu => ⟨nu _ (List.mem_map_of_mem hu), fun f hf => goodU h hu hf⟩)
 obtain ⟨q2, m2, b1, b2, b3, b4⟩ := elems_go 2 (.inr (.inl rfl)) (fun r l => { r with ws := r.ws ++ l }) (fun r => by simp) (fun r x l => by simp) withWv ofWv W9.nm (fun u => { W9.zero with nm := u.nm }) (fun r x => by show ({ r with ws := r.ws ++ [{ W9.zero with nm := toB x.nm.toList }] } : R9) = _; rw [list_toB]) lastW foldW
  r.ws q1 m1 a3 (by omega) (fun u hu => ⟨nw _ (List.mem_map_of_mem hu), fun f hf => goodW h hu hf⟩)
 obtain ⟨q3, m3, c1, c2, c3, -⟩ := elems_go 3 (.inr (.inr rfl)) (fun r l => { r with ts := r.ts ++ l }) (fun r => by simp) (fun r x l => by simp) withTv ofTv T9.nm (fun u => { T9.zero with nm := u.nm }) (fun r x => by show ({ r with ts := r.ts ++ [{ T9.zero with nm := toB x.nm.toList }] } : R9) = _; rw [list_toB]) lastT foldT
  r.ts q2 m2 b3 (by omega) (fun u hu => ⟨nt _ (List.mem_map_of_mem hu), fun f hf => goodT h hu hf⟩)
 refine ⟨q3, m3, ?_, ?_, c3⟩
 · unfold rulesL
   rw [goP_app _ _ _ _ _ _ (by rw [goP_app _ _ _ _ _ _ a1]; exact b1)]
   exact c1
 · rw [c2, b2, a2]
   unfold R9.zero
   simp
end
section
open Go.RowKit Go.Lib
theorem parse_print10 {r : R9} (h : valv r = 0) : parsev10 (joinT (rulesL r)) = (r, 0, 0) := by
 obtain ⟨q, m, g1, g2, g3⟩ := rules_go h
 obtain ⟨l1, l2⟩ := lines_of_join (rulesL r) fun l hl => (rules_short h l hl).2
 have l1' : linesB (joinT (rulesL r)) = rulesL r := l1
 have l2' : tailB (joinT (rulesL r)) = [] := l2
 unfold parsev10
 rw [if_neg (by have := rules_len h; omega), l1', l2', g1]
 dsimp only
 rw [if_neg (by rw [g3]; simp), g2, if_pos h]
end
section
open Go.RowKit Go.Lib
abbrev RPrintP : Prop := ∀ (su sw st : Value) (r : R9) (t : ByteArray) (er : Int) (W : World), RAt W su sw st r → r.us.length ≤ 1000 → r.ws.length ≤ 1000 → r.ts.length ≤ 1000 → Hid (t = toB (printv10 r).1 ∧ er = (printv10 r).2) →
 Calls Tryz.prog 21 #[.agg #[su, sw, st]] W fun e w' => e = .returned (.tuple #[.string t, .int .i64 er]) ∧ Below W.heap.size W w'
end
section
open Go.RowKit Go.Lib
set_option maxHeartbeats 8000000 in
set_option maxRecDepth 100000 in
theorem r10word_b (k : Int) (W : World) (hk : k = 1 ∨ k = 2 ∨ k = 3) : Calls Tryz.prog 103 #[.int .i64 k] W fun e w' => e = .returned (.string (toB (wordK k))) ∧ W = w' := by
 rcases hk with rfl | rfl | rfl
 · go_enter Tryz.func103, Tryz.ntmps103
   go_wp2_with fail
   go_ret
   exact ⟨rfl, rfl⟩
 · go_enter Tryz.func103, Tryz.ntmps103
   go_wp2_with fail
   go_ret
   exact ⟨rfl, rfl⟩
 · go_enter Tryz.func103, Tryz.ntmps103
   go_wp2_with fail
   go_ret
   exact ⟨rfl, rfl⟩
end
section
open Go.RowKit Go.Lib
theorem line_cat (Y tl : List UInt8) (f : ByteArray) : toB Y ++ ((((ByteArray.mk #[32] ++ f) ++ ByteArray.mk #[32]) ++ toB tl) ++ ByteArray.mk #[10]) = toB (Y ++ ((32 :: (f.toList ++ 32 :: tl)) ++ [10])) := by
 apply ByteArray.ext
 apply Array.toList_inj.1
 simp [toB, ByteArray.data_append, Lib.toList_data]
set_option maxHeartbeats 8000000 in
set_option maxRecDepth 100000 in
theorem r10lines_b (su sw st : Value) (r : R9) (k : Int) (nm : ByteArray) (i : Nat) (V0 W : World) (hR : RAt V0 su sw st r) (h0 : Below V0.heap.size V0 W) (hI : IntsV r) (hS9 : ShortV 50000 r) (hk3 : k = 1 ∨ k = 2 ∨ k = 3) (hi : i < (namesK r k).length) (hnm : nm.size ≤ 50000) :
 Calls Tryz.prog 56 #[.agg #[su, sw, st], .int .i64 k, .string nm, .int .i64 i] W fun e w' => e = .returned (.string (toB (joinT (elemL k nm (valueK r k i))))) ∧ Below W.heap.size W w' := by
 have hR0 := hid hR
 obtain ⟨p, c, rfl, hm, -⟩ := hR.u
 obtain ⟨p1, c1, rfl, hm1, -⟩ := hR.w
 obtain ⟨p2, c2, rfl, hm2, -⟩ := hR.t
 have hB := Blk.new W [.slice p r.us.length c, .slice p1 r.ws.length c1, .slice p2 r.ts.length c2] 31
 have hL := (Below.refl W.heap.size W).alloc (Nat.le_refl _) (.cells [.slice p r.us.length c, .slice p1 r.ws.length c1, .slice p2 r.ts.length c2].toArray 31)
 clear hR hm hm1 hm2
 have hwl : (toB (wordK k)).size ≤ 6 := by rw [size_toB]; rcases hk3 with rfl | rfl | rfl <;> decide
 have hhd := hid (head_cat (wordK k) nm)
 go_enter Tryz.func56, Tryz.ntmps56
 go_upto_region 1 with fail
 generalize W.alloc (.cells [.slice p r.us.length c, .slice p1 r.ws.length c1, .slice p2 r.ts.length c2].toArray 31) = V at *
 go_wp2_with fail
 ((with_reducible refine (r10word_b k _ hk3).mono ?_); rintro e w1 ⟨rfl, rfl⟩)
 generalize toB (wordK k) = wd at *
 go_wp2_with fail
 ((with_reducible refine (r10fields_b k _).mono ?_); rintro e w2 ⟨v, rfl, hv, hb⟩)
 replace hB := hB.below hb
 replace hL := below_call hL hb
 clear hb
 have hstep := hid fun j (h : j < (fieldsv k).length) => lines_step (nm := nm) (val := valueK r k i) h
 have hty := hid fun (f : ByteArray) (q : f ∈ fieldsv k) => type_in q
 have hfs := hid fun (f : ByteArray) (q : f ∈ fieldsv k) => fields_short q
 have hval := hid fun (f : ByteArray) (q : f ∈ fieldsv k) (W1 : World) (h : Below V0.heap.size V0 W1) => r10value_b _ _ _ r k i f V0 W1 hR0.out h q hi
 have hint := hid fun (f : ByteArray) (q : f ∈ fieldsv k) => hI k i f q hi
 have hsho := hid fun (f : ByteArray) (q : f ∈ fieldsv k) => hS9 k i f q hi
 have hone : joinT ((elemL k nm (valueK r k i)).take (1 + 0)) = (wordK k ++ 32 :: nm.toList) ++ [10] := by rw [take_head, joinT_one]
 have hall := hid (show ∀ j, j = (fieldsv k).length → (elemL k nm (valueK r k i)).take (1 + j) = elemL k nm (valueK r k i) from fun j hj => take_full hj)
 have hlen : (fieldsv k).length ≤ 18 := by rcases hk3 with rfl | rfl | rfl <;> first | (rw [lenU]; decide) | (rw [lenW]; decide) | (rw [lenT]; decide)
 have hfl := hid (show ∀ f, fieldL k (valueK r k i) f = 32 :: (f.toList ++ 32 :: textL (typev k f) (valueK r k i f)) from fun f => rfl)
 generalize hEL : elemL k nm (valueK r k i) = EL at *
 replace hEL := hid hEL
 generalize hlk : fieldsv k = l at *
 obtain ⟨pl, cl, rfl, hml, hat⟩ := hv
 unfold maxLen at hml
 replace hlk := hid hlk
 go_wp2_with fail
 obtain ⟨y0, hy0⟩ : ∃ y0, ((wd ++ ByteArray.mk #[32]) ++ nm) ++ ByteArray.mk #[10] = y0 := ⟨_, rfl⟩
 have hY0 : y0 = toB (joinT (EL.take (1 + 0))) := by rw [hone, ← hy0]; exact hhd.out
 have hsz0 : y0.size ≤ 50100 := by rw [← hy0]; simp only [ByteArray.size_append]; show wd.size + 1 + nm.size + 1 ≤ 50100; omega
 rw [hy0]
 replace hY0 := hid hY0
 clear hy0 hhd hone hwl
 go_loopw [9, 11] (fun vs vi wr => ∃ (j : Nat) (y : ByteArray), vs = .string y ∧ vi = .int .i64 j ∧ j ≤ l.length ∧ y.size ≤ 50100 * (j + 1) ∧ Blk wr W.heap.size [.slice p r.us.length c, .slice p1 r.ws.length c1, .slice p2 r.ts.length c2] 31 ∧ Below W.heap.size W wr ∧ Below w2.heap.size w2 wr ∧ Hid (y = toB (joinT (EL.take (1 + j))))) (fun _ vi _ => l.length - (RowKit.intOf vi).toNat)
 case atStart => exact ⟨0, y0, rfl, rfl, by omega, by omega, hB, hL, Below.refl _ _, hY0⟩
 case round =>
  clear hB hL hY0
  obtain ⟨j, y, rfl, rfl, hj, hys, hB, hL, h2, hA⟩ := hrel
  by_cases hlt : j < l.length
  · have d1 : (j : Int) < l.length := by omega
    have d0 : (0 : Int) ≤ j := by omega
    obtain ⟨g, o, rfl, hc⟩ := hat (by omega)
    have k1 := (h2.cell (p := ⟨g, o + j, none⟩) (World.block_lt_of_cell? w2 _ (hc j hlt))).trans (hc j hlt)
    have hk := World.block_lt_of_cell? wr _ k1
    have hs1 := hstep.out j hlt
    have hmem : l[j]'hlt ∈ l := List.getElem_mem hlt
    obtain ⟨f, hf⟩ : ∃ f, l[j]'hlt = f := ⟨_, rfl⟩
    rw [hf] at k1 hs1 hmem
    obtain ⟨t, ht⟩ : ∃ t, Hid (t = typev k f) := ⟨_, hid rfl⟩
    have hfz := (hfs.out f hmem).1
    have hvl := hval.out f hmem
    have hin := hint.out f hmem
    have hsh := hsho.out f hmem
    rw [hfl.out] at hs1
    rw [← ht.out] at hs1 hsh
    generalize valueK r k i f = v at *
    replace hin := hid hin
    replace hs1 := hid hs1
    replace hvl := hid hvl
    have hfz2 : f.size ≤ 10 := by rw [← rt_size, ← Lib.toList_data]; exact hfz
    have htz : (toB (textL t v)).size ≤ 50000 := by rw [size_toB]; exact hsh
    obtain ⟨tx, htx⟩ : ∃ tx, toB (textL t v) = tx := ⟨_, rfl⟩
    rw [htx] at htz
    obtain ⟨x1, e1⟩ : ∃ x, x = ByteArray.mk #[32] ++ f := ⟨_, rfl⟩
    obtain ⟨x2, e2⟩ : ∃ x, x = x1 ++ ByteArray.mk #[32] := ⟨_, rfl⟩
    obtain ⟨x3, e3⟩ : ∃ x, x = x2 ++ tx := ⟨_, rfl⟩
    obtain ⟨x4, e4⟩ : ∃ x, x = x3 ++ ByteArray.mk #[10] := ⟨_, rfl⟩
    obtain ⟨x5, e5⟩ : ∃ x, x = y ++ x4 := ⟨_, rfl⟩
    have m1 := rt_cats e1 (show _ ≤ 1 from Nat.le_refl _) hfz2
    have m2 := rt_cats e2 m1 (show _ ≤ 1 from Nat.le_refl _)
    have m3 := rt_cats e3 m2 htz
    have m4 := rt_cats e4 m3 (show _ ≤ 1 from Nat.le_refl _)
    have m5 := rt_cats e5 hys m4
    have r1 := rt_cat (P := Tryz.prog) e1 (by show 1 + _ ≤ _; omega)
    have r2 := rt_cat (P := Tryz.prog) e2 (by show _ + 1 ≤ _; omega)
    have r3 := rt_cat (P := Tryz.prog) e3 (by omega)
    have r4 := rt_cat (P := Tryz.prog) e4 (by show _ + 1 ≤ _; omega)
    have r5 := rt_cat (P := Tryz.prog) e5 (by omega)
    have hx5 : x5 = toB (joinT (EL.take (1 + (j + 1)))) := by rw [hs1.out, ← line_cat, e5, e4, e3, e2, e1, htx, ← hA.out]
    replace hx5 := hid hx5
    have hTxt : Hid (∀ (vs : List Value) (W1 : World), VL V0 vs v → Below V0.heap.size V0 W1 → Calls Tryz.prog 31 #[.int .i64 t, .agg vs.toArray] W1 fun e w' => e = .returned (.string tx) ∧ Below W1.heap.size W1 w') := hid (fun vs W1 hv h => by rw [← htx]; exact r10text_b t v vs V0 W1 hv h (fun _ => int_bd hin.out) (by omega))
    clear htx
    clear e1 e2 e3 e4 e5 m1 m2 m3 m4 hA hs1 hf hc hat hmem hfz hfz2 htz
    have hV0 := h0.trans (hL.mono h0.size)
    go_upto_region 6 with fail
    have hmx : Tryz.prog.follows .mixedOrders = true := by kernel_rfl
    refine wp_region_held (S := fun w' => Below wr.heap.size wr w') hmx ?_
    show wpAnyH _ _ _ _ _ _ _ _ wr.drew
    have hS0 := (Below.refl wr.heap.size wr).drew
    refine reg_tk (i := 0) (v := .string y) (some 26) rfl (fun w' hS => by skip; go_simp) hS0 ?_
    simp only [Act.put, List.setIfInBounds_toArray, List.set_cons_zero, List.set_cons_succ]
    refine reg_tk (i := 1) (v := .slice (some ⟨g, o, none⟩) l.length cl) (some 27) rfl (fun w' hS => by skip; go_simp) hS0 ?_
    simp only [Act.put, List.setIfInBounds_toArray, List.set_cons_zero, List.set_cons_succ]
    refine reg_tk (i := 2) (v := .int .i64 j) (some 28) rfl (fun w' hS => by skip; go_simp) hS0 ?_
    simp only [Act.put, List.setIfInBounds_toArray, List.set_cons_zero, List.set_cons_succ]
    refine reg_tk (i := 3) (v := .pointer (some ⟨g, o + j, none⟩)) (some 29) rfl (fun w' hS => by skip; go_simp) hS0 ?_
    simp only [Act.put, List.setIfInBounds_toArray, List.set_cons_zero, List.set_cons_succ]
    refine reg_tk (i := 4) (v := .string f) (some 30) rfl (fun w' hS => by (have := (hS.cell (p := ⟨g, o + j, none⟩) hk).trans k1); go_simp) hS0 ?_
    simp only [Act.put, List.setIfInBounds_toArray, List.set_cons_zero, List.set_cons_succ]
    refine reg_tk (i := 5) (v := .string x1) (some 31) rfl (fun w' hS => by have r9 := r1 w'; go_simp) hS0 ?_
    simp only [Act.put, List.setIfInBounds_toArray, List.set_cons_zero, List.set_cons_succ]
    refine reg_tk (i := 6) (v := .string x2) (some 32) rfl (fun w' hS => by have r9 := r2 w'; go_simp) hS0 ?_
    simp only [Act.put, List.setIfInBounds_toArray, List.set_cons_zero, List.set_cons_succ]
    refine reg_tk (i := 7) (v := .int .i64 k) (some 33) rfl (fun w' hS => by skip; go_simp) hS0 ?_
    simp only [Act.put, List.setIfInBounds_toArray, List.set_cons_zero, List.set_cons_succ]
    refine reg_tk (i := 8) (v := .slice (some ⟨g, o, none⟩) l.length cl) (some 34) rfl (fun w' hS => by skip; go_simp) hS0 ?_
    simp only [Act.put, List.setIfInBounds_toArray, List.set_cons_zero, List.set_cons_succ]
    refine reg_tk (i := 9) (v := .int .i64 j) (some 35) rfl (fun w' hS => by skip; go_simp) hS0 ?_
    simp only [Act.put, List.setIfInBounds_toArray, List.set_cons_zero, List.set_cons_succ]
    refine reg_tk (i := 10) (v := .pointer (some ⟨g, o + j, none⟩)) (some 36) rfl (fun w' hS => by skip; go_simp) hS0 ?_
    simp only [Act.put, List.setIfInBounds_toArray, List.set_cons_zero, List.set_cons_succ]
    refine reg_tk (i := 11) (v := .string f) (some 37) rfl (fun w' hS => by (have := (hS.cell (p := ⟨g, o + j, none⟩) hk).trans k1); go_simp) hS0 ?_
    simp only [Act.put, List.setIfInBounds_toArray, List.set_cons_zero, List.set_cons_succ]
    refine reg_tk (i := 13) (v := .agg #[.slice p r.us.length c, .slice p1 r.ws.length c1, .slice p2 r.ts.length c2]) (some 39) rfl (fun w' hS => by (obtain ⟨_, _, _, _, _, _⟩ := (hB.below hS).three); go_simp) hS0 ?_
    simp only [Act.put, List.setIfInBounds_toArray, List.set_cons_zero, List.set_cons_succ]
    refine reg_tk (i := 14) (v := .int .i64 k) (some 40) rfl (fun w' hS => by skip; go_simp) hS0 ?_
    simp only [Act.put, List.setIfInBounds_toArray, List.set_cons_zero, List.set_cons_succ]
    refine reg_tk (i := 15) (v := .int .i64 i) (some 41) rfl (fun w' hS => by skip; go_simp) hS0 ?_
    simp only [Act.put, List.setIfInBounds_toArray, List.set_cons_zero, List.set_cons_succ]
    refine reg_tk (i := 16) (v := .slice (some ⟨g, o, none⟩) l.length cl) (some 42) rfl (fun w' hS => by skip; go_simp) hS0 ?_
    simp only [Act.put, List.setIfInBounds_toArray, List.set_cons_zero, List.set_cons_succ]
    refine reg_tk (i := 17) (v := .int .i64 j) (some 43) rfl (fun w' hS => by skip; go_simp) hS0 ?_
    simp only [Act.put, List.setIfInBounds_toArray, List.set_cons_zero, List.set_cons_succ]
    refine reg_tk (i := 18) (v := .pointer (some ⟨g, o + j, none⟩)) (some 44) rfl (fun w' hS => by skip; go_simp) hS0 ?_
    simp only [Act.put, List.setIfInBounds_toArray, List.set_cons_zero, List.set_cons_succ]
    refine reg_tk (i := 19) (v := .string f) (some 45) rfl (fun w' hS => by (have := (hS.cell (p := ⟨g, o + j, none⟩) hk).trans k1); go_simp) hS0 ?_
    simp only [Act.put, List.setIfInBounds_toArray, List.set_cons_zero, List.set_cons_succ]
    refine held_one (i := 12) (by kernel_rfl) rfl (fun K hQ => ?_)
    go_simp
    (with_reducible refine (r10type_b k f t _ ht).mono ?_)
    rintro e w3 ⟨rfl, hb⟩
    have hS1 := below_call hS0 hb
    clear hb
    refine hQ.out _ _ hS1 ?_
    clear hQ
    try simp only [Act.put, List.setIfInBounds_toArray, List.set_cons_zero, List.set_cons_succ]
    refine held_one (i := 20) (by kernel_rfl) rfl (fun K hQ => ?_)
    go_simp
    (with_reducible refine (hvl.out _ (hV0.trans (hS1.mono hV0.size))).mono ?_)
    rintro e w4 ⟨vs, rfl, hv, hb⟩
    have hS2 := below_call hS1 hb
    clear hb
    refine hQ.out _ _ hS2 ?_
    clear hQ
    try simp only [Act.put, List.setIfInBounds_toArray, List.set_cons_zero, List.set_cons_succ]
    refine held_one (i := 21) (by kernel_rfl) rfl (fun K hQ => ?_)
    go_simp
    (with_reducible refine (hTxt.out vs _ hv (hV0.trans (hS2.mono hV0.size))).mono ?_)
    rintro e w5 ⟨rfl, hb⟩
    have hS3 := below_call hS2 hb
    clear hb
    refine hQ.out _ _ hS3 ?_
    clear hQ
    try simp only [Act.put, List.setIfInBounds_toArray, List.set_cons_zero, List.set_cons_succ]
    refine reg_tk (i := 22) (v := .string x3) (some 48) rfl (fun w' hS => by have r9 := r3 w'; go_simp) hS3 ?_
    simp only [Act.put, List.setIfInBounds_toArray, List.set_cons_zero, List.set_cons_succ]
    refine reg_tk (i := 23) (v := .string x4) (some 49) rfl (fun w' hS => by have r9 := r4 w'; go_simp) hS3 ?_
    simp only [Act.put, List.setIfInBounds_toArray, List.set_cons_zero, List.set_cons_succ]
    refine reg_tk (i := 24) (v := .string x5) (some 50) rfl (fun w' hS => by have r9 := r5 w'; go_simp) hS3 ?_
    simp only [Act.put, List.setIfInBounds_toArray, List.set_cons_zero, List.set_cons_succ]
    refine reg_tk (i := 25) (v := .string x5) (some 9) rfl (fun w' hS => by skip; go_simp) hS3 ?_
    simp only [Act.put, List.setIfInBounds_toArray, List.set_cons_zero, List.set_cons_succ]
    refine wpAnyH_done (by kernel_rfl) ?_ _
    replace hB := hB.below hS3
    replace hL := below_call hL hS3
    replace h2 := below_call h2 hS3
    clear hS0 hS1 hS2 hS3 r1 r2 r3 r4 r5 k1 hk
    go_wp2_with fail
    go_roundw
    case rel => exact ⟨j + 1, x5, rfl, by go_num, by omega, by omega, hB, hL, h2, hx5⟩
    case measure => simp [RowKit.intOf]; omega
  · obtain rfl : j = l.length := by omega
    have d1 : ¬ (l.length : Int) < l.length := by omega
    have hT : y = toB (joinT EL) := by rw [hA.out, hall.out _ rfl]
    replace hT := hid hT
    clear hA hat
    go_wp2_with fail
    go_ret
    exact ⟨by rw [hEL.out]; exact congrArg (fun z => Ending.returned (.string z)) hT.out, hL⟩
end

end Go.Proofs.YtnjcdmjaecgblaaGreatDoor
