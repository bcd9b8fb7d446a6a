/-
  What all functions of rng answer, gathered (the code landed at 9de9debe).
-/
import Derived.Test.YtcflfkdamhkfdaaRngDevB
namespace Go.Proofs.Ytcflfkdamhkfdaa
open Go.RowKit Go.Lib

theorem same_below {e a : Ending} {w w' : World} (h : e = a ∧ w = w') : e = a ∧ Below w.heap.size w w' := ⟨h.1, h.2 ▸ Below.refl _ _⟩
theorem have_rng : RngHave where
  seed := fun s h w hs hh => (gseed_n s h w hs hh).mono fun _ _ => same_below
  split := fun s z h v w _ hz hh hv => (gsplit_n s z h v w hz hh hv).mono fun _ _ => same_below
  next := fun s v t w _ h => (gnext_n s v t w h).mono fun _ _ => same_below
  low := fun s n w _ h _ => (gbelow_low s n w h).mono fun _ _ => same_below
  below := fun s n a t w hs h0 h1 h => (gbelow_n s n a t w hs h0 h1 h).mono fun _ _ => same_below
  shufLow := fun s n w _ h _ => (gshuffle_low s n w h).mono fun _ _ ⟨he, hw⟩ => ⟨_, he, World.ownsRow_nil _ _ _ _, hw ▸ Below.refl _ _⟩
  shufHigh := fun s n w _ h _ => (gshuffle_high s n w h).mono fun _ _ ⟨he, hw⟩ => ⟨_, he, World.ownsRow_nil _ _ _ _, hw ▸ Below.refl _ _⟩
  shuffle := gshuffle_n

end Go.Proofs.Ytcflfkdamhkfdaa
