/- Small facts on regions whose order is open: what is held may be strengthened on the way; nothing of the program is proved here. -/
import Derived.Test.YtkoakingmnjdoaaGreatDoorGfScalesL
import Derived.Deep.RegionHeld3
namespace Go.Proofs.YtkoakingmnjdoaaGreatDoor
open Go.RowKit Gf
set_option maxRecDepth 20000
theorem wpAnyH_mono {P : Program} {md : Region.Mode} {ops : Array Oper} {Q : Exit → Act → World → Prop} {S S' : World → Prop} (hS : ∀ w, S' w → S w) :
    ∀ (fuel : Nat) (listed : Array Bool) (a : Act) (w : World), wpAnyH P md ops Q S' fuel listed a w → wpAnyH P md ops Q S fuel listed a w
  | 0, _, _, _, h => h
  | fuel + 1, _, _, _, h => ⟨h.1, fun i hi => wpOp_mono (fun a' w' h' => ⟨hS _ h'.1, wpAnyH_mono hS fuel _ a' w' h'.2⟩) (h.2 i hi)⟩
/-- from here on the world at hand is the base -/
theorem wpAnyH_here {P : Program} {md : Region.Mode} {ops : Array Oper} {Q : Exit → Act → World → Prop} {w0 : World} {fuel : Nat} {listed : Array Bool} {a : Act} {w : World} (h : Below w0.heap.size w0 w)
    (hk : wpAnyH P md ops Q (fun u => Below w.heap.size w u) fuel listed a w) : wpAnyH P md ops Q (fun u => Below w0.heap.size w0 u) fuel listed a w :=
  wpAnyH_mono (fun _ hu => len_next h hu) fuel listed a w hk
theorem fact_next {w w1 : World} {p : World → Prop} (h : ∀ w', Below w.heap.size w w' → p w') (hb : Below w.heap.size w w1) : ∀ w', Below w1.heap.size w1 w' → p w' := fun w' hb' => h w' (len_next hb hb')
end Go.Proofs.YtkoakingmnjdoaaGreatDoor
