/- A region whose order is open, walked once in the order of the text: in a class of worlds that every call of it keeps (the library's own law, at a class of one's own). Nothing of the program. -/
import Derived.Test.YtfhhkmjjifbfeaaGreatDoorRows
import Derived.WalkKit
import Derived.BigQuiet
import Derived.Deep.QuietTactic
namespace Go.Proofs.YtfhhkmjjifbfeaaGreatDoor
open Go.RowKit

theorem wp_region_class {P : Program} {id : Nat} {Q : Exit → Act → World → Prop} {a : Act} {w : World} {l : List Oper} (C : World → Prop) (hm : P.follows .mixedOrders = true) (hB : Region.lexB .any l.toArray = true) (hC : C w.drew)
    (h : wpQuiet P l.toArray C (fun a' => ∀ w', C w' → Q .normal a' w') l a) : (Code.region id l.toArray true).wp P Q a w :=
  wp_region_quiet (C := C) hm hB hC (by simpa using h)
/-- What a callee left as it was, behind what others left as it was. -/
theorem below_via {B : Nat} {W W' W'' : World} (hB : B ≤ W.heap.size) (h : Below B W W') (hb : Below W'.heap.size W' W'') : Below B W W'' := h.trans (hb.mono (by have := h.size; omega))
end Go.Proofs.YtfhhkmjjifbfeaaGreatDoor
