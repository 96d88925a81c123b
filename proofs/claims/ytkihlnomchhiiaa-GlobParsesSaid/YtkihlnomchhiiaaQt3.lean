/- Contracts of texts in quotes (package quote): Quote, Read, Whole. -/
import Derived.Test.YtkihlnomchhiiaaQt2
import Derived.Deep.CutRange
import Derived.Deep.CutBlock
namespace Go.Proofs.Ytkihlnomchhiiaa
open Go.ChangeShapes Go.WideShapes Go.ChangeAt Go.RowKit
set_option linter.unusedSimpArgs false
set_option linter.unusedVariables false

theorem text_mk (l : List UInt8) : ∃ t : ByteArray, t.data.toList = l := ⟨⟨l.toArray⟩, by simp⟩
theorem Rw.fresh {w w' : World} {g cap : Nat} {L : List Value} {T : TypeId} (h : Rw w g cap L T) (k : Below w.heap.size w w') : Rw w' g cap L T := h.chg (Chg.of_fresh (l := []) k) (by simp)
end Go.Proofs.Ytkihlnomchhiiaa
