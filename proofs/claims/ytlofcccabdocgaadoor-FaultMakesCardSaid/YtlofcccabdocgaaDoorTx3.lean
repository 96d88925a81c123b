/- Ticks as texts: count. -/
import Derived.Test.YtlofcccabdocgaaDoorTx2
import Derived.Test.YtlofcccabdocgaaDoorClass
namespace Go.Proofs.YtlofcccabdocgaaDoor
open Go.ChangeShapes Go.WideShapes Go.ChangeAt Go.RowKit
set_option linter.unusedSimpArgs false
set_option linter.unusedVariables false
theorem Tx.count_step (n d : Nat) (hn : n < 9223372036854775807) (hd : d ≤ 9) : Tk.add (Tk.times n 10) d = if 10 * n + d < 9223372036854775807 then ((10 * n + d : Nat) : Int) else 9223372036854775807 := by
  unfold Tk.add Tk.times Tk.sat Tk.own
  split <;> omega
end Go.Proofs.YtlofcccabdocgaaDoor
