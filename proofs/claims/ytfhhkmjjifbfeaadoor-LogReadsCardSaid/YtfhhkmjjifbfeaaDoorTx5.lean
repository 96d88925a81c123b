/- Ticks as texts: the document's Digits. -/
import Derived.Test.YtfhhkmjjifbfeaaDoorTx2
namespace Go.Proofs.YtfhhkmjjifbfeaaDoor
open Go.ChangeShapes Go.WideShapes Go.ChangeAt Go.RowKit
set_option linter.unusedSimpArgs false
set_option linter.unusedVariables false
theorem Tx.digit_at (r : Nat) (h : r < 10) : (({ data := #[48, 49, 50, 51, 52, 53, 54, 55, 56, 57] } : ByteArray).extract r (r + 1)).data.toList = [UInt8.ofNat (48 + r)] := by
  have : ∀ k : Fin 10, (({ data := #[48, 49, 50, 51, 52, 53, 54, 55, 56, 57] } : ByteArray).extract k.val (k.val + 1)).data.toList = [UInt8.ofNat (48 + k.val)] := by decide +kernel
  exact this ⟨r, h⟩
theorem Tx.size_of {s : ByteArray} {l : List UInt8} (h : s.data.toList = l) : s.size = l.length := by
  rw [← h]; simp
end Go.Proofs.YtfhhkmjjifbfeaaDoor
