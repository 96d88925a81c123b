/- The document's own answers of layer 2: sign, Quote, value. -/
import Derived.Test.YtfhhkmjjifbfeaaDoorQt4
namespace Go.Proofs.YtfhhkmjjifbfeaaDoor
open Go.ChangeShapes Go.WideShapes Go.ChangeAt Go.RowKit
set_option linter.unusedSimpArgs false
set_option linter.unusedVariables false

theorem ret_str {a b : ByteArray} (h : a = b) : Ending.returned (.string a) = .returned (.string b) := by rw [h]
theorem hex_ext (m : Int) (h0 : 0 ≤ m) (h1 : m < 16) : (ByteArray.extract { data := #[48, 49, 50, 51, 52, 53, 54, 55, 56, 57, 97, 98, 99, 100, 101, 102] } m.toNat (m + 1).toNat).data.toList = [Qt.hexd m.toNat] := by
  have h : ∀ k : Fin 16, (ByteArray.extract { data := #[48, 49, 50, 51, 52, 53, 54, 55, 56, 57, 97, 98, 99, 100, 101, 102] } k.val (k.val + 1)).data.toList = [Qt.hexd k.val] := by decide +kernel
  have := h ⟨m.toNat, by omega⟩
  have e : (m + 1).toNat = m.toNat + 1 := by omega
  rw [e]; exact this
theorem hexd_nat (k : Nat) (h1 : k < 16) (hb : k < ByteArray.size { data := #[48, 49, 50, 51, 52, 53, 54, 55, 56, 57, 97, 98, 99, 100, 101, 102] }) :
    ({ data := #[48, 49, 50, 51, 52, 53, 54, 55, 56, 57, 97, 98, 99, 100, 101, 102] } : ByteArray)[k]'hb = Qt.hexd k := hexd_at k (by omega) (by omega) hb
theorem val_hexd (k : Nat) (h : k < 16) : Qt.val (Qt.hexd k) = some k := by
  have h' : ∀ m : Fin 16, Qt.val (Qt.hexd m.val) = some m.val := by decide
  exact h' ⟨k, h⟩
end Go.Proofs.YtfhhkmjjifbfeaaDoor
