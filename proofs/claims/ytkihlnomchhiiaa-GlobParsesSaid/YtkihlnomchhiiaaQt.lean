/- Contracts of texts in quotes (package quote): the sign of a byte, and the byte of a sign. -/
import Derived.Test.YtkihlnomchhiiaaRows
import Derived.Test.YtkihlnomchhiiaaQtMath
import Derived.Test.YtkihlnomchhiiaaBytes
import Derived.WalkKit
import Derived.ProofKit
import Derived.OpenShut
import Derived.Handy
import Derived.WalkLawsBesides
import Derived.WalkSpells
import Derived.Lib.Hide
import Derived.RegionTactic
import Derived.ChangeAlike
import Derived.WalkSmall
import Derived.Deep.QuietTactic
import Derived.BigQuiet
import Derived.OwnWalk
import Derived.Outline
import Derived.Lib.AppendStr
import Derived.Lib.SlBytesRow
namespace Go.Proofs.Ytkihlnomchhiiaa
open Go.ChangeShapes Go.WideShapes Go.ChangeAt Go.RowKit
set_option linter.unusedSimpArgs false
set_option linter.unusedVariables false

theorem text_ext {s t : ByteArray} (h : s.data.toList = t.data.toList) : s = t := by
  cases s; cases t; congr; exact Array.toList_inj.1 h
theorem u8_lt (c : UInt8) : (c.toNat : Int) ≤ 255 := by have := c.toNat_lt; omega
theorem u8_eq {c d : UInt8} (h : (c.toNat : Int) = d.toNat) : c = d := by
  apply UInt8.toNat_inj.1; omega
theorem conv_blk (W : World) (g k cap : Nat) (t : ByteArray) (T : TypeId) (rest : List Value) (h : Blk W g (bv t ++ rest) T) (hk : t.size = k) :
    (convert 47 9 (.slice (some ⟨g, 0, none⟩) k cap)).run Try.prog W = .ok (.string t) W := by
  have hb : Lib.Bytes W g 0 t := fun i hi => by
    rw [Nat.zero_add]
    exact h.cell (by rw [List.getElem?_append_left (by rw [bv_length]; exact hi)]; exact bv_at t i hi)
  have := Lib.run_convert_window (P := Try.prog) W 47 5 9 Try.underlying47 Try.underlying5 Try.underlying9 g 0 t hb 0 k cap (by omega)
  subst hk
  have e : t.extract 0 (0 + t.size) = t := by rw [Nat.zero_add]; exact ByteArray.extract_zero_size
  rw [e, Nat.zero_add] at this
  exact this
theorem bv_of {t : ByteArray} {l : List UInt8} (h : t.data.toList = l) : bv t = l.map fun b => Value.int .u8 (b.toNat : Int) := by
  unfold bv; rw [h]; rfl
theorem size_of {t : ByteArray} {l : List UInt8} (h : t.data.toList = l) : t.size = l.length := by
  rw [← h]; simp
theorem bits_and15 (n : Int) (h0 : 0 ≤ n) (h1 : n ≤ 255) : bits BinOp.and IntKind.u8 n 15 = n % 16 := by
  have h : ∀ m : Fin 256, bits BinOp.and IntKind.u8 (m.val : Int) 15 = (m.val : Int) % 16 := by decide +kernel
  have := h ⟨n.toNat, by omega⟩
  simpa [Int.toNat_of_nonneg h0] using this
/-- The digits to the base 16. -/
theorem hexd_at (m : Int) (h0 : 0 ≤ m) (h1 : m < 16) (hb : m.toNat < ByteArray.size { data := #[48, 49, 50, 51, 52, 53, 54, 55, 56, 57, 97, 98, 99, 100, 101, 102] }) :
    ({ data := #[48, 49, 50, 51, 52, 53, 54, 55, 56, 57, 97, 98, 99, 100, 101, 102] } : ByteArray)[m.toNat]'hb = Qt.hexd m.toNat := by
  have h : ∀ k : Fin 16, ({ data := #[48, 49, 50, 51, 52, 53, 54, 55, 56, 57, 97, 98, 99, 100, 101, 102] } : ByteArray)[k.val]'(k.isLt) = Qt.hexd k.val := by decide +kernel
  exact h ⟨m.toNat, by omega⟩
theorem ret_cb {a b : Int} (h : a = b) : Ending.returned (.tuple #[.int .u8 a, .bool true]) = .returned (.tuple #[.int .u8 b, .bool true]) := by rw [h]
theorem drop_cons (s : ByteArray) (i : Nat) (h : i < s.size) : s.data.toList.drop i = s[i] :: s.data.toList.drop (i + 1) := by
  rw [List.drop_eq_getElem_cons (by simpa using h)]; rfl
theorem drop_end (s : ByteArray) (i : Nat) (h : s.size ≤ i) : s.data.toList.drop i = [] := List.drop_of_length_le (by simpa using h)
theorem bits_or0 (x : Nat) (h : x ≤ 15) : bits BinOp.or IntKind.u8 0 (x : Int) = x := by
  have h' : ∀ m : Fin 16, bits BinOp.or IntKind.u8 0 (m.val : Int) = (m.val : Int) := by decide +kernel
  exact h' ⟨x, by omega⟩
theorem bits_or16 (x y : Nat) (h : x ≤ 15) (k : y ≤ 15) : bits BinOp.or IntKind.u8 ((x : Int) * 16) (y : Int) = 16 * (x : Int) + y := by
  have h' : ∀ m n : Fin 16, bits BinOp.or IntKind.u8 ((m.val : Int) * 16) (n.val : Int) = 16 * (m.val : Int) + n.val := by decide +kernel
  exact h' ⟨x, by omega⟩ ⟨y, by omega⟩
theorem val_le {c : UInt8} {x : Nat} (h : Qt.val c = some x) : x ≤ 15 := by
  unfold Qt.val at h
  split at h
  · have := Option.some.inj h; omega
  · split at h
    · have := Option.some.inj h; omega
    · cases h
end Go.Proofs.Ytkihlnomchhiiaa
