/- The document's own answers of layer 2: the byte of a sign. -/
import Derived.Test.YtfhhkmjjifbfeaaGreatDoorQtR
namespace Go.Proofs.YtfhhkmjjifbfeaaGreatDoor
open Go.ChangeShapes Go.WideShapes Go.ChangeAt Go.RowKit
set_option linter.unusedSimpArgs false
set_option linter.unusedVariables false

theorem ret_ub {a b : Int} (h : a = b) : Ending.returned (.tuple #[.int .u8 a, .int .i64 2, .bool true]) = .returned (.tuple #[.int .u8 b, .int .i64 2, .bool true]) := by rw [h]
theorem qr_sign_nat (k : Nat) (hk : k < 256) (t : ByteArray) (ht : t.data.toList = Qt.sgn (UInt8.ofNat k)) (w : World) :
    Calls Tryz.prog 50 #[.int .u8 (k : Int)] w fun e w' => e = .returned (.string t) ∧ Below w.heap.size w w' := by
  have e : ((UInt8.ofNat k).toNat : Int) = k := by rw [UInt8.toNat_ofNat']; omega
  have := qr_sign_any (UInt8.ofNat k) t ht w
  rwa [e] at this
/-- Which signs are two bytes long and begin with a stroke. -/
theorem sgn_two : ∀ b : UInt8, ∀ d : UInt8, Qt.sgn b = [92, d] ↔ Qt.esc d = some b := by
  have h1 : ∀ b : Fin 256, (match Qt.sgn (UInt8.ofNat b.val) with | [92, d] => decide (Qt.esc d = some (UInt8.ofNat b.val)) | _ => true) = true := by decide +kernel
  have h2 : ∀ d : Fin 256, (match Qt.esc (UInt8.ofNat d.val) with | some b => decide (Qt.sgn b = [92, UInt8.ofNat d.val]) | none => true) = true := by decide +kernel
  intro b d
  constructor
  · intro h
    have k := h1 ⟨b.toNat, b.toNat_lt⟩
    simp only [UInt8.ofNat_toNat] at k
    rw [h] at k
    simpa using k
  · intro h
    have k := h2 ⟨d.toNat, d.toNat_lt⟩
    simp only [UInt8.ofNat_toNat] at k
    rw [h] at k
    simpa using k
theorem one_ext {s u : ByteArray} (h1 : 1 < s.size) (hu : s.extract 0 2 = u) : u.data.toList = [s[0], s[1]] := by
  rw [← hu, ByteArray.data_extract, Array.toList_extract, List.extract_eq_take_drop]
  rw [list_of s (by omega), drop_cons s 1 h1]
  rfl
theorem two_cases (t u : ByteArray) (d : UInt8) (h0 : 0 < t.size) (hne : t.data.toList ≠ [(92 : UInt8), d]) (hu : u.data.toList = [(92 : UInt8), d]) :
    Hid (((t[0].toNat : Int) == 92) = false ∨ (t[0].toNat : Int) = 92 ∧ ((t.size : Int) == 2) = false ∨ (t[0].toNat : Int) = 92 ∧ t.size = 2 ∧ (t.toList == u.toList) = false) := Lib.hid (by
  by_cases g1 : (t[0].toNat : Int) = 92
  · by_cases g2 : t.size = 2
    · refine Or.inr (Or.inr ⟨g1, g2, ?_⟩)
      rw [beq_eq_false_iff_ne, Lib.toList_data, Lib.toList_data, hu]
      exact hne
    · refine Or.inr (Or.inl ⟨g1, ?_⟩)
      rw [beq_eq_false_iff_ne]; omega
  · left; rw [beq_eq_false_iff_ne]; exact g1)
end Go.Proofs.YtfhhkmjjifbfeaaGreatDoor
