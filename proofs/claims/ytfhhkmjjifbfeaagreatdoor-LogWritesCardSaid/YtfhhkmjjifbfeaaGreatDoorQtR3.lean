/- The document's own answers of layer 2: Read, Whole; and layer 2's own check and cut. -/
import Derived.Test.YtfhhkmjjifbfeaaGreatDoorQtR2
namespace Go.Proofs.YtfhhkmjjifbfeaaGreatDoor
open Go.ChangeShapes Go.WideShapes Go.ChangeAt Go.RowKit
set_option linter.unusedSimpArgs false
set_option linter.unusedVariables false

/-- A text, cut. -/
def cutT (s : ByteArray) (m : Nat) : ByteArray := if m < s.size then s.extract 0 m else s
theorem cutT_le (s : ByteArray) (m : Nat) : (cutT s m).size ≤ m := by
  unfold cutT
  split
  · rw [ByteArray.size_extract]; omega
  · omega
theorem cut_any (s t : ByteArray) (m : Nat) (hm : m ≤ 1000) (hs : s.size ≤ maxLen) (ht : cutT s m = t) (w : World) :
    Calls Tryz.prog 6 #[.string s, .int .i64 m] w fun e w' => e = .returned (.string t) ∧ w = w' := by
  unfold maxLen at hs
  unfold cutT at ht
  by_cases h : m < s.size
  · rw [if_pos h] at ht
    have i1 : (m : Int) < (s.size : Int) := by omega
    go_enter Tryz.func6, Tryz.ntmps6
    go_wp2
    go_ret
    exact ⟨rfl, rfl⟩
  · rw [if_neg h] at ht
    subst ht
    have i1 : ¬ (m : Int) < (s.size : Int) := by omega
    go_enter Tryz.func6, Tryz.ntmps6
    go_wp2
    go_ret
    exact ⟨rfl, rfl⟩
end Go.Proofs.YtfhhkmjjifbfeaaGreatDoor
