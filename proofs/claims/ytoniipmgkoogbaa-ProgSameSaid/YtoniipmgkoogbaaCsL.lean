/- A set is read, and printed: the small literal of layer 6; a text that is cut. -/
import Derived.Test.YtoniipmgkoogbaaCsRA
namespace Go.Proofs.Ytoniipmgkoogbaa
open Go.ChangeShapes Go.WideShapes Go.ChangeAt Go.RowKit
set_option linter.unusedSimpArgs false
set_option linter.unusedVariables false

def cutT (s : ByteArray) (m : Nat) : ByteArray := if m < s.size then s.extract 0 m else s
theorem cutT_le (s : ByteArray) (m : Nat) : (cutT s m).size ≤ m := by
  unfold cutT
  split
  · rw [ByteArray.size_extract]; omega
  · omega
theorem cut_any (s t : ByteArray) (m : Nat) (hm : m ≤ 1000) (hs : s.size ≤ maxLen) (ht : cutT s m = t) (w : World) :
    Calls Try.prog 20 #[.string s, .int .i64 m] w fun e w' => e = .returned (.string t) ∧ w = w' := by
  unfold maxLen at hs
  unfold cutT at ht
  by_cases h : m < s.size
  · rw [if_pos h] at ht
    have i1 : (m : Int) < (s.size : Int) := by omega
    go_enter Try.func20, Try.ntmps20
    go_wp2
    go_ret
    exact ⟨rfl, rfl⟩
  · rw [if_neg h] at ht
    subst ht
    have i1 : ¬ (m : Int) < (s.size : Int) := by omega
    go_enter Try.func20, Try.ntmps20
    go_wp2
    go_ret
    exact ⟨rfl, rfl⟩
theorem cut_40 (s t : ByteArray) (hs : s.size ≤ maxLen) (ht : cutT s 40 = t) (w : World) :
    Calls Try.prog 20 #[.string s, .int .i64 40] w fun e w' => e = .returned (.string t) ∧ w = w' := cut_any s t 40 (by decide) hs ht w
theorem cut_10 (s t : ByteArray) (hs : s.size ≤ maxLen) (ht : cutT s 10 = t) (w : World) :
    Calls Try.prog 20 #[.string s, .int .i64 10] w fun e w' => e = .returned (.string t) ∧ w = w' := cut_any s t 10 (by decide) hs ht w
theorem lives_set : Cs.memT (Cs.setP [(97, some 99), (93, none)]) 256 = [93, 97, 98, 99] := by decide +kernel
theorem lives_prt : Cs.prt (Cs.ofL [120, 99, 98, 97]) = [91, 97, 45, 99, 120, 93] := by decide +kernel
theorem lives_read (F : BitVec 256) (hF : Cs.setP [(97, some 99), (93, none)] = F) (w : World) :
    Calls Try.prog 40 #[.string ({ data := #[91, 97, 45, 99, 37, 93, 93, 120] } : ByteArray)] w fun e w' => e = .returned (.tuple #[Cs.sv F, .int .i64 7, .int .i64 0]) ∧ Below w.heap.size w w' :=
  cs_read_plain ({ data := #[91, 97, 45, 99, 37, 93, 93, 120] } : ByteArray) [(97, some 99), (93, none)] [120] (by decide) (by decide) (by intro p hp d hd; simp at hp; rcases hp with rfl | rfl <;> simp at hd; subst hd; decide) (by simp) F hF w
end Go.Proofs.Ytoniipmgkoogbaa
