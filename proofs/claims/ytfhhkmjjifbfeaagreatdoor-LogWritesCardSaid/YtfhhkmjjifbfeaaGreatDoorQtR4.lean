/- What layer 2's statements need besides: cuts of so many bytes; how long a text is that is read. -/
import Derived.Test.YtfhhkmjjifbfeaaGreatDoorQtR3
namespace Go.Proofs.YtfhhkmjjifbfeaaGreatDoor
open Go.ChangeShapes Go.WideShapes Go.ChangeAt Go.RowKit
set_option linter.unusedSimpArgs false
set_option linter.unusedVariables false

theorem cut_60 (s t : ByteArray) (hs : s.size ≤ maxLen) (ht : cutT s 60 = t) (w : World) :
    Calls Tryz.prog 6 #[.string s, .int .i64 60] w fun e w' => e = .returned (.string t) ∧ w = w' := cut_any s t 60 (by decide) hs ht w
theorem cut_80 (s t : ByteArray) (hs : s.size ≤ maxLen) (ht : cutT s 80 = t) (w : World) :
    Calls Tryz.prog 6 #[.string s, .int .i64 80] w fun e w' => e = .returned (.string t) ∧ w = w' := cut_any s t 80 (by decide) hs ht w
theorem cut_10 (s t : ByteArray) (hs : s.size ≤ maxLen) (ht : cutT s 10 = t) (w : World) :
    Calls Tryz.prog 6 #[.string s, .int .i64 10] w fun e w' => e = .returned (.string t) ∧ w = w' := cut_any s t 10 (by decide) hs ht w
theorem cut_20 (s t : ByteArray) (hs : s.size ≤ maxLen) (ht : cutT s 20 = t) (w : World) :
    Calls Tryz.prog 6 #[.string s, .int .i64 20] w fun e w' => e = .returned (.string t) ∧ w = w' := cut_any s t 20 (by decide) hs ht w
theorem rd_len : ∀ (f : Nat) (l : List UInt8) (n : Nat) (out : List UInt8), (Qt.rd f l n out).1.length ≤ out.length + l.length
  | 0, l, n, out => by simp [Qt.rd]
  | f + 1, l, n, out => by
    rw [Qt.rd]
    by_cases h1 : l.head? = some 34
    · rw [if_pos h1]; simp
    · rw [if_neg h1]
      by_cases h2 : (Qt.one l).2.2 = true
      · rw [if_pos h2]
        have h3 := (Qt.one_le l).2 h2
        have h4 := (Qt.one_le l).1
        have ih := rd_len f (l.drop (Qt.one l).2.1) (n + (Qt.one l).2.1) (out ++ [(Qt.one l).1])
        rw [List.length_append, List.length_drop] at ih
        simp only [List.length_cons, List.length_nil] at ih
        omega
      · rw [if_neg h2]; simp
theorem read_len (l : List UInt8) : (Qt.read l).1.length ≤ l.length := by
  unfold Qt.read
  split
  · simp
  · split
    · have := rd_len (List.length ‹List UInt8› + 1) ‹List UInt8› 1 []
      simp at this
      simp; omega
    · simp
theorem read_mk (s : ByteArray) : ∃ (t : ByteArray) (n : Nat) (e : Int), Qt.read s.data.toList = (t.data.toList, n, e) := by
  obtain ⟨t, ht⟩ := text_mk (Qt.read s.data.toList).1
  exact ⟨t, _, _, by rw [ht]⟩
theorem whole_mk (s : ByteArray) : ∃ (t : ByteArray) (e : Int), Qt.whole s.data.toList = (t.data.toList, e) := by
  obtain ⟨t, ht⟩ := text_mk (Qt.whole s.data.toList).1
  exact ⟨t, _, by rw [ht]⟩
theorem len_tx (s : ByteArray) : s.data.toList.length = s.size := by simp
theorem take_ext (s u : ByteArray) (n : Nat) (h : s.extract 0 n = u) : u.data.toList = s.data.toList.take n := by
  rw [← h, ByteArray.data_extract, Array.toList_extract, List.extract_eq_take_drop]; simp
end Go.Proofs.YtfhhkmjjifbfeaaGreatDoor
