/- Contracts of texts in quotes (package quote): Read, Whole. -/
import Derived.Test.YtkihlnomchhiiaaQt3
namespace Go.Proofs.Ytkihlnomchhiiaa
open Go.ChangeShapes Go.WideShapes Go.ChangeAt Go.RowKit
set_option linter.unusedSimpArgs false
set_option linter.unusedVariables false

/-- A row of bytes that the call made itself, or none: what it is as a text. -/
theorem own_form {w : World} {base : Nat} {v : Value} {n : Nat} {out : List UInt8} (h : w.ownsRow base 5 1 v n (cu out)) : out.length = n ∧ ((v = .slice none 0 0 ∧ out = []) ∨ ∃ g cap, v = .slice (some ⟨g, 0, none⟩) n cap ∧ base ≤ g ∧ Rw w g cap (cu out) 5) := by
  have hl : out.length = n := by have := h.1; rw [cu_length] at this; omega
  refine ⟨hl, ?_⟩
  by_cases hv : v = .slice none 0 0
  · left
    refine ⟨hv, ?_⟩
    rcases h.2 with ⟨h1, h2⟩ | ⟨g, cap, cur, h1, _⟩
    · exact List.eq_nil_of_length_eq_zero (by omega)
    · rw [hv] at h1; cases h1
  · right
    obtain ⟨g, cap, h1, h2, h3, _⟩ := Rw.of_own h hv
    exact ⟨g, cap, h1, h2, h3⟩
theorem conv_nil (W : World) : (convert 47 9 (.slice none 0 0)).run Try.prog W = .ok (.string ⟨#[]⟩) W := by kernel_rfl
theorem conv_own {W : World} {base : Nat} {v : Value} {n : Nat} {t : ByteArray} (h : W.ownsRow base 5 1 v n (cu t.data.toList)) : (convert 47 9 v).run Try.prog W = .ok (.string t) W := by
  obtain ⟨hl, ⟨rfl, h2⟩ | ⟨g, cap, rfl, _, h3⟩⟩ := own_form h
  · rw [conv_nil]
    have : (⟨#[]⟩ : ByteArray) = t := text_ext (by rw [h2])
    rw [this]
  · exact conv_rw W g n cap t h3 (by rw [← hl]; simp)
theorem ret_rd {t u : ByteArray} {a b c d : Int} (h1 : t = u) (h2 : a = b) (h3 : c = d) : Ending.returned (.tuple #[.string t, .int .i64 a, .int .i64 c]) = .returned (.tuple #[.string u, .int .i64 b, .int .i64 d]) := by rw [h1, h2, h3]
theorem ne_empty (s : ByteArray) (h : 0 < s.size) : s.toList.isEmpty = false := by
  rw [Lib.toList_data, list_of s h]; rfl
theorem ret_wh {t u : ByteArray} {a b : Int} (h1 : t = u) (h2 : a = b) : Ending.returned (.tuple #[.string t, .int .i64 a]) = .returned (.tuple #[.string u, .int .i64 b]) := by rw [h1, h2]
end Go.Proofs.Ytkihlnomchhiiaa
