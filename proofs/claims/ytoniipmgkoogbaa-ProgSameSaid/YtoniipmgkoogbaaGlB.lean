/- Several texts in one. -/
import Derived.Test.YtoniipmgkoogbaaGl8
/- Items anywhere; the items of a list that are taken. -/
namespace Go.Proofs.Ytoniipmgkoogbaa
open Go.ChangeShapes Go.WideShapes Go.ChangeAt Go.RowKit
set_option linter.unusedSimpArgs false
set_option linter.unusedVariables false

/-- Items by value: none, or anywhere in a block. -/
def IA (w : World) (a : Option Addr) (l : List (Bool × BitVec 256)) : Prop := l = [] ∨ ∃ g o, a = some ⟨g, o, none⟩ ∧ g < w.heap.size ∧ ∀ (i : Nat) (v : Value), (its l)[i]? = some v → w.cell? ⟨g, o + i, none⟩ = some v
theorem LI.any {w : World} {a : Option Addr} {l : List (Bool × BitVec 256)} (h : LI w a l) : IA w a l := by
  rcases h with h | ⟨g, h1, h2, h3⟩
  · exact Or.inl h
  · exact Or.inr ⟨g, 0, h1, h2, fun i v hi => by rw [Nat.zero_add]; exact h3 i v hi⟩
theorem IA.below {w w' : World} {a : Option Addr} {l : List (Bool × BitVec 256)} (h : IA w a l) (k : Below w.heap.size w w') : IA w' a l := by
  rcases h with h | ⟨g, o, h1, h2, h3⟩
  · exact Or.inl h
  · exact Or.inr ⟨g, o, h1, Nat.lt_of_lt_of_le h2 k.size, fun i v hi => by rw [k.cell (p := ⟨g, o + i, none⟩) h2]; exact h3 i v hi⟩
theorem IA.cell {w : World} {a : Option Addr} {l : List (Bool × BitVec 256)} (h : IA w a l) {j : Nat} {x : Bool × BitVec 256} (hx : l[j]? = some x) : ∃ g o, a = some ⟨g, o, none⟩ ∧ g < w.heap.size ∧ w.cell? ⟨g, o + j * 5, none⟩ = some (.bool x.1) ∧ w.cell? ⟨g, o + j * 5 + 1, none⟩ = some (.int .u64 (Cs.wd x.2 0)) ∧ w.cell? ⟨g, o + j * 5 + 2, none⟩ = some (.int .u64 (Cs.wd x.2 1)) ∧ w.cell? ⟨g, o + j * 5 + 3, none⟩ = some (.int .u64 (Cs.wd x.2 2)) ∧ w.cell? ⟨g, o + j * 5 + 4, none⟩ = some (.int .u64 (Cs.wd x.2 3)) := by
  rcases h with h | ⟨g, o, h1, h2, h3⟩
  · rw [h] at hx; simp at hx
  · obtain ⟨a, b, c, d, e⟩ := its_at l j x hx
    exact ⟨g, o, h1, h2, by have := h3 _ _ a; exact this, by have := h3 _ _ b; rw [← Nat.add_assoc] at this; exact this, by have := h3 _ _ c; rw [← Nat.add_assoc] at this; exact this, by have := h3 _ _ d; rw [← Nat.add_assoc] at this; exact this, by have := h3 _ _ e; rw [← Nat.add_assoc] at this; exact this⟩
end Go.Proofs.Ytoniipmgkoogbaa
/- Contracts of patterns: whether a list may be, by the document. -/
namespace Go.Proofs.Ytoniipmgkoogbaa
open Go.ChangeShapes Go.WideShapes Go.ChangeAt Go.RowKit
set_option linter.unusedSimpArgs false
set_option linter.unusedVariables false

end Go.Proofs.Ytoniipmgkoogbaa
/- Contracts of patterns: two lists item by item, by the program and by the document. -/
namespace Go.Proofs.Ytoniipmgkoogbaa
open Go.ChangeShapes Go.WideShapes Go.ChangeAt Go.RowKit
set_option linter.unusedSimpArgs false
set_option linter.unusedVariables false

end Go.Proofs.Ytoniipmgkoogbaa
/- Contracts of patterns: a pattern's text, by the document. -/
namespace Go.Proofs.Ytoniipmgkoogbaa
open Go.ChangeShapes Go.WideShapes Go.ChangeAt Go.RowKit
set_option linter.unusedSimpArgs false
set_option linter.unusedVariables false

theorem cnt_full (f : Nat → Bool) : ∀ n, Cs.cnt f n = n → ∀ i < n, f i = true
  | 0, _, i, hi => by omega
  | n + 1, h, i, hi => by
    have e := Cs.cnt_add f n 1
    have l0 := Cs.cnt_le f n
    have e1 : Cs.cnt (fun j => f (n + j)) 1 = if f n = true then 1 else 0 := by
      unfold Cs.cnt
      cases hfn : f n <;> simp [List.range_one, hfn]
    rw [e1] at e
    by_cases hf : f n = true
    · rw [if_pos hf] at e
      by_cases hin : i = n
      · rw [hin]; exact hf
      · exact cnt_full f n (by omega) i (by omega)
    · rw [if_neg hf] at e; omega
theorem all_len : (Cs.memT Cs.all 256).length = 256 := by decide +kernel
theorem len_all (X : BitVec 256) (h : (Cs.memT X 256).length = 256) : X = Cs.all := by
  rw [Cs.memT_len] at h
  refine Cs.ext_get fun i hi => ?_
  rw [cnt_full _ _ h i hi]
  unfold Cs.all
  rw [BitVec.getLsbD_not]; simp [hi]
end Go.Proofs.Ytoniipmgkoogbaa
