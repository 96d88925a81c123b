/- Contracts of texts in quotes (package quote), second half: readSign, Quote. -/
import Derived.Test.YtkihlnomchhiiaaQt
import Derived.Test.YtkihlnomchhiiaaRw
namespace Go.Proofs.Ytkihlnomchhiiaa
open Go.ChangeShapes Go.WideShapes Go.ChangeAt Go.RowKit
set_option linter.unusedSimpArgs false
set_option linter.unusedVariables false

theorem info5 : (Try.prog.info? 5).map (fun i => (i.zero, i.size, i.bytes)) = some (some (.int .u8 0), 1, 1) := by kernel_rfl
/-- Bytes as cells. -/
def cu (l : List UInt8) : List Value := l.map fun b => Value.int .u8 (b.toNat : Int)
theorem cu_length (l : List UInt8) : (cu l).length = l.length := by unfold cu; simp
theorem cu_append (l m : List UInt8) : cu (l ++ m) = cu l ++ cu m := by unfold cu; simp
theorem cu_bv (t : ByteArray) : bv t = cu t.data.toList := rfl
theorem cu_bc (t : ByteArray) : byteCells t = cu t.data.toList := rfl
theorem one_u8 (v : Int) : ∀ u ∈ [Value.int .u8 v], u.oneCell' = true := by intro u hu; simp at hu; subst hu; rfl
theorem one_new (w : World) (v : Value) (T : TypeId) (j : Nat) (u : Value) (hj : [v][j]? = some u) : (w.alloc (.cells #[v] T)).cell? ((⟨w.heap.size, 0, none⟩ : Addr).add j) = some u := by
  have h := Blk.newA w #[v] T
  cases j with
  | zero => simp at hj; subst hj; exact h.cell (i := 0) rfl
  | succ j => simp at hj
theorem conv_rw (W : World) (g m cap : Nat) (t : ByteArray) (h : Rw W g cap (cu t.data.toList) 5) (hm : t.size = m) :
    (convert 47 9 (.slice (some ⟨g, 0, none⟩) m cap)).run Try.prog W = .ok (.string t) W := by
  obtain ⟨r, h1, h2, h3⟩ := h
  exact conv_blk W g m cap t _ r h3 hm
theorem u8_ne {c d : UInt8} (h : ¬ c = d) (k : Int) (hk : (d.toNat : Int) = k) : ((c.toNat : Int) == k) = false := by
  rw [beq_eq_false_iff_ne]; exact fun e => h (u8_eq (e.trans hk.symm))
theorem esc_some {d b : UInt8} (h : Qt.esc d = some b) : (d.toNat : Int) = 34 ∧ (b.toNat : Int) = 34 ∨ (d.toNat : Int) = 92 ∧ (b.toNat : Int) = 92 ∨ (d.toNat : Int) = 110 ∧ (b.toNat : Int) = 10 ∨ (d.toNat : Int) = 114 ∧ (b.toNat : Int) = 13 ∨ (d.toNat : Int) = 116 ∧ (b.toNat : Int) = 9 := by
  unfold Qt.esc at h
  split at h
  · cases h; subst d; decide
  · split at h
    · cases h; subst d; decide
    · split at h
      · cases h; subst d; decide
      · split at h
        · cases h; subst d; decide
        · split at h
          · cases h; subst d; decide
          · cases h
theorem esc_none {d : UInt8} (h : Qt.esc d = none) : ¬ d = 34 ∧ ¬ d = 92 ∧ ¬ d = 110 ∧ ¬ d = 114 ∧ ¬ d = 116 := by
  refine ⟨?_, ?_, ?_, ?_, ?_⟩ <;> (rintro rfl; revert h; decide)
theorem list_of (s : ByteArray) (h : 0 < s.size) : s.data.toList = s[0] :: s.data.toList.drop 1 := by
  have := drop_cons s 0 h
  rwa [List.drop_zero] at this
end Go.Proofs.Ytkihlnomchhiiaa
