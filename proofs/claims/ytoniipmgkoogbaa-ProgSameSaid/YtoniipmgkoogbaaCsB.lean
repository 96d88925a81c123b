/- A set's text, read back, whatever stands behind it. -/
import Derived.Test.YtoniipmgkoogbaaCsQ
namespace Go.Proofs.Ytoniipmgkoogbaa
open Go.ChangeShapes Go.WideShapes Go.ChangeAt Go.RowKit
set_option linter.unusedSimpArgs false
set_option linter.unusedVariables false
theorem told_ne (X : BitVec 256) : Cs.prP 257 (Cs.memT (Cs.told X) 256) ≠ [] := by
  have hl : 0 < (Cs.memT (Cs.told X) 256).length := by
    rw [Cs.memT_len]
    have hc := Cs.cnt_not X
    unfold Cs.told Cs.neg
    by_cases h : (decide (Cs.cnt X.getLsbD 256 = 0) || (decide (128 < Cs.cnt X.getLsbD 256) && decide (Cs.cnt X.getLsbD 256 < 256))) = true
    · rw [if_pos h]
      simp at h; omega
    · rw [if_neg h]
      simp at h; omega
  cases hm : Cs.memT (Cs.told X) 256 with
  | nil => rw [hm] at hl; simp at hl
  | cons c r =>
    simp only [Cs.prP]
    split <;> simp
theorem setP_told (X : BitVec 256) : Cs.setP (Cs.prP 257 (Cs.memT (Cs.told X) 256)) = Cs.told X :=
  Cs.setP_mem _ _ (by have := Cs.memT_le (Cs.told X); omega)
theorem read_back (X : BitVec 256) (s v b : ByteArray) (hs : s.data.toList = Cs.prt X) (hv : s ++ b = v) (hl : v.size ≤ 1000000) (w : World) :
    Calls Try.prog 40 #[.string v] w fun e w' => e = .returned (.tuple #[Cs.sv X, .int .i64 s.size, .int .i64 0]) ∧ Below w.heap.size w w' := by
  have hd : v.data.toList = Cs.prt X ++ b.data.toList := by rw [← hv, ByteArray.data_append, Array.toList_append, hs]
  have hz : s.size = (Cs.prt X).length := size_of hs
  have hok := Cs.prP_ok 257 (Cs.memT (Cs.told X) 256)
  have hne := told_ne X
  have hset := setP_told X
  cases h : Cs.neg X with
  | true =>
    have ht : Cs.told X = ~~~X := by unfold Cs.told; rw [h]; rfl
    have k := cs_read_not v (Cs.prP 257 (Cs.memT (Cs.told X) 256)) b.data.toList hl (by rw [hd]; unfold Cs.prt Cs.ptx; rw [h]; simp) hok hne (~~~X) (by rw [hset, ht]) w
    have e1 : ~~~(~~~X) = X := by simp
    have e2 : 2 + ((Cs.txt (Cs.prP 257 (Cs.memT (Cs.told X) 256))).length + 1) = s.size := by rw [hz]; unfold Cs.prt Cs.ptx; rw [h]; simp; omega
    rw [e1, e2] at k
    exact k
  | false =>
    have ht : Cs.told X = X := by unfold Cs.told; rw [h]; rfl
    have k := cs_read_plain v (Cs.prP 257 (Cs.memT (Cs.told X) 256)) b.data.toList hl (by rw [hd]; unfold Cs.prt Cs.ptx; rw [h]; simp) hok hne X (by rw [hset, ht]) w
    have e2 : 1 + ((Cs.txt (Cs.prP 257 (Cs.memT (Cs.told X) 256))).length + 1) = s.size := by rw [hz]; unfold Cs.prt Cs.ptx; rw [h]; simp; omega
    rw [e2] at k
    exact k
theorem prt_le (X : BitVec 256) : (Cs.prt X).length ≤ 1283 := by
  have := Cs.ptx_le (Cs.told X)
  unfold Cs.prt
  cases Cs.neg X <;> simp <;> omega
theorem prt_head (X : BitVec 256) : ∃ r, Cs.prt X = 91 :: r := by
  unfold Cs.prt
  cases Cs.neg X
  · exact ⟨_, rfl⟩
  · exact ⟨_, rfl⟩
end Go.Proofs.Ytoniipmgkoogbaa
