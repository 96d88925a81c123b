/- Log: whether an event has a line, as the document says (no walk but of records held against each other). -/
import Derived.Test.YtfhhkmjjifbfeaaGreatDoorLo9
import Derived.WalkKit
import Derived.ProofKit
import Derived.Handy
import Derived.WalkLawsBesides
import Derived.WalkSpells
import Derived.Lib.Hide
import Derived.Lib.SliceRun
import Derived.Deep.RegionLaw
import Derived.RegionTactic
import Derived.ChangeAlike
import Derived.WalkSmall
import Derived.Deep.QuietTactic
import Derived.BigQuiet
import Derived.OwnWalk
import Derived.Outline
import Derived.Deep.CutRange
import Derived.Deep.CutBlock
import Derived.LoopTactic
namespace Go.Proofs.YtfhhkmjjifbfeaaGreatDoor
open Go.ChangeShapes Go.WideShapes Go.ChangeAt Go.RowKit
set_option linter.unusedSimpArgs false
set_option linter.unusedVariables false

theorem Lo.be (b : ByteArray) : (b.toList == []) = decide (b = { data := #[] }) := by
  rw [Bool.eq_iff_iff, beq_iff_eq, decide_eq_true_eq, Lib.toList_data]
  constructor
  · intro h; exact ByteArray.ext (Array.ext' h)
  · intro h; rw [h]
theorem Lo.ie (l : List UInt8) : l.isEmpty = (l == []) := by cases l <;> rfl
theorem Lo.mayS_eq (s0 s1 s2 s3 s4 s5 : Int) : Lo.mayS s0 s1 s2 s3 s4 s5 = (decide (0 ≤ s0) && (decide (0 ≤ s1) && decide (s1 ≤ 200)) && !((Lo.word s2).toList == []) && (decide (0 ≤ s3) && decide (s3 ≤ 7)) && (decide (0 ≤ s4) && decide (s4 ≤ 4096)) && !((Le.word s5).toList == [])) := by
  unfold Lo.mayS
  rw [Lo.ie, Lo.ie]
theorem Lo.good_1 (i n t : Int) (b : ByteArray) (e s0 s1 s2 s3 s4 s5 : Int) : Lo.good ⟨1, i, n, t, b, e, s0, s1, s2, s3, s4, s5⟩ = ((decide (i = 0)) && (decide (n = 0)) && ((b.toList == [])) && (decide (e = 0)) && (decide (s0 = 0 ∧ s1 = 0 ∧ s2 = 0 ∧ s3 = 0 ∧ s4 = 0 ∧ s5 = 0)) && (decide (0 ≤ t))) := by
  unfold Lo.good Lo.left Lo.may
  dsimp only
  rw [if_pos (by decide), if_pos (by decide)]
  rw [Bool.eq_iff_iff]
  simp only [Lo.be, Bool.and_eq_true, decide_eq_true_eq, Ev.mk.injEq, true_and, and_true, and_assoc]
theorem Lo.good_2 (i n t : Int) (b : ByteArray) (e s0 s1 s2 s3 s4 s5 : Int) : Lo.good ⟨2, i, n, t, b, e, s0, s1, s2, s3, s4, s5⟩ = ((decide (t = 0)) && ((b.toList == [])) && (decide (e = 0)) && (decide (s0 = 0 ∧ s1 = 0 ∧ s2 = 0 ∧ s3 = 0 ∧ s4 = 0 ∧ s5 = 0)) && (decide (0 ≤ i)) && (decide (i ≤ 4095)) && (decide (0 ≤ n)) && (decide (n ≤ 63))) := by
  unfold Lo.good Lo.left Lo.may
  dsimp only
  rw [if_neg (by decide), if_pos (by decide), if_neg (by decide), if_pos (by decide)]
  rw [Bool.eq_iff_iff]
  simp only [Lo.be, Bool.and_eq_true, decide_eq_true_eq, Ev.mk.injEq, true_and, and_true, and_assoc]
theorem Lo.good_3 (i n t : Int) (b : ByteArray) (e s0 s1 s2 s3 s4 s5 : Int) : Lo.good ⟨3, i, n, t, b, e, s0, s1, s2, s3, s4, s5⟩ = ((decide (t = 0)) && ((b.toList == [])) && (decide (s0 = 0 ∧ s1 = 0 ∧ s2 = 0 ∧ s3 = 0 ∧ s4 = 0 ∧ s5 = 0)) && (decide (-1 ≤ i)) && (decide (i ≤ 4095)) && (decide (1 ≤ e)) && (decide (e ≤ 13))) := by
  unfold Lo.good Lo.left Lo.may
  dsimp only
  rw [if_neg (by decide), if_neg (by decide), if_pos (by decide), if_neg (by decide), if_neg (by decide), if_pos (by decide)]
  rw [Bool.eq_iff_iff]
  simp only [Lo.be, Bool.and_eq_true, decide_eq_true_eq, Ev.mk.injEq, true_and, and_true, and_assoc]
theorem Lo.good_4 (i n t : Int) (b : ByteArray) (e s0 s1 s2 s3 s4 s5 : Int) : Lo.good ⟨4, i, n, t, b, e, s0, s1, s2, s3, s4, s5⟩ = ((decide (n = (b.size : Int))) && (decide (t = 0)) && (decide (e = 0)) && (decide (s0 = 0 ∧ s1 = 0 ∧ s2 = 0 ∧ s3 = 0 ∧ s4 = 0 ∧ s5 = 0)) && (decide (0 ≤ i)) && (decide (i ≤ 4095)) && (decide (1 ≤ (b.size : Int))) && (decide ((b.size : Int) ≤ 4096))) := by
  unfold Lo.good Lo.left Lo.may
  dsimp only
  rw [if_neg (by decide), if_neg (by decide), if_neg (by decide), if_pos (by decide), if_neg (by decide), if_neg (by decide), if_neg (by decide), if_pos (by decide)]
  rw [Bool.eq_iff_iff]
  simp only [Lo.be, Bool.and_eq_true, decide_eq_true_eq, Ev.mk.injEq, true_and, and_true, and_assoc]
theorem Lo.good_5 (i n t : Int) (b : ByteArray) (e s0 s1 s2 s3 s4 s5 : Int) : Lo.good ⟨5, i, n, t, b, e, s0, s1, s2, s3, s4, s5⟩ = ((decide (n = 0)) && (decide (t = 0)) && ((b.toList == [])) && (decide (e = 0)) && (decide (s0 = 0 ∧ s1 = 0 ∧ s2 = 0 ∧ s3 = 0 ∧ s4 = 0 ∧ s5 = 0)) && (decide (0 ≤ i)) && (decide (i ≤ 4095))) := by
  unfold Lo.good Lo.left Lo.may
  dsimp only
  rw [if_neg (by decide), if_neg (by decide), if_neg (by decide), if_neg (by decide), if_pos (by decide), if_neg (by decide), if_neg (by decide), if_neg (by decide), if_neg (by decide), if_pos (by decide)]
  rw [Bool.eq_iff_iff]
  simp only [Lo.be, Bool.and_eq_true, decide_eq_true_eq, Ev.mk.injEq, true_and, and_true, and_assoc]
theorem Lo.good_6 (i n t : Int) (b : ByteArray) (e s0 s1 s2 s3 s4 s5 : Int) : Lo.good ⟨6, i, n, t, b, e, s0, s1, s2, s3, s4, s5⟩ = ((decide (n = (b.size : Int))) && (decide (t = 0)) && (decide (e = 0)) && (decide (s0 = 0 ∧ s1 = 0 ∧ s2 = 0 ∧ s3 = 0 ∧ s4 = 0 ∧ s5 = 0)) && (decide (0 ≤ i)) && (decide (i ≤ 4095)) && (decide (1 ≤ (b.size : Int))) && (decide ((b.size : Int) ≤ 4096))) := by
  unfold Lo.good Lo.left Lo.may
  dsimp only
  rw [if_neg (by decide), if_neg (by decide), if_neg (by decide), if_pos (by decide), if_neg (by decide), if_neg (by decide), if_neg (by decide), if_pos (by decide)]
  rw [Bool.eq_iff_iff]
  simp only [Lo.be, Bool.and_eq_true, decide_eq_true_eq, Ev.mk.injEq, true_and, and_true, and_assoc]
theorem Lo.good_7 (i n t : Int) (b : ByteArray) (e s0 s1 s2 s3 s4 s5 : Int) : Lo.good ⟨7, i, n, t, b, e, s0, s1, s2, s3, s4, s5⟩ = ((decide (i = 0)) && (decide (n = 0)) && ((b.toList == [])) && (decide (e = 0)) && (decide (s0 = 0 ∧ s1 = 0 ∧ s2 = 0 ∧ s3 = 0 ∧ s4 = 0 ∧ s5 = 0)) && (decide (0 ≤ t))) := by
  unfold Lo.good Lo.left Lo.may
  dsimp only
  rw [if_pos (by decide), if_pos (by decide)]
  rw [Bool.eq_iff_iff]
  simp only [Lo.be, Bool.and_eq_true, decide_eq_true_eq, Ev.mk.injEq, true_and, and_true, and_assoc]
theorem Lo.good_8 (i n t : Int) (b : ByteArray) (e s0 s1 s2 s3 s4 s5 : Int) : Lo.good ⟨8, i, n, t, b, e, s0, s1, s2, s3, s4, s5⟩ = ((decide (n = 0)) && (decide (t = 0)) && ((b.toList == [])) && (decide (e = 0)) && (decide (0 ≤ i)) && (decide (i ≤ 4095)) && (decide (0 ≤ s0)) && (decide (0 ≤ s1)) && (decide (s1 ≤ 200)) && (!((Lo.word s2).toList == [])) && (decide (0 ≤ s3)) && (decide (s3 ≤ 7)) && (decide (0 ≤ s4)) && (decide (s4 ≤ 4096)) && (!((Le.word s5).toList == []))) := by
  unfold Lo.good Lo.left Lo.may
  dsimp only
  rw [if_neg (by decide), if_neg (by decide), if_neg (by decide), if_neg (by decide), if_neg (by decide), if_pos (by decide), if_neg (by decide), if_neg (by decide), if_neg (by decide), if_neg (by decide), if_neg (by decide), if_pos (by decide), Lo.mayS_eq]
  rw [Bool.eq_iff_iff]
  simp only [Lo.be, Bool.and_eq_true, decide_eq_true_eq, Ev.mk.injEq, true_and, and_true, and_assoc]
theorem Lo.good_9 (i n t : Int) (b : ByteArray) (e s0 s1 s2 s3 s4 s5 : Int) : Lo.good ⟨9, i, n, t, b, e, s0, s1, s2, s3, s4, s5⟩ = ((decide (i = 0)) && (decide (n = 0)) && (decide (t = 0)) && ((b.toList == [])) && (decide (e = 0)) && (decide (s0 = 0 ∧ s1 = 0 ∧ s2 = 0 ∧ s3 = 0 ∧ s4 = 0 ∧ s5 = 0))) := by
  unfold Lo.good Lo.left Lo.may
  dsimp only
  rw [if_neg (by decide), if_neg (by decide), if_neg (by decide), if_neg (by decide), if_neg (by decide), if_neg (by decide), if_neg (by decide), if_neg (by decide), if_neg (by decide), if_neg (by decide), if_neg (by decide), if_neg (by decide)]
  rw [Bool.eq_iff_iff]
  simp only [Lo.be, Bool.and_eq_true, decide_eq_true_eq, Ev.mk.injEq, true_and, and_true, and_assoc]
theorem deep_st : Tryz.prog.keyTypeAt 3 24 = true := by kernel_rfl
theorem lits_st (s0 s1 s2 s3 s4 s5 : Int) (h : ∀ v, v ∈ [s0, s1, s2, s3, s4, s5] → (Lit.int .i64 v).wf = true) : Tryz.prog.keyLits 2 24 [.int .i64 s0, .int .i64 s1, .int .i64 s2, .int .i64 s3, .int .i64 s4, .int .i64 s5] = some [.int .i64 s0, .int .i64 s1, .int .i64 s2, .int .i64 s3, .int .i64 s4, .int .i64 s5] := by
  have k6 : Tryz.prog.cellsOf 24 = 6 := by kernel_rfl
  have k3 : Tryz.prog.cellsOf 3 = 1 := by kernel_rfl
  have k2 : Tryz.prog.cellsOf 2 = 1 := by kernel_rfl
  have u0 := h s0 (by simp); have u1 := h s1 (by simp); have u2 := h s2 (by simp); have u3 := h s3 (by simp); have u4 := h s4 (by simp); have u5 := h s5 (by simp)
  simp [Program.keyLits, Tryz.underlying24, Tryz.underlying3, Tryz.underlying2, k6, k3, k2, u0, u1, u2, u3, u4, u5]
theorem eqSt (s0 s1 s2 s3 s4 s5 : Int) (h : ∀ v, v ∈ [s0, s1, s2, s3, s4, s5] → (Lit.int .i64 v).wf = true) (w : World) : (Op.equalIn 10000 24 (.agg #[.int .i64 s0, .int .i64 s1, .int .i64 s2, .int .i64 s3, .int .i64 s4, .int .i64 s5]) (.agg #[.int .i64 0, .int .i64 0, .int .i64 0, .int .i64 0, .int .i64 0, .int .i64 0])).run Tryz.prog w = .ok (decide (s0 = 0 ∧ s1 = 0 ∧ s2 = 0 ∧ s3 = 0 ∧ s4 = 0 ∧ s5 = 0)) w := by
  obtain ⟨r, hr, hiff⟩ := run_equalIn_deep (P := Tryz.prog) 9997 3 24 deep_st w 2 2 (.agg #[.int .i64 s0, .int .i64 s1, .int .i64 s2, .int .i64 s3, .int .i64 s4, .int .i64 s5]) (.agg #[.int .i64 0, .int .i64 0, .int .i64 0, .int .i64 0, .int .i64 0, .int .i64 0]) _ _ (by kernel_rfl) (by kernel_rfl) (lits_st s0 s1 s2 s3 s4 s5 h) (lits_st 0 0 0 0 0 0 (by intro v hv; simp at hv; subst hv; decide))
  have e : r = decide (s0 = 0 ∧ s1 = 0 ∧ s2 = 0 ∧ s3 = 0 ∧ s4 = 0 ∧ s5 = 0) := by
    rw [Bool.eq_iff_iff, hiff, decide_eq_true_eq]
    simp only [List.cons.injEq, Lit.int.injEq, true_and, and_true]
  rw [e] at hr
  exact hr
end Go.Proofs.YtfhhkmjjifbfeaaGreatDoor
