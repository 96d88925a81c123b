/- Two sets that are the same, held against each other. -/
import Derived.Test.YtigabmceecpdnaaCsL
namespace Go.Proofs.Ytigabmceecpdnaa
open Go.ChangeShapes Go.WideShapes Go.ChangeAt Go.RowKit
set_option linter.unusedSimpArgs false
set_option linter.unusedVariables false
theorem wf_u8 {n : Int} (h : (Lit.int .u8 n).wf = true) : 0 ≤ n ∧ n < 256 := by
  simp [Lit.wf, IntKind.min, IntKind.max, IntKind.signed, IntKind.bits] at h
  omega
theorem eqIn_set (X : BitVec 256) (w : World) : (Op.equalIn 10000 25 (Cs.sv X) (Cs.sv X)).run Try.prog w = .ok true w := by
  have h : ∀ n : Int, (Op.equalIn 9999 23 (.int .u64 n) (.int .u64 n)).run Try.prog w = .ok true w := fun n => by
    rw [run_equalIn_int w 9998 23 .u64 .u64 n n Try.underlying23]; simp
  unfold Cs.sv
  show (Op.equalIn (9999 + 1) _ _ _).run _ _ = _
  rw [Op.equalIn]
  simp [go_sem, run_underlying Try.underlying25, Std.Legacy.Range.forIn_eq_forIn_range', Std.Legacy.Range.size, List.range', part, h]
theorem eq_set (X : BitVec 256) (w : World) : Sem.run Try.prog (binOp BinOp.eql 25 (Cs.sv X) (Cs.sv X)) w = .ok (.bool true) w := by
  have h := eqIn_set X w
  unfold Cs.sv at h ⊢
  rw [show ∀ m : Sem Value, Sem.run Try.prog m w = m.run Try.prog w from fun _ => rfl, run_eql_struct, h]; rfl
theorem neq_set (X : BitVec 256) (w : World) : Sem.run Try.prog (binOp BinOp.neq 25 (Cs.sv X) (Cs.sv X)) w = .ok (.bool false) w := by
  have h := eqIn_set X w
  unfold Cs.sv at h ⊢
  rw [show ∀ m : Sem Value, Sem.run Try.prog m w = m.run Try.prog w from fun _ => rfl, run_neq_struct, h]; rfl
theorem guard_set (op : BinOp) (x y : Operand) (X Y : BitVec 256) (w : World) : Sem.run Try.prog (eqGuard op 25 x y (Cs.sv X) (Cs.sv Y)) w = .ok () w := by
  have hg : Try.prog.eqGuardType Try.prog.depth 25 = false := by kernel_rfl
  unfold Cs.sv eqGuard
  cases op <;> simp [go_sem, hg]
end Go.Proofs.Ytigabmceecpdnaa
