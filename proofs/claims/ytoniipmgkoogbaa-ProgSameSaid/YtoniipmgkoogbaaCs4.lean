/- Contracts of sets of bytes: how many bits a word has, how many bytes a set. -/
import Derived.Test.YtoniipmgkoogbaaCs3
import Derived.Test.YtoniipmgkoogbaaCsPop
namespace Go.Proofs.Ytoniipmgkoogbaa
open Go.ChangeShapes Go.WideShapes Go.ChangeAt Go.RowKit
set_option linter.unusedSimpArgs false
set_option linter.unusedVariables false

theorem nat_u64 (n : Nat) (h : n < 256 ^ 8) : IntKind.u64.wrap (n : Int) = n := by
  have e : 256 ^ 8 = 18446744073709551616 := by decide
  rw [e] at h
  simp [IntKind.wrap, IntKind.signed, IntKind.bits]; omega
theorem nat_i64 (n : Nat) (h : n < 2 ^ 62) : IntKind.i64.wrap (n : Int) = n := IntWalk.i64_in _ (by omega)
theorem idx_word (X : BitVec 256) (k : Nat) (hk : k < 4) (wr : World) : Sem.run Try.prog (Instr.index 67 (.agg #[.int .u64 (Cs.wd X 0), .int .u64 (Cs.wd X 1), .int .u64 (Cs.wd X 2), .int .u64 (Cs.wd X 3)]) (.int .i64 (k : Int))) wr = .ok (.int .u64 ((Cs.wb X k).toNat : Nat)) wr := by
  rcases k with _ | _ | _ | _ | k
  · simp [Instr.index, go_sem, Cs.wd]
  · simp [Instr.index, go_sem, Cs.wd]
  · simp [Instr.index, go_sem, Cs.wd]
  · simp [Instr.index, go_sem, Cs.wd]
  · omega
end Go.Proofs.Ytoniipmgkoogbaa
