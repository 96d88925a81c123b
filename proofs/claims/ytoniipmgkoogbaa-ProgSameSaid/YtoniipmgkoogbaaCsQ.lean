/- Two sets that are the same, held against each other. -/
import Derived.Test.YtoniipmgkoogbaaCsL
import Derived.Laws.IdiomArrays
namespace Go.Proofs.Ytoniipmgkoogbaa
open Go.ChangeShapes Go.WideShapes Go.ChangeAt Go.RowKit
set_option linter.unusedSimpArgs false
set_option linter.unusedVariables false
theorem wf_u8 {n : Int} (h : (Lit.int .u8 n).wf = true) : 0 ≤ n ∧ n < 256 := by
  simp [Lit.wf, IntKind.min, IntKind.max, IntKind.signed, IntKind.bits] at h
  omega
theorem eqIn_set (X : BitVec 256) (w : World) : (Op.equalIn 10000 67 (Cs.sv X) (Cs.sv X)).run Try.prog w = .ok true w := by
  have h : ∀ n : Int, (Op.equalIn 9999 65 (.int .u64 n) (.int .u64 n)).run Try.prog w = .ok true w := fun n => by
    rw [run_equalIn_int w 9998 65 .u64 .u64 n n Try.underlying65]; simp
  unfold Cs.sv
  show (Op.equalIn (9999 + 1) _ _ _).run _ _ = _
  rw [Op.equalIn]
  simp [go_sem, run_underlying Try.underlying67, Std.Legacy.Range.forIn_eq_forIn_range', Std.Legacy.Range.size, List.range', part, h]
theorem eq_set (X : BitVec 256) (w : World) : Sem.run Try.prog (binOp BinOp.eql 67 (Cs.sv X) (Cs.sv X)) w = .ok (.bool true) w := by
  have h := eqIn_set X w
  unfold Cs.sv at h ⊢
  rw [show ∀ m : Sem Value, Sem.run Try.prog m w = m.run Try.prog w from fun _ => rfl, run_eql_struct, h]; rfl
theorem neq_set (X : BitVec 256) (w : World) : Sem.run Try.prog (binOp BinOp.neq 67 (Cs.sv X) (Cs.sv X)) w = .ok (.bool false) w := by
  have h := eqIn_set X w
  unfold Cs.sv at h ⊢
  rw [show ∀ m : Sem Value, Sem.run Try.prog m w = m.run Try.prog w from fun _ => rfl, run_neq_struct, h]; rfl
theorem guard_set (op : BinOp) (x y : Operand) (X Y : BitVec 256) (w : World) : Sem.run Try.prog (eqGuard op 67 x y (Cs.sv X) (Cs.sv Y)) w = .ok () w := by
  have hg : Try.prog.eqGuardType Try.prog.depth 67 = false := by kernel_rfl
  unfold Cs.sv eqGuard
  cases op <;> simp [go_sem, hg]
theorem okWide_arr4 {P : Program} {w : World} {r : Reach} {base : Nat} {t e : TypeId} {v : Value} {n : Nat} (ht : P.underlying t = some (.array n e)) (hc : P.cellsOf t = 4) (h : Value.okWide P w r base t v) : ∃ c0 c1 c2 c3, v = .agg #[c0, c1, c2, c3] := by
  simp only [Value.okWide, ht] at h
  obtain ⟨cs, h1, h2, _⟩ := h
  rw [hc] at h2
  obtain ⟨l⟩ := cs
  match l, h2 with
  | [a, b, c, d], _ => exact ⟨a, b, c, d, h1⟩
theorem wf_u64 {n : Int} (h : (Lit.int .u64 n).wf = true) : 0 ≤ n ∧ n < 18446744073709551616 := by
  simp [Lit.wf, IntKind.min, IntKind.max, IntKind.signed, IntKind.bits] at h
  omega
theorem cnt_neg (f : Nat → Bool) : ∀ n, Cs.cnt f n + Cs.cnt (fun i => !f i) n = n
  | 0 => rfl
  | n + 1 => by
    have ih := cnt_neg f n
    have a := Cs.cnt_add f n 1
    have b := Cs.cnt_add (fun i => !f i) n 1
    have c : ∀ g : Nat → Bool, Cs.cnt g 1 = if g 0 then 1 else 0 := fun g => by
      unfold Cs.cnt
      rw [show List.range 1 = [0] from rfl, List.filter_cons]
      split <;> rfl
    rw [a, b, c, c]
    cases h : f (n + 0) <;> simp <;> omega
theorem Cs.cnt_not (X : BitVec 256) : Cs.cnt (~~~X).getLsbD 256 = 256 - Cs.cnt X.getLsbD 256 := by
  have h1 : Cs.cnt (~~~X).getLsbD 256 = Cs.cnt (fun i => !X.getLsbD i) 256 := Cs.cnt_congr fun i hi => by rw [BitVec.getLsbD_not]; simp [hi]
  rw [h1]
  have h2 := cnt_neg X.getLsbD 256
  omega
end Go.Proofs.Ytoniipmgkoogbaa
