/- Items held against each other; the pattern of plain bytes. -/
import Derived.Test.YtoniipmgkoogbaaGl7
namespace Go.Proofs.Ytoniipmgkoogbaa
open Go.ChangeShapes Go.WideShapes Go.ChangeAt Go.RowKit
set_option linter.unusedSimpArgs false
set_option linter.unusedVariables false

theorem eqIn_at (d : Nat) (X Y : BitVec 256) (w : World) : (Op.equalIn (d + 1 + 1) 67 (.agg #[.int .u64 (Cs.wd X 0), .int .u64 (Cs.wd X 1), .int .u64 (Cs.wd X 2), .int .u64 (Cs.wd X 3)]) (.agg #[.int .u64 (Cs.wd Y 0), .int .u64 (Cs.wd Y 1), .int .u64 (Cs.wd Y 2), .int .u64 (Cs.wd Y 3)])).run Try.prog w = .ok (decide (X = Y)) w := by
  have h : ∀ n m : Int, (Op.equalIn (d + 1) 65 (.int .u64 n) (.int .u64 m)).run Try.prog w = .ok (n == m) w := fun n m => by
    rw [run_equalIn_int w d 65 .u64 .u64 n m Try.underlying65]
  have hd : decide (X = Y) = (Cs.wd X 0 == Cs.wd Y 0 && (Cs.wd X 1 == Cs.wd Y 1 && (Cs.wd X 2 == Cs.wd Y 2 && Cs.wd X 3 == Cs.wd Y 3))) := by
    rw [Bool.eq_iff_iff]
    simp only [decide_eq_true_eq, Bool.and_eq_true, beq_iff_eq]
    exact ⟨fun e => by subst e; exact ⟨rfl, rfl, rfl, rfl⟩, fun ⟨a, b, c, d⟩ => Cs.sv_eq a b c d⟩
  rw [hd, Op.equalIn]
  generalize Cs.wd X 0 = a0, Cs.wd X 1 = a1, Cs.wd X 2 = a2, Cs.wd X 3 = a3, Cs.wd Y 0 = b0, Cs.wd Y 1 = b1, Cs.wd Y 2 = b2, Cs.wd Y 3 = b3
  by_cases h0 : a0 = b0
  · by_cases h1 : a1 = b1
    · by_cases h2 : a2 = b2
      · by_cases h3 : a3 = b3
        · simp [go_sem, run_underlying Try.underlying67, Std.Legacy.Range.forIn_eq_forIn_range', Std.Legacy.Range.size, List.range', part, h, h0, h1, h2, h3]
        · have e3 : (a3 == b3) = false := by simp [h3]
          simp [go_sem, run_underlying Try.underlying67, Std.Legacy.Range.forIn_eq_forIn_range', Std.Legacy.Range.size, List.range', part, h, h0, h1, h2, e3]
      · have e2 : (a2 == b2) = false := by simp [h2]
        simp [go_sem, run_underlying Try.underlying67, Std.Legacy.Range.forIn_eq_forIn_range', Std.Legacy.Range.size, List.range', part, h, h0, h1, e2]
    · have e1 : (a1 == b1) = false := by simp [h1]
      simp [go_sem, run_underlying Try.underlying67, Std.Legacy.Range.forIn_eq_forIn_range', Std.Legacy.Range.size, List.range', part, h, h0, e1]
  · have e0 : (a0 == b0) = false := by simp [h0]
    simp [go_sem, run_underlying Try.underlying67, Std.Legacy.Range.forIn_eq_forIn_range', Std.Legacy.Range.size, List.range', part, h, e0]
theorem eqItem (r q : Bool) (X Y : BitVec 256) (w : World) : (Op.equalIn 10000 69 (.agg #[.bool r, .int .u64 (Cs.wd X 0), .int .u64 (Cs.wd X 1), .int .u64 (Cs.wd X 2), .int .u64 (Cs.wd X 3)]) (.agg #[.bool q, .int .u64 (Cs.wd Y 0), .int .u64 (Cs.wd Y 1), .int .u64 (Cs.wd Y 2), .int .u64 (Cs.wd Y 3)])).run Try.prog w = .ok (r == q && decide (X = Y)) w := by
  have h := eqIn_at 9997 X Y w
  have hb : (Op.equalIn 9999 4 (.bool r) (.bool q)).run Try.prog w = .ok (r == q) w := run_equalIn_bool w 9998 4 r q Try.underlying4
  have hst : Try.prog.stoodInHeld 69 = false := by kernel_rfl
  show (Op.equalIn (9999 + 1) _ _ _).run _ _ = _
  rw [Op.equalIn]
  cases r <;> cases q <;> cases hd : decide (X = Y)
  all_goals
    rw [hd] at h
    simp [go_sem, run_underlying Try.underlying69, part, h, hb, hst]
theorem eqItem_same (X : BitVec 256) (w : World) : (Op.equalIn 10000 69 (.agg #[.bool false, .int .u64 (Cs.wd X 0), .int .u64 (Cs.wd X 1), .int .u64 (Cs.wd X 2), .int .u64 (Cs.wd X 3)]) (.agg #[.bool false, .int .u64 (Cs.wd X 0), .int .u64 (Cs.wd X 1), .int .u64 (Cs.wd X 2), .int .u64 (Cs.wd X 3)])).run Try.prog w = .ok true w := by
  rw [eqItem]; simp
theorem itx_bit (b : UInt8) : Cs.itx false (Cs.bitS b.toNat) = Cs.sg7 b := by
  have h : ∀ k : Fin 256, Cs.itx false (Cs.bitS k.val) = Cs.sg7 (UInt8.ofNat k.val) := by decide +kernel
  have := h ⟨b.toNat, b.toNat_lt⟩
  simpa using this
theorem span_one (b : Nat) (hb : b < 256) : Cs.span b b = Cs.bitS b := Cs.ext_get fun i hi => by
  rw [Cs.span_get _ _ _ hi, Cs.bitS_get]
  by_cases e : b = i
  · subst e; simp [hb]
  · have : ¬ (b ≤ i ∧ i ≤ b) := by omega
    simp [e, hb]; omega
/-- The pattern of plain bytes. -/
def plainI (l : List UInt8) : List (Bool × BitVec 256) := l.map fun b => (false, Cs.bitS b.toNat)
theorem plain_itxs (l : List UInt8) : Cs.itxs (plainI l) = Cs.pl l := by
  unfold Cs.itxs plainI Cs.pl
  rw [List.flatMap_map]
  congr 1
  funext b
  exact itx_bit b
theorem plain_ok (l : List UInt8) : okI (plainI l) := by
  intro x hx h
  obtain ⟨b, _, rfl⟩ := List.mem_map.1 hx
  cases h
theorem cut_60 (s t : ByteArray) (hs : s.size ≤ maxLen) (ht : cutT s 60 = t) (w : World) :
    Calls Try.prog 20 #[.string s, .int .i64 60] w fun e w' => e = .returned (.string t) ∧ w = w' := cut_any s t 60 (by decide) hs ht w
end Go.Proofs.Ytoniipmgkoogbaa
