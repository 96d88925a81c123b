/- Plain arithmetic of a dialogue's deadlines: how it ends, and when first. No Go in sight. -/
import Derived.Test.YthcompdlifdamaaTkMath
namespace Go.Proofs.Ythcompdlifdamaa.Du
open Tk

theorem add_never (n : Int) : add n 9223372036854775807 = 9223372036854775807 := by
  have := own_nn n
  unfold add sat; rw [own_of 9223372036854775807 (by omega)]; omega
def over (l c n : Int) : Int := if dueB l n = true ∧ own l ≤ own c then 3 else if dueB c n = true ∧ own c < own l then 5 else 0
theorem due_own (l n : Int) (h : l ≤ 9223372036854775807) : dueB (own l) n = dueB l n := by
  unfold dueB; rw [own_own, decide_eq_decide]; unfold own; omega
theorem over_pos (l c n : Int) (hl : l ≤ 9223372036854775807) (hc : c ≤ 9223372036854775807) : (0 < over l c n) ↔ (dueB l n = true ∨ dueB c n = true) := by
  unfold over dueB
  simp only [decide_eq_true_eq]
  unfold own; omega
theorem over_stays (l c n d : Int) (hl : l ≤ 9223372036854775807) (hc : c ≤ 9223372036854775807) (hn : n ≤ 9223372036854775807) (h : 0 < over l c n) : over l c (add n d) = over l c n := by
  have h1 := add_ge_left n d hn
  have h2 : own (add n d) = add n d := own_of _ (add_nn _ _)
  unfold over dueB at *
  rw [h2]
  simp only [decide_eq_true_eq] at *
  have := own_nn n
  unfold own at *
  omega
theorem least_due (u l c n : Int) (hu : u ≤ 9223372036854775807) (hl : l ≤ 9223372036854775807) (hc : c ≤ 9223372036854775807) : dueB (least [u, l, c]) n = (decide (0 < over l c n) || dueB u n) := by
  have e : least [u, l, c] = minI (minI (minI 9223372036854775807 (own u)) (own l)) (own c) := rfl
  rw [Bool.eq_iff_iff, Bool.or_eq_true, decide_eq_true_eq, over_pos l c n hl hc, e]
  unfold dueB minI
  simp only [decide_eq_true_eq]
  unfold own; omega
end Go.Proofs.Ythcompdlifdamaa.Du
