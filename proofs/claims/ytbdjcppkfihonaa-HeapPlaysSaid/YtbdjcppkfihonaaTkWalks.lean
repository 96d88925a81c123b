/- Contracts of the functions on ticks (package tick, and the document's own answers): each hands back the plain number of Tk, and leaves the world alone. -/
import Derived.Test.YtbdjcppkfihonaaRows
import Derived.Test.YtbdjcppkfihonaaTkMath
import Derived.WalkKit
import Derived.ProofKit
import Derived.OpenShut
import Derived.Handy
import Derived.WalkLawsBesides
import Derived.WalkSpells
import Derived.Lib.Hide
namespace Go.Proofs.Ytbdjcppkfihonaa
open Go.ChangeShapes Go.WideShapes Go.ChangeAt Go.RowKit
set_option linter.unusedSimpArgs false
set_option linter.unusedVariables false

theorem ret_i64 {a b : Int} (h : a = b) : Ending.returned (.int .i64 a) = .returned (.int .i64 b) := by rw [h]
theorem ret_b {a b : Bool} (h : a = b) : Ending.returned (.bool a) = .returned (.bool b) := by rw [h]

theorem own_any (t : Int) (w : World) : Calls Try.prog 53 #[.int .i64 t] w fun e w' => e = .returned (.int .i64 (Tk.own t)) ∧ w = w' := by
  by_cases h : t < 0
  · go_enter Try.func53, Try.ntmps53
    go_wp2
    go_ret
    exact ⟨ret_i64 (by unfold Tk.own; omega), rfl⟩
  · go_enter Try.func53, Try.ntmps53
    go_wp2
    go_ret
    exact ⟨ret_i64 (by unfold Tk.own; omega), rfl⟩
theorem rown_any (t : Int) (w : World) : Calls Try.prog 29 #[.int .i64 t] w fun e w' => e = .returned (.int .i64 (Tk.own t)) ∧ w = w' := by
  by_cases h : t < 0
  · go_enter Try.func29, Try.ntmps29
    go_wp2
    go_ret
    exact ⟨ret_i64 (by unfold Tk.own; omega), rfl⟩
  · go_enter Try.func29, Try.ntmps29
    go_wp2
    go_ret
    exact ⟨ret_i64 (by unfold Tk.own; omega), rfl⟩
theorem due_any (a n : Int) (ha : a ≤ 9223372036854775807) (hn : n ≤ 9223372036854775807) (w : World) : Calls Try.prog 58 #[.int .i64 a, .int .i64 n] w fun e w' => e = .returned (.bool (Tk.dueB a n)) ∧ w = w' := by
  have h1 := Tk.own_nn a
  have h2 := Tk.own_le a ha
  have h3 := Tk.own_nn n
  have h4 := Tk.own_le n hn
  have h5 : Tk.own a = 9223372036854775807 ↔ a = 9223372036854775807 := by unfold Tk.own; omega
  go_enter Try.func58, Try.ntmps58
  go_wp2_with (go_at_call 53; refine (own_any _ _).mono ?_; rintro e w' ⟨rfl, rfl⟩)
  all_goals
    go_ret
    refine ⟨ret_b ?_, rfl⟩
    unfold Tk.dueB
    rw [Bool.eq_iff_iff]
    simp only [Bool.and_eq_true, bne_iff_ne, decide_eq_true_eq, ne_eq, beq_iff_eq, beq_eq_false_iff_ne, Bool.false_eq_true, false_iff] at *
    omega
theorem rdue_any (a n : Int) (ha : a ≤ 9223372036854775807) (hn : n ≤ 9223372036854775807) (w : World) : Calls Try.prog 28 #[.int .i64 a, .int .i64 n] w fun e w' => e = .returned (.bool (Tk.dueB a n)) ∧ w = w' := by
  have h1 := Tk.own_nn a
  have h2 := Tk.own_le a ha
  have h3 := Tk.own_nn n
  have h4 := Tk.own_le n hn
  go_enter Try.func28, Try.ntmps28
  go_wp2_with (go_at_call 29; refine (rown_any _ _).mono ?_; rintro e w' ⟨rfl, rfl⟩)
  all_goals
    go_ret
    refine ⟨ret_b ?_, rfl⟩
    unfold Tk.dueB
    rw [Bool.eq_iff_iff]
    simp only [Bool.and_eq_true, bne_iff_ne, decide_eq_true_eq, ne_eq, beq_iff_eq, beq_eq_false_iff_ne, Bool.false_eq_true, false_iff] at *
    try omega
end Go.Proofs.Ytbdjcppkfihonaa
