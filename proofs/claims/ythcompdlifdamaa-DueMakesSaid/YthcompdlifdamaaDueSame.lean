/- The check that deadlines are the document's, and layer 21's own check. -/
import Derived.Test.YthcompdlifdamaaDueWalks
namespace Go.Proofs.Ythcompdlifdamaa
open Go.ChangeShapes Go.WideShapes Go.ChangeAt Go.RowKit
set_option linter.unusedSimpArgs false
set_option linter.unusedVariables false

theorem same_any (u l c : Int) (w : World) : Calls Try.prog 7 #[.agg #[.int .i64 u, .int .i64 l, .int .i64 c], .agg #[.int .i64 u, .int .i64 l, .int .i64 c]] w fun e w' => e = .returned (.bool true) ∧ Below w.heap.size w w' := by
  go_enter Try.func7, Try.ntmps7
  go_wp2
  go_ret
  exact ⟨rfl, by go_grown⟩
set_option maxHeartbeats 1000000 in
theorem lives_any (w : World) : Calls Try.prog 14 #[] w fun e w' => e = .returned (.bool true) ∧ Below w.heap.size w w' := by
  have a1 : Tk.add 4 5 = 9 := by decide
  have l1 : Tk.least [9223372036854775807, 9] = 9 := by decide
  have l2 : Tk.least [9223372036854775807, 8] = 8 := by decide
  have v1 : Du.over 9 9 9 = 3 := by decide
  have v2 : Du.over 9 8 9 = 5 := by decide
  have v3 : Du.over 9223372036854775807 9223372036854775807 9 = 0 := by decide
  go_enter Try.func14, Try.ntmps14
  go_wp2_with (first
    | (go_at_call 5; refine (begin_any _ _ (by omega) (by omega) _).mono ?_; rintro e w1 ⟨rfl, hb⟩)
    | (go_at_call 11; refine (cuts_any _ _ _ _ (by omega) (by omega) _).mono ?_; rintro e w1 ⟨rfl, hb⟩)
    | (go_at_call 15; refine (over_any _ _ _ _ (by omega) (by omega) (by omega) (by omega) _).mono ?_; rintro e w1 ⟨rfl, hb⟩)
    | (go_at_call 8; refine (free_any _).mono ?_; rintro e w1 ⟨rfl, hb⟩))
  go_ret
  refine ⟨rfl, ?_⟩
  repeat (first | exact Below.refl _ _ | (refine below_via (Nat.le_refl _) ?_ (by assumption)))
end Go.Proofs.Ythcompdlifdamaa
