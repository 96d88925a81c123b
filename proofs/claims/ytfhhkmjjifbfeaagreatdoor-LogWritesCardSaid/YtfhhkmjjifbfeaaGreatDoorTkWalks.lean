/- Contracts of the functions on ticks (package tick, and the document's own answers): each hands back the plain number of Tk, and leaves the world alone. -/
import Derived.Test.YtfhhkmjjifbfeaaGreatDoorRows
import Derived.Test.YtfhhkmjjifbfeaaGreatDoorTkMath
import Derived.WalkKit
import Derived.ProofKit
import Derived.OpenShut
import Derived.Handy
import Derived.WalkLawsBesides
import Derived.WalkSpells
import Derived.Lib.Hide
namespace Go.Proofs.YtfhhkmjjifbfeaaGreatDoor
open Go.ChangeShapes Go.WideShapes Go.ChangeAt Go.RowKit
set_option linter.unusedSimpArgs false
set_option linter.unusedVariables false

theorem ret_i64 {a b : Int} (h : a = b) : Ending.returned (.int .i64 a) = .returned (.int .i64 b) := by rw [h]
theorem ret_b {a b : Bool} (h : a = b) : Ending.returned (.bool a) = .returned (.bool b) := by rw [h]

theorem own_any (t : Int) (w : World) : Calls Tryz.prog 38 #[.int .i64 t] w fun e w' => e = .returned (.int .i64 (Tk.own t)) ∧ w = w' := by
  by_cases h : t < 0
  · go_enter Tryz.func38, Tryz.ntmps38
    go_wp2
    go_ret
    exact ⟨ret_i64 (by unfold Tk.own; omega), rfl⟩
  · go_enter Tryz.func38, Tryz.ntmps38
    go_wp2
    go_ret
    exact ⟨ret_i64 (by unfold Tk.own; omega), rfl⟩
theorem rown_any (t : Int) (w : World) : Calls Tryz.prog 49 #[.int .i64 t] w fun e w' => e = .returned (.int .i64 (Tk.own t)) ∧ w = w' := by
  by_cases h : t < 0
  · go_enter Tryz.func49, Tryz.ntmps49
    go_wp2
    go_ret
    exact ⟨ret_i64 (by unfold Tk.own; omega), rfl⟩
  · go_enter Tryz.func49, Tryz.ntmps49
    go_wp2
    go_ret
    exact ⟨ret_i64 (by unfold Tk.own; omega), rfl⟩
theorem add_any (t d : Int) (ht : t ≤ 9223372036854775807) (hd : d ≤ 9223372036854775807) (w : World) : Calls Tryz.prog 89 #[.int .i64 t, .int .i64 d] w fun e w' => e = .returned (.int .i64 (Tk.add t d)) ∧ w = w' := by
  have h1 := Tk.own_nn t
  have h2 := Tk.own_le t ht
  have h3 := Tk.own_nn d
  have h4 := Tk.own_le d hd
  go_enter Tryz.func89, Tryz.ntmps89
  go_wp2_with (go_at_call 38; refine (own_any _ _).mono ?_; rintro e w' ⟨rfl, rfl⟩)
  all_goals
    go_ret
    refine ⟨ret_i64 ?_, rfl⟩
    unfold Tk.add Tk.sat
    omega

theorem times_any (t n : Int) (ht : t ≤ 9223372036854775807) (hn : -9223372036854775808 ≤ n ∧ n ≤ 9223372036854775807) (w : World) : Calls Tryz.prog 90 #[.int .i64 t, .int .i64 n] w fun e w' => e = .returned (.int .i64 (Tk.times t n)) ∧ w = w' := by
  have h1 := Tk.own_nn t
  have h2 := Tk.own_le t ht
  by_cases c1 : n < 1
  · go_enter Tryz.func90, Tryz.ntmps90
    go_wp2_with (go_at_call 38; refine (own_any _ _).mono ?_; rintro e w' ⟨rfl, rfl⟩)
    all_goals
      go_ret
      exact ⟨ret_i64 (by unfold Tk.times; rw [if_pos c1]), rfl⟩
  · have c1' : 1 ≤ n := by omega
    by_cases c2 : Tk.own t = 0
    · have c2' := Tk.times_zero t n c2
      have H2 := Lib.hid c2'
      clear c2'
      go_enter Tryz.func90, Tryz.ntmps90
      go_wp2_with (go_at_call 38; refine (own_any _ _).mono ?_; rintro e w' ⟨rfl, rfl⟩)
      all_goals
        go_ret
        exact ⟨ret_i64 H2.out.symm, rfl⟩
    · have c2b : (Tk.own t == 0) = false := by simpa using c2
      by_cases c3 : 9223372036854775807 / n < Tk.own t
      · have b := Tk.mul_big _ n c1' c3
        have H : Tk.times t n = 9223372036854775807 := by unfold Tk.times Tk.sat; rw [if_neg c1, if_pos b]
        have H2 := Lib.hid H
        clear H b
        go_enter Tryz.func90, Tryz.ntmps90
        go_wp2_with (go_at_call 38; refine (own_any _ _).mono ?_; rintro e w' ⟨rfl, rfl⟩)
        all_goals
          go_ret
          exact ⟨ret_i64 H2.out.symm, rfl⟩
      · have b := Tk.mul_small _ n c1' h1 (by omega)
        have H : Tk.times t n = Tk.own t * n := by unfold Tk.times; rw [if_neg c1, Tk.sat_of _ b.2]
        have H2 := Lib.hid H
        clear H
        go_enter Tryz.func90, Tryz.ntmps90
        go_wp2_with (go_at_call 38; refine (own_any _ _).mono ?_; rintro e w' ⟨rfl, rfl⟩)
        all_goals
          go_ret
          exact ⟨ret_i64 H2.out.symm, rfl⟩
end Go.Proofs.YtfhhkmjjifbfeaaGreatDoor
