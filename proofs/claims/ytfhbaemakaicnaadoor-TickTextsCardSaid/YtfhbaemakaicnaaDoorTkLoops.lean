/- Contracts of the loops on ticks: a tick so often, bit by bit (the document's own answer), and the least of some; and of layer 1's own check that ticks are added and read. -/
import Derived.Test.YtfhbaemakaicnaaDoorTkWalks
import Derived.Deep.QuietTactic
import Derived.BigQuiet
namespace Go.Proofs.YtfhbaemakaicnaaDoor
open Go.ChangeShapes Go.WideShapes Go.ChangeAt Go.RowKit
set_option linter.unusedSimpArgs false
set_option linter.unusedVariables false

theorem quietw {P : Program} {f : FuncId} {args : Array Value} {w : World} {n : Nat} {v : Value}
    (h : Calls P f args (w.drewN n) fun e w' => e = .returned v ∧ w.drewN n = w') : Calls P f args (w.drewN n) fun e w'' => e = .returned v ∧ ∃ m, w'' = w.drewN m :=
  h.mono fun _ _ ⟨he, hm⟩ => ⟨he, n, hm.symm⟩
theorem quietwa {P : Program} {f : FuncId} {args : Array Value} {w : World} {a n : Nat} {v : Value}
    (h : Calls P f args (w.drewN (a + n)) fun e w' => e = .returned v ∧ w.drewN (a + n) = w') : Calls P f args (w.drewN (a + n)) fun e w'' => e = .returned v ∧ ∃ m, w'' = w.drewN (a + m) :=
  h.mono fun _ _ ⟨he, hm⟩ => ⟨he, n, hm.symm⟩

theorem parse12 (w : World) : Calls Tryd.prog 4 #[.string ⟨#[49, 50]⟩] w fun e w' => e = .returned (.tuple #[.int .i64 12, .int .i64 0]) ∧ ∃ n, w' = w.drewN n := by
  have t0 : Tk.times 0 10 = 0 := by decide
  have t1 : Tk.times 1 10 = 10 := by decide
  have a0 : Tk.add 0 1 = 1 := by decide
  have a1 : Tk.add 10 2 = 12 := by decide
  have s0 : (⟨#[49, 50]⟩ : ByteArray)[0].toNat = 49 := rfl
  have s1 : (⟨#[49, 50]⟩ : ByteArray)[1].toNat = 50 := rfl
  go_enter Tryd.func4, Tryd.ntmps4
  go_wp2
  go_rounds 3
  refine wp_loop_rounds 3 ?_
  rw [rounds_succ]
  go_wp2
  go_quiet ((first | (go_at_call 16; exact quietw (times_any _ _ (by omega) (by omega) _)) | (go_at_call 15; exact quietw (add_any _ _ (by omega) (by omega) _))))
  go_wp2
  rw [rounds_succ]
  go_wp2
  go_quiet ((first | (go_at_call 16; exact quietwa (times_any _ _ (by omega) (by omega) _)) | (go_at_call 15; exact quietwa (add_any _ _ (by omega) (by omega) _))))
  go_wp2
  rw [rounds_succ]
  go_wp2
  go_ret2
  exact ⟨rfl, _, rfl⟩

theorem lives_any (w : World) : Calls Tryd.prog 9 #[] w fun e w' => e = .returned (.bool true) ∧ ∃ n, w' = w.drewN n := by
  have t0 : Tk.times 3 4 = 12 := by decide
  have a0 : Tk.add 9223372036854775806 1 = 9223372036854775807 := by decide
  have d0 : Tk.dueB 9223372036854775807 9223372036854775807 = false := by decide
  have d1 : Tk.dueB 4 4 = true := by decide
  go_enter Tryd.func9, Tryd.ntmps9
  go_wp2_with (first | (go_at_call 4; refine (parse12 _).mono ?_; rintro e w' ⟨rfl, n, rfl⟩) | (go_at_call 16; refine (times_any _ _ (by omega) (by omega) _).mono ?_; rintro e w' ⟨rfl, rfl⟩) | (go_at_call 15; refine (add_any _ _ (by omega) (by omega) _).mono ?_; rintro e w' ⟨rfl, rfl⟩) | (go_at_call 17; refine (due_any _ _ (by omega) (by omega) _).mono ?_; rintro e w' ⟨rfl, rfl⟩))
  go_ret
  exact ⟨rfl, _, rfl⟩
end Go.Proofs.YtfhbaemakaicnaaDoor
