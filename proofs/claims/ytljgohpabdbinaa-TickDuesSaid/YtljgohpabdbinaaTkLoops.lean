/- Contracts of the loops on ticks: a tick so often, bit by bit (the document's own answer), and the least of some; and of layer 1's own check that ticks are added and read. -/
import Derived.Test.YtljgohpabdbinaaTkWalks
import Derived.Deep.QuietTactic
import Derived.BigQuiet
namespace Go.Proofs.Ytljgohpabdbinaa
open Go.ChangeShapes Go.WideShapes Go.ChangeAt Go.RowKit
set_option linter.unusedSimpArgs false
set_option linter.unusedVariables false

theorem rtimes_any (t n : Int) (ht : t ≤ 9223372036854775807) (hn : -9223372036854775808 ≤ n ∧ n ≤ 9223372036854775807) (w : World) : Calls Try.prog 11 #[.int .i64 t, .int .i64 n] w fun e w' => e = .returned (.int .i64 (Tk.times t n)) ∧ w = w' := by
  have h1 := Tk.own_nn t
  have h2 := Tk.own_le t ht
  have hs := Lib.hid (Tk.times_start t n)
  go_enter Try.func11, Try.ntmps11
  go_wp2_with (go_at_call 7; refine (rown_any _ _).mono ?_; rintro e w' ⟨rfl, rfl⟩)
  go_loop [5, 6, 7] (fun u v x => ∃ o p k : Int, 0 ≤ o ∧ o ≤ 9223372036854775807 ∧ 0 ≤ p ∧ p ≤ 9223372036854775807 ∧ k ≤ 9223372036854775807 ∧ -9223372036854775808 ≤ k ∧ u = .int .i64 o ∧ v = .int .i64 p ∧ x = .int .i64 k ∧ Hid (Tk.sat (o + p * Tk.own k) = Tk.times t n)) (fun _ _ x => (intOf x).toNat)
  case atStart => exact ⟨0, Tk.own t, n, by omega, by omega, h1, h2, hn.2, hn.1, rfl, rfl, rfl, hs⟩
  case round =>
    obtain ⟨o, p, k, ho, ho', hp, hp', hk', hk'', rfl, rfl, rfl, hR⟩ := hrel
    by_cases hk : 0 < k
    · by_cases h2 : k % 2 = 1
      · have hb : (k % 2 == 1) = true := by simpa using h2
        have HR := Lib.hid (Tk.times_odd o p k t n hR.out ho hp hk h2)
        have H2 := Lib.hid h2
        clear h2
        go_wp2_with (go_at_call 9; refine (radd_any _ _ (by omega) (by omega) _).mono ?_; rintro e w' ⟨rfl, rfl⟩)
        go_round
        case rel => exact ⟨_, _, _, Tk.add_nn _ _, Tk.add_le _ _, Tk.add_nn _ _, Tk.add_le _ _, by omega, by omega, rfl, rfl, rfl, HR⟩
        case measure => simp [intOf]; omega
      · have hb : (k % 2 == 1) = false := by simpa using h2
        have HR := Lib.hid (Tk.times_even o p k t n hR.out ho hp hk h2)
        clear h2
        go_wp2_with (go_at_call 9; refine (radd_any _ _ (by omega) (by omega) _).mono ?_; rintro e w' ⟨rfl, rfl⟩)
        go_round
        case rel => exact ⟨_, _, _, ho, ho', Tk.add_nn _ _, Tk.add_le _ _, by omega, by omega, rfl, rfl, rfl, HR⟩
        case measure => simp [intOf]; omega
    · have HR := Lib.hid (Tk.times_end o p k t n hR.out (by omega) ho')
      go_wp2
      go_ret
      exact ⟨ret_i64 HR.out, rfl⟩

theorem quietw {P : Program} {f : FuncId} {args : Array Value} {w : World} {n : Nat} {v : Value}
    (h : Calls P f args (w.drewN n) fun e w' => e = .returned v ∧ w.drewN n = w') : Calls P f args (w.drewN n) fun e w'' => e = .returned v ∧ ∃ m, w'' = w.drewN m :=
  h.mono fun _ _ ⟨he, hm⟩ => ⟨he, n, hm.symm⟩
theorem quietwa {P : Program} {f : FuncId} {args : Array Value} {w : World} {a n : Nat} {v : Value}
    (h : Calls P f args (w.drewN (a + n)) fun e w' => e = .returned v ∧ w.drewN (a + n) = w') : Calls P f args (w.drewN (a + n)) fun e w'' => e = .returned v ∧ ∃ m, w'' = w.drewN (a + m) :=
  h.mono fun _ _ ⟨he, hm⟩ => ⟨he, n, hm.symm⟩

theorem parse12 (w : World) : Calls Try.prog 19 #[.string ⟨#[49, 50]⟩] w fun e w' => e = .returned (.tuple #[.int .i64 12, .int .i64 0]) ∧ ∃ n, w' = w.drewN n := by
  have t0 : Tk.times 0 10 = 0 := by decide
  have t1 : Tk.times 1 10 = 10 := by decide
  have a0 : Tk.add 0 1 = 1 := by decide
  have a1 : Tk.add 10 2 = 12 := by decide
  have s0 : (⟨#[49, 50]⟩ : ByteArray)[0].toNat = 49 := rfl
  have s1 : (⟨#[49, 50]⟩ : ByteArray)[1].toNat = 50 := rfl
  go_enter Try.func19, Try.ntmps19
  go_wp2
  go_rounds 3
  refine wp_loop_rounds 3 ?_
  rw [rounds_succ]
  go_wp2
  go_quiet ((first | (go_at_call 10; exact quietw (times_any _ _ (by omega) (by omega) _)) | (go_at_call 8; exact quietw (add_any _ _ (by omega) (by omega) _))))
  go_wp2
  rw [rounds_succ]
  go_wp2
  go_quiet ((first | (go_at_call 10; exact quietwa (times_any _ _ (by omega) (by omega) _)) | (go_at_call 8; exact quietwa (add_any _ _ (by omega) (by omega) _))))
  go_wp2
  rw [rounds_succ]
  go_wp2
  go_ret2
  exact ⟨rfl, _, rfl⟩

theorem lives_any (w : World) : Calls Try.prog 14 #[] w fun e w' => e = .returned (.bool true) ∧ ∃ n, w' = w.drewN n := by
  have t0 : Tk.times 3 4 = 12 := by decide
  have a0 : Tk.add 9223372036854775806 1 = 9223372036854775807 := by decide
  have d0 : Tk.dueB 9223372036854775807 9223372036854775807 = false := by decide
  have d1 : Tk.dueB 4 4 = true := by decide
  go_enter Try.func14, Try.ntmps14
  go_wp2_with (first | (go_at_call 19; refine (parse12 _).mono ?_; rintro e w' ⟨rfl, n, rfl⟩) | (go_at_call 10; refine (times_any _ _ (by omega) (by omega) _).mono ?_; rintro e w' ⟨rfl, rfl⟩) | (go_at_call 8; refine (add_any _ _ (by omega) (by omega) _).mono ?_; rintro e w' ⟨rfl, rfl⟩) | (go_at_call 15; refine (due_any _ _ (by omega) (by omega) _).mono ?_; rintro e w' ⟨rfl, rfl⟩))
  go_ret
  exact ⟨rfl, _, rfl⟩
end Go.Proofs.Ytljgohpabdbinaa
