/- Contracts of the loops on ticks: a tick so often, bit by bit (the document's own answer), and the least of some; and of layer 1's own check that ticks are added and read. -/
import Derived.Test.YteodknfmghnalaaTkWalks
import Derived.Deep.QuietTactic
import Derived.BigQuiet
namespace Go.Proofs.Yteodknfmghnalaa
open Go.ChangeShapes Go.WideShapes Go.ChangeAt Go.RowKit
set_option linter.unusedSimpArgs false
set_option linter.unusedVariables false

theorem rtimes_any (t n : Int) (ht : t ≤ 9223372036854775807) (hn : -9223372036854775808 ≤ n ∧ n ≤ 9223372036854775807) (w : World) : Calls Try.prog 25 #[.int .i64 t, .int .i64 n] w fun e w' => e = .returned (.int .i64 (Tk.times t n)) ∧ w = w' := by
  have h1 := Tk.own_nn t
  have h2 := Tk.own_le t ht
  have hs := Lib.hid (Tk.times_start t n)
  go_enter Try.func25, Try.ntmps25
  go_wp2_with (go_at_call 27; refine (rown_any _ _).mono ?_; rintro e w' ⟨rfl, rfl⟩)
  go_loop [5, 6, 7] (fun u v x => ∃ o p k : Int, 0 ≤ o ∧ o ≤ 9223372036854775807 ∧ 0 ≤ p ∧ p ≤ 9223372036854775807 ∧ k ≤ 9223372036854775807 ∧ -9223372036854775808 ≤ k ∧ u = .int .i64 o ∧ v = .int .i64 p ∧ x = .int .i64 k ∧ Hid (Tk.sat (o + p * Tk.own k) = Tk.times t n)) (fun _ _ x => (intOf x).toNat)
  case atStart => exact ⟨0, Tk.own t, n, by omega, by omega, h1, h2, hn.2, hn.1, rfl, rfl, rfl, hs⟩
  case round =>
    obtain ⟨o, p, k, ho, ho', hp, hp', hk', hk'', rfl, rfl, rfl, hR⟩ := hrel
    by_cases hk : 0 < k
    · by_cases h2 : k % 2 = 1
      · have hb : (k % 2 == 1) = true := by simpa using h2
        have HR := Lib.hid (Tk.times_odd o p k t n hR.out ho hp hk h2)
        have H2 := Lib.hid h2
        clear h2
        go_wp2_with (go_at_call 24; refine (radd_any _ _ (by omega) (by omega) _).mono ?_; rintro e w' ⟨rfl, rfl⟩)
        go_round
        case rel => exact ⟨_, _, _, Tk.add_nn _ _, Tk.add_le _ _, Tk.add_nn _ _, Tk.add_le _ _, by omega, by omega, rfl, rfl, rfl, HR⟩
        case measure => simp [intOf]; omega
      · have hb : (k % 2 == 1) = false := by simpa using h2
        have HR := Lib.hid (Tk.times_even o p k t n hR.out ho hp hk h2)
        clear h2
        go_wp2_with (go_at_call 24; refine (radd_any _ _ (by omega) (by omega) _).mono ?_; rintro e w' ⟨rfl, rfl⟩)
        go_round
        case rel => exact ⟨_, _, _, ho, ho', Tk.add_nn _ _, Tk.add_le _ _, by omega, by omega, rfl, rfl, rfl, HR⟩
        case measure => simp [intOf]; omega
    · have HR := Lib.hid (Tk.times_end o p k t n hR.out (by omega) ho')
      go_wp2
      go_ret
      exact ⟨ret_i64 HR.out, rfl⟩

theorem quietw {P : Program} {f : FuncId} {args : Array Value} {w : World} {n : Nat} {v : Value}
    (h : Calls P f args (w.drewN n) fun e w' => e = .returned v ∧ w.drewN n = w') : Calls P f args (w.drewN n) fun e w'' => e = .returned v ∧ ∃ m, w'' = w.drewN m :=
  h.mono fun _ _ ⟨he, hm⟩ => ⟨he, n, hm.symm⟩
theorem quietwa {P : Program} {f : FuncId} {args : Array Value} {w : World} {a n : Nat} {v : Value}
    (h : Calls P f args (w.drewN (a + n)) fun e w' => e = .returned v ∧ w.drewN (a + n) = w') : Calls P f args (w.drewN (a + n)) fun e w'' => e = .returned v ∧ ∃ m, w'' = w.drewN (a + m) :=
  h.mono fun _ _ ⟨he, hm⟩ => ⟨he, n, hm.symm⟩

end Go.Proofs.Yteodknfmghnalaa
