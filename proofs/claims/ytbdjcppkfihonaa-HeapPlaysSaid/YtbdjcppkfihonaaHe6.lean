/- Heap: readers. -/
import Derived.Test.YtbdjcppkfihonaaHe5
import Derived.WalkKit
import Derived.ProofKit
import Derived.Handy
import Derived.WalkLawsBesides
import Derived.WalkSpells
import Derived.Lib.Hide
import Derived.RegionTactic
import Derived.ChangeAlike
import Derived.WalkSmall
import Derived.Deep.QuietTactic
import Derived.BigQuiet
import Derived.OwnWalk
import Derived.Outline
import Derived.Deep.CutRange
import Derived.Deep.CutBlock
import Derived.LoopTactic
namespace Go.Proofs.Ytbdjcppkfihonaa
open Go.ChangeShapes Go.WideShapes Go.ChangeAt Go.RowKit
set_option linter.unusedSimpArgs false
set_option linter.unusedVariables false

set_option maxRecDepth 20000 in
theorem he_most_nil (w : World) : Calls Try.prog 14 #[.pointer none] w fun e w' => e = .returned (.int .i64 0) ∧ w' = w := by
  go_enter Try.func14, Try.ntmps14
  go_wp2
  go_ret
  exact ⟨rfl, rfl⟩
set_option maxRecDepth 20000 in
theorem he_len_nil (w : World) : Calls Try.prog 26 #[.pointer none] w fun e w' => e = .returned (.int .i64 0) ∧ w' = w := by
  go_enter Try.func26, Try.ntmps26
  go_wp2
  go_ret
  exact ⟨rfl, rfl⟩
set_option maxRecDepth 20000 in
theorem he_most (p ga k : Nat) (w : World) (c1 : w.cell? ⟨p, 1, none⟩ = some (.slice (some ⟨ga, 0, none⟩) k k)) : Calls Try.prog 14 #[.pointer (some ⟨p, 0, none⟩)] w fun e w' => e = .returned (.int .i64 k) ∧ w' = w := by
  go_enter Try.func14, Try.ntmps14
  go_wp2
  go_ret
  exact ⟨rfl, rfl⟩
set_option maxRecDepth 20000 in
theorem he_len (p n c : Nat) (r : Option Addr) (w : World) (c0 : w.cell? ⟨p, 0, none⟩ = some (.slice r n c)) : Calls Try.prog 26 #[.pointer (some ⟨p, 0, none⟩)] w fun e w' => e = .returned (.int .i64 n) ∧ w' = w := by
  go_enter Try.func26, Try.ntmps26
  go_wp2
  go_ret
  exact ⟨rfl, rfl⟩
set_option maxRecDepth 20000 in
theorem he_may (p ga k : Nat) (id : Int) (b : Bool) (hb : decide (0 ≤ id ∧ id < k) = b) (w : World) (c1 : w.cell? ⟨p, 1, none⟩ = some (.slice (some ⟨ga, 0, none⟩) k k)) : Calls Try.prog 52 #[.pointer (some ⟨p, 0, none⟩), .int .i64 id] w fun e w' => e = .returned (.bool b) ∧ w' = w := by
  have HC := Lib.hid c1
  clear c1
  by_cases h0 : 0 ≤ id
  · by_cases h1 : id < k
    · obtain rfl : b = true := by rw [← hb]; exact decide_eq_true ⟨h0, h1⟩
      clear hb
      go_enter Try.func52, Try.ntmps52
      go_wp2_with (go_at_call 14; refine (he_most p ga k _ HC.out).mono ?_; rintro e W1 ⟨rfl, rfl⟩)
      go_ret
      exact ⟨rfl, rfl⟩
    · obtain rfl : b = false := by rw [← hb]; exact decide_eq_false (fun h => h1 h.2)
      clear hb
      go_enter Try.func52, Try.ntmps52
      go_wp2_with (go_at_call 14; refine (he_most p ga k _ HC.out).mono ?_; rintro e W1 ⟨rfl, rfl⟩)
      go_ret
      exact ⟨by show Ending.returned (.bool (decide (id < (k : Int)))) = _; rw [decide_eq_false (by omega)], rfl⟩
  · obtain rfl : b = false := by rw [← hb]; exact decide_eq_false (fun h => h0 h.1)
    clear hb
    go_enter Try.func52, Try.ntmps52
    go_wp2_with (go_at_call 14; refine (he_most p ga k _ HC.out).mono ?_; rintro e W1 ⟨rfl, rfl⟩)
    go_ret
    exact ⟨rfl, rfl⟩
set_option maxRecDepth 20000 in
theorem he_may_nil (id : Int) (w : World) : Calls Try.prog 52 #[.pointer none, .int .i64 id] w fun e w' => e = .returned (.bool false) ∧ w' = w := by
  by_cases h0 : 0 ≤ id
  · have h1 : ¬ id < 0 := by omega
    go_enter Try.func52, Try.ntmps52
    go_wp2_with (go_at_call 14; refine (he_most_nil _).mono ?_; rintro e W1 ⟨rfl, rfl⟩)
    go_ret
    exact ⟨by show Ending.returned (.bool (decide (id < 0))) = _; rw [decide_eq_false (by omega)], rfl⟩
  · go_enter Try.func52, Try.ntmps52
    go_wp2_with (go_at_call 14; refine (he_most_nil _).mono ?_; rintro e W1 ⟨rfl, rfl⟩)
    go_ret
    exact ⟨rfl, rfl⟩
set_option maxRecDepth 20000 in
theorem he_at_out (p ga k : Nat) (id : Int) (hb : ¬ (0 ≤ id ∧ id < k)) (w : World) (c1 : w.cell? ⟨p, 1, none⟩ = some (.slice (some ⟨ga, 0, none⟩) k k)) : Calls Try.prog 27 #[.pointer (some ⟨p, 0, none⟩), .int .i64 id] w fun e w' => e = .returned (.tuple #[.int .i64 0, .bool false]) ∧ w' = w := by
  have HC := Lib.hid (And.intro c1 hb)
  clear c1 hb
  go_enter Try.func27, Try.ntmps27
  go_wp2_with (go_at_call 52; refine (he_may p ga k id false (decide_eq_false HC.out.2) _ HC.out.1).mono ?_; rintro e W1 ⟨rfl, rfl⟩)
  go_ret2
  exact ⟨rfl, rfl⟩
set_option maxRecDepth 20000 in
theorem he_at_nil (id : Int) (w : World) : Calls Try.prog 27 #[.pointer none, .int .i64 id] w fun e w' => e = .returned (.tuple #[.int .i64 0, .bool false]) ∧ w' = w := by
  go_enter Try.func27, Try.ntmps27
  go_wp2_with (go_at_call 52; refine (he_may_nil id _).mono ?_; rintro e W1 ⟨rfl, rfl⟩)
  go_ret2
  exact ⟨rfl, rfl⟩
set_option maxRecDepth 20000 in
theorem he_at (p ga k id : Nat) (v : Int) (hid : id < k) (w : World) (c1 : w.cell? ⟨p, 1, none⟩ = some (.slice (some ⟨ga, 0, none⟩) k k)) (c2 : w.cell? ⟨ga, id, none⟩ = some (.int .i64 v)) : Calls Try.prog 27 #[.pointer (some ⟨p, 0, none⟩), .int .i64 id] w fun e w' => e = .returned (if v = 9223372036854775807 then .tuple #[.int .i64 0, .bool false] else .tuple #[.int .i64 v, .bool true]) ∧ w' = w := by
  have HC := Lib.hid (And.intro c1 hid)
  have i0 : (0 : Int) ≤ (id : Int) := by omega
  have i1 : (id : Int) < (k : Int) := by omega
  by_cases hv : v = 9223372036854775807
  · rw [if_pos hv]
    have hb : (v == 9223372036854775807) = true := by rw [beq_iff_eq]; exact hv
    clear hv
    go_enter Try.func27, Try.ntmps27
    go_wp2_with (go_at_call 52; refine (he_may p ga k id true (decide_eq_true ⟨by omega, by have := HC.out.2; omega⟩) _ HC.out.1).mono ?_; rintro e W1 ⟨rfl, rfl⟩)
    go_ret2
    exact ⟨rfl, rfl⟩
  · rw [if_neg hv]
    have hb : (v == 9223372036854775807) = false := by rw [beq_eq_false_iff_ne]; exact hv
    go_enter Try.func27, Try.ntmps27
    go_wp2_with (go_at_call 52; refine (he_may p ga k id true (decide_eq_true ⟨by omega, by have := HC.out.2; omega⟩) _ HC.out.1).mono ?_; rintro e W1 ⟨rfl, rfl⟩)
    go_ret2
    exact ⟨rfl, rfl⟩
end Go.Proofs.Ytbdjcppkfihonaa
