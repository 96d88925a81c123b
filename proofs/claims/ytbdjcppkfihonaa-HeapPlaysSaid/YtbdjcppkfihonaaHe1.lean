/- Heap: numbers held against each other. -/
import Derived.Test.YtbdjcppkfihonaaRm
import Derived.Test.YtbdjcppkfihonaaShelf
import Derived.WalkKit
import Derived.ProofKit
import Derived.Handy
import Derived.WalkLawsBesides
import Derived.WalkSpells
import Derived.Lib.Hide
import Derived.RegionTactic
import Derived.ChangeAlike
import Derived.WalkSmall
import Derived.Deep.QuietTactic
import Derived.BigQuiet
import Derived.OwnWalk
import Derived.Outline
import Derived.Deep.CutRange
import Derived.Deep.CutBlock
import Derived.LoopTactic
namespace Go.Proofs.Ytbdjcppkfihonaa
open Go.ChangeShapes Go.WideShapes Go.ChangeAt Go.RowKit
set_option linter.unusedSimpArgs false
set_option linter.unusedVariables false

set_option maxRecDepth 20000 in
theorem he_nan64 (x : Int) (w : World) : Calls Try.prog 86 #[.int .i64 x] w fun e w' => e = .returned (.bool false) ∧ w' = w := by
  go_enter Try.func86, Try.ntmps86
  go_wp2
  go_ret
  exact ⟨rfl, rfl⟩
set_option maxRecDepth 20000 in
theorem he_cmp64 (x y : Int) (w : World) : Calls Try.prog 70 #[.int .i64 x, .int .i64 y] w fun e w' => e = .returned (.int .i64 (Lib.compareInt x y)) ∧ w' = w := by
  obtain ⟨z, hz⟩ : ∃ z, Lib.compareInt x y = z := ⟨_, rfl⟩
  rw [hz]
  unfold Lib.compareInt at hz
  by_cases h1 : x < y
  · rw [if_pos h1] at hz
    subst hz
    go_enter Try.func70, Try.ntmps70
    go_wp2_with (go_at_call 86; refine (he_nan64 _ _).mono ?_; rintro e W1 ⟨rfl, rfl⟩)
    go_ret
    exact ⟨rfl, rfl⟩
  · rw [if_neg h1] at hz
    by_cases h2 : x > y
    · rw [if_pos h2] at hz
      subst hz
      have h3 : y < x := h2
      clear h2
      go_enter Try.func70, Try.ntmps70
      go_wp2_with (go_at_call 86; refine (he_nan64 _ _).mono ?_; rintro e W1 ⟨rfl, rfl⟩)
      go_ret
      exact ⟨rfl, rfl⟩
    · rw [if_neg h2] at hz
      subst hz
      have h3 : ¬ y < x := h2
      clear h2
      go_enter Try.func70, Try.ntmps70
      go_wp2_with (go_at_call 86; refine (he_nan64 _ _).mono ?_; rintro e W1 ⟨rfl, rfl⟩)
      go_ret
      exact ⟨rfl, rfl⟩
set_option maxRecDepth 20000 in
theorem he_or (g c : Nat) (a b r : Int) (hr : r = if a = 0 then b else a) (w : World) (h0 : w.cell? ⟨g, 0, none⟩ = some (.int .i64 a)) (h1 : w.cell? ⟨g, 1, none⟩ = some (.int .i64 b)) : Calls Try.prog 69 #[.slice (some ⟨g, 0, none⟩) 2 c] w fun e w' => e = .returned (.int .i64 r) ∧ w' = w := by
  have HR := Lib.hid hr
  clear hr
  go_enter Try.func69, Try.ntmps69
  go_wp2_with fail
  go_loopw [5, 8] (fun _ iv wr => ∃ k : Nat, iv = .int .i64 k ∧ k ≤ 2 ∧ Hid (wr = w ∧ (1 ≤ k → a = 0) ∧ (2 ≤ k → b = 0))) (fun _ iv _ => 2 - (intOf iv).toNat)
  case atStart => exact ⟨0, rfl, by omega, Lib.hid ⟨rfl, fun h => by omega, fun h => by omega⟩⟩
  case round =>
    obtain ⟨k, rfl, hk, HK⟩ := hrel
    obtain rfl := HK.out.1
    obtain h | h | h : k = 0 ∨ k = 1 ∨ k = 2 := by omega
    · subst h
      by_cases ha : a = 0
      · have HN : Hid (wr = wr ∧ (1 ≤ 1 → a = 0) ∧ (2 ≤ 1 → b = 0)) := Lib.hid ⟨rfl, fun _ => ha, fun h => by omega⟩
        have hb2 : (a == 0) = true := by rw [beq_iff_eq]; exact ha
        go_wp2
        first
          | exact ⟨1, by go_num, by omega, (by first | exact HN | exact Lib.hid ⟨trivial, HN.out.2⟩)⟩
          | ((repeat apply Exists.intro); exact ⟨⟨1, by go_num, by omega, (by first | exact HN | exact Lib.hid ⟨trivial, HN.out.2⟩)⟩, (by first | rfl | simp [intOf])⟩)
      · have hb2 : (a == 0) = false := by rw [beq_eq_false_iff_ne]; exact ha
        have HE : Hid (r = a) := Lib.hid (by rw [HR.out, if_neg ha])
        go_wp2
        go_ret
        exact ⟨by rw [HE.out]; rfl, rfl⟩
    · subst h
      have ha := HK.out.2.1 (by omega)
      by_cases hb : b = 0
      · have HN : Hid (wr = wr ∧ (1 ≤ 2 → a = 0) ∧ (2 ≤ 2 → b = 0)) := Lib.hid ⟨rfl, fun _ => ha, fun _ => hb⟩
        have hb2 : (b == 0) = true := by rw [beq_iff_eq]; exact hb
        go_wp2
        first
          | exact ⟨2, by go_num, by omega, (by first | exact HN | exact Lib.hid ⟨trivial, HN.out.2⟩)⟩
          | ((repeat apply Exists.intro); exact ⟨⟨2, by go_num, by omega, (by first | exact HN | exact Lib.hid ⟨trivial, HN.out.2⟩)⟩, (by first | rfl | simp [intOf])⟩)
      · have hb2 : (b == 0) = false := by rw [beq_eq_false_iff_ne]; exact hb
        have HE : Hid (r = b) := Lib.hid (by rw [HR.out, if_pos ha])
        clear ha
        go_wp2
        go_ret
        exact ⟨by rw [HE.out]; rfl, rfl⟩
    · subst h
      have HE : Hid (r = 0) := Lib.hid (by rw [HR.out, if_pos (HK.out.2.1 (by omega)), HK.out.2.2 (by omega)])
      go_wp2
      go_ret
      exact ⟨by rw [HE.out]; rfl, rfl⟩
end Go.Proofs.Ytbdjcppkfihonaa
