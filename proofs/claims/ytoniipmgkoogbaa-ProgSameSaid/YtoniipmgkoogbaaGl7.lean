/- Contracts of patterns as texts: a pattern's text; the small literal of layer 7. -/
import Derived.Test.YtoniipmgkoogbaaGl6
namespace Go.Proofs.Ytoniipmgkoogbaa
open Go.ChangeShapes Go.WideShapes Go.ChangeAt Go.RowKit
set_option linter.unusedSimpArgs false
set_option linter.unusedVariables false

theorem itxs_snoc (l : List (Bool × BitVec 256)) (x : Bool × BitVec 256) : Cs.itxs (l ++ [x]) = Cs.itxs l ++ Cs.itx x.1 x.2 := by simp [Cs.itxs]
theorem take_more {α : Type} (l : List α) (k : Nat) (x : α) (h : l[k]? = some x) : l.take (k + 1) = l.take k ++ [x] := by rw [List.take_add_one, h]; rfl
def livesL : List (Bool × BitVec 256) := [(false, Cs.bitS 97), (true, 0), (false, Cs.span 48 57), (false, Cs.bitS 42)]
theorem lives_itxs : Cs.itxs livesL = [97, 42, 91, 48, 45, 57, 93, 37, 42] := by decide +kernel
theorem lives_itxs2 : Cs.itxs [(false, Cs.ofL [42]), (true, 0)] = [37, 42, 42] := by decide +kernel
theorem lives_good2 : goodB [(false, Cs.ofL [42]), (true, 0)] = true := by decide +kernel
theorem lives_ok : okI livesL := by
  intro x hx h
  simp [livesL] at hx
  rcases hx with rfl | rfl | rfl | rfl
  · cases h
  · rfl
  · cases h
  · cases h
end Go.Proofs.Ytoniipmgkoogbaa
