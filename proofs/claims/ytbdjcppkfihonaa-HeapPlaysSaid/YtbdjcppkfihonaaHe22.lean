/- Heap: a heap and the document's list. -/
import Derived.Test.YtbdjcppkfihonaaHe21
import Derived.WalkKit
import Derived.ProofKit
import Derived.Handy
import Derived.WalkLawsBesides
import Derived.WalkSpells
import Derived.Lib.Hide
import Derived.RegionTactic
import Derived.ChangeAlike
import Derived.WalkSmall
import Derived.Deep.QuietTactic
import Derived.BigQuiet
import Derived.OwnWalk
import Derived.Outline
import Derived.Deep.CutRange
import Derived.Deep.CutBlock
import Derived.LoopTactic
namespace Go.Proofs.Ytbdjcppkfihonaa
open Go.ChangeShapes Go.WideShapes Go.ChangeAt Go.RowKit
set_option linter.unusedSimpArgs false
set_option linter.unusedVariables false

theorem within_any5 (x : Int) (n : Nat) (hn : min (max x 1) 1024 = (n : Int)) (w : World) :
    Calls Try.prog 13 #[.int .i64 x, .int .i64 1, .int .i64 1024] w fun e w' => e = .returned (.int .i64 n) ∧ w = w' := by
  by_cases a1 : x < 1
  · obtain rfl : n = 1 := by omega
    go_enter Try.func13, Try.ntmps13
    go_wp2
    go_ret
    exact ⟨rfl, rfl⟩
  · by_cases a2 : 1024 < x
    · obtain rfl : n = 1024 := by omega
      go_enter Try.func13, Try.ntmps13
      go_wp2
      go_ret
      exact ⟨rfl, rfl⟩
    · obtain rfl : x = (n : Int) := by omega
      go_enter Try.func13, Try.ntmps13
      go_wp2
      go_ret
      exact ⟨rfl, rfl⟩
/-- What holds all the time: the heap holds L, so does the document's list, apart from it. -/
def SH (w W : World) (p ga k n c : Nat) (r : Option Addr) (L : List (Int × Int)) (g o : Nat) : Prop := HQ w W p ga k n c r L ∧ EA W (some ⟨g, o, none⟩) L ∧ ∀ x ∈ rvB (some ⟨g, o, none⟩), x ∉ (p :: ga :: rvB r)
theorem SH.below {w W W' : World} {p ga k n c : Nat} {r : Option Addr} {L : List (Int × Int)} {g o : Nat} (h : SH w W p ga k n c r L g o) (q : Below W.heap.size W W') : SH w W' p ga k n c r L g o := ⟨h.1.below q, h.2.1.below q, h.2.2⟩
theorem EA.takec {w : World} {a : Option Addr} {l : List (Int × Int)} (h : EA w a l) (d : Nat) : EA w a (l.take d) := ⟨h.1, fun j x1 x2 hj => by
  rw [List.getElem?_take] at hj
  split at hj
  · exact h.2 j x1 x2 hj
  · cases hj⟩
theorem EA.dropc {w : World} {g o o2 cc d : Nat} {l : List (Int × Int)} (h : EA w (some ⟨g, o, none⟩) l) (hl : l.length ≤ cc) (hA : (if cc = d then (some ⟨g, o, none⟩ : Option Addr) else some ⟨g, o + d * 2, none⟩) = some ⟨g, o2, none⟩) : EA w (some ⟨g, o2, none⟩) (l.drop d) := by
  refine ⟨fun x hx => h.1 x (by rw [rvB_some] at hx ⊢; exact hx), fun j x1 x2 hj => ?_⟩
  rw [List.getElem?_drop] at hj
  have hlt := (List.getElem?_eq_some_iff.1 hj).1
  rw [if_neg (by omega)] at hA
  injection hA with hA; injection hA with _ hA
  obtain ⟨h2, h3⟩ := h.c hj rfl
  subst hA
  exact ⟨g, o + d * 2, rfl, by rw [show o + d * 2 + j * 2 = o + (d + j) * 2 by omega]; exact h2, by rw [show o + d * 2 + j * 2 + 1 = o + (d + j) * 2 + 1 by omega]; exact h3⟩
end Go.Proofs.Ytbdjcppkfihonaa
