/- Log: the document's Good and Print, of any event. -/
import Derived.Test.YtfhhkmjjifbfeaaGreatDoorLo19a
import Derived.Test.YtfhhkmjjifbfeaaGreatDoorLo19b
import Derived.Test.YtfhhkmjjifbfeaaGreatDoorLo19c
import Derived.Test.YtfhhkmjjifbfeaaGreatDoorLo19d
import Derived.Test.YtfhhkmjjifbfeaaGreatDoorLoE
import Derived.Test.YtfhhkmjjifbfeaaGreatDoorLoC
import Derived.WalkKit
import Derived.ProofKit
import Derived.Handy
import Derived.WalkLawsBesides
import Derived.WalkSpells
import Derived.Lib.Hide
import Derived.Lib.SliceRun
import Derived.Deep.RegionLaw
import Derived.RegionTactic
import Derived.ChangeAlike
import Derived.WalkSmall
import Derived.Deep.QuietTactic
import Derived.BigQuiet
import Derived.OwnWalk
import Derived.Outline
import Derived.Deep.CutRange
import Derived.Deep.CutBlock
import Derived.LoopTactic
namespace Go.Proofs.YtfhhkmjjifbfeaaGreatDoor
open Go.ChangeShapes Go.WideShapes Go.ChangeAt Go.RowKit
set_option linter.unusedSimpArgs false
set_option linter.unusedVariables false

theorem rg_good12 (k i n t : Int) (b : ByteArray) (e s0 s1 s2 s3 s4 s5 : Int) (r : Bool) (hr : Lo.good ⟨k, i, n, t, b, e, s0, s1, s2, s3, s4, s5⟩ = r) (hok : Ev.ok ⟨k, i, n, t, b, e, s0, s1, s2, s3, s4, s5⟩) (w : World) :
    Calls Tryz.prog 9 #[.agg #[.int .i64 k, .int .i64 i, .int .i64 n, .int .i64 t, .string b, .int .i64 e, .int .i64 s0, .int .i64 s1, .int .i64 s2, .int .i64 s3, .int .i64 s4, .int .i64 s5]] w fun z w' => z = .returned (.bool r) ∧ Below w.heap.size w w' := by
  by_cases hlo : k < 1
  · obtain rfl : r = false := by
      rw [← hr]
      refine Bool.eq_false_iff.2 fun h => ?_
      have := Lo.good_k h
      dsimp only at this
      omega
    exact rg_good_lo k hlo i n t b e s0 s1 s2 s3 s4 s5 w
  by_cases hhi : 9 < k
  · obtain rfl : r = false := by
      rw [← hr]
      refine Bool.eq_false_iff.2 fun h => ?_
      have := Lo.good_k h
      dsimp only at this
      omega
    exact rg_good_hi k hhi i n t b e s0 s1 s2 s3 s4 s5 w
  have hk : k = 1 ∨ k = 2 ∨ k = 3 ∨ k = 4 ∨ k = 5 ∨ k = 6 ∨ k = 7 ∨ k = 8 ∨ k = 9 := by omega
  rcases hk with rfl | rfl | rfl | rfl | rfl | rfl | rfl | rfl | rfl
  · exact rg_good1 i n t b e s0 s1 s2 s3 s4 s5 r hr hok w
  · exact rg_good2 i n t b e s0 s1 s2 s3 s4 s5 r hr hok w
  · exact rg_good3 i n t b e s0 s1 s2 s3 s4 s5 r hr hok w
  · exact rg_good4 i n t b e s0 s1 s2 s3 s4 s5 r hr hok w
  · exact rg_good5 i n t b e s0 s1 s2 s3 s4 s5 r hr hok w
  · exact rg_good6 i n t b e s0 s1 s2 s3 s4 s5 r hr hok w
  · exact rg_good7 i n t b e s0 s1 s2 s3 s4 s5 r hr hok w
  · exact rg_good8 i n t b e s0 s1 s2 s3 s4 s5 r hr hok w
  · exact rg_good9 i n t b e s0 s1 s2 s3 s4 s5 r hr hok w
theorem rg_print12 (k i n t : Int) (b : ByteArray) (e s0 s1 s2 s3 s4 s5 : Int) (hok : Ev.ok ⟨k, i, n, t, b, e, s0, s1, s2, s3, s4, s5⟩) (hb : b.size ≤ 4000) (hg : Lo.good ⟨k, i, n, t, b, e, s0, s1, s2, s3, s4, s5⟩ = true) (R : ByteArray) (hR : Le.t (Lo.line ⟨k, i, n, t, b, e, s0, s1, s2, s3, s4, s5⟩) = R) (w : World) :
    Calls Tryz.prog 16 #[.agg #[.int .i64 k, .int .i64 i, .int .i64 n, .int .i64 t, .string b, .int .i64 e, .int .i64 s0, .int .i64 s1, .int .i64 s2, .int .i64 s3, .int .i64 s4, .int .i64 s5]] w fun z w' => z = .returned (.string R) ∧ Below w.heap.size w w' := by
  have g : ∀ v, Value.int .i64 v ∈ (Ev.c ⟨k, i, n, t, b, e, s0, s1, s2, s3, s4, s5⟩) → Lo.i64 v := fun v hv => bounds_i64 (hok.2 .i64 v hv)
  have gi := g i (by simp [Ev.c])
  have gn := g n (by simp [Ev.c])
  have gt := (g t (by simp [Ev.c])).2
  have ge := g e (by simp [Ev.c])
  have g0 := (g s0 (by simp [Ev.c])).2
  have g1 := g s1 (by simp [Ev.c])
  have g3 := g s3 (by simp [Ev.c])
  have g4 := g s4 (by simp [Ev.c])
  have hk := Lo.good_k hg
  dsimp only at hk
  rcases hk with rfl | rfl | rfl | rfl | rfl | rfl | rfl | rfl | rfl
  · exact rg_print1 i n t b e s0 s1 s2 s3 s4 s5 hb gi gn ge gt g0 g1 g3 g4 R hR w
  · exact rg_print2 i n t b e s0 s1 s2 s3 s4 s5 hb gi gn ge gt g0 g1 g3 g4 R hR w
  · exact rg_print3 i n t b e s0 s1 s2 s3 s4 s5 hb gi gn ge gt g0 g1 g3 g4 R hR w
  · exact rg_print4 i n t b e s0 s1 s2 s3 s4 s5 hb gi gn ge gt g0 g1 g3 g4 R hR w
  · exact rg_print5 i n t b e s0 s1 s2 s3 s4 s5 hb gi gn ge gt g0 g1 g3 g4 R hR w
  · exact rg_print6 i n t b e s0 s1 s2 s3 s4 s5 hb gi gn ge gt g0 g1 g3 g4 R hR w
  · exact rg_print7 i n t b e s0 s1 s2 s3 s4 s5 hb gi gn ge gt g0 g1 g3 g4 R hR w
  · exact rg_print8 i n t b e s0 s1 s2 s3 s4 s5 hb gi gn ge gt g0 g1 g3 g4 R hR w
  · exact rg_print9 i n t b e s0 s1 s2 s3 s4 s5 hb gi gn ge gt g0 g1 g3 g4 R hR w
end Go.Proofs.YtfhhkmjjifbfeaaGreatDoor
