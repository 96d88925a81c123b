/- Log: whether a step may be. -/
import Derived.Test.YtfhhkmjjifbfeaaGreatDoorLo3
import Derived.WalkKit
import Derived.ProofKit
import Derived.Handy
import Derived.WalkLawsBesides
import Derived.WalkSpells
import Derived.Lib.Hide
import Derived.Lib.SliceRun
import Derived.Deep.RegionLaw
import Derived.RegionTactic
import Derived.ChangeAlike
import Derived.WalkSmall
import Derived.Deep.QuietTactic
import Derived.BigQuiet
import Derived.OwnWalk
import Derived.Outline
import Derived.Deep.CutRange
import Derived.Deep.CutBlock
import Derived.LoopTactic
namespace Go.Proofs.YtfhhkmjjifbfeaaGreatDoor
open Go.ChangeShapes Go.WideShapes Go.ChangeAt Go.RowKit
set_option linter.unusedSimpArgs false
set_option linter.unusedVariables false

/-- Whether each part of a step is as it may be. -/
def Lo.mayS (s0 s1 s2 s3 s4 s5 : Int) : Bool := decide (0 ≤ s0) && (decide (0 ≤ s1) && decide (s1 ≤ 200)) && !((Lo.word s2).toList.isEmpty) && (decide (0 ≤ s3) && decide (s3 ≤ 7)) && (decide (0 ≤ s4) && decide (s4 ≤ 4096)) && !((Le.word s5).toList.isEmpty)
set_option maxRecDepth 20000 in
set_option maxHeartbeats 16000000 in
theorem lo_mayStep (s0 s1 s2 s3 s4 s5 : Int) (r : Bool) (hr : Lo.mayS s0 s1 s2 s3 s4 s5 = r) (w : World) (hwi : WI w) (hsi : SI w) :
    Calls Tryz.prog 41 #[.agg #[.int .i64 s0, .int .i64 s1, .int .i64 s2, .int .i64 s3, .int .i64 s4, .int .i64 s5]] w fun e w' => e = .returned (.bool r) ∧ Below w.heap.size w w' := by
  obtain ⟨r1, hr1⟩ : ∃ r, (decide (0 ≤ s1) && decide (s1 ≤ 200)) = r := ⟨_, rfl⟩
  obtain ⟨w2, hw2⟩ : ∃ x, Lo.word s2 = x := ⟨_, rfl⟩
  obtain ⟨r3, hr3⟩ : ∃ r, (decide (0 ≤ s3) && decide (s3 ≤ 7)) = r := ⟨_, rfl⟩
  obtain ⟨r4, hr4⟩ : ∃ r, (decide (0 ≤ s4) && decide (s4 ≤ 4096)) = r := ⟨_, rfl⟩
  obtain ⟨w5, hw5⟩ : ∃ x, Le.word s5 = x := ⟨_, rfl⟩
  have HX : Hid ((decide (0 ≤ s0) && r1 && !w2.toList.isEmpty && r3 && r4 && !w5.toList.isEmpty) = r) := Lib.hid (by rw [← hr, ← hr1, ← hw2, ← hr3, ← hr4, ← hw5]; rfl)
  have HR := Lib.hid (And.intro hr1 (And.intro hw2 (And.intro hr3 (And.intro hr4 hw5))))
  have k0 : Below w.heap.size w (w.alloc (.cells #[.int .i64 s0, .int .i64 s1, .int .i64 s2, .int .i64 s3, .int .i64 s4, .int .i64 s5] 24)) := (Below.refl _ _).alloc (Nat.le_refl _) _
  have HT : Hid (Below w.heap.size w (w.alloc (.cells #[.int .i64 s0, .int .i64 s1, .int .i64 s2, .int .i64 s3, .int .i64 s4, .int .i64 s5] 24)) ∧ WI (w.alloc (.cells #[.int .i64 s0, .int .i64 s1, .int .i64 s2, .int .i64 s3, .int .i64 s4, .int .i64 s5] 24)) ∧ SI (w.alloc (.cells #[.int .i64 s0, .int .i64 s1, .int .i64 s2, .int .i64 s3, .int .i64 s4, .int .i64 s5] 24))) := Lib.hid ⟨k0, hwi.below k0, hsi.below k0⟩
  have HB : Hid (Blk (w.alloc (.cells #[.int .i64 s0, .int .i64 s1, .int .i64 s2, .int .i64 s3, .int .i64 s4, .int .i64 s5] 24)) w.heap.size [.int .i64 s0, .int .i64 s1, .int .i64 s2, .int .i64 s3, .int .i64 s4, .int .i64 s5] 24) := Lib.hid (Blk.newA _ _ _)
  clear hr hr1 hw2 hr3 hr4 hw5 hwi hsi k0
  go_enter Tryz.func41, Tryz.ntmps41
  go_upto_region 1 with fail
  revert HT HB
  generalize (w.alloc (.cells #[.int .i64 s0, .int .i64 s1, .int .i64 s2, .int .i64 s3, .int .i64 s4, .int .i64 s5] 24)) = W0
  intro HT HB
  generalize hX : w.heap.size = X at HB ⊢
  clear hX
  have d0 := HB.out.cell (i := 0) rfl
  have d1 := HB.out.cell (i := 1) rfl
  have d2 := HB.out.cell (i := 2) rfl
  have d3 := HB.out.cell (i := 3) rfl
  have d4 := HB.out.cell (i := 4) rfl
  have d5 := HB.out.cell (i := 5) rfl
  by_cases h0 : 0 ≤ s0
  · have g0 : decide (0 ≤ s0) = true := by simp [h0]
    rw [g0] at HX
    cases r1 with
    | true =>
      cases hw2 : w2.toList.isEmpty with
      | false =>
        rw [hw2] at HX
        cases r3 with
        | true =>
          cases r4 with
          | true =>
            cases hw5 : w5.toList.isEmpty with
            | false =>
              rw [hw5] at HX
              go_wp2_with (first
                | (go_at_call 28; (with_reducible refine (le_within s1 0 200 _ HR.out.1 _).mono ?_); rintro e1 W2 ⟨rfl, rfl⟩)
                | (go_at_call 28; (with_reducible refine (le_within s3 0 7 _ HR.out.2.2.1 _).mono ?_); rintro e1 W2 ⟨rfl, rfl⟩)
                | (go_at_call 28; (with_reducible refine (le_within s4 0 4096 _ HR.out.2.2.2.1 _).mono ?_); rintro e1 W2 ⟨rfl, rfl⟩)
                | (go_at_call 10; (with_reducible refine (lo_what s2 w2 HR.out.2.1 _ HT.out.2.1).mono ?_); rintro e1 W2 ⟨rfl, rfl⟩)
                | (go_at_call 12; (with_reducible refine (le_status s5 w5 HR.out.2.2.2.2 _ HT.out.2.2).mono ?_); rintro e1 W2 ⟨rfl, rfl⟩))
              go_ret
              exact ⟨by rw [← HX.out]; rfl, HT.out.1⟩
            | true =>
              rw [hw5] at HX
              go_wp2_with (first
                | (go_at_call 28; (with_reducible refine (le_within s1 0 200 _ HR.out.1 _).mono ?_); rintro e1 W2 ⟨rfl, rfl⟩)
                | (go_at_call 28; (with_reducible refine (le_within s3 0 7 _ HR.out.2.2.1 _).mono ?_); rintro e1 W2 ⟨rfl, rfl⟩)
                | (go_at_call 28; (with_reducible refine (le_within s4 0 4096 _ HR.out.2.2.2.1 _).mono ?_); rintro e1 W2 ⟨rfl, rfl⟩)
                | (go_at_call 10; (with_reducible refine (lo_what s2 w2 HR.out.2.1 _ HT.out.2.1).mono ?_); rintro e1 W2 ⟨rfl, rfl⟩)
                | (go_at_call 12; (with_reducible refine (le_status s5 w5 HR.out.2.2.2.2 _ HT.out.2.2).mono ?_); rintro e1 W2 ⟨rfl, rfl⟩))
              go_ret
              exact ⟨by rw [← HX.out]; rfl, HT.out.1⟩
          | false =>
            go_wp2_with (first
              | (go_at_call 28; (with_reducible refine (le_within s1 0 200 _ HR.out.1 _).mono ?_); rintro e1 W2 ⟨rfl, rfl⟩)
              | (go_at_call 28; (with_reducible refine (le_within s3 0 7 _ HR.out.2.2.1 _).mono ?_); rintro e1 W2 ⟨rfl, rfl⟩)
              | (go_at_call 28; (with_reducible refine (le_within s4 0 4096 _ HR.out.2.2.2.1 _).mono ?_); rintro e1 W2 ⟨rfl, rfl⟩)
              | (go_at_call 10; (with_reducible refine (lo_what s2 w2 HR.out.2.1 _ HT.out.2.1).mono ?_); rintro e1 W2 ⟨rfl, rfl⟩)
              | (go_at_call 12; (with_reducible refine (le_status s5 w5 HR.out.2.2.2.2 _ HT.out.2.2).mono ?_); rintro e1 W2 ⟨rfl, rfl⟩))
            go_ret
            exact ⟨by rw [← HX.out]; rfl, HT.out.1⟩
        | false =>
          go_wp2_with (first
            | (go_at_call 28; (with_reducible refine (le_within s1 0 200 _ HR.out.1 _).mono ?_); rintro e1 W2 ⟨rfl, rfl⟩)
            | (go_at_call 28; (with_reducible refine (le_within s3 0 7 _ HR.out.2.2.1 _).mono ?_); rintro e1 W2 ⟨rfl, rfl⟩)
            | (go_at_call 28; (with_reducible refine (le_within s4 0 4096 _ HR.out.2.2.2.1 _).mono ?_); rintro e1 W2 ⟨rfl, rfl⟩)
            | (go_at_call 10; (with_reducible refine (lo_what s2 w2 HR.out.2.1 _ HT.out.2.1).mono ?_); rintro e1 W2 ⟨rfl, rfl⟩)
            | (go_at_call 12; (with_reducible refine (le_status s5 w5 HR.out.2.2.2.2 _ HT.out.2.2).mono ?_); rintro e1 W2 ⟨rfl, rfl⟩))
          go_ret
          exact ⟨by rw [← HX.out]; rfl, HT.out.1⟩
      | true =>
        rw [hw2] at HX
        go_wp2_with (first
          | (go_at_call 28; (with_reducible refine (le_within s1 0 200 _ HR.out.1 _).mono ?_); rintro e1 W2 ⟨rfl, rfl⟩)
          | (go_at_call 28; (with_reducible refine (le_within s3 0 7 _ HR.out.2.2.1 _).mono ?_); rintro e1 W2 ⟨rfl, rfl⟩)
          | (go_at_call 28; (with_reducible refine (le_within s4 0 4096 _ HR.out.2.2.2.1 _).mono ?_); rintro e1 W2 ⟨rfl, rfl⟩)
          | (go_at_call 10; (with_reducible refine (lo_what s2 w2 HR.out.2.1 _ HT.out.2.1).mono ?_); rintro e1 W2 ⟨rfl, rfl⟩)
          | (go_at_call 12; (with_reducible refine (le_status s5 w5 HR.out.2.2.2.2 _ HT.out.2.2).mono ?_); rintro e1 W2 ⟨rfl, rfl⟩))
        go_ret
        exact ⟨by rw [← HX.out]; rfl, HT.out.1⟩
    | false =>
      go_wp2_with (first
        | (go_at_call 28; (with_reducible refine (le_within s1 0 200 _ HR.out.1 _).mono ?_); rintro e1 W2 ⟨rfl, rfl⟩)
        | (go_at_call 28; (with_reducible refine (le_within s3 0 7 _ HR.out.2.2.1 _).mono ?_); rintro e1 W2 ⟨rfl, rfl⟩)
        | (go_at_call 28; (with_reducible refine (le_within s4 0 4096 _ HR.out.2.2.2.1 _).mono ?_); rintro e1 W2 ⟨rfl, rfl⟩)
        | (go_at_call 10; (with_reducible refine (lo_what s2 w2 HR.out.2.1 _ HT.out.2.1).mono ?_); rintro e1 W2 ⟨rfl, rfl⟩)
        | (go_at_call 12; (with_reducible refine (le_status s5 w5 HR.out.2.2.2.2 _ HT.out.2.2).mono ?_); rintro e1 W2 ⟨rfl, rfl⟩))
      go_ret
      exact ⟨by rw [← HX.out]; rfl, HT.out.1⟩
  · have g0 : decide (0 ≤ s0) = false := by simp [h0]
    rw [g0] at HX
    go_wp2_with (first
      | (go_at_call 28; (with_reducible refine (le_within s1 0 200 _ HR.out.1 _).mono ?_); rintro e1 W2 ⟨rfl, rfl⟩)
      | (go_at_call 28; (with_reducible refine (le_within s3 0 7 _ HR.out.2.2.1 _).mono ?_); rintro e1 W2 ⟨rfl, rfl⟩)
      | (go_at_call 28; (with_reducible refine (le_within s4 0 4096 _ HR.out.2.2.2.1 _).mono ?_); rintro e1 W2 ⟨rfl, rfl⟩)
      | (go_at_call 10; (with_reducible refine (lo_what s2 w2 HR.out.2.1 _ HT.out.2.1).mono ?_); rintro e1 W2 ⟨rfl, rfl⟩)
      | (go_at_call 12; (with_reducible refine (le_status s5 w5 HR.out.2.2.2.2 _ HT.out.2.2).mono ?_); rintro e1 W2 ⟨rfl, rfl⟩))
    go_ret
    exact ⟨by rw [← HX.out]; rfl, HT.out.1⟩
end Go.Proofs.YtfhhkmjjifbfeaaGreatDoor
