/- Log: the line of an event. -/
import Derived.Test.YtfhhkmjjifbfeaaGreatDoorLo8
import Derived.Deep.RegionHeld3
import Derived.OpenShut
import Derived.WalkKit
import Derived.ProofKit
import Derived.Handy
import Derived.WalkLawsBesides
import Derived.WalkSpells
import Derived.Lib.Hide
import Derived.Lib.SliceRun
import Derived.Deep.RegionLaw
import Derived.RegionTactic
import Derived.ChangeAlike
import Derived.WalkSmall
import Derived.Deep.QuietTactic
import Derived.BigQuiet
import Derived.OwnWalk
import Derived.Outline
import Derived.Deep.CutRange
import Derived.Deep.CutBlock
import Derived.LoopTactic
namespace Go.Proofs.YtfhhkmjjifbfeaaGreatDoor
open Go.ChangeShapes Go.WideShapes Go.ChangeAt Go.RowKit
set_option linter.unusedSimpArgs false
set_option linter.unusedVariables false

set_option maxRecDepth 20000 in
set_option maxHeartbeats 16000000 in
theorem lo_printN (k i n t : Int) (b : ByteArray) (e s0 s1 s2 s3 s4 s5 : Int) (hg : Lo.good ⟨k, i, n, t, b, e, s0, s1, s2, s3, s4, s5⟩ = false) (hok : Ev.ok ⟨k, i, n, t, b, e, s0, s1, s2, s3, s4, s5⟩) (w : World) (htab : Lib.TabIs Tryz.prog w "internal/strconv.uint64pow10" .u64 Lib.pow10Tab) (hwi : WI w) (hsi : SI w) :
    Calls Tryz.prog 7 #[.agg #[.int .i64 k, .int .i64 i, .int .i64 n, .int .i64 t, .string b, .int .i64 e, .int .i64 s0, .int .i64 s1, .int .i64 s2, .int .i64 s3, .int .i64 s4, .int .i64 s5]] w fun e w' => e = .returned (.tuple #[.string { data := #[] }, .int .i64 2]) ∧ Below w.heap.size w w' := by
  obtain ⟨X, hX⟩ : ∃ X, w.heap.size = X := ⟨_, rfl⟩
  have k0 : Below w.heap.size w (w.alloc (.cells #[.int .i64 k, .int .i64 i, .int .i64 n, .int .i64 t, .string b, .int .i64 e, .int .i64 s0, .int .i64 s1, .int .i64 s2, .int .i64 s3, .int .i64 s4, .int .i64 s5] 26)) := (Below.refl _ _).alloc (Nat.le_refl _) _
  have HS : Hid (LOG w (w.alloc (.cells #[.int .i64 k, .int .i64 i, .int .i64 n, .int .i64 t, .string b, .int .i64 e, .int .i64 s0, .int .i64 s1, .int .i64 s2, .int .i64 s3, .int .i64 s4, .int .i64 s5] 26)) X [.int .i64 k, .int .i64 i, .int .i64 n, .int .i64 t, .string b, .int .i64 e, .int .i64 s0, .int .i64 s1, .int .i64 s2, .int .i64 s3, .int .i64 s4, .int .i64 s5] 26) := Lib.hid ⟨by rw [← hX]; exact Blk.newA _ _ _, tab_below k0 htab, hwi.below k0, hsi.below k0, k0, by simp⟩
  have HG := Lib.hid (And.intro hg hok)
  clear hg hok htab hwi hsi k0
  go_enter Tryz.func7, Tryz.ntmps7
  go_upto_region 1 with fail
  clear hX
  revert HS
  generalize (w.alloc (.cells #[.int .i64 k, .int .i64 i, .int .i64 n, .int .i64 t, .string b, .int .i64 e, .int .i64 s0, .int .i64 s1, .int .i64 s2, .int .i64 s3, .int .i64 s4, .int .i64 s5] 26)) = W1
  intro HS
  have d0 := HS.out.bx.cell (i := 0) rfl
  have d1 := HS.out.bx.cell (i := 1) rfl
  have d2 := HS.out.bx.cell (i := 2) rfl
  have d3 := HS.out.bx.cell (i := 3) rfl
  have d4 := HS.out.bx.cell (i := 4) rfl
  have d5 := HS.out.bx.cell (i := 5) rfl
  have d6 := HS.out.bx.cell (i := 6) rfl
  have d7 := HS.out.bx.cell (i := 7) rfl
  have d8 := HS.out.bx.cell (i := 8) rfl
  have d9 := HS.out.bx.cell (i := 9) rfl
  have d10 := HS.out.bx.cell (i := 10) rfl
  have d11 := HS.out.bx.cell (i := 11) rfl
  go_wp2_with (go_at_call 8; (with_reducible refine (lo_good k i n t b e s0 s1 s2 s3 s4 s5 false HG.out.1 HG.out.2 _ HS.out.wi HS.out.si).mono ?_); rintro e1 V1 ⟨rfl, q3⟩; have HSn := Lib.hid (HS.out.below q3); clear HS; have HS := HSn; clear HSn q3)
  go_ret2
  exact ⟨rfl, HS.out.be⟩
theorem Lo.good_k {x : Ev} (h : Lo.good x = true) : x.k = 1 ∨ x.k = 2 ∨ x.k = 3 ∨ x.k = 4 ∨ x.k = 5 ∨ x.k = 6 ∨ x.k = 7 ∨ x.k = 8 ∨ x.k = 9 := by
  unfold Lo.good at h
  rw [Bool.and_eq_true] at h
  have h2 := h.2
  unfold Lo.may at h2
  by_cases h1 : x.k = 1 ∨ x.k = 7
  · omega
  rw [if_neg h1] at h2
  by_cases c2 : x.k = 2
  · omega
  rw [if_neg c2] at h2
  by_cases c3 : x.k = 3
  · omega
  rw [if_neg c3] at h2
  by_cases c4 : x.k = 4 ∨ x.k = 6
  · omega
  rw [if_neg c4] at h2
  by_cases c5 : x.k = 5
  · omega
  rw [if_neg c5] at h2
  by_cases c8 : x.k = 8
  · omega
  rw [if_neg c8, decide_eq_true_eq] at h2
  omega
/-- An event's line, and the error that stands beside it. -/
noncomputable def Lo.pr (x : Ev) : ByteArray × Int := if Lo.good x = true then (Le.t (Lo.line x), 0) else ({ data := #[] }, 2)
theorem lo_print (x : Ev) (hok : x.ok) (hb : x.b.size ≤ 4000) (R : ByteArray) (er : Int) (hR : Lo.pr x = (R, er)) (w : World) (htab : Lib.TabIs Tryz.prog w "internal/strconv.uint64pow10" .u64 Lib.pow10Tab) (hwi : WI w) (hsi : SI w) :
    Calls Tryz.prog 7 #[.agg x.c.toArray] w fun e w' => e = .returned (.tuple #[.string R, .int .i64 er]) ∧ Below w.heap.size w w' := by
  obtain ⟨k, i, n, t, b, e, s0, s1, s2, s3, s4, s5⟩ := x
  unfold Lo.pr at hR
  by_cases hg : Lo.good ⟨k, i, n, t, b, e, s0, s1, s2, s3, s4, s5⟩ = true
  · rw [if_pos hg] at hR
    injection hR with hR1 hR2
    subst hR2
    have g : ∀ v, Value.int .i64 v ∈ (Ev.c ⟨k, i, n, t, b, e, s0, s1, s2, s3, s4, s5⟩) → Lo.i64 v := fun v hv => bounds_i64 (hok.2 .i64 v hv)
    have gi := g i (by simp [Ev.c])
    have gn := g n (by simp [Ev.c])
    have gt := (g t (by simp [Ev.c])).2
    have ge := g e (by simp [Ev.c])
    have g0 := (g s0 (by simp [Ev.c])).2
    have g1 := g s1 (by simp [Ev.c])
    have g3 := g s3 (by simp [Ev.c])
    have g4 := g s4 (by simp [Ev.c])
    have hk := Lo.good_k hg
    dsimp only at hk
    rcases hk with rfl | rfl | rfl | rfl | rfl | rfl | rfl | rfl | rfl
    · exact lo_print1 i n t b e s0 s1 s2 s3 s4 s5 hg hok hb gi gn ge gt g0 g1 g3 g4 R hR1 w htab hwi hsi
    · exact lo_print2 i n t b e s0 s1 s2 s3 s4 s5 hg hok hb gi gn ge gt g0 g1 g3 g4 R hR1 w htab hwi hsi
    · exact lo_print3 i n t b e s0 s1 s2 s3 s4 s5 hg hok hb gi gn ge gt g0 g1 g3 g4 R hR1 w htab hwi hsi
    · exact lo_print4 i n t b e s0 s1 s2 s3 s4 s5 hg hok hb gi gn ge gt g0 g1 g3 g4 R hR1 w htab hwi hsi
    · exact lo_print5 i n t b e s0 s1 s2 s3 s4 s5 hg hok hb gi gn ge gt g0 g1 g3 g4 R hR1 w htab hwi hsi
    · exact lo_print6 i n t b e s0 s1 s2 s3 s4 s5 hg hok hb gi gn ge gt g0 g1 g3 g4 R hR1 w htab hwi hsi
    · exact lo_print7 i n t b e s0 s1 s2 s3 s4 s5 hg hok hb gi gn ge gt g0 g1 g3 g4 R hR1 w htab hwi hsi
    · exact lo_print8 i n t b e s0 s1 s2 s3 s4 s5 hg hok hb gi gn ge gt g0 g1 g3 g4 R hR1 w htab hwi hsi
    · exact lo_print9 i n t b e s0 s1 s2 s3 s4 s5 hg hok hb gi gn ge gt g0 g1 g3 g4 R hR1 w htab hwi hsi
  · rw [if_neg hg] at hR
    injection hR with hR1 hR2
    subst hR1 hR2
    exact lo_printN k i n t b e s0 s1 s2 s3 s4 s5 (by simpa using hg) hok w htab hwi hsi
end Go.Proofs.YtfhhkmjjifbfeaaGreatDoor
