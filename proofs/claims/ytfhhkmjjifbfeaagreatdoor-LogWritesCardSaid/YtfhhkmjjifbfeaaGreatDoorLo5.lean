/- Log: whether an event may be. -/
import Derived.Test.YtfhhkmjjifbfeaaGreatDoorLo4
import Derived.WalkKit
import Derived.ProofKit
import Derived.Handy
import Derived.WalkLawsBesides
import Derived.WalkSpells
import Derived.Lib.Hide
import Derived.Lib.SliceRun
import Derived.Deep.RegionLaw
import Derived.RegionTactic
import Derived.ChangeAlike
import Derived.WalkSmall
import Derived.Deep.QuietTactic
import Derived.BigQuiet
import Derived.OwnWalk
import Derived.Outline
import Derived.Deep.CutRange
import Derived.Deep.CutBlock
import Derived.LoopTactic
namespace Go.Proofs.YtfhhkmjjifbfeaaGreatDoor
open Go.ChangeShapes Go.WideShapes Go.ChangeAt Go.RowKit
set_option linter.unusedSimpArgs false
set_option linter.unusedVariables false

/-- Whether each part that an event's kind has is as it may be. -/
def Lo.may (x : Ev) : Bool :=
  if x.k = 1 ∨ x.k = 7 then decide (0 ≤ x.t)
  else if x.k = 2 then (decide (0 ≤ x.i) && decide (x.i ≤ 4095)) && (decide (0 ≤ x.n) && decide (x.n ≤ 63))
  else if x.k = 3 then (decide (-1 ≤ x.i) && decide (x.i ≤ 4095)) && (decide (1 ≤ x.e) && decide (x.e ≤ 13))
  else if x.k = 4 ∨ x.k = 6 then (decide (0 ≤ x.i) && decide (x.i ≤ 4095)) && (decide (1 ≤ (x.b.size : Int)) && decide ((x.b.size : Int) ≤ 4096))
  else if x.k = 5 then (decide (0 ≤ x.i) && decide (x.i ≤ 4095))
  else if x.k = 8 then (decide (0 ≤ x.i) && decide (x.i ≤ 4095)) && Lo.mayS x.s0 x.s1 x.s2 x.s3 x.s4 x.s5
  else decide (x.k = 9)
set_option maxRecDepth 20000 in
set_option maxHeartbeats 16000000 in
theorem lo_may (k i n t : Int) (b : ByteArray) (e s0 s1 s2 s3 s4 s5 : Int) (r : Bool) (hr : Lo.may ⟨k, i, n, t, b, e, s0, s1, s2, s3, s4, s5⟩ = r) (w : World) (hwi : WI w) (hsi : SI w) :
    Calls Tryz.prog 27 #[.agg #[.int .i64 k, .int .i64 i, .int .i64 n, .int .i64 t, .string b, .int .i64 e, .int .i64 s0, .int .i64 s1, .int .i64 s2, .int .i64 s3, .int .i64 s4, .int .i64 s5]] w fun e w' => e = .returned (.bool r) ∧ Below w.heap.size w w' := by
  obtain ⟨ri, hri⟩ : ∃ r, (decide (0 ≤ i) && decide (i ≤ 4095)) = r := ⟨_, rfl⟩
  have HI := Lib.hid hri
  have k0 : Below w.heap.size w (w.alloc (.cells #[.int .i64 k, .int .i64 i, .int .i64 n, .int .i64 t, .string b, .int .i64 e, .int .i64 s0, .int .i64 s1, .int .i64 s2, .int .i64 s3, .int .i64 s4, .int .i64 s5] 26)) := (Below.refl _ _).alloc (Nat.le_refl _) _
  have HT : Hid (Below w.heap.size w (w.alloc (.cells #[.int .i64 k, .int .i64 i, .int .i64 n, .int .i64 t, .string b, .int .i64 e, .int .i64 s0, .int .i64 s1, .int .i64 s2, .int .i64 s3, .int .i64 s4, .int .i64 s5] 26)) ∧ WI (w.alloc (.cells #[.int .i64 k, .int .i64 i, .int .i64 n, .int .i64 t, .string b, .int .i64 e, .int .i64 s0, .int .i64 s1, .int .i64 s2, .int .i64 s3, .int .i64 s4, .int .i64 s5] 26)) ∧ SI (w.alloc (.cells #[.int .i64 k, .int .i64 i, .int .i64 n, .int .i64 t, .string b, .int .i64 e, .int .i64 s0, .int .i64 s1, .int .i64 s2, .int .i64 s3, .int .i64 s4, .int .i64 s5] 26))) := Lib.hid ⟨k0, hwi.below k0, hsi.below k0⟩
  have HB : Hid (Blk (w.alloc (.cells #[.int .i64 k, .int .i64 i, .int .i64 n, .int .i64 t, .string b, .int .i64 e, .int .i64 s0, .int .i64 s1, .int .i64 s2, .int .i64 s3, .int .i64 s4, .int .i64 s5] 26)) w.heap.size [.int .i64 k, .int .i64 i, .int .i64 n, .int .i64 t, .string b, .int .i64 e, .int .i64 s0, .int .i64 s1, .int .i64 s2, .int .i64 s3, .int .i64 s4, .int .i64 s5] 26) := Lib.hid (Blk.newA _ _ _)
  clear hri hwi hsi k0
  go_enter Tryz.func27, Tryz.ntmps27
  go_upto_region 1 with fail
  revert HT HB
  generalize (w.alloc (.cells #[.int .i64 k, .int .i64 i, .int .i64 n, .int .i64 t, .string b, .int .i64 e, .int .i64 s0, .int .i64 s1, .int .i64 s2, .int .i64 s3, .int .i64 s4, .int .i64 s5] 26)) = W0
  intro HT HB
  generalize hX : w.heap.size = X at HB ⊢
  clear hX
  have d0 := HB.out.cell (i := 0) rfl
  have d1 := HB.out.cell (i := 1) rfl
  have d2 := HB.out.cell (i := 2) rfl
  have d3 := HB.out.cell (i := 3) rfl
  have d4 := HB.out.cell (i := 4) rfl
  have d5 := HB.out.cell (i := 5) rfl
  have d6 := HB.out.cell (i := 6) rfl
  have d7 := HB.out.cell (i := 7) rfl
  have d8 := HB.out.cell (i := 8) rfl
  have d9 := HB.out.cell (i := 9) rfl
  have d10 := HB.out.cell (i := 10) rfl
  have d11 := HB.out.cell (i := 11) rfl
  by_cases h1 : k = 1
  · subst h1
    have HX : Hid (decide (0 ≤ t) = r) := Lib.hid (by rw [← hr]; rfl)
    clear hr
    go_wp2_with (first
      | (go_at_call 28; (with_reducible refine (le_within i 0 4095 _ HI.out _).mono ?_); rintro e1 W2 ⟨rfl, rfl⟩))
    go_ret
    exact ⟨by rw [← HX.out]; rfl, HT.out.1⟩
  by_cases h7 : k = 7
  · subst h7
    have HX : Hid (decide (0 ≤ t) = r) := Lib.hid (by rw [← hr]; rfl)
    clear hr
    go_wp2_with (first
      | (go_at_call 28; (with_reducible refine (le_within i 0 4095 _ HI.out _).mono ?_); rintro e1 W2 ⟨rfl, rfl⟩))
    go_ret
    exact ⟨by rw [← HX.out]; rfl, HT.out.1⟩
  by_cases h2 : k = 2
  · subst h2
    cases ri with
    | false =>
      have HX : Hid (false = r) := Lib.hid (by rw [← hr]; unfold Lo.may; simp only [HI.out, Bool.false_and]; rfl)
      clear hr
      go_wp2_with (first
        | (go_at_call 28; (with_reducible refine (le_within i 0 4095 _ HI.out _).mono ?_); rintro e1 W2 ⟨rfl, rfl⟩))
      go_ret
      exact ⟨by rw [← HX.out]; rfl, HT.out.1⟩
    | true =>
      obtain ⟨q, hq⟩ : ∃ q, (decide (0 ≤ n) && decide (n ≤ 63)) = q := ⟨_, rfl⟩
      have HX : Hid (q = r) := Lib.hid (by rw [← hr]; unfold Lo.may; simp only [HI.out, Bool.true_and]; exact hq.symm)
      have HQ := Lib.hid hq
      clear hr hq
      go_wp2_with (first
        | (go_at_call 28; (with_reducible refine (le_within i 0 4095 _ HI.out _).mono ?_); rintro e1 W2 ⟨rfl, rfl⟩)
        | (go_at_call 28; (with_reducible refine (le_within n 0 63 _ HQ.out _).mono ?_); rintro e1 W2 ⟨rfl, rfl⟩))
      go_ret
      exact ⟨by rw [← HX.out]; rfl, HT.out.1⟩
  by_cases h3 : k = 3
  · subst h3
    obtain ⟨q, hq⟩ : ∃ q, (decide (-1 ≤ i) && decide (i ≤ 4095)) = q := ⟨_, rfl⟩
    obtain ⟨p, hp⟩ : ∃ p, (decide (1 ≤ e) && decide (e ≤ 13)) = p := ⟨_, rfl⟩
    have HX : Hid ((q && p) = r) := Lib.hid (by rw [← hr, ← hq, ← hp]; rfl)
    have HQ := Lib.hid (And.intro hq hp)
    clear hr hq hp
    cases q with
    | false =>
      go_wp2_with (first
        | (go_at_call 28; (with_reducible refine (le_within i 0 4095 _ HI.out _).mono ?_); rintro e1 W2 ⟨rfl, rfl⟩)
        | (go_at_call 28; (with_reducible refine (le_within i (-1) 4095 _ HQ.out.1 _).mono ?_); rintro e1 W2 ⟨rfl, rfl⟩)
        | (go_at_call 28; (with_reducible refine (le_within e 1 13 _ HQ.out.2 _).mono ?_); rintro e1 W2 ⟨rfl, rfl⟩))
      go_ret
      exact ⟨by rw [← HX.out]; rfl, HT.out.1⟩
    | true =>
      go_wp2_with (first
        | (go_at_call 28; (with_reducible refine (le_within i 0 4095 _ HI.out _).mono ?_); rintro e1 W2 ⟨rfl, rfl⟩)
        | (go_at_call 28; (with_reducible refine (le_within i (-1) 4095 _ HQ.out.1 _).mono ?_); rintro e1 W2 ⟨rfl, rfl⟩)
        | (go_at_call 28; (with_reducible refine (le_within e 1 13 _ HQ.out.2 _).mono ?_); rintro e1 W2 ⟨rfl, rfl⟩))
      go_ret
      exact ⟨by rw [← HX.out]; rfl, HT.out.1⟩
  by_cases h4 : k = 4
  · subst h4
    cases ri with
    | false =>
      have HX : Hid (false = r) := Lib.hid (by rw [← hr]; unfold Lo.may; simp only [HI.out, Bool.false_and]; rfl)
      clear hr
      go_wp2_with (first
        | (go_at_call 28; (with_reducible refine (le_within i 0 4095 _ HI.out _).mono ?_); rintro e1 W2 ⟨rfl, rfl⟩))
      go_ret
      exact ⟨by rw [← HX.out]; rfl, HT.out.1⟩
    | true =>
      obtain ⟨q, hq⟩ : ∃ q, (decide (1 ≤ (b.size : Int)) && decide ((b.size : Int) ≤ 4096)) = q := ⟨_, rfl⟩
      have HX : Hid (q = r) := Lib.hid (by rw [← hr]; unfold Lo.may; simp only [HI.out, Bool.true_and]; exact hq.symm)
      have HQ := Lib.hid hq
      clear hr hq
      go_wp2_with (first
        | (go_at_call 28; (with_reducible refine (le_within i 0 4095 _ HI.out _).mono ?_); rintro e1 W2 ⟨rfl, rfl⟩)
        | (go_at_call 28; (with_reducible refine (le_within (b.size : Int) 1 4096 _ HQ.out _).mono ?_); rintro e1 W2 ⟨rfl, rfl⟩))
      go_ret
      exact ⟨by rw [← HX.out]; rfl, HT.out.1⟩
  by_cases h6 : k = 6
  · subst h6
    cases ri with
    | false =>
      have HX : Hid (false = r) := Lib.hid (by rw [← hr]; unfold Lo.may; simp only [HI.out, Bool.false_and]; rfl)
      clear hr
      go_wp2_with (first
        | (go_at_call 28; (with_reducible refine (le_within i 0 4095 _ HI.out _).mono ?_); rintro e1 W2 ⟨rfl, rfl⟩))
      go_ret
      exact ⟨by rw [← HX.out]; rfl, HT.out.1⟩
    | true =>
      obtain ⟨q, hq⟩ : ∃ q, (decide (1 ≤ (b.size : Int)) && decide ((b.size : Int) ≤ 4096)) = q := ⟨_, rfl⟩
      have HX : Hid (q = r) := Lib.hid (by rw [← hr]; unfold Lo.may; simp only [HI.out, Bool.true_and]; exact hq.symm)
      have HQ := Lib.hid hq
      clear hr hq
      go_wp2_with (first
        | (go_at_call 28; (with_reducible refine (le_within i 0 4095 _ HI.out _).mono ?_); rintro e1 W2 ⟨rfl, rfl⟩)
        | (go_at_call 28; (with_reducible refine (le_within (b.size : Int) 1 4096 _ HQ.out _).mono ?_); rintro e1 W2 ⟨rfl, rfl⟩))
      go_ret
      exact ⟨by rw [← HX.out]; rfl, HT.out.1⟩
  by_cases h5 : k = 5
  · subst h5
    have HX : Hid (ri = r) := Lib.hid (by rw [← hr, ← HI.out]; rfl)
    clear hr
    go_wp2_with (first
      | (go_at_call 28; (with_reducible refine (le_within i 0 4095 _ HI.out _).mono ?_); rintro e1 W2 ⟨rfl, rfl⟩))
    go_ret
    exact ⟨by rw [← HX.out]; rfl, HT.out.1⟩
  by_cases h8 : k = 8
  · subst h8
    cases ri with
    | false =>
      have HX : Hid (false = r) := Lib.hid (by rw [← hr]; unfold Lo.may; simp only [HI.out, Bool.false_and]; rfl)
      clear hr
      go_wp2_with (first
        | (go_at_call 28; (with_reducible refine (le_within i 0 4095 _ HI.out _).mono ?_); rintro e1 W2 ⟨rfl, rfl⟩))
      go_ret
      exact ⟨by rw [← HX.out]; rfl, HT.out.1⟩
    | true =>
      obtain ⟨q, hq⟩ : ∃ q, Lo.mayS s0 s1 s2 s3 s4 s5 = q := ⟨_, rfl⟩
      have HX : Hid (q = r) := Lib.hid (by rw [← hr]; unfold Lo.may; simp only [HI.out, Bool.true_and]; exact hq.symm)
      have HQ := Lib.hid hq
      clear hr hq
      go_wp2_with (first
        | (go_at_call 28; (with_reducible refine (le_within i 0 4095 _ HI.out _).mono ?_); rintro e1 W2 ⟨rfl, rfl⟩)
        | (go_at_call 41; (with_reducible refine (lo_mayStep s0 s1 s2 s3 s4 s5 _ HQ.out _ HT.out.2.1 HT.out.2.2).mono ?_); rintro e1 W2 ⟨rfl, q3⟩; have HU := Lib.hid (HT.out.1.trans (q3.mono HT.out.1.size)); clear q3))
      go_ret
      exact ⟨by rw [← HX.out]; rfl, HU.out⟩
  by_cases h9 : k = 9
  · subst h9
    have HX : Hid (true = r) := Lib.hid (by rw [← hr]; rfl)
    clear hr
    go_wp2_with (first
      | (go_at_call 28; (with_reducible refine (le_within i 0 4095 _ HI.out _).mono ?_); rintro e1 W2 ⟨rfl, rfl⟩))
    go_ret
    exact ⟨by rw [← HX.out]; rfl, HT.out.1⟩
  have HX : Hid (false = r) := Lib.hid (by rw [← hr]; unfold Lo.may; dsimp only; rw [if_neg (by simp [h1, h7]), if_neg h2, if_neg h3, if_neg (by simp [h4, h6]), if_neg h5, if_neg h8]; simp [h9])
  have b1 : (k == 1) = false := by simp [h1]
  have b7 : (k == 7) = false := by simp [h7]
  have b2 : (k == 2) = false := by simp [h2]
  have b3 : (k == 3) = false := by simp [h3]
  have b4 : (k == 4) = false := by simp [h4]
  have b6 : (k == 6) = false := by simp [h6]
  have b5 : (k == 5) = false := by simp [h5]
  have b8 : (k == 8) = false := by simp [h8]
  have b9 : (k == 9) = false := by simp [h9]
  clear hr h1 h7 h2 h3 h4 h6 h5 h8 h9
  go_wp2_with (first
    | (go_at_call 28; (with_reducible refine (le_within i 0 4095 _ HI.out _).mono ?_); rintro e1 W2 ⟨rfl, rfl⟩))
  go_ret
  exact ⟨by rw [← HX.out]; rfl, HT.out.1⟩
end Go.Proofs.YtfhhkmjjifbfeaaGreatDoor
