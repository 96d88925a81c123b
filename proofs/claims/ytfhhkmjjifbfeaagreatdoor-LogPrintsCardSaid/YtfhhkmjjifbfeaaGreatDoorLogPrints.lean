/- P30.1 to P30.3: for every event (its bytes cut to 24): whether it has a line, its line, and that it comes back from it; and the words. No condition but what the card ties. ! tab log -/
import Derived.Test.YtfhhkmjjifbfeaaGreatDoorOpen
import Derived.Test.YtfhhkmjjifbfeaaGreatDoorCards
import Derived.Test.YtfhhkmjjifbfeaaGreatDoorTie
import Derived.WalkKit
import Derived.Deep.DeepHandedRow
import Derived.Shelf.Vars
import Derived.Stop.LaidErr
import Derived.Lib.LaidTab
import Derived.ProofKit
import Derived.OpenShut
import Derived.Test.YtfhhkmjjifbfeaaGreatDoorLo21
import Derived.Test.YtfhhkmjjifbfeaaGreatDoorLoC
import Derived.Test.YtfhhkmjjifbfeaaGreatDoorClass
namespace Go.Proofs.YtfhhkmjjifbfeaaGreatDoor.logPrints
open Go.Joins Go.ChangeShapes Go.WideShapes Go.ChangeAt Go.RowKit Go.Deep
open Go.ChangeMaps (open_string)
set_option linter.unusedSimpArgs false
set_option linter.unusedVariables false

set_option maxRecDepth 20000 in
set_option maxHeartbeats 16000000 in

theorem walk (x0 : Ev) (a1 : Int) (w : World) (htab : Lib.TabIs Tryz.prog w "internal/strconv.uint64pow10" .u64 Lib.pow10Tab) (hni : NI w) (hwi : WI w) (hsi : SI w) (wx0 : x0.ok) (w1 : (Lit.int .i64 a1).wf = true) :
    Calls Tryz.prog 3 #[.agg x0.c.toArray, .int .i64 a1] w fun e w' => e = .returned (.bool true) ∧ Below w.heap.size w w' := by
  obtain ⟨k, i, n, t, b0, e, s0, s1, s2, s3, s4, s5⟩ := x0
  obtain ⟨b, hb⟩ : ∃ b, cutE b0 24 = b := ⟨_, rfl⟩
  have hb24 : b.size ≤ 24 := by rw [← hb]; exact cutE_le _ _
  have hok : Ev.ok ⟨k, i, n, t, b, e, s0, s1, s2, s3, s4, s5⟩ := by
    have h := Ev.cut_ok wx0
    unfold Ev.cut at h
    dsimp only at h
    rw [hb] at h
    exact h
  have hb0 : b0.size ≤ maxLen := wx0.1
  obtain ⟨R, er, hp⟩ : ∃ R er, Lo.pr ⟨k, i, n, t, b, e, s0, s1, s2, s3, s4, s5⟩ = (R, er) := ⟨_, _, rfl⟩
  obtain ⟨gg, hg⟩ : ∃ g, Lo.good ⟨k, i, n, t, b, e, s0, s1, s2, s3, s4, s5⟩ = g := ⟨_, rfl⟩
  obtain ⟨wd, hwd⟩ : ∃ x, Lo.word a1 = x := ⟨_, rfl⟩
  obtain ⟨st, hst⟩ : ∃ x, Le.word a1 = x := ⟨_, rfl⟩
  have HS : Hid (b.size ≤ 4000 ∧ Ev.ok ⟨k, i, n, t, b, e, s0, s1, s2, s3, s4, s5⟩ ∧ Lo.pr ⟨k, i, n, t, b, e, s0, s1, s2, s3, s4, s5⟩ = (R, er) ∧ Lo.good ⟨k, i, n, t, b, e, s0, s1, s2, s3, s4, s5⟩ = gg ∧ Lo.word a1 = wd ∧ Le.word a1 = st) := Lib.hid ⟨by omega, hok, hp, hg, hwd, hst⟩
  have HV : Hid (cutE b0 24 = b ∧ b0.size ≤ maxLen ∧ b.size ≤ 24) := Lib.hid ⟨hb, hb0, hb24⟩
  have HI := Lib.hid (And.intro htab (And.intro hni (And.intro hwi hsi)))
  have eqp : ∀ W : World, (Op.equalIn 10000 26 (.agg #[.int .i64 k, .int .i64 i, .int .i64 n, .int .i64 t, .string b, .int .i64 e, .int .i64 s0, .int .i64 s1, .int .i64 s2, .int .i64 s3, .int .i64 s4, .int .i64 s5]) (.agg #[.int .i64 k, .int .i64 i, .int .i64 n, .int .i64 t, .string b, .int .i64 e, .int .i64 s0, .int .i64 s1, .int .i64 s2, .int .i64 s3, .int .i64 s4, .int .i64 s5])).run Tryz.prog W = .ok true W := fun W => by
    have h := eqEv ⟨k, i, n, t, b, e, s0, s1, s2, s3, s4, s5⟩ ⟨k, i, n, t, b, e, s0, s1, s2, s3, s4, s5⟩ HS.out.2.1 HS.out.2.1 W
    rw [decide_eq_true rfl] at h
    exact h
  obtain ⟨X, hX⟩ : ∃ X, w.heap.size = X := ⟨_, rfl⟩
  have HX : Hid (w.heap.size ≤ X) := Lib.hid (by omega)
  have HB : Hid (Blk (w.alloc (.cells #[.int .i64 k, .int .i64 i, .int .i64 n, .int .i64 t, .string b0, .int .i64 e, .int .i64 s0, .int .i64 s1, .int .i64 s2, .int .i64 s3, .int .i64 s4, .int .i64 s5] 26)) X [.int .i64 k, .int .i64 i, .int .i64 n, .int .i64 t, .string b0, .int .i64 e, .int .i64 s0, .int .i64 s1, .int .i64 s2, .int .i64 s3, .int .i64 s4, .int .i64 s5] 26 ∧ Below w.heap.size w (w.alloc (.cells #[.int .i64 k, .int .i64 i, .int .i64 n, .int .i64 t, .string b0, .int .i64 e, .int .i64 s0, .int .i64 s1, .int .i64 s2, .int .i64 s3, .int .i64 s4, .int .i64 s5] 26))) := Lib.hid ⟨by rw [← hX]; exact Blk.newA _ _ _, (Below.refl _ _).alloc (Nat.le_refl _) _⟩
  clear hb hb24 hok hb0 hp hg hwd hst wx0 w1 htab hni hwi hsi
  show Calls Tryz.prog 3 #[.agg #[.int .i64 k, .int .i64 i, .int .i64 n, .int .i64 t, .string b0, .int .i64 e, .int .i64 s0, .int .i64 s1, .int .i64 s2, .int .i64 s3, .int .i64 s4, .int .i64 s5], .int .i64 a1] w _
  go_enter Tryz.func3, Tryz.ntmps3
  go_upto_region 1 with fail
  clear hX
  revert HB
  generalize (w.alloc (.cells #[.int .i64 k, .int .i64 i, .int .i64 n, .int .i64 t, .string b0, .int .i64 e, .int .i64 s0, .int .i64 s1, .int .i64 s2, .int .i64 s3, .int .i64 s4, .int .i64 s5] 26)) = W1
  intro HB
  have d4 := HB.out.1.cell (i := 4) rfl
  have f4 := HB.out.1.free 4
  go_upto_region 2 with (go_at_call 6; (with_reducible refine (ev_cut b0 b 24 (by omega) HV.out.2.1 HV.out.1 24 rfl _).mono ?_); rintro e1 V1 ⟨rfl, rfl⟩)
  have HB2 : Hid (Blk (W1.setCell ⟨X, 4, none⟩ (.string b)) X [.int .i64 k, .int .i64 i, .int .i64 n, .int .i64 t, .string b, .int .i64 e, .int .i64 s0, .int .i64 s1, .int .i64 s2, .int .i64 s3, .int .i64 s4, .int .i64 s5] 26 ∧ Below w.heap.size w (W1.setCell ⟨X, 4, none⟩ (.string b))) := Lib.hid ⟨HB.out.1.set 4 _, HB.out.2.trans (((Chg.refl [X] W1).set (Or.inl (List.mem_singleton.2 rfl)) 4 (.string b)).below HB.out.2.size (by intro y hy; simp at hy; rw [hy]; exact HX.out))⟩
  clear HB d4 f4
  revert HB2
  generalize (W1.setCell ⟨X, 4, none⟩ (.string b)) = W2
  intro HB2
  have HB := Lib.hid HB2.out
  clear HB2
  have d0 := HB.out.1.cell (i := 0) rfl
  have d1 := HB.out.1.cell (i := 1) rfl
  have d2 := HB.out.1.cell (i := 2) rfl
  have d3 := HB.out.1.cell (i := 3) rfl
  have d4 := HB.out.1.cell (i := 4) rfl
  have d5 := HB.out.1.cell (i := 5) rfl
  have d6 := HB.out.1.cell (i := 6) rfl
  have d7 := HB.out.1.cell (i := 7) rfl
  have d8 := HB.out.1.cell (i := 8) rfl
  have d9 := HB.out.1.cell (i := 9) rfl
  have d10 := HB.out.1.cell (i := 10) rfl
  have d11 := HB.out.1.cell (i := 11) rfl
  go_upto_region 3 with (go_at_call 7; (with_reducible refine (lo_print12 k i n t b e s0 s1 s2 s3 s4 s5 HS.out.2.1 HS.out.1 R er HS.out.2.2.1 _ (tab_below HB.out.2 HI.out.1) (HI.out.2.2.1.below HB.out.2) (HI.out.2.2.2.below HB.out.2)).mono ?_); rintro e1 W3 ⟨rfl, q3⟩; have HBn := Lib.hid (And.intro (HB.out.1.chg (l := []) (Chg.of_fresh q3) (by simp)) (HB.out.2.trans (q3.mono HB.out.2.size))); clear HB; have HB := HBn; clear HBn q3)
  clear d0 d1 d2 d3 d4 d5 d6 d7 d8 d9 d10 d11
  cases gg with
  | false =>
    obtain ⟨hR, her⟩ : R = { data := #[] } ∧ er = 2 := by
      have h := HS.out.2.2.1
      unfold Lo.pr at h
      rw [if_neg (by rw [HS.out.2.2.2.1]; simp)] at h
      exact ⟨(Prod.mk.inj h).1.symm, (Prod.mk.inj h).2.symm⟩
    subst hR her
    refine wp_region_class (fun w' => Below W3.heap.size W3 w') (by kernel_rfl) (by kernel_rfl) (Below.refl _ _).drew ?_
    repeat (first
      | go_big_quiet_skip
      | (go_big_quiet_want
         unfold Oper.quiet
         apply Exists.intro
         refine ⟨fun wq hwq => ?_, ?_⟩
         · (have HQ := Lib.hid (HB.out.1.chg (l := []) (Chg.of_fresh hwq) (by simp))
            have HL := Lib.hid (HB.out.2.trans (hwq.mono HB.out.2.size))
            have d0 := HQ.out.cell (i := 0) rfl
            have d1 := HQ.out.cell (i := 1) rfl
            have d2 := HQ.out.cell (i := 2) rfl
            have d3 := HQ.out.cell (i := 3) rfl
            have d4 := HQ.out.cell (i := 4) rfl
            have d5 := HQ.out.cell (i := 5) rfl
            have d6 := HQ.out.cell (i := 6) rfl
            have d7 := HQ.out.cell (i := 7) rfl
            have d8 := HQ.out.cell (i := 8) rfl
            have d9 := HQ.out.cell (i := 9) rfl
            have d10 := HQ.out.cell (i := 10) rfl
            have d11 := HQ.out.cell (i := 11) rfl
            unfold Oper.quietAt
            go_simp
            first
                | exact ⟨rfl, rfl⟩
                | exact rfl
                | exact ⟨rfl, hwq⟩
                | (go_at_call 8; (with_reducible refine (lo_good k i n t b e s0 s1 s2 s3 s4 s5 _ HS.out.2.2.2.1 HS.out.2.1 _ (HI.out.2.2.1.below HL.out) (HI.out.2.2.2.below HL.out)).mono ?_); rintro e1 w3 ⟨he, hb2⟩; exact ⟨he, hwq.trans (hb2.mono hwq.size)⟩)
                | (go_at_call 9; (with_reducible refine (rg_good12 k i n t b e s0 s1 s2 s3 s4 s5 _ HS.out.2.2.2.1 HS.out.2.1 _).mono ?_); rintro e1 w3 ⟨he, hb2⟩; exact ⟨he, hwq.trans (hb2.mono hwq.size)⟩)
                | (go_at_call 10; (with_reducible refine (lo_what a1 wd HS.out.2.2.2.2.1 _ (HI.out.2.2.1.below HL.out)).mono ?_); rintro e1 w3 ⟨he, hb2⟩; exact ⟨he, by rw [hb2]; exact hwq⟩)
                | (go_at_call 11; (with_reducible refine (ro_what a1 wd HS.out.2.2.2.2.1 _).mono ?_); rintro e1 w3 ⟨he, hb2⟩; exact ⟨he, hwq.trans (hb2.mono hwq.size)⟩)
                | (go_at_call 12; (with_reducible refine (le_status a1 st HS.out.2.2.2.2.2 _ (HI.out.2.2.2.below HL.out)).mono ?_); rintro e1 w3 ⟨he, hb2⟩; exact ⟨he, by rw [hb2]; exact hwq⟩)
                | (go_at_call 13; (with_reducible refine (rl_status a1 st HS.out.2.2.2.2.2 _).mono ?_); rintro e1 w3 ⟨he, hb2⟩; exact ⟨he, hwq.trans (hb2.mono hwq.size)⟩)
            )
         simp only [Act.put, List.setIfInBounds_toArray, List.set_cons_zero, List.set_cons_succ]
         go_big_quiet_on))
    refine wpQuiet_nil ?_
    intro w4 hw4
    have HBn := Lib.hid (And.intro (HB.out.1.chg (l := []) (Chg.of_fresh hw4) (by simp)) (HB.out.2.trans (hw4.mono HB.out.2.size)))
    clear HB hw4
    have HB := HBn
    clear HBn
    have d0 := HB.out.1.cell (i := 0) rfl
    have d1 := HB.out.1.cell (i := 1) rfl
    have d2 := HB.out.1.cell (i := 2) rfl
    have d3 := HB.out.1.cell (i := 3) rfl
    have d4 := HB.out.1.cell (i := 4) rfl
    have d5 := HB.out.1.cell (i := 5) rfl
    have d6 := HB.out.1.cell (i := 6) rfl
    have d7 := HB.out.1.cell (i := 7) rfl
    have d8 := HB.out.1.cell (i := 8) rfl
    have d9 := HB.out.1.cell (i := 9) rfl
    have d10 := HB.out.1.cell (i := 10) rfl
    have d11 := HB.out.1.cell (i := 11) rfl
    go_wp2_with (first
      | (go_at_call 9; (with_reducible refine (rg_good12 k i n t b e s0 s1 s2 s3 s4 s5 false HS.out.2.2.2.1 HS.out.2.1 _).mono ?_); rintro e1 V2 ⟨rfl, q3⟩; have HBn := Lib.hid (And.intro (HB.out.1.chg (l := []) (Chg.of_fresh q3) (by simp)) (HB.out.2.trans (q3.mono HB.out.2.size))); clear HB; have HB := HBn; clear HBn q3)
      | (go_at_call 14; (with_reducible refine (lo_lives _ (tab_below HB.out.2 HI.out.1) (HI.out.2.1.below HB.out.2) (HI.out.2.2.1.below HB.out.2) (HI.out.2.2.2.below HB.out.2)).mono ?_); rintro e1 V4 ⟨rfl, q3⟩; have HBn := Lib.hid (And.intro (HB.out.1.chg (l := []) (Chg.of_fresh q3) (by simp)) (HB.out.2.trans (q3.mono HB.out.2.size))); clear HB; have HB := HBn; clear HBn q3))
    go_ret
    exact ⟨rfl, HB.out.2⟩
  | true =>
    obtain ⟨hR, her⟩ : R = Le.t (Lo.line ⟨k, i, n, t, b, e, s0, s1, s2, s3, s4, s5⟩) ∧ er = 0 := by
      have h := HS.out.2.2.1
      unfold Lo.pr at h
      rw [if_pos (by rw [HS.out.2.2.2.1])] at h
      exact ⟨(Prod.mk.inj h).1.symm, (Prod.mk.inj h).2.symm⟩
    have HP : Hid (Le.t (Lo.line ⟨k, i, n, t, b, e, s0, s1, s2, s3, s4, s5⟩) = R ∧ R.size ≤ 4000 ∧ Lo.parse R = (⟨k, i, n, t, b, e, s0, s1, s2, s3, s4, s5⟩, 0)) := Lib.hid ⟨hR.symm, by rw [hR, Le.t_size]; have := Lo.line_sz ⟨k, i, n, t, b, e, s0, s1, s2, s3, s4, s5⟩ HS.out.2.1 HV.out.2.2; omega, by rw [hR]; exact Lo.parse_line ⟨k, i, n, t, b, e, s0, s1, s2, s3, s4, s5⟩ HS.out.2.1 HS.out.2.2.2.1⟩
    subst her
    clear hR
    refine wp_region_class (fun w' => Below W3.heap.size W3 w') (by kernel_rfl) (by kernel_rfl) (Below.refl _ _).drew ?_
    repeat (first
      | go_big_quiet_skip
      | (go_big_quiet_want
         unfold Oper.quiet
         apply Exists.intro
         refine ⟨fun wq hwq => ?_, ?_⟩
         · (have HQ := Lib.hid (HB.out.1.chg (l := []) (Chg.of_fresh hwq) (by simp))
            have HL := Lib.hid (HB.out.2.trans (hwq.mono HB.out.2.size))
            have d0 := HQ.out.cell (i := 0) rfl
            have d1 := HQ.out.cell (i := 1) rfl
            have d2 := HQ.out.cell (i := 2) rfl
            have d3 := HQ.out.cell (i := 3) rfl
            have d4 := HQ.out.cell (i := 4) rfl
            have d5 := HQ.out.cell (i := 5) rfl
            have d6 := HQ.out.cell (i := 6) rfl
            have d7 := HQ.out.cell (i := 7) rfl
            have d8 := HQ.out.cell (i := 8) rfl
            have d9 := HQ.out.cell (i := 9) rfl
            have d10 := HQ.out.cell (i := 10) rfl
            have d11 := HQ.out.cell (i := 11) rfl
            unfold Oper.quietAt
            go_simp
            first
                | exact ⟨rfl, rfl⟩
                | exact rfl
                | exact ⟨rfl, hwq⟩
                | (go_at_call 8; (with_reducible refine (lo_good k i n t b e s0 s1 s2 s3 s4 s5 _ HS.out.2.2.2.1 HS.out.2.1 _ (HI.out.2.2.1.below HL.out) (HI.out.2.2.2.below HL.out)).mono ?_); rintro e1 w3 ⟨he, hb2⟩; exact ⟨he, hwq.trans (hb2.mono hwq.size)⟩)
                | (go_at_call 9; (with_reducible refine (rg_good12 k i n t b e s0 s1 s2 s3 s4 s5 _ HS.out.2.2.2.1 HS.out.2.1 _).mono ?_); rintro e1 w3 ⟨he, hb2⟩; exact ⟨he, hwq.trans (hb2.mono hwq.size)⟩)
                | (go_at_call 10; (with_reducible refine (lo_what a1 wd HS.out.2.2.2.2.1 _ (HI.out.2.2.1.below HL.out)).mono ?_); rintro e1 w3 ⟨he, hb2⟩; exact ⟨he, by rw [hb2]; exact hwq⟩)
                | (go_at_call 11; (with_reducible refine (ro_what a1 wd HS.out.2.2.2.2.1 _).mono ?_); rintro e1 w3 ⟨he, hb2⟩; exact ⟨he, hwq.trans (hb2.mono hwq.size)⟩)
                | (go_at_call 12; (with_reducible refine (le_status a1 st HS.out.2.2.2.2.2 _ (HI.out.2.2.2.below HL.out)).mono ?_); rintro e1 w3 ⟨he, hb2⟩; exact ⟨he, by rw [hb2]; exact hwq⟩)
                | (go_at_call 13; (with_reducible refine (rl_status a1 st HS.out.2.2.2.2.2 _).mono ?_); rintro e1 w3 ⟨he, hb2⟩; exact ⟨he, hwq.trans (hb2.mono hwq.size)⟩)
            )
         simp only [Act.put, List.setIfInBounds_toArray, List.set_cons_zero, List.set_cons_succ]
         go_big_quiet_on))
    refine wpQuiet_nil ?_
    intro w4 hw4
    have HBn := Lib.hid (And.intro (HB.out.1.chg (l := []) (Chg.of_fresh hw4) (by simp)) (HB.out.2.trans (hw4.mono HB.out.2.size)))
    clear HB hw4
    have HB := HBn
    clear HBn
    have d0 := HB.out.1.cell (i := 0) rfl
    have d1 := HB.out.1.cell (i := 1) rfl
    have d2 := HB.out.1.cell (i := 2) rfl
    have d3 := HB.out.1.cell (i := 3) rfl
    have d4 := HB.out.1.cell (i := 4) rfl
    have d5 := HB.out.1.cell (i := 5) rfl
    have d6 := HB.out.1.cell (i := 6) rfl
    have d7 := HB.out.1.cell (i := 7) rfl
    have d8 := HB.out.1.cell (i := 8) rfl
    have d9 := HB.out.1.cell (i := 9) rfl
    have d10 := HB.out.1.cell (i := 10) rfl
    have d11 := HB.out.1.cell (i := 11) rfl
    go_upto_region 8 with (first
      | (go_at_call 9; (with_reducible refine (rg_good12 k i n t b e s0 s1 s2 s3 s4 s5 true HS.out.2.2.2.1 HS.out.2.1 _).mono ?_); rintro e1 V2 ⟨rfl, q3⟩; have HBn := Lib.hid (And.intro (HB.out.1.chg (l := []) (Chg.of_fresh q3) (by simp)) (HB.out.2.trans (q3.mono HB.out.2.size))); clear HB; have HB := HBn; clear HBn q3; have d0 := HB.out.1.cell (i := 0) rfl; have d1 := HB.out.1.cell (i := 1) rfl; have d2 := HB.out.1.cell (i := 2) rfl; have d3 := HB.out.1.cell (i := 3) rfl; have d4 := HB.out.1.cell (i := 4) rfl; have d5 := HB.out.1.cell (i := 5) rfl; have d6 := HB.out.1.cell (i := 6) rfl; have d7 := HB.out.1.cell (i := 7) rfl; have d8 := HB.out.1.cell (i := 8) rfl; have d9 := HB.out.1.cell (i := 9) rfl; have d10 := HB.out.1.cell (i := 10) rfl; have d11 := HB.out.1.cell (i := 11) rfl)
      | (go_at_call 16; (with_reducible refine (rg_print12 k i n t b e s0 s1 s2 s3 s4 s5 HS.out.2.1 HS.out.1 HS.out.2.2.2.1 R HP.out.1 _).mono ?_); rintro e1 V3 ⟨rfl, q3⟩; have HBn := Lib.hid (And.intro (HB.out.1.chg (l := []) (Chg.of_fresh q3) (by simp)) (HB.out.2.trans (q3.mono HB.out.2.size))); clear HB; have HB := HBn; clear HBn q3)
      | (go_at_call 15; (with_reducible refine (lo_parse12 R HP.out.2.1 k i n t b e s0 s1 s2 s3 s4 s5 0 HP.out.2.2 _ (tab_below HB.out.2 HI.out.1) (HI.out.2.1.below HB.out.2) (HI.out.2.2.1.below HB.out.2) (HI.out.2.2.2.below HB.out.2)).mono ?_); rintro e1 V5 ⟨rfl, q3⟩; have HBn := Lib.hid (And.intro (HB.out.1.chg (l := []) (Chg.of_fresh q3) (by simp)) (HB.out.2.trans (q3.mono HB.out.2.size))); clear HB; have HB := HBn; clear HBn q3))
    have HE : Hid ((Blk (V5.alloc (.cells #[.int .i64 k, .int .i64 i, .int .i64 n, .int .i64 t, .string b, .int .i64 e, .int .i64 s0, .int .i64 s1, .int .i64 s2, .int .i64 s3, .int .i64 s4, .int .i64 s5] 26)) X [.int .i64 k, .int .i64 i, .int .i64 n, .int .i64 t, .string b, .int .i64 e, .int .i64 s0, .int .i64 s1, .int .i64 s2, .int .i64 s3, .int .i64 s4, .int .i64 s5] 26 ∧ Below w.heap.size w (V5.alloc (.cells #[.int .i64 k, .int .i64 i, .int .i64 n, .int .i64 t, .string b, .int .i64 e, .int .i64 s0, .int .i64 s1, .int .i64 s2, .int .i64 s3, .int .i64 s4, .int .i64 s5] 26))) ∧ Blk (V5.alloc (.cells #[.int .i64 k, .int .i64 i, .int .i64 n, .int .i64 t, .string b, .int .i64 e, .int .i64 s0, .int .i64 s1, .int .i64 s2, .int .i64 s3, .int .i64 s4, .int .i64 s5] 26)) V5.heap.size [.int .i64 k, .int .i64 i, .int .i64 n, .int .i64 t, .string b, .int .i64 e, .int .i64 s0, .int .i64 s1, .int .i64 s2, .int .i64 s3, .int .i64 s4, .int .i64 s5] 26) := Lib.hid (by
      have q3 : Below V5.heap.size V5 (V5.alloc (.cells #[.int .i64 k, .int .i64 i, .int .i64 n, .int .i64 t, .string b, .int .i64 e, .int .i64 s0, .int .i64 s1, .int .i64 s2, .int .i64 s3, .int .i64 s4, .int .i64 s5] 26)) := (Below.refl _ _).alloc (Nat.le_refl _) _
      exact ⟨⟨HB.out.1.chg (l := []) (Chg.of_fresh q3) (by simp), HB.out.2.trans (q3.mono HB.out.2.size)⟩, Blk.newA _ _ _⟩)
    clear HB
    revert HE
    generalize (V5.alloc (.cells #[.int .i64 k, .int .i64 i, .int .i64 n, .int .i64 t, .string b, .int .i64 e, .int .i64 s0, .int .i64 s1, .int .i64 s2, .int .i64 s3, .int .i64 s4, .int .i64 s5] 26)) = W6
    generalize V5.heap.size = Y
    intro HE
    have HB := Lib.hid HE.out.1
    have HK := Lib.hid HE.out.2
    clear HE
    have d0 := HB.out.1.cell (i := 0) rfl
    have d1 := HB.out.1.cell (i := 1) rfl
    have d2 := HB.out.1.cell (i := 2) rfl
    have d3 := HB.out.1.cell (i := 3) rfl
    have d4 := HB.out.1.cell (i := 4) rfl
    have d5 := HB.out.1.cell (i := 5) rfl
    have d6 := HB.out.1.cell (i := 6) rfl
    have d7 := HB.out.1.cell (i := 7) rfl
    have d8 := HB.out.1.cell (i := 8) rfl
    have d9 := HB.out.1.cell (i := 9) rfl
    have d10 := HB.out.1.cell (i := 10) rfl
    have d11 := HB.out.1.cell (i := 11) rfl
    go_wp2_with (first
      | (go_at_call 16; (with_reducible refine (rg_print12 k i n t b e s0 s1 s2 s3 s4 s5 HS.out.2.1 HS.out.1 HS.out.2.2.2.1 R HP.out.1 _).mono ?_); rintro e1 V7 ⟨rfl, q3⟩; have HKn := Lib.hid (HK.out.chg (l := []) (Chg.of_fresh q3) (by simp)); clear HK; have HK := HKn; clear HKn; have HBn := Lib.hid (And.intro (HB.out.1.chg (l := []) (Chg.of_fresh q3) (by simp)) (HB.out.2.trans (q3.mono HB.out.2.size))); clear HB; have HB := HBn; clear HBn q3; have d0 := HB.out.1.cell (i := 0) rfl; have d1 := HB.out.1.cell (i := 1) rfl; have d2 := HB.out.1.cell (i := 2) rfl; have d3 := HB.out.1.cell (i := 3) rfl; have d4 := HB.out.1.cell (i := 4) rfl; have d5 := HB.out.1.cell (i := 5) rfl; have d6 := HB.out.1.cell (i := 6) rfl; have d7 := HB.out.1.cell (i := 7) rfl; have d8 := HB.out.1.cell (i := 8) rfl; have d9 := HB.out.1.cell (i := 9) rfl; have d10 := HB.out.1.cell (i := 10) rfl; have d11 := HB.out.1.cell (i := 11) rfl; have k0 := HK.out.cell (i := 0) rfl; have k1 := HK.out.cell (i := 1) rfl; have k2 := HK.out.cell (i := 2) rfl; have k3 := HK.out.cell (i := 3) rfl; have k4 := HK.out.cell (i := 4) rfl; have k5 := HK.out.cell (i := 5) rfl; have k6 := HK.out.cell (i := 6) rfl; have k7 := HK.out.cell (i := 7) rfl; have k8 := HK.out.cell (i := 8) rfl; have k9 := HK.out.cell (i := 9) rfl; have k10 := HK.out.cell (i := 10) rfl; have k11 := HK.out.cell (i := 11) rfl)
      | (go_at_call 14; (with_reducible refine (lo_lives _ (tab_below HB.out.2 HI.out.1) (HI.out.2.1.below HB.out.2) (HI.out.2.2.1.below HB.out.2) (HI.out.2.2.2.below HB.out.2)).mono ?_); rintro e1 V4 ⟨rfl, q3⟩; have HBn := Lib.hid (And.intro (HB.out.1.chg (l := []) (Chg.of_fresh q3) (by simp)) (HB.out.2.trans (q3.mono HB.out.2.size))); clear HB; have HB := HBn; clear HBn q3))
    go_ret
    exact ⟨rfl, HB.out.2⟩


theorem own3 : ownKnob Tryz.prog.godebug = none := by kernel_rfl
theorem tab_rows : (Rows.laid_internal_strconv_uint64pow10 : DataW Unit) = Lib.tabData .u64 Lib.pow10Tab := by kernel_rfl
theorem tab_of (W : World) (hL : laidMetH Tryz.prog Rows.logPrintsRow.laid W) : Lib.TabIs Tryz.prog W "internal/strconv.uint64pow10" .u64 Lib.pow10Tab := by
  have h1 : laidMet Tryz.prog Rows.logPrintsRow.laid W := hL
  have h2 : laidMet Tryz.prog [("math/bits.deBruijn32tab", Rows.laid_math_bits_deBruijn32tab), ("math/bits.deBruijn64tab", Rows.laid_math_bits_deBruijn64tab), ("internal/strconv.uint64pow10", Rows.laid_internal_strconv_uint64pow10), ("unicode/utf8.acceptRanges", Rows.laid_unicode_utf8_acceptRanges), ("strconv.ErrRange", Rows.laid_strconv_ErrRange), ("strconv.ErrSyntax", Rows.laid_strconv_ErrSyntax), ("repartee/log.whats", Rows.laid_repartee_log_whats), ("repartee/log.statuses", Rows.laid_repartee_log_statuses), ("unicode/utf8.first", Rows.laid_unicode_utf8_first)] W := h1
  have h3 := h2.tail.tail
  rw [tab_rows] at h3
  exact Lib.tabIs_of_head (g := 2) (t := 104) (e := 90) (n := 20) (by kernel_rfl) (by kernel_rfl) (by kernel_rfl) (by kernel_rfl) (by kernel_rfl) (by kernel_rfl) h3
theorem log_of (W : World) (hSh : W.ShapedOpen Tryz.prog) (hL : laidMetH Tryz.prog Rows.logPrintsRow.laid W) : NI W ∧ WI W ∧ SI W := by
  have h1 : laidMet Tryz.prog Rows.logPrintsRow.laid W := hL
  have h2 : laidMet Tryz.prog [("math/bits.deBruijn32tab", Rows.laid_math_bits_deBruijn32tab), ("math/bits.deBruijn64tab", Rows.laid_math_bits_deBruijn64tab), ("internal/strconv.uint64pow10", Rows.laid_internal_strconv_uint64pow10), ("unicode/utf8.acceptRanges", Rows.laid_unicode_utf8_acceptRanges), ("strconv.ErrRange", Rows.laid_strconv_ErrRange), ("strconv.ErrSyntax", Rows.laid_strconv_ErrSyntax), ("repartee/log.whats", Rows.laid_repartee_log_whats), ("repartee/log.statuses", Rows.laid_repartee_log_statuses), ("unicode/utf8.first", Rows.laid_unicode_utf8_first)] W := h1
  obtain ⟨m0, hm0⟩ := cell_of_shapedOpen_int (P := Tryz.prog) (g := 3) (t := 3) (zero := #[.int .i64 0]) hSh (of_decide_eq_true (by kernel_rfl)) (by kernel_rfl) rfl (by kernel_rfl) (by kernel_rfl) Tryz.underlying3
  exact ⟨⟨⟨m0, hm0⟩, sent_of _ 4 _ _ W (by kernel_rfl) (by kernel_rfl) h2.tail.tail.tail.tail.tail, sent_of _ 5 _ _ W (by kernel_rfl) (by kernel_rfl) h2.tail.tail.tail.tail⟩, WI_of2 W _ h2.tail.tail.tail.tail.tail.tail, SI_of2 W _ h2.tail.tail.tail.tail.tail.tail.tail⟩
set_option maxRecDepth 100000 in
theorem contract (H : Type) (enc : TypeId × Value → H) (W : World) (base : Nat) (args : Array Value) (ds gs : List (DataW H)) (before : List MemPlace)
    (hval0 : ∀ (j : Nat) t v, Tryz.f3.params[j]? = some t → args[j]? = some v → Value.okWide Tryz.prog W .any base t v)
    (hW : DataW.Whole enc Tryz.prog Tryz.f3.params.toList Rows.logPrintsSpec.vars false W args.toList ds gs before) (hSh : W.ShapedOpen Tryz.prog) (htab : Lib.TabIs Tryz.prog W "internal/strconv.uint64pow10" .u64 Lib.pow10Tab) (hni : NI W) (hwi : WI W) (hsi : SI W) :
    Calls Tryz.prog 3 args W fun e W' => ∃ v, e = .returned v ∧ Rows.logPrintsSpec.post enc Tryz.prog Tryz.f3 false true false false W args v W' := by
  have hval : ∀ (j : Nat) t v, Tryz.f3.params[j]? = some t → args[j]? = some v → Value.okWide Tryz.prog W .any base t v := hval0
  have hW' := hW
  obtain ⟨p, q, hA0, hV, rfl, hfz, hnd⟩ := hW
  have hA : DataW.TrodAll enc Tryz.prog W 0 (fun _ => true) true Tryz.f3.params.toList args.toList ds p := hA0
  rw [Tryz.params3] at hA hval
  obtain ⟨v0, vs0, d0, ds0, p0, q0, hargs, rfl, rfl, h0, r0⟩ := trodAll_cons hA
  obtain ⟨v1, vs1, d1, ds1, p1, q1, rfl, rfl, rfl, h1, r1⟩ := trodAll_cons r0
  obtain ⟨rfl, rfl, rfl⟩ := trodAll_nil r1
  obtain rfl : args = #[v0, v1] := by cases args; simp_all
  obtain ⟨rfl, rfl⟩ := trodVars_none hV
  have k0 := h0
  have lt0 : ∀ x ∈ p0, x.block < W.heap.size := by obtain ⟨m, hm⟩ := k0; exact DataW.trod_lt m _ _ _ hm
  obtain ⟨cs0, rfl, hsz0⟩ := okWide_struct Tryz.underlying26 (hval 0 26 v0 rfl rfl)
  obtain ⟨l0⟩ := cs0
  obtain ⟨fu0, hf0⟩ := h0
  obtain ⟨x0, ex0, wx0⟩ := trod_ev (hsz0.trans (by kernel_rfl)) hf0
  obtain rfl : l0 = x0.c := ex0
  have k1 := h1
  have lt1 : ∀ x ∈ p1, x.block < W.heap.size := by obtain ⟨m, hm⟩ := k1; exact DataW.trod_lt m _ _ _ hm
  obtain ⟨a1, rfl, rfl, rfl, w1⟩ := open_int Tryz.underlying3 (hval 1 3 v1 rfl rfl) h1
  clear hA0 hval0
  refine (walk x0 a1 W htab hni hwi hsi wx0 w1).mono fun e W' ⟨he, bel⟩ => ?_
  subst he
  exact ⟨_, rfl, _, _, _, [], _, [], hW', trodAll_mk1 (shut_bool Tryz.underlying4 _), (trodAll_cons_mk (Below.trod laidOut (by kernel_rfl) (of_decide_eq_true (by kernel_rfl)) k0 bel lt0) (trodAll_cons_mk (Below.trod laidOut (by kernel_rfl) (of_decide_eq_true (by kernel_rfl)) k1 bel lt1) trodAll_mk0)), rfl, bel.frame _, fun h => by cases h⟩

noncomputable def low : Nat := (World.holding Tryz.prog default ⟨#[], #[], []⟩).heap.size
noncomputable def laidWorld (os : Os) : World :=
  { World.holding Tryz.prog os ⟨#[.cells #[.string ⟨#[118, 97, 108, 117, 101, 32, 111, 117, 116, 32, 111, 102, 32, 114, 97, 110, 103, 101]⟩] 137, .cells #[.string ⟨#[105, 110, 118, 97, 108, 105, 100, 32, 115, 121, 110, 116, 97, 120]⟩] 137], #[], []⟩ with heap := ((((((((((World.holding Tryz.prog os ⟨#[.cells #[.string ⟨#[118, 97, 108, 117, 101, 32, 111, 117, 116, 32, 111, 102, 32, 114, 97, 110, 103, 101]⟩] 137, .cells #[.string ⟨#[105, 110, 118, 97, 108, 105, 100, 32, 115, 121, 110, 116, 97, 120]⟩] 137], #[], []⟩).heap.modify 8 fun
      | .cells _ t frozen => .cells #[.int .u8 0, .int .u8 1, .int .u8 28, .int .u8 2, .int .u8 29, .int .u8 14, .int .u8 24, .int .u8 3, .int .u8 30, .int .u8 22, .int .u8 20, .int .u8 15, .int .u8 25, .int .u8 17, .int .u8 4, .int .u8 8, .int .u8 31, .int .u8 27, .int .u8 13, .int .u8 23, .int .u8 21, .int .u8 19, .int .u8 16, .int .u8 7, .int .u8 26, .int .u8 12, .int .u8 18, .int .u8 6, .int .u8 11, .int .u8 5, .int .u8 10, .int .u8 9] t frozen
      | o => o).modify 9 fun
      | .cells _ t frozen => .cells #[.int .u8 0, .int .u8 1, .int .u8 56, .int .u8 2, .int .u8 57, .int .u8 49, .int .u8 28, .int .u8 3, .int .u8 61, .int .u8 58, .int .u8 42, .int .u8 50, .int .u8 38, .int .u8 29, .int .u8 17, .int .u8 4, .int .u8 62, .int .u8 47, .int .u8 59, .int .u8 36, .int .u8 45, .int .u8 43, .int .u8 51, .int .u8 22, .int .u8 53, .int .u8 39, .int .u8 33, .int .u8 30, .int .u8 24, .int .u8 18, .int .u8 12, .int .u8 5, .int .u8 63, .int .u8 55, .int .u8 48, .int .u8 27, .int .u8 60, .int .u8 41, .int .u8 37, .int .u8 16, .int .u8 46, .int .u8 35, .int .u8 44, .int .u8 21, .int .u8 52, .int .u8 32, .int .u8 23, .int .u8 11, .int .u8 54, .int .u8 26, .int .u8 40, .int .u8 15, .int .u8 34, .int .u8 20, .int .u8 31, .int .u8 10, .int .u8 25, .int .u8 14, .int .u8 19, .int .u8 9, .int .u8 13, .int .u8 8, .int .u8 7, .int .u8 6] t frozen
      | o => o).modify 2 fun
      | .cells _ t frozen => .cells #[.int .u64 1, .int .u64 10, .int .u64 100, .int .u64 1000, .int .u64 10000, .int .u64 100000, .int .u64 1000000, .int .u64 10000000, .int .u64 100000000, .int .u64 1000000000, .int .u64 10000000000, .int .u64 100000000000, .int .u64 1000000000000, .int .u64 10000000000000, .int .u64 100000000000000, .int .u64 1000000000000000, .int .u64 10000000000000000, .int .u64 100000000000000000, .int .u64 1000000000000000000, .int .u64 10000000000000000000] t frozen
      | o => o).modify 7 fun
      | .cells _ t frozen => .cells #[.int .u8 128, .int .u8 191, .int .u8 160, .int .u8 191, .int .u8 128, .int .u8 159, .int .u8 144, .int .u8 191, .int .u8 128, .int .u8 143, .int .u8 0, .int .u8 0, .int .u8 0, .int .u8 0, .int .u8 0, .int .u8 0, .int .u8 0, .int .u8 0, .int .u8 0, .int .u8 0, .int .u8 0, .int .u8 0, .int .u8 0, .int .u8 0, .int .u8 0, .int .u8 0, .int .u8 0, .int .u8 0, .int .u8 0, .int .u8 0, .int .u8 0, .int .u8 0] t frozen
      | o => o).modify 5 fun
      | .cells _ t frozen => .cells #[.iface 135 (.pointer (some ⟨low, 0, none⟩))] t frozen
      | o => o).modify 4 fun
      | .cells _ t frozen => .cells #[.iface 135 (.pointer (some ⟨low + 1, 0, none⟩))] t frozen
      | o => o).modify 0 fun
      | .cells _ t frozen => .cells #[.string ⟨#[]⟩, .string ⟨#[108, 111, 111, 107]⟩, .string ⟨#[109, 97, 116, 99, 104]⟩, .string ⟨#[116, 105, 109, 101, 111, 117, 116]⟩, .string ⟨#[101, 111, 102]⟩, .string ⟨#[108, 111, 97, 100]⟩, .string ⟨#[115, 101, 110, 116]⟩, .string ⟨#[106, 117, 109, 112]⟩, .string ⟨#[119, 111, 107, 101]⟩, .string ⟨#[100, 111, 110, 101]⟩, .string ⟨#[102, 97, 105, 108]⟩, .string ⟨#[108, 111, 111, 112, 101, 100]⟩, .string ⟨#[100, 101, 97, 100, 108, 105, 110, 101]⟩, .string ⟨#[111, 118, 101, 114, 102, 108, 111, 119]⟩, .string ⟨#[100, 114, 97, 105, 110, 101, 100]⟩] t frozen
      | o => o).modify 1 fun
      | .cells _ t frozen => .cells #[.string ⟨#[114, 117, 110]⟩, .string ⟨#[100, 111, 110, 101]⟩, .string ⟨#[102, 97, 105, 108, 101, 100]⟩, .string ⟨#[100, 101, 97, 100, 108, 105, 110, 101]⟩, .string ⟨#[111, 118, 101, 114, 102, 108, 111, 119]⟩, .string ⟨#[100, 114, 97, 105, 110, 101, 100]⟩] t frozen
      | o => o).modify 6 fun
      | .cells _ t frozen => .cells (Go.Pinned.utf8FirstZ.map fun (x : Nat) => Value.int .u8 (x : Int)).toArray t frozen
      | o => o) }
theorem laid_met (os : Os) : laidMet Tryz.prog Rows.logPrintsRow.laid ((laidWorld os).forCall (fun _ _ => 0) ⟨#[], #[.agg #[.int .i64 0, .int .i64 0, .int .i64 0, .int .i64 0, .string ByteArray.empty, .int .i64 0, .int .i64 0, .int .i64 0, .int .i64 0, .int .i64 0, .int .i64 0, .int .i64 0], .int .i64 0], []⟩).memory :=
  laidMet_of_run' 8 (by kernel_rfl) (by kernel_rfl)
theorem reads (os : Os) {H : Type} (enc : TypeId × Value → H) : ∃ places, DataW.whole enc Tryz.prog ((laidWorld os).forCall (fun _ _ => 0) ⟨#[], #[.agg #[.int .i64 0, .int .i64 0, .int .i64 0, .int .i64 0, .string ByteArray.empty, .int .i64 0, .int .i64 0, .int .i64 0, .int .i64 0, .int .i64 0, .int .i64 0, .int .i64 0], .int .i64 0], []⟩).memory Tryz.f3.params.toList Rows.logPrintsSpec.vars false (#[.agg #[.int .i64 0, .int .i64 0, .int .i64 0, .int .i64 0, .string ByteArray.empty, .int .i64 0, .int .i64 0, .int .i64 0, .int .i64 0, .int .i64 0, .int .i64 0, .int .i64 0], .int .i64 0] : Array Value).toList 8 = some ([.agg [.lit (.int .i64 0), .lit (.int .i64 0), .lit (.int .i64 0), .lit (.int .i64 0), .lit (.string []), .lit (.int .i64 0), .agg [.lit (.int .i64 0), .lit (.int .i64 0), .lit (.int .i64 0), .lit (.int .i64 0), .lit (.int .i64 0), .lit (.int .i64 0)]], .lit (.int .i64 0)], [], places) :=
  ⟨[], by kernel_rfl⟩
set_option maxRecDepth 100000 in
theorem lifted (os : Os) (started : os.Started) (H : Type) (enc : TypeId × Value → H) (F : Stop.Interp) :
    ReturnsInHanded {} Tryz.checked os 3 .any ((OpenSpec.ofChange Rows.logPrintsSpec).preRow enc Tryz.prog Tryz.f3 Rows.logPrintsRow.domain false Rows.logPrintsRow.laid) (((OpenSpec.ofChange Rows.logPrintsSpec).at F).post enc Tryz.prog Tryz.f3 false true false false) := by
  obtain ⟨places, hx⟩ := reads os enc
  refine returnsInHanded_of_row (C := Tryz.checked) (s := OpenSpec.ofChange Rows.logPrintsSpec) own3 started (by kernel_rfl) Tryz.func3
    (witness_row_at (enc := enc) (C := Tryz.checked) false (laidWorld os) #[.agg #[.int .i64 0, .int .i64 0, .int .i64 0, .int .i64 0, .string ByteArray.empty, .int .i64 0, .int .i64 0, .int .i64 0, .int .i64 0, .int .i64 0, .int .i64 0, .int .i64 0], .int .i64 0] rfl (by kernel_rfl) (by kernel_rfl) (by kernel_rfl)
      (OpenSpec.preRow_of_cond 8 hx (by kernel_rfl) (fun k hk => by cases hk) (by kernel_rfl) (laid_met os))) ?_
  intro W base args ds gs before hval hW _ _ _ hL hSh _
  exact contract H enc W base args ds gs before hval hW hSh (tab_of W hL) (log_of W hSh hL).1 (log_of W hSh hL).2.1 (log_of W hSh hL).2.2
theorem said : Rows.LogPrintsSaid :=
  OpenClaim.holds_of_cond 3 Tryz.f3 rfl rfl rfl rfl rfl rfl rfl ⟨rfl, rfl, rfl, rfl, rfl⟩ rfl rfl rfl rfl rfl (by kernel_rfl) Tryz.func3 (by kernel_rfl)
    (of_decide_eq_true (by kernel_rfl)) (by unfold Func.isWrapper; first | (rw [if_pos (by decide +kernel)]; kernel_rfl) | (rw [if_neg (by decide +kernel)]; exact ⟨rfl, rfl⟩))
    (fun os started H enc _ F => by rw [OpenClaim.pre_eq_preRow]; exact lifted os started H enc F)
theorem plain (f : FuncId) (fn : Func) (hf : Tryz.pinned.checked.prog.funcNamed "repartee/reparteelaw30.LogPrints" = some f) (hfn : Tryz.pinned.checked.prog.funcs[f]? = some fn) :
    true = Tryz.pinned.checked.prog.looks [] ∧ ∀ (j : Nat) t, fn.params[j]? = some t → Tryz.pinned.checked.prog.wantsStandIn t = false := by
  obtain rfl : f = 3 := Option.some.inj ((show Tryz.prog.funcNamed "repartee/reparteelaw30.LogPrints" = some 3 by kernel_rfl).symm.trans hf) |>.symm
  obtain rfl : fn = Tryz.f3 := (Option.some.inj (Tryz.func3.symm.trans hfn)).symm
  refine ⟨by kernel_rfl, fun j t ht => ?_⟩
  rw [Tryz.params3] at ht
  have hm : t ∈ [26, 3] := by simpa using Array.mem_of_getElem? ht
  have hall : ([26, 3].all fun u => !Tryz.prog.wantsStandIn u) = true := by kernel_rfl
  exact (show Tryz.prog.wantsStandIn t = false by simpa using List.all_eq_true.1 hall t hm)
/-- The statement. -/
theorem proved : Rows.LogPrintsCardSaid :=
  Claim7.holds_tied_plain_at .later [] _ _ _ _ said (fun _ h => by cases h) (by kernel_rfl) (fun _ h => by cases h) logPrints_row_tie rfl ⟨rfl, rfl⟩ (by kernel_rfl) rfl plain (by kernel_rfl)
#print axioms proved
end Go.Proofs.YtfhhkmjjifbfeaaGreatDoor.logPrints
