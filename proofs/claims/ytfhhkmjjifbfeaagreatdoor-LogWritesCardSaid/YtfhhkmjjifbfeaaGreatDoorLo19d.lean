/- Log: the document's Good (steps). -/
import Derived.Test.YtfhhkmjjifbfeaaGreatDoorLo19
import Derived.Test.YtfhhkmjjifbfeaaGreatDoorOpen
import Derived.Test.YtfhhkmjjifbfeaaGreatDoorClass
import Derived.WalkKit
import Derived.ProofKit
import Derived.Handy
import Derived.WalkLawsBesides
import Derived.WalkSpells
import Derived.Lib.Hide
import Derived.Lib.SliceRun
import Derived.Deep.RegionLaw
import Derived.RegionTactic
import Derived.ChangeAlike
import Derived.WalkSmall
import Derived.Deep.QuietTactic
import Derived.BigQuiet
import Derived.OwnWalk
import Derived.Outline
import Derived.Deep.CutRange
import Derived.Deep.CutBlock
import Derived.LoopTactic
namespace Go.Proofs.YtfhhkmjjifbfeaaGreatDoor
open Go.ChangeShapes Go.WideShapes Go.ChangeAt Go.RowKit
set_option linter.unusedSimpArgs false
set_option linter.unusedVariables false

set_option maxRecDepth 20000 in
set_option maxHeartbeats 16000000 in
theorem rg_good8 (i n t : Int) (b : ByteArray) (e s0 s1 s2 s3 s4 s5 : Int) (r : Bool) (hr : Lo.good ⟨8, i, n, t, b, e, s0, s1, s2, s3, s4, s5⟩ = r) (hok : Ev.ok ⟨8, i, n, t, b, e, s0, s1, s2, s3, s4, s5⟩) (w : World) :
    Calls Tryz.prog 9 #[.agg #[.int .i64 8, .int .i64 i, .int .i64 n, .int .i64 t, .string b, .int .i64 e, .int .i64 s0, .int .i64 s1, .int .i64 s2, .int .i64 s3, .int .i64 s4, .int .i64 s5]] w fun z w' => z = .returned (.bool r) ∧ Below w.heap.size w w' := by
  rw [Lo.good_8] at hr
  have hw : ∀ v, v ∈ [s0, s1, s2, s3, s4, s5] → (Lit.int .i64 v).wf = true := fun v hv => hok.2 .i64 v (by
    simp only [List.mem_cons, List.not_mem_nil, or_false] at hv
    rcases hv with rfl | rfl | rfl | rfl | rfl | rfl <;> simp [Ev.c])
  have eqs := eqSt s0 s1 s2 s3 s4 s5 hw
  obtain ⟨w2, hw2⟩ : ∃ x, Lo.word s2 = x := ⟨_, rfl⟩
  obtain ⟨w5, hw5⟩ : ∃ x, Le.word s5 = x := ⟨_, rfl⟩
  rw [hw2, hw5] at hr
  have HW := Lib.hid (And.intro hw2 hw5)
  clear hw2 hw5
  obtain ⟨c_cn, h_cn⟩ : ∃ x, (decide (n = 0)) = x := ⟨_, rfl⟩
  obtain ⟨c_ct, h_ct⟩ : ∃ x, (decide (t = 0)) = x := ⟨_, rfl⟩
  obtain ⟨c_cb, h_cb⟩ : ∃ x, ((b.toList == [])) = x := ⟨_, rfl⟩
  obtain ⟨c_ce, h_ce⟩ : ∃ x, (decide (e = 0)) = x := ⟨_, rfl⟩
  obtain ⟨c_i0, h_i0⟩ : ∃ x, (decide (0 ≤ i)) = x := ⟨_, rfl⟩
  obtain ⟨c_i1, h_i1⟩ : ∃ x, (decide (i ≤ 4095)) = x := ⟨_, rfl⟩
  obtain ⟨c_m0, h_m0⟩ : ∃ x, (decide (0 ≤ s0)) = x := ⟨_, rfl⟩
  obtain ⟨c_m1, h_m1⟩ : ∃ x, (decide (0 ≤ s1)) = x := ⟨_, rfl⟩
  obtain ⟨c_m2, h_m2⟩ : ∃ x, (decide (s1 ≤ 200)) = x := ⟨_, rfl⟩
  obtain ⟨c_mw, h_mw⟩ : ∃ x, ((w2.toList == [])) = x := ⟨_, rfl⟩
  obtain ⟨c_m3, h_m3⟩ : ∃ x, (decide (0 ≤ s3)) = x := ⟨_, rfl⟩
  obtain ⟨c_m4, h_m4⟩ : ∃ x, (decide (s3 ≤ 7)) = x := ⟨_, rfl⟩
  obtain ⟨c_m5, h_m5⟩ : ∃ x, (decide (0 ≤ s4)) = x := ⟨_, rfl⟩
  obtain ⟨c_m6, h_m6⟩ : ∃ x, (decide (s4 ≤ 4096)) = x := ⟨_, rfl⟩
  obtain ⟨c_ms, h_ms⟩ : ∃ x, ((w5.toList == [])) = x := ⟨_, rfl⟩
  rw [h_cn, h_ct, h_cb, h_ce, h_i0, h_i1, h_m0, h_m1, h_m2, h_mw, h_m3, h_m4, h_m5, h_m6, h_ms] at hr
  obtain ⟨idb, hid⟩ : ∃ x, (decide (0 ≤ i) && decide (i ≤ 4095)) = x := ⟨_, rfl⟩
  have hidc : idb = (c_i0 && c_i1) := by rw [← hid, h_i0, h_i1]
  have HX : Hid ((c_cn && c_ct && c_cb && c_ce && c_m0 && c_m1 && c_m2 && (!c_mw) && c_m3 && c_m4 && c_m5 && c_m6 && (!c_ms) && idb) = r) := Lib.hid (by rw [← hr, hidc]; ac_rfl)
  clear hidc h_i0 h_i1
  obtain ⟨X, hX⟩ : ∃ X, w.heap.size = X := ⟨_, rfl⟩
  have HB : Hid (Blk (w.alloc (.cells #[.int .i64 8, .int .i64 i, .int .i64 n, .int .i64 t, .string b, .int .i64 e, .int .i64 s0, .int .i64 s1, .int .i64 s2, .int .i64 s3, .int .i64 s4, .int .i64 s5] 26)) X [.int .i64 8, .int .i64 i, .int .i64 n, .int .i64 t, .string b, .int .i64 e, .int .i64 s0, .int .i64 s1, .int .i64 s2, .int .i64 s3, .int .i64 s4, .int .i64 s5] 26 ∧ Below w.heap.size w (w.alloc (.cells #[.int .i64 8, .int .i64 i, .int .i64 n, .int .i64 t, .string b, .int .i64 e, .int .i64 s0, .int .i64 s1, .int .i64 s2, .int .i64 s3, .int .i64 s4, .int .i64 s5] 26))) := Lib.hid ⟨by rw [← hX]; exact Blk.newA _ _ _, (Below.refl _ _).alloc (Nat.le_refl _) _⟩
  have HI := Lib.hid hid
  clear hr hok hw hid
  go_enter Tryz.func9, Tryz.ntmps9
  go_upto_region 1 with fail
  clear hX
  revert HB
  generalize (w.alloc (.cells #[.int .i64 8, .int .i64 i, .int .i64 n, .int .i64 t, .string b, .int .i64 e, .int .i64 s0, .int .i64 s1, .int .i64 s2, .int .i64 s3, .int .i64 s4, .int .i64 s5] 26)) = W1
  intro HB
  have d0 := HB.out.1.cell (i := 0) rfl
  have d1 := HB.out.1.cell (i := 1) rfl
  have d2 := HB.out.1.cell (i := 2) rfl
  have d3 := HB.out.1.cell (i := 3) rfl
  have d4 := HB.out.1.cell (i := 4) rfl
  have d5 := HB.out.1.cell (i := 5) rfl
  have d6 := HB.out.1.cell (i := 6) rfl
  have d7 := HB.out.1.cell (i := 7) rfl
  have d8 := HB.out.1.cell (i := 8) rfl
  have d9 := HB.out.1.cell (i := 9) rfl
  have d10 := HB.out.1.cell (i := 10) rfl
  have d11 := HB.out.1.cell (i := 11) rfl
  go_cut [3, 4] from 8 to 17 (fun va vb wx => va = .int .i64 8 ∧ vb = .bool idb ∧ Hid (Blk wx X [.int .i64 8, .int .i64 i, .int .i64 n, .int .i64 t, .string b, .int .i64 e, .int .i64 s0, .int .i64 s1, .int .i64 s2, .int .i64 s3, .int .i64 s4, .int .i64 s5] 26 ∧ Below w.heap.size w wx))
  case first =>
    by_cases y0 : 0 ≤ i
    · by_cases y1 : i < 4096
      · have HY : Hid (true = idb) := Lib.hid (by rw [← HI.out]; simp; omega)
        refine wp_region_class (fun w' => Below W1.heap.size W1 w') (by kernel_rfl) (by kernel_rfl) (Below.refl _ _).drew ?_
        repeat (first
          | go_big_quiet_skip
          | (go_big_quiet_want
             unfold Oper.quiet
             apply Exists.intro
             refine ⟨fun wq hwq => ?_, ?_⟩
             · (have HQ := Lib.hid (HB.out.1.chg (l := []) (Chg.of_fresh hwq) (by simp))
                have d0 := HQ.out.cell (i := 0) rfl
                have d1 := HQ.out.cell (i := 1) rfl
                unfold Oper.quietAt
                go_simp
                first
                  | exact ⟨rfl, rfl⟩
                  | exact rfl)
             simp only [Act.put, List.setIfInBounds_toArray, List.set_cons_zero, List.set_cons_succ]
             go_big_quiet_on))
        refine wpQuiet_nil ?_
        intro w4 hw4
        have H4 : Hid (Blk w4 X [.int .i64 8, .int .i64 i, .int .i64 n, .int .i64 t, .string b, .int .i64 e, .int .i64 s0, .int .i64 s1, .int .i64 s2, .int .i64 s3, .int .i64 s4, .int .i64 s5] 26 ∧ Below w.heap.size w w4) := Lib.hid ⟨HB.out.1.chg (l := []) (Chg.of_fresh hw4) (by simp), HB.out.2.trans (hw4.mono HB.out.2.size)⟩
        clear hw4
        go_wp2_with fail
        go_meet
        exact ⟨rfl, by rw [← HY.out], Lib.hid H4.out⟩
      · have HY : Hid (false = idb) := Lib.hid (by rw [← HI.out]; simp; omega)
        refine wp_region_class (fun w' => Below W1.heap.size W1 w') (by kernel_rfl) (by kernel_rfl) (Below.refl _ _).drew ?_
        repeat (first
          | go_big_quiet_skip
          | (go_big_quiet_want
             unfold Oper.quiet
             apply Exists.intro
             refine ⟨fun wq hwq => ?_, ?_⟩
             · (have HQ := Lib.hid (HB.out.1.chg (l := []) (Chg.of_fresh hwq) (by simp))
                have d0 := HQ.out.cell (i := 0) rfl
                have d1 := HQ.out.cell (i := 1) rfl
                unfold Oper.quietAt
                go_simp
                first
                  | exact ⟨rfl, rfl⟩
                  | exact rfl)
             simp only [Act.put, List.setIfInBounds_toArray, List.set_cons_zero, List.set_cons_succ]
             go_big_quiet_on))
        refine wpQuiet_nil ?_
        intro w4 hw4
        have H4 : Hid (Blk w4 X [.int .i64 8, .int .i64 i, .int .i64 n, .int .i64 t, .string b, .int .i64 e, .int .i64 s0, .int .i64 s1, .int .i64 s2, .int .i64 s3, .int .i64 s4, .int .i64 s5] 26 ∧ Below w.heap.size w w4) := Lib.hid ⟨HB.out.1.chg (l := []) (Chg.of_fresh hw4) (by simp), HB.out.2.trans (hw4.mono HB.out.2.size)⟩
        clear hw4
        go_wp2_with fail
        go_meet
        exact ⟨rfl, by rw [← HY.out], Lib.hid H4.out⟩
    · have HY : Hid (false = idb) := Lib.hid (by rw [← HI.out]; simp; omega)
      refine wp_region_class (fun w' => Below W1.heap.size W1 w') (by kernel_rfl) (by kernel_rfl) (Below.refl _ _).drew ?_
      repeat (first
        | go_big_quiet_skip
        | (go_big_quiet_want
           unfold Oper.quiet
           apply Exists.intro
           refine ⟨fun wq hwq => ?_, ?_⟩
           · (have HQ := Lib.hid (HB.out.1.chg (l := []) (Chg.of_fresh hwq) (by simp))
              have d0 := HQ.out.cell (i := 0) rfl
              have d1 := HQ.out.cell (i := 1) rfl
              unfold Oper.quietAt
              go_simp
              first
                | exact ⟨rfl, rfl⟩
                | exact rfl)
           simp only [Act.put, List.setIfInBounds_toArray, List.set_cons_zero, List.set_cons_succ]
           go_big_quiet_on))
      refine wpQuiet_nil ?_
      intro w4 hw4
      have H4 : Hid (Blk w4 X [.int .i64 8, .int .i64 i, .int .i64 n, .int .i64 t, .string b, .int .i64 e, .int .i64 s0, .int .i64 s1, .int .i64 s2, .int .i64 s3, .int .i64 s4, .int .i64 s5] 26 ∧ Below w.heap.size w w4) := Lib.hid ⟨HB.out.1.chg (l := []) (Chg.of_fresh hw4) (by simp), HB.out.2.trans (hw4.mono HB.out.2.size)⟩
      clear hw4
      go_wp2_with fail
      go_meet
      exact ⟨rfl, by rw [← HY.out], Lib.hid H4.out⟩
  case rest =>
    obtain ⟨rfl, rfl, HC⟩ := hcut
    clear HB
    have d0 := HC.out.1.cell (i := 0) rfl
    have d1 := HC.out.1.cell (i := 1) rfl
    have d2 := HC.out.1.cell (i := 2) rfl
    have d3 := HC.out.1.cell (i := 3) rfl
    have d4 := HC.out.1.cell (i := 4) rfl
    have d5 := HC.out.1.cell (i := 5) rfl
    have d6 := HC.out.1.cell (i := 6) rfl
    have d7 := HC.out.1.cell (i := 7) rfl
    have d8 := HC.out.1.cell (i := 8) rfl
    have d9 := HC.out.1.cell (i := 9) rfl
    have d10 := HC.out.1.cell (i := 10) rfl
    have d11 := HC.out.1.cell (i := 11) rfl
    cases c_ct with
    | false =>
      have p_ct : ¬ t = 0 := of_decide_eq_false h_ct
      go_wp2_with (first
        | (go_at_call 11; (with_reducible refine (ro_what s2 w2 HW.out.1 _).mono ?_); rintro e1 V1 ⟨rfl, q3⟩; have HCn := Lib.hid (And.intro (HC.out.1.chg (l := []) (Chg.of_fresh q3) (by simp)) (HC.out.2.trans (q3.mono HC.out.2.size))); clear HC; have HC := HCn; clear HCn q3; have f0 := HC.out.1.cell (i := 0) rfl; have f1 := HC.out.1.cell (i := 1) rfl; have f2 := HC.out.1.cell (i := 2) rfl; have f3 := HC.out.1.cell (i := 3) rfl; have f4 := HC.out.1.cell (i := 4) rfl; have f5 := HC.out.1.cell (i := 5) rfl)
        | (go_at_call 13; (with_reducible refine (rl_status s5 w5 HW.out.2 _).mono ?_); rintro e1 V1 ⟨rfl, q3⟩; have HCn := Lib.hid (And.intro (HC.out.1.chg (l := []) (Chg.of_fresh q3) (by simp)) (HC.out.2.trans (q3.mono HC.out.2.size))); clear HC; have HC := HCn; clear HCn q3))
      go_ret
      exact ⟨by rw [← HX.out]; first | (simp; done) | (simp; assumption) | (simp; omega), by first | exact HC.out.2 | exact HC.out.2.alloc HC.out.2.size _⟩
    | true =>
      have p_ct : t = 0 := of_decide_eq_true h_ct
      cases c_cb with
      | false =>
        go_wp2_with (first
          | (go_at_call 11; (with_reducible refine (ro_what s2 w2 HW.out.1 _).mono ?_); rintro e1 V1 ⟨rfl, q3⟩; have HCn := Lib.hid (And.intro (HC.out.1.chg (l := []) (Chg.of_fresh q3) (by simp)) (HC.out.2.trans (q3.mono HC.out.2.size))); clear HC; have HC := HCn; clear HCn q3; have f0 := HC.out.1.cell (i := 0) rfl; have f1 := HC.out.1.cell (i := 1) rfl; have f2 := HC.out.1.cell (i := 2) rfl; have f3 := HC.out.1.cell (i := 3) rfl; have f4 := HC.out.1.cell (i := 4) rfl; have f5 := HC.out.1.cell (i := 5) rfl)
          | (go_at_call 13; (with_reducible refine (rl_status s5 w5 HW.out.2 _).mono ?_); rintro e1 V1 ⟨rfl, q3⟩; have HCn := Lib.hid (And.intro (HC.out.1.chg (l := []) (Chg.of_fresh q3) (by simp)) (HC.out.2.trans (q3.mono HC.out.2.size))); clear HC; have HC := HCn; clear HCn q3))
        go_ret
        exact ⟨by rw [← HX.out]; first | (simp; done) | (simp; assumption) | (simp; omega), by first | exact HC.out.2 | exact HC.out.2.alloc HC.out.2.size _⟩
      | true =>
        cases c_ce with
        | false =>
          have p_ce : ¬ e = 0 := of_decide_eq_false h_ce
          go_wp2_with (first
            | (go_at_call 11; (with_reducible refine (ro_what s2 w2 HW.out.1 _).mono ?_); rintro e1 V1 ⟨rfl, q3⟩; have HCn := Lib.hid (And.intro (HC.out.1.chg (l := []) (Chg.of_fresh q3) (by simp)) (HC.out.2.trans (q3.mono HC.out.2.size))); clear HC; have HC := HCn; clear HCn q3; have f0 := HC.out.1.cell (i := 0) rfl; have f1 := HC.out.1.cell (i := 1) rfl; have f2 := HC.out.1.cell (i := 2) rfl; have f3 := HC.out.1.cell (i := 3) rfl; have f4 := HC.out.1.cell (i := 4) rfl; have f5 := HC.out.1.cell (i := 5) rfl)
            | (go_at_call 13; (with_reducible refine (rl_status s5 w5 HW.out.2 _).mono ?_); rintro e1 V1 ⟨rfl, q3⟩; have HCn := Lib.hid (And.intro (HC.out.1.chg (l := []) (Chg.of_fresh q3) (by simp)) (HC.out.2.trans (q3.mono HC.out.2.size))); clear HC; have HC := HCn; clear HCn q3))
          go_ret
          exact ⟨by rw [← HX.out]; first | (simp; done) | (simp; assumption) | (simp; omega), by first | exact HC.out.2 | exact HC.out.2.alloc HC.out.2.size _⟩
        | true =>
          have p_ce : e = 0 := of_decide_eq_true h_ce
          cases c_cn with
          | false =>
            have p_cn : ¬ n = 0 := of_decide_eq_false h_cn
            go_wp2_with (first
              | (go_at_call 11; (with_reducible refine (ro_what s2 w2 HW.out.1 _).mono ?_); rintro e1 V1 ⟨rfl, q3⟩; have HCn := Lib.hid (And.intro (HC.out.1.chg (l := []) (Chg.of_fresh q3) (by simp)) (HC.out.2.trans (q3.mono HC.out.2.size))); clear HC; have HC := HCn; clear HCn q3; have f0 := HC.out.1.cell (i := 0) rfl; have f1 := HC.out.1.cell (i := 1) rfl; have f2 := HC.out.1.cell (i := 2) rfl; have f3 := HC.out.1.cell (i := 3) rfl; have f4 := HC.out.1.cell (i := 4) rfl; have f5 := HC.out.1.cell (i := 5) rfl)
              | (go_at_call 13; (with_reducible refine (rl_status s5 w5 HW.out.2 _).mono ?_); rintro e1 V1 ⟨rfl, q3⟩; have HCn := Lib.hid (And.intro (HC.out.1.chg (l := []) (Chg.of_fresh q3) (by simp)) (HC.out.2.trans (q3.mono HC.out.2.size))); clear HC; have HC := HCn; clear HCn q3))
            go_ret
            exact ⟨by rw [← HX.out]; first | (simp; done) | (simp; assumption) | (simp; omega), by first | exact HC.out.2 | exact HC.out.2.alloc HC.out.2.size _⟩
          | true =>
            have p_cn : n = 0 := of_decide_eq_true h_cn
            go_upto_region 14 with fail
            have HE : Hid ((Blk (wc.alloc (.cells #[.int .i64 s0, .int .i64 s1, .int .i64 s2, .int .i64 s3, .int .i64 s4, .int .i64 s5] 24)) X [.int .i64 8, .int .i64 i, .int .i64 n, .int .i64 t, .string b, .int .i64 e, .int .i64 s0, .int .i64 s1, .int .i64 s2, .int .i64 s3, .int .i64 s4, .int .i64 s5] 26 ∧ Below w.heap.size w (wc.alloc (.cells #[.int .i64 s0, .int .i64 s1, .int .i64 s2, .int .i64 s3, .int .i64 s4, .int .i64 s5] 24))) ∧ Blk (wc.alloc (.cells #[.int .i64 s0, .int .i64 s1, .int .i64 s2, .int .i64 s3, .int .i64 s4, .int .i64 s5] 24)) wc.heap.size [.int .i64 s0, .int .i64 s1, .int .i64 s2, .int .i64 s3, .int .i64 s4, .int .i64 s5] 24) := Lib.hid (by
              have q3 : Below wc.heap.size wc (wc.alloc (.cells #[.int .i64 s0, .int .i64 s1, .int .i64 s2, .int .i64 s3, .int .i64 s4, .int .i64 s5] 24)) := (Below.refl _ _).alloc (Nat.le_refl _) _
              exact ⟨⟨HC.out.1.chg (l := []) (Chg.of_fresh q3) (by simp), HC.out.2.trans (q3.mono HC.out.2.size)⟩, Blk.newA _ _ _⟩)
            clear HC d0 d1 d2 d3 d4 d5 d6 d7 d8 d9 d10 d11
            revert HE
            generalize (wc.alloc (.cells #[.int .i64 s0, .int .i64 s1, .int .i64 s2, .int .i64 s3, .int .i64 s4, .int .i64 s5] 24)) = W3
            generalize wc.heap.size = Y
            intro HE
            have HC := Lib.hid (And.intro HE.out.2 HE.out.1.2)
            clear HE
            have f0 := HC.out.1.cell (i := 0) rfl
            have f1 := HC.out.1.cell (i := 1) rfl
            have f2 := HC.out.1.cell (i := 2) rfl
            have f3 := HC.out.1.cell (i := 3) rfl
            have f4 := HC.out.1.cell (i := 4) rfl
            have f5 := HC.out.1.cell (i := 5) rfl
            cases c_m0 with
            | false =>
              have p_m0 : ¬ 0 ≤ s0 := of_decide_eq_false h_m0
              have x_m00 : s0 < 0 := by omega
              go_wp2_with (first
                | (go_at_call 11; (with_reducible refine (ro_what s2 w2 HW.out.1 _).mono ?_); rintro e1 V1 ⟨rfl, q3⟩; have HCn := Lib.hid (And.intro (HC.out.1.chg (l := []) (Chg.of_fresh q3) (by simp)) (HC.out.2.trans (q3.mono HC.out.2.size))); clear HC; have HC := HCn; clear HCn q3; have f0 := HC.out.1.cell (i := 0) rfl; have f1 := HC.out.1.cell (i := 1) rfl; have f2 := HC.out.1.cell (i := 2) rfl; have f3 := HC.out.1.cell (i := 3) rfl; have f4 := HC.out.1.cell (i := 4) rfl; have f5 := HC.out.1.cell (i := 5) rfl)
                | (go_at_call 13; (with_reducible refine (rl_status s5 w5 HW.out.2 _).mono ?_); rintro e1 V1 ⟨rfl, q3⟩; have HCn := Lib.hid (And.intro (HC.out.1.chg (l := []) (Chg.of_fresh q3) (by simp)) (HC.out.2.trans (q3.mono HC.out.2.size))); clear HC; have HC := HCn; clear HCn q3))
              go_ret
              exact ⟨by rw [← HX.out]; first | (simp; done) | (simp; assumption) | (simp; omega), by first | exact HC.out.2 | exact HC.out.2.alloc HC.out.2.size _⟩
            | true =>
              have p_m0 : 0 ≤ s0 := of_decide_eq_true h_m0
              have x_m00 : ¬ s0 < 0 := by omega
              cases c_m1 with
              | false =>
                have p_m1 : ¬ 0 ≤ s1 := of_decide_eq_false h_m1
                have x_m10 : s1 < 0 := by omega
                go_wp2_with (first
                  | (go_at_call 11; (with_reducible refine (ro_what s2 w2 HW.out.1 _).mono ?_); rintro e1 V1 ⟨rfl, q3⟩; have HCn := Lib.hid (And.intro (HC.out.1.chg (l := []) (Chg.of_fresh q3) (by simp)) (HC.out.2.trans (q3.mono HC.out.2.size))); clear HC; have HC := HCn; clear HCn q3; have f0 := HC.out.1.cell (i := 0) rfl; have f1 := HC.out.1.cell (i := 1) rfl; have f2 := HC.out.1.cell (i := 2) rfl; have f3 := HC.out.1.cell (i := 3) rfl; have f4 := HC.out.1.cell (i := 4) rfl; have f5 := HC.out.1.cell (i := 5) rfl)
                  | (go_at_call 13; (with_reducible refine (rl_status s5 w5 HW.out.2 _).mono ?_); rintro e1 V1 ⟨rfl, q3⟩; have HCn := Lib.hid (And.intro (HC.out.1.chg (l := []) (Chg.of_fresh q3) (by simp)) (HC.out.2.trans (q3.mono HC.out.2.size))); clear HC; have HC := HCn; clear HCn q3))
                go_ret
                exact ⟨by rw [← HX.out]; first | (simp; done) | (simp; assumption) | (simp; omega), by first | exact HC.out.2 | exact HC.out.2.alloc HC.out.2.size _⟩
              | true =>
                have p_m1 : 0 ≤ s1 := of_decide_eq_true h_m1
                have x_m10 : ¬ s1 < 0 := by omega
                cases c_m2 with
                | false =>
                  have p_m2 : ¬ s1 ≤ 200 := of_decide_eq_false h_m2
                  have x_m20 : 200 < s1 := by omega
                  go_wp2_with (first
                    | (go_at_call 11; (with_reducible refine (ro_what s2 w2 HW.out.1 _).mono ?_); rintro e1 V1 ⟨rfl, q3⟩; have HCn := Lib.hid (And.intro (HC.out.1.chg (l := []) (Chg.of_fresh q3) (by simp)) (HC.out.2.trans (q3.mono HC.out.2.size))); clear HC; have HC := HCn; clear HCn q3; have f0 := HC.out.1.cell (i := 0) rfl; have f1 := HC.out.1.cell (i := 1) rfl; have f2 := HC.out.1.cell (i := 2) rfl; have f3 := HC.out.1.cell (i := 3) rfl; have f4 := HC.out.1.cell (i := 4) rfl; have f5 := HC.out.1.cell (i := 5) rfl)
                    | (go_at_call 13; (with_reducible refine (rl_status s5 w5 HW.out.2 _).mono ?_); rintro e1 V1 ⟨rfl, q3⟩; have HCn := Lib.hid (And.intro (HC.out.1.chg (l := []) (Chg.of_fresh q3) (by simp)) (HC.out.2.trans (q3.mono HC.out.2.size))); clear HC; have HC := HCn; clear HCn q3))
                  go_ret
                  exact ⟨by rw [← HX.out]; first | (simp; done) | (simp; assumption) | (simp; omega), by first | exact HC.out.2 | exact HC.out.2.alloc HC.out.2.size _⟩
                | true =>
                  have p_m2 : s1 ≤ 200 := of_decide_eq_true h_m2
                  have x_m20 : ¬ 200 < s1 := by omega
                  cases c_mw with
                  | true =>
                    go_wp2_with (first
                      | (go_at_call 11; (with_reducible refine (ro_what s2 w2 HW.out.1 _).mono ?_); rintro e1 V1 ⟨rfl, q3⟩; have HCn := Lib.hid (And.intro (HC.out.1.chg (l := []) (Chg.of_fresh q3) (by simp)) (HC.out.2.trans (q3.mono HC.out.2.size))); clear HC; have HC := HCn; clear HCn q3; have f0 := HC.out.1.cell (i := 0) rfl; have f1 := HC.out.1.cell (i := 1) rfl; have f2 := HC.out.1.cell (i := 2) rfl; have f3 := HC.out.1.cell (i := 3) rfl; have f4 := HC.out.1.cell (i := 4) rfl; have f5 := HC.out.1.cell (i := 5) rfl)
                      | (go_at_call 13; (with_reducible refine (rl_status s5 w5 HW.out.2 _).mono ?_); rintro e1 V1 ⟨rfl, q3⟩; have HCn := Lib.hid (And.intro (HC.out.1.chg (l := []) (Chg.of_fresh q3) (by simp)) (HC.out.2.trans (q3.mono HC.out.2.size))); clear HC; have HC := HCn; clear HCn q3))
                    go_ret
                    exact ⟨by rw [← HX.out]; first | (simp; done) | (simp; assumption) | (simp; omega), by first | exact HC.out.2 | exact HC.out.2.alloc HC.out.2.size _⟩
                  | false =>
                    cases c_m3 with
                    | false =>
                      have p_m3 : ¬ 0 ≤ s3 := of_decide_eq_false h_m3
                      have x_m30 : s3 < 0 := by omega
                      go_wp2_with (first
                        | (go_at_call 11; (with_reducible refine (ro_what s2 w2 HW.out.1 _).mono ?_); rintro e1 V1 ⟨rfl, q3⟩; have HCn := Lib.hid (And.intro (HC.out.1.chg (l := []) (Chg.of_fresh q3) (by simp)) (HC.out.2.trans (q3.mono HC.out.2.size))); clear HC; have HC := HCn; clear HCn q3; have f0 := HC.out.1.cell (i := 0) rfl; have f1 := HC.out.1.cell (i := 1) rfl; have f2 := HC.out.1.cell (i := 2) rfl; have f3 := HC.out.1.cell (i := 3) rfl; have f4 := HC.out.1.cell (i := 4) rfl; have f5 := HC.out.1.cell (i := 5) rfl)
                        | (go_at_call 13; (with_reducible refine (rl_status s5 w5 HW.out.2 _).mono ?_); rintro e1 V1 ⟨rfl, q3⟩; have HCn := Lib.hid (And.intro (HC.out.1.chg (l := []) (Chg.of_fresh q3) (by simp)) (HC.out.2.trans (q3.mono HC.out.2.size))); clear HC; have HC := HCn; clear HCn q3))
                      go_ret
                      exact ⟨by rw [← HX.out]; first | (simp; done) | (simp; assumption) | (simp; omega), by first | exact HC.out.2 | exact HC.out.2.alloc HC.out.2.size _⟩
                    | true =>
                      have p_m3 : 0 ≤ s3 := of_decide_eq_true h_m3
                      have x_m30 : ¬ s3 < 0 := by omega
                      cases c_m4 with
                      | false =>
                        have p_m4 : ¬ s3 ≤ 7 := of_decide_eq_false h_m4
                        have x_m40 : 7 < s3 := by omega
                        go_wp2_with (first
                          | (go_at_call 11; (with_reducible refine (ro_what s2 w2 HW.out.1 _).mono ?_); rintro e1 V1 ⟨rfl, q3⟩; have HCn := Lib.hid (And.intro (HC.out.1.chg (l := []) (Chg.of_fresh q3) (by simp)) (HC.out.2.trans (q3.mono HC.out.2.size))); clear HC; have HC := HCn; clear HCn q3; have f0 := HC.out.1.cell (i := 0) rfl; have f1 := HC.out.1.cell (i := 1) rfl; have f2 := HC.out.1.cell (i := 2) rfl; have f3 := HC.out.1.cell (i := 3) rfl; have f4 := HC.out.1.cell (i := 4) rfl; have f5 := HC.out.1.cell (i := 5) rfl)
                          | (go_at_call 13; (with_reducible refine (rl_status s5 w5 HW.out.2 _).mono ?_); rintro e1 V1 ⟨rfl, q3⟩; have HCn := Lib.hid (And.intro (HC.out.1.chg (l := []) (Chg.of_fresh q3) (by simp)) (HC.out.2.trans (q3.mono HC.out.2.size))); clear HC; have HC := HCn; clear HCn q3))
                        go_ret
                        exact ⟨by rw [← HX.out]; first | (simp; done) | (simp; assumption) | (simp; omega), by first | exact HC.out.2 | exact HC.out.2.alloc HC.out.2.size _⟩
                      | true =>
                        have p_m4 : s3 ≤ 7 := of_decide_eq_true h_m4
                        have x_m40 : ¬ 7 < s3 := by omega
                        cases c_m5 with
                        | false =>
                          have p_m5 : ¬ 0 ≤ s4 := of_decide_eq_false h_m5
                          have x_m50 : s4 < 0 := by omega
                          go_wp2_with (first
                            | (go_at_call 11; (with_reducible refine (ro_what s2 w2 HW.out.1 _).mono ?_); rintro e1 V1 ⟨rfl, q3⟩; have HCn := Lib.hid (And.intro (HC.out.1.chg (l := []) (Chg.of_fresh q3) (by simp)) (HC.out.2.trans (q3.mono HC.out.2.size))); clear HC; have HC := HCn; clear HCn q3; have f0 := HC.out.1.cell (i := 0) rfl; have f1 := HC.out.1.cell (i := 1) rfl; have f2 := HC.out.1.cell (i := 2) rfl; have f3 := HC.out.1.cell (i := 3) rfl; have f4 := HC.out.1.cell (i := 4) rfl; have f5 := HC.out.1.cell (i := 5) rfl)
                            | (go_at_call 13; (with_reducible refine (rl_status s5 w5 HW.out.2 _).mono ?_); rintro e1 V1 ⟨rfl, q3⟩; have HCn := Lib.hid (And.intro (HC.out.1.chg (l := []) (Chg.of_fresh q3) (by simp)) (HC.out.2.trans (q3.mono HC.out.2.size))); clear HC; have HC := HCn; clear HCn q3))
                          go_ret
                          exact ⟨by rw [← HX.out]; first | (simp; done) | (simp; assumption) | (simp; omega), by first | exact HC.out.2 | exact HC.out.2.alloc HC.out.2.size _⟩
                        | true =>
                          have p_m5 : 0 ≤ s4 := of_decide_eq_true h_m5
                          have x_m50 : ¬ s4 < 0 := by omega
                          cases c_m6 with
                          | false =>
                            have p_m6 : ¬ s4 ≤ 4096 := of_decide_eq_false h_m6
                            have x_m60 : 4096 < s4 := by omega
                            go_wp2_with (first
                              | (go_at_call 11; (with_reducible refine (ro_what s2 w2 HW.out.1 _).mono ?_); rintro e1 V1 ⟨rfl, q3⟩; have HCn := Lib.hid (And.intro (HC.out.1.chg (l := []) (Chg.of_fresh q3) (by simp)) (HC.out.2.trans (q3.mono HC.out.2.size))); clear HC; have HC := HCn; clear HCn q3; have f0 := HC.out.1.cell (i := 0) rfl; have f1 := HC.out.1.cell (i := 1) rfl; have f2 := HC.out.1.cell (i := 2) rfl; have f3 := HC.out.1.cell (i := 3) rfl; have f4 := HC.out.1.cell (i := 4) rfl; have f5 := HC.out.1.cell (i := 5) rfl)
                              | (go_at_call 13; (with_reducible refine (rl_status s5 w5 HW.out.2 _).mono ?_); rintro e1 V1 ⟨rfl, q3⟩; have HCn := Lib.hid (And.intro (HC.out.1.chg (l := []) (Chg.of_fresh q3) (by simp)) (HC.out.2.trans (q3.mono HC.out.2.size))); clear HC; have HC := HCn; clear HCn q3))
                            go_ret
                            exact ⟨by rw [← HX.out]; first | (simp; done) | (simp; assumption) | (simp; omega), by first | exact HC.out.2 | exact HC.out.2.alloc HC.out.2.size _⟩
                          | true =>
                            have p_m6 : s4 ≤ 4096 := of_decide_eq_true h_m6
                            have x_m60 : ¬ 4096 < s4 := by omega
                            cases c_ms with
                            | true =>
                              go_wp2_with (first
                                | (go_at_call 11; (with_reducible refine (ro_what s2 w2 HW.out.1 _).mono ?_); rintro e1 V1 ⟨rfl, q3⟩; have HCn := Lib.hid (And.intro (HC.out.1.chg (l := []) (Chg.of_fresh q3) (by simp)) (HC.out.2.trans (q3.mono HC.out.2.size))); clear HC; have HC := HCn; clear HCn q3; have f0 := HC.out.1.cell (i := 0) rfl; have f1 := HC.out.1.cell (i := 1) rfl; have f2 := HC.out.1.cell (i := 2) rfl; have f3 := HC.out.1.cell (i := 3) rfl; have f4 := HC.out.1.cell (i := 4) rfl; have f5 := HC.out.1.cell (i := 5) rfl)
                                | (go_at_call 13; (with_reducible refine (rl_status s5 w5 HW.out.2 _).mono ?_); rintro e1 V1 ⟨rfl, q3⟩; have HCn := Lib.hid (And.intro (HC.out.1.chg (l := []) (Chg.of_fresh q3) (by simp)) (HC.out.2.trans (q3.mono HC.out.2.size))); clear HC; have HC := HCn; clear HCn q3))
                              go_ret
                              exact ⟨by rw [← HX.out]; first | (simp; done) | (simp; assumption) | (simp; omega), by first | exact HC.out.2 | exact HC.out.2.alloc HC.out.2.size _⟩
                            | false =>
                              go_wp2_with (first
                                | (go_at_call 11; (with_reducible refine (ro_what s2 w2 HW.out.1 _).mono ?_); rintro e1 V1 ⟨rfl, q3⟩; have HCn := Lib.hid (And.intro (HC.out.1.chg (l := []) (Chg.of_fresh q3) (by simp)) (HC.out.2.trans (q3.mono HC.out.2.size))); clear HC; have HC := HCn; clear HCn q3; have f0 := HC.out.1.cell (i := 0) rfl; have f1 := HC.out.1.cell (i := 1) rfl; have f2 := HC.out.1.cell (i := 2) rfl; have f3 := HC.out.1.cell (i := 3) rfl; have f4 := HC.out.1.cell (i := 4) rfl; have f5 := HC.out.1.cell (i := 5) rfl)
                                | (go_at_call 13; (with_reducible refine (rl_status s5 w5 HW.out.2 _).mono ?_); rintro e1 V1 ⟨rfl, q3⟩; have HCn := Lib.hid (And.intro (HC.out.1.chg (l := []) (Chg.of_fresh q3) (by simp)) (HC.out.2.trans (q3.mono HC.out.2.size))); clear HC; have HC := HCn; clear HCn q3))
                              go_ret
                              exact ⟨by rw [← HX.out]; first | (simp; done) | (simp; assumption) | (simp; omega), by first | exact HC.out.2 | exact HC.out.2.alloc HC.out.2.size _⟩
end Go.Proofs.YtfhhkmjjifbfeaaGreatDoor
