/- Log: the document's Good (rounds, drains, ends). -/
import Derived.Test.YtfhhkmjjifbfeaaGreatDoorLo19
import Derived.Test.YtfhhkmjjifbfeaaGreatDoorOpen
import Derived.Test.YtfhhkmjjifbfeaaGreatDoorClass
import Derived.WalkKit
import Derived.ProofKit
import Derived.Handy
import Derived.WalkLawsBesides
import Derived.WalkSpells
import Derived.Lib.Hide
import Derived.Lib.SliceRun
import Derived.Deep.RegionLaw
import Derived.RegionTactic
import Derived.ChangeAlike
import Derived.WalkSmall
import Derived.Deep.QuietTactic
import Derived.BigQuiet
import Derived.OwnWalk
import Derived.Outline
import Derived.Deep.CutRange
import Derived.Deep.CutBlock
import Derived.LoopTactic
namespace Go.Proofs.YtfhhkmjjifbfeaaGreatDoor
open Go.ChangeShapes Go.WideShapes Go.ChangeAt Go.RowKit
set_option linter.unusedSimpArgs false
set_option linter.unusedVariables false

set_option maxRecDepth 20000 in
set_option maxHeartbeats 16000000 in
theorem rg_good1 (i n t : Int) (b : ByteArray) (e s0 s1 s2 s3 s4 s5 : Int) (r : Bool) (hr : Lo.good ⟨1, i, n, t, b, e, s0, s1, s2, s3, s4, s5⟩ = r) (hok : Ev.ok ⟨1, i, n, t, b, e, s0, s1, s2, s3, s4, s5⟩) (w : World) :
    Calls Tryz.prog 9 #[.agg #[.int .i64 1, .int .i64 i, .int .i64 n, .int .i64 t, .string b, .int .i64 e, .int .i64 s0, .int .i64 s1, .int .i64 s2, .int .i64 s3, .int .i64 s4, .int .i64 s5]] w fun z w' => z = .returned (.bool r) ∧ Below w.heap.size w w' := by
  rw [Lo.good_1] at hr
  have hw : ∀ v, v ∈ [s0, s1, s2, s3, s4, s5] → (Lit.int .i64 v).wf = true := fun v hv => hok.2 .i64 v (by
    simp only [List.mem_cons, List.not_mem_nil, or_false] at hv
    rcases hv with rfl | rfl | rfl | rfl | rfl | rfl <;> simp [Ev.c])
  have eqs := eqSt s0 s1 s2 s3 s4 s5 hw
  obtain ⟨c_ci, h_ci⟩ : ∃ x, (decide (i = 0)) = x := ⟨_, rfl⟩
  obtain ⟨c_cn, h_cn⟩ : ∃ x, (decide (n = 0)) = x := ⟨_, rfl⟩
  obtain ⟨c_cb, h_cb⟩ : ∃ x, ((b.toList == [])) = x := ⟨_, rfl⟩
  obtain ⟨c_ce, h_ce⟩ : ∃ x, (decide (e = 0)) = x := ⟨_, rfl⟩
  obtain ⟨c_cz, h_cz⟩ : ∃ x, (decide (s0 = 0 ∧ s1 = 0 ∧ s2 = 0 ∧ s3 = 0 ∧ s4 = 0 ∧ s5 = 0)) = x := ⟨_, rfl⟩
  obtain ⟨c_ctp, h_ctp⟩ : ∃ x, (decide (0 ≤ t)) = x := ⟨_, rfl⟩
  rw [h_ci, h_cn, h_cb, h_ce, h_cz, h_ctp] at hr
  rw [h_cz] at eqs
  obtain ⟨idb, hid⟩ : ∃ x, (decide (0 ≤ i) && decide (i ≤ 4095)) = x := ⟨_, rfl⟩
  have HX := Lib.hid hr
  obtain ⟨X, hX⟩ : ∃ X, w.heap.size = X := ⟨_, rfl⟩
  have HB : Hid (Blk (w.alloc (.cells #[.int .i64 1, .int .i64 i, .int .i64 n, .int .i64 t, .string b, .int .i64 e, .int .i64 s0, .int .i64 s1, .int .i64 s2, .int .i64 s3, .int .i64 s4, .int .i64 s5] 26)) X [.int .i64 1, .int .i64 i, .int .i64 n, .int .i64 t, .string b, .int .i64 e, .int .i64 s0, .int .i64 s1, .int .i64 s2, .int .i64 s3, .int .i64 s4, .int .i64 s5] 26 ∧ Below w.heap.size w (w.alloc (.cells #[.int .i64 1, .int .i64 i, .int .i64 n, .int .i64 t, .string b, .int .i64 e, .int .i64 s0, .int .i64 s1, .int .i64 s2, .int .i64 s3, .int .i64 s4, .int .i64 s5] 26))) := Lib.hid ⟨by rw [← hX]; exact Blk.newA _ _ _, (Below.refl _ _).alloc (Nat.le_refl _) _⟩
  have HI := Lib.hid hid
  clear hr hok hw hid
  go_enter Tryz.func9, Tryz.ntmps9
  go_upto_region 1 with fail
  clear hX
  revert HB
  generalize (w.alloc (.cells #[.int .i64 1, .int .i64 i, .int .i64 n, .int .i64 t, .string b, .int .i64 e, .int .i64 s0, .int .i64 s1, .int .i64 s2, .int .i64 s3, .int .i64 s4, .int .i64 s5] 26)) = W1
  intro HB
  have d0 := HB.out.1.cell (i := 0) rfl
  have d1 := HB.out.1.cell (i := 1) rfl
  have d2 := HB.out.1.cell (i := 2) rfl
  have d3 := HB.out.1.cell (i := 3) rfl
  have d4 := HB.out.1.cell (i := 4) rfl
  have d5 := HB.out.1.cell (i := 5) rfl
  have d6 := HB.out.1.cell (i := 6) rfl
  have d7 := HB.out.1.cell (i := 7) rfl
  have d8 := HB.out.1.cell (i := 8) rfl
  have d9 := HB.out.1.cell (i := 9) rfl
  have d10 := HB.out.1.cell (i := 10) rfl
  have d11 := HB.out.1.cell (i := 11) rfl
  go_cut [3, 4] from 8 to 17 (fun va vb wx => va = .int .i64 1 ∧ vb = .bool idb ∧ Hid (Blk wx X [.int .i64 1, .int .i64 i, .int .i64 n, .int .i64 t, .string b, .int .i64 e, .int .i64 s0, .int .i64 s1, .int .i64 s2, .int .i64 s3, .int .i64 s4, .int .i64 s5] 26 ∧ Below w.heap.size w wx))
  case first =>
    by_cases y0 : 0 ≤ i
    · by_cases y1 : i < 4096
      · have HY : Hid (true = idb) := Lib.hid (by rw [← HI.out]; simp; omega)
        refine wp_region_class (fun w' => Below W1.heap.size W1 w') (by kernel_rfl) (by kernel_rfl) (Below.refl _ _).drew ?_
        repeat (first
          | go_big_quiet_skip
          | (go_big_quiet_want
             unfold Oper.quiet
             apply Exists.intro
             refine ⟨fun wq hwq => ?_, ?_⟩
             · (have HQ := Lib.hid (HB.out.1.chg (l := []) (Chg.of_fresh hwq) (by simp))
                have d0 := HQ.out.cell (i := 0) rfl
                have d1 := HQ.out.cell (i := 1) rfl
                unfold Oper.quietAt
                go_simp
                first
                  | exact ⟨rfl, rfl⟩
                  | exact rfl)
             simp only [Act.put, List.setIfInBounds_toArray, List.set_cons_zero, List.set_cons_succ]
             go_big_quiet_on))
        refine wpQuiet_nil ?_
        intro w4 hw4
        have H4 : Hid (Blk w4 X [.int .i64 1, .int .i64 i, .int .i64 n, .int .i64 t, .string b, .int .i64 e, .int .i64 s0, .int .i64 s1, .int .i64 s2, .int .i64 s3, .int .i64 s4, .int .i64 s5] 26 ∧ Below w.heap.size w w4) := Lib.hid ⟨HB.out.1.chg (l := []) (Chg.of_fresh hw4) (by simp), HB.out.2.trans (hw4.mono HB.out.2.size)⟩
        clear hw4
        go_wp2_with fail
        go_meet
        exact ⟨rfl, by rw [← HY.out], Lib.hid H4.out⟩
      · have HY : Hid (false = idb) := Lib.hid (by rw [← HI.out]; simp; omega)
        refine wp_region_class (fun w' => Below W1.heap.size W1 w') (by kernel_rfl) (by kernel_rfl) (Below.refl _ _).drew ?_
        repeat (first
          | go_big_quiet_skip
          | (go_big_quiet_want
             unfold Oper.quiet
             apply Exists.intro
             refine ⟨fun wq hwq => ?_, ?_⟩
             · (have HQ := Lib.hid (HB.out.1.chg (l := []) (Chg.of_fresh hwq) (by simp))
                have d0 := HQ.out.cell (i := 0) rfl
                have d1 := HQ.out.cell (i := 1) rfl
                unfold Oper.quietAt
                go_simp
                first
                  | exact ⟨rfl, rfl⟩
                  | exact rfl)
             simp only [Act.put, List.setIfInBounds_toArray, List.set_cons_zero, List.set_cons_succ]
             go_big_quiet_on))
        refine wpQuiet_nil ?_
        intro w4 hw4
        have H4 : Hid (Blk w4 X [.int .i64 1, .int .i64 i, .int .i64 n, .int .i64 t, .string b, .int .i64 e, .int .i64 s0, .int .i64 s1, .int .i64 s2, .int .i64 s3, .int .i64 s4, .int .i64 s5] 26 ∧ Below w.heap.size w w4) := Lib.hid ⟨HB.out.1.chg (l := []) (Chg.of_fresh hw4) (by simp), HB.out.2.trans (hw4.mono HB.out.2.size)⟩
        clear hw4
        go_wp2_with fail
        go_meet
        exact ⟨rfl, by rw [← HY.out], Lib.hid H4.out⟩
    · have HY : Hid (false = idb) := Lib.hid (by rw [← HI.out]; simp; omega)
      refine wp_region_class (fun w' => Below W1.heap.size W1 w') (by kernel_rfl) (by kernel_rfl) (Below.refl _ _).drew ?_
      repeat (first
        | go_big_quiet_skip
        | (go_big_quiet_want
           unfold Oper.quiet
           apply Exists.intro
           refine ⟨fun wq hwq => ?_, ?_⟩
           · (have HQ := Lib.hid (HB.out.1.chg (l := []) (Chg.of_fresh hwq) (by simp))
              have d0 := HQ.out.cell (i := 0) rfl
              have d1 := HQ.out.cell (i := 1) rfl
              unfold Oper.quietAt
              go_simp
              first
                | exact ⟨rfl, rfl⟩
                | exact rfl)
           simp only [Act.put, List.setIfInBounds_toArray, List.set_cons_zero, List.set_cons_succ]
           go_big_quiet_on))
      refine wpQuiet_nil ?_
      intro w4 hw4
      have H4 : Hid (Blk w4 X [.int .i64 1, .int .i64 i, .int .i64 n, .int .i64 t, .string b, .int .i64 e, .int .i64 s0, .int .i64 s1, .int .i64 s2, .int .i64 s3, .int .i64 s4, .int .i64 s5] 26 ∧ Below w.heap.size w w4) := Lib.hid ⟨HB.out.1.chg (l := []) (Chg.of_fresh hw4) (by simp), HB.out.2.trans (hw4.mono HB.out.2.size)⟩
      clear hw4
      go_wp2_with fail
      go_meet
      exact ⟨rfl, by rw [← HY.out], Lib.hid H4.out⟩
  case rest =>
    obtain ⟨rfl, rfl, HC⟩ := hcut
    clear HB
    have d0 := HC.out.1.cell (i := 0) rfl
    have d1 := HC.out.1.cell (i := 1) rfl
    have d2 := HC.out.1.cell (i := 2) rfl
    have d3 := HC.out.1.cell (i := 3) rfl
    have d4 := HC.out.1.cell (i := 4) rfl
    have d5 := HC.out.1.cell (i := 5) rfl
    have d6 := HC.out.1.cell (i := 6) rfl
    have d7 := HC.out.1.cell (i := 7) rfl
    have d8 := HC.out.1.cell (i := 8) rfl
    have d9 := HC.out.1.cell (i := 9) rfl
    have d10 := HC.out.1.cell (i := 10) rfl
    have d11 := HC.out.1.cell (i := 11) rfl
    cases c_cb with
    | false =>
      go_wp2_with fail
      go_ret
      exact ⟨by rw [← HX.out]; first | (simp; done) | (simp; assumption) | (simp; omega), by first | exact HC.out.2 | exact HC.out.2.alloc HC.out.2.size _⟩
    | true =>
      cases c_ce with
      | false =>
        have p_ce : ¬ e = 0 := of_decide_eq_false h_ce
        go_wp2_with fail
        go_ret
        exact ⟨by rw [← HX.out]; first | (simp; done) | (simp; assumption) | (simp; omega), by first | exact HC.out.2 | exact HC.out.2.alloc HC.out.2.size _⟩
      | true =>
        have p_ce : e = 0 := of_decide_eq_true h_ce
        cases c_cz with
        | false =>
          go_wp2_with fail
          go_ret
          exact ⟨by rw [← HX.out]; first | (simp; done) | (simp; assumption) | (simp; omega), by first | exact HC.out.2 | exact HC.out.2.alloc HC.out.2.size _⟩
        | true =>
          cases c_cn with
          | false =>
            have p_cn : ¬ n = 0 := of_decide_eq_false h_cn
            go_wp2_with fail
            go_ret
            exact ⟨by rw [← HX.out]; first | (simp; done) | (simp; assumption) | (simp; omega), by first | exact HC.out.2 | exact HC.out.2.alloc HC.out.2.size _⟩
          | true =>
            have p_cn : n = 0 := of_decide_eq_true h_cn
            go_upto_region 6 with fail
            cases c_ci with
            | false =>
              have p_ci : ¬ i = 0 := of_decide_eq_false h_ci
              go_wp2_with fail
              go_ret
              exact ⟨by rw [← HX.out]; first | (simp; done) | (simp; assumption) | (simp; omega), by first | exact HC.out.2 | exact HC.out.2.alloc HC.out.2.size _⟩
            | true =>
              have p_ci : i = 0 := of_decide_eq_true h_ci
              cases c_ctp with
              | false =>
                have p_ctp : ¬ 0 ≤ t := of_decide_eq_false h_ctp
                go_wp2_with fail
                go_ret
                exact ⟨by rw [← HX.out]; first | (simp; done) | (simp; assumption) | (simp; omega), by first | exact HC.out.2 | exact HC.out.2.alloc HC.out.2.size _⟩
              | true =>
                have p_ctp : 0 ≤ t := of_decide_eq_true h_ctp
                go_wp2_with fail
                go_ret
                exact ⟨by rw [← HX.out]; first | (simp; done) | (simp; assumption) | (simp; omega), by first | exact HC.out.2 | exact HC.out.2.alloc HC.out.2.size _⟩
set_option maxRecDepth 20000 in
set_option maxHeartbeats 16000000 in
theorem rg_good7 (i n t : Int) (b : ByteArray) (e s0 s1 s2 s3 s4 s5 : Int) (r : Bool) (hr : Lo.good ⟨7, i, n, t, b, e, s0, s1, s2, s3, s4, s5⟩ = r) (hok : Ev.ok ⟨7, i, n, t, b, e, s0, s1, s2, s3, s4, s5⟩) (w : World) :
    Calls Tryz.prog 9 #[.agg #[.int .i64 7, .int .i64 i, .int .i64 n, .int .i64 t, .string b, .int .i64 e, .int .i64 s0, .int .i64 s1, .int .i64 s2, .int .i64 s3, .int .i64 s4, .int .i64 s5]] w fun z w' => z = .returned (.bool r) ∧ Below w.heap.size w w' := by
  rw [Lo.good_7] at hr
  have hw : ∀ v, v ∈ [s0, s1, s2, s3, s4, s5] → (Lit.int .i64 v).wf = true := fun v hv => hok.2 .i64 v (by
    simp only [List.mem_cons, List.not_mem_nil, or_false] at hv
    rcases hv with rfl | rfl | rfl | rfl | rfl | rfl <;> simp [Ev.c])
  have eqs := eqSt s0 s1 s2 s3 s4 s5 hw
  obtain ⟨c_ci, h_ci⟩ : ∃ x, (decide (i = 0)) = x := ⟨_, rfl⟩
  obtain ⟨c_cn, h_cn⟩ : ∃ x, (decide (n = 0)) = x := ⟨_, rfl⟩
  obtain ⟨c_cb, h_cb⟩ : ∃ x, ((b.toList == [])) = x := ⟨_, rfl⟩
  obtain ⟨c_ce, h_ce⟩ : ∃ x, (decide (e = 0)) = x := ⟨_, rfl⟩
  obtain ⟨c_cz, h_cz⟩ : ∃ x, (decide (s0 = 0 ∧ s1 = 0 ∧ s2 = 0 ∧ s3 = 0 ∧ s4 = 0 ∧ s5 = 0)) = x := ⟨_, rfl⟩
  obtain ⟨c_ctp, h_ctp⟩ : ∃ x, (decide (0 ≤ t)) = x := ⟨_, rfl⟩
  rw [h_ci, h_cn, h_cb, h_ce, h_cz, h_ctp] at hr
  rw [h_cz] at eqs
  obtain ⟨idb, hid⟩ : ∃ x, (decide (0 ≤ i) && decide (i ≤ 4095)) = x := ⟨_, rfl⟩
  have HX := Lib.hid hr
  obtain ⟨X, hX⟩ : ∃ X, w.heap.size = X := ⟨_, rfl⟩
  have HB : Hid (Blk (w.alloc (.cells #[.int .i64 7, .int .i64 i, .int .i64 n, .int .i64 t, .string b, .int .i64 e, .int .i64 s0, .int .i64 s1, .int .i64 s2, .int .i64 s3, .int .i64 s4, .int .i64 s5] 26)) X [.int .i64 7, .int .i64 i, .int .i64 n, .int .i64 t, .string b, .int .i64 e, .int .i64 s0, .int .i64 s1, .int .i64 s2, .int .i64 s3, .int .i64 s4, .int .i64 s5] 26 ∧ Below w.heap.size w (w.alloc (.cells #[.int .i64 7, .int .i64 i, .int .i64 n, .int .i64 t, .string b, .int .i64 e, .int .i64 s0, .int .i64 s1, .int .i64 s2, .int .i64 s3, .int .i64 s4, .int .i64 s5] 26))) := Lib.hid ⟨by rw [← hX]; exact Blk.newA _ _ _, (Below.refl _ _).alloc (Nat.le_refl _) _⟩
  have HI := Lib.hid hid
  clear hr hok hw hid
  go_enter Tryz.func9, Tryz.ntmps9
  go_upto_region 1 with fail
  clear hX
  revert HB
  generalize (w.alloc (.cells #[.int .i64 7, .int .i64 i, .int .i64 n, .int .i64 t, .string b, .int .i64 e, .int .i64 s0, .int .i64 s1, .int .i64 s2, .int .i64 s3, .int .i64 s4, .int .i64 s5] 26)) = W1
  intro HB
  have d0 := HB.out.1.cell (i := 0) rfl
  have d1 := HB.out.1.cell (i := 1) rfl
  have d2 := HB.out.1.cell (i := 2) rfl
  have d3 := HB.out.1.cell (i := 3) rfl
  have d4 := HB.out.1.cell (i := 4) rfl
  have d5 := HB.out.1.cell (i := 5) rfl
  have d6 := HB.out.1.cell (i := 6) rfl
  have d7 := HB.out.1.cell (i := 7) rfl
  have d8 := HB.out.1.cell (i := 8) rfl
  have d9 := HB.out.1.cell (i := 9) rfl
  have d10 := HB.out.1.cell (i := 10) rfl
  have d11 := HB.out.1.cell (i := 11) rfl
  go_cut [3, 4] from 8 to 17 (fun va vb wx => va = .int .i64 7 ∧ vb = .bool idb ∧ Hid (Blk wx X [.int .i64 7, .int .i64 i, .int .i64 n, .int .i64 t, .string b, .int .i64 e, .int .i64 s0, .int .i64 s1, .int .i64 s2, .int .i64 s3, .int .i64 s4, .int .i64 s5] 26 ∧ Below w.heap.size w wx))
  case first =>
    by_cases y0 : 0 ≤ i
    · by_cases y1 : i < 4096
      · have HY : Hid (true = idb) := Lib.hid (by rw [← HI.out]; simp; omega)
        refine wp_region_class (fun w' => Below W1.heap.size W1 w') (by kernel_rfl) (by kernel_rfl) (Below.refl _ _).drew ?_
        repeat (first
          | go_big_quiet_skip
          | (go_big_quiet_want
             unfold Oper.quiet
             apply Exists.intro
             refine ⟨fun wq hwq => ?_, ?_⟩
             · (have HQ := Lib.hid (HB.out.1.chg (l := []) (Chg.of_fresh hwq) (by simp))
                have d0 := HQ.out.cell (i := 0) rfl
                have d1 := HQ.out.cell (i := 1) rfl
                unfold Oper.quietAt
                go_simp
                first
                  | exact ⟨rfl, rfl⟩
                  | exact rfl)
             simp only [Act.put, List.setIfInBounds_toArray, List.set_cons_zero, List.set_cons_succ]
             go_big_quiet_on))
        refine wpQuiet_nil ?_
        intro w4 hw4
        have H4 : Hid (Blk w4 X [.int .i64 7, .int .i64 i, .int .i64 n, .int .i64 t, .string b, .int .i64 e, .int .i64 s0, .int .i64 s1, .int .i64 s2, .int .i64 s3, .int .i64 s4, .int .i64 s5] 26 ∧ Below w.heap.size w w4) := Lib.hid ⟨HB.out.1.chg (l := []) (Chg.of_fresh hw4) (by simp), HB.out.2.trans (hw4.mono HB.out.2.size)⟩
        clear hw4
        go_wp2_with fail
        go_meet
        exact ⟨rfl, by rw [← HY.out], Lib.hid H4.out⟩
      · have HY : Hid (false = idb) := Lib.hid (by rw [← HI.out]; simp; omega)
        refine wp_region_class (fun w' => Below W1.heap.size W1 w') (by kernel_rfl) (by kernel_rfl) (Below.refl _ _).drew ?_
        repeat (first
          | go_big_quiet_skip
          | (go_big_quiet_want
             unfold Oper.quiet
             apply Exists.intro
             refine ⟨fun wq hwq => ?_, ?_⟩
             · (have HQ := Lib.hid (HB.out.1.chg (l := []) (Chg.of_fresh hwq) (by simp))
                have d0 := HQ.out.cell (i := 0) rfl
                have d1 := HQ.out.cell (i := 1) rfl
                unfold Oper.quietAt
                go_simp
                first
                  | exact ⟨rfl, rfl⟩
                  | exact rfl)
             simp only [Act.put, List.setIfInBounds_toArray, List.set_cons_zero, List.set_cons_succ]
             go_big_quiet_on))
        refine wpQuiet_nil ?_
        intro w4 hw4
        have H4 : Hid (Blk w4 X [.int .i64 7, .int .i64 i, .int .i64 n, .int .i64 t, .string b, .int .i64 e, .int .i64 s0, .int .i64 s1, .int .i64 s2, .int .i64 s3, .int .i64 s4, .int .i64 s5] 26 ∧ Below w.heap.size w w4) := Lib.hid ⟨HB.out.1.chg (l := []) (Chg.of_fresh hw4) (by simp), HB.out.2.trans (hw4.mono HB.out.2.size)⟩
        clear hw4
        go_wp2_with fail
        go_meet
        exact ⟨rfl, by rw [← HY.out], Lib.hid H4.out⟩
    · have HY : Hid (false = idb) := Lib.hid (by rw [← HI.out]; simp; omega)
      refine wp_region_class (fun w' => Below W1.heap.size W1 w') (by kernel_rfl) (by kernel_rfl) (Below.refl _ _).drew ?_
      repeat (first
        | go_big_quiet_skip
        | (go_big_quiet_want
           unfold Oper.quiet
           apply Exists.intro
           refine ⟨fun wq hwq => ?_, ?_⟩
           · (have HQ := Lib.hid (HB.out.1.chg (l := []) (Chg.of_fresh hwq) (by simp))
              have d0 := HQ.out.cell (i := 0) rfl
              have d1 := HQ.out.cell (i := 1) rfl
              unfold Oper.quietAt
              go_simp
              first
                | exact ⟨rfl, rfl⟩
                | exact rfl)
           simp only [Act.put, List.setIfInBounds_toArray, List.set_cons_zero, List.set_cons_succ]
           go_big_quiet_on))
      refine wpQuiet_nil ?_
      intro w4 hw4
      have H4 : Hid (Blk w4 X [.int .i64 7, .int .i64 i, .int .i64 n, .int .i64 t, .string b, .int .i64 e, .int .i64 s0, .int .i64 s1, .int .i64 s2, .int .i64 s3, .int .i64 s4, .int .i64 s5] 26 ∧ Below w.heap.size w w4) := Lib.hid ⟨HB.out.1.chg (l := []) (Chg.of_fresh hw4) (by simp), HB.out.2.trans (hw4.mono HB.out.2.size)⟩
      clear hw4
      go_wp2_with fail
      go_meet
      exact ⟨rfl, by rw [← HY.out], Lib.hid H4.out⟩
  case rest =>
    obtain ⟨rfl, rfl, HC⟩ := hcut
    clear HB
    have d0 := HC.out.1.cell (i := 0) rfl
    have d1 := HC.out.1.cell (i := 1) rfl
    have d2 := HC.out.1.cell (i := 2) rfl
    have d3 := HC.out.1.cell (i := 3) rfl
    have d4 := HC.out.1.cell (i := 4) rfl
    have d5 := HC.out.1.cell (i := 5) rfl
    have d6 := HC.out.1.cell (i := 6) rfl
    have d7 := HC.out.1.cell (i := 7) rfl
    have d8 := HC.out.1.cell (i := 8) rfl
    have d9 := HC.out.1.cell (i := 9) rfl
    have d10 := HC.out.1.cell (i := 10) rfl
    have d11 := HC.out.1.cell (i := 11) rfl
    cases c_cb with
    | false =>
      go_wp2_with fail
      go_ret
      exact ⟨by rw [← HX.out]; first | (simp; done) | (simp; assumption) | (simp; omega), by first | exact HC.out.2 | exact HC.out.2.alloc HC.out.2.size _⟩
    | true =>
      cases c_ce with
      | false =>
        have p_ce : ¬ e = 0 := of_decide_eq_false h_ce
        go_wp2_with fail
        go_ret
        exact ⟨by rw [← HX.out]; first | (simp; done) | (simp; assumption) | (simp; omega), by first | exact HC.out.2 | exact HC.out.2.alloc HC.out.2.size _⟩
      | true =>
        have p_ce : e = 0 := of_decide_eq_true h_ce
        cases c_cz with
        | false =>
          go_wp2_with fail
          go_ret
          exact ⟨by rw [← HX.out]; first | (simp; done) | (simp; assumption) | (simp; omega), by first | exact HC.out.2 | exact HC.out.2.alloc HC.out.2.size _⟩
        | true =>
          cases c_cn with
          | false =>
            have p_cn : ¬ n = 0 := of_decide_eq_false h_cn
            go_wp2_with fail
            go_ret
            exact ⟨by rw [← HX.out]; first | (simp; done) | (simp; assumption) | (simp; omega), by first | exact HC.out.2 | exact HC.out.2.alloc HC.out.2.size _⟩
          | true =>
            have p_cn : n = 0 := of_decide_eq_true h_cn
            go_upto_region 6 with fail
            cases c_ci with
            | false =>
              have p_ci : ¬ i = 0 := of_decide_eq_false h_ci
              go_wp2_with fail
              go_ret
              exact ⟨by rw [← HX.out]; first | (simp; done) | (simp; assumption) | (simp; omega), by first | exact HC.out.2 | exact HC.out.2.alloc HC.out.2.size _⟩
            | true =>
              have p_ci : i = 0 := of_decide_eq_true h_ci
              cases c_ctp with
              | false =>
                have p_ctp : ¬ 0 ≤ t := of_decide_eq_false h_ctp
                go_wp2_with fail
                go_ret
                exact ⟨by rw [← HX.out]; first | (simp; done) | (simp; assumption) | (simp; omega), by first | exact HC.out.2 | exact HC.out.2.alloc HC.out.2.size _⟩
              | true =>
                have p_ctp : 0 ≤ t := of_decide_eq_true h_ctp
                go_wp2_with fail
                go_ret
                exact ⟨by rw [← HX.out]; first | (simp; done) | (simp; assumption) | (simp; omega), by first | exact HC.out.2 | exact HC.out.2.alloc HC.out.2.size _⟩
set_option maxRecDepth 20000 in
set_option maxHeartbeats 16000000 in
theorem rg_good9 (i n t : Int) (b : ByteArray) (e s0 s1 s2 s3 s4 s5 : Int) (r : Bool) (hr : Lo.good ⟨9, i, n, t, b, e, s0, s1, s2, s3, s4, s5⟩ = r) (hok : Ev.ok ⟨9, i, n, t, b, e, s0, s1, s2, s3, s4, s5⟩) (w : World) :
    Calls Tryz.prog 9 #[.agg #[.int .i64 9, .int .i64 i, .int .i64 n, .int .i64 t, .string b, .int .i64 e, .int .i64 s0, .int .i64 s1, .int .i64 s2, .int .i64 s3, .int .i64 s4, .int .i64 s5]] w fun z w' => z = .returned (.bool r) ∧ Below w.heap.size w w' := by
  rw [Lo.good_9] at hr
  have hw : ∀ v, v ∈ [s0, s1, s2, s3, s4, s5] → (Lit.int .i64 v).wf = true := fun v hv => hok.2 .i64 v (by
    simp only [List.mem_cons, List.not_mem_nil, or_false] at hv
    rcases hv with rfl | rfl | rfl | rfl | rfl | rfl <;> simp [Ev.c])
  have eqs := eqSt s0 s1 s2 s3 s4 s5 hw
  obtain ⟨c_ci, h_ci⟩ : ∃ x, (decide (i = 0)) = x := ⟨_, rfl⟩
  obtain ⟨c_cn, h_cn⟩ : ∃ x, (decide (n = 0)) = x := ⟨_, rfl⟩
  obtain ⟨c_ct, h_ct⟩ : ∃ x, (decide (t = 0)) = x := ⟨_, rfl⟩
  obtain ⟨c_cb, h_cb⟩ : ∃ x, ((b.toList == [])) = x := ⟨_, rfl⟩
  obtain ⟨c_ce, h_ce⟩ : ∃ x, (decide (e = 0)) = x := ⟨_, rfl⟩
  obtain ⟨c_cz, h_cz⟩ : ∃ x, (decide (s0 = 0 ∧ s1 = 0 ∧ s2 = 0 ∧ s3 = 0 ∧ s4 = 0 ∧ s5 = 0)) = x := ⟨_, rfl⟩
  rw [h_ci, h_cn, h_ct, h_cb, h_ce, h_cz] at hr
  rw [h_cz] at eqs
  obtain ⟨idb, hid⟩ : ∃ x, (decide (0 ≤ i) && decide (i ≤ 4095)) = x := ⟨_, rfl⟩
  have HX := Lib.hid hr
  obtain ⟨X, hX⟩ : ∃ X, w.heap.size = X := ⟨_, rfl⟩
  have HB : Hid (Blk (w.alloc (.cells #[.int .i64 9, .int .i64 i, .int .i64 n, .int .i64 t, .string b, .int .i64 e, .int .i64 s0, .int .i64 s1, .int .i64 s2, .int .i64 s3, .int .i64 s4, .int .i64 s5] 26)) X [.int .i64 9, .int .i64 i, .int .i64 n, .int .i64 t, .string b, .int .i64 e, .int .i64 s0, .int .i64 s1, .int .i64 s2, .int .i64 s3, .int .i64 s4, .int .i64 s5] 26 ∧ Below w.heap.size w (w.alloc (.cells #[.int .i64 9, .int .i64 i, .int .i64 n, .int .i64 t, .string b, .int .i64 e, .int .i64 s0, .int .i64 s1, .int .i64 s2, .int .i64 s3, .int .i64 s4, .int .i64 s5] 26))) := Lib.hid ⟨by rw [← hX]; exact Blk.newA _ _ _, (Below.refl _ _).alloc (Nat.le_refl _) _⟩
  have HI := Lib.hid hid
  clear hr hok hw hid
  go_enter Tryz.func9, Tryz.ntmps9
  go_upto_region 1 with fail
  clear hX
  revert HB
  generalize (w.alloc (.cells #[.int .i64 9, .int .i64 i, .int .i64 n, .int .i64 t, .string b, .int .i64 e, .int .i64 s0, .int .i64 s1, .int .i64 s2, .int .i64 s3, .int .i64 s4, .int .i64 s5] 26)) = W1
  intro HB
  have d0 := HB.out.1.cell (i := 0) rfl
  have d1 := HB.out.1.cell (i := 1) rfl
  have d2 := HB.out.1.cell (i := 2) rfl
  have d3 := HB.out.1.cell (i := 3) rfl
  have d4 := HB.out.1.cell (i := 4) rfl
  have d5 := HB.out.1.cell (i := 5) rfl
  have d6 := HB.out.1.cell (i := 6) rfl
  have d7 := HB.out.1.cell (i := 7) rfl
  have d8 := HB.out.1.cell (i := 8) rfl
  have d9 := HB.out.1.cell (i := 9) rfl
  have d10 := HB.out.1.cell (i := 10) rfl
  have d11 := HB.out.1.cell (i := 11) rfl
  go_cut [3, 4] from 8 to 17 (fun va vb wx => va = .int .i64 9 ∧ vb = .bool idb ∧ Hid (Blk wx X [.int .i64 9, .int .i64 i, .int .i64 n, .int .i64 t, .string b, .int .i64 e, .int .i64 s0, .int .i64 s1, .int .i64 s2, .int .i64 s3, .int .i64 s4, .int .i64 s5] 26 ∧ Below w.heap.size w wx))
  case first =>
    by_cases y0 : 0 ≤ i
    · by_cases y1 : i < 4096
      · have HY : Hid (true = idb) := Lib.hid (by rw [← HI.out]; simp; omega)
        refine wp_region_class (fun w' => Below W1.heap.size W1 w') (by kernel_rfl) (by kernel_rfl) (Below.refl _ _).drew ?_
        repeat (first
          | go_big_quiet_skip
          | (go_big_quiet_want
             unfold Oper.quiet
             apply Exists.intro
             refine ⟨fun wq hwq => ?_, ?_⟩
             · (have HQ := Lib.hid (HB.out.1.chg (l := []) (Chg.of_fresh hwq) (by simp))
                have d0 := HQ.out.cell (i := 0) rfl
                have d1 := HQ.out.cell (i := 1) rfl
                unfold Oper.quietAt
                go_simp
                first
                  | exact ⟨rfl, rfl⟩
                  | exact rfl)
             simp only [Act.put, List.setIfInBounds_toArray, List.set_cons_zero, List.set_cons_succ]
             go_big_quiet_on))
        refine wpQuiet_nil ?_
        intro w4 hw4
        have H4 : Hid (Blk w4 X [.int .i64 9, .int .i64 i, .int .i64 n, .int .i64 t, .string b, .int .i64 e, .int .i64 s0, .int .i64 s1, .int .i64 s2, .int .i64 s3, .int .i64 s4, .int .i64 s5] 26 ∧ Below w.heap.size w w4) := Lib.hid ⟨HB.out.1.chg (l := []) (Chg.of_fresh hw4) (by simp), HB.out.2.trans (hw4.mono HB.out.2.size)⟩
        clear hw4
        go_wp2_with fail
        go_meet
        exact ⟨rfl, by rw [← HY.out], Lib.hid H4.out⟩
      · have HY : Hid (false = idb) := Lib.hid (by rw [← HI.out]; simp; omega)
        refine wp_region_class (fun w' => Below W1.heap.size W1 w') (by kernel_rfl) (by kernel_rfl) (Below.refl _ _).drew ?_
        repeat (first
          | go_big_quiet_skip
          | (go_big_quiet_want
             unfold Oper.quiet
             apply Exists.intro
             refine ⟨fun wq hwq => ?_, ?_⟩
             · (have HQ := Lib.hid (HB.out.1.chg (l := []) (Chg.of_fresh hwq) (by simp))
                have d0 := HQ.out.cell (i := 0) rfl
                have d1 := HQ.out.cell (i := 1) rfl
                unfold Oper.quietAt
                go_simp
                first
                  | exact ⟨rfl, rfl⟩
                  | exact rfl)
             simp only [Act.put, List.setIfInBounds_toArray, List.set_cons_zero, List.set_cons_succ]
             go_big_quiet_on))
        refine wpQuiet_nil ?_
        intro w4 hw4
        have H4 : Hid (Blk w4 X [.int .i64 9, .int .i64 i, .int .i64 n, .int .i64 t, .string b, .int .i64 e, .int .i64 s0, .int .i64 s1, .int .i64 s2, .int .i64 s3, .int .i64 s4, .int .i64 s5] 26 ∧ Below w.heap.size w w4) := Lib.hid ⟨HB.out.1.chg (l := []) (Chg.of_fresh hw4) (by simp), HB.out.2.trans (hw4.mono HB.out.2.size)⟩
        clear hw4
        go_wp2_with fail
        go_meet
        exact ⟨rfl, by rw [← HY.out], Lib.hid H4.out⟩
    · have HY : Hid (false = idb) := Lib.hid (by rw [← HI.out]; simp; omega)
      refine wp_region_class (fun w' => Below W1.heap.size W1 w') (by kernel_rfl) (by kernel_rfl) (Below.refl _ _).drew ?_
      repeat (first
        | go_big_quiet_skip
        | (go_big_quiet_want
           unfold Oper.quiet
           apply Exists.intro
           refine ⟨fun wq hwq => ?_, ?_⟩
           · (have HQ := Lib.hid (HB.out.1.chg (l := []) (Chg.of_fresh hwq) (by simp))
              have d0 := HQ.out.cell (i := 0) rfl
              have d1 := HQ.out.cell (i := 1) rfl
              unfold Oper.quietAt
              go_simp
              first
                | exact ⟨rfl, rfl⟩
                | exact rfl)
           simp only [Act.put, List.setIfInBounds_toArray, List.set_cons_zero, List.set_cons_succ]
           go_big_quiet_on))
      refine wpQuiet_nil ?_
      intro w4 hw4
      have H4 : Hid (Blk w4 X [.int .i64 9, .int .i64 i, .int .i64 n, .int .i64 t, .string b, .int .i64 e, .int .i64 s0, .int .i64 s1, .int .i64 s2, .int .i64 s3, .int .i64 s4, .int .i64 s5] 26 ∧ Below w.heap.size w w4) := Lib.hid ⟨HB.out.1.chg (l := []) (Chg.of_fresh hw4) (by simp), HB.out.2.trans (hw4.mono HB.out.2.size)⟩
      clear hw4
      go_wp2_with fail
      go_meet
      exact ⟨rfl, by rw [← HY.out], Lib.hid H4.out⟩
  case rest =>
    obtain ⟨rfl, rfl, HC⟩ := hcut
    clear HB
    have d0 := HC.out.1.cell (i := 0) rfl
    have d1 := HC.out.1.cell (i := 1) rfl
    have d2 := HC.out.1.cell (i := 2) rfl
    have d3 := HC.out.1.cell (i := 3) rfl
    have d4 := HC.out.1.cell (i := 4) rfl
    have d5 := HC.out.1.cell (i := 5) rfl
    have d6 := HC.out.1.cell (i := 6) rfl
    have d7 := HC.out.1.cell (i := 7) rfl
    have d8 := HC.out.1.cell (i := 8) rfl
    have d9 := HC.out.1.cell (i := 9) rfl
    have d10 := HC.out.1.cell (i := 10) rfl
    have d11 := HC.out.1.cell (i := 11) rfl
    cases c_ct with
    | false =>
      have p_ct : ¬ t = 0 := of_decide_eq_false h_ct
      go_wp2_with fail
      go_ret
      exact ⟨by rw [← HX.out]; first | (simp; done) | (simp; assumption) | (simp; omega), by first | exact HC.out.2 | exact HC.out.2.alloc HC.out.2.size _⟩
    | true =>
      have p_ct : t = 0 := of_decide_eq_true h_ct
      cases c_cb with
      | false =>
        go_wp2_with fail
        go_ret
        exact ⟨by rw [← HX.out]; first | (simp; done) | (simp; assumption) | (simp; omega), by first | exact HC.out.2 | exact HC.out.2.alloc HC.out.2.size _⟩
      | true =>
        cases c_ce with
        | false =>
          have p_ce : ¬ e = 0 := of_decide_eq_false h_ce
          go_wp2_with fail
          go_ret
          exact ⟨by rw [← HX.out]; first | (simp; done) | (simp; assumption) | (simp; omega), by first | exact HC.out.2 | exact HC.out.2.alloc HC.out.2.size _⟩
        | true =>
          have p_ce : e = 0 := of_decide_eq_true h_ce
          cases c_cz with
          | false =>
            go_wp2_with fail
            go_ret
            exact ⟨by rw [← HX.out]; first | (simp; done) | (simp; assumption) | (simp; omega), by first | exact HC.out.2 | exact HC.out.2.alloc HC.out.2.size _⟩
          | true =>
            cases c_cn with
            | false =>
              have p_cn : ¬ n = 0 := of_decide_eq_false h_cn
              go_wp2_with fail
              go_ret
              exact ⟨by rw [← HX.out]; first | (simp; done) | (simp; assumption) | (simp; omega), by first | exact HC.out.2 | exact HC.out.2.alloc HC.out.2.size _⟩
            | true =>
              have p_cn : n = 0 := of_decide_eq_true h_cn
              go_upto_region 8 with fail
              cases c_ci with
              | false =>
                have p_ci : ¬ i = 0 := of_decide_eq_false h_ci
                go_wp2_with fail
                go_ret
                exact ⟨by rw [← HX.out]; first | (simp; done) | (simp; assumption) | (simp; omega), by first | exact HC.out.2 | exact HC.out.2.alloc HC.out.2.size _⟩
              | true =>
                have p_ci : i = 0 := of_decide_eq_true h_ci
                go_wp2_with fail
                go_ret
                exact ⟨by rw [← HX.out]; first | (simp; done) | (simp; assumption) | (simp; omega), by first | exact HC.out.2 | exact HC.out.2.alloc HC.out.2.size _⟩
set_option maxRecDepth 20000 in
set_option maxHeartbeats 16000000 in
theorem rg_good_lo (k : Int) (hk : k < 1) (i n t : Int) (b : ByteArray) (e s0 s1 s2 s3 s4 s5 : Int) (w : World) :
    Calls Tryz.prog 9 #[.agg #[.int .i64 k, .int .i64 i, .int .i64 n, .int .i64 t, .string b, .int .i64 e, .int .i64 s0, .int .i64 s1, .int .i64 s2, .int .i64 s3, .int .i64 s4, .int .i64 s5]] w fun z w' => z = .returned (.bool false) ∧ Below w.heap.size w w' := by
  obtain ⟨X, hX⟩ : ∃ X, w.heap.size = X := ⟨_, rfl⟩
  have HB : Hid (Blk (w.alloc (.cells #[.int .i64 k, .int .i64 i, .int .i64 n, .int .i64 t, .string b, .int .i64 e, .int .i64 s0, .int .i64 s1, .int .i64 s2, .int .i64 s3, .int .i64 s4, .int .i64 s5] 26)) X [.int .i64 k, .int .i64 i, .int .i64 n, .int .i64 t, .string b, .int .i64 e, .int .i64 s0, .int .i64 s1, .int .i64 s2, .int .i64 s3, .int .i64 s4, .int .i64 s5] 26 ∧ Below w.heap.size w (w.alloc (.cells #[.int .i64 k, .int .i64 i, .int .i64 n, .int .i64 t, .string b, .int .i64 e, .int .i64 s0, .int .i64 s1, .int .i64 s2, .int .i64 s3, .int .i64 s4, .int .i64 s5] 26))) := Lib.hid ⟨by rw [← hX]; exact Blk.newA _ _ _, (Below.refl _ _).alloc (Nat.le_refl _) _⟩
  have HK := Lib.hid hk
  clear hk
  go_enter Tryz.func9, Tryz.ntmps9
  go_upto_region 1 with fail
  clear hX
  revert HB
  generalize (w.alloc (.cells #[.int .i64 k, .int .i64 i, .int .i64 n, .int .i64 t, .string b, .int .i64 e, .int .i64 s0, .int .i64 s1, .int .i64 s2, .int .i64 s3, .int .i64 s4, .int .i64 s5] 26)) = W1
  intro HB
  have d0 := HB.out.1.cell (i := 0) rfl
  have d1 := HB.out.1.cell (i := 1) rfl
  have d2 := HB.out.1.cell (i := 2) rfl
  have d3 := HB.out.1.cell (i := 3) rfl
  have d4 := HB.out.1.cell (i := 4) rfl
  have d5 := HB.out.1.cell (i := 5) rfl
  have d6 := HB.out.1.cell (i := 6) rfl
  have d7 := HB.out.1.cell (i := 7) rfl
  have d8 := HB.out.1.cell (i := 8) rfl
  have d9 := HB.out.1.cell (i := 9) rfl
  have d10 := HB.out.1.cell (i := 10) rfl
  have d11 := HB.out.1.cell (i := 11) rfl
  go_cut [3, 4] from 8 to 17 (fun va vb wx => va = .int .i64 k ∧ (∃ idb, vb = .bool idb) ∧ Hid (Blk wx X [.int .i64 k, .int .i64 i, .int .i64 n, .int .i64 t, .string b, .int .i64 e, .int .i64 s0, .int .i64 s1, .int .i64 s2, .int .i64 s3, .int .i64 s4, .int .i64 s5] 26 ∧ Below w.heap.size w wx))
  case first =>
    by_cases y0 : 0 ≤ i
    · by_cases y1 : i < 4096
      · skip
        refine wp_region_class (fun w' => Below W1.heap.size W1 w') (by kernel_rfl) (by kernel_rfl) (Below.refl _ _).drew ?_
        repeat (first
          | go_big_quiet_skip
          | (go_big_quiet_want
             unfold Oper.quiet
             apply Exists.intro
             refine ⟨fun wq hwq => ?_, ?_⟩
             · (have HQ := Lib.hid (HB.out.1.chg (l := []) (Chg.of_fresh hwq) (by simp))
                have d0 := HQ.out.cell (i := 0) rfl
                have d1 := HQ.out.cell (i := 1) rfl
                unfold Oper.quietAt
                go_simp
                first
                  | exact ⟨rfl, rfl⟩
                  | exact rfl)
             simp only [Act.put, List.setIfInBounds_toArray, List.set_cons_zero, List.set_cons_succ]
             go_big_quiet_on))
        refine wpQuiet_nil ?_
        intro w4 hw4
        have H4 : Hid (Blk w4 X [.int .i64 k, .int .i64 i, .int .i64 n, .int .i64 t, .string b, .int .i64 e, .int .i64 s0, .int .i64 s1, .int .i64 s2, .int .i64 s3, .int .i64 s4, .int .i64 s5] 26 ∧ Below w.heap.size w w4) := Lib.hid ⟨HB.out.1.chg (l := []) (Chg.of_fresh hw4) (by simp), HB.out.2.trans (hw4.mono HB.out.2.size)⟩
        clear hw4
        go_wp2_with fail
        go_meet
        exact ⟨rfl, ⟨_, rfl⟩, Lib.hid H4.out⟩
      · skip
        refine wp_region_class (fun w' => Below W1.heap.size W1 w') (by kernel_rfl) (by kernel_rfl) (Below.refl _ _).drew ?_
        repeat (first
          | go_big_quiet_skip
          | (go_big_quiet_want
             unfold Oper.quiet
             apply Exists.intro
             refine ⟨fun wq hwq => ?_, ?_⟩
             · (have HQ := Lib.hid (HB.out.1.chg (l := []) (Chg.of_fresh hwq) (by simp))
                have d0 := HQ.out.cell (i := 0) rfl
                have d1 := HQ.out.cell (i := 1) rfl
                unfold Oper.quietAt
                go_simp
                first
                  | exact ⟨rfl, rfl⟩
                  | exact rfl)
             simp only [Act.put, List.setIfInBounds_toArray, List.set_cons_zero, List.set_cons_succ]
             go_big_quiet_on))
        refine wpQuiet_nil ?_
        intro w4 hw4
        have H4 : Hid (Blk w4 X [.int .i64 k, .int .i64 i, .int .i64 n, .int .i64 t, .string b, .int .i64 e, .int .i64 s0, .int .i64 s1, .int .i64 s2, .int .i64 s3, .int .i64 s4, .int .i64 s5] 26 ∧ Below w.heap.size w w4) := Lib.hid ⟨HB.out.1.chg (l := []) (Chg.of_fresh hw4) (by simp), HB.out.2.trans (hw4.mono HB.out.2.size)⟩
        clear hw4
        go_wp2_with fail
        go_meet
        exact ⟨rfl, ⟨_, rfl⟩, Lib.hid H4.out⟩
    · skip
      refine wp_region_class (fun w' => Below W1.heap.size W1 w') (by kernel_rfl) (by kernel_rfl) (Below.refl _ _).drew ?_
      repeat (first
        | go_big_quiet_skip
        | (go_big_quiet_want
           unfold Oper.quiet
           apply Exists.intro
           refine ⟨fun wq hwq => ?_, ?_⟩
           · (have HQ := Lib.hid (HB.out.1.chg (l := []) (Chg.of_fresh hwq) (by simp))
              have d0 := HQ.out.cell (i := 0) rfl
              have d1 := HQ.out.cell (i := 1) rfl
              unfold Oper.quietAt
              go_simp
              first
                | exact ⟨rfl, rfl⟩
                | exact rfl)
           simp only [Act.put, List.setIfInBounds_toArray, List.set_cons_zero, List.set_cons_succ]
           go_big_quiet_on))
      refine wpQuiet_nil ?_
      intro w4 hw4
      have H4 : Hid (Blk w4 X [.int .i64 k, .int .i64 i, .int .i64 n, .int .i64 t, .string b, .int .i64 e, .int .i64 s0, .int .i64 s1, .int .i64 s2, .int .i64 s3, .int .i64 s4, .int .i64 s5] 26 ∧ Below w.heap.size w w4) := Lib.hid ⟨HB.out.1.chg (l := []) (Chg.of_fresh hw4) (by simp), HB.out.2.trans (hw4.mono HB.out.2.size)⟩
      clear hw4
      go_wp2_with fail
      go_meet
      exact ⟨rfl, ⟨_, rfl⟩, Lib.hid H4.out⟩
  case rest =>
    obtain ⟨rfl, ⟨idb, rfl⟩, HC⟩ := hcut
    clear HB
    have a1 : ¬ k = 1 := by have := HK.out; omega
    have a7 : ¬ k = 7 := by have := HK.out; omega
    have a4 : ¬ k = 4 := by have := HK.out; omega
    have a6 : ¬ k = 6 := by have := HK.out; omega
    have a0 : k < 1 := by have := HK.out; omega
    go_wp2_with fail
    go_ret
    exact ⟨rfl, HC.out.2⟩
set_option maxRecDepth 20000 in
set_option maxHeartbeats 16000000 in
theorem rg_good_hi (k : Int) (hk : 9 < k) (i n t : Int) (b : ByteArray) (e s0 s1 s2 s3 s4 s5 : Int) (w : World) :
    Calls Tryz.prog 9 #[.agg #[.int .i64 k, .int .i64 i, .int .i64 n, .int .i64 t, .string b, .int .i64 e, .int .i64 s0, .int .i64 s1, .int .i64 s2, .int .i64 s3, .int .i64 s4, .int .i64 s5]] w fun z w' => z = .returned (.bool false) ∧ Below w.heap.size w w' := by
  obtain ⟨X, hX⟩ : ∃ X, w.heap.size = X := ⟨_, rfl⟩
  have HB : Hid (Blk (w.alloc (.cells #[.int .i64 k, .int .i64 i, .int .i64 n, .int .i64 t, .string b, .int .i64 e, .int .i64 s0, .int .i64 s1, .int .i64 s2, .int .i64 s3, .int .i64 s4, .int .i64 s5] 26)) X [.int .i64 k, .int .i64 i, .int .i64 n, .int .i64 t, .string b, .int .i64 e, .int .i64 s0, .int .i64 s1, .int .i64 s2, .int .i64 s3, .int .i64 s4, .int .i64 s5] 26 ∧ Below w.heap.size w (w.alloc (.cells #[.int .i64 k, .int .i64 i, .int .i64 n, .int .i64 t, .string b, .int .i64 e, .int .i64 s0, .int .i64 s1, .int .i64 s2, .int .i64 s3, .int .i64 s4, .int .i64 s5] 26))) := Lib.hid ⟨by rw [← hX]; exact Blk.newA _ _ _, (Below.refl _ _).alloc (Nat.le_refl _) _⟩
  have HK := Lib.hid hk
  clear hk
  go_enter Tryz.func9, Tryz.ntmps9
  go_upto_region 1 with fail
  clear hX
  revert HB
  generalize (w.alloc (.cells #[.int .i64 k, .int .i64 i, .int .i64 n, .int .i64 t, .string b, .int .i64 e, .int .i64 s0, .int .i64 s1, .int .i64 s2, .int .i64 s3, .int .i64 s4, .int .i64 s5] 26)) = W1
  intro HB
  have d0 := HB.out.1.cell (i := 0) rfl
  have d1 := HB.out.1.cell (i := 1) rfl
  have d2 := HB.out.1.cell (i := 2) rfl
  have d3 := HB.out.1.cell (i := 3) rfl
  have d4 := HB.out.1.cell (i := 4) rfl
  have d5 := HB.out.1.cell (i := 5) rfl
  have d6 := HB.out.1.cell (i := 6) rfl
  have d7 := HB.out.1.cell (i := 7) rfl
  have d8 := HB.out.1.cell (i := 8) rfl
  have d9 := HB.out.1.cell (i := 9) rfl
  have d10 := HB.out.1.cell (i := 10) rfl
  have d11 := HB.out.1.cell (i := 11) rfl
  go_cut [3, 4] from 8 to 17 (fun va vb wx => va = .int .i64 k ∧ (∃ idb, vb = .bool idb) ∧ Hid (Blk wx X [.int .i64 k, .int .i64 i, .int .i64 n, .int .i64 t, .string b, .int .i64 e, .int .i64 s0, .int .i64 s1, .int .i64 s2, .int .i64 s3, .int .i64 s4, .int .i64 s5] 26 ∧ Below w.heap.size w wx))
  case first =>
    by_cases y0 : 0 ≤ i
    · by_cases y1 : i < 4096
      · skip
        refine wp_region_class (fun w' => Below W1.heap.size W1 w') (by kernel_rfl) (by kernel_rfl) (Below.refl _ _).drew ?_
        repeat (first
          | go_big_quiet_skip
          | (go_big_quiet_want
             unfold Oper.quiet
             apply Exists.intro
             refine ⟨fun wq hwq => ?_, ?_⟩
             · (have HQ := Lib.hid (HB.out.1.chg (l := []) (Chg.of_fresh hwq) (by simp))
                have d0 := HQ.out.cell (i := 0) rfl
                have d1 := HQ.out.cell (i := 1) rfl
                unfold Oper.quietAt
                go_simp
                first
                  | exact ⟨rfl, rfl⟩
                  | exact rfl)
             simp only [Act.put, List.setIfInBounds_toArray, List.set_cons_zero, List.set_cons_succ]
             go_big_quiet_on))
        refine wpQuiet_nil ?_
        intro w4 hw4
        have H4 : Hid (Blk w4 X [.int .i64 k, .int .i64 i, .int .i64 n, .int .i64 t, .string b, .int .i64 e, .int .i64 s0, .int .i64 s1, .int .i64 s2, .int .i64 s3, .int .i64 s4, .int .i64 s5] 26 ∧ Below w.heap.size w w4) := Lib.hid ⟨HB.out.1.chg (l := []) (Chg.of_fresh hw4) (by simp), HB.out.2.trans (hw4.mono HB.out.2.size)⟩
        clear hw4
        go_wp2_with fail
        go_meet
        exact ⟨rfl, ⟨_, rfl⟩, Lib.hid H4.out⟩
      · skip
        refine wp_region_class (fun w' => Below W1.heap.size W1 w') (by kernel_rfl) (by kernel_rfl) (Below.refl _ _).drew ?_
        repeat (first
          | go_big_quiet_skip
          | (go_big_quiet_want
             unfold Oper.quiet
             apply Exists.intro
             refine ⟨fun wq hwq => ?_, ?_⟩
             · (have HQ := Lib.hid (HB.out.1.chg (l := []) (Chg.of_fresh hwq) (by simp))
                have d0 := HQ.out.cell (i := 0) rfl
                have d1 := HQ.out.cell (i := 1) rfl
                unfold Oper.quietAt
                go_simp
                first
                  | exact ⟨rfl, rfl⟩
                  | exact rfl)
             simp only [Act.put, List.setIfInBounds_toArray, List.set_cons_zero, List.set_cons_succ]
             go_big_quiet_on))
        refine wpQuiet_nil ?_
        intro w4 hw4
        have H4 : Hid (Blk w4 X [.int .i64 k, .int .i64 i, .int .i64 n, .int .i64 t, .string b, .int .i64 e, .int .i64 s0, .int .i64 s1, .int .i64 s2, .int .i64 s3, .int .i64 s4, .int .i64 s5] 26 ∧ Below w.heap.size w w4) := Lib.hid ⟨HB.out.1.chg (l := []) (Chg.of_fresh hw4) (by simp), HB.out.2.trans (hw4.mono HB.out.2.size)⟩
        clear hw4
        go_wp2_with fail
        go_meet
        exact ⟨rfl, ⟨_, rfl⟩, Lib.hid H4.out⟩
    · skip
      refine wp_region_class (fun w' => Below W1.heap.size W1 w') (by kernel_rfl) (by kernel_rfl) (Below.refl _ _).drew ?_
      repeat (first
        | go_big_quiet_skip
        | (go_big_quiet_want
           unfold Oper.quiet
           apply Exists.intro
           refine ⟨fun wq hwq => ?_, ?_⟩
           · (have HQ := Lib.hid (HB.out.1.chg (l := []) (Chg.of_fresh hwq) (by simp))
              have d0 := HQ.out.cell (i := 0) rfl
              have d1 := HQ.out.cell (i := 1) rfl
              unfold Oper.quietAt
              go_simp
              first
                | exact ⟨rfl, rfl⟩
                | exact rfl)
           simp only [Act.put, List.setIfInBounds_toArray, List.set_cons_zero, List.set_cons_succ]
           go_big_quiet_on))
      refine wpQuiet_nil ?_
      intro w4 hw4
      have H4 : Hid (Blk w4 X [.int .i64 k, .int .i64 i, .int .i64 n, .int .i64 t, .string b, .int .i64 e, .int .i64 s0, .int .i64 s1, .int .i64 s2, .int .i64 s3, .int .i64 s4, .int .i64 s5] 26 ∧ Below w.heap.size w w4) := Lib.hid ⟨HB.out.1.chg (l := []) (Chg.of_fresh hw4) (by simp), HB.out.2.trans (hw4.mono HB.out.2.size)⟩
      clear hw4
      go_wp2_with fail
      go_meet
      exact ⟨rfl, ⟨_, rfl⟩, Lib.hid H4.out⟩
  case rest =>
    obtain ⟨rfl, ⟨idb, rfl⟩, HC⟩ := hcut
    clear HB
    have a1 : ¬ k = 1 := by have := HK.out; omega
    have a7 : ¬ k = 7 := by have := HK.out; omega
    have a4 : ¬ k = 4 := by have := HK.out; omega
    have a6 : ¬ k = 6 := by have := HK.out; omega
    have a0 : 9 < k := by have := HK.out; omega
    have a9 : ¬ k < 1 := by omega
    go_wp2_with fail
    go_ret
    exact ⟨rfl, HC.out.2⟩
end Go.Proofs.YtfhhkmjjifbfeaaGreatDoor
