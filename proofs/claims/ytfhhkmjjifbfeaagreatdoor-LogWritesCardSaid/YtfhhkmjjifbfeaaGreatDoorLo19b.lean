/- Log: the document's Good (opens, refusals, ends of input). -/
import Derived.Test.YtfhhkmjjifbfeaaGreatDoorLo19
import Derived.Test.YtfhhkmjjifbfeaaGreatDoorOpen
import Derived.Test.YtfhhkmjjifbfeaaGreatDoorClass
import Derived.WalkKit
import Derived.ProofKit
import Derived.Handy
import Derived.WalkLawsBesides
import Derived.WalkSpells
import Derived.Lib.Hide
import Derived.Lib.SliceRun
import Derived.Deep.RegionLaw
import Derived.RegionTactic
import Derived.ChangeAlike
import Derived.WalkSmall
import Derived.Deep.QuietTactic
import Derived.BigQuiet
import Derived.OwnWalk
import Derived.Outline
import Derived.Deep.CutRange
import Derived.Deep.CutBlock
import Derived.LoopTactic
namespace Go.Proofs.YtfhhkmjjifbfeaaGreatDoor
open Go.ChangeShapes Go.WideShapes Go.ChangeAt Go.RowKit
set_option linter.unusedSimpArgs false
set_option linter.unusedVariables false

set_option maxRecDepth 20000 in
set_option maxHeartbeats 16000000 in
theorem rg_good2 (i n t : Int) (b : ByteArray) (e s0 s1 s2 s3 s4 s5 : Int) (r : Bool) (hr : Lo.good ⟨2, i, n, t, b, e, s0, s1, s2, s3, s4, s5⟩ = r) (hok : Ev.ok ⟨2, i, n, t, b, e, s0, s1, s2, s3, s4, s5⟩) (w : World) :
    Calls Tryz.prog 9 #[.agg #[.int .i64 2, .int .i64 i, .int .i64 n, .int .i64 t, .string b, .int .i64 e, .int .i64 s0, .int .i64 s1, .int .i64 s2, .int .i64 s3, .int .i64 s4, .int .i64 s5]] w fun z w' => z = .returned (.bool r) ∧ Below w.heap.size w w' := by
  rw [Lo.good_2] at hr
  have hw : ∀ v, v ∈ [s0, s1, s2, s3, s4, s5] → (Lit.int .i64 v).wf = true := fun v hv => hok.2 .i64 v (by
    simp only [List.mem_cons, List.not_mem_nil, or_false] at hv
    rcases hv with rfl | rfl | rfl | rfl | rfl | rfl <;> simp [Ev.c])
  have eqs := eqSt s0 s1 s2 s3 s4 s5 hw
  obtain ⟨c_ct, h_ct⟩ : ∃ x, (decide (t = 0)) = x := ⟨_, rfl⟩
  obtain ⟨c_cb, h_cb⟩ : ∃ x, ((b.toList == [])) = x := ⟨_, rfl⟩
  obtain ⟨c_ce, h_ce⟩ : ∃ x, (decide (e = 0)) = x := ⟨_, rfl⟩
  obtain ⟨c_cz, h_cz⟩ : ∃ x, (decide (s0 = 0 ∧ s1 = 0 ∧ s2 = 0 ∧ s3 = 0 ∧ s4 = 0 ∧ s5 = 0)) = x := ⟨_, rfl⟩
  obtain ⟨c_i0, h_i0⟩ : ∃ x, (decide (0 ≤ i)) = x := ⟨_, rfl⟩
  obtain ⟨c_i1, h_i1⟩ : ∃ x, (decide (i ≤ 4095)) = x := ⟨_, rfl⟩
  obtain ⟨c_n0, h_n0⟩ : ∃ x, (decide (0 ≤ n)) = x := ⟨_, rfl⟩
  obtain ⟨c_n1, h_n1⟩ : ∃ x, (decide (n ≤ 63)) = x := ⟨_, rfl⟩
  rw [h_ct, h_cb, h_ce, h_cz, h_i0, h_i1, h_n0, h_n1] at hr
  rw [h_cz] at eqs
  obtain ⟨idb, hid⟩ : ∃ x, (decide (0 ≤ i) && decide (i ≤ 4095)) = x := ⟨_, rfl⟩
  have hidc : idb = (c_i0 && c_i1) := by rw [← hid, h_i0, h_i1]
  have HX : Hid ((c_ct && c_cb && c_ce && c_cz && c_n0 && c_n1 && idb) = r) := Lib.hid (by rw [← hr, hidc]; cases c_ct <;> cases c_cb <;> cases c_ce <;> cases c_cz <;> cases c_i0 <;> cases c_i1 <;> cases c_n0 <;> cases c_n1 <;> rfl)
  clear hidc h_i0 h_i1
  obtain ⟨X, hX⟩ : ∃ X, w.heap.size = X := ⟨_, rfl⟩
  have HB : Hid (Blk (w.alloc (.cells #[.int .i64 2, .int .i64 i, .int .i64 n, .int .i64 t, .string b, .int .i64 e, .int .i64 s0, .int .i64 s1, .int .i64 s2, .int .i64 s3, .int .i64 s4, .int .i64 s5] 26)) X [.int .i64 2, .int .i64 i, .int .i64 n, .int .i64 t, .string b, .int .i64 e, .int .i64 s0, .int .i64 s1, .int .i64 s2, .int .i64 s3, .int .i64 s4, .int .i64 s5] 26 ∧ Below w.heap.size w (w.alloc (.cells #[.int .i64 2, .int .i64 i, .int .i64 n, .int .i64 t, .string b, .int .i64 e, .int .i64 s0, .int .i64 s1, .int .i64 s2, .int .i64 s3, .int .i64 s4, .int .i64 s5] 26))) := Lib.hid ⟨by rw [← hX]; exact Blk.newA _ _ _, (Below.refl _ _).alloc (Nat.le_refl _) _⟩
  have HI := Lib.hid hid
  clear hr hok hw hid
  go_enter Tryz.func9, Tryz.ntmps9
  go_upto_region 1 with fail
  clear hX
  revert HB
  generalize (w.alloc (.cells #[.int .i64 2, .int .i64 i, .int .i64 n, .int .i64 t, .string b, .int .i64 e, .int .i64 s0, .int .i64 s1, .int .i64 s2, .int .i64 s3, .int .i64 s4, .int .i64 s5] 26)) = W1
  intro HB
  have d0 := HB.out.1.cell (i := 0) rfl
  have d1 := HB.out.1.cell (i := 1) rfl
  have d2 := HB.out.1.cell (i := 2) rfl
  have d3 := HB.out.1.cell (i := 3) rfl
  have d4 := HB.out.1.cell (i := 4) rfl
  have d5 := HB.out.1.cell (i := 5) rfl
  have d6 := HB.out.1.cell (i := 6) rfl
  have d7 := HB.out.1.cell (i := 7) rfl
  have d8 := HB.out.1.cell (i := 8) rfl
  have d9 := HB.out.1.cell (i := 9) rfl
  have d10 := HB.out.1.cell (i := 10) rfl
  have d11 := HB.out.1.cell (i := 11) rfl
  go_cut [3, 4] from 8 to 17 (fun va vb wx => va = .int .i64 2 ∧ vb = .bool idb ∧ Hid (Blk wx X [.int .i64 2, .int .i64 i, .int .i64 n, .int .i64 t, .string b, .int .i64 e, .int .i64 s0, .int .i64 s1, .int .i64 s2, .int .i64 s3, .int .i64 s4, .int .i64 s5] 26 ∧ Below w.heap.size w wx))
  case first =>
    by_cases y0 : 0 ≤ i
    · by_cases y1 : i < 4096
      · have HY : Hid (true = idb) := Lib.hid (by rw [← HI.out]; simp; omega)
        refine wp_region_class (fun w' => Below W1.heap.size W1 w') (by kernel_rfl) (by kernel_rfl) (Below.refl _ _).drew ?_
        repeat (first
          | go_big_quiet_skip
          | (go_big_quiet_want
             unfold Oper.quiet
             apply Exists.intro
             refine ⟨fun wq hwq => ?_, ?_⟩
             · (have HQ := Lib.hid (HB.out.1.chg (l := []) (Chg.of_fresh hwq) (by simp))
                have d0 := HQ.out.cell (i := 0) rfl
                have d1 := HQ.out.cell (i := 1) rfl
                unfold Oper.quietAt
                go_simp
                first
                  | exact ⟨rfl, rfl⟩
                  | exact rfl)
             simp only [Act.put, List.setIfInBounds_toArray, List.set_cons_zero, List.set_cons_succ]
             go_big_quiet_on))
        refine wpQuiet_nil ?_
        intro w4 hw4
        have H4 : Hid (Blk w4 X [.int .i64 2, .int .i64 i, .int .i64 n, .int .i64 t, .string b, .int .i64 e, .int .i64 s0, .int .i64 s1, .int .i64 s2, .int .i64 s3, .int .i64 s4, .int .i64 s5] 26 ∧ Below w.heap.size w w4) := Lib.hid ⟨HB.out.1.chg (l := []) (Chg.of_fresh hw4) (by simp), HB.out.2.trans (hw4.mono HB.out.2.size)⟩
        clear hw4
        go_wp2_with fail
        go_meet
        exact ⟨rfl, by rw [← HY.out], Lib.hid H4.out⟩
      · have HY : Hid (false = idb) := Lib.hid (by rw [← HI.out]; simp; omega)
        refine wp_region_class (fun w' => Below W1.heap.size W1 w') (by kernel_rfl) (by kernel_rfl) (Below.refl _ _).drew ?_
        repeat (first
          | go_big_quiet_skip
          | (go_big_quiet_want
             unfold Oper.quiet
             apply Exists.intro
             refine ⟨fun wq hwq => ?_, ?_⟩
             · (have HQ := Lib.hid (HB.out.1.chg (l := []) (Chg.of_fresh hwq) (by simp))
                have d0 := HQ.out.cell (i := 0) rfl
                have d1 := HQ.out.cell (i := 1) rfl
                unfold Oper.quietAt
                go_simp
                first
                  | exact ⟨rfl, rfl⟩
                  | exact rfl)
             simp only [Act.put, List.setIfInBounds_toArray, List.set_cons_zero, List.set_cons_succ]
             go_big_quiet_on))
        refine wpQuiet_nil ?_
        intro w4 hw4
        have H4 : Hid (Blk w4 X [.int .i64 2, .int .i64 i, .int .i64 n, .int .i64 t, .string b, .int .i64 e, .int .i64 s0, .int .i64 s1, .int .i64 s2, .int .i64 s3, .int .i64 s4, .int .i64 s5] 26 ∧ Below w.heap.size w w4) := Lib.hid ⟨HB.out.1.chg (l := []) (Chg.of_fresh hw4) (by simp), HB.out.2.trans (hw4.mono HB.out.2.size)⟩
        clear hw4
        go_wp2_with fail
        go_meet
        exact ⟨rfl, by rw [← HY.out], Lib.hid H4.out⟩
    · have HY : Hid (false = idb) := Lib.hid (by rw [← HI.out]; simp; omega)
      refine wp_region_class (fun w' => Below W1.heap.size W1 w') (by kernel_rfl) (by kernel_rfl) (Below.refl _ _).drew ?_
      repeat (first
        | go_big_quiet_skip
        | (go_big_quiet_want
           unfold Oper.quiet
           apply Exists.intro
           refine ⟨fun wq hwq => ?_, ?_⟩
           · (have HQ := Lib.hid (HB.out.1.chg (l := []) (Chg.of_fresh hwq) (by simp))
              have d0 := HQ.out.cell (i := 0) rfl
              have d1 := HQ.out.cell (i := 1) rfl
              unfold Oper.quietAt
              go_simp
              first
                | exact ⟨rfl, rfl⟩
                | exact rfl)
           simp only [Act.put, List.setIfInBounds_toArray, List.set_cons_zero, List.set_cons_succ]
           go_big_quiet_on))
      refine wpQuiet_nil ?_
      intro w4 hw4
      have H4 : Hid (Blk w4 X [.int .i64 2, .int .i64 i, .int .i64 n, .int .i64 t, .string b, .int .i64 e, .int .i64 s0, .int .i64 s1, .int .i64 s2, .int .i64 s3, .int .i64 s4, .int .i64 s5] 26 ∧ Below w.heap.size w w4) := Lib.hid ⟨HB.out.1.chg (l := []) (Chg.of_fresh hw4) (by simp), HB.out.2.trans (hw4.mono HB.out.2.size)⟩
      clear hw4
      go_wp2_with fail
      go_meet
      exact ⟨rfl, by rw [← HY.out], Lib.hid H4.out⟩
  case rest =>
    obtain ⟨rfl, rfl, HC⟩ := hcut
    clear HB
    have d0 := HC.out.1.cell (i := 0) rfl
    have d1 := HC.out.1.cell (i := 1) rfl
    have d2 := HC.out.1.cell (i := 2) rfl
    have d3 := HC.out.1.cell (i := 3) rfl
    have d4 := HC.out.1.cell (i := 4) rfl
    have d5 := HC.out.1.cell (i := 5) rfl
    have d6 := HC.out.1.cell (i := 6) rfl
    have d7 := HC.out.1.cell (i := 7) rfl
    have d8 := HC.out.1.cell (i := 8) rfl
    have d9 := HC.out.1.cell (i := 9) rfl
    have d10 := HC.out.1.cell (i := 10) rfl
    have d11 := HC.out.1.cell (i := 11) rfl
    cases c_ct with
    | false =>
      have p_ct : ¬ t = 0 := of_decide_eq_false h_ct
      go_wp2_with fail
      go_ret
      exact ⟨by rw [← HX.out]; first | (simp; done) | (simp; assumption) | (simp; omega), by first | exact HC.out.2 | exact HC.out.2.alloc HC.out.2.size _⟩
    | true =>
      have p_ct : t = 0 := of_decide_eq_true h_ct
      cases c_cb with
      | false =>
        go_wp2_with fail
        go_ret
        exact ⟨by rw [← HX.out]; first | (simp; done) | (simp; assumption) | (simp; omega), by first | exact HC.out.2 | exact HC.out.2.alloc HC.out.2.size _⟩
      | true =>
        cases c_ce with
        | false =>
          have p_ce : ¬ e = 0 := of_decide_eq_false h_ce
          go_wp2_with fail
          go_ret
          exact ⟨by rw [← HX.out]; first | (simp; done) | (simp; assumption) | (simp; omega), by first | exact HC.out.2 | exact HC.out.2.alloc HC.out.2.size _⟩
        | true =>
          have p_ce : e = 0 := of_decide_eq_true h_ce
          cases c_cz with
          | false =>
            go_wp2_with fail
            go_ret
            exact ⟨by rw [← HX.out]; first | (simp; done) | (simp; assumption) | (simp; omega), by first | exact HC.out.2 | exact HC.out.2.alloc HC.out.2.size _⟩
          | true =>
            go_upto_region 11 with fail
            cases c_n0 with
            | false =>
              have p_n0 : ¬ 0 ≤ n := of_decide_eq_false h_n0
              have x_n00 : n < 0 := by omega
              go_wp2_with fail
              go_ret
              exact ⟨by rw [← HX.out]; first | (simp; done) | (simp; assumption) | (simp; omega), by first | exact HC.out.2 | exact HC.out.2.alloc HC.out.2.size _⟩
            | true =>
              have p_n0 : 0 ≤ n := of_decide_eq_true h_n0
              have x_n00 : ¬ n < 0 := by omega
              cases c_n1 with
              | false =>
                have p_n1 : ¬ n ≤ 63 := of_decide_eq_false h_n1
                have x_n10 : 63 < n := by omega
                go_wp2_with fail
                go_ret
                exact ⟨by rw [← HX.out]; first | (simp; done) | (simp; assumption) | (simp; omega), by first | exact HC.out.2 | exact HC.out.2.alloc HC.out.2.size _⟩
              | true =>
                have p_n1 : n ≤ 63 := of_decide_eq_true h_n1
                have x_n10 : ¬ 63 < n := by omega
                go_wp2_with fail
                go_ret
                exact ⟨by rw [← HX.out]; first | (simp; done) | (simp; assumption) | (simp; omega), by first | exact HC.out.2 | exact HC.out.2.alloc HC.out.2.size _⟩
set_option maxRecDepth 20000 in
set_option maxHeartbeats 16000000 in
theorem rg_good3 (i n t : Int) (b : ByteArray) (e s0 s1 s2 s3 s4 s5 : Int) (r : Bool) (hr : Lo.good ⟨3, i, n, t, b, e, s0, s1, s2, s3, s4, s5⟩ = r) (hok : Ev.ok ⟨3, i, n, t, b, e, s0, s1, s2, s3, s4, s5⟩) (w : World) :
    Calls Tryz.prog 9 #[.agg #[.int .i64 3, .int .i64 i, .int .i64 n, .int .i64 t, .string b, .int .i64 e, .int .i64 s0, .int .i64 s1, .int .i64 s2, .int .i64 s3, .int .i64 s4, .int .i64 s5]] w fun z w' => z = .returned (.bool r) ∧ Below w.heap.size w w' := by
  rw [Lo.good_3] at hr
  have hw : ∀ v, v ∈ [s0, s1, s2, s3, s4, s5] → (Lit.int .i64 v).wf = true := fun v hv => hok.2 .i64 v (by
    simp only [List.mem_cons, List.not_mem_nil, or_false] at hv
    rcases hv with rfl | rfl | rfl | rfl | rfl | rfl <;> simp [Ev.c])
  have eqs := eqSt s0 s1 s2 s3 s4 s5 hw
  obtain ⟨c_ct, h_ct⟩ : ∃ x, (decide (t = 0)) = x := ⟨_, rfl⟩
  obtain ⟨c_cb, h_cb⟩ : ∃ x, ((b.toList == [])) = x := ⟨_, rfl⟩
  obtain ⟨c_cz, h_cz⟩ : ∃ x, (decide (s0 = 0 ∧ s1 = 0 ∧ s2 = 0 ∧ s3 = 0 ∧ s4 = 0 ∧ s5 = 0)) = x := ⟨_, rfl⟩
  obtain ⟨c_im, h_im⟩ : ∃ x, (decide (-1 ≤ i)) = x := ⟨_, rfl⟩
  obtain ⟨c_i1, h_i1⟩ : ∃ x, (decide (i ≤ 4095)) = x := ⟨_, rfl⟩
  obtain ⟨c_e0, h_e0⟩ : ∃ x, (decide (1 ≤ e)) = x := ⟨_, rfl⟩
  obtain ⟨c_e1, h_e1⟩ : ∃ x, (decide (e ≤ 13)) = x := ⟨_, rfl⟩
  rw [h_ct, h_cb, h_cz, h_im, h_i1, h_e0, h_e1] at hr
  rw [h_cz] at eqs
  obtain ⟨idb, hid⟩ : ∃ x, (decide (0 ≤ i) && decide (i ≤ 4095)) = x := ⟨_, rfl⟩
  have HX := Lib.hid hr
  obtain ⟨X, hX⟩ : ∃ X, w.heap.size = X := ⟨_, rfl⟩
  have HB : Hid (Blk (w.alloc (.cells #[.int .i64 3, .int .i64 i, .int .i64 n, .int .i64 t, .string b, .int .i64 e, .int .i64 s0, .int .i64 s1, .int .i64 s2, .int .i64 s3, .int .i64 s4, .int .i64 s5] 26)) X [.int .i64 3, .int .i64 i, .int .i64 n, .int .i64 t, .string b, .int .i64 e, .int .i64 s0, .int .i64 s1, .int .i64 s2, .int .i64 s3, .int .i64 s4, .int .i64 s5] 26 ∧ Below w.heap.size w (w.alloc (.cells #[.int .i64 3, .int .i64 i, .int .i64 n, .int .i64 t, .string b, .int .i64 e, .int .i64 s0, .int .i64 s1, .int .i64 s2, .int .i64 s3, .int .i64 s4, .int .i64 s5] 26))) := Lib.hid ⟨by rw [← hX]; exact Blk.newA _ _ _, (Below.refl _ _).alloc (Nat.le_refl _) _⟩
  have HI := Lib.hid hid
  clear hr hok hw hid
  go_enter Tryz.func9, Tryz.ntmps9
  go_upto_region 1 with fail
  clear hX
  revert HB
  generalize (w.alloc (.cells #[.int .i64 3, .int .i64 i, .int .i64 n, .int .i64 t, .string b, .int .i64 e, .int .i64 s0, .int .i64 s1, .int .i64 s2, .int .i64 s3, .int .i64 s4, .int .i64 s5] 26)) = W1
  intro HB
  have d0 := HB.out.1.cell (i := 0) rfl
  have d1 := HB.out.1.cell (i := 1) rfl
  have d2 := HB.out.1.cell (i := 2) rfl
  have d3 := HB.out.1.cell (i := 3) rfl
  have d4 := HB.out.1.cell (i := 4) rfl
  have d5 := HB.out.1.cell (i := 5) rfl
  have d6 := HB.out.1.cell (i := 6) rfl
  have d7 := HB.out.1.cell (i := 7) rfl
  have d8 := HB.out.1.cell (i := 8) rfl
  have d9 := HB.out.1.cell (i := 9) rfl
  have d10 := HB.out.1.cell (i := 10) rfl
  have d11 := HB.out.1.cell (i := 11) rfl
  go_cut [3, 4] from 8 to 17 (fun va vb wx => va = .int .i64 3 ∧ vb = .bool idb ∧ Hid (Blk wx X [.int .i64 3, .int .i64 i, .int .i64 n, .int .i64 t, .string b, .int .i64 e, .int .i64 s0, .int .i64 s1, .int .i64 s2, .int .i64 s3, .int .i64 s4, .int .i64 s5] 26 ∧ Below w.heap.size w wx))
  case first =>
    by_cases y0 : 0 ≤ i
    · by_cases y1 : i < 4096
      · have HY : Hid (true = idb) := Lib.hid (by rw [← HI.out]; simp; omega)
        refine wp_region_class (fun w' => Below W1.heap.size W1 w') (by kernel_rfl) (by kernel_rfl) (Below.refl _ _).drew ?_
        repeat (first
          | go_big_quiet_skip
          | (go_big_quiet_want
             unfold Oper.quiet
             apply Exists.intro
             refine ⟨fun wq hwq => ?_, ?_⟩
             · (have HQ := Lib.hid (HB.out.1.chg (l := []) (Chg.of_fresh hwq) (by simp))
                have d0 := HQ.out.cell (i := 0) rfl
                have d1 := HQ.out.cell (i := 1) rfl
                unfold Oper.quietAt
                go_simp
                first
                  | exact ⟨rfl, rfl⟩
                  | exact rfl)
             simp only [Act.put, List.setIfInBounds_toArray, List.set_cons_zero, List.set_cons_succ]
             go_big_quiet_on))
        refine wpQuiet_nil ?_
        intro w4 hw4
        have H4 : Hid (Blk w4 X [.int .i64 3, .int .i64 i, .int .i64 n, .int .i64 t, .string b, .int .i64 e, .int .i64 s0, .int .i64 s1, .int .i64 s2, .int .i64 s3, .int .i64 s4, .int .i64 s5] 26 ∧ Below w.heap.size w w4) := Lib.hid ⟨HB.out.1.chg (l := []) (Chg.of_fresh hw4) (by simp), HB.out.2.trans (hw4.mono HB.out.2.size)⟩
        clear hw4
        go_wp2_with fail
        go_meet
        exact ⟨rfl, by rw [← HY.out], Lib.hid H4.out⟩
      · have HY : Hid (false = idb) := Lib.hid (by rw [← HI.out]; simp; omega)
        refine wp_region_class (fun w' => Below W1.heap.size W1 w') (by kernel_rfl) (by kernel_rfl) (Below.refl _ _).drew ?_
        repeat (first
          | go_big_quiet_skip
          | (go_big_quiet_want
             unfold Oper.quiet
             apply Exists.intro
             refine ⟨fun wq hwq => ?_, ?_⟩
             · (have HQ := Lib.hid (HB.out.1.chg (l := []) (Chg.of_fresh hwq) (by simp))
                have d0 := HQ.out.cell (i := 0) rfl
                have d1 := HQ.out.cell (i := 1) rfl
                unfold Oper.quietAt
                go_simp
                first
                  | exact ⟨rfl, rfl⟩
                  | exact rfl)
             simp only [Act.put, List.setIfInBounds_toArray, List.set_cons_zero, List.set_cons_succ]
             go_big_quiet_on))
        refine wpQuiet_nil ?_
        intro w4 hw4
        have H4 : Hid (Blk w4 X [.int .i64 3, .int .i64 i, .int .i64 n, .int .i64 t, .string b, .int .i64 e, .int .i64 s0, .int .i64 s1, .int .i64 s2, .int .i64 s3, .int .i64 s4, .int .i64 s5] 26 ∧ Below w.heap.size w w4) := Lib.hid ⟨HB.out.1.chg (l := []) (Chg.of_fresh hw4) (by simp), HB.out.2.trans (hw4.mono HB.out.2.size)⟩
        clear hw4
        go_wp2_with fail
        go_meet
        exact ⟨rfl, by rw [← HY.out], Lib.hid H4.out⟩
    · have HY : Hid (false = idb) := Lib.hid (by rw [← HI.out]; simp; omega)
      refine wp_region_class (fun w' => Below W1.heap.size W1 w') (by kernel_rfl) (by kernel_rfl) (Below.refl _ _).drew ?_
      repeat (first
        | go_big_quiet_skip
        | (go_big_quiet_want
           unfold Oper.quiet
           apply Exists.intro
           refine ⟨fun wq hwq => ?_, ?_⟩
           · (have HQ := Lib.hid (HB.out.1.chg (l := []) (Chg.of_fresh hwq) (by simp))
              have d0 := HQ.out.cell (i := 0) rfl
              have d1 := HQ.out.cell (i := 1) rfl
              unfold Oper.quietAt
              go_simp
              first
                | exact ⟨rfl, rfl⟩
                | exact rfl)
           simp only [Act.put, List.setIfInBounds_toArray, List.set_cons_zero, List.set_cons_succ]
           go_big_quiet_on))
      refine wpQuiet_nil ?_
      intro w4 hw4
      have H4 : Hid (Blk w4 X [.int .i64 3, .int .i64 i, .int .i64 n, .int .i64 t, .string b, .int .i64 e, .int .i64 s0, .int .i64 s1, .int .i64 s2, .int .i64 s3, .int .i64 s4, .int .i64 s5] 26 ∧ Below w.heap.size w w4) := Lib.hid ⟨HB.out.1.chg (l := []) (Chg.of_fresh hw4) (by simp), HB.out.2.trans (hw4.mono HB.out.2.size)⟩
      clear hw4
      go_wp2_with fail
      go_meet
      exact ⟨rfl, by rw [← HY.out], Lib.hid H4.out⟩
  case rest =>
    obtain ⟨rfl, rfl, HC⟩ := hcut
    clear HB
    have d0 := HC.out.1.cell (i := 0) rfl
    have d1 := HC.out.1.cell (i := 1) rfl
    have d2 := HC.out.1.cell (i := 2) rfl
    have d3 := HC.out.1.cell (i := 3) rfl
    have d4 := HC.out.1.cell (i := 4) rfl
    have d5 := HC.out.1.cell (i := 5) rfl
    have d6 := HC.out.1.cell (i := 6) rfl
    have d7 := HC.out.1.cell (i := 7) rfl
    have d8 := HC.out.1.cell (i := 8) rfl
    have d9 := HC.out.1.cell (i := 9) rfl
    have d10 := HC.out.1.cell (i := 10) rfl
    have d11 := HC.out.1.cell (i := 11) rfl
    cases c_ct with
    | false =>
      have p_ct : ¬ t = 0 := of_decide_eq_false h_ct
      go_wp2_with fail
      go_ret
      exact ⟨by rw [← HX.out]; first | (simp; done) | (simp; assumption) | (simp; omega), by first | exact HC.out.2 | exact HC.out.2.alloc HC.out.2.size _⟩
    | true =>
      have p_ct : t = 0 := of_decide_eq_true h_ct
      cases c_cb with
      | false =>
        go_wp2_with fail
        go_ret
        exact ⟨by rw [← HX.out]; first | (simp; done) | (simp; assumption) | (simp; omega), by first | exact HC.out.2 | exact HC.out.2.alloc HC.out.2.size _⟩
      | true =>
        cases c_cz with
        | false =>
          go_wp2_with fail
          go_ret
          exact ⟨by rw [← HX.out]; first | (simp; done) | (simp; assumption) | (simp; omega), by first | exact HC.out.2 | exact HC.out.2.alloc HC.out.2.size _⟩
        | true =>
          go_upto_region 10 with fail
          cases c_im with
          | false =>
            have p_im : ¬ -1 ≤ i := of_decide_eq_false h_im
            go_wp2_with fail
            go_ret
            exact ⟨by rw [← HX.out]; first | (simp; done) | (simp; assumption) | (simp; omega), by first | exact HC.out.2 | exact HC.out.2.alloc HC.out.2.size _⟩
          | true =>
            have p_im : -1 ≤ i := of_decide_eq_true h_im
            cases c_i1 with
            | false =>
              have p_i1 : ¬ i ≤ 4095 := of_decide_eq_false h_i1
              have x_i10 : ¬ i < 4096 := by omega
              go_wp2_with fail
              go_ret
              exact ⟨by rw [← HX.out]; first | (simp; done) | (simp; assumption) | (simp; omega), by first | exact HC.out.2 | exact HC.out.2.alloc HC.out.2.size _⟩
            | true =>
              have p_i1 : i ≤ 4095 := of_decide_eq_true h_i1
              have x_i10 : i < 4096 := by omega
              cases c_e0 with
              | false =>
                have p_e0 : ¬ 1 ≤ e := of_decide_eq_false h_e0
                go_wp2_with fail
                go_ret
                exact ⟨by rw [← HX.out]; first | (simp; done) | (simp; assumption) | (simp; omega), by first | exact HC.out.2 | exact HC.out.2.alloc HC.out.2.size _⟩
              | true =>
                have p_e0 : 1 ≤ e := of_decide_eq_true h_e0
                cases c_e1 with
                | false =>
                  have p_e1 : ¬ e ≤ 13 := of_decide_eq_false h_e1
                  go_wp2_with fail
                  go_ret
                  exact ⟨by rw [← HX.out]; first | (simp; done) | (simp; assumption) | (simp; omega), by first | exact HC.out.2 | exact HC.out.2.alloc HC.out.2.size _⟩
                | true =>
                  have p_e1 : e ≤ 13 := of_decide_eq_true h_e1
                  go_wp2_with fail
                  go_ret
                  exact ⟨by rw [← HX.out]; first | (simp; done) | (simp; assumption) | (simp; omega), by first | exact HC.out.2 | exact HC.out.2.alloc HC.out.2.size _⟩
set_option maxRecDepth 20000 in
set_option maxHeartbeats 16000000 in
theorem rg_good5 (i n t : Int) (b : ByteArray) (e s0 s1 s2 s3 s4 s5 : Int) (r : Bool) (hr : Lo.good ⟨5, i, n, t, b, e, s0, s1, s2, s3, s4, s5⟩ = r) (hok : Ev.ok ⟨5, i, n, t, b, e, s0, s1, s2, s3, s4, s5⟩) (w : World) :
    Calls Tryz.prog 9 #[.agg #[.int .i64 5, .int .i64 i, .int .i64 n, .int .i64 t, .string b, .int .i64 e, .int .i64 s0, .int .i64 s1, .int .i64 s2, .int .i64 s3, .int .i64 s4, .int .i64 s5]] w fun z w' => z = .returned (.bool r) ∧ Below w.heap.size w w' := by
  rw [Lo.good_5] at hr
  have hw : ∀ v, v ∈ [s0, s1, s2, s3, s4, s5] → (Lit.int .i64 v).wf = true := fun v hv => hok.2 .i64 v (by
    simp only [List.mem_cons, List.not_mem_nil, or_false] at hv
    rcases hv with rfl | rfl | rfl | rfl | rfl | rfl <;> simp [Ev.c])
  have eqs := eqSt s0 s1 s2 s3 s4 s5 hw
  obtain ⟨c_cn, h_cn⟩ : ∃ x, (decide (n = 0)) = x := ⟨_, rfl⟩
  obtain ⟨c_ct, h_ct⟩ : ∃ x, (decide (t = 0)) = x := ⟨_, rfl⟩
  obtain ⟨c_cb, h_cb⟩ : ∃ x, ((b.toList == [])) = x := ⟨_, rfl⟩
  obtain ⟨c_ce, h_ce⟩ : ∃ x, (decide (e = 0)) = x := ⟨_, rfl⟩
  obtain ⟨c_cz, h_cz⟩ : ∃ x, (decide (s0 = 0 ∧ s1 = 0 ∧ s2 = 0 ∧ s3 = 0 ∧ s4 = 0 ∧ s5 = 0)) = x := ⟨_, rfl⟩
  obtain ⟨c_i0, h_i0⟩ : ∃ x, (decide (0 ≤ i)) = x := ⟨_, rfl⟩
  obtain ⟨c_i1, h_i1⟩ : ∃ x, (decide (i ≤ 4095)) = x := ⟨_, rfl⟩
  rw [h_cn, h_ct, h_cb, h_ce, h_cz, h_i0, h_i1] at hr
  rw [h_cz] at eqs
  obtain ⟨idb, hid⟩ : ∃ x, (decide (0 ≤ i) && decide (i ≤ 4095)) = x := ⟨_, rfl⟩
  have hidc : idb = (c_i0 && c_i1) := by rw [← hid, h_i0, h_i1]
  have HX : Hid ((c_cn && c_ct && c_cb && c_ce && c_cz && idb) = r) := Lib.hid (by rw [← hr, hidc]; cases c_cn <;> cases c_ct <;> cases c_cb <;> cases c_ce <;> cases c_cz <;> cases c_i0 <;> cases c_i1 <;> rfl)
  clear hidc h_i0 h_i1
  obtain ⟨X, hX⟩ : ∃ X, w.heap.size = X := ⟨_, rfl⟩
  have HB : Hid (Blk (w.alloc (.cells #[.int .i64 5, .int .i64 i, .int .i64 n, .int .i64 t, .string b, .int .i64 e, .int .i64 s0, .int .i64 s1, .int .i64 s2, .int .i64 s3, .int .i64 s4, .int .i64 s5] 26)) X [.int .i64 5, .int .i64 i, .int .i64 n, .int .i64 t, .string b, .int .i64 e, .int .i64 s0, .int .i64 s1, .int .i64 s2, .int .i64 s3, .int .i64 s4, .int .i64 s5] 26 ∧ Below w.heap.size w (w.alloc (.cells #[.int .i64 5, .int .i64 i, .int .i64 n, .int .i64 t, .string b, .int .i64 e, .int .i64 s0, .int .i64 s1, .int .i64 s2, .int .i64 s3, .int .i64 s4, .int .i64 s5] 26))) := Lib.hid ⟨by rw [← hX]; exact Blk.newA _ _ _, (Below.refl _ _).alloc (Nat.le_refl _) _⟩
  have HI := Lib.hid hid
  clear hr hok hw hid
  go_enter Tryz.func9, Tryz.ntmps9
  go_upto_region 1 with fail
  clear hX
  revert HB
  generalize (w.alloc (.cells #[.int .i64 5, .int .i64 i, .int .i64 n, .int .i64 t, .string b, .int .i64 e, .int .i64 s0, .int .i64 s1, .int .i64 s2, .int .i64 s3, .int .i64 s4, .int .i64 s5] 26)) = W1
  intro HB
  have d0 := HB.out.1.cell (i := 0) rfl
  have d1 := HB.out.1.cell (i := 1) rfl
  have d2 := HB.out.1.cell (i := 2) rfl
  have d3 := HB.out.1.cell (i := 3) rfl
  have d4 := HB.out.1.cell (i := 4) rfl
  have d5 := HB.out.1.cell (i := 5) rfl
  have d6 := HB.out.1.cell (i := 6) rfl
  have d7 := HB.out.1.cell (i := 7) rfl
  have d8 := HB.out.1.cell (i := 8) rfl
  have d9 := HB.out.1.cell (i := 9) rfl
  have d10 := HB.out.1.cell (i := 10) rfl
  have d11 := HB.out.1.cell (i := 11) rfl
  go_cut [3, 4] from 8 to 17 (fun va vb wx => va = .int .i64 5 ∧ vb = .bool idb ∧ Hid (Blk wx X [.int .i64 5, .int .i64 i, .int .i64 n, .int .i64 t, .string b, .int .i64 e, .int .i64 s0, .int .i64 s1, .int .i64 s2, .int .i64 s3, .int .i64 s4, .int .i64 s5] 26 ∧ Below w.heap.size w wx))
  case first =>
    by_cases y0 : 0 ≤ i
    · by_cases y1 : i < 4096
      · have HY : Hid (true = idb) := Lib.hid (by rw [← HI.out]; simp; omega)
        refine wp_region_class (fun w' => Below W1.heap.size W1 w') (by kernel_rfl) (by kernel_rfl) (Below.refl _ _).drew ?_
        repeat (first
          | go_big_quiet_skip
          | (go_big_quiet_want
             unfold Oper.quiet
             apply Exists.intro
             refine ⟨fun wq hwq => ?_, ?_⟩
             · (have HQ := Lib.hid (HB.out.1.chg (l := []) (Chg.of_fresh hwq) (by simp))
                have d0 := HQ.out.cell (i := 0) rfl
                have d1 := HQ.out.cell (i := 1) rfl
                unfold Oper.quietAt
                go_simp
                first
                  | exact ⟨rfl, rfl⟩
                  | exact rfl)
             simp only [Act.put, List.setIfInBounds_toArray, List.set_cons_zero, List.set_cons_succ]
             go_big_quiet_on))
        refine wpQuiet_nil ?_
        intro w4 hw4
        have H4 : Hid (Blk w4 X [.int .i64 5, .int .i64 i, .int .i64 n, .int .i64 t, .string b, .int .i64 e, .int .i64 s0, .int .i64 s1, .int .i64 s2, .int .i64 s3, .int .i64 s4, .int .i64 s5] 26 ∧ Below w.heap.size w w4) := Lib.hid ⟨HB.out.1.chg (l := []) (Chg.of_fresh hw4) (by simp), HB.out.2.trans (hw4.mono HB.out.2.size)⟩
        clear hw4
        go_wp2_with fail
        go_meet
        exact ⟨rfl, by rw [← HY.out], Lib.hid H4.out⟩
      · have HY : Hid (false = idb) := Lib.hid (by rw [← HI.out]; simp; omega)
        refine wp_region_class (fun w' => Below W1.heap.size W1 w') (by kernel_rfl) (by kernel_rfl) (Below.refl _ _).drew ?_
        repeat (first
          | go_big_quiet_skip
          | (go_big_quiet_want
             unfold Oper.quiet
             apply Exists.intro
             refine ⟨fun wq hwq => ?_, ?_⟩
             · (have HQ := Lib.hid (HB.out.1.chg (l := []) (Chg.of_fresh hwq) (by simp))
                have d0 := HQ.out.cell (i := 0) rfl
                have d1 := HQ.out.cell (i := 1) rfl
                unfold Oper.quietAt
                go_simp
                first
                  | exact ⟨rfl, rfl⟩
                  | exact rfl)
             simp only [Act.put, List.setIfInBounds_toArray, List.set_cons_zero, List.set_cons_succ]
             go_big_quiet_on))
        refine wpQuiet_nil ?_
        intro w4 hw4
        have H4 : Hid (Blk w4 X [.int .i64 5, .int .i64 i, .int .i64 n, .int .i64 t, .string b, .int .i64 e, .int .i64 s0, .int .i64 s1, .int .i64 s2, .int .i64 s3, .int .i64 s4, .int .i64 s5] 26 ∧ Below w.heap.size w w4) := Lib.hid ⟨HB.out.1.chg (l := []) (Chg.of_fresh hw4) (by simp), HB.out.2.trans (hw4.mono HB.out.2.size)⟩
        clear hw4
        go_wp2_with fail
        go_meet
        exact ⟨rfl, by rw [← HY.out], Lib.hid H4.out⟩
    · have HY : Hid (false = idb) := Lib.hid (by rw [← HI.out]; simp; omega)
      refine wp_region_class (fun w' => Below W1.heap.size W1 w') (by kernel_rfl) (by kernel_rfl) (Below.refl _ _).drew ?_
      repeat (first
        | go_big_quiet_skip
        | (go_big_quiet_want
           unfold Oper.quiet
           apply Exists.intro
           refine ⟨fun wq hwq => ?_, ?_⟩
           · (have HQ := Lib.hid (HB.out.1.chg (l := []) (Chg.of_fresh hwq) (by simp))
              have d0 := HQ.out.cell (i := 0) rfl
              have d1 := HQ.out.cell (i := 1) rfl
              unfold Oper.quietAt
              go_simp
              first
                | exact ⟨rfl, rfl⟩
                | exact rfl)
           simp only [Act.put, List.setIfInBounds_toArray, List.set_cons_zero, List.set_cons_succ]
           go_big_quiet_on))
      refine wpQuiet_nil ?_
      intro w4 hw4
      have H4 : Hid (Blk w4 X [.int .i64 5, .int .i64 i, .int .i64 n, .int .i64 t, .string b, .int .i64 e, .int .i64 s0, .int .i64 s1, .int .i64 s2, .int .i64 s3, .int .i64 s4, .int .i64 s5] 26 ∧ Below w.heap.size w w4) := Lib.hid ⟨HB.out.1.chg (l := []) (Chg.of_fresh hw4) (by simp), HB.out.2.trans (hw4.mono HB.out.2.size)⟩
      clear hw4
      go_wp2_with fail
      go_meet
      exact ⟨rfl, by rw [← HY.out], Lib.hid H4.out⟩
  case rest =>
    obtain ⟨rfl, rfl, HC⟩ := hcut
    clear HB
    have d0 := HC.out.1.cell (i := 0) rfl
    have d1 := HC.out.1.cell (i := 1) rfl
    have d2 := HC.out.1.cell (i := 2) rfl
    have d3 := HC.out.1.cell (i := 3) rfl
    have d4 := HC.out.1.cell (i := 4) rfl
    have d5 := HC.out.1.cell (i := 5) rfl
    have d6 := HC.out.1.cell (i := 6) rfl
    have d7 := HC.out.1.cell (i := 7) rfl
    have d8 := HC.out.1.cell (i := 8) rfl
    have d9 := HC.out.1.cell (i := 9) rfl
    have d10 := HC.out.1.cell (i := 10) rfl
    have d11 := HC.out.1.cell (i := 11) rfl
    cases c_ct with
    | false =>
      have p_ct : ¬ t = 0 := of_decide_eq_false h_ct
      go_wp2_with fail
      go_ret
      exact ⟨by rw [← HX.out]; first | (simp; done) | (simp; assumption) | (simp; omega), by first | exact HC.out.2 | exact HC.out.2.alloc HC.out.2.size _⟩
    | true =>
      have p_ct : t = 0 := of_decide_eq_true h_ct
      cases c_cb with
      | false =>
        go_wp2_with fail
        go_ret
        exact ⟨by rw [← HX.out]; first | (simp; done) | (simp; assumption) | (simp; omega), by first | exact HC.out.2 | exact HC.out.2.alloc HC.out.2.size _⟩
      | true =>
        cases c_ce with
        | false =>
          have p_ce : ¬ e = 0 := of_decide_eq_false h_ce
          go_wp2_with fail
          go_ret
          exact ⟨by rw [← HX.out]; first | (simp; done) | (simp; assumption) | (simp; omega), by first | exact HC.out.2 | exact HC.out.2.alloc HC.out.2.size _⟩
        | true =>
          have p_ce : e = 0 := of_decide_eq_true h_ce
          cases c_cz with
          | false =>
            go_wp2_with fail
            go_ret
            exact ⟨by rw [← HX.out]; first | (simp; done) | (simp; assumption) | (simp; omega), by first | exact HC.out.2 | exact HC.out.2.alloc HC.out.2.size _⟩
          | true =>
            cases c_cn with
            | false =>
              have p_cn : ¬ n = 0 := of_decide_eq_false h_cn
              go_wp2_with fail
              go_ret
              exact ⟨by rw [← HX.out]; first | (simp; done) | (simp; assumption) | (simp; omega), by first | exact HC.out.2 | exact HC.out.2.alloc HC.out.2.size _⟩
            | true =>
              have p_cn : n = 0 := of_decide_eq_true h_cn
              go_wp2_with fail
              go_ret
              exact ⟨by rw [← HX.out]; first | (simp; done) | (simp; assumption) | (simp; omega), by first | exact HC.out.2 | exact HC.out.2.alloc HC.out.2.size _⟩
end Go.Proofs.YtfhhkmjjifbfeaaGreatDoor
