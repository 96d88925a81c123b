/- Contracts of the functions on what steps cost (package cost, and the document's own answers): each hands back the plain number of Co; new blocks may come, nothing that was there is written. -/
import Derived.Test.YteodknfmghnalaaCostMath
import Derived.Test.YteodknfmghnalaaTkWalks
import Derived.Test.YteodknfmghnalaaTkLoops
import Derived.RegionTactic
import Derived.ChangeAlike
import Derived.WalkSmall
import Derived.Deep.QuietTactic
import Derived.BigQuiet
import Derived.Deep.RegionHeld3
namespace Go.Proofs.Yteodknfmghnalaa
open Go.ChangeShapes Go.WideShapes Go.ChangeAt Go.RowKit
set_option linter.unusedSimpArgs false
set_option linter.unusedVariables false

theorem held_any (n m : Int) (w : World) : Calls Try.prog 20 #[.int .i64 n, .int .i64 m] w fun e w' => e = .returned (.bool (Co.inB n m)) ∧ w = w' := by
  by_cases h1 : 1 ≤ n
  · by_cases h2 : n ≤ m
    · go_enter Try.func20, Try.ntmps20
      go_wp2
      go_ret
      exact ⟨ret_b (by unfold Co.inB; simp [h1, h2]), rfl⟩
    · go_enter Try.func20, Try.ntmps20
      go_wp2
      go_ret
      exact ⟨ret_b (by unfold Co.inB; simp [h1]; omega), rfl⟩
  · go_enter Try.func20, Try.ntmps20
    go_wp2
    go_ret
    exact ⟨ret_b (by unfold Co.inB; simp; omega), rfl⟩
theorem capped_any (n m : Int) (w : World) (hm : 0 ≤ m) : Calls Try.prog 19 #[.int .i64 n, .int .i64 m] w fun e w' => e = .returned (.int .i64 (Co.cap n m)) ∧ w = w' := by
  by_cases h1 : n < 0
  · go_enter Try.func19, Try.ntmps19
    go_wp2
    all_goals
      go_ret
      exact ⟨ret_i64 (by unfold Co.cap; omega), rfl⟩
  · go_enter Try.func19, Try.ntmps19
    go_wp2
    all_goals
      go_ret
      exact ⟨ret_i64 (by unfold Co.cap; omega), rfl⟩
theorem within_any (n a m : Int) (w : World) : Calls Try.prog 21 #[.int .i64 n, .int .i64 a, .int .i64 m] w fun e w' => e = .returned (.int .i64 (if n < a then a else if m < n then m else n)) ∧ w = w' := by
  by_cases h1 : n < a
  · go_enter Try.func21, Try.ntmps21
    go_wp2
    go_ret
    exact ⟨ret_i64 (by omega), rfl⟩
  · by_cases h2 : m < n
    · go_enter Try.func21, Try.ntmps21
      go_wp2
      go_ret
      exact ⟨ret_i64 (by omega), rfl⟩
    · go_enter Try.func21, Try.ntmps21
      go_wp2
      go_ret
      exact ⟨ret_i64 (by omega), rfl⟩
set_option maxHeartbeats 1000000 in
theorem good_any (l r i o q v : Int) (w : World) : Calls Try.prog 7 #[.agg #[.int .i64 l, .int .i64 r, .int .i64 i, .int .i64 o, .int .i64 q, .int .i64 v]] w fun e w' => e = .returned (.bool (Co.goodB l r i o q v)) ∧ Below w.heap.size w w' := by
  cases h0 : Co.inB l 1024
  case false =>
    go_enter Try.func7, Try.ntmps7
    go_wp2_with (go_at_call 20; refine (held_any _ _ _).mono ?_; rintro e w' ⟨rfl, rfl⟩)
    go_ret
    exact ⟨ret_b (by unfold Co.goodB; simp [h0]), (Below.refl _ _).alloc (Nat.le_refl _) _⟩
  cases h1 : Co.inB r 4096
  case false =>
    go_enter Try.func7, Try.ntmps7
    go_wp2_with (go_at_call 20; refine (held_any _ _ _).mono ?_; rintro e w' ⟨rfl, rfl⟩)
    go_ret
    exact ⟨ret_b (by unfold Co.goodB; simp [h0, h1]), (Below.refl _ _).alloc (Nat.le_refl _) _⟩
  cases h2 : Co.inB i 4096
  case false =>
    go_enter Try.func7, Try.ntmps7
    go_wp2_with (go_at_call 20; refine (held_any _ _ _).mono ?_; rintro e w' ⟨rfl, rfl⟩)
    go_ret
    exact ⟨ret_b (by unfold Co.goodB; simp [h0, h1, h2]), (Below.refl _ _).alloc (Nat.le_refl _) _⟩
  cases h3 : Co.inB o 4096
  case false =>
    go_enter Try.func7, Try.ntmps7
    go_wp2_with (go_at_call 20; refine (held_any _ _ _).mono ?_; rintro e w' ⟨rfl, rfl⟩)
    go_ret
    exact ⟨ret_b (by unfold Co.goodB; simp [h0, h1, h2, h3]), (Below.refl _ _).alloc (Nat.le_refl _) _⟩
  cases h4 : Co.inB q 1000000
  case false =>
    go_enter Try.func7, Try.ntmps7
    go_wp2_with (go_at_call 20; refine (held_any _ _ _).mono ?_; rintro e w' ⟨rfl, rfl⟩)
    go_ret
    exact ⟨ret_b (by unfold Co.goodB; simp [h0, h1, h2, h3, h4]), (Below.refl _ _).alloc (Nat.le_refl _) _⟩
  cases h5 : Co.inB v 64
  case false =>
    go_enter Try.func7, Try.ntmps7
    go_wp2_with (go_at_call 20; refine (held_any _ _ _).mono ?_; rintro e w' ⟨rfl, rfl⟩)
    go_ret
    exact ⟨ret_b (by unfold Co.goodB; simp [h0, h1, h2, h3, h4, h5]), (Below.refl _ _).alloc (Nat.le_refl _) _⟩
  go_enter Try.func7, Try.ntmps7
  go_wp2_with (go_at_call 20; refine (held_any _ _ _).mono ?_; rintro e w' ⟨rfl, rfl⟩)
  go_ret
  exact ⟨ret_b (by unfold Co.goodB; simp [h0, h1, h2, h3, h4, h5]), (Below.refl _ _).alloc (Nat.le_refl _) _⟩
theorem below3 (w : World) (o o' o'' : Obj) : Below w.heap.size w (((w.alloc o).alloc o').alloc o'') := (((Below.refl _ _).alloc (Nat.le_refl _) o).alloc (by simp) o').alloc (by simp; omega) o''
set_option maxHeartbeats 1000000 in
theorem rgood_any (l r i o q v : Int) (w : World) : Calls Try.prog 8 #[.agg #[.int .i64 l, .int .i64 r, .int .i64 i, .int .i64 o, .int .i64 q, .int .i64 v]] w fun e w' => e = .returned (.bool (Co.goodB l r i o q v)) ∧ Below w.heap.size w w' := by
  go_enter Try.func8, Try.ntmps8
  go_wp2
  generalize hW1 : (((w.alloc (Obj.cells #[.int .i64 l, .int .i64 r, .int .i64 i, .int .i64 o, .int .i64 q, .int .i64 v] 23)).alloc (Obj.cells #[.int .i64 l, .int .i64 r, .int .i64 i, .int .i64 o, .int .i64 q, .int .i64 v] 3)).alloc (Obj.cells #[.int .i64 1024, .int .i64 4096, .int .i64 4096, .int .i64 4096, .int .i64 1000000, .int .i64 64] 3)) = W1
  have bel : Below w.heap.size w W1 := by rw [← hW1]; exact below3 _ _ _ _
  have L : ∀ k, k < 6 → ∃ x m, W1.cell? ⟨w.heap.size + 1, k, none⟩ = some (.int .i64 x) ∧ W1.cell? ⟨w.heap.size + 2, k, none⟩ = some (.int .i64 m) ∧ Hid (x = (Co.ls l r i o q v).getD k 0 ∧ m = Co.ms.getD k 0) := by
    intro k hk
    rw [← hW1]
    obtain rfl | rfl | rfl | rfl | rfl | rfl : k = 0 ∨ k = 1 ∨ k = 2 ∨ k = 3 ∨ k = 4 ∨ k = 5 := by omega
    all_goals exact ⟨(Co.ls l r i o q v).getD _ 0, Co.ms.getD _ 0, by simp [go_sem, Co.ls], by simp [go_sem, Co.ms], ⟨rfl, rfl⟩⟩
  have HL := Lib.hid L
  have HBEL := Lib.hid bel
  clear hW1 L bel
  go_loopw [5] (fun x wr => ∃ k : Nat, k ≤ 6 ∧ x = .int .i64 k ∧ Hid (∀ j, j < k → Co.inB ((Co.ls l r i o q v).getD j 0) (Co.ms.getD j 0) = true) ∧ Hid (∃ n, wr = W1.drewN n)) (fun x _ => 6 - (intOf x).toNat)
  case atStart => exact ⟨0, by omega, rfl, fun j hj => by omega, ⟨0, rfl⟩⟩
  case round =>
    obtain ⟨k, hk, rfl, HA, HW⟩ := hrel
    obtain ⟨n, rfl⟩ := HW.out
    by_cases hlt : k < 6
    · obtain ⟨x, m, c1, c2, HX⟩ := HL.out k hlt
      by_cases h1 : x < 1
      · have HF : Hid (Co.goodB l r i o q v = false) := Co.good_fail hlt (by rw [← HX.out.1, ← HX.out.2, Co.inB_no]; omega)
        go_wp2
        go_quiet (fail)
        go_wp2
        go_ret
        exact ⟨ret_b HF.out.symm, below_drewN (below_drewN HBEL.out _) _⟩
      · by_cases h2 : m < x
        · have HF : Hid (Co.goodB l r i o q v = false) := Co.good_fail hlt (by rw [← HX.out.1, ← HX.out.2, Co.inB_no]; omega)
          go_wp2
          go_quiet (fail)
          go_wp2
          go_ret
          exact ⟨ret_b HF.out.symm, below_drewN (below_drewN HBEL.out _) _⟩
        · have HN : Hid (∀ j, j < k + 1 → Co.inB ((Co.ls l r i o q v).getD j 0) (Co.ms.getD j 0) = true) := by
            intro j hj
            by_cases e : j = k
            · subst e; rw [← HX.out.1, ← HX.out.2, Co.inB_iff]; omega
            · exact HA.out j (by omega)
          go_wp2
          go_quiet (fail)
          go_wp2
          go_roundw
          case rel => exact ⟨k + 1, by omega, by go_num, HN, ⟨_, rfl⟩⟩
          case measure => simp [intOf]; omega
    · have hk6 : k = 6 := by omega
      have HT : Hid (Co.goodB l r i o q v = true) := Co.good_all fun j hj => HA.out j (by omega)
      clear hk6
      go_wp2
      go_ret
      exact ⟨ret_b HT.out.symm, below_drewN HBEL.out _⟩
end Go.Proofs.Yteodknfmghnalaa
