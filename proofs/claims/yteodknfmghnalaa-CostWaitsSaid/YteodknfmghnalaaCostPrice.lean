/- Contracts of Price and Most (package cost, and the document's own answers), over those of Good. -/
import Derived.Test.YteodknfmghnalaaCostWalks
namespace Go.Proofs.Yteodknfmghnalaa
open Go.ChangeShapes Go.WideShapes Go.ChangeAt Go.RowKit
set_option linter.unusedSimpArgs false
set_option linter.unusedVariables false

theorem within_cap (n m : Int) (w : World) : Calls Try.prog 21 #[.int .i64 n, .int .i64 0, .int .i64 m] w fun e w' => e = .returned (.int .i64 (Co.cap n m)) ∧ w = w' := within_any n 0 m w
theorem below1 {w w1 : World} {o : Obj} (hb : Below (w.alloc o).heap.size (w.alloc o) w1) : Below w.heap.size w w1 := ((Below.refl _ _).alloc (Nat.le_refl _) o).trans (hb.mono (by simp))
theorem setup_cells {w w1 : World} {l r i o q v : Int} {t : TypeId} (hb : Below (w.alloc (Obj.cells #[.int .i64 l, .int .i64 r, .int .i64 i, .int .i64 o, .int .i64 q, .int .i64 v] t)).heap.size (w.alloc (Obj.cells #[.int .i64 l, .int .i64 r, .int .i64 i, .int .i64 o, .int .i64 q, .int .i64 v] t)) w1) :
    w1.cell? ⟨w.heap.size, 0, none⟩ = some (.int .i64 l) ∧ w1.cell? ⟨w.heap.size, 1, none⟩ = some (.int .i64 r) ∧ w1.cell? ⟨w.heap.size, 2, none⟩ = some (.int .i64 i) ∧ w1.cell? ⟨w.heap.size, 3, none⟩ = some (.int .i64 o) ∧ w1.cell? ⟨w.heap.size, 4, none⟩ = some (.int .i64 q) ∧ w1.cell? ⟨w.heap.size, 5, none⟩ = some (.int .i64 v) := by
  refine ⟨?_, ?_, ?_, ?_, ?_, ?_⟩
  all_goals (rw [hb.cell (by simp)]; simp [go_sem])
set_option maxHeartbeats 1000000 in
theorem price_any (l r i o q v k f u : Int) (w : World) : Calls Try.prog 6 #[.agg #[.int .i64 l, .int .i64 r, .int .i64 i, .int .i64 o, .int .i64 q, .int .i64 v], .int .i64 k, .int .i64 f, .int .i64 u] w fun e w' => e = .returned (.int .i64 (Co.price l r i o q v k f u)) ∧ Below w.heap.size w w' := by
  cases hg : Co.goodB l r i o q v
  case false =>
    go_enter Try.func6, Try.ntmps6
    go_wp2_with (go_at_call 7; refine (good_any _ _ _ _ _ _ _).mono ?_; rintro e w1 ⟨rfl, hb⟩)
    go_ret
    exact ⟨ret_i64 (by simp [Co.price, hg]), below1 (by assumption)⟩
  case true =>
    have bd := Co.good_bd hg
    have q1 := Co.cap_bd f i (by omega)
    have q2 := Co.cap_bd u i (by omega)
    have q3 := Co.cap_bd (Co.cap f i + Co.cap u i) i (by omega)
    have q4 := Co.cap_bd u o (by omega)
    by_cases k2 : k = 2
    · subst k2
      go_enter Try.func6, Try.ntmps6
      go_wp2_with (go_at_call 7; refine (good_any _ _ _ _ _ _ _).mono ?_; rintro e w1 ⟨rfl, hb⟩; obtain ⟨c0, c1, c2, c3, c4, c5⟩ := setup_cells hb)
      go_quiet ((go_at_call 19; exact quietw (capped_any _ _ _ (by omega))))
      go_wp2
      go_ret
      refine ⟨ret_i64 (by simp [Co.price, Co.priceI, hg]), below_drewN (below1 (by assumption)) _⟩
    · by_cases k1 : k = 1
      · subst k1
        go_enter Try.func6, Try.ntmps6
        go_wp2_with (first | (go_at_call 7; refine (good_any _ _ _ _ _ _ _).mono ?_; rintro e w1 ⟨rfl, hb⟩; obtain ⟨c0, c1, c2, c3, c4, c5⟩ := setup_cells hb) | (go_at_call 19; refine (capped_any _ _ _ (by omega)).mono ?_; rintro e w' ⟨rfl, rfl⟩))
        go_ret
        exact ⟨ret_i64 (by simp [Co.price, Co.priceI, hg]), below1 (by assumption)⟩
      · have b2 : (k == 2) = false := by simpa using k2
        have b1 : (k == 1) = false := by simpa using k1
        have HP : Hid (Co.price l r i o q v k f u = 1) := by simp [Hid, Co.price, Co.priceI, hg, k1, k2]
        clear k1 k2
        go_enter Try.func6, Try.ntmps6
        go_wp2_with (go_at_call 7; refine (good_any _ _ _ _ _ _ _).mono ?_; rintro e w1 ⟨rfl, hb⟩; obtain ⟨c0, c1, c2, c3, c4, c5⟩ := setup_cells hb)
        go_ret
        exact ⟨ret_i64 HP.out.symm, below1 (by assumption)⟩
set_option maxHeartbeats 1000000 in
theorem rprice_any (l r i o q v k f u : Int) (w : World) : Calls Try.prog 9 #[.agg #[.int .i64 l, .int .i64 r, .int .i64 i, .int .i64 o, .int .i64 q, .int .i64 v], .int .i64 k, .int .i64 f, .int .i64 u] w fun e w' => e = .returned (.int .i64 (Co.price l r i o q v k f u)) ∧ Below w.heap.size w w' := by
  cases hg : Co.goodB l r i o q v
  case false =>
    go_enter Try.func9, Try.ntmps9
    go_wp2_with (go_at_call 8; refine (rgood_any _ _ _ _ _ _ _).mono ?_; rintro e w1 ⟨rfl, hb⟩)
    go_ret
    exact ⟨ret_i64 (by simp [Co.price, hg]), below1 (by assumption)⟩
  case true =>
    have bd := Co.good_bd hg
    have q1 := Co.cap_bd f i (by omega)
    have q5 := Co.cap_bd u (i - Co.cap f i) (by omega)
    have q4 := Co.cap_bd u o (by omega)
    by_cases k2 : k = 2
    · subst k2
      have HP : Hid (Co.price l r i o q v 2 f u = 1 + Co.cap f i + Co.cap u (i - Co.cap f i)) := by
        have := Co.price_two i f u (by omega)
        simp [Hid, Co.price, Co.priceI, hg]; omega
      go_enter Try.func9, Try.ntmps9
      go_wp2_with (first | (go_at_call 8; refine (rgood_any _ _ _ _ _ _ _).mono ?_; rintro e w1 ⟨rfl, hb⟩; obtain ⟨c0, c1, c2, c3, c4, c5⟩ := setup_cells hb) | (go_at_call 21; refine (within_cap _ _ _).mono ?_; rintro e w' ⟨rfl, rfl⟩))
      go_ret
      exact ⟨ret_i64 HP.out.symm, below1 (by assumption)⟩
    · by_cases k1 : k = 1
      · subst k1
        go_enter Try.func9, Try.ntmps9
        go_wp2_with (first | (go_at_call 8; refine (rgood_any _ _ _ _ _ _ _).mono ?_; rintro e w1 ⟨rfl, hb⟩; obtain ⟨c0, c1, c2, c3, c4, c5⟩ := setup_cells hb) | (go_at_call 21; refine (within_cap _ _ _).mono ?_; rintro e w' ⟨rfl, rfl⟩))
        go_ret
        exact ⟨ret_i64 (by simp [Co.price, Co.priceI, hg]), below1 (by assumption)⟩
      · have b2 : (k == 2) = false := by simpa using k2
        have b1 : (k == 1) = false := by simpa using k1
        have HP : Hid (Co.price l r i o q v k f u = 1) := by simp [Hid, Co.price, Co.priceI, hg, k1, k2]
        clear k1 k2
        go_enter Try.func9, Try.ntmps9
        go_wp2_with (go_at_call 8; refine (rgood_any _ _ _ _ _ _ _).mono ?_; rintro e w1 ⟨rfl, hb⟩; obtain ⟨c0, c1, c2, c3, c4, c5⟩ := setup_cells hb)
        go_ret
        exact ⟨ret_i64 HP.out.symm, below1 (by assumption)⟩
set_option maxHeartbeats 1000000 in
theorem most_any (l r i o q v : Int) (w : World) : Calls Try.prog 10 #[.agg #[.int .i64 l, .int .i64 r, .int .i64 i, .int .i64 o, .int .i64 q, .int .i64 v]] w fun e w' => e = .returned (.int .i64 (Co.most l r i o q v)) ∧ Below w.heap.size w w' := by
  cases hg : Co.goodB l r i o q v
  case false =>
    go_enter Try.func10, Try.ntmps10
    go_wp2_with (go_at_call 7; refine (good_any _ _ _ _ _ _ _).mono ?_; rintro e w1 ⟨rfl, hb⟩)
    go_ret
    exact ⟨ret_i64 (by simp [Co.most, hg]), below1 (by assumption)⟩
  case true =>
    have bd := Co.good_bd hg
    by_cases hio : o < i
    · have HP : Hid (Co.most l r i o q v = 1 + i) := by simp [Hid, Co.most, Co.mostI, hg, hio]
      go_enter Try.func10, Try.ntmps10
      go_wp2_with (go_at_call 7; refine (good_any _ _ _ _ _ _ _).mono ?_; rintro e w1 ⟨rfl, hb⟩; obtain ⟨c0, c1, c2, c3, c4, c5⟩ := setup_cells hb)
      all_goals
        go_ret
        exact ⟨ret_i64 (by first | (rw [HP.out]; done) | (rw [HP.out]; omega)), below1 (by assumption)⟩
    · have HP : Hid (Co.most l r i o q v = 1 + o) := by simp [Hid, Co.most, Co.mostI, hg, hio]
      go_enter Try.func10, Try.ntmps10
      go_wp2_with (go_at_call 7; refine (good_any _ _ _ _ _ _ _).mono ?_; rintro e w1 ⟨rfl, hb⟩; obtain ⟨c0, c1, c2, c3, c4, c5⟩ := setup_cells hb)
      all_goals
        go_ret
        exact ⟨ret_i64 (by first | (rw [HP.out]; done) | (rw [HP.out]; omega)), below1 (by assumption)⟩
set_option maxHeartbeats 1000000 in
theorem rmost_any (l r i o q v : Int) (w : World) : Calls Try.prog 11 #[.agg #[.int .i64 l, .int .i64 r, .int .i64 i, .int .i64 o, .int .i64 q, .int .i64 v]] w fun e w' => e = .returned (.int .i64 (Co.most l r i o q v)) ∧ Below w.heap.size w w' := by
  cases hg : Co.goodB l r i o q v
  case false =>
    go_enter Try.func11, Try.ntmps11
    go_wp2_with (go_at_call 8; refine (rgood_any _ _ _ _ _ _ _).mono ?_; rintro e w1 ⟨rfl, hb⟩)
    go_ret
    exact ⟨ret_i64 (by simp [Co.most, hg]), below1 (by assumption)⟩
  case true =>
    have bd := Co.good_bd hg
    by_cases hio : o < i
    · have HP : Hid (Co.most l r i o q v = 1 + i) := by simp [Hid, Co.most, Co.mostI, hg, hio]
      go_enter Try.func11, Try.ntmps11
      go_wp2_with (go_at_call 8; refine (rgood_any _ _ _ _ _ _ _).mono ?_; rintro e w1 ⟨rfl, hb⟩; obtain ⟨c0, c1, c2, c3, c4, c5⟩ := setup_cells hb)
      all_goals
        go_ret
        exact ⟨ret_i64 (by first | (rw [HP.out]; done) | (rw [HP.out]; omega)), below1 (by assumption)⟩
    · have HP : Hid (Co.most l r i o q v = 1 + o) := by simp [Hid, Co.most, Co.mostI, hg, hio]
      go_enter Try.func11, Try.ntmps11
      go_wp2_with (go_at_call 8; refine (rgood_any _ _ _ _ _ _ _).mono ?_; rintro e w1 ⟨rfl, hb⟩; obtain ⟨c0, c1, c2, c3, c4, c5⟩ := setup_cells hb)
      all_goals
        go_ret
        exact ⟨ret_i64 (by first | (rw [HP.out]; done) | (rw [HP.out]; omega)), below1 (by assumption)⟩
end Go.Proofs.Yteodknfmghnalaa
