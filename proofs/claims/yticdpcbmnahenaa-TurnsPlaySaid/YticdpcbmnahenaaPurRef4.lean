/- The document's own answers for purses: Pay, New. -/
import Derived.Test.YticdpcbmnahenaaPurRef3
namespace Go.Proofs.Yticdpcbmnahenaa
open Go.ChangeShapes Go.WideShapes Go.ChangeAt Go.RowKit
set_option linter.unusedSimpArgs false
set_option linter.unusedVariables false

set_option maxRecDepth 20000 in
set_option maxHeartbeats 4000000 in
theorem ref_pay_no (Mo q : Int) (lo : Nat) (a : Option Addr) (M : List (Int × Int)) (c : Nat) (id price pr : Int) (w : World) (hl : M.length ≤ 1000) (hc : M.length ≤ c ∧ c ≤ 9223372036854775807) (h : RL w lo a M) (hpr : max price 0 = pr) (hno : id < 0 ∨ Mo ≤ id ∨ lHas M id < pr) :
    Calls Try.prog 35 #[.agg #[.int .i64 Mo, .int .i64 q, .slice a M.length c], .int .i64 id, .int .i64 price] w fun e w' => e = .returned (.tuple #[.agg #[.int .i64 Mo, .int .i64 q, .slice a M.length c], .bool false]) ∧ Below w.heap.size w w' := by
  have HPR := Lib.hid hpr
  have hpr0 : 0 ≤ pr := by omega
  clear hpr
  obtain ⟨hv, hhv⟩ : ∃ hv, lHas M id = hv := ⟨_, rfl⟩
  have HHV := Lib.hid hhv
  rw [hhv] at hno
  clear hhv
  obtain ⟨n, hn⟩ : ∃ n, M.length = n := ⟨_, rfl⟩
  have HN := Lib.hid hn
  have hl' : Hid (M.length ≤ 1000 ∧ M.length ≤ c ∧ c ≤ 9223372036854775807) := Lib.hid ⟨hl, hc⟩
  rw [hn] at hl hc ⊢
  have HB0 := Lib.hid (BX.start h #[.int .i64 Mo, .int .i64 q, .slice a n c])
  clear hn h
  go_enter Try.func35, Try.ntmps35
  go_upto_region 1 with fail
  revert HB0
  generalize (w.alloc (.cells #[.int .i64 Mo, .int .i64 q, .slice a n c] 30)).alloc (.cells #[.int .i64 0, .int .i64 0, .slice none 0 0] 30) = W
  intro HB0
  go_upto_if 9 with fail
  go_cut [2] from 8 to 9 (fun v2 wx => v2 = .int .i64 pr ∧ Hid (BX w wx lo a M [.int .i64 Mo, .int .i64 q, .slice a n c]))
  case first =>
    by_cases hp0 : price < 0
    · have HP0 : Hid ((0 : Int) = pr) := Lib.hid (by have := HPR.out; omega)
      go_wp2_with fail
      go_meet
      exact ⟨by rw [← HP0.out], HB0⟩
    · have HP0 : Hid (price = pr) := Lib.hid (by have := HPR.out; omega)
      go_wp2_with fail
      go_meet
      exact ⟨by rw [← HP0.out], HB0⟩
  case rest =>
    clear HB0
    obtain ⟨rfl, HB0⟩ := hcut
    have b0 := HB0.out.1.cell (i := 0) rfl
    have b1 := HB0.out.1.cell (i := 1) rfl
    have b2 := HB0.out.1.cell (i := 2) rfl
    have z0 := HB0.out.2.1.cell (i := 0) rfl
    have z1 := HB0.out.2.1.cell (i := 1) rfl
    have z2 := HB0.out.2.1.cell (i := 2) rfl
    have f0 := HB0.out.2.1.free 0
    have f1 := HB0.out.2.1.free 1
    have f2 := HB0.out.2.1.free 2
    by_cases g1 : id < 0
    · go_wp2_with fail
      have HS11 : Hid (Blk (((wc.setCell ⟨w.heap.size + 1, 0, none⟩ (.int .i64 Mo)).setCell ⟨w.heap.size + 1, 1, none⟩ (.int .i64 q)).setCell ⟨w.heap.size + 1, 2, none⟩ (.slice a n c)) (w.heap.size + 1) [.int .i64 Mo, .int .i64 q, .slice a n c] 30 ∧ Below w.heap.size w (((wc.setCell ⟨w.heap.size + 1, 0, none⟩ (.int .i64 Mo)).setCell ⟨w.heap.size + 1, 1, none⟩ (.int .i64 q)).setCell ⟨w.heap.size + 1, 2, none⟩ (.slice a n c))) := Lib.hid ⟨((HB0.out.2.1.set 0 _).set 1 _).set 2 _, (((HB0.out.2.2.2).setCell (by simp) _).setCell (by simp) _).setCell (by simp) _⟩
      clear b0 b1 b2 z0 z1 z2 f0 f1 f2
      revert HS11
      generalize ((wc.setCell ⟨w.heap.size + 1, 0, none⟩ (.int .i64 Mo)).setCell ⟨w.heap.size + 1, 1, none⟩ (.int .i64 q)).setCell ⟨w.heap.size + 1, 2, none⟩ (.slice a n c) = W11
      intro HS11
      have r0 := HS11.out.1.cell (i := 0) rfl
      have r1 := HS11.out.1.cell (i := 1) rfl
      have r2 := HS11.out.1.cell (i := 2) rfl
      exact bodyPost_ret (v := .tuple #[.agg #[.int .i64 Mo, .int .i64 q, .slice a n c], .bool false]) (by simp [results, Try.results35, go_sem, r0, r1, r2]) rfl ⟨rfl, HS11.out.2⟩
    · by_cases g2 : Mo ≤ id
      · go_wp2_with fail
        have HS11 : Hid (Blk (((wc.setCell ⟨w.heap.size + 1, 0, none⟩ (.int .i64 Mo)).setCell ⟨w.heap.size + 1, 1, none⟩ (.int .i64 q)).setCell ⟨w.heap.size + 1, 2, none⟩ (.slice a n c)) (w.heap.size + 1) [.int .i64 Mo, .int .i64 q, .slice a n c] 30 ∧ Below w.heap.size w (((wc.setCell ⟨w.heap.size + 1, 0, none⟩ (.int .i64 Mo)).setCell ⟨w.heap.size + 1, 1, none⟩ (.int .i64 q)).setCell ⟨w.heap.size + 1, 2, none⟩ (.slice a n c))) := Lib.hid ⟨((HB0.out.2.1.set 0 _).set 1 _).set 2 _, (((HB0.out.2.2.2).setCell (by simp) _).setCell (by simp) _).setCell (by simp) _⟩
        clear b0 b1 b2 z0 z1 z2 f0 f1 f2
        revert HS11
        generalize ((wc.setCell ⟨w.heap.size + 1, 0, none⟩ (.int .i64 Mo)).setCell ⟨w.heap.size + 1, 1, none⟩ (.int .i64 q)).setCell ⟨w.heap.size + 1, 2, none⟩ (.slice a n c) = W11
        intro HS11
        have r0 := HS11.out.1.cell (i := 0) rfl
        have r1 := HS11.out.1.cell (i := 1) rfl
        have r2 := HS11.out.1.cell (i := 2) rfl
        exact bodyPost_ret (v := .tuple #[.agg #[.int .i64 Mo, .int .i64 q, .slice a n c], .bool false]) (by simp [results, Try.results35, go_sem, r0, r1, r2]) rfl ⟨rfl, HS11.out.2⟩
      · have g3 : hv < pr := by omega
        have g4 : ¬ id < 0 := g1
        have g5 : id < Mo := by omega
        go_wp2_with (go_at_call 43; rw [← HN.out]; refine (ref_has Mo q lo a M c id _ (by have := hl'.out.1; omega) (HB0.out).2.2.1).mono ?_; rintro e w1 ⟨rfl, k1⟩; rw [HN.out, HHV.out]; have HB1 := Lib.hid (HB0.out.on k1); clear k1 b0 b1 b2 z0 z1 z2 f0 f1 f2; have b0 := HB1.out.1.cell (i := 0) rfl; have b1 := HB1.out.1.cell (i := 1) rfl; have b2 := HB1.out.1.cell (i := 2) rfl; have z0 := HB1.out.2.1.cell (i := 0) rfl; have z1 := HB1.out.2.1.cell (i := 1) rfl; have z2 := HB1.out.2.1.cell (i := 2) rfl; have f0 := HB1.out.2.1.free 0; have f1 := HB1.out.2.1.free 1; have f2 := HB1.out.2.1.free 2)
        have HS11 : Hid (Blk (((w1.setCell ⟨w.heap.size + 1, 0, none⟩ (.int .i64 Mo)).setCell ⟨w.heap.size + 1, 1, none⟩ (.int .i64 q)).setCell ⟨w.heap.size + 1, 2, none⟩ (.slice a n c)) (w.heap.size + 1) [.int .i64 Mo, .int .i64 q, .slice a n c] 30 ∧ Below w.heap.size w (((w1.setCell ⟨w.heap.size + 1, 0, none⟩ (.int .i64 Mo)).setCell ⟨w.heap.size + 1, 1, none⟩ (.int .i64 q)).setCell ⟨w.heap.size + 1, 2, none⟩ (.slice a n c))) := Lib.hid ⟨((HB1.out.2.1.set 0 _).set 1 _).set 2 _, (((HB1.out.2.2.2).setCell (by simp) _).setCell (by simp) _).setCell (by simp) _⟩
        clear b0 b1 b2 z0 z1 z2 f0 f1 f2
        revert HS11
        generalize ((w1.setCell ⟨w.heap.size + 1, 0, none⟩ (.int .i64 Mo)).setCell ⟨w.heap.size + 1, 1, none⟩ (.int .i64 q)).setCell ⟨w.heap.size + 1, 2, none⟩ (.slice a n c) = W11
        intro HS11
        have r0 := HS11.out.1.cell (i := 0) rfl
        have r1 := HS11.out.1.cell (i := 1) rfl
        have r2 := HS11.out.1.cell (i := 2) rfl
        exact bodyPost_ret (v := .tuple #[.agg #[.int .i64 Mo, .int .i64 q, .slice a n c], .bool false]) (by simp [results, Try.results35, go_sem, r0, r1, r2]) rfl ⟨rfl, HS11.out.2⟩
set_option maxRecDepth 20000 in
set_option maxHeartbeats 4000000 in
theorem ref_new (x y : Int) (n : Nat) (q : Int) (w : World) (hn : min (max x 1) 1024 = (n : Int)) (hq : min (max y 1) 1000000 = q) :
    Calls Try.prog 29 #[.int .i64 x, .int .i64 y] w fun e w' => e = .returned (.agg #[.int .i64 n, .int .i64 q, .slice none 0 0]) ∧ Below w.heap.size w w' := by
  have H1 : Hid (clampI x 1 1024 = (n : Int)) := Lib.hid (by unfold clampI; split <;> first | omega | (split <;> omega))
  have H2 : Hid (clampI y 1 1000000 = q) := Lib.hid (by unfold clampI; split <;> first | omega | (split <;> omega))
  clear hn hq
  go_enter Try.func29, Try.ntmps29
  go_wp2_with (go_at_call 21; refine (within_any _ _ _ _ (by omega)).mono ?_; rintro e w' ⟨rfl, rfl⟩; first | rw [H1.out] | rw [H2.out])
  exact bodyPost_ret (v := .agg #[.int .i64 n, .int .i64 q, .slice none 0 0]) (by simp [results, Try.results29, go_sem]) rfl ⟨rfl, by repeat (first | exact Below.refl _ _ | refine Below.drew ?_ | refine Below.alloc ?_ (by simp) _ | refine Below.setCell ?_ (by simp) _ | refine below_drewN ?_ _)⟩
end Go.Proofs.Yticdpcbmnahenaa
