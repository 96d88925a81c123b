/- The document's own answers for purses: Pay, where it can be paid. -/
import Derived.Test.YticdpcbmnahenaaPurRef4
namespace Go.Proofs.Yticdpcbmnahenaa
open Go.ChangeShapes Go.WideShapes Go.ChangeAt Go.RowKit
set_option linter.unusedSimpArgs false
set_option linter.unusedVariables false

set_option maxRecDepth 20000 in
set_option maxHeartbeats 4000000 in
theorem ref_pay_yes (Mo q : Int) (lo : Nat) (a : Option Addr) (M : List (Int × Int)) (c : Nat) (id price pr : Int) (w : World) (hl : M.length ≤ 1000) (hc : M.length ≤ c ∧ c ≤ 9223372036854775807) (h : RL w lo a M) (hpr : max price 0 = pr) (hin : 0 ≤ id ∧ id < Mo) (hyes : pr ≤ lHas M id) (hb : 0 ≤ lHas M id ∧ lHas M id ≤ 2000000000) :
    Calls Try.prog 35 #[.agg #[.int .i64 Mo, .int .i64 q, .slice a M.length c], .int .i64 id, .int .i64 price] w fun e w' => ∃ v, e = .returned (.tuple #[v, .bool true]) ∧ RPost w Mo q (lSet Mo M id (lHas M id - pr)) v w' := by
  have HPR := Lib.hid hpr
  have hpr0 : 0 ≤ pr := by omega
  clear hpr
  obtain ⟨hv, hhv⟩ : ∃ hv, lHas M id = hv := ⟨_, rfl⟩
  have HHV := Lib.hid hhv
  rw [hhv] at hyes hb ⊢
  clear hhv
  have s1 : IntKind.i64.wrap (hv - pr) = hv - pr := IntWalk.i64_in _ (by omega)
  obtain ⟨n, hn⟩ : ∃ n, M.length = n := ⟨_, rfl⟩
  have HN := Lib.hid hn
  obtain ⟨N9, hN9⟩ : ∃ N9, lSet Mo M id (hv - pr) = N9 := ⟨_, rfl⟩
  have H9 := Lib.hid hN9
  rw [hN9]
  obtain ⟨n9, hn9⟩ : ∃ n9, N9.length = n9 := ⟨_, rfl⟩
  have HN9 := Lib.hid hn9
  have hl' : Hid (M.length ≤ 1000 ∧ M.length ≤ c ∧ c ≤ 9223372036854775807) := Lib.hid ⟨hl, hc⟩
  rw [hn] at hl hc ⊢
  have HB0 := Lib.hid (BX.start h #[.int .i64 Mo, .int .i64 q, .slice a n c])
  clear hn h hN9 hn9
  go_enter Try.func35, Try.ntmps35
  go_upto_region 1 with fail
  revert HB0
  generalize (w.alloc (.cells #[.int .i64 Mo, .int .i64 q, .slice a n c] 30)).alloc (.cells #[.int .i64 0, .int .i64 0, .slice none 0 0] 30) = W
  intro HB0
  go_upto_if 9 with fail
  go_cut [2] from 8 to 9 (fun v2 wx => v2 = .int .i64 pr ∧ Hid (BX w wx lo a M [.int .i64 Mo, .int .i64 q, .slice a n c]))
  case first =>
    by_cases hp0 : price < 0
    · have HP0 : Hid ((0 : Int) = pr) := Lib.hid (by have := HPR.out; omega)
      go_wp2_with fail
      go_meet
      exact ⟨by rw [← HP0.out], HB0⟩
    · have HP0 : Hid (price = pr) := Lib.hid (by have := HPR.out; omega)
      go_wp2_with fail
      go_meet
      exact ⟨by rw [← HP0.out], HB0⟩
  case rest =>
    clear HB0
    obtain ⟨rfl, HB0⟩ := hcut
    have b0 := HB0.out.1.cell (i := 0) rfl
    have b1 := HB0.out.1.cell (i := 1) rfl
    have b2 := HB0.out.1.cell (i := 2) rfl
    have z0 := HB0.out.2.1.cell (i := 0) rfl
    have z1 := HB0.out.2.1.cell (i := 1) rfl
    have z2 := HB0.out.2.1.cell (i := 2) rfl
    have f0 := HB0.out.2.1.free 0
    have f1 := HB0.out.2.1.free 1
    have f2 := HB0.out.2.1.free 2
    have g1 : ¬ id < 0 := by omega
    have g2 : ¬ Mo ≤ id := by omega
    have g5 : id < Mo := by omega
    have g3 : ¬ hv < pr := by omega
    have g6 : 0 ≤ id := by omega
    have g7 : pr ≤ hv := hyes
    clear hin hyes
    go_upto_region 5 with (go_at_call 43; rw [← HN.out]; refine (ref_has Mo q lo a M c id _ (by have := hl'.out.1; omega) (HB0.out).2.2.1).mono ?_; rintro e w1 ⟨rfl, k1⟩; rw [HN.out, HHV.out]; have HB1 := Lib.hid (HB0.out.on k1); clear k1 b0 b1 b2 z0 z1 z2 f0 f1 f2; have b0 := HB1.out.1.cell (i := 0) rfl; have b1 := HB1.out.1.cell (i := 1) rfl; have b2 := HB1.out.1.cell (i := 2) rfl; have z0 := HB1.out.2.1.cell (i := 0) rfl; have z1 := HB1.out.2.1.cell (i := 1) rfl; have z2 := HB1.out.2.1.cell (i := 2) rfl; have f0 := HB1.out.2.1.free 0; have f1 := HB1.out.2.1.free 1; have f2 := HB1.out.2.1.free 2)
    go_region_with (first
      | (go_at_call 43; rw [← HN.out]; refine (ref_has Mo q lo a M c id _ (by have := hl'.out.1; omega) HB1.out.drew.2.2.1).mono ?_; rintro e w1 ⟨rfl, k1⟩; rw [HN.out, HHV.out]; have HB2 := Lib.hid (HB1.out.drew.on k1); clear k1; have d0 := HB2.out.1.cell (i := 0) rfl; have d1 := HB2.out.1.cell (i := 1) rfl; have d2 := HB2.out.1.cell (i := 2) rfl)
      | (go_at_call 49; rw [← HN.out]; refine (ref_set Mo q lo a M c id (hv - pr) _ hl'.out.1 hl'.out.2 HB2.out.2.2.1).mono ?_; rintro e w2 ⟨g9, c9, rfl, k1, k2, k3, k4⟩; rw [H9.out] at k1 k3 ⊢; rw [HN9.out]; have HR2 := Lib.hid (HB2.out.rr k1 k2 k3 k4); have r0 := HR2.out.1.cell (i := 0) rfl; have r1 := HR2.out.1.cell (i := 1) rfl; have r2 := HR2.out.1.cell (i := 2) rfl; have f0 := HR2.out.1.free 0; have f1 := HR2.out.1.free 1; have f2 := HR2.out.1.free 2; clear k1 k2 k3 k4))
    all_goals
      go_wp2
      have HS11 := Lib.hid (RR.result (a := .int .i64 Mo) (b := .int .i64 q) (c := .slice (some ⟨g9, 0, none⟩) n9 c9) HR2.out)
      clear r0 r1 r2 f0 f1 f2
      revert HS11
      generalize ((w2.setCell ⟨w.heap.size + 1, 0, none⟩ (.int .i64 Mo)).setCell ⟨w.heap.size + 1, 1, none⟩ (.int .i64 q)).setCell ⟨w.heap.size + 1, 2, none⟩ (.slice (some ⟨g9, 0, none⟩) n9 c9) = W11
      intro HS11
      have r0 := HS11.out.1.cell (i := 0) rfl
      have r1 := HS11.out.1.cell (i := 1) rfl
      have r2 := HS11.out.1.cell (i := 2) rfl
      refine bodyPost_ret (v := .tuple #[.agg #[.int .i64 Mo, .int .i64 q, .slice (some ⟨g9, 0, none⟩) n9 c9], .bool true]) (by simp [results, Try.results35, go_sem, r0, r1, r2]) rfl ?_
      exact ⟨_, rfl, HS11.out.post HN9.out⟩
end Go.Proofs.Yticdpcbmnahenaa
