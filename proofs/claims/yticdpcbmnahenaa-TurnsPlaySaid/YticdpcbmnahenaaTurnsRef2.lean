/- The document's own answer for turns, second part: Wake, Pay, End. -/
import Derived.Test.YticdpcbmnahenaaTurnsRef
namespace Go.Proofs.Yticdpcbmnahenaa
open Go.ChangeShapes Go.WideShapes Go.ChangeAt Go.RowKit
set_option linter.unusedSimpArgs false
set_option linter.unusedVariables false

set_option maxRecDepth 20000 in
set_option maxHeartbeats 4000000 in
theorem tr_end_off (lo n : Nat) (q : Int) (r : Option Addr) (L : List Nat) (cr : Nat) (a : Option Addr) (M : List (Int × Int)) (c : Nat) (wv : Int) (dn : Nat) (again : Bool) (w : World) (hL : L.length ≤ 1024) (hM : M.length ≤ 1000) (hc : M.length ≤ c ∧ c ≤ 9223372036854775807) (hr : LR w lo r L cr) (ha : RL w lo a M) (h0 : wv < 0) :
    Calls Try.prog 15 #[.agg #[.slice r L.length cr, .int .i64 n, .int .i64 q, .slice a M.length c, .int .i64 wv, .int .i64 dn], .bool again] w fun e w' => ∃ v, e = .returned (.tuple #[v, .bool false]) ∧ TPost w lo n q L M wv dn v w' := by
  obtain ⟨l, hl⟩ : ∃ l, L.length = l := ⟨_, rfl⟩
  have HL := Lib.hid hl
  obtain ⟨m, hm⟩ : ∃ m, M.length = m := ⟨_, rfl⟩
  have HM := Lib.hid hm
  have HR := Lib.hid hr
  have HA := Lib.hid ha
  have HLM : Hid (L.length ≤ 1024 ∧ M.length ≤ 1000 ∧ (M.length ≤ c ∧ c ≤ 9223372036854775807)) := Lib.hid ⟨hL, hM, hc⟩
  rw [hl] at hL ⊢
  rw [hm] at hM hc ⊢
  clear hl hm hr ha
  have HB := Lib.hid (TB.start w #[.slice r l cr, .int .i64 n, .int .i64 q, .slice a m c, .int .i64 wv, .int .i64 dn] #[.slice none 0 0, .int .i64 0, .int .i64 0, .slice none 0 0, .int .i64 0, .int .i64 0])
  go_enter Try.func15, Try.ntmps15
  go_upto_region 1 with fail
  revert HB
  generalize (w.alloc (Obj.cells #[.slice r l cr, .int .i64 n, .int .i64 q, .slice a m c, .int .i64 wv, .int .i64 dn] 32)).alloc (Obj.cells #[.slice none 0 0, .int .i64 0, .int .i64 0, .slice none 0 0, .int .i64 0, .int .i64 0] 32) = W
  intro HB
  have c4 := HB.out.1.cell (i := 4) rfl
  go_upto_region 2 with fail
  have q0 := HB.out.1.cell (i := 0) rfl
  have q1 := HB.out.1.cell (i := 1) rfl
  have q2 := HB.out.1.cell (i := 2) rfl
  have q3 := HB.out.1.cell (i := 3) rfl
  have q4 := HB.out.1.cell (i := 4) rfl
  have q5 := HB.out.1.cell (i := 5) rfl
  have r0 := HB.out.2.1.cell (i := 0) rfl
  have r1 := HB.out.2.1.cell (i := 1) rfl
  have r2 := HB.out.2.1.cell (i := 2) rfl
  have r3 := HB.out.2.1.cell (i := 3) rfl
  have r4 := HB.out.2.1.cell (i := 4) rfl
  have r5 := HB.out.2.1.cell (i := 5) rfl
  have f0 := HB.out.2.1.free 0
  have f1 := HB.out.2.1.free 1
  have f2 := HB.out.2.1.free 2
  have f3 := HB.out.2.1.free 3
  have f4 := HB.out.2.1.free 4
  have f5 := HB.out.2.1.free 5
  go_wp2_with fail
  have HZ := Lib.hid (TB.setR (a := .slice r l cr) (b := .int .i64 n) (c := .int .i64 q) (d := .slice a m c) (e := .int .i64 wv) (f := .int .i64 dn) HB.out)
  have HCH := Lib.hid (chg6 (w0 := w) (w := W) (a := .slice r l cr) (b := .int .i64 n) (c := .int .i64 q) (d := .slice a m c) (e := .int .i64 wv) (f := .int .i64 dn))
  clear q0 q1 q2 q3 q4 q5 r0 r1 r2 r3 r4 r5 f0 f1 f2 f3 f4 f5
  revert HZ HCH
  generalize ((((((W).setCell ⟨w.heap.size + 1, 0, none⟩ (.slice r l cr)).setCell ⟨w.heap.size + 1, 1, none⟩ (.int .i64 n)).setCell ⟨w.heap.size + 1, 2, none⟩ (.int .i64 q)).setCell ⟨w.heap.size + 1, 3, none⟩ (.slice a m c)).setCell ⟨w.heap.size + 1, 4, none⟩ (.int .i64 wv)).setCell ⟨w.heap.size + 1, 5, none⟩ (.int .i64 dn) = WZ
  intro HZ HCH
  have r0 := HZ.out.2.1.cell (i := 0) rfl
  have r1 := HZ.out.2.1.cell (i := 1) rfl
  have r2 := HZ.out.2.1.cell (i := 2) rfl
  have r3 := HZ.out.2.1.cell (i := 3) rfl
  have r4 := HZ.out.2.1.cell (i := 4) rfl
  have r5 := HZ.out.2.1.cell (i := 5) rfl
  refine bodyPost_ret (v := .tuple #[.agg #[.slice r l cr, .int .i64 n, .int .i64 q, .slice a m c, .int .i64 wv, .int .i64 dn], .bool false]) (by simp [results, Try.results15, go_sem, r0, r1, r2, r3, r4, r5]) rfl ?_
  exact ⟨_, rfl, r, cr, a, c, by rw [HL.out, HM.out], HR.out.fresh HZ.out.2.2, HA.out.fresh HZ.out.2.2, HLM.out.2.2, HZ.out.2.2⟩
set_option maxRecDepth 20000 in
set_option maxHeartbeats 4000000 in
theorem tr_pay_off (lo n : Nat) (q : Int) (r : Option Addr) (L : List Nat) (cr : Nat) (a : Option Addr) (M : List (Int × Int)) (c : Nat) (wv : Int) (dn : Nat) (price : Int) (w : World) (hL : L.length ≤ 1024) (hM : M.length ≤ 1000) (hc : M.length ≤ c ∧ c ≤ 9223372036854775807) (hr : LR w lo r L cr) (ha : RL w lo a M) (h0 : wv < 0) :
    Calls Try.prog 13 #[.agg #[.slice r L.length cr, .int .i64 n, .int .i64 q, .slice a M.length c, .int .i64 wv, .int .i64 dn], .int .i64 price] w fun e w' => ∃ v, e = .returned (.tuple #[v, .bool false]) ∧ TPost w lo n q L M wv dn v w' := by
  obtain ⟨l, hl⟩ : ∃ l, L.length = l := ⟨_, rfl⟩
  have HL := Lib.hid hl
  obtain ⟨m, hm⟩ : ∃ m, M.length = m := ⟨_, rfl⟩
  have HM := Lib.hid hm
  have HR := Lib.hid hr
  have HA := Lib.hid ha
  have HLM : Hid (L.length ≤ 1024 ∧ M.length ≤ 1000 ∧ (M.length ≤ c ∧ c ≤ 9223372036854775807)) := Lib.hid ⟨hL, hM, hc⟩
  rw [hl] at hL ⊢
  rw [hm] at hM hc ⊢
  clear hl hm hr ha
  have HB := Lib.hid (TB.start w #[.slice r l cr, .int .i64 n, .int .i64 q, .slice a m c, .int .i64 wv, .int .i64 dn] #[.slice none 0 0, .int .i64 0, .int .i64 0, .slice none 0 0, .int .i64 0, .int .i64 0])
  go_enter Try.func13, Try.ntmps13
  go_upto_region 1 with fail
  revert HB
  generalize (w.alloc (Obj.cells #[.slice r l cr, .int .i64 n, .int .i64 q, .slice a m c, .int .i64 wv, .int .i64 dn] 32)).alloc (Obj.cells #[.slice none 0 0, .int .i64 0, .int .i64 0, .slice none 0 0, .int .i64 0, .int .i64 0] 32) = W
  intro HB
  have c4 := HB.out.1.cell (i := 4) rfl
  go_upto_region 2 with fail
  have q0 := HB.out.1.cell (i := 0) rfl
  have q1 := HB.out.1.cell (i := 1) rfl
  have q2 := HB.out.1.cell (i := 2) rfl
  have q3 := HB.out.1.cell (i := 3) rfl
  have q4 := HB.out.1.cell (i := 4) rfl
  have q5 := HB.out.1.cell (i := 5) rfl
  have r0 := HB.out.2.1.cell (i := 0) rfl
  have r1 := HB.out.2.1.cell (i := 1) rfl
  have r2 := HB.out.2.1.cell (i := 2) rfl
  have r3 := HB.out.2.1.cell (i := 3) rfl
  have r4 := HB.out.2.1.cell (i := 4) rfl
  have r5 := HB.out.2.1.cell (i := 5) rfl
  have f0 := HB.out.2.1.free 0
  have f1 := HB.out.2.1.free 1
  have f2 := HB.out.2.1.free 2
  have f3 := HB.out.2.1.free 3
  have f4 := HB.out.2.1.free 4
  have f5 := HB.out.2.1.free 5
  go_wp2_with fail
  have HZ := Lib.hid (TB.setR (a := .slice r l cr) (b := .int .i64 n) (c := .int .i64 q) (d := .slice a m c) (e := .int .i64 wv) (f := .int .i64 dn) HB.out)
  have HCH := Lib.hid (chg6 (w0 := w) (w := W) (a := .slice r l cr) (b := .int .i64 n) (c := .int .i64 q) (d := .slice a m c) (e := .int .i64 wv) (f := .int .i64 dn))
  clear q0 q1 q2 q3 q4 q5 r0 r1 r2 r3 r4 r5 f0 f1 f2 f3 f4 f5
  revert HZ HCH
  generalize ((((((W).setCell ⟨w.heap.size + 1, 0, none⟩ (.slice r l cr)).setCell ⟨w.heap.size + 1, 1, none⟩ (.int .i64 n)).setCell ⟨w.heap.size + 1, 2, none⟩ (.int .i64 q)).setCell ⟨w.heap.size + 1, 3, none⟩ (.slice a m c)).setCell ⟨w.heap.size + 1, 4, none⟩ (.int .i64 wv)).setCell ⟨w.heap.size + 1, 5, none⟩ (.int .i64 dn) = WZ
  intro HZ HCH
  have r0 := HZ.out.2.1.cell (i := 0) rfl
  have r1 := HZ.out.2.1.cell (i := 1) rfl
  have r2 := HZ.out.2.1.cell (i := 2) rfl
  have r3 := HZ.out.2.1.cell (i := 3) rfl
  have r4 := HZ.out.2.1.cell (i := 4) rfl
  have r5 := HZ.out.2.1.cell (i := 5) rfl
  refine bodyPost_ret (v := .tuple #[.agg #[.slice r l cr, .int .i64 n, .int .i64 q, .slice a m c, .int .i64 wv, .int .i64 dn], .bool false]) (by simp [results, Try.results13, go_sem, r0, r1, r2, r3, r4, r5]) rfl ?_
  exact ⟨_, rfl, r, cr, a, c, by rw [HL.out, HM.out], HR.out.fresh HZ.out.2.2, HA.out.fresh HZ.out.2.2, HLM.out.2.2, HZ.out.2.2⟩
set_option maxRecDepth 20000 in
set_option maxHeartbeats 4000000 in
theorem tr_wake_no (lo n : Nat) (q : Int) (r : Option Addr) (L : List Nat) (cr : Nat) (a : Option Addr) (M : List (Int × Int)) (c : Nat) (wv : Int) (dn : Nat) (id : Int) (w : World) (hL : L.length ≤ 1024) (hM : M.length ≤ 1000) (hc : M.length ≤ c ∧ c ≤ 9223372036854775807) (hr : LR w lo r L cr) (ha : RL w lo a M) (hg : wv < 0 ∨ id ≠ wv) (hi : id < 0 ∨ (n : Int) ≤ id ∨ isIn L id = true) :
    Calls Try.prog 9 #[.agg #[.slice r L.length cr, .int .i64 n, .int .i64 q, .slice a M.length c, .int .i64 wv, .int .i64 dn], .int .i64 id] w fun e w' => ∃ v, e = .returned (.tuple #[v, .bool false]) ∧ TPost w lo n q L M wv dn v w' := by
  have HI := Lib.hid hi
  clear hi
  obtain ⟨l, hl⟩ : ∃ l, L.length = l := ⟨_, rfl⟩
  have HL := Lib.hid hl
  obtain ⟨m, hm⟩ : ∃ m, M.length = m := ⟨_, rfl⟩
  have HM := Lib.hid hm
  have HR := Lib.hid hr
  have HA := Lib.hid ha
  have HLM : Hid (L.length ≤ 1024 ∧ M.length ≤ 1000 ∧ (M.length ≤ c ∧ c ≤ 9223372036854775807)) := Lib.hid ⟨hL, hM, hc⟩
  rw [hl] at hL ⊢
  rw [hm] at hM hc ⊢
  clear hl hm hr ha
  have HB := Lib.hid (TB.start w #[.slice r l cr, .int .i64 n, .int .i64 q, .slice a m c, .int .i64 wv, .int .i64 dn] #[.slice none 0 0, .int .i64 0, .int .i64 0, .slice none 0 0, .int .i64 0, .int .i64 0])
  go_enter Try.func9, Try.ntmps9
  go_upto_region 1 with fail
  revert HB
  generalize (w.alloc (Obj.cells #[.slice r l cr, .int .i64 n, .int .i64 q, .slice a m c, .int .i64 wv, .int .i64 dn] 32)).alloc (Obj.cells #[.slice none 0 0, .int .i64 0, .int .i64 0, .slice none 0 0, .int .i64 0, .int .i64 0] 32) = W
  intro HB
  rcases hg with hg | hg
  · have g1 : ¬ 0 ≤ wv := by omega
    clear hg
    have b0 := HB.out.1.cell (i := 0) rfl
    have b1 := HB.out.1.cell (i := 1) rfl
    have b4 := HB.out.1.cell (i := 4) rfl
    have fb := HB.out.1.free 0
    go_upto_region 5 with (go_at_call 30; rw [← HL.out]; refine (push_r_no lo r L cr n id _ (by have := HL.out; omega) (HR.out.fresh HB.out.2.2) HI.out).mono ?_; rintro e w2 ⟨rfl, rfl⟩; rw [HL.out])
    clear b0 b1 b4 fb
    have HB5 := Lib.hid (HB.out.setB 0 (.slice r l cr))
    revert HB5
    generalize W.setCell ⟨w.heap.size, 0, none⟩ (.slice r l cr) = W5
    intro HB5
    have q0 := HB5.out.1.cell (i := 0) rfl
    have q1 := HB5.out.1.cell (i := 1) rfl
    have q2 := HB5.out.1.cell (i := 2) rfl
    have q3 := HB5.out.1.cell (i := 3) rfl
    have q4 := HB5.out.1.cell (i := 4) rfl
    have q5 := HB5.out.1.cell (i := 5) rfl
    have r0 := HB5.out.2.1.cell (i := 0) rfl
    have r1 := HB5.out.2.1.cell (i := 1) rfl
    have r2 := HB5.out.2.1.cell (i := 2) rfl
    have r3 := HB5.out.2.1.cell (i := 3) rfl
    have r4 := HB5.out.2.1.cell (i := 4) rfl
    have r5 := HB5.out.2.1.cell (i := 5) rfl
    have f0 := HB5.out.2.1.free 0
    have f1 := HB5.out.2.1.free 1
    have f2 := HB5.out.2.1.free 2
    have f3 := HB5.out.2.1.free 3
    have f4 := HB5.out.2.1.free 4
    have f5 := HB5.out.2.1.free 5
    go_wp2_with fail
    have HZ := Lib.hid (TB.setR (a := .slice r l cr) (b := .int .i64 n) (c := .int .i64 q) (d := .slice a m c) (e := .int .i64 wv) (f := .int .i64 dn) HB5.out)
    have HCH := Lib.hid (chg6 (w0 := w) (w := W5) (a := .slice r l cr) (b := .int .i64 n) (c := .int .i64 q) (d := .slice a m c) (e := .int .i64 wv) (f := .int .i64 dn))
    clear q0 q1 q2 q3 q4 q5 r0 r1 r2 r3 r4 r5 f0 f1 f2 f3 f4 f5
    revert HZ HCH
    generalize ((((((W5).setCell ⟨w.heap.size + 1, 0, none⟩ (.slice r l cr)).setCell ⟨w.heap.size + 1, 1, none⟩ (.int .i64 n)).setCell ⟨w.heap.size + 1, 2, none⟩ (.int .i64 q)).setCell ⟨w.heap.size + 1, 3, none⟩ (.slice a m c)).setCell ⟨w.heap.size + 1, 4, none⟩ (.int .i64 wv)).setCell ⟨w.heap.size + 1, 5, none⟩ (.int .i64 dn) = WZ
    intro HZ HCH
    have r0 := HZ.out.2.1.cell (i := 0) rfl
    have r1 := HZ.out.2.1.cell (i := 1) rfl
    have r2 := HZ.out.2.1.cell (i := 2) rfl
    have r3 := HZ.out.2.1.cell (i := 3) rfl
    have r4 := HZ.out.2.1.cell (i := 4) rfl
    have r5 := HZ.out.2.1.cell (i := 5) rfl
    refine bodyPost_ret (v := .tuple #[.agg #[.slice r l cr, .int .i64 n, .int .i64 q, .slice a m c, .int .i64 wv, .int .i64 dn], .bool false]) (by simp [results, Try.results9, go_sem, r0, r1, r2, r3, r4, r5]) rfl ?_
    exact ⟨_, rfl, r, cr, a, c, by rw [HL.out, HM.out], HR.out.fresh HZ.out.2.2, HA.out.fresh HZ.out.2.2, HLM.out.2.2, HZ.out.2.2⟩
  · have g2 : (id == wv) = false := by simpa using hg
    clear hg
    by_cases h0 : 0 ≤ wv
    · have b0 := HB.out.1.cell (i := 0) rfl
      have b1 := HB.out.1.cell (i := 1) rfl
      have b4 := HB.out.1.cell (i := 4) rfl
      have fb := HB.out.1.free 0
      go_upto_region 5 with (go_at_call 30; rw [← HL.out]; refine (push_r_no lo r L cr n id _ (by have := HL.out; omega) (HR.out.fresh HB.out.2.2) HI.out).mono ?_; rintro e w2 ⟨rfl, rfl⟩; rw [HL.out])
      clear b0 b1 b4 fb
      have HB5 := Lib.hid (HB.out.setB 0 (.slice r l cr))
      revert HB5
      generalize W.setCell ⟨w.heap.size, 0, none⟩ (.slice r l cr) = W5
      intro HB5
      have q0 := HB5.out.1.cell (i := 0) rfl
      have q1 := HB5.out.1.cell (i := 1) rfl
      have q2 := HB5.out.1.cell (i := 2) rfl
      have q3 := HB5.out.1.cell (i := 3) rfl
      have q4 := HB5.out.1.cell (i := 4) rfl
      have q5 := HB5.out.1.cell (i := 5) rfl
      have r0 := HB5.out.2.1.cell (i := 0) rfl
      have r1 := HB5.out.2.1.cell (i := 1) rfl
      have r2 := HB5.out.2.1.cell (i := 2) rfl
      have r3 := HB5.out.2.1.cell (i := 3) rfl
      have r4 := HB5.out.2.1.cell (i := 4) rfl
      have r5 := HB5.out.2.1.cell (i := 5) rfl
      have f0 := HB5.out.2.1.free 0
      have f1 := HB5.out.2.1.free 1
      have f2 := HB5.out.2.1.free 2
      have f3 := HB5.out.2.1.free 3
      have f4 := HB5.out.2.1.free 4
      have f5 := HB5.out.2.1.free 5
      go_wp2_with fail
      have HZ := Lib.hid (TB.setR (a := .slice r l cr) (b := .int .i64 n) (c := .int .i64 q) (d := .slice a m c) (e := .int .i64 wv) (f := .int .i64 dn) HB5.out)
      have HCH := Lib.hid (chg6 (w0 := w) (w := W5) (a := .slice r l cr) (b := .int .i64 n) (c := .int .i64 q) (d := .slice a m c) (e := .int .i64 wv) (f := .int .i64 dn))
      clear q0 q1 q2 q3 q4 q5 r0 r1 r2 r3 r4 r5 f0 f1 f2 f3 f4 f5
      revert HZ HCH
      generalize ((((((W5).setCell ⟨w.heap.size + 1, 0, none⟩ (.slice r l cr)).setCell ⟨w.heap.size + 1, 1, none⟩ (.int .i64 n)).setCell ⟨w.heap.size + 1, 2, none⟩ (.int .i64 q)).setCell ⟨w.heap.size + 1, 3, none⟩ (.slice a m c)).setCell ⟨w.heap.size + 1, 4, none⟩ (.int .i64 wv)).setCell ⟨w.heap.size + 1, 5, none⟩ (.int .i64 dn) = WZ
      intro HZ HCH
      have r0 := HZ.out.2.1.cell (i := 0) rfl
      have r1 := HZ.out.2.1.cell (i := 1) rfl
      have r2 := HZ.out.2.1.cell (i := 2) rfl
      have r3 := HZ.out.2.1.cell (i := 3) rfl
      have r4 := HZ.out.2.1.cell (i := 4) rfl
      have r5 := HZ.out.2.1.cell (i := 5) rfl
      refine bodyPost_ret (v := .tuple #[.agg #[.slice r l cr, .int .i64 n, .int .i64 q, .slice a m c, .int .i64 wv, .int .i64 dn], .bool false]) (by simp [results, Try.results9, go_sem, r0, r1, r2, r3, r4, r5]) rfl ?_
      exact ⟨_, rfl, r, cr, a, c, by rw [HL.out, HM.out], HR.out.fresh HZ.out.2.2, HA.out.fresh HZ.out.2.2, HLM.out.2.2, HZ.out.2.2⟩
    · have b0 := HB.out.1.cell (i := 0) rfl
      have b1 := HB.out.1.cell (i := 1) rfl
      have b4 := HB.out.1.cell (i := 4) rfl
      have fb := HB.out.1.free 0
      go_upto_region 5 with (go_at_call 30; rw [← HL.out]; refine (push_r_no lo r L cr n id _ (by have := HL.out; omega) (HR.out.fresh HB.out.2.2) HI.out).mono ?_; rintro e w2 ⟨rfl, rfl⟩; rw [HL.out])
      clear b0 b1 b4 fb
      have HB5 := Lib.hid (HB.out.setB 0 (.slice r l cr))
      revert HB5
      generalize W.setCell ⟨w.heap.size, 0, none⟩ (.slice r l cr) = W5
      intro HB5
      have q0 := HB5.out.1.cell (i := 0) rfl
      have q1 := HB5.out.1.cell (i := 1) rfl
      have q2 := HB5.out.1.cell (i := 2) rfl
      have q3 := HB5.out.1.cell (i := 3) rfl
      have q4 := HB5.out.1.cell (i := 4) rfl
      have q5 := HB5.out.1.cell (i := 5) rfl
      have r0 := HB5.out.2.1.cell (i := 0) rfl
      have r1 := HB5.out.2.1.cell (i := 1) rfl
      have r2 := HB5.out.2.1.cell (i := 2) rfl
      have r3 := HB5.out.2.1.cell (i := 3) rfl
      have r4 := HB5.out.2.1.cell (i := 4) rfl
      have r5 := HB5.out.2.1.cell (i := 5) rfl
      have f0 := HB5.out.2.1.free 0
      have f1 := HB5.out.2.1.free 1
      have f2 := HB5.out.2.1.free 2
      have f3 := HB5.out.2.1.free 3
      have f4 := HB5.out.2.1.free 4
      have f5 := HB5.out.2.1.free 5
      go_wp2_with fail
      have HZ := Lib.hid (TB.setR (a := .slice r l cr) (b := .int .i64 n) (c := .int .i64 q) (d := .slice a m c) (e := .int .i64 wv) (f := .int .i64 dn) HB5.out)
      have HCH := Lib.hid (chg6 (w0 := w) (w := W5) (a := .slice r l cr) (b := .int .i64 n) (c := .int .i64 q) (d := .slice a m c) (e := .int .i64 wv) (f := .int .i64 dn))
      clear q0 q1 q2 q3 q4 q5 r0 r1 r2 r3 r4 r5 f0 f1 f2 f3 f4 f5
      revert HZ HCH
      generalize ((((((W5).setCell ⟨w.heap.size + 1, 0, none⟩ (.slice r l cr)).setCell ⟨w.heap.size + 1, 1, none⟩ (.int .i64 n)).setCell ⟨w.heap.size + 1, 2, none⟩ (.int .i64 q)).setCell ⟨w.heap.size + 1, 3, none⟩ (.slice a m c)).setCell ⟨w.heap.size + 1, 4, none⟩ (.int .i64 wv)).setCell ⟨w.heap.size + 1, 5, none⟩ (.int .i64 dn) = WZ
      intro HZ HCH
      have r0 := HZ.out.2.1.cell (i := 0) rfl
      have r1 := HZ.out.2.1.cell (i := 1) rfl
      have r2 := HZ.out.2.1.cell (i := 2) rfl
      have r3 := HZ.out.2.1.cell (i := 3) rfl
      have r4 := HZ.out.2.1.cell (i := 4) rfl
      have r5 := HZ.out.2.1.cell (i := 5) rfl
      refine bodyPost_ret (v := .tuple #[.agg #[.slice r l cr, .int .i64 n, .int .i64 q, .slice a m c, .int .i64 wv, .int .i64 dn], .bool false]) (by simp [results, Try.results9, go_sem, r0, r1, r2, r3, r4, r5]) rfl ?_
      exact ⟨_, rfl, r, cr, a, c, by rw [HL.out, HM.out], HR.out.fresh HZ.out.2.2, HA.out.fresh HZ.out.2.2, HLM.out.2.2, HZ.out.2.2⟩
set_option maxRecDepth 20000 in
set_option maxHeartbeats 4000000 in
theorem tr_wake_yes (lo n : Nat) (q : Int) (r : Option Addr) (L : List Nat) (cr : Nat) (a : Option Addr) (M : List (Int × Int)) (c : Nat) (wv : Int) (dn : Nat) (x : Nat) (w : World) (hL : L.length ≤ 1024) (hM : M.length ≤ 1000) (hc : M.length ≤ c ∧ c ≤ 9223372036854775807) (hr : LR w lo r L cr) (ha : RL w lo a M) (hg : wv < 0 ∨ (x : Int) ≠ wv) (hxn : x < n) (hx : ¬ x ∈ L) :
    Calls Try.prog 9 #[.agg #[.slice r L.length cr, .int .i64 n, .int .i64 q, .slice a M.length c, .int .i64 wv, .int .i64 dn], .int .i64 x] w fun e w' => ∃ v, e = .returned (.tuple #[v, .bool true]) ∧ TPost w lo n q (L ++ [x]) M wv dn v w' := by
  have HX := Lib.hid hx
  clear hx
  obtain ⟨l, hl⟩ : ∃ l, L.length = l := ⟨_, rfl⟩
  have HL := Lib.hid hl
  obtain ⟨m, hm⟩ : ∃ m, M.length = m := ⟨_, rfl⟩
  have HM := Lib.hid hm
  have HR := Lib.hid hr
  have HA := Lib.hid ha
  have HLM : Hid (L.length ≤ 1024 ∧ M.length ≤ 1000 ∧ (M.length ≤ c ∧ c ≤ 9223372036854775807)) := Lib.hid ⟨hL, hM, hc⟩
  rw [hl] at hL ⊢
  rw [hm] at hM hc ⊢
  clear hl hm hr ha
  have HB := Lib.hid (TB.start w #[.slice r l cr, .int .i64 n, .int .i64 q, .slice a m c, .int .i64 wv, .int .i64 dn] #[.slice none 0 0, .int .i64 0, .int .i64 0, .slice none 0 0, .int .i64 0, .int .i64 0])
  go_enter Try.func9, Try.ntmps9
  go_upto_region 1 with fail
  revert HB
  generalize (w.alloc (Obj.cells #[.slice r l cr, .int .i64 n, .int .i64 q, .slice a m c, .int .i64 wv, .int .i64 dn] 32)).alloc (Obj.cells #[.slice none 0 0, .int .i64 0, .int .i64 0, .slice none 0 0, .int .i64 0, .int .i64 0] 32) = W
  intro HB
  rcases hg with hg | hg
  · have g1 : ¬ 0 ≤ wv := by omega
    clear hg
    have b0 := HB.out.1.cell (i := 0) rfl
    have b1 := HB.out.1.cell (i := 1) rfl
    have b4 := HB.out.1.cell (i := 4) rfl
    have fb := HB.out.1.free 0
    go_upto_region 5 with (go_at_call 30; rw [← HL.out]; refine (push_r_yes lo r L cr n x _ (by have := HL.out; omega) (HR.out.fresh HB.out.2.2) hxn HX.out).mono ?_; rintro e w2 ⟨g2, c2, rfl, k1, k2⟩; rw [HL.out]; have HB2 := Lib.hid (HB.out.on k2); have HN := Lib.hid k1; have hsz := HB.out.size; clear k1 k2; have e0 := HB2.out.1.cell (i := 0) rfl; have fe := HB2.out.1.free 0)
    have HE5 : Hid (w2.setCell ⟨w.heap.size, 0, none⟩ (.slice (some ⟨g2, 0, none⟩) (l + 1) c2) = w2.setCell ⟨w.heap.size, 0, none⟩ (.slice (some ⟨g2, 0, none⟩) (l + 1) c2)) := Lib.hid rfl
    clear b0 b1 b4 fb e0 fe
    have HB5 := Lib.hid (HB2.out.setB 0 (.slice (some ⟨g2, 0, none⟩) (l + 1) c2))
    have HN5 := Lib.hid (HN.out.chg ((Chg.refl [w.heap.size] w2).set (b := w.heap.size) (Or.inl (by simp)) 0 (.slice (some ⟨g2, 0, none⟩) (l + 1) c2)) (by simp; omega))
    clear HE5
    revert HB5 HN5
    generalize w2.setCell ⟨w.heap.size, 0, none⟩ (.slice (some ⟨g2, 0, none⟩) (l + 1) c2) = W5
    intro HB5 HN5
    have q0 := HB5.out.1.cell (i := 0) rfl
    have q1 := HB5.out.1.cell (i := 1) rfl
    have q2 := HB5.out.1.cell (i := 2) rfl
    have q3 := HB5.out.1.cell (i := 3) rfl
    have q4 := HB5.out.1.cell (i := 4) rfl
    have q5 := HB5.out.1.cell (i := 5) rfl
    have r0 := HB5.out.2.1.cell (i := 0) rfl
    have r1 := HB5.out.2.1.cell (i := 1) rfl
    have r2 := HB5.out.2.1.cell (i := 2) rfl
    have r3 := HB5.out.2.1.cell (i := 3) rfl
    have r4 := HB5.out.2.1.cell (i := 4) rfl
    have r5 := HB5.out.2.1.cell (i := 5) rfl
    have f0 := HB5.out.2.1.free 0
    have f1 := HB5.out.2.1.free 1
    have f2 := HB5.out.2.1.free 2
    have f3 := HB5.out.2.1.free 3
    have f4 := HB5.out.2.1.free 4
    have f5 := HB5.out.2.1.free 5
    go_wp2_with fail
    have HZ := Lib.hid (TB.setR (a := .slice (some ⟨g2, 0, none⟩) (l + 1) c2) (b := .int .i64 n) (c := .int .i64 q) (d := .slice a m c) (e := .int .i64 wv) (f := .int .i64 dn) HB5.out)
    have HCH := Lib.hid (chg6 (w0 := w) (w := W5) (a := .slice (some ⟨g2, 0, none⟩) (l + 1) c2) (b := .int .i64 n) (c := .int .i64 q) (d := .slice a m c) (e := .int .i64 wv) (f := .int .i64 dn))
    clear q0 q1 q2 q3 q4 q5 r0 r1 r2 r3 r4 r5 f0 f1 f2 f3 f4 f5
    revert HZ HCH
    generalize ((((((W5).setCell ⟨w.heap.size + 1, 0, none⟩ (.slice (some ⟨g2, 0, none⟩) (l + 1) c2)).setCell ⟨w.heap.size + 1, 1, none⟩ (.int .i64 n)).setCell ⟨w.heap.size + 1, 2, none⟩ (.int .i64 q)).setCell ⟨w.heap.size + 1, 3, none⟩ (.slice a m c)).setCell ⟨w.heap.size + 1, 4, none⟩ (.int .i64 wv)).setCell ⟨w.heap.size + 1, 5, none⟩ (.int .i64 dn) = WZ
    intro HZ HCH
    have r0 := HZ.out.2.1.cell (i := 0) rfl
    have r1 := HZ.out.2.1.cell (i := 1) rfl
    have r2 := HZ.out.2.1.cell (i := 2) rfl
    have r3 := HZ.out.2.1.cell (i := 3) rfl
    have r4 := HZ.out.2.1.cell (i := 4) rfl
    have r5 := HZ.out.2.1.cell (i := 5) rfl
    refine bodyPost_ret (v := .tuple #[.agg #[.slice (some ⟨g2, 0, none⟩) (l + 1) c2, .int .i64 n, .int .i64 q, .slice a m c, .int .i64 wv, .int .i64 dn], .bool true]) (by simp [results, Try.results9, go_sem, r0, r1, r2, r3, r4, r5]) rfl ?_
    have hb := HZ.out.2.2
    refine ⟨_, rfl, _, _, a, c, by rw [List.length_append, HL.out, HM.out]; rfl, ?_, HA.out.fresh hb, HLM.out.2.2, hb⟩
    exact (HN5.out.chg HCH.out (by simp; omega)).down (by have := HR.out.1; omega)
  · have g2 : ((x : Int) == wv) = false := by simpa using hg
    clear hg
    by_cases h0 : 0 ≤ wv
    · have b0 := HB.out.1.cell (i := 0) rfl
      have b1 := HB.out.1.cell (i := 1) rfl
      have b4 := HB.out.1.cell (i := 4) rfl
      have fb := HB.out.1.free 0
      go_upto_region 5 with (go_at_call 30; rw [← HL.out]; refine (push_r_yes lo r L cr n x _ (by have := HL.out; omega) (HR.out.fresh HB.out.2.2) hxn HX.out).mono ?_; rintro e w2 ⟨g2, c2, rfl, k1, k2⟩; rw [HL.out]; have HB2 := Lib.hid (HB.out.on k2); have HN := Lib.hid k1; have hsz := HB.out.size; clear k1 k2; have e0 := HB2.out.1.cell (i := 0) rfl; have fe := HB2.out.1.free 0)
      have HE5 : Hid (w2.setCell ⟨w.heap.size, 0, none⟩ (.slice (some ⟨g2, 0, none⟩) (l + 1) c2) = w2.setCell ⟨w.heap.size, 0, none⟩ (.slice (some ⟨g2, 0, none⟩) (l + 1) c2)) := Lib.hid rfl
      clear b0 b1 b4 fb e0 fe
      have HB5 := Lib.hid (HB2.out.setB 0 (.slice (some ⟨g2, 0, none⟩) (l + 1) c2))
      have HN5 := Lib.hid (HN.out.chg ((Chg.refl [w.heap.size] w2).set (b := w.heap.size) (Or.inl (by simp)) 0 (.slice (some ⟨g2, 0, none⟩) (l + 1) c2)) (by simp; omega))
      clear HE5
      revert HB5 HN5
      generalize w2.setCell ⟨w.heap.size, 0, none⟩ (.slice (some ⟨g2, 0, none⟩) (l + 1) c2) = W5
      intro HB5 HN5
      have q0 := HB5.out.1.cell (i := 0) rfl
      have q1 := HB5.out.1.cell (i := 1) rfl
      have q2 := HB5.out.1.cell (i := 2) rfl
      have q3 := HB5.out.1.cell (i := 3) rfl
      have q4 := HB5.out.1.cell (i := 4) rfl
      have q5 := HB5.out.1.cell (i := 5) rfl
      have r0 := HB5.out.2.1.cell (i := 0) rfl
      have r1 := HB5.out.2.1.cell (i := 1) rfl
      have r2 := HB5.out.2.1.cell (i := 2) rfl
      have r3 := HB5.out.2.1.cell (i := 3) rfl
      have r4 := HB5.out.2.1.cell (i := 4) rfl
      have r5 := HB5.out.2.1.cell (i := 5) rfl
      have f0 := HB5.out.2.1.free 0
      have f1 := HB5.out.2.1.free 1
      have f2 := HB5.out.2.1.free 2
      have f3 := HB5.out.2.1.free 3
      have f4 := HB5.out.2.1.free 4
      have f5 := HB5.out.2.1.free 5
      go_wp2_with fail
      have HZ := Lib.hid (TB.setR (a := .slice (some ⟨g2, 0, none⟩) (l + 1) c2) (b := .int .i64 n) (c := .int .i64 q) (d := .slice a m c) (e := .int .i64 wv) (f := .int .i64 dn) HB5.out)
      have HCH := Lib.hid (chg6 (w0 := w) (w := W5) (a := .slice (some ⟨g2, 0, none⟩) (l + 1) c2) (b := .int .i64 n) (c := .int .i64 q) (d := .slice a m c) (e := .int .i64 wv) (f := .int .i64 dn))
      clear q0 q1 q2 q3 q4 q5 r0 r1 r2 r3 r4 r5 f0 f1 f2 f3 f4 f5
      revert HZ HCH
      generalize ((((((W5).setCell ⟨w.heap.size + 1, 0, none⟩ (.slice (some ⟨g2, 0, none⟩) (l + 1) c2)).setCell ⟨w.heap.size + 1, 1, none⟩ (.int .i64 n)).setCell ⟨w.heap.size + 1, 2, none⟩ (.int .i64 q)).setCell ⟨w.heap.size + 1, 3, none⟩ (.slice a m c)).setCell ⟨w.heap.size + 1, 4, none⟩ (.int .i64 wv)).setCell ⟨w.heap.size + 1, 5, none⟩ (.int .i64 dn) = WZ
      intro HZ HCH
      have r0 := HZ.out.2.1.cell (i := 0) rfl
      have r1 := HZ.out.2.1.cell (i := 1) rfl
      have r2 := HZ.out.2.1.cell (i := 2) rfl
      have r3 := HZ.out.2.1.cell (i := 3) rfl
      have r4 := HZ.out.2.1.cell (i := 4) rfl
      have r5 := HZ.out.2.1.cell (i := 5) rfl
      refine bodyPost_ret (v := .tuple #[.agg #[.slice (some ⟨g2, 0, none⟩) (l + 1) c2, .int .i64 n, .int .i64 q, .slice a m c, .int .i64 wv, .int .i64 dn], .bool true]) (by simp [results, Try.results9, go_sem, r0, r1, r2, r3, r4, r5]) rfl ?_
      have hb := HZ.out.2.2
      refine ⟨_, rfl, _, _, a, c, by rw [List.length_append, HL.out, HM.out]; rfl, ?_, HA.out.fresh hb, HLM.out.2.2, hb⟩
      exact (HN5.out.chg HCH.out (by simp; omega)).down (by have := HR.out.1; omega)
    · have b0 := HB.out.1.cell (i := 0) rfl
      have b1 := HB.out.1.cell (i := 1) rfl
      have b4 := HB.out.1.cell (i := 4) rfl
      have fb := HB.out.1.free 0
      go_upto_region 5 with (go_at_call 30; rw [← HL.out]; refine (push_r_yes lo r L cr n x _ (by have := HL.out; omega) (HR.out.fresh HB.out.2.2) hxn HX.out).mono ?_; rintro e w2 ⟨g2, c2, rfl, k1, k2⟩; rw [HL.out]; have HB2 := Lib.hid (HB.out.on k2); have HN := Lib.hid k1; have hsz := HB.out.size; clear k1 k2; have e0 := HB2.out.1.cell (i := 0) rfl; have fe := HB2.out.1.free 0)
      have HE5 : Hid (w2.setCell ⟨w.heap.size, 0, none⟩ (.slice (some ⟨g2, 0, none⟩) (l + 1) c2) = w2.setCell ⟨w.heap.size, 0, none⟩ (.slice (some ⟨g2, 0, none⟩) (l + 1) c2)) := Lib.hid rfl
      clear b0 b1 b4 fb e0 fe
      have HB5 := Lib.hid (HB2.out.setB 0 (.slice (some ⟨g2, 0, none⟩) (l + 1) c2))
      have HN5 := Lib.hid (HN.out.chg ((Chg.refl [w.heap.size] w2).set (b := w.heap.size) (Or.inl (by simp)) 0 (.slice (some ⟨g2, 0, none⟩) (l + 1) c2)) (by simp; omega))
      clear HE5
      revert HB5 HN5
      generalize w2.setCell ⟨w.heap.size, 0, none⟩ (.slice (some ⟨g2, 0, none⟩) (l + 1) c2) = W5
      intro HB5 HN5
      have q0 := HB5.out.1.cell (i := 0) rfl
      have q1 := HB5.out.1.cell (i := 1) rfl
      have q2 := HB5.out.1.cell (i := 2) rfl
      have q3 := HB5.out.1.cell (i := 3) rfl
      have q4 := HB5.out.1.cell (i := 4) rfl
      have q5 := HB5.out.1.cell (i := 5) rfl
      have r0 := HB5.out.2.1.cell (i := 0) rfl
      have r1 := HB5.out.2.1.cell (i := 1) rfl
      have r2 := HB5.out.2.1.cell (i := 2) rfl
      have r3 := HB5.out.2.1.cell (i := 3) rfl
      have r4 := HB5.out.2.1.cell (i := 4) rfl
      have r5 := HB5.out.2.1.cell (i := 5) rfl
      have f0 := HB5.out.2.1.free 0
      have f1 := HB5.out.2.1.free 1
      have f2 := HB5.out.2.1.free 2
      have f3 := HB5.out.2.1.free 3
      have f4 := HB5.out.2.1.free 4
      have f5 := HB5.out.2.1.free 5
      go_wp2_with fail
      have HZ := Lib.hid (TB.setR (a := .slice (some ⟨g2, 0, none⟩) (l + 1) c2) (b := .int .i64 n) (c := .int .i64 q) (d := .slice a m c) (e := .int .i64 wv) (f := .int .i64 dn) HB5.out)
      have HCH := Lib.hid (chg6 (w0 := w) (w := W5) (a := .slice (some ⟨g2, 0, none⟩) (l + 1) c2) (b := .int .i64 n) (c := .int .i64 q) (d := .slice a m c) (e := .int .i64 wv) (f := .int .i64 dn))
      clear q0 q1 q2 q3 q4 q5 r0 r1 r2 r3 r4 r5 f0 f1 f2 f3 f4 f5
      revert HZ HCH
      generalize ((((((W5).setCell ⟨w.heap.size + 1, 0, none⟩ (.slice (some ⟨g2, 0, none⟩) (l + 1) c2)).setCell ⟨w.heap.size + 1, 1, none⟩ (.int .i64 n)).setCell ⟨w.heap.size + 1, 2, none⟩ (.int .i64 q)).setCell ⟨w.heap.size + 1, 3, none⟩ (.slice a m c)).setCell ⟨w.heap.size + 1, 4, none⟩ (.int .i64 wv)).setCell ⟨w.heap.size + 1, 5, none⟩ (.int .i64 dn) = WZ
      intro HZ HCH
      have r0 := HZ.out.2.1.cell (i := 0) rfl
      have r1 := HZ.out.2.1.cell (i := 1) rfl
      have r2 := HZ.out.2.1.cell (i := 2) rfl
      have r3 := HZ.out.2.1.cell (i := 3) rfl
      have r4 := HZ.out.2.1.cell (i := 4) rfl
      have r5 := HZ.out.2.1.cell (i := 5) rfl
      refine bodyPost_ret (v := .tuple #[.agg #[.slice (some ⟨g2, 0, none⟩) (l + 1) c2, .int .i64 n, .int .i64 q, .slice a m c, .int .i64 wv, .int .i64 dn], .bool true]) (by simp [results, Try.results9, go_sem, r0, r1, r2, r3, r4, r5]) rfl ?_
      have hb := HZ.out.2.2
      refine ⟨_, rfl, _, _, a, c, by rw [List.length_append, HL.out, HM.out]; rfl, ?_, HA.out.fresh hb, HLM.out.2.2, hb⟩
      exact (HN5.out.chg HCH.out (by simp; omega)).down (by have := HR.out.1; omega)
set_option maxRecDepth 20000 in
set_option maxHeartbeats 4000000 in
theorem tr_end_again (lo n : Nat) (q : Int) (r : Option Addr) (L : List Nat) (cr : Nat) (a : Option Addr) (M : List (Int × Int)) (c : Nat) (who : Nat) (dn : Nat)  (w : World) (hL : L.length ≤ 1024) (hM : M.length ≤ 1000) (hc : M.length ≤ c ∧ c ≤ 9223372036854775807) (hr : LR w lo r L cr) (ha : RL w lo a M) (hxn : who < n) (hx : ¬ who ∈ L) :
    Calls Try.prog 15 #[.agg #[.slice r L.length cr, .int .i64 n, .int .i64 q, .slice a M.length c, .int .i64 who, .int .i64 dn], .bool true] w fun e w' => ∃ v, e = .returned (.tuple #[v, .bool true]) ∧ TPost w lo n q (L ++ [who]) M (-1) dn v w' := by
  have HX := Lib.hid hx
  clear hx
  obtain ⟨l, hl⟩ : ∃ l, L.length = l := ⟨_, rfl⟩
  have HL := Lib.hid hl
  obtain ⟨m, hm⟩ : ∃ m, M.length = m := ⟨_, rfl⟩
  have HM := Lib.hid hm
  have HR := Lib.hid hr
  have HA := Lib.hid ha
  have HLM : Hid (L.length ≤ 1024 ∧ M.length ≤ 1000 ∧ (M.length ≤ c ∧ c ≤ 9223372036854775807)) := Lib.hid ⟨hL, hM, hc⟩
  rw [hl] at hL ⊢
  rw [hm] at hM hc ⊢
  clear hl hm hr ha
  have HB := Lib.hid (TB.start w #[.slice r l cr, .int .i64 n, .int .i64 q, .slice a m c, .int .i64 who, .int .i64 dn] #[.slice none 0 0, .int .i64 0, .int .i64 0, .slice none 0 0, .int .i64 0, .int .i64 0])
  go_enter Try.func15, Try.ntmps15
  go_upto_region 1 with fail
  revert HB
  generalize (w.alloc (Obj.cells #[.slice r l cr, .int .i64 n, .int .i64 q, .slice a m c, .int .i64 who, .int .i64 dn] 32)).alloc (Obj.cells #[.slice none 0 0, .int .i64 0, .int .i64 0, .slice none 0 0, .int .i64 0, .int .i64 0] 32) = W
  intro HB
  have b0 := HB.out.1.cell (i := 0) rfl
  have b1 := HB.out.1.cell (i := 1) rfl
  have b4 := HB.out.1.cell (i := 4) rfl
  have g1 : (0 : Int) ≤ (who : Int) := by omega
  go_upto_region 6 with (go_at_call 30; rw [← HL.out]; refine (push_r_yes lo r L cr n who _ (by have := HL.out; omega) (HR.out.fresh HB.out.2.2) hxn HX.out).mono ?_; rintro e w2 ⟨g2, c2, rfl, k1, k2⟩; rw [HL.out]; have HB2 := Lib.hid (HB.out.on k2); have HN := Lib.hid k1; have hsz := HB.out.size; clear k1 k2; have e0 := HB2.out.1.cell (i := 0) rfl; have fe := HB2.out.1.free 0)
  clear b0 b1 b4 e0 fe
  have HB5 := Lib.hid (HB2.out.setB 0 (.slice (some ⟨g2, 0, none⟩) (l + 1) c2))
  have HN5 := Lib.hid (HN.out.chg ((Chg.refl [w.heap.size] w2).set (b := w.heap.size) (Or.inl (by simp)) 0 (.slice (some ⟨g2, 0, none⟩) (l + 1) c2)) (by simp; omega))
  revert HB5 HN5
  generalize w2.setCell ⟨w.heap.size, 0, none⟩ (.slice (some ⟨g2, 0, none⟩) (l + 1) c2) = W5
  intro HB5 HN5
  have e4 := HB5.out.1.cell (i := 4) rfl
  have fe := HB5.out.1.free 4
  go_upto_region 7 with fail
  clear e4 fe
  have HB6 := Lib.hid (HB5.out.setB 4 (.int .i64 (-1)))
  have HN6 := Lib.hid (HN5.out.chg ((Chg.refl [w.heap.size] W5).set (b := w.heap.size) (Or.inl (by simp)) 4 (.int .i64 (-1))) (by simp; omega))
  revert HB6 HN6
  generalize W5.setCell ⟨w.heap.size, 4, none⟩ (.int .i64 (-1)) = W6
  intro HB6 HN6
  have q0 := HB6.out.1.cell (i := 0) rfl
  have q1 := HB6.out.1.cell (i := 1) rfl
  have q2 := HB6.out.1.cell (i := 2) rfl
  have q3 := HB6.out.1.cell (i := 3) rfl
  have q4 := HB6.out.1.cell (i := 4) rfl
  have q5 := HB6.out.1.cell (i := 5) rfl
  have r0 := HB6.out.2.1.cell (i := 0) rfl
  have r1 := HB6.out.2.1.cell (i := 1) rfl
  have r2 := HB6.out.2.1.cell (i := 2) rfl
  have r3 := HB6.out.2.1.cell (i := 3) rfl
  have r4 := HB6.out.2.1.cell (i := 4) rfl
  have r5 := HB6.out.2.1.cell (i := 5) rfl
  have f0 := HB6.out.2.1.free 0
  have f1 := HB6.out.2.1.free 1
  have f2 := HB6.out.2.1.free 2
  have f3 := HB6.out.2.1.free 3
  have f4 := HB6.out.2.1.free 4
  have f5 := HB6.out.2.1.free 5
  go_wp2_with fail
  have HZ := Lib.hid (TB.setR (a := .slice (some ⟨g2, 0, none⟩) (l + 1) c2) (b := .int .i64 n) (c := .int .i64 q) (d := .slice a m c) (e := .int .i64 (-1)) (f := .int .i64 dn) HB6.out)
  have HCH := Lib.hid (chg6 (w0 := w) (w := W6) (a := .slice (some ⟨g2, 0, none⟩) (l + 1) c2) (b := .int .i64 n) (c := .int .i64 q) (d := .slice a m c) (e := .int .i64 (-1)) (f := .int .i64 dn))
  clear q0 q1 q2 q3 q4 q5 r0 r1 r2 r3 r4 r5 f0 f1 f2 f3 f4 f5
  revert HZ HCH
  generalize ((((((W6).setCell ⟨w.heap.size + 1, 0, none⟩ (.slice (some ⟨g2, 0, none⟩) (l + 1) c2)).setCell ⟨w.heap.size + 1, 1, none⟩ (.int .i64 n)).setCell ⟨w.heap.size + 1, 2, none⟩ (.int .i64 q)).setCell ⟨w.heap.size + 1, 3, none⟩ (.slice a m c)).setCell ⟨w.heap.size + 1, 4, none⟩ (.int .i64 (-1))).setCell ⟨w.heap.size + 1, 5, none⟩ (.int .i64 dn) = WZ
  intro HZ HCH
  have r0 := HZ.out.2.1.cell (i := 0) rfl
  have r1 := HZ.out.2.1.cell (i := 1) rfl
  have r2 := HZ.out.2.1.cell (i := 2) rfl
  have r3 := HZ.out.2.1.cell (i := 3) rfl
  have r4 := HZ.out.2.1.cell (i := 4) rfl
  have r5 := HZ.out.2.1.cell (i := 5) rfl
  refine bodyPost_ret (v := .tuple #[.agg #[.slice (some ⟨g2, 0, none⟩) (l + 1) c2, .int .i64 n, .int .i64 q, .slice a m c, .int .i64 (-1), .int .i64 dn], .bool true]) (by simp [results, Try.results15, go_sem, r0, r1, r2, r3, r4, r5]) rfl ?_
  have hb := HZ.out.2.2
  refine ⟨_, rfl, _, _, a, c, by rw [List.length_append, HL.out, HM.out]; rfl, ?_, HA.out.fresh hb, HLM.out.2.2, hb⟩
  exact (HN6.out.chg HCH.out (by simp; omega)).down (by have := HR.out.1; omega)
end Go.Proofs.Yticdpcbmnahenaa
