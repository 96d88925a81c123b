/- The document's own answer for turns, fourth part: Leave. -/
import Derived.Test.YticdpcbmnahenaaTurnsRef3
namespace Go.Proofs.Yticdpcbmnahenaa
open Go.ChangeShapes Go.WideShapes Go.ChangeAt Go.RowKit
set_option linter.unusedSimpArgs false
set_option linter.unusedVariables false

set_option maxRecDepth 20000 in
set_option maxHeartbeats 4000000 in
theorem tr_end_clear_x (lo n : Nat) (q : Int) (r : Option Addr) (L : List Nat) (cr : Nat) (a : Option Addr) (M : List (Int × Int)) (c : Nat) (who : Nat) (dn : Nat)  (w : World) (hL : L.length ≤ 1024) (hM : M.length ≤ 1000) (hc : M.length ≤ c ∧ c ≤ 9223372036854775807) (hr : LR w lo r L cr) (ha : RL w lo a M)  :
    Calls Try.prog 15 #[.agg #[.slice r L.length cr, .int .i64 n, .int .i64 q, .slice a M.length c, .int .i64 who, .int .i64 dn], .bool false] w fun e w' => ∃ g9 c9, e = .returned (.tuple #[.agg #[.slice r L.length cr, .int .i64 n, .int .i64 q, .slice (some ⟨g9, 0, none⟩) (lSet n M (who : Int) 0).length c9, .int .i64 (-1), .int .i64 dn], .bool true]) ∧ RL w' w.heap.size (some ⟨g9, 0, none⟩) (lSet n M (who : Int) 0) ∧ ((lSet n M (who : Int) 0).length ≤ c9 ∧ c9 ≤ 9223372036854775807) ∧ Below w.heap.size w w' := by
  obtain ⟨N, hN⟩ : ∃ N, lSet n M (who : Int) 0 = N := ⟨_, rfl⟩
  have HN := Lib.hid hN
  simp only [hN]
  obtain ⟨n9, hn9⟩ : ∃ n9, N.length = n9 := ⟨_, rfl⟩
  have HN9 := Lib.hid hn9
  clear hN hn9
  obtain ⟨l, hl⟩ : ∃ l, L.length = l := ⟨_, rfl⟩
  have HL := Lib.hid hl
  obtain ⟨m, hm⟩ : ∃ m, M.length = m := ⟨_, rfl⟩
  have HM := Lib.hid hm
  have HR := Lib.hid hr
  have HA := Lib.hid ha
  have HLM : Hid (L.length ≤ 1024 ∧ M.length ≤ 1000 ∧ (M.length ≤ c ∧ c ≤ 9223372036854775807)) := Lib.hid ⟨hL, hM, hc⟩
  rw [hl] at hL ⊢
  rw [hm] at hM hc ⊢
  clear hl hm hr ha
  have HB := Lib.hid (TB.start w #[.slice r l cr, .int .i64 n, .int .i64 q, .slice a m c, .int .i64 who, .int .i64 dn] #[.slice none 0 0, .int .i64 0, .int .i64 0, .slice none 0 0, .int .i64 0, .int .i64 0])
  go_enter Try.func15, Try.ntmps15
  go_upto_region 1 with fail
  revert HB
  generalize (w.alloc (Obj.cells #[.slice r l cr, .int .i64 n, .int .i64 q, .slice a m c, .int .i64 who, .int .i64 dn] 32)).alloc (Obj.cells #[.slice none 0 0, .int .i64 0, .int .i64 0, .slice none 0 0, .int .i64 0, .int .i64 0] 32) = W
  intro HB
  have b1 := HB.out.1.cell (i := 1) rfl
  have b2 := HB.out.1.cell (i := 2) rfl
  have b3 := HB.out.1.cell (i := 3) rfl
  have b4 := HB.out.1.cell (i := 4) rfl
  have g1 : (0 : Int) ≤ (who : Int) := by omega
  go_upto_region 6 with (go_at_call 37; rw [← HM.out]; refine (ref_clear n q lo a M c (who : Int) _ HLM.out.2.1 HLM.out.2.2 (HA.out.fresh HB.out.2.2)).mono ?_; rintro e w2 ⟨v, rfl, g9, c9, rfl, k1, k2, k3, k4⟩; rw [HN.out] at k1 k3 ⊢; rw [HN9.out, HM.out]; have HB2 := Lib.hid (HB.out.on k2); have HQ2 := Lib.hid k1; have HC2 := Lib.hid (And.intro k3 k4); have hsz := HB.out.size; clear k1 k2 k3 k4; have e1 := HB2.out.1.cell (i := 1) rfl; have e2 := HB2.out.1.cell (i := 2) rfl; have e3 := HB2.out.1.cell (i := 3) rfl; have fe1 := HB2.out.1.free 1; have fe2 := HB2.out.1.free 2; have fe3 := HB2.out.1.free 3)
  clear b1 b2 b3 b4
  clear e1 e2 e3 fe1 fe2 fe3
  have HB5 := Lib.hid (TB.setP (a := .int .i64 n) (b := .int .i64 q) (c := .slice (some ⟨g9, 0, none⟩) n9 c9) HB2.out)
  have HQ5 := Lib.hid (RL.setP (w0 := w) (a := .int .i64 n) (b := .int .i64 q) (c := .slice (some ⟨g9, 0, none⟩) n9 c9) HQ2.out (by omega))
  revert HB5 HQ5
  generalize (((w2).setCell ⟨w.heap.size, 1, none⟩ (.int .i64 n)).setCell ⟨w.heap.size, 2, none⟩ (.int .i64 q)).setCell ⟨w.heap.size, 3, none⟩ (.slice (some ⟨g9, 0, none⟩) n9 c9) = W5
  intro HB5 HQ5
  have e4 := HB5.out.1.cell (i := 4) rfl
  have fe := HB5.out.1.free 4
  go_upto_region 7 with fail
  clear e4 fe
  have HB6 := Lib.hid (HB5.out.setB 4 (.int .i64 (-1)))
  have HQ6 := Lib.hid (RL.setB (w0 := w) HQ5.out (by omega) 4 (.int .i64 (-1)))
  revert HB6 HQ6
  generalize W5.setCell ⟨w.heap.size, 4, none⟩ (.int .i64 (-1)) = W6
  intro HB6 HQ6
  have q0 := HB6.out.1.cell (i := 0) rfl
  have q1 := HB6.out.1.cell (i := 1) rfl
  have q2 := HB6.out.1.cell (i := 2) rfl
  have q3 := HB6.out.1.cell (i := 3) rfl
  have q4 := HB6.out.1.cell (i := 4) rfl
  have q5 := HB6.out.1.cell (i := 5) rfl
  have r0 := HB6.out.2.1.cell (i := 0) rfl
  have r1 := HB6.out.2.1.cell (i := 1) rfl
  have r2 := HB6.out.2.1.cell (i := 2) rfl
  have r3 := HB6.out.2.1.cell (i := 3) rfl
  have r4 := HB6.out.2.1.cell (i := 4) rfl
  have r5 := HB6.out.2.1.cell (i := 5) rfl
  have f0 := HB6.out.2.1.free 0
  have f1 := HB6.out.2.1.free 1
  have f2 := HB6.out.2.1.free 2
  have f3 := HB6.out.2.1.free 3
  have f4 := HB6.out.2.1.free 4
  have f5 := HB6.out.2.1.free 5
  go_wp2_with fail
  have HZ := Lib.hid (TB.setR (a := .slice r l cr) (b := .int .i64 n) (c := .int .i64 q) (d := .slice (some ⟨g9, 0, none⟩) n9 c9) (e := .int .i64 (-1)) (f := .int .i64 dn) HB6.out)
  have HCH := Lib.hid (chg6 (w0 := w) (w := W6) (a := .slice r l cr) (b := .int .i64 n) (c := .int .i64 q) (d := .slice (some ⟨g9, 0, none⟩) n9 c9) (e := .int .i64 (-1)) (f := .int .i64 dn))
  clear q0 q1 q2 q3 q4 q5 r0 r1 r2 r3 r4 r5 f0 f1 f2 f3 f4 f5
  revert HZ HCH
  generalize ((((((W6).setCell ⟨w.heap.size + 1, 0, none⟩ (.slice r l cr)).setCell ⟨w.heap.size + 1, 1, none⟩ (.int .i64 n)).setCell ⟨w.heap.size + 1, 2, none⟩ (.int .i64 q)).setCell ⟨w.heap.size + 1, 3, none⟩ (.slice (some ⟨g9, 0, none⟩) n9 c9)).setCell ⟨w.heap.size + 1, 4, none⟩ (.int .i64 (-1))).setCell ⟨w.heap.size + 1, 5, none⟩ (.int .i64 dn) = WZ
  intro HZ HCH
  have r0 := HZ.out.2.1.cell (i := 0) rfl
  have r1 := HZ.out.2.1.cell (i := 1) rfl
  have r2 := HZ.out.2.1.cell (i := 2) rfl
  have r3 := HZ.out.2.1.cell (i := 3) rfl
  have r4 := HZ.out.2.1.cell (i := 4) rfl
  have r5 := HZ.out.2.1.cell (i := 5) rfl
  refine bodyPost_ret (v := .tuple #[.agg #[.slice r l cr, .int .i64 n, .int .i64 q, .slice (some ⟨g9, 0, none⟩) n9 c9, .int .i64 (-1), .int .i64 dn], .bool true]) (by simp [results, Try.results15, go_sem, r0, r1, r2, r3, r4, r5]) rfl ?_
  have hb := HZ.out.2.2
  exact ⟨g9, c9, by rw [HN9.out], (HQ6.out.chg HCH.out (by simp; omega)).down (by omega), HC2.out, hb⟩
set_option maxRecDepth 20000 in
set_option maxHeartbeats 4000000 in
theorem tr_leave_no (lo n : Nat) (q : Int) (r : Option Addr) (L : List Nat) (cr : Nat) (a : Option Addr) (M : List (Int × Int)) (c : Nat) (wv : Int) (dn : Nat) (on : Bool) (who : Nat) (id : Int) (w : World) (hL : L.length ≤ 1024) (hM : M.length ≤ 1000) (hc : M.length ≤ c ∧ c ≤ 9223372036854775807) (hr : LR w lo r L cr) (ha : RL w lo a M) (hw : wv = if on = true then (who : Int) else -1) (htw : tW on who L id = false) :
    Calls Try.prog 17 #[.agg #[.slice r L.length cr, .int .i64 n, .int .i64 q, .slice a M.length c, .int .i64 wv, .int .i64 dn], .int .i64 id] w fun e w' => ∃ v, e = .returned (.tuple #[v, .bool false]) ∧ TPost w lo n q L M wv dn v w' := by
  have HTW := Lib.hid htw
  have HWV := Lib.hid hw
  clear htw hw
  obtain ⟨l, hl⟩ : ∃ l, L.length = l := ⟨_, rfl⟩
  have HL := Lib.hid hl
  obtain ⟨m, hm⟩ : ∃ m, M.length = m := ⟨_, rfl⟩
  have HM := Lib.hid hm
  have HR := Lib.hid hr
  have HA := Lib.hid ha
  have HLM : Hid (L.length ≤ 1024 ∧ M.length ≤ 1000 ∧ (M.length ≤ c ∧ c ≤ 9223372036854775807)) := Lib.hid ⟨hL, hM, hc⟩
  rw [hl] at hL ⊢
  rw [hm] at hM hc ⊢
  clear hl hm hr ha
  have HB := Lib.hid (TB.start w #[.slice r l cr, .int .i64 n, .int .i64 q, .slice a m c, .int .i64 wv, .int .i64 dn] #[.slice none 0 0, .int .i64 0, .int .i64 0, .slice none 0 0, .int .i64 0, .int .i64 0])
  go_enter Try.func17, Try.ntmps17
  go_upto_region 1 with fail
  revert HB
  generalize (w.alloc (Obj.cells #[.slice r l cr, .int .i64 n, .int .i64 q, .slice a m c, .int .i64 wv, .int .i64 dn] 32)).alloc (Obj.cells #[.slice none 0 0, .int .i64 0, .int .i64 0, .slice none 0 0, .int .i64 0, .int .i64 0] 32) = W
  intro HB
  have b0 := HB.out.1.cell (i := 0) rfl
  have b1 := HB.out.1.cell (i := 1) rfl
  have b2 := HB.out.1.cell (i := 2) rfl
  have b3 := HB.out.1.cell (i := 3) rfl
  have b4 := HB.out.1.cell (i := 4) rfl
  have b5 := HB.out.1.cell (i := 5) rfl
  go_upto_region 2 with (go_at_call 39; rw [← HL.out, ← HM.out]; refine (tr_waits lo n q r L cr a M c wv dn on who id _ HLM.out.1 HLM.out.2.1 HLM.out.2.2 (HR.out.fresh HB.out.2.2) (HA.out.fresh HB.out.2.2) HWV.out).mono ?_; rintro e w1 ⟨rfl, k1⟩; rw [HTW.out, HL.out, HM.out]; have HB1 := Lib.hid (HB.out.on k1); clear k1)
  clear b0 b1 b2 b3 b4 b5
  have q0 := HB1.out.1.cell (i := 0) rfl
  have q1 := HB1.out.1.cell (i := 1) rfl
  have q2 := HB1.out.1.cell (i := 2) rfl
  have q3 := HB1.out.1.cell (i := 3) rfl
  have q4 := HB1.out.1.cell (i := 4) rfl
  have q5 := HB1.out.1.cell (i := 5) rfl
  have r0 := HB1.out.2.1.cell (i := 0) rfl
  have r1 := HB1.out.2.1.cell (i := 1) rfl
  have r2 := HB1.out.2.1.cell (i := 2) rfl
  have r3 := HB1.out.2.1.cell (i := 3) rfl
  have r4 := HB1.out.2.1.cell (i := 4) rfl
  have r5 := HB1.out.2.1.cell (i := 5) rfl
  have f0 := HB1.out.2.1.free 0
  have f1 := HB1.out.2.1.free 1
  have f2 := HB1.out.2.1.free 2
  have f3 := HB1.out.2.1.free 3
  have f4 := HB1.out.2.1.free 4
  have f5 := HB1.out.2.1.free 5
  go_wp2_with fail
  have HZ := Lib.hid (TB.setR (a := .slice r l cr) (b := .int .i64 n) (c := .int .i64 q) (d := .slice a m c) (e := .int .i64 wv) (f := .int .i64 dn) HB1.out)
  have HCH := Lib.hid (chg6 (w0 := w) (w := w1) (a := .slice r l cr) (b := .int .i64 n) (c := .int .i64 q) (d := .slice a m c) (e := .int .i64 wv) (f := .int .i64 dn))
  clear q0 q1 q2 q3 q4 q5 r0 r1 r2 r3 r4 r5 f0 f1 f2 f3 f4 f5
  revert HZ HCH
  generalize ((((((w1).setCell ⟨w.heap.size + 1, 0, none⟩ (.slice r l cr)).setCell ⟨w.heap.size + 1, 1, none⟩ (.int .i64 n)).setCell ⟨w.heap.size + 1, 2, none⟩ (.int .i64 q)).setCell ⟨w.heap.size + 1, 3, none⟩ (.slice a m c)).setCell ⟨w.heap.size + 1, 4, none⟩ (.int .i64 wv)).setCell ⟨w.heap.size + 1, 5, none⟩ (.int .i64 dn) = WZ
  intro HZ HCH
  have r0 := HZ.out.2.1.cell (i := 0) rfl
  have r1 := HZ.out.2.1.cell (i := 1) rfl
  have r2 := HZ.out.2.1.cell (i := 2) rfl
  have r3 := HZ.out.2.1.cell (i := 3) rfl
  have r4 := HZ.out.2.1.cell (i := 4) rfl
  have r5 := HZ.out.2.1.cell (i := 5) rfl
  refine bodyPost_ret (v := .tuple #[.agg #[.slice r l cr, .int .i64 n, .int .i64 q, .slice a m c, .int .i64 wv, .int .i64 dn], .bool false]) (by simp [results, Try.results17, go_sem, r0, r1, r2, r3, r4, r5]) rfl ?_
  exact ⟨_, rfl, r, cr, a, c, by rw [HL.out, HM.out], HR.out.fresh HZ.out.2.2, HA.out.fresh HZ.out.2.2, HLM.out.2.2, HZ.out.2.2⟩
set_option maxRecDepth 20000 in
set_option maxHeartbeats 4000000 in
theorem tr_leave_turn (lo n : Nat) (q : Int) (r : Option Addr) (L : List Nat) (cr : Nat) (a : Option Addr) (M : List (Int × Int)) (c : Nat) (who : Nat) (dn : Nat)  (w : World) (hL : L.length ≤ 1024) (hM : M.length ≤ 1000) (hc : M.length ≤ c ∧ c ≤ 9223372036854775807) (hr : LR w lo r L cr) (ha : RL w lo a M)  :
    Calls Try.prog 17 #[.agg #[.slice r L.length cr, .int .i64 n, .int .i64 q, .slice a M.length c, .int .i64 who, .int .i64 dn], .int .i64 who] w fun e w' => ∃ v, e = .returned (.tuple #[v, .bool true]) ∧ TPost w lo n q L (lSet n M (who : Int) 0) (-1) dn v w' := by
  have HTW : Hid (tW true who L (who : Int) = true) := Lib.hid (by unfold tW; simp)
  have HWV : Hid ((who : Int) = if true = true then (who : Int) else -1) := Lib.hid rfl
  obtain ⟨l, hl⟩ : ∃ l, L.length = l := ⟨_, rfl⟩
  have HL := Lib.hid hl
  obtain ⟨m, hm⟩ : ∃ m, M.length = m := ⟨_, rfl⟩
  have HM := Lib.hid hm
  have HR := Lib.hid hr
  have HA := Lib.hid ha
  have HLM : Hid (L.length ≤ 1024 ∧ M.length ≤ 1000 ∧ (M.length ≤ c ∧ c ≤ 9223372036854775807)) := Lib.hid ⟨hL, hM, hc⟩
  rw [hl] at hL ⊢
  rw [hm] at hM hc ⊢
  clear hl hm hr ha
  have HB := Lib.hid (TB.start w #[.slice r l cr, .int .i64 n, .int .i64 q, .slice a m c, .int .i64 who, .int .i64 dn] #[.slice none 0 0, .int .i64 0, .int .i64 0, .slice none 0 0, .int .i64 0, .int .i64 0])
  go_enter Try.func17, Try.ntmps17
  go_upto_region 1 with fail
  revert HB
  generalize (w.alloc (Obj.cells #[.slice r l cr, .int .i64 n, .int .i64 q, .slice a m c, .int .i64 who, .int .i64 dn] 32)).alloc (Obj.cells #[.slice none 0 0, .int .i64 0, .int .i64 0, .slice none 0 0, .int .i64 0, .int .i64 0] 32) = W
  intro HB
  have b0 := HB.out.1.cell (i := 0) rfl
  have b1 := HB.out.1.cell (i := 1) rfl
  have b2 := HB.out.1.cell (i := 2) rfl
  have b3 := HB.out.1.cell (i := 3) rfl
  have b4 := HB.out.1.cell (i := 4) rfl
  have b5 := HB.out.1.cell (i := 5) rfl
  go_upto_region 3 with (go_at_call 39; rw [← HL.out, ← HM.out]; refine (tr_waits lo n q r L cr a M c (who : Int) dn true who (who : Int) _ HLM.out.1 HLM.out.2.1 HLM.out.2.2 (HR.out.fresh HB.out.2.2) (HA.out.fresh HB.out.2.2) HWV.out).mono ?_; rintro e w1 ⟨rfl, k1⟩; rw [HTW.out, HL.out, HM.out]; have HB1 := Lib.hid (HB.out.on k1); clear k1)
  clear b0 b1 b2 b3 b4 b5
  have q0 := HB1.out.1.cell (i := 0) rfl
  have q1 := HB1.out.1.cell (i := 1) rfl
  have q2 := HB1.out.1.cell (i := 2) rfl
  have q3 := HB1.out.1.cell (i := 3) rfl
  have q4 := HB1.out.1.cell (i := 4) rfl
  have q5 := HB1.out.1.cell (i := 5) rfl
  go_wp2_with (go_at_call 15; rw [← HL.out, ← HM.out]; refine (tr_end_clear_x lo n q r L cr a M c who dn _ HLM.out.1 HLM.out.2.1 HLM.out.2.2 (HR.out.fresh HB1.out.2.2) (HA.out.fresh HB1.out.2.2)).mono ?_; rintro e w3 ⟨g9, c9, rfl, k1, k2, k3⟩; rw [HL.out, HM.out]; have HB3 := Lib.hid (HB1.out.on k3); have HQ3 := Lib.hid k1; have HC3 := Lib.hid k2; have hsz := HB1.out.size; clear k1 k2 k3; have r0 := HB3.out.2.1.cell (i := 0) rfl; have r1 := HB3.out.2.1.cell (i := 1) rfl; have r2 := HB3.out.2.1.cell (i := 2) rfl; have r3 := HB3.out.2.1.cell (i := 3) rfl; have r4 := HB3.out.2.1.cell (i := 4) rfl; have r5 := HB3.out.2.1.cell (i := 5) rfl; have f0 := HB3.out.2.1.free 0; have f1 := HB3.out.2.1.free 1; have f2 := HB3.out.2.1.free 2; have f3 := HB3.out.2.1.free 3; have f4 := HB3.out.2.1.free 4; have f5 := HB3.out.2.1.free 5)
  have HZ := Lib.hid (TB.setR (a := .slice r l cr) (b := .int .i64 n) (c := .int .i64 q) (d := .slice (some ⟨g9, 0, none⟩) (lSet n M (who : Int) 0).length c9) (e := .int .i64 (-1)) (f := .int .i64 dn) HB3.out)
  have HCH := Lib.hid (chg6 (w0 := w) (w := w3) (a := .slice r l cr) (b := .int .i64 n) (c := .int .i64 q) (d := .slice (some ⟨g9, 0, none⟩) (lSet n M (who : Int) 0).length c9) (e := .int .i64 (-1)) (f := .int .i64 dn))
  clear q0 q1 q2 q3 q4 q5 r0 r1 r2 r3 r4 r5 f0 f1 f2 f3 f4 f5
  revert HZ HCH
  generalize ((((((w3).setCell ⟨w.heap.size + 1, 0, none⟩ (.slice r l cr)).setCell ⟨w.heap.size + 1, 1, none⟩ (.int .i64 n)).setCell ⟨w.heap.size + 1, 2, none⟩ (.int .i64 q)).setCell ⟨w.heap.size + 1, 3, none⟩ (.slice (some ⟨g9, 0, none⟩) (lSet n M (who : Int) 0).length c9)).setCell ⟨w.heap.size + 1, 4, none⟩ (.int .i64 (-1))).setCell ⟨w.heap.size + 1, 5, none⟩ (.int .i64 dn) = WZ
  intro HZ HCH
  have r0 := HZ.out.2.1.cell (i := 0) rfl
  have r1 := HZ.out.2.1.cell (i := 1) rfl
  have r2 := HZ.out.2.1.cell (i := 2) rfl
  have r3 := HZ.out.2.1.cell (i := 3) rfl
  have r4 := HZ.out.2.1.cell (i := 4) rfl
  have r5 := HZ.out.2.1.cell (i := 5) rfl
  refine bodyPost_ret (v := .tuple #[.agg #[.slice r l cr, .int .i64 n, .int .i64 q, .slice (some ⟨g9, 0, none⟩) (lSet n M (who : Int) 0).length c9, .int .i64 (-1), .int .i64 dn], .bool true]) (by simp [results, Try.results17, go_sem, r0, r1, r2, r3, r4, r5]) rfl ?_
  have hb := HZ.out.2.2
  refine ⟨_, rfl, r, cr, _, c9, by rw [HL.out], HR.out.fresh hb, ?_, HC3.out, hb⟩
  exact (HQ3.out.chg HCH.out (by simp; omega)).down (by have := HR.out.1; omega)
end Go.Proofs.Yticdpcbmnahenaa
