/- The document's own answer for turns, third part: End, Pay, New. -/
import Derived.Test.YticdpcbmnahenaaTurnsRef2
namespace Go.Proofs.Yticdpcbmnahenaa
open Go.ChangeShapes Go.WideShapes Go.ChangeAt Go.RowKit
set_option linter.unusedSimpArgs false
set_option linter.unusedVariables false

theorem RL.setB {w0 w : World} {a : Option Addr} {M : List (Int × Int)} {lo9 : Nat} (h : RL w lo9 a M) (hl : w0.heap.size + 2 ≤ lo9) (i : Nat) (v : Value) : RL (w.setCell ⟨w0.heap.size, i, none⟩ v) lo9 a M := h.chg ((Chg.refl [w0.heap.size] w).set (Or.inl (by simp)) _ _) (by simp; omega)
theorem TB.setP {w0 w : World} {x0 x1 x2 x3 x4 x5 a b c : Value} {rc : List Value} (s : TB w0 w [x0, x1, x2, x3, x4, x5] rc) :
    TB w0 (((w.setCell ⟨w0.heap.size, 1, none⟩ a).setCell ⟨w0.heap.size, 2, none⟩ b).setCell ⟨w0.heap.size, 3, none⟩ c) [x0, a, b, c, x4, x5] rc := ((s.setB 1 a).setB 2 b).setB 3 c
theorem RL.setP {w0 w : World} {r : Option Addr} {M : List (Int × Int)} {lo9 : Nat} {a b c : Value} (h : RL w lo9 r M) (hl : w0.heap.size + 2 ≤ lo9) :
    RL (((w.setCell ⟨w0.heap.size, 1, none⟩ a).setCell ⟨w0.heap.size, 2, none⟩ b).setCell ⟨w0.heap.size, 3, none⟩ c) lo9 r M := ((h.setB hl 1 a).setB hl 2 b).setB hl 3 c
set_option maxRecDepth 20000 in
set_option maxHeartbeats 4000000 in
theorem tr_end_clear (lo n : Nat) (q : Int) (r : Option Addr) (L : List Nat) (cr : Nat) (a : Option Addr) (M : List (Int × Int)) (c : Nat) (who : Nat) (dn : Nat)  (w : World) (hL : L.length ≤ 1024) (hM : M.length ≤ 1000) (hc : M.length ≤ c ∧ c ≤ 9223372036854775807) (hr : LR w lo r L cr) (ha : RL w lo a M)  :
    Calls Try.prog 15 #[.agg #[.slice r L.length cr, .int .i64 n, .int .i64 q, .slice a M.length c, .int .i64 who, .int .i64 dn], .bool false] w fun e w' => ∃ v, e = .returned (.tuple #[v, .bool true]) ∧ TPost w lo n q L (lSet n M (who : Int) 0) (-1) dn v w' := by
  obtain ⟨N, hN⟩ : ∃ N, lSet n M (who : Int) 0 = N := ⟨_, rfl⟩
  have HN := Lib.hid hN
  rw [hN]
  obtain ⟨n9, hn9⟩ : ∃ n9, N.length = n9 := ⟨_, rfl⟩
  have HN9 := Lib.hid hn9
  clear hN hn9
  obtain ⟨l, hl⟩ : ∃ l, L.length = l := ⟨_, rfl⟩
  have HL := Lib.hid hl
  obtain ⟨m, hm⟩ : ∃ m, M.length = m := ⟨_, rfl⟩
  have HM := Lib.hid hm
  have HR := Lib.hid hr
  have HA := Lib.hid ha
  have HLM : Hid (L.length ≤ 1024 ∧ M.length ≤ 1000 ∧ (M.length ≤ c ∧ c ≤ 9223372036854775807)) := Lib.hid ⟨hL, hM, hc⟩
  rw [hl] at hL ⊢
  rw [hm] at hM hc ⊢
  clear hl hm hr ha
  have HB := Lib.hid (TB.start w #[.slice r l cr, .int .i64 n, .int .i64 q, .slice a m c, .int .i64 who, .int .i64 dn] #[.slice none 0 0, .int .i64 0, .int .i64 0, .slice none 0 0, .int .i64 0, .int .i64 0])
  go_enter Try.func15, Try.ntmps15
  go_upto_region 1 with fail
  revert HB
  generalize (w.alloc (Obj.cells #[.slice r l cr, .int .i64 n, .int .i64 q, .slice a m c, .int .i64 who, .int .i64 dn] 32)).alloc (Obj.cells #[.slice none 0 0, .int .i64 0, .int .i64 0, .slice none 0 0, .int .i64 0, .int .i64 0] 32) = W
  intro HB
  have b1 := HB.out.1.cell (i := 1) rfl
  have b2 := HB.out.1.cell (i := 2) rfl
  have b3 := HB.out.1.cell (i := 3) rfl
  have b4 := HB.out.1.cell (i := 4) rfl
  have g1 : (0 : Int) ≤ (who : Int) := by omega
  go_upto_region 6 with (go_at_call 37; rw [← HM.out]; refine (ref_clear n q lo a M c (who : Int) _ HLM.out.2.1 HLM.out.2.2 (HA.out.fresh HB.out.2.2)).mono ?_; rintro e w2 ⟨v, rfl, g9, c9, rfl, k1, k2, k3, k4⟩; rw [HN.out] at k1 k3 ⊢; rw [HN9.out, HM.out]; have HB2 := Lib.hid (HB.out.on k2); have HQ2 := Lib.hid k1; have HC2 := Lib.hid (And.intro k3 k4); have hsz := HB.out.size; clear k1 k2 k3 k4; have e1 := HB2.out.1.cell (i := 1) rfl; have e2 := HB2.out.1.cell (i := 2) rfl; have e3 := HB2.out.1.cell (i := 3) rfl; have fe1 := HB2.out.1.free 1; have fe2 := HB2.out.1.free 2; have fe3 := HB2.out.1.free 3)
  clear b1 b2 b3 b4
  clear e1 e2 e3 fe1 fe2 fe3
  have HB5 := Lib.hid (TB.setP (a := .int .i64 n) (b := .int .i64 q) (c := .slice (some ⟨g9, 0, none⟩) n9 c9) HB2.out)
  have HQ5 := Lib.hid (RL.setP (w0 := w) (a := .int .i64 n) (b := .int .i64 q) (c := .slice (some ⟨g9, 0, none⟩) n9 c9) HQ2.out (by omega))
  revert HB5 HQ5
  generalize (((w2).setCell ⟨w.heap.size, 1, none⟩ (.int .i64 n)).setCell ⟨w.heap.size, 2, none⟩ (.int .i64 q)).setCell ⟨w.heap.size, 3, none⟩ (.slice (some ⟨g9, 0, none⟩) n9 c9) = W5
  intro HB5 HQ5
  have e4 := HB5.out.1.cell (i := 4) rfl
  have fe := HB5.out.1.free 4
  go_upto_region 7 with fail
  clear e4 fe
  have HB6 := Lib.hid (HB5.out.setB 4 (.int .i64 (-1)))
  have HQ6 := Lib.hid (RL.setB (w0 := w) HQ5.out (by omega) 4 (.int .i64 (-1)))
  revert HB6 HQ6
  generalize W5.setCell ⟨w.heap.size, 4, none⟩ (.int .i64 (-1)) = W6
  intro HB6 HQ6
  have q0 := HB6.out.1.cell (i := 0) rfl
  have q1 := HB6.out.1.cell (i := 1) rfl
  have q2 := HB6.out.1.cell (i := 2) rfl
  have q3 := HB6.out.1.cell (i := 3) rfl
  have q4 := HB6.out.1.cell (i := 4) rfl
  have q5 := HB6.out.1.cell (i := 5) rfl
  have r0 := HB6.out.2.1.cell (i := 0) rfl
  have r1 := HB6.out.2.1.cell (i := 1) rfl
  have r2 := HB6.out.2.1.cell (i := 2) rfl
  have r3 := HB6.out.2.1.cell (i := 3) rfl
  have r4 := HB6.out.2.1.cell (i := 4) rfl
  have r5 := HB6.out.2.1.cell (i := 5) rfl
  have f0 := HB6.out.2.1.free 0
  have f1 := HB6.out.2.1.free 1
  have f2 := HB6.out.2.1.free 2
  have f3 := HB6.out.2.1.free 3
  have f4 := HB6.out.2.1.free 4
  have f5 := HB6.out.2.1.free 5
  go_wp2_with fail
  have HZ := Lib.hid (TB.setR (a := .slice r l cr) (b := .int .i64 n) (c := .int .i64 q) (d := .slice (some ⟨g9, 0, none⟩) n9 c9) (e := .int .i64 (-1)) (f := .int .i64 dn) HB6.out)
  have HCH := Lib.hid (chg6 (w0 := w) (w := W6) (a := .slice r l cr) (b := .int .i64 n) (c := .int .i64 q) (d := .slice (some ⟨g9, 0, none⟩) n9 c9) (e := .int .i64 (-1)) (f := .int .i64 dn))
  clear q0 q1 q2 q3 q4 q5 r0 r1 r2 r3 r4 r5 f0 f1 f2 f3 f4 f5
  revert HZ HCH
  generalize ((((((W6).setCell ⟨w.heap.size + 1, 0, none⟩ (.slice r l cr)).setCell ⟨w.heap.size + 1, 1, none⟩ (.int .i64 n)).setCell ⟨w.heap.size + 1, 2, none⟩ (.int .i64 q)).setCell ⟨w.heap.size + 1, 3, none⟩ (.slice (some ⟨g9, 0, none⟩) n9 c9)).setCell ⟨w.heap.size + 1, 4, none⟩ (.int .i64 (-1))).setCell ⟨w.heap.size + 1, 5, none⟩ (.int .i64 dn) = WZ
  intro HZ HCH
  have r0 := HZ.out.2.1.cell (i := 0) rfl
  have r1 := HZ.out.2.1.cell (i := 1) rfl
  have r2 := HZ.out.2.1.cell (i := 2) rfl
  have r3 := HZ.out.2.1.cell (i := 3) rfl
  have r4 := HZ.out.2.1.cell (i := 4) rfl
  have r5 := HZ.out.2.1.cell (i := 5) rfl
  refine bodyPost_ret (v := .tuple #[.agg #[.slice r l cr, .int .i64 n, .int .i64 q, .slice (some ⟨g9, 0, none⟩) n9 c9, .int .i64 (-1), .int .i64 dn], .bool true]) (by simp [results, Try.results15, go_sem, r0, r1, r2, r3, r4, r5]) rfl ?_
  have hb := HZ.out.2.2
  refine ⟨_, rfl, r, cr, _, c9, by rw [HL.out, HN9.out], HR.out.fresh hb, ?_, HC2.out, hb⟩
  exact (HQ6.out.chg HCH.out (by simp; omega)).down (by have := HR.out.1; omega)
set_option maxRecDepth 20000 in
set_option maxHeartbeats 4000000 in
theorem tr_pay_no (lo n : Nat) (q : Int) (r : Option Addr) (L : List Nat) (cr : Nat) (a : Option Addr) (M : List (Int × Int)) (c : Nat) (who : Nat) (dn : Nat) (price pr : Int) (w : World) (hL : L.length ≤ 1024) (hM : M.length ≤ 1000) (hc : M.length ≤ c ∧ c ≤ 9223372036854775807) (hr : LR w lo r L cr) (ha : RL w lo a M) (hpr : max price 0 = pr) (hno : (who : Int) < 0 ∨ (n : Int) ≤ (who : Int) ∨ lHas M (who : Int) < pr) :
    Calls Try.prog 13 #[.agg #[.slice r L.length cr, .int .i64 n, .int .i64 q, .slice a M.length c, .int .i64 who, .int .i64 dn], .int .i64 price] w fun e w' => ∃ v, e = .returned (.tuple #[v, .bool false]) ∧ TPost w lo n q L M (who : Int) dn v w' := by
  have HNO := Lib.hid hno
  clear hno
  obtain ⟨l, hl⟩ : ∃ l, L.length = l := ⟨_, rfl⟩
  have HL := Lib.hid hl
  obtain ⟨m, hm⟩ : ∃ m, M.length = m := ⟨_, rfl⟩
  have HM := Lib.hid hm
  have HR := Lib.hid hr
  have HA := Lib.hid ha
  have HLM : Hid (L.length ≤ 1024 ∧ M.length ≤ 1000 ∧ (M.length ≤ c ∧ c ≤ 9223372036854775807)) := Lib.hid ⟨hL, hM, hc⟩
  rw [hl] at hL ⊢
  rw [hm] at hM hc ⊢
  clear hl hm hr ha
  have HB := Lib.hid (TB.start w #[.slice r l cr, .int .i64 n, .int .i64 q, .slice a m c, .int .i64 who, .int .i64 dn] #[.slice none 0 0, .int .i64 0, .int .i64 0, .slice none 0 0, .int .i64 0, .int .i64 0])
  go_enter Try.func13, Try.ntmps13
  go_upto_region 1 with fail
  revert HB
  generalize (w.alloc (Obj.cells #[.slice r l cr, .int .i64 n, .int .i64 q, .slice a m c, .int .i64 who, .int .i64 dn] 32)).alloc (Obj.cells #[.slice none 0 0, .int .i64 0, .int .i64 0, .slice none 0 0, .int .i64 0, .int .i64 0] 32) = W
  intro HB
  have b1 := HB.out.1.cell (i := 1) rfl
  have b2 := HB.out.1.cell (i := 2) rfl
  have b3 := HB.out.1.cell (i := 3) rfl
  have b4 := HB.out.1.cell (i := 4) rfl
  have g1 : (0 : Int) ≤ (who : Int) := by omega
  go_upto_region 5 with (go_at_call 35; rw [← HM.out]; refine (ref_pay_no n q lo a M c (who : Int) price pr _ HLM.out.2.1 HLM.out.2.2 (HA.out.fresh HB.out.2.2) hpr HNO.out).mono ?_; rintro e w2 ⟨rfl, k2⟩; rw [HM.out]; have HB2 := Lib.hid (HB.out.on k2); clear k2; have e1 := HB2.out.1.cell (i := 1) rfl; have e2 := HB2.out.1.cell (i := 2) rfl; have e3 := HB2.out.1.cell (i := 3) rfl; have fe1 := HB2.out.1.free 1; have fe2 := HB2.out.1.free 2; have fe3 := HB2.out.1.free 3)
  clear b1 b2 b3 b4
  clear e1 e2 e3 fe1 fe2 fe3
  have HB5 := Lib.hid (TB.setP (a := .int .i64 n) (b := .int .i64 q) (c := .slice a m c) HB2.out)
  revert HB5
  generalize (((w2).setCell ⟨w.heap.size, 1, none⟩ (.int .i64 n)).setCell ⟨w.heap.size, 2, none⟩ (.int .i64 q)).setCell ⟨w.heap.size, 3, none⟩ (.slice a m c) = W5
  intro HB5
  have q0 := HB5.out.1.cell (i := 0) rfl
  have q1 := HB5.out.1.cell (i := 1) rfl
  have q2 := HB5.out.1.cell (i := 2) rfl
  have q3 := HB5.out.1.cell (i := 3) rfl
  have q4 := HB5.out.1.cell (i := 4) rfl
  have q5 := HB5.out.1.cell (i := 5) rfl
  have r0 := HB5.out.2.1.cell (i := 0) rfl
  have r1 := HB5.out.2.1.cell (i := 1) rfl
  have r2 := HB5.out.2.1.cell (i := 2) rfl
  have r3 := HB5.out.2.1.cell (i := 3) rfl
  have r4 := HB5.out.2.1.cell (i := 4) rfl
  have r5 := HB5.out.2.1.cell (i := 5) rfl
  have f0 := HB5.out.2.1.free 0
  have f1 := HB5.out.2.1.free 1
  have f2 := HB5.out.2.1.free 2
  have f3 := HB5.out.2.1.free 3
  have f4 := HB5.out.2.1.free 4
  have f5 := HB5.out.2.1.free 5
  go_wp2_with fail
  have HZ := Lib.hid (TB.setR (a := .slice r l cr) (b := .int .i64 n) (c := .int .i64 q) (d := .slice a m c) (e := .int .i64 who) (f := .int .i64 dn) HB5.out)
  have HCH := Lib.hid (chg6 (w0 := w) (w := W5) (a := .slice r l cr) (b := .int .i64 n) (c := .int .i64 q) (d := .slice a m c) (e := .int .i64 who) (f := .int .i64 dn))
  clear q0 q1 q2 q3 q4 q5 r0 r1 r2 r3 r4 r5 f0 f1 f2 f3 f4 f5
  revert HZ HCH
  generalize ((((((W5).setCell ⟨w.heap.size + 1, 0, none⟩ (.slice r l cr)).setCell ⟨w.heap.size + 1, 1, none⟩ (.int .i64 n)).setCell ⟨w.heap.size + 1, 2, none⟩ (.int .i64 q)).setCell ⟨w.heap.size + 1, 3, none⟩ (.slice a m c)).setCell ⟨w.heap.size + 1, 4, none⟩ (.int .i64 who)).setCell ⟨w.heap.size + 1, 5, none⟩ (.int .i64 dn) = WZ
  intro HZ HCH
  have r0 := HZ.out.2.1.cell (i := 0) rfl
  have r1 := HZ.out.2.1.cell (i := 1) rfl
  have r2 := HZ.out.2.1.cell (i := 2) rfl
  have r3 := HZ.out.2.1.cell (i := 3) rfl
  have r4 := HZ.out.2.1.cell (i := 4) rfl
  have r5 := HZ.out.2.1.cell (i := 5) rfl
  refine bodyPost_ret (v := .tuple #[.agg #[.slice r l cr, .int .i64 n, .int .i64 q, .slice a m c, .int .i64 who, .int .i64 dn], .bool false]) (by simp [results, Try.results13, go_sem, r0, r1, r2, r3, r4, r5]) rfl ?_
  exact ⟨_, rfl, r, cr, a, c, by rw [HL.out, HM.out], HR.out.fresh HZ.out.2.2, HA.out.fresh HZ.out.2.2, HLM.out.2.2, HZ.out.2.2⟩
set_option maxRecDepth 20000 in
set_option maxHeartbeats 4000000 in
theorem tr_pay_yes (lo n : Nat) (q : Int) (r : Option Addr) (L : List Nat) (cr : Nat) (a : Option Addr) (M : List (Int × Int)) (c : Nat) (who : Nat) (dn : Nat) (price pr : Int) (w : World) (hL : L.length ≤ 1024) (hM : M.length ≤ 1000) (hc : M.length ≤ c ∧ c ≤ 9223372036854775807) (hr : LR w lo r L cr) (ha : RL w lo a M) (hpr : max price 0 = pr) (hin : 0 ≤ (who : Int) ∧ (who : Int) < (n : Int)) (hyes : pr ≤ lHas M (who : Int)) (hb : 0 ≤ lHas M (who : Int) ∧ lHas M (who : Int) ≤ 2000000000) :
    Calls Try.prog 13 #[.agg #[.slice r L.length cr, .int .i64 n, .int .i64 q, .slice a M.length c, .int .i64 who, .int .i64 dn], .int .i64 price] w fun e w' => ∃ v, e = .returned (.tuple #[v, .bool true]) ∧ TPost w lo n q L (lSet n M (who : Int) (lHas M (who : Int) - pr)) (who : Int) dn v w' := by
  have HI := Lib.hid hin
  have HY := Lib.hid hyes
  have HBB := Lib.hid hb
  clear hin hyes hb
  obtain ⟨N, hN⟩ : ∃ N, lSet n M (who : Int) (lHas M (who : Int) - pr) = N := ⟨_, rfl⟩
  have HN := Lib.hid hN
  rw [hN]
  obtain ⟨n9, hn9⟩ : ∃ n9, N.length = n9 := ⟨_, rfl⟩
  have HN9 := Lib.hid hn9
  clear hN hn9
  obtain ⟨l, hl⟩ : ∃ l, L.length = l := ⟨_, rfl⟩
  have HL := Lib.hid hl
  obtain ⟨m, hm⟩ : ∃ m, M.length = m := ⟨_, rfl⟩
  have HM := Lib.hid hm
  have HR := Lib.hid hr
  have HA := Lib.hid ha
  have HLM : Hid (L.length ≤ 1024 ∧ M.length ≤ 1000 ∧ (M.length ≤ c ∧ c ≤ 9223372036854775807)) := Lib.hid ⟨hL, hM, hc⟩
  rw [hl] at hL ⊢
  rw [hm] at hM hc ⊢
  clear hl hm hr ha
  have HB := Lib.hid (TB.start w #[.slice r l cr, .int .i64 n, .int .i64 q, .slice a m c, .int .i64 who, .int .i64 dn] #[.slice none 0 0, .int .i64 0, .int .i64 0, .slice none 0 0, .int .i64 0, .int .i64 0])
  go_enter Try.func13, Try.ntmps13
  go_upto_region 1 with fail
  revert HB
  generalize (w.alloc (Obj.cells #[.slice r l cr, .int .i64 n, .int .i64 q, .slice a m c, .int .i64 who, .int .i64 dn] 32)).alloc (Obj.cells #[.slice none 0 0, .int .i64 0, .int .i64 0, .slice none 0 0, .int .i64 0, .int .i64 0] 32) = W
  intro HB
  have b1 := HB.out.1.cell (i := 1) rfl
  have b2 := HB.out.1.cell (i := 2) rfl
  have b3 := HB.out.1.cell (i := 3) rfl
  have b4 := HB.out.1.cell (i := 4) rfl
  have g1 : (0 : Int) ≤ (who : Int) := by omega
  go_upto_region 5 with (go_at_call 35; rw [← HM.out]; refine (ref_pay_yes n q lo a M c (who : Int) price pr _ HLM.out.2.1 HLM.out.2.2 (HA.out.fresh HB.out.2.2) hpr HI.out HY.out HBB.out).mono ?_; rintro e w2 ⟨v, rfl, g9, c9, rfl, k1, k2, k3, k4⟩; rw [HN.out] at k1 k3 ⊢; rw [HN9.out, HM.out]; have HB2 := Lib.hid (HB.out.on k2); have HQ2 := Lib.hid k1; have HC2 := Lib.hid (And.intro k3 k4); have hsz := HB.out.size; clear k1 k2 k3 k4; have e1 := HB2.out.1.cell (i := 1) rfl; have e2 := HB2.out.1.cell (i := 2) rfl; have e3 := HB2.out.1.cell (i := 3) rfl; have fe1 := HB2.out.1.free 1; have fe2 := HB2.out.1.free 2; have fe3 := HB2.out.1.free 3)
  clear b1 b2 b3 b4
  clear e1 e2 e3 fe1 fe2 fe3
  have HB5 := Lib.hid (TB.setP (a := .int .i64 n) (b := .int .i64 q) (c := .slice (some ⟨g9, 0, none⟩) n9 c9) HB2.out)
  have HQ5 := Lib.hid (RL.setP (w0 := w) (a := .int .i64 n) (b := .int .i64 q) (c := .slice (some ⟨g9, 0, none⟩) n9 c9) HQ2.out (by omega))
  revert HB5 HQ5
  generalize (((w2).setCell ⟨w.heap.size, 1, none⟩ (.int .i64 n)).setCell ⟨w.heap.size, 2, none⟩ (.int .i64 q)).setCell ⟨w.heap.size, 3, none⟩ (.slice (some ⟨g9, 0, none⟩) n9 c9) = W5
  intro HB5 HQ5
  have q0 := HB5.out.1.cell (i := 0) rfl
  have q1 := HB5.out.1.cell (i := 1) rfl
  have q2 := HB5.out.1.cell (i := 2) rfl
  have q3 := HB5.out.1.cell (i := 3) rfl
  have q4 := HB5.out.1.cell (i := 4) rfl
  have q5 := HB5.out.1.cell (i := 5) rfl
  have r0 := HB5.out.2.1.cell (i := 0) rfl
  have r1 := HB5.out.2.1.cell (i := 1) rfl
  have r2 := HB5.out.2.1.cell (i := 2) rfl
  have r3 := HB5.out.2.1.cell (i := 3) rfl
  have r4 := HB5.out.2.1.cell (i := 4) rfl
  have r5 := HB5.out.2.1.cell (i := 5) rfl
  have f0 := HB5.out.2.1.free 0
  have f1 := HB5.out.2.1.free 1
  have f2 := HB5.out.2.1.free 2
  have f3 := HB5.out.2.1.free 3
  have f4 := HB5.out.2.1.free 4
  have f5 := HB5.out.2.1.free 5
  go_wp2_with fail
  have HZ := Lib.hid (TB.setR (a := .slice r l cr) (b := .int .i64 n) (c := .int .i64 q) (d := .slice (some ⟨g9, 0, none⟩) n9 c9) (e := .int .i64 who) (f := .int .i64 dn) HB5.out)
  have HCH := Lib.hid (chg6 (w0 := w) (w := W5) (a := .slice r l cr) (b := .int .i64 n) (c := .int .i64 q) (d := .slice (some ⟨g9, 0, none⟩) n9 c9) (e := .int .i64 who) (f := .int .i64 dn))
  clear q0 q1 q2 q3 q4 q5 r0 r1 r2 r3 r4 r5 f0 f1 f2 f3 f4 f5
  revert HZ HCH
  generalize ((((((W5).setCell ⟨w.heap.size + 1, 0, none⟩ (.slice r l cr)).setCell ⟨w.heap.size + 1, 1, none⟩ (.int .i64 n)).setCell ⟨w.heap.size + 1, 2, none⟩ (.int .i64 q)).setCell ⟨w.heap.size + 1, 3, none⟩ (.slice (some ⟨g9, 0, none⟩) n9 c9)).setCell ⟨w.heap.size + 1, 4, none⟩ (.int .i64 who)).setCell ⟨w.heap.size + 1, 5, none⟩ (.int .i64 dn) = WZ
  intro HZ HCH
  have r0 := HZ.out.2.1.cell (i := 0) rfl
  have r1 := HZ.out.2.1.cell (i := 1) rfl
  have r2 := HZ.out.2.1.cell (i := 2) rfl
  have r3 := HZ.out.2.1.cell (i := 3) rfl
  have r4 := HZ.out.2.1.cell (i := 4) rfl
  have r5 := HZ.out.2.1.cell (i := 5) rfl
  refine bodyPost_ret (v := .tuple #[.agg #[.slice r l cr, .int .i64 n, .int .i64 q, .slice (some ⟨g9, 0, none⟩) n9 c9, .int .i64 who, .int .i64 dn], .bool true]) (by simp [results, Try.results13, go_sem, r0, r1, r2, r3, r4, r5]) rfl ?_
  have hb := HZ.out.2.2
  refine ⟨_, rfl, r, cr, _, c9, by rw [HL.out, HN9.out], HR.out.fresh hb, ?_, HC2.out, hb⟩
  exact (HQ5.out.chg HCH.out (by simp; omega)).down (by have := HR.out.1; omega)
set_option maxRecDepth 20000 in
set_option maxHeartbeats 4000000 in
theorem tr_new (x y : Int) (n : Nat) (q : Int) (w : World) (hn : min (max x 1) 1024 = (n : Int)) (hq : min (max y 1) 1000000 = q) :
    Calls Try.prog 8 #[.int .i64 x, .int .i64 y] w fun e w' => e = .returned (.agg #[.slice none 0 0, .int .i64 n, .int .i64 q, .slice none 0 0, .int .i64 (-1), .int .i64 0]) ∧ Below w.heap.size w w' := by
  have H1 := Lib.hid hn
  have H2 := Lib.hid hq
  clear hn hq
  have HB : Hid (Blk (w.alloc (Obj.cells #[.slice none 0 0, .int .i64 0, .int .i64 0, .slice none 0 0, .int .i64 0, .int .i64 0] 32)) w.heap.size [.slice none 0 0, .int .i64 0, .int .i64 0, .slice none 0 0, .int .i64 0, .int .i64 0] 32 ∧ Below w.heap.size w (w.alloc (Obj.cells #[.slice none 0 0, .int .i64 0, .int .i64 0, .slice none 0 0, .int .i64 0, .int .i64 0] 32))) := Lib.hid ⟨Blk.newA w _ _, (Below.refl _ _).alloc (Nat.le_refl _) _⟩
  go_enter Try.func8, Try.ntmps8
  go_upto_region 1 with fail
  revert HB
  generalize w.alloc (Obj.cells #[.slice none 0 0, .int .i64 0, .int .i64 0, .slice none 0 0, .int .i64 0, .int .i64 0] 32) = W
  intro HB
  go_wp2_with (go_at_call 29; refine (ref_new x y n q _ H1.out H2.out).mono ?_; rintro e w2 ⟨rfl, k2⟩; have HB2 : Hid (Blk w2 w.heap.size [.slice none 0 0, .int .i64 0, .int .i64 0, .slice none 0 0, .int .i64 0, .int .i64 0] 32 ∧ Below w.heap.size w w2) := Lib.hid ⟨HB.out.1.below k2 HB.out.1.lt, HB.out.2.trans (k2.mono HB.out.2.size)⟩; clear k2; have r0 := HB2.out.1.cell (i := 0) rfl; have r1 := HB2.out.1.cell (i := 1) rfl; have r2 := HB2.out.1.cell (i := 2) rfl; have r3 := HB2.out.1.cell (i := 3) rfl; have r4 := HB2.out.1.cell (i := 4) rfl; have r5 := HB2.out.1.cell (i := 5) rfl; have f0 := HB2.out.1.free 0; have f1 := HB2.out.1.free 1; have f2 := HB2.out.1.free 2; have f3 := HB2.out.1.free 3; have f4 := HB2.out.1.free 4; have f5 := HB2.out.1.free 5)
  have HZ : Hid (Blk ((((((w2.setCell ⟨w.heap.size, 0, none⟩ (.slice none 0 0)).setCell ⟨w.heap.size, 1, none⟩ (.int .i64 n)).setCell ⟨w.heap.size, 2, none⟩ (.int .i64 q)).setCell ⟨w.heap.size, 3, none⟩ (.slice none 0 0)).setCell ⟨w.heap.size, 4, none⟩ (.int .i64 (-1))).setCell ⟨w.heap.size, 5, none⟩ (.int .i64 0)) w.heap.size [.slice none 0 0, .int .i64 n, .int .i64 q, .slice none 0 0, .int .i64 (-1), .int .i64 0] 32 ∧ Below w.heap.size w ((((((w2.setCell ⟨w.heap.size, 0, none⟩ (.slice none 0 0)).setCell ⟨w.heap.size, 1, none⟩ (.int .i64 n)).setCell ⟨w.heap.size, 2, none⟩ (.int .i64 q)).setCell ⟨w.heap.size, 3, none⟩ (.slice none 0 0)).setCell ⟨w.heap.size, 4, none⟩ (.int .i64 (-1))).setCell ⟨w.heap.size, 5, none⟩ (.int .i64 0))) := Lib.hid ⟨(((((HB2.out.1.set 0 _).set 1 _).set 2 _).set 3 _).set 4 _).set 5 _, (((((HB2.out.2.setCell (by simp) _).setCell (by simp) _).setCell (by simp) _).setCell (by simp) _).setCell (by simp) _).setCell (by simp) _⟩
  clear r0 r1 r2 r3 r4 r5 f0 f1 f2 f3 f4 f5
  revert HZ
  generalize (((((w2.setCell ⟨w.heap.size, 0, none⟩ (.slice none 0 0)).setCell ⟨w.heap.size, 1, none⟩ (.int .i64 n)).setCell ⟨w.heap.size, 2, none⟩ (.int .i64 q)).setCell ⟨w.heap.size, 3, none⟩ (.slice none 0 0)).setCell ⟨w.heap.size, 4, none⟩ (.int .i64 (-1))).setCell ⟨w.heap.size, 5, none⟩ (.int .i64 0) = WZ
  intro HZ
  have r0 := HZ.out.1.cell (i := 0) rfl
  have r1 := HZ.out.1.cell (i := 1) rfl
  have r2 := HZ.out.1.cell (i := 2) rfl
  have r3 := HZ.out.1.cell (i := 3) rfl
  have r4 := HZ.out.1.cell (i := 4) rfl
  have r5 := HZ.out.1.cell (i := 5) rfl
  exact bodyPost_ret (v := .agg #[.slice none 0 0, .int .i64 n, .int .i64 q, .slice none 0 0, .int .i64 (-1), .int .i64 0]) (by simp [results, Try.results8, go_sem, r0, r1, r2, r3, r4, r5]) rfl ⟨rfl, HZ.out.2⟩
end Go.Proofs.Yticdpcbmnahenaa
