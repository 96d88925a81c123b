/- The document's own answer for turns, fifth part: Leave, of one who waits. -/
import Derived.Test.YticdpcbmnahenaaTurnsRef4
namespace Go.Proofs.Yticdpcbmnahenaa
open Go.ChangeShapes Go.WideShapes Go.ChangeAt Go.RowKit
set_option linter.unusedSimpArgs false
set_option linter.unusedVariables false

set_option maxRecDepth 20000 in
set_option maxHeartbeats 40000000 in
theorem tr_leave_row (lo n : Nat) (q : Int) (r : Option Addr) (L : List Nat) (cr : Nat) (a : Option Addr) (M : List (Int × Int)) (c : Nat) (wv : Int) (dn : Nat) (on : Bool) (who x : Nat) (w : World) (hL : L.length ≤ 1024) (hM : M.length ≤ 1000) (hc : M.length ≤ c ∧ c ≤ 9223372036854775807) (hr : LR w lo r L cr) (ha : RL w lo a M) (hw : wv = if on = true then (who : Int) else -1) (htw : tW on who L (x : Int) = true) (hx : x ∈ L) (hnd : L.Nodup) (hne : wv ≠ (x : Int)) :
    Calls Try.prog 17 #[.agg #[.slice r L.length cr, .int .i64 n, .int .i64 q, .slice a M.length c, .int .i64 wv, .int .i64 dn], .int .i64 x] w fun e w' => ∃ v, e = .returned (.tuple #[v, .bool true]) ∧ TPost w lo n q (L.erase x) (lSet n M (x : Int) 0) wv dn v w' := by
  have HTW := Lib.hid htw
  have HWV := Lib.hid hw
  have HX := Lib.hid hx
  have HND := Lib.hid hnd
  have hne2 : (wv == (x : Int)) = false := by simpa using hne
  clear htw hw hx hnd hne
  obtain ⟨E, hE⟩ : ∃ E, L.erase x = E := ⟨_, rfl⟩
  have HE := Lib.hid hE
  rw [hE]
  clear hE
  obtain ⟨N, hN⟩ : ∃ N, lSet n M (x : Int) 0 = N := ⟨_, rfl⟩
  have HN := Lib.hid hN
  rw [hN]
  obtain ⟨n9, hn9⟩ : ∃ n9, N.length = n9 := ⟨_, rfl⟩
  have HN9 := Lib.hid hn9
  clear hN hn9
  obtain ⟨l, hl⟩ : ∃ l, L.length = l := ⟨_, rfl⟩
  have HL := Lib.hid hl
  obtain ⟨m, hm⟩ : ∃ m, M.length = m := ⟨_, rfl⟩
  have HM := Lib.hid hm
  have HR := Lib.hid hr
  have HA := Lib.hid ha
  have HLM : Hid (L.length ≤ 1024 ∧ M.length ≤ 1000 ∧ (M.length ≤ c ∧ c ≤ 9223372036854775807)) := Lib.hid ⟨hL, hM, hc⟩
  rw [hl] at hL ⊢
  rw [hm] at hM hc ⊢
  clear hl hm hr ha
  have HB := Lib.hid (TB.start w #[.slice r l cr, .int .i64 n, .int .i64 q, .slice a m c, .int .i64 wv, .int .i64 dn] #[.slice none 0 0, .int .i64 0, .int .i64 0, .slice none 0 0, .int .i64 0, .int .i64 0])
  go_enter Try.func17, Try.ntmps17
  go_upto_region 1 with fail
  revert HB
  generalize (w.alloc (Obj.cells #[.slice r l cr, .int .i64 n, .int .i64 q, .slice a m c, .int .i64 wv, .int .i64 dn] 32)).alloc (Obj.cells #[.slice none 0 0, .int .i64 0, .int .i64 0, .slice none 0 0, .int .i64 0, .int .i64 0] 32) = W
  intro HB
  have b0 := HB.out.1.cell (i := 0) rfl
  have b1 := HB.out.1.cell (i := 1) rfl
  have b2 := HB.out.1.cell (i := 2) rfl
  have b3 := HB.out.1.cell (i := 3) rfl
  have b4 := HB.out.1.cell (i := 4) rfl
  have b5 := HB.out.1.cell (i := 5) rfl
  go_upto_region 3 with (go_at_call 39; rw [← HL.out, ← HM.out]; refine (tr_waits lo n q r L cr a M c wv dn on who (x : Int) _ HLM.out.1 HLM.out.2.1 HLM.out.2.2 (HR.out.fresh HB.out.2.2) (HA.out.fresh HB.out.2.2) HWV.out).mono ?_; rintro e w1 ⟨rfl, k1⟩; rw [HTW.out, HL.out, HM.out]; have HB1 := Lib.hid (HB.out.on k1); clear k1)
  clear b0 b1 b2 b3 b4 b5
  have b0 := HB1.out.1.cell (i := 0) rfl
  have b1 := HB1.out.1.cell (i := 1) rfl
  have b2 := HB1.out.1.cell (i := 2) rfl
  have b3 := HB1.out.1.cell (i := 3) rfl
  have b4 := HB1.out.1.cell (i := 4) rfl
  have b5 := HB1.out.1.cell (i := 5) rfl
  go_upto_region 5 with fail
  clear b0 b1 b2 b3 b4 b5
  have b0 : w1.drew.cell? ⟨w.heap.size, 0, none⟩ = some (.slice r l cr) := HB1.out.drew.1.cell (i := 0) rfl
  have b1 : w1.drew.cell? ⟨w.heap.size, 1, none⟩ = some (.int .i64 n) := HB1.out.drew.1.cell (i := 1) rfl
  have b2 : w1.drew.cell? ⟨w.heap.size, 2, none⟩ = some (.int .i64 q) := HB1.out.drew.1.cell (i := 2) rfl
  have b3 : w1.drew.cell? ⟨w.heap.size, 3, none⟩ = some (.slice a m c) := HB1.out.drew.1.cell (i := 3) rfl
  have b4 : w1.drew.cell? ⟨w.heap.size, 4, none⟩ = some (.int .i64 wv) := HB1.out.drew.1.cell (i := 4) rfl
  have b5 : w1.drew.cell? ⟨w.heap.size, 5, none⟩ = some (.int .i64 dn) := HB1.out.drew.1.cell (i := 5) rfl
  go_region_with (first
    | (go_at_call 40; rw [← HL.out]; refine (cut_r lo r L cr x _ (by have := HLM.out.1; omega) (HR.out.fresh HB1.out.drew.2.2) HX.out HND.out).mono ?_; rintro e w2 ⟨g2, c2, rfl, k1, k2⟩; rw [HE.out] at k1; rw [HE.out, HL.out]; have HB2 := Lib.hid (HB1.out.drew.on k2); have HR2 := Lib.hid k1; have hsz := HB1.out.drew.size; have hsz9 := HB1.out.size; clear k1 k2; have b0 := HB2.out.1.cell (i := 0) rfl; have b1 := HB2.out.1.cell (i := 1) rfl; have b2 := HB2.out.1.cell (i := 2) rfl; have b3 := HB2.out.1.cell (i := 3) rfl; have b4 := HB2.out.1.cell (i := 4) rfl; have b5 := HB2.out.1.cell (i := 5) rfl)
    | (go_at_call 37; rw [← HM.out]; refine (ref_clear n q lo a M c (x : Int) _ HLM.out.2.1 HLM.out.2.2 (HA.out.fresh HB2.out.2.2)).mono ?_; rintro e w3 ⟨v, rfl, g9, c9, rfl, k1, k2, k3, k4⟩; rw [HN.out] at k1 k3 ⊢; rw [HN9.out, HM.out]; have HB3 := Lib.hid (HB2.out.on k2); have HR3 := Lib.hid (HR2.out.fresh k2); have HQ3 := Lib.hid k1; have HC3 := Lib.hid (And.intro k3 k4); have hsz2 := HB2.out.size; clear k1 k2 k3 k4; have e0 := HB3.out.1.cell (i := 0) rfl; have e1 := HB3.out.1.cell (i := 1) rfl; have e2 := HB3.out.1.cell (i := 2) rfl; have e3 := HB3.out.1.cell (i := 3) rfl; have e4 := HB3.out.1.cell (i := 4) rfl; have e5 := HB3.out.1.cell (i := 5) rfl; have fe0 := HB3.out.1.free 0; have fe1 := HB3.out.1.free 1; have fe2 := HB3.out.1.free 2; have fe3 := HB3.out.1.free 3; have fe4 := HB3.out.1.free 4; have fe5 := HB3.out.1.free 5))
  all_goals
    go_upto_region 6 with fail
    clear b0 b1 b2 b3 b4 b5 e0 e1 e2 e3 e4 e5 fe0 fe1 fe2 fe3 fe4 fe5
    have HB6 := Lib.hid (TB.setP (a := .int .i64 n) (b := .int .i64 q) (c := .slice (some ⟨g9, 0, none⟩) n9 c9) (HB3.out.setB 0 (.slice (some ⟨g2, 0, none⟩) E.length c2)))
    have HR6 := Lib.hid (((LR.setB (w0 := w) HR3.out (by omega) 0 (.slice (some ⟨g2, 0, none⟩) E.length c2)).setB (w0 := w) (by omega) 1 (.int .i64 n)).setB (w0 := w) (by omega) 2 (.int .i64 q) |>.setB (w0 := w) (by omega) 3 (.slice (some ⟨g9, 0, none⟩) n9 c9))
    have HQ6 := Lib.hid (RL.setP (w0 := w) (a := .int .i64 n) (b := .int .i64 q) (c := .slice (some ⟨g9, 0, none⟩) n9 c9) (RL.setB (w0 := w) HQ3.out (by omega) 0 (.slice (some ⟨g2, 0, none⟩) E.length c2)) (by omega))
    revert HB6 HR6 HQ6
    generalize (((w3.setCell ⟨w.heap.size, 0, none⟩ (.slice (some ⟨g2, 0, none⟩) E.length c2)).setCell ⟨w.heap.size, 1, none⟩ (.int .i64 n)).setCell ⟨w.heap.size, 2, none⟩ (.int .i64 q)).setCell ⟨w.heap.size, 3, none⟩ (.slice (some ⟨g9, 0, none⟩) n9 c9) = W6
    intro HB6 HR6 HQ6
    have q0 := HB6.out.1.cell (i := 0) rfl
    have q1 := HB6.out.1.cell (i := 1) rfl
    have q2 := HB6.out.1.cell (i := 2) rfl
    have q3 := HB6.out.1.cell (i := 3) rfl
    have q4 := HB6.out.1.cell (i := 4) rfl
    have q5 := HB6.out.1.cell (i := 5) rfl
    have r0 := HB6.out.2.1.cell (i := 0) rfl
    have r1 := HB6.out.2.1.cell (i := 1) rfl
    have r2 := HB6.out.2.1.cell (i := 2) rfl
    have r3 := HB6.out.2.1.cell (i := 3) rfl
    have r4 := HB6.out.2.1.cell (i := 4) rfl
    have r5 := HB6.out.2.1.cell (i := 5) rfl
    have f0 := HB6.out.2.1.free 0
    have f1 := HB6.out.2.1.free 1
    have f2 := HB6.out.2.1.free 2
    have f3 := HB6.out.2.1.free 3
    have f4 := HB6.out.2.1.free 4
    have f5 := HB6.out.2.1.free 5
    go_wp2_with fail
    have HZ := Lib.hid (TB.setR (a := .slice (some ⟨g2, 0, none⟩) E.length c2) (b := .int .i64 n) (c := .int .i64 q) (d := .slice (some ⟨g9, 0, none⟩) n9 c9) (e := .int .i64 wv) (f := .int .i64 dn) HB6.out)
    have HCH := Lib.hid (chg6 (w0 := w) (w := W6) (a := .slice (some ⟨g2, 0, none⟩) E.length c2) (b := .int .i64 n) (c := .int .i64 q) (d := .slice (some ⟨g9, 0, none⟩) n9 c9) (e := .int .i64 wv) (f := .int .i64 dn))
    clear q0 q1 q2 q3 q4 q5 r0 r1 r2 r3 r4 r5 f0 f1 f2 f3 f4 f5
    revert HZ HCH
    generalize ((((((W6).setCell ⟨w.heap.size + 1, 0, none⟩ (.slice (some ⟨g2, 0, none⟩) E.length c2)).setCell ⟨w.heap.size + 1, 1, none⟩ (.int .i64 n)).setCell ⟨w.heap.size + 1, 2, none⟩ (.int .i64 q)).setCell ⟨w.heap.size + 1, 3, none⟩ (.slice (some ⟨g9, 0, none⟩) n9 c9)).setCell ⟨w.heap.size + 1, 4, none⟩ (.int .i64 wv)).setCell ⟨w.heap.size + 1, 5, none⟩ (.int .i64 dn) = WZ
    intro HZ HCH
    have r0 := HZ.out.2.1.cell (i := 0) rfl
    have r1 := HZ.out.2.1.cell (i := 1) rfl
    have r2 := HZ.out.2.1.cell (i := 2) rfl
    have r3 := HZ.out.2.1.cell (i := 3) rfl
    have r4 := HZ.out.2.1.cell (i := 4) rfl
    have r5 := HZ.out.2.1.cell (i := 5) rfl
    refine bodyPost_ret (v := .tuple #[.agg #[.slice (some ⟨g2, 0, none⟩) E.length c2, .int .i64 n, .int .i64 q, .slice (some ⟨g9, 0, none⟩) n9 c9, .int .i64 wv, .int .i64 dn], .bool true]) (by simp [results, Try.results17, go_sem, r0, r1, r2, r3, r4, r5]) rfl ?_
    have hb := HZ.out.2.2
    refine ⟨_, rfl, _, _, _, c9, by rw [HN9.out], ?_, ?_, HC3.out, hb⟩
    · exact (HR6.out.chg HCH.out (by simp; omega)).down (by have := HR.out.1; omega)
    · exact (HQ6.out.chg HCH.out (by simp; omega)).down (by have := HR.out.1; omega)
end Go.Proofs.Yticdpcbmnahenaa
