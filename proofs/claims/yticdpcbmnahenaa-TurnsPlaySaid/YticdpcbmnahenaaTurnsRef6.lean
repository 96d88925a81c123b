/- The document's own answer for turns, sixth part: Begin. -/
import Derived.Test.YticdpcbmnahenaaTurnsRef4
namespace Go.Proofs.Yticdpcbmnahenaa
open Go.ChangeShapes Go.WideShapes Go.ChangeAt Go.RowKit
set_option linter.unusedSimpArgs false
set_option linter.unusedVariables false

theorem LR.tail {w : World} {lo g o : Nat} {x : Nat} {L Ls : List Nat} {c : Nat} (h : LR w lo (some ⟨g, o, none⟩) L c) (hL : L = x :: Ls) : LR w lo (some ⟨g, o + 1, none⟩) Ls (c - 1) := by
  subst hL
  obtain ⟨h1, h2, h3⟩ := h
  rcases h3 with ⟨e, _⟩ | ⟨g2, o2, e, h4, h5⟩
  · cases e
  · injection e with e
    injection e with e1 e2
    subst e1 e2
    exact ⟨h1, by simp at h2; omega, Or.inr ⟨g, o + 1, rfl, h4, h5.tail⟩⟩
theorem LR.last {w : World} {lo g o : Nat} {L Ls : List Nat} {c : Nat} (h : LR w lo (some ⟨g, o, none⟩) L c) (hL : Ls = []) : LR w lo (some ⟨g, o, none⟩) Ls 0 := by
  subst hL
  obtain ⟨h1, h2, h3⟩ := h
  rcases h3 with ⟨e, _⟩ | ⟨g2, o2, e, h4, h5⟩
  · cases e
  · injection e with e
    injection e with e1 e2
    subst e1 e2
    exact ⟨h1, by simp, Or.inr ⟨g, o, rfl, h4, h5.1, fun j hj => absurd hj (by simp)⟩⟩
set_option maxRecDepth 20000 in
set_option maxHeartbeats 4000000 in
theorem tr_begin_no (lo n : Nat) (q : Int) (r : Option Addr) (L : List Nat) (cr : Nat) (a : Option Addr) (M : List (Int × Int)) (c : Nat) (wv : Int) (dn : Nat)  (w : World) (hL : L.length ≤ 1024) (hM : M.length ≤ 1000) (hc : M.length ≤ c ∧ c ≤ 9223372036854775807) (hr : LR w lo r L cr) (ha : RL w lo a M) (hno : 0 ≤ wv ∨ L = []) :
    Calls Try.prog 11 #[.agg #[.slice r L.length cr, .int .i64 n, .int .i64 q, .slice a M.length c, .int .i64 wv, .int .i64 dn]] w fun e w' => ∃ v, e = .returned (.tuple #[v, .int .i64 (-1)]) ∧ TPost w lo n q L M wv dn v w' := by
  have HNO := Lib.hid hno
  clear hno
  obtain ⟨l, hl⟩ : ∃ l, L.length = l := ⟨_, rfl⟩
  have HL := Lib.hid hl
  obtain ⟨m, hm⟩ : ∃ m, M.length = m := ⟨_, rfl⟩
  have HM := Lib.hid hm
  have HR := Lib.hid hr
  have HA := Lib.hid ha
  have HLM : Hid (L.length ≤ 1024 ∧ M.length ≤ 1000 ∧ (M.length ≤ c ∧ c ≤ 9223372036854775807)) := Lib.hid ⟨hL, hM, hc⟩
  rw [hl] at hL ⊢
  rw [hm] at hM hc ⊢
  clear hl hm hr ha
  have HB := Lib.hid (TB.start w #[.slice r l cr, .int .i64 n, .int .i64 q, .slice a m c, .int .i64 wv, .int .i64 dn] #[.slice none 0 0, .int .i64 0, .int .i64 0, .slice none 0 0, .int .i64 0, .int .i64 0])
  go_enter Try.func11, Try.ntmps11
  go_upto_region 1 with fail
  revert HB
  generalize (w.alloc (Obj.cells #[.slice r l cr, .int .i64 n, .int .i64 q, .slice a m c, .int .i64 wv, .int .i64 dn] 32)).alloc (Obj.cells #[.slice none 0 0, .int .i64 0, .int .i64 0, .slice none 0 0, .int .i64 0, .int .i64 0] 32) = W
  intro HB
  have b4 := HB.out.1.cell (i := 4) rfl
  have b0 := HB.out.1.cell (i := 0) rfl
  by_cases g1 : 0 ≤ wv
  · go_upto_region 2 with fail
    clear b4 b0
    have q0 := HB.out.1.cell (i := 0) rfl
    have q1 := HB.out.1.cell (i := 1) rfl
    have q2 := HB.out.1.cell (i := 2) rfl
    have q3 := HB.out.1.cell (i := 3) rfl
    have q4 := HB.out.1.cell (i := 4) rfl
    have q5 := HB.out.1.cell (i := 5) rfl
    have r0 := HB.out.2.1.cell (i := 0) rfl
    have r1 := HB.out.2.1.cell (i := 1) rfl
    have r2 := HB.out.2.1.cell (i := 2) rfl
    have r3 := HB.out.2.1.cell (i := 3) rfl
    have r4 := HB.out.2.1.cell (i := 4) rfl
    have r5 := HB.out.2.1.cell (i := 5) rfl
    have f0 := HB.out.2.1.free 0
    have f1 := HB.out.2.1.free 1
    have f2 := HB.out.2.1.free 2
    have f3 := HB.out.2.1.free 3
    have f4 := HB.out.2.1.free 4
    have f5 := HB.out.2.1.free 5
    go_wp2_with fail
    have HZ := Lib.hid (TB.setR (a := .slice r l cr) (b := .int .i64 n) (c := .int .i64 q) (d := .slice a m c) (e := .int .i64 wv) (f := .int .i64 dn) HB.out)
    have HCH := Lib.hid (chg6 (w0 := w) (w := W) (a := .slice r l cr) (b := .int .i64 n) (c := .int .i64 q) (d := .slice a m c) (e := .int .i64 wv) (f := .int .i64 dn))
    clear q0 q1 q2 q3 q4 q5 r0 r1 r2 r3 r4 r5 f0 f1 f2 f3 f4 f5
    revert HZ HCH
    generalize ((((((W).setCell ⟨w.heap.size + 1, 0, none⟩ (.slice r l cr)).setCell ⟨w.heap.size + 1, 1, none⟩ (.int .i64 n)).setCell ⟨w.heap.size + 1, 2, none⟩ (.int .i64 q)).setCell ⟨w.heap.size + 1, 3, none⟩ (.slice a m c)).setCell ⟨w.heap.size + 1, 4, none⟩ (.int .i64 wv)).setCell ⟨w.heap.size + 1, 5, none⟩ (.int .i64 dn) = WZ
    intro HZ HCH
    have r0 := HZ.out.2.1.cell (i := 0) rfl
    have r1 := HZ.out.2.1.cell (i := 1) rfl
    have r2 := HZ.out.2.1.cell (i := 2) rfl
    have r3 := HZ.out.2.1.cell (i := 3) rfl
    have r4 := HZ.out.2.1.cell (i := 4) rfl
    have r5 := HZ.out.2.1.cell (i := 5) rfl
    refine bodyPost_ret (v := .tuple #[.agg #[.slice r l cr, .int .i64 n, .int .i64 q, .slice a m c, .int .i64 wv, .int .i64 dn], .int .i64 (-1)]) (by simp [results, Try.results11, go_sem, r0, r1, r2, r3, r4, r5]) rfl ?_
    exact ⟨_, rfl, r, cr, a, c, by rw [HL.out, HM.out], HR.out.fresh HZ.out.2.2, HA.out.fresh HZ.out.2.2, HLM.out.2.2, HZ.out.2.2⟩
  · have hl0 : l = 0 := by
      rcases HNO.out with h | h
      · exact absurd h g1
      · have := HL.out; rw [h] at this; exact this.symm
    have g2 : ¬ 0 ≤ wv := g1
    subst hl0
    go_upto_region 2 with fail
    clear b4 b0
    have q0 := HB.out.1.cell (i := 0) rfl
    have q1 := HB.out.1.cell (i := 1) rfl
    have q2 := HB.out.1.cell (i := 2) rfl
    have q3 := HB.out.1.cell (i := 3) rfl
    have q4 := HB.out.1.cell (i := 4) rfl
    have q5 := HB.out.1.cell (i := 5) rfl
    have r0 := HB.out.2.1.cell (i := 0) rfl
    have r1 := HB.out.2.1.cell (i := 1) rfl
    have r2 := HB.out.2.1.cell (i := 2) rfl
    have r3 := HB.out.2.1.cell (i := 3) rfl
    have r4 := HB.out.2.1.cell (i := 4) rfl
    have r5 := HB.out.2.1.cell (i := 5) rfl
    have f0 := HB.out.2.1.free 0
    have f1 := HB.out.2.1.free 1
    have f2 := HB.out.2.1.free 2
    have f3 := HB.out.2.1.free 3
    have f4 := HB.out.2.1.free 4
    have f5 := HB.out.2.1.free 5
    go_wp2_with fail
    have HZ := Lib.hid (TB.setR (a := .slice r 0 cr) (b := .int .i64 n) (c := .int .i64 q) (d := .slice a m c) (e := .int .i64 wv) (f := .int .i64 dn) HB.out)
    have HCH := Lib.hid (chg6 (w0 := w) (w := W) (a := .slice r 0 cr) (b := .int .i64 n) (c := .int .i64 q) (d := .slice a m c) (e := .int .i64 wv) (f := .int .i64 dn))
    clear q0 q1 q2 q3 q4 q5 r0 r1 r2 r3 r4 r5 f0 f1 f2 f3 f4 f5
    revert HZ HCH
    generalize ((((((W).setCell ⟨w.heap.size + 1, 0, none⟩ (.slice r 0 cr)).setCell ⟨w.heap.size + 1, 1, none⟩ (.int .i64 n)).setCell ⟨w.heap.size + 1, 2, none⟩ (.int .i64 q)).setCell ⟨w.heap.size + 1, 3, none⟩ (.slice a m c)).setCell ⟨w.heap.size + 1, 4, none⟩ (.int .i64 wv)).setCell ⟨w.heap.size + 1, 5, none⟩ (.int .i64 dn) = WZ
    intro HZ HCH
    have r0 := HZ.out.2.1.cell (i := 0) rfl
    have r1 := HZ.out.2.1.cell (i := 1) rfl
    have r2 := HZ.out.2.1.cell (i := 2) rfl
    have r3 := HZ.out.2.1.cell (i := 3) rfl
    have r4 := HZ.out.2.1.cell (i := 4) rfl
    have r5 := HZ.out.2.1.cell (i := 5) rfl
    refine bodyPost_ret (v := .tuple #[.agg #[.slice r 0 cr, .int .i64 n, .int .i64 q, .slice a m c, .int .i64 wv, .int .i64 dn], .int .i64 (-1)]) (by simp [results, Try.results11, go_sem, r0, r1, r2, r3, r4, r5]) rfl ?_
    exact ⟨_, rfl, r, cr, a, c, by rw [HL.out, HM.out], HR.out.fresh HZ.out.2.2, HA.out.fresh HZ.out.2.2, HLM.out.2.2, HZ.out.2.2⟩
set_option maxRecDepth 20000 in
set_option maxHeartbeats 40000000 in
theorem tr_begin_some (lo n : Nat) (q : Int) (r : Option Addr) (L : List Nat) (cr : Nat) (a : Option Addr) (M : List (Int × Int)) (c : Nat) (dn : Nat) (x : Nat) (Ls : List Nat) (w : World) (hL : L.length ≤ 1024) (hM : M.length ≤ 1000) (hc : M.length ≤ c ∧ c ≤ 9223372036854775807) (hr : LR w lo r L cr) (ha : RL w lo a M) (hLx : L = x :: Ls) (hd : dn < 1000000) (hq : 0 ≤ q ∧ q ≤ 1000000) (hb : 0 ≤ lHas M (x : Int) ∧ lHas M (x : Int) ≤ 2000000000) :
    Calls Try.prog 11 #[.agg #[.slice r L.length cr, .int .i64 n, .int .i64 q, .slice a M.length c, .int .i64 (-1), .int .i64 dn]] w fun e w' => ∃ v, e = .returned (.tuple #[v, .int .i64 x]) ∧ TPost w lo n q Ls (lSet n M (x : Int) (lHas M (x : Int) + q)) (x : Int) (dn + 1) v w' := by
  have HBB := Lib.hid hb
  clear hb
  obtain ⟨N, hN⟩ : ∃ N, lSet n M (x : Int) (lHas M (x : Int) + q) = N := ⟨_, rfl⟩
  have HN := Lib.hid hN
  rw [hN]
  obtain ⟨n9, hn9⟩ : ∃ n9, N.length = n9 := ⟨_, rfl⟩
  have HN9 := Lib.hid hn9
  clear hN hn9
  obtain ⟨ls, hls⟩ : ∃ ls, Ls.length = ls := ⟨_, rfl⟩
  have HLS := Lib.hid hls
  obtain ⟨l, hl⟩ : ∃ l, L.length = l := ⟨_, rfl⟩
  have HLX := Lib.hid hLx
  have HL1 : Hid (l = ls + 1) := Lib.hid (by rw [← hl, hLx, ← hls]; rfl)
  clear hls hLx
  have HL := Lib.hid hl
  obtain ⟨m, hm⟩ : ∃ m, M.length = m := ⟨_, rfl⟩
  have HM := Lib.hid hm
  have HR := Lib.hid hr
  have HA := Lib.hid ha
  have HLM : Hid (L.length ≤ 1024 ∧ M.length ≤ 1000 ∧ (M.length ≤ c ∧ c ≤ 9223372036854775807)) := Lib.hid ⟨hL, hM, hc⟩
  rw [hl] at hL ⊢
  rw [hm] at hM hc ⊢
  clear hl hm hr ha
  have HB := Lib.hid (TB.start w #[.slice r l cr, .int .i64 n, .int .i64 q, .slice a m c, .int .i64 (-1), .int .i64 dn] #[.slice none 0 0, .int .i64 0, .int .i64 0, .slice none 0 0, .int .i64 0, .int .i64 0])
  go_enter Try.func11, Try.ntmps11
  go_upto_region 1 with fail
  revert HB
  generalize (w.alloc (Obj.cells #[.slice r l cr, .int .i64 n, .int .i64 q, .slice a m c, .int .i64 (-1), .int .i64 dn] 32)).alloc (Obj.cells #[.slice none 0 0, .int .i64 0, .int .i64 0, .slice none 0 0, .int .i64 0, .int .i64 0] 32) = W
  intro HB
  have hl1 := HL1.out
  subst hl1
  obtain ⟨g, o, hro, hgo⟩ : ∃ g o, r = some ⟨g, o, none⟩ ∧ LAt w g o L := by
    rcases HR.out.2.2 with ⟨_, h, _⟩ | ⟨g, o, h, _, h2⟩
    · rw [HLX.out] at h; cases h
    · exact ⟨g, o, h, h2⟩
  subst hro
  have HGO := Lib.hid (hgo.below HB.out.2.2 hgo.1)
  have hcr := HR.out.2.1
  rw [HL.out] at hcr
  have d0 : W.cell? ⟨g, o, none⟩ = some (.int .i64 x) := by
    have h := HGO.out.2 0 (by rw [HLX.out]; simp)
    rw [Nat.add_zero] at h
    rw [h]
    congr 2
    simp [HLX.out]
  clear hgo
  have hm1 : (0 : Int) < (ls : Int) + 1 := by omega
  have hm2 : (1 : Int) ≤ (ls : Int) + 1 := by omega
  have hm3 : (1 : Int) ≤ (cr : Int) := by omega
  have s1 : IntKind.i64.wrap ((dn : Int) + 1) = (dn : Int) + 1 := IntWalk.i64_in _ (by omega)
  have b0 := HB.out.1.cell (i := 0) rfl
  have b1 := HB.out.1.cell (i := 1) rfl
  have b2 := HB.out.1.cell (i := 2) rfl
  have b3 := HB.out.1.cell (i := 3) rfl
  have b4 := HB.out.1.cell (i := 4) rfl
  have b5 := HB.out.1.cell (i := 5) rfl
  have fb0 := HB.out.1.free 0
  have fb4 := HB.out.1.free 4
  have fb5 := HB.out.1.free 5
  have g1 : ¬ (0 : Int) ≤ -1 := by omega
  by_cases hc1 : cr = 1
  · subst hc1
    have hz : ls = 0 := by omega
    subst hz
    go_upto_region 3 with fail
    go_region
    all_goals
      go_wp2_with fail
      clear b0 b1 b2 b3 b4 b5 d0 fb0 fb4 fb5
      have HB3 := Lib.hid ((((HB.out.setB 4 (.int .i64 x)).setB 0 (.slice (some ⟨g, o, none⟩) 0 0)).setB 5 (.int .i64 ((dn : Int) + 1))).drew)
      revert HB3
      generalize (((W.setCell ⟨w.heap.size, 4, none⟩ (.int .i64 x)).setCell ⟨w.heap.size, 0, none⟩ (.slice (some ⟨g, o, none⟩) 0 0)).setCell ⟨w.heap.size, 5, none⟩ (.int .i64 ((dn : Int) + 1))).drew = W3
      intro HB3
      go_upto_region 5 with (go_at_call 32; rw [← HM.out]; refine (ref_give n q lo a M c (x : Int) _ HLM.out.2.1 HLM.out.2.2 (HA.out.fresh HB3.out.2.2) hq HBB.out).mono ?_; rintro e w2 ⟨v, rfl, g9, c9, rfl, k1, k2, k3, k4⟩; rw [HN.out] at k1 k3 ⊢; rw [HN9.out, HM.out]; have HB2 := Lib.hid (HB3.out.on k2); have HQ2 := Lib.hid k1; have HC2 := Lib.hid (And.intro k3 k4); have hsz := HB3.out.size; clear k1 k2 k3 k4; have e1 := HB2.out.1.cell (i := 1) rfl; have e2 := HB2.out.1.cell (i := 2) rfl; have e3 := HB2.out.1.cell (i := 3) rfl; have fe1 := HB2.out.1.free 1; have fe2 := HB2.out.1.free 2; have fe3 := HB2.out.1.free 3)
      clear e1 e2 e3 fe1 fe2 fe3
      have HB5 := Lib.hid (TB.setP (a := .int .i64 n) (b := .int .i64 q) (c := .slice (some ⟨g9, 0, none⟩) n9 c9) HB2.out)
      have HQ5 := Lib.hid (RL.setP (w0 := w) (a := .int .i64 n) (b := .int .i64 q) (c := .slice (some ⟨g9, 0, none⟩) n9 c9) HQ2.out (by omega))
      revert HB5 HQ5
      generalize (((w2).setCell ⟨w.heap.size, 1, none⟩ (.int .i64 n)).setCell ⟨w.heap.size, 2, none⟩ (.int .i64 q)).setCell ⟨w.heap.size, 3, none⟩ (.slice (some ⟨g9, 0, none⟩) n9 c9) = W5
      intro HB5 HQ5
      have q0 := HB5.out.1.cell (i := 0) rfl
      have q1 := HB5.out.1.cell (i := 1) rfl
      have q2 := HB5.out.1.cell (i := 2) rfl
      have q3 := HB5.out.1.cell (i := 3) rfl
      have q4 := HB5.out.1.cell (i := 4) rfl
      have q5 := HB5.out.1.cell (i := 5) rfl
      have r0 := HB5.out.2.1.cell (i := 0) rfl
      have r1 := HB5.out.2.1.cell (i := 1) rfl
      have r2 := HB5.out.2.1.cell (i := 2) rfl
      have r3 := HB5.out.2.1.cell (i := 3) rfl
      have r4 := HB5.out.2.1.cell (i := 4) rfl
      have r5 := HB5.out.2.1.cell (i := 5) rfl
      have f0 := HB5.out.2.1.free 0
      have f1 := HB5.out.2.1.free 1
      have f2 := HB5.out.2.1.free 2
      have f3 := HB5.out.2.1.free 3
      have f4 := HB5.out.2.1.free 4
      have f5 := HB5.out.2.1.free 5
      go_region
      go_wp2_with fail
      have HZ := Lib.hid (TB.drew (TB.setR (a := .slice (some ⟨g, o, none⟩) 0 0) (b := .int .i64 n) (c := .int .i64 q) (d := .slice (some ⟨g9, 0, none⟩) n9 c9) (e := .int .i64 x) (f := .int .i64 ((dn : Int) + 1)) HB5.out))
      have HCH := Lib.hid (Chg.drew (chg6 (w0 := w) (w := W5) (a := .slice (some ⟨g, o, none⟩) 0 0) (b := .int .i64 n) (c := .int .i64 q) (d := .slice (some ⟨g9, 0, none⟩) n9 c9) (e := .int .i64 x) (f := .int .i64 ((dn : Int) + 1))))
      clear q0 q1 q2 q3 q4 q5 r0 r1 r2 r3 r4 r5 f0 f1 f2 f3 f4 f5
      revert HZ HCH
      generalize (((((((W5).setCell ⟨w.heap.size + 1, 0, none⟩ (.slice (some ⟨g, o, none⟩) 0 0)).setCell ⟨w.heap.size + 1, 1, none⟩ (.int .i64 n)).setCell ⟨w.heap.size + 1, 2, none⟩ (.int .i64 q)).setCell ⟨w.heap.size + 1, 3, none⟩ (.slice (some ⟨g9, 0, none⟩) n9 c9)).setCell ⟨w.heap.size + 1, 4, none⟩ (.int .i64 x)).setCell ⟨w.heap.size + 1, 5, none⟩ (.int .i64 ((dn : Int) + 1))).drew = WZ
      intro HZ HCH
      have r0 := HZ.out.2.1.cell (i := 0) rfl
      have r1 := HZ.out.2.1.cell (i := 1) rfl
      have r2 := HZ.out.2.1.cell (i := 2) rfl
      have r3 := HZ.out.2.1.cell (i := 3) rfl
      have r4 := HZ.out.2.1.cell (i := 4) rfl
      have r5 := HZ.out.2.1.cell (i := 5) rfl
      refine bodyPost_ret (v := .tuple #[.agg #[.slice (some ⟨g, o, none⟩) 0 0, .int .i64 n, .int .i64 q, .slice (some ⟨g9, 0, none⟩) n9 c9, .int .i64 x, .int .i64 ((dn : Int) + 1)], .int .i64 x]) (by simp [results, Try.results11, go_sem, r0, r1, r2, r3, r4, r5]) rfl ?_
      have hb := HZ.out.2.2
      refine ⟨_, rfl, _, _, _, c9, by rw [HN9.out, HLS.out, show ((dn + 1 : Nat) : Int) = (dn : Int) + 1 by omega], (LR.last HR.out (by rw [← List.length_eq_zero_iff]; exact HLS.out)).fresh hb, ?_, HC2.out, hb⟩
      exact (HQ5.out.chg HCH.out (by simp; omega)).down (by have := HR.out.1; omega)
  · skip
    go_upto_region 3 with fail
    go_region
    all_goals
      go_wp2_with fail
      clear b0 b1 b2 b3 b4 b5 d0 fb0 fb4 fb5
      have HB3 := Lib.hid ((((HB.out.setB 4 (.int .i64 x)).setB 0 (.slice (some ⟨g, o + 1, none⟩) ls (cr - 1))).setB 5 (.int .i64 ((dn : Int) + 1))).drew)
      revert HB3
      generalize (((W.setCell ⟨w.heap.size, 4, none⟩ (.int .i64 x)).setCell ⟨w.heap.size, 0, none⟩ (.slice (some ⟨g, o + 1, none⟩) ls (cr - 1))).setCell ⟨w.heap.size, 5, none⟩ (.int .i64 ((dn : Int) + 1))).drew = W3
      intro HB3
      go_upto_region 5 with (go_at_call 32; rw [← HM.out]; refine (ref_give n q lo a M c (x : Int) _ HLM.out.2.1 HLM.out.2.2 (HA.out.fresh HB3.out.2.2) hq HBB.out).mono ?_; rintro e w2 ⟨v, rfl, g9, c9, rfl, k1, k2, k3, k4⟩; rw [HN.out] at k1 k3 ⊢; rw [HN9.out, HM.out]; have HB2 := Lib.hid (HB3.out.on k2); have HQ2 := Lib.hid k1; have HC2 := Lib.hid (And.intro k3 k4); have hsz := HB3.out.size; clear k1 k2 k3 k4; have e1 := HB2.out.1.cell (i := 1) rfl; have e2 := HB2.out.1.cell (i := 2) rfl; have e3 := HB2.out.1.cell (i := 3) rfl; have fe1 := HB2.out.1.free 1; have fe2 := HB2.out.1.free 2; have fe3 := HB2.out.1.free 3)
      clear e1 e2 e3 fe1 fe2 fe3
      have HB5 := Lib.hid (TB.setP (a := .int .i64 n) (b := .int .i64 q) (c := .slice (some ⟨g9, 0, none⟩) n9 c9) HB2.out)
      have HQ5 := Lib.hid (RL.setP (w0 := w) (a := .int .i64 n) (b := .int .i64 q) (c := .slice (some ⟨g9, 0, none⟩) n9 c9) HQ2.out (by omega))
      revert HB5 HQ5
      generalize (((w2).setCell ⟨w.heap.size, 1, none⟩ (.int .i64 n)).setCell ⟨w.heap.size, 2, none⟩ (.int .i64 q)).setCell ⟨w.heap.size, 3, none⟩ (.slice (some ⟨g9, 0, none⟩) n9 c9) = W5
      intro HB5 HQ5
      have q0 := HB5.out.1.cell (i := 0) rfl
      have q1 := HB5.out.1.cell (i := 1) rfl
      have q2 := HB5.out.1.cell (i := 2) rfl
      have q3 := HB5.out.1.cell (i := 3) rfl
      have q4 := HB5.out.1.cell (i := 4) rfl
      have q5 := HB5.out.1.cell (i := 5) rfl
      have r0 := HB5.out.2.1.cell (i := 0) rfl
      have r1 := HB5.out.2.1.cell (i := 1) rfl
      have r2 := HB5.out.2.1.cell (i := 2) rfl
      have r3 := HB5.out.2.1.cell (i := 3) rfl
      have r4 := HB5.out.2.1.cell (i := 4) rfl
      have r5 := HB5.out.2.1.cell (i := 5) rfl
      have f0 := HB5.out.2.1.free 0
      have f1 := HB5.out.2.1.free 1
      have f2 := HB5.out.2.1.free 2
      have f3 := HB5.out.2.1.free 3
      have f4 := HB5.out.2.1.free 4
      have f5 := HB5.out.2.1.free 5
      go_region
      go_wp2_with fail
      have HZ := Lib.hid (TB.drew (TB.setR (a := .slice (some ⟨g, o + 1, none⟩) ls (cr - 1)) (b := .int .i64 n) (c := .int .i64 q) (d := .slice (some ⟨g9, 0, none⟩) n9 c9) (e := .int .i64 x) (f := .int .i64 ((dn : Int) + 1)) HB5.out))
      have HCH := Lib.hid (Chg.drew (chg6 (w0 := w) (w := W5) (a := .slice (some ⟨g, o + 1, none⟩) ls (cr - 1)) (b := .int .i64 n) (c := .int .i64 q) (d := .slice (some ⟨g9, 0, none⟩) n9 c9) (e := .int .i64 x) (f := .int .i64 ((dn : Int) + 1))))
      clear q0 q1 q2 q3 q4 q5 r0 r1 r2 r3 r4 r5 f0 f1 f2 f3 f4 f5
      revert HZ HCH
      generalize (((((((W5).setCell ⟨w.heap.size + 1, 0, none⟩ (.slice (some ⟨g, o + 1, none⟩) ls (cr - 1))).setCell ⟨w.heap.size + 1, 1, none⟩ (.int .i64 n)).setCell ⟨w.heap.size + 1, 2, none⟩ (.int .i64 q)).setCell ⟨w.heap.size + 1, 3, none⟩ (.slice (some ⟨g9, 0, none⟩) n9 c9)).setCell ⟨w.heap.size + 1, 4, none⟩ (.int .i64 x)).setCell ⟨w.heap.size + 1, 5, none⟩ (.int .i64 ((dn : Int) + 1))).drew = WZ
      intro HZ HCH
      have r0 := HZ.out.2.1.cell (i := 0) rfl
      have r1 := HZ.out.2.1.cell (i := 1) rfl
      have r2 := HZ.out.2.1.cell (i := 2) rfl
      have r3 := HZ.out.2.1.cell (i := 3) rfl
      have r4 := HZ.out.2.1.cell (i := 4) rfl
      have r5 := HZ.out.2.1.cell (i := 5) rfl
      refine bodyPost_ret (v := .tuple #[.agg #[.slice (some ⟨g, o + 1, none⟩) ls (cr - 1), .int .i64 n, .int .i64 q, .slice (some ⟨g9, 0, none⟩) n9 c9, .int .i64 x, .int .i64 ((dn : Int) + 1)], .int .i64 x]) (by simp [results, Try.results11, go_sem, r0, r1, r2, r3, r4, r5]) rfl ?_
      have hb := HZ.out.2.2
      refine ⟨_, rfl, _, _, _, c9, by rw [HN9.out, HLS.out, show ((dn + 1 : Nat) : Int) = (dn : Int) + 1 by omega], (LR.tail HR.out HLX.out).fresh hb, ?_, HC2.out, hb⟩
      exact (HQ5.out.chg HCH.out (by simp; omega)).down (by have := HR.out.1; omega)
end Go.Proofs.Yticdpcbmnahenaa
