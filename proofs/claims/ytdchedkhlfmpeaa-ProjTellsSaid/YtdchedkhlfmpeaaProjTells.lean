/- P31.1, P31.2: for every list of events and every number: the life of any one, all who were opened, and the rounds. No condition. -/
import Derived.Test.YtdchedkhlfmpeaaOpen
import Derived.WalkKit
import Derived.ProofKit
import Derived.OpenShut
import Derived.Test.YtdchedkhlfmpeaaEv10
import Derived.Test.YtdchedkhlfmpeaaEv19
import Derived.Test.YtdchedkhlfmpeaaClass
namespace Go.Proofs.Ytdchedkhlfmpeaa.projTells
open Go.Joins Go.ChangeShapes Go.WideShapes Go.ChangeAt Go.RowKit Go.Deep
open Go.ChangeMaps (open_string)
set_option linter.unusedSimpArgs false
set_option linter.unusedVariables false

set_option maxRecDepth 100000 in
set_option maxHeartbeats 16000000 in

theorem walk (a0 : Option Addr) (len0 cap0 : Nat) (z0 : List Ev) (a1 : Int) (w : World) (w0 : IsEv w a0 len0 cap0 z0) (w1 : (Lit.int .i64 a1).wf = true) :
    Calls Try.prog 3 #[.slice a0 len0 cap0, .int .i64 a1] w fun e w' => e = .returned (.bool true) ∧ Below w.heap.size w w' := by
  obtain ⟨hl, hlc, hcm, HE⟩ := w0
  obtain ⟨L2, hL2⟩ : ∃ L2, fewE 16 z0 = L2 := ⟨_, rfl⟩
  obtain ⟨m, hm⟩ : ∃ m, L2.length = m := ⟨_, rfl⟩
  have hm16 : m ≤ 16 := by rw [← hm, ← hL2, fewE_len]; omega
  have HL2 : Hid (fewE 16 z0 = L2 ∧ L2.length = m ∧ (∀ x ∈ L2, x.ok) ∧ Ev.sum L2 ≤ 1000 ∧ fewE 16 L2 = L2) := Lib.hid ⟨hL2, hm, by rw [← hL2]; exact fewE_ok HE.ok, by
    have := Ev.sum_le (L := L2) (B := 24) (by rw [← hL2]; exact fewE_b)
    rw [hm] at this
    have h2 : m * 24 ≤ 16 * 24 := Nat.mul_le_mul_right _ hm16
    omega, by rw [← hL2]; exact fewE_fewE 16 z0⟩
  have HIN := Lib.hid (And.intro hl (And.intro hlc (And.intro hcm HE)))
  clear hL2 hm hl hlc hcm HE
  obtain ⟨⟨i0, sc, fr, T, ok⟩, hlf⟩ : ∃ p, Pj.lifeD a1 L2 = p := ⟨_, rfl⟩
  obtain ⟨nT, hnT⟩ : ∃ n, T.length = n := ⟨_, rfl⟩
  obtain ⟨nS, hnS⟩ : ∃ n, (Pj.stE T).length = n := ⟨_, rfl⟩
  obtain ⟨rd, hrd⟩ : ∃ x, Pj.rd T = x := ⟨_, rfl⟩
  obtain ⟨tk, htk⟩ : ∃ x, Pj.tk T = x := ⟨_, rfl⟩
  obtain ⟨eo, heo⟩ : ∃ x, Pj.eof T = x := ⟨_, rfl⟩
  obtain ⟨st, hst⟩ : ∃ x, Pj.ss T = x := ⟨_, rfl⟩
  have hT := Pj.lifeD_ok HL2.out.2.2.1 hlf
  have HT : Hid (Pj.lifeD a1 L2 = (i0, sc, fr, T, ok) ∧ T.length = nT ∧ (Pj.stE T).length = nS ∧ Pj.rd T = rd ∧ Pj.tk T = tk ∧ Pj.eof T = eo ∧ Pj.ss T = st ∧ (∀ x ∈ T, x.ok)) := Lib.hid ⟨hlf, hnT, hnS, hrd, htk, heo, hst, hT.1⟩
  have hnT16 : nT ≤ 16 := by rw [← hnT]; exact Nat.le_trans hT.2 (by rw [HL2.out.2.1]; exact hm16)
  have hnS16 : nS ≤ 16 := by rw [← hnS]; exact Nat.le_trans (Pj.nst_le T) (by rw [hnT]; exact hnT16)
  clear hT hnT hnS hrd htk heo hst hlf
  obtain ⟨D, hD⟩ : ∃ D, Ev.ids L2 = D := ⟨_, rfl⟩
  obtain ⟨n0, hn0⟩ : ∃ n, D.length = n := ⟨_, rfl⟩
  have hn16 : n0 ≤ 16 := by
    rw [← hn0, ← hD, ← ids_eq]
    refine Nat.le_trans (compact_len _) ?_
    rw [List.length_mergeSort]
    unfold Ev.ops
    rw [List.length_map]
    exact Nat.le_trans (List.length_filter_le _ _) (by rw [HL2.out.2.1]; exact hm16)
  have HD := Lib.hid (And.intro hD hn0)
  clear hD hn0
  obtain ⟨nr, hnr⟩ : ∃ n, (Ev.chk L2).2.length = n := ⟨_, rfl⟩
  obtain ⟨np, hnp⟩ : ∃ n, (Ev.chk L2).1.length = n := ⟨_, rfl⟩
  have hnr16 : nr ≤ m := by rw [← hnr, ← (Ev.chk_all L2).2.2.2.2]; exact Nat.le_trans (List.length_filter_le _ _) (by rw [HL2.out.2.1]; exact Nat.le_refl _)
  have hnpm : np ≤ m := by
    have h := congrArg List.length (Ev.chk_all L2).1
    rw [List.length_append, hnp, HL2.out.2.1] at h
    omega
  have HC := Lib.hid (And.intro hnr hnp)
  clear hnr hnp
  go_enter Try.func3, Try.ntmps3
  go_upto_region 2 with (first
    | (go_at_call 8; (refine (few_ev a0 len0 cap0 z0 HIN.out.1 (by have := HIN.out.2.1; have := HIN.out.2.2.1; omega) 16 (by omega) 16 rfl L2 HL2.out.1 m HL2.out.2.1 _ HIN.out.2.2.2).mono ?_); rintro r4 W4 ⟨gl, cl, rfl, q1, q2, q3⟩; have H1 : Hid (Rn W4 gl cl 12 (evs L2) 47 ∧ w.heap.size ≤ gl ∧ Below w.heap.size w W4) := Lib.hid ⟨q1, q2, q3⟩; clear q1 q2 q3)
    | fail)
  have hcl : m ≤ cl := by have := H1.out.1.len; rw [evs_len, HL2.out.2.1] at this; omega
  go_upto_region 3 with (first
    | (go_at_call 8; (refine (few_ev (some ⟨gl, 0, none⟩) m cl L2 HL2.out.2.1 (by unfold maxLen; omega) 16 (by omega) 16 rfl L2 HL2.out.2.2.2.2 m HL2.out.2.1 _ (EL.of_rn H1.out.1 HL2.out.2.2.1)).mono ?_); rintro r5 W5 ⟨g2, c2, rfl, q1, q2, q3⟩; have H2 : Hid (Rn W5 g2 c2 12 (evs L2) 47 ∧ Rn W5 gl cl 12 (evs L2) 47 ∧ Below w.heap.size w W5) := Lib.hid ⟨q1, H1.out.1.chg (l := []) (Chg.of_fresh q3) (by simp), H1.out.2.2.trans (q3.mono H1.out.2.2.size)⟩; have hc2 : m ≤ c2 := (by have := q1.len; rw [evs_len, HL2.out.2.1] at this; omega); clear q1 q2 q3)
    | (go_at_call 9; (refine (of_any (some ⟨g2, 0, none⟩) m c2 L2 HL2.out.2.1 (by omega) hc2 (by have := HL2.out.2.2.2.1; omega) a1 i0 sc fr T ok HT.out.1 eo HT.out.2.2.2.2.2.1 st HT.out.2.2.2.2.2.2.1 rd tk HT.out.2.2.2.1 HT.out.2.2.2.2.1 nT nS HT.out.2.1 HT.out.2.2.1 _ (EL.of_rn H2.out.1 HL2.out.2.2.1)).mono ?_); rintro r6 W6 ⟨r1, k1, r2, k2, rfl, p1, p2, bb⟩; have H3 : Hid (Blk (W6.alloc (.cells #[.int .i64 i0, .int .i64 sc, .int .i64 fr, .slice r1 nT k1, .slice r2 nS k2, .string rd, .string tk, .bool eo, .int .i64 st] 27)) W6.heap.size [.int .i64 i0, .int .i64 sc, .int .i64 fr, .slice r1 nT k1, .slice r2 nS k2, .string rd, .string tk, .bool eo, .int .i64 st] 27 ∧ Rn (W6.alloc (.cells #[.int .i64 i0, .int .i64 sc, .int .i64 fr, .slice r1 nT k1, .slice r2 nS k2, .string rd, .string tk, .bool eo, .int .i64 st] 27)) gl cl 12 (evs L2) 47 ∧ RE (W6.alloc (.cells #[.int .i64 i0, .int .i64 sc, .int .i64 fr, .slice r1 nT k1, .slice r2 nS k2, .string rd, .string tk, .bool eo, .int .i64 st] 27)) r1 4 Pj.inC T ∧ RE (W6.alloc (.cells #[.int .i64 i0, .int .i64 sc, .int .i64 fr, .slice r1 nT k1, .slice r2 nS k2, .string rd, .string tk, .bool eo, .int .i64 st] 27)) r2 6 Ev.st (Pj.stE T) ∧ Below w.heap.size w (W6.alloc (.cells #[.int .i64 i0, .int .i64 sc, .int .i64 fr, .slice r1 nT k1, .slice r2 nS k2, .string rd, .string tk, .bool eo, .int .i64 st] 27))) := Lib.hid ⟨Blk.newA _ _ _, (H2.out.2.1.chg (l := []) (Chg.of_fresh bb) (by simp)).chg (l := []) ((Chg.refl [] _).alloc _) (by simp), p1.below ((Below.refl _ _).alloc (Nat.le_refl _) _), p2.below ((Below.refl _ _).alloc (Nat.le_refl _) _), (H2.out.2.2.trans (bb.mono H2.out.2.2.size)).alloc (H2.out.2.2.trans (bb.mono H2.out.2.2.size)).size _⟩; clear p1 p2 bb)
    | fail)
  clear H1 H2
  revert H3
  generalize (W6.alloc (.cells #[.int .i64 i0, .int .i64 sc, .int .i64 fr, .slice r1 nT k1, .slice r2 nS k2, .string rd, .string tk, .bool eo, .int .i64 st] 27)) = W7
  generalize hX1 : W6.heap.size = X1
  intro H3
  clear hX1
  go_upto_region 4 with (first
    | (go_at_call 10; (refine (rf_any (some ⟨gl, 0, none⟩) m cl L2 HL2.out.2.1 (by omega) (by have := HL2.out.2.2.2.1; omega) a1 i0 sc fr T ok HT.out.1 eo HT.out.2.2.2.2.2.1 st HT.out.2.2.2.2.2.2.1 rd tk HT.out.2.2.2.1 HT.out.2.2.2.2.1 nT nS HT.out.2.1 HT.out.2.2.1 _ (EL.of_rn H3.out.2.1 HL2.out.2.2.1)).mono ?_); rintro r9 W9 ⟨r3, k3, r4, k4, r5, k5, rfl, p1, p2, bb⟩; have H4 : Hid (Blk (W9.alloc (.cells #[.int .i64 i0, .int .i64 sc, .int .i64 fr, .slice r3 nT k3, .slice r4 nT k4, .slice r5 nS k5, .string rd, .string tk, .bool eo, .int .i64 st] 32)) X1 [.int .i64 i0, .int .i64 sc, .int .i64 fr, .slice r1 nT k1, .slice r2 nS k2, .string rd, .string tk, .bool eo, .int .i64 st] 27 ∧ Blk (W9.alloc (.cells #[.int .i64 i0, .int .i64 sc, .int .i64 fr, .slice r3 nT k3, .slice r4 nT k4, .slice r5 nS k5, .string rd, .string tk, .bool eo, .int .i64 st] 32)) W9.heap.size [.int .i64 i0, .int .i64 sc, .int .i64 fr, .slice r3 nT k3, .slice r4 nT k4, .slice r5 nS k5, .string rd, .string tk, .bool eo, .int .i64 st] 32 ∧ Rn (W9.alloc (.cells #[.int .i64 i0, .int .i64 sc, .int .i64 fr, .slice r3 nT k3, .slice r4 nT k4, .slice r5 nS k5, .string rd, .string tk, .bool eo, .int .i64 st] 32)) gl cl 12 (evs L2) 47 ∧ RE (W9.alloc (.cells #[.int .i64 i0, .int .i64 sc, .int .i64 fr, .slice r3 nT k3, .slice r4 nT k4, .slice r5 nS k5, .string rd, .string tk, .bool eo, .int .i64 st] 32)) r1 4 Pj.inC T ∧ RE (W9.alloc (.cells #[.int .i64 i0, .int .i64 sc, .int .i64 fr, .slice r3 nT k3, .slice r4 nT k4, .slice r5 nS k5, .string rd, .string tk, .bool eo, .int .i64 st] 32)) r2 6 Ev.st (Pj.stE T) ∧ RE (W9.alloc (.cells #[.int .i64 i0, .int .i64 sc, .int .i64 fr, .slice r3 nT k3, .slice r4 nT k4, .slice r5 nS k5, .string rd, .string tk, .bool eo, .int .i64 st] 32)) r3 4 Pj.inC T ∧ RE (W9.alloc (.cells #[.int .i64 i0, .int .i64 sc, .int .i64 fr, .slice r3 nT k3, .slice r4 nT k4, .slice r5 nS k5, .string rd, .string tk, .bool eo, .int .i64 st] 32)) r5 6 Ev.st (Pj.stE T) ∧ Below w.heap.size w (W9.alloc (.cells #[.int .i64 i0, .int .i64 sc, .int .i64 fr, .slice r3 nT k3, .slice r4 nT k4, .slice r5 nS k5, .string rd, .string tk, .bool eo, .int .i64 st] 32))) := Lib.hid ⟨(H3.out.1.below bb H3.out.1.lt).alloc _, Blk.newA _ _ _, (H3.out.2.1.chg (l := []) (Chg.of_fresh bb) (by simp)).chg (l := []) ((Chg.refl [] _).alloc _) (by simp), (H3.out.2.2.1.below bb).below ((Below.refl _ _).alloc (Nat.le_refl _) _), (H3.out.2.2.2.1.below bb).below ((Below.refl _ _).alloc (Nat.le_refl _) _), p1.below ((Below.refl _ _).alloc (Nat.le_refl _) _), p2.below ((Below.refl _ _).alloc (Nat.le_refl _) _), (H3.out.2.2.2.2.trans (bb.mono H3.out.2.2.2.2.size)).alloc (H3.out.2.2.2.2.trans (bb.mono H3.out.2.2.2.2.size)).size _⟩; clear p1 p2 bb)
    | fail)
  clear H3
  revert H4
  generalize (W9.alloc (.cells #[.int .i64 i0, .int .i64 sc, .int .i64 fr, .slice r3 nT k3, .slice r4 nT k4, .slice r5 nS k5, .string rd, .string tk, .bool eo, .int .i64 st] 32)) = V
  generalize hX2 : W9.heap.size = X2
  intro H4
  clear hX2
  have x0 := H4.out.1.cell (i := 0) rfl
  have x1 := H4.out.1.cell (i := 1) rfl
  have x2 := H4.out.1.cell (i := 2) rfl
  have x3 := H4.out.1.cell (i := 3) rfl
  have x4 := H4.out.1.cell (i := 4) rfl
  have x5 := H4.out.1.cell (i := 5) rfl
  have x6 := H4.out.1.cell (i := 6) rfl
  have x7 := H4.out.1.cell (i := 7) rfl
  have x8 := H4.out.1.cell (i := 8) rfl
  have y0 := H4.out.2.1.cell (i := 0) rfl
  have y1 := H4.out.2.1.cell (i := 1) rfl
  have y2 := H4.out.2.1.cell (i := 2) rfl
  have y3 := H4.out.2.1.cell (i := 3) rfl
  have y4 := H4.out.2.1.cell (i := 4) rfl
  have y5 := H4.out.2.1.cell (i := 5) rfl
  have y6 := H4.out.2.1.cell (i := 6) rfl
  have y7 := H4.out.2.1.cell (i := 7) rfl
  have y8 := H4.out.2.1.cell (i := 8) rfl
  have y9 := H4.out.2.1.cell (i := 9) rfl
  have hok : (ok != ok) = false := by simp
  have hok2 : ¬ ok ≠ ok := by simp
  go_upto_region 6 with (first
    | (go_at_call 11; (refine (lf_same i0 sc fr T HT.out.2.2.2.2.2.2.2 nT nS HT.out.2.1 HT.out.2.2.1 (by omega) (by omega) r1 r2 r3 r5 r4 k1 k2 k3 k5 k4 rd tk eo st _ H4.out.2.2.2.1 H4.out.2.2.2.2.1 H4.out.2.2.2.2.2.1 H4.out.2.2.2.2.2.2.1).mono ?_); rintro r10 V1 ⟨rfl, bb⟩; have H5 : Hid (Rn V1 gl cl 12 (evs L2) 47 ∧ Below w.heap.size w V1) := Lib.hid ⟨H4.out.2.2.1.chg (l := []) (Chg.of_fresh bb) (by simp), H4.out.2.2.2.2.2.2.2.trans (bb.mono H4.out.2.2.2.2.2.2.2.size)⟩; clear bb H4 x0 x1 x2 x3 x4 x5 x6 x7 x8 y0 y1 y2 y3 y4 y5 y6 y7 y8 y9)
    | (go_at_call 13; (refine (pj_ids (some ⟨gl, 0, none⟩) m cl L2 HL2.out.2.1 (by omega) D HD.out.1 n0 HD.out.2 _ (EL.of_rn H5.out.1 HL2.out.2.2.1)).mono ?_); rintro r11 V2 ⟨ra, ca, rfl, _, p1, _, bb⟩; have H6 : Hid (Rn V2 gl cl 12 (evs L2) 47 ∧ RI V2 ra D ∧ Below w.heap.size w V2) := Lib.hid ⟨H5.out.1.chg (l := []) (Chg.of_fresh bb) (by simp), p1, H5.out.2.trans (bb.mono H5.out.2.size)⟩; clear p1 bb H5)
    | (go_at_call 14; (refine (rf_ids (some ⟨gl, 0, none⟩) m cl L2 HL2.out.2.1 (by omega) D HD.out.1 n0 HD.out.2 _ (EL.of_rn H6.out.1 HL2.out.2.2.1)).mono ?_); rintro r12 V3 ⟨rb, cb, rfl, p1, bb⟩; have H7 : Hid (Rn V3 gl cl 12 (evs L2) 47 ∧ RI V3 ra D ∧ RI V3 rb D ∧ Below w.heap.size w V3) := Lib.hid ⟨H6.out.1.chg (l := []) (Chg.of_fresh bb) (by simp), H6.out.2.1.below bb, p1, H6.out.2.2.trans (bb.mono H6.out.2.2.size)⟩; clear p1 bb H6)
    | (go_at_call 12; (refine (ints_same ra rb n0 ca cb D HD.out.2 (by omega) _ H7.out.2.1 H7.out.2.2.1).mono ?_); rintro r13 V4 ⟨rfl, bb⟩; have H8 : Hid (Rn V4 gl cl 12 (evs L2) 47 ∧ Below w.heap.size w V4) := Lib.hid ⟨H7.out.1.chg (l := []) (Chg.of_fresh bb) (by simp), H7.out.2.2.2.trans (bb.mono H7.out.2.2.2.size)⟩; clear bb H7)
    | fail)
  go_upto_block 0 with (first
    | (go_at_call 15; (refine (pj_rounds (some ⟨gl, 0, none⟩) m cl L2 HL2.out.2.1 (by omega) (Ev.chk L2).2 rfl nr HC.out.1 _ (EL.of_rn H8.out.1 HL2.out.2.2.1)).mono ?_); rintro r14 V5 ⟨rr, cr, rfl, p1, bb⟩; have H9 : Hid (Rn V5 gl cl 12 (evs L2) 47 ∧ RR V5 V4.heap.size rr nr cr (Ev.chk L2).2 ∧ Below w.heap.size w V5) := Lib.hid ⟨H8.out.1.chg (l := []) (Chg.of_fresh bb) (by simp), p1, H8.out.2.trans (bb.mono H8.out.2.size)⟩; clear p1 bb H8)
    | (go_at_call 16; (refine (pj_clocks (some ⟨gl, 0, none⟩) m cl L2 HL2.out.2.1 (by omega) (Ev.clks L2) rfl nr (by rw [Ev.clks_len, HC.out.1]) _ (EL.of_rn H9.out.1 HL2.out.2.2.1)).mono ?_); rintro r15 V6 ⟨rk, ck, rfl, p1, bb⟩; have HQ : Hid (PT w V6 gl cl m L2 rr nr cr V4.heap.size rk) := Lib.hid ⟨H9.out.1.chg (l := []) (Chg.of_fresh bb) (by simp), H9.out.2.1.same (Chg.of_fresh bb), p1, H9.out.2.2.trans (bb.mono H9.out.2.2.size), (H9.out.2.2.trans (bb.mono H9.out.2.2.size)).size⟩; clear p1 bb H9)
    | fail)
  revert HQ
  generalize V4.heap.size = B
  intro HQ
  go_cut [11] from 15 to 64 (fun z wx => z = .int .i64 np ∧ Hid (PT w wx gl cl m L2 rr nr cr B rk))
  case first =>
    go_wp2_with fail
    go_loopw [11] (fun z wr => ∃ j : Nat, z = .int .i64 j ∧ j ≤ np ∧ Hid (PT w wr gl cl m L2 rr nr cr B rk)) (fun z _ => m - (intOf z).toNat)
    case atStart => exact ⟨0, rfl, by omega, HQ⟩
    case round =>
      clear HQ
      obtain ⟨j, rfl, hj, HS⟩ := hrel
      have j0 : (0 : Int) ≤ (j : Int) := by omega
      by_cases hjn : j < np
      · have hjm : j < m := by omega
        have i1 : (j : Int) < (m : Int) := by omega
        have w1 : IntKind.i64.wrap ((j : Int) + 1) = (j : Int) + 1 := IntWalk.i64_in _ (by omega)
        obtain ⟨k, i, n, t, b, e, s0, s1, s2, s3, s4, s5, es⟩ : ∃ k i n t b e s0 s1 s2 s3 s4 s5, L2[j]? = some ⟨k, i, n, t, b, e, s0, s1, s2, s3, s4, s5⟩ := ⟨_, _, _, _, _, _, _, _, _, _, _, _, List.getElem?_eq_getElem (by rw [HL2.out.2.1]; exact hjm)⟩
        obtain ⟨hb, ga, o, h2, hgw, e0, e1, e2, e3, e4, e5, e6, e7, e8, e9, e10, e11⟩ := (EL.of_rn HS.out.1 HL2.out.2.2.1).get es
        injection h2 with h2
        injection h2 with q1 q2 _
        subst q1 q2
        simp only [Nat.zero_add] at e0 e1 e2 e3 e4 e5 e6 e7 e8 e9 e10 e11
        have hk : ¬ k = 1 := Ev.pre_at L2 es (by rw [HC.out.2]; exact hjn)
        clear es hb hgw
        go_wp2_with fail
        go_roundw
        case rel => exact ⟨j + 1, by go_num, by omega, HS⟩
        case measure => simp [intOf]; omega
      · obtain rfl : j = np := by omega
        by_cases hjm : j < m
        · have i1 : (j : Int) < (m : Int) := by omega
          obtain ⟨k, i, n, t, b, e, s0, s1, s2, s3, s4, s5, es⟩ : ∃ k i n t b e s0 s1 s2 s3 s4 s5, L2[j]? = some ⟨k, i, n, t, b, e, s0, s1, s2, s3, s4, s5⟩ := ⟨_, _, _, _, _, _, _, _, _, _, _, _, List.getElem?_eq_getElem (by rw [HL2.out.2.1]; exact hjm)⟩
          obtain ⟨hb, ga, o, h2, hgw, e0, e1, e2, e3, e4, e5, e6, e7, e8, e9, e10, e11⟩ := (EL.of_rn HS.out.1 HL2.out.2.2.1).get es
          injection h2 with h2
          injection h2 with q1 q2 _
          subst q1 q2
          simp only [Nat.zero_add] at e0 e1 e2 e3 e4 e5 e6 e7 e8 e9 e10 e11
          have hk : k = 1 := Ev.pre_end L2 (by rw [HC.out.2]; exact es)
          subst hk
          clear es hb hgw
          go_wp2_with fail
          go_meet
          exact ⟨rfl, HS⟩
        · have i1 : ¬ (j : Int) < (m : Int) := by omega
          go_wp2_with fail
          go_meet
          exact ⟨rfl, HS⟩
  case rest =>
    obtain ⟨rfl, HQ2⟩ := hcut
    clear HT HD HIN hnT16 hnS16 hn16 hok hok2
    clear HQ
    go_upto_block 2 with fail
    go_cut [11, 13] from 65 to 131 (fun z _ wx => z = .int .i64 m ∧ Hid (PT w wx gl cl m L2 rr nr cr B rk))
    case first =>
      go_wp2_with fail
      go_loopw [11, 13] (fun z y wr => ∃ q j : Nat, z = .int .i64 q ∧ y = .int .i64 j ∧ j ≤ nr ∧ q ≤ m ∧ Hid (Ev.off L2 j = q) ∧ Hid (PT w wr gl cl m L2 rr nr cr B rk)) (fun _ y _ => nr - (intOf y).toNat)
      case atStart => exact ⟨np, 0, rfl, rfl, by omega, hnpm, Lib.hid (by rw [Ev.off_zero, HC.out.2]), HQ2⟩
      case round =>
        clear HQ2
        obtain ⟨q, j, rfl, rfl, hj, hqm, HO, HS⟩ := hrel
        have j0 : (0 : Int) ≤ (j : Int) := by omega
        have q0' : (0 : Int) ≤ (q : Int) := by omega
        by_cases hjr : j < nr
        · have i1 : (j : Int) < (nr : Int) := by omega
          have w1 : IntKind.i64.wrap ((j : Int) + 1) = (j : Int) + 1 := IntWalk.i64_in _ (by omega)
          obtain ⟨d, hd⟩ : ∃ d, (Ev.chk L2).2[j]? = some d := ⟨_, List.getElem?_eq_getElem (by rw [HC.out.1]; exact hjr)⟩
          obtain ⟨x, hx, hk, hc, hd0⟩ := Ev.off_head hd
          obtain ⟨o1, o2, o3⟩ := Ev.off_at hd
          rw [HO.out] at o1 o2 o3 hx
          rw [HL2.out.2.1] at o2
          obtain ⟨dn, hdn⟩ : ∃ dn, d.length = dn := ⟨_, rfl⟩
          rw [hdn] at o1 o2 o3 hd0
          obtain ⟨p, hp⟩ : ∃ p, q + dn = p := ⟨_, rfl⟩
          rw [hp] at o1 o2
          have HO2 := Lib.hid o1
          clear o1
          obtain ⟨k, i, n, t, b, e, s0, s1, s2, s3, s4, s5⟩ := x
          obtain ⟨g, q0, q2, hrr, hg, hc1, hre⟩ := HS.out.2.1.get hd
          subst hrr
          rw [hdn] at hc1
          obtain ⟨gk, ok2, hrk, hgk, hc2⟩ := HS.out.2.2.1 j _ hc
          subst hrk
          have hqm2 : q < m := by omega
          have HG : Hid (RE wr q0 12 Ev.c d ∧ d.length = dn ∧ L2[q]? = some ⟨k, i, n, t, b, e, s0, s1, s2, s3, s4, s5⟩ ∧ (L2.drop q).take dn = d ∧ wr.cell? ⟨g, j, none⟩ = some (.slice q0 dn q2) ∧ g < wr.heap.size ∧ wr.cell? ⟨gk, ok2 + j, none⟩ = some (.int .i64 t) ∧ gk < wr.heap.size ∧ (∀ x ∈ d, x.ok)) := Lib.hid ⟨hre, hdn, hx, o3, hc1, hg, hc2, hgk, by
            rw [← o3]
            exact fun x h => HL2.out.2.2.1 x (List.mem_of_mem_drop (List.mem_of_mem_take h))⟩
          have y1 : wr.cell? ⟨g, j, none⟩ = some (.slice q0 dn q2) := hc1
          clear hre hdn hx o3 hc hd hk hc1 hg hc2 hgk
          have i2 : ¬ (dn : Int) = 0 := by omega
          have i3 : ¬ dn = 0 := by omega
          have w2 : IntKind.i64.wrap ((q : Int) + (dn : Int)) = (p : Int) := by rw [IntWalk.i64_in _ (by omega)]; omega
          have i4 : ¬ (m : Int) < (p : Int) := by omega
          have i5 : ¬ (nr : Int) ≤ (j : Int) := by omega
          have i6 : (q : Int) ≤ (p : Int) := by omega
          have i7 : (p : Int) ≤ (cl : Int) := by omega
          have i8 : (q : Int) < (m : Int) := by omega
          have i9 : q ≤ p := by omega
          have i10 : p ≤ cl := by omega
          have hpq : p - q = dn := by omega
          have HF : Hid (∀ wq, Below wr.heap.size wr wq → wq.cell? ⟨g, j, none⟩ = some (.slice q0 dn q2) ∧ wq.cell? ⟨gk, ok2 + j, none⟩ = some (.int .i64 t) ∧ wq.cell? ⟨gl, q * 12 + 3, none⟩ = some (.int .i64 t)) := Lib.hid (fun wq hwq => by
            have ea := EL.get (EL.of_rn (HS.out.same hwq).1 HL2.out.2.2.1) HG.out.2.2.1
            obtain ⟨_, ga, o, h2, _, _, _, _, e3, _⟩ := ea
            injection h2 with h2
            injection h2 with q1 q2 _
            subst q1 q2
            simp only [Nat.zero_add] at e3
            exact ⟨by rw [← HG.out.2.2.2.2.1]; exact Chg.cell (l := []) (Chg.of_fresh hwq) HG.out.2.2.2.2.2.1 (by simp), by rw [← HG.out.2.2.2.2.2.2.1]; exact Chg.cell (l := []) (Chg.of_fresh hwq) HG.out.2.2.2.2.2.2.2.1 (by simp), e3⟩)
          clear y1
          have b1 : ((dn : Int) == 0) = false := by simp; omega
          have b2 : (dn == 0) = false := by simp; omega
          have b3 : decide ((m : Int) < (p : Int)) = false := by simp; omega
          have b4 : decide ((nr : Int) ≤ (j : Int)) = false := by simp; omega
          have b5 : (t != t) = false := by simp
          go_upto_region 12 with fail
          refine pt_reg12 wr _ q0 dn q2 gl cl m nr cr g gk ok2 ck q j p t hjr hd0 hp (by omega) hqm2 hcl (by omega) (by omega) 0 HF (Lib.hid (fun wq hwq => ev_same q0 (some ⟨gl, q * 12, none⟩) dn q2 (cl - q) d HG.out.2.1 (by omega) _ (HG.out.1.below hwq) ⟨by have h := ((EL.of_rn (HS.out.same hwq).1 HL2.out.2.2.1).drop q).take dn; rw [HG.out.2.2.2.1, Nat.zero_add] at h; exact RE.of_el h, HG.out.2.2.2.2.2.2.2.2⟩)) (Below.refl _ _) _ _ rfl ⟨rfl, rfl, rfl, rfl, rfl, trivial⟩ (fun w4 hw4 => ?_)
          simp only [putsL, Act.put, Option.getD_some, Option.getD_none, List.setIfInBounds_toArray, List.set_cons_zero, List.set_cons_succ]
          obtain ⟨y1, _, _⟩ := HF.out w4 hw4
          go_wp2_with fail
          go_roundw
          case rel => exact ⟨p, j + 1, rfl, by go_num, by omega, by omega, HO2, Lib.hid (HS.out.same hw4)⟩
          case measure => simp [intOf]; omega
        · obtain rfl : j = nr := by omega
          have i1 : ¬ (j : Int) < (j : Int) := by omega
          obtain rfl : q = m := by rw [← HO.out, ← HL2.out.2.1, ← HC.out.1]; exact Ev.off_end L2
          go_wp2_with fail
          go_meet
          exact ⟨rfl, HS⟩
    case rest =>
      obtain ⟨rfl, HQ3⟩ := hcut
      clear HQ2
      go_upto_block 4 with fail
      go_cut [12, 14] from 132 to 145 (fun z _ wx => z = .int .i64 nr ∧ Hid (PT w wx gl cl m L2 rr nr cr B rk))
      case first =>
        go_wp2_with fail
        go_loopw [12, 14] (fun z y wr => ∃ q j : Nat, z = .int .i64 q ∧ y = .int .i64 j ∧ j ≤ m ∧ q ≤ j ∧ Hid ((Ev.clks (L2.take j)).length = q) ∧ Hid (PT w wr gl cl m L2 rr nr cr B rk)) (fun _ y _ => m - (intOf y).toNat)
        case atStart => exact ⟨0, 0, rfl, rfl, by omega, by omega, Lib.hid rfl, HQ3⟩
        case round =>
          clear HQ3
          obtain ⟨q, j, rfl, rfl, hj, hqj, HO, HS⟩ := hrel
          have j0 : (0 : Int) ≤ (j : Int) := by omega
          by_cases hjm : j < m
          · have i1 : (j : Int) < (m : Int) := by omega
            have w1 : IntKind.i64.wrap ((j : Int) + 1) = (j : Int) + 1 := IntWalk.i64_in _ (by omega)
            have w2 : IntKind.i64.wrap ((q : Int) + 1) = (q : Int) + 1 := IntWalk.i64_in _ (by omega)
            obtain ⟨k, i, n, t, b, e, s0, s1, s2, s3, s4, s5, es⟩ : ∃ k i n t b e s0 s1 s2 s3 s4 s5, L2[j]? = some ⟨k, i, n, t, b, e, s0, s1, s2, s3, s4, s5⟩ := ⟨_, _, _, _, _, _, _, _, _, _, _, _, List.getElem?_eq_getElem (by rw [HL2.out.2.1]; exact hjm)⟩
            obtain ⟨hb, ga, o, h2, hgw, e0, e1, e2, e3, e4, e5, e6, e7, e8, e9, e10, e11⟩ := (EL.of_rn HS.out.1 HL2.out.2.2.1).get es
            injection h2 with h2
            injection h2 with q1 q2 _
            subst q1 q2
            simp only [Nat.zero_add] at e0 e1 e2 e3 e4 e5 e6 e7 e8 e9 e10 e11
            have hs : (Ev.clks (L2.take (j + 1))).length = if k = 1 then q + 1 else q := by
              rw [take_snocE es, Ev.clks_snoc]
              dsimp only
              split
              · rw [List.length_append, HO.out]; rfl
              · exact HO.out
            clear es hb hgw
            by_cases hk : k = 1
            · subst hk
              have HO2 := Lib.hid (hs.trans (if_pos rfl))
              clear hs
              go_wp2_with fail
              go_roundw
              case rel => exact ⟨q + 1, j + 1, by go_num, by go_num, by omega, by omega, HO2, HS⟩
              case measure => simp [intOf]; omega
            · have HO2 := Lib.hid (hs.trans (if_neg hk))
              clear hs
              go_wp2_with fail
              go_roundw
              case rel => exact ⟨q, j + 1, rfl, by go_num, by omega, by omega, HO2, HS⟩
              case measure => simp [intOf]; omega
          · obtain rfl : j = m := by omega
            have i1 : ¬ (j : Int) < (j : Int) := by omega
            obtain rfl : q = nr := by rw [← HO.out, List.take_of_length_le (by rw [HL2.out.2.1]; exact Nat.le_refl _), Ev.clks_len, HC.out.1]
            go_wp2_with fail
            go_meet
            exact ⟨rfl, HS⟩
      case rest =>
        obtain ⟨rfl, HQ4⟩ := hcut
        clear HQ3
        go_wp2_with (first
          | (go_at_call 18; refine (pj_lives31 _).mono ?_; rintro rq WL ⟨rfl, bb⟩; have HZ := Lib.hid (HQ4.out.2.2.2.1.trans (bb.mono HQ4.out.2.2.2.1.size)); clear bb)
          | fail)
        go_ret
        exact ⟨rfl, HZ.out⟩

set_option maxRecDepth 100000 in
theorem lifted (os : Os) (started : os.Started) (H : Type) (enc : TypeId × Value → H) :
    ReturnsInHanded {} Try.checked os 3 .any (Rows.projTellsSpec.pre6 enc Try.prog Try.f3 Rows.projTellsRow.domain false) (Rows.projTellsSpec.post enc Try.prog Try.f3 false true false false) := by
  refine returnsInHanded_of_change (C := Try.checked) ownKn started (by kernel_rfl) Try.func3
    (ChangeSpec.witness6 (enc := enc) (C := Try.checked) false ⟨#[], #[.slice none 0 0, .int .i64 0], []⟩ 8 (by kernel_rfl) (by kernel_rfl) (by kernel_rfl) (by kernel_rfl)) ?_
  intro W base args ds gs before hval0 hW hcnd _
  have hval : ∀ (j : Nat) t v, Try.f3.params[j]? = some t → args[j]? = some v → Value.okWide Try.prog W .any base t v := hval0
  have hW' := hW
  obtain ⟨p, q, hA0, hV, rfl, hfz, hnd⟩ := hW
  have hA : DataW.TrodAll enc Try.prog W 0 (fun _ => true) true Try.f3.params.toList args.toList ds p := hA0
  rw [Try.params3] at hA hval
  obtain ⟨v0, vs0, d0, ds0, p0, q0, hargs, rfl, rfl, h0, r0⟩ := trodAll_cons hA
  obtain ⟨v1, vs1, d1, ds1, p1, q1, rfl, rfl, rfl, h1, r1⟩ := trodAll_cons r0
  obtain ⟨rfl, rfl, rfl⟩ := trodAll_nil r1
  obtain rfl : args = #[v0, v1] := by cases args; simp_all
  obtain ⟨rfl, rfl⟩ := trodVars_none hV
  have k0 := h0
  have lt0 : ∀ x ∈ p0, x.block < W.heap.size := by obtain ⟨m, hm⟩ := k0; exact DataW.trod_lt m _ _ _ hm
  obtain ⟨b0, lb0, cb0, rfl⟩ := okWide_slice Try.underlying22 (hval 0 22 v0 rfl rfl)
  obtain ⟨fu0, hf0⟩ := h0
  simp only [Value.cells] at hf0
  obtain ⟨a0, len0, cap0, z0, e0, w0⟩ := fld_ev hf0
  obtain ⟨rfl, rfl, rfl⟩ : b0 = a0 ∧ lb0 = len0 ∧ cb0 = cap0 := by simpa using e0
  have k1 := h1
  have lt1 : ∀ x ∈ p1, x.block < W.heap.size := by obtain ⟨m, hm⟩ := k1; exact DataW.trod_lt m _ _ _ hm
  obtain ⟨a1, rfl, rfl, rfl, w1⟩ := open_int Try.underlying3 (hval 1 3 v1 rfl rfl) h1
  clear hA0 hval0
  refine (walk b0 lb0 cb0 z0 a1 W w0 w1).mono fun e W' ⟨he, bel⟩ => ?_
  subst he
  exact ⟨_, rfl, _, _, _, [], _, [], hW', trodAll_mk1 (shut_bool Try.underlying4 _), (trodAll_cons_mk (Below.trod laidOut (by kernel_rfl) (of_decide_eq_true (by kernel_rfl)) k0 bel lt0) (trodAll_cons_mk (Below.trod laidOut (by kernel_rfl) (of_decide_eq_true (by kernel_rfl)) k1 bel lt1) trodAll_mk0)), rfl, bel.frame _, fun h => by cases h⟩

theorem over : Rows.projTellsRow.holds Try.pinned (OpenSpec.ofChange Rows.projTellsSpec) :=
  OpenClaim.holds_of_wide 3 Try.f3 rfl rfl rfl rfl rfl rfl rfl ⟨rfl, rfl, rfl, rfl, rfl⟩ rfl rfl rfl rfl rfl (by kernel_rfl) Try.func3 (by kernel_rfl)
    (of_decide_eq_true (by kernel_rfl)) (by unfold Func.isWrapper; first | (rw [if_pos (by decide +kernel)]; kernel_rfl) | (rw [if_neg (by decide +kernel)]; exact ⟨rfl, rfl⟩))
    (fun os started H enc _ => lifted os started H enc)

/-- The statement. -/
theorem proved : Rows.ProjTellsSaid := over
#print axioms proved
end Go.Proofs.Ytdchedkhlfmpeaa.projTells
