/- The document's Read of any text: one way in. -/
import Derived.Test.YtbdjcppkfihonaaGp12
namespace Go.Proofs.Ytbdjcppkfihonaa
open Go.ChangeShapes Go.WideShapes Go.ChangeAt Go.RowKit
set_option linter.unusedSimpArgs false
set_option linter.unusedVariables false

set_option maxRecDepth 20000 in
set_option maxHeartbeats 16000000 in
theorem rp_two (s : ByteArray) (l lu : List UInt8) (N : Nat) (hN : s.size = N) (hN6 : N ≤ 1000000) (hh : s.data.toList = l) (hlu : l.drop 2 = lu) (F Z : BitVec 256) (m q n e : Nat) (fu : Nat) (hfu : N - 2 ≤ fu) (hl : Cs.rdL (fu + 1) lu 0 0 = (F, m, q)) (hz : Cs.rdR 2 true (F, m, q) = (Z, n, e))
    (c0' : ∃ h : 0 < s.size, (s[0].toNat : Int) = 91) (hN1 : 1 < N) (c1' : ∃ h : 1 < s.size, (s[1].toNat : Int) = 94) (w : World) :
    Calls Try.prog 94 #[.string s] w fun r w' => r = .returned (.tuple #[Cs.sv Z, .int .i64 n, .int .i64 e]) ∧ Below w.heap.size w w' := by
  obtain ⟨l0, c0⟩ := c0'
  obtain ⟨l1, c1⟩ := c1'
  have hl3 : 1 < (N : Int) := by omega
  have he := ne_empty s l0
  have HH : Hid (s.data.toList = l ∧ l.length = N) := Lib.hid ⟨hh, by rw [← hh]; simpa using hN⟩
  have HL : Hid (l.drop 2 = lu ∧ Cs.rdL (fu + 1) lu (2 - 2) 0 = (F, m, q)) := Lib.hid ⟨hlu, hl⟩
  have HZ := Lib.hid hz
  have hl5 : 2 ≤ N := by omega
  clear hh hlu hl hz
  obtain ⟨R, hR⟩ : ∃ R, w.heap.size = R := ⟨_, rfl⟩
  have HR0 : Hid (w.heap.size = R) := Lib.hid hR
  have hc : Hid (SB (w.alloc (.cells #[.int .u64 0, .int .u64 0, .int .u64 0, .int .u64 0] 154)) R 0 ∧ Below w.heap.size w (w.alloc (.cells #[.int .u64 0, .int .u64 0, .int .u64 0, .int .u64 0] 154))) := Lib.hid ⟨by rw [← hR]; exact SB.zero w, (Below.refl _ _).alloc (Nat.le_refl _) _⟩
  go_enter Try.func94, Try.ntmps94
  go_upto_region 1 with fail
  revert hc
  generalize w.alloc (.cells #[.int .u64 0, .int .u64 0, .int .u64 0, .int .u64 0] 154) = W
  intro hc
  clear hR
  go_upto_region 2 with (go_at_call 102; refine (rf_none _).mono ?_; rintro e W1 ⟨g, cap, rfl, h1, h2, h3⟩; have HG : Hid (R < g) := Lib.hid (Nat.lt_of_lt_of_le hc.out.1.lt h1); have HB : Hid (SB W1 R 0 ∧ Rw W1 g cap (bl (fun _ => false) 256) 4 ∧ Below w.heap.size w W1) := Lib.hid ⟨hc.out.1.below h3, h2, hc.out.2.trans (h3.mono hc.out.2.size)⟩; clear h1 h2 h3 hc)
  go_wp2_with fail
  go_loopw [6, 8] (fun i fb wr => ∃ (a f : Nat) (φ : Nat → Bool) (b : Bool) (X : BitVec 256), i = .int .i64 a ∧ fb = .bool b ∧ 2 ≤ a ∧ a ≤ N ∧ N - a ≤ f ∧ Hid (Cs.rdL (f + 1) lu (a - 2) X = (F, m, q) ∧ Cs.mkN φ 256 = X ∧ b = decide (a = 2)) ∧ Hid (SB wr R 0 ∧ Rw wr g cap (bl φ 256) 4 ∧ Below w.heap.size w wr)) (fun i _ _ => N - (intOf i).toNat)
  case atStart => exact ⟨2, fu, fun _ => false, true, 0, rfl, rfl, by omega, by omega, by omega, Lib.hid ⟨HL.out.2, mkN_none, rfl⟩, HB⟩
  case round =>
    clear HB
    obtain ⟨a, f0, φ, b, X, rfl, rfl, hBa, haN, hf, HR, HB⟩ := hrel
    have HX : Hid (Cs.mkN φ 256 = X) := Lib.hid HR.out.2.1
    have hll := HH.out.2
    have hR := HR.out.1
    have hlk : lu[a - 2]? = l[a]? := by rw [← HL.out.1, List.getElem?_drop]; congr 1; omega
    have hld : lu.drop (a - 2) = l.drop a := by rw [← HL.out.1, List.drop_drop]; congr 1; omega
    rw [rdL_succ, hlk, hld] at hR
    have j0 : (0 : Int) ≤ (a : Int) := by omega
    cases b with
    | true =>
      have hab : a = 2 := of_decide_eq_true HR.out.2.2.symm
      rw [if_neg (by omega)] at hR
      have HAB := Lib.hid hab
      clear hab hlk hld
      obtain ⟨x, n1, e1, hS⟩ : ∃ p q r, Cs.rdS (l.drop a) = (p, q, r) := ⟨_, _, _, rfl⟩
      have hle := rdS_le (l.drop a)
      rw [List.length_drop, hll] at hle
      unfold Cs.rdP at hR
      rw [hS] at hR hle
      dsimp only at hR hle
      obtain ⟨u, hu⟩ : ∃ u, s.extract a N = u := ⟨_, rfl⟩
      have HU : Hid (u.data.toList = l.drop a ∧ u.size ≤ 1000000 ∧ Cs.rdS (l.drop a) = (x, n1, e1)) := Lib.hid (by
        have e := ext_drop hN hu
        rw [HH.out.1] at e
        exact ⟨e, by rw [size_of e, List.length_drop, hll]; omega, hS⟩)
      have hn2 : n1 ≤ 2 := hle.2.1
      have han : a + n1 ≤ N := by omega
      have hx := x.toNat_lt
      obtain ⟨p, pA, pB⟩ : ∃ p, a + n1 ≤ p ∧ p ≤ a + n1 := ⟨_, Nat.le_refl _, Nat.le_refl _⟩
      have wp : IntKind.i64.wrap ((a : Int) + n1) = (p : Int) := by rw [IntWalk.i64_in _ (by omega)]; omega
      by_cases he1 : e1 = 0
      · subst he1
        have hn1 := hle.2.2.2.1 rfl
        rw [if_neg (by simp : ¬ (0 : Nat) ≠ 0)] at hR
        obtain ⟨f, rfl⟩ : ∃ f, f0 = f + 1 := ⟨f0 - 1, by omega⟩
        have wx : IntKind.i64.wrap (x.toNat : Int) = (x.toNat : Int) := IntWalk.i64_in _ (by omega)
        have p0 : (0 : Int) ≤ (p : Int) := by omega
        by_cases hd : ((l.drop a).drop n1).head? = some 45
        · rw [if_pos hd] at hR
          have hd2 : l[p]? = some 45 := by
            rw [List.head?_drop, List.getElem?_drop, show a + n1 = p by omega] at hd; exact hd
          obtain ⟨ln, en⟩ := at_of (i := p) HH.out.1 hd2
          have cb : (s[p].toNat : Int) = 45 := by rw [en]; rfl
          have hpN : p < N := by omega
          obtain ⟨y, n2, e2, hS2⟩ : ∃ p' q r, Cs.rdS (l.drop (p + 1)) = (p', q, r) := ⟨_, _, _, rfl⟩
          have hle2 := rdS_le (l.drop (p + 1))
          rw [List.length_drop, hll, hS2] at hle2
          rw [show (l.drop a).drop (n1 + 1) = l.drop (p + 1) by rw [List.drop_drop]; congr 1; omega, hS2] at hR
          unfold Cs.rdP2 at hR
          dsimp only at hR hle2
          obtain ⟨v, hv⟩ : ∃ v, s.extract (p + 1) N = v := ⟨_, rfl⟩
          have HV : Hid (v.data.toList = l.drop (p + 1) ∧ v.size ≤ 1000000 ∧ Cs.rdS (l.drop (p + 1)) = (y, n2, e2)) := Lib.hid (by
            have e := ext_drop hN hv
            rw [HH.out.1] at e
            exact ⟨e, by rw [size_of e, List.length_drop, hll]; omega, hS2⟩)
          have hm2 : n2 ≤ 2 := hle2.2.1
          have hy := y.toNat_lt
          have wp1 : IntKind.i64.wrap ((p : Int) + 1) = (p : Int) + 1 := IntWalk.i64_in _ (by omega)
          obtain ⟨t, tA, tB⟩ : ∃ t, p + 1 + n2 ≤ t ∧ t ≤ p + 1 + n2 := ⟨_, Nat.le_refl _, Nat.le_refl _⟩
          have wt : IntKind.i64.wrap ((p : Int) + 1 + n2) = (t : Int) := by rw [IntWalk.i64_in _ (by omega)]; omega
          have htN : t ≤ N := by omega
          by_cases he2 : e2 = 0
          · subst he2
            have hn2' := hle2.2.2.2.1 rfl
            rw [if_neg (by simp : ¬ (0 : Nat) ≠ 0)] at hR
            by_cases hyx : y.toNat < x.toNat
            · rw [if_pos hyx] at hR
              dsimp only at hR
              rw [if_pos (by simp : (12 : Nat) ≠ 0)] at hR
              have HE : Hid (Z = 0 ∧ n = t - 1 ∧ e = 12) := Lib.hid (by
                simp only [Prod.mk.injEq] at hR
                have h1 := HZ.out
                rw [← hR.1, ← hR.2.1, ← hR.2.2] at h1
                unfold Cs.rdR at h1
                rw [if_pos (by dsimp only; omega)] at h1
                simp only [Prod.mk.injEq] at h1
                exact ⟨h1.1.symm, by omega, h1.2.2.symm⟩)
              have kyx : (y.toNat : Int) < (x.toNat : Int) := by omega
              have wt : IntKind.i64.wrap ((t : Int) - 1) = (t : Int) - 1 := IntWalk.i64_in _ (by omega)
              clear hR hle hS hle2 hS2 hd hd2 en hf
              have d0 := HB.out.1.at (i := 0) (by decide)
              have d1 := HB.out.1.at (i := 1) (by decide)
              have d2 := HB.out.1.at (i := 2) (by decide)
              have d3 := HB.out.1.at (i := 3) (by decide)
              have df0 := HB.out.1.free 0
              have df1 := HB.out.1.free 1
              have df2 := HB.out.1.free 2
              have df3 := HB.out.1.free 3
              go_wp2_with (first
                | (go_at_call 104; with_reducible refine (rp_one u (l.drop a) HU.out.2.1 HU.out.1 x n1 0 HU.out.2.2 _).mono ?_; rintro e W1 ⟨rfl, rfl⟩)
                | (go_at_call 104; with_reducible refine (rp_one v (l.drop (p + 1)) HV.out.2.1 HV.out.1 y n2 0 HV.out.2.2 _).mono ?_; rintro e W1 ⟨rfl, rfl⟩))
              have hr := Lib.hid (show SB ((((W1.setCell ⟨R, 0, none⟩ (.int .u64 0)).setCell ⟨R, 1, none⟩ (.int .u64 0)).setCell ⟨R, 2, none⟩ (.int .u64 0)).setCell ⟨R, 3, none⟩ (.int .u64 0)) R 0 ∧ Below w.heap.size w ((((W1.setCell ⟨R, 0, none⟩ (.int .u64 0)).setCell ⟨R, 1, none⟩ (.int .u64 0)).setCell ⟨R, 2, none⟩ (.int .u64 0)).setCell ⟨R, 3, none⟩ (.int .u64 0)) from HB.out.1.res HB.out.2.2 (by have := HR0.out; omega) 0)
              clear d0 d1 d2 d3 df0 df1 df2 df3 HB
              revert hr
              generalize (((W1.setCell ⟨R, 0, none⟩ (.int .u64 0)).setCell ⟨R, 1, none⟩ (.int .u64 0)).setCell ⟨R, 2, none⟩ (.int .u64 0)).setCell ⟨R, 3, none⟩ (.int .u64 0) = W9
              intro hr
              have c0 := hr.out.1.at (i := 0) (by decide)
              have c1 := hr.out.1.at (i := 1) (by decide)
              have c2 := hr.out.1.at (i := 2) (by decide)
              have c3 := hr.out.1.at (i := 3) (by decide)
              refine bodyPost_ret (v := .tuple #[.agg #[.int .u64 (Cs.wd 0 0), .int .u64 (Cs.wd 0 1), .int .u64 (Cs.wd 0 2), .int .u64 (Cs.wd 0 3)], .int .i64 ((t : Int) - 1), .int .i64 12]) (by simp [results, Try.results94, go_sem, c0, c1, c2, c3]) rfl ?_
              rw [HE.out.1, HE.out.2.1, HE.out.2.2]
              have ht1 : ((t - 1 : Nat) : Int) = (t : Int) - 1 := by omega
              rw [ht1]
              exact ⟨rfl, hr.out.2⟩
            · rw [if_neg hyx] at hR
              rw [if_neg (by simp : ¬ (0 : Nat) ≠ 0)] at hR
              dsimp only at hR
              have HR2 : Hid (Cs.rdL (f + 1) lu (t - 2) (X ||| Cs.span x.toNat y.toNat) = (F, m, q)) := Lib.hid (by rw [show t - 2 = a - 2 + (n1 + (1 + n2)) by omega]; exact hR)
              have kyx : ¬ ((y.toNat : Int) < (x.toNat : Int)) := by omega
              clear hR hle hS hle2 hS2 hd hd2 en
              go_wp2_with (first
                | (go_at_call 104; with_reducible refine (rp_one u (l.drop a) HU.out.2.1 HU.out.1 x n1 0 HU.out.2.2 _).mono ?_; rintro e W1 ⟨rfl, rfl⟩)
                | (go_at_call 104; with_reducible refine (rp_one v (l.drop (p + 1)) HV.out.2.1 HV.out.1 y n2 0 HV.out.2.2 _).mono ?_; rintro e W1 ⟨rfl, rfl⟩))
              go_loopw [13] (fun i wr => ∃ j : Nat, i = .int .i64 j ∧ x.toNat ≤ j ∧ j ≤ 256 ∧ Hid (SB wr R 0 ∧ Rw wr g cap (bl (fun t => φ t || (decide (x.toNat ≤ t) && (decide (t < j) && decide (t ≤ y.toNat)))) 256) 4 ∧ Below w.heap.size w wr)) (fun i _ => 256 - (intOf i).toNat)
              case atStart => exact ⟨x.toNat, rfl, by omega, by omega, Lib.hid ⟨HB.out.1, by rw [bl_congr (h := φ) (fun t _ => by simp; omega)]; exact HB.out.2.1, HB.out.2.2⟩⟩
              case round =>
                clear HB
                obtain ⟨j, rfl, hxj, hj, HB⟩ := hrel
                have j1 : (0 : Int) ≤ (j : Int) := by omega
                by_cases hjl : j ≤ y.toNat
                · have hj2 : j < 256 := by omega
                  have HN : Hid (SB (wr.setCell ⟨g, j, none⟩ (.bool true)) R 0 ∧ Rw (wr.setCell ⟨g, j, none⟩ (.bool true)) g cap (bl (fun t => φ t || (decide (x.toNat ≤ t) && (decide (t < j + 1) && decide (t ≤ y.toNat)))) 256) 4 ∧ Below w.heap.size w (wr.setCell ⟨g, j, none⟩ (.bool true))) := Lib.hid ⟨HB.out.1.other (by have := HG.out; omega) _ _, HB.out.2.1.flip hj2 (fun t ht => by
                    by_cases e : t = j
                    · subst e; simp [hxj, hjl]
                    · have : decide (t < j + 1) = decide (t < j) := by congr 1; apply propext; omega
                      simp only [this, if_neg e]), below_set HB.out.2.2 (by have := HG.out; have := HR0.out; omega) _ _⟩
                  have c := HB.out.2.1.cell (bl_at (fun t => φ t || (decide (x.toNat ≤ t) && (decide (t < j) && decide (t ≤ y.toNat)))) (i := j) hj2)
                  have fc := HB.out.2.1.free j
                  go_wp2
                  refine ⟨?_, ?measure⟩
                  case measure => simp [intOf]; omega
                  first
                    | exact ⟨j + 1, by go_num, by omega, by omega, HN⟩
                    | ((repeat apply Exists.intro); exact ⟨⟨j + 1, by go_num, by omega, by omega, HN⟩, rfl⟩)
                · have hjy : y.toNat < j := by omega
                  have HS9 := Lib.hid (show Cs.mkN (fun t => φ t || (decide (x.toNat ≤ t) && (decide (t < j) && decide (t ≤ y.toNat)))) 256 = X ||| Cs.span x.toNat y.toNat from by rw [← HX.out]; exact mkN_span φ _ _ _ hjy)
                  go_wp2
                  refine ⟨?_, ?measure⟩
                  case measure => simp [intOf]; omega
                  first
                    | exact ⟨t, f, _, false, _, by go_num, rfl, by omega, by omega, by omega, Lib.hid ⟨HR2.out, HS9.out, (decide_eq_false (by omega)).symm⟩, HB⟩
                    | ((repeat apply Exists.intro); exact ⟨⟨t, f, _, false, _, by go_num, rfl, by omega, by omega, by omega, Lib.hid ⟨HR2.out, HS9.out, (decide_eq_false (by omega)).symm⟩, HB⟩, rfl⟩)
          · rw [if_pos he2] at hR
            rw [if_pos he2] at hR
            have HE : Hid (Z = 0 ∧ n = t ∧ e = e2) := Lib.hid (by
              simp only [Prod.mk.injEq] at hR
              have h1 := HZ.out
              rw [← hR.1, ← hR.2.1, ← hR.2.2] at h1
              unfold Cs.rdR at h1
              rw [if_pos (by dsimp only; omega)] at h1
              simp only [Prod.mk.injEq] at h1
              exact ⟨h1.1.symm, by omega, h1.2.2.symm⟩)
            have k2 : ((e2 : Nat) == 0) = false := by rw [beq_eq_false_iff_ne]; exact he2
            have HST : Hid ((if t = N then 3 else 2) = e2) := Lib.hid (by
              have := (hle2.2.2.2.2 he2).2
              rw [this]
              by_cases h : t = N
              · rw [if_pos h, if_pos (by omega)]
              · rw [if_neg h, if_neg (by omega)])
            clear hR hle hS hle2 hS2 hd hd2 en he2 hf
            go_wp2_with (first
              | (go_at_call 104; with_reducible refine (rp_one u (l.drop a) HU.out.2.1 HU.out.1 x n1 0 HU.out.2.2 _).mono ?_; rintro e W1 ⟨rfl, rfl⟩)
              | (go_at_call 104; with_reducible refine (rp_one v (l.drop (p + 1)) HV.out.2.1 HV.out.1 y n2 e2 HV.out.2.2 _).mono ?_; rintro e W1 ⟨rfl, rfl⟩)
              | (go_at_call 103; with_reducible refine (rp_stopI s N (t) e2 _ (by omega) hN HST.out _).mono ?_; rintro e W3 ⟨rfl, hb3⟩; unfold Cs.sv; have HC : Hid (SB W3 R 0 ∧ Below w.heap.size w W3) := Lib.hid ⟨HB.out.1.below hb3, HB.out.2.2.trans (hb3.mono HB.out.2.2.size)⟩; clear hb3; have d0 := HC.out.1.at (i := 0) (by decide); have d1 := HC.out.1.at (i := 1) (by decide); have d2 := HC.out.1.at (i := 2) (by decide); have d3 := HC.out.1.at (i := 3) (by decide); have df0 := HC.out.1.free 0; have df1 := HC.out.1.free 1; have df2 := HC.out.1.free 2; have df3 := HC.out.1.free 3))
            have hr := Lib.hid (HC.out.1.res HC.out.2 (by have := HR0.out; omega) 0)
            clear d0 d1 d2 d3 df0 df1 df2 df3 HC
            revert hr
            generalize (((W3.setCell ⟨R, 0, none⟩ (.int .u64 (Cs.wd 0 0))).setCell ⟨R, 1, none⟩ (.int .u64 (Cs.wd 0 1))).setCell ⟨R, 2, none⟩ (.int .u64 (Cs.wd 0 2))).setCell ⟨R, 3, none⟩ (.int .u64 (Cs.wd 0 3)) = W9
            intro hr
            have c0 := hr.out.1.at (i := 0) (by decide)
            have c1 := hr.out.1.at (i := 1) (by decide)
            have c2 := hr.out.1.at (i := 2) (by decide)
            have c3 := hr.out.1.at (i := 3) (by decide)
            refine bodyPost_ret (v := .tuple #[.agg #[.int .u64 (Cs.wd 0 0), .int .u64 (Cs.wd 0 1), .int .u64 (Cs.wd 0 2), .int .u64 (Cs.wd 0 3)], .int .i64 (t : Int), .int .i64 e2]) (by simp [results, Try.results94, go_sem, c0, c1, c2, c3]) rfl ?_
            rw [HE.out.1, HE.out.2.1, HE.out.2.2]
            first | exact ⟨rfl, hr.out.2⟩ | exact ⟨by simp only [Int.natCast_add]; rfl, hr.out.2⟩
        · rw [if_neg hd] at hR
          rw [if_neg (by simp : ¬ (0 : Nat) ≠ 0)] at hR
          dsimp only at hR
          rw [← span_one _ x.toNat_lt] at hR
          have HR2 : Hid (Cs.rdL (f + 1) lu (p - 2) (X ||| Cs.span x.toNat x.toNat) = (F, m, q)) := Lib.hid (by rw [show p - 2 = a - 2 + n1 by omega]; exact hR)
          by_cases haE : p = N
          · have kE : ¬ ((p : Int) < (N : Int)) := by omega
            have kE2 : ¬ (p < N) := by omega
            clear hR hle hS hd haE
            go_wp2_with (go_at_call 104; with_reducible refine (rp_one u (l.drop a) HU.out.2.1 HU.out.1 x n1 0 HU.out.2.2 _).mono ?_; rintro e W1 ⟨rfl, rfl⟩)
            go_loopw [13] (fun i wr => ∃ j : Nat, i = .int .i64 j ∧ x.toNat ≤ j ∧ j ≤ 256 ∧ Hid (SB wr R 0 ∧ Rw wr g cap (bl (fun t => φ t || (decide (x.toNat ≤ t) && (decide (t < j) && decide (t ≤ x.toNat)))) 256) 4 ∧ Below w.heap.size w wr)) (fun i _ => 256 - (intOf i).toNat)
            case atStart => exact ⟨x.toNat, rfl, by omega, by omega, Lib.hid ⟨HB.out.1, by rw [bl_congr (h := φ) (fun t _ => by simp; omega)]; exact HB.out.2.1, HB.out.2.2⟩⟩
            case round =>
              clear HB
              obtain ⟨j, rfl, hxj, hj, HB⟩ := hrel
              have j1 : (0 : Int) ≤ (j : Int) := by omega
              by_cases hjl : j ≤ x.toNat
              · have hj2 : j < 256 := by omega
                have HN : Hid (SB (wr.setCell ⟨g, j, none⟩ (.bool true)) R 0 ∧ Rw (wr.setCell ⟨g, j, none⟩ (.bool true)) g cap (bl (fun t => φ t || (decide (x.toNat ≤ t) && (decide (t < j + 1) && decide (t ≤ x.toNat)))) 256) 4 ∧ Below w.heap.size w (wr.setCell ⟨g, j, none⟩ (.bool true))) := Lib.hid ⟨HB.out.1.other (by have := HG.out; omega) _ _, HB.out.2.1.flip hj2 (fun t ht => by
                  by_cases e : t = j
                  · subst e; simp [hxj, hjl]
                  · have : decide (t < j + 1) = decide (t < j) := by congr 1; apply propext; omega
                    simp only [this, if_neg e]), below_set HB.out.2.2 (by have := HG.out; have := HR0.out; omega) _ _⟩
                have c := HB.out.2.1.cell (bl_at (fun t => φ t || (decide (x.toNat ≤ t) && (decide (t < j) && decide (t ≤ x.toNat)))) (i := j) hj2)
                have fc := HB.out.2.1.free j
                go_wp2
                refine ⟨?_, ?measure⟩
                case measure => simp [intOf]; omega
                first
                  | exact ⟨j + 1, by go_num, by omega, by omega, HN⟩
                  | ((repeat apply Exists.intro); exact ⟨⟨j + 1, by go_num, by omega, by omega, HN⟩, rfl⟩)
              · have hjy : x.toNat < j := by omega
                have HS9 := Lib.hid (show Cs.mkN (fun t => φ t || (decide (x.toNat ≤ t) && (decide (t < j) && decide (t ≤ x.toNat)))) 256 = X ||| Cs.span x.toNat x.toNat from by rw [← HX.out]; exact mkN_span φ _ _ _ hjy)
                go_wp2
                refine ⟨?_, ?measure⟩
                case measure => simp [intOf]; omega
                first
                  | exact ⟨p, f, _, false, _, by go_num, rfl, by omega, by omega, by omega, Lib.hid ⟨HR2.out, HS9.out, (decide_eq_false (by omega)).symm⟩, HB⟩
                  | ((repeat apply Exists.intro); exact ⟨⟨p, f, _, false, _, by go_num, rfl, by omega, by omega, by omega, Lib.hid ⟨HR2.out, HS9.out, (decide_eq_false (by omega)).symm⟩, HB⟩, rfl⟩)
          · have kE : (p : Int) < (N : Int) := by omega
            have kE2 : p < N := by omega
            have hps : p < s.size := by omega
            have cb : ((s[p].toNat : Int) == 45) = false := by
              rw [beq_eq_false_iff_ne]
              intro e
              apply hd
              rw [List.head?_drop, List.getElem?_drop, show a + n1 = p by omega, ← HH.out.1, byte_at hps, u8_eq (c := s[p]) (d := 45) e]
            clear hR hle hS hd haE
            go_wp2_with (go_at_call 104; with_reducible refine (rp_one u (l.drop a) HU.out.2.1 HU.out.1 x n1 0 HU.out.2.2 _).mono ?_; rintro e W1 ⟨rfl, rfl⟩)
            go_loopw [13] (fun i wr => ∃ j : Nat, i = .int .i64 j ∧ x.toNat ≤ j ∧ j ≤ 256 ∧ Hid (SB wr R 0 ∧ Rw wr g cap (bl (fun t => φ t || (decide (x.toNat ≤ t) && (decide (t < j) && decide (t ≤ x.toNat)))) 256) 4 ∧ Below w.heap.size w wr)) (fun i _ => 256 - (intOf i).toNat)
            case atStart => exact ⟨x.toNat, rfl, by omega, by omega, Lib.hid ⟨HB.out.1, by rw [bl_congr (h := φ) (fun t _ => by simp; omega)]; exact HB.out.2.1, HB.out.2.2⟩⟩
            case round =>
              clear HB
              obtain ⟨j, rfl, hxj, hj, HB⟩ := hrel
              have j1 : (0 : Int) ≤ (j : Int) := by omega
              by_cases hjl : j ≤ x.toNat
              · have hj2 : j < 256 := by omega
                have HN : Hid (SB (wr.setCell ⟨g, j, none⟩ (.bool true)) R 0 ∧ Rw (wr.setCell ⟨g, j, none⟩ (.bool true)) g cap (bl (fun t => φ t || (decide (x.toNat ≤ t) && (decide (t < j + 1) && decide (t ≤ x.toNat)))) 256) 4 ∧ Below w.heap.size w (wr.setCell ⟨g, j, none⟩ (.bool true))) := Lib.hid ⟨HB.out.1.other (by have := HG.out; omega) _ _, HB.out.2.1.flip hj2 (fun t ht => by
                  by_cases e : t = j
                  · subst e; simp [hxj, hjl]
                  · have : decide (t < j + 1) = decide (t < j) := by congr 1; apply propext; omega
                    simp only [this, if_neg e]), below_set HB.out.2.2 (by have := HG.out; have := HR0.out; omega) _ _⟩
                have c := HB.out.2.1.cell (bl_at (fun t => φ t || (decide (x.toNat ≤ t) && (decide (t < j) && decide (t ≤ x.toNat)))) (i := j) hj2)
                have fc := HB.out.2.1.free j
                go_wp2
                refine ⟨?_, ?measure⟩
                case measure => simp [intOf]; omega
                first
                  | exact ⟨j + 1, by go_num, by omega, by omega, HN⟩
                  | ((repeat apply Exists.intro); exact ⟨⟨j + 1, by go_num, by omega, by omega, HN⟩, rfl⟩)
              · have hjy : x.toNat < j := by omega
                have HS9 := Lib.hid (show Cs.mkN (fun t => φ t || (decide (x.toNat ≤ t) && (decide (t < j) && decide (t ≤ x.toNat)))) 256 = X ||| Cs.span x.toNat x.toNat from by rw [← HX.out]; exact mkN_span φ _ _ _ hjy)
                go_wp2
                refine ⟨?_, ?measure⟩
                case measure => simp [intOf]; omega
                first
                  | exact ⟨p, f, _, false, _, by go_num, rfl, by omega, by omega, by omega, Lib.hid ⟨HR2.out, HS9.out, (decide_eq_false (by omega)).symm⟩, HB⟩
                  | ((repeat apply Exists.intro); exact ⟨⟨p, f, _, false, _, by go_num, rfl, by omega, by omega, by omega, Lib.hid ⟨HR2.out, HS9.out, (decide_eq_false (by omega)).symm⟩, HB⟩, rfl⟩)
      · rw [if_pos he1] at hR
        rw [if_pos he1] at hR
        have HE : Hid (Z = 0 ∧ n = p ∧ e = e1) := Lib.hid (by
          simp only [Prod.mk.injEq] at hR
          have h1 := HZ.out
          rw [← hR.1, ← hR.2.1, ← hR.2.2] at h1
          unfold Cs.rdR at h1
          rw [if_pos (by dsimp only; omega)] at h1
          simp only [Prod.mk.injEq] at h1
          exact ⟨h1.1.symm, by omega, h1.2.2.symm⟩)
        have k1 : ((e1 : Nat) == 0) = false := by rw [beq_eq_false_iff_ne]; exact he1
        have HST : Hid ((if p = N then 3 else 2) = e1) := Lib.hid (by
          have := (hle.2.2.2.2 he1).2
          rw [this]
          by_cases h : p = N
          · rw [if_pos h, if_pos (by omega)]
          · rw [if_neg h, if_neg (by omega)])
        clear hR hle hS he1 hf
        go_wp2_with (first
          | (go_at_call 104; with_reducible refine (rp_one u (l.drop a) HU.out.2.1 HU.out.1 x n1 e1 HU.out.2.2 _).mono ?_; rintro e W1 ⟨rfl, rfl⟩)
          | (go_at_call 103; with_reducible refine (rp_stopI s N (p) e1 _ (by omega) hN HST.out _).mono ?_; rintro e W3 ⟨rfl, hb3⟩; unfold Cs.sv; have HC : Hid (SB W3 R 0 ∧ Below w.heap.size w W3) := Lib.hid ⟨HB.out.1.below hb3, HB.out.2.2.trans (hb3.mono HB.out.2.2.size)⟩; clear hb3; have d0 := HC.out.1.at (i := 0) (by decide); have d1 := HC.out.1.at (i := 1) (by decide); have d2 := HC.out.1.at (i := 2) (by decide); have d3 := HC.out.1.at (i := 3) (by decide); have df0 := HC.out.1.free 0; have df1 := HC.out.1.free 1; have df2 := HC.out.1.free 2; have df3 := HC.out.1.free 3))
        have hr := Lib.hid (HC.out.1.res HC.out.2 (by have := HR0.out; omega) 0)
        clear d0 d1 d2 d3 df0 df1 df2 df3 HC
        revert hr
        generalize (((W3.setCell ⟨R, 0, none⟩ (.int .u64 (Cs.wd 0 0))).setCell ⟨R, 1, none⟩ (.int .u64 (Cs.wd 0 1))).setCell ⟨R, 2, none⟩ (.int .u64 (Cs.wd 0 2))).setCell ⟨R, 3, none⟩ (.int .u64 (Cs.wd 0 3)) = W9
        intro hr
        have c0 := hr.out.1.at (i := 0) (by decide)
        have c1 := hr.out.1.at (i := 1) (by decide)
        have c2 := hr.out.1.at (i := 2) (by decide)
        have c3 := hr.out.1.at (i := 3) (by decide)
        refine bodyPost_ret (v := .tuple #[.agg #[.int .u64 (Cs.wd 0 0), .int .u64 (Cs.wd 0 1), .int .u64 (Cs.wd 0 2), .int .u64 (Cs.wd 0 3)], .int .i64 (p : Int), .int .i64 e1]) (by simp [results, Try.results94, go_sem, c0, c1, c2, c3]) rfl ?_
        rw [HE.out.1, HE.out.2.1, HE.out.2.2]
        first | exact ⟨rfl, hr.out.2⟩ | exact ⟨by simp only [Int.natCast_add]; rfl, hr.out.2⟩
    | false =>
      have hab : a ≠ 2 := of_decide_eq_false HR.out.2.2.symm
      clear hlk hld
      by_cases hEnd : a = N
      · have kq : ((a : Int) == (N : Int)) = true := by rw [beq_iff_eq]; omega
        have hNa : N ≤ a := by omega
        rw [if_neg (fun h => by rw [List.getElem?_eq_none (by omega)] at h; exact absurd h.2 (by simp))] at hR
        clear hEnd hab
        obtain ⟨x, n1, e1, hS⟩ : ∃ p q r, Cs.rdS (l.drop a) = (p, q, r) := ⟨_, _, _, rfl⟩
        have hle := rdS_le (l.drop a)
        rw [List.length_drop, hll] at hle
        unfold Cs.rdP at hR
        rw [hS] at hR hle
        dsimp only at hR hle
        obtain ⟨u, hu⟩ : ∃ u, s.extract a N = u := ⟨_, rfl⟩
        have HU : Hid (u.data.toList = l.drop a ∧ u.size ≤ 1000000 ∧ Cs.rdS (l.drop a) = (x, n1, e1)) := Lib.hid (by
          have e := ext_drop hN hu
          rw [HH.out.1] at e
          exact ⟨e, by rw [size_of e, List.length_drop, hll]; omega, hS⟩)
        have hn2 : n1 ≤ 2 := hle.2.1
        have han : a + n1 ≤ N := by omega
        have hx := x.toNat_lt
        obtain ⟨p, pA, pB⟩ : ∃ p, a + n1 ≤ p ∧ p ≤ a + n1 := ⟨_, Nat.le_refl _, Nat.le_refl _⟩
        have wp : IntKind.i64.wrap ((a : Int) + n1) = (p : Int) := by rw [IntWalk.i64_in _ (by omega)]; omega
        by_cases he1 : e1 = 0
        · exfalso
          have := hle.2.2.2.1 he1
          omega
        · rw [if_pos he1] at hR
          rw [if_pos he1] at hR
          have HE : Hid (Z = 0 ∧ n = p ∧ e = e1) := Lib.hid (by
            simp only [Prod.mk.injEq] at hR
            have h1 := HZ.out
            rw [← hR.1, ← hR.2.1, ← hR.2.2] at h1
            unfold Cs.rdR at h1
            rw [if_pos (by dsimp only; omega)] at h1
            simp only [Prod.mk.injEq] at h1
            exact ⟨h1.1.symm, by omega, h1.2.2.symm⟩)
          have k1 : ((e1 : Nat) == 0) = false := by rw [beq_eq_false_iff_ne]; exact he1
          have HST : Hid ((if p = N then 3 else 2) = e1) := Lib.hid (by
            have := (hle.2.2.2.2 he1).2
            rw [this]
            by_cases h : p = N
            · rw [if_pos h, if_pos (by omega)]
            · rw [if_neg h, if_neg (by omega)])
          clear hR hle hS he1 hf
          go_wp2_with (first
            | (go_at_call 104; with_reducible refine (rp_one u (l.drop a) HU.out.2.1 HU.out.1 x n1 e1 HU.out.2.2 _).mono ?_; rintro e W1 ⟨rfl, rfl⟩)
            | (go_at_call 103; with_reducible refine (rp_stopI s N (p) e1 _ (by omega) hN HST.out _).mono ?_; rintro e W3 ⟨rfl, hb3⟩; unfold Cs.sv; have HC : Hid (SB W3 R 0 ∧ Below w.heap.size w W3) := Lib.hid ⟨HB.out.1.below hb3, HB.out.2.2.trans (hb3.mono HB.out.2.2.size)⟩; clear hb3; have d0 := HC.out.1.at (i := 0) (by decide); have d1 := HC.out.1.at (i := 1) (by decide); have d2 := HC.out.1.at (i := 2) (by decide); have d3 := HC.out.1.at (i := 3) (by decide); have df0 := HC.out.1.free 0; have df1 := HC.out.1.free 1; have df2 := HC.out.1.free 2; have df3 := HC.out.1.free 3))
          have hr := Lib.hid (HC.out.1.res HC.out.2 (by have := HR0.out; omega) 0)
          clear d0 d1 d2 d3 df0 df1 df2 df3 HC
          revert hr
          generalize (((W3.setCell ⟨R, 0, none⟩ (.int .u64 (Cs.wd 0 0))).setCell ⟨R, 1, none⟩ (.int .u64 (Cs.wd 0 1))).setCell ⟨R, 2, none⟩ (.int .u64 (Cs.wd 0 2))).setCell ⟨R, 3, none⟩ (.int .u64 (Cs.wd 0 3)) = W9
          intro hr
          have c0 := hr.out.1.at (i := 0) (by decide)
          have c1 := hr.out.1.at (i := 1) (by decide)
          have c2 := hr.out.1.at (i := 2) (by decide)
          have c3 := hr.out.1.at (i := 3) (by decide)
          refine bodyPost_ret (v := .tuple #[.agg #[.int .u64 (Cs.wd 0 0), .int .u64 (Cs.wd 0 1), .int .u64 (Cs.wd 0 2), .int .u64 (Cs.wd 0 3)], .int .i64 (p : Int), .int .i64 e1]) (by simp [results, Try.results94, go_sem, c0, c1, c2, c3]) rfl ?_
          rw [HE.out.1, HE.out.2.1, HE.out.2.2]
          first | exact ⟨rfl, hr.out.2⟩ | exact ⟨by simp only [Int.natCast_add]; rfl, hr.out.2⟩
      · have kq : ((a : Int) == (N : Int)) = false := by rw [beq_eq_false_iff_ne]; omega
        have haN2 : a < N := by omega
        have has : a < s.size := by omega
        by_cases h93 : l[a]? = some 93
        · rw [if_pos ⟨by omega, h93⟩] at hR
          have HE : Hid (Z = ~~~X ∧ n = a + 1 ∧ e = 0) := Lib.hid (by
            simp only [Prod.mk.injEq] at hR
            have h1 := HZ.out
            rw [← hR.1, ← hR.2.1, ← hR.2.2] at h1
            unfold Cs.rdR at h1
            rw [if_neg (by simp)] at h1
            simp only [Prod.mk.injEq] at h1
            exact ⟨by simpa using h1.1.symm, by omega, h1.2.2.symm⟩)
          obtain ⟨la, ea⟩ := at_of (i := a) HH.out.1 h93
          have c9 : (s[a].toNat : Int) = 93 := by rw [ea]; rfl
          have w1 : IntKind.i64.wrap ((a : Int) + 1) = (a : Int) + 1 := IntWalk.i64_in _ (by omega)
          clear hR h93 ea hEnd hab hf
          go_upto_region 26 with (go_at_call 105; refine (rf_make φ g cap 256 _ HB.out.2.1 (by omega)).mono ?_; rintro e W5 ⟨rfl, hb5⟩; rw [HX.out]; unfold Cs.sv; have HB1 : Hid (SB W5 R 0 ∧ Below w.heap.size w W5) := Lib.hid ⟨HB.out.1.below hb5, HB.out.2.2.trans (hb5.mono HB.out.2.2.size)⟩; clear hb5)
          have HB2 : Hid (SB (W5.alloc (.cells #[.int .u64 (Cs.wd X 0), .int .u64 (Cs.wd X 1), .int .u64 (Cs.wd X 2), .int .u64 (Cs.wd X 3)] 154)) W5.heap.size X ∧ SB (W5.alloc (.cells #[.int .u64 (Cs.wd X 0), .int .u64 (Cs.wd X 1), .int .u64 (Cs.wd X 2), .int .u64 (Cs.wd X 3)] 154)) R 0 ∧ Below w.heap.size w (W5.alloc (.cells #[.int .u64 (Cs.wd X 0), .int .u64 (Cs.wd X 1), .int .u64 (Cs.wd X 2), .int .u64 (Cs.wd X 3)] 154)) ∧ R < W5.heap.size) := Lib.hid ⟨SB.new W5 X, HB1.out.1.alloc _, HB1.out.2.alloc HB1.out.2.size _, HB1.out.1.lt⟩
          clear HB HB1
          revert HB2
          generalize W5.alloc (.cells #[.int .u64 (Cs.wd X 0), .int .u64 (Cs.wd X 1), .int .u64 (Cs.wd X 2), .int .u64 (Cs.wd X 3)] 154) = V
          generalize W5.heap.size = D
          intro HB2
          have hD := HB2.out.2.2.2
          replace HB2 : Hid (SB V D X ∧ SB V R 0 ∧ Below w.heap.size w V) := Lib.hid ⟨HB2.out.1, HB2.out.2.1, HB2.out.2.2.1⟩
          have hwR : w.heap.size ≤ R := by have := HR0.out; omega
          have y0 := HB2.out.1.at (i := 0) (by decide)
          have y1 := HB2.out.1.at (i := 1) (by decide)
          have y2 := HB2.out.1.at (i := 2) (by decide)
          have y3 := HB2.out.1.at (i := 3) (by decide)
          go_upto_region 28 with (go_at_call 106; rw [sv_def X]; refine (rf_not X _).mono ?_; rintro e W6 ⟨rfl, hb6⟩; unfold Cs.sv; have HB5 : Hid (SB W6 D X ∧ SB W6 R 0 ∧ Below w.heap.size w W6) := Lib.hid ⟨HB2.out.1.below hb6, HB2.out.2.1.below hb6, HB2.out.2.2.trans (hb6.mono HB2.out.2.2.size)⟩; clear hb6 y0 y1 y2 y3; have y0 := HB5.out.1.at (i := 0) (by decide); have yf0 := HB5.out.1.free 0; have y1 := HB5.out.1.at (i := 1) (by decide); have yf1 := HB5.out.1.free 1; have y2 := HB5.out.1.at (i := 2) (by decide); have yf2 := HB5.out.1.free 2; have y3 := HB5.out.1.at (i := 3) (by decide); have yf3 := HB5.out.1.free 3)
          have HB6 := Lib.hid (set4_two HB5.out.2.1 HB5.out.1 HB5.out.2.2 (by omega) (by omega) (~~~X))
          clear y0 y1 y2 y3 yf0 yf1 yf2 yf3 HB5 HB2
          revert HB6
          generalize (((W6.setCell ⟨D, 0, none⟩ (.int .u64 (Cs.wd (~~~X) 0))).setCell ⟨D, 1, none⟩ (.int .u64 (Cs.wd (~~~X) 1))).setCell ⟨D, 2, none⟩ (.int .u64 (Cs.wd (~~~X) 2))).setCell ⟨D, 3, none⟩ (.int .u64 (Cs.wd (~~~X) 3)) = V6
          intro HB6
          have y0 := HB6.out.2.1.at (i := 0) (by decide)
          have y1 := HB6.out.2.1.at (i := 1) (by decide)
          have y2 := HB6.out.2.1.at (i := 2) (by decide)
          have y3 := HB6.out.2.1.at (i := 3) (by decide)
          have d0 := HB6.out.1.at (i := 0) (by decide)
          have d1 := HB6.out.1.at (i := 1) (by decide)
          have d2 := HB6.out.1.at (i := 2) (by decide)
          have d3 := HB6.out.1.at (i := 3) (by decide)
          have df0 := HB6.out.1.free 0
          have df1 := HB6.out.1.free 1
          have df2 := HB6.out.1.free 2
          have df3 := HB6.out.1.free 3
          go_wp2
          have hr := Lib.hid (HB6.out.1.res HB6.out.2.2 hwR (~~~X))
          clear y0 y1 y2 y3 d0 d1 d2 d3 df0 df1 df2 df3 HB6
          revert hr
          generalize (((V6.setCell ⟨R, 0, none⟩ (.int .u64 (Cs.wd (~~~X) 0))).setCell ⟨R, 1, none⟩ (.int .u64 (Cs.wd (~~~X) 1))).setCell ⟨R, 2, none⟩ (.int .u64 (Cs.wd (~~~X) 2))).setCell ⟨R, 3, none⟩ (.int .u64 (Cs.wd (~~~X) 3)) = W9
          intro hr
          have c0 := hr.out.1.at (i := 0) (by decide)
          have c1 := hr.out.1.at (i := 1) (by decide)
          have c2 := hr.out.1.at (i := 2) (by decide)
          have c3 := hr.out.1.at (i := 3) (by decide)
          refine bodyPost_ret (v := .tuple #[.agg #[.int .u64 (Cs.wd (~~~X) 0), .int .u64 (Cs.wd (~~~X) 1), .int .u64 (Cs.wd (~~~X) 2), .int .u64 (Cs.wd (~~~X) 3)], .int .i64 ((a : Int) + 1), .int .i64 0]) (by simp [results, Try.results94, go_sem, c0, c1, c2, c3]) rfl ?_
          rw [HE.out.1, HE.out.2.1, HE.out.2.2]
          exact ⟨by rw [Int.natCast_add]; rfl, hr.out.2⟩
        · rw [if_neg (fun h => h93 h.2)] at hR
          have c9 : ((s[a].toNat : Int) == 93) = false := by
            rw [beq_eq_false_iff_ne]
            intro e
            exact h93 (by rw [← HH.out.1, byte_at has, u8_eq (c := s[a]) (d := 93) e])
          clear h93 hEnd hab
          obtain ⟨x, n1, e1, hS⟩ : ∃ p q r, Cs.rdS (l.drop a) = (p, q, r) := ⟨_, _, _, rfl⟩
          have hle := rdS_le (l.drop a)
          rw [List.length_drop, hll] at hle
          unfold Cs.rdP at hR
          rw [hS] at hR hle
          dsimp only at hR hle
          obtain ⟨u, hu⟩ : ∃ u, s.extract a N = u := ⟨_, rfl⟩
          have HU : Hid (u.data.toList = l.drop a ∧ u.size ≤ 1000000 ∧ Cs.rdS (l.drop a) = (x, n1, e1)) := Lib.hid (by
            have e := ext_drop hN hu
            rw [HH.out.1] at e
            exact ⟨e, by rw [size_of e, List.length_drop, hll]; omega, hS⟩)
          have hn2 : n1 ≤ 2 := hle.2.1
          have han : a + n1 ≤ N := by omega
          have hx := x.toNat_lt
          obtain ⟨p, pA, pB⟩ : ∃ p, a + n1 ≤ p ∧ p ≤ a + n1 := ⟨_, Nat.le_refl _, Nat.le_refl _⟩
          have wp : IntKind.i64.wrap ((a : Int) + n1) = (p : Int) := by rw [IntWalk.i64_in _ (by omega)]; omega
          by_cases he1 : e1 = 0
          · subst he1
            have hn1 := hle.2.2.2.1 rfl
            rw [if_neg (by simp : ¬ (0 : Nat) ≠ 0)] at hR
            obtain ⟨f, rfl⟩ : ∃ f, f0 = f + 1 := ⟨f0 - 1, by omega⟩
            have wx : IntKind.i64.wrap (x.toNat : Int) = (x.toNat : Int) := IntWalk.i64_in _ (by omega)
            have p0 : (0 : Int) ≤ (p : Int) := by omega
            by_cases hd : ((l.drop a).drop n1).head? = some 45
            · rw [if_pos hd] at hR
              have hd2 : l[p]? = some 45 := by
                rw [List.head?_drop, List.getElem?_drop, show a + n1 = p by omega] at hd; exact hd
              obtain ⟨ln, en⟩ := at_of (i := p) HH.out.1 hd2
              have cb : (s[p].toNat : Int) = 45 := by rw [en]; rfl
              have hpN : p < N := by omega
              obtain ⟨y, n2, e2, hS2⟩ : ∃ p' q r, Cs.rdS (l.drop (p + 1)) = (p', q, r) := ⟨_, _, _, rfl⟩
              have hle2 := rdS_le (l.drop (p + 1))
              rw [List.length_drop, hll, hS2] at hle2
              rw [show (l.drop a).drop (n1 + 1) = l.drop (p + 1) by rw [List.drop_drop]; congr 1; omega, hS2] at hR
              unfold Cs.rdP2 at hR
              dsimp only at hR hle2
              obtain ⟨v, hv⟩ : ∃ v, s.extract (p + 1) N = v := ⟨_, rfl⟩
              have HV : Hid (v.data.toList = l.drop (p + 1) ∧ v.size ≤ 1000000 ∧ Cs.rdS (l.drop (p + 1)) = (y, n2, e2)) := Lib.hid (by
                have e := ext_drop hN hv
                rw [HH.out.1] at e
                exact ⟨e, by rw [size_of e, List.length_drop, hll]; omega, hS2⟩)
              have hm2 : n2 ≤ 2 := hle2.2.1
              have hy := y.toNat_lt
              have wp1 : IntKind.i64.wrap ((p : Int) + 1) = (p : Int) + 1 := IntWalk.i64_in _ (by omega)
              obtain ⟨t, tA, tB⟩ : ∃ t, p + 1 + n2 ≤ t ∧ t ≤ p + 1 + n2 := ⟨_, Nat.le_refl _, Nat.le_refl _⟩
              have wt : IntKind.i64.wrap ((p : Int) + 1 + n2) = (t : Int) := by rw [IntWalk.i64_in _ (by omega)]; omega
              have htN : t ≤ N := by omega
              by_cases he2 : e2 = 0
              · subst he2
                have hn2' := hle2.2.2.2.1 rfl
                rw [if_neg (by simp : ¬ (0 : Nat) ≠ 0)] at hR
                by_cases hyx : y.toNat < x.toNat
                · rw [if_pos hyx] at hR
                  dsimp only at hR
                  rw [if_pos (by simp : (12 : Nat) ≠ 0)] at hR
                  have HE : Hid (Z = 0 ∧ n = t - 1 ∧ e = 12) := Lib.hid (by
                    simp only [Prod.mk.injEq] at hR
                    have h1 := HZ.out
                    rw [← hR.1, ← hR.2.1, ← hR.2.2] at h1
                    unfold Cs.rdR at h1
                    rw [if_pos (by dsimp only; omega)] at h1
                    simp only [Prod.mk.injEq] at h1
                    exact ⟨h1.1.symm, by omega, h1.2.2.symm⟩)
                  have kyx : (y.toNat : Int) < (x.toNat : Int) := by omega
                  have wt : IntKind.i64.wrap ((t : Int) - 1) = (t : Int) - 1 := IntWalk.i64_in _ (by omega)
                  clear hR hle hS hle2 hS2 hd hd2 en hf
                  have d0 := HB.out.1.at (i := 0) (by decide)
                  have d1 := HB.out.1.at (i := 1) (by decide)
                  have d2 := HB.out.1.at (i := 2) (by decide)
                  have d3 := HB.out.1.at (i := 3) (by decide)
                  have df0 := HB.out.1.free 0
                  have df1 := HB.out.1.free 1
                  have df2 := HB.out.1.free 2
                  have df3 := HB.out.1.free 3
                  go_wp2_with (first
                    | (go_at_call 104; with_reducible refine (rp_one u (l.drop a) HU.out.2.1 HU.out.1 x n1 0 HU.out.2.2 _).mono ?_; rintro e W1 ⟨rfl, rfl⟩)
                    | (go_at_call 104; with_reducible refine (rp_one v (l.drop (p + 1)) HV.out.2.1 HV.out.1 y n2 0 HV.out.2.2 _).mono ?_; rintro e W1 ⟨rfl, rfl⟩))
                  have hr := Lib.hid (show SB ((((W1.setCell ⟨R, 0, none⟩ (.int .u64 0)).setCell ⟨R, 1, none⟩ (.int .u64 0)).setCell ⟨R, 2, none⟩ (.int .u64 0)).setCell ⟨R, 3, none⟩ (.int .u64 0)) R 0 ∧ Below w.heap.size w ((((W1.setCell ⟨R, 0, none⟩ (.int .u64 0)).setCell ⟨R, 1, none⟩ (.int .u64 0)).setCell ⟨R, 2, none⟩ (.int .u64 0)).setCell ⟨R, 3, none⟩ (.int .u64 0)) from HB.out.1.res HB.out.2.2 (by have := HR0.out; omega) 0)
                  clear d0 d1 d2 d3 df0 df1 df2 df3 HB
                  revert hr
                  generalize (((W1.setCell ⟨R, 0, none⟩ (.int .u64 0)).setCell ⟨R, 1, none⟩ (.int .u64 0)).setCell ⟨R, 2, none⟩ (.int .u64 0)).setCell ⟨R, 3, none⟩ (.int .u64 0) = W9
                  intro hr
                  have c0 := hr.out.1.at (i := 0) (by decide)
                  have c1 := hr.out.1.at (i := 1) (by decide)
                  have c2 := hr.out.1.at (i := 2) (by decide)
                  have c3 := hr.out.1.at (i := 3) (by decide)
                  refine bodyPost_ret (v := .tuple #[.agg #[.int .u64 (Cs.wd 0 0), .int .u64 (Cs.wd 0 1), .int .u64 (Cs.wd 0 2), .int .u64 (Cs.wd 0 3)], .int .i64 ((t : Int) - 1), .int .i64 12]) (by simp [results, Try.results94, go_sem, c0, c1, c2, c3]) rfl ?_
                  rw [HE.out.1, HE.out.2.1, HE.out.2.2]
                  have ht1 : ((t - 1 : Nat) : Int) = (t : Int) - 1 := by omega
                  rw [ht1]
                  exact ⟨rfl, hr.out.2⟩
                · rw [if_neg hyx] at hR
                  rw [if_neg (by simp : ¬ (0 : Nat) ≠ 0)] at hR
                  dsimp only at hR
                  have HR2 : Hid (Cs.rdL (f + 1) lu (t - 2) (X ||| Cs.span x.toNat y.toNat) = (F, m, q)) := Lib.hid (by rw [show t - 2 = a - 2 + (n1 + (1 + n2)) by omega]; exact hR)
                  have kyx : ¬ ((y.toNat : Int) < (x.toNat : Int)) := by omega
                  clear hR hle hS hle2 hS2 hd hd2 en
                  go_wp2_with (first
                    | (go_at_call 104; with_reducible refine (rp_one u (l.drop a) HU.out.2.1 HU.out.1 x n1 0 HU.out.2.2 _).mono ?_; rintro e W1 ⟨rfl, rfl⟩)
                    | (go_at_call 104; with_reducible refine (rp_one v (l.drop (p + 1)) HV.out.2.1 HV.out.1 y n2 0 HV.out.2.2 _).mono ?_; rintro e W1 ⟨rfl, rfl⟩))
                  go_loopw [13] (fun i wr => ∃ j : Nat, i = .int .i64 j ∧ x.toNat ≤ j ∧ j ≤ 256 ∧ Hid (SB wr R 0 ∧ Rw wr g cap (bl (fun t => φ t || (decide (x.toNat ≤ t) && (decide (t < j) && decide (t ≤ y.toNat)))) 256) 4 ∧ Below w.heap.size w wr)) (fun i _ => 256 - (intOf i).toNat)
                  case atStart => exact ⟨x.toNat, rfl, by omega, by omega, Lib.hid ⟨HB.out.1, by rw [bl_congr (h := φ) (fun t _ => by simp; omega)]; exact HB.out.2.1, HB.out.2.2⟩⟩
                  case round =>
                    clear HB
                    obtain ⟨j, rfl, hxj, hj, HB⟩ := hrel
                    have j1 : (0 : Int) ≤ (j : Int) := by omega
                    by_cases hjl : j ≤ y.toNat
                    · have hj2 : j < 256 := by omega
                      have HN : Hid (SB (wr.setCell ⟨g, j, none⟩ (.bool true)) R 0 ∧ Rw (wr.setCell ⟨g, j, none⟩ (.bool true)) g cap (bl (fun t => φ t || (decide (x.toNat ≤ t) && (decide (t < j + 1) && decide (t ≤ y.toNat)))) 256) 4 ∧ Below w.heap.size w (wr.setCell ⟨g, j, none⟩ (.bool true))) := Lib.hid ⟨HB.out.1.other (by have := HG.out; omega) _ _, HB.out.2.1.flip hj2 (fun t ht => by
                        by_cases e : t = j
                        · subst e; simp [hxj, hjl]
                        · have : decide (t < j + 1) = decide (t < j) := by congr 1; apply propext; omega
                          simp only [this, if_neg e]), below_set HB.out.2.2 (by have := HG.out; have := HR0.out; omega) _ _⟩
                      have c := HB.out.2.1.cell (bl_at (fun t => φ t || (decide (x.toNat ≤ t) && (decide (t < j) && decide (t ≤ y.toNat)))) (i := j) hj2)
                      have fc := HB.out.2.1.free j
                      go_wp2
                      refine ⟨?_, ?measure⟩
                      case measure => simp [intOf]; omega
                      first
                        | exact ⟨j + 1, by go_num, by omega, by omega, HN⟩
                        | ((repeat apply Exists.intro); exact ⟨⟨j + 1, by go_num, by omega, by omega, HN⟩, rfl⟩)
                    · have hjy : y.toNat < j := by omega
                      have HS9 := Lib.hid (show Cs.mkN (fun t => φ t || (decide (x.toNat ≤ t) && (decide (t < j) && decide (t ≤ y.toNat)))) 256 = X ||| Cs.span x.toNat y.toNat from by rw [← HX.out]; exact mkN_span φ _ _ _ hjy)
                      go_wp2
                      refine ⟨?_, ?measure⟩
                      case measure => simp [intOf]; omega
                      first
                        | exact ⟨t, f, _, false, _, by go_num, rfl, by omega, by omega, by omega, Lib.hid ⟨HR2.out, HS9.out, (decide_eq_false (by omega)).symm⟩, HB⟩
                        | ((repeat apply Exists.intro); exact ⟨⟨t, f, _, false, _, by go_num, rfl, by omega, by omega, by omega, Lib.hid ⟨HR2.out, HS9.out, (decide_eq_false (by omega)).symm⟩, HB⟩, rfl⟩)
              · rw [if_pos he2] at hR
                rw [if_pos he2] at hR
                have HE : Hid (Z = 0 ∧ n = t ∧ e = e2) := Lib.hid (by
                  simp only [Prod.mk.injEq] at hR
                  have h1 := HZ.out
                  rw [← hR.1, ← hR.2.1, ← hR.2.2] at h1
                  unfold Cs.rdR at h1
                  rw [if_pos (by dsimp only; omega)] at h1
                  simp only [Prod.mk.injEq] at h1
                  exact ⟨h1.1.symm, by omega, h1.2.2.symm⟩)
                have k2 : ((e2 : Nat) == 0) = false := by rw [beq_eq_false_iff_ne]; exact he2
                have HST : Hid ((if t = N then 3 else 2) = e2) := Lib.hid (by
                  have := (hle2.2.2.2.2 he2).2
                  rw [this]
                  by_cases h : t = N
                  · rw [if_pos h, if_pos (by omega)]
                  · rw [if_neg h, if_neg (by omega)])
                clear hR hle hS hle2 hS2 hd hd2 en he2 hf
                go_wp2_with (first
                  | (go_at_call 104; with_reducible refine (rp_one u (l.drop a) HU.out.2.1 HU.out.1 x n1 0 HU.out.2.2 _).mono ?_; rintro e W1 ⟨rfl, rfl⟩)
                  | (go_at_call 104; with_reducible refine (rp_one v (l.drop (p + 1)) HV.out.2.1 HV.out.1 y n2 e2 HV.out.2.2 _).mono ?_; rintro e W1 ⟨rfl, rfl⟩)
                  | (go_at_call 103; with_reducible refine (rp_stopI s N (t) e2 _ (by omega) hN HST.out _).mono ?_; rintro e W3 ⟨rfl, hb3⟩; unfold Cs.sv; have HC : Hid (SB W3 R 0 ∧ Below w.heap.size w W3) := Lib.hid ⟨HB.out.1.below hb3, HB.out.2.2.trans (hb3.mono HB.out.2.2.size)⟩; clear hb3; have d0 := HC.out.1.at (i := 0) (by decide); have d1 := HC.out.1.at (i := 1) (by decide); have d2 := HC.out.1.at (i := 2) (by decide); have d3 := HC.out.1.at (i := 3) (by decide); have df0 := HC.out.1.free 0; have df1 := HC.out.1.free 1; have df2 := HC.out.1.free 2; have df3 := HC.out.1.free 3))
                have hr := Lib.hid (HC.out.1.res HC.out.2 (by have := HR0.out; omega) 0)
                clear d0 d1 d2 d3 df0 df1 df2 df3 HC
                revert hr
                generalize (((W3.setCell ⟨R, 0, none⟩ (.int .u64 (Cs.wd 0 0))).setCell ⟨R, 1, none⟩ (.int .u64 (Cs.wd 0 1))).setCell ⟨R, 2, none⟩ (.int .u64 (Cs.wd 0 2))).setCell ⟨R, 3, none⟩ (.int .u64 (Cs.wd 0 3)) = W9
                intro hr
                have c0 := hr.out.1.at (i := 0) (by decide)
                have c1 := hr.out.1.at (i := 1) (by decide)
                have c2 := hr.out.1.at (i := 2) (by decide)
                have c3 := hr.out.1.at (i := 3) (by decide)
                refine bodyPost_ret (v := .tuple #[.agg #[.int .u64 (Cs.wd 0 0), .int .u64 (Cs.wd 0 1), .int .u64 (Cs.wd 0 2), .int .u64 (Cs.wd 0 3)], .int .i64 (t : Int), .int .i64 e2]) (by simp [results, Try.results94, go_sem, c0, c1, c2, c3]) rfl ?_
                rw [HE.out.1, HE.out.2.1, HE.out.2.2]
                first | exact ⟨rfl, hr.out.2⟩ | exact ⟨by simp only [Int.natCast_add]; rfl, hr.out.2⟩
            · rw [if_neg hd] at hR
              rw [if_neg (by simp : ¬ (0 : Nat) ≠ 0)] at hR
              dsimp only at hR
              rw [← span_one _ x.toNat_lt] at hR
              have HR2 : Hid (Cs.rdL (f + 1) lu (p - 2) (X ||| Cs.span x.toNat x.toNat) = (F, m, q)) := Lib.hid (by rw [show p - 2 = a - 2 + n1 by omega]; exact hR)
              by_cases haE : p = N
              · have kE : ¬ ((p : Int) < (N : Int)) := by omega
                have kE2 : ¬ (p < N) := by omega
                clear hR hle hS hd haE
                go_wp2_with (go_at_call 104; with_reducible refine (rp_one u (l.drop a) HU.out.2.1 HU.out.1 x n1 0 HU.out.2.2 _).mono ?_; rintro e W1 ⟨rfl, rfl⟩)
                go_loopw [13] (fun i wr => ∃ j : Nat, i = .int .i64 j ∧ x.toNat ≤ j ∧ j ≤ 256 ∧ Hid (SB wr R 0 ∧ Rw wr g cap (bl (fun t => φ t || (decide (x.toNat ≤ t) && (decide (t < j) && decide (t ≤ x.toNat)))) 256) 4 ∧ Below w.heap.size w wr)) (fun i _ => 256 - (intOf i).toNat)
                case atStart => exact ⟨x.toNat, rfl, by omega, by omega, Lib.hid ⟨HB.out.1, by rw [bl_congr (h := φ) (fun t _ => by simp; omega)]; exact HB.out.2.1, HB.out.2.2⟩⟩
                case round =>
                  clear HB
                  obtain ⟨j, rfl, hxj, hj, HB⟩ := hrel
                  have j1 : (0 : Int) ≤ (j : Int) := by omega
                  by_cases hjl : j ≤ x.toNat
                  · have hj2 : j < 256 := by omega
                    have HN : Hid (SB (wr.setCell ⟨g, j, none⟩ (.bool true)) R 0 ∧ Rw (wr.setCell ⟨g, j, none⟩ (.bool true)) g cap (bl (fun t => φ t || (decide (x.toNat ≤ t) && (decide (t < j + 1) && decide (t ≤ x.toNat)))) 256) 4 ∧ Below w.heap.size w (wr.setCell ⟨g, j, none⟩ (.bool true))) := Lib.hid ⟨HB.out.1.other (by have := HG.out; omega) _ _, HB.out.2.1.flip hj2 (fun t ht => by
                      by_cases e : t = j
                      · subst e; simp [hxj, hjl]
                      · have : decide (t < j + 1) = decide (t < j) := by congr 1; apply propext; omega
                        simp only [this, if_neg e]), below_set HB.out.2.2 (by have := HG.out; have := HR0.out; omega) _ _⟩
                    have c := HB.out.2.1.cell (bl_at (fun t => φ t || (decide (x.toNat ≤ t) && (decide (t < j) && decide (t ≤ x.toNat)))) (i := j) hj2)
                    have fc := HB.out.2.1.free j
                    go_wp2
                    refine ⟨?_, ?measure⟩
                    case measure => simp [intOf]; omega
                    first
                      | exact ⟨j + 1, by go_num, by omega, by omega, HN⟩
                      | ((repeat apply Exists.intro); exact ⟨⟨j + 1, by go_num, by omega, by omega, HN⟩, rfl⟩)
                  · have hjy : x.toNat < j := by omega
                    have HS9 := Lib.hid (show Cs.mkN (fun t => φ t || (decide (x.toNat ≤ t) && (decide (t < j) && decide (t ≤ x.toNat)))) 256 = X ||| Cs.span x.toNat x.toNat from by rw [← HX.out]; exact mkN_span φ _ _ _ hjy)
                    go_wp2
                    refine ⟨?_, ?measure⟩
                    case measure => simp [intOf]; omega
                    first
                      | exact ⟨p, f, _, false, _, by go_num, rfl, by omega, by omega, by omega, Lib.hid ⟨HR2.out, HS9.out, (decide_eq_false (by omega)).symm⟩, HB⟩
                      | ((repeat apply Exists.intro); exact ⟨⟨p, f, _, false, _, by go_num, rfl, by omega, by omega, by omega, Lib.hid ⟨HR2.out, HS9.out, (decide_eq_false (by omega)).symm⟩, HB⟩, rfl⟩)
              · have kE : (p : Int) < (N : Int) := by omega
                have kE2 : p < N := by omega
                have hps : p < s.size := by omega
                have cb : ((s[p].toNat : Int) == 45) = false := by
                  rw [beq_eq_false_iff_ne]
                  intro e
                  apply hd
                  rw [List.head?_drop, List.getElem?_drop, show a + n1 = p by omega, ← HH.out.1, byte_at hps, u8_eq (c := s[p]) (d := 45) e]
                clear hR hle hS hd haE
                go_wp2_with (go_at_call 104; with_reducible refine (rp_one u (l.drop a) HU.out.2.1 HU.out.1 x n1 0 HU.out.2.2 _).mono ?_; rintro e W1 ⟨rfl, rfl⟩)
                go_loopw [13] (fun i wr => ∃ j : Nat, i = .int .i64 j ∧ x.toNat ≤ j ∧ j ≤ 256 ∧ Hid (SB wr R 0 ∧ Rw wr g cap (bl (fun t => φ t || (decide (x.toNat ≤ t) && (decide (t < j) && decide (t ≤ x.toNat)))) 256) 4 ∧ Below w.heap.size w wr)) (fun i _ => 256 - (intOf i).toNat)
                case atStart => exact ⟨x.toNat, rfl, by omega, by omega, Lib.hid ⟨HB.out.1, by rw [bl_congr (h := φ) (fun t _ => by simp; omega)]; exact HB.out.2.1, HB.out.2.2⟩⟩
                case round =>
                  clear HB
                  obtain ⟨j, rfl, hxj, hj, HB⟩ := hrel
                  have j1 : (0 : Int) ≤ (j : Int) := by omega
                  by_cases hjl : j ≤ x.toNat
                  · have hj2 : j < 256 := by omega
                    have HN : Hid (SB (wr.setCell ⟨g, j, none⟩ (.bool true)) R 0 ∧ Rw (wr.setCell ⟨g, j, none⟩ (.bool true)) g cap (bl (fun t => φ t || (decide (x.toNat ≤ t) && (decide (t < j + 1) && decide (t ≤ x.toNat)))) 256) 4 ∧ Below w.heap.size w (wr.setCell ⟨g, j, none⟩ (.bool true))) := Lib.hid ⟨HB.out.1.other (by have := HG.out; omega) _ _, HB.out.2.1.flip hj2 (fun t ht => by
                      by_cases e : t = j
                      · subst e; simp [hxj, hjl]
                      · have : decide (t < j + 1) = decide (t < j) := by congr 1; apply propext; omega
                        simp only [this, if_neg e]), below_set HB.out.2.2 (by have := HG.out; have := HR0.out; omega) _ _⟩
                    have c := HB.out.2.1.cell (bl_at (fun t => φ t || (decide (x.toNat ≤ t) && (decide (t < j) && decide (t ≤ x.toNat)))) (i := j) hj2)
                    have fc := HB.out.2.1.free j
                    go_wp2
                    refine ⟨?_, ?measure⟩
                    case measure => simp [intOf]; omega
                    first
                      | exact ⟨j + 1, by go_num, by omega, by omega, HN⟩
                      | ((repeat apply Exists.intro); exact ⟨⟨j + 1, by go_num, by omega, by omega, HN⟩, rfl⟩)
                  · have hjy : x.toNat < j := by omega
                    have HS9 := Lib.hid (show Cs.mkN (fun t => φ t || (decide (x.toNat ≤ t) && (decide (t < j) && decide (t ≤ x.toNat)))) 256 = X ||| Cs.span x.toNat x.toNat from by rw [← HX.out]; exact mkN_span φ _ _ _ hjy)
                    go_wp2
                    refine ⟨?_, ?measure⟩
                    case measure => simp [intOf]; omega
                    first
                      | exact ⟨p, f, _, false, _, by go_num, rfl, by omega, by omega, by omega, Lib.hid ⟨HR2.out, HS9.out, (decide_eq_false (by omega)).symm⟩, HB⟩
                      | ((repeat apply Exists.intro); exact ⟨⟨p, f, _, false, _, by go_num, rfl, by omega, by omega, by omega, Lib.hid ⟨HR2.out, HS9.out, (decide_eq_false (by omega)).symm⟩, HB⟩, rfl⟩)
          · rw [if_pos he1] at hR
            rw [if_pos he1] at hR
            have HE : Hid (Z = 0 ∧ n = p ∧ e = e1) := Lib.hid (by
              simp only [Prod.mk.injEq] at hR
              have h1 := HZ.out
              rw [← hR.1, ← hR.2.1, ← hR.2.2] at h1
              unfold Cs.rdR at h1
              rw [if_pos (by dsimp only; omega)] at h1
              simp only [Prod.mk.injEq] at h1
              exact ⟨h1.1.symm, by omega, h1.2.2.symm⟩)
            have k1 : ((e1 : Nat) == 0) = false := by rw [beq_eq_false_iff_ne]; exact he1
            have HST : Hid ((if p = N then 3 else 2) = e1) := Lib.hid (by
              have := (hle.2.2.2.2 he1).2
              rw [this]
              by_cases h : p = N
              · rw [if_pos h, if_pos (by omega)]
              · rw [if_neg h, if_neg (by omega)])
            clear hR hle hS he1 hf
            go_wp2_with (first
              | (go_at_call 104; with_reducible refine (rp_one u (l.drop a) HU.out.2.1 HU.out.1 x n1 e1 HU.out.2.2 _).mono ?_; rintro e W1 ⟨rfl, rfl⟩)
              | (go_at_call 103; with_reducible refine (rp_stopI s N (p) e1 _ (by omega) hN HST.out _).mono ?_; rintro e W3 ⟨rfl, hb3⟩; unfold Cs.sv; have HC : Hid (SB W3 R 0 ∧ Below w.heap.size w W3) := Lib.hid ⟨HB.out.1.below hb3, HB.out.2.2.trans (hb3.mono HB.out.2.2.size)⟩; clear hb3; have d0 := HC.out.1.at (i := 0) (by decide); have d1 := HC.out.1.at (i := 1) (by decide); have d2 := HC.out.1.at (i := 2) (by decide); have d3 := HC.out.1.at (i := 3) (by decide); have df0 := HC.out.1.free 0; have df1 := HC.out.1.free 1; have df2 := HC.out.1.free 2; have df3 := HC.out.1.free 3))
            have hr := Lib.hid (HC.out.1.res HC.out.2 (by have := HR0.out; omega) 0)
            clear d0 d1 d2 d3 df0 df1 df2 df3 HC
            revert hr
            generalize (((W3.setCell ⟨R, 0, none⟩ (.int .u64 (Cs.wd 0 0))).setCell ⟨R, 1, none⟩ (.int .u64 (Cs.wd 0 1))).setCell ⟨R, 2, none⟩ (.int .u64 (Cs.wd 0 2))).setCell ⟨R, 3, none⟩ (.int .u64 (Cs.wd 0 3)) = W9
            intro hr
            have c0 := hr.out.1.at (i := 0) (by decide)
            have c1 := hr.out.1.at (i := 1) (by decide)
            have c2 := hr.out.1.at (i := 2) (by decide)
            have c3 := hr.out.1.at (i := 3) (by decide)
            refine bodyPost_ret (v := .tuple #[.agg #[.int .u64 (Cs.wd 0 0), .int .u64 (Cs.wd 0 1), .int .u64 (Cs.wd 0 2), .int .u64 (Cs.wd 0 3)], .int .i64 (p : Int), .int .i64 e1]) (by simp [results, Try.results94, go_sem, c0, c1, c2, c3]) rfl ?_
            rw [HE.out.1, HE.out.2.1, HE.out.2.2]
            first | exact ⟨rfl, hr.out.2⟩ | exact ⟨by simp only [Int.natCast_add]; rfl, hr.out.2⟩
end Go.Proofs.Ytbdjcppkfihonaa
