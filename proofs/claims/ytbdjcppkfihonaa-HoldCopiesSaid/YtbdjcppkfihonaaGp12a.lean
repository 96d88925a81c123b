/- The document's Read of any text: one way in. -/
import Derived.Test.YtbdjcppkfihonaaGp12
namespace Go.Proofs.Ytbdjcppkfihonaa
open Go.ChangeShapes Go.WideShapes Go.ChangeAt Go.RowKit
set_option linter.unusedSimpArgs false
set_option linter.unusedVariables false

set_option maxRecDepth 20000 in
set_option maxHeartbeats 16000000 in
theorem rp_one1 (s : ByteArray) (l lu : List UInt8) (N : Nat) (hN : s.size = N) (hN6 : N ≤ 1000000) (hh : s.data.toList = l) (hlu : l.drop 1 = lu) (F Z : BitVec 256) (m q n e : Nat) (fu : Nat) (hfu : N - 1 ≤ fu) (hl : Cs.rdL (fu + 1) lu 0 0 = (F, m, q)) (hz : Cs.rdR 1 false (F, m, q) = (Z, n, e))
    (c0' : ∃ h : 0 < s.size, (s[0].toNat : Int) = 91) (hN1 : N = 1) (w : World) :
    Calls Try.prog 94 #[.string s] w fun r w' => r = .returned (.tuple #[Cs.sv Z, .int .i64 n, .int .i64 e]) ∧ Below w.heap.size w w' := by
  obtain ⟨l0, c0⟩ := c0'
  have hl3 : ¬ 1 < (N : Int) := by omega
  have hNb : N ≤ 1 := by omega
  have hNc : 1 ≤ N := by omega
  clear hN1
  have he := ne_empty s l0
  have HH : Hid (s.data.toList = l ∧ l.length = N) := Lib.hid ⟨hh, by rw [← hh]; simpa using hN⟩
  have HL : Hid (l.drop 1 = lu ∧ Cs.rdL (fu + 1) lu (1 - 1) 0 = (F, m, q)) := Lib.hid ⟨hlu, hl⟩
  have HZ := Lib.hid hz
  have hl5 : 1 ≤ N := by omega
  clear hh hlu hl hz
  obtain ⟨R, hR⟩ : ∃ R, w.heap.size = R := ⟨_, rfl⟩
  have HR0 : Hid (w.heap.size = R) := Lib.hid hR
  have hc : Hid (SB (w.alloc (.cells #[.int .u64 0, .int .u64 0, .int .u64 0, .int .u64 0] 154)) R 0 ∧ Below w.heap.size w (w.alloc (.cells #[.int .u64 0, .int .u64 0, .int .u64 0, .int .u64 0] 154))) := Lib.hid ⟨by rw [← hR]; exact SB.zero w, (Below.refl _ _).alloc (Nat.le_refl _) _⟩
  go_enter Try.func94, Try.ntmps94
  go_upto_region 1 with fail
  revert hc
  generalize w.alloc (.cells #[.int .u64 0, .int .u64 0, .int .u64 0, .int .u64 0] 154) = W
  intro hc
  clear hR
  go_upto_region 2 with (go_at_call 102; refine (rf_none _).mono ?_; rintro e W1 ⟨g, cap, rfl, h1, h2, h3⟩; have HG : Hid (R < g) := Lib.hid (Nat.lt_of_lt_of_le hc.out.1.lt h1); have HB : Hid (SB W1 R 0 ∧ Rw W1 g cap (bl (fun _ => false) 256) 4 ∧ Below w.heap.size w W1) := Lib.hid ⟨hc.out.1.below h3, h2, hc.out.2.trans (h3.mono hc.out.2.size)⟩; clear h1 h2 h3 hc)
  go_wp2_with fail
  go_loopw [6, 8] (fun i fb wr => ∃ (a f : Nat) (φ : Nat → Bool) (b : Bool) (X : BitVec 256), i = .int .i64 a ∧ fb = .bool b ∧ 1 ≤ a ∧ a ≤ N ∧ N - a ≤ f ∧ Hid (Cs.rdL (f + 1) lu (a - 1) X = (F, m, q) ∧ Cs.mkN φ 256 = X ∧ b = decide (a = 1)) ∧ Hid (SB wr R 0 ∧ Rw wr g cap (bl φ 256) 4 ∧ Below w.heap.size w wr)) (fun i _ _ => N - (intOf i).toNat)
  case atStart => exact ⟨1, fu, fun _ => false, true, 0, rfl, rfl, by omega, by omega, by omega, Lib.hid ⟨HL.out.2, mkN_none, rfl⟩, HB⟩
  case round =>
    clear HB
    obtain ⟨a, f0, φ, b, X, rfl, rfl, hBa, haN, hf, HR, HB⟩ := hrel
    have HX : Hid (Cs.mkN φ 256 = X) := Lib.hid HR.out.2.1
    have hll := HH.out.2
    have hR := HR.out.1
    have hlk : lu[a - 1]? = l[a]? := by rw [← HL.out.1, List.getElem?_drop]; congr 1; omega
    have hld : lu.drop (a - 1) = l.drop a := by rw [← HL.out.1, List.drop_drop]; congr 1; omega
    rw [rdL_succ, hlk, hld] at hR
    have j0 : (0 : Int) ≤ (a : Int) := by omega
    cases b with
    | true =>
      have hab : a = 1 := of_decide_eq_true HR.out.2.2.symm
      rw [if_neg (by omega)] at hR
      have HAB := Lib.hid hab
      have hNa : N ≤ a := by omega
      clear hab hlk hld
      obtain ⟨x, n1, e1, hS⟩ : ∃ p q r, Cs.rdS (l.drop a) = (p, q, r) := ⟨_, _, _, rfl⟩
      have hle := rdS_le (l.drop a)
      rw [List.length_drop, hll] at hle
      unfold Cs.rdP at hR
      rw [hS] at hR hle
      dsimp only at hR hle
      obtain ⟨u, hu⟩ : ∃ u, s.extract a N = u := ⟨_, rfl⟩
      have HU : Hid (u.data.toList = l.drop a ∧ u.size ≤ 1000000 ∧ Cs.rdS (l.drop a) = (x, n1, e1)) := Lib.hid (by
        have e := ext_drop hN hu
        rw [HH.out.1] at e
        exact ⟨e, by rw [size_of e, List.length_drop, hll]; omega, hS⟩)
      have hn2 : n1 ≤ 2 := hle.2.1
      have han : a + n1 ≤ N := by omega
      have hx := x.toNat_lt
      obtain ⟨p, pA, pB⟩ : ∃ p, a + n1 ≤ p ∧ p ≤ a + n1 := ⟨_, Nat.le_refl _, Nat.le_refl _⟩
      have wp : IntKind.i64.wrap ((a : Int) + n1) = (p : Int) := by rw [IntWalk.i64_in _ (by omega)]; omega
      by_cases he1 : e1 = 0
      · exfalso
        have := hle.2.2.2.1 he1
        omega
      · rw [if_pos he1] at hR
        rw [if_pos he1] at hR
        have HE : Hid (Z = 0 ∧ n = p ∧ e = e1) := Lib.hid (by
          simp only [Prod.mk.injEq] at hR
          have h1 := HZ.out
          rw [← hR.1, ← hR.2.1, ← hR.2.2] at h1
          unfold Cs.rdR at h1
          rw [if_pos (by dsimp only; omega)] at h1
          simp only [Prod.mk.injEq] at h1
          exact ⟨h1.1.symm, by omega, h1.2.2.symm⟩)
        have k1 : ((e1 : Nat) == 0) = false := by rw [beq_eq_false_iff_ne]; exact he1
        have HST : Hid ((if p = N then 3 else 2) = e1) := Lib.hid (by
          have := (hle.2.2.2.2 he1).2
          rw [this]
          by_cases h : p = N
          · rw [if_pos h, if_pos (by omega)]
          · rw [if_neg h, if_neg (by omega)])
        clear hR hle hS he1 hf
        go_wp2_with (first
          | (go_at_call 104; with_reducible refine (rp_one u (l.drop a) HU.out.2.1 HU.out.1 x n1 e1 HU.out.2.2 _).mono ?_; rintro e W1 ⟨rfl, rfl⟩)
          | (go_at_call 103; with_reducible refine (rp_stopI s N (p) e1 _ (by omega) hN HST.out _).mono ?_; rintro e W3 ⟨rfl, hb3⟩; unfold Cs.sv; have HC : Hid (SB W3 R 0 ∧ Below w.heap.size w W3) := Lib.hid ⟨HB.out.1.below hb3, HB.out.2.2.trans (hb3.mono HB.out.2.2.size)⟩; clear hb3; have d0 := HC.out.1.at (i := 0) (by decide); have d1 := HC.out.1.at (i := 1) (by decide); have d2 := HC.out.1.at (i := 2) (by decide); have d3 := HC.out.1.at (i := 3) (by decide); have df0 := HC.out.1.free 0; have df1 := HC.out.1.free 1; have df2 := HC.out.1.free 2; have df3 := HC.out.1.free 3))
        have hr := Lib.hid (HC.out.1.res HC.out.2 (by have := HR0.out; omega) 0)
        clear d0 d1 d2 d3 df0 df1 df2 df3 HC
        revert hr
        generalize (((W3.setCell ⟨R, 0, none⟩ (.int .u64 (Cs.wd 0 0))).setCell ⟨R, 1, none⟩ (.int .u64 (Cs.wd 0 1))).setCell ⟨R, 2, none⟩ (.int .u64 (Cs.wd 0 2))).setCell ⟨R, 3, none⟩ (.int .u64 (Cs.wd 0 3)) = W9
        intro hr
        have c0 := hr.out.1.at (i := 0) (by decide)
        have c1 := hr.out.1.at (i := 1) (by decide)
        have c2 := hr.out.1.at (i := 2) (by decide)
        have c3 := hr.out.1.at (i := 3) (by decide)
        refine bodyPost_ret (v := .tuple #[.agg #[.int .u64 (Cs.wd 0 0), .int .u64 (Cs.wd 0 1), .int .u64 (Cs.wd 0 2), .int .u64 (Cs.wd 0 3)], .int .i64 (p : Int), .int .i64 e1]) (by simp [results, Try.results94, go_sem, c0, c1, c2, c3]) rfl ?_
        rw [HE.out.1, HE.out.2.1, HE.out.2.2]
        first | exact ⟨rfl, hr.out.2⟩ | exact ⟨by simp only [Int.natCast_add]; rfl, hr.out.2⟩
    | false =>
      have hab : a ≠ 1 := of_decide_eq_false HR.out.2.2.symm
      exfalso; omega
end Go.Proofs.Ytbdjcppkfihonaa
