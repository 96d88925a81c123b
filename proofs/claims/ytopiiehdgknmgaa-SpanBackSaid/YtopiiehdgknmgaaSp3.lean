/- Span: From. -/
import Derived.Test.YtopiiehdgknmgaaSp1
import Derived.Test.YtopiiehdgknmgaaSp2
namespace Go.Proofs.Ytopiiehdgknmgaa
open Go.ChangeShapes Go.WideShapes Go.ChangeAt Go.RowKit
set_option linter.unusedSimpArgs false
set_option linter.unusedVariables false

theorem good_rev (l : List (Bool × BitVec 256)) : goodB l.reverse = goodB l := by
  unfold goodB
  simp [List.all_reverse]
theorem sp_from_bad (l : List (Bool × BitVec 256)) (hb : goodB l = false ∨ (goodB l = true ∧ decide (Lg.least l = 0) = true)) (s : ByteArray) (tt : Int) (n : Nat) (a : Option Addr) (c : Nat) (hn : l.length = n) (hn6 : n ≤ 100000) (w : World) (hI : IA w a l) :
    Calls Try.prog 38 #[.slice a n c, .string s, .int .i64 tt] w fun e w' => e = .returned (.tuple #[.int .i64 0, .bool false]) ∧ Below w.heap.size w w' := by
  have HG := Lib.hid (And.intro hI hn)
  clear hI hn
  rcases hb with hb | ⟨hb, hz⟩
  · have hr : goodB l.reverse = false := by rw [good_rev]; exact hb
    have HR := Lib.hid hr
    clear hb hr
    go_enter Try.func38, Try.ntmps38
    go_upto_region 2 with (first
      | (go_at_call 32; with_reducible refine (sp_back l n HG.out.2 hn6 a c _ HG.out.1).mono ?_; rintro e W1 ⟨a2, c2, rfl, k1, hb1⟩; have HK := Lib.hid k1; have HB := Lib.hid hb1; clear k1 hb1)
      | (go_at_call 55; with_reducible refine (tb_form l.reverse HR.out n a2 c2 (by rw [List.length_reverse]; exact HG.out.2) (by omega) _ HK.out).mono ?_; rintro e W1 ⟨rfl, hb1⟩; replace HB := Lib.hid (HB.out.trans (hb1.mono HB.out.size)); clear hb1))
    go_wp2
    go_ret2
    exact ⟨rfl, HB.out⟩
  · have hr : goodB l.reverse = true := by rw [good_rev]; exact hb
    have HR := Lib.hid (And.intro hr hz)
    clear hb hr hz
    go_enter Try.func38, Try.ntmps38
    go_upto_region 2 with (first
      | (go_at_call 32; with_reducible refine (sp_back l n HG.out.2 hn6 a c _ HG.out.1).mono ?_; rintro e W1 ⟨a2, c2, rfl, k1, hb1⟩; have HK := Lib.hid k1; have HB := Lib.hid hb1; clear k1 hb1)
      | (go_at_call 55; with_reducible refine (tb_empty l.reverse HR.out.1 (Lg.least l) (least_rev l) HR.out.2 n a2 c2 (by rw [List.length_reverse]; exact HG.out.2) (by omega) _ HK.out).mono ?_; rintro e W1 ⟨rfl, hb1⟩; replace HB := Lib.hid (HB.out.trans (hb1.mono HB.out.size)); clear hb1))
    go_wp2
    go_ret2
    exact ⟨rfl, HB.out⟩
theorem sp_from_far (l : List (Bool × BitVec 256)) (hb : goodB l = true) (hz : decide (Lg.least l = 0) = false) (s : ByteArray) (tt : Int) (htt : tt < 0 ∨ (s.size : Int) < tt) (n : Nat) (a : Option Addr) (c : Nat) (hn : l.length = n) (w : World) (hI : IA w a l) :
    Calls Try.prog 38 #[.slice a n c, .string s, .int .i64 tt] w fun e w' => e = .returned (.tuple #[.int .i64 0, .bool false]) ∧ Below w.heap.size w w' := by
  have hn60 : n ≤ 60 := by have := (goodB_ok hb).2; omega
  have HG := Lib.hid (And.intro hI hn)
  have hr : goodB l.reverse = true := by rw [good_rev]; exact hb
  have HR := Lib.hid (And.intro hr hz)
  clear hI hn hb hr hz
  by_cases ht : tt < 0
  · clear htt
    go_enter Try.func38, Try.ntmps38
    go_upto_region 2 with (first
      | (go_at_call 32; with_reducible refine (sp_back l n HG.out.2 (by omega) a c _ HG.out.1).mono ?_; rintro e W1 ⟨a2, c2, rfl, k1, hb1⟩; have HK := Lib.hid k1; have HB := Lib.hid hb1; clear k1 hb1)
      | (go_at_call 55; with_reducible refine (tb_compile l.reverse HR.out.1 (Lg.least l) (least_rev l) HR.out.2 n a2 c2 (by rw [List.length_reverse]; exact HG.out.2) _ HK.out).mono ?_; rintro e W1 ⟨p, rfl, _, hb1⟩; replace HB := Lib.hid (HB.out.trans (hb1.mono HB.out.size)); clear hb1))
    go_wp2
    go_ret2
    exact ⟨rfl, HB.out⟩
  · have h2 : (s.size : Int) < tt := by omega
    clear htt
    go_enter Try.func38, Try.ntmps38
    go_upto_region 2 with (first
      | (go_at_call 32; with_reducible refine (sp_back l n HG.out.2 (by omega) a c _ HG.out.1).mono ?_; rintro e W1 ⟨a2, c2, rfl, k1, hb1⟩; have HK := Lib.hid k1; have HB := Lib.hid hb1; clear k1 hb1)
      | (go_at_call 55; with_reducible refine (tb_compile l.reverse HR.out.1 (Lg.least l) (least_rev l) HR.out.2 n a2 c2 (by rw [List.length_reverse]; exact HG.out.2) _ HK.out).mono ?_; rintro e W1 ⟨p, rfl, _, hb1⟩; replace HB := Lib.hid (HB.out.trans (hb1.mono HB.out.size)); clear hb1))
    go_wp2
    go_ret2
    exact ⟨rfl, HB.out⟩
set_option maxRecDepth 20000 in
set_option maxHeartbeats 8000000 in
theorem sp_from (l : List (Bool × BitVec 256)) (hb : goodB l = true) (hz : decide (Lg.least l = 0) = false) (s : ByteArray) (t : List UInt8) (hs : s.size ≤ 1000000) (ht : s.data.toList = t) (tt : Nat) (htt : tt ≤ s.size) (n : Nat) (a : Option Addr) (c : Nat) (hn : l.length = n) (f : Nat) (is : Bool) (hF : Sp.fr l t tt = (f, is)) (w : World) (hI : IA w a l) :
    Calls Try.prog 38 #[.slice a n c, .string s, .int .i64 tt] w fun e w' => e = .returned (.tuple #[.int .i64 f, .bool is]) ∧ Below w.heap.size w w' := by
  have hn60 : n ≤ 60 := by have := (goodB_ok hb).2; omega
  have hn62 : n ≤ 62 := by omega
  have h62 : l.length ≤ 62 := by omega
  have HG := Lib.hid (And.intro hI (And.intro hn (And.intro ht (And.intro hF h62))))
  have hr : goodB l.reverse = true := by rw [good_rev]; exact hb
  have HR := Lib.hid (And.intro hr hz)
  obtain ⟨R, hR⟩ : ∃ R, Tb.mk (Tb.rf l.reverse) l.length = R := ⟨_, rfl⟩
  obtain ⟨H, hH⟩ : ∃ H : Nat → BitVec 64, (fun b => Tb.mk (Tb.hf l.reverse b) l.length) = H := ⟨_, rfl⟩
  have HH : Hid (Tb.mk (Tb.rf l.reverse) l.length = R ∧ (fun b => Tb.mk (Tb.hf l.reverse b) l.length) = H) := Lib.hid ⟨hR, hH⟩
  obtain ⟨X0, hX0⟩ : ∃ X0, Tb.start n R = X0 := ⟨_, rfl⟩
  obtain ⟨x0, hx0⟩ : ∃ x0 : Int, (X0.toNat : Int) = x0 := ⟨_, rfl⟩
  have HX0 : Hid (Tb.start n R = X0 ∧ (X0.toNat : Int) = x0 ∧ Sp.at l t tt 0 X0) := Lib.hid ⟨hX0, hx0, by
    have := sp_start l h62 t tt
    rw [hR, hn, hX0] at this; exact this⟩
  have j0 : (0 : Int) ≤ (tt : Int) := by omega
  have j1 : (tt : Int) ≤ (s.size : Int) := by omega
  have j2 : ¬ (s.size : Int) < (tt : Int) := by omega
  have j3 : ¬ (tt : Int) < 0 := by omega
  have j4 : ¬ s.size < tt := by omega
  have w0 : IntKind.i64.wrap ((tt : Int) - 1) = (tt : Int) - 1 := IntWalk.i64_in _ (by omega)
  clear hI hn hb hr hz ht hF h62 hR hH hX0 hx0
  go_enter Try.func38, Try.ntmps38
  go_upto_region 2 with (first
    | (go_at_call 32; with_reducible refine (sp_back l n HG.out.2.1 (by omega) a c _ HG.out.1).mono ?_; rintro e W1 ⟨a2, c2, rfl, k1, hb1⟩; have HK := Lib.hid k1; have HB := Lib.hid hb1; clear k1 hb1)
    | (go_at_call 55; with_reducible refine (tb_compile l.reverse HR.out.1 (Lg.least l) (least_rev l) HR.out.2 n a2 c2 (by rw [List.length_reverse]; exact HG.out.2.1) _ HK.out).mono ?_; rintro e W1 ⟨p, rfl, k1, hb1⟩; have HT : Hid (TB W1 p n R H ∧ Below w.heap.size w W1) := Lib.hid ⟨by have k2 := k1; unfold TP at k2; rw [← HG.out.2.1, HH.out.1, HH.out.2] at k2; rw [← HG.out.2.1]; exact k2, HB.out.trans (hb1.mono HB.out.size)⟩; clear k1 hb1 HB HK))
  go_wp2_with (go_at_call 56; with_reducible refine (tb_start p n R H hn62 X0 x0 HX0.out.1 HX0.out.2.1 _ HT.out.1).mono ?_; rintro e W3 ⟨rfl, hb1⟩; replace HT := Lib.hid (And.intro (TB.below HT.out.1 hb1) (HT.out.2.trans (hb1.mono HT.out.2.size))); clear hb1)
  go_loopw [10, 11, 12, 13] (fun le ok x at_ wr => ∃ (k f1 : Nat) (is1 : Bool) (X : BitVec 64) (y z : Int), le = .int .i64 f1 ∧ ok = .bool is1 ∧ x = .int .u64 y ∧ at_ = .int .i64 z ∧ Hid (z = (tt : Int) - 1 - (k : Int)) ∧ k ≤ tt ∧ Hid ((X.toNat : Int) = y ∧ Sp.at l t tt k X ∧ Sp.hd (Lg.fr l t tt (tt - k)) = (f1, is1)) ∧ Hid (TB wr p n R H ∧ Below w.heap.size w wr)) (fun _ _ _ at_ _ => (intOf at_ + 1).toNat)
  case atStart => exact ⟨0, 0, false, X0, x0, (tt : Int) - 1, rfl, rfl, rfl, by first | rfl | rw [w0] | go_num, Lib.hid (by omega), by omega, Lib.hid ⟨HX0.out.2.1, HX0.out.2.2, sp_zero HR.out.2 t tt⟩, HT⟩
  case round =>
    clear HT
    obtain ⟨k, f1, is1, X, y, z, rfl, rfl, rfl, rfl, hzz, hk, HS, HT⟩ := hrel
    by_cases hkt : k < tt
    · obtain ⟨j, hj⟩ : ∃ j, tt - 1 - k = j := ⟨_, rfl⟩
      obtain rfl : z = (j : Int) := by have := hzz.out; omega
      have z0 : (0 : Int) ≤ (j : Int) := by omega
      by_cases hX : X = 0
      · have y0 : y = 0 := by rw [← HS.out.1, hX]; rfl
        have HE : Hid (f1 = f ∧ is1 = is) := Lib.hid (by
          have h := HS.out.2.1
          rw [hX] at h
          have e := sp_end HG.out.2.2.2.2 (by omega) h
          rw [HS.out.2.2, HG.out.2.2.2.1] at e
          injection e with e1 e2
          exact ⟨e1, e2⟩)
        subst y0
        clear hX hj
        go_wp2
        go_ret2
        exact ⟨by rw [← HE.out.1, ← HE.out.2]; rfl, HT.out.2⟩
      · have y1 : ¬ y = 0 := fun e => hX (by
          rw [← HS.out.1] at e
          exact BitVec.eq_of_toNat_eq (by simpa using e))
        have y2 : (y == 0) = false := by rw [beq_eq_false_iff_ne]; exact y1
        have hjs : j < s.size := by omega
        have hjI : (j : Int) < (s.size : Int) := by omega
        obtain ⟨bb, hbb⟩ : ∃ bb, (lgT t j).toNat = bb := ⟨_, rfl⟩
        have hbb2 : bb < 256 := by rw [← hbb]; exact (lgT t j).toNat_lt
        have cb : (s[j].toNat : Int) = (bb : Int) := by rw [lgT_at HG.out.2.2.1 hjs, hbb]
        obtain ⟨Y, hY⟩ : ∃ Y, Tb.step n R (H bb) X = Y := ⟨_, rfl⟩
        obtain ⟨y3, hy3⟩ : ∃ y3 : Int, (Y.toNat : Int) = y3 := ⟨_, rfl⟩
        have hat : Sp.at l t tt (k + 1) Y := by
          have := sp_step HG.out.2.2.2.2 HS.out.2.1 (b := bb) (by rw [hj]; exact hbb)
          have e := congrFun HH.out.2 bb
          rw [HH.out.1, e, HG.out.2.1, hY] at this
          exact this
        obtain ⟨d, hd⟩ : ∃ d, (Tb.whole n R Y).getLsbD n = d := ⟨_, rfl⟩
        have hdn : Lg.D (lgL l) (lgT t) j l.length tt = d := by
          have := sp_done HG.out.2.2.2.2 (by omega) hat
          rw [HH.out.1, HG.out.2.1, hd] at this
          rw [this, HG.out.2.1]; congr 1; omega
        have HY : Hid (Tb.step n R (H bb) X = Y ∧ (Y.toNat : Int) = y3 ∧ (Tb.whole n R Y).getLsbD n = d ∧ Sp.at l t tt (k + 1) Y) := Lib.hid ⟨hY, hy3, hd, hat⟩
        have HJ : Hid (tt - (k + 1) = j ∧ tt - k = j + 1 ∧ Lg.D (lgL l) (lgT t) j l.length tt = d) := Lib.hid ⟨by omega, by omega, hdn⟩
        have jt : j ≤ tt := by omega
        have w1 : IntKind.i64.wrap ((j : Int) - 1) = (j : Int) - 1 := IntWalk.i64_in _ (by omega)
        have HZ : Hid ((j : Int) - 1 = (tt : Int) - 1 - ((k + 1 : Nat) : Int) ∧ k + 1 ≤ tt) := Lib.hid ⟨by omega, by omega⟩
        clear hbb hY hy3 hat hd hdn hj hX hzz hkt
        cases d with
        | true =>
          go_wp2_with (first
            | (go_at_call 59; with_reducible refine (tb_step p n R H hn62 X y HS.out.1 bb hbb2 Y y3 HY.out.1 HY.out.2.1 _ HT.out.1).mono ?_; rintro e W3 ⟨rfl, hb1⟩; replace HT := Lib.hid (And.intro (TB.below HT.out.1 hb1) (HT.out.2.trans (hb1.mono HT.out.2.size))); clear hb1)
            | (go_at_call 58; with_reducible refine (tb_done p n R H hn62 Y y3 HY.out.2.1 true HY.out.2.2.1 _ HT.out.1).mono ?_; rintro e W3 ⟨rfl, hb1⟩; replace HT := Lib.hid (And.intro (TB.below HT.out.1 hb1) (HT.out.2.trans (hb1.mono HT.out.2.size))); clear hb1))
          have HN : Hid (Sp.hd (Lg.fr l t tt (tt - (k + 1))) = (j, true)) := Lib.hid (by rw [HJ.out.1]; exact sp_yes (by omega) HJ.out.2.2)
          refine ⟨?_, ?measure⟩
          case measure => simp [intOf]; try omega
          first
            | exact ⟨k + 1, j, true, Y, y3, (j : Int) - 1, rfl, rfl, rfl, by first | rfl | rw [w1] | go_num, Lib.hid HZ.out.1, HZ.out.2, Lib.hid ⟨HY.out.2.1, HY.out.2.2.2, HN.out⟩, HT⟩
            | ((repeat apply Exists.intro); exact ⟨⟨k + 1, j, true, Y, y3, (j : Int) - 1, rfl, rfl, rfl, by first | rfl | rw [w1] | go_num, Lib.hid HZ.out.1, HZ.out.2, Lib.hid ⟨HY.out.2.1, HY.out.2.2.2, HN.out⟩, HT⟩, rfl⟩)
        | false =>
          go_wp2_with (first
            | (go_at_call 59; with_reducible refine (tb_step p n R H hn62 X y HS.out.1 bb hbb2 Y y3 HY.out.1 HY.out.2.1 _ HT.out.1).mono ?_; rintro e W3 ⟨rfl, hb1⟩; replace HT := Lib.hid (And.intro (TB.below HT.out.1 hb1) (HT.out.2.trans (hb1.mono HT.out.2.size))); clear hb1)
            | (go_at_call 58; with_reducible refine (tb_done p n R H hn62 Y y3 HY.out.2.1 false HY.out.2.2.1 _ HT.out.1).mono ?_; rintro e W3 ⟨rfl, hb1⟩; replace HT := Lib.hid (And.intro (TB.below HT.out.1 hb1) (HT.out.2.trans (hb1.mono HT.out.2.size))); clear hb1))
          have HN : Hid (Sp.hd (Lg.fr l t tt (tt - (k + 1))) = (f1, is1)) := Lib.hid (by rw [HJ.out.1, sp_no (by omega) HJ.out.2.2, ← HJ.out.2.1]; exact HS.out.2.2)
          refine ⟨?_, ?measure⟩
          case measure => simp [intOf]; try omega
          first
            | exact ⟨k + 1, f1, is1, Y, y3, (j : Int) - 1, rfl, rfl, rfl, by first | rfl | rw [w1] | go_num, Lib.hid HZ.out.1, HZ.out.2, Lib.hid ⟨HY.out.2.1, HY.out.2.2.2, HN.out⟩, HT⟩
            | ((repeat apply Exists.intro); exact ⟨⟨k + 1, f1, is1, Y, y3, (j : Int) - 1, rfl, rfl, rfl, by first | rfl | rw [w1] | go_num, Lib.hid HZ.out.1, HZ.out.2, Lib.hid ⟨HY.out.2.1, HY.out.2.2.2, HN.out⟩, HT⟩, rfl⟩)
    · obtain rfl : k = tt := by omega
      obtain rfl : z = -1 := by have := hzz.out; omega
      have HE : Hid (f1 = f ∧ is1 = is) := Lib.hid (by
        have e := HS.out.2.2
        rw [Nat.sub_self, ← starts_fr] at e
        have e2 := HG.out.2.2.2.1
        unfold Sp.fr at e2
        rw [e2] at e
        injection e with e1 e2
        exact ⟨e1.symm, e2.symm⟩)
      go_wp2
      go_ret2
      exact ⟨by rw [← HE.out.1, ← HE.out.2]; rfl, HT.out.2⟩
end Go.Proofs.Ytopiiehdgknmgaa
