/- Tables: what no table tells; a pattern goes byte by byte. -/
import Derived.Test.YtjedjnpepjdgeaaTb5
namespace Go.Proofs.Ytjedjnpepjdgeaa
open Go.ChangeShapes Go.WideShapes Go.ChangeAt Go.RowKit
set_option linter.unusedSimpArgs false
set_option linter.unusedVariables false

theorem TP.tb {w : World} {p n k : Nat} {l : List (Bool × BitVec 256)} (h : TP w p l n k) : TB w p n (Tb.mk (Tb.rf l) k) (fun b => Tb.mk (Tb.hf l b) k) := h
theorem tb_start_nil (w : World) : Calls Try.prog 37 #[.pointer none] w fun e w' => e = .returned (.int .u64 0) ∧ Below w.heap.size w w' := by
  go_enter Try.func37, Try.ntmps37
  go_wp2
  go_ret
  exact ⟨rfl, Below.refl _ _⟩
theorem tb_step_nil (x b : Int) (w : World) : Calls Try.prog 39 #[.pointer none, .int .u64 x, .int .u8 b] w fun e w' => e = .returned (.int .u64 0) ∧ Below w.heap.size w w' := by
  go_enter Try.func39, Try.ntmps39
  go_wp2
  go_ret
  exact ⟨rfl, Below.refl _ _⟩
theorem u_or0 : bits BinOp.or IntKind.u64 0 0 = 0 := by decide +kernel
theorem tb_seek_nil (x b : Int) (w : World) : Calls Try.prog 41 #[.pointer none, .int .u64 x, .int .u8 b] w fun e w' => e = .returned (.int .u64 0) ∧ Below w.heap.size w w' := by
  have u0 := u_or0
  go_enter Try.func41, Try.ntmps41
  go_wp2_with (first
    | (go_at_call 39; with_reducible refine (tb_step_nil x b _).mono ?_; rintro e W1 ⟨rfl, hb1⟩; have HB := Lib.hid hb1; clear hb1)
    | (go_at_call 37; with_reducible refine (tb_start_nil _).mono ?_; rintro e W1 ⟨rfl, hb1⟩; replace HB := Lib.hid (HB.out.trans (hb1.mono HB.out.size)); clear hb1))
  go_ret
  exact ⟨rfl, HB.out⟩
theorem tb_done_nil (x : Int) (w : World) : Calls Try.prog 43 #[.pointer none, .int .u64 x] w fun e w' => e = .returned (.bool false) ∧ Below w.heap.size w w' := by
  go_enter Try.func43, Try.ntmps43
  go_wp2_with fail
  go_region
  go_wp2
  go_ret
  exact ⟨rfl, (Below.refl _ _).drew⟩
theorem tb_len_nil (w : World) : Calls Try.prog 36 #[.pointer none] w fun e w' => e = .returned (.int .i64 0) ∧ Below w.heap.size w w' := by
  go_enter Try.func36, Try.ntmps36
  go_wp2
  go_ret
  exact ⟨rfl, Below.refl _ _⟩
theorem tb_stepI (p n : Nat) (R : BitVec 64) (H : Nat → BitVec 64) (hn : n ≤ 62) (X : BitVec 64) (x : Int) (hx : (X.toNat : Int) = x) (b : Nat) (bi : Int) (hbi : bi = (b : Int)) (hb : b < 256) (Y : BitVec 64) (y : Int) (hY : Tb.step n R (H b) X = Y) (hy : (Y.toNat : Int) = y) (w : World) (h : TB w p n R H) :
    Calls Try.prog 39 #[.pointer (some ⟨p, 0, none⟩), .int .u64 x, .int .u8 bi] w fun e w' => e = .returned (.int .u64 y) ∧ Below w.heap.size w w' := by
  subst hbi
  exact tb_step p n R H hn X x hx b hb Y y hY hy w h
theorem lt1 : Tb.start 3 (Tb.mk (Tb.rf [(false, Cs.ofL [97]), (true, 0), (false, Cs.ofL [98])]) 3) = 1 := by decide +kernel
theorem lt2 : Tb.step 3 (Tb.mk (Tb.rf [(false, Cs.ofL [97]), (true, 0), (false, Cs.ofL [98])]) 3) (Tb.mk (Tb.hf [(false, Cs.ofL [97]), (true, 0), (false, Cs.ofL [98])] 97) 3) 1 = 6 := by decide +kernel
theorem lt3 : Tb.step 3 (Tb.mk (Tb.rf [(false, Cs.ofL [97]), (true, 0), (false, Cs.ofL [98])]) 3) (Tb.mk (Tb.hf [(false, Cs.ofL [97]), (true, 0), (false, Cs.ofL [98])] 98) 3) 6 = 14 := by decide +kernel
theorem lt4 : (Tb.whole 3 (Tb.mk (Tb.rf [(false, Cs.ofL [97]), (true, 0), (false, Cs.ofL [98])]) 3) 14).getLsbD 3 = true := by decide +kernel
theorem lt5 : (Tb.whole 3 (Tb.mk (Tb.rf [(false, Cs.ofL [97]), (true, 0), (false, Cs.ofL [98])]) 3) 6).getLsbD 3 = false := by decide +kernel
set_option maxRecDepth 20000 in
set_option maxHeartbeats 8000000 in
theorem tb_lives (w : World) :
    Calls Try.prog 35 #[] w fun e w' => e = .returned (.bool true) ∧ Below w.heap.size w w' := by
  obtain ⟨X, hX⟩ : ∃ X, Cs.ofL [97] = X := ⟨_, rfl⟩
  obtain ⟨Y, hY⟩ : ∃ Y, Cs.ofL [98] = Y := ⟨_, rfl⟩
  have h1 := lt1
  have h2 := lt2
  have h3 := lt3
  have h4 := lt4
  have h5 := lt5
  rw [hX, hY] at h1 h2 h3 h4 h5
  obtain ⟨L, hL⟩ : ∃ L, [(false, X), (true, 0), (false, Y)] = L := ⟨_, rfl⟩
  have HX := Lib.hid (And.intro hX hY)
  rw [hL] at h1 h2 h3 h4 h5
  have HC : Hid (goodB L = true ∧ Lg.least L = 2 ∧ decide (2 = 0) = false ∧ L.length = 3 ∧ [(false, X), (true, 0), (false, Y)] = L) := Lib.hid ⟨by rw [← hL]; unfold goodB; simp, by rw [← hL]; rfl, by decide, by rw [← hL]; rfl, hL⟩
  have H1 := Lib.hid h1
  have H2 : Hid (Tb.step 3 (Tb.mk (Tb.rf L) 3) ((fun b => Tb.mk (Tb.hf L b) 3) 97) 1 = 6) := Lib.hid h2
  have H3 : Hid (Tb.step 3 (Tb.mk (Tb.rf L) 3) ((fun b => Tb.mk (Tb.hf L b) 3) 98) 6 = 14) := Lib.hid h3
  have H4 := Lib.hid h4
  have H5 := Lib.hid h5
  have HV : Hid (((1 : BitVec 64).toNat : Int) = 1 ∧ ((6 : BitVec 64).toNat : Int) = 6 ∧ ((14 : BitVec 64).toNat : Int) = 14 ∧ (97 : Int) = ((97 : Nat) : Int) ∧ (98 : Int) = ((98 : Nat) : Int)) := Lib.hid ⟨rfl, rfl, rfl, rfl, rfl⟩
  clear hX hY h1 h2 h3 h4 h5 hL
  go_enter Try.func35, Try.ntmps35
  go_upto_region 2 with (first
    | (go_at_call 58; with_reducible refine (of_a X HX.out.1 _).mono ?_; rintro e W1 ⟨rfl, b1⟩; unfold Cs.sv; have HB1 := Lib.hid b1; clear b1)
    | (go_at_call 58; with_reducible refine (of_b Y HX.out.2 _).mono ?_; rintro e W2 ⟨rfl, b1⟩; unfold Cs.sv; have HB2 := Lib.hid (HB1.out.trans (b1.mono HB1.out.size)); clear b1; have HI : Hid (IK (W2.alloc (.cells #[.bool false, .int .u64 (Cs.wd X 0), .int .u64 (Cs.wd X 1), .int .u64 (Cs.wd X 2), .int .u64 (Cs.wd X 3), .bool true, .int .u64 0, .int .u64 0, .int .u64 0, .int .u64 0, .bool false, .int .u64 (Cs.wd Y 0), .int .u64 (Cs.wd Y 1), .int .u64 (Cs.wd Y 2), .int .u64 (Cs.wd Y 3)] 41)) (some ⟨W2.heap.size, 0, none⟩) L ∧ Below w.heap.size w (W2.alloc (.cells #[.bool false, .int .u64 (Cs.wd X 0), .int .u64 (Cs.wd X 1), .int .u64 (Cs.wd X 2), .int .u64 (Cs.wd X 3), .bool true, .int .u64 0, .int .u64 0, .int .u64 0, .int .u64 0, .bool false, .int .u64 (Cs.wd Y 0), .int .u64 (Cs.wd Y 1), .int .u64 (Cs.wd Y 2), .int .u64 (Cs.wd Y 3)] 41))) := Lib.hid ⟨by rw [← HC.out.2.2.2.2]; exact lv_items X Y W2, HB2.out.alloc HB2.out.size _⟩)
    | (go_at_call 34; revert HI; generalize W2.alloc (.cells #[.bool false, .int .u64 (Cs.wd X 0), .int .u64 (Cs.wd X 1), .int .u64 (Cs.wd X 2), .int .u64 (Cs.wd X 3), .bool true, .int .u64 0, .int .u64 0, .int .u64 0, .int .u64 0, .bool false, .int .u64 (Cs.wd Y 0), .int .u64 (Cs.wd Y 1), .int .u64 (Cs.wd Y 2), .int .u64 (Cs.wd Y 3)] 41) = W3; generalize W2.heap.size = g3; intro HI; with_reducible refine (tb_compile L HC.out.1 2 HC.out.2.1 HC.out.2.2.1 3 _ 3 HC.out.2.2.2.1 _ HI.out.1).mono ?_; rintro e W4 ⟨p, rfl, k4, b4⟩; have HT : Hid (TB W4 p 3 (Tb.mk (Tb.rf L) 3) (fun b => Tb.mk (Tb.hf L b) 3) ∧ Below w.heap.size w W4) := Lib.hid (And.intro (TP.tb k4) (HI.out.2.trans (b4.mono HI.out.2.size))); clear k4 b4))
  clear HB1 HB2 HI
  go_wp2_with (first
    | (go_at_call 37; with_reducible refine (tb_start p 3 (Tb.mk (Tb.rf L) 3) (fun b => Tb.mk (Tb.hf L b) 3) (by omega) 1 1 H1.out HV.out.1 _ HT.out.1).mono ?_; rintro e W1 ⟨rfl, hb1⟩; replace HT := Lib.hid (And.intro (TB.below HT.out.1 hb1) (HT.out.2.trans (hb1.mono HT.out.2.size))); clear hb1)
    | (go_at_call 39; with_reducible refine (tb_stepI p 3 (Tb.mk (Tb.rf L) 3) (fun b => Tb.mk (Tb.hf L b) 3) (by omega) 1 1 HV.out.1 97 97 HV.out.2.2.2.1 (by omega) 6 6 H2.out HV.out.2.1 _ HT.out.1).mono ?_; rintro e W1 ⟨rfl, hb1⟩; replace HT := Lib.hid (And.intro (TB.below HT.out.1 hb1) (HT.out.2.trans (hb1.mono HT.out.2.size))); clear hb1)
    | (go_at_call 39; with_reducible refine (tb_stepI p 3 (Tb.mk (Tb.rf L) 3) (fun b => Tb.mk (Tb.hf L b) 3) (by omega) 6 6 HV.out.2.1 98 98 HV.out.2.2.2.2 (by omega) 14 14 H3.out HV.out.2.2.1 _ HT.out.1).mono ?_; rintro e W1 ⟨rfl, hb1⟩; replace HT := Lib.hid (And.intro (TB.below HT.out.1 hb1) (HT.out.2.trans (hb1.mono HT.out.2.size))); clear hb1)
    | (go_at_call 43; with_reducible refine (tb_done p 3 (Tb.mk (Tb.rf L) 3) (fun b => Tb.mk (Tb.hf L b) 3) (by omega) 14 14 HV.out.2.2.1 true H4.out _ HT.out.1).mono ?_; rintro e W1 ⟨rfl, hb1⟩; replace HT := Lib.hid (And.intro (TB.below HT.out.1 hb1) (HT.out.2.trans (hb1.mono HT.out.2.size))); clear hb1)
    | (go_at_call 43; with_reducible refine (tb_done p 3 (Tb.mk (Tb.rf L) 3) (fun b => Tb.mk (Tb.hf L b) 3) (by omega) 6 6 HV.out.2.1 false H5.out _ HT.out.1).mono ?_; rintro e W1 ⟨rfl, hb1⟩; replace HT := Lib.hid (And.intro (TB.below HT.out.1 hb1) (HT.out.2.trans (hb1.mono HT.out.2.size))); clear hb1))
  go_ret
  exact ⟨rfl, HT.out.2⟩
end Go.Proofs.Ytjedjnpepjdgeaa
