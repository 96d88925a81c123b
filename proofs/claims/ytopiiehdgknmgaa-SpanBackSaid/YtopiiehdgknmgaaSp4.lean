/- Span: Find. -/
import Derived.Test.YtopiiehdgknmgaaSp3
import Derived.Test.YtopiiehdgknmgaaArC
namespace Go.Proofs.Ytopiiehdgknmgaa
open Go.ChangeShapes Go.WideShapes Go.ChangeAt Go.RowKit
set_option linter.unusedSimpArgs false
set_option linter.unusedVariables false

theorem hkI2 (k : Nat) : (k : Int) + 1 = ((k + 1 : Nat) : Int) := rfl
theorem sp_fromI (l : List (Bool × BitVec 256)) (hb : goodB l = true) (hz : decide (Lg.least l = 0) = false) (s : ByteArray) (t : List UInt8) (hs : s.size ≤ 1000000) (ht : s.data.toList = t) (tt : Nat) (htt : tt ≤ s.size) (ti : Int) (hti : ti = (tt : Int)) (n : Nat) (a : Option Addr) (c : Nat) (hn : l.length = n) (f : Nat) (is : Bool) (hF : Sp.fr l t tt = (f, is)) (w : World) (hI : IA w a l) :
    Calls Try.prog 38 #[.slice a n c, .string s, .int .i64 ti] w fun e w' => e = .returned (.tuple #[.int .i64 f, .bool is]) ∧ Below w.heap.size w w' := by
  rw [hti]; exact sp_from l hb hz s t hs ht tt htt n a c hn f is hF w hI
set_option maxHeartbeats 4000000 in
theorem sp_find_bad (l : List (Bool × BitVec 256)) (hb : goodB l = false ∨ (goodB l = true ∧ decide (Lg.least l = 0) = true)) (s : ByteArray) (n : Nat) (a : Option Addr) (c : Nat) (hn : l.length = n) (hn6 : n ≤ 100000) (w : World) (hI : IK w a l) :
    Calls Try.prog 37 #[.slice a n c, .string s] w fun e w' => e = .returned (.tuple #[.int .i64 0, .int .i64 0, .bool false]) ∧ Below w.heap.size w w' := by
  have HG := Lib.hid (And.intro hI hn)
  have HBD := Lib.hid hb
  clear hI hn hb
  rcases HBD.out with hb | ⟨hb, hz⟩
  · go_enter Try.func37, Try.ntmps37
    go_wp2_with (go_at_call 55; with_reducible refine (tb_form l hb n a c HG.out.2 (by omega) _ HG.out.1).mono ?_; rintro e W1 ⟨rfl, hb1⟩; have HB := Lib.hid hb1; clear hb1)
    go_ret3
    exact ⟨rfl, HB.out⟩
  · go_enter Try.func37, Try.ntmps37
    go_wp2_with (go_at_call 55; with_reducible refine (tb_empty l hb (Lg.least l) rfl hz n a c HG.out.2 (by omega) _ HG.out.1).mono ?_; rintro e W1 ⟨rfl, hb1⟩; have HB := Lib.hid hb1; clear hb1)
    go_ret3
    exact ⟨rfl, HB.out⟩
set_option maxRecDepth 20000 in
set_option maxHeartbeats 8000000 in
theorem sp_find (l : List (Bool × BitVec 256)) (hb : goodB l = true) (hz : decide (Lg.least l = 0) = false) (s : ByteArray) (t : List UInt8) (hs : s.size ≤ 1000000) (ht : s.data.toList = t) (n : Nat) (a : Option Addr) (c : Nat) (hn : l.length = n) (f m : Nat) (is : Bool) (hF : Lg.firstR l t = (f, m, is)) (w : World) (hI : IK w a l) :
    Calls Try.prog 37 #[.slice a n c, .string s] w fun e w' => e = .returned (.tuple #[.int .i64 f, .int .i64 m, .bool is]) ∧ Below w.heap.size w w' := by
  have hn60 : n ≤ 60 := by have := (goodB_ok hb).2; omega
  have hn62 : n ≤ 62 := by omega
  have h62 : l.length ≤ 62 := by omega
  obtain ⟨N, hN⟩ : ∃ N, s.size = N := ⟨_, rfl⟩
  have hNt : t.length = N := by rw [← ht]; simpa using hN
  have HG := Lib.hid (And.intro hI (And.intro hn (And.intro ht (And.intro hF (And.intro h62 (And.intro hb (And.intro hz (And.intro hN hNt))))))))
  obtain ⟨R, hR⟩ : ∃ R, Tb.mk (Tb.rf l) n = R := ⟨_, rfl⟩
  obtain ⟨H, hH⟩ : ∃ H : Nat → BitVec 64, (fun b => Tb.mk (Tb.hf l b) n) = H := ⟨_, rfl⟩
  have HH : Hid (Tb.mk (Tb.rf l) n = R ∧ (fun b => Tb.mk (Tb.hf l b) n) = H) := Lib.hid ⟨hR, hH⟩
  obtain ⟨X0, hX0⟩ : ∃ X0, Tb.start n R = X0 := ⟨_, rfl⟩
  obtain ⟨x0, hx0⟩ : ∃ x0 : Int, (X0.toNat : Int) = x0 := ⟨_, rfl⟩
  have HX0 : Hid (Tb.start n R = X0 ∧ (X0.toNat : Int) = x0 ∧ Tb.at l n (lgT t) 0 X0) := Lib.hid ⟨hX0, hx0, by
    have := start_at l n hn62 (lgT t)
    rw [hR, hX0] at this; exact this⟩
  have hN6 : N ≤ 1000000 := by omega
  clear hI hn hb hz ht hF h62 hR hH hX0 hx0 hN hNt hs
  go_enter Try.func37, Try.ntmps37
  go_wp2_with (first
    | (go_at_call 55; with_reducible refine (tb_compile l HG.out.2.2.2.2.2.1 (Lg.least l) rfl HG.out.2.2.2.2.2.2.1 n a c HG.out.2.1 _ HG.out.1).mono ?_; rintro e W1 ⟨p, rfl, k1, hb1⟩; have HT : Hid (TB W1 p n R H ∧ Below w.heap.size w W1) := Lib.hid ⟨by have k2 := k1; unfold TP at k2; rw [HH.out.1, HH.out.2] at k2; exact k2, hb1⟩; clear k1 hb1)
    | (go_at_call 56; with_reducible refine (tb_start p n R H hn62 X0 x0 HX0.out.1 HX0.out.2.1 _ HT.out.1).mono ?_; rintro e W3 ⟨rfl, hb1⟩; replace HT := Lib.hid (And.intro (TB.below HT.out.1 hb1) (HT.out.2.trans (hb1.mono HT.out.2.size))); clear hb1))
  go_loopw [9, 10, 22] (fun x at_ i wr => ∃ (k : Nat) (X : BitVec 64) (y : Int), x = .int .u64 y ∧ i = .int .i64 k ∧ k ≤ N ∧ Hid ((X.toNat : Int) = y ∧ Tb.at l n (lgT t) k X ∧ (∀ j, j ≤ k → Lg.occ l t j = false)) ∧ Hid (TB wr p n R H ∧ Below w.heap.size w wr)) (fun _ _ i _ => N - (intOf i).toNat)
  case atStart => exact ⟨0, X0, x0, rfl, rfl, by omega, Lib.hid ⟨HX0.out.2.1, HX0.out.2.2, fun j hj => by rw [Nat.le_zero.1 hj]; exact occ_zero t HG.out.2.2.2.2.2.2.1⟩, HT⟩
  case round =>
    clear HT
    obtain ⟨k, X, y, rfl, rfl, hk, HS, HT⟩ := hrel
    have k0 : (0 : Int) ≤ (k : Int) := by omega
    have HNN := Lib.hid HG.out.2.2.2.2.2.2.2.1
    by_cases hkN : k < N
    · have hks : k < s.size := by rw [HNN.out]; exact hkN
      have hkI : (k : Int) < (N : Int) := by omega
      have hkJ : (k : Int) < (s.size : Int) := by omega
      obtain ⟨bb, hbb⟩ : ∃ bb, (lgT t k).toNat = bb := ⟨_, rfl⟩
      have hbb2 : bb < 256 := by rw [← hbb]; exact (lgT t k).toNat_lt
      have cb : (s[k].toNat : Int) = (bb : Int) := by rw [lgT_at HG.out.2.2.1 hks, hbb]
      obtain ⟨Y, hY⟩ : ∃ Y, Tb.seek n R (H bb) X = Y := ⟨_, rfl⟩
      obtain ⟨y3, hy3⟩ : ∃ y3 : Int, (Y.toNat : Int) = y3 := ⟨_, rfl⟩
      have hat : Tb.at l n (lgT t) (k + 1) Y := by
        have := seek_at hn62 HS.out.2.1 hbb
        have e := congrFun HH.out.2 bb
        rw [HH.out.1, e, hY] at this
        exact this
      obtain ⟨d, hd⟩ : ∃ d, (Tb.whole n R Y).getLsbD n = d := ⟨_, rfl⟩
      have hdn : Lg.occ l t (k + 1) = d := by
        have := done_at hn62 HG.out.2.1 hat
        rw [HH.out.1, hd] at this
        exact this.symm
      have HY : Hid (Tb.seek n R (H bb) X = Y ∧ (Y.toNat : Int) = y3 ∧ (Tb.whole n R Y).getLsbD n = d ∧ Tb.at l n (lgT t) (k + 1) Y) := Lib.hid ⟨hY, hy3, hd, hat⟩
      have HD := Lib.hid hdn
      have w1 : IntKind.i64.wrap ((k : Int) + 1) = (k : Int) + 1 := IntWalk.i64_in _ (by omega)
      have hk1 : k + 1 ≤ s.size := by omega
      have hs6 : s.size ≤ 1000000 := by rw [HNN.out]; exact hN6
      clear hbb hY hy3 hat hd hdn
      cases d with
      | true =>
        have hff := first_fr (l := l) (t := t) (k := k + 1) (by rw [HG.out.2.2.2.2.2.2.2.2]; omega) (fun j hj => HS.out.2.2 j (by omega)) HD.out
        obtain ⟨f2, hf2⟩ : ∃ f2, Sp.fr l t (k + 1) = (f2, true) := ⟨(Sp.fr l t (k + 1)).1, by rw [← hff.2]⟩
        have HE : Hid (f2 = f ∧ k + 1 = m ∧ true = is ∧ Sp.fr l t (k + 1) = (f2, true)) := Lib.hid (by
          have e := hff.1
          rw [HG.out.2.2.2.1, hf2] at e
          injection e with e1 e2
          injection e2 with e2 e3
          exact ⟨e1.symm, e2.symm, e3.symm, hf2⟩)
        clear hff hf2
        go_wp2_with (first
          | (go_at_call 57; with_reducible refine (tb_seek p n R H hn62 X y HS.out.1 bb hbb2 Y y3 HY.out.1 HY.out.2.1 _ HT.out.1).mono ?_; rintro e W3 ⟨rfl, hb1⟩; replace HT := Lib.hid (And.intro (TB.below HT.out.1 hb1) (HT.out.2.trans (hb1.mono HT.out.2.size))); clear hb1)
          | (go_at_call 58; with_reducible refine (tb_done p n R H hn62 Y y3 HY.out.2.1 true HY.out.2.2.1 _ HT.out.1).mono ?_; rintro e W3 ⟨rfl, hb1⟩; replace HT := Lib.hid (And.intro (TB.below HT.out.1 hb1) (HT.out.2.trans (hb1.mono HT.out.2.size))); clear hb1)
          | (go_at_call 38; with_reducible refine (sp_fromI l HG.out.2.2.2.2.2.1 HG.out.2.2.2.2.2.2.1 s t hs6 HG.out.2.2.1 (k + 1) hk1 ((k : Int) + 1) (hkI2 k) n a c HG.out.2.1 f2 true HE.out.2.2.2 _ (HG.out.1.ia.below HT.out.2)).mono ?_; rintro e W3 ⟨rfl, hb1⟩; replace HT := Lib.hid (And.intro (TB.below HT.out.1 hb1) (HT.out.2.trans (hb1.mono HT.out.2.size))); clear hb1))
        go_ret3
        exact ⟨by rw [← HE.out.1, ← HE.out.2.1, ← HE.out.2.2.1]; rfl, HT.out.2⟩
      | false =>
        go_wp2_with (first
          | (go_at_call 57; with_reducible refine (tb_seek p n R H hn62 X y HS.out.1 bb hbb2 Y y3 HY.out.1 HY.out.2.1 _ HT.out.1).mono ?_; rintro e W3 ⟨rfl, hb1⟩; replace HT := Lib.hid (And.intro (TB.below HT.out.1 hb1) (HT.out.2.trans (hb1.mono HT.out.2.size))); clear hb1)
          | (go_at_call 58; with_reducible refine (tb_done p n R H hn62 Y y3 HY.out.2.1 false HY.out.2.2.1 _ HT.out.1).mono ?_; rintro e W3 ⟨rfl, hb1⟩; replace HT := Lib.hid (And.intro (TB.below HT.out.1 hb1) (HT.out.2.trans (hb1.mono HT.out.2.size))); clear hb1))
        have HN : Hid (∀ j, j ≤ k + 1 → Lg.occ l t j = false) := Lib.hid (fun j hj => by
          by_cases e : j = k + 1
          · rw [e]; exact HD.out
          · exact HS.out.2.2 j (by omega))
        refine ⟨?_, ?measure⟩
        case measure => simp [intOf]; omega
        first
          | exact ⟨k + 1, Y, y3, rfl, by go_num, by omega, Lib.hid ⟨HY.out.2.1, HY.out.2.2.2, HN.out⟩, HT⟩
          | ((repeat apply Exists.intro); exact ⟨⟨k + 1, Y, y3, rfl, by go_num, by omega, Lib.hid ⟨HY.out.2.1, HY.out.2.2.2, HN.out⟩, HT⟩, rfl⟩)
    · obtain rfl : k = N := by omega
      have hkI : ¬ (k : Int) < (k : Int) := by omega
      have hkJ : ¬ (k : Int) < (s.size : Int) := by rw [HNN.out]; omega
      have hkK : ¬ k < s.size := by rw [HNN.out]; omega
      have HE : Hid (0 = f ∧ 0 = m ∧ false = is) := Lib.hid (by
        have e := sp_first_none (l := l) (t := t) (fun j hj => HS.out.2.2 j (by rw [HG.out.2.2.2.2.2.2.2.2] at hj; exact hj))
        rw [HG.out.2.2.2.1] at e
        injection e with e1 e2
        injection e2 with e2 e3
        exact ⟨e1.symm, e2.symm, e3.symm⟩)
      go_wp2
      go_ret3
      exact ⟨by rw [← HE.out.1, ← HE.out.2.1, ← HE.out.2.2]; rfl, HT.out.2⟩
end Go.Proofs.Ytopiiehdgknmgaa
