/- P9.3: for every pattern and text (somewhat cut): a table that goes through the text, beginning anew all the time, tells at each place whether the pattern occurs to there. No condition. -/
import Derived.Test.YtjedjnpepjdgeaaOpen
import Derived.WalkKit
import Derived.ProofKit
import Derived.OpenShut
import Derived.Test.YtjedjnpepjdgeaaTb7
namespace Go.Proofs.Ytjedjnpepjdgeaa.tableSeeks
open Go.Joins Go.ChangeShapes Go.WideShapes Go.ChangeAt Go.RowKit Go.Deep
open Go.ChangeMaps (open_string)
set_option linter.unusedSimpArgs false
set_option linter.unusedVariables false

set_option maxRecDepth 20000 in
set_option maxHeartbeats 16000000 in

theorem walk (a0 : Option Addr) (len0 cap0 : Nat) (z0 : List (Bool × BitVec 256)) (a1 : ByteArray) (w : World) (w0 : IsIt w a0 len0 cap0 z0) (w1 : a1.size ≤ maxLen) :
    Calls Try.prog 9 #[.slice a0 len0 cap0, .string a1] w fun e w' => e = .returned (.bool true) ∧ Below w.heap.size w w' := by
  obtain ⟨L, hL⟩ : ∃ L, z0.take 6 = L := ⟨_, rfl⟩
  obtain ⟨n, hn⟩ : ∃ n, L.length = n := ⟨_, rfl⟩
  have hnm : n ≤ 6 := by rw [← hn, ← hL, List.length_take]; omega
  have hn6 : n ≤ 1000000 := by omega
  have hn3 : n ≤ 1000 := by omega
  have HI := Lib.hid (items_in w0)
  obtain ⟨s, hs⟩ : ∃ s, cutT a1 12 = s := ⟨_, rfl⟩
  have hs6 : s.size ≤ 12 := by rw [← hs]; exact cutT_le _ _
  have hs3 : s.size ≤ 1000 := by omega
  have hs1 : s.size ≤ 1000000 := by omega
  obtain ⟨t, ht⟩ : ∃ t, s.data.toList = t := ⟨_, rfl⟩
  obtain ⟨N, hN⟩ : ∃ N, s.size = N := ⟨_, rfl⟩
  obtain ⟨m, hm⟩ : ∃ m, Lg.least L = m := ⟨_, rfl⟩
  have hn62 : n ≤ 62 := by omega
  have HS : Hid (cutT a1 12 = s ∧ s.data.toList = t) := Lib.hid ⟨hs, ht⟩
  cases hg : goodB L with
  | false =>
    have HN : Hid (z0.take 6 = L ∧ L.length = n ∧ goodB L = false) := Lib.hid ⟨hL, hn, hg⟩
    clear hL hn hg hs ht hm
    go_enter Try.func9, Try.ntmps9
    go_upto_region 2 with (first
      | (go_at_call 15; with_reducible refine (fewm_first 6 (by omega) z0 L HN.out.1 n HN.out.2.1 a0 len0 cap0 HI.out.1 HI.out.2.1 6 rfl _ HI.out.2.2).mono ?_; rintro e W1 ⟨a, c0, rfl, ha, hb1⟩; have HB := Lib.hid (And.intro ha hb1); have HP := Lib.hid ha; clear ha hb1)
      | (go_at_call 16; with_reducible refine (cut_m a1 s 12 (by omega) w1 HS.out.1 12 rfl _).mono ?_; rintro e W1 ⟨rfl, hb1⟩; first | (replace HB := Lib.hid (And.intro (HB.out.1.below hb1) (HB.out.2.trans (hb1.mono HB.out.2.size))); replace HP := Lib.hid (IK.below HP.out hb1); clear hb1) | clear hb1))
    go_upto_region 3 with (first
      | (go_at_call 15; with_reducible refine (fewm_again 6 (by omega) L n HN.out.2.1 hnm a c0 6 rfl _ HB.out.1.ia).mono ?_; rintro e W1 ⟨p, cp, rfl, hp, hb1⟩; replace HB := Lib.hid (And.intro (HB.out.1.below hb1) (HB.out.2.trans (hb1.mono HB.out.2.size))); replace HP := Lib.hid (IK.below HP.out hb1); clear hb1; clear HP; have HP := Lib.hid hp; clear hp)
      | (go_at_call 16; with_reducible refine (cut_m a1 s 12 (by omega) w1 HS.out.1 12 rfl _).mono ?_; rintro e W1 ⟨rfl, hb1⟩; first | (replace HB := Lib.hid (And.intro (HB.out.1.below hb1) (HB.out.2.trans (hb1.mono HB.out.2.size))); replace HP := Lib.hid (IK.below HP.out hb1); clear hb1) | clear hb1)
      | (go_at_call 34; with_reducible refine (tb_form L HN.out.2.2 n p cp HN.out.2.1 hn6 _ HP.out).mono ?_; rintro e W1 ⟨rfl, hb1⟩; replace HB := Lib.hid (And.intro (HB.out.1.below hb1) (HB.out.2.trans (hb1.mono HB.out.2.size))); replace HP := Lib.hid (IK.below HP.out hb1); clear hb1)
      | (go_at_call 17; with_reducible refine (rg_good L false HN.out.2.2 a n c0 HN.out.2.1 hn6 _ HB.out.1.li).mono ?_; rintro e W1 ⟨rfl, hb1⟩; replace HB := Lib.hid (And.intro (HB.out.1.below hb1) (HB.out.2.trans (hb1.mono HB.out.2.size))); replace HP := Lib.hid (IK.below HP.out hb1); clear hb1)
      | (go_at_call 35; with_reducible refine (tb_lives _).mono ?_; rintro e W1 ⟨rfl, hb1⟩; replace HB := Lib.hid (And.intro (HB.out.1.below hb1) (HB.out.2.trans (hb1.mono HB.out.2.size))); replace HP := Lib.hid (IK.below HP.out hb1); clear hb1))
    go_wp2_with (first
      | (go_at_call 16; with_reducible refine (cut_m a1 s 12 (by omega) w1 HS.out.1 12 rfl _).mono ?_; rintro e W1 ⟨rfl, hb1⟩; first | (replace HB := Lib.hid (And.intro (HB.out.1.below hb1) (HB.out.2.trans (hb1.mono HB.out.2.size))); replace HP := Lib.hid (IK.below HP.out hb1); clear hb1) | clear hb1)
      | (go_at_call 34; with_reducible refine (tb_form L HN.out.2.2 n p cp HN.out.2.1 hn6 _ HP.out).mono ?_; rintro e W1 ⟨rfl, hb1⟩; replace HB := Lib.hid (And.intro (HB.out.1.below hb1) (HB.out.2.trans (hb1.mono HB.out.2.size))); replace HP := Lib.hid (IK.below HP.out hb1); clear hb1)
      | (go_at_call 17; with_reducible refine (rg_good L false HN.out.2.2 a n c0 HN.out.2.1 hn6 _ HB.out.1.li).mono ?_; rintro e W1 ⟨rfl, hb1⟩; replace HB := Lib.hid (And.intro (HB.out.1.below hb1) (HB.out.2.trans (hb1.mono HB.out.2.size))); replace HP := Lib.hid (IK.below HP.out hb1); clear hb1)
      | (go_at_call 35; with_reducible refine (tb_lives _).mono ?_; rintro e W1 ⟨rfl, hb1⟩; replace HB := Lib.hid (And.intro (HB.out.1.below hb1) (HB.out.2.trans (hb1.mono HB.out.2.size))); replace HP := Lib.hid (IK.below HP.out hb1); clear hb1))
    go_ret
    exact ⟨rfl, HB.out.2⟩
  | true =>
    have HN : Hid (z0.take 6 = L ∧ L.length = n ∧ goodB L = true) := Lib.hid ⟨hL, hn, hg⟩
    cases hm0 : decide (m = 0) with
    | true =>
      have HM := Lib.hid (And.intro hm hm0)
      have hmz : m = 0 := of_decide_eq_true hm0
      clear hL hn hg hs ht hm hm0
      go_enter Try.func9, Try.ntmps9
      go_upto_region 2 with (first
        | (go_at_call 15; with_reducible refine (fewm_first 6 (by omega) z0 L HN.out.1 n HN.out.2.1 a0 len0 cap0 HI.out.1 HI.out.2.1 6 rfl _ HI.out.2.2).mono ?_; rintro e W1 ⟨a, c0, rfl, ha, hb1⟩; have HB := Lib.hid (And.intro ha hb1); have HP := Lib.hid ha; clear ha hb1)
        | (go_at_call 16; with_reducible refine (cut_m a1 s 12 (by omega) w1 HS.out.1 12 rfl _).mono ?_; rintro e W1 ⟨rfl, hb1⟩; first | (replace HB := Lib.hid (And.intro (HB.out.1.below hb1) (HB.out.2.trans (hb1.mono HB.out.2.size))); replace HP := Lib.hid (IK.below HP.out hb1); clear hb1) | clear hb1))
      go_upto_region 3 with (first
        | (go_at_call 15; with_reducible refine (fewm_again 6 (by omega) L n HN.out.2.1 hnm a c0 6 rfl _ HB.out.1.ia).mono ?_; rintro e W1 ⟨p, cp, rfl, hp, hb1⟩; replace HB := Lib.hid (And.intro (HB.out.1.below hb1) (HB.out.2.trans (hb1.mono HB.out.2.size))); replace HP := Lib.hid (IK.below HP.out hb1); clear hb1; clear HP; have HP := Lib.hid hp; clear hp)
        | (go_at_call 16; with_reducible refine (cut_m a1 s 12 (by omega) w1 HS.out.1 12 rfl _).mono ?_; rintro e W1 ⟨rfl, hb1⟩; first | (replace HB := Lib.hid (And.intro (HB.out.1.below hb1) (HB.out.2.trans (hb1.mono HB.out.2.size))); replace HP := Lib.hid (IK.below HP.out hb1); clear hb1) | clear hb1)
        | (go_at_call 34; with_reducible refine (tb_empty L HN.out.2.2 m HM.out.1 HM.out.2 n p cp HN.out.2.1 hn6 _ HP.out).mono ?_; rintro e W1 ⟨rfl, hb1⟩; replace HB := Lib.hid (And.intro (HB.out.1.below hb1) (HB.out.2.trans (hb1.mono HB.out.2.size))); replace HP := Lib.hid (IK.below HP.out hb1); clear hb1)
        | (go_at_call 17; with_reducible refine (rg_good L true HN.out.2.2 a n c0 HN.out.2.1 hn6 _ HB.out.1.li).mono ?_; rintro e W1 ⟨rfl, hb1⟩; replace HB := Lib.hid (And.intro (HB.out.1.below hb1) (HB.out.2.trans (hb1.mono HB.out.2.size))); replace HP := Lib.hid (IK.below HP.out hb1); clear hb1)
        | (go_at_call 22; with_reducible refine (rg_least L m HM.out.1 n a c0 HN.out.2.1 hn6 _ HB.out.1.ia).mono ?_; rintro e W1 ⟨rfl, hb1⟩; replace HB := Lib.hid (And.intro (HB.out.1.below hb1) (HB.out.2.trans (hb1.mono HB.out.2.size))); replace HP := Lib.hid (IK.below HP.out hb1); clear hb1)
        | (go_at_call 35; with_reducible refine (tb_lives _).mono ?_; rintro e W1 ⟨rfl, hb1⟩; replace HB := Lib.hid (And.intro (HB.out.1.below hb1) (HB.out.2.trans (hb1.mono HB.out.2.size))); replace HP := Lib.hid (IK.below HP.out hb1); clear hb1))
      go_wp2_with (first
        | (go_at_call 16; with_reducible refine (cut_m a1 s 12 (by omega) w1 HS.out.1 12 rfl _).mono ?_; rintro e W1 ⟨rfl, hb1⟩; first | (replace HB := Lib.hid (And.intro (HB.out.1.below hb1) (HB.out.2.trans (hb1.mono HB.out.2.size))); replace HP := Lib.hid (IK.below HP.out hb1); clear hb1) | clear hb1)
        | (go_at_call 34; with_reducible refine (tb_empty L HN.out.2.2 m HM.out.1 HM.out.2 n p cp HN.out.2.1 hn6 _ HP.out).mono ?_; rintro e W1 ⟨rfl, hb1⟩; replace HB := Lib.hid (And.intro (HB.out.1.below hb1) (HB.out.2.trans (hb1.mono HB.out.2.size))); replace HP := Lib.hid (IK.below HP.out hb1); clear hb1)
        | (go_at_call 17; with_reducible refine (rg_good L true HN.out.2.2 a n c0 HN.out.2.1 hn6 _ HB.out.1.li).mono ?_; rintro e W1 ⟨rfl, hb1⟩; replace HB := Lib.hid (And.intro (HB.out.1.below hb1) (HB.out.2.trans (hb1.mono HB.out.2.size))); replace HP := Lib.hid (IK.below HP.out hb1); clear hb1)
        | (go_at_call 22; with_reducible refine (rg_least L m HM.out.1 n a c0 HN.out.2.1 hn6 _ HB.out.1.ia).mono ?_; rintro e W1 ⟨rfl, hb1⟩; replace HB := Lib.hid (And.intro (HB.out.1.below hb1) (HB.out.2.trans (hb1.mono HB.out.2.size))); replace HP := Lib.hid (IK.below HP.out hb1); clear hb1)
        | (go_at_call 35; with_reducible refine (tb_lives _).mono ?_; rintro e W1 ⟨rfl, hb1⟩; replace HB := Lib.hid (And.intro (HB.out.1.below hb1) (HB.out.2.trans (hb1.mono HB.out.2.size))); replace HP := Lib.hid (IK.below HP.out hb1); clear hb1))
      go_ret
      exact ⟨rfl, HB.out.2⟩
    | false =>
      have HM := Lib.hid (And.intro hm hm0)
      have hmz : m ≠ 0 := of_decide_eq_false hm0
      have hmI : ((m : Int) == 0) = false := by rw [beq_eq_false_iff_ne]; omega
      obtain ⟨S0, hS0⟩ : ∃ S, Tb.start n (Tb.mk (Tb.rf L) n) = S := ⟨_, rfl⟩
      obtain ⟨sv, hsv⟩ : ∃ x : Int, (S0.toNat : Int) = x := ⟨_, rfl⟩
      have HS0 : Hid (Tb.start n (Tb.mk (Tb.rf L) n) = S0 ∧ (S0.toNat : Int) = sv ∧ Tb.at L n (lgT t) 0 S0) := Lib.hid ⟨hS0, hsv, by rw [← hS0]; exact start_at L n hn62 (lgT t)⟩
      clear hL hn hg hs ht hm hm0 hS0 hsv
      go_enter Try.func9, Try.ntmps9
      go_upto_region 2 with (first
        | (go_at_call 15; with_reducible refine (fewm_first 6 (by omega) z0 L HN.out.1 n HN.out.2.1 a0 len0 cap0 HI.out.1 HI.out.2.1 6 rfl _ HI.out.2.2).mono ?_; rintro e W1 ⟨a, c0, rfl, ha, hb1⟩; have HB := Lib.hid (And.intro ha hb1); have HP := Lib.hid ha; clear ha hb1)
        | (go_at_call 16; with_reducible refine (cut_m a1 s 12 (by omega) w1 HS.out.1 12 rfl _).mono ?_; rintro e W1 ⟨rfl, hb1⟩; first | (replace HB := Lib.hid (And.intro (HB.out.1.below hb1) (HB.out.2.trans (hb1.mono HB.out.2.size))); replace HP := Lib.hid (IK.below HP.out hb1); clear hb1) | clear hb1))
      go_upto_region 3 with (first
        | (go_at_call 15; with_reducible refine (fewm_again 6 (by omega) L n HN.out.2.1 hnm a c0 6 rfl _ HB.out.1.ia).mono ?_; rintro e W1 ⟨p, cp, rfl, hp, hb1⟩; replace HB := Lib.hid (And.intro (HB.out.1.below hb1) (HB.out.2.trans (hb1.mono HB.out.2.size))); replace HP := Lib.hid (IK.below HP.out hb1); clear hb1; clear HP; have HP := Lib.hid hp; clear hp)
        | (go_at_call 34; with_reducible refine (tb_compile L HN.out.2.2 m HM.out.1 HM.out.2 n p cp HN.out.2.1 _ HP.out).mono ?_; rintro e W1 ⟨p, rfl, k1, hb1⟩; replace HB := Lib.hid (And.intro (HB.out.1.below hb1) (And.intro (TP.tb k1) (HB.out.2.trans (hb1.mono HB.out.2.size)))); clear HP hb1 k1))
      go_upto_region 6 with (first
        | (go_at_call 17; with_reducible refine (rg_good L true HN.out.2.2 a n c0 HN.out.2.1 hn6 _ HB.out.1.li).mono ?_; rintro e W1 ⟨rfl, hb1⟩; replace HB := Lib.hid (And.intro (HB.out.1.below hb1) (And.intro (TB.below HB.out.2.1 hb1) (HB.out.2.2.trans (hb1.mono HB.out.2.2.size)))); clear hb1)
        | (go_at_call 22; with_reducible refine (rg_least L m HM.out.1 n a c0 HN.out.2.1 hn6 _ HB.out.1.ia).mono ?_; rintro e W1 ⟨rfl, hb1⟩; replace HB := Lib.hid (And.intro (HB.out.1.below hb1) (And.intro (TB.below HB.out.2.1 hb1) (HB.out.2.2.trans (hb1.mono HB.out.2.2.size)))); clear hb1)
        | (go_at_call 37; with_reducible refine (tb_start p n (Tb.mk (Tb.rf L) n) (fun b => Tb.mk (Tb.hf L b) n) hn62 S0 sv HS0.out.1 HS0.out.2.1 _ HB.out.2.1).mono ?_; rintro e W1 ⟨rfl, hb1⟩; replace HB := Lib.hid (And.intro (HB.out.1.below hb1) (And.intro (TB.below HB.out.2.1 hb1) (HB.out.2.2.trans (hb1.mono HB.out.2.2.size)))); clear hb1))
      go_wp2_with fail
      go_loopw [7, 8] (fun x i wr => ∃ (k : Nat) (X : BitVec 64) (xv : Int), i = .int .i64 k ∧ x = .int .u64 xv ∧ k ≤ N ∧ Hid ((X.toNat : Int) = xv ∧ Tb.at L n (lgT t) k X) ∧ Hid (IK wr a L ∧ TB wr p n (Tb.mk (Tb.rf L) n) (fun b => Tb.mk (Tb.hf L b) n) ∧ Below w.heap.size w wr)) (fun _ i _ => N - (intOf i).toNat)
      case atStart => exact ⟨0, S0, sv, rfl, rfl, by omega, Lib.hid HS0.out.2, HB⟩
      case round =>
        clear HB
        obtain ⟨k, X, xv, rfl, rfl, hk, HX, HB⟩ := hrel
        have k0 : (0 : Int) ≤ (k : Int) := by omega
        by_cases hkN : k < N
        · have hks : k < s.size := by omega
          obtain ⟨bb, hbb⟩ : ∃ bb, (lgT t k).toNat = bb := ⟨_, rfl⟩
          have hbb2 : bb < 256 := by rw [← hbb]; exact (lgT t k).toNat_lt
          have cb : (s[k].toNat : Int) = (bb : Int) := by rw [lgT_at HS.out.2 hks, hbb]
          obtain ⟨Y, hY⟩ : ∃ Y, Tb.seek n (Tb.mk (Tb.rf L) n) ((fun b => Tb.mk (Tb.hf L b) n) bb) X = Y := ⟨_, rfl⟩
          obtain ⟨yv, hyv⟩ : ∃ x : Int, (Y.toNat : Int) = x := ⟨_, rfl⟩
          have HY : Hid (Tb.seek n (Tb.mk (Tb.rf L) n) ((fun b => Tb.mk (Tb.hf L b) n) bb) X = Y ∧ (Y.toNat : Int) = yv ∧ Tb.at L n (lgT t) (k + 1) Y) := Lib.hid ⟨hY, hyv, by rw [← hY]; exact seek_at hn62 HX.out.2 hbb⟩
          have w1 : IntKind.i64.wrap ((k : Int) + 1) = (k : Int) + 1 := IntWalk.i64_in _ (by omega)
          obtain ⟨b, hb⟩ : ∃ b, Lg.occ L t (k + 1) = b := ⟨_, rfl⟩
          have HD : Hid ((Tb.whole n (Tb.mk (Tb.rf L) n) Y).getLsbD n = b) := Lib.hid (by rw [done_at hn62 HN.out.2.1 HY.out.2.2, hb])
          obtain ⟨Z, hZ⟩ : ∃ Z, Lg.starts L t (k + 1) = Z := ⟨_, rfl⟩
          have HZ := Lib.hid hZ
          obtain ⟨o1, o2⟩ := occ_starts L t (k + 1) b hb Z hZ
          clear hY hyv hb hZ hbb
          cases b with
          | true =>
            have hl0 : 0 < Z.length := by obtain ⟨y, Ls, e⟩ := o1 rfl; rw [e]; simp
            have hl1 : (0 : Int) < (Z.length : Int) := by omega
            clear o1 o2
            go_wp2_with (first
              | (go_at_call 41; with_reducible refine (tb_seek p n (Tb.mk (Tb.rf L) n) (fun b => Tb.mk (Tb.hf L b) n) hn62 X xv HX.out.1 bb hbb2 Y yv HY.out.1 HY.out.2.1 _ HB.out.2.1).mono ?_; rintro e W1 ⟨rfl, hb1⟩; replace HB := Lib.hid (And.intro (HB.out.1.below hb1) (And.intro (TB.below HB.out.2.1 hb1) (HB.out.2.2.trans (hb1.mono HB.out.2.2.size)))); clear hb1)
              | (go_at_call 43; with_reducible refine (tb_done p n (Tb.mk (Tb.rf L) n) (fun b => Tb.mk (Tb.hf L b) n) hn62 Y yv HY.out.2.1 true HD.out _ HB.out.2.1).mono ?_; rintro e W1 ⟨rfl, hb1⟩; replace HB := Lib.hid (And.intro (HB.out.1.below hb1) (And.intro (TB.below HB.out.2.1 hb1) (HB.out.2.2.trans (hb1.mono HB.out.2.2.size)))); clear hb1)
              | (go_at_call 32; refine (rg_starts L s t hs3 HS.out.2 n a c0 HN.out.2.1 hn3 (k + 1) (by omega) Z HZ.out _ HB.out.1.ia).mono ?_; rintro e W1 ⟨q, cq, rfl, k1, hb1⟩; clear k1; replace HB := Lib.hid (And.intro (HB.out.1.below hb1) (And.intro (TB.below HB.out.2.1 hb1) (HB.out.2.2.trans (hb1.mono HB.out.2.2.size)))); clear hb1))
            refine ⟨?_, ?measure⟩
            case measure => simp [intOf]; omega
            first
              | exact ⟨k + 1, Y, yv, by go_num, rfl, by omega, Lib.hid ⟨HY.out.2.1, HY.out.2.2⟩, HB⟩
              | ((repeat apply Exists.intro); exact ⟨⟨k + 1, Y, yv, by go_num, rfl, by omega, Lib.hid ⟨HY.out.2.1, HY.out.2.2⟩, HB⟩, rfl⟩)
          | false =>
            have hl0 : Z.length = 0 := by rw [o2 rfl]; rfl
            clear o1 o2
            go_wp2_with (first
              | (go_at_call 41; with_reducible refine (tb_seek p n (Tb.mk (Tb.rf L) n) (fun b => Tb.mk (Tb.hf L b) n) hn62 X xv HX.out.1 bb hbb2 Y yv HY.out.1 HY.out.2.1 _ HB.out.2.1).mono ?_; rintro e W1 ⟨rfl, hb1⟩; replace HB := Lib.hid (And.intro (HB.out.1.below hb1) (And.intro (TB.below HB.out.2.1 hb1) (HB.out.2.2.trans (hb1.mono HB.out.2.2.size)))); clear hb1)
              | (go_at_call 43; with_reducible refine (tb_done p n (Tb.mk (Tb.rf L) n) (fun b => Tb.mk (Tb.hf L b) n) hn62 Y yv HY.out.2.1 false HD.out _ HB.out.2.1).mono ?_; rintro e W1 ⟨rfl, hb1⟩; replace HB := Lib.hid (And.intro (HB.out.1.below hb1) (And.intro (TB.below HB.out.2.1 hb1) (HB.out.2.2.trans (hb1.mono HB.out.2.2.size)))); clear hb1)
              | (go_at_call 32; refine (rg_starts L s t hs3 HS.out.2 n a c0 HN.out.2.1 hn3 (k + 1) (by omega) Z HZ.out _ HB.out.1.ia).mono ?_; rintro e W1 ⟨q, cq, rfl, k1, hb1⟩; clear k1; replace HB := Lib.hid (And.intro (HB.out.1.below hb1) (And.intro (TB.below HB.out.2.1 hb1) (HB.out.2.2.trans (hb1.mono HB.out.2.2.size)))); clear hb1))
            refine ⟨?_, ?measure⟩
            case measure => simp [intOf]; omega
            first
              | exact ⟨k + 1, Y, yv, by go_num, rfl, by omega, Lib.hid ⟨HY.out.2.1, HY.out.2.2⟩, HB⟩
              | ((repeat apply Exists.intro); exact ⟨⟨k + 1, Y, yv, by go_num, rfl, by omega, Lib.hid ⟨HY.out.2.1, HY.out.2.2⟩, HB⟩, rfl⟩)
        · obtain rfl : k = N := by omega
          go_wp2_with (go_at_call 35; with_reducible refine (tb_lives _).mono ?_; rintro e W1 ⟨rfl, hb1⟩; replace HB := Lib.hid (And.intro (HB.out.1.below hb1) (And.intro (TB.below HB.out.2.1 hb1) (HB.out.2.2.trans (hb1.mono HB.out.2.2.size)))); clear hb1)
          go_ret
          exact ⟨rfl, HB.out.2.2⟩

set_option maxRecDepth 100000 in
theorem lifted (os : Os) (started : os.Started) (H : Type) (enc : TypeId × Value → H) :
    ReturnsInHanded {} Try.checked os 9 .any (Rows.tableSeeksSpec.pre6 enc Try.prog Try.f9 Rows.tableSeeksRow.domain false) (Rows.tableSeeksSpec.post enc Try.prog Try.f9 false true false false) := by
  refine returnsInHanded_of_change (C := Try.checked) ownKn started (by kernel_rfl) Try.func9
    (ChangeSpec.witness6 (enc := enc) (C := Try.checked) false ⟨#[], #[.slice none 0 0, .string ByteArray.empty], []⟩ 8 (by kernel_rfl) (by kernel_rfl) (by kernel_rfl) (by kernel_rfl)) ?_
  intro W base args ds gs before hval0 hW hcnd _
  have hval : ∀ (j : Nat) t v, Try.f9.params[j]? = some t → args[j]? = some v → Value.okWide Try.prog W .any base t v := hval0
  have hW' := hW
  obtain ⟨p, q, hA0, hV, rfl, hfz, hnd⟩ := hW
  have hA : DataW.TrodAll enc Try.prog W 0 (fun _ => true) true Try.f9.params.toList args.toList ds p := hA0
  rw [Try.params9] at hA hval
  obtain ⟨v0, vs0, d0, ds0, p0, q0, hargs, rfl, rfl, h0, r0⟩ := trodAll_cons hA
  obtain ⟨v1, vs1, d1, ds1, p1, q1, rfl, rfl, rfl, h1, r1⟩ := trodAll_cons r0
  obtain ⟨rfl, rfl, rfl⟩ := trodAll_nil r1
  obtain rfl : args = #[v0, v1] := by cases args; simp_all
  obtain ⟨rfl, rfl⟩ := trodVars_none hV
  have k0 := h0
  have lt0 : ∀ x ∈ p0, x.block < W.heap.size := by obtain ⟨m, hm⟩ := k0; exact DataW.trod_lt m _ _ _ hm
  obtain ⟨b0, lb0, cb0, rfl⟩ := okWide_slice Try.underlying22 (hval 0 22 v0 rfl rfl)
  obtain ⟨fu0, hf0⟩ := h0
  simp only [Value.cells] at hf0
  obtain ⟨a0, len0, cap0, z0, e0, w0⟩ := fld_items hf0
  obtain ⟨rfl, rfl, rfl⟩ : b0 = a0 ∧ lb0 = len0 ∧ cb0 = cap0 := by simpa using e0
  have k1 := h1
  have lt1 : ∀ x ∈ p1, x.block < W.heap.size := by obtain ⟨m, hm⟩ := k1; exact DataW.trod_lt m _ _ _ hm
  obtain ⟨a1, rfl, rfl, rfl, w1⟩ := open_string Try.underlying9 (hval 1 9 v1 rfl rfl) h1
  clear hA0 hval0
  refine (walk b0 lb0 cb0 z0 a1 W w0 w1).mono fun e W' ⟨he, bel⟩ => ?_
  subst he
  exact ⟨_, rfl, _, _, _, [], _, [], hW', trodAll_mk1 (shut_bool Try.underlying4 _), (trodAll_cons_mk (Below.trod laidOut (by kernel_rfl) (of_decide_eq_true (by kernel_rfl)) k0 bel lt0) (trodAll_cons_mk (Below.trod laidOut (by kernel_rfl) (of_decide_eq_true (by kernel_rfl)) k1 bel lt1) trodAll_mk0)), rfl, bel.frame _, fun h => by cases h⟩

theorem over : Rows.tableSeeksRow.holds Try.pinned (OpenSpec.ofChange Rows.tableSeeksSpec) :=
  OpenClaim.holds_of_wide 9 Try.f9 rfl rfl rfl rfl rfl rfl rfl ⟨rfl, rfl, rfl, rfl, rfl⟩ rfl rfl rfl rfl rfl (by kernel_rfl) Try.func9 (by kernel_rfl)
    (of_decide_eq_true (by kernel_rfl)) (by unfold Func.isWrapper; first | (rw [if_pos (by decide +kernel)]; kernel_rfl) | (rw [if_neg (by decide +kernel)]; exact ⟨rfl, rfl⟩))
    (fun os started H enc _ => lifted os started H enc)

/-- The statement. -/
theorem proved : Rows.TableSeeksSaid := over
#print axioms proved
end Go.Proofs.Ytjedjnpepjdgeaa.tableSeeks
