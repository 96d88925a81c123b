/- P8.3: for every two patterns and every text (somewhat cut): one behind the other matches just what is cut into what they match. No condition. -/
import Derived.Test.YtjedjnpepjdgeaaOpen
import Derived.WalkKit
import Derived.ProofKit
import Derived.OpenShut
import Derived.Test.YtjedjnpepjdgeaaLg16
namespace Go.Proofs.Ytjedjnpepjdgeaa.langJoins
open Go.Joins Go.ChangeShapes Go.WideShapes Go.ChangeAt Go.RowKit Go.Deep
open Go.ChangeMaps (open_string)
set_option linter.unusedSimpArgs false
set_option linter.unusedVariables false

set_option maxRecDepth 20000 in
set_option maxHeartbeats 16000000 in

theorem walk (a0 : Option Addr) (len0 cap0 : Nat) (z0 : List (Bool × BitVec 256)) (a1 : Option Addr) (len1 cap1 : Nat) (z1 : List (Bool × BitVec 256)) (a2 : ByteArray) (w : World) (w0 : IsIt w a0 len0 cap0 z0) (w1 : IsIt w a1 len1 cap1 z1) (w2 : a2.size ≤ maxLen) :
    Calls Try.prog 5 #[.slice a0 len0 cap0, .slice a1 len1 cap1, .string a2] w fun e w' => e = .returned (.bool true) ∧ Below w.heap.size w w' := by
  obtain ⟨L, hL⟩ : ∃ L, z0.take 5 = L := ⟨_, rfl⟩
  obtain ⟨n, hn⟩ : ∃ n, L.length = n := ⟨_, rfl⟩
  have hnm : n ≤ 5 := by rw [← hn, ← hL, List.length_take]; omega
  have hn6 : n ≤ 1000000 := by omega
  have HI := Lib.hid (items_in w0)
  obtain ⟨M, hM⟩ : ∃ M, z1.take 5 = M := ⟨_, rfl⟩
  obtain ⟨m, hm⟩ : ∃ m, M.length = m := ⟨_, rfl⟩
  have hmm : m ≤ 5 := by rw [← hm, ← hM, List.length_take]; omega
  have hm6 : m ≤ 1000000 := by omega
  have HI1 := Lib.hid (items_in w1)
  obtain ⟨s, hs⟩ : ∃ s, cutT a2 10 = s := ⟨_, rfl⟩
  have hs6 : s.size ≤ 10 := by rw [← hs]; exact cutT_le _ _
  have hs1 : s.size ≤ 1000000 := by omega
  obtain ⟨t, ht⟩ : ∃ t, s.data.toList = t := ⟨_, rfl⟩
  obtain ⟨N, hN⟩ : ∃ N, s.size = N := ⟨_, rfl⟩
  have hNt : t.length = N := by rw [← ht]; simpa using hN
  have HS : Hid (cutT a2 10 = s ∧ s.data.toList = t ∧ t.length = N) := Lib.hid ⟨hs, ht, hNt⟩
  cases hg : goodB L with
  | false =>
    cases hg2 : goodB M with
    | false =>
      have HN : Hid (z0.take 5 = L ∧ L.length = n ∧ goodB L = false) := Lib.hid ⟨hL, hn, hg⟩
      have HNM : Hid (z1.take 5 = M ∧ M.length = m ∧ goodB M = false) := Lib.hid ⟨hM, hm, hg2⟩
      clear hL hn hg hM hm hg2 hs ht hNt
      go_enter Try.func5, Try.ntmps5
      go_wp2_with (first
        | (go_at_call 15; with_reducible refine (fewm_first 5 (by omega) z0 L HN.out.1 n HN.out.2.1 a0 len0 cap0 HI.out.1 HI.out.2.1 5 rfl _ HI.out.2.2).mono ?_; rintro e W1 ⟨a, c0, rfl, ha, hb1⟩; have HA := Lib.hid (And.intro ha hb1); have HP := Lib.hid ha; clear ha hb1)
        | (go_at_call 15; with_reducible refine (fewz_first 5 (by omega) z1 M HNM.out.1 m HNM.out.2.1 a1 len1 cap1 HI1.out.1 HI1.out.2.1 5 rfl _ (HI1.out.2.2.below HA.out.2)).mono ?_; rintro e W2 ⟨gb, d0, rfl, hb, hb1⟩; have HB := Lib.hid (And.intro (HA.out.1.below hb1) (And.intro hb (HA.out.2.trans (hb1.mono HA.out.2.size)))); replace HP := Lib.hid (IK.below HP.out hb1); clear hb hb1 HA)
        | (go_at_call 16; with_reducible refine (cut_m a2 s 10 (by omega) w2 HS.out.1 10 rfl _).mono ?_; rintro e W1 ⟨rfl, hb1⟩; replace HB := Lib.hid (And.intro (HB.out.1.below hb1) (And.intro (HB.out.2.1.below hb1) (HB.out.2.2.trans (hb1.mono HB.out.2.2.size)))); replace HP := Lib.hid (IK.below HP.out hb1); clear hb1)
        | (go_at_call 17; with_reducible refine (rg_good L false HN.out.2.2 a n c0 HN.out.2.1 hn6 _ HB.out.1.li).mono ?_; rintro e W1 ⟨rfl, hb1⟩; replace HB := Lib.hid (And.intro (HB.out.1.below hb1) (And.intro (HB.out.2.1.below hb1) (HB.out.2.2.trans (hb1.mono HB.out.2.2.size)))); replace HP := Lib.hid (IK.below HP.out hb1); clear hb1)
        | (go_at_call 17; with_reducible refine (rg_good M false HNM.out.2.2 _ m d0 HNM.out.2.1 hm6 _ HB.out.2.1.li).mono ?_; rintro e W1 ⟨rfl, hb1⟩; replace HB := Lib.hid (And.intro (HB.out.1.below hb1) (And.intro (HB.out.2.1.below hb1) (HB.out.2.2.trans (hb1.mono HB.out.2.2.size)))); replace HP := Lib.hid (IK.below HP.out hb1); clear hb1)
        | (go_at_call 18; with_reducible refine (lg_lives _).mono ?_; rintro e W1 ⟨rfl, hb1⟩; replace HB := Lib.hid (And.intro (HB.out.1.below hb1) (And.intro (HB.out.2.1.below hb1) (HB.out.2.2.trans (hb1.mono HB.out.2.2.size)))); replace HP := Lib.hid (IK.below HP.out hb1); clear hb1))
      go_ret
      exact ⟨rfl, HB.out.2.2⟩
    | true =>
      have HN : Hid (z0.take 5 = L ∧ L.length = n ∧ goodB L = false) := Lib.hid ⟨hL, hn, hg⟩
      have HNM : Hid (z1.take 5 = M ∧ M.length = m ∧ goodB M = true) := Lib.hid ⟨hM, hm, hg2⟩
      clear hL hn hg hM hm hg2 hs ht hNt
      go_enter Try.func5, Try.ntmps5
      go_wp2_with (first
        | (go_at_call 15; with_reducible refine (fewm_first 5 (by omega) z0 L HN.out.1 n HN.out.2.1 a0 len0 cap0 HI.out.1 HI.out.2.1 5 rfl _ HI.out.2.2).mono ?_; rintro e W1 ⟨a, c0, rfl, ha, hb1⟩; have HA := Lib.hid (And.intro ha hb1); have HP := Lib.hid ha; clear ha hb1)
        | (go_at_call 15; with_reducible refine (fewz_first 5 (by omega) z1 M HNM.out.1 m HNM.out.2.1 a1 len1 cap1 HI1.out.1 HI1.out.2.1 5 rfl _ (HI1.out.2.2.below HA.out.2)).mono ?_; rintro e W2 ⟨gb, d0, rfl, hb, hb1⟩; have HB := Lib.hid (And.intro (HA.out.1.below hb1) (And.intro hb (HA.out.2.trans (hb1.mono HA.out.2.size)))); replace HP := Lib.hid (IK.below HP.out hb1); clear hb hb1 HA)
        | (go_at_call 16; with_reducible refine (cut_m a2 s 10 (by omega) w2 HS.out.1 10 rfl _).mono ?_; rintro e W1 ⟨rfl, hb1⟩; replace HB := Lib.hid (And.intro (HB.out.1.below hb1) (And.intro (HB.out.2.1.below hb1) (HB.out.2.2.trans (hb1.mono HB.out.2.2.size)))); replace HP := Lib.hid (IK.below HP.out hb1); clear hb1)
        | (go_at_call 17; with_reducible refine (rg_good L false HN.out.2.2 a n c0 HN.out.2.1 hn6 _ HB.out.1.li).mono ?_; rintro e W1 ⟨rfl, hb1⟩; replace HB := Lib.hid (And.intro (HB.out.1.below hb1) (And.intro (HB.out.2.1.below hb1) (HB.out.2.2.trans (hb1.mono HB.out.2.2.size)))); replace HP := Lib.hid (IK.below HP.out hb1); clear hb1)
        | (go_at_call 17; with_reducible refine (rg_good M true HNM.out.2.2 _ m d0 HNM.out.2.1 hm6 _ HB.out.2.1.li).mono ?_; rintro e W1 ⟨rfl, hb1⟩; replace HB := Lib.hid (And.intro (HB.out.1.below hb1) (And.intro (HB.out.2.1.below hb1) (HB.out.2.2.trans (hb1.mono HB.out.2.2.size)))); replace HP := Lib.hid (IK.below HP.out hb1); clear hb1)
        | (go_at_call 18; with_reducible refine (lg_lives _).mono ?_; rintro e W1 ⟨rfl, hb1⟩; replace HB := Lib.hid (And.intro (HB.out.1.below hb1) (And.intro (HB.out.2.1.below hb1) (HB.out.2.2.trans (hb1.mono HB.out.2.2.size)))); replace HP := Lib.hid (IK.below HP.out hb1); clear hb1))
      go_ret
      exact ⟨rfl, HB.out.2.2⟩
  | true =>
    have HN : Hid (z0.take 5 = L ∧ L.length = n ∧ goodB L = true) := Lib.hid ⟨hL, hn, hg⟩
    cases hg2 : goodB M with
    | false =>
      have HNM : Hid (z1.take 5 = M ∧ M.length = m ∧ goodB M = false) := Lib.hid ⟨hM, hm, hg2⟩
      clear hL hn hg hM hm hg2 hs ht hNt
      go_enter Try.func5, Try.ntmps5
      go_wp2_with (first
        | (go_at_call 15; with_reducible refine (fewm_first 5 (by omega) z0 L HN.out.1 n HN.out.2.1 a0 len0 cap0 HI.out.1 HI.out.2.1 5 rfl _ HI.out.2.2).mono ?_; rintro e W1 ⟨a, c0, rfl, ha, hb1⟩; have HA := Lib.hid (And.intro ha hb1); have HP := Lib.hid ha; clear ha hb1)
        | (go_at_call 15; with_reducible refine (fewz_first 5 (by omega) z1 M HNM.out.1 m HNM.out.2.1 a1 len1 cap1 HI1.out.1 HI1.out.2.1 5 rfl _ (HI1.out.2.2.below HA.out.2)).mono ?_; rintro e W2 ⟨gb, d0, rfl, hb, hb1⟩; have HB := Lib.hid (And.intro (HA.out.1.below hb1) (And.intro hb (HA.out.2.trans (hb1.mono HA.out.2.size)))); replace HP := Lib.hid (IK.below HP.out hb1); clear hb hb1 HA)
        | (go_at_call 16; with_reducible refine (cut_m a2 s 10 (by omega) w2 HS.out.1 10 rfl _).mono ?_; rintro e W1 ⟨rfl, hb1⟩; replace HB := Lib.hid (And.intro (HB.out.1.below hb1) (And.intro (HB.out.2.1.below hb1) (HB.out.2.2.trans (hb1.mono HB.out.2.2.size)))); replace HP := Lib.hid (IK.below HP.out hb1); clear hb1)
        | (go_at_call 17; with_reducible refine (rg_good L true HN.out.2.2 a n c0 HN.out.2.1 hn6 _ HB.out.1.li).mono ?_; rintro e W1 ⟨rfl, hb1⟩; replace HB := Lib.hid (And.intro (HB.out.1.below hb1) (And.intro (HB.out.2.1.below hb1) (HB.out.2.2.trans (hb1.mono HB.out.2.2.size)))); replace HP := Lib.hid (IK.below HP.out hb1); clear hb1)
        | (go_at_call 17; with_reducible refine (rg_good M false HNM.out.2.2 _ m d0 HNM.out.2.1 hm6 _ HB.out.2.1.li).mono ?_; rintro e W1 ⟨rfl, hb1⟩; replace HB := Lib.hid (And.intro (HB.out.1.below hb1) (And.intro (HB.out.2.1.below hb1) (HB.out.2.2.trans (hb1.mono HB.out.2.2.size)))); replace HP := Lib.hid (IK.below HP.out hb1); clear hb1)
        | (go_at_call 18; with_reducible refine (lg_lives _).mono ?_; rintro e W1 ⟨rfl, hb1⟩; replace HB := Lib.hid (And.intro (HB.out.1.below hb1) (And.intro (HB.out.2.1.below hb1) (HB.out.2.2.trans (hb1.mono HB.out.2.2.size)))); replace HP := Lib.hid (IK.below HP.out hb1); clear hb1))
      go_ret
      exact ⟨rfl, HB.out.2.2⟩
    | true =>
      have HNM : Hid (z1.take 5 = M ∧ M.length = m ∧ goodB M = true) := Lib.hid ⟨hM, hm, hg2⟩
      clear hL hn hg hM hm hg2 hs ht hNt
      go_enter Try.func5, Try.ntmps5
      go_upto_region 5 with (first
        | (go_at_call 15; with_reducible refine (fewm_first 5 (by omega) z0 L HN.out.1 n HN.out.2.1 a0 len0 cap0 HI.out.1 HI.out.2.1 5 rfl _ HI.out.2.2).mono ?_; rintro e W1 ⟨a, c0, rfl, ha, hb1⟩; have HA := Lib.hid (And.intro ha hb1); have HP := Lib.hid ha; clear ha hb1)
        | (go_at_call 15; with_reducible refine (fewz_first 5 (by omega) z1 M HNM.out.1 m HNM.out.2.1 a1 len1 cap1 HI1.out.1 HI1.out.2.1 5 rfl _ (HI1.out.2.2.below HA.out.2)).mono ?_; rintro e W2 ⟨gb, d0, rfl, hb, hb1⟩; have HB := Lib.hid (And.intro (HA.out.1.below hb1) (And.intro hb (HA.out.2.trans (hb1.mono HA.out.2.size)))); replace HP := Lib.hid (IK.below HP.out hb1); clear hb hb1 HA)
        | (go_at_call 16; with_reducible refine (cut_m a2 s 10 (by omega) w2 HS.out.1 10 rfl _).mono ?_; rintro e W1 ⟨rfl, hb1⟩; replace HB := Lib.hid (And.intro (HB.out.1.below hb1) (And.intro (HB.out.2.1.below hb1) (HB.out.2.2.trans (hb1.mono HB.out.2.2.size)))); replace HP := Lib.hid (IK.below HP.out hb1); clear hb1)
        | (go_at_call 17; with_reducible refine (rg_good L true HN.out.2.2 a n c0 HN.out.2.1 hn6 _ HB.out.1.li).mono ?_; rintro e W1 ⟨rfl, hb1⟩; replace HB := Lib.hid (And.intro (HB.out.1.below hb1) (And.intro (HB.out.2.1.below hb1) (HB.out.2.2.trans (hb1.mono HB.out.2.2.size)))); replace HP := Lib.hid (IK.below HP.out hb1); clear hb1)
        | (go_at_call 17; with_reducible refine (rg_good M true HNM.out.2.2 _ m d0 HNM.out.2.1 hm6 _ HB.out.2.1.li).mono ?_; rintro e W1 ⟨rfl, hb1⟩; replace HB := Lib.hid (And.intro (HB.out.1.below hb1) (And.intro (HB.out.2.1.below hb1) (HB.out.2.2.trans (hb1.mono HB.out.2.2.size)))); replace HP := Lib.hid (IK.below HP.out hb1); clear hb1))
      clear HP
      go_wp2_with fail
      go_loopw [7, 8] (fun sv iv wr => ∃ i : Nat, iv = .int .i64 i ∧ sv = .bool ((List.range i).any fun i => Lg.m L (t.take i) && Lg.m M (t.drop i)) ∧ i ≤ N + 1 ∧ Hid (IK wr a L ∧ IK wr (some ⟨gb, 0, none⟩) M ∧ Below w.heap.size w wr)) (fun _ i _ => N + 1 - (intOf i).toNat)
      case atStart => exact ⟨0, rfl, rfl, by omega, HB⟩
      case round =>
        clear HB
        obtain ⟨i, rfl, rfl, hi, HB⟩ := hrel
        have i0 : (0 : Int) ≤ (i : Int) := by omega
        obtain ⟨b0, hb0⟩ : ∃ b0, ((List.range i).any fun i => Lg.m L (t.take i) && Lg.m M (t.drop i)) = b0 := ⟨_, rfl⟩
        rw [hb0]
        have HB0 := Lib.hid hb0
        clear hb0
        by_cases hiN : i ≤ N
        · have hiI : (i : Int) ≤ (N : Int) := by omega
          obtain ⟨b1, hb1⟩ : ∃ b1, Lg.m L (t.take i) = b1 := ⟨_, rfl⟩
          obtain ⟨b2, hb2⟩ : ∃ b2, Lg.m M (t.drop i) = b2 := ⟨_, rfl⟩
          have HNX : Hid (((List.range (i + 1)).any fun i => Lg.m L (t.take i) && Lg.m M (t.drop i)) = (b0 || (b1 && b2))) := Lib.hid (by rw [List.range_succ, List.any_append, HB0.out]; simp [hb1, hb2])
          have HB1 := Lib.hid hb1
          have HB2 := Lib.hid hb2
          obtain ⟨u1, hu⟩ : ∃ u1, s.extract 0 i = u1 := ⟨_, rfl⟩
          obtain ⟨u2, hv⟩ : ∃ u2, s.extract i N = u2 := ⟨_, rfl⟩
          have HU : Hid (u1.data.toList = t.take i ∧ u2.data.toList = t.drop i) := Lib.hid ⟨by rw [← hu, ByteArray.data_extract, Array.toList_extract, List.extract_eq_take_drop, HS.out.2.1]; simp, by have := ext_drop hN hv; rw [this, HS.out.2.1]⟩
          have hu1 : u1.size ≤ 1000000 := by rw [← hu, ByteArray.size_extract]; omega
          have hu2 : u2.size ≤ 1000000 := by rw [← hv, ByteArray.size_extract]; omega
          replace HB : Hid (IK wr.drew a L ∧ IK wr.drew (some ⟨gb, 0, none⟩) M ∧ Below w.heap.size w wr.drew) := Lib.hid ⟨HB.out.1, HB.out.2.1, HB.out.2.2.drew⟩
          have HP : Hid (IK wr.drew a L) := Lib.hid HB.out.1
          clear hb1 hb2
          cases b0 with
          | true =>
            go_wp2_with fail
            go_region
            go_wp2
            have HVV : Hid (Value.bool true = Value.bool ((List.range (i + 1)).any fun i => Lg.m L (t.take i) && Lg.m M (t.drop i))) := Lib.hid (by rw [HNX.out]; simp)
            refine ⟨?_, ?measure⟩
            case measure => simp [intOf]; omega
            first
              | exact ⟨i + 1, by go_num, HVV.out, by omega, HB⟩
              | ((repeat apply Exists.intro); exact ⟨⟨i + 1, by go_num, HVV.out, by omega, HB⟩, rfl⟩)
          | false =>
            cases b1 with
            | false =>
              go_wp2_with fail
              first | go_region_with (first
                | (go_at_call 15; with_reducible refine (fewm_again 5 (by omega) L n HN.out.2.1 hnm a c0 5 rfl _ HB.out.1.ia).mono ?_; rintro e W1 ⟨p, cp, rfl, hp, hb1⟩; replace HB := Lib.hid (And.intro (HB.out.1.below hb1) (And.intro (HB.out.2.1.below hb1) (HB.out.2.2.trans (hb1.mono HB.out.2.2.size)))); replace HP := Lib.hid (IK.below HP.out hb1); clear hb1; clear HP; have HP := Lib.hid hp; clear hp)
                | (go_at_call 19; with_reducible refine (lg_matches L u1 (t.take i) hu1 HU.out.1 false HB1.out n p cp HN.out.2.1 hn6 _ HP.out.ia).mono ?_; rintro e W1 ⟨rfl, hb1⟩; replace HB := Lib.hid (And.intro (HB.out.1.below hb1) (And.intro (HB.out.2.1.below hb1) (HB.out.2.2.trans (hb1.mono HB.out.2.2.size)))); replace HP := Lib.hid (IK.below HP.out hb1); clear hb1)) | fail
              all_goals (
                go_wp2
                have HVV : Hid (Value.bool false = Value.bool ((List.range (i + 1)).any fun i => Lg.m L (t.take i) && Lg.m M (t.drop i))) := Lib.hid (by rw [HNX.out]; simp)
                refine ⟨?_, ?measure⟩
                case measure => simp [intOf]; omega
                first
                  | exact ⟨i + 1, by go_num, HVV.out, by omega, HB⟩
                  | ((repeat apply Exists.intro); exact ⟨⟨i + 1, by go_num, HVV.out, by omega, HB⟩, rfl⟩))
            | true =>
              go_wp2_with fail
              first | go_region_with (first
                | (go_at_call 15; with_reducible refine (fewm_again 5 (by omega) L n HN.out.2.1 hnm a c0 5 rfl _ HB.out.1.ia).mono ?_; rintro e W1 ⟨p, cp, rfl, hp, hb1⟩; replace HB := Lib.hid (And.intro (HB.out.1.below hb1) (And.intro (HB.out.2.1.below hb1) (HB.out.2.2.trans (hb1.mono HB.out.2.2.size)))); replace HP := Lib.hid (IK.below HP.out hb1); clear hb1; clear HP; have HP := Lib.hid hp; clear hp)
                | (go_at_call 19; with_reducible refine (lg_matches L u1 (t.take i) hu1 HU.out.1 true HB1.out n p cp HN.out.2.1 hn6 _ HP.out.ia).mono ?_; rintro e W1 ⟨rfl, hb1⟩; replace HB := Lib.hid (And.intro (HB.out.1.below hb1) (And.intro (HB.out.2.1.below hb1) (HB.out.2.2.trans (hb1.mono HB.out.2.2.size)))); replace HP := Lib.hid (IK.below HP.out hb1); clear hb1)
                | (go_at_call 15; with_reducible refine (fewm_again 5 (by omega) M m HNM.out.2.1 hmm _ d0 5 rfl _ HB.out.2.1.ia).mono ?_; rintro e W1 ⟨p, cp, rfl, hp, hb1⟩; replace HB := Lib.hid (And.intro (HB.out.1.below hb1) (And.intro (HB.out.2.1.below hb1) (HB.out.2.2.trans (hb1.mono HB.out.2.2.size)))); replace HP := Lib.hid (IK.below HP.out hb1); clear hb1; clear HP; have HP := Lib.hid hp; clear hp)
                | (go_at_call 19; with_reducible refine (lg_matches M u2 (t.drop i) hu2 HU.out.2 b2 HB2.out m p cp HNM.out.2.1 hm6 _ HP.out.ia).mono ?_; rintro e W1 ⟨rfl, hb1⟩; replace HB := Lib.hid (And.intro (HB.out.1.below hb1) (And.intro (HB.out.2.1.below hb1) (HB.out.2.2.trans (hb1.mono HB.out.2.2.size)))); replace HP := Lib.hid (IK.below HP.out hb1); clear hb1)) | fail
              all_goals (
                go_wp2
                have HVV : Hid (Value.bool b2 = Value.bool ((List.range (i + 1)).any fun i => Lg.m L (t.take i) && Lg.m M (t.drop i))) := Lib.hid (by rw [HNX.out]; simp)
                refine ⟨?_, ?measure⟩
                case measure => simp [intOf]; omega
                first
                  | exact ⟨i + 1, by go_num, HVV.out, by omega, HB⟩
                  | ((repeat apply Exists.intro); exact ⟨⟨i + 1, by go_num, HVV.out, by omega, HB⟩, rfl⟩))
        · have hiI : ¬ (i : Int) ≤ (N : Int) := by omega
          have hie : i = N + 1 := by omega
          have HJ : Hid (Lg.m (L ++ M) t = b0) := Lib.hid (by rw [m_join, HS.out.2.2, ← HB0.out, hie])
          clear hie hiN
          obtain ⟨i0', hi1, hz0, hz1, hz2⟩ := info_split infoI
          have HIN := Lib.hid (And.intro hi1 (And.intro hz0 (And.intro hz1 hz2)))
          clear hi1 hz0 hz1 hz2
          go_wp2_with (first
            | (go_at_call 15; refine (few_own 5 (by omega) L n HN.out.2.1 hnm a c0 5 rfl _ HB.out.1.ia).mono ?_; rintro e W1 ⟨v, rfl, hv, hb1⟩; have HW0 := Lib.hid HB.out.2.2.size; replace HB := Lib.hid (And.intro (HB.out.1.below hb1) (And.intro (HB.out.2.1.below hb1) (And.intro (HB.out.2.2.trans (hb1.mono HB.out.2.2.size)) (Nat.le_trans (Nat.le_refl _) hb1.size)))); have HO := Lib.hid hv; clear hv hb1)
            | (at_builtin; refine wpList_append_own _ rfl _ _ 22 rfl wr.heap.size 41 i0' (.agg #[.bool false, .int .u64 0, .int .u64 0, .int .u64 0, .int .u64 0]) 5 40 Try.underlying22 HIN.out.1 HIN.out.2.1 HIN.out.2.2.1 HIN.out.2.2.2 rfl (by decide) _ _ _ rfl HO.out ⟨gb, 0, none⟩ m d0 (its M) rfl (by have := its_length M; rw [HNM.out.2.1] at this; omega) (fun j u hj => HB.out.2.1.src j u hj) (its_one M) (by unfold maxLen; omega) (by omega) HB.out.2.2.2 ?_; intro v9 w9 hown hgrow _; rw [its_both] at hown; obtain ⟨p9, c9, rfl, k9⟩ := own_ik hown; have HX9 : Hid (IK w9 p9 (L ++ M) ∧ (L ++ M).length = n + m ∧ Below w.heap.size w w9) := Lib.hid ⟨k9, by rw [List.length_append, HN.out.2.1, HNM.out.2.1], HB.out.2.2.1.grown hgrow (Nat.le_trans HW0.out HB.out.2.2.2) (fun q hq => Nat.le_trans HW0.out ((HO.out.lt q hq).1))⟩; rw [HX9.out.2.1]; clear hown hgrow k9)
            | (go_at_call 19; refine (lg_matches (L ++ M) s t hs1 HS.out.2.1 b0 HJ.out (n + m) p9 c9 HX9.out.2.1 (by omega) _ HX9.out.1.ia).mono ?_; rintro e W1 ⟨rfl, hb1⟩; replace HX9 := Lib.hid (HX9.out.2.2.trans (hb1.mono HX9.out.2.2.size)); clear hb1)
            | (go_at_call 18; refine (lg_lives _).mono ?_; rintro e W1 ⟨rfl, hb1⟩; replace HX9 := Lib.hid (HX9.out.trans (hb1.mono HX9.out.size)); clear hb1))
          go_ret
          exact ⟨rfl, HX9.out⟩

set_option maxRecDepth 100000 in
theorem lifted (os : Os) (started : os.Started) (H : Type) (enc : TypeId × Value → H) :
    ReturnsInHanded {} Try.checked os 5 .any (Rows.langJoinsSpec.pre6 enc Try.prog Try.f5 Rows.langJoinsRow.domain false) (Rows.langJoinsSpec.post enc Try.prog Try.f5 false true false false) := by
  refine returnsInHanded_of_change (C := Try.checked) ownKn started (by kernel_rfl) Try.func5
    (ChangeSpec.witness6 (enc := enc) (C := Try.checked) false ⟨#[], #[.slice none 0 0, .slice none 0 0, .string ByteArray.empty], []⟩ 8 (by kernel_rfl) (by kernel_rfl) (by kernel_rfl) (by kernel_rfl)) ?_
  intro W base args ds gs before hval0 hW hcnd _
  have hval : ∀ (j : Nat) t v, Try.f5.params[j]? = some t → args[j]? = some v → Value.okWide Try.prog W .any base t v := hval0
  have hW' := hW
  obtain ⟨p, q, hA0, hV, rfl, hfz, hnd⟩ := hW
  have hA : DataW.TrodAll enc Try.prog W 0 (fun _ => true) true Try.f5.params.toList args.toList ds p := hA0
  rw [Try.params5] at hA hval
  obtain ⟨v0, vs0, d0, ds0, p0, q0, hargs, rfl, rfl, h0, r0⟩ := trodAll_cons hA
  obtain ⟨v1, vs1, d1, ds1, p1, q1, rfl, rfl, rfl, h1, r1⟩ := trodAll_cons r0
  obtain ⟨v2, vs2, d2, ds2, p2, q2, rfl, rfl, rfl, h2, r2⟩ := trodAll_cons r1
  obtain ⟨rfl, rfl, rfl⟩ := trodAll_nil r2
  obtain rfl : args = #[v0, v1, v2] := by cases args; simp_all
  obtain ⟨rfl, rfl⟩ := trodVars_none hV
  have k0 := h0
  have lt0 : ∀ x ∈ p0, x.block < W.heap.size := by obtain ⟨m, hm⟩ := k0; exact DataW.trod_lt m _ _ _ hm
  obtain ⟨b0, lb0, cb0, rfl⟩ := okWide_slice Try.underlying22 (hval 0 22 v0 rfl rfl)
  obtain ⟨fu0, hf0⟩ := h0
  simp only [Value.cells] at hf0
  obtain ⟨a0, len0, cap0, z0, e0, w0⟩ := fld_items hf0
  obtain ⟨rfl, rfl, rfl⟩ : b0 = a0 ∧ lb0 = len0 ∧ cb0 = cap0 := by simpa using e0
  have k1 := h1
  have lt1 : ∀ x ∈ p1, x.block < W.heap.size := by obtain ⟨m, hm⟩ := k1; exact DataW.trod_lt m _ _ _ hm
  obtain ⟨b1, lb1, cb1, rfl⟩ := okWide_slice Try.underlying22 (hval 1 22 v1 rfl rfl)
  obtain ⟨fu1, hf1⟩ := h1
  simp only [Value.cells] at hf1
  obtain ⟨a1, len1, cap1, z1, e1, w1⟩ := fld_items hf1
  obtain ⟨rfl, rfl, rfl⟩ : b1 = a1 ∧ lb1 = len1 ∧ cb1 = cap1 := by simpa using e1
  have k2 := h2
  have lt2 : ∀ x ∈ p2, x.block < W.heap.size := by obtain ⟨m, hm⟩ := k2; exact DataW.trod_lt m _ _ _ hm
  obtain ⟨a2, rfl, rfl, rfl, w2⟩ := open_string Try.underlying9 (hval 2 9 v2 rfl rfl) h2
  clear hA0 hval0
  refine (walk b0 lb0 cb0 z0 b1 lb1 cb1 z1 a2 W w0 w1 w2).mono fun e W' ⟨he, bel⟩ => ?_
  subst he
  exact ⟨_, rfl, _, _, _, [], _, [], hW', trodAll_mk1 (shut_bool Try.underlying4 _), (trodAll_cons_mk (Below.trod laidOut (by kernel_rfl) (of_decide_eq_true (by kernel_rfl)) k0 bel lt0) (trodAll_cons_mk (Below.trod laidOut (by kernel_rfl) (of_decide_eq_true (by kernel_rfl)) k1 bel lt1) (trodAll_cons_mk (Below.trod laidOut (by kernel_rfl) (of_decide_eq_true (by kernel_rfl)) k2 bel lt2) trodAll_mk0))), rfl, bel.frame _, fun h => by cases h⟩

theorem over : Rows.langJoinsRow.holds Try.pinned (OpenSpec.ofChange Rows.langJoinsSpec) :=
  OpenClaim.holds_of_wide 5 Try.f5 rfl rfl rfl rfl rfl rfl rfl ⟨rfl, rfl, rfl, rfl, rfl⟩ rfl rfl rfl rfl rfl (by kernel_rfl) Try.func5 (by kernel_rfl)
    (of_decide_eq_true (by kernel_rfl)) (by unfold Func.isWrapper; first | (rw [if_pos (by decide +kernel)]; kernel_rfl) | (rw [if_neg (by decide +kernel)]; exact ⟨rfl, rfl⟩))
    (fun os started H enc _ => lifted os started H enc)

/-- The statement. -/
theorem proved : Rows.LangJoinsSaid := over
#print axioms proved
end Go.Proofs.Ytjedjnpepjdgeaa.langJoins
