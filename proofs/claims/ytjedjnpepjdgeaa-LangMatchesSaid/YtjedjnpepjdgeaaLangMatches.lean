/- P8.1: for every pattern and text (somewhat cut): whether it matches, how long such texts are at least, and whether there are any, is as the page says. No condition. -/
import Derived.Test.YtjedjnpepjdgeaaOpen
import Derived.WalkKit
import Derived.ProofKit
import Derived.OpenShut
import Derived.Test.YtjedjnpepjdgeaaLgC
namespace Go.Proofs.Ytjedjnpepjdgeaa.langMatches
open Go.Joins Go.ChangeShapes Go.WideShapes Go.ChangeAt Go.RowKit Go.Deep
open Go.ChangeMaps (open_string)
set_option linter.unusedSimpArgs false
set_option linter.unusedVariables false

set_option maxRecDepth 20000 in
set_option maxHeartbeats 16000000 in

theorem walk (a0 : Option Addr) (len0 cap0 : Nat) (z0 : List (Bool × BitVec 256)) (a1 : ByteArray) (w : World) (w0 : IsIt w a0 len0 cap0 z0) (w1 : a1.size ≤ maxLen) :
    Calls Try.prog 3 #[.slice a0 len0 cap0, .string a1] w fun e w' => e = .returned (.bool true) ∧ Below w.heap.size w w' := by
  obtain ⟨L, hL⟩ : ∃ L, z0.take 8 = L := ⟨_, rfl⟩
  obtain ⟨n, hn⟩ : ∃ n, L.length = n := ⟨_, rfl⟩
  have hnm : n ≤ 8 := by rw [← hn, ← hL, List.length_take]; omega
  have hn6 : n ≤ 1000000 := by omega
  have hn3 : n ≤ 1000 := by omega
  have HI := Lib.hid (items_in w0)
  obtain ⟨s, hs⟩ : ∃ s, cutT a1 14 = s := ⟨_, rfl⟩
  have hs6 : s.size ≤ 14 := by rw [← hs]; exact cutT_le _ _
  have hs3 : s.size ≤ 1000 := by omega
  have hs1 : s.size ≤ 1000000 := by omega
  obtain ⟨t, ht⟩ : ∃ t, s.data.toList = t := ⟨_, rfl⟩
  obtain ⟨N, hN⟩ : ∃ N, s.size = N := ⟨_, rfl⟩
  obtain ⟨m, hm⟩ : ∃ m, Lg.least L = m := ⟨_, rfl⟩
  obtain ⟨v, hv⟩ : ∃ v, Lg.void L = v := ⟨_, rfl⟩
  obtain ⟨e0, he⟩ : ∃ e0, decide (m = 0) = e0 := ⟨_, rfl⟩
  obtain ⟨b, hb⟩ : ∃ b, Lg.m L t = b := ⟨_, rfl⟩
  have HS : Hid (cutT a1 14 = s ∧ s.data.toList = t ∧ Lg.m L t = b ∧ Lg.least L = m ∧ Lg.void L = v ∧ decide (m = 0) = e0 ∧ decide (Lg.least L = 0) = e0) := Lib.hid ⟨hs, ht, hb, hm, hv, he, by rw [hm]; exact he⟩
  have hlong : b = true → m ≤ N ∧ v = false := fun h => by
    rw [h] at hb
    have h1 := m_long hb
    have h2 := m_void hb
    have h3 : t.length = N := by rw [← ht]; simpa using hN
    exact ⟨by omega, by rw [← hv]; exact h2⟩
  cases hg : goodB L with
  | false =>
    have HN : Hid (z0.take 8 = L ∧ L.length = n ∧ goodB L = false) := Lib.hid ⟨hL, hn, hg⟩
    clear hL hn hg hs ht hm hv he hb hlong
    go_enter Try.func3, Try.ntmps3
    go_wp2_with (first
      | (go_at_call 15; with_reducible refine (fewm_first 8 (by omega) z0 L HN.out.1 n HN.out.2.1 a0 len0 cap0 HI.out.1 HI.out.2.1 8 rfl _ HI.out.2.2).mono ?_; rintro e W1 ⟨a, c0, rfl, ha, hb1⟩; have HB := Lib.hid (And.intro ha hb1); have HP := Lib.hid ha; clear ha hb1)
      | (go_at_call 16; with_reducible refine (cut_m a1 s 14 (by omega) w1 HS.out.1 14 rfl _).mono ?_; rintro e W1 ⟨rfl, hb1⟩; first | (replace HB := Lib.hid (And.intro (HB.out.1.below hb1) (HB.out.2.trans (hb1.mono HB.out.2.size))); replace HP := Lib.hid (IK.below HP.out hb1); clear hb1) | clear hb1)
      | (go_at_call 17; with_reducible refine (rg_good L false HN.out.2.2 a n c0 HN.out.2.1 hn6 _ HB.out.1.li).mono ?_; rintro e W1 ⟨rfl, hb1⟩; replace HB := Lib.hid (And.intro (HB.out.1.below hb1) (HB.out.2.trans (hb1.mono HB.out.2.size))); replace HP := Lib.hid (IK.below HP.out hb1); clear hb1)
      | (go_at_call 18; with_reducible refine (lg_lives _).mono ?_; rintro e W1 ⟨rfl, hb1⟩; replace HB := Lib.hid (And.intro (HB.out.1.below hb1) (HB.out.2.trans (hb1.mono HB.out.2.size))); replace HP := Lib.hid (IK.below HP.out hb1); clear hb1))
    go_ret
    exact ⟨rfl, HB.out.2⟩
  | true =>
    have HN : Hid (z0.take 8 = L ∧ L.length = n ∧ goodB L = true) := Lib.hid ⟨hL, hn, hg⟩
    cases b with
    | false =>
      clear hL hn hg hs ht hm hv he hb hlong
      go_enter Try.func3, Try.ntmps3
      go_upto_region 4 with (first
        | (go_at_call 15; with_reducible refine (fewm_first 8 (by omega) z0 L HN.out.1 n HN.out.2.1 a0 len0 cap0 HI.out.1 HI.out.2.1 8 rfl _ HI.out.2.2).mono ?_; rintro e W1 ⟨a, c0, rfl, ha, hb1⟩; have HB := Lib.hid (And.intro ha hb1); have HP := Lib.hid ha; clear ha hb1)
        | (go_at_call 16; with_reducible refine (cut_m a1 s 14 (by omega) w1 HS.out.1 14 rfl _).mono ?_; rintro e W1 ⟨rfl, hb1⟩; first | (replace HB := Lib.hid (And.intro (HB.out.1.below hb1) (HB.out.2.trans (hb1.mono HB.out.2.size))); replace HP := Lib.hid (IK.below HP.out hb1); clear hb1) | clear hb1)
        | (go_at_call 17; with_reducible refine (rg_good L true HN.out.2.2 a n c0 HN.out.2.1 hn6 _ HB.out.1.li).mono ?_; rintro e W1 ⟨rfl, hb1⟩; replace HB := Lib.hid (And.intro (HB.out.1.below hb1) (HB.out.2.trans (hb1.mono HB.out.2.size))); replace HP := Lib.hid (IK.below HP.out hb1); clear hb1)
        | (go_at_call 19; with_reducible refine (lg_matches L s t hs1 HS.out.2.1 false HS.out.2.2.1 n p cp HN.out.2.1 hn6 _ HP.out.ia).mono ?_; rintro e W1 ⟨rfl, hb1⟩; replace HB := Lib.hid (And.intro (HB.out.1.below hb1) (HB.out.2.trans (hb1.mono HB.out.2.size))); replace HP := Lib.hid (IK.below HP.out hb1); clear hb1)
        | (go_at_call 20; with_reducible refine (rg_matches L s t hs3 HS.out.2.1 false HS.out.2.2.1 n a c0 HN.out.2.1 hn3 _ HB.out.1.ia).mono ?_; rintro e W1 ⟨rfl, hb1⟩; replace HB := Lib.hid (And.intro (HB.out.1.below hb1) (HB.out.2.trans (hb1.mono HB.out.2.size))); replace HP := Lib.hid (IK.below HP.out hb1); clear hb1)
        | (go_at_call 21; with_reducible refine (lg_least L m HS.out.2.2.2.1 n p cp HN.out.2.1 hn6 _ HP.out.ia).mono ?_; rintro e W1 ⟨rfl, hb1⟩; replace HB := Lib.hid (And.intro (HB.out.1.below hb1) (HB.out.2.trans (hb1.mono HB.out.2.size))); replace HP := Lib.hid (IK.below HP.out hb1); clear hb1)
        | (go_at_call 22; with_reducible refine (rg_least L m HS.out.2.2.2.1 n a c0 HN.out.2.1 hn6 _ HB.out.1.ia).mono ?_; rintro e W1 ⟨rfl, hb1⟩; replace HB := Lib.hid (And.intro (HB.out.1.below hb1) (HB.out.2.trans (hb1.mono HB.out.2.size))); replace HP := Lib.hid (IK.below HP.out hb1); clear hb1)
        | (go_at_call 23; with_reducible refine (lg_void L v HS.out.2.2.2.2.1 n p cp HN.out.2.1 hn6 _ HP.out.ia).mono ?_; rintro e W1 ⟨rfl, hb1⟩; replace HB := Lib.hid (And.intro (HB.out.1.below hb1) (HB.out.2.trans (hb1.mono HB.out.2.size))); replace HP := Lib.hid (IK.below HP.out hb1); clear hb1)
        | (go_at_call 24; with_reducible refine (rg_void L v HS.out.2.2.2.2.1 n a c0 HN.out.2.1 hn6 _ HB.out.1.ia).mono ?_; rintro e W1 ⟨rfl, hb1⟩; replace HB := Lib.hid (And.intro (HB.out.1.below hb1) (HB.out.2.trans (hb1.mono HB.out.2.size))); replace HP := Lib.hid (IK.below HP.out hb1); clear hb1)
        | (go_at_call 25; with_reducible refine (lg_empty2 L m HS.out.2.2.2.1 e0 HS.out.2.2.2.2.2.1 n p cp HN.out.2.1 hn6 _ HP.out.ia).mono ?_; rintro e W1 ⟨rfl, hb1⟩; replace HB := Lib.hid (And.intro (HB.out.1.below hb1) (HB.out.2.trans (hb1.mono HB.out.2.size))); replace HP := Lib.hid (IK.below HP.out hb1); clear hb1)
        | (go_at_call 20; with_reducible refine (rg_matches0 L e0 HS.out.2.2.2.2.2.2 n a c0 HN.out.2.1 hn3 _ HB.out.1.ia).mono ?_; rintro e W1 ⟨rfl, hb1⟩; replace HB := Lib.hid (And.intro (HB.out.1.below hb1) (HB.out.2.trans (hb1.mono HB.out.2.size))); replace HP := Lib.hid (IK.below HP.out hb1); clear hb1)
        | (go_at_call 18; with_reducible refine (lg_lives _).mono ?_; rintro e W1 ⟨rfl, hb1⟩; replace HB := Lib.hid (And.intro (HB.out.1.below hb1) (HB.out.2.trans (hb1.mono HB.out.2.size))); replace HP := Lib.hid (IK.below HP.out hb1); clear hb1))
      go_upto_region 5 with (first
        | (go_at_call 15; with_reducible refine (fewm_again 8 (by omega) L n HN.out.2.1 hnm a c0 8 rfl _ HB.out.1.ia).mono ?_; rintro e W1 ⟨p, cp, rfl, hp, hb1⟩; replace HB := Lib.hid (And.intro (HB.out.1.below hb1) (HB.out.2.trans (hb1.mono HB.out.2.size))); replace HP := Lib.hid (IK.below HP.out hb1); clear hb1; clear HP; have HP := Lib.hid hp; clear hp)
        | (go_at_call 16; with_reducible refine (cut_m a1 s 14 (by omega) w1 HS.out.1 14 rfl _).mono ?_; rintro e W1 ⟨rfl, hb1⟩; first | (replace HB := Lib.hid (And.intro (HB.out.1.below hb1) (HB.out.2.trans (hb1.mono HB.out.2.size))); replace HP := Lib.hid (IK.below HP.out hb1); clear hb1) | clear hb1)
        | (go_at_call 17; with_reducible refine (rg_good L true HN.out.2.2 a n c0 HN.out.2.1 hn6 _ HB.out.1.li).mono ?_; rintro e W1 ⟨rfl, hb1⟩; replace HB := Lib.hid (And.intro (HB.out.1.below hb1) (HB.out.2.trans (hb1.mono HB.out.2.size))); replace HP := Lib.hid (IK.below HP.out hb1); clear hb1)
        | (go_at_call 19; with_reducible refine (lg_matches L s t hs1 HS.out.2.1 false HS.out.2.2.1 n p cp HN.out.2.1 hn6 _ HP.out.ia).mono ?_; rintro e W1 ⟨rfl, hb1⟩; replace HB := Lib.hid (And.intro (HB.out.1.below hb1) (HB.out.2.trans (hb1.mono HB.out.2.size))); replace HP := Lib.hid (IK.below HP.out hb1); clear hb1)
        | (go_at_call 20; with_reducible refine (rg_matches L s t hs3 HS.out.2.1 false HS.out.2.2.1 n a c0 HN.out.2.1 hn3 _ HB.out.1.ia).mono ?_; rintro e W1 ⟨rfl, hb1⟩; replace HB := Lib.hid (And.intro (HB.out.1.below hb1) (HB.out.2.trans (hb1.mono HB.out.2.size))); replace HP := Lib.hid (IK.below HP.out hb1); clear hb1)
        | (go_at_call 21; with_reducible refine (lg_least L m HS.out.2.2.2.1 n p cp HN.out.2.1 hn6 _ HP.out.ia).mono ?_; rintro e W1 ⟨rfl, hb1⟩; replace HB := Lib.hid (And.intro (HB.out.1.below hb1) (HB.out.2.trans (hb1.mono HB.out.2.size))); replace HP := Lib.hid (IK.below HP.out hb1); clear hb1)
        | (go_at_call 22; with_reducible refine (rg_least L m HS.out.2.2.2.1 n a c0 HN.out.2.1 hn6 _ HB.out.1.ia).mono ?_; rintro e W1 ⟨rfl, hb1⟩; replace HB := Lib.hid (And.intro (HB.out.1.below hb1) (HB.out.2.trans (hb1.mono HB.out.2.size))); replace HP := Lib.hid (IK.below HP.out hb1); clear hb1)
        | (go_at_call 23; with_reducible refine (lg_void L v HS.out.2.2.2.2.1 n p cp HN.out.2.1 hn6 _ HP.out.ia).mono ?_; rintro e W1 ⟨rfl, hb1⟩; replace HB := Lib.hid (And.intro (HB.out.1.below hb1) (HB.out.2.trans (hb1.mono HB.out.2.size))); replace HP := Lib.hid (IK.below HP.out hb1); clear hb1)
        | (go_at_call 24; with_reducible refine (rg_void L v HS.out.2.2.2.2.1 n a c0 HN.out.2.1 hn6 _ HB.out.1.ia).mono ?_; rintro e W1 ⟨rfl, hb1⟩; replace HB := Lib.hid (And.intro (HB.out.1.below hb1) (HB.out.2.trans (hb1.mono HB.out.2.size))); replace HP := Lib.hid (IK.below HP.out hb1); clear hb1)
        | (go_at_call 25; with_reducible refine (lg_empty2 L m HS.out.2.2.2.1 e0 HS.out.2.2.2.2.2.1 n p cp HN.out.2.1 hn6 _ HP.out.ia).mono ?_; rintro e W1 ⟨rfl, hb1⟩; replace HB := Lib.hid (And.intro (HB.out.1.below hb1) (HB.out.2.trans (hb1.mono HB.out.2.size))); replace HP := Lib.hid (IK.below HP.out hb1); clear hb1)
        | (go_at_call 20; with_reducible refine (rg_matches0 L e0 HS.out.2.2.2.2.2.2 n a c0 HN.out.2.1 hn3 _ HB.out.1.ia).mono ?_; rintro e W1 ⟨rfl, hb1⟩; replace HB := Lib.hid (And.intro (HB.out.1.below hb1) (HB.out.2.trans (hb1.mono HB.out.2.size))); replace HP := Lib.hid (IK.below HP.out hb1); clear hb1)
        | (go_at_call 18; with_reducible refine (lg_lives _).mono ?_; rintro e W1 ⟨rfl, hb1⟩; replace HB := Lib.hid (And.intro (HB.out.1.below hb1) (HB.out.2.trans (hb1.mono HB.out.2.size))); replace HP := Lib.hid (IK.below HP.out hb1); clear hb1))
      go_upto_region 7 with (first
        | (go_at_call 15; with_reducible refine (fewm_again 8 (by omega) L n HN.out.2.1 hnm a c0 8 rfl _ HB.out.1.ia).mono ?_; rintro e W1 ⟨p, cp, rfl, hp, hb1⟩; replace HB := Lib.hid (And.intro (HB.out.1.below hb1) (HB.out.2.trans (hb1.mono HB.out.2.size))); replace HP := Lib.hid (IK.below HP.out hb1); clear hb1; clear HP; have HP := Lib.hid hp; clear hp)
        | (go_at_call 16; with_reducible refine (cut_m a1 s 14 (by omega) w1 HS.out.1 14 rfl _).mono ?_; rintro e W1 ⟨rfl, hb1⟩; first | (replace HB := Lib.hid (And.intro (HB.out.1.below hb1) (HB.out.2.trans (hb1.mono HB.out.2.size))); replace HP := Lib.hid (IK.below HP.out hb1); clear hb1) | clear hb1)
        | (go_at_call 17; with_reducible refine (rg_good L true HN.out.2.2 a n c0 HN.out.2.1 hn6 _ HB.out.1.li).mono ?_; rintro e W1 ⟨rfl, hb1⟩; replace HB := Lib.hid (And.intro (HB.out.1.below hb1) (HB.out.2.trans (hb1.mono HB.out.2.size))); replace HP := Lib.hid (IK.below HP.out hb1); clear hb1)
        | (go_at_call 19; with_reducible refine (lg_matches L s t hs1 HS.out.2.1 false HS.out.2.2.1 n p cp HN.out.2.1 hn6 _ HP.out.ia).mono ?_; rintro e W1 ⟨rfl, hb1⟩; replace HB := Lib.hid (And.intro (HB.out.1.below hb1) (HB.out.2.trans (hb1.mono HB.out.2.size))); replace HP := Lib.hid (IK.below HP.out hb1); clear hb1)
        | (go_at_call 20; with_reducible refine (rg_matches L s t hs3 HS.out.2.1 false HS.out.2.2.1 n a c0 HN.out.2.1 hn3 _ HB.out.1.ia).mono ?_; rintro e W1 ⟨rfl, hb1⟩; replace HB := Lib.hid (And.intro (HB.out.1.below hb1) (HB.out.2.trans (hb1.mono HB.out.2.size))); replace HP := Lib.hid (IK.below HP.out hb1); clear hb1)
        | (go_at_call 21; with_reducible refine (lg_least L m HS.out.2.2.2.1 n p cp HN.out.2.1 hn6 _ HP.out.ia).mono ?_; rintro e W1 ⟨rfl, hb1⟩; replace HB := Lib.hid (And.intro (HB.out.1.below hb1) (HB.out.2.trans (hb1.mono HB.out.2.size))); replace HP := Lib.hid (IK.below HP.out hb1); clear hb1)
        | (go_at_call 22; with_reducible refine (rg_least L m HS.out.2.2.2.1 n a c0 HN.out.2.1 hn6 _ HB.out.1.ia).mono ?_; rintro e W1 ⟨rfl, hb1⟩; replace HB := Lib.hid (And.intro (HB.out.1.below hb1) (HB.out.2.trans (hb1.mono HB.out.2.size))); replace HP := Lib.hid (IK.below HP.out hb1); clear hb1)
        | (go_at_call 23; with_reducible refine (lg_void L v HS.out.2.2.2.2.1 n p cp HN.out.2.1 hn6 _ HP.out.ia).mono ?_; rintro e W1 ⟨rfl, hb1⟩; replace HB := Lib.hid (And.intro (HB.out.1.below hb1) (HB.out.2.trans (hb1.mono HB.out.2.size))); replace HP := Lib.hid (IK.below HP.out hb1); clear hb1)
        | (go_at_call 24; with_reducible refine (rg_void L v HS.out.2.2.2.2.1 n a c0 HN.out.2.1 hn6 _ HB.out.1.ia).mono ?_; rintro e W1 ⟨rfl, hb1⟩; replace HB := Lib.hid (And.intro (HB.out.1.below hb1) (HB.out.2.trans (hb1.mono HB.out.2.size))); replace HP := Lib.hid (IK.below HP.out hb1); clear hb1)
        | (go_at_call 25; with_reducible refine (lg_empty2 L m HS.out.2.2.2.1 e0 HS.out.2.2.2.2.2.1 n p cp HN.out.2.1 hn6 _ HP.out.ia).mono ?_; rintro e W1 ⟨rfl, hb1⟩; replace HB := Lib.hid (And.intro (HB.out.1.below hb1) (HB.out.2.trans (hb1.mono HB.out.2.size))); replace HP := Lib.hid (IK.below HP.out hb1); clear hb1)
        | (go_at_call 20; with_reducible refine (rg_matches0 L e0 HS.out.2.2.2.2.2.2 n a c0 HN.out.2.1 hn3 _ HB.out.1.ia).mono ?_; rintro e W1 ⟨rfl, hb1⟩; replace HB := Lib.hid (And.intro (HB.out.1.below hb1) (HB.out.2.trans (hb1.mono HB.out.2.size))); replace HP := Lib.hid (IK.below HP.out hb1); clear hb1)
        | (go_at_call 18; with_reducible refine (lg_lives _).mono ?_; rintro e W1 ⟨rfl, hb1⟩; replace HB := Lib.hid (And.intro (HB.out.1.below hb1) (HB.out.2.trans (hb1.mono HB.out.2.size))); replace HP := Lib.hid (IK.below HP.out hb1); clear hb1))
      go_wp2_with (first
        | (go_at_call 15; with_reducible refine (fewm_again 8 (by omega) L n HN.out.2.1 hnm a c0 8 rfl _ HB.out.1.ia).mono ?_; rintro e W1 ⟨p, cp, rfl, hp, hb1⟩; replace HB := Lib.hid (And.intro (HB.out.1.below hb1) (HB.out.2.trans (hb1.mono HB.out.2.size))); replace HP := Lib.hid (IK.below HP.out hb1); clear hb1; clear HP; have HP := Lib.hid hp; clear hp)
        | (go_at_call 16; with_reducible refine (cut_m a1 s 14 (by omega) w1 HS.out.1 14 rfl _).mono ?_; rintro e W1 ⟨rfl, hb1⟩; first | (replace HB := Lib.hid (And.intro (HB.out.1.below hb1) (HB.out.2.trans (hb1.mono HB.out.2.size))); replace HP := Lib.hid (IK.below HP.out hb1); clear hb1) | clear hb1)
        | (go_at_call 17; with_reducible refine (rg_good L true HN.out.2.2 a n c0 HN.out.2.1 hn6 _ HB.out.1.li).mono ?_; rintro e W1 ⟨rfl, hb1⟩; replace HB := Lib.hid (And.intro (HB.out.1.below hb1) (HB.out.2.trans (hb1.mono HB.out.2.size))); replace HP := Lib.hid (IK.below HP.out hb1); clear hb1)
        | (go_at_call 19; with_reducible refine (lg_matches L s t hs1 HS.out.2.1 false HS.out.2.2.1 n p cp HN.out.2.1 hn6 _ HP.out.ia).mono ?_; rintro e W1 ⟨rfl, hb1⟩; replace HB := Lib.hid (And.intro (HB.out.1.below hb1) (HB.out.2.trans (hb1.mono HB.out.2.size))); replace HP := Lib.hid (IK.below HP.out hb1); clear hb1)
        | (go_at_call 20; with_reducible refine (rg_matches L s t hs3 HS.out.2.1 false HS.out.2.2.1 n a c0 HN.out.2.1 hn3 _ HB.out.1.ia).mono ?_; rintro e W1 ⟨rfl, hb1⟩; replace HB := Lib.hid (And.intro (HB.out.1.below hb1) (HB.out.2.trans (hb1.mono HB.out.2.size))); replace HP := Lib.hid (IK.below HP.out hb1); clear hb1)
        | (go_at_call 21; with_reducible refine (lg_least L m HS.out.2.2.2.1 n p cp HN.out.2.1 hn6 _ HP.out.ia).mono ?_; rintro e W1 ⟨rfl, hb1⟩; replace HB := Lib.hid (And.intro (HB.out.1.below hb1) (HB.out.2.trans (hb1.mono HB.out.2.size))); replace HP := Lib.hid (IK.below HP.out hb1); clear hb1)
        | (go_at_call 22; with_reducible refine (rg_least L m HS.out.2.2.2.1 n a c0 HN.out.2.1 hn6 _ HB.out.1.ia).mono ?_; rintro e W1 ⟨rfl, hb1⟩; replace HB := Lib.hid (And.intro (HB.out.1.below hb1) (HB.out.2.trans (hb1.mono HB.out.2.size))); replace HP := Lib.hid (IK.below HP.out hb1); clear hb1)
        | (go_at_call 23; with_reducible refine (lg_void L v HS.out.2.2.2.2.1 n p cp HN.out.2.1 hn6 _ HP.out.ia).mono ?_; rintro e W1 ⟨rfl, hb1⟩; replace HB := Lib.hid (And.intro (HB.out.1.below hb1) (HB.out.2.trans (hb1.mono HB.out.2.size))); replace HP := Lib.hid (IK.below HP.out hb1); clear hb1)
        | (go_at_call 24; with_reducible refine (rg_void L v HS.out.2.2.2.2.1 n a c0 HN.out.2.1 hn6 _ HB.out.1.ia).mono ?_; rintro e W1 ⟨rfl, hb1⟩; replace HB := Lib.hid (And.intro (HB.out.1.below hb1) (HB.out.2.trans (hb1.mono HB.out.2.size))); replace HP := Lib.hid (IK.below HP.out hb1); clear hb1)
        | (go_at_call 25; with_reducible refine (lg_empty2 L m HS.out.2.2.2.1 e0 HS.out.2.2.2.2.2.1 n p cp HN.out.2.1 hn6 _ HP.out.ia).mono ?_; rintro e W1 ⟨rfl, hb1⟩; replace HB := Lib.hid (And.intro (HB.out.1.below hb1) (HB.out.2.trans (hb1.mono HB.out.2.size))); replace HP := Lib.hid (IK.below HP.out hb1); clear hb1)
        | (go_at_call 20; with_reducible refine (rg_matches0 L e0 HS.out.2.2.2.2.2.2 n a c0 HN.out.2.1 hn3 _ HB.out.1.ia).mono ?_; rintro e W1 ⟨rfl, hb1⟩; replace HB := Lib.hid (And.intro (HB.out.1.below hb1) (HB.out.2.trans (hb1.mono HB.out.2.size))); replace HP := Lib.hid (IK.below HP.out hb1); clear hb1)
        | (go_at_call 18; with_reducible refine (lg_lives _).mono ?_; rintro e W1 ⟨rfl, hb1⟩; replace HB := Lib.hid (And.intro (HB.out.1.below hb1) (HB.out.2.trans (hb1.mono HB.out.2.size))); replace HP := Lib.hid (IK.below HP.out hb1); clear hb1))
      go_ret
      exact ⟨rfl, HB.out.2⟩
    | true =>
      obtain ⟨hmN, hvf⟩ := hlong rfl
      have hmI : (m : Int) ≤ (N : Int) := by omega
      subst hvf
      clear hL hn hg hs ht hm hv he hb hlong
      go_enter Try.func3, Try.ntmps3
      go_upto_region 4 with (first
        | (go_at_call 15; with_reducible refine (fewm_first 8 (by omega) z0 L HN.out.1 n HN.out.2.1 a0 len0 cap0 HI.out.1 HI.out.2.1 8 rfl _ HI.out.2.2).mono ?_; rintro e W1 ⟨a, c0, rfl, ha, hb1⟩; have HB := Lib.hid (And.intro ha hb1); have HP := Lib.hid ha; clear ha hb1)
        | (go_at_call 16; with_reducible refine (cut_m a1 s 14 (by omega) w1 HS.out.1 14 rfl _).mono ?_; rintro e W1 ⟨rfl, hb1⟩; first | (replace HB := Lib.hid (And.intro (HB.out.1.below hb1) (HB.out.2.trans (hb1.mono HB.out.2.size))); replace HP := Lib.hid (IK.below HP.out hb1); clear hb1) | clear hb1)
        | (go_at_call 17; with_reducible refine (rg_good L true HN.out.2.2 a n c0 HN.out.2.1 hn6 _ HB.out.1.li).mono ?_; rintro e W1 ⟨rfl, hb1⟩; replace HB := Lib.hid (And.intro (HB.out.1.below hb1) (HB.out.2.trans (hb1.mono HB.out.2.size))); replace HP := Lib.hid (IK.below HP.out hb1); clear hb1)
        | (go_at_call 19; with_reducible refine (lg_matches L s t hs1 HS.out.2.1 true HS.out.2.2.1 n p cp HN.out.2.1 hn6 _ HP.out.ia).mono ?_; rintro e W1 ⟨rfl, hb1⟩; replace HB := Lib.hid (And.intro (HB.out.1.below hb1) (HB.out.2.trans (hb1.mono HB.out.2.size))); replace HP := Lib.hid (IK.below HP.out hb1); clear hb1)
        | (go_at_call 20; with_reducible refine (rg_matches L s t hs3 HS.out.2.1 true HS.out.2.2.1 n a c0 HN.out.2.1 hn3 _ HB.out.1.ia).mono ?_; rintro e W1 ⟨rfl, hb1⟩; replace HB := Lib.hid (And.intro (HB.out.1.below hb1) (HB.out.2.trans (hb1.mono HB.out.2.size))); replace HP := Lib.hid (IK.below HP.out hb1); clear hb1)
        | (go_at_call 21; with_reducible refine (lg_least L m HS.out.2.2.2.1 n p cp HN.out.2.1 hn6 _ HP.out.ia).mono ?_; rintro e W1 ⟨rfl, hb1⟩; replace HB := Lib.hid (And.intro (HB.out.1.below hb1) (HB.out.2.trans (hb1.mono HB.out.2.size))); replace HP := Lib.hid (IK.below HP.out hb1); clear hb1)
        | (go_at_call 22; with_reducible refine (rg_least L m HS.out.2.2.2.1 n a c0 HN.out.2.1 hn6 _ HB.out.1.ia).mono ?_; rintro e W1 ⟨rfl, hb1⟩; replace HB := Lib.hid (And.intro (HB.out.1.below hb1) (HB.out.2.trans (hb1.mono HB.out.2.size))); replace HP := Lib.hid (IK.below HP.out hb1); clear hb1)
        | (go_at_call 23; with_reducible refine (lg_void L false HS.out.2.2.2.2.1 n p cp HN.out.2.1 hn6 _ HP.out.ia).mono ?_; rintro e W1 ⟨rfl, hb1⟩; replace HB := Lib.hid (And.intro (HB.out.1.below hb1) (HB.out.2.trans (hb1.mono HB.out.2.size))); replace HP := Lib.hid (IK.below HP.out hb1); clear hb1)
        | (go_at_call 24; with_reducible refine (rg_void L false HS.out.2.2.2.2.1 n a c0 HN.out.2.1 hn6 _ HB.out.1.ia).mono ?_; rintro e W1 ⟨rfl, hb1⟩; replace HB := Lib.hid (And.intro (HB.out.1.below hb1) (HB.out.2.trans (hb1.mono HB.out.2.size))); replace HP := Lib.hid (IK.below HP.out hb1); clear hb1)
        | (go_at_call 25; with_reducible refine (lg_empty2 L m HS.out.2.2.2.1 e0 HS.out.2.2.2.2.2.1 n p cp HN.out.2.1 hn6 _ HP.out.ia).mono ?_; rintro e W1 ⟨rfl, hb1⟩; replace HB := Lib.hid (And.intro (HB.out.1.below hb1) (HB.out.2.trans (hb1.mono HB.out.2.size))); replace HP := Lib.hid (IK.below HP.out hb1); clear hb1)
        | (go_at_call 20; with_reducible refine (rg_matches0 L e0 HS.out.2.2.2.2.2.2 n a c0 HN.out.2.1 hn3 _ HB.out.1.ia).mono ?_; rintro e W1 ⟨rfl, hb1⟩; replace HB := Lib.hid (And.intro (HB.out.1.below hb1) (HB.out.2.trans (hb1.mono HB.out.2.size))); replace HP := Lib.hid (IK.below HP.out hb1); clear hb1)
        | (go_at_call 18; with_reducible refine (lg_lives _).mono ?_; rintro e W1 ⟨rfl, hb1⟩; replace HB := Lib.hid (And.intro (HB.out.1.below hb1) (HB.out.2.trans (hb1.mono HB.out.2.size))); replace HP := Lib.hid (IK.below HP.out hb1); clear hb1))
      go_upto_region 5 with (first
        | (go_at_call 15; with_reducible refine (fewm_again 8 (by omega) L n HN.out.2.1 hnm a c0 8 rfl _ HB.out.1.ia).mono ?_; rintro e W1 ⟨p, cp, rfl, hp, hb1⟩; replace HB := Lib.hid (And.intro (HB.out.1.below hb1) (HB.out.2.trans (hb1.mono HB.out.2.size))); replace HP := Lib.hid (IK.below HP.out hb1); clear hb1; clear HP; have HP := Lib.hid hp; clear hp)
        | (go_at_call 16; with_reducible refine (cut_m a1 s 14 (by omega) w1 HS.out.1 14 rfl _).mono ?_; rintro e W1 ⟨rfl, hb1⟩; first | (replace HB := Lib.hid (And.intro (HB.out.1.below hb1) (HB.out.2.trans (hb1.mono HB.out.2.size))); replace HP := Lib.hid (IK.below HP.out hb1); clear hb1) | clear hb1)
        | (go_at_call 17; with_reducible refine (rg_good L true HN.out.2.2 a n c0 HN.out.2.1 hn6 _ HB.out.1.li).mono ?_; rintro e W1 ⟨rfl, hb1⟩; replace HB := Lib.hid (And.intro (HB.out.1.below hb1) (HB.out.2.trans (hb1.mono HB.out.2.size))); replace HP := Lib.hid (IK.below HP.out hb1); clear hb1)
        | (go_at_call 19; with_reducible refine (lg_matches L s t hs1 HS.out.2.1 true HS.out.2.2.1 n p cp HN.out.2.1 hn6 _ HP.out.ia).mono ?_; rintro e W1 ⟨rfl, hb1⟩; replace HB := Lib.hid (And.intro (HB.out.1.below hb1) (HB.out.2.trans (hb1.mono HB.out.2.size))); replace HP := Lib.hid (IK.below HP.out hb1); clear hb1)
        | (go_at_call 20; with_reducible refine (rg_matches L s t hs3 HS.out.2.1 true HS.out.2.2.1 n a c0 HN.out.2.1 hn3 _ HB.out.1.ia).mono ?_; rintro e W1 ⟨rfl, hb1⟩; replace HB := Lib.hid (And.intro (HB.out.1.below hb1) (HB.out.2.trans (hb1.mono HB.out.2.size))); replace HP := Lib.hid (IK.below HP.out hb1); clear hb1)
        | (go_at_call 21; with_reducible refine (lg_least L m HS.out.2.2.2.1 n p cp HN.out.2.1 hn6 _ HP.out.ia).mono ?_; rintro e W1 ⟨rfl, hb1⟩; replace HB := Lib.hid (And.intro (HB.out.1.below hb1) (HB.out.2.trans (hb1.mono HB.out.2.size))); replace HP := Lib.hid (IK.below HP.out hb1); clear hb1)
        | (go_at_call 22; with_reducible refine (rg_least L m HS.out.2.2.2.1 n a c0 HN.out.2.1 hn6 _ HB.out.1.ia).mono ?_; rintro e W1 ⟨rfl, hb1⟩; replace HB := Lib.hid (And.intro (HB.out.1.below hb1) (HB.out.2.trans (hb1.mono HB.out.2.size))); replace HP := Lib.hid (IK.below HP.out hb1); clear hb1)
        | (go_at_call 23; with_reducible refine (lg_void L false HS.out.2.2.2.2.1 n p cp HN.out.2.1 hn6 _ HP.out.ia).mono ?_; rintro e W1 ⟨rfl, hb1⟩; replace HB := Lib.hid (And.intro (HB.out.1.below hb1) (HB.out.2.trans (hb1.mono HB.out.2.size))); replace HP := Lib.hid (IK.below HP.out hb1); clear hb1)
        | (go_at_call 24; with_reducible refine (rg_void L false HS.out.2.2.2.2.1 n a c0 HN.out.2.1 hn6 _ HB.out.1.ia).mono ?_; rintro e W1 ⟨rfl, hb1⟩; replace HB := Lib.hid (And.intro (HB.out.1.below hb1) (HB.out.2.trans (hb1.mono HB.out.2.size))); replace HP := Lib.hid (IK.below HP.out hb1); clear hb1)
        | (go_at_call 25; with_reducible refine (lg_empty2 L m HS.out.2.2.2.1 e0 HS.out.2.2.2.2.2.1 n p cp HN.out.2.1 hn6 _ HP.out.ia).mono ?_; rintro e W1 ⟨rfl, hb1⟩; replace HB := Lib.hid (And.intro (HB.out.1.below hb1) (HB.out.2.trans (hb1.mono HB.out.2.size))); replace HP := Lib.hid (IK.below HP.out hb1); clear hb1)
        | (go_at_call 20; with_reducible refine (rg_matches0 L e0 HS.out.2.2.2.2.2.2 n a c0 HN.out.2.1 hn3 _ HB.out.1.ia).mono ?_; rintro e W1 ⟨rfl, hb1⟩; replace HB := Lib.hid (And.intro (HB.out.1.below hb1) (HB.out.2.trans (hb1.mono HB.out.2.size))); replace HP := Lib.hid (IK.below HP.out hb1); clear hb1)
        | (go_at_call 18; with_reducible refine (lg_lives _).mono ?_; rintro e W1 ⟨rfl, hb1⟩; replace HB := Lib.hid (And.intro (HB.out.1.below hb1) (HB.out.2.trans (hb1.mono HB.out.2.size))); replace HP := Lib.hid (IK.below HP.out hb1); clear hb1))
      go_upto_region 7 with (first
        | (go_at_call 15; with_reducible refine (fewm_again 8 (by omega) L n HN.out.2.1 hnm a c0 8 rfl _ HB.out.1.ia).mono ?_; rintro e W1 ⟨p, cp, rfl, hp, hb1⟩; replace HB := Lib.hid (And.intro (HB.out.1.below hb1) (HB.out.2.trans (hb1.mono HB.out.2.size))); replace HP := Lib.hid (IK.below HP.out hb1); clear hb1; clear HP; have HP := Lib.hid hp; clear hp)
        | (go_at_call 16; with_reducible refine (cut_m a1 s 14 (by omega) w1 HS.out.1 14 rfl _).mono ?_; rintro e W1 ⟨rfl, hb1⟩; first | (replace HB := Lib.hid (And.intro (HB.out.1.below hb1) (HB.out.2.trans (hb1.mono HB.out.2.size))); replace HP := Lib.hid (IK.below HP.out hb1); clear hb1) | clear hb1)
        | (go_at_call 17; with_reducible refine (rg_good L true HN.out.2.2 a n c0 HN.out.2.1 hn6 _ HB.out.1.li).mono ?_; rintro e W1 ⟨rfl, hb1⟩; replace HB := Lib.hid (And.intro (HB.out.1.below hb1) (HB.out.2.trans (hb1.mono HB.out.2.size))); replace HP := Lib.hid (IK.below HP.out hb1); clear hb1)
        | (go_at_call 19; with_reducible refine (lg_matches L s t hs1 HS.out.2.1 true HS.out.2.2.1 n p cp HN.out.2.1 hn6 _ HP.out.ia).mono ?_; rintro e W1 ⟨rfl, hb1⟩; replace HB := Lib.hid (And.intro (HB.out.1.below hb1) (HB.out.2.trans (hb1.mono HB.out.2.size))); replace HP := Lib.hid (IK.below HP.out hb1); clear hb1)
        | (go_at_call 20; with_reducible refine (rg_matches L s t hs3 HS.out.2.1 true HS.out.2.2.1 n a c0 HN.out.2.1 hn3 _ HB.out.1.ia).mono ?_; rintro e W1 ⟨rfl, hb1⟩; replace HB := Lib.hid (And.intro (HB.out.1.below hb1) (HB.out.2.trans (hb1.mono HB.out.2.size))); replace HP := Lib.hid (IK.below HP.out hb1); clear hb1)
        | (go_at_call 21; with_reducible refine (lg_least L m HS.out.2.2.2.1 n p cp HN.out.2.1 hn6 _ HP.out.ia).mono ?_; rintro e W1 ⟨rfl, hb1⟩; replace HB := Lib.hid (And.intro (HB.out.1.below hb1) (HB.out.2.trans (hb1.mono HB.out.2.size))); replace HP := Lib.hid (IK.below HP.out hb1); clear hb1)
        | (go_at_call 22; with_reducible refine (rg_least L m HS.out.2.2.2.1 n a c0 HN.out.2.1 hn6 _ HB.out.1.ia).mono ?_; rintro e W1 ⟨rfl, hb1⟩; replace HB := Lib.hid (And.intro (HB.out.1.below hb1) (HB.out.2.trans (hb1.mono HB.out.2.size))); replace HP := Lib.hid (IK.below HP.out hb1); clear hb1)
        | (go_at_call 23; with_reducible refine (lg_void L false HS.out.2.2.2.2.1 n p cp HN.out.2.1 hn6 _ HP.out.ia).mono ?_; rintro e W1 ⟨rfl, hb1⟩; replace HB := Lib.hid (And.intro (HB.out.1.below hb1) (HB.out.2.trans (hb1.mono HB.out.2.size))); replace HP := Lib.hid (IK.below HP.out hb1); clear hb1)
        | (go_at_call 24; with_reducible refine (rg_void L false HS.out.2.2.2.2.1 n a c0 HN.out.2.1 hn6 _ HB.out.1.ia).mono ?_; rintro e W1 ⟨rfl, hb1⟩; replace HB := Lib.hid (And.intro (HB.out.1.below hb1) (HB.out.2.trans (hb1.mono HB.out.2.size))); replace HP := Lib.hid (IK.below HP.out hb1); clear hb1)
        | (go_at_call 25; with_reducible refine (lg_empty2 L m HS.out.2.2.2.1 e0 HS.out.2.2.2.2.2.1 n p cp HN.out.2.1 hn6 _ HP.out.ia).mono ?_; rintro e W1 ⟨rfl, hb1⟩; replace HB := Lib.hid (And.intro (HB.out.1.below hb1) (HB.out.2.trans (hb1.mono HB.out.2.size))); replace HP := Lib.hid (IK.below HP.out hb1); clear hb1)
        | (go_at_call 20; with_reducible refine (rg_matches0 L e0 HS.out.2.2.2.2.2.2 n a c0 HN.out.2.1 hn3 _ HB.out.1.ia).mono ?_; rintro e W1 ⟨rfl, hb1⟩; replace HB := Lib.hid (And.intro (HB.out.1.below hb1) (HB.out.2.trans (hb1.mono HB.out.2.size))); replace HP := Lib.hid (IK.below HP.out hb1); clear hb1)
        | (go_at_call 18; with_reducible refine (lg_lives _).mono ?_; rintro e W1 ⟨rfl, hb1⟩; replace HB := Lib.hid (And.intro (HB.out.1.below hb1) (HB.out.2.trans (hb1.mono HB.out.2.size))); replace HP := Lib.hid (IK.below HP.out hb1); clear hb1))
      go_wp2_with (first
        | (go_at_call 15; with_reducible refine (fewm_again 8 (by omega) L n HN.out.2.1 hnm a c0 8 rfl _ HB.out.1.ia).mono ?_; rintro e W1 ⟨p, cp, rfl, hp, hb1⟩; replace HB := Lib.hid (And.intro (HB.out.1.below hb1) (HB.out.2.trans (hb1.mono HB.out.2.size))); replace HP := Lib.hid (IK.below HP.out hb1); clear hb1; clear HP; have HP := Lib.hid hp; clear hp)
        | (go_at_call 16; with_reducible refine (cut_m a1 s 14 (by omega) w1 HS.out.1 14 rfl _).mono ?_; rintro e W1 ⟨rfl, hb1⟩; first | (replace HB := Lib.hid (And.intro (HB.out.1.below hb1) (HB.out.2.trans (hb1.mono HB.out.2.size))); replace HP := Lib.hid (IK.below HP.out hb1); clear hb1) | clear hb1)
        | (go_at_call 17; with_reducible refine (rg_good L true HN.out.2.2 a n c0 HN.out.2.1 hn6 _ HB.out.1.li).mono ?_; rintro e W1 ⟨rfl, hb1⟩; replace HB := Lib.hid (And.intro (HB.out.1.below hb1) (HB.out.2.trans (hb1.mono HB.out.2.size))); replace HP := Lib.hid (IK.below HP.out hb1); clear hb1)
        | (go_at_call 19; with_reducible refine (lg_matches L s t hs1 HS.out.2.1 true HS.out.2.2.1 n p cp HN.out.2.1 hn6 _ HP.out.ia).mono ?_; rintro e W1 ⟨rfl, hb1⟩; replace HB := Lib.hid (And.intro (HB.out.1.below hb1) (HB.out.2.trans (hb1.mono HB.out.2.size))); replace HP := Lib.hid (IK.below HP.out hb1); clear hb1)
        | (go_at_call 20; with_reducible refine (rg_matches L s t hs3 HS.out.2.1 true HS.out.2.2.1 n a c0 HN.out.2.1 hn3 _ HB.out.1.ia).mono ?_; rintro e W1 ⟨rfl, hb1⟩; replace HB := Lib.hid (And.intro (HB.out.1.below hb1) (HB.out.2.trans (hb1.mono HB.out.2.size))); replace HP := Lib.hid (IK.below HP.out hb1); clear hb1)
        | (go_at_call 21; with_reducible refine (lg_least L m HS.out.2.2.2.1 n p cp HN.out.2.1 hn6 _ HP.out.ia).mono ?_; rintro e W1 ⟨rfl, hb1⟩; replace HB := Lib.hid (And.intro (HB.out.1.below hb1) (HB.out.2.trans (hb1.mono HB.out.2.size))); replace HP := Lib.hid (IK.below HP.out hb1); clear hb1)
        | (go_at_call 22; with_reducible refine (rg_least L m HS.out.2.2.2.1 n a c0 HN.out.2.1 hn6 _ HB.out.1.ia).mono ?_; rintro e W1 ⟨rfl, hb1⟩; replace HB := Lib.hid (And.intro (HB.out.1.below hb1) (HB.out.2.trans (hb1.mono HB.out.2.size))); replace HP := Lib.hid (IK.below HP.out hb1); clear hb1)
        | (go_at_call 23; with_reducible refine (lg_void L false HS.out.2.2.2.2.1 n p cp HN.out.2.1 hn6 _ HP.out.ia).mono ?_; rintro e W1 ⟨rfl, hb1⟩; replace HB := Lib.hid (And.intro (HB.out.1.below hb1) (HB.out.2.trans (hb1.mono HB.out.2.size))); replace HP := Lib.hid (IK.below HP.out hb1); clear hb1)
        | (go_at_call 24; with_reducible refine (rg_void L false HS.out.2.2.2.2.1 n a c0 HN.out.2.1 hn6 _ HB.out.1.ia).mono ?_; rintro e W1 ⟨rfl, hb1⟩; replace HB := Lib.hid (And.intro (HB.out.1.below hb1) (HB.out.2.trans (hb1.mono HB.out.2.size))); replace HP := Lib.hid (IK.below HP.out hb1); clear hb1)
        | (go_at_call 25; with_reducible refine (lg_empty2 L m HS.out.2.2.2.1 e0 HS.out.2.2.2.2.2.1 n p cp HN.out.2.1 hn6 _ HP.out.ia).mono ?_; rintro e W1 ⟨rfl, hb1⟩; replace HB := Lib.hid (And.intro (HB.out.1.below hb1) (HB.out.2.trans (hb1.mono HB.out.2.size))); replace HP := Lib.hid (IK.below HP.out hb1); clear hb1)
        | (go_at_call 20; with_reducible refine (rg_matches0 L e0 HS.out.2.2.2.2.2.2 n a c0 HN.out.2.1 hn3 _ HB.out.1.ia).mono ?_; rintro e W1 ⟨rfl, hb1⟩; replace HB := Lib.hid (And.intro (HB.out.1.below hb1) (HB.out.2.trans (hb1.mono HB.out.2.size))); replace HP := Lib.hid (IK.below HP.out hb1); clear hb1)
        | (go_at_call 18; with_reducible refine (lg_lives _).mono ?_; rintro e W1 ⟨rfl, hb1⟩; replace HB := Lib.hid (And.intro (HB.out.1.below hb1) (HB.out.2.trans (hb1.mono HB.out.2.size))); replace HP := Lib.hid (IK.below HP.out hb1); clear hb1))
      go_ret
      exact ⟨rfl, HB.out.2⟩

set_option maxRecDepth 100000 in
theorem lifted (os : Os) (started : os.Started) (H : Type) (enc : TypeId × Value → H) :
    ReturnsInHanded {} Try.checked os 3 .any (Rows.langMatchesSpec.pre6 enc Try.prog Try.f3 Rows.langMatchesRow.domain false) (Rows.langMatchesSpec.post enc Try.prog Try.f3 false true false false) := by
  refine returnsInHanded_of_change (C := Try.checked) ownKn started (by kernel_rfl) Try.func3
    (ChangeSpec.witness6 (enc := enc) (C := Try.checked) false ⟨#[], #[.slice none 0 0, .string ByteArray.empty], []⟩ 8 (by kernel_rfl) (by kernel_rfl) (by kernel_rfl) (by kernel_rfl)) ?_
  intro W base args ds gs before hval0 hW hcnd _
  have hval : ∀ (j : Nat) t v, Try.f3.params[j]? = some t → args[j]? = some v → Value.okWide Try.prog W .any base t v := hval0
  have hW' := hW
  obtain ⟨p, q, hA0, hV, rfl, hfz, hnd⟩ := hW
  have hA : DataW.TrodAll enc Try.prog W 0 (fun _ => true) true Try.f3.params.toList args.toList ds p := hA0
  rw [Try.params3] at hA hval
  obtain ⟨v0, vs0, d0, ds0, p0, q0, hargs, rfl, rfl, h0, r0⟩ := trodAll_cons hA
  obtain ⟨v1, vs1, d1, ds1, p1, q1, rfl, rfl, rfl, h1, r1⟩ := trodAll_cons r0
  obtain ⟨rfl, rfl, rfl⟩ := trodAll_nil r1
  obtain rfl : args = #[v0, v1] := by cases args; simp_all
  obtain ⟨rfl, rfl⟩ := trodVars_none hV
  have k0 := h0
  have lt0 : ∀ x ∈ p0, x.block < W.heap.size := by obtain ⟨m, hm⟩ := k0; exact DataW.trod_lt m _ _ _ hm
  obtain ⟨b0, lb0, cb0, rfl⟩ := okWide_slice Try.underlying22 (hval 0 22 v0 rfl rfl)
  obtain ⟨fu0, hf0⟩ := h0
  simp only [Value.cells] at hf0
  obtain ⟨a0, len0, cap0, z0, e0, w0⟩ := fld_items hf0
  obtain ⟨rfl, rfl, rfl⟩ : b0 = a0 ∧ lb0 = len0 ∧ cb0 = cap0 := by simpa using e0
  have k1 := h1
  have lt1 : ∀ x ∈ p1, x.block < W.heap.size := by obtain ⟨m, hm⟩ := k1; exact DataW.trod_lt m _ _ _ hm
  obtain ⟨a1, rfl, rfl, rfl, w1⟩ := open_string Try.underlying9 (hval 1 9 v1 rfl rfl) h1
  clear hA0 hval0
  refine (walk b0 lb0 cb0 z0 a1 W w0 w1).mono fun e W' ⟨he, bel⟩ => ?_
  subst he
  exact ⟨_, rfl, _, _, _, [], _, [], hW', trodAll_mk1 (shut_bool Try.underlying4 _), (trodAll_cons_mk (Below.trod laidOut (by kernel_rfl) (of_decide_eq_true (by kernel_rfl)) k0 bel lt0) (trodAll_cons_mk (Below.trod laidOut (by kernel_rfl) (of_decide_eq_true (by kernel_rfl)) k1 bel lt1) trodAll_mk0)), rfl, bel.frame _, fun h => by cases h⟩

theorem over : Rows.langMatchesRow.holds Try.pinned (OpenSpec.ofChange Rows.langMatchesSpec) :=
  OpenClaim.holds_of_wide 3 Try.f3 rfl rfl rfl rfl rfl rfl rfl ⟨rfl, rfl, rfl, rfl, rfl⟩ rfl rfl rfl rfl rfl (by kernel_rfl) Try.func3 (by kernel_rfl)
    (of_decide_eq_true (by kernel_rfl)) (by unfold Func.isWrapper; first | (rw [if_pos (by decide +kernel)]; kernel_rfl) | (rw [if_neg (by decide +kernel)]; exact ⟨rfl, rfl⟩))
    (fun os started H enc _ => lifted os started H enc)

/-- The statement. -/
theorem proved : Rows.LangMatchesSaid := over
#print axioms proved
end Go.Proofs.Ytjedjnpepjdgeaa.langMatches
