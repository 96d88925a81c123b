/- P11.1 to P11.3: for every pattern (its first 6 items), text (cut to 12 bytes) and place: where it occurs first, and from where to the place, is as the document says. No condition. -/
import Derived.Test.YtopiiehdgknmgaaOpen
import Derived.WalkKit
import Derived.ProofKit
import Derived.OpenShut
import Derived.Test.YtopiiehdgknmgaaSp5
import Derived.Test.YtopiiehdgknmgaaLgC
namespace Go.Proofs.Ytopiiehdgknmgaa.spanFinds
open Go.Joins Go.ChangeShapes Go.WideShapes Go.ChangeAt Go.RowKit Go.Deep
open Go.ChangeMaps (open_string)
set_option linter.unusedSimpArgs false
set_option linter.unusedVariables false

theorem nv_head {w : World} {r : Option Addr} {Y : List Nat} {y : Nat} (h : NV w r Y) (hy : Y[0]? = some y) : ∃ g, r = some ⟨g, 0, none⟩ ∧ g < w.heap.size ∧ w.cell? ⟨g, 0, none⟩ = some (.int .i64 (y : Int)) := by
  rcases h with h | ⟨g, h1, h2, h3⟩
  · rw [h] at hy; cases hy
  · exact ⟨g, h1, h2, h3 0 y hy⟩
set_option maxRecDepth 20000 in
set_option maxHeartbeats 16000000 in

theorem walk (a0 : Option Addr) (len0 cap0 : Nat) (z0 : List (Bool × BitVec 256)) (a1 : ByteArray) (a2 : Int) (w : World) (w0 : IsIt w a0 len0 cap0 z0) (w1 : a1.size ≤ maxLen) (w2 : (Lit.int .i64 a2).wf = true) :
    Calls Try.prog 8 #[.slice a0 len0 cap0, .string a1, .int .i64 a2] w fun e w' => e = .returned (.bool true) ∧ Below w.heap.size w w' := by
  obtain ⟨L, hL⟩ : ∃ L, z0.take 6 = L := ⟨_, rfl⟩
  obtain ⟨n, hn⟩ : ∃ n, L.length = n := ⟨_, rfl⟩
  have hnm : n ≤ 6 := by rw [← hn, ← hL, List.length_take]; omega
  have hn6 : n ≤ 1000000 := by omega
  have hn3 : n ≤ 1000 := by omega
  have HI := Lib.hid (items_in w0)
  obtain ⟨s, hs⟩ : ∃ s, cutT a1 12 = s := ⟨_, rfl⟩
  have hs6 : s.size ≤ 12 := by rw [← hs]; exact cutT_le _ _
  have hs3 : s.size ≤ 1000 := by omega
  have hs1 : s.size ≤ 1000000 := by omega
  obtain ⟨t, ht⟩ : ∃ t, s.data.toList = t := ⟨_, rfl⟩
  obtain ⟨N, hN⟩ : ∃ N, s.size = N := ⟨_, rfl⟩
  obtain ⟨fr, to_, ok, hF⟩ : ∃ x y z, Lg.firstR L t = (x, y, z) := ⟨_, _, _, rfl⟩
  obtain ⟨mm, hmm⟩ : ∃ mm, Lg.least L = mm := ⟨_, rfl⟩
  have hn5 : n ≤ 100000 := by omega
  have hs6' : s.size ≤ 1000000 := by omega
  have HS : Hid (cutT a1 12 = s ∧ s.data.toList = t ∧ Lg.firstR L t = (fr, to_, ok)) := Lib.hid ⟨hs, ht, hF⟩
  cases hg : goodB L with
  | false =>
    have HN : Hid (z0.take 6 = L ∧ L.length = n ∧ goodB L = false ∧ Lg.least L = mm) := Lib.hid ⟨hL, hn, hg, hmm⟩
    clear hL hn hg hs ht hF hmm hs6 hs3 hs1
    go_enter Try.func8, Try.ntmps8
    go_upto_region 2 with (first
      | (go_at_call 30; with_reducible refine (fewm_first 6 (by omega) z0 L HN.out.1 n HN.out.2.1 a0 len0 cap0 HI.out.1 HI.out.2.1 6 rfl _ HI.out.2.2).mono ?_; rintro e W1 ⟨a, c0, rfl, ha, hb1⟩; have HB := Lib.hid (And.intro ha hb1); have HP := Lib.hid ha; clear ha hb1)
      | (go_at_call 31; with_reducible refine (cut_m a1 s 12 (by omega) w1 HS.out.1 12 rfl _).mono ?_; rintro e W1 ⟨rfl, hb1⟩; first | (replace HB := Lib.hid (And.intro (HB.out.1.below hb1) (HB.out.2.trans (hb1.mono HB.out.2.size))); replace HP := Lib.hid (IK.below HP.out hb1); clear hb1) | clear hb1))
    go_upto_region 3 with (first
      | (go_at_call 30; with_reducible refine (fewm_again 6 (by omega) L n HN.out.2.1 hnm a c0 6 rfl _ HB.out.1.ia).mono ?_; rintro e W1 ⟨p, cp, rfl, hp, hb1⟩; replace HB := Lib.hid (And.intro (HB.out.1.below hb1) (HB.out.2.trans (hb1.mono HB.out.2.size))); replace HP := Lib.hid (IK.below HP.out hb1); clear hb1; clear HP; have HP := Lib.hid hp; clear hp)
      | (go_at_call 37; with_reducible refine (sp_find_bad L (Or.inl HN.out.2.2.1) s n p cp HN.out.2.1 hn5 _ HP.out).mono ?_; rintro e W1 ⟨rfl, hb1⟩; replace HB := Lib.hid (And.intro (HB.out.1.below hb1) (HB.out.2.trans (hb1.mono HB.out.2.size))); replace HP := Lib.hid (IK.below HP.out hb1); clear hb1)
      | (go_at_call 38; with_reducible refine (sp_from_bad L (Or.inl HN.out.2.2.1) s a2 n p cp HN.out.2.1 hn5 _ HP.out.ia).mono ?_; rintro e W1 ⟨rfl, hb1⟩; replace HB := Lib.hid (And.intro (HB.out.1.below hb1) (HB.out.2.trans (hb1.mono HB.out.2.size))); replace HP := Lib.hid (IK.below HP.out hb1); clear hb1)
      | (go_at_call 33; with_reducible refine (rg_good L false HN.out.2.2.1 a n c0 HN.out.2.1 hn6 _ HB.out.1.li).mono ?_; rintro e W1 ⟨rfl, hb1⟩; replace HB := Lib.hid (And.intro (HB.out.1.below hb1) (HB.out.2.trans (hb1.mono HB.out.2.size))); replace HP := Lib.hid (IK.below HP.out hb1); clear hb1)
      | (go_at_call 36; with_reducible refine (sp_lives _).mono ?_; rintro e W1 ⟨rfl, hb1⟩; replace HB := Lib.hid (And.intro (HB.out.1.below hb1) (HB.out.2.trans (hb1.mono HB.out.2.size))); replace HP := Lib.hid (IK.below HP.out hb1); clear hb1))
    go_upto_region 4 with (first
      | (go_at_call 30; with_reducible refine (fewm_again 6 (by omega) L n HN.out.2.1 hnm a c0 6 rfl _ HB.out.1.ia).mono ?_; rintro e W1 ⟨p, cp, rfl, hp, hb1⟩; replace HB := Lib.hid (And.intro (HB.out.1.below hb1) (HB.out.2.trans (hb1.mono HB.out.2.size))); replace HP := Lib.hid (IK.below HP.out hb1); clear hb1; clear HP; have HP := Lib.hid hp; clear hp)
      | (go_at_call 37; with_reducible refine (sp_find_bad L (Or.inl HN.out.2.2.1) s n p cp HN.out.2.1 hn5 _ HP.out).mono ?_; rintro e W1 ⟨rfl, hb1⟩; replace HB := Lib.hid (And.intro (HB.out.1.below hb1) (HB.out.2.trans (hb1.mono HB.out.2.size))); replace HP := Lib.hid (IK.below HP.out hb1); clear hb1)
      | (go_at_call 38; with_reducible refine (sp_from_bad L (Or.inl HN.out.2.2.1) s a2 n p cp HN.out.2.1 hn5 _ HP.out.ia).mono ?_; rintro e W1 ⟨rfl, hb1⟩; replace HB := Lib.hid (And.intro (HB.out.1.below hb1) (HB.out.2.trans (hb1.mono HB.out.2.size))); replace HP := Lib.hid (IK.below HP.out hb1); clear hb1)
      | (go_at_call 33; with_reducible refine (rg_good L false HN.out.2.2.1 a n c0 HN.out.2.1 hn6 _ HB.out.1.li).mono ?_; rintro e W1 ⟨rfl, hb1⟩; replace HB := Lib.hid (And.intro (HB.out.1.below hb1) (HB.out.2.trans (hb1.mono HB.out.2.size))); replace HP := Lib.hid (IK.below HP.out hb1); clear hb1)
      | (go_at_call 36; with_reducible refine (sp_lives _).mono ?_; rintro e W1 ⟨rfl, hb1⟩; replace HB := Lib.hid (And.intro (HB.out.1.below hb1) (HB.out.2.trans (hb1.mono HB.out.2.size))); replace HP := Lib.hid (IK.below HP.out hb1); clear hb1))
    go_wp2_with (first
      | (go_at_call 37; with_reducible refine (sp_find_bad L (Or.inl HN.out.2.2.1) s n p cp HN.out.2.1 hn5 _ HP.out).mono ?_; rintro e W1 ⟨rfl, hb1⟩; replace HB := Lib.hid (And.intro (HB.out.1.below hb1) (HB.out.2.trans (hb1.mono HB.out.2.size))); replace HP := Lib.hid (IK.below HP.out hb1); clear hb1)
      | (go_at_call 38; with_reducible refine (sp_from_bad L (Or.inl HN.out.2.2.1) s a2 n p cp HN.out.2.1 hn5 _ HP.out.ia).mono ?_; rintro e W1 ⟨rfl, hb1⟩; replace HB := Lib.hid (And.intro (HB.out.1.below hb1) (HB.out.2.trans (hb1.mono HB.out.2.size))); replace HP := Lib.hid (IK.below HP.out hb1); clear hb1)
      | (go_at_call 33; with_reducible refine (rg_good L false HN.out.2.2.1 a n c0 HN.out.2.1 hn6 _ HB.out.1.li).mono ?_; rintro e W1 ⟨rfl, hb1⟩; replace HB := Lib.hid (And.intro (HB.out.1.below hb1) (HB.out.2.trans (hb1.mono HB.out.2.size))); replace HP := Lib.hid (IK.below HP.out hb1); clear hb1)
      | (go_at_call 36; with_reducible refine (sp_lives _).mono ?_; rintro e W1 ⟨rfl, hb1⟩; replace HB := Lib.hid (And.intro (HB.out.1.below hb1) (HB.out.2.trans (hb1.mono HB.out.2.size))); replace HP := Lib.hid (IK.below HP.out hb1); clear hb1))
    go_ret
    exact ⟨rfl, HB.out.2⟩
  | true =>
    have HN : Hid (z0.take 6 = L ∧ L.length = n ∧ goodB L = true ∧ Lg.least L = mm) := Lib.hid ⟨hL, hn, hg, hmm⟩
    cases hz : decide (Lg.least L = 0) with
    | true =>
      have HL := Lib.hid hz
      have hmz : (mm : Int) = 0 := by have := of_decide_eq_true hz; omega
      clear hL hn hg hs ht hF hmm hs6 hs3 hs1 hz
      go_enter Try.func8, Try.ntmps8
      go_upto_region 2 with (first
        | (go_at_call 30; with_reducible refine (fewm_first 6 (by omega) z0 L HN.out.1 n HN.out.2.1 a0 len0 cap0 HI.out.1 HI.out.2.1 6 rfl _ HI.out.2.2).mono ?_; rintro e W1 ⟨a, c0, rfl, ha, hb1⟩; have HB := Lib.hid (And.intro ha hb1); have HP := Lib.hid ha; clear ha hb1)
        | (go_at_call 31; with_reducible refine (cut_m a1 s 12 (by omega) w1 HS.out.1 12 rfl _).mono ?_; rintro e W1 ⟨rfl, hb1⟩; first | (replace HB := Lib.hid (And.intro (HB.out.1.below hb1) (HB.out.2.trans (hb1.mono HB.out.2.size))); replace HP := Lib.hid (IK.below HP.out hb1); clear hb1) | clear hb1))
      go_upto_region 3 with (first
        | (go_at_call 30; with_reducible refine (fewm_again 6 (by omega) L n HN.out.2.1 hnm a c0 6 rfl _ HB.out.1.ia).mono ?_; rintro e W1 ⟨p, cp, rfl, hp, hb1⟩; replace HB := Lib.hid (And.intro (HB.out.1.below hb1) (HB.out.2.trans (hb1.mono HB.out.2.size))); replace HP := Lib.hid (IK.below HP.out hb1); clear hb1; clear HP; have HP := Lib.hid hp; clear hp)
        | (go_at_call 37; with_reducible refine (sp_find_bad L (Or.inr ⟨HN.out.2.2.1, HL.out⟩) s n p cp HN.out.2.1 hn5 _ HP.out).mono ?_; rintro e W1 ⟨rfl, hb1⟩; replace HB := Lib.hid (And.intro (HB.out.1.below hb1) (HB.out.2.trans (hb1.mono HB.out.2.size))); replace HP := Lib.hid (IK.below HP.out hb1); clear hb1)
        | (go_at_call 38; with_reducible refine (sp_from_bad L (Or.inr ⟨HN.out.2.2.1, HL.out⟩) s a2 n p cp HN.out.2.1 hn5 _ HP.out.ia).mono ?_; rintro e W1 ⟨rfl, hb1⟩; replace HB := Lib.hid (And.intro (HB.out.1.below hb1) (HB.out.2.trans (hb1.mono HB.out.2.size))); replace HP := Lib.hid (IK.below HP.out hb1); clear hb1)
        | (go_at_call 33; with_reducible refine (rg_good L true HN.out.2.2.1 a n c0 HN.out.2.1 hn6 _ HB.out.1.li).mono ?_; rintro e W1 ⟨rfl, hb1⟩; replace HB := Lib.hid (And.intro (HB.out.1.below hb1) (HB.out.2.trans (hb1.mono HB.out.2.size))); replace HP := Lib.hid (IK.below HP.out hb1); clear hb1)
        | (go_at_call 39; with_reducible refine (rg_least L mm HN.out.2.2.2 n a c0 HN.out.2.1 hn6 _ HB.out.1.ia).mono ?_; rintro e W1 ⟨rfl, hb1⟩; replace HB := Lib.hid (And.intro (HB.out.1.below hb1) (HB.out.2.trans (hb1.mono HB.out.2.size))); replace HP := Lib.hid (IK.below HP.out hb1); clear hb1)
        | (go_at_call 36; with_reducible refine (sp_lives _).mono ?_; rintro e W1 ⟨rfl, hb1⟩; replace HB := Lib.hid (And.intro (HB.out.1.below hb1) (HB.out.2.trans (hb1.mono HB.out.2.size))); replace HP := Lib.hid (IK.below HP.out hb1); clear hb1))
      go_upto_region 4 with (first
        | (go_at_call 30; with_reducible refine (fewm_again 6 (by omega) L n HN.out.2.1 hnm a c0 6 rfl _ HB.out.1.ia).mono ?_; rintro e W1 ⟨p, cp, rfl, hp, hb1⟩; replace HB := Lib.hid (And.intro (HB.out.1.below hb1) (HB.out.2.trans (hb1.mono HB.out.2.size))); replace HP := Lib.hid (IK.below HP.out hb1); clear hb1; clear HP; have HP := Lib.hid hp; clear hp)
        | (go_at_call 37; with_reducible refine (sp_find_bad L (Or.inr ⟨HN.out.2.2.1, HL.out⟩) s n p cp HN.out.2.1 hn5 _ HP.out).mono ?_; rintro e W1 ⟨rfl, hb1⟩; replace HB := Lib.hid (And.intro (HB.out.1.below hb1) (HB.out.2.trans (hb1.mono HB.out.2.size))); replace HP := Lib.hid (IK.below HP.out hb1); clear hb1)
        | (go_at_call 38; with_reducible refine (sp_from_bad L (Or.inr ⟨HN.out.2.2.1, HL.out⟩) s a2 n p cp HN.out.2.1 hn5 _ HP.out.ia).mono ?_; rintro e W1 ⟨rfl, hb1⟩; replace HB := Lib.hid (And.intro (HB.out.1.below hb1) (HB.out.2.trans (hb1.mono HB.out.2.size))); replace HP := Lib.hid (IK.below HP.out hb1); clear hb1)
        | (go_at_call 33; with_reducible refine (rg_good L true HN.out.2.2.1 a n c0 HN.out.2.1 hn6 _ HB.out.1.li).mono ?_; rintro e W1 ⟨rfl, hb1⟩; replace HB := Lib.hid (And.intro (HB.out.1.below hb1) (HB.out.2.trans (hb1.mono HB.out.2.size))); replace HP := Lib.hid (IK.below HP.out hb1); clear hb1)
        | (go_at_call 39; with_reducible refine (rg_least L mm HN.out.2.2.2 n a c0 HN.out.2.1 hn6 _ HB.out.1.ia).mono ?_; rintro e W1 ⟨rfl, hb1⟩; replace HB := Lib.hid (And.intro (HB.out.1.below hb1) (HB.out.2.trans (hb1.mono HB.out.2.size))); replace HP := Lib.hid (IK.below HP.out hb1); clear hb1)
        | (go_at_call 36; with_reducible refine (sp_lives _).mono ?_; rintro e W1 ⟨rfl, hb1⟩; replace HB := Lib.hid (And.intro (HB.out.1.below hb1) (HB.out.2.trans (hb1.mono HB.out.2.size))); replace HP := Lib.hid (IK.below HP.out hb1); clear hb1))
      go_wp2_with (first
        | (go_at_call 37; with_reducible refine (sp_find_bad L (Or.inr ⟨HN.out.2.2.1, HL.out⟩) s n p cp HN.out.2.1 hn5 _ HP.out).mono ?_; rintro e W1 ⟨rfl, hb1⟩; replace HB := Lib.hid (And.intro (HB.out.1.below hb1) (HB.out.2.trans (hb1.mono HB.out.2.size))); replace HP := Lib.hid (IK.below HP.out hb1); clear hb1)
        | (go_at_call 38; with_reducible refine (sp_from_bad L (Or.inr ⟨HN.out.2.2.1, HL.out⟩) s a2 n p cp HN.out.2.1 hn5 _ HP.out.ia).mono ?_; rintro e W1 ⟨rfl, hb1⟩; replace HB := Lib.hid (And.intro (HB.out.1.below hb1) (HB.out.2.trans (hb1.mono HB.out.2.size))); replace HP := Lib.hid (IK.below HP.out hb1); clear hb1)
        | (go_at_call 33; with_reducible refine (rg_good L true HN.out.2.2.1 a n c0 HN.out.2.1 hn6 _ HB.out.1.li).mono ?_; rintro e W1 ⟨rfl, hb1⟩; replace HB := Lib.hid (And.intro (HB.out.1.below hb1) (HB.out.2.trans (hb1.mono HB.out.2.size))); replace HP := Lib.hid (IK.below HP.out hb1); clear hb1)
        | (go_at_call 39; with_reducible refine (rg_least L mm HN.out.2.2.2 n a c0 HN.out.2.1 hn6 _ HB.out.1.ia).mono ?_; rintro e W1 ⟨rfl, hb1⟩; replace HB := Lib.hid (And.intro (HB.out.1.below hb1) (HB.out.2.trans (hb1.mono HB.out.2.size))); replace HP := Lib.hid (IK.below HP.out hb1); clear hb1)
        | (go_at_call 36; with_reducible refine (sp_lives _).mono ?_; rintro e W1 ⟨rfl, hb1⟩; replace HB := Lib.hid (And.intro (HB.out.1.below hb1) (HB.out.2.trans (hb1.mono HB.out.2.size))); replace HP := Lib.hid (IK.below HP.out hb1); clear hb1))
      go_ret
      exact ⟨rfl, HB.out.2⟩
    | false =>
      have HL := Lib.hid hz
      have hmz : ¬ (mm : Int) = 0 := by have := of_decide_eq_false hz; omega
      have hmy : ((mm : Int) == 0) = false := by rw [beq_eq_false_iff_ne]; exact hmz
      have hs6 : s.size ≤ 1000000 := by omega
      clear hL hn hg hF hmm hs6' hs1 hz hs
      by_cases hto : a2 < 0 ∨ (s.size : Int) < a2
      · have HT := Lib.hid hto
        clear hto ht
        go_enter Try.func8, Try.ntmps8
        go_upto_region 2 with (first
          | (go_at_call 30; with_reducible refine (fewm_first 6 (by omega) z0 L HN.out.1 n HN.out.2.1 a0 len0 cap0 HI.out.1 HI.out.2.1 6 rfl _ HI.out.2.2).mono ?_; rintro e W1 ⟨a, c0, rfl, ha, hb1⟩; have HB := Lib.hid (And.intro ha hb1); have HP := Lib.hid ha; clear ha hb1)
          | (go_at_call 31; with_reducible refine (cut_m a1 s 12 (by omega) w1 HS.out.1 12 rfl _).mono ?_; rintro e W1 ⟨rfl, hb1⟩; first | (replace HB := Lib.hid (And.intro (HB.out.1.below hb1) (HB.out.2.trans (hb1.mono HB.out.2.size))); replace HP := Lib.hid (IK.below HP.out hb1); clear hb1) | clear hb1))
        go_upto_region 3 with (first
          | (go_at_call 30; with_reducible refine (fewm_again 6 (by omega) L n HN.out.2.1 hnm a c0 6 rfl _ HB.out.1.ia).mono ?_; rintro e W1 ⟨p, cp, rfl, hp, hb1⟩; replace HB := Lib.hid (And.intro (HB.out.1.below hb1) (HB.out.2.trans (hb1.mono HB.out.2.size))); replace HP := Lib.hid (IK.below HP.out hb1); clear hb1; clear HP; have HP := Lib.hid hp; clear hp)
          | (go_at_call 37; with_reducible refine (sp_find L HN.out.2.2.1 HL.out s t hs6 HS.out.2.1 n p cp HN.out.2.1 fr to_ ok HS.out.2.2 _ HP.out).mono ?_; rintro e W1 ⟨rfl, hb1⟩; replace HB := Lib.hid (And.intro (HB.out.1.below hb1) (HB.out.2.trans (hb1.mono HB.out.2.size))); replace HP := Lib.hid (IK.below HP.out hb1); clear hb1)
          | (go_at_call 38; with_reducible refine (sp_from_far L HN.out.2.2.1 HL.out s a2 HT.out n p cp HN.out.2.1 _ HP.out.ia).mono ?_; rintro e W1 ⟨rfl, hb1⟩; replace HB := Lib.hid (And.intro (HB.out.1.below hb1) (HB.out.2.trans (hb1.mono HB.out.2.size))); replace HP := Lib.hid (IK.below HP.out hb1); clear hb1)
          | (go_at_call 33; with_reducible refine (rg_good L true HN.out.2.2.1 a n c0 HN.out.2.1 hn6 _ HB.out.1.li).mono ?_; rintro e W1 ⟨rfl, hb1⟩; replace HB := Lib.hid (And.intro (HB.out.1.below hb1) (HB.out.2.trans (hb1.mono HB.out.2.size))); replace HP := Lib.hid (IK.below HP.out hb1); clear hb1)
          | (go_at_call 39; with_reducible refine (rg_least L mm HN.out.2.2.2 n a c0 HN.out.2.1 hn6 _ HB.out.1.ia).mono ?_; rintro e W1 ⟨rfl, hb1⟩; replace HB := Lib.hid (And.intro (HB.out.1.below hb1) (HB.out.2.trans (hb1.mono HB.out.2.size))); replace HP := Lib.hid (IK.below HP.out hb1); clear hb1)
          | (go_at_call 40; with_reducible refine (rg_first L s t hs3 HS.out.2.1 n a c0 HN.out.2.1 hn3 fr to_ ok HS.out.2.2 _ HB.out.1.ia).mono ?_; rintro e W1 ⟨rfl, hb1⟩; replace HB := Lib.hid (And.intro (HB.out.1.below hb1) (HB.out.2.trans (hb1.mono HB.out.2.size))); replace HP := Lib.hid (IK.below HP.out hb1); clear hb1)
          | (go_at_call 41; with_reducible refine (rg_starts_no s n a c0 a2 HT.out _).mono ?_; rintro e W1 ⟨r, cr, rfl, _, hb1⟩; replace HB := Lib.hid (And.intro (HB.out.1.below hb1) (HB.out.2.trans (hb1.mono HB.out.2.size))); replace HP := Lib.hid (IK.below HP.out hb1); clear hb1)
          | (go_at_call 36; with_reducible refine (sp_lives _).mono ?_; rintro e W1 ⟨rfl, hb1⟩; replace HB := Lib.hid (And.intro (HB.out.1.below hb1) (HB.out.2.trans (hb1.mono HB.out.2.size))); replace HP := Lib.hid (IK.below HP.out hb1); clear hb1))
        go_upto_region 4 with (first
          | (go_at_call 30; with_reducible refine (fewm_again 6 (by omega) L n HN.out.2.1 hnm a c0 6 rfl _ HB.out.1.ia).mono ?_; rintro e W1 ⟨p, cp, rfl, hp, hb1⟩; replace HB := Lib.hid (And.intro (HB.out.1.below hb1) (HB.out.2.trans (hb1.mono HB.out.2.size))); replace HP := Lib.hid (IK.below HP.out hb1); clear hb1; clear HP; have HP := Lib.hid hp; clear hp)
          | (go_at_call 37; with_reducible refine (sp_find L HN.out.2.2.1 HL.out s t hs6 HS.out.2.1 n p cp HN.out.2.1 fr to_ ok HS.out.2.2 _ HP.out).mono ?_; rintro e W1 ⟨rfl, hb1⟩; replace HB := Lib.hid (And.intro (HB.out.1.below hb1) (HB.out.2.trans (hb1.mono HB.out.2.size))); replace HP := Lib.hid (IK.below HP.out hb1); clear hb1)
          | (go_at_call 38; with_reducible refine (sp_from_far L HN.out.2.2.1 HL.out s a2 HT.out n p cp HN.out.2.1 _ HP.out.ia).mono ?_; rintro e W1 ⟨rfl, hb1⟩; replace HB := Lib.hid (And.intro (HB.out.1.below hb1) (HB.out.2.trans (hb1.mono HB.out.2.size))); replace HP := Lib.hid (IK.below HP.out hb1); clear hb1)
          | (go_at_call 33; with_reducible refine (rg_good L true HN.out.2.2.1 a n c0 HN.out.2.1 hn6 _ HB.out.1.li).mono ?_; rintro e W1 ⟨rfl, hb1⟩; replace HB := Lib.hid (And.intro (HB.out.1.below hb1) (HB.out.2.trans (hb1.mono HB.out.2.size))); replace HP := Lib.hid (IK.below HP.out hb1); clear hb1)
          | (go_at_call 39; with_reducible refine (rg_least L mm HN.out.2.2.2 n a c0 HN.out.2.1 hn6 _ HB.out.1.ia).mono ?_; rintro e W1 ⟨rfl, hb1⟩; replace HB := Lib.hid (And.intro (HB.out.1.below hb1) (HB.out.2.trans (hb1.mono HB.out.2.size))); replace HP := Lib.hid (IK.below HP.out hb1); clear hb1)
          | (go_at_call 40; with_reducible refine (rg_first L s t hs3 HS.out.2.1 n a c0 HN.out.2.1 hn3 fr to_ ok HS.out.2.2 _ HB.out.1.ia).mono ?_; rintro e W1 ⟨rfl, hb1⟩; replace HB := Lib.hid (And.intro (HB.out.1.below hb1) (HB.out.2.trans (hb1.mono HB.out.2.size))); replace HP := Lib.hid (IK.below HP.out hb1); clear hb1)
          | (go_at_call 41; with_reducible refine (rg_starts_no s n a c0 a2 HT.out _).mono ?_; rintro e W1 ⟨r, cr, rfl, _, hb1⟩; replace HB := Lib.hid (And.intro (HB.out.1.below hb1) (HB.out.2.trans (hb1.mono HB.out.2.size))); replace HP := Lib.hid (IK.below HP.out hb1); clear hb1)
          | (go_at_call 36; with_reducible refine (sp_lives _).mono ?_; rintro e W1 ⟨rfl, hb1⟩; replace HB := Lib.hid (And.intro (HB.out.1.below hb1) (HB.out.2.trans (hb1.mono HB.out.2.size))); replace HP := Lib.hid (IK.below HP.out hb1); clear hb1))
        go_wp2_with (first
          | (go_at_call 37; with_reducible refine (sp_find L HN.out.2.2.1 HL.out s t hs6 HS.out.2.1 n p cp HN.out.2.1 fr to_ ok HS.out.2.2 _ HP.out).mono ?_; rintro e W1 ⟨rfl, hb1⟩; replace HB := Lib.hid (And.intro (HB.out.1.below hb1) (HB.out.2.trans (hb1.mono HB.out.2.size))); replace HP := Lib.hid (IK.below HP.out hb1); clear hb1)
          | (go_at_call 38; with_reducible refine (sp_from_far L HN.out.2.2.1 HL.out s a2 HT.out n p cp HN.out.2.1 _ HP.out.ia).mono ?_; rintro e W1 ⟨rfl, hb1⟩; replace HB := Lib.hid (And.intro (HB.out.1.below hb1) (HB.out.2.trans (hb1.mono HB.out.2.size))); replace HP := Lib.hid (IK.below HP.out hb1); clear hb1)
          | (go_at_call 33; with_reducible refine (rg_good L true HN.out.2.2.1 a n c0 HN.out.2.1 hn6 _ HB.out.1.li).mono ?_; rintro e W1 ⟨rfl, hb1⟩; replace HB := Lib.hid (And.intro (HB.out.1.below hb1) (HB.out.2.trans (hb1.mono HB.out.2.size))); replace HP := Lib.hid (IK.below HP.out hb1); clear hb1)
          | (go_at_call 39; with_reducible refine (rg_least L mm HN.out.2.2.2 n a c0 HN.out.2.1 hn6 _ HB.out.1.ia).mono ?_; rintro e W1 ⟨rfl, hb1⟩; replace HB := Lib.hid (And.intro (HB.out.1.below hb1) (HB.out.2.trans (hb1.mono HB.out.2.size))); replace HP := Lib.hid (IK.below HP.out hb1); clear hb1)
          | (go_at_call 40; with_reducible refine (rg_first L s t hs3 HS.out.2.1 n a c0 HN.out.2.1 hn3 fr to_ ok HS.out.2.2 _ HB.out.1.ia).mono ?_; rintro e W1 ⟨rfl, hb1⟩; replace HB := Lib.hid (And.intro (HB.out.1.below hb1) (HB.out.2.trans (hb1.mono HB.out.2.size))); replace HP := Lib.hid (IK.below HP.out hb1); clear hb1)
          | (go_at_call 41; with_reducible refine (rg_starts_no s n a c0 a2 HT.out _).mono ?_; rintro e W1 ⟨r, cr, rfl, _, hb1⟩; replace HB := Lib.hid (And.intro (HB.out.1.below hb1) (HB.out.2.trans (hb1.mono HB.out.2.size))); replace HP := Lib.hid (IK.below HP.out hb1); clear hb1)
          | (go_at_call 36; with_reducible refine (sp_lives _).mono ?_; rintro e W1 ⟨rfl, hb1⟩; replace HB := Lib.hid (And.intro (HB.out.1.below hb1) (HB.out.2.trans (hb1.mono HB.out.2.size))); replace HP := Lib.hid (IK.below HP.out hb1); clear hb1))
        go_ret
        exact ⟨rfl, HB.out.2⟩
      · obtain ⟨k, rfl⟩ : ∃ k : Nat, a2 = (k : Int) := ⟨a2.toNat, by omega⟩
        have hk : k ≤ s.size := by omega
        obtain ⟨Y, hY⟩ : ∃ Y, Lg.starts L t k = Y := ⟨_, rfl⟩
        obtain ⟨ny, hny⟩ : ∃ ny, Y.length = ny := ⟨_, rfl⟩
        clear hto ht
        by_cases hy : ny = 0
        · have hY0 : Y = [] := List.length_eq_zero_iff.1 (by omega)
          have HT : Hid (k ≤ s.size ∧ Sp.fr L t k = (0, false) ∧ Lg.starts L t k = Y ∧ Y.length = ny ∧ True) := Lib.hid ⟨hk, by unfold Sp.fr; rw [hY, hY0]; rfl, hY, hny, trivial⟩
          clear hY hny hY0
          subst hy
          go_enter Try.func8, Try.ntmps8
          go_upto_region 2 with (first
            | (go_at_call 30; with_reducible refine (fewm_first 6 (by omega) z0 L HN.out.1 n HN.out.2.1 a0 len0 cap0 HI.out.1 HI.out.2.1 6 rfl _ HI.out.2.2).mono ?_; rintro e W1 ⟨a, c0, rfl, ha, hb1⟩; have HB := Lib.hid (And.intro ha hb1); have HP := Lib.hid ha; clear ha hb1)
            | (go_at_call 31; with_reducible refine (cut_m a1 s 12 (by omega) w1 HS.out.1 12 rfl _).mono ?_; rintro e W1 ⟨rfl, hb1⟩; first | (replace HB := Lib.hid (And.intro (HB.out.1.below hb1) (HB.out.2.trans (hb1.mono HB.out.2.size))); replace HP := Lib.hid (IK.below HP.out hb1); clear hb1) | clear hb1))
          go_upto_region 3 with (first
            | (go_at_call 30; with_reducible refine (fewm_again 6 (by omega) L n HN.out.2.1 hnm a c0 6 rfl _ HB.out.1.ia).mono ?_; rintro e W1 ⟨p, cp, rfl, hp, hb1⟩; replace HB := Lib.hid (And.intro (HB.out.1.below hb1) (HB.out.2.trans (hb1.mono HB.out.2.size))); replace HP := Lib.hid (IK.below HP.out hb1); clear hb1; clear HP; have HP := Lib.hid hp; clear hp)
            | (go_at_call 37; with_reducible refine (sp_find L HN.out.2.2.1 HL.out s t hs6 HS.out.2.1 n p cp HN.out.2.1 fr to_ ok HS.out.2.2 _ HP.out).mono ?_; rintro e W1 ⟨rfl, hb1⟩; replace HB := Lib.hid (And.intro (HB.out.1.below hb1) (HB.out.2.trans (hb1.mono HB.out.2.size))); replace HP := Lib.hid (IK.below HP.out hb1); clear hb1)
            | (go_at_call 38; with_reducible refine (sp_from L HN.out.2.2.1 HL.out s t hs6 HS.out.2.1 k HT.out.1 n p cp HN.out.2.1 0 false HT.out.2.1 _ HP.out.ia).mono ?_; rintro e W1 ⟨rfl, hb1⟩; replace HB := Lib.hid (And.intro (HB.out.1.below hb1) (HB.out.2.trans (hb1.mono HB.out.2.size))); replace HP := Lib.hid (IK.below HP.out hb1); clear hb1)
            | (go_at_call 33; with_reducible refine (rg_good L true HN.out.2.2.1 a n c0 HN.out.2.1 hn6 _ HB.out.1.li).mono ?_; rintro e W1 ⟨rfl, hb1⟩; replace HB := Lib.hid (And.intro (HB.out.1.below hb1) (HB.out.2.trans (hb1.mono HB.out.2.size))); replace HP := Lib.hid (IK.below HP.out hb1); clear hb1)
            | (go_at_call 39; with_reducible refine (rg_least L mm HN.out.2.2.2 n a c0 HN.out.2.1 hn6 _ HB.out.1.ia).mono ?_; rintro e W1 ⟨rfl, hb1⟩; replace HB := Lib.hid (And.intro (HB.out.1.below hb1) (HB.out.2.trans (hb1.mono HB.out.2.size))); replace HP := Lib.hid (IK.below HP.out hb1); clear hb1)
            | (go_at_call 40; with_reducible refine (rg_first L s t hs3 HS.out.2.1 n a c0 HN.out.2.1 hn3 fr to_ ok HS.out.2.2 _ HB.out.1.ia).mono ?_; rintro e W1 ⟨rfl, hb1⟩; replace HB := Lib.hid (And.intro (HB.out.1.below hb1) (HB.out.2.trans (hb1.mono HB.out.2.size))); replace HP := Lib.hid (IK.below HP.out hb1); clear hb1)
            | (go_at_call 41; with_reducible refine (rg_starts L s t hs3 HS.out.2.1 n a c0 HN.out.2.1 hn3 k HT.out.1 Y HT.out.2.2.1 _ HB.out.1.ia).mono ?_; rintro e W1 ⟨r, cr, rfl, _, hb1⟩; rw [HT.out.2.2.2.1]; replace HB := Lib.hid (And.intro (HB.out.1.below hb1) (HB.out.2.trans (hb1.mono HB.out.2.size))); replace HP := Lib.hid (IK.below HP.out hb1); clear hb1)
            | (go_at_call 36; with_reducible refine (sp_lives _).mono ?_; rintro e W1 ⟨rfl, hb1⟩; replace HB := Lib.hid (And.intro (HB.out.1.below hb1) (HB.out.2.trans (hb1.mono HB.out.2.size))); replace HP := Lib.hid (IK.below HP.out hb1); clear hb1))
          go_upto_region 4 with (first
            | (go_at_call 30; with_reducible refine (fewm_again 6 (by omega) L n HN.out.2.1 hnm a c0 6 rfl _ HB.out.1.ia).mono ?_; rintro e W1 ⟨p, cp, rfl, hp, hb1⟩; replace HB := Lib.hid (And.intro (HB.out.1.below hb1) (HB.out.2.trans (hb1.mono HB.out.2.size))); replace HP := Lib.hid (IK.below HP.out hb1); clear hb1; clear HP; have HP := Lib.hid hp; clear hp)
            | (go_at_call 37; with_reducible refine (sp_find L HN.out.2.2.1 HL.out s t hs6 HS.out.2.1 n p cp HN.out.2.1 fr to_ ok HS.out.2.2 _ HP.out).mono ?_; rintro e W1 ⟨rfl, hb1⟩; replace HB := Lib.hid (And.intro (HB.out.1.below hb1) (HB.out.2.trans (hb1.mono HB.out.2.size))); replace HP := Lib.hid (IK.below HP.out hb1); clear hb1)
            | (go_at_call 38; with_reducible refine (sp_from L HN.out.2.2.1 HL.out s t hs6 HS.out.2.1 k HT.out.1 n p cp HN.out.2.1 0 false HT.out.2.1 _ HP.out.ia).mono ?_; rintro e W1 ⟨rfl, hb1⟩; replace HB := Lib.hid (And.intro (HB.out.1.below hb1) (HB.out.2.trans (hb1.mono HB.out.2.size))); replace HP := Lib.hid (IK.below HP.out hb1); clear hb1)
            | (go_at_call 33; with_reducible refine (rg_good L true HN.out.2.2.1 a n c0 HN.out.2.1 hn6 _ HB.out.1.li).mono ?_; rintro e W1 ⟨rfl, hb1⟩; replace HB := Lib.hid (And.intro (HB.out.1.below hb1) (HB.out.2.trans (hb1.mono HB.out.2.size))); replace HP := Lib.hid (IK.below HP.out hb1); clear hb1)
            | (go_at_call 39; with_reducible refine (rg_least L mm HN.out.2.2.2 n a c0 HN.out.2.1 hn6 _ HB.out.1.ia).mono ?_; rintro e W1 ⟨rfl, hb1⟩; replace HB := Lib.hid (And.intro (HB.out.1.below hb1) (HB.out.2.trans (hb1.mono HB.out.2.size))); replace HP := Lib.hid (IK.below HP.out hb1); clear hb1)
            | (go_at_call 40; with_reducible refine (rg_first L s t hs3 HS.out.2.1 n a c0 HN.out.2.1 hn3 fr to_ ok HS.out.2.2 _ HB.out.1.ia).mono ?_; rintro e W1 ⟨rfl, hb1⟩; replace HB := Lib.hid (And.intro (HB.out.1.below hb1) (HB.out.2.trans (hb1.mono HB.out.2.size))); replace HP := Lib.hid (IK.below HP.out hb1); clear hb1)
            | (go_at_call 41; with_reducible refine (rg_starts L s t hs3 HS.out.2.1 n a c0 HN.out.2.1 hn3 k HT.out.1 Y HT.out.2.2.1 _ HB.out.1.ia).mono ?_; rintro e W1 ⟨r, cr, rfl, _, hb1⟩; rw [HT.out.2.2.2.1]; replace HB := Lib.hid (And.intro (HB.out.1.below hb1) (HB.out.2.trans (hb1.mono HB.out.2.size))); replace HP := Lib.hid (IK.below HP.out hb1); clear hb1)
            | (go_at_call 36; with_reducible refine (sp_lives _).mono ?_; rintro e W1 ⟨rfl, hb1⟩; replace HB := Lib.hid (And.intro (HB.out.1.below hb1) (HB.out.2.trans (hb1.mono HB.out.2.size))); replace HP := Lib.hid (IK.below HP.out hb1); clear hb1))
          go_wp2_with (first
            | (go_at_call 37; with_reducible refine (sp_find L HN.out.2.2.1 HL.out s t hs6 HS.out.2.1 n p cp HN.out.2.1 fr to_ ok HS.out.2.2 _ HP.out).mono ?_; rintro e W1 ⟨rfl, hb1⟩; replace HB := Lib.hid (And.intro (HB.out.1.below hb1) (HB.out.2.trans (hb1.mono HB.out.2.size))); replace HP := Lib.hid (IK.below HP.out hb1); clear hb1)
            | (go_at_call 38; with_reducible refine (sp_from L HN.out.2.2.1 HL.out s t hs6 HS.out.2.1 k HT.out.1 n p cp HN.out.2.1 0 false HT.out.2.1 _ HP.out.ia).mono ?_; rintro e W1 ⟨rfl, hb1⟩; replace HB := Lib.hid (And.intro (HB.out.1.below hb1) (HB.out.2.trans (hb1.mono HB.out.2.size))); replace HP := Lib.hid (IK.below HP.out hb1); clear hb1)
            | (go_at_call 33; with_reducible refine (rg_good L true HN.out.2.2.1 a n c0 HN.out.2.1 hn6 _ HB.out.1.li).mono ?_; rintro e W1 ⟨rfl, hb1⟩; replace HB := Lib.hid (And.intro (HB.out.1.below hb1) (HB.out.2.trans (hb1.mono HB.out.2.size))); replace HP := Lib.hid (IK.below HP.out hb1); clear hb1)
            | (go_at_call 39; with_reducible refine (rg_least L mm HN.out.2.2.2 n a c0 HN.out.2.1 hn6 _ HB.out.1.ia).mono ?_; rintro e W1 ⟨rfl, hb1⟩; replace HB := Lib.hid (And.intro (HB.out.1.below hb1) (HB.out.2.trans (hb1.mono HB.out.2.size))); replace HP := Lib.hid (IK.below HP.out hb1); clear hb1)
            | (go_at_call 40; with_reducible refine (rg_first L s t hs3 HS.out.2.1 n a c0 HN.out.2.1 hn3 fr to_ ok HS.out.2.2 _ HB.out.1.ia).mono ?_; rintro e W1 ⟨rfl, hb1⟩; replace HB := Lib.hid (And.intro (HB.out.1.below hb1) (HB.out.2.trans (hb1.mono HB.out.2.size))); replace HP := Lib.hid (IK.below HP.out hb1); clear hb1)
            | (go_at_call 41; with_reducible refine (rg_starts L s t hs3 HS.out.2.1 n a c0 HN.out.2.1 hn3 k HT.out.1 Y HT.out.2.2.1 _ HB.out.1.ia).mono ?_; rintro e W1 ⟨r, cr, rfl, _, hb1⟩; rw [HT.out.2.2.2.1]; replace HB := Lib.hid (And.intro (HB.out.1.below hb1) (HB.out.2.trans (hb1.mono HB.out.2.size))); replace HP := Lib.hid (IK.below HP.out hb1); clear hb1)
            | (go_at_call 36; with_reducible refine (sp_lives _).mono ?_; rintro e W1 ⟨rfl, hb1⟩; replace HB := Lib.hid (And.intro (HB.out.1.below hb1) (HB.out.2.trans (hb1.mono HB.out.2.size))); replace HP := Lib.hid (IK.below HP.out hb1); clear hb1))
          go_ret
          exact ⟨rfl, HB.out.2⟩
        · obtain ⟨y, hy0⟩ : ∃ y, Y[0]? = some y := ⟨_, List.getElem?_eq_getElem (by omega)⟩
          have HT : Hid (k ≤ s.size ∧ Sp.fr L t k = (y, true) ∧ Lg.starts L t k = Y ∧ Y.length = ny ∧ Y[0]? = some y) := Lib.hid ⟨hk, by
            unfold Sp.fr; rw [hY]
            cases Y with
            | nil => cases hy0
            | cons i r => simp at hy0; subst hy0; rfl, hY, hny, hy0⟩
          have ny0 : (0 : Int) < (ny : Int) := by omega
          have ny1 : 0 < ny := by omega
          clear hY hny hy0 hy
          go_enter Try.func8, Try.ntmps8
          go_upto_region 2 with (first
            | (go_at_call 30; with_reducible refine (fewm_first 6 (by omega) z0 L HN.out.1 n HN.out.2.1 a0 len0 cap0 HI.out.1 HI.out.2.1 6 rfl _ HI.out.2.2).mono ?_; rintro e W1 ⟨a, c0, rfl, ha, hb1⟩; have HB := Lib.hid (And.intro ha hb1); have HP := Lib.hid ha; clear ha hb1)
            | (go_at_call 31; with_reducible refine (cut_m a1 s 12 (by omega) w1 HS.out.1 12 rfl _).mono ?_; rintro e W1 ⟨rfl, hb1⟩; first | (replace HB := Lib.hid (And.intro (HB.out.1.below hb1) (HB.out.2.trans (hb1.mono HB.out.2.size))); replace HP := Lib.hid (IK.below HP.out hb1); clear hb1) | clear hb1))
          go_upto_region 3 with (first
            | (go_at_call 30; with_reducible refine (fewm_again 6 (by omega) L n HN.out.2.1 hnm a c0 6 rfl _ HB.out.1.ia).mono ?_; rintro e W1 ⟨p, cp, rfl, hp, hb1⟩; replace HB := Lib.hid (And.intro (HB.out.1.below hb1) (HB.out.2.trans (hb1.mono HB.out.2.size))); replace HP := Lib.hid (IK.below HP.out hb1); clear hb1; clear HP; have HP := Lib.hid hp; clear hp)
            | (go_at_call 37; with_reducible refine (sp_find L HN.out.2.2.1 HL.out s t hs6 HS.out.2.1 n p cp HN.out.2.1 fr to_ ok HS.out.2.2 _ HP.out).mono ?_; rintro e W1 ⟨rfl, hb1⟩; replace HB := Lib.hid (And.intro (HB.out.1.below hb1) (HB.out.2.trans (hb1.mono HB.out.2.size))); replace HP := Lib.hid (IK.below HP.out hb1); clear hb1)
            | (go_at_call 38; with_reducible refine (sp_from L HN.out.2.2.1 HL.out s t hs6 HS.out.2.1 k HT.out.1 n p cp HN.out.2.1 y true HT.out.2.1 _ HP.out.ia).mono ?_; rintro e W1 ⟨rfl, hb1⟩; replace HB := Lib.hid (And.intro (HB.out.1.below hb1) (HB.out.2.trans (hb1.mono HB.out.2.size))); replace HP := Lib.hid (IK.below HP.out hb1); clear hb1)
            | (go_at_call 33; with_reducible refine (rg_good L true HN.out.2.2.1 a n c0 HN.out.2.1 hn6 _ HB.out.1.li).mono ?_; rintro e W1 ⟨rfl, hb1⟩; replace HB := Lib.hid (And.intro (HB.out.1.below hb1) (HB.out.2.trans (hb1.mono HB.out.2.size))); replace HP := Lib.hid (IK.below HP.out hb1); clear hb1)
            | (go_at_call 39; with_reducible refine (rg_least L mm HN.out.2.2.2 n a c0 HN.out.2.1 hn6 _ HB.out.1.ia).mono ?_; rintro e W1 ⟨rfl, hb1⟩; replace HB := Lib.hid (And.intro (HB.out.1.below hb1) (HB.out.2.trans (hb1.mono HB.out.2.size))); replace HP := Lib.hid (IK.below HP.out hb1); clear hb1)
            | (go_at_call 40; with_reducible refine (rg_first L s t hs3 HS.out.2.1 n a c0 HN.out.2.1 hn3 fr to_ ok HS.out.2.2 _ HB.out.1.ia).mono ?_; rintro e W1 ⟨rfl, hb1⟩; replace HB := Lib.hid (And.intro (HB.out.1.below hb1) (HB.out.2.trans (hb1.mono HB.out.2.size))); replace HP := Lib.hid (IK.below HP.out hb1); clear hb1)
            | (go_at_call 41; with_reducible refine (rg_starts L s t hs3 HS.out.2.1 n a c0 HN.out.2.1 hn3 k HT.out.1 Y HT.out.2.2.1 _ HB.out.1.ia).mono ?_; rintro e W1 ⟨r, cr, rfl, k1, hb1⟩; rw [HT.out.2.2.2.1]; obtain ⟨gy, rfl, hgy, cy⟩ := nv_head k1 HT.out.2.2.2.2; clear k1 hgy; replace HB := Lib.hid (And.intro (HB.out.1.below hb1) (HB.out.2.trans (hb1.mono HB.out.2.size))); replace HP := Lib.hid (IK.below HP.out hb1); clear hb1)
            | (go_at_call 36; with_reducible refine (sp_lives _).mono ?_; rintro e W1 ⟨rfl, hb1⟩; replace HB := Lib.hid (And.intro (HB.out.1.below hb1) (HB.out.2.trans (hb1.mono HB.out.2.size))); replace HP := Lib.hid (IK.below HP.out hb1); clear hb1))
          go_upto_region 4 with (first
            | (go_at_call 30; with_reducible refine (fewm_again 6 (by omega) L n HN.out.2.1 hnm a c0 6 rfl _ HB.out.1.ia).mono ?_; rintro e W1 ⟨p, cp, rfl, hp, hb1⟩; replace HB := Lib.hid (And.intro (HB.out.1.below hb1) (HB.out.2.trans (hb1.mono HB.out.2.size))); replace HP := Lib.hid (IK.below HP.out hb1); clear hb1; clear HP; have HP := Lib.hid hp; clear hp)
            | (go_at_call 37; with_reducible refine (sp_find L HN.out.2.2.1 HL.out s t hs6 HS.out.2.1 n p cp HN.out.2.1 fr to_ ok HS.out.2.2 _ HP.out).mono ?_; rintro e W1 ⟨rfl, hb1⟩; replace HB := Lib.hid (And.intro (HB.out.1.below hb1) (HB.out.2.trans (hb1.mono HB.out.2.size))); replace HP := Lib.hid (IK.below HP.out hb1); clear hb1)
            | (go_at_call 38; with_reducible refine (sp_from L HN.out.2.2.1 HL.out s t hs6 HS.out.2.1 k HT.out.1 n p cp HN.out.2.1 y true HT.out.2.1 _ HP.out.ia).mono ?_; rintro e W1 ⟨rfl, hb1⟩; replace HB := Lib.hid (And.intro (HB.out.1.below hb1) (HB.out.2.trans (hb1.mono HB.out.2.size))); replace HP := Lib.hid (IK.below HP.out hb1); clear hb1)
            | (go_at_call 33; with_reducible refine (rg_good L true HN.out.2.2.1 a n c0 HN.out.2.1 hn6 _ HB.out.1.li).mono ?_; rintro e W1 ⟨rfl, hb1⟩; replace HB := Lib.hid (And.intro (HB.out.1.below hb1) (HB.out.2.trans (hb1.mono HB.out.2.size))); replace HP := Lib.hid (IK.below HP.out hb1); clear hb1)
            | (go_at_call 39; with_reducible refine (rg_least L mm HN.out.2.2.2 n a c0 HN.out.2.1 hn6 _ HB.out.1.ia).mono ?_; rintro e W1 ⟨rfl, hb1⟩; replace HB := Lib.hid (And.intro (HB.out.1.below hb1) (HB.out.2.trans (hb1.mono HB.out.2.size))); replace HP := Lib.hid (IK.below HP.out hb1); clear hb1)
            | (go_at_call 40; with_reducible refine (rg_first L s t hs3 HS.out.2.1 n a c0 HN.out.2.1 hn3 fr to_ ok HS.out.2.2 _ HB.out.1.ia).mono ?_; rintro e W1 ⟨rfl, hb1⟩; replace HB := Lib.hid (And.intro (HB.out.1.below hb1) (HB.out.2.trans (hb1.mono HB.out.2.size))); replace HP := Lib.hid (IK.below HP.out hb1); clear hb1)
            | (go_at_call 41; with_reducible refine (rg_starts L s t hs3 HS.out.2.1 n a c0 HN.out.2.1 hn3 k HT.out.1 Y HT.out.2.2.1 _ HB.out.1.ia).mono ?_; rintro e W1 ⟨r, cr, rfl, k1, hb1⟩; rw [HT.out.2.2.2.1]; obtain ⟨gy, rfl, hgy, cy⟩ := nv_head k1 HT.out.2.2.2.2; clear k1 hgy; replace HB := Lib.hid (And.intro (HB.out.1.below hb1) (HB.out.2.trans (hb1.mono HB.out.2.size))); replace HP := Lib.hid (IK.below HP.out hb1); clear hb1)
            | (go_at_call 36; with_reducible refine (sp_lives _).mono ?_; rintro e W1 ⟨rfl, hb1⟩; replace HB := Lib.hid (And.intro (HB.out.1.below hb1) (HB.out.2.trans (hb1.mono HB.out.2.size))); replace HP := Lib.hid (IK.below HP.out hb1); clear hb1))
          go_wp2_with (first
            | (go_at_call 37; with_reducible refine (sp_find L HN.out.2.2.1 HL.out s t hs6 HS.out.2.1 n p cp HN.out.2.1 fr to_ ok HS.out.2.2 _ HP.out).mono ?_; rintro e W1 ⟨rfl, hb1⟩; replace HB := Lib.hid (And.intro (HB.out.1.below hb1) (HB.out.2.trans (hb1.mono HB.out.2.size))); replace HP := Lib.hid (IK.below HP.out hb1); clear hb1)
            | (go_at_call 38; with_reducible refine (sp_from L HN.out.2.2.1 HL.out s t hs6 HS.out.2.1 k HT.out.1 n p cp HN.out.2.1 y true HT.out.2.1 _ HP.out.ia).mono ?_; rintro e W1 ⟨rfl, hb1⟩; replace HB := Lib.hid (And.intro (HB.out.1.below hb1) (HB.out.2.trans (hb1.mono HB.out.2.size))); replace HP := Lib.hid (IK.below HP.out hb1); clear hb1)
            | (go_at_call 33; with_reducible refine (rg_good L true HN.out.2.2.1 a n c0 HN.out.2.1 hn6 _ HB.out.1.li).mono ?_; rintro e W1 ⟨rfl, hb1⟩; replace HB := Lib.hid (And.intro (HB.out.1.below hb1) (HB.out.2.trans (hb1.mono HB.out.2.size))); replace HP := Lib.hid (IK.below HP.out hb1); clear hb1)
            | (go_at_call 39; with_reducible refine (rg_least L mm HN.out.2.2.2 n a c0 HN.out.2.1 hn6 _ HB.out.1.ia).mono ?_; rintro e W1 ⟨rfl, hb1⟩; replace HB := Lib.hid (And.intro (HB.out.1.below hb1) (HB.out.2.trans (hb1.mono HB.out.2.size))); replace HP := Lib.hid (IK.below HP.out hb1); clear hb1)
            | (go_at_call 40; with_reducible refine (rg_first L s t hs3 HS.out.2.1 n a c0 HN.out.2.1 hn3 fr to_ ok HS.out.2.2 _ HB.out.1.ia).mono ?_; rintro e W1 ⟨rfl, hb1⟩; replace HB := Lib.hid (And.intro (HB.out.1.below hb1) (HB.out.2.trans (hb1.mono HB.out.2.size))); replace HP := Lib.hid (IK.below HP.out hb1); clear hb1)
            | (go_at_call 41; with_reducible refine (rg_starts L s t hs3 HS.out.2.1 n a c0 HN.out.2.1 hn3 k HT.out.1 Y HT.out.2.2.1 _ HB.out.1.ia).mono ?_; rintro e W1 ⟨r, cr, rfl, k1, hb1⟩; rw [HT.out.2.2.2.1]; obtain ⟨gy, rfl, hgy, cy⟩ := nv_head k1 HT.out.2.2.2.2; clear k1 hgy; replace HB := Lib.hid (And.intro (HB.out.1.below hb1) (HB.out.2.trans (hb1.mono HB.out.2.size))); replace HP := Lib.hid (IK.below HP.out hb1); clear hb1)
            | (go_at_call 36; with_reducible refine (sp_lives _).mono ?_; rintro e W1 ⟨rfl, hb1⟩; replace HB := Lib.hid (And.intro (HB.out.1.below hb1) (HB.out.2.trans (hb1.mono HB.out.2.size))); replace HP := Lib.hid (IK.below HP.out hb1); clear hb1))
          go_ret
          exact ⟨rfl, HB.out.2⟩

set_option maxRecDepth 100000 in
theorem lifted (os : Os) (started : os.Started) (H : Type) (enc : TypeId × Value → H) :
    ReturnsInHanded {} Try.checked os 8 .any (Rows.spanFindsSpec.pre6 enc Try.prog Try.f8 Rows.spanFindsRow.domain false) (Rows.spanFindsSpec.post enc Try.prog Try.f8 false true false false) := by
  refine returnsInHanded_of_change (C := Try.checked) ownKn started (by kernel_rfl) Try.func8
    (ChangeSpec.witness6 (enc := enc) (C := Try.checked) false ⟨#[], #[.slice none 0 0, .string ByteArray.empty, .int .i64 0], []⟩ 8 (by kernel_rfl) (by kernel_rfl) (by kernel_rfl) (by kernel_rfl)) ?_
  intro W base args ds gs before hval0 hW hcnd _
  have hval : ∀ (j : Nat) t v, Try.f8.params[j]? = some t → args[j]? = some v → Value.okWide Try.prog W .any base t v := hval0
  have hW' := hW
  obtain ⟨p, q, hA0, hV, rfl, hfz, hnd⟩ := hW
  have hA : DataW.TrodAll enc Try.prog W 0 (fun _ => true) true Try.f8.params.toList args.toList ds p := hA0
  rw [Try.params8] at hA hval
  obtain ⟨v0, vs0, d0, ds0, p0, q0, hargs, rfl, rfl, h0, r0⟩ := trodAll_cons hA
  obtain ⟨v1, vs1, d1, ds1, p1, q1, rfl, rfl, rfl, h1, r1⟩ := trodAll_cons r0
  obtain ⟨v2, vs2, d2, ds2, p2, q2, rfl, rfl, rfl, h2, r2⟩ := trodAll_cons r1
  obtain ⟨rfl, rfl, rfl⟩ := trodAll_nil r2
  obtain rfl : args = #[v0, v1, v2] := by cases args; simp_all
  obtain ⟨rfl, rfl⟩ := trodVars_none hV
  have k0 := h0
  have lt0 : ∀ x ∈ p0, x.block < W.heap.size := by obtain ⟨m, hm⟩ := k0; exact DataW.trod_lt m _ _ _ hm
  obtain ⟨b0, lb0, cb0, rfl⟩ := okWide_slice Try.underlying54 (hval 0 54 v0 rfl rfl)
  obtain ⟨fu0, hf0⟩ := h0
  simp only [Value.cells] at hf0
  obtain ⟨a0, len0, cap0, z0, e0, w0⟩ := fld_items hf0
  obtain ⟨rfl, rfl, rfl⟩ : b0 = a0 ∧ lb0 = len0 ∧ cb0 = cap0 := by simpa using e0
  have k1 := h1
  have lt1 : ∀ x ∈ p1, x.block < W.heap.size := by obtain ⟨m, hm⟩ := k1; exact DataW.trod_lt m _ _ _ hm
  obtain ⟨a1, rfl, rfl, rfl, w1⟩ := open_string Try.underlying9 (hval 1 9 v1 rfl rfl) h1
  have k2 := h2
  have lt2 : ∀ x ∈ p2, x.block < W.heap.size := by obtain ⟨m, hm⟩ := k2; exact DataW.trod_lt m _ _ _ hm
  obtain ⟨a2, rfl, rfl, rfl, w2⟩ := open_int Try.underlying3 (hval 2 3 v2 rfl rfl) h2
  clear hA0 hval0
  refine (walk b0 lb0 cb0 z0 a1 a2 W w0 w1 w2).mono fun e W' ⟨he, bel⟩ => ?_
  subst he
  exact ⟨_, rfl, _, _, _, [], _, [], hW', trodAll_mk1 (shut_bool Try.underlying4 _), (trodAll_cons_mk (Below.trod laidOut (by kernel_rfl) (of_decide_eq_true (by kernel_rfl)) k0 bel lt0) (trodAll_cons_mk (Below.trod laidOut (by kernel_rfl) (of_decide_eq_true (by kernel_rfl)) k1 bel lt1) (trodAll_cons_mk (Below.trod laidOut (by kernel_rfl) (of_decide_eq_true (by kernel_rfl)) k2 bel lt2) trodAll_mk0))), rfl, bel.frame _, fun h => by cases h⟩

theorem over : Rows.spanFindsRow.holds Try.pinned (OpenSpec.ofChange Rows.spanFindsSpec) :=
  OpenClaim.holds_of_wide 8 Try.f8 rfl rfl rfl rfl rfl rfl rfl ⟨rfl, rfl, rfl, rfl, rfl⟩ rfl rfl rfl rfl rfl (by kernel_rfl) Try.func8 (by kernel_rfl)
    (of_decide_eq_true (by kernel_rfl)) (by unfold Func.isWrapper; first | (rw [if_pos (by decide +kernel)]; kernel_rfl) | (rw [if_neg (by decide +kernel)]; exact ⟨rfl, rfl⟩))
    (fun os started H enc _ => lifted os started H enc)

/-- The statement. -/
theorem proved : Rows.SpanFindsSaid := over
#print axioms proved
end Go.Proofs.Ytopiiehdgknmgaa.spanFinds
