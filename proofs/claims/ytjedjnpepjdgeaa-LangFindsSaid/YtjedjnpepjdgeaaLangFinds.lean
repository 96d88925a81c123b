/- P8.2: for every pattern, text (somewhat cut) and place: where it occurs, and where first, is as the page says. No condition. -/
import Derived.Test.YtjedjnpepjdgeaaOpen
import Derived.WalkKit
import Derived.ProofKit
import Derived.OpenShut
import Derived.Test.YtjedjnpepjdgeaaLg16
namespace Go.Proofs.Ytjedjnpepjdgeaa.langFinds
open Go.Joins Go.ChangeShapes Go.WideShapes Go.ChangeAt Go.RowKit Go.Deep
open Go.ChangeMaps (open_string)
set_option linter.unusedSimpArgs false
set_option linter.unusedVariables false

theorem lg_starts_no2 (s : ByteArray) (n : Nat) (a : Option Addr) (c : Nat) (tt : Int) (htt : tt < 0 ∨ (s.size : Int) < tt) (w : World) :
    Calls Try.prog 31 #[.slice a n c, .string s, .int .i64 tt] w fun e w' => ∃ a' c', e = .returned (.slice a' 0 c') ∧ NV w' a' [] ∧ Below w.heap.size w w' := by
  refine (lg_starts_no s n a c tt htt w).mono ?_
  rintro e w' ⟨rfl, rfl⟩
  exact ⟨none, 0, rfl, Or.inl rfl, Below.refl _ _⟩
set_option maxRecDepth 20000 in
set_option maxHeartbeats 16000000 in

theorem walk (a0 : Option Addr) (len0 cap0 : Nat) (z0 : List (Bool × BitVec 256)) (a1 : ByteArray) (a2 : Int) (w : World) (w0 : IsIt w a0 len0 cap0 z0) (w1 : a1.size ≤ maxLen) (w2 : (Lit.int .i64 a2).wf = true) :
    Calls Try.prog 4 #[.slice a0 len0 cap0, .string a1, .int .i64 a2] w fun e w' => e = .returned (.bool true) ∧ Below w.heap.size w w' := by
  obtain ⟨L, hL⟩ : ∃ L, z0.take 6 = L := ⟨_, rfl⟩
  obtain ⟨n, hn⟩ : ∃ n, L.length = n := ⟨_, rfl⟩
  have hnm : n ≤ 6 := by rw [← hn, ← hL, List.length_take]; omega
  have hn6 : n ≤ 1000000 := by omega
  have hn3 : n ≤ 1000 := by omega
  have HI := Lib.hid (items_in w0)
  obtain ⟨s, hs⟩ : ∃ s, cutT a1 12 = s := ⟨_, rfl⟩
  have hs6 : s.size ≤ 12 := by rw [← hs]; exact cutT_le _ _
  have hs3 : s.size ≤ 1000 := by omega
  have hs1 : s.size ≤ 1000000 := by omega
  obtain ⟨t, ht⟩ : ∃ t, s.data.toList = t := ⟨_, rfl⟩
  obtain ⟨N, hN⟩ : ∃ N, s.size = N := ⟨_, rfl⟩
  obtain ⟨fr, to_, ok, hF⟩ : ∃ x y z, Lg.firstR L t = (x, y, z) := ⟨_, _, _, rfl⟩
  obtain ⟨Z, hZe⟩ : ∃ Z, Lg.en L t (t.length + 1) = Z := ⟨_, rfl⟩
  have hNt : t.length = N := by rw [← ht]; simpa using hN
  have hZ : Z.length ≤ 2000000 := by
    rw [← hZe]
    have := List.length_filter_le (Lg.occ L t) (List.range (t.length + 1))
    unfold Lg.en
    simp at this ⊢; omega
  have HS : Hid (cutT a1 12 = s ∧ s.data.toList = t ∧ Lg.firstR L t = (fr, to_, ok) ∧ Lg.en L t (t.length + 1) = Z) := Lib.hid ⟨hs, ht, hF, hZe⟩
  cases hg : goodB L with
  | false =>
    have HN : Hid (z0.take 6 = L ∧ L.length = n ∧ goodB L = false) := Lib.hid ⟨hL, hn, hg⟩
    clear hL hn hg hs ht hF hZe hNt hZ
    go_enter Try.func4, Try.ntmps4
    go_wp2_with (first
      | (go_at_call 15; with_reducible refine (fewm_first 6 (by omega) z0 L HN.out.1 n HN.out.2.1 a0 len0 cap0 HI.out.1 HI.out.2.1 6 rfl _ HI.out.2.2).mono ?_; rintro e W1 ⟨a, c0, rfl, ha, hb1⟩; have HB := Lib.hid (And.intro ha hb1); have HP := Lib.hid ha; clear ha hb1)
      | (go_at_call 16; with_reducible refine (cut_m a1 s 12 (by omega) w1 HS.out.1 12 rfl _).mono ?_; rintro e W1 ⟨rfl, hb1⟩; first | (replace HB := Lib.hid (And.intro (HB.out.1.below hb1) (HB.out.2.trans (hb1.mono HB.out.2.size))); replace HP := Lib.hid (IK.below HP.out hb1); clear hb1) | clear hb1)
      | (go_at_call 17; with_reducible refine (rg_good L false HN.out.2.2 a n c0 HN.out.2.1 hn6 _ HB.out.1.li).mono ?_; rintro e W1 ⟨rfl, hb1⟩; replace HB := Lib.hid (And.intro (HB.out.1.below hb1) (HB.out.2.trans (hb1.mono HB.out.2.size))); replace HP := Lib.hid (IK.below HP.out hb1); clear hb1)
      | (go_at_call 18; with_reducible refine (lg_lives _).mono ?_; rintro e W1 ⟨rfl, hb1⟩; replace HB := Lib.hid (And.intro (HB.out.1.below hb1) (HB.out.2.trans (hb1.mono HB.out.2.size))); replace HP := Lib.hid (IK.below HP.out hb1); clear hb1))
    go_ret
    exact ⟨rfl, HB.out.2⟩
  | true =>
    have HN : Hid (z0.take 6 = L ∧ L.length = n ∧ goodB L = true) := Lib.hid ⟨hL, hn, hg⟩
    by_cases hto : a2 < 0 ∨ (s.size : Int) < a2
    · have HT := Lib.hid hto
      clear hL hn hg hs ht hF hZe hNt hto
      go_enter Try.func4, Try.ntmps4
      go_upto_region 4 with (first
        | (go_at_call 15; with_reducible refine (fewm_first 6 (by omega) z0 L HN.out.1 n HN.out.2.1 a0 len0 cap0 HI.out.1 HI.out.2.1 6 rfl _ HI.out.2.2).mono ?_; rintro e W1 ⟨a, c0, rfl, ha, hb1⟩; have HB := Lib.hid (And.intro ha hb1); have HP := Lib.hid ha; have HQ : Hid (NV W1 none []) := Lib.hid (NV.nil W1); have HR : Hid (NV W1 none []) := Lib.hid (NV.nil W1); clear ha hb1)
        | (go_at_call 16; with_reducible refine (cut_m a1 s 12 (by omega) w1 HS.out.1 12 rfl _).mono ?_; rintro e W1 ⟨rfl, hb1⟩; first | (replace HB := Lib.hid (And.intro (HB.out.1.below hb1) (HB.out.2.trans (hb1.mono HB.out.2.size))); replace HP := Lib.hid (IK.below HP.out hb1); replace HQ := Lib.hid (NV.below HQ.out hb1); replace HR := Lib.hid (NV.below HR.out hb1); clear hb1) | clear hb1)
        | (go_at_call 17; with_reducible refine (rg_good L true HN.out.2.2 a n c0 HN.out.2.1 hn6 _ HB.out.1.li).mono ?_; rintro e W1 ⟨rfl, hb1⟩; replace HB := Lib.hid (And.intro (HB.out.1.below hb1) (HB.out.2.trans (hb1.mono HB.out.2.size))); replace HP := Lib.hid (IK.below HP.out hb1); replace HQ := Lib.hid (NV.below HQ.out hb1); replace HR := Lib.hid (NV.below HR.out hb1); clear hb1)
        | (go_at_call 26; with_reducible refine (lg_first L s t hs1 HS.out.2.1 n p cp HN.out.2.1 hn6 fr to_ ok HS.out.2.2.1 _ HP.out.ij).mono ?_; rintro e W1 ⟨rfl, hb1⟩; replace HB := Lib.hid (And.intro (HB.out.1.below hb1) (HB.out.2.trans (hb1.mono HB.out.2.size))); replace HP := Lib.hid (IK.below HP.out hb1); replace HQ := Lib.hid (NV.below HQ.out hb1); replace HR := Lib.hid (NV.below HR.out hb1); clear hb1)
        | (go_at_call 27; with_reducible refine (rg_first L s t hs3 HS.out.2.1 n a c0 HN.out.2.1 hn3 fr to_ ok HS.out.2.2.1 _ HB.out.1.ia).mono ?_; rintro e W1 ⟨rfl, hb1⟩; replace HB := Lib.hid (And.intro (HB.out.1.below hb1) (HB.out.2.trans (hb1.mono HB.out.2.size))); replace HP := Lib.hid (IK.below HP.out hb1); replace HQ := Lib.hid (NV.below HQ.out hb1); replace HR := Lib.hid (NV.below HR.out hb1); clear hb1)
        | (go_at_call 29; with_reducible refine (lg_ends L s t hs1 HS.out.2.1 n p cp HN.out.2.1 hn6 Z HS.out.2.2.2 _ HP.out.ia).mono ?_; rintro e W1 ⟨q, cq, rfl, k1, hb1⟩; replace HB := Lib.hid (And.intro (HB.out.1.below hb1) (HB.out.2.trans (hb1.mono HB.out.2.size))); replace HP := Lib.hid (IK.below HP.out hb1); replace HQ := Lib.hid (NV.below HQ.out hb1); replace HR := Lib.hid (NV.below HR.out hb1); clear hb1; clear HQ; have HQ := Lib.hid k1; clear k1)
        | (go_at_call 30; with_reducible refine (rg_ends L s t hs3 HS.out.2.1 n a c0 HN.out.2.1 hn3 Z HS.out.2.2.2 _ HB.out.1.ia).mono ?_; rintro e W1 ⟨r, cr, rfl, k1, hb1⟩; replace HB := Lib.hid (And.intro (HB.out.1.below hb1) (HB.out.2.trans (hb1.mono HB.out.2.size))); replace HP := Lib.hid (IK.below HP.out hb1); replace HQ := Lib.hid (NV.below HQ.out hb1); replace HR := Lib.hid (NV.below HR.out hb1); clear hb1; clear HR; have HR := Lib.hid k1; clear k1)
        | (go_at_call 28; with_reducible refine (same_nv Z Z.length rfl hZ q r _ _ _ HQ.out HR.out).mono ?_; rintro e W1 ⟨rfl, hb1⟩; replace HB := Lib.hid (And.intro (HB.out.1.below hb1) (HB.out.2.trans (hb1.mono HB.out.2.size))); replace HP := Lib.hid (IK.below HP.out hb1); replace HQ := Lib.hid (NV.below HQ.out hb1); replace HR := Lib.hid (NV.below HR.out hb1); clear hb1)
        | (go_at_call 31; with_reducible refine (lg_starts_no2 s n p cp a2 HT.out _).mono ?_; rintro e W1 ⟨q, cq, rfl, k1, hb1⟩; replace HB := Lib.hid (And.intro (HB.out.1.below hb1) (HB.out.2.trans (hb1.mono HB.out.2.size))); replace HP := Lib.hid (IK.below HP.out hb1); replace HQ := Lib.hid (NV.below HQ.out hb1); replace HR := Lib.hid (NV.below HR.out hb1); clear hb1; clear HQ; have HQ := Lib.hid k1; clear k1)
        | (go_at_call 32; with_reducible refine (rg_starts_no s n a c0 a2 HT.out _).mono ?_; rintro e W1 ⟨r, cr, rfl, k1, hb1⟩; replace HB := Lib.hid (And.intro (HB.out.1.below hb1) (HB.out.2.trans (hb1.mono HB.out.2.size))); replace HP := Lib.hid (IK.below HP.out hb1); replace HQ := Lib.hid (NV.below HQ.out hb1); replace HR := Lib.hid (NV.below HR.out hb1); clear hb1; clear HR; have HR := Lib.hid k1; clear k1)
        | (go_at_call 28; with_reducible refine (same_nv [] 0 rfl (by omega) q r _ _ _ HQ.out HR.out).mono ?_; rintro e W1 ⟨rfl, hb1⟩; replace HB := Lib.hid (And.intro (HB.out.1.below hb1) (HB.out.2.trans (hb1.mono HB.out.2.size))); replace HP := Lib.hid (IK.below HP.out hb1); replace HQ := Lib.hid (NV.below HQ.out hb1); replace HR := Lib.hid (NV.below HR.out hb1); clear hb1)
        | (go_at_call 18; with_reducible refine (lg_lives _).mono ?_; rintro e W1 ⟨rfl, hb1⟩; replace HB := Lib.hid (And.intro (HB.out.1.below hb1) (HB.out.2.trans (hb1.mono HB.out.2.size))); replace HP := Lib.hid (IK.below HP.out hb1); replace HQ := Lib.hid (NV.below HQ.out hb1); replace HR := Lib.hid (NV.below HR.out hb1); clear hb1))
      go_upto_region 5 with (first
        | (go_at_call 15; with_reducible refine (fewm_again 6 (by omega) L n HN.out.2.1 hnm a c0 6 rfl _ HB.out.1.ia).mono ?_; rintro e W1 ⟨p, cp, rfl, hp, hb1⟩; replace HB := Lib.hid (And.intro (HB.out.1.below hb1) (HB.out.2.trans (hb1.mono HB.out.2.size))); replace HP := Lib.hid (IK.below HP.out hb1); replace HQ := Lib.hid (NV.below HQ.out hb1); replace HR := Lib.hid (NV.below HR.out hb1); clear hb1; clear HP; have HP := Lib.hid hp; clear hp)
        | (go_at_call 16; with_reducible refine (cut_m a1 s 12 (by omega) w1 HS.out.1 12 rfl _).mono ?_; rintro e W1 ⟨rfl, hb1⟩; first | (replace HB := Lib.hid (And.intro (HB.out.1.below hb1) (HB.out.2.trans (hb1.mono HB.out.2.size))); replace HP := Lib.hid (IK.below HP.out hb1); replace HQ := Lib.hid (NV.below HQ.out hb1); replace HR := Lib.hid (NV.below HR.out hb1); clear hb1) | clear hb1)
        | (go_at_call 17; with_reducible refine (rg_good L true HN.out.2.2 a n c0 HN.out.2.1 hn6 _ HB.out.1.li).mono ?_; rintro e W1 ⟨rfl, hb1⟩; replace HB := Lib.hid (And.intro (HB.out.1.below hb1) (HB.out.2.trans (hb1.mono HB.out.2.size))); replace HP := Lib.hid (IK.below HP.out hb1); replace HQ := Lib.hid (NV.below HQ.out hb1); replace HR := Lib.hid (NV.below HR.out hb1); clear hb1)
        | (go_at_call 26; with_reducible refine (lg_first L s t hs1 HS.out.2.1 n p cp HN.out.2.1 hn6 fr to_ ok HS.out.2.2.1 _ HP.out.ij).mono ?_; rintro e W1 ⟨rfl, hb1⟩; replace HB := Lib.hid (And.intro (HB.out.1.below hb1) (HB.out.2.trans (hb1.mono HB.out.2.size))); replace HP := Lib.hid (IK.below HP.out hb1); replace HQ := Lib.hid (NV.below HQ.out hb1); replace HR := Lib.hid (NV.below HR.out hb1); clear hb1)
        | (go_at_call 27; with_reducible refine (rg_first L s t hs3 HS.out.2.1 n a c0 HN.out.2.1 hn3 fr to_ ok HS.out.2.2.1 _ HB.out.1.ia).mono ?_; rintro e W1 ⟨rfl, hb1⟩; replace HB := Lib.hid (And.intro (HB.out.1.below hb1) (HB.out.2.trans (hb1.mono HB.out.2.size))); replace HP := Lib.hid (IK.below HP.out hb1); replace HQ := Lib.hid (NV.below HQ.out hb1); replace HR := Lib.hid (NV.below HR.out hb1); clear hb1)
        | (go_at_call 29; with_reducible refine (lg_ends L s t hs1 HS.out.2.1 n p cp HN.out.2.1 hn6 Z HS.out.2.2.2 _ HP.out.ia).mono ?_; rintro e W1 ⟨q, cq, rfl, k1, hb1⟩; replace HB := Lib.hid (And.intro (HB.out.1.below hb1) (HB.out.2.trans (hb1.mono HB.out.2.size))); replace HP := Lib.hid (IK.below HP.out hb1); replace HQ := Lib.hid (NV.below HQ.out hb1); replace HR := Lib.hid (NV.below HR.out hb1); clear hb1; clear HQ; have HQ := Lib.hid k1; clear k1)
        | (go_at_call 30; with_reducible refine (rg_ends L s t hs3 HS.out.2.1 n a c0 HN.out.2.1 hn3 Z HS.out.2.2.2 _ HB.out.1.ia).mono ?_; rintro e W1 ⟨r, cr, rfl, k1, hb1⟩; replace HB := Lib.hid (And.intro (HB.out.1.below hb1) (HB.out.2.trans (hb1.mono HB.out.2.size))); replace HP := Lib.hid (IK.below HP.out hb1); replace HQ := Lib.hid (NV.below HQ.out hb1); replace HR := Lib.hid (NV.below HR.out hb1); clear hb1; clear HR; have HR := Lib.hid k1; clear k1)
        | (go_at_call 28; with_reducible refine (same_nv Z Z.length rfl hZ q r _ _ _ HQ.out HR.out).mono ?_; rintro e W1 ⟨rfl, hb1⟩; replace HB := Lib.hid (And.intro (HB.out.1.below hb1) (HB.out.2.trans (hb1.mono HB.out.2.size))); replace HP := Lib.hid (IK.below HP.out hb1); replace HQ := Lib.hid (NV.below HQ.out hb1); replace HR := Lib.hid (NV.below HR.out hb1); clear hb1)
        | (go_at_call 31; with_reducible refine (lg_starts_no2 s n p cp a2 HT.out _).mono ?_; rintro e W1 ⟨q, cq, rfl, k1, hb1⟩; replace HB := Lib.hid (And.intro (HB.out.1.below hb1) (HB.out.2.trans (hb1.mono HB.out.2.size))); replace HP := Lib.hid (IK.below HP.out hb1); replace HQ := Lib.hid (NV.below HQ.out hb1); replace HR := Lib.hid (NV.below HR.out hb1); clear hb1; clear HQ; have HQ := Lib.hid k1; clear k1)
        | (go_at_call 32; with_reducible refine (rg_starts_no s n a c0 a2 HT.out _).mono ?_; rintro e W1 ⟨r, cr, rfl, k1, hb1⟩; replace HB := Lib.hid (And.intro (HB.out.1.below hb1) (HB.out.2.trans (hb1.mono HB.out.2.size))); replace HP := Lib.hid (IK.below HP.out hb1); replace HQ := Lib.hid (NV.below HQ.out hb1); replace HR := Lib.hid (NV.below HR.out hb1); clear hb1; clear HR; have HR := Lib.hid k1; clear k1)
        | (go_at_call 28; with_reducible refine (same_nv [] 0 rfl (by omega) q r _ _ _ HQ.out HR.out).mono ?_; rintro e W1 ⟨rfl, hb1⟩; replace HB := Lib.hid (And.intro (HB.out.1.below hb1) (HB.out.2.trans (hb1.mono HB.out.2.size))); replace HP := Lib.hid (IK.below HP.out hb1); replace HQ := Lib.hid (NV.below HQ.out hb1); replace HR := Lib.hid (NV.below HR.out hb1); clear hb1)
        | (go_at_call 18; with_reducible refine (lg_lives _).mono ?_; rintro e W1 ⟨rfl, hb1⟩; replace HB := Lib.hid (And.intro (HB.out.1.below hb1) (HB.out.2.trans (hb1.mono HB.out.2.size))); replace HP := Lib.hid (IK.below HP.out hb1); replace HQ := Lib.hid (NV.below HQ.out hb1); replace HR := Lib.hid (NV.below HR.out hb1); clear hb1))
      go_wp2_with (first
        | (go_at_call 15; with_reducible refine (fewm_again 6 (by omega) L n HN.out.2.1 hnm a c0 6 rfl _ HB.out.1.ia).mono ?_; rintro e W1 ⟨p, cp, rfl, hp, hb1⟩; replace HB := Lib.hid (And.intro (HB.out.1.below hb1) (HB.out.2.trans (hb1.mono HB.out.2.size))); replace HP := Lib.hid (IK.below HP.out hb1); replace HQ := Lib.hid (NV.below HQ.out hb1); replace HR := Lib.hid (NV.below HR.out hb1); clear hb1; clear HP; have HP := Lib.hid hp; clear hp)
        | (go_at_call 16; with_reducible refine (cut_m a1 s 12 (by omega) w1 HS.out.1 12 rfl _).mono ?_; rintro e W1 ⟨rfl, hb1⟩; first | (replace HB := Lib.hid (And.intro (HB.out.1.below hb1) (HB.out.2.trans (hb1.mono HB.out.2.size))); replace HP := Lib.hid (IK.below HP.out hb1); replace HQ := Lib.hid (NV.below HQ.out hb1); replace HR := Lib.hid (NV.below HR.out hb1); clear hb1) | clear hb1)
        | (go_at_call 17; with_reducible refine (rg_good L true HN.out.2.2 a n c0 HN.out.2.1 hn6 _ HB.out.1.li).mono ?_; rintro e W1 ⟨rfl, hb1⟩; replace HB := Lib.hid (And.intro (HB.out.1.below hb1) (HB.out.2.trans (hb1.mono HB.out.2.size))); replace HP := Lib.hid (IK.below HP.out hb1); replace HQ := Lib.hid (NV.below HQ.out hb1); replace HR := Lib.hid (NV.below HR.out hb1); clear hb1)
        | (go_at_call 26; with_reducible refine (lg_first L s t hs1 HS.out.2.1 n p cp HN.out.2.1 hn6 fr to_ ok HS.out.2.2.1 _ HP.out.ij).mono ?_; rintro e W1 ⟨rfl, hb1⟩; replace HB := Lib.hid (And.intro (HB.out.1.below hb1) (HB.out.2.trans (hb1.mono HB.out.2.size))); replace HP := Lib.hid (IK.below HP.out hb1); replace HQ := Lib.hid (NV.below HQ.out hb1); replace HR := Lib.hid (NV.below HR.out hb1); clear hb1)
        | (go_at_call 27; with_reducible refine (rg_first L s t hs3 HS.out.2.1 n a c0 HN.out.2.1 hn3 fr to_ ok HS.out.2.2.1 _ HB.out.1.ia).mono ?_; rintro e W1 ⟨rfl, hb1⟩; replace HB := Lib.hid (And.intro (HB.out.1.below hb1) (HB.out.2.trans (hb1.mono HB.out.2.size))); replace HP := Lib.hid (IK.below HP.out hb1); replace HQ := Lib.hid (NV.below HQ.out hb1); replace HR := Lib.hid (NV.below HR.out hb1); clear hb1)
        | (go_at_call 29; with_reducible refine (lg_ends L s t hs1 HS.out.2.1 n p cp HN.out.2.1 hn6 Z HS.out.2.2.2 _ HP.out.ia).mono ?_; rintro e W1 ⟨q, cq, rfl, k1, hb1⟩; replace HB := Lib.hid (And.intro (HB.out.1.below hb1) (HB.out.2.trans (hb1.mono HB.out.2.size))); replace HP := Lib.hid (IK.below HP.out hb1); replace HQ := Lib.hid (NV.below HQ.out hb1); replace HR := Lib.hid (NV.below HR.out hb1); clear hb1; clear HQ; have HQ := Lib.hid k1; clear k1)
        | (go_at_call 30; with_reducible refine (rg_ends L s t hs3 HS.out.2.1 n a c0 HN.out.2.1 hn3 Z HS.out.2.2.2 _ HB.out.1.ia).mono ?_; rintro e W1 ⟨r, cr, rfl, k1, hb1⟩; replace HB := Lib.hid (And.intro (HB.out.1.below hb1) (HB.out.2.trans (hb1.mono HB.out.2.size))); replace HP := Lib.hid (IK.below HP.out hb1); replace HQ := Lib.hid (NV.below HQ.out hb1); replace HR := Lib.hid (NV.below HR.out hb1); clear hb1; clear HR; have HR := Lib.hid k1; clear k1)
        | (go_at_call 28; with_reducible refine (same_nv Z Z.length rfl hZ q r _ _ _ HQ.out HR.out).mono ?_; rintro e W1 ⟨rfl, hb1⟩; replace HB := Lib.hid (And.intro (HB.out.1.below hb1) (HB.out.2.trans (hb1.mono HB.out.2.size))); replace HP := Lib.hid (IK.below HP.out hb1); replace HQ := Lib.hid (NV.below HQ.out hb1); replace HR := Lib.hid (NV.below HR.out hb1); clear hb1)
        | (go_at_call 31; with_reducible refine (lg_starts_no2 s n p cp a2 HT.out _).mono ?_; rintro e W1 ⟨q, cq, rfl, k1, hb1⟩; replace HB := Lib.hid (And.intro (HB.out.1.below hb1) (HB.out.2.trans (hb1.mono HB.out.2.size))); replace HP := Lib.hid (IK.below HP.out hb1); replace HQ := Lib.hid (NV.below HQ.out hb1); replace HR := Lib.hid (NV.below HR.out hb1); clear hb1; clear HQ; have HQ := Lib.hid k1; clear k1)
        | (go_at_call 32; with_reducible refine (rg_starts_no s n a c0 a2 HT.out _).mono ?_; rintro e W1 ⟨r, cr, rfl, k1, hb1⟩; replace HB := Lib.hid (And.intro (HB.out.1.below hb1) (HB.out.2.trans (hb1.mono HB.out.2.size))); replace HP := Lib.hid (IK.below HP.out hb1); replace HQ := Lib.hid (NV.below HQ.out hb1); replace HR := Lib.hid (NV.below HR.out hb1); clear hb1; clear HR; have HR := Lib.hid k1; clear k1)
        | (go_at_call 28; with_reducible refine (same_nv [] 0 rfl (by omega) q r _ _ _ HQ.out HR.out).mono ?_; rintro e W1 ⟨rfl, hb1⟩; replace HB := Lib.hid (And.intro (HB.out.1.below hb1) (HB.out.2.trans (hb1.mono HB.out.2.size))); replace HP := Lib.hid (IK.below HP.out hb1); replace HQ := Lib.hid (NV.below HQ.out hb1); replace HR := Lib.hid (NV.below HR.out hb1); clear hb1)
        | (go_at_call 18; with_reducible refine (lg_lives _).mono ?_; rintro e W1 ⟨rfl, hb1⟩; replace HB := Lib.hid (And.intro (HB.out.1.below hb1) (HB.out.2.trans (hb1.mono HB.out.2.size))); replace HP := Lib.hid (IK.below HP.out hb1); replace HQ := Lib.hid (NV.below HQ.out hb1); replace HR := Lib.hid (NV.below HR.out hb1); clear hb1))
      go_ret
      exact ⟨rfl, HB.out.2⟩
    · obtain ⟨k, rfl⟩ : ∃ k : Nat, a2 = (k : Int) := ⟨a2.toNat, by omega⟩
      have hk : k ≤ s.size := by omega
      obtain ⟨Y, hYe⟩ : ∃ Y, Lg.starts L t k = Y := ⟨_, rfl⟩
      have hY : Y.length ≤ 2000000 := by
        rw [← hYe]
        have := List.length_filter_le (fun i => Lg.D (lgL L) (lgT t) i L.length k) (List.range' 0 (k + 1))
        unfold Lg.starts
        simp at this ⊢; omega
      have HT := Lib.hid (And.intro hYe hk)
      clear hL hn hg hs ht hF hZe hNt hto hYe hk
      go_enter Try.func4, Try.ntmps4
      go_upto_region 4 with (first
        | (go_at_call 15; with_reducible refine (fewm_first 6 (by omega) z0 L HN.out.1 n HN.out.2.1 a0 len0 cap0 HI.out.1 HI.out.2.1 6 rfl _ HI.out.2.2).mono ?_; rintro e W1 ⟨a, c0, rfl, ha, hb1⟩; have HB := Lib.hid (And.intro ha hb1); have HP := Lib.hid ha; have HQ : Hid (NV W1 none []) := Lib.hid (NV.nil W1); have HR : Hid (NV W1 none []) := Lib.hid (NV.nil W1); clear ha hb1)
        | (go_at_call 16; with_reducible refine (cut_m a1 s 12 (by omega) w1 HS.out.1 12 rfl _).mono ?_; rintro e W1 ⟨rfl, hb1⟩; first | (replace HB := Lib.hid (And.intro (HB.out.1.below hb1) (HB.out.2.trans (hb1.mono HB.out.2.size))); replace HP := Lib.hid (IK.below HP.out hb1); replace HQ := Lib.hid (NV.below HQ.out hb1); replace HR := Lib.hid (NV.below HR.out hb1); clear hb1) | clear hb1)
        | (go_at_call 17; with_reducible refine (rg_good L true HN.out.2.2 a n c0 HN.out.2.1 hn6 _ HB.out.1.li).mono ?_; rintro e W1 ⟨rfl, hb1⟩; replace HB := Lib.hid (And.intro (HB.out.1.below hb1) (HB.out.2.trans (hb1.mono HB.out.2.size))); replace HP := Lib.hid (IK.below HP.out hb1); replace HQ := Lib.hid (NV.below HQ.out hb1); replace HR := Lib.hid (NV.below HR.out hb1); clear hb1)
        | (go_at_call 26; with_reducible refine (lg_first L s t hs1 HS.out.2.1 n p cp HN.out.2.1 hn6 fr to_ ok HS.out.2.2.1 _ HP.out.ij).mono ?_; rintro e W1 ⟨rfl, hb1⟩; replace HB := Lib.hid (And.intro (HB.out.1.below hb1) (HB.out.2.trans (hb1.mono HB.out.2.size))); replace HP := Lib.hid (IK.below HP.out hb1); replace HQ := Lib.hid (NV.below HQ.out hb1); replace HR := Lib.hid (NV.below HR.out hb1); clear hb1)
        | (go_at_call 27; with_reducible refine (rg_first L s t hs3 HS.out.2.1 n a c0 HN.out.2.1 hn3 fr to_ ok HS.out.2.2.1 _ HB.out.1.ia).mono ?_; rintro e W1 ⟨rfl, hb1⟩; replace HB := Lib.hid (And.intro (HB.out.1.below hb1) (HB.out.2.trans (hb1.mono HB.out.2.size))); replace HP := Lib.hid (IK.below HP.out hb1); replace HQ := Lib.hid (NV.below HQ.out hb1); replace HR := Lib.hid (NV.below HR.out hb1); clear hb1)
        | (go_at_call 29; with_reducible refine (lg_ends L s t hs1 HS.out.2.1 n p cp HN.out.2.1 hn6 Z HS.out.2.2.2 _ HP.out.ia).mono ?_; rintro e W1 ⟨q, cq, rfl, k1, hb1⟩; replace HB := Lib.hid (And.intro (HB.out.1.below hb1) (HB.out.2.trans (hb1.mono HB.out.2.size))); replace HP := Lib.hid (IK.below HP.out hb1); replace HQ := Lib.hid (NV.below HQ.out hb1); replace HR := Lib.hid (NV.below HR.out hb1); clear hb1; clear HQ; have HQ := Lib.hid k1; clear k1)
        | (go_at_call 30; with_reducible refine (rg_ends L s t hs3 HS.out.2.1 n a c0 HN.out.2.1 hn3 Z HS.out.2.2.2 _ HB.out.1.ia).mono ?_; rintro e W1 ⟨r, cr, rfl, k1, hb1⟩; replace HB := Lib.hid (And.intro (HB.out.1.below hb1) (HB.out.2.trans (hb1.mono HB.out.2.size))); replace HP := Lib.hid (IK.below HP.out hb1); replace HQ := Lib.hid (NV.below HQ.out hb1); replace HR := Lib.hid (NV.below HR.out hb1); clear hb1; clear HR; have HR := Lib.hid k1; clear k1)
        | (go_at_call 28; with_reducible refine (same_nv Z Z.length rfl hZ q r _ _ _ HQ.out HR.out).mono ?_; rintro e W1 ⟨rfl, hb1⟩; replace HB := Lib.hid (And.intro (HB.out.1.below hb1) (HB.out.2.trans (hb1.mono HB.out.2.size))); replace HP := Lib.hid (IK.below HP.out hb1); replace HQ := Lib.hid (NV.below HQ.out hb1); replace HR := Lib.hid (NV.below HR.out hb1); clear hb1)
        | (go_at_call 31; with_reducible refine (lg_starts L s t hs1 HS.out.2.1 n p cp HN.out.2.1 hn6 k HT.out.2 Y HT.out.1 _ HP.out.ij).mono ?_; rintro e W1 ⟨q, cq, rfl, k1, hb1⟩; replace HB := Lib.hid (And.intro (HB.out.1.below hb1) (HB.out.2.trans (hb1.mono HB.out.2.size))); replace HP := Lib.hid (IK.below HP.out hb1); replace HQ := Lib.hid (NV.below HQ.out hb1); replace HR := Lib.hid (NV.below HR.out hb1); clear hb1; clear HQ; have HQ := Lib.hid k1; clear k1)
        | (go_at_call 32; with_reducible refine (rg_starts L s t hs3 HS.out.2.1 n a c0 HN.out.2.1 hn3 k HT.out.2 Y HT.out.1 _ HB.out.1.ia).mono ?_; rintro e W1 ⟨r, cr, rfl, k1, hb1⟩; replace HB := Lib.hid (And.intro (HB.out.1.below hb1) (HB.out.2.trans (hb1.mono HB.out.2.size))); replace HP := Lib.hid (IK.below HP.out hb1); replace HQ := Lib.hid (NV.below HQ.out hb1); replace HR := Lib.hid (NV.below HR.out hb1); clear hb1; clear HR; have HR := Lib.hid k1; clear k1)
        | (go_at_call 28; with_reducible refine (same_nv Y Y.length rfl hY q r _ _ _ HQ.out HR.out).mono ?_; rintro e W1 ⟨rfl, hb1⟩; replace HB := Lib.hid (And.intro (HB.out.1.below hb1) (HB.out.2.trans (hb1.mono HB.out.2.size))); replace HP := Lib.hid (IK.below HP.out hb1); replace HQ := Lib.hid (NV.below HQ.out hb1); replace HR := Lib.hid (NV.below HR.out hb1); clear hb1)
        | (go_at_call 18; with_reducible refine (lg_lives _).mono ?_; rintro e W1 ⟨rfl, hb1⟩; replace HB := Lib.hid (And.intro (HB.out.1.below hb1) (HB.out.2.trans (hb1.mono HB.out.2.size))); replace HP := Lib.hid (IK.below HP.out hb1); replace HQ := Lib.hid (NV.below HQ.out hb1); replace HR := Lib.hid (NV.below HR.out hb1); clear hb1))
      go_upto_region 5 with (first
        | (go_at_call 15; with_reducible refine (fewm_again 6 (by omega) L n HN.out.2.1 hnm a c0 6 rfl _ HB.out.1.ia).mono ?_; rintro e W1 ⟨p, cp, rfl, hp, hb1⟩; replace HB := Lib.hid (And.intro (HB.out.1.below hb1) (HB.out.2.trans (hb1.mono HB.out.2.size))); replace HP := Lib.hid (IK.below HP.out hb1); replace HQ := Lib.hid (NV.below HQ.out hb1); replace HR := Lib.hid (NV.below HR.out hb1); clear hb1; clear HP; have HP := Lib.hid hp; clear hp)
        | (go_at_call 16; with_reducible refine (cut_m a1 s 12 (by omega) w1 HS.out.1 12 rfl _).mono ?_; rintro e W1 ⟨rfl, hb1⟩; first | (replace HB := Lib.hid (And.intro (HB.out.1.below hb1) (HB.out.2.trans (hb1.mono HB.out.2.size))); replace HP := Lib.hid (IK.below HP.out hb1); replace HQ := Lib.hid (NV.below HQ.out hb1); replace HR := Lib.hid (NV.below HR.out hb1); clear hb1) | clear hb1)
        | (go_at_call 17; with_reducible refine (rg_good L true HN.out.2.2 a n c0 HN.out.2.1 hn6 _ HB.out.1.li).mono ?_; rintro e W1 ⟨rfl, hb1⟩; replace HB := Lib.hid (And.intro (HB.out.1.below hb1) (HB.out.2.trans (hb1.mono HB.out.2.size))); replace HP := Lib.hid (IK.below HP.out hb1); replace HQ := Lib.hid (NV.below HQ.out hb1); replace HR := Lib.hid (NV.below HR.out hb1); clear hb1)
        | (go_at_call 26; with_reducible refine (lg_first L s t hs1 HS.out.2.1 n p cp HN.out.2.1 hn6 fr to_ ok HS.out.2.2.1 _ HP.out.ij).mono ?_; rintro e W1 ⟨rfl, hb1⟩; replace HB := Lib.hid (And.intro (HB.out.1.below hb1) (HB.out.2.trans (hb1.mono HB.out.2.size))); replace HP := Lib.hid (IK.below HP.out hb1); replace HQ := Lib.hid (NV.below HQ.out hb1); replace HR := Lib.hid (NV.below HR.out hb1); clear hb1)
        | (go_at_call 27; with_reducible refine (rg_first L s t hs3 HS.out.2.1 n a c0 HN.out.2.1 hn3 fr to_ ok HS.out.2.2.1 _ HB.out.1.ia).mono ?_; rintro e W1 ⟨rfl, hb1⟩; replace HB := Lib.hid (And.intro (HB.out.1.below hb1) (HB.out.2.trans (hb1.mono HB.out.2.size))); replace HP := Lib.hid (IK.below HP.out hb1); replace HQ := Lib.hid (NV.below HQ.out hb1); replace HR := Lib.hid (NV.below HR.out hb1); clear hb1)
        | (go_at_call 29; with_reducible refine (lg_ends L s t hs1 HS.out.2.1 n p cp HN.out.2.1 hn6 Z HS.out.2.2.2 _ HP.out.ia).mono ?_; rintro e W1 ⟨q, cq, rfl, k1, hb1⟩; replace HB := Lib.hid (And.intro (HB.out.1.below hb1) (HB.out.2.trans (hb1.mono HB.out.2.size))); replace HP := Lib.hid (IK.below HP.out hb1); replace HQ := Lib.hid (NV.below HQ.out hb1); replace HR := Lib.hid (NV.below HR.out hb1); clear hb1; clear HQ; have HQ := Lib.hid k1; clear k1)
        | (go_at_call 30; with_reducible refine (rg_ends L s t hs3 HS.out.2.1 n a c0 HN.out.2.1 hn3 Z HS.out.2.2.2 _ HB.out.1.ia).mono ?_; rintro e W1 ⟨r, cr, rfl, k1, hb1⟩; replace HB := Lib.hid (And.intro (HB.out.1.below hb1) (HB.out.2.trans (hb1.mono HB.out.2.size))); replace HP := Lib.hid (IK.below HP.out hb1); replace HQ := Lib.hid (NV.below HQ.out hb1); replace HR := Lib.hid (NV.below HR.out hb1); clear hb1; clear HR; have HR := Lib.hid k1; clear k1)
        | (go_at_call 28; with_reducible refine (same_nv Z Z.length rfl hZ q r _ _ _ HQ.out HR.out).mono ?_; rintro e W1 ⟨rfl, hb1⟩; replace HB := Lib.hid (And.intro (HB.out.1.below hb1) (HB.out.2.trans (hb1.mono HB.out.2.size))); replace HP := Lib.hid (IK.below HP.out hb1); replace HQ := Lib.hid (NV.below HQ.out hb1); replace HR := Lib.hid (NV.below HR.out hb1); clear hb1)
        | (go_at_call 31; with_reducible refine (lg_starts L s t hs1 HS.out.2.1 n p cp HN.out.2.1 hn6 k HT.out.2 Y HT.out.1 _ HP.out.ij).mono ?_; rintro e W1 ⟨q, cq, rfl, k1, hb1⟩; replace HB := Lib.hid (And.intro (HB.out.1.below hb1) (HB.out.2.trans (hb1.mono HB.out.2.size))); replace HP := Lib.hid (IK.below HP.out hb1); replace HQ := Lib.hid (NV.below HQ.out hb1); replace HR := Lib.hid (NV.below HR.out hb1); clear hb1; clear HQ; have HQ := Lib.hid k1; clear k1)
        | (go_at_call 32; with_reducible refine (rg_starts L s t hs3 HS.out.2.1 n a c0 HN.out.2.1 hn3 k HT.out.2 Y HT.out.1 _ HB.out.1.ia).mono ?_; rintro e W1 ⟨r, cr, rfl, k1, hb1⟩; replace HB := Lib.hid (And.intro (HB.out.1.below hb1) (HB.out.2.trans (hb1.mono HB.out.2.size))); replace HP := Lib.hid (IK.below HP.out hb1); replace HQ := Lib.hid (NV.below HQ.out hb1); replace HR := Lib.hid (NV.below HR.out hb1); clear hb1; clear HR; have HR := Lib.hid k1; clear k1)
        | (go_at_call 28; with_reducible refine (same_nv Y Y.length rfl hY q r _ _ _ HQ.out HR.out).mono ?_; rintro e W1 ⟨rfl, hb1⟩; replace HB := Lib.hid (And.intro (HB.out.1.below hb1) (HB.out.2.trans (hb1.mono HB.out.2.size))); replace HP := Lib.hid (IK.below HP.out hb1); replace HQ := Lib.hid (NV.below HQ.out hb1); replace HR := Lib.hid (NV.below HR.out hb1); clear hb1)
        | (go_at_call 18; with_reducible refine (lg_lives _).mono ?_; rintro e W1 ⟨rfl, hb1⟩; replace HB := Lib.hid (And.intro (HB.out.1.below hb1) (HB.out.2.trans (hb1.mono HB.out.2.size))); replace HP := Lib.hid (IK.below HP.out hb1); replace HQ := Lib.hid (NV.below HQ.out hb1); replace HR := Lib.hid (NV.below HR.out hb1); clear hb1))
      go_wp2_with (first
        | (go_at_call 15; with_reducible refine (fewm_again 6 (by omega) L n HN.out.2.1 hnm a c0 6 rfl _ HB.out.1.ia).mono ?_; rintro e W1 ⟨p, cp, rfl, hp, hb1⟩; replace HB := Lib.hid (And.intro (HB.out.1.below hb1) (HB.out.2.trans (hb1.mono HB.out.2.size))); replace HP := Lib.hid (IK.below HP.out hb1); replace HQ := Lib.hid (NV.below HQ.out hb1); replace HR := Lib.hid (NV.below HR.out hb1); clear hb1; clear HP; have HP := Lib.hid hp; clear hp)
        | (go_at_call 16; with_reducible refine (cut_m a1 s 12 (by omega) w1 HS.out.1 12 rfl _).mono ?_; rintro e W1 ⟨rfl, hb1⟩; first | (replace HB := Lib.hid (And.intro (HB.out.1.below hb1) (HB.out.2.trans (hb1.mono HB.out.2.size))); replace HP := Lib.hid (IK.below HP.out hb1); replace HQ := Lib.hid (NV.below HQ.out hb1); replace HR := Lib.hid (NV.below HR.out hb1); clear hb1) | clear hb1)
        | (go_at_call 17; with_reducible refine (rg_good L true HN.out.2.2 a n c0 HN.out.2.1 hn6 _ HB.out.1.li).mono ?_; rintro e W1 ⟨rfl, hb1⟩; replace HB := Lib.hid (And.intro (HB.out.1.below hb1) (HB.out.2.trans (hb1.mono HB.out.2.size))); replace HP := Lib.hid (IK.below HP.out hb1); replace HQ := Lib.hid (NV.below HQ.out hb1); replace HR := Lib.hid (NV.below HR.out hb1); clear hb1)
        | (go_at_call 26; with_reducible refine (lg_first L s t hs1 HS.out.2.1 n p cp HN.out.2.1 hn6 fr to_ ok HS.out.2.2.1 _ HP.out.ij).mono ?_; rintro e W1 ⟨rfl, hb1⟩; replace HB := Lib.hid (And.intro (HB.out.1.below hb1) (HB.out.2.trans (hb1.mono HB.out.2.size))); replace HP := Lib.hid (IK.below HP.out hb1); replace HQ := Lib.hid (NV.below HQ.out hb1); replace HR := Lib.hid (NV.below HR.out hb1); clear hb1)
        | (go_at_call 27; with_reducible refine (rg_first L s t hs3 HS.out.2.1 n a c0 HN.out.2.1 hn3 fr to_ ok HS.out.2.2.1 _ HB.out.1.ia).mono ?_; rintro e W1 ⟨rfl, hb1⟩; replace HB := Lib.hid (And.intro (HB.out.1.below hb1) (HB.out.2.trans (hb1.mono HB.out.2.size))); replace HP := Lib.hid (IK.below HP.out hb1); replace HQ := Lib.hid (NV.below HQ.out hb1); replace HR := Lib.hid (NV.below HR.out hb1); clear hb1)
        | (go_at_call 29; with_reducible refine (lg_ends L s t hs1 HS.out.2.1 n p cp HN.out.2.1 hn6 Z HS.out.2.2.2 _ HP.out.ia).mono ?_; rintro e W1 ⟨q, cq, rfl, k1, hb1⟩; replace HB := Lib.hid (And.intro (HB.out.1.below hb1) (HB.out.2.trans (hb1.mono HB.out.2.size))); replace HP := Lib.hid (IK.below HP.out hb1); replace HQ := Lib.hid (NV.below HQ.out hb1); replace HR := Lib.hid (NV.below HR.out hb1); clear hb1; clear HQ; have HQ := Lib.hid k1; clear k1)
        | (go_at_call 30; with_reducible refine (rg_ends L s t hs3 HS.out.2.1 n a c0 HN.out.2.1 hn3 Z HS.out.2.2.2 _ HB.out.1.ia).mono ?_; rintro e W1 ⟨r, cr, rfl, k1, hb1⟩; replace HB := Lib.hid (And.intro (HB.out.1.below hb1) (HB.out.2.trans (hb1.mono HB.out.2.size))); replace HP := Lib.hid (IK.below HP.out hb1); replace HQ := Lib.hid (NV.below HQ.out hb1); replace HR := Lib.hid (NV.below HR.out hb1); clear hb1; clear HR; have HR := Lib.hid k1; clear k1)
        | (go_at_call 28; with_reducible refine (same_nv Z Z.length rfl hZ q r _ _ _ HQ.out HR.out).mono ?_; rintro e W1 ⟨rfl, hb1⟩; replace HB := Lib.hid (And.intro (HB.out.1.below hb1) (HB.out.2.trans (hb1.mono HB.out.2.size))); replace HP := Lib.hid (IK.below HP.out hb1); replace HQ := Lib.hid (NV.below HQ.out hb1); replace HR := Lib.hid (NV.below HR.out hb1); clear hb1)
        | (go_at_call 31; with_reducible refine (lg_starts L s t hs1 HS.out.2.1 n p cp HN.out.2.1 hn6 k HT.out.2 Y HT.out.1 _ HP.out.ij).mono ?_; rintro e W1 ⟨q, cq, rfl, k1, hb1⟩; replace HB := Lib.hid (And.intro (HB.out.1.below hb1) (HB.out.2.trans (hb1.mono HB.out.2.size))); replace HP := Lib.hid (IK.below HP.out hb1); replace HQ := Lib.hid (NV.below HQ.out hb1); replace HR := Lib.hid (NV.below HR.out hb1); clear hb1; clear HQ; have HQ := Lib.hid k1; clear k1)
        | (go_at_call 32; with_reducible refine (rg_starts L s t hs3 HS.out.2.1 n a c0 HN.out.2.1 hn3 k HT.out.2 Y HT.out.1 _ HB.out.1.ia).mono ?_; rintro e W1 ⟨r, cr, rfl, k1, hb1⟩; replace HB := Lib.hid (And.intro (HB.out.1.below hb1) (HB.out.2.trans (hb1.mono HB.out.2.size))); replace HP := Lib.hid (IK.below HP.out hb1); replace HQ := Lib.hid (NV.below HQ.out hb1); replace HR := Lib.hid (NV.below HR.out hb1); clear hb1; clear HR; have HR := Lib.hid k1; clear k1)
        | (go_at_call 28; with_reducible refine (same_nv Y Y.length rfl hY q r _ _ _ HQ.out HR.out).mono ?_; rintro e W1 ⟨rfl, hb1⟩; replace HB := Lib.hid (And.intro (HB.out.1.below hb1) (HB.out.2.trans (hb1.mono HB.out.2.size))); replace HP := Lib.hid (IK.below HP.out hb1); replace HQ := Lib.hid (NV.below HQ.out hb1); replace HR := Lib.hid (NV.below HR.out hb1); clear hb1)
        | (go_at_call 18; with_reducible refine (lg_lives _).mono ?_; rintro e W1 ⟨rfl, hb1⟩; replace HB := Lib.hid (And.intro (HB.out.1.below hb1) (HB.out.2.trans (hb1.mono HB.out.2.size))); replace HP := Lib.hid (IK.below HP.out hb1); replace HQ := Lib.hid (NV.below HQ.out hb1); replace HR := Lib.hid (NV.below HR.out hb1); clear hb1))
      go_ret
      exact ⟨rfl, HB.out.2⟩

set_option maxRecDepth 100000 in
theorem lifted (os : Os) (started : os.Started) (H : Type) (enc : TypeId × Value → H) :
    ReturnsInHanded {} Try.checked os 4 .any (Rows.langFindsSpec.pre6 enc Try.prog Try.f4 Rows.langFindsRow.domain false) (Rows.langFindsSpec.post enc Try.prog Try.f4 false true false false) := by
  refine returnsInHanded_of_change (C := Try.checked) ownKn started (by kernel_rfl) Try.func4
    (ChangeSpec.witness6 (enc := enc) (C := Try.checked) false ⟨#[], #[.slice none 0 0, .string ByteArray.empty, .int .i64 0], []⟩ 8 (by kernel_rfl) (by kernel_rfl) (by kernel_rfl) (by kernel_rfl)) ?_
  intro W base args ds gs before hval0 hW hcnd _
  have hval : ∀ (j : Nat) t v, Try.f4.params[j]? = some t → args[j]? = some v → Value.okWide Try.prog W .any base t v := hval0
  have hW' := hW
  obtain ⟨p, q, hA0, hV, rfl, hfz, hnd⟩ := hW
  have hA : DataW.TrodAll enc Try.prog W 0 (fun _ => true) true Try.f4.params.toList args.toList ds p := hA0
  rw [Try.params4] at hA hval
  obtain ⟨v0, vs0, d0, ds0, p0, q0, hargs, rfl, rfl, h0, r0⟩ := trodAll_cons hA
  obtain ⟨v1, vs1, d1, ds1, p1, q1, rfl, rfl, rfl, h1, r1⟩ := trodAll_cons r0
  obtain ⟨v2, vs2, d2, ds2, p2, q2, rfl, rfl, rfl, h2, r2⟩ := trodAll_cons r1
  obtain ⟨rfl, rfl, rfl⟩ := trodAll_nil r2
  obtain rfl : args = #[v0, v1, v2] := by cases args; simp_all
  obtain ⟨rfl, rfl⟩ := trodVars_none hV
  have k0 := h0
  have lt0 : ∀ x ∈ p0, x.block < W.heap.size := by obtain ⟨m, hm⟩ := k0; exact DataW.trod_lt m _ _ _ hm
  obtain ⟨b0, lb0, cb0, rfl⟩ := okWide_slice Try.underlying22 (hval 0 22 v0 rfl rfl)
  obtain ⟨fu0, hf0⟩ := h0
  simp only [Value.cells] at hf0
  obtain ⟨a0, len0, cap0, z0, e0, w0⟩ := fld_items hf0
  obtain ⟨rfl, rfl, rfl⟩ : b0 = a0 ∧ lb0 = len0 ∧ cb0 = cap0 := by simpa using e0
  have k1 := h1
  have lt1 : ∀ x ∈ p1, x.block < W.heap.size := by obtain ⟨m, hm⟩ := k1; exact DataW.trod_lt m _ _ _ hm
  obtain ⟨a1, rfl, rfl, rfl, w1⟩ := open_string Try.underlying9 (hval 1 9 v1 rfl rfl) h1
  have k2 := h2
  have lt2 : ∀ x ∈ p2, x.block < W.heap.size := by obtain ⟨m, hm⟩ := k2; exact DataW.trod_lt m _ _ _ hm
  obtain ⟨a2, rfl, rfl, rfl, w2⟩ := open_int Try.underlying3 (hval 2 3 v2 rfl rfl) h2
  clear hA0 hval0
  refine (walk b0 lb0 cb0 z0 a1 a2 W w0 w1 w2).mono fun e W' ⟨he, bel⟩ => ?_
  subst he
  exact ⟨_, rfl, _, _, _, [], _, [], hW', trodAll_mk1 (shut_bool Try.underlying4 _), (trodAll_cons_mk (Below.trod laidOut (by kernel_rfl) (of_decide_eq_true (by kernel_rfl)) k0 bel lt0) (trodAll_cons_mk (Below.trod laidOut (by kernel_rfl) (of_decide_eq_true (by kernel_rfl)) k1 bel lt1) (trodAll_cons_mk (Below.trod laidOut (by kernel_rfl) (of_decide_eq_true (by kernel_rfl)) k2 bel lt2) trodAll_mk0))), rfl, bel.frame _, fun h => by cases h⟩

theorem over : Rows.langFindsRow.holds Try.pinned (OpenSpec.ofChange Rows.langFindsSpec) :=
  OpenClaim.holds_of_wide 4 Try.f4 rfl rfl rfl rfl rfl rfl rfl ⟨rfl, rfl, rfl, rfl, rfl⟩ rfl rfl rfl rfl rfl (by kernel_rfl) Try.func4 (by kernel_rfl)
    (of_decide_eq_true (by kernel_rfl)) (by unfold Func.isWrapper; first | (rw [if_pos (by decide +kernel)]; kernel_rfl) | (rw [if_neg (by decide +kernel)]; exact ⟨rfl, rfl⟩))
    (fun os started H enc _ => lifted os started H enc)

/-- The statement. -/
theorem proved : Rows.LangFindsSaid := over
#print axioms proved
end Go.Proofs.Ytjedjnpepjdgeaa.langFinds
