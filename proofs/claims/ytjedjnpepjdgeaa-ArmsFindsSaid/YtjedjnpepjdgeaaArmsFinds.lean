/- P10.3, P10.4: for every list of texts (its first 4, each cut to 9 bytes) and every two texts (cut to 12 and 5 bytes): which pattern is found first is as the document says, of the least end, and more behind the text changes nothing of it. No condition. -/
import Derived.Test.YtjedjnpepjdgeaaOpen
import Derived.WalkKit
import Derived.ProofKit
import Derived.OpenShut
import Derived.Test.YtjedjnpepjdgeaaArC
import Derived.Test.YtjedjnpepjdgeaaGp13
namespace Go.Proofs.Ytjedjnpepjdgeaa.armsFinds
open Go.Joins Go.ChangeShapes Go.WideShapes Go.ChangeAt Go.RowKit Go.Deep
open Go.ChangeMaps (open_string)
set_option linter.unusedSimpArgs false
set_option linter.unusedVariables false

set_option maxRecDepth 20000 in
set_option maxHeartbeats 16000000 in

theorem walk (a0 : Option Addr) (len0 cap0 : Nat) (z0 : List ByteArray) (a1 : ByteArray) (a2 : ByteArray) (w : World) (w0 : IsStrs w a0 len0 cap0 z0) (w1 : a1.size ≤ maxLen) (w2 : a2.size ≤ maxLen) :
    Calls Try.prog 13 #[.slice a0 len0 cap0, .string a1, .string a2] w fun e w' => e = .returned (.bool true) ∧ Below w.heap.size w w' := by
  have hl0 : z0.length = len0 := w0.1
  have hm0 : len0 ≤ maxLen := Nat.le_trans w0.2.1 w0.2.2.1
  have HI : Hid (TX w a0 z0 ∧ z0.length = len0) := Lib.hid ⟨tx_in w0, hl0⟩
  obtain ⟨rs, hrs⟩ : ∃ rs, fewT z0 4 9 = rs := ⟨_, rfl⟩
  obtain ⟨m, hm⟩ : ∃ m, rs.length = m := ⟨_, rfl⟩
  have hm10 : m ≤ 4 := by rw [← hm, ← hrs]; exact fewT_len _ _ _
  have hsz : ∀ s ∈ rs, s.size ≤ 9 := by rw [← hrs]; exact fewT_long
  have hmx : m ≤ maxLen := by unfold maxLen; omega
  have HR : Hid (fewT z0 4 9 = rs ∧ rs.length = m ∧ fewT rs 4 9 = rs ∧ (∀ s ∈ rs, s.size ≤ 1000000) ∧ (∀ s ∈ rs, s.size ≤ maxLen)) := Lib.hid ⟨hrs, hm, fewT_self _ _ _ (by omega) hsz, fun s hs => by have := hsz s hs; omega, fun s hs => by have := hsz s hs; unfold maxLen; omega⟩
  have hm8 : m ≤ 8 := by omega
  have hm3 : m ≤ 1000 := by omega
  obtain ⟨s, hs⟩ : ∃ s, cutT a1 12 = s := ⟨_, rfl⟩
  have hs12 : s.size ≤ 12 := by rw [← hs]; exact cutT_le _ _
  obtain ⟨t, ht⟩ : ∃ t, s.data.toList = t := ⟨_, rfl⟩
  obtain ⟨N, hN⟩ : ∃ N, s.size = N := ⟨_, rfl⟩
  have hNt : t.length = N := by rw [← ht]; simpa using hN
  have hN3 : N ≤ 1000 := by omega
  have hs3 : s.size ≤ 1000 := by omega
  obtain ⟨u, hu⟩ : ∃ u, cutT a2 5 = u := ⟨_, rfl⟩
  have hu5 : u.size ≤ 5 := by rw [← hu]; exact cutT_le _ _
  obtain ⟨s2, hs2⟩ : ∃ s2, s ++ u = s2 := ⟨_, rfl⟩
  obtain ⟨t2, ht2⟩ : ∃ t2, t ++ u.data.toList = t2 := ⟨_, rfl⟩
  have hst : s2.data.toList = t2 := by rw [← hs2, ← ht2, ← ht]; simp
  obtain ⟨N2, hN2⟩ : ∃ N2, s2.size = N2 := ⟨_, rfl⟩
  have hNN : N ≤ N2 ∧ N2 ≤ 1000 := by rw [← hN2, ← hs2, ByteArray.size_append]; omega
  have hs2m : s2.size ≤ 1000000 := by omega
  have hu2m : u.size ≤ 1000000 := by omega
  have HS : Hid (cutT a1 12 = s ∧ cutT a2 5 = u) := Lib.hid ⟨hs, hu⟩
  by_cases he0 : (Ar.nw rs m).2 = 0
  · obtain ⟨Ls, hLs⟩ : ∃ Ls, rs.map Ar.pat = Ls := ⟨_, rfl⟩
    have hLn : Ls.length = m := by rw [← hLs, List.length_map]; exact hm
    obtain ⟨h62, hz⟩ := pats_ok hm he0
    rw [hLs] at h62 hz
    obtain ⟨q, mm, is, hf⟩ : ∃ q mm is, Ar.fi (fun k => Ar.fs (Ar.dn Ls (Ar.stk Ls (lgT t) k)) m) N = (q, mm, is) := ⟨_, _, _, rfl⟩
    obtain ⟨q2, mm2, is2, hf2⟩ : ∃ q mm is, Ar.fi (fun k => Ar.fs (Ar.dn Ls (Ar.stk Ls (lgT t2) k)) m) N2 = (q, mm, is) := ⟨_, _, _, rfl⟩
    have hd := dn_occ h62 t N
    have hd2 := dn_occ h62 t2 N2
    have happ : is = true → q2 = q ∧ mm2 = mm ∧ is2 = true := fun h => by
      rw [h] at hf
      have := finds_app Ls m hLn t u.data.toList N N2 hNt hNN.1 _ _ hd (by rw [ht2]; exact hd2) q mm hf
      rw [hf2] at this
      injection this with e1 e2
      injection e2 with e2 e3
      exact ⟨e1, e2, e3⟩
    have hlst : ∀ j l fr to_, Ls[j]? = some l → Lg.firstR l t = (fr, to_, true) → is = true ∧ mm ≤ to_ ∧ (to_ = mm → q ≤ j) := fun j l fr to_ h1 h2 => finds_least Ls m hLn hz t N hNt _ hd q mm is hf h1 h2
    have HE := Lib.hid he0
    have HZ : Hid (rs.map Ar.pat = Ls ∧ Ls.length = m ∧ s.data.toList = t ∧ Ar.fi (fun k => Ar.fs (Ar.dn Ls (Ar.stk Ls (lgT t) k)) m) N = (q, mm, is) ∧ s.size = N ∧ (∀ k i l, k ≤ N → Ls[i]? = some l → Lg.occ l t k = Ar.dn Ls (Ar.stk Ls (lgT t) k) i)) := Lib.hid ⟨hLs, hLn, ht, hf, hN, hd⟩
    have HY : Hid (s2.data.toList = t2 ∧ Ar.fi (fun k => Ar.fs (Ar.dn Ls (Ar.stk Ls (lgT t2) k)) m) N2 = (q2, mm2, is2) ∧ s2.size = N2 ∧ N2 ≤ 1000) := Lib.hid ⟨hst, hf2, hN2, hNN.2⟩
    have HM := Lib.hid (And.intro happ hlst)
    clear w0 hl0 hrs hm hsz hs ht hN hu ht2 hst hN2 hNt he0 hLs hLn h62 hz hf hf2 hd hd2 happ hlst hs12 hNN hu5
    go_enter Try.func13, Try.ntmps13
    go_upto_region 2 with (first
      | (go_at_call 45; refine (fewt z0 len0 HI.out.2 hm0 a0 cap0 4 9 (by omega) (by omega) rs HR.out.1 m HR.out.2.1 _ HI.out.1).mono ?_; rintro e W1 ⟨g, c0, rfl, h1, _, hb1⟩; have HB := Lib.hid (And.intro (TX.of_rw h1 HR.out.2.2.2.2) hb1); clear h1 hb1)
      | (go_at_call 16; with_reducible refine (cut_m a1 s 12 (by omega) w1 HS.out.1 12 rfl _).mono ?_; rintro e W1 ⟨rfl, hb1⟩; first | (replace HL := Lib.hid (HL.out.below hb1); replace HX := Lib.hid (HX.out.below hb1); replace HB := Lib.hid (And.intro (HB.out.1.below hb1) (HB.out.2.trans (hb1.mono HB.out.2.size))); clear hb1) | (replace HX := Lib.hid (HX.out.below hb1); replace HB := Lib.hid (And.intro (HB.out.1.below hb1) (HB.out.2.trans (hb1.mono HB.out.2.size))); clear hb1) | (replace HB := Lib.hid (And.intro (HB.out.1.below hb1) (HB.out.2.trans (hb1.mono HB.out.2.size))); clear hb1) | clear hb1)
      | (go_at_call 16; with_reducible refine (cut_m a2 u 5 (by omega) w2 HS.out.2 5 rfl _).mono ?_; rintro e W1 ⟨rfl, hb1⟩; first | (replace HL := Lib.hid (HL.out.below hb1); replace HX := Lib.hid (HX.out.below hb1); replace HB := Lib.hid (And.intro (HB.out.1.below hb1) (HB.out.2.trans (hb1.mono HB.out.2.size))); clear hb1) | (replace HX := Lib.hid (HX.out.below hb1); replace HB := Lib.hid (And.intro (HB.out.1.below hb1) (HB.out.2.trans (hb1.mono HB.out.2.size))); clear hb1) | (replace HB := Lib.hid (And.intro (HB.out.1.below hb1) (HB.out.2.trans (hb1.mono HB.out.2.size))); clear hb1) | clear hb1))
    go_upto_region 4 with (first
      | (go_at_call 45; refine (fewt rs m HR.out.2.1 hmx (some ⟨g, 0, none⟩) c0 4 9 (by omega) (by omega) rs HR.out.2.2.1 m HR.out.2.1 _ HB.out.1).mono ?_; rintro e W1 ⟨g2, c2, rfl, h1, _, hb1⟩; replace HB := Lib.hid (And.intro (HB.out.1.below hb1) (HB.out.2.trans (hb1.mono HB.out.2.size))); clear hb1; have HQ := Lib.hid (TX.of_rw h1 HR.out.2.2.2.2); clear h1)
      | (go_at_call 46; with_reducible refine (ar_new_yes rs m HR.out.2.1 hm8 _ _ HR.out.2.2.2.1 HE.out _ HQ.out).mono ?_; rintro _ W1 ⟨x, gs, cs, b, ca, A, rfl, h1, h2, h3, h4, hb1⟩; rw [HZ.out.1] at h1 h2; have HX := Lib.hid h1; have HA := Lib.hid (And.intro h2 (And.intro (Nat.le_trans HB.out.2.size h3) h4)); replace HB := Lib.hid (And.intro (HB.out.1.below hb1) (HB.out.2.trans (hb1.mono HB.out.2.size))); clear hb1; clear HQ; clear h1 h2 h3 h4)
      | (go_at_call 47; with_reducible refine (rk_new_yes (fun s l h1 h2 X n e h3 w => rp_rdC s l h1 h2 X n e h3 w)  rs m HR.out.2.1 hm8 _ _ HR.out.2.2.2.1 HE.out _ HB.out.1).mono ?_; rintro _ W1 ⟨gl, cl, rfl, h1, hgl, hb1⟩; rw [HZ.out.1] at h1; replace HX := Lib.hid (HX.out.below hb1); replace HB := Lib.hid (And.intro (HB.out.1.below hb1) (HB.out.2.trans (hb1.mono HB.out.2.size))); clear hb1; have HL := Lib.hid h1; clear h1 hgl))
    go_wp2_with (first
      | (go_at_call 54; with_reducible refine (ar_find Ls x gs cs ca m 0 b A HA.out.1 _ hm3 s t N HZ.out.2.2.2.2.1 hN3 HZ.out.2.2.1 q mm is HZ.out.2.2.2.1 _ HX.out).mono ?_; rintro e W1 ⟨rfl, hb1⟩; first | (replace HL := Lib.hid (HL.out.below hb1); replace HX := Lib.hid (HX.out.below hb1); replace HB := Lib.hid (And.intro (HB.out.1.below hb1) (HB.out.2.trans (hb1.mono HB.out.2.size))); clear hb1) | (replace HX := Lib.hid (HX.out.below hb1); replace HB := Lib.hid (And.intro (HB.out.1.below hb1) (HB.out.2.trans (hb1.mono HB.out.2.size))); clear hb1) | (replace HB := Lib.hid (And.intro (HB.out.1.below hb1) (HB.out.2.trans (hb1.mono HB.out.2.size))); clear hb1) | clear hb1)
      | (go_at_call 57; with_reducible refine (rk_find Ls m HZ.out.2.1 hm3 _ cl s t N HZ.out.2.2.2.2.1 hN3 HZ.out.2.2.1 _ HZ.out.2.2.2.2.2 q mm is HZ.out.2.2.2.1 _ HL.out).mono ?_; rintro e W1 ⟨rfl, hb1⟩; first | (replace HL := Lib.hid (HL.out.below hb1); replace HX := Lib.hid (HX.out.below hb1); replace HB := Lib.hid (And.intro (HB.out.1.below hb1) (HB.out.2.trans (hb1.mono HB.out.2.size))); clear hb1) | (replace HX := Lib.hid (HX.out.below hb1); replace HB := Lib.hid (And.intro (HB.out.1.below hb1) (HB.out.2.trans (hb1.mono HB.out.2.size))); clear hb1) | (replace HB := Lib.hid (And.intro (HB.out.1.below hb1) (HB.out.2.trans (hb1.mono HB.out.2.size))); clear hb1) | clear hb1))
    go_loopw [19, 20, 21, 22] (fun i _ _ _ wr => ∃ k : Nat, i = .int .i64 k ∧ k ≤ m ∧ Hid (AR wr x gs cs b ca A m (Ar.st0 Ls) 0 ∧ LL wr (some ⟨gl, 0, none⟩) Ls ∧ Below w.heap.size w wr)) (fun i _ _ _ _ => m - (intOf i).toNat)
    case atStart => exact ⟨0, rfl, by omega, Lib.hid ⟨HX.out, HL.out, HB.out.2⟩⟩
    case round =>
      clear HB HX HL
      obtain ⟨k, rfl, hk, HB⟩ := hrel
      have k0 : (0 : Int) ≤ (k : Int) := by omega
      by_cases hkm : k < m
      · have i1 : (k : Int) < (m : Int) := by omega
        obtain ⟨l, hl⟩ : ∃ l, Ls[k]? = some l := ⟨_, List.getElem?_eq_getElem (by rw [HZ.out.2.1]; exact hkm)⟩
        obtain ⟨h1000, ai, ci, cp, hik⟩ := HB.out.2.1.at0 hl
        obtain ⟨fr, to_, ok, hF⟩ : ∃ x y z, Lg.firstR l t = (x, y, z) := ⟨_, _, _, rfl⟩
        have hlst := HM.out.2 k l fr to_ hl
        have HI := Lib.hid hik
        have HF := Lib.hid hF
        have w1 : IntKind.i64.wrap ((k : Int) + 1) = (k : Int) + 1 := IntWalk.i64_in _ (by omega)
        clear hl hik
        cases ok with
        | false =>
          clear hlst hF
          go_wp2_with (go_at_call 27; with_reducible refine (rg_first l s t hs3 HZ.out.2.2.1 l.length ai ci rfl h1000 fr to_ _ HF.out _ HI.out.ia).mono ?_; rintro e W1 ⟨rfl, hb1⟩; replace HB := Lib.hid (And.intro (HB.out.1.below hb1) (And.intro (HB.out.2.1.below hb1) (HB.out.2.2.trans (hb1.mono HB.out.2.2.size)))); clear hb1)
          refine ⟨?_, ?measure⟩
          case measure => simp [intOf]; omega
          first
            | exact ⟨k + 1, by go_num, by omega, HB⟩
            | ((repeat apply Exists.intro); exact ⟨⟨k + 1, by go_num, by omega, HB⟩, rfl⟩)
        | true =>
          obtain ⟨rfl, hle, hq⟩ := hlst hF
          clear hF
          by_cases hto : to_ = mm
          · subst hto
            have g1 : ¬ (to_ : Int) < (to_ : Int) := by omega
            have g2 : ¬ (k : Int) < (q : Int) := by have := hq rfl; omega
            clear hq
            go_wp2_with (go_at_call 27; with_reducible refine (rg_first l s t hs3 HZ.out.2.2.1 l.length ai ci rfl h1000 fr to_ _ HF.out _ HI.out.ia).mono ?_; rintro e W1 ⟨rfl, hb1⟩; replace HB := Lib.hid (And.intro (HB.out.1.below hb1) (And.intro (HB.out.2.1.below hb1) (HB.out.2.2.trans (hb1.mono HB.out.2.2.size)))); clear hb1)
            refine ⟨?_, ?measure⟩
            case measure => simp [intOf]; omega
            first
              | exact ⟨k + 1, by go_num, by omega, HB⟩
              | ((repeat apply Exists.intro); exact ⟨⟨k + 1, by go_num, by omega, HB⟩, rfl⟩)
          · have g1 : ¬ (to_ : Int) < (mm : Int) := by omega
            have g2 : ¬ (to_ : Int) = (mm : Int) := by omega
            have g3 : ((to_ : Int) == (mm : Int)) = false := by rw [beq_eq_false_iff_ne]; exact g2
            clear hq
            go_wp2_with (go_at_call 27; with_reducible refine (rg_first l s t hs3 HZ.out.2.2.1 l.length ai ci rfl h1000 fr to_ _ HF.out _ HI.out.ia).mono ?_; rintro e W1 ⟨rfl, hb1⟩; replace HB := Lib.hid (And.intro (HB.out.1.below hb1) (And.intro (HB.out.2.1.below hb1) (HB.out.2.2.trans (hb1.mono HB.out.2.2.size)))); clear hb1)
            refine ⟨?_, ?measure⟩
            case measure => simp [intOf]; omega
            first
              | exact ⟨k + 1, by go_num, by omega, HB⟩
              | ((repeat apply Exists.intro); exact ⟨⟨k + 1, by go_num, by omega, HB⟩, rfl⟩)
      · obtain rfl : k = m := by omega
        have i1 : ¬ (k : Int) < (k : Int) := by omega
        have happ := HM.out.1
        cases is with
        | true =>
          obtain ⟨rfl, rfl, rfl⟩ := happ rfl
          go_wp2_with (first
            | (go_at_call 54; with_reducible refine (ar_find Ls x gs cs ca _ 0 b A HA.out.1 _ hm3 s2 t2 N2 HY.out.2.2.1 HY.out.2.2.2 HY.out.1 _ _ _ HY.out.2.1 _ HB.out.1).mono ?_; rintro e W1 ⟨rfl, hb1⟩; replace HB := Lib.hid (And.intro (HB.out.1.below hb1) (And.intro (HB.out.2.1.below hb1) (HB.out.2.2.trans (hb1.mono HB.out.2.2.size)))); clear hb1)
            | (go_at_call 52; with_reducible refine (ar_lives _).mono ?_; rintro e W1 ⟨rfl, hb1⟩; replace HB := Lib.hid (And.intro (HB.out.1.below hb1) (And.intro (HB.out.2.1.below hb1) (HB.out.2.2.trans (hb1.mono HB.out.2.2.size)))); clear hb1))
          go_ret
          exact ⟨rfl, HB.out.2.2⟩
        | false =>
          clear happ
          go_wp2_with (first
            | (go_at_call 54; with_reducible refine (ar_find Ls x gs cs ca _ 0 b A HA.out.1 _ hm3 s2 t2 N2 HY.out.2.2.1 HY.out.2.2.2 HY.out.1 _ _ _ HY.out.2.1 _ HB.out.1).mono ?_; rintro e W1 ⟨rfl, hb1⟩; replace HB := Lib.hid (And.intro (HB.out.1.below hb1) (And.intro (HB.out.2.1.below hb1) (HB.out.2.2.trans (hb1.mono HB.out.2.2.size)))); clear hb1)
            | (go_at_call 52; with_reducible refine (ar_lives _).mono ?_; rintro e W1 ⟨rfl, hb1⟩; replace HB := Lib.hid (And.intro (HB.out.1.below hb1) (And.intro (HB.out.2.1.below hb1) (HB.out.2.2.trans (hb1.mono HB.out.2.2.size)))); clear hb1))
          go_ret
          exact ⟨rfl, HB.out.2.2⟩
  · obtain ⟨K, e, hne⟩ : ∃ K e, Ar.nw rs m = (K, e) := ⟨_, _, rfl⟩
    have he : e ≠ 0 := by rw [hne] at he0; exact he0
    have HE := Lib.hid (And.intro hne he)
    have heI : ((e : Int) == 0) = false := by rw [beq_eq_false_iff_ne]; omega
    have heJ : ((e : Int) != 0) = true := by rw [bne, heI]; rfl
    clear hne he0
    clear w0 hl0 hrs hm hsz hs ht hN hu ht2 hst hN2 hNt hs12 hNN hu5
    go_enter Try.func13, Try.ntmps13
    go_upto_region 2 with (first
      | (go_at_call 45; refine (fewt z0 len0 HI.out.2 hm0 a0 cap0 4 9 (by omega) (by omega) rs HR.out.1 m HR.out.2.1 _ HI.out.1).mono ?_; rintro e W1 ⟨g, c0, rfl, h1, _, hb1⟩; have HB := Lib.hid (And.intro (TX.of_rw h1 HR.out.2.2.2.2) hb1); clear h1 hb1)
      | (go_at_call 16; with_reducible refine (cut_m a1 s 12 (by omega) w1 HS.out.1 12 rfl _).mono ?_; rintro e W1 ⟨rfl, hb1⟩; first | (replace HL := Lib.hid (HL.out.below hb1); replace HX := Lib.hid (HX.out.below hb1); replace HB := Lib.hid (And.intro (HB.out.1.below hb1) (HB.out.2.trans (hb1.mono HB.out.2.size))); clear hb1) | (replace HX := Lib.hid (HX.out.below hb1); replace HB := Lib.hid (And.intro (HB.out.1.below hb1) (HB.out.2.trans (hb1.mono HB.out.2.size))); clear hb1) | (replace HB := Lib.hid (And.intro (HB.out.1.below hb1) (HB.out.2.trans (hb1.mono HB.out.2.size))); clear hb1) | clear hb1)
      | (go_at_call 16; with_reducible refine (cut_m a2 u 5 (by omega) w2 HS.out.2 5 rfl _).mono ?_; rintro e W1 ⟨rfl, hb1⟩; first | (replace HL := Lib.hid (HL.out.below hb1); replace HX := Lib.hid (HX.out.below hb1); replace HB := Lib.hid (And.intro (HB.out.1.below hb1) (HB.out.2.trans (hb1.mono HB.out.2.size))); clear hb1) | (replace HX := Lib.hid (HX.out.below hb1); replace HB := Lib.hid (And.intro (HB.out.1.below hb1) (HB.out.2.trans (hb1.mono HB.out.2.size))); clear hb1) | (replace HB := Lib.hid (And.intro (HB.out.1.below hb1) (HB.out.2.trans (hb1.mono HB.out.2.size))); clear hb1) | clear hb1))
    go_wp2_with (first
      | (go_at_call 45; refine (fewt rs m HR.out.2.1 hmx (some ⟨g, 0, none⟩) c0 4 9 (by omega) (by omega) rs HR.out.2.2.1 m HR.out.2.1 _ HB.out.1).mono ?_; rintro e W1 ⟨g2, c2, rfl, h1, _, hb1⟩; replace HB := Lib.hid (And.intro (HB.out.1.below hb1) (HB.out.2.trans (hb1.mono HB.out.2.size))); clear hb1; have HQ := Lib.hid (TX.of_rw h1 HR.out.2.2.2.2); clear h1)
      | (go_at_call 46; with_reducible refine (ar_new_no rs m HR.out.2.1 hm8 _ _ HR.out.2.2.2.1 K e HE.out.1 HE.out.2 _ HQ.out).mono ?_; rintro _ W1 ⟨rfl, hb1⟩; replace HB := Lib.hid (And.intro (HB.out.1.below hb1) (HB.out.2.trans (hb1.mono HB.out.2.size))); clear hb1; clear HQ)
      | (go_at_call 47; with_reducible refine (rk_new_no (fun s l h1 h2 X n e h3 w => rp_rdC s l h1 h2 X n e h3 w)  rs m HR.out.2.1 hm8 _ _ HR.out.2.2.2.1 K e HE.out.1 HE.out.2 _ HB.out.1).mono ?_; rintro _ W1 ⟨rfl, hb1⟩; replace HB := Lib.hid (And.intro (HB.out.1.below hb1) (HB.out.2.trans (hb1.mono HB.out.2.size))); clear hb1)
      | (go_at_call 52; with_reducible refine (ar_lives _).mono ?_; rintro e W1 ⟨rfl, hb1⟩; replace HB := Lib.hid (And.intro (HB.out.1.below hb1) (HB.out.2.trans (hb1.mono HB.out.2.size))); clear hb1))
    go_ret
    exact ⟨rfl, HB.out.2⟩

set_option maxRecDepth 100000 in
theorem lifted (os : Os) (started : os.Started) (H : Type) (enc : TypeId × Value → H) :
    ReturnsInHanded {} Try.checked os 13 .any (Rows.armsFindsSpec.pre6 enc Try.prog Try.f13 Rows.armsFindsRow.domain false) (Rows.armsFindsSpec.post enc Try.prog Try.f13 false true false false) := by
  refine returnsInHanded_of_change (C := Try.checked) ownKn started (by kernel_rfl) Try.func13
    (ChangeSpec.witness6 (enc := enc) (C := Try.checked) false ⟨#[], #[.slice none 0 0, .string ByteArray.empty, .string ByteArray.empty], []⟩ 8 (by kernel_rfl) (by kernel_rfl) (by kernel_rfl) (by kernel_rfl)) ?_
  intro W base args ds gs before hval0 hW hcnd _
  have hval : ∀ (j : Nat) t v, Try.f13.params[j]? = some t → args[j]? = some v → Value.okWide Try.prog W .any base t v := hval0
  have hW' := hW
  obtain ⟨p, q, hA0, hV, rfl, hfz, hnd⟩ := hW
  have hA : DataW.TrodAll enc Try.prog W 0 (fun _ => true) true Try.f13.params.toList args.toList ds p := hA0
  rw [Try.params13] at hA hval
  obtain ⟨v0, vs0, d0, ds0, p0, q0, hargs, rfl, rfl, h0, r0⟩ := trodAll_cons hA
  obtain ⟨v1, vs1, d1, ds1, p1, q1, rfl, rfl, rfl, h1, r1⟩ := trodAll_cons r0
  obtain ⟨v2, vs2, d2, ds2, p2, q2, rfl, rfl, rfl, h2, r2⟩ := trodAll_cons r1
  obtain ⟨rfl, rfl, rfl⟩ := trodAll_nil r2
  obtain rfl : args = #[v0, v1, v2] := by cases args; simp_all
  obtain ⟨rfl, rfl⟩ := trodVars_none hV
  have k0 := h0
  have lt0 : ∀ x ∈ p0, x.block < W.heap.size := by obtain ⟨m, hm⟩ := k0; exact DataW.trod_lt m _ _ _ hm
  obtain ⟨b0, lb0, cb0, rfl⟩ := okWide_slice Try.underlying57 (hval 0 57 v0 rfl rfl)
  obtain ⟨fu0, hf0⟩ := h0
  simp only [Value.cells] at hf0
  obtain ⟨a0, len0, cap0, z0, e0, w0⟩ := fld_strs Try.underlying57 Try.underlying9 (by kernel_rfl) hf0
  obtain ⟨rfl, rfl, rfl⟩ : b0 = a0 ∧ lb0 = len0 ∧ cb0 = cap0 := by simpa using e0
  have k1 := h1
  have lt1 : ∀ x ∈ p1, x.block < W.heap.size := by obtain ⟨m, hm⟩ := k1; exact DataW.trod_lt m _ _ _ hm
  obtain ⟨a1, rfl, rfl, rfl, w1⟩ := open_string Try.underlying9 (hval 1 9 v1 rfl rfl) h1
  have k2 := h2
  have lt2 : ∀ x ∈ p2, x.block < W.heap.size := by obtain ⟨m, hm⟩ := k2; exact DataW.trod_lt m _ _ _ hm
  obtain ⟨a2, rfl, rfl, rfl, w2⟩ := open_string Try.underlying9 (hval 2 9 v2 rfl rfl) h2
  clear hA0 hval0
  refine (walk b0 lb0 cb0 z0 a1 a2 W w0 w1 w2).mono fun e W' ⟨he, bel⟩ => ?_
  subst he
  exact ⟨_, rfl, _, _, _, [], _, [], hW', trodAll_mk1 (shut_bool Try.underlying4 _), (trodAll_cons_mk (Below.trod laidOut (by kernel_rfl) (of_decide_eq_true (by kernel_rfl)) k0 bel lt0) (trodAll_cons_mk (Below.trod laidOut (by kernel_rfl) (of_decide_eq_true (by kernel_rfl)) k1 bel lt1) (trodAll_cons_mk (Below.trod laidOut (by kernel_rfl) (of_decide_eq_true (by kernel_rfl)) k2 bel lt2) trodAll_mk0))), rfl, bel.frame _, fun h => by cases h⟩

theorem over : Rows.armsFindsRow.holds Try.pinned (OpenSpec.ofChange Rows.armsFindsSpec) :=
  OpenClaim.holds_of_wide 13 Try.f13 rfl rfl rfl rfl rfl rfl rfl ⟨rfl, rfl, rfl, rfl, rfl⟩ rfl rfl rfl rfl rfl (by kernel_rfl) Try.func13 (by kernel_rfl)
    (of_decide_eq_true (by kernel_rfl)) (by unfold Func.isWrapper; first | (rw [if_pos (by decide +kernel)]; kernel_rfl) | (rw [if_neg (by decide +kernel)]; exact ⟨rfl, rfl⟩))
    (fun os started H enc _ => lifted os started H enc)

/-- The statement. -/
theorem proved : Rows.ArmsFindsSaid := over
#print axioms proved
end Go.Proofs.Ytjedjnpepjdgeaa.armsFinds
