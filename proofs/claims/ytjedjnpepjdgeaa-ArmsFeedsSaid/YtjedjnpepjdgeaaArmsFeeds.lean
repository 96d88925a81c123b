/- P10.2, P10.3: for every list of texts (its first 4, each cut to 9 bytes), every text (cut to 14 bytes) and every number: which pattern is told behind each byte, also behind Reset, and behind what Find looked at, is as the document says. No condition. -/
import Derived.Test.YtjedjnpepjdgeaaOpen
import Derived.WalkKit
import Derived.ProofKit
import Derived.OpenShut
import Derived.Test.YtjedjnpepjdgeaaArC
import Derived.Test.YtjedjnpepjdgeaaGp13
namespace Go.Proofs.Ytjedjnpepjdgeaa.armsFeeds
open Go.Joins Go.ChangeShapes Go.WideShapes Go.ChangeAt Go.RowKit Go.Deep
open Go.ChangeMaps (open_string)
set_option linter.unusedSimpArgs false
set_option linter.unusedVariables false

set_option maxRecDepth 20000 in
set_option maxHeartbeats 16000000 in

theorem walk (a0 : Option Addr) (len0 cap0 : Nat) (z0 : List ByteArray) (a1 : ByteArray) (a2 : Int) (w : World) (w0 : IsStrs w a0 len0 cap0 z0) (w1 : a1.size ≤ maxLen) (w2 : (Lit.int .u8 a2).wf = true) :
    Calls Try.prog 12 #[.slice a0 len0 cap0, .string a1, .int .u8 a2] w fun e w' => e = .returned (.bool true) ∧ Below w.heap.size w w' := by
  have hl0 : z0.length = len0 := w0.1
  have hm0 : len0 ≤ maxLen := Nat.le_trans w0.2.1 w0.2.2.1
  have HI : Hid (TX w a0 z0 ∧ z0.length = len0) := Lib.hid ⟨tx_in w0, hl0⟩
  obtain ⟨rs, hrs⟩ : ∃ rs, fewT z0 4 9 = rs := ⟨_, rfl⟩
  obtain ⟨m, hm⟩ : ∃ m, rs.length = m := ⟨_, rfl⟩
  have hm10 : m ≤ 4 := by rw [← hm, ← hrs]; exact fewT_len _ _ _
  have hsz : ∀ s ∈ rs, s.size ≤ 9 := by rw [← hrs]; exact fewT_long
  have hmx : m ≤ maxLen := by unfold maxLen; omega
  have HR : Hid (fewT z0 4 9 = rs ∧ rs.length = m ∧ fewT rs 4 9 = rs ∧ (∀ s ∈ rs, s.size ≤ 1000000) ∧ (∀ s ∈ rs, s.size ≤ maxLen)) := Lib.hid ⟨hrs, hm, fewT_self _ _ _ (by omega) hsz, fun s hs => by have := hsz s hs; omega, fun s hs => by have := hsz s hs; unfold maxLen; omega⟩
  have hm8 : m ≤ 8 := by omega
  have hm3 : m ≤ 1000 := by omega
  obtain ⟨s, hs⟩ : ∃ s, cutT a1 14 = s := ⟨_, rfl⟩
  have hs12 : s.size ≤ 14 := by rw [← hs]; exact cutT_le _ _
  obtain ⟨t, ht⟩ : ∃ t, s.data.toList = t := ⟨_, rfl⟩
  obtain ⟨N, hN⟩ : ∃ N, s.size = N := ⟨_, rfl⟩
  have hNt : t.length = N := by rw [← ht]; simpa using hN
  have hN3 : N ≤ 1000 := by omega
  have hs3 : s.size ≤ 1000 := by omega
  have HS : Hid (cutT a1 14 = s ∧ True) := Lib.hid ⟨hs, trivial⟩
  by_cases he0 : (Ar.nw rs m).2 = 0
  · obtain ⟨Ls, hLs⟩ : ∃ Ls, rs.map Ar.pat = Ls := ⟨_, rfl⟩
    have hLn : Ls.length = m := by rw [← hLs, List.length_map]; exact hm
    obtain ⟨h62, hz⟩ := pats_ok hm he0
    rw [hLs] at h62 hz
    obtain ⟨y, rfl, hy⟩ : ∃ y : Nat, a2 = (y : Int) ∧ y < 256 := by have := wf_u8 w2; exact ⟨a2.toNat, by omega, by omega⟩
    obtain ⟨yy, hyy⟩ : ∃ yy, y % 16 = yy := ⟨_, rfl⟩
    have y16 : yy < 16 := by omega
    have y1 : (y : Int).tmod 16 = (yy : Int) := by rw [← hyy]; exact tmod_nat y 16
    have y2 : IntKind.u8.wrap (yy : Int) = (yy : Int) := by simp [IntKind.wrap, IntKind.signed, IntKind.bits]; omega
    have y3 : IntKind.i64.wrap (yy : Int) = (yy : Int) := IntWalk.i64_in _ (by omega)
    obtain ⟨q, mm, is, hf⟩ : ∃ q mm is, Ar.fi (fun k => Ar.fs (Ar.dn Ls (Ar.stk Ls (lgT t) k)) m) N = (q, mm, is) := ⟨_, _, _, rfl⟩
    have HE := Lib.hid he0
    have HZ : Hid (rs.map Ar.pat = Ls ∧ Ls.length = m ∧ s.data.toList = t ∧ s.size = N) := Lib.hid ⟨hLs, hLn, ht, hN⟩
    have HM : Hid (Ar.fi (fun k => Ar.fs (Ar.dn Ls (Ar.stk Ls (lgT t) k)) m) N = (q, mm, is) ∧ (∀ l ∈ Ls, l.length ≤ 62) ∧ t.length = N) := Lib.hid ⟨hf, h62, hNt⟩
    clear w0 hl0 hrs hm hsz hs ht hN hNt he0 hLs hLn h62 hz hf hs12 w2 hyy
    go_enter Try.func12, Try.ntmps12
    go_upto_region 2 with (first
      | (go_at_call 45; refine (fewt z0 len0 HI.out.2 hm0 a0 cap0 4 9 (by omega) (by omega) rs HR.out.1 m HR.out.2.1 _ HI.out.1).mono ?_; rintro e W1 ⟨g, c0, rfl, h1, _, hb1⟩; have HB := Lib.hid (And.intro (TX.of_rw h1 HR.out.2.2.2.2) hb1); clear h1 hb1)
      | (go_at_call 16; with_reducible refine (cut_m a1 s 14 (by omega) w1 HS.out.1 14 rfl _).mono ?_; rintro e W1 ⟨rfl, hb1⟩; first | (replace HL := Lib.hid (HL.out.below hb1); replace HX := Lib.hid (HX.out.below hb1); replace HB := Lib.hid (And.intro (HB.out.1.below hb1) (HB.out.2.trans (hb1.mono HB.out.2.size))); clear hb1) | (replace HX := Lib.hid (HX.out.below hb1); replace HB := Lib.hid (And.intro (HB.out.1.below hb1) (HB.out.2.trans (hb1.mono HB.out.2.size))); clear hb1) | (replace HB := Lib.hid (And.intro (HB.out.1.below hb1) (HB.out.2.trans (hb1.mono HB.out.2.size))); clear hb1) | clear hb1))
    go_upto_region 4 with (first
      | (go_at_call 45; refine (fewt rs m HR.out.2.1 hmx (some ⟨g, 0, none⟩) c0 4 9 (by omega) (by omega) rs HR.out.2.2.1 m HR.out.2.1 _ HB.out.1).mono ?_; rintro e W1 ⟨g2, c2, rfl, h1, _, hb1⟩; replace HB := Lib.hid (And.intro (HB.out.1.below hb1) (HB.out.2.trans (hb1.mono HB.out.2.size))); clear hb1; have HQ := Lib.hid (TX.of_rw h1 HR.out.2.2.2.2); clear h1)
      | (go_at_call 46; with_reducible refine (ar_new_yes rs m HR.out.2.1 hm8 _ _ HR.out.2.2.2.1 HE.out _ HQ.out).mono ?_; rintro _ W1 ⟨x, gs, cs, b, ca, A, rfl, h1, h2, h3, h4, hb1⟩; rw [HZ.out.1] at h1 h2; have HX := Lib.hid h1; have HA := Lib.hid (And.intro h2 (And.intro (Nat.le_trans HB.out.2.size h3) h4)); replace HB := Lib.hid (And.intro (HB.out.1.below hb1) (HB.out.2.trans (hb1.mono HB.out.2.size))); clear hb1; clear HQ; clear h1 h2 h3 h4)
      | (go_at_call 47; with_reducible refine (rk_new_yes (fun s l h1 h2 X n e h3 w => rp_rdC s l h1 h2 X n e h3 w)  rs m HR.out.2.1 hm8 _ _ HR.out.2.2.2.1 HE.out _ HB.out.1).mono ?_; rintro _ W1 ⟨gl, cl, rfl, h1, hgl, hb1⟩; rw [HZ.out.1] at h1; have HN := Lib.hid (ar_apart HX.out hgl HA.out.2.1 HA.out.2.2); replace HX := Lib.hid (HX.out.below hb1); replace HB := Lib.hid (And.intro (HB.out.1.below hb1) (HB.out.2.trans (hb1.mono HB.out.2.size))); clear hb1; have HL := Lib.hid h1; clear h1 hgl))
    go_wp2_with fail
    go_loopw [13, 14, 15, 16, 17] (fun fr i _ _ _ wr => ∃ F0 k : Nat, fr = .int .i64 F0 ∧ i = .int .i64 k ∧ F0 ≤ k ∧ k ≤ N ∧ Hid (AR wr x gs cs b ca A m (Ar.stk Ls (lgT (t.drop F0)) (k - F0)) (k - F0) ∧ LL wr (some ⟨gl, 0, none⟩) Ls ∧ Below w.heap.size w wr)) (fun _ i _ _ _ _ => N - (intOf i).toNat)
    case atStart => exact ⟨0, 0, rfl, rfl, by omega, by omega, Lib.hid ⟨HX.out, HL.out, HB.out.2⟩⟩
    case round =>
      clear HB HX HL
      obtain ⟨F0, k, rfl, rfl, hF, hk, HB⟩ := hrel
      have k0 : (0 : Int) ≤ (k : Int) := by omega
      by_cases hkN : k < N
      · have i1 : (k : Int) < (N : Int) := by omega
        by_cases hq : k = yy
        · subst hq
          obtain ⟨c, hc⟩ : ∃ c, c = 0 := ⟨_, rfl⟩
          obtain ⟨f, hf⟩ : ∃ f, Ar.stk Ls (lgT (t.drop k)) c = f := ⟨_, rfl⟩
          obtain ⟨c0, hc0⟩ : ∃ c0, k - F0 = c0 := ⟨_, rfl⟩
          obtain ⟨f0, hf0⟩ : ∃ f0, Ar.stk Ls (lgT (t.drop F0)) c0 = f0 := ⟨_, rfl⟩
          rw [hc0, hf0] at HB
          have HQ2 : Hid (Ar.st0 Ls = f ∧ 0 = c) := Lib.hid ⟨by rw [← hf, hc]; rfl, hc.symm⟩
          have hFc : k + c = k := by omega
          have j2 : ((k : Int) == (k : Int)) = true := by rw [beq_iff_eq]
          clear hc0 hf0 hF
          obtain ⟨T, hT⟩ : ∃ T, t.drop k = T := ⟨_, rfl⟩
          have hTl : T.length = N - k := by rw [← hT, List.length_drop, HM.out.2.2]
          obtain ⟨c1, hc1⟩ : ∃ c1, c + 1 = c1 := ⟨_, rfl⟩
          obtain ⟨f2, hf2⟩ : ∃ f2, Ar.stk Ls (lgT T) c1 = f2 := ⟨_, rfl⟩
          obtain ⟨bb, hbb⟩ : ∃ bb, (lgT T c).toNat = bb := ⟨_, rfl⟩
          have hbb2 : bb < 256 := by rw [← hbb]; exact (lgT T c).toNat_lt
          have hks : k < s.size := by rw [HZ.out.2.2.2]; exact hkN
          have cb : (s[k].toNat : Int) = (bb : Int) := by rw [lgT_at HZ.out.2.2.1 hks, ← hbb, ← hT, lgT_drop, hFc]
          obtain ⟨⟨r, ok⟩, hr⟩ : ∃ z, Ar.fs (Ar.dn Ls f2) m = z := ⟨_, rfl⟩
          have hst : Ar.stp Ls bb f = f2 := by rw [← hf2, ← hbb, ← hc1, ← hf, ← hT]; rfl
          obtain ⟨u, hu⟩ : ∃ u, s.extract k (k + 1) = u := ⟨_, rfl⟩
          obtain ⟨v, hv⟩ : ∃ v, T.take c1 = v := ⟨_, rfl⟩
          have huv : u.data.toList = v := by rw [take_ext s u k (k + 1) hu, HZ.out.2.2.1, hT, ← hv]; congr 1; omega
          have hus : u.size = c1 := by rw [← hu, ByteArray.size_extract, HZ.out.2.2.2]; omega
          have hus3 : u.size ≤ 1000 := by rw [hus]; omega
          have hd : ∀ i l, Ls[i]? = some l → Lg.occ l v u.size = Ar.dn Ls f2 i := by rw [hus]; exact here_at HM.out.2.1 t k c1 (by rw [hT, hTl]; omega) v (by rw [hT]; exact hv) f2 (by rw [hT]; exact hf2)
          have HW : Hid (Ar.stp Ls bb f = f2 ∧ Ar.fs (Ar.dn Ls f2) m = (r, ok) ∧ s.extract k (k + 1) = u ∧ u.data.toList = v ∧ (∀ i l, Ls[i]? = some l → Lg.occ l v u.size = Ar.dn Ls f2 i) ∧ Ar.stk Ls (lgT (t.drop k)) (k + 1 - k) = f2 ∧ k + 1 - k = c1 ∧ c + 1 = c1) := Lib.hid ⟨hst, hr, hu, huv, hd, by rw [hT, ← hf2]; congr 1; omega, by omega, hc1⟩
          have q1 : IntKind.i64.wrap ((k : Int) + 1) = (k : Int) + 1 := IntWalk.i64_in _ (by omega)
          have q2 : IntKind.i64.wrap ((k : Int) + 1 - (k : Int)) = (c1 : Int) := by rw [IntWalk.i64_in _ (by omega)]; omega
          have q3 : (0 : Int) ≤ (k : Int) := by omega
          have q4 : (k : Int) ≤ (k : Int) + 1 := by omega
          have q5 : (k : Int) + 1 ≤ (N : Int) := by omega
          have q6 : k ≤ k + 1 := by omega
          have q7 : k + 1 ≤ N := by omega
          have q8 : (k : Int) < (N : Int) := by omega
          have q9 : c ≤ 1000000 := by omega
          have r0 : (0 : Int) ≤ (r : Int) := by omega
          have hcc : (c1 : Int) = 1 := by omega
          clear hT hTl hc1 hf2 hbb hst hu hv huv hus hd hf hFc hc
          cases ok with
          | true =>
            have HR : Hid (r = r) := Lib.hid rfl
            go_wp2_with (first
              | (go_at_call 53; with_reducible refine (ar_reset2 Ls x gs cs ca m _ b A HA.out.1 _ f HQ2.out.1 hm3 _ HB.out.1).mono ?_; rintro e W1 ⟨rfl, h1, h2⟩; rw [HQ2.out.2] at h1; replace HB := Lib.hid (And.intro h1 (And.intro (LL.feed HB.out.2.1 HZ.out.2.1 HB.out.1 HN.out.1 HN.out.2.1 h2) (Chg.onto HB.out.2.2 h2 HB.out.2.2.size HN.out.2.2))); clear h1 h2)
              | (go_at_call 54; with_reducible refine (ar_find Ls x gs cs ca m c b A HA.out.1 _ hm3 s t N HZ.out.2.2.2 hN3 HZ.out.2.2.1 _ _ _ HM.out.1 _ HB.out.1).mono ?_; rintro e W1 ⟨rfl, hb1⟩; replace HB := Lib.hid (And.intro (HB.out.1.below hb1) (And.intro (HB.out.2.1.below hb1) (HB.out.2.2.trans (hb1.mono HB.out.2.2.size)))); clear hb1)
              | (go_at_call 55; with_reducible refine (ar_feed2 Ls x gs cs ca m c b A HA.out.1 f f2 bb hbb2 HW.out.1 hm3 q9 r true HW.out.2.1 _ HB.out.1).mono ?_; rintro e W1 ⟨rfl, h1, h2⟩; rw [HW.out.2.2.2.2.2.2.2] at h1; replace HB := Lib.hid (And.intro h1 (And.intro (LL.feed HB.out.2.1 HZ.out.2.1 HB.out.1 HN.out.1 HN.out.2.1 h2) (Chg.onto HB.out.2.2 h2 HB.out.2.2.size HN.out.2.2))); clear h1 h2)
              | (go_at_call 56; rw [HW.out.2.2.1]; with_reducible refine (rk_here Ls m HZ.out.2.1 hm3 _ cl u v hus3 HW.out.2.2.2.1 (Ar.dn Ls f2) HW.out.2.2.2.2.1 r true HW.out.2.1 (r : Int) (by simp) _ HB.out.2.1).mono ?_; rintro e W1 ⟨rfl, hb1⟩; replace HB := Lib.hid (And.intro (HB.out.1.below hb1) (And.intro (HB.out.2.1.below hb1) (HB.out.2.2.trans (hb1.mono HB.out.2.2.size)))); clear hb1)
              | (go_at_call 49; with_reducible refine (ar_fed x gs cs ca m c1 b A _ _ HB.out.1).mono ?_; rintro e W1 ⟨rfl, hb1⟩; replace HB := Lib.hid (And.intro (HB.out.1.below hb1) (And.intro (HB.out.2.1.below hb1) (HB.out.2.2.trans (hb1.mono HB.out.2.2.size)))); clear hb1))
            refine ⟨?_, ?measure⟩
            case measure => simp [intOf]; omega
            first
              | exact ⟨k, k + 1, by go_num, by go_num, by omega, by omega, Lib.hid ⟨by rw [HW.out.2.2.2.2.2.1, HW.out.2.2.2.2.2.2.1]; exact HB.out.1, HB.out.2.1, HB.out.2.2⟩⟩
              | ((repeat apply Exists.intro); exact ⟨⟨k, k + 1, by go_num, by go_num, by omega, by omega, Lib.hid ⟨by rw [HW.out.2.2.2.2.2.1, HW.out.2.2.2.2.2.2.1]; exact HB.out.1, HB.out.2.1, HB.out.2.2⟩⟩, rfl⟩)
          | false =>
            have r00 : (r : Int) = 0 := by rw [fs_zero HW.out.2.1]; rfl
            go_wp2_with (first
              | (go_at_call 53; with_reducible refine (ar_reset2 Ls x gs cs ca m _ b A HA.out.1 _ f HQ2.out.1 hm3 _ HB.out.1).mono ?_; rintro e W1 ⟨rfl, h1, h2⟩; rw [HQ2.out.2] at h1; replace HB := Lib.hid (And.intro h1 (And.intro (LL.feed HB.out.2.1 HZ.out.2.1 HB.out.1 HN.out.1 HN.out.2.1 h2) (Chg.onto HB.out.2.2 h2 HB.out.2.2.size HN.out.2.2))); clear h1 h2)
              | (go_at_call 54; with_reducible refine (ar_find Ls x gs cs ca m c b A HA.out.1 _ hm3 s t N HZ.out.2.2.2 hN3 HZ.out.2.2.1 _ _ _ HM.out.1 _ HB.out.1).mono ?_; rintro e W1 ⟨rfl, hb1⟩; replace HB := Lib.hid (And.intro (HB.out.1.below hb1) (And.intro (HB.out.2.1.below hb1) (HB.out.2.2.trans (hb1.mono HB.out.2.2.size)))); clear hb1)
              | (go_at_call 55; with_reducible refine (ar_feed2 Ls x gs cs ca m c b A HA.out.1 f f2 bb hbb2 HW.out.1 hm3 q9 r false HW.out.2.1 _ HB.out.1).mono ?_; rintro e W1 ⟨rfl, h1, h2⟩; rw [HW.out.2.2.2.2.2.2.2] at h1; replace HB := Lib.hid (And.intro h1 (And.intro (LL.feed HB.out.2.1 HZ.out.2.1 HB.out.1 HN.out.1 HN.out.2.1 h2) (Chg.onto HB.out.2.2 h2 HB.out.2.2.size HN.out.2.2))); clear h1 h2)
              | (go_at_call 56; rw [HW.out.2.2.1]; with_reducible refine (rk_here Ls m HZ.out.2.1 hm3 _ cl u v hus3 HW.out.2.2.2.1 (Ar.dn Ls f2) HW.out.2.2.2.2.1 r false HW.out.2.1 (-1) (by simp) _ HB.out.2.1).mono ?_; rintro e W1 ⟨rfl, hb1⟩; replace HB := Lib.hid (And.intro (HB.out.1.below hb1) (And.intro (HB.out.2.1.below hb1) (HB.out.2.2.trans (hb1.mono HB.out.2.2.size)))); clear hb1)
              | (go_at_call 49; with_reducible refine (ar_fed x gs cs ca m c1 b A _ _ HB.out.1).mono ?_; rintro e W1 ⟨rfl, hb1⟩; replace HB := Lib.hid (And.intro (HB.out.1.below hb1) (And.intro (HB.out.2.1.below hb1) (HB.out.2.2.trans (hb1.mono HB.out.2.2.size)))); clear hb1))
            refine ⟨?_, ?measure⟩
            case measure => simp [intOf]; omega
            first
              | exact ⟨k, k + 1, by go_num, by go_num, by omega, by omega, Lib.hid ⟨by rw [HW.out.2.2.2.2.2.1, HW.out.2.2.2.2.2.2.1]; exact HB.out.1, HB.out.2.1, HB.out.2.2⟩⟩
              | ((repeat apply Exists.intro); exact ⟨⟨k, k + 1, by go_num, by go_num, by omega, by omega, Lib.hid ⟨by rw [HW.out.2.2.2.2.2.1, HW.out.2.2.2.2.2.2.1]; exact HB.out.1, HB.out.2.1, HB.out.2.2⟩⟩, rfl⟩)
        · obtain ⟨c, hc⟩ : ∃ c, k - F0 = c := ⟨_, rfl⟩
          obtain ⟨F2, hF2⟩ : ∃ F2, F0 = F2 := ⟨_, rfl⟩
          subst hF2
          obtain ⟨f, hf⟩ : ∃ f, Ar.stk Ls (lgT (t.drop F0)) c = f := ⟨_, rfl⟩
          rw [hc, hf] at HB
          have hFc : F0 + c = k := by omega
          have j1 : ¬ (k : Int) = (yy : Int) := by omega
          have j2 : ((k : Int) == (yy : Int)) = false := by rw [beq_eq_false_iff_ne]; exact j1
          obtain ⟨T, hT⟩ : ∃ T, t.drop F0 = T := ⟨_, rfl⟩
          have hTl : T.length = N - F0 := by rw [← hT, List.length_drop, HM.out.2.2]
          obtain ⟨c1, hc1⟩ : ∃ c1, c + 1 = c1 := ⟨_, rfl⟩
          obtain ⟨f2, hf2⟩ : ∃ f2, Ar.stk Ls (lgT T) c1 = f2 := ⟨_, rfl⟩
          obtain ⟨bb, hbb⟩ : ∃ bb, (lgT T c).toNat = bb := ⟨_, rfl⟩
          have hbb2 : bb < 256 := by rw [← hbb]; exact (lgT T c).toNat_lt
          have hks : k < s.size := by rw [HZ.out.2.2.2]; exact hkN
          have cb : (s[k].toNat : Int) = (bb : Int) := by rw [lgT_at HZ.out.2.2.1 hks, ← hbb, ← hT, lgT_drop, hFc]
          obtain ⟨⟨r, ok⟩, hr⟩ : ∃ z, Ar.fs (Ar.dn Ls f2) m = z := ⟨_, rfl⟩
          have hst : Ar.stp Ls bb f = f2 := by rw [← hf2, ← hbb, ← hc1, ← hf, ← hT]; rfl
          obtain ⟨u, hu⟩ : ∃ u, s.extract F0 (k + 1) = u := ⟨_, rfl⟩
          obtain ⟨v, hv⟩ : ∃ v, T.take c1 = v := ⟨_, rfl⟩
          have huv : u.data.toList = v := by rw [take_ext s u F0 (k + 1) hu, HZ.out.2.2.1, hT, ← hv]; congr 1; omega
          have hus : u.size = c1 := by rw [← hu, ByteArray.size_extract, HZ.out.2.2.2]; omega
          have hus3 : u.size ≤ 1000 := by rw [hus]; omega
          have hd : ∀ i l, Ls[i]? = some l → Lg.occ l v u.size = Ar.dn Ls f2 i := by rw [hus]; exact here_at HM.out.2.1 t F0 c1 (by rw [hT, hTl]; omega) v (by rw [hT]; exact hv) f2 (by rw [hT]; exact hf2)
          have HW : Hid (Ar.stp Ls bb f = f2 ∧ Ar.fs (Ar.dn Ls f2) m = (r, ok) ∧ s.extract F0 (k + 1) = u ∧ u.data.toList = v ∧ (∀ i l, Ls[i]? = some l → Lg.occ l v u.size = Ar.dn Ls f2 i) ∧ Ar.stk Ls (lgT (t.drop F0)) (k + 1 - F0) = f2 ∧ k + 1 - F0 = c1 ∧ c + 1 = c1) := Lib.hid ⟨hst, hr, hu, huv, hd, by rw [hT, ← hf2]; congr 1; omega, by omega, hc1⟩
          have q1 : IntKind.i64.wrap ((k : Int) + 1) = (k : Int) + 1 := IntWalk.i64_in _ (by omega)
          have q2 : IntKind.i64.wrap ((k : Int) + 1 - (F0 : Int)) = (c1 : Int) := by rw [IntWalk.i64_in _ (by omega)]; omega
          have q3 : (0 : Int) ≤ (F0 : Int) := by omega
          have q4 : (F0 : Int) ≤ (k : Int) + 1 := by omega
          have q5 : (k : Int) + 1 ≤ (N : Int) := by omega
          have q6 : F0 ≤ k + 1 := by omega
          have q7 : k + 1 ≤ N := by omega
          have q8 : (k : Int) < (N : Int) := by omega
          have q9 : c ≤ 1000000 := by omega
          have r0 : (0 : Int) ≤ (r : Int) := by omega
          clear hT hTl hc1 hf2 hbb hst hu hv huv hus hd hf hFc hc
          cases ok with
          | true =>
            have HR : Hid (r = r) := Lib.hid rfl
            go_wp2_with (first
              | (go_at_call 54; with_reducible refine (ar_find Ls x gs cs ca m c b A HA.out.1 _ hm3 s t N HZ.out.2.2.2 hN3 HZ.out.2.2.1 _ _ _ HM.out.1 _ HB.out.1).mono ?_; rintro e W1 ⟨rfl, hb1⟩; replace HB := Lib.hid (And.intro (HB.out.1.below hb1) (And.intro (HB.out.2.1.below hb1) (HB.out.2.2.trans (hb1.mono HB.out.2.2.size)))); clear hb1)
              | (go_at_call 55; with_reducible refine (ar_feed2 Ls x gs cs ca m c b A HA.out.1 f f2 bb hbb2 HW.out.1 hm3 q9 r true HW.out.2.1 _ HB.out.1).mono ?_; rintro e W1 ⟨rfl, h1, h2⟩; rw [HW.out.2.2.2.2.2.2.2] at h1; replace HB := Lib.hid (And.intro h1 (And.intro (LL.feed HB.out.2.1 HZ.out.2.1 HB.out.1 HN.out.1 HN.out.2.1 h2) (Chg.onto HB.out.2.2 h2 HB.out.2.2.size HN.out.2.2))); clear h1 h2)
              | (go_at_call 56; rw [HW.out.2.2.1]; with_reducible refine (rk_here Ls m HZ.out.2.1 hm3 _ cl u v hus3 HW.out.2.2.2.1 (Ar.dn Ls f2) HW.out.2.2.2.2.1 r true HW.out.2.1 (r : Int) (by simp) _ HB.out.2.1).mono ?_; rintro e W1 ⟨rfl, hb1⟩; replace HB := Lib.hid (And.intro (HB.out.1.below hb1) (And.intro (HB.out.2.1.below hb1) (HB.out.2.2.trans (hb1.mono HB.out.2.2.size)))); clear hb1)
              | (go_at_call 49; with_reducible refine (ar_fed x gs cs ca m c1 b A _ _ HB.out.1).mono ?_; rintro e W1 ⟨rfl, hb1⟩; replace HB := Lib.hid (And.intro (HB.out.1.below hb1) (And.intro (HB.out.2.1.below hb1) (HB.out.2.2.trans (hb1.mono HB.out.2.2.size)))); clear hb1))
            refine ⟨?_, ?measure⟩
            case measure => simp [intOf]; omega
            first
              | exact ⟨F0, k + 1, by go_num, by go_num, by omega, by omega, Lib.hid ⟨by rw [HW.out.2.2.2.2.2.1, HW.out.2.2.2.2.2.2.1]; exact HB.out.1, HB.out.2.1, HB.out.2.2⟩⟩
              | ((repeat apply Exists.intro); exact ⟨⟨F0, k + 1, by go_num, by go_num, by omega, by omega, Lib.hid ⟨by rw [HW.out.2.2.2.2.2.1, HW.out.2.2.2.2.2.2.1]; exact HB.out.1, HB.out.2.1, HB.out.2.2⟩⟩, rfl⟩)
          | false =>
            have r00 : (r : Int) = 0 := by rw [fs_zero HW.out.2.1]; rfl
            go_wp2_with (first
              | (go_at_call 54; with_reducible refine (ar_find Ls x gs cs ca m c b A HA.out.1 _ hm3 s t N HZ.out.2.2.2 hN3 HZ.out.2.2.1 _ _ _ HM.out.1 _ HB.out.1).mono ?_; rintro e W1 ⟨rfl, hb1⟩; replace HB := Lib.hid (And.intro (HB.out.1.below hb1) (And.intro (HB.out.2.1.below hb1) (HB.out.2.2.trans (hb1.mono HB.out.2.2.size)))); clear hb1)
              | (go_at_call 55; with_reducible refine (ar_feed2 Ls x gs cs ca m c b A HA.out.1 f f2 bb hbb2 HW.out.1 hm3 q9 r false HW.out.2.1 _ HB.out.1).mono ?_; rintro e W1 ⟨rfl, h1, h2⟩; rw [HW.out.2.2.2.2.2.2.2] at h1; replace HB := Lib.hid (And.intro h1 (And.intro (LL.feed HB.out.2.1 HZ.out.2.1 HB.out.1 HN.out.1 HN.out.2.1 h2) (Chg.onto HB.out.2.2 h2 HB.out.2.2.size HN.out.2.2))); clear h1 h2)
              | (go_at_call 56; rw [HW.out.2.2.1]; with_reducible refine (rk_here Ls m HZ.out.2.1 hm3 _ cl u v hus3 HW.out.2.2.2.1 (Ar.dn Ls f2) HW.out.2.2.2.2.1 r false HW.out.2.1 (-1) (by simp) _ HB.out.2.1).mono ?_; rintro e W1 ⟨rfl, hb1⟩; replace HB := Lib.hid (And.intro (HB.out.1.below hb1) (And.intro (HB.out.2.1.below hb1) (HB.out.2.2.trans (hb1.mono HB.out.2.2.size)))); clear hb1)
              | (go_at_call 49; with_reducible refine (ar_fed x gs cs ca m c1 b A _ _ HB.out.1).mono ?_; rintro e W1 ⟨rfl, hb1⟩; replace HB := Lib.hid (And.intro (HB.out.1.below hb1) (And.intro (HB.out.2.1.below hb1) (HB.out.2.2.trans (hb1.mono HB.out.2.2.size)))); clear hb1))
            refine ⟨?_, ?measure⟩
            case measure => simp [intOf]; omega
            first
              | exact ⟨F0, k + 1, by go_num, by go_num, by omega, by omega, Lib.hid ⟨by rw [HW.out.2.2.2.2.2.1, HW.out.2.2.2.2.2.2.1]; exact HB.out.1, HB.out.2.1, HB.out.2.2⟩⟩
              | ((repeat apply Exists.intro); exact ⟨⟨F0, k + 1, by go_num, by go_num, by omega, by omega, Lib.hid ⟨by rw [HW.out.2.2.2.2.2.1, HW.out.2.2.2.2.2.2.1]; exact HB.out.1, HB.out.2.1, HB.out.2.2⟩⟩, rfl⟩)
      · obtain rfl : k = N := by omega
        have i1 : ¬ (k : Int) < (k : Int) := by omega
        have i2 : ¬ k < s.size := by rw [HZ.out.2.2.2]; omega
        have i3 : ¬ (k : Int) < (s.size : Int) := by omega
        go_wp2_with (go_at_call 52; with_reducible refine (ar_lives _).mono ?_; rintro e W1 ⟨rfl, hb1⟩; replace HB := Lib.hid (And.intro (HB.out.1.below hb1) (And.intro (HB.out.2.1.below hb1) (HB.out.2.2.trans (hb1.mono HB.out.2.2.size)))); clear hb1)
        go_ret
        exact ⟨rfl, HB.out.2.2⟩
  · obtain ⟨K, e, hne⟩ : ∃ K e, Ar.nw rs m = (K, e) := ⟨_, _, rfl⟩
    have he : e ≠ 0 := by rw [hne] at he0; exact he0
    have HE := Lib.hid (And.intro hne he)
    have heI : ((e : Int) == 0) = false := by rw [beq_eq_false_iff_ne]; omega
    have heJ : ((e : Int) != 0) = true := by rw [bne, heI]; rfl
    clear hne he0
    clear w0 hl0 hrs hm hsz hs ht hN hNt hs12
    go_enter Try.func12, Try.ntmps12
    go_upto_region 2 with (first
      | (go_at_call 45; refine (fewt z0 len0 HI.out.2 hm0 a0 cap0 4 9 (by omega) (by omega) rs HR.out.1 m HR.out.2.1 _ HI.out.1).mono ?_; rintro e W1 ⟨g, c0, rfl, h1, _, hb1⟩; have HB := Lib.hid (And.intro (TX.of_rw h1 HR.out.2.2.2.2) hb1); clear h1 hb1)
      | (go_at_call 16; with_reducible refine (cut_m a1 s 14 (by omega) w1 HS.out.1 14 rfl _).mono ?_; rintro e W1 ⟨rfl, hb1⟩; first | (replace HL := Lib.hid (HL.out.below hb1); replace HX := Lib.hid (HX.out.below hb1); replace HB := Lib.hid (And.intro (HB.out.1.below hb1) (HB.out.2.trans (hb1.mono HB.out.2.size))); clear hb1) | (replace HX := Lib.hid (HX.out.below hb1); replace HB := Lib.hid (And.intro (HB.out.1.below hb1) (HB.out.2.trans (hb1.mono HB.out.2.size))); clear hb1) | (replace HB := Lib.hid (And.intro (HB.out.1.below hb1) (HB.out.2.trans (hb1.mono HB.out.2.size))); clear hb1) | clear hb1))
    go_wp2_with (first
      | (go_at_call 45; refine (fewt rs m HR.out.2.1 hmx (some ⟨g, 0, none⟩) c0 4 9 (by omega) (by omega) rs HR.out.2.2.1 m HR.out.2.1 _ HB.out.1).mono ?_; rintro e W1 ⟨g2, c2, rfl, h1, _, hb1⟩; replace HB := Lib.hid (And.intro (HB.out.1.below hb1) (HB.out.2.trans (hb1.mono HB.out.2.size))); clear hb1; have HQ := Lib.hid (TX.of_rw h1 HR.out.2.2.2.2); clear h1)
      | (go_at_call 46; with_reducible refine (ar_new_no rs m HR.out.2.1 hm8 _ _ HR.out.2.2.2.1 K e HE.out.1 HE.out.2 _ HQ.out).mono ?_; rintro _ W1 ⟨rfl, hb1⟩; replace HB := Lib.hid (And.intro (HB.out.1.below hb1) (HB.out.2.trans (hb1.mono HB.out.2.size))); clear hb1; clear HQ)
      | (go_at_call 47; with_reducible refine (rk_new_no (fun s l h1 h2 X n e h3 w => rp_rdC s l h1 h2 X n e h3 w)  rs m HR.out.2.1 hm8 _ _ HR.out.2.2.2.1 K e HE.out.1 HE.out.2 _ HB.out.1).mono ?_; rintro _ W1 ⟨rfl, hb1⟩; replace HB := Lib.hid (And.intro (HB.out.1.below hb1) (HB.out.2.trans (hb1.mono HB.out.2.size))); clear hb1)
      | (go_at_call 52; with_reducible refine (ar_lives _).mono ?_; rintro e W1 ⟨rfl, hb1⟩; replace HB := Lib.hid (And.intro (HB.out.1.below hb1) (HB.out.2.trans (hb1.mono HB.out.2.size))); clear hb1))
    go_ret
    exact ⟨rfl, HB.out.2⟩

set_option maxRecDepth 100000 in
theorem lifted (os : Os) (started : os.Started) (H : Type) (enc : TypeId × Value → H) :
    ReturnsInHanded {} Try.checked os 12 .any (Rows.armsFeedsSpec.pre6 enc Try.prog Try.f12 Rows.armsFeedsRow.domain false) (Rows.armsFeedsSpec.post enc Try.prog Try.f12 false true false false) := by
  refine returnsInHanded_of_change (C := Try.checked) ownKn started (by kernel_rfl) Try.func12
    (ChangeSpec.witness6 (enc := enc) (C := Try.checked) false ⟨#[], #[.slice none 0 0, .string ByteArray.empty, .int .u8 0], []⟩ 8 (by kernel_rfl) (by kernel_rfl) (by kernel_rfl) (by kernel_rfl)) ?_
  intro W base args ds gs before hval0 hW hcnd _
  have hval : ∀ (j : Nat) t v, Try.f12.params[j]? = some t → args[j]? = some v → Value.okWide Try.prog W .any base t v := hval0
  have hW' := hW
  obtain ⟨p, q, hA0, hV, rfl, hfz, hnd⟩ := hW
  have hA : DataW.TrodAll enc Try.prog W 0 (fun _ => true) true Try.f12.params.toList args.toList ds p := hA0
  rw [Try.params12] at hA hval
  obtain ⟨v0, vs0, d0, ds0, p0, q0, hargs, rfl, rfl, h0, r0⟩ := trodAll_cons hA
  obtain ⟨v1, vs1, d1, ds1, p1, q1, rfl, rfl, rfl, h1, r1⟩ := trodAll_cons r0
  obtain ⟨v2, vs2, d2, ds2, p2, q2, rfl, rfl, rfl, h2, r2⟩ := trodAll_cons r1
  obtain ⟨rfl, rfl, rfl⟩ := trodAll_nil r2
  obtain rfl : args = #[v0, v1, v2] := by cases args; simp_all
  obtain ⟨rfl, rfl⟩ := trodVars_none hV
  have k0 := h0
  have lt0 : ∀ x ∈ p0, x.block < W.heap.size := by obtain ⟨m, hm⟩ := k0; exact DataW.trod_lt m _ _ _ hm
  obtain ⟨b0, lb0, cb0, rfl⟩ := okWide_slice Try.underlying57 (hval 0 57 v0 rfl rfl)
  obtain ⟨fu0, hf0⟩ := h0
  simp only [Value.cells] at hf0
  obtain ⟨a0, len0, cap0, z0, e0, w0⟩ := fld_strs Try.underlying57 Try.underlying9 (by kernel_rfl) hf0
  obtain ⟨rfl, rfl, rfl⟩ : b0 = a0 ∧ lb0 = len0 ∧ cb0 = cap0 := by simpa using e0
  have k1 := h1
  have lt1 : ∀ x ∈ p1, x.block < W.heap.size := by obtain ⟨m, hm⟩ := k1; exact DataW.trod_lt m _ _ _ hm
  obtain ⟨a1, rfl, rfl, rfl, w1⟩ := open_string Try.underlying9 (hval 1 9 v1 rfl rfl) h1
  have k2 := h2
  have lt2 : ∀ x ∈ p2, x.block < W.heap.size := by obtain ⟨m, hm⟩ := k2; exact DataW.trod_lt m _ _ _ hm
  obtain ⟨a2, rfl, rfl, rfl, w2⟩ := open_int Try.underlying5 (hval 2 5 v2 rfl rfl) h2
  clear hA0 hval0
  refine (walk b0 lb0 cb0 z0 a1 a2 W w0 w1 w2).mono fun e W' ⟨he, bel⟩ => ?_
  subst he
  exact ⟨_, rfl, _, _, _, [], _, [], hW', trodAll_mk1 (shut_bool Try.underlying4 _), (trodAll_cons_mk (Below.trod laidOut (by kernel_rfl) (of_decide_eq_true (by kernel_rfl)) k0 bel lt0) (trodAll_cons_mk (Below.trod laidOut (by kernel_rfl) (of_decide_eq_true (by kernel_rfl)) k1 bel lt1) (trodAll_cons_mk (Below.trod laidOut (by kernel_rfl) (of_decide_eq_true (by kernel_rfl)) k2 bel lt2) trodAll_mk0))), rfl, bel.frame _, fun h => by cases h⟩

theorem over : Rows.armsFeedsRow.holds Try.pinned (OpenSpec.ofChange Rows.armsFeedsSpec) :=
  OpenClaim.holds_of_wide 12 Try.f12 rfl rfl rfl rfl rfl rfl rfl ⟨rfl, rfl, rfl, rfl, rfl⟩ rfl rfl rfl rfl rfl (by kernel_rfl) Try.func12 (by kernel_rfl)
    (of_decide_eq_true (by kernel_rfl)) (by unfold Func.isWrapper; first | (rw [if_pos (by decide +kernel)]; kernel_rfl) | (rw [if_neg (by decide +kernel)]; exact ⟨rfl, rfl⟩))
    (fun os started H enc _ => lifted os started H enc)

/-- The statement. -/
theorem proved : Rows.ArmsFeedsSaid := over
#print axioms proved
end Go.Proofs.Ytjedjnpepjdgeaa.armsFeeds
