/- P19.2, P19.3: for every list of texts (its first 3, each cut to 8 bytes), every text (cut to 14 bytes) and every width (1 to 16): a look finds what the patterns find in as many bytes as there may be, and no byte is lost. No condition. -/
import Derived.Test.YtbdjcppkfihonaaOpen
import Derived.WalkKit
import Derived.ProofKit
import Derived.OpenShut
import Derived.Test.YtbdjcppkfihonaaHdC
import Derived.Test.YtbdjcppkfihonaaGp13
import Derived.Test.YtbdjcppkfihonaaClass
namespace Go.Proofs.Ytbdjcppkfihonaa.holdFinds
open Go.Joins Go.ChangeShapes Go.WideShapes Go.ChangeAt Go.RowKit Go.Deep
open Go.ChangeMaps (open_string)
set_option linter.unusedSimpArgs false
set_option linter.unusedVariables false

set_option maxRecDepth 20000 in
set_option maxHeartbeats 16000000 in

theorem walk (a0 : Option Addr) (len0 cap0 : Nat) (z0 : List ByteArray) (a1 : ByteArray) (a2 : Int) (w : World) (w0 : IsStrs w a0 len0 cap0 z0) (w1 : a1.size ≤ maxLen) (w2 : (Lit.int .u8 a2).wf = true) :
    Calls Try.prog 9 #[.slice a0 len0 cap0, .string a1, .int .u8 a2] w fun e w' => e = .returned (.bool true) ∧ Below w.heap.size w w' := by
  have hl0 : z0.length = len0 := w0.1
  have hm0 : len0 ≤ maxLen := Nat.le_trans w0.2.1 w0.2.2.1
  have HI : Hid (TX w a0 z0 ∧ z0.length = len0) := Lib.hid ⟨tx_in w0, hl0⟩
  obtain ⟨rs, hrs⟩ : ∃ rs, fewT z0 3 8 = rs := ⟨_, rfl⟩
  obtain ⟨m, hm⟩ : ∃ m, rs.length = m := ⟨_, rfl⟩
  have hm10 : m ≤ 3 := by rw [← hm, ← hrs]; exact fewT_len _ _ _
  have hsz : ∀ s ∈ rs, s.size ≤ 8 := by rw [← hrs]; exact fewT_long
  have hmx : m ≤ maxLen := by unfold maxLen; omega
  have HR : Hid (fewT z0 3 8 = rs ∧ rs.length = m ∧ fewT rs 3 8 = rs ∧ (∀ s ∈ rs, s.size ≤ 1000000) ∧ (∀ s ∈ rs, s.size ≤ maxLen)) := Lib.hid ⟨hrs, hm, fewT_self _ _ _ (by omega) hsz, fun s hs => by have := hsz s hs; omega, fun s hs => by have := hsz s hs; unfold maxLen; omega⟩
  have hm8 : m ≤ 8 := by omega
  have hm3 : m ≤ 1000 := by omega
  obtain ⟨s, hs⟩ : ∃ s, cutT a1 14 = s := ⟨_, rfl⟩
  have hs14 : s.size ≤ 14 := by rw [← hs]; exact cutT_le _ _
  obtain ⟨t, ht⟩ : ∃ t, s.data.toList = t := ⟨_, rfl⟩
  obtain ⟨N, hN⟩ : ∃ N, s.size = N := ⟨_, rfl⟩
  have hNt : t.length = N := by rw [← ht]; simpa using hN
  have hN14 : N ≤ 14 := by omega
  obtain ⟨y, rfl, hy⟩ : ∃ y : Nat, a2 = (y : Int) ∧ y < 256 := by have := wf_u8 w2; exact ⟨a2.toNat, by omega, by omega⟩
  obtain ⟨yy, hyy⟩ : ∃ yy, y % 16 = yy := ⟨_, rfl⟩
  have y16 : yy < 16 := by omega
  obtain ⟨W, hW⟩ : ∃ W, 1 + yy = W := ⟨_, rfl⟩
  have y1 : (y : Int).tmod 16 = (yy : Int) := by rw [← hyy]; exact tmod_nat y 16
  have y2 : IntKind.u8.wrap (yy : Int) = (yy : Int) := by simp [IntKind.wrap, IntKind.signed, IntKind.bits]; omega
  have y3 : IntKind.i64.wrap (yy : Int) = (yy : Int) := IntWalk.i64_in _ (by omega)
  have y4 : (1 : Int) + (yy : Int) = (W : Int) := by omega
  have y5 : IntKind.i64.wrap (W : Int) = (W : Int) := IntWalk.i64_in _ (by omega)
  have hW16 : 1 ≤ W ∧ W ≤ 16 := by omega
  obtain ⟨u, hu⟩ : ∃ u, cutT s W = u := ⟨_, rfl⟩
  obtain ⟨M, hM⟩ : ∃ M, min N W = M := ⟨_, rfl⟩
  have huM : u.size = M := by rw [← hu, (cut_list s W).2, hN]; exact hM
  have hut : u.data.toList = t.take M := by rw [← hu, (cut_list s W).1, hN, ht, hM]
  have HS : Hid (cutT a1 14 = s ∧ cutT s W = u ∧ s.size ≤ 100000 ∧ ByteArray.empty ++ s.extract 0 (min s.size (32 - ByteArray.empty.size)) = s ∧ s.data.toList = t ∧ s.size = N ∧ s.size ≤ maxLen) := Lib.hid ⟨hs, hu, by omega, ring_whole s (by omega), ht, hN, by unfold maxLen; omega⟩
  have HU : Hid (u.size = M ∧ u.data.toList = t.take M ∧ min N W = M ∧ t.length = N) := Lib.hid ⟨huM, hut, hM, hNt⟩
  have hWm : Hid (min (max (W : Int) 1) 4096 = (W : Int)) := Lib.hid (by omega)
  have hM3 : M ≤ 1000 := by omega
  have hMN : M ≤ N ∧ M ≤ W := by omega
  clear w0 hl0 hrs hm hsz hs ht hu hN hNt hM huM hut w2 hyy hW hs14 hy
  by_cases he0 : (Ar.nw rs m).2 = 0
  · obtain ⟨Ls, hLs⟩ : ∃ Ls, rs.map Ar.pat = Ls := ⟨_, rfl⟩
    have hLn : Ls.length = m := by rw [← hLs, List.length_map]; exact HR.out.2.1
    obtain ⟨h62, hz⟩ := pats_ok HR.out.2.1 he0
    rw [hLs] at h62 hz
    obtain ⟨q, mm, is, hf⟩ : ∃ q mm is, Ar.fi (fun k => Ar.fs (Ar.dn Ls (Ar.stk Ls (lgT (t.take M)) k)) m) M = (q, mm, is) := ⟨_, _, _, rfl⟩
    have hlk := look_cut HU.out.2.2.2 hLn HU.out.2.2.1 hf
    have HN := Lib.hid he0
    have HZ : Hid (rs.map Ar.pat = Ls ∧ Ls.length = m ∧ (∀ k i l, k ≤ M → Ls[i]? = some l → Lg.occ l (t.take M) k = Ar.dn Ls (Ar.stk Ls (lgT (t.take M)) k) i) ∧ Ar.fi (fun k => Ar.fs (Ar.dn Ls (Ar.stk Ls (lgT (t.take M)) k)) m) M = (q, mm, is)) := Lib.hid ⟨hLs, hLn, dn_occ h62 (t.take M) M, hf⟩
    clear he0 hLs hLn h62 hz hf
    cases is with
    | true =>
      obtain ⟨k1, k2, hlk⟩ := hlk.1 rfl
      have hmN : mm ≤ N := by omega
      have HQ : Hid (Hd.look Ls W (s.size + 1) [] 0 s.data.toList 0 = ⟨[], 0, (t.drop mm), true, false, q, mm, mm⟩) := Lib.hid (by rw [HS.out.2.2.2.2.1, HS.out.2.2.2.2.2.1]; exact hlk)
      clear hlk
      go_enter Try.func9, Try.ntmps9
      go_upto_region 4 with (first
          | (go_at_call 41; refine (fewt z0 len0 HI.out.2 hm0 a0 cap0 3 8 (by omega) (by omega) rs HR.out.1 m HR.out.2.1 _ HI.out.1).mono ?_; rintro e W1 ⟨g1, c1, rfl, h1, _, hb1⟩; have HB := Lib.hid (And.intro (TX.of_rw h1 HR.out.2.2.2.2) hb1); clear h1 hb1 HI)
          | (go_at_call 35; refine (cut_m a1 s 14 (by omega) w1 HS.out.1 14 rfl _).mono ?_; rintro e W2 ⟨rfl, hb1⟩; have HC := Lib.hid (And.intro (HB.out.1.below hb1) (HB.out.2.trans (hb1.mono HB.out.2.size))); clear hb1 HB)
          | (go_at_call 32; refine (hd_new (W : Int) W hWm.out _).mono ?_; rintro e W3 ⟨rfl, q1, q2⟩; have HD := Lib.hid (And.intro q1 (And.intro (HC.out.2.trans (q2.mono HC.out.2.size)) (And.intro HC.out.2.size (HC.out.1.below q2)))); clear q1 q2 HC)
          | (go_at_call 34; refine (new_any0 32 32 _ (by decide)).mono ?_; rintro e W4 ⟨rfl, q1, q0, q2⟩; have HE := Lib.hid (And.intro (ls_new HD.out.1 HD.out.2.1 HD.out.2.2.1 q1 q2) (And.intro q0 (HD.out.2.2.2.below q2))); clear q0 q1 q2 HD)
          | (go_at_call 48; refine (rk_new_yes (fun s l h1 h2 X n e h3 w => rp_rdC s l h1 h2 X n e h3 w) rs m HR.out.2.1 hm8 _ _ HR.out.2.2.2.1 HN.out _ HE.out.2.2).mono ?_; rintro _ W5 ⟨gl, cl, rfl, h1, hgl, hb1⟩; rw [HZ.out.1] at h1; have HF := Lib.hid (And.intro (fl_new HE.out.1 HE.out.2.1 hb1 h1 hgl) (HE.out.2.2.below hb1)); clear h1 hgl hb1 HE))
      go_wp2_with (first
          | (go_at_call 41; refine (fewt rs m HR.out.2.1 hmx (some ⟨g1, 0, none⟩) c1 3 8 (by omega) (by omega) rs HR.out.2.2.1 m HR.out.2.1 _ HF.out.2).mono ?_; rintro e W6 ⟨g2, c2, rfl, h1, _, hb1⟩; have HG := Lib.hid (And.intro (HF.out.1.below hb1) (TX.of_rw h1 HR.out.2.2.2.2)); clear h1 hb1 HF)
          | (go_at_call 42; refine (fl_begin HG.out.1 rs m HR.out.2.1 hm8 g2 c2 HR.out.2.2.2.1 HN.out HG.out.2 Ls HZ.out.1).mono ?_; rintro e W7 ⟨x, gp, cp, xs, rfl, q1⟩; have HH := Lib.hid q1; clear q1 HG)
          | (go_at_call 36; refine (fl_put HH.out s HS.out.2.2.1).mono ?_; rintro e W8 ⟨rfl, q1⟩; rw [HS.out.2.2.2.1] at q1; have HJ := Lib.hid q1; clear q1 HH)
          | (go_at_call 39; refine (fm_look HJ.out [] (t.drop mm) 0 true false q mm mm HQ.out).mono ?_; rintro e W9 ⟨rfl, t9, m9, ct9, S9, f9, R9, q1, q2, q3, q4, q5⟩; have HK := Lib.hid (And.intro q1 (And.intro q2 (And.intro q3 (And.intro q4 q5)))); clear q1 q2 q3 q4 q5 HJ)
          | (go_at_call 35; refine (cut_m s u W (by omega) HS.out.2.2.2.2.2.2 HS.out.2.1 (W : Int) rfl _).mono ?_; rintro e W10 ⟨rfl, hb1⟩; have HL := Lib.hid (And.intro (HK.out.1.below (((Below.refl _ _).alloc (Nat.le_refl _) _).trans (hb1.mono (by simp)))) (And.intro (HK.out.2.1.below (((Below.refl _ _).alloc (Nat.le_refl _) _).trans (hb1.mono (by simp)))) (And.intro (Blk.below (Blk.newA W9 _ _) hb1 (by simp)) HK.out.2.2))); clear hb1 HK)
          | (go_at_call 49; refine (rk_find Ls m HZ.out.2.1 hm3 _ cl u (t.take M) M HU.out.1 hM3 HU.out.2.1 _ HZ.out.2.2.1 _ _ _ HZ.out.2.2.2 _ HL.out.2.1).mono ?_; rintro e W11 ⟨rfl, hb1⟩; have HM := Lib.hid (And.intro (HL.out.1.below hb1) (And.intro (Blk.below HL.out.2.2.1 hb1 HL.out.2.2.1.lt) HL.out.2.2.2)); clear hb1 HL; have z0 := HM.out.2.1.cell (i := 0) rfl; have z1 := HM.out.2.1.cell (i := 1) rfl; have z2 := HM.out.2.1.cell (i := 2) rfl; have z3 := HM.out.2.1.cell (i := 3) rfl; have z4 := HM.out.2.1.cell (i := 4) rfl)
          | fail)
      have hR32 : R9.size ≤ 32 := by rw [← bl_size, HM.out.2.2.2.1, List.length_drop, HU.out.2.2.2]; omega
      have e9 : 0 = m9 := by
        rw [← HM.out.2.2.2.2, ← bl_size, HM.out.2.2.1]
        rfl
      subst e9
      have heq : s.extract 0 mm ++ S9 ++ R9 = s := all_there HS.out.2.2.2.2.1 mm mm (by rw [HM.out.2.2.1]; simp) HM.out.2.2.2.1 (by omega)
      have hsN : s.size = N := HS.out.2.2.2.2.2.1
      obtain ⟨G, hG⟩ : ∃ G, s.extract 0 mm = G := ⟨_, rfl⟩
      obtain ⟨G2, hG2⟩ : ∃ G2, G ++ S9 = G2 := ⟨_, rfl⟩
      have zG : G.size ≤ 14 := by rw [← hG, ByteArray.size_extract]; omega
      have zS : S9.size ≤ 14 := by rw [HM.out.2.2.2.2]; omega
      have zG2 : G2.size ≤ 28 := by rw [← hG2, ByteArray.size_append]; omega
      rw [hG, hG2] at heq
      have u1 : ¬ (9223372036854775807 < G.size + S9.size) := by omega
      have u2 : ¬ (9223372036854775807 < G2.size + R9.size) := by omega
      have u0 : True := trivial
      have j1 : mm ≤ s.size := by omega
      have j2 : ((mm : Nat) : Int) ≤ (s.size : Int) := by omega
      have j3 : (0 : Int) ≤ ((mm : Nat) : Int) := by omega
      have j4 : IntKind.i64.wrap (mm : Int) = (mm : Int) := IntWalk.i64_in _ (by omega)
      have HR32 := Lib.hid hR32
      clear hsN hR32 zG zS zG2
      have HC : Hid (LS w.heap.size w W11 W2.heap.size (W3.heap.size + 1) W3.heap.size 32 W (.slice (some ⟨gp, 0, none⟩) m cp) (some ⟨x, 0, none⟩) xs Ls t9 0 ct9 S9 0 f9 R9 ∧ Blk W11 W9.heap.size [.bool true, .bool false, .int .i64 q, .int .i64 mm, .int .i64 mm] 75) := Lib.hid ⟨HM.out.1, HM.out.2.1⟩
      clear HM z0 z1 z2 z3 z4
      refine wp_region_class (fun w' => LS w.heap.size w w' W2.heap.size (W3.heap.size + 1) W3.heap.size 32 W (.slice (some ⟨gp, 0, none⟩) m cp) (some ⟨x, 0, none⟩) xs Ls t9 0 ct9 S9 0 f9 R9 ∧ Blk w' W9.heap.size [.bool true, .bool false, .int .i64 q, .int .i64 mm, .int .i64 mm] 75) (by kernel_rfl) (by kernel_rfl) ⟨HC.out.1.below (Below.refl _ _).drew, HC.out.2.drew⟩ ?_
      repeat (first
          | go_big_quiet_skip
          | (go_big_quiet_want
             unfold Oper.quiet
             apply Exists.intro
             refine ⟨fun wq hwq => ?_, ?_⟩
             · (obtain ⟨hq1, hq2⟩ := hwq
                have e3 := hq2.cell (i := 3) rfl
                have e4 := hq2.cell (i := 4) rfl
                unfold Oper.quietAt
                go_simp
                first
                  | exact ⟨rfl, hq1, hq2⟩
                  | exact rfl
                  | (go_at_call 43; refine (hd_text hq1.1).mono ?_; rintro e w3 ⟨he, hb⟩; exact ⟨he, hq1.below hb, Blk.below hq2 hb hq2.lt⟩)
                  | (go_at_call 46; refine (ls_peek2 hq1 32 HR32.out 32 rfl).mono ?_; rintro e w3 ⟨he, hb⟩; exact ⟨he, hq1.below hb, Blk.below hq2 hb hq2.lt⟩)
                  | (go_at_call 45; refine (hd_len hq1.1).mono ?_; rintro e w3 ⟨he, rfl⟩; exact ⟨he, hq1, hq2⟩)
                  | (go_at_call 47; refine (hd_lives _).mono ?_; rintro e w3 ⟨he, hb⟩; exact ⟨he, hq1.below hb, Blk.below hq2 hb hq2.lt⟩))
             simp only [Act.put, List.setIfInBounds_toArray, List.set_cons_zero, List.set_cons_succ]
             go_big_quiet_on))
      refine wpQuiet_nil ?_
      intro w4 hw4
      have HX := Lib.hid hw4.1.2.2.2.2.2.1
      clear hw4 HC
      go_wp2
      go_ret
      exact ⟨rfl, HX.out⟩
    | false =>
      have hlk2 := hlk.2 rfl
      clear hlk
      obtain ⟨rfl, rfl, hlk⟩ := hlk2
      by_cases hWN : W < N
      · rw [decide_eq_true hWN] at hlk
        have i1 : (W : Int) < (s.size : Int) := by have := HS.out.2.2.2.2.2.1; omega
        have HQ : Hid (Hd.look Ls W (s.size + 1) [] 0 s.data.toList 0 = ⟨(t.take M), M, (t.drop M), false, true, 0, 0, M⟩) := Lib.hid (by rw [HS.out.2.2.2.2.1, HS.out.2.2.2.2.2.1]; exact hlk)
        clear hlk
        go_enter Try.func9, Try.ntmps9
        go_upto_region 4 with (first
            | (go_at_call 41; refine (fewt z0 len0 HI.out.2 hm0 a0 cap0 3 8 (by omega) (by omega) rs HR.out.1 m HR.out.2.1 _ HI.out.1).mono ?_; rintro e W1 ⟨g1, c1, rfl, h1, _, hb1⟩; have HB := Lib.hid (And.intro (TX.of_rw h1 HR.out.2.2.2.2) hb1); clear h1 hb1 HI)
            | (go_at_call 35; refine (cut_m a1 s 14 (by omega) w1 HS.out.1 14 rfl _).mono ?_; rintro e W2 ⟨rfl, hb1⟩; have HC := Lib.hid (And.intro (HB.out.1.below hb1) (HB.out.2.trans (hb1.mono HB.out.2.size))); clear hb1 HB)
            | (go_at_call 32; refine (hd_new (W : Int) W hWm.out _).mono ?_; rintro e W3 ⟨rfl, q1, q2⟩; have HD := Lib.hid (And.intro q1 (And.intro (HC.out.2.trans (q2.mono HC.out.2.size)) (And.intro HC.out.2.size (HC.out.1.below q2)))); clear q1 q2 HC)
            | (go_at_call 34; refine (new_any0 32 32 _ (by decide)).mono ?_; rintro e W4 ⟨rfl, q1, q0, q2⟩; have HE := Lib.hid (And.intro (ls_new HD.out.1 HD.out.2.1 HD.out.2.2.1 q1 q2) (And.intro q0 (HD.out.2.2.2.below q2))); clear q0 q1 q2 HD)
            | (go_at_call 48; refine (rk_new_yes (fun s l h1 h2 X n e h3 w => rp_rdC s l h1 h2 X n e h3 w) rs m HR.out.2.1 hm8 _ _ HR.out.2.2.2.1 HN.out _ HE.out.2.2).mono ?_; rintro _ W5 ⟨gl, cl, rfl, h1, hgl, hb1⟩; rw [HZ.out.1] at h1; have HF := Lib.hid (And.intro (fl_new HE.out.1 HE.out.2.1 hb1 h1 hgl) (HE.out.2.2.below hb1)); clear h1 hgl hb1 HE))
        go_wp2_with (first
            | (go_at_call 41; refine (fewt rs m HR.out.2.1 hmx (some ⟨g1, 0, none⟩) c1 3 8 (by omega) (by omega) rs HR.out.2.2.1 m HR.out.2.1 _ HF.out.2).mono ?_; rintro e W6 ⟨g2, c2, rfl, h1, _, hb1⟩; have HG := Lib.hid (And.intro (HF.out.1.below hb1) (TX.of_rw h1 HR.out.2.2.2.2)); clear h1 hb1 HF)
            | (go_at_call 42; refine (fl_begin HG.out.1 rs m HR.out.2.1 hm8 g2 c2 HR.out.2.2.2.1 HN.out HG.out.2 Ls HZ.out.1).mono ?_; rintro e W7 ⟨x, gp, cp, xs, rfl, q1⟩; have HH := Lib.hid q1; clear q1 HG)
            | (go_at_call 36; refine (fl_put HH.out s HS.out.2.2.1).mono ?_; rintro e W8 ⟨rfl, q1⟩; rw [HS.out.2.2.2.1] at q1; have HJ := Lib.hid q1; clear q1 HH)
            | (go_at_call 39; refine (fm_look HJ.out (t.take M) (t.drop M) M false true 0 0 M HQ.out).mono ?_; rintro e W9 ⟨rfl, t9, m9, ct9, S9, f9, R9, q1, q2, q3, q4, q5⟩; have HK := Lib.hid (And.intro q1 (And.intro q2 (And.intro q3 (And.intro q4 q5)))); clear q1 q2 q3 q4 q5 HJ)
            | (go_at_call 35; refine (cut_m s u W (by omega) HS.out.2.2.2.2.2.2 HS.out.2.1 (W : Int) rfl _).mono ?_; rintro e W10 ⟨rfl, hb1⟩; have HL := Lib.hid (And.intro (HK.out.1.below (((Below.refl _ _).alloc (Nat.le_refl _) _).trans (hb1.mono (by simp)))) (And.intro (HK.out.2.1.below (((Below.refl _ _).alloc (Nat.le_refl _) _).trans (hb1.mono (by simp)))) (And.intro (Blk.below (Blk.newA W9 _ _) hb1 (by simp)) HK.out.2.2))); clear hb1 HK)
            | (go_at_call 49; refine (rk_find Ls m HZ.out.2.1 hm3 _ cl u (t.take M) M HU.out.1 hM3 HU.out.2.1 _ HZ.out.2.2.1 _ _ _ HZ.out.2.2.2 _ HL.out.2.1).mono ?_; rintro e W11 ⟨rfl, hb1⟩; have HM := Lib.hid (And.intro (HL.out.1.below hb1) (And.intro (Blk.below HL.out.2.2.1 hb1 HL.out.2.2.1.lt) HL.out.2.2.2)); clear hb1 HL; have z0 := HM.out.2.1.cell (i := 0) rfl; have z1 := HM.out.2.1.cell (i := 1) rfl; have z2 := HM.out.2.1.cell (i := 2) rfl; have z3 := HM.out.2.1.cell (i := 3) rfl; have z4 := HM.out.2.1.cell (i := 4) rfl)
            | fail)
        have hR32 : R9.size ≤ 32 := by rw [← bl_size, HM.out.2.2.2.1, List.length_drop, HU.out.2.2.2]; omega
        have e9 : M = m9 := by
          rw [← HM.out.2.2.2.2, ← bl_size, HM.out.2.2.1]
          rw [List.length_take, HU.out.2.2.2]; omega
        subst e9
        have heq : s.extract 0 0 ++ S9 ++ R9 = s := all_there HS.out.2.2.2.2.1 0 M (by rw [HM.out.2.2.1]; simp) HM.out.2.2.2.1 (by omega)
        have hsN : s.size = N := HS.out.2.2.2.2.2.1
        obtain ⟨G, hG⟩ : ∃ G, s.extract 0 0 = G := ⟨_, rfl⟩
        obtain ⟨G2, hG2⟩ : ∃ G2, G ++ S9 = G2 := ⟨_, rfl⟩
        have zG : G.size ≤ 14 := by rw [← hG, ByteArray.size_extract]; omega
        have zS : S9.size ≤ 14 := by rw [HM.out.2.2.2.2]; omega
        have zG2 : G2.size ≤ 28 := by rw [← hG2, ByteArray.size_append]; omega
        rw [hG, hG2] at heq
        have u1 : ¬ (9223372036854775807 < G.size + S9.size) := by omega
        have u2 : ¬ (9223372036854775807 < G2.size + R9.size) := by omega
        have hG0 : G = ⟨#[]⟩ := by rw [← hG]; exact ByteArray.ext (Array.eq_empty_of_size_eq_zero (by simp))
        have heq3 : S9 ++ R9 = s := by
          rw [← heq, ← hG2, hG0]
          congr 1
        have u3 : ¬ (9223372036854775807 < S9.size + R9.size) := by omega
        have u4 : ¬ (9223372036854775807 < S9.size) := by omega
        have u5 : ¬ (9223372036854775807 < 0 + S9.size) := by omega
        have u6 : (⟨#[]⟩ : ByteArray) ++ S9 = S9 := ba_ext (by rw [ByteArray.data_append]; simp)
        have u7 : ByteArray.empty ++ S9 = S9 := u6
        clear hG0 hG hG2 heq u1 u2
        have j1 : 0 ≤ s.size := by omega
        have j2 : ((0 : Nat) : Int) ≤ (s.size : Int) := by omega
        have j3 : (0 : Int) ≤ ((0 : Nat) : Int) := by omega
        have j4 : IntKind.i64.wrap (M : Int) = (M : Int) := IntWalk.i64_in _ (by omega)
        have HR32 := Lib.hid hR32
        clear hsN hR32 zG zS zG2
        have HC : Hid (LS w.heap.size w W11 W2.heap.size (W3.heap.size + 1) W3.heap.size 32 W (.slice (some ⟨gp, 0, none⟩) m cp) (some ⟨x, 0, none⟩) xs Ls t9 M ct9 S9 M f9 R9 ∧ Blk W11 W9.heap.size [.bool false, .bool true, .int .i64 0, .int .i64 0, .int .i64 M] 75) := Lib.hid ⟨HM.out.1, HM.out.2.1⟩
        clear HM z0 z1 z2 z3 z4
        refine wp_region_class (fun w' => LS w.heap.size w w' W2.heap.size (W3.heap.size + 1) W3.heap.size 32 W (.slice (some ⟨gp, 0, none⟩) m cp) (some ⟨x, 0, none⟩) xs Ls t9 M ct9 S9 M f9 R9 ∧ Blk w' W9.heap.size [.bool false, .bool true, .int .i64 0, .int .i64 0, .int .i64 M] 75) (by kernel_rfl) (by kernel_rfl) ⟨HC.out.1.below (Below.refl _ _).drew, HC.out.2.drew⟩ ?_
        repeat (first
            | go_big_quiet_skip
            | (go_big_quiet_want
               unfold Oper.quiet
               apply Exists.intro
               refine ⟨fun wq hwq => ?_, ?_⟩
               · (obtain ⟨hq1, hq2⟩ := hwq
                  have e3 := hq2.cell (i := 3) rfl
                  have e4 := hq2.cell (i := 4) rfl
                  unfold Oper.quietAt
                  go_simp
                  first
                    | exact ⟨rfl, hq1, hq2⟩
                    | exact rfl
                    | (go_at_call 43; refine (hd_text hq1.1).mono ?_; rintro e w3 ⟨he, hb⟩; exact ⟨he, hq1.below hb, Blk.below hq2 hb hq2.lt⟩)
                    | (go_at_call 46; refine (ls_peek2 hq1 32 HR32.out 32 rfl).mono ?_; rintro e w3 ⟨he, hb⟩; exact ⟨he, hq1.below hb, Blk.below hq2 hb hq2.lt⟩)
                    | (go_at_call 45; refine (hd_len hq1.1).mono ?_; rintro e w3 ⟨he, rfl⟩; exact ⟨he, hq1, hq2⟩)
                    | (go_at_call 47; refine (hd_lives _).mono ?_; rintro e w3 ⟨he, hb⟩; exact ⟨he, hq1.below hb, Blk.below hq2 hb hq2.lt⟩))
               simp only [Act.put, List.setIfInBounds_toArray, List.set_cons_zero, List.set_cons_succ]
               go_big_quiet_on))
        refine wpQuiet_nil ?_
        intro w4 hw4
        have HX := Lib.hid hw4.1.2.2.2.2.2.1
        clear hw4 HC
        go_wp2
        go_ret
        exact ⟨rfl, HX.out⟩
      · rw [decide_eq_false hWN] at hlk
        have i1 : ¬ (W : Int) < (s.size : Int) := by have := HS.out.2.2.2.2.2.1; omega
        have HQ : Hid (Hd.look Ls W (s.size + 1) [] 0 s.data.toList 0 = ⟨(t.take M), M, (t.drop M), false, false, 0, 0, M⟩) := Lib.hid (by rw [HS.out.2.2.2.2.1, HS.out.2.2.2.2.2.1]; exact hlk)
        clear hlk
        go_enter Try.func9, Try.ntmps9
        go_upto_region 4 with (first
            | (go_at_call 41; refine (fewt z0 len0 HI.out.2 hm0 a0 cap0 3 8 (by omega) (by omega) rs HR.out.1 m HR.out.2.1 _ HI.out.1).mono ?_; rintro e W1 ⟨g1, c1, rfl, h1, _, hb1⟩; have HB := Lib.hid (And.intro (TX.of_rw h1 HR.out.2.2.2.2) hb1); clear h1 hb1 HI)
            | (go_at_call 35; refine (cut_m a1 s 14 (by omega) w1 HS.out.1 14 rfl _).mono ?_; rintro e W2 ⟨rfl, hb1⟩; have HC := Lib.hid (And.intro (HB.out.1.below hb1) (HB.out.2.trans (hb1.mono HB.out.2.size))); clear hb1 HB)
            | (go_at_call 32; refine (hd_new (W : Int) W hWm.out _).mono ?_; rintro e W3 ⟨rfl, q1, q2⟩; have HD := Lib.hid (And.intro q1 (And.intro (HC.out.2.trans (q2.mono HC.out.2.size)) (And.intro HC.out.2.size (HC.out.1.below q2)))); clear q1 q2 HC)
            | (go_at_call 34; refine (new_any0 32 32 _ (by decide)).mono ?_; rintro e W4 ⟨rfl, q1, q0, q2⟩; have HE := Lib.hid (And.intro (ls_new HD.out.1 HD.out.2.1 HD.out.2.2.1 q1 q2) (And.intro q0 (HD.out.2.2.2.below q2))); clear q0 q1 q2 HD)
            | (go_at_call 48; refine (rk_new_yes (fun s l h1 h2 X n e h3 w => rp_rdC s l h1 h2 X n e h3 w) rs m HR.out.2.1 hm8 _ _ HR.out.2.2.2.1 HN.out _ HE.out.2.2).mono ?_; rintro _ W5 ⟨gl, cl, rfl, h1, hgl, hb1⟩; rw [HZ.out.1] at h1; have HF := Lib.hid (And.intro (fl_new HE.out.1 HE.out.2.1 hb1 h1 hgl) (HE.out.2.2.below hb1)); clear h1 hgl hb1 HE))
        go_wp2_with (first
            | (go_at_call 41; refine (fewt rs m HR.out.2.1 hmx (some ⟨g1, 0, none⟩) c1 3 8 (by omega) (by omega) rs HR.out.2.2.1 m HR.out.2.1 _ HF.out.2).mono ?_; rintro e W6 ⟨g2, c2, rfl, h1, _, hb1⟩; have HG := Lib.hid (And.intro (HF.out.1.below hb1) (TX.of_rw h1 HR.out.2.2.2.2)); clear h1 hb1 HF)
            | (go_at_call 42; refine (fl_begin HG.out.1 rs m HR.out.2.1 hm8 g2 c2 HR.out.2.2.2.1 HN.out HG.out.2 Ls HZ.out.1).mono ?_; rintro e W7 ⟨x, gp, cp, xs, rfl, q1⟩; have HH := Lib.hid q1; clear q1 HG)
            | (go_at_call 36; refine (fl_put HH.out s HS.out.2.2.1).mono ?_; rintro e W8 ⟨rfl, q1⟩; rw [HS.out.2.2.2.1] at q1; have HJ := Lib.hid q1; clear q1 HH)
            | (go_at_call 39; refine (fm_look HJ.out (t.take M) (t.drop M) M false false 0 0 M HQ.out).mono ?_; rintro e W9 ⟨rfl, t9, m9, ct9, S9, f9, R9, q1, q2, q3, q4, q5⟩; have HK := Lib.hid (And.intro q1 (And.intro q2 (And.intro q3 (And.intro q4 q5)))); clear q1 q2 q3 q4 q5 HJ)
            | (go_at_call 35; refine (cut_m s u W (by omega) HS.out.2.2.2.2.2.2 HS.out.2.1 (W : Int) rfl _).mono ?_; rintro e W10 ⟨rfl, hb1⟩; have HL := Lib.hid (And.intro (HK.out.1.below (((Below.refl _ _).alloc (Nat.le_refl _) _).trans (hb1.mono (by simp)))) (And.intro (HK.out.2.1.below (((Below.refl _ _).alloc (Nat.le_refl _) _).trans (hb1.mono (by simp)))) (And.intro (Blk.below (Blk.newA W9 _ _) hb1 (by simp)) HK.out.2.2))); clear hb1 HK)
            | (go_at_call 49; refine (rk_find Ls m HZ.out.2.1 hm3 _ cl u (t.take M) M HU.out.1 hM3 HU.out.2.1 _ HZ.out.2.2.1 _ _ _ HZ.out.2.2.2 _ HL.out.2.1).mono ?_; rintro e W11 ⟨rfl, hb1⟩; have HM := Lib.hid (And.intro (HL.out.1.below hb1) (And.intro (Blk.below HL.out.2.2.1 hb1 HL.out.2.2.1.lt) HL.out.2.2.2)); clear hb1 HL; have z0 := HM.out.2.1.cell (i := 0) rfl; have z1 := HM.out.2.1.cell (i := 1) rfl; have z2 := HM.out.2.1.cell (i := 2) rfl; have z3 := HM.out.2.1.cell (i := 3) rfl; have z4 := HM.out.2.1.cell (i := 4) rfl)
            | fail)
        have hR32 : R9.size ≤ 32 := by rw [← bl_size, HM.out.2.2.2.1, List.length_drop, HU.out.2.2.2]; omega
        have e9 : M = m9 := by
          rw [← HM.out.2.2.2.2, ← bl_size, HM.out.2.2.1]
          rw [List.length_take, HU.out.2.2.2]; omega
        subst e9
        have heq : s.extract 0 0 ++ S9 ++ R9 = s := all_there HS.out.2.2.2.2.1 0 M (by rw [HM.out.2.2.1]; simp) HM.out.2.2.2.1 (by omega)
        have hsN : s.size = N := HS.out.2.2.2.2.2.1
        obtain ⟨G, hG⟩ : ∃ G, s.extract 0 0 = G := ⟨_, rfl⟩
        obtain ⟨G2, hG2⟩ : ∃ G2, G ++ S9 = G2 := ⟨_, rfl⟩
        have zG : G.size ≤ 14 := by rw [← hG, ByteArray.size_extract]; omega
        have zS : S9.size ≤ 14 := by rw [HM.out.2.2.2.2]; omega
        have zG2 : G2.size ≤ 28 := by rw [← hG2, ByteArray.size_append]; omega
        rw [hG, hG2] at heq
        have u1 : ¬ (9223372036854775807 < G.size + S9.size) := by omega
        have u2 : ¬ (9223372036854775807 < G2.size + R9.size) := by omega
        have hG0 : G = ⟨#[]⟩ := by rw [← hG]; exact ByteArray.ext (Array.eq_empty_of_size_eq_zero (by simp))
        have heq3 : S9 ++ R9 = s := by
          rw [← heq, ← hG2, hG0]
          congr 1
        have u3 : ¬ (9223372036854775807 < S9.size + R9.size) := by omega
        have u4 : ¬ (9223372036854775807 < S9.size) := by omega
        have u5 : ¬ (9223372036854775807 < 0 + S9.size) := by omega
        have u6 : (⟨#[]⟩ : ByteArray) ++ S9 = S9 := ba_ext (by rw [ByteArray.data_append]; simp)
        have u7 : ByteArray.empty ++ S9 = S9 := u6
        clear hG0 hG hG2 heq u1 u2
        have j1 : 0 ≤ s.size := by omega
        have j2 : ((0 : Nat) : Int) ≤ (s.size : Int) := by omega
        have j3 : (0 : Int) ≤ ((0 : Nat) : Int) := by omega
        have j4 : IntKind.i64.wrap (M : Int) = (M : Int) := IntWalk.i64_in _ (by omega)
        have HR32 := Lib.hid hR32
        clear hsN hR32 zG zS zG2
        have HC : Hid (LS w.heap.size w W11 W2.heap.size (W3.heap.size + 1) W3.heap.size 32 W (.slice (some ⟨gp, 0, none⟩) m cp) (some ⟨x, 0, none⟩) xs Ls t9 M ct9 S9 M f9 R9 ∧ Blk W11 W9.heap.size [.bool false, .bool false, .int .i64 0, .int .i64 0, .int .i64 M] 75) := Lib.hid ⟨HM.out.1, HM.out.2.1⟩
        clear HM z0 z1 z2 z3 z4
        refine wp_region_class (fun w' => LS w.heap.size w w' W2.heap.size (W3.heap.size + 1) W3.heap.size 32 W (.slice (some ⟨gp, 0, none⟩) m cp) (some ⟨x, 0, none⟩) xs Ls t9 M ct9 S9 M f9 R9 ∧ Blk w' W9.heap.size [.bool false, .bool false, .int .i64 0, .int .i64 0, .int .i64 M] 75) (by kernel_rfl) (by kernel_rfl) ⟨HC.out.1.below (Below.refl _ _).drew, HC.out.2.drew⟩ ?_
        repeat (first
            | go_big_quiet_skip
            | (go_big_quiet_want
               unfold Oper.quiet
               apply Exists.intro
               refine ⟨fun wq hwq => ?_, ?_⟩
               · (obtain ⟨hq1, hq2⟩ := hwq
                  have e3 := hq2.cell (i := 3) rfl
                  have e4 := hq2.cell (i := 4) rfl
                  unfold Oper.quietAt
                  go_simp
                  first
                    | exact ⟨rfl, hq1, hq2⟩
                    | exact rfl
                    | (go_at_call 43; refine (hd_text hq1.1).mono ?_; rintro e w3 ⟨he, hb⟩; exact ⟨he, hq1.below hb, Blk.below hq2 hb hq2.lt⟩)
                    | (go_at_call 46; refine (ls_peek2 hq1 32 HR32.out 32 rfl).mono ?_; rintro e w3 ⟨he, hb⟩; exact ⟨he, hq1.below hb, Blk.below hq2 hb hq2.lt⟩)
                    | (go_at_call 45; refine (hd_len hq1.1).mono ?_; rintro e w3 ⟨he, rfl⟩; exact ⟨he, hq1, hq2⟩)
                    | (go_at_call 47; refine (hd_lives _).mono ?_; rintro e w3 ⟨he, hb⟩; exact ⟨he, hq1.below hb, Blk.below hq2 hb hq2.lt⟩))
               simp only [Act.put, List.setIfInBounds_toArray, List.set_cons_zero, List.set_cons_succ]
               go_big_quiet_on))
        refine wpQuiet_nil ?_
        intro w4 hw4
        have HX := Lib.hid hw4.1.2.2.2.2.2.1
        clear hw4 HC
        go_wp2
        go_ret
        exact ⟨rfl, HX.out⟩
  · obtain ⟨k, e, hke⟩ : ∃ k e, Ar.nw rs m = (k, e) := ⟨_, _, rfl⟩
    have he : e ≠ 0 := fun h => he0 (by rw [hke]; exact h)
    have he1 : ¬ (e : Int) = 0 := by omega
    have HN := Lib.hid (And.intro hke he)
    clear he0 hke he
    go_enter Try.func9, Try.ntmps9
    go_upto_region 4 with (first
      | (go_at_call 41; refine (fewt z0 len0 HI.out.2 hm0 a0 cap0 3 8 (by omega) (by omega) rs HR.out.1 m HR.out.2.1 _ HI.out.1).mono ?_; rintro e W1 ⟨g1, c1, rfl, h1, _, hb1⟩; have HB := Lib.hid (And.intro (TX.of_rw h1 HR.out.2.2.2.2) hb1); clear h1 hb1 HI)
      | (go_at_call 35; refine (cut_m a1 s 14 (by omega) w1 HS.out.1 14 rfl _).mono ?_; rintro e W2 ⟨rfl, hb1⟩; have HC := Lib.hid (And.intro (HB.out.1.below hb1) (HB.out.2.trans (hb1.mono HB.out.2.size))); clear hb1 HB)
      | (go_at_call 32; refine (hd_new (W : Int) W hWm.out _).mono ?_; rintro e W3 ⟨rfl, q1, q2⟩; have HD := Lib.hid (And.intro q1 (And.intro (HC.out.2.trans (q2.mono HC.out.2.size)) (And.intro HC.out.2.size (HC.out.1.below q2)))); clear q1 q2 HC)
      | (go_at_call 34; refine (new_any0 32 32 _ (by decide)).mono ?_; rintro e W4 ⟨rfl, q1, q0, q2⟩; have HE := Lib.hid (And.intro (ls_new HD.out.1 HD.out.2.1 HD.out.2.2.1 q1 q2) (And.intro q0 (HD.out.2.2.2.below q2))); clear q0 q1 q2 HD)
      | (go_at_call 48; refine (rk_new_no (fun s l h1 h2 X n e h3 w => rp_rdC s l h1 h2 X n e h3 w) rs m HR.out.2.1 hm8 _ _ HR.out.2.2.2.1 k e HN.out.1 HN.out.2 _ HE.out.2.2).mono ?_; rintro _ W5 ⟨rfl, hb1⟩; have HF := Lib.hid (And.intro (HE.out.1.below hb1) (HE.out.2.2.below hb1)); clear hb1 HE))
    go_wp2_with (first
      | (go_at_call 41; refine (fewt rs m HR.out.2.1 hmx (some ⟨g1, 0, none⟩) c1 3 8 (by omega) (by omega) rs HR.out.2.2.1 m HR.out.2.1 _ HF.out.2).mono ?_; rintro e W6 ⟨g2, c2, rfl, h1, _, hb1⟩; have HG := Lib.hid (And.intro (HF.out.1.below hb1) (TX.of_rw h1 HR.out.2.2.2.2)); clear h1 hb1 HF)
      | (go_at_call 42; refine (ls_begin_no HG.out.1 rs m HR.out.2.1 hm8 _ c2 HR.out.2.2.2.1 k e HN.out.1 HN.out.2 HG.out.2).mono ?_; rintro e W7 ⟨rfl, q1⟩; have HH := Lib.hid (And.intro q1.2.2.2.2.2.1 q1.2.2.2.2.2.2); clear q1 HG)
      | (go_at_call 47; refine (hd_lives _).mono ?_; rintro e W8 ⟨rfl, hb1⟩; have HJ := Lib.hid (HH.out.1.trans (hb1.mono HH.out.2)); clear hb1 HH))
    go_ret
    exact ⟨rfl, HJ.out⟩

set_option maxRecDepth 100000 in
theorem lifted (os : Os) (started : os.Started) (H : Type) (enc : TypeId × Value → H) :
    ReturnsInHanded {} Try.checked os 9 .any (Rows.holdFindsSpec.pre6 enc Try.prog Try.f9 Rows.holdFindsRow.domain false) (Rows.holdFindsSpec.post enc Try.prog Try.f9 false true false false) := by
  refine returnsInHanded_of_change (C := Try.checked) ownKn started (by kernel_rfl) Try.func9
    (ChangeSpec.witness6 (enc := enc) (C := Try.checked) false ⟨#[], #[.slice none 0 0, .string ByteArray.empty, .int .u8 0], []⟩ 8 (by kernel_rfl) (by kernel_rfl) (by kernel_rfl) (by kernel_rfl)) ?_
  intro W base args ds gs before hval0 hW hcnd _
  have hval : ∀ (j : Nat) t v, Try.f9.params[j]? = some t → args[j]? = some v → Value.okWide Try.prog W .any base t v := hval0
  have hW' := hW
  obtain ⟨p, q, hA0, hV, rfl, hfz, hnd⟩ := hW
  have hA : DataW.TrodAll enc Try.prog W 0 (fun _ => true) true Try.f9.params.toList args.toList ds p := hA0
  rw [Try.params9] at hA hval
  obtain ⟨v0, vs0, d0, ds0, p0, q0, hargs, rfl, rfl, h0, r0⟩ := trodAll_cons hA
  obtain ⟨v1, vs1, d1, ds1, p1, q1, rfl, rfl, rfl, h1, r1⟩ := trodAll_cons r0
  obtain ⟨v2, vs2, d2, ds2, p2, q2, rfl, rfl, rfl, h2, r2⟩ := trodAll_cons r1
  obtain ⟨rfl, rfl, rfl⟩ := trodAll_nil r2
  obtain rfl : args = #[v0, v1, v2] := by cases args; simp_all
  obtain ⟨rfl, rfl⟩ := trodVars_none hV
  have k0 := h0
  have lt0 : ∀ x ∈ p0, x.block < W.heap.size := by obtain ⟨m, hm⟩ := k0; exact DataW.trod_lt m _ _ _ hm
  obtain ⟨b0, lb0, cb0, rfl⟩ := okWide_slice Try.underlying65 (hval 0 65 v0 rfl rfl)
  obtain ⟨fu0, hf0⟩ := h0
  simp only [Value.cells] at hf0
  obtain ⟨a0, len0, cap0, z0, e0, w0⟩ := fld_strs Try.underlying65 Try.underlying9 (by kernel_rfl) hf0
  obtain ⟨rfl, rfl, rfl⟩ : b0 = a0 ∧ lb0 = len0 ∧ cb0 = cap0 := by simpa using e0
  have k1 := h1
  have lt1 : ∀ x ∈ p1, x.block < W.heap.size := by obtain ⟨m, hm⟩ := k1; exact DataW.trod_lt m _ _ _ hm
  obtain ⟨a1, rfl, rfl, rfl, w1⟩ := open_string Try.underlying9 (hval 1 9 v1 rfl rfl) h1
  have k2 := h2
  have lt2 : ∀ x ∈ p2, x.block < W.heap.size := by obtain ⟨m, hm⟩ := k2; exact DataW.trod_lt m _ _ _ hm
  obtain ⟨a2, rfl, rfl, rfl, w2⟩ := open_int Try.underlying5 (hval 2 5 v2 rfl rfl) h2
  clear hA0 hval0
  refine (walk b0 lb0 cb0 z0 a1 a2 W w0 w1 w2).mono fun e W' ⟨he, bel⟩ => ?_
  subst he
  exact ⟨_, rfl, _, _, _, [], _, [], hW', trodAll_mk1 (shut_bool Try.underlying4 _), (trodAll_cons_mk (Below.trod laidOut (by kernel_rfl) (of_decide_eq_true (by kernel_rfl)) k0 bel lt0) (trodAll_cons_mk (Below.trod laidOut (by kernel_rfl) (of_decide_eq_true (by kernel_rfl)) k1 bel lt1) (trodAll_cons_mk (Below.trod laidOut (by kernel_rfl) (of_decide_eq_true (by kernel_rfl)) k2 bel lt2) trodAll_mk0))), rfl, bel.frame _, fun h => by cases h⟩

theorem over : Rows.holdFindsRow.holds Try.pinned (OpenSpec.ofChange Rows.holdFindsSpec) :=
  OpenClaim.holds_of_wide 9 Try.f9 rfl rfl rfl rfl rfl rfl rfl ⟨rfl, rfl, rfl, rfl, rfl⟩ rfl rfl rfl rfl rfl (by kernel_rfl) Try.func9 (by kernel_rfl)
    (of_decide_eq_true (by kernel_rfl)) (by unfold Func.isWrapper; first | (rw [if_pos (by decide +kernel)]; kernel_rfl) | (rw [if_neg (by decide +kernel)]; exact ⟨rfl, rfl⟩))
    (fun os started H enc _ => lifted os started H enc)

/-- The statement. -/
theorem proved : Rows.HoldFindsSaid := over
#print axioms proved
end Go.Proofs.Ytbdjcppkfihonaa.holdFinds
