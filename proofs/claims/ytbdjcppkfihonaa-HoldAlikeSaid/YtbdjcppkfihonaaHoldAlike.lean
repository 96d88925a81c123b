/- P19.3: for every list of texts (its first 3, each cut to 6 bytes), every text (cut to 24 bytes) and every cutting of it: the same matches come of it in pieces as at once. No condition. -/
import Derived.Test.YtbdjcppkfihonaaOpen
import Derived.WalkKit
import Derived.ProofKit
import Derived.OpenShut
import Derived.Test.YtbdjcppkfihonaaHdC
import Derived.Test.YtbdjcppkfihonaaGp13
import Derived.Test.YtbdjcppkfihonaaClass
namespace Go.Proofs.Ytbdjcppkfihonaa.holdAlike
open Go.Joins Go.ChangeShapes Go.WideShapes Go.ChangeAt Go.RowKit Go.Deep
open Go.ChangeMaps (open_string)
set_option linter.unusedSimpArgs false
set_option linter.unusedVariables false

theorem ring_whole64 (s : ByteArray) (h : s.size ≤ 64) (R : ByteArray) (hR : R = ByteArray.empty) : R ++ s.extract 0 (min s.size (64 - R.size)) = s := by
  subst hR
  have e : min s.size (64 - ByteArray.empty.size) = s.size := by rw [show ByteArray.empty.size = 0 from rfl]; omega
  rw [e, cut_whole, ByteArray.empty_append]
theorem piece_list (s : ByteArray) (a b : Nat) : (s.extract a b).data.toList = (s.data.toList.drop a).take (b - a) := by
  rw [ByteArray.data_extract, Array.toList_extract, List.extract_eq_take_drop]
theorem ha_meas (N len2 at_ a2 u : Nat) (u' : Int) (h1 : at_ ≠ N) (h2 : u ≤ len2) (h3 : a2 ≠ N → u' = ((u + 1 : Nat) : Int) ∧ u < len2) : (if (intOf (.int .i64 (a2 : Int))).toNat = N then 0 else (len2 - (intOf (.int .i64 u')).toNat) + 1) < (if (intOf (.int .i64 (at_ : Int))).toNat = N then 0 else (len2 - (intOf (.int .i64 (u : Int))).toNat) + 1) := by
  have e1 : (intOf (.int .i64 (a2 : Int))).toNat = a2 := by simp [intOf]
  have e2 : (intOf (.int .i64 (at_ : Int))).toNat = at_ := by simp [intOf]
  have e3 : (intOf (.int .i64 (u : Int))).toNat = u := by simp [intOf]
  rw [e1, e2, e3, if_neg h1]
  by_cases h : a2 = N
  · rw [if_pos h]; omega
  · obtain ⟨h4, h5⟩ := h3 h
    have e4 : (intOf (.int .i64 u')).toNat = u + 1 := by rw [h4]; simp [intOf]
    rw [if_neg h, e4]; omega
theorem ba_nil {R : ByteArray} (h : R.data.toList = []) : R = ByteArray.empty := ba_ext h
set_option maxRecDepth 20000 in
set_option maxHeartbeats 16000000 in

theorem walk (a0 : Option Addr) (len0 cap0 : Nat) (z0 : List ByteArray) (a1 : ByteArray) (a2 : Option Addr) (len2 cap2 : Nat) (z2 : List Int) (w : World) (w0 : IsStrs w a0 len0 cap0 z0) (w1 : a1.size ≤ maxLen) (w2 : IsRow .u8 w a2 len2 cap2 z2) :
    Calls Try.prog 8 #[.slice a0 len0 cap0, .string a1, .slice a2 len2 cap2] w fun e w' => e = .returned (.bool true) ∧ Below w.heap.size w w' := by
  have hl0 : z0.length = len0 := w0.1
  have hm0 : len0 ≤ maxLen := Nat.le_trans w0.2.1 w0.2.2.1
  have HI : Hid (TX w a0 z0 ∧ z0.length = len0) := Lib.hid ⟨tx_in w0, hl0⟩
  obtain ⟨hzl2, hlc2, hcm2, hnil2, hwz2, hcell2⟩ := w2
  have hcm2' : len2 ≤ maxLen := Nat.le_trans hlc2 hcm2
  have hlen2 : len2 ≤ 9223372036854775807 := by unfold maxLen at hcm2'; omega
  have HC2 := Lib.hid (And.intro hcell2 (And.intro hwz2 hzl2))
  clear hcell2 hwz2 hzl2 hnil2 hlc2 hcm2 hcm2'
  obtain ⟨rs, hrs⟩ : ∃ rs, fewT z0 3 6 = rs := ⟨_, rfl⟩
  obtain ⟨m, hm⟩ : ∃ m, rs.length = m := ⟨_, rfl⟩
  have hm10 : m ≤ 3 := by rw [← hm, ← hrs]; exact fewT_len _ _ _
  have hsz : ∀ s ∈ rs, s.size ≤ 6 := by rw [← hrs]; exact fewT_long
  have hmx : m ≤ maxLen := by unfold maxLen; omega
  have HR : Hid (fewT z0 3 6 = rs ∧ rs.length = m ∧ fewT rs 3 6 = rs ∧ (∀ s ∈ rs, s.size ≤ 1000000) ∧ (∀ s ∈ rs, s.size ≤ maxLen)) := Lib.hid ⟨hrs, hm, fewT_self _ _ _ (by omega) hsz, fun s hs => by have := hsz s hs; omega, fun s hs => by have := hsz s hs; unfold maxLen; omega⟩
  have hm8 : m ≤ 8 := by omega
  obtain ⟨s, hs⟩ : ∃ s, cutT a1 24 = s := ⟨_, rfl⟩
  have hs24 : s.size ≤ 24 := by rw [← hs]; exact cutT_le _ _
  obtain ⟨X, hX⟩ : ∃ X, s.data.toList = X := ⟨_, rfl⟩
  obtain ⟨N, hN⟩ : ∃ N, s.size = N := ⟨_, rfl⟩
  have hNX : X.length = N := by rw [← hX]; simpa using hN
  have hN24 : N ≤ 24 := by omega
  have HS : Hid (cutT a1 24 = s ∧ s.size ≤ 100000 ∧ s.data.toList = X ∧ s.size = N ∧ X.length = N) := Lib.hid ⟨hs, by omega, hX, hN, hNX⟩
  clear w0 hl0 hrs hm hsz hs hX hNX hN
  by_cases he0 : (Ar.nw rs m).2 = 0
  case neg =>
    obtain ⟨ni, ne, hnw⟩ : ∃ ni ne, Ar.nw rs m = (ni, ne) := ⟨_, _, rfl⟩
    have hne : ne ≠ 0 := by rw [hnw] at he0; exact he0
    have HZ := Lib.hid (And.intro hnw hne)
    have hz : ((ne : Int) == 0) = false := by rw [beq_eq_false_iff_ne]; omega
    have hz2 : ¬ ne = 0 := hne
    have hz3 : ¬ (ne : Int) = 0 := by omega
    have hz4 : ((ne : Int) != 0) = true := by simp; omega
    clear he0 hnw hne
    go_enter Try.func8, Try.ntmps8
    go_wp2_with (first
          | (go_at_call 41; refine (fewt z0 len0 HI.out.2 hm0 a0 cap0 3 6 (by omega) (by omega) rs HR.out.1 m HR.out.2.1 _ HI.out.1).mono ?_; rintro e W1 ⟨g1, c1, rfl, h1, _, hb1⟩; have HB := Lib.hid (And.intro h1 hb1); clear h1 hb1 HI)
          | (go_at_call 35; refine (cut_m a1 s 24 (by omega) w1 HS.out.1 24 rfl _).mono ?_; rintro e W2 ⟨rfl, hb1⟩; have HC := Lib.hid (And.intro (HB.out.1.fr hb1) (HB.out.2.trans (hb1.mono HB.out.2.size))); clear hb1 HB)
          | (go_at_call 32; refine (hd_new 64 64 (by decide) _).mono ?_; rintro e W3 ⟨rfl, q1, q2⟩; have HD := Lib.hid (And.intro q1 (And.intro (HC.out.2.trans (q2.mono HC.out.2.size)) (And.intro HC.out.2.size (HC.out.1.fr q2)))); clear q1 q2 HC)
          | (go_at_call 32; refine (hd_new 64 64 (by decide) _).mono ?_; rintro e W4 ⟨rfl, q1, q2⟩; have HE := Lib.hid (And.intro HD.out (And.intro q1 (And.intro q2 (HD.out.2.2.2.fr q2)))); clear q1 q2 HD)
          | (go_at_call 34; refine (new_any0 64 64 _ (by decide)).mono ?_; rintro e W5 ⟨rfl, q1, q0, q2⟩; have HF := Lib.hid (And.intro HE.out (And.intro q1 (And.intro q2 (HE.out.2.2.2.fr q2)))); clear q0 q1 q2 HE)
          | (go_at_call 34; refine (new_any0 64 64 _ (by decide)).mono ?_; rintro e W6 ⟨rfl, q1, q0, q2⟩; have HG := Lib.hid (And.intro (tw_new HF.out.1.1.1 HF.out.1.1.2.1 HF.out.1.1.2.2.1 HF.out.1.2.1 HF.out.1.2.2.1 (Nat.le_refl _) HF.out.2.1 HF.out.2.2.1 q1 q2) (HF.out.2.2.2.fr q2)); clear q0 q1 q2 HF)
          | (go_at_call 41; refine (fewt rs m HR.out.2.1 hmx (some ⟨g1, 0, none⟩) c1 3 6 (by omega) (by omega) rs HR.out.2.2.1 m HR.out.2.1 _ (TX.of_rw HG.out.2 HR.out.2.2.2.2)).mono ?_; rintro e W7 ⟨g2, c2, rfl, h1, _, hb1⟩; have HH := Lib.hid (And.intro (HG.out.1.below hb1) (And.intro (TX.of_rw h1 HR.out.2.2.2.2) (HG.out.2.fr hb1))); clear h1 hb1 HG)
          | (go_at_call 42; refine (ls_begin_no HH.out.1.1 rs m HR.out.2.1 hm8 _ _ HR.out.2.2.2.1 ni ne HZ.out.1 HZ.out.2 HH.out.2.1).mono ?_; rintro e W8 ⟨rfl, q1⟩; have HJ := Lib.hid q1; clear q1 HH)
          | (go_at_call 47; refine (hd_lives _).mono ?_; rintro e W9 ⟨rfl, q⟩; have HL := Lib.hid (HJ.out.2.2.2.2.2.1.trans (q.mono HJ.out.2.2.2.2.2.2)); clear q HJ))
    go_ret
    exact ⟨rfl, HL.out⟩
  obtain ⟨Ls, hLs⟩ : ∃ Ls, rs.map Ar.pat = Ls := ⟨_, rfl⟩
  obtain ⟨Mz, Tz, Kz, hms⟩ : ∃ Mz Tz Kz, Hd.mx Ls 30 X 0 = (Mz, Tz, Kz) := ⟨_, _, _, rfl⟩
  have HN := Lib.hid he0
  have HZ := Lib.hid hLs
  have HMS := Lib.hid hms
  have HS6 : Hid (s.size ≤ 64) := Lib.hid (by omega)
  clear he0 hLs hms
  go_enter Try.func8, Try.ntmps8
  go_upto_region 6 with (first
          | (go_at_call 41; refine (fewt z0 len0 HI.out.2 hm0 a0 cap0 3 6 (by omega) (by omega) rs HR.out.1 m HR.out.2.1 _ HI.out.1).mono ?_; rintro e W1 ⟨g1, c1, rfl, h1, _, hb1⟩; have HB := Lib.hid (And.intro h1 hb1); clear h1 hb1 HI)
          | (go_at_call 35; refine (cut_m a1 s 24 (by omega) w1 HS.out.1 24 rfl _).mono ?_; rintro e W2 ⟨rfl, hb1⟩; have HC := Lib.hid (And.intro (HB.out.1.fr hb1) (HB.out.2.trans (hb1.mono HB.out.2.size))); clear hb1 HB)
          | (go_at_call 32; refine (hd_new 64 64 (by decide) _).mono ?_; rintro e W3 ⟨rfl, q1, q2⟩; have HD := Lib.hid (And.intro q1 (And.intro (HC.out.2.trans (q2.mono HC.out.2.size)) (And.intro HC.out.2.size (HC.out.1.fr q2)))); clear q1 q2 HC)
          | (go_at_call 32; refine (hd_new 64 64 (by decide) _).mono ?_; rintro e W4 ⟨rfl, q1, q2⟩; have HE := Lib.hid (And.intro HD.out (And.intro q1 (And.intro q2 (HD.out.2.2.2.fr q2)))); clear q1 q2 HD)
          | (go_at_call 34; refine (new_any0 64 64 _ (by decide)).mono ?_; rintro e W5 ⟨rfl, q1, q0, q2⟩; have HF := Lib.hid (And.intro HE.out (And.intro q1 (And.intro q2 (HE.out.2.2.2.fr q2)))); clear q0 q1 q2 HE)
          | (go_at_call 34; refine (new_any0 64 64 _ (by decide)).mono ?_; rintro e W6 ⟨rfl, q1, q0, q2⟩; have HG := Lib.hid (And.intro (tw_new HF.out.1.1.1 HF.out.1.1.2.1 HF.out.1.1.2.2.1 HF.out.1.2.1 HF.out.1.2.2.1 (Nat.le_refl _) HF.out.2.1 HF.out.2.2.1 q1 q2) (HF.out.2.2.2.fr q2)); clear q0 q1 q2 HF)
          | (go_at_call 41; refine (fewt rs m HR.out.2.1 hmx (some ⟨g1, 0, none⟩) c1 3 6 (by omega) (by omega) rs HR.out.2.2.1 m HR.out.2.1 _ (TX.of_rw HG.out.2 HR.out.2.2.2.2)).mono ?_; rintro e W7 ⟨g2, c2, rfl, h1, _, hb1⟩; have HH := Lib.hid (And.intro (HG.out.1.below hb1) (And.intro (TX.of_rw h1 HR.out.2.2.2.2) (HG.out.2.fr hb1))); clear h1 hb1 HG)
          | (go_at_call 42; refine (tw_begin2 HH.out.1 rs m HR.out.2.1 hm8 g2 c2 HR.out.2.2.2.1 HN.out HH.out.2.1 Ls HZ.out g1 c1 HH.out.2.2 HR.out.2.2.2.2).mono ?_; rintro e W8 ⟨x, gp, cp, xs, rfl, q1, q2⟩; have HJ := Lib.hid (And.intro q1.symm q2); clear q1 q2 HH)
          | (go_at_call 41; refine (fewt rs m HR.out.2.1 hmx (some ⟨g1, 0, none⟩) c1 3 6 (by omega) (by omega) rs HR.out.2.2.1 m HR.out.2.1 _ HJ.out.2).mono ?_; rintro e W9 ⟨g3, c3, rfl, h1, _, hb1⟩; have HK := Lib.hid (And.intro (HJ.out.1.below hb1) (TX.of_rw h1 HR.out.2.2.2.2)); clear h1 hb1 HJ)
          | (go_at_call 42; refine (tw_begin HK.out.1 rs m HR.out.2.1 hm8 g3 c3 HR.out.2.2.2.1 HN.out HK.out.2 Ls HZ.out).mono ?_; rintro e W10 ⟨y, gq, cq, ys, rfl, q1, _⟩; have HM := Lib.hid q1.symm; clear q1 HK)
          | (go_at_call 36; refine (tw_put HM.out s HS.out.2.1).mono ?_; rintro e W11 ⟨rfl, q1, _⟩; rw [ring_whole64 s HS6.out ByteArray.empty rfl] at q1; have HO := Lib.hid q1; clear q1 HM))
  have H0 : Hid (TW w.heap.size w ((W11.alloc (.cells #[] 87)).alloc (.cells #[] 87)) W2.heap.size (W4.heap.size + 1) W4.heap.size 64 64 (.slice (some ⟨gp, 0, none⟩) m cp) (some ⟨x, 0, none⟩) xs Ls none 0 0 ByteArray.empty 0 0 s W3.heap.size (W5.heap.size + 1) W5.heap.size 64 64 (.slice (some ⟨gq, 0, none⟩) m cq) (some ⟨y, 0, none⟩) ys Ls none 0 0 ByteArray.empty 0 0 ByteArray.empty ∧ Rn ((W11.alloc (.cells #[] 87)).alloc (.cells #[] 87)) W11.heap.size 0 2 [] 87 ∧ Rn ((W11.alloc (.cells #[] 87)).alloc (.cells #[] 87)) (W11.heap.size + 1) 0 2 [] 87 ∧ w.heap.size ≤ W11.heap.size) := by
    have q : Below W11.heap.size W11 ((W11.alloc (.cells #[] 87)).alloc (.cells #[] 87)) := ((Below.refl _ _).alloc (Nat.le_refl _) _).alloc (by simp) _
    have r1 := (Rn.empty W11 2 87).chg (((Chg.refl [] _).alloc (.cells #[] 87))) (by simp)
    have r2 := Rn.empty (W11.alloc (.cells #[] 87)) 2 87
    rw [show (W11.alloc (.cells #[] 87)).heap.size = W11.heap.size + 1 by simp] at r2
    exact Lib.hid ⟨HO.out.below q, r1, r2, HO.out.1.2.2.2.2.2.2⟩
  go_upto_region 7 with fail
  revert H0
  generalize (W11.alloc (.cells #[] 87)).alloc (.cells #[] 87) = W12
  intro H0
  obtain ⟨ga0, hga0⟩ : ∃ ga0, W11.heap.size = ga0 := ⟨_, rfl⟩
  rw [hga0] at H0 ⊢
  obtain ⟨gs, hgs⟩ : ∃ gs, ga0 + 1 = gs := ⟨_, rfl⟩
  rw [hgs] at H0 ⊢
  have HGS := Lib.hid hgs
  clear HO hga0 hgs
  go_wp2_with fail
  go_loopw [11, 13, 14] (fun av iv _ wr => ∃ (i ga ca : Nat) (L : List (Nat × Nat)) (T : List UInt8) (t : Option Addr) (mt ct : Nat) (S : ByteArray) (K f : Nat) (R : ByteArray), av = .slice (some ⟨ga, 0, none⟩) i ca ∧ iv = .int .i64 i ∧ T.length + i ≤ 24 ∧ Hid (L.length = i ∧ S.data.toList ++ R.data.toList = T ∧ L ++ (Hd.mx Ls (30 - i) T K).1 = Mz ∧ (Hd.mx Ls (30 - i) T K).2 = (Tz, Kz)) ∧ Hid (TW w.heap.size w wr W2.heap.size (W4.heap.size + 1) W4.heap.size 64 64 (.slice (some ⟨gp, 0, none⟩) m cp) (some ⟨x, 0, none⟩) xs Ls t mt ct S K f R W3.heap.size (W5.heap.size + 1) W5.heap.size 64 64 (.slice (some ⟨gq, 0, none⟩) m cq) (some ⟨y, 0, none⟩) ys Ls none 0 0 ByteArray.empty 0 0 ByteArray.empty) ∧ Hid (Rn wr ga ca 2 (pz L) 87 ∧ Rn wr gs 0 2 [] 87 ∧ ga ≠ gs ∧ w.heap.size ≤ ga ∧ w.heap.size ≤ gs)) (fun _ i _ _ => 30 - (intOf i).toNat)
  case atStart =>
    exact ⟨0, ga0, 0, [], X, none, 0, 0, ByteArray.empty, 0, 0, s, rfl, rfl, by have := HS.out.2.2.2.2; omega, Lib.hid ⟨rfl, by rw [HS.out.2.2.1]; rfl, by rw [Nat.sub_zero, HMS.out]; rfl, by rw [Nat.sub_zero, HMS.out]⟩, Lib.hid H0.out.1, Lib.hid ⟨H0.out.2.1, H0.out.2.2.1, by have := HGS.out; omega, H0.out.2.2.2, by have := HGS.out; have := H0.out.2.2.2; omega⟩⟩
  case round =>
    obtain ⟨i, ga, ca, L, T, t, mt, ct, S, K, f, R, rfl, rfl, hTi, HA, HT, HW⟩ := hrel
    clear H0
    have i1 : (i : Int) < 30 := by omega
    have i2 : IntKind.i64.wrap ((i : Int) + 1) = (i : Int) + 1 := IntWalk.i64_in _ (by omega)
    obtain ⟨k30, hk30⟩ : ∃ k30, 30 - i = k30 + 1 := ⟨29 - i, by omega⟩
    have hlk := tw_look HT.out T HA.out.2.1 (by omega)
    cases hn : Hd.nx Ls T (T.length - K) K with
    | some x1 =>
      obtain ⟨q, e⟩ := x1
      have hl2 := hlk.1 q e hn
      have hlt := nx_lt _ _ _ _ hn
      have HA2 : Hid (∀ Y, Y = T.drop e → (L ++ [(q, e)]).length = i + 1 ∧ (L ++ [(q, e)]) ++ (Hd.mx Ls (30 - (i + 1)) Y 0).1 = Mz ∧ (Hd.mx Ls (30 - (i + 1)) Y 0).2 = (Tz, Kz) ∧ Y.length + (i + 1) ≤ 24) := Lib.hid (by
        intro Y hY
        obtain ⟨z1, z2, z3, z4⟩ := HA.out
        rw [hk30, ms_some hn, ← hY, show k30 = 30 - (i + 1) by omega] at z3 z4
        refine ⟨by simp [z1], by rw [List.append_assoc]; exact z3, z4, by rw [hY, List.length_drop]; omega⟩)
      have HL := Lib.hid hl2
      have HLL : Hid (L.length = i) := Lib.hid HA.out.1
      clear hlk hl2 hlt hn HA
      go_wp2_with (first
        | (go_at_call 39; refine (HL.out).mono ?_; rintro r V1 ⟨rd, t', m', ct', S', f', R', rfl, q1, q2, q3⟩; have HU := Lib.hid (And.intro (q1.below ((Below.refl _ _).alloc (Nat.le_refl _) (.cells #[.bool true, .bool false, .int .i64 (q : Nat), .int .i64 (e : Nat), .int .i64 (rd : Nat)] 75))) (And.intro ((RK.of_below ((Below.refl _ _).alloc (Nat.le_refl _) (.cells #[.bool true, .bool false, .int .i64 (q : Nat), .int .i64 (e : Nat), .int .i64 (rd : Nat)] 75))) _ _ _ (q2 _ _ _ HW.out.1)) (And.intro ((RK.of_below ((Below.refl _ _).alloc (Nat.le_refl _) (.cells #[.bool true, .bool false, .int .i64 (q : Nat), .int .i64 (e : Nat), .int .i64 (rd : Nat)] 75))) _ _ _ (q2 _ _ _ HW.out.2.1)) (And.intro HW.out.2.2 q3)))); clear q1 q2 q3 HT HL)
        | (at_builtin; refine wpList_append_rn _ rfl (.tmp 57) (.tmp 63) 86 86 rfl 87 (.agg #[.int .i64 0, .int .i64 0]) 2 16 Try.underlying86 infopz rfl ga _ ca (pz L) rfl (by rw [pz_length, HLL.out]) (HU.out.2.1.chg ((Chg.refl [] _).alloc _) (by simp)) _ rfl 1 [.int .i64 (q : Nat), .int .i64 (e : Nat)] (Src.ofSlice _ Try.underlying86 ⟨_, 0, none⟩ 1 1 [.int .i64 (q : Nat), .int .i64 (e : Nat)] rfl (pz_two2 _ _ (by simp) _ _ _) (pz_one _ _)) (by omega) (by omega) ?_; intro g4 c4 w4 r1 r2 r3; have HY := Lib.hid (And.intro r1 (And.intro r2 r3)); clear r1 r2 r3))
      have HV : Hid (TW w.heap.size w w4 W2.heap.size (W4.heap.size + 1) W4.heap.size 64 64 (.slice (some ⟨gp, 0, none⟩) m cp) (some ⟨x, 0, none⟩) xs Ls t' m' ct' S' 0 f' R' W3.heap.size (W5.heap.size + 1) W5.heap.size 64 64 (.slice (some ⟨gq, 0, none⟩) m cq) (some ⟨y, 0, none⟩) ys Ls none 0 0 ByteArray.empty 0 0 ByteArray.empty ∧ Rn w4 g4 c4 2 (pz (L ++ [(q, e)])) 87 ∧ Rn w4 gs 0 2 [] 87 ∧ g4 ≠ gs ∧ w.heap.size ≤ g4) := by
        obtain ⟨u1, u2, u3, ⟨u4, u5, u6⟩, u7⟩ := HU.out
        obtain ⟨r1, r2, r3⟩ := HY.out
        have s1 := u1.1.2.2.2.2.2.2
        have s2 := u3.lt
        have tw := (u1.below ((Below.refl _ _).alloc (Nat.le_refl _) (.cells #[.int .i64 (q : Nat), .int .i64 (e : Nat)] 87))).pairs (u2.chg ((Chg.refl [] _).alloc _) (by simp)) u5 r3
        have rg := (u3.chg ((Chg.refl [] _).alloc (.cells #[.int .i64 (q : Nat), .int .i64 (e : Nat)] 87)) (by simp)).chg r3 (by simp; exact fun h => u4 h.symm)
        refine Lib.hid ⟨tw, by rw [pz_append]; exact r1, rg, ?_, ?_⟩
        · rcases r2 with h | h
          · rw [h]; exact u4
          · simp at h s2; omega
        · rcases r2 with h | h
          · rw [h]; exact u5
          · simp at h s1; omega
      have HQ3 := Lib.hid (HA2.out _ HU.out.2.2.2.2)
      have i3 := HQ3.out.2.2.2
      go_roundw
      case rel => exact ⟨i + 1, g4, c4, L ++ [(q, e)], S'.data.toList ++ R'.data.toList, t', m', ct', S', 0, f', R', rfl, by go_num, i3, Lib.hid ⟨HQ3.out.1, rfl, HQ3.out.2.1, HQ3.out.2.2.1⟩, Lib.hid HV.out.1, Lib.hid ⟨HV.out.2.1, HV.out.2.2.1, HV.out.2.2.2.1, HV.out.2.2.2.2, HW.out.2.2.2.2⟩⟩
      case measure => simp [intOf]; omega
    | none =>
      have hl2 := hlk.2 hn
      have HF0 : Hid (Mz = L ∧ Tz = T ∧ Kz = T.length) := Lib.hid (by
        obtain ⟨z1, z2, z3, z4⟩ := HA.out
        rw [hk30, ms_none hn] at z3 z4
        injection z4 with z4 z5
        exact ⟨by rw [← z3]; simp, z4.symm, z5.symm⟩)
      have HL := Lib.hid hl2
      have HLL : Hid (L.length = i) := Lib.hid HA.out.1
      clear hlk hl2 hn HA
      go_upto_region 13 with (first
        | (go_at_call 39; refine (HL.out).mono ?_; rintro r V1 ⟨rd, t', m', ct', S', f', R', rfl, q1, q2, q3, q4⟩; obtain rfl := ba_nil q4; have HU : Hid (_ ∧ _ ∧ _ ∧ _) := Lib.hid (And.intro (q1.below ((Below.refl _ _).alloc (Nat.le_refl _) (.cells #[.bool false, .bool false, .int .i64 0, .int .i64 0, .int .i64 (rd : Nat)] 75))) (And.intro ((RK.of_below ((Below.refl _ _).alloc (Nat.le_refl _) (.cells #[.bool false, .bool false, .int .i64 0, .int .i64 0, .int .i64 (rd : Nat)] 75))) _ _ _ (q2 _ _ _ HW.out.1)) (And.intro ((RK.of_below ((Below.refl _ _).alloc (Nat.le_refl _) (.cells #[.bool false, .bool false, .int .i64 0, .int .i64 0, .int .i64 (rd : Nat)] 75))) _ _ _ (q2 _ _ _ HW.out.2.1)) q3))); clear q1 q2 q3 q4 HT HL))
      revert HU
      generalize (V1.alloc (.cells #[.bool false, .bool false, .int .i64 0, .int .i64 0, .int .i64 (rd : Nat)] 75)) = V2
      intro HU
      obtain ⟨TL, hTL⟩ : ∃ TL, T.length = TL := ⟨_, rfl⟩
      rw [hTL] at HU
      have HP : Hid (TW w.heap.size w V2 W3.heap.size (W5.heap.size + 1) W5.heap.size 64 64 (.slice (some ⟨gq, 0, none⟩) m cq) (some ⟨y, 0, none⟩) ys Ls none 0 0 ByteArray.empty 0 0 ByteArray.empty W2.heap.size (W4.heap.size + 1) W4.heap.size 64 64 (.slice (some ⟨gp, 0, none⟩) m cp) (some ⟨x, 0, none⟩) xs Ls t' m' ct' S' TL f' ByteArray.empty ∧ Rn V2 ga ca 2 (pz Mz) 87 ∧ Rn V2 gs 0 2 [] 87 ∧ ga ≠ gs ∧ w.heap.size ≤ gs ∧ Mz.length = i ∧ S'.data.toList = Tz) := Lib.hid ⟨HU.out.1.symm, by rw [HF0.out.1]; exact HU.out.2.1, HU.out.2.2.1, HW.out.2.2.1, HW.out.2.2.2.2, by rw [HF0.out.1]; exact HLL.out, by rw [HF0.out.2.1]; exact HU.out.2.2.2⟩
      clear HU HW HF0 HLL hTi hTL i1 i2 hk30
      go_wp2_with fail
      go_loopw [12, 15, 16, 17, 18, 19] (fun sv av iv _ _ _ wr => ∃ (at_ u gr cr kk : Nat) (L2 : List (Nat × Nat)) (T2 : List UInt8) (t2 : Option Addr) (m2 ct2 : Nat) (S2 : ByteArray) (K2 f2 : Nat) (ui : Int), sv = .slice (some ⟨gr, 0, none⟩) kk cr ∧ av = .int .i64 at_ ∧ iv = .int .i64 ui ∧ at_ ≤ N ∧ (at_ < N → ui = u ∧ u ≤ len2) ∧ kk ≤ 24 ∧ Hid (L2.length = kk ∧ S2.data.toList = T2 ∧ Hd.mx Ls 30 (X.take at_) 0 = (L2, T2, K2)) ∧ Hid (TW w.heap.size w wr W3.heap.size (W5.heap.size + 1) W5.heap.size 64 64 (.slice (some ⟨gq, 0, none⟩) m cq) (some ⟨y, 0, none⟩) ys Ls t2 m2 ct2 S2 K2 f2 ByteArray.empty W2.heap.size (W4.heap.size + 1) W4.heap.size 64 64 (.slice (some ⟨gp, 0, none⟩) m cp) (some ⟨x, 0, none⟩) xs Ls t' m' ct' S' TL f' ByteArray.empty) ∧ Hid (Rn wr ga ca 2 (pz Mz) 87 ∧ Rn wr gr cr 2 (pz L2) 87 ∧ ga ≠ gr ∧ w.heap.size ≤ gr)) (fun _ a i _ _ _ _ => if (intOf a).toNat = N then 0 else (len2 - (intOf i).toNat) + 1)
      case atStart => exact ⟨0, 0, gs, 0, 0, [], [], none, 0, 0, ByteArray.empty, 0, 0, 0, rfl, rfl, rfl, by omega, fun _ => ⟨rfl, by omega⟩, by omega, Lib.hid ⟨rfl, rfl, by rw [List.take_zero]; exact ms_none rfl⟩, Lib.hid HP.out.1, Lib.hid ⟨HP.out.2.1, HP.out.2.2.1, HP.out.2.2.2.1, HP.out.2.2.2.2.1⟩⟩
      case round =>
        obtain ⟨at_, u, gr, cr, kk, L2, T2, t2, m2, ct2, S2, K2, f2, ui, rfl, rfl, rfl, hat, hul, hkk, HA, HT, HW⟩ := hrel
        have HPP : Hid (Mz.length = i ∧ S'.data.toList = Tz) := Lib.hid HP.out.2.2.2.2.2
        clear HP
        by_cases hlt : at_ < N
        · obtain ⟨rfl, ulen⟩ := hul hlt
          have hsN := HS.out.2.2.2.1
          have j1 : (at_ : Int) < (s.size : Int) := by omega
          have j2 : at_ < s.size := by omega
          obtain ⟨nn, hnn⟩ : ∃ nn, N - at_ = nn := ⟨_, rfl⟩
          have j3 : (s.size : Int) - (at_ : Int) = (nn : Int) := by omega
          have j4 : IntKind.i64.wrap (nn : Int) = (nn : Int) := IntWalk.i64_in _ (by omega)
          obtain ⟨u', hu'⟩ : ∃ u', IntKind.i64.wrap ((u : Int) + 1) = u' := ⟨_, rfl⟩
          have HU' : Hid (u < len2 → u' = ((u + 1 : Nat) : Int)) := Lib.hid (fun h => by rw [← hu', IntWalk.i64_in _ (by omega)]; omega)
          have HSN := Lib.hid (And.intro hsN hnn)
          clear hsN hnn
          go_upto_region 18 with fail
          go_cut [88] from 65 to 123 (fun bv wx => ∃ bq : Bool, bv = .bool bq ∧ (bq = true → u < len2 ∧ ∃ y : Nat, z2.getD u 0 = (y : Int) ∧ y % 8 < nn) ∧ wr = wx)
          case first =>
            by_cases hul2 : u < len2
            · obtain ⟨bb, off, hab, hbl, hcl⟩ := HC2.out.1 (by omega)
              subst hab
              obtain ⟨z, hz⟩ : ∃ z, z2.getD u 0 = z := ⟨_, rfl⟩
              have hy : wr.cell? ⟨bb, off + u, none⟩ = some (.int .u8 z) := by rw [← hz, HT.out.1.2.2.2.2.2.1.cell (by simpa using hbl)]; exact hcl u hul2
              have hzw : 0 ≤ z ∧ z < 256 := by
                have hl := HC2.out.2.2
                have : z2.getD u 0 = z2[u]'(by omega) := by simp [List.getD, List.getElem?_eq_getElem (show u < z2.length by omega)]
                have := wf_u8 (HC2.out.2.1 z (by rw [← hz, this]; exact List.getElem_mem (show u < z2.length by omega)))
                omega
              obtain ⟨y, rfl⟩ : ∃ y : Nat, z = (y : Int) := ⟨z.toNat, by omega⟩
              have HZ2 := Lib.hid hz
              obtain ⟨yy, hyy⟩ : ∃ yy, y % 8 = yy := ⟨_, rfl⟩
              have y1 : (y : Int).tmod 8 = (yy : Int) := by rw [← hyy]; exact tmod_nat y 8
              have y2 : IntKind.u8.wrap (yy : Int) = (yy : Int) := by simp [IntKind.wrap, IntKind.signed, IntKind.bits]; omega
              have y3 : IntKind.i64.wrap (yy : Int) = (yy : Int) := IntWalk.i64_in _ (by omega)
              have k1 : (u : Int) < (len2 : Int) := by omega
              have k2 : (0 : Int) ≤ (u : Int) := by omega
              have HYY := Lib.hid hyy
              clear hz hyy hcl hzw
              by_cases hyn : yy < nn
              · have k3 : (yy : Int) < (nn : Int) := by omega
                go_wp2_with fail
                go_meet
                exact ⟨true, by simp, fun _ => ⟨hul2, y, HZ2.out, by rw [HYY.out]; exact hyn⟩, rfl⟩
              · have k3 : ¬ (yy : Int) < (nn : Int) := by omega
                go_wp2_with fail
                go_meet
                exact ⟨false, by simp, (fun h => by cases h), rfl⟩
            · have k1 : ¬ (u : Int) < (len2 : Int) := by omega
              go_wp2_with fail
              go_meet
              exact ⟨false, by simp, (fun h => by cases h), rfl⟩
          case rest =>
          obtain ⟨bq, rfl, hbq, rfl⟩ := hcut
          go_upto_if 88 with fail
          go_cut [17] from 65 to 123 (fun nv wx => ∃ n' : Nat, nv = .int .i64 n' ∧ n' ≤ nn ∧ (u < len2 ∨ n' = nn) ∧ wr = wx)
          case first =>
            cases bq with
            | true =>
              obtain ⟨hul2, y, hz, hyn⟩ := hbq rfl
              obtain ⟨bb, off, hab, hbl, hcl⟩ := HC2.out.1 (by omega)
              subst hab
              have hy : wr.cell? ⟨bb, off + u, none⟩ = some (.int .u8 y) := by rw [← hz, HT.out.1.2.2.2.2.2.1.cell (by simpa using hbl)]; exact hcl u hul2
              obtain ⟨yy, hyy⟩ : ∃ yy, y % 8 = yy := ⟨_, rfl⟩
              have y1 : (y : Int).tmod 8 = (yy : Int) := by rw [← hyy]; exact tmod_nat y 8
              have y2 : IntKind.u8.wrap (yy : Int) = (yy : Int) := by simp [IntKind.wrap, IntKind.signed, IntKind.bits]; omega
              have y3 : IntKind.i64.wrap (yy : Int) = (yy : Int) := IntWalk.i64_in _ (by omega)
              have k1 : (u : Int) < (len2 : Int) := by omega
              have k2 : (0 : Int) ≤ (u : Int) := by omega
              have hyn2 : yy < nn := by omega
              clear hz hyy hcl hyn hbq
              go_wp2_with fail
              go_meet
              exact ⟨yy, rfl, by omega, by omega, rfl⟩
            | false =>
              have hcases : u < len2 ∨ ¬ u < len2 := by omega
              go_wp2_with fail
              go_meet
              exact ⟨nn, rfl, by omega, by omega, rfl⟩
          case rest =>
            obtain ⟨n', rfl, hn1, hn2, rfl⟩ := hcut
            obtain ⟨a2, ha2⟩ : ∃ a2, at_ + n' = a2 := ⟨_, rfl⟩
            have l1 : (at_ : Int) + (n' : Int) = (a2 : Int) := by omega
            have l2 : IntKind.i64.wrap (a2 : Int) = (a2 : Int) := IntWalk.i64_in _ (by have := HSN.out.2; omega)
            have l3 : (at_ : Int) ≤ (a2 : Int) := by omega
            have l4 : (a2 : Int) ≤ (s.size : Int) := by have := HSN.out.1; have := HSN.out.2; omega
            have l5 : (0 : Int) ≤ (at_ : Int) := by omega
            have l6 : at_ ≤ a2 := by omega
            have l7 : a2 ≤ s.size := by omega
            have l8 : (0 : Int) ≤ (a2 : Int) := by omega
            obtain ⟨pc, hpc⟩ : ∃ pc, s.extract at_ a2 = pc := ⟨_, rfl⟩
            have hps : pc.size = n' := by rw [← hpc, ByteArray.size_extract]; omega
            have hpl : pc.data.toList = (X.drop at_).take n' := by rw [← hpc, piece_list, HS.out.2.2.1]; congr 1; omega
            have hxa : X.take at_ ++ pc.data.toList = X.take a2 := by rw [hpl, ← ha2, List.take_add]
            have h24 : a2 ≤ 24 := by have := HSN.out.1; omega
            have HPC : Hid (pc.size ≤ 64 ∧ pc.size ≤ 100000 ∧ pc.size = n' ∧ X.take at_ ++ pc.data.toList = X.take a2) := Lib.hid ⟨by omega, by omega, hps, hxa⟩
            have hA2 : Hid (T2.length ≤ at_) := Lib.hid (by
              have := (ms_len (Ls := Ls) 30 0 (X.take at_)).1
              rw [HA.out.2.2, List.length_take] at this
              simp at this
              omega)
            have hmsa : Hid (Hd.mx Ls 30 (X.take a2) 0 = (L2 ++ (Hd.mx Ls 30 (T2 ++ pc.data.toList) K2).1, (Hd.mx Ls 30 (T2 ++ pc.data.toList) K2).2)) := Lib.hid (by
              have := ms_app (Ls := Ls) 30 0 (X.take at_) pc.data.toList (by omega) (by rw [List.length_take, bl_size]; omega)
              rw [hxa, HA.out.2.2] at this
              exact this)
            have HEX := Lib.hid ha2
            clear hps hpl hxa ha2
            go_wp2_with (first
              | (go_at_call 36; refine (tw_put HT.out pc HPC.out.2.1).mono ?_; rintro e V3 ⟨rfl, q1, q2⟩; rw [ring_whole64 pc HPC.out.1 ByteArray.empty rfl] at q1; have HO := Lib.hid (And.intro q1 (And.intro (q2 _ _ _ HW.out.1) (q2 _ _ _ HW.out.2.1))); clear q1 q2 HT)
              | fail)
            have HTL : Hid ((T2 ++ pc.data.toList).length ≤ 24) := Lib.hid (by rw [List.length_append, bl_size]; have := hA2.out; have := HPC.out.2.2.1; have := HEX.out; omega)
            have i24 := HTL.out
            go_loopw [12, 18, 19] (fun sv jv _ wr => ∃ (j gw cr2 kq : Nat) (L3 : List (Nat × Nat)) (T : List UInt8) (t3 : Option Addr) (m3 ct3 : Nat) (S3 : ByteArray) (K3 f3 : Nat) (R3 : ByteArray), sv = .slice (some ⟨gw, 0, none⟩) kq cr2 ∧ jv = .int .i64 j ∧ T.length + j ≤ 24 ∧ Hid (L3.length = kq ∧ S3.data.toList ++ R3.data.toList = T ∧ L3 ++ (Hd.mx Ls (30 - j) T K3).1 = (Hd.mx Ls 30 (X.take a2) 0).1 ∧ (Hd.mx Ls (30 - j) T K3).2 = (Hd.mx Ls 30 (X.take a2) 0).2) ∧ Hid (TW w.heap.size w wr W3.heap.size (W5.heap.size + 1) W5.heap.size 64 64 (.slice (some ⟨gq, 0, none⟩) m cq) (some ⟨y, 0, none⟩) ys Ls t3 m3 ct3 S3 K3 f3 R3 W2.heap.size (W4.heap.size + 1) W4.heap.size 64 64 (.slice (some ⟨gp, 0, none⟩) m cp) (some ⟨x, 0, none⟩) xs Ls t' m' ct' S' TL f' ByteArray.empty) ∧ Hid (Rn wr ga ca 2 (pz Mz) 87 ∧ Rn wr gw cr2 2 (pz L3) 87 ∧ ga ≠ gw ∧ w.heap.size ≤ gw)) (fun _ j _ _ => 30 - (intOf j).toNat)
            case atStart => exact ⟨0, gr, cr, kk, L2, T2 ++ pc.data.toList, t2, m2, ct2, S2, K2, f2, pc, rfl, rfl, i24, Lib.hid ⟨HA.out.1, by rw [HA.out.2.1], by rw [Nat.sub_zero, hmsa.out], by rw [Nat.sub_zero, hmsa.out]⟩, Lib.hid HO.out.1, Lib.hid ⟨HO.out.2.1, HO.out.2.2, HW.out.2.2.1, HW.out.2.2.2⟩⟩
            case round =>
              have HGB : Hid (ga ≠ gr ∧ w.heap.size ≤ gr) := Lib.hid HW.out.2.2
              clear HO HW HA hA2 hmsa HTL i24 HPC
              obtain ⟨j, gw, cr2, kq, L3, T, t3, m3, ct3, S3, K3, f3, R3, rfl, rfl, hTj, HA, HT, HW⟩ := hrel
              have hkq : kq ≤ 24 := by
                have := ms_cnt (Ls := Ls) 30 0 (X.take a2)
                rw [← HA.out.2.2.1, List.length_append, HA.out.1, List.length_take] at this
                omega
              have i1 : (j : Int) < 30 := by omega
              have i2 : IntKind.i64.wrap ((j : Int) + 1) = (j : Int) + 1 := IntWalk.i64_in _ (by omega)
              obtain ⟨k30, hk30⟩ : ∃ k30, 30 - j = k30 + 1 := ⟨29 - j, by omega⟩
              have hlk := tw_look HT.out T HA.out.2.1 (by omega)
              cases hn : Hd.nx Ls T (T.length - K3) K3 with
              | some x1 =>
                obtain ⟨q, e⟩ := x1
                have hl2 := hlk.1 q e hn
                have hlt2 := nx_lt _ _ _ _ hn
                have HA2 : Hid (∀ Y, Y = T.drop e → (L3 ++ [(q, e)]).length = kq + 1 ∧ (L3 ++ [(q, e)]) ++ (Hd.mx Ls (30 - (j + 1)) Y 0).1 = (Hd.mx Ls 30 (X.take a2) 0).1 ∧ (Hd.mx Ls (30 - (j + 1)) Y 0).2 = (Hd.mx Ls 30 (X.take a2) 0).2 ∧ Y.length + (j + 1) ≤ 24) := Lib.hid (by
                  intro Y hY
                  obtain ⟨z1, z2, z3, z4⟩ := HA.out
                  rw [hk30, ms_some hn, ← hY, show k30 = 30 - (j + 1) by omega] at z3 z4
                  refine ⟨by simp [z1], by rw [List.append_assoc]; exact z3, z4, by rw [hY, List.length_drop]; omega⟩)
                have HL := Lib.hid hl2
                have HLL : Hid (L3.length = kq) := Lib.hid HA.out.1
                clear hlk hl2 hlt2 hn HA
                go_wp2_with (first
                  | (go_at_call 39; refine (HL.out).mono ?_; rintro r V4 ⟨rd, t4, m4, ct4, S4, f4, R4, rfl, q1, q2, q3⟩; have HU := (by have ab := fun (Z : World) => ((Below.refl Z.heap.size Z).alloc (Nat.le_refl _) (.cells #[.bool true, .bool false, .int .i64 (q : Nat), .int .i64 (e : Nat), .int .i64 (rd : Nat)] 75)); exact Lib.hid (And.intro (q1.below (ab _)) (And.intro ((RK.of_below (ab _)) _ _ _ (q2 _ _ _ HW.out.1)) (And.intro ((RK.of_below (ab _)) _ _ _ (q2 _ _ _ HW.out.2.1)) (And.intro HW.out.2.2 (q3)))))); clear q1 q2 q3 HT HL)
                  | (at_builtin; refine wpList_append_rn _ rfl (.tmp 116) (.tmp 122) 86 86 rfl 87 (.agg #[.int .i64 0, .int .i64 0]) 2 16 Try.underlying86 infopz rfl gw _ cr2 (pz L3) rfl (by rw [pz_length, HLL.out]) (HU.out.2.2.1.chg ((Chg.refl [] _).alloc _) (by simp)) _ rfl 1 [.int .i64 (q : Nat), .int .i64 (e : Nat)] (Src.ofSlice _ Try.underlying86 ⟨_, 0, none⟩ 1 1 [.int .i64 (q : Nat), .int .i64 (e : Nat)] rfl (pz_two2 _ _ (by simp) _ _ _) (pz_one _ _)) (by omega) (by omega) ?_; intro g4 c4 w4 r1 r2 r3; have HY := Lib.hid (And.intro r1 (And.intro r2 r3)); clear r1 r2 r3))
                have HV : Hid (TW w.heap.size w w4 W3.heap.size (W5.heap.size + 1) W5.heap.size 64 64 (.slice (some ⟨gq, 0, none⟩) m cq) (some ⟨y, 0, none⟩) ys Ls t4 m4 ct4 S4 0 f4 R4 W2.heap.size (W4.heap.size + 1) W4.heap.size 64 64 (.slice (some ⟨gp, 0, none⟩) m cp) (some ⟨x, 0, none⟩) xs Ls t' m' ct' S' TL f' ByteArray.empty ∧ Rn w4 ga ca 2 (pz Mz) 87 ∧ Rn w4 g4 c4 2 (pz (L3 ++ [(q, e)])) 87 ∧ ga ≠ g4 ∧ w.heap.size ≤ g4) := by
                  obtain ⟨u1, u3, u2, ⟨u4, u5⟩, u7⟩ := HU.out
                  obtain ⟨r1, r2, r3⟩ := HY.out
                  have s1 := u1.1.2.2.2.2.2.2
                  have s2 := u3.lt
                  have tw := (u1.below ((Below.refl _ _).alloc (Nat.le_refl _) (.cells #[.int .i64 (q : Nat), .int .i64 (e : Nat)] 87))).pairs (u2.chg ((Chg.refl [] _).alloc _) (by simp)) u5 r3
                  have rg := (u3.chg ((Chg.refl [] _).alloc (.cells #[.int .i64 (q : Nat), .int .i64 (e : Nat)] 87)) (by simp)).chg r3 (by simp; exact u4)
                  refine Lib.hid ⟨tw, rg, by rw [pz_append]; exact r1, ?_, ?_⟩
                  · rcases r2 with h | h
                    · rw [h]; exact u4
                    · simp at h s2; omega
                  · rcases r2 with h | h
                    · rw [h]; exact u5
                    · simp at h s1; omega
                have HQ3 := Lib.hid (HA2.out _ HU.out.2.2.2.2)
                have i3 := HQ3.out.2.2.2
                go_roundw
                case rel => exact ⟨j + 1, g4, c4, kq + 1, L3 ++ [(q, e)], S4.data.toList ++ R4.data.toList, t4, m4, ct4, S4, 0, f4, R4, rfl, by go_num, i3, Lib.hid ⟨HQ3.out.1, rfl, HQ3.out.2.1, HQ3.out.2.2.1⟩, Lib.hid HV.out.1, Lib.hid HV.out.2⟩
                case measure => simp [intOf]; omega
              | none =>
                have hl2 := hlk.2 hn
                have HF0 : Hid (Hd.mx Ls 30 (X.take a2) 0 = (L3, T, T.length)) := Lib.hid (by
                  obtain ⟨z1, z2, z3, z4⟩ := HA.out
                  rw [hk30, ms_none hn] at z3 z4
                  rw [List.append_nil] at z3
                  exact Prod.ext z3.symm z4.symm)
                have HL := Lib.hid hl2
                have HLL : Hid (L3.length = kq) := Lib.hid HA.out.1
                clear hlk hl2 hn HA
                go_wp2_with (first
                  | (go_at_call 39; refine (HL.out).mono ?_; rintro r V4 ⟨rd, t4, m4, ct4, S4, f4, R4, rfl, q1, q2, q3, q4⟩; obtain rfl := ba_nil q4; have HU := (by have ab := fun (Z : World) => ((Below.refl Z.heap.size Z).alloc (Nat.le_refl _) (.cells #[.bool false, .bool false, .int .i64 0, .int .i64 0, .int .i64 (rd : Nat)] 75)); exact Lib.hid (And.intro (q1.below (ab _)) (And.intro ((RK.of_below (ab _)) _ _ _ (q2 _ _ _ HW.out.1)) (And.intro ((RK.of_below (ab _)) _ _ _ (q2 _ _ _ HW.out.2.1)) (And.intro HW.out.2.2 (q3)))))); clear q1 q2 q3 q4 HT HL)
                  | fail)
                have hN2 := HSN.out.2
                have hE2 := HEX.out
                go_roundw
                case rel => exact ⟨a2, u + 1, gw, cr2, kq, L3, T, t4, m4, ct4, S4, T.length, f4, u', rfl, by go_num, rfl, by omega, fun h => ⟨HU'.out (by omega), by omega⟩, hkq, Lib.hid ⟨HLL.out, HU.out.2.2.2.2, HF0.out⟩, Lib.hid HU.out.1, Lib.hid ⟨HU.out.2.1, HU.out.2.2.1, HU.out.2.2.2.1⟩⟩
                case measure =>
                  exact ha_meas N len2 at_ a2 u u' (by omega) ulen (fun h => ⟨HU'.out (by omega), by omega⟩)
        · have hsN := HS.out.2.2.2.1
          have e1 : at_ = N := by omega
          subst e1
          have j1 : ¬ (at_ : Int) < (s.size : Int) := by omega
          have j2 : ¬ at_ < s.size := by omega
          have hXt : X.take at_ = X := List.take_of_length_le (by have := HS.out.2.2.2.2; omega)
          have hfin : L2 = Mz ∧ T2 = Tz := by
            have := HA.out.2.2
            rw [hXt, HMS.out] at this
            injection this with b1 b2
            injection b2 with b2 b3
            exact ⟨b1.symm, b2.symm⟩
          obtain ⟨rfl, rfl⟩ := hfin
          have e2 : kk = i := by rw [← HA.out.1, HPP.out.1]
          subst e2
          have e3 : S2 = S' := ba_ext (by rw [HA.out.2.1, HPP.out.2])
          subst e3
          have HLL : Hid (L2.length = kk) := Lib.hid HA.out.1
          clear hsN hXt HA HPP HMS hul hat hlt
          go_wp2_with (first
            | (go_at_call 43; refine (tw_text HT.out.symm).mono ?_; rintro r V5 ⟨rfl, q1, q2⟩; have HO := Lib.hid (And.intro q1.symm (And.intro (q2 _ _ _ HW.out.1) (q2 _ _ _ HW.out.2.1))); clear q1 q2 HT HW)
            | (go_at_call 43; refine (tw_text HO.out.1).mono ?_; rintro r V6 ⟨rfl, q1, q2⟩; have HQ := Lib.hid (And.intro q1.1.2.2.2.2.2.1 (And.intro (q2 _ _ _ HO.out.2.1) (And.intro (q2 _ _ _ HO.out.2.2) q1.1.2.2.2.2.2.2))); clear q1 q2 HO)
            | fail)
          go_loopw [20] (fun iv wr => ∃ j : Nat, iv = .int .i64 j ∧ j ≤ kk ∧ Hid (Below w.heap.size w wr ∧ Rn wr ga ca 2 (pz L2) 87 ∧ Rn wr gr cr 2 (pz L2) 87 ∧ w.heap.size ≤ wr.heap.size)) (fun i _ => kk - (intOf i).toNat)
          case atStart => exact ⟨0, rfl, by omega, HQ⟩
          case round =>
            clear HQ
            obtain ⟨j, rfl, hj, HQ⟩ := hrel
            by_cases hjk : j < kk
            · obtain ⟨xa, xb, hx⟩ : ∃ xa xb, L2[j]? = some (xa, xb) := ⟨_, _, List.getElem?_eq_getElem (by rw [HLL.out]; exact hjk)⟩
              have hp := pz_at L2 j xa xb hx
              have c0 := HQ.out.2.1.cell hp.1
              have c1 := HQ.out.2.1.cell hp.2
              have d0 := HQ.out.2.2.1.cell hp.1
              have d1 := HQ.out.2.2.1.cell hp.2
              have k1 : (j : Int) < (kk : Int) := by omega
              have k2 : (0 : Int) ≤ (j : Int) := by omega
              have k3 : IntKind.i64.wrap ((j : Int) + 1) = (j : Int) + 1 := IntWalk.i64_in _ (by omega)
              have eqp := eqIn_pair (xa : Int) (xb : Int)
              clear hx hp
              go_wp2_with fail
              go_quiet (fail)
              go_wp2_with fail
              go_roundw
              case rel => exact ⟨j + 1, by go_num, by omega, Lib.hid ⟨below_drewH HQ.out.1 _, HQ.out.2.1.chg ((Chg.refl [] _).drewN _) (by simp), HQ.out.2.2.1.chg ((Chg.refl [] _).drewN _) (by simp), HQ.out.2.2.2⟩⟩
              case measure => simp [intOf]; omega
            · have k1 : ¬ (j : Int) < (kk : Int) := by omega
              go_wp2_with (first
                | (go_at_call 47; refine (hd_lives _).mono ?_; rintro e V7 ⟨rfl, q⟩; have HL := Lib.hid (HQ.out.1.trans (q.mono HQ.out.2.2.2)); clear q HQ)
                | fail)
              go_ret
              exact ⟨rfl, HL.out⟩

set_option maxRecDepth 100000 in
theorem lifted (os : Os) (started : os.Started) (H : Type) (enc : TypeId × Value → H) :
    ReturnsInHanded {} Try.checked os 8 .any (Rows.holdAlikeSpec.pre6 enc Try.prog Try.f8 Rows.holdAlikeRow.domain false) (Rows.holdAlikeSpec.post enc Try.prog Try.f8 false true false false) := by
  refine returnsInHanded_of_change (C := Try.checked) ownKn started (by kernel_rfl) Try.func8
    (ChangeSpec.witness6 (enc := enc) (C := Try.checked) false ⟨#[], #[.slice none 0 0, .string ByteArray.empty, .slice none 0 0], []⟩ 8 (by kernel_rfl) (by kernel_rfl) (by kernel_rfl) (by kernel_rfl)) ?_
  intro W base args ds gs before hval0 hW hcnd _
  have hval : ∀ (j : Nat) t v, Try.f8.params[j]? = some t → args[j]? = some v → Value.okWide Try.prog W .any base t v := hval0
  have hW' := hW
  obtain ⟨p, q, hA0, hV, rfl, hfz, hnd⟩ := hW
  have hA : DataW.TrodAll enc Try.prog W 0 (fun _ => true) true Try.f8.params.toList args.toList ds p := hA0
  rw [Try.params8] at hA hval
  obtain ⟨v0, vs0, d0, ds0, p0, q0, hargs, rfl, rfl, h0, r0⟩ := trodAll_cons hA
  obtain ⟨v1, vs1, d1, ds1, p1, q1, rfl, rfl, rfl, h1, r1⟩ := trodAll_cons r0
  obtain ⟨v2, vs2, d2, ds2, p2, q2, rfl, rfl, rfl, h2, r2⟩ := trodAll_cons r1
  obtain ⟨rfl, rfl, rfl⟩ := trodAll_nil r2
  obtain rfl : args = #[v0, v1, v2] := by cases args; simp_all
  obtain ⟨rfl, rfl⟩ := trodVars_none hV
  have k0 := h0
  have lt0 : ∀ x ∈ p0, x.block < W.heap.size := by obtain ⟨m, hm⟩ := k0; exact DataW.trod_lt m _ _ _ hm
  obtain ⟨b0, lb0, cb0, rfl⟩ := okWide_slice Try.underlying65 (hval 0 65 v0 rfl rfl)
  obtain ⟨fu0, hf0⟩ := h0
  simp only [Value.cells] at hf0
  obtain ⟨a0, len0, cap0, z0, e0, w0⟩ := fld_strs Try.underlying65 Try.underlying9 (by kernel_rfl) hf0
  obtain ⟨rfl, rfl, rfl⟩ : b0 = a0 ∧ lb0 = len0 ∧ cb0 = cap0 := by simpa using e0
  have k1 := h1
  have lt1 : ∀ x ∈ p1, x.block < W.heap.size := by obtain ⟨m, hm⟩ := k1; exact DataW.trod_lt m _ _ _ hm
  obtain ⟨a1, rfl, rfl, rfl, w1⟩ := open_string Try.underlying9 (hval 1 9 v1 rfl rfl) h1
  have k2 := h2
  have lt2 : ∀ x ∈ p2, x.block < W.heap.size := by obtain ⟨m, hm⟩ := k2; exact DataW.trod_lt m _ _ _ hm
  obtain ⟨b2, lb2, cb2, rfl⟩ := okWide_slice Try.underlying85 (hval 2 85 v2 rfl rfl)
  obtain ⟨fu2, hf2⟩ := h2
  simp only [Value.cells] at hf2
  obtain ⟨a2, len2, cap2, z2, e2, w2⟩ := fld_row Try.underlying85 Try.underlying5 (by kernel_rfl) hf2
  obtain ⟨rfl, rfl, rfl⟩ : b2 = a2 ∧ lb2 = len2 ∧ cb2 = cap2 := by simpa using e2
  clear hA0 hval0
  refine (walk b0 lb0 cb0 z0 a1 b2 lb2 cb2 z2 W w0 w1 w2).mono fun e W' ⟨he, bel⟩ => ?_
  subst he
  exact ⟨_, rfl, _, _, _, [], _, [], hW', trodAll_mk1 (shut_bool Try.underlying4 _), (trodAll_cons_mk (Below.trod laidOut (by kernel_rfl) (of_decide_eq_true (by kernel_rfl)) k0 bel lt0) (trodAll_cons_mk (Below.trod laidOut (by kernel_rfl) (of_decide_eq_true (by kernel_rfl)) k1 bel lt1) (trodAll_cons_mk (Below.trod laidOut (by kernel_rfl) (of_decide_eq_true (by kernel_rfl)) k2 bel lt2) trodAll_mk0))), rfl, bel.frame _, fun h => by cases h⟩

theorem over : Rows.holdAlikeRow.holds Try.pinned (OpenSpec.ofChange Rows.holdAlikeSpec) :=
  OpenClaim.holds_of_wide 8 Try.f8 rfl rfl rfl rfl rfl rfl rfl ⟨rfl, rfl, rfl, rfl, rfl⟩ rfl rfl rfl rfl rfl (by kernel_rfl) Try.func8 (by kernel_rfl)
    (of_decide_eq_true (by kernel_rfl)) (by unfold Func.isWrapper; first | (rw [if_pos (by decide +kernel)]; kernel_rfl) | (rw [if_neg (by decide +kernel)]; exact ⟨rfl, rfl⟩))
    (fun os started H enc _ => lifted os started H enc)

/-- The statement. -/
theorem proved : Rows.HoldAlikeSaid := over
#print axioms proved
end Go.Proofs.Ytbdjcppkfihonaa.holdAlike
