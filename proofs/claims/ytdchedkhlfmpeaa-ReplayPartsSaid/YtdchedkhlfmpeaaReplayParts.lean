/- P40.3: for every two lists of events (their first 10, bytes cut): where they part, and whether, is as the document says. No condition. -/
import Derived.Test.YtdchedkhlfmpeaaOpen
import Derived.WalkKit
import Derived.ProofKit
import Derived.OpenShut
import Derived.Test.YtdchedkhlfmpeaaRp11
import Derived.Test.YtdchedkhlfmpeaaRp2
import Derived.Test.YtdchedkhlfmpeaaRp3
import Derived.Test.YtdchedkhlfmpeaaClass
namespace Go.Proofs.Ytdchedkhlfmpeaa.replayParts
open Go.Joins Go.ChangeShapes Go.WideShapes Go.ChangeAt Go.RowKit Go.Deep
open Go.ChangeMaps (open_string)
set_option linter.unusedSimpArgs false
set_option linter.unusedVariables false

set_option maxRecDepth 100000 in
set_option maxHeartbeats 16000000 in

theorem walk (a0 : Option Addr) (len0 cap0 : Nat) (z0 : List Ev) (a1 : Option Addr) (len1 cap1 : Nat) (z1 : List Ev) (w : World) (w0 : IsEv w a0 len0 cap0 z0) (w1 : IsEv w a1 len1 cap1 z1) :
    Calls Try.prog 7 #[.slice a0 len0 cap0, .slice a1 len1 cap1] w fun e w' => e = .returned (.bool true) ∧ Below w.heap.size w w' := by
  have HI0 : Hid _ := Lib.hid w0
  have HI1 : Hid _ := Lib.hid w1
  obtain ⟨L, hL⟩ : ∃ L, fewE 10 z0 = L := ⟨_, rfl⟩
  obtain ⟨n, hn⟩ : ∃ n, L.length = n := ⟨_, rfl⟩
  obtain ⟨K, hK⟩ : ∃ K, fewE 10 z1 = K := ⟨_, rfl⟩
  obtain ⟨m, hm⟩ : ∃ m, K.length = m := ⟨_, rfl⟩
  have hn10 : n ≤ 10 := by rw [← hn, ← hL, fewE_len]; omega
  have hm10 : m ≤ 10 := by rw [← hm, ← hK, fewE_len]; omega
  have HL : Hid (fewE 10 z0 = L ∧ L.length = n ∧ fewE 10 z1 = K ∧ K.length = m ∧ (∀ x ∈ L, x.ok) ∧ (∀ x ∈ K, x.ok)) := Lib.hid ⟨hL, hn, hK, hm, by rw [← hL]; exact fewE_ok w0.2.2.2.ok, by rw [← hK]; exact fewE_ok w1.2.2.2.ok⟩
  clear hL hn hK hm w0 w1
  cases hap : Ev.ap L K with
  | none =>
    have hs : decide (L = K) = true := by rw [decide_eq_true_eq]; exact Ev.ap_none.1 hap
    have HA := Lib.hid hap
    have HS := Lib.hid hs
    clear hap hs
    go_enter Try.func7, Try.ntmps7
    go_wp2_with (first
      | (go_at_call 8; (refine (few_ev a0 len0 cap0 z0 HI0.out.1 (by have := HI0.out.2.1; have := HI0.out.2.2.1; omega) 10 (by omega) 10 rfl L HL.out.1 n HL.out.2.1 _ HI0.out.2.2.2).mono ?_); rintro r4 W1 ⟨g1, c1, rfl, q1, q2, q3⟩; have H1 : Hid (Rn W1 g1 c1 12 (evs L) 47 ∧ Below w.heap.size w W1) := Lib.hid ⟨q1, q3⟩; clear q1 q2 q3 HI0)
      | (go_at_call 8; (refine (few_ev a1 len1 cap1 z1 HI1.out.1 (by have := HI1.out.2.1; have := HI1.out.2.2.1; omega) 10 (by omega) 10 rfl K HL.out.2.2.1 m HL.out.2.2.2.1 _ ((HI1.out.2.2.2).below H1.out.2)).mono ?_); rintro r5 W2 ⟨g2, c2, rfl, q1, q2, q3⟩; have H2 : Hid (Rn W2 g1 c1 12 (evs L) 47 ∧ Rn W2 g2 c2 12 (evs K) 47 ∧ Below w.heap.size w W2) := Lib.hid ⟨H1.out.1.chg (l := []) (Chg.of_fresh q3) (by simp), q1, H1.out.2.trans (q3.mono H1.out.2.size)⟩; clear q1 q2 q3 H1)
      | (go_at_call 34; (refine (rp_apart (some ⟨g1, 0, none⟩) (some ⟨g2, 0, none⟩) n m c1 c2 L K HL.out.2.1 HL.out.2.2.2.1 (by omega) (by omega) _ (EL.of_rn H2.out.1 HL.out.2.2.2.2.1) (EL.of_rn H2.out.2.1 HL.out.2.2.2.2.2) 0 false (by rw [HA.out])).mono ?_); rintro r6 W3 ⟨rfl, bb⟩; have HW3 : Hid (Rn W3 g1 c1 12 (evs L) 47 ∧ Rn W3 g2 c2 12 (evs K) 47 ∧ Below w.heap.size w W3) := Lib.hid ⟨H2.out.1.chg (l := []) (Chg.of_fresh bb) (by simp), H2.out.2.1.chg (l := []) (Chg.of_fresh bb) (by simp), H2.out.2.2.trans (bb.mono H2.out.2.2.size)⟩; clear bb H2)
      | (go_at_call 35; (refine (rr_apart (some ⟨g1, 0, none⟩) (some ⟨g2, 0, none⟩) n m c1 c2 L K HL.out.2.1 HL.out.2.2.2.1 (by omega) (by omega) _ (EL.of_rn HW3.out.1 HL.out.2.2.2.2.1) (EL.of_rn HW3.out.2.1 HL.out.2.2.2.2.2) (-1) (by rw [HA.out])).mono ?_); rintro r7 W4 ⟨rfl, bb⟩; have HW4 : Hid (Rn W4 g1 c1 12 (evs L) 47 ∧ Rn W4 g2 c2 12 (evs K) 47 ∧ Below w.heap.size w W4) := Lib.hid ⟨HW3.out.1.chg (l := []) (Chg.of_fresh bb) (by simp), HW3.out.2.1.chg (l := []) (Chg.of_fresh bb) (by simp), HW3.out.2.2.trans (bb.mono HW3.out.2.2.size)⟩; clear bb HW3)
      | (go_at_call 17; (refine (ev_samed (some ⟨g1, 0, none⟩) (some ⟨g2, 0, none⟩) n m c1 c2 L K HL.out.2.1 HL.out.2.2.2.1 (by omega) (by omega) _ (EL.of_rn HW4.out.1 HL.out.2.2.2.2.1) (EL.of_rn HW4.out.2.1 HL.out.2.2.2.2.2) true HS.out).mono ?_); rintro r8 W5 ⟨rfl, bb⟩; have HW5 : Hid (Rn W5 g1 c1 12 (evs L) 47 ∧ Rn W5 g2 c2 12 (evs K) 47 ∧ Below w.heap.size w W5) := Lib.hid ⟨HW4.out.1.chg (l := []) (Chg.of_fresh bb) (by simp), HW4.out.2.1.chg (l := []) (Chg.of_fresh bb) (by simp), HW4.out.2.2.trans (bb.mono HW4.out.2.2.size)⟩; clear bb HW4)
      | (go_at_call 36; (refine (rp_lives _).mono ?_); rintro r9 W6 ⟨rfl, bb⟩; have HW6 : Hid (Rn W6 g1 c1 12 (evs L) 47 ∧ Rn W6 g2 c2 12 (evs K) 47 ∧ Below w.heap.size w W6) := Lib.hid ⟨HW5.out.1.chg (l := []) (Chg.of_fresh bb) (by simp), HW5.out.2.1.chg (l := []) (Chg.of_fresh bb) (by simp), HW5.out.2.2.trans (bb.mono HW5.out.2.2.size)⟩; clear bb HW5))
    go_ret
    exact ⟨rfl, HW6.out.2.2⟩
  | some k =>
    have hs : decide (L = K) = false := by
      rw [decide_eq_false_iff_not]
      intro e
      rw [Ev.ap_none.2 e] at hap
      cases hap
    have hk10 : k ≤ 10 := Nat.le_trans (Ev.ap_le hap) (by rw [HL.out.2.1]; exact hn10)
    have k0 : (0 : Int) ≤ (k : Int) := by omega
    have kk : ((k : Int) == (k : Int)) = true := by simp
    have HA := Lib.hid hap
    have HS := Lib.hid hs
    clear hap hs
    go_enter Try.func7, Try.ntmps7
    go_wp2_with (first
      | (go_at_call 8; (refine (few_ev a0 len0 cap0 z0 HI0.out.1 (by have := HI0.out.2.1; have := HI0.out.2.2.1; omega) 10 (by omega) 10 rfl L HL.out.1 n HL.out.2.1 _ HI0.out.2.2.2).mono ?_); rintro r4 W1 ⟨g1, c1, rfl, q1, q2, q3⟩; have H1 : Hid (Rn W1 g1 c1 12 (evs L) 47 ∧ Below w.heap.size w W1) := Lib.hid ⟨q1, q3⟩; clear q1 q2 q3 HI0)
      | (go_at_call 8; (refine (few_ev a1 len1 cap1 z1 HI1.out.1 (by have := HI1.out.2.1; have := HI1.out.2.2.1; omega) 10 (by omega) 10 rfl K HL.out.2.2.1 m HL.out.2.2.2.1 _ ((HI1.out.2.2.2).below H1.out.2)).mono ?_); rintro r5 W2 ⟨g2, c2, rfl, q1, q2, q3⟩; have H2 : Hid (Rn W2 g1 c1 12 (evs L) 47 ∧ Rn W2 g2 c2 12 (evs K) 47 ∧ Below w.heap.size w W2) := Lib.hid ⟨H1.out.1.chg (l := []) (Chg.of_fresh q3) (by simp), q1, H1.out.2.trans (q3.mono H1.out.2.size)⟩; clear q1 q2 q3 H1)
      | (go_at_call 34; (refine (rp_apart (some ⟨g1, 0, none⟩) (some ⟨g2, 0, none⟩) n m c1 c2 L K HL.out.2.1 HL.out.2.2.2.1 (by omega) (by omega) _ (EL.of_rn H2.out.1 HL.out.2.2.2.2.1) (EL.of_rn H2.out.2.1 HL.out.2.2.2.2.2) k true (by rw [HA.out])).mono ?_); rintro r6 W3 ⟨rfl, bb⟩; have HW3 : Hid (Rn W3 g1 c1 12 (evs L) 47 ∧ Rn W3 g2 c2 12 (evs K) 47 ∧ Below w.heap.size w W3) := Lib.hid ⟨H2.out.1.chg (l := []) (Chg.of_fresh bb) (by simp), H2.out.2.1.chg (l := []) (Chg.of_fresh bb) (by simp), H2.out.2.2.trans (bb.mono H2.out.2.2.size)⟩; clear bb H2)
      | (go_at_call 35; (refine (rr_apart (some ⟨g1, 0, none⟩) (some ⟨g2, 0, none⟩) n m c1 c2 L K HL.out.2.1 HL.out.2.2.2.1 (by omega) (by omega) _ (EL.of_rn HW3.out.1 HL.out.2.2.2.2.1) (EL.of_rn HW3.out.2.1 HL.out.2.2.2.2.2) (k : Int) (by rw [HA.out])).mono ?_); rintro r7 W4 ⟨rfl, bb⟩; have HW4 : Hid (Rn W4 g1 c1 12 (evs L) 47 ∧ Rn W4 g2 c2 12 (evs K) 47 ∧ Below w.heap.size w W4) := Lib.hid ⟨HW3.out.1.chg (l := []) (Chg.of_fresh bb) (by simp), HW3.out.2.1.chg (l := []) (Chg.of_fresh bb) (by simp), HW3.out.2.2.trans (bb.mono HW3.out.2.2.size)⟩; clear bb HW3)
      | (go_at_call 17; (refine (ev_samed (some ⟨g1, 0, none⟩) (some ⟨g2, 0, none⟩) n m c1 c2 L K HL.out.2.1 HL.out.2.2.2.1 (by omega) (by omega) _ (EL.of_rn HW4.out.1 HL.out.2.2.2.2.1) (EL.of_rn HW4.out.2.1 HL.out.2.2.2.2.2) false HS.out).mono ?_); rintro r8 W5 ⟨rfl, bb⟩; have HW5 : Hid (Rn W5 g1 c1 12 (evs L) 47 ∧ Rn W5 g2 c2 12 (evs K) 47 ∧ Below w.heap.size w W5) := Lib.hid ⟨HW4.out.1.chg (l := []) (Chg.of_fresh bb) (by simp), HW4.out.2.1.chg (l := []) (Chg.of_fresh bb) (by simp), HW4.out.2.2.trans (bb.mono HW4.out.2.2.size)⟩; clear bb HW4)
      | (go_at_call 36; (refine (rp_lives _).mono ?_); rintro r9 W6 ⟨rfl, bb⟩; have HW6 : Hid (Rn W6 g1 c1 12 (evs L) 47 ∧ Rn W6 g2 c2 12 (evs K) 47 ∧ Below w.heap.size w W6) := Lib.hid ⟨HW5.out.1.chg (l := []) (Chg.of_fresh bb) (by simp), HW5.out.2.1.chg (l := []) (Chg.of_fresh bb) (by simp), HW5.out.2.2.trans (bb.mono HW5.out.2.2.size)⟩; clear bb HW5))
    go_ret
    exact ⟨rfl, HW6.out.2.2⟩

set_option maxRecDepth 100000 in
theorem lifted (os : Os) (started : os.Started) (H : Type) (enc : TypeId × Value → H) :
    ReturnsInHanded {} Try.checked os 7 .any (Rows.replayPartsSpec.pre6 enc Try.prog Try.f7 Rows.replayPartsRow.domain false) (Rows.replayPartsSpec.post enc Try.prog Try.f7 false true false false) := by
  refine returnsInHanded_of_change (C := Try.checked) ownKn started (by kernel_rfl) Try.func7
    (ChangeSpec.witness6 (enc := enc) (C := Try.checked) false ⟨#[], #[.slice none 0 0, .slice none 0 0], []⟩ 8 (by kernel_rfl) (by kernel_rfl) (by kernel_rfl) (by kernel_rfl)) ?_
  intro W base args ds gs before hval0 hW hcnd _
  have hval : ∀ (j : Nat) t v, Try.f7.params[j]? = some t → args[j]? = some v → Value.okWide Try.prog W .any base t v := hval0
  have hW' := hW
  obtain ⟨p, q, hA0, hV, rfl, hfz, hnd⟩ := hW
  have hA : DataW.TrodAll enc Try.prog W 0 (fun _ => true) true Try.f7.params.toList args.toList ds p := hA0
  rw [Try.params7] at hA hval
  obtain ⟨v0, vs0, d0, ds0, p0, q0, hargs, rfl, rfl, h0, r0⟩ := trodAll_cons hA
  obtain ⟨v1, vs1, d1, ds1, p1, q1, rfl, rfl, rfl, h1, r1⟩ := trodAll_cons r0
  obtain ⟨rfl, rfl, rfl⟩ := trodAll_nil r1
  obtain rfl : args = #[v0, v1] := by cases args; simp_all
  obtain ⟨rfl, rfl⟩ := trodVars_none hV
  have k0 := h0
  have lt0 : ∀ x ∈ p0, x.block < W.heap.size := by obtain ⟨m, hm⟩ := k0; exact DataW.trod_lt m _ _ _ hm
  obtain ⟨b0, lb0, cb0, rfl⟩ := okWide_slice Try.underlying22 (hval 0 22 v0 rfl rfl)
  obtain ⟨fu0, hf0⟩ := h0
  simp only [Value.cells] at hf0
  obtain ⟨a0, len0, cap0, z0, e0, w0⟩ := fld_ev hf0
  obtain ⟨rfl, rfl, rfl⟩ : b0 = a0 ∧ lb0 = len0 ∧ cb0 = cap0 := by simpa using e0
  have k1 := h1
  have lt1 : ∀ x ∈ p1, x.block < W.heap.size := by obtain ⟨m, hm⟩ := k1; exact DataW.trod_lt m _ _ _ hm
  obtain ⟨b1, lb1, cb1, rfl⟩ := okWide_slice Try.underlying22 (hval 1 22 v1 rfl rfl)
  obtain ⟨fu1, hf1⟩ := h1
  simp only [Value.cells] at hf1
  obtain ⟨a1, len1, cap1, z1, e1, w1⟩ := fld_ev hf1
  obtain ⟨rfl, rfl, rfl⟩ : b1 = a1 ∧ lb1 = len1 ∧ cb1 = cap1 := by simpa using e1
  clear hA0 hval0
  refine (walk b0 lb0 cb0 z0 b1 lb1 cb1 z1 W w0 w1).mono fun e W' ⟨he, bel⟩ => ?_
  subst he
  exact ⟨_, rfl, _, _, _, [], _, [], hW', trodAll_mk1 (shut_bool Try.underlying4 _), (trodAll_cons_mk (Below.trod laidOut (by kernel_rfl) (of_decide_eq_true (by kernel_rfl)) k0 bel lt0) (trodAll_cons_mk (Below.trod laidOut (by kernel_rfl) (of_decide_eq_true (by kernel_rfl)) k1 bel lt1) trodAll_mk0)), rfl, bel.frame _, fun h => by cases h⟩

theorem over : Rows.replayPartsRow.holds Try.pinned (OpenSpec.ofChange Rows.replayPartsSpec) :=
  OpenClaim.holds_of_wide 7 Try.f7 rfl rfl rfl rfl rfl rfl rfl ⟨rfl, rfl, rfl, rfl, rfl⟩ rfl rfl rfl rfl rfl (by kernel_rfl) Try.func7 (by kernel_rfl)
    (of_decide_eq_true (by kernel_rfl)) (by unfold Func.isWrapper; first | (rw [if_pos (by decide +kernel)]; kernel_rfl) | (rw [if_neg (by decide +kernel)]; exact ⟨rfl, rfl⟩))
    (fun os started H enc _ => lifted os started H enc)

/-- The statement. -/
theorem proved : Rows.ReplayPartsSaid := over
#print axioms proved
end Go.Proofs.Ytdchedkhlfmpeaa.replayParts
