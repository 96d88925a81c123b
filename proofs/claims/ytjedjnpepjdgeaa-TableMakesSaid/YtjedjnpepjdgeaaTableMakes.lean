/- P9.1, P9.2: for every pattern (its first 62 items), state and byte: which patterns have a table, and what it tells, as the document goes number by number. No condition. -/
import Derived.Test.YtjedjnpepjdgeaaOpen
import Derived.WalkKit
import Derived.ProofKit
import Derived.OpenShut
import Derived.Test.YtjedjnpepjdgeaaTb11
namespace Go.Proofs.Ytjedjnpepjdgeaa.tableMakes
open Go.Joins Go.ChangeShapes Go.WideShapes Go.ChangeAt Go.RowKit Go.Deep
open Go.ChangeMaps (open_string)
set_option linter.unusedSimpArgs false
set_option linter.unusedVariables false

theorem tb_len (p n : Nat) (R : BitVec 64) (H : Nat → BitVec 64) (w : World) (h : TB w p n R H) : Calls Try.prog 36 #[.pointer (some ⟨p, 0, none⟩)] w fun e w' => e = .returned (.int .i64 n) ∧ Below w.heap.size w w' := by
  have c0 := h.c0
  clear h
  go_enter Try.func36, Try.ntmps36
  go_wp2
  go_ret
  exact ⟨rfl, Below.refl _ _⟩
set_option maxRecDepth 20000 in
set_option maxHeartbeats 16000000 in

theorem walk (a0 : Option Addr) (len0 cap0 : Nat) (z0 : List (Bool × BitVec 256)) (a1 : Int) (a2 : Int) (w : World) (w0 : IsIt w a0 len0 cap0 z0) (w1 : (Lit.int .u64 a1).wf = true) (w2 : (Lit.int .u8 a2).wf = true) :
    Calls Try.prog 8 #[.slice a0 len0 cap0, .int .u64 a1, .int .u8 a2] w fun e w' => e = .returned (.bool true) ∧ Below w.heap.size w w' := by
  obtain ⟨L, hL⟩ : ∃ L, z0.take 62 = L := ⟨_, rfl⟩
  obtain ⟨n, hn⟩ : ∃ n, L.length = n := ⟨_, rfl⟩
  have hnm : n ≤ 62 := by rw [← hn, ← hL, List.length_take]; omega
  have hn6 : n ≤ 1000000 := by omega
  have hn62 := hnm
  have HI := Lib.hid (items_in w0)
  have wx := wf_u64 w1
  obtain ⟨X, hx⟩ : ∃ X : BitVec 64, (X.toNat : Int) = a1 := ⟨BitVec.ofNat 64 a1.toNat, by rw [BitVec.toNat_ofNat, Nat.mod_eq_of_lt (by omega)]; omega⟩
  have wy := wf_u8 w2
  obtain ⟨b, hba⟩ : ∃ b : Nat, a2 = (b : Int) := ⟨a2.toNat, by omega⟩
  have hb2 : b < 256 := by omega
  obtain ⟨cc, hcc⟩ : ∃ cc : UInt8, cc.toNat = b := ⟨UInt8.ofNat b, by simp; omega⟩
  clear wx wy w1 w2
  subst hba
  have HX : Hid ((X.toNat : Int) = a1 ∧ cc.toNat = b) := Lib.hid ⟨hx, hcc⟩
  obtain ⟨m, hm⟩ : ∃ m, Lg.least L = m := ⟨_, rfl⟩
  clear hx hcc
  cases hg : goodB L with
  | false =>
    have HN : Hid (z0.take 62 = L ∧ L.length = n ∧ goodB L = false) := Lib.hid ⟨hL, hn, hg⟩
    clear hL hn hg hm
    go_enter Try.func8, Try.ntmps8
    go_upto_region 2 with (go_at_call 15; with_reducible refine (fewm_first 62 (by omega) z0 L HN.out.1 n HN.out.2.1 a0 len0 cap0 HI.out.1 HI.out.2.1 62 rfl _ HI.out.2.2).mono ?_; rintro e W1 ⟨a, c0, rfl, ha, hb1⟩; have HB := Lib.hid (And.intro ha hb1); have HP := Lib.hid ha; clear ha hb1)
    go_upto_region 3 with (first
      | (go_at_call 15; with_reducible refine (fewm_again 62 (by omega) L n HN.out.2.1 hnm a c0 62 rfl _ HB.out.1.ia).mono ?_; rintro e W1 ⟨p, cp, rfl, hp, hb1⟩; replace HB := Lib.hid (And.intro (HB.out.1.below hb1) (HB.out.2.trans (hb1.mono HB.out.2.size))); replace HP := Lib.hid (IK.below HP.out hb1); clear hb1; clear HP; have HP := Lib.hid hp; clear hp)
      | (go_at_call 34; with_reducible refine (tb_form L HN.out.2.2 n p cp HN.out.2.1 hn6 _ HP.out).mono ?_; rintro e W1 ⟨rfl, hb1⟩; replace HB := Lib.hid (And.intro (HB.out.1.below hb1) (HB.out.2.trans (hb1.mono HB.out.2.size))); replace HP := Lib.hid (IK.below HP.out hb1); clear hb1)
      | (go_at_call 17; with_reducible refine (rg_good L false HN.out.2.2 a n c0 HN.out.2.1 hn6 _ HB.out.1.li).mono ?_; rintro e W1 ⟨rfl, hb1⟩; replace HB := Lib.hid (And.intro (HB.out.1.below hb1) (HB.out.2.trans (hb1.mono HB.out.2.size))); replace HP := Lib.hid (IK.below HP.out hb1); clear hb1)
      | (go_at_call 35; with_reducible refine (tb_lives _).mono ?_; rintro e W1 ⟨rfl, hb1⟩; replace HB := Lib.hid (And.intro (HB.out.1.below hb1) (HB.out.2.trans (hb1.mono HB.out.2.size))); replace HP := Lib.hid (IK.below HP.out hb1); clear hb1))
    go_wp2_with (first
      | (go_at_call 34; with_reducible refine (tb_form L HN.out.2.2 n p cp HN.out.2.1 hn6 _ HP.out).mono ?_; rintro e W1 ⟨rfl, hb1⟩; replace HB := Lib.hid (And.intro (HB.out.1.below hb1) (HB.out.2.trans (hb1.mono HB.out.2.size))); replace HP := Lib.hid (IK.below HP.out hb1); clear hb1)
      | (go_at_call 17; with_reducible refine (rg_good L false HN.out.2.2 a n c0 HN.out.2.1 hn6 _ HB.out.1.li).mono ?_; rintro e W1 ⟨rfl, hb1⟩; replace HB := Lib.hid (And.intro (HB.out.1.below hb1) (HB.out.2.trans (hb1.mono HB.out.2.size))); replace HP := Lib.hid (IK.below HP.out hb1); clear hb1)
      | (go_at_call 35; with_reducible refine (tb_lives _).mono ?_; rintro e W1 ⟨rfl, hb1⟩; replace HB := Lib.hid (And.intro (HB.out.1.below hb1) (HB.out.2.trans (hb1.mono HB.out.2.size))); replace HP := Lib.hid (IK.below HP.out hb1); clear hb1))
    go_ret
    exact ⟨rfl, HB.out.2⟩
  | true =>
    have HN : Hid (z0.take 62 = L ∧ L.length = n ∧ goodB L = true) := Lib.hid ⟨hL, hn, hg⟩
    cases hm0 : decide (m = 0) with
    | true =>
      have HM := Lib.hid (And.intro hm hm0)
      have hmz : m = 0 := of_decide_eq_true hm0
      clear hL hn hg hm hm0
      go_enter Try.func8, Try.ntmps8
      go_upto_region 2 with (go_at_call 15; with_reducible refine (fewm_first 62 (by omega) z0 L HN.out.1 n HN.out.2.1 a0 len0 cap0 HI.out.1 HI.out.2.1 62 rfl _ HI.out.2.2).mono ?_; rintro e W1 ⟨a, c0, rfl, ha, hb1⟩; have HB := Lib.hid (And.intro ha hb1); have HP := Lib.hid ha; clear ha hb1)
      go_upto_region 3 with (first
        | (go_at_call 15; with_reducible refine (fewm_again 62 (by omega) L n HN.out.2.1 hnm a c0 62 rfl _ HB.out.1.ia).mono ?_; rintro e W1 ⟨p, cp, rfl, hp, hb1⟩; replace HB := Lib.hid (And.intro (HB.out.1.below hb1) (HB.out.2.trans (hb1.mono HB.out.2.size))); replace HP := Lib.hid (IK.below HP.out hb1); clear hb1; clear HP; have HP := Lib.hid hp; clear hp)
        | (go_at_call 34; with_reducible refine (tb_empty L HN.out.2.2 m HM.out.1 HM.out.2 n p cp HN.out.2.1 hn6 _ HP.out).mono ?_; rintro e W1 ⟨rfl, hb1⟩; replace HB := Lib.hid (And.intro (HB.out.1.below hb1) (HB.out.2.trans (hb1.mono HB.out.2.size))); replace HP := Lib.hid (IK.below HP.out hb1); clear hb1)
        | (go_at_call 17; with_reducible refine (rg_good L true HN.out.2.2 a n c0 HN.out.2.1 hn6 _ HB.out.1.li).mono ?_; rintro e W1 ⟨rfl, hb1⟩; replace HB := Lib.hid (And.intro (HB.out.1.below hb1) (HB.out.2.trans (hb1.mono HB.out.2.size))); replace HP := Lib.hid (IK.below HP.out hb1); clear hb1)
        | (go_at_call 22; with_reducible refine (rg_least L m HM.out.1 n a c0 HN.out.2.1 hn6 _ HB.out.1.ia).mono ?_; rintro e W1 ⟨rfl, hb1⟩; replace HB := Lib.hid (And.intro (HB.out.1.below hb1) (HB.out.2.trans (hb1.mono HB.out.2.size))); replace HP := Lib.hid (IK.below HP.out hb1); clear hb1)
        | (go_at_call 35; with_reducible refine (tb_lives _).mono ?_; rintro e W1 ⟨rfl, hb1⟩; replace HB := Lib.hid (And.intro (HB.out.1.below hb1) (HB.out.2.trans (hb1.mono HB.out.2.size))); replace HP := Lib.hid (IK.below HP.out hb1); clear hb1))
      go_wp2_with (first
        | (go_at_call 34; with_reducible refine (tb_empty L HN.out.2.2 m HM.out.1 HM.out.2 n p cp HN.out.2.1 hn6 _ HP.out).mono ?_; rintro e W1 ⟨rfl, hb1⟩; replace HB := Lib.hid (And.intro (HB.out.1.below hb1) (HB.out.2.trans (hb1.mono HB.out.2.size))); replace HP := Lib.hid (IK.below HP.out hb1); clear hb1)
        | (go_at_call 17; with_reducible refine (rg_good L true HN.out.2.2 a n c0 HN.out.2.1 hn6 _ HB.out.1.li).mono ?_; rintro e W1 ⟨rfl, hb1⟩; replace HB := Lib.hid (And.intro (HB.out.1.below hb1) (HB.out.2.trans (hb1.mono HB.out.2.size))); replace HP := Lib.hid (IK.below HP.out hb1); clear hb1)
        | (go_at_call 22; with_reducible refine (rg_least L m HM.out.1 n a c0 HN.out.2.1 hn6 _ HB.out.1.ia).mono ?_; rintro e W1 ⟨rfl, hb1⟩; replace HB := Lib.hid (And.intro (HB.out.1.below hb1) (HB.out.2.trans (hb1.mono HB.out.2.size))); replace HP := Lib.hid (IK.below HP.out hb1); clear hb1)
        | (go_at_call 35; with_reducible refine (tb_lives _).mono ?_; rintro e W1 ⟨rfl, hb1⟩; replace HB := Lib.hid (And.intro (HB.out.1.below hb1) (HB.out.2.trans (hb1.mono HB.out.2.size))); replace HP := Lib.hid (IK.below HP.out hb1); clear hb1))
      go_ret
      exact ⟨rfl, HB.out.2⟩
    | false =>
      have HM := Lib.hid (And.intro hm hm0)
      have hmz : m ≠ 0 := of_decide_eq_false hm0
      have hmI : ((m : Int) == 0) = false := by rw [beq_eq_false_iff_ne]; omega
      obtain ⟨S0, hS0⟩ : ∃ S, Tb.start n (Tb.mk (Tb.rf L) n) = S := ⟨_, rfl⟩
      obtain ⟨sv, hsv⟩ : ∃ x : Int, (S0.toNat : Int) = x := ⟨_, rfl⟩
      have HS0 := Lib.hid (And.intro hS0 hsv)
      obtain ⟨Y1, hY1⟩ : ∃ S, Tb.step n (Tb.mk (Tb.rf L) n) (Tb.mk (Tb.hf L b) n) X = S := ⟨_, rfl⟩
      obtain ⟨y1, hy1⟩ : ∃ x : Int, (Y1.toNat : Int) = x := ⟨_, rfl⟩
      have HY1 := Lib.hid (And.intro hY1 hy1)
      obtain ⟨Y2, hY2⟩ : ∃ S, Tb.seek n (Tb.mk (Tb.rf L) n) (Tb.mk (Tb.hf L b) n) X = S := ⟨_, rfl⟩
      obtain ⟨y2, hy2⟩ : ∃ x : Int, (Y2.toNat : Int) = x := ⟨_, rfl⟩
      have HY2 := Lib.hid (And.intro hY2 hy2)
      obtain ⟨d, hd⟩ : ∃ d, (Tb.whole n (Tb.mk (Tb.rf L) n) X).getLsbD n = d := ⟨_, rfl⟩
      have HD := Lib.hid hd
      clear hL hn hg hm hm0 hS0 hsv hY1 hy1 hY2 hy2 hd
      go_enter Try.func8, Try.ntmps8
      go_upto_region 2 with (go_at_call 15; with_reducible refine (fewm_first 62 (by omega) z0 L HN.out.1 n HN.out.2.1 a0 len0 cap0 HI.out.1 HI.out.2.1 62 rfl _ HI.out.2.2).mono ?_; rintro e W1 ⟨a, c0, rfl, ha, hb1⟩; have HB := Lib.hid (And.intro ha hb1); have HP := Lib.hid ha; clear ha hb1)
      go_upto_region 3 with (first
        | (go_at_call 15; with_reducible refine (fewm_again 62 (by omega) L n HN.out.2.1 hnm a c0 62 rfl _ HB.out.1.ia).mono ?_; rintro e W1 ⟨p, cp, rfl, hp, hb1⟩; replace HB := Lib.hid (And.intro (HB.out.1.below hb1) (HB.out.2.trans (hb1.mono HB.out.2.size))); replace HP := Lib.hid (IK.below HP.out hb1); clear hb1; clear HP; have HP := Lib.hid hp; clear hp)
        | (go_at_call 34; with_reducible refine (tb_compile L HN.out.2.2 m HM.out.1 HM.out.2 n p cp HN.out.2.1 _ HP.out).mono ?_; rintro e W1 ⟨p, rfl, k1, hb1⟩; replace HB := Lib.hid (And.intro (HB.out.1.below hb1) (And.intro (TP.tb k1) (HB.out.2.trans (hb1.mono HB.out.2.size)))); clear HP hb1 k1))
      go_upto_region 7 with (first
        | (go_at_call 17; with_reducible refine (rg_good L true HN.out.2.2 a n c0 HN.out.2.1 hn6 _ HB.out.1.li).mono ?_; rintro e W1 ⟨rfl, hb1⟩; replace HB := Lib.hid (And.intro (HB.out.1.below hb1) (And.intro (TB.below HB.out.2.1 hb1) (HB.out.2.2.trans (hb1.mono HB.out.2.2.size)))); clear hb1)
        | (go_at_call 22; with_reducible refine (rg_least L m HM.out.1 n a c0 HN.out.2.1 hn6 _ HB.out.1.ia).mono ?_; rintro e W1 ⟨rfl, hb1⟩; replace HB := Lib.hid (And.intro (HB.out.1.below hb1) (And.intro (TB.below HB.out.2.1 hb1) (HB.out.2.2.trans (hb1.mono HB.out.2.2.size)))); clear hb1))
      go_wp2_with (first
        | (go_at_call 36; with_reducible refine (tb_len p n (Tb.mk (Tb.rf L) n) (fun b => Tb.mk (Tb.hf L b) n) _ HB.out.2.1).mono ?_; rintro e W1 ⟨rfl, hb1⟩; replace HB := Lib.hid (And.intro (HB.out.1.below hb1) (And.intro (TB.below HB.out.2.1 hb1) (HB.out.2.2.trans (hb1.mono HB.out.2.2.size)))); clear hb1)
        | (go_at_call 37; with_reducible refine (tb_start p n (Tb.mk (Tb.rf L) n) (fun b => Tb.mk (Tb.hf L b) n) hn62 S0 sv HS0.out.1 HS0.out.2 _ HB.out.2.1).mono ?_; rintro e W1 ⟨rfl, hb1⟩; replace HB := Lib.hid (And.intro (HB.out.1.below hb1) (And.intro (TB.below HB.out.2.1 hb1) (HB.out.2.2.trans (hb1.mono HB.out.2.2.size)))); clear hb1)
        | (go_at_call 38; with_reducible refine (r9_start L n a c0 HN.out.2.1 hn62 S0 sv HS0.out.1 HS0.out.2 _ HB.out.1.ia).mono ?_; rintro e W1 ⟨rfl, hb1⟩; replace HB := Lib.hid (And.intro (HB.out.1.below hb1) (And.intro (TB.below HB.out.2.1 hb1) (HB.out.2.2.trans (hb1.mono HB.out.2.2.size)))); clear hb1)
        | (go_at_call 39; with_reducible refine (tb_step p n (Tb.mk (Tb.rf L) n) (fun b => Tb.mk (Tb.hf L b) n) hn62 X a1 HX.out.1 b hb2 Y1 y1 HY1.out.1 HY1.out.2 _ HB.out.2.1).mono ?_; rintro e W1 ⟨rfl, hb1⟩; replace HB := Lib.hid (And.intro (HB.out.1.below hb1) (And.intro (TB.below HB.out.2.1 hb1) (HB.out.2.2.trans (hb1.mono HB.out.2.2.size)))); clear hb1)
        | (go_at_call 40; with_reducible refine (r9_step L n a c0 HN.out.2.1 hn62 X a1 HX.out.1 cc b HX.out.2 Y1 y1 HY1.out.1 HY1.out.2 _ HB.out.1.ia).mono ?_; rintro e W1 ⟨rfl, hb1⟩; replace HB := Lib.hid (And.intro (HB.out.1.below hb1) (And.intro (TB.below HB.out.2.1 hb1) (HB.out.2.2.trans (hb1.mono HB.out.2.2.size)))); clear hb1)
        | (go_at_call 41; with_reducible refine (tb_seek p n (Tb.mk (Tb.rf L) n) (fun b => Tb.mk (Tb.hf L b) n) hn62 X a1 HX.out.1 b hb2 Y2 y2 HY2.out.1 HY2.out.2 _ HB.out.2.1).mono ?_; rintro e W1 ⟨rfl, hb1⟩; replace HB := Lib.hid (And.intro (HB.out.1.below hb1) (And.intro (TB.below HB.out.2.1 hb1) (HB.out.2.2.trans (hb1.mono HB.out.2.2.size)))); clear hb1)
        | (go_at_call 42; with_reducible refine (r9_seek L n a c0 HN.out.2.1 hn62 X a1 HX.out.1 cc b HX.out.2 Y2 y2 HY2.out.1 HY2.out.2 _ HB.out.1.ia).mono ?_; rintro e W1 ⟨rfl, hb1⟩; replace HB := Lib.hid (And.intro (HB.out.1.below hb1) (And.intro (TB.below HB.out.2.1 hb1) (HB.out.2.2.trans (hb1.mono HB.out.2.2.size)))); clear hb1)
        | (go_at_call 43; with_reducible refine (tb_done p n (Tb.mk (Tb.rf L) n) (fun b => Tb.mk (Tb.hf L b) n) hn62 X a1 HX.out.1 d HD.out _ HB.out.2.1).mono ?_; rintro e W1 ⟨rfl, hb1⟩; replace HB := Lib.hid (And.intro (HB.out.1.below hb1) (And.intro (TB.below HB.out.2.1 hb1) (HB.out.2.2.trans (hb1.mono HB.out.2.2.size)))); clear hb1)
        | (go_at_call 44; with_reducible refine (r9_done L n a c0 HN.out.2.1 hn62 X a1 HX.out.1 d HD.out _ HB.out.1.ia).mono ?_; rintro e W1 ⟨rfl, hb1⟩; replace HB := Lib.hid (And.intro (HB.out.1.below hb1) (And.intro (TB.below HB.out.2.1 hb1) (HB.out.2.2.trans (hb1.mono HB.out.2.2.size)))); clear hb1)
        | (go_at_call 35; with_reducible refine (tb_lives _).mono ?_; rintro e W1 ⟨rfl, hb1⟩; replace HB := Lib.hid (And.intro (HB.out.1.below hb1) (And.intro (TB.below HB.out.2.1 hb1) (HB.out.2.2.trans (hb1.mono HB.out.2.2.size)))); clear hb1))
      go_ret
      exact ⟨rfl, HB.out.2.2⟩

set_option maxRecDepth 100000 in
theorem lifted (os : Os) (started : os.Started) (H : Type) (enc : TypeId × Value → H) :
    ReturnsInHanded {} Try.checked os 8 .any (Rows.tableMakesSpec.pre6 enc Try.prog Try.f8 Rows.tableMakesRow.domain false) (Rows.tableMakesSpec.post enc Try.prog Try.f8 false true false false) := by
  refine returnsInHanded_of_change (C := Try.checked) ownKn started (by kernel_rfl) Try.func8
    (ChangeSpec.witness6 (enc := enc) (C := Try.checked) false ⟨#[], #[.slice none 0 0, .int .u64 0, .int .u8 0], []⟩ 8 (by kernel_rfl) (by kernel_rfl) (by kernel_rfl) (by kernel_rfl)) ?_
  intro W base args ds gs before hval0 hW hcnd _
  have hval : ∀ (j : Nat) t v, Try.f8.params[j]? = some t → args[j]? = some v → Value.okWide Try.prog W .any base t v := hval0
  have hW' := hW
  obtain ⟨p, q, hA0, hV, rfl, hfz, hnd⟩ := hW
  have hA : DataW.TrodAll enc Try.prog W 0 (fun _ => true) true Try.f8.params.toList args.toList ds p := hA0
  rw [Try.params8] at hA hval
  obtain ⟨v0, vs0, d0, ds0, p0, q0, hargs, rfl, rfl, h0, r0⟩ := trodAll_cons hA
  obtain ⟨v1, vs1, d1, ds1, p1, q1, rfl, rfl, rfl, h1, r1⟩ := trodAll_cons r0
  obtain ⟨v2, vs2, d2, ds2, p2, q2, rfl, rfl, rfl, h2, r2⟩ := trodAll_cons r1
  obtain ⟨rfl, rfl, rfl⟩ := trodAll_nil r2
  obtain rfl : args = #[v0, v1, v2] := by cases args; simp_all
  obtain ⟨rfl, rfl⟩ := trodVars_none hV
  have k0 := h0
  have lt0 : ∀ x ∈ p0, x.block < W.heap.size := by obtain ⟨m, hm⟩ := k0; exact DataW.trod_lt m _ _ _ hm
  obtain ⟨b0, lb0, cb0, rfl⟩ := okWide_slice Try.underlying22 (hval 0 22 v0 rfl rfl)
  obtain ⟨fu0, hf0⟩ := h0
  simp only [Value.cells] at hf0
  obtain ⟨a0, len0, cap0, z0, e0, w0⟩ := fld_items hf0
  obtain ⟨rfl, rfl, rfl⟩ : b0 = a0 ∧ lb0 = len0 ∧ cb0 = cap0 := by simpa using e0
  have k1 := h1
  have lt1 : ∀ x ∈ p1, x.block < W.heap.size := by obtain ⟨m, hm⟩ := k1; exact DataW.trod_lt m _ _ _ hm
  obtain ⟨a1, rfl, rfl, rfl, w1⟩ := open_int Try.underlying37 (hval 1 37 v1 rfl rfl) h1
  have k2 := h2
  have lt2 : ∀ x ∈ p2, x.block < W.heap.size := by obtain ⟨m, hm⟩ := k2; exact DataW.trod_lt m _ _ _ hm
  obtain ⟨a2, rfl, rfl, rfl, w2⟩ := open_int Try.underlying5 (hval 2 5 v2 rfl rfl) h2
  clear hA0 hval0
  refine (walk b0 lb0 cb0 z0 a1 a2 W w0 w1 w2).mono fun e W' ⟨he, bel⟩ => ?_
  subst he
  exact ⟨_, rfl, _, _, _, [], _, [], hW', trodAll_mk1 (shut_bool Try.underlying4 _), (trodAll_cons_mk (Below.trod laidOut (by kernel_rfl) (of_decide_eq_true (by kernel_rfl)) k0 bel lt0) (trodAll_cons_mk (Below.trod laidOut (by kernel_rfl) (of_decide_eq_true (by kernel_rfl)) k1 bel lt1) (trodAll_cons_mk (Below.trod laidOut (by kernel_rfl) (of_decide_eq_true (by kernel_rfl)) k2 bel lt2) trodAll_mk0))), rfl, bel.frame _, fun h => by cases h⟩

theorem over : Rows.tableMakesRow.holds Try.pinned (OpenSpec.ofChange Rows.tableMakesSpec) :=
  OpenClaim.holds_of_wide 8 Try.f8 rfl rfl rfl rfl rfl rfl rfl ⟨rfl, rfl, rfl, rfl, rfl⟩ rfl rfl rfl rfl rfl (by kernel_rfl) Try.func8 (by kernel_rfl)
    (of_decide_eq_true (by kernel_rfl)) (by unfold Func.isWrapper; first | (rw [if_pos (by decide +kernel)]; kernel_rfl) | (rw [if_neg (by decide +kernel)]; exact ⟨rfl, rfl⟩))
    (fun os started H enc _ => lifted os started H enc)

/-- The statement. -/
theorem proved : Rows.TableMakesSaid := over
#print axioms proved
end Go.Proofs.Ytjedjnpepjdgeaa.tableMakes
