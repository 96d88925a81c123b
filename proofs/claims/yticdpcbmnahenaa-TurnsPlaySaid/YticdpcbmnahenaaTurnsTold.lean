/- What turns tell, held against the document's own answer. -/
import Derived.Test.YticdpcbmnahenaaTurnsRef4
import Derived.Deep.RegionHeld3
namespace Go.Proofs.Yticdpcbmnahenaa
open Go.ChangeShapes Go.WideShapes Go.ChangeAt Go.RowKit
set_option linter.unusedSimpArgs false
set_option linter.unusedVariables false

theorem same_none (g c : Nat) (w : World) :
    Calls Try.prog 42 #[.slice (some ⟨g, 0, none⟩) 0 c, .slice none 0 0] w fun e w' => e = .returned (.bool true) ∧ w = w' := by
  go_enter Try.func42, Try.ntmps42
  go_wp2
  go_loop [5] (fun i => i = .int .i64 0) (fun i => 1)
  case atStart => rfl
  case round =>
    subst hrel
    go_wp2
    go_ret
    exact ⟨rfl, rfl⟩
theorem same_r (g3 c3 lo : Nat) (r : Option Addr) (L : List Nat) (cr : Nat) (w : World) (hl : L.length ≤ 1000000) (h1 : LAt w g3 0 L) (h : LR w lo r L cr) :
    Calls Try.prog 42 #[.slice (some ⟨g3, 0, none⟩) L.length c3, .slice r L.length cr] w fun e w' => e = .returned (.bool true) ∧ Below w.heap.size w w' := by
  rcases h.2.2 with ⟨rfl, rfl, rfl⟩ | ⟨g, o, rfl, h4, h5⟩
  · exact (same_none g3 c3 w).mono fun e w' ⟨he, hw⟩ => ⟨he, by rw [← hw]; exact Below.refl _ _⟩
  · exact (same_true g3 0 c3 g o cr L w hl h1 h5).mono fun e w' ⟨he, q, hw⟩ => ⟨he, by rw [hw]; exact below_drewN (Below.refl _ _) q⟩
/-- The turns, the document's turns in a box, and its lists. -/
def TO (w0 w : World) (t b R I p h n : Nat) (q : Int) (on : Bool) (who dn : Nat) (L : List Nat) (V : List Int) (lo : Nat) (r : Option Addr) (cr : Nat) (a : Option Addr) (M : List (Int × Int)) (c : Nat) (B : Nat) (bc : List Value) : Prop :=
  TAt w t b R I p h n q on who dn L V ∧ Blk w B bc 32 ∧ LR w lo r L cr ∧ RL w lo a M ∧ Below w0.heap.size w0 w
theorem TO.on {w0 w w' : World} {t b R I p h n : Nat} {q : Int} {on : Bool} {who dn : Nat} {L : List Nat} {V : List Int} {lo : Nat} {r : Option Addr} {cr : Nat} {a : Option Addr} {M : List (Int × Int)} {c : Nat} {B : Nat} {bc : List Value} (s : TO w0 w t b R I p h n q on who dn L V lo r cr a M c B bc) (k : Below w.heap.size w w') : TO w0 w' t b R I p h n q on who dn L V lo r cr a M c B bc :=
  ⟨s.1.fresh k, s.2.1.below k s.2.1.lt, s.2.2.1.fresh k, s.2.2.2.1.fresh k, s.2.2.2.2.trans (k.mono s.2.2.2.2.size)⟩
set_option maxRecDepth 20000 in
set_option maxHeartbeats 4000000 in
theorem told_any (t b R I p h n : Nat) (q : Int) (on : Bool) (who dn : Nat) (L : List Nat) (V : List Int) (lo : Nat) (r : Option Addr) (cr : Nat) (a : Option Addr) (M : List (Int × Int)) (c : Nat) (wv ask : Int) (w : World) (hL : L.length ≤ 1024) (hM : M.length ≤ 1000) (hc : M.length ≤ c ∧ c ≤ 9223372036854775807) (hw : wv = if on = true then (who : Int) else -1) (ha : TAt w t b R I p h n q on who dn L V) (hr : LR w lo r L cr) (hm : RL w lo a M) (hv : ∀ id, lHas M id = pHas V id) :
    Calls Try.prog 19 #[.pointer (some ⟨t, 0, none⟩), .agg #[.slice r L.length cr, .int .i64 n, .int .i64 q, .slice a M.length c, .int .i64 wv, .int .i64 dn], .int .i64 ask] w fun e w' => e = .returned (.bool true) ∧ Below w.heap.size w w' := by
  have HLM : Hid (L.length ≤ 1024 ∧ M.length ≤ 1000 ∧ (M.length ≤ c ∧ c ≤ 9223372036854775807)) := Lib.hid ⟨hL, hM, hc⟩
  have HA := Lib.hid (And.intro ha (And.intro hr hm))
  obtain ⟨l, hl⟩ : ∃ l, L.length = l := ⟨_, rfl⟩
  have HL := Lib.hid hl
  obtain ⟨m, hm'⟩ : ∃ m, M.length = m := ⟨_, rfl⟩
  have HM := Lib.hid hm'
  obtain ⟨ph, hph⟩ : ∃ ph, pHas V ask = ph := ⟨_, rfl⟩
  have HPH := Lib.hid hph
  have HLH : Hid (lHas M ask = ph) := Lib.hid (by rw [hv, hph])
  obtain ⟨tw, htw⟩ : ∃ tw, tW on who L ask = tw := ⟨_, rfl⟩
  have HTW := Lib.hid htw
  rw [hl] at hL ⊢
  rw [hm'] at hM hc ⊢
  clear hl hm' hph htw hv ha hr hm
  cases on with
  | true =>
    obtain rfl : wv = (who : Int) := hw

    go_enter Try.func19, Try.ntmps19
    go_upto_region 1 with fail
    have HT : Hid (TO w (w.alloc (Obj.cells #[.slice r l cr, .int .i64 n, .int .i64 q, .slice a m c, .int .i64 who, .int .i64 dn] 32)) t b R I p h n q true who dn L V lo r cr a M c w.heap.size [.slice r l cr, .int .i64 n, .int .i64 q, .slice a m c, .int .i64 who, .int .i64 dn]) := Lib.hid ⟨HA.out.1.fresh ((Below.refl _ _).alloc (Nat.le_refl _) _), Blk.newA w _ _, HA.out.2.1.fresh ((Below.refl _ _).alloc (Nat.le_refl _) _), HA.out.2.2.fresh ((Below.refl _ _).alloc (Nat.le_refl _) _), (Below.refl _ _).alloc (Nat.le_refl _) _⟩
    revert HT
    generalize w.alloc (Obj.cells #[.slice r l cr, .int .i64 n, .int .i64 q, .slice a m c, .int .i64 who, .int .i64 dn] 32) = W
    intro HT
    have b0 := HT.out.2.1.cell (i := 0) rfl
    have b1 := HT.out.2.1.cell (i := 1) rfl
    have b2 := HT.out.2.1.cell (i := 2) rfl
    have b3 := HT.out.2.1.cell (i := 3) rfl
    have b4 := HT.out.2.1.cell (i := 4) rfl
    have b5 := HT.out.2.1.cell (i := 5) rfl
    have hge : (0 : Int) ≤ (who : Int) := by omega
    go_upto_region 4 with (go_at_call 22; refine (t_whose_on t b R I p h n q who dn L V _ HT.out.1).mono ?_; rintro e w' ⟨rfl, rfl⟩)
    have HD := Lib.hid (HT.out.on (Below.refl _ W).drew)
    clear b0 b1 b2 b3 b4 b5
    have c0 : W.drew.cell? ⟨w.heap.size, 0, none⟩ = some (.slice r l cr) := HD.out.2.1.cell (i := 0) rfl
    have c1 : W.drew.cell? ⟨w.heap.size, 1, none⟩ = some (.int .i64 n) := HD.out.2.1.cell (i := 1) rfl
    have c2 : W.drew.cell? ⟨w.heap.size, 2, none⟩ = some (.int .i64 q) := HD.out.2.1.cell (i := 2) rfl
    have c3 : W.drew.cell? ⟨w.heap.size, 3, none⟩ = some (.slice a m c) := HD.out.2.1.cell (i := 3) rfl
    have c4 : W.drew.cell? ⟨w.heap.size, 4, none⟩ = some (.int .i64 who) := HD.out.2.1.cell (i := 4) rfl
    have c5 : W.drew.cell? ⟨w.heap.size, 5, none⟩ = some (.int .i64 dn) := HD.out.2.1.cell (i := 5) rfl
    go_region_held3 (fun w' => w'.cell? ⟨w.heap.size, 0, none⟩ = some (.slice r l cr) ∧ w'.cell? ⟨w.heap.size, 1, none⟩ = some (.int .i64 n) ∧ w'.cell? ⟨w.heap.size, 2, none⟩ = some (.int .i64 q) ∧ w'.cell? ⟨w.heap.size, 3, none⟩ = some (.slice a m c) ∧ w'.cell? ⟨w.heap.size, 4, none⟩ = some (.int .i64 who) ∧ w'.cell? ⟨w.heap.size, 5, none⟩ = some (.int .i64 dn)) (first | with_reducible exact ⟨c0, c1, c2, c3, c4, c5⟩ | with_reducible exact ⟨d0, d1, d2, d3, d4, d5⟩ | with_reducible exact ⟨e0, e1, e2, e3, e4, e5⟩ | with_reducible exact ⟨f0, f1, f2, f3, f4, f5⟩ | with_reducible exact ⟨g0, g1, g2, g3, g4, g5⟩ | with_reducible exact ⟨i0, i1, i2, i3, i4, i5⟩ | with_reducible exact ⟨j0, j1, j2, j3, j4, j5⟩ | with_reducible exact ⟨k0, k1, k2, k3, k4, k5⟩) (first
      | (go_at_call 25; refine (t_list t b R I p h n q true who dn L V _ HD.out.1).mono ?_; rintro e w2 ⟨v', rfl, k1, k2, k3⟩; obtain ⟨g3, c3, rfl, k4, k5, k6⟩ := Rw.of_own k1 k2; rw [HL.out]; have HG := Lib.hid (LAt.of_rw k5); clear k1 k2 k4 k5 k6; have H2 := Lib.hid (HD.out.on k3); clear k3; have d0 := H2.out.2.1.cell (i := 0) rfl; have d1 := H2.out.2.1.cell (i := 1) rfl; have d2 := H2.out.2.1.cell (i := 2) rfl; have d3 := H2.out.2.1.cell (i := 3) rfl; have d4 := H2.out.2.1.cell (i := 4) rfl; have d5 := H2.out.2.1.cell (i := 5) rfl)
      | (go_at_call 42; rw [← HL.out]; refine (same_r g3 c3 lo r L cr _ (by have := HLM.out.1; omega) HG.out H2.out.2.2.1).mono ?_; rintro e w3 ⟨rfl, k3⟩; rw [HL.out]; have H3 := Lib.hid (H2.out.on k3); clear k3; have e0 := H3.out.2.1.cell (i := 0) rfl; have e1 := H3.out.2.1.cell (i := 1) rfl; have e2 := H3.out.2.1.cell (i := 2) rfl; have e3 := H3.out.2.1.cell (i := 3) rfl; have e4 := H3.out.2.1.cell (i := 4) rfl; have e5 := H3.out.2.1.cell (i := 5) rfl)
      | (go_at_call 26; refine (t_done t b R I p h n q true who dn L V _ H3.out.1).mono ?_; rintro e w4 ⟨rfl, rfl⟩)
      | (go_at_call 23; refine (t_has t b R I p h n q true who dn L V _ ask H3.out.1).mono ?_; rintro e w4 ⟨rfl, rfl⟩; rw [HPH.out])
      | (go_at_call 43; rw [← HM.out]; refine (ref_has n q lo a M c ask _ (by have := HLM.out.2.1; omega) H3.out.2.2.2.1).mono ?_; rintro e w4 ⟨rfl, k3⟩; rw [HM.out, HLH.out]; have H4 := Lib.hid (H3.out.on k3); clear k3; have f0 := H4.out.2.1.cell (i := 0) rfl; have f1 := H4.out.2.1.cell (i := 1) rfl; have f2 := H4.out.2.1.cell (i := 2) rfl; have f3 := H4.out.2.1.cell (i := 3) rfl; have f4 := H4.out.2.1.cell (i := 4) rfl; have f5 := H4.out.2.1.cell (i := 5) rfl)
      | (go_at_call 24; refine (t_waits t b R I p h n q true who dn L V _ ask H4.out.1).mono ?_; rintro e w5 ⟨rfl, q5, hw5⟩; rw [HTW.out]; have k3 : Below w4.heap.size w4 w5 := (by rw [hw5]; exact below_drewN (Below.refl _ _) q5); clear hw5; have H5 := Lib.hid (H4.out.on k3); clear k3; have g0 := H5.out.2.1.cell (i := 0) rfl; have g1 := H5.out.2.1.cell (i := 1) rfl; have g2 := H5.out.2.1.cell (i := 2) rfl; have g3 := H5.out.2.1.cell (i := 3) rfl; have g4 := H5.out.2.1.cell (i := 4) rfl; have g5 := H5.out.2.1.cell (i := 5) rfl)
      | (go_at_call 39; rw [← HL.out, ← HM.out]; refine (tr_waits lo n q r L cr a M c ((who : Int)) dn true who ask _ HLM.out.1 HLM.out.2.1 HLM.out.2.2 H5.out.2.2.1 H5.out.2.2.2.1 (by rfl)).mono ?_; rintro e w6 ⟨rfl, k3⟩; rw [HL.out, HM.out, HTW.out]; have H6 := Lib.hid (H5.out.on k3); clear k3; have i0 := H6.out.2.1.cell (i := 0) rfl; have i1 := H6.out.2.1.cell (i := 1) rfl; have i2 := H6.out.2.1.cell (i := 2) rfl; have i3 := H6.out.2.1.cell (i := 3) rfl; have i4 := H6.out.2.1.cell (i := 4) rfl; have i5 := H6.out.2.1.cell (i := 5) rfl))
    all_goals
      go_wp2_with fail
      go_ret
      exact ⟨rfl, H6.out.2.2.2.2⟩
  | false =>
    obtain rfl : wv = -1 := hw

    go_enter Try.func19, Try.ntmps19
    go_upto_region 1 with fail
    have HT : Hid (TO w (w.alloc (Obj.cells #[.slice r l cr, .int .i64 n, .int .i64 q, .slice a m c, .int .i64 (-1), .int .i64 dn] 32)) t b R I p h n q false who dn L V lo r cr a M c w.heap.size [.slice r l cr, .int .i64 n, .int .i64 q, .slice a m c, .int .i64 (-1), .int .i64 dn]) := Lib.hid ⟨HA.out.1.fresh ((Below.refl _ _).alloc (Nat.le_refl _) _), Blk.newA w _ _, HA.out.2.1.fresh ((Below.refl _ _).alloc (Nat.le_refl _) _), HA.out.2.2.fresh ((Below.refl _ _).alloc (Nat.le_refl _) _), (Below.refl _ _).alloc (Nat.le_refl _) _⟩
    revert HT
    generalize w.alloc (Obj.cells #[.slice r l cr, .int .i64 n, .int .i64 q, .slice a m c, .int .i64 (-1), .int .i64 dn] 32) = W
    intro HT
    have b0 := HT.out.2.1.cell (i := 0) rfl
    have b1 := HT.out.2.1.cell (i := 1) rfl
    have b2 := HT.out.2.1.cell (i := 2) rfl
    have b3 := HT.out.2.1.cell (i := 3) rfl
    have b4 := HT.out.2.1.cell (i := 4) rfl
    have b5 := HT.out.2.1.cell (i := 5) rfl
    go_upto_region 4 with (go_at_call 22; refine (t_whose_off t b R I p h n q who dn L V _ HT.out.1).mono ?_; rintro e w' ⟨rfl, rfl⟩)
    have HD := Lib.hid (HT.out.on (Below.refl _ W).drew)
    clear b0 b1 b2 b3 b4 b5
    have c0 : W.drew.cell? ⟨w.heap.size, 0, none⟩ = some (.slice r l cr) := HD.out.2.1.cell (i := 0) rfl
    have c1 : W.drew.cell? ⟨w.heap.size, 1, none⟩ = some (.int .i64 n) := HD.out.2.1.cell (i := 1) rfl
    have c2 : W.drew.cell? ⟨w.heap.size, 2, none⟩ = some (.int .i64 q) := HD.out.2.1.cell (i := 2) rfl
    have c3 : W.drew.cell? ⟨w.heap.size, 3, none⟩ = some (.slice a m c) := HD.out.2.1.cell (i := 3) rfl
    have c4 : W.drew.cell? ⟨w.heap.size, 4, none⟩ = some (.int .i64 (-1)) := HD.out.2.1.cell (i := 4) rfl
    have c5 : W.drew.cell? ⟨w.heap.size, 5, none⟩ = some (.int .i64 dn) := HD.out.2.1.cell (i := 5) rfl
    go_region_held3 (fun w' => w'.cell? ⟨w.heap.size, 0, none⟩ = some (.slice r l cr) ∧ w'.cell? ⟨w.heap.size, 1, none⟩ = some (.int .i64 n) ∧ w'.cell? ⟨w.heap.size, 2, none⟩ = some (.int .i64 q) ∧ w'.cell? ⟨w.heap.size, 3, none⟩ = some (.slice a m c) ∧ w'.cell? ⟨w.heap.size, 4, none⟩ = some (.int .i64 (-1)) ∧ w'.cell? ⟨w.heap.size, 5, none⟩ = some (.int .i64 dn)) (first | with_reducible exact ⟨c0, c1, c2, c3, c4, c5⟩ | with_reducible exact ⟨d0, d1, d2, d3, d4, d5⟩ | with_reducible exact ⟨e0, e1, e2, e3, e4, e5⟩ | with_reducible exact ⟨f0, f1, f2, f3, f4, f5⟩ | with_reducible exact ⟨g0, g1, g2, g3, g4, g5⟩ | with_reducible exact ⟨i0, i1, i2, i3, i4, i5⟩ | with_reducible exact ⟨j0, j1, j2, j3, j4, j5⟩ | with_reducible exact ⟨k0, k1, k2, k3, k4, k5⟩) (first
      | (go_at_call 25; refine (t_list t b R I p h n q false who dn L V _ HD.out.1).mono ?_; rintro e w2 ⟨v', rfl, k1, k2, k3⟩; obtain ⟨g3, c3, rfl, k4, k5, k6⟩ := Rw.of_own k1 k2; rw [HL.out]; have HG := Lib.hid (LAt.of_rw k5); clear k1 k2 k4 k5 k6; have H2 := Lib.hid (HD.out.on k3); clear k3; have d0 := H2.out.2.1.cell (i := 0) rfl; have d1 := H2.out.2.1.cell (i := 1) rfl; have d2 := H2.out.2.1.cell (i := 2) rfl; have d3 := H2.out.2.1.cell (i := 3) rfl; have d4 := H2.out.2.1.cell (i := 4) rfl; have d5 := H2.out.2.1.cell (i := 5) rfl)
      | (go_at_call 42; rw [← HL.out]; refine (same_r g3 c3 lo r L cr _ (by have := HLM.out.1; omega) HG.out H2.out.2.2.1).mono ?_; rintro e w3 ⟨rfl, k3⟩; rw [HL.out]; have H3 := Lib.hid (H2.out.on k3); clear k3; have e0 := H3.out.2.1.cell (i := 0) rfl; have e1 := H3.out.2.1.cell (i := 1) rfl; have e2 := H3.out.2.1.cell (i := 2) rfl; have e3 := H3.out.2.1.cell (i := 3) rfl; have e4 := H3.out.2.1.cell (i := 4) rfl; have e5 := H3.out.2.1.cell (i := 5) rfl)
      | (go_at_call 26; refine (t_done t b R I p h n q false who dn L V _ H3.out.1).mono ?_; rintro e w4 ⟨rfl, rfl⟩)
      | (go_at_call 23; refine (t_has t b R I p h n q false who dn L V _ ask H3.out.1).mono ?_; rintro e w4 ⟨rfl, rfl⟩; rw [HPH.out])
      | (go_at_call 43; rw [← HM.out]; refine (ref_has n q lo a M c ask _ (by have := HLM.out.2.1; omega) H3.out.2.2.2.1).mono ?_; rintro e w4 ⟨rfl, k3⟩; rw [HM.out, HLH.out]; have H4 := Lib.hid (H3.out.on k3); clear k3; have f0 := H4.out.2.1.cell (i := 0) rfl; have f1 := H4.out.2.1.cell (i := 1) rfl; have f2 := H4.out.2.1.cell (i := 2) rfl; have f3 := H4.out.2.1.cell (i := 3) rfl; have f4 := H4.out.2.1.cell (i := 4) rfl; have f5 := H4.out.2.1.cell (i := 5) rfl)
      | (go_at_call 24; refine (t_waits t b R I p h n q false who dn L V _ ask H4.out.1).mono ?_; rintro e w5 ⟨rfl, q5, hw5⟩; rw [HTW.out]; have k3 : Below w4.heap.size w4 w5 := (by rw [hw5]; exact below_drewN (Below.refl _ _) q5); clear hw5; have H5 := Lib.hid (H4.out.on k3); clear k3; have g0 := H5.out.2.1.cell (i := 0) rfl; have g1 := H5.out.2.1.cell (i := 1) rfl; have g2 := H5.out.2.1.cell (i := 2) rfl; have g3 := H5.out.2.1.cell (i := 3) rfl; have g4 := H5.out.2.1.cell (i := 4) rfl; have g5 := H5.out.2.1.cell (i := 5) rfl)
      | (go_at_call 39; rw [← HL.out, ← HM.out]; refine (tr_waits lo n q r L cr a M c ((-1)) dn false who ask _ HLM.out.1 HLM.out.2.1 HLM.out.2.2 H5.out.2.2.1 H5.out.2.2.2.1 (by rfl)).mono ?_; rintro e w6 ⟨rfl, k3⟩; rw [HL.out, HM.out, HTW.out]; have H6 := Lib.hid (H5.out.on k3); clear k3; have i0 := H6.out.2.1.cell (i := 0) rfl; have i1 := H6.out.2.1.cell (i := 1) rfl; have i2 := H6.out.2.1.cell (i := 2) rfl; have i3 := H6.out.2.1.cell (i := 3) rfl; have i4 := H6.out.2.1.cell (i := 4) rfl; have i5 := H6.out.2.1.cell (i := 5) rfl))
    all_goals
      go_wp2_with fail
      go_ret
      exact ⟨rfl, H6.out.2.2.2.2⟩
end Go.Proofs.Yticdpcbmnahenaa
