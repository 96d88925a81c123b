/- Several texts in one. -/
import Derived.Test.YtdchedkhlfmpeaaGr1
import Derived.WalkKit
import Derived.ProofKit
import Derived.Handy
import Derived.WalkLawsBesides
import Derived.WalkSpells
import Derived.Lib.Hide
import Derived.Lib.SliceRun
import Derived.Deep.RegionLaw
import Derived.RegionTactic
import Derived.ChangeAlike
import Derived.WalkSmall
import Derived.Deep.QuietTactic
import Derived.BigQuiet
import Derived.OwnWalk
import Derived.Outline
import Derived.Deep.CutRange
import Derived.Deep.CutBlock
import Derived.LoopTactic
import Derived.Test.YtdchedkhlfmpeaaGr9
import Derived.Test.YtdchedkhlfmpeaaCostRef
import Derived.Test.YtdchedkhlfmpeaaEv15
import Derived.Test.YtdchedkhlfmpeaaGrB
/- Grace: the document on the first of a kind. -/
namespace Go.Proofs.Ytdchedkhlfmpeaa
open Go.ChangeShapes Go.WideShapes Go.ChangeAt Go.RowKit
set_option linter.unusedSimpArgs false
set_option linter.unusedVariables false

set_option maxRecDepth 20000 in
set_option maxHeartbeats 16000000 in
theorem rg_first (a : Option Addr) (len cap : Nat) (L : List Ev) (hl : L.length = len) (hlm : len ≤ 1000000) (kd : Int) (f : Int) (hf : Ev.idx (Gr.isk kd) L = f) (w : World) (HE : EL w a L) :
    Calls Try.prog 24 #[.slice a len cap, .int .i64 kd] w fun e w' => e = .returned (.int .i64 f) ∧ Below w.heap.size w w' := by
  have HL := Lib.hid (And.intro hl (And.intro HE hf))
  clear hl HE hf
  go_enter Try.func24, Try.ntmps24
  go_wp2_with fail
  go_loopw [5] (fun z wr => ∃ j : Nat, z = .int .i64 j ∧ j ≤ len ∧ Hid (∀ q y, q < j → L[q]? = some y → Gr.isk kd y = false) ∧ Hid (Below w.heap.size w wr)) (fun z _ => len - (intOf z).toNat)
  case atStart => exact ⟨0, rfl, by omega, Lib.hid (fun q y hq => by omega), Lib.hid (Below.refl _ _)⟩
  case round =>
    obtain ⟨j, rfl, hj, HK, HB⟩ := hrel
    have i0 : (0 : Int) ≤ (j : Int) := by omega
    by_cases hjl : j < len
    · have i1 : (j : Int) < (len : Int) := by omega
      have w1 : IntKind.i64.wrap ((j : Int) + 1) = (j : Int) + 1 := IntWalk.i64_in _ (by omega)
      obtain ⟨k, i, n, t, b, e, s0, s1, s2, s3, s4, s5, es⟩ : ∃ k i n t b e s0 s1 s2 s3 s4 s5, L[j]? = some ⟨k, i, n, t, b, e, s0, s1, s2, s3, s4, s5⟩ := ⟨_, _, _, _, _, _, _, _, _, _, _, _, List.getElem?_eq_getElem (by rw [HL.out.1]; exact hjl)⟩
      obtain ⟨hb, ga, o, rfl, hgw, e0, e1, e2, e3, e4, e5, e6, e7, e8, e9, e10, e11⟩ := (HL.out.2.1.below HB.out).get es
      by_cases hk : k = kd
      · have kb : (k == kd) = true := by simp [hk]
        have HE : Hid ((j : Int) = f) := Lib.hid (by rw [← HL.out.2.2]; exact (Ev.idx_hit es (by unfold Gr.isk; exact kb) HK.out).symm)
        clear es hk
        go_wp2_with fail
        go_ret
        exact ⟨by rw [HE.out]; rfl, HB.out⟩
      · have kb : (k == kd) = false := by simp [hk]
        have HK2 : Hid (∀ q y, q < j + 1 → L[q]? = some y → Gr.isk kd y = false) := Lib.hid (fun q y hq hy => by
          by_cases e : q = j
          · rw [e, es] at hy; rw [← Option.some.inj hy]; unfold Gr.isk; exact kb
          · exact HK.out q y (by omega) hy)
        clear es hk
        go_wp2_with fail
        go_roundw
        case rel => exact ⟨j + 1, by go_num, by omega, HK2, HB⟩
        case measure => simp [intOf]; omega
    · have i1 : ¬ (j : Int) < (len : Int) := by omega
      have HE : Hid (-1 = f) := Lib.hid (by rw [← HL.out.2.2]; exact (Ev.idx_none (fun q y hy => HK.out q y (by have := (List.getElem?_eq_some_iff.1 hy).1; rw [HL.out.1] at this; omega) hy)).symm)
      go_wp2_with fail
      go_ret
      exact ⟨by rw [← HE.out]; rfl, HB.out⟩
end Go.Proofs.Ytdchedkhlfmpeaa
/- Grace: the document on Stops. -/
namespace Go.Proofs.Ytdchedkhlfmpeaa
open Go.ChangeShapes Go.WideShapes Go.ChangeAt Go.RowKit
set_option linter.unusedSimpArgs false
set_option linter.unusedVariables false

theorem Gr.clock_at {L : List Ev} {j m : Nat} {x : Ev} (hjl : j ≤ L.length) (hm : m < j) (hx : L[m]? = some x) (hk : x.k = 1) (h0 : ∀ q y, m < q → q < j → L[q]? = some y → y.k ≠ 1) : Ev.clock (L.take j) = x.t :=
  Ev.clock_back (n := j) (by rw [List.length_take]; omega) (j := m) (by rw [List.getElem?_take_of_lt hm]; exact hx) hk (fun q y hq hy => by
    by_cases h : q < j
    · rw [List.getElem?_take_of_lt h] at hy; exact h0 q y hq h hy
    · rw [List.getElem?_eq_none (by rw [List.length_take]; omega)] at hy; cases hy)
set_option maxRecDepth 20000 in
set_option maxHeartbeats 16000000 in
theorem rg_stops (l r i o q v each : Int) (a : Option Addr) (len cap : Nat) (L : List Ev) (hl : L.length = len) (hlm : len ≤ 100000) (bd : Int) (isb : Bool)
    (hbd : ∀ W, EL W a L → Calls Try.prog 22 #[.agg #[.int .i64 l, .int .i64 r, .int .i64 i, .int .i64 o, .int .i64 q, .int .i64 v], .slice a len cap, .int .i64 each] W fun e W' => e = .returned (.tuple #[.int .i64 bd, .bool isb]) ∧ Below W.heap.size W W')
    (rr : Bool) (hrr : rr = true ↔ (isb = true → Gr.stp L bd len)) (w : World) (HE : EL w a L) :
    Calls Try.prog 28 #[.agg #[.int .i64 l, .int .i64 r, .int .i64 i, .int .i64 o, .int .i64 q, .int .i64 v], .slice a len cap, .int .i64 each] w fun e w' => e = .returned (.bool rr) ∧ Below w.heap.size w w' := by
  have HB0 := Lib.hid hbd
  have HL := Lib.hid (And.intro hl (And.intro HE hrr))
  clear hl hbd HE hrr
  cases isb with
  | false =>
    obtain rfl : true = rr := by
      cases hq : rr with
      | true => rfl
      | false => exact absurd (HL.out.2.2.2 (fun h => by cases h)) (by rw [hq]; simp)
    go_enter Try.func28, Try.ntmps28
    go_wp2_with (first
      | (go_at_call 22; (with_reducible refine (HB0.out _ (HL.out.2.1.below ((Below.refl _ _).alloc (Nat.le_refl _) _))).mono ?_); rintro r4 W1 ⟨rfl, bb⟩; have HB1 : Hid (Below w.heap.size w W1) := Lib.hid (((Below.refl _ _).alloc (Nat.le_refl _) _).trans (bb.mono ((Below.refl w.heap.size w).alloc (Nat.le_refl _) _).size)); clear bb))
    go_loopw [9, 10] (fun z _ wr => z = .int .i64 0 ∧ Hid (Below w.heap.size w wr)) (fun _ _ _ => 0)
    case atStart => exact ⟨rfl, HB1⟩
    case round =>
      obtain ⟨rfl, HB⟩ := hrel
      by_cases hjl : (0 : Int) < (len : Int)
      · go_wp2_with fail
        go_ret
        exact ⟨rfl, HB.out⟩
      · go_wp2_with fail
        go_ret
        exact ⟨rfl, HB.out⟩
  | true =>
    go_enter Try.func28, Try.ntmps28
    go_wp2_with (first
      | (go_at_call 22; (with_reducible refine (HB0.out _ (HL.out.2.1.below ((Below.refl _ _).alloc (Nat.le_refl _) _))).mono ?_); rintro r4 W1 ⟨rfl, bb⟩; have HB1 : Hid (Below w.heap.size w W1) := Lib.hid (((Below.refl _ _).alloc (Nat.le_refl _) _).trans (bb.mono ((Below.refl w.heap.size w).alloc (Nat.le_refl _) _).size)); clear bb))
    go_loopw [9, 10] (fun z _ wr => ∃ j : Nat, z = .int .i64 j ∧ j ≤ len ∧ Hid (¬ Gr.stp L bd j) ∧ Hid (Below w.heap.size w wr)) (fun z _ _ => len - (intOf z).toNat)
    case atStart => exact ⟨0, rfl, by omega, Lib.hid (fun ⟨_, _, h, _⟩ => absurd h (by omega)), HB1⟩
    case round =>
      obtain ⟨j, rfl, hj, HK, HB⟩ := hrel
      have i0 : (0 : Int) ≤ (j : Int) := by omega
      by_cases hjl : j < len
      · have i1 : (j : Int) < (len : Int) := by omega
        have w1 : IntKind.i64.wrap ((j : Int) + 1) = (j : Int) + 1 := IntWalk.i64_in _ (by omega)
        have HEw := Lib.hid (HL.out.2.1.below HB.out)
        obtain ⟨k, i, n, t, b, e, s0, s1, s2, s3, s4, s5, es⟩ : ∃ k i n t b e s0 s1 s2 s3 s4 s5, L[j]? = some ⟨k, i, n, t, b, e, s0, s1, s2, s3, s4, s5⟩ := ⟨_, _, _, _, _, _, _, _, _, _, _, _, List.getElem?_eq_getElem (by rw [HL.out.1]; omega)⟩
        obtain ⟨hb, ga, o, rfl, hgw, e0, e1, e2, e3, e4, e5, e6, e7, e8, e9, e10, e11⟩ := HEw.out.get es
        have HVj := Lib.hid es
        clear es e1 e2 e3 e4 e5 e6 e7 e8 e9 e10 e11
        by_cases hk : k = 9
        · have kb : (k != 9) = false := by simp [hk]
          have H9 := Lib.hid hk
          clear hk
          go_wp2_with fail
          clear e0 hb hgw
          go_loopw [10] (fun z wz => ∃ m : Nat, z = .int .i64 ((m : Int) - 1) ∧ m ≤ j + 1 ∧ wz = wr ∧ Hid (∀ q y, m ≤ q → q < j + 1 → L[q]? = some y → y.k ≠ 1)) (fun z _ => (intOf z + 1).toNat)
          case atStart => exact ⟨j + 1, by go_num, by omega, rfl, Lib.hid (fun q y hq1 hq2 => by omega)⟩
          case round =>
            obtain ⟨m, rfl, hmj, rfl, HM⟩ := hrel
            cases m with
            | zero =>
              have z0 : ¬ (0 : Int) ≤ ((0 : Nat) : Int) - 1 := by omega
              have HN : Hid (¬ Gr.stp L bd (j + 1)) := Lib.hid (by
                rw [Gr.stp_step HVj.out]
                rintro (h | ⟨_, ⟨p, y, h1, h2, h3⟩, _⟩)
                · exact HK.out h
                · exact HM.out p y (by omega) (by omega) h2 h3)
              go_wp2_with fail
              go_roundw
              case rel => exact ⟨j + 1, by go_num, by omega, HN, HB⟩
              case measure => simp [intOf]; omega
            | succ m =>
              rw [show (((m + 1 : Nat) : Int) - 1) = (m : Int) by omega]
              have m0 : (0 : Int) ≤ (m : Int) := by omega
              have m1 : (m : Int) < (len : Int) := by omega
              have m2 : m < len := by omega
              have m3 : IntKind.i64.wrap ((m : Int) - 1) = (m : Int) - 1 := IntWalk.i64_in _ (by omega)
              obtain ⟨k2, i2, n2, t2, b2, e2, s02, s12, s22, s32, s42, s52, es⟩ : ∃ k2 i2 n2 t2 b2 e2 s02 s12 s22 s32 s42 s52, L[m]? = some ⟨k2, i2, n2, t2, b2, e2, s02, s12, s22, s32, s42, s52⟩ := ⟨_, _, _, _, _, _, _, _, _, _, _, _, List.getElem?_eq_getElem (by rw [HL.out.1]; omega)⟩
              obtain ⟨hb, gg, oo, hga, hgw, f0, f1, f2, f3, f4, f5, f6, f7, f8, f9, f10, f11⟩ := HEw.out.get es
              injection hga with hga
              injection hga with hga1 hga2
              subst hga1 hga2
              have HVm := Lib.hid es
              clear es f1 f2 f4 f5 f6 f7 f8 f9 f10 f11
              by_cases hk : k2 = 1
              · have kb2 : (k2 != 1) = false := by simp [hk]
                have hmj2 : m < j := by
                  rcases Nat.lt_or_ge m j with h | h
                  · exact h
                  · exfalso
                    obtain rfl : m = j := by omega
                    have h2 := HVj.out
                    rw [HVm.out] at h2
                    injection h2 with h2
                    injection h2 with h2
                    have := H9.out
                    omega
                have HC : Hid (Gr.bgn L j ∧ Ev.clock (L.take j) = t2) := Lib.hid ⟨⟨m, _, hmj2, HVm.out, hk⟩, Gr.clock_at (by rw [HL.out.1]; omega) hmj2 HVm.out hk (fun q y h1 h2 => HM.out q y (by omega) (by omega))⟩
                clear hk
                by_cases htb : t2 < bd
                · obtain rfl : true = rr := by
                    cases hq : rr with
                    | true => rfl
                    | false => exact absurd (HL.out.2.2.2 (fun _ => Gr.stp_mono (i := j + 1) (by omega) ((Gr.stp_step HVj.out).2 (Or.inr ⟨H9.out, HC.out.1, by rw [HC.out.2]; exact htb⟩)))) (by rw [hq]; simp)
                  go_wp2_with fail
                  go_ret
                  exact ⟨rfl, HB.out⟩
                · have HN : Hid (¬ Gr.stp L bd (j + 1)) := Lib.hid (by
                    rw [Gr.stp_step HVj.out]
                    rintro (h | ⟨_, _, h⟩)
                    · exact HK.out h
                    · rw [HC.out.2] at h; exact htb h)
                  go_wp2_with fail
                  go_roundw
                  case rel => exact ⟨j + 1, by go_num, by omega, HN, HB⟩
                  case measure => simp [intOf]; omega
              · have kb2 : (k2 != 1) = true := by simp [hk]
                have HM2 : Hid (∀ q y, m ≤ q → q < j + 1 → L[q]? = some y → y.k ≠ 1) := Lib.hid (fun q y hq hq2 hy => by
                  by_cases e : q = m
                  · rw [e, HVm.out] at hy; rw [← Option.some.inj hy]; exact hk
                  · exact HM.out q y (by omega) hq2 hy)
                clear hk
                go_wp2_with fail
                go_roundw
                case rel => exact ⟨m, by go_num, by omega, by trivial, HM2⟩
                case measure => first | (simp [intOf]; done) | (simp [intOf]; omega)
        · have kb : (k != 9) = true := by simp [hk]
          have HN : Hid (¬ Gr.stp L bd (j + 1)) := Lib.hid (by
            rw [Gr.stp_step HVj.out]
            rintro (h | ⟨h, _⟩)
            · exact HK.out h
            · exact hk h)
          clear hk
          go_wp2_with fail
          go_roundw
          case rel => exact ⟨j + 1, by go_num, by omega, HN, HB⟩
          case measure => simp [intOf]; omega
      · obtain rfl : j = len := by omega
        have i1 : ¬ (j : Int) < (j : Int) := by omega
        obtain rfl : false = rr := by
          cases hq : rr with
          | false => rfl
          | true => exact absurd (HL.out.2.2.1 hq (by simp)) HK.out
        go_wp2_with fail
        go_ret
        exact ⟨rfl, HB.out⟩
end Go.Proofs.Ytdchedkhlfmpeaa
/- Grace: the document on Bound. -/
namespace Go.Proofs.Ytdchedkhlfmpeaa
open Go.ChangeShapes Go.WideShapes Go.ChangeAt Go.RowKit
set_option linter.unusedSimpArgs false
set_option linter.unusedVariables false

set_option maxRecDepth 20000 in
set_option maxHeartbeats 16000000 in
theorem rg_bound (l r i o q v each : Int) (he : each ≤ 9223372036854775807) (a : Option Addr) (len cap : Nat) (L : List Ev) (hl : L.length = len) (hlm : len ≤ 100000) (t : Int) (ht : t ≤ 9223372036854775807) (ok : Bool) (hb : Gr.beg L = (t, ok)) (u : Int) (hu : Co.untl l r i o q v t each = u) (c : Int) (hc : Ev.clock L = c) (bb0 : Int) (okb : Bool)
    (hres : (if ok = true ∧ Co.goodB l r i o q v = true ∧ ¬ each < 1 ∧ ¬ u = 9223372036854775807 ∧ ¬ c < u then (u, true) else ((0 : Int), false)) = (bb0, okb)) (w : World) (HE : EL w a L) :
    Calls Try.prog 22 #[.agg #[.int .i64 l, .int .i64 r, .int .i64 i, .int .i64 o, .int .i64 q, .int .i64 v], .slice a len cap, .int .i64 each] w fun e w' => e = .returned (.tuple #[.int .i64 bb0, .bool okb]) ∧ Below w.heap.size w w' := by
  obtain ⟨X, hX⟩ : ∃ X, w.heap.size = X := ⟨_, rfl⟩
  have H0 : Hid (Blk (w.alloc (.cells #[.int .i64 l, .int .i64 r, .int .i64 i, .int .i64 o, .int .i64 q, .int .i64 v] 54)) X [.int .i64 l, .int .i64 r, .int .i64 i, .int .i64 o, .int .i64 q, .int .i64 v] 54 ∧ EL (w.alloc (.cells #[.int .i64 l, .int .i64 r, .int .i64 i, .int .i64 o, .int .i64 q, .int .i64 v] 54)) a L ∧ Below w.heap.size w (w.alloc (.cells #[.int .i64 l, .int .i64 r, .int .i64 i, .int .i64 o, .int .i64 q, .int .i64 v] 54)) ∧ X < (w.alloc (.cells #[.int .i64 l, .int .i64 r, .int .i64 i, .int .i64 o, .int .i64 q, .int .i64 v] 54)).heap.size) := Lib.hid (by
    have b1 := Blk.newA w #[.int .i64 l, .int .i64 r, .int .i64 i, .int .i64 o, .int .i64 q, .int .i64 v] 54
    rw [hX] at b1
    exact ⟨b1, HE.below ((Below.refl _ _).alloc (Nat.le_refl _) _), (Below.refl _ _).alloc (Nat.le_refl _) _, b1.lt⟩)
  have hlm2 : len ≤ maxLen := by unfold maxLen; omega
  obtain ⟨f, hf⟩ : ∃ f, Gr.fst 7 L = f := ⟨_, rfl⟩
  have hx := Gr.fst_idx 7 L
  have hfl := Gr.fst_le 7 L
  rw [hf, hl] at hx
  rw [hf, hl] at hfl
  unfold Gr.beg at hb
  rw [hf] at hb
  have HL := Lib.hid (And.intro hl HE)
  have HU := Lib.hid hu
  have HCK := Lib.hid hc
  have HRES := Lib.hid hres
  clear hf hu hc hres HE
  by_cases h : f < len
  · rw [if_pos h] at hx
    have HF := Lib.hid hx
    have HAE := Lib.hid HL.out.2
    obtain ⟨k2, i2, n2, t2, b2, e2, s02, s12, s22, s32, s42, s52, es⟩ : ∃ k2 i2 n2 t2 b2 e2 s02 s12 s22 s32 s42 s52, L[f]? = some ⟨k2, i2, n2, t2, b2, e2, s02, s12, s22, s32, s42, s52⟩ := ⟨_, _, _, _, _, _, _, _, _, _, _, _, List.getElem?_eq_getElem (by rw [HL.out.1]; omega)⟩
    obtain ⟨hbb, gg, oo, rfl, hgw, f0, f1, f2, f3, f4, f5, f6, f7, f8, f9, f10, f11⟩ := HAE.out.get es
    have HV := Lib.hid es
    rw [HV.out] at hb
    injection hb with hb1 hb2
    subst hb1 hb2
    clear es f0 f1 f2 f3 f4 f5 f6 f7 f8 f9 f10 f11 hgw hbb hx hl
    have i0 : ¬ (f : Int) < 0 := by omega
    have i9 : (0 : Int) ≤ (f : Int) := by omega
    have i1 : (f : Int) < (len : Int) := by omega
    cases hg : Co.goodB l r i o q v with
    | false =>
      have HG := Lib.hid hg
      clear hg
      have HR : Hid (0 = bb0 ∧ false = okb) := Lib.hid (by
        have h := HRES.out
        rw [if_neg (by rw [HG.out]; simp)] at h
        injection h with h1 h2
        exact ⟨h1, h2⟩)
      go_enter Try.func22, Try.ntmps22
      go_upto_region 1 with fail
      revert H0
      generalize (w.alloc (.cells #[.int .i64 l, .int .i64 r, .int .i64 i, .int .i64 o, .int .i64 q, .int .i64 v] 54)) = W0
      intro H0
      have HA := H0
      clear H0
      go_wp2_with (first
        | (go_at_call 24; (with_reducible refine (rg_first _ len cap L HL.out.1 (by omega) 7 f HF.out _ HA.out.2.1).mono ?_); rintro r4 W1 ⟨rfl, bb⟩; have HB1 : Hid (Blk W1 X [.int .i64 l, .int .i64 r, .int .i64 i, .int .i64 o, .int .i64 q, .int .i64 v] 54 ∧ EL W1 (some ⟨gg, oo, none⟩) L ∧ Below w.heap.size w W1 ∧ X < W1.heap.size) := Lib.hid ⟨HA.out.1.chg (l := []) (Chg.of_fresh bb) (by simp), HA.out.2.1.below bb, HA.out.2.2.1.trans (bb.mono HA.out.2.2.1.size), Nat.lt_of_lt_of_le HA.out.2.2.2 bb.size⟩; have hb1s0 := HB1.out.1.cell (i := 0) rfl; have hb1s1 := HB1.out.1.cell (i := 1) rfl; have hb1s2 := HB1.out.1.cell (i := 2) rfl; have hb1s3 := HB1.out.1.cell (i := 3) rfl; have hb1s4 := HB1.out.1.cell (i := 4) rfl; have hb1s5 := HB1.out.1.cell (i := 5) rfl; clear bb HA)
        | (go_at_call 49; (with_reducible refine (rgood_any l r i o q v _).mono ?_); rintro r4 W2 ⟨rfl, bb⟩; have HC1 : Hid (Blk W2 X [.int .i64 l, .int .i64 r, .int .i64 i, .int .i64 o, .int .i64 q, .int .i64 v] 54 ∧ EL W2 (some ⟨gg, oo, none⟩) L ∧ Below w.heap.size w W2 ∧ X < W2.heap.size) := Lib.hid ⟨HB1.out.1.chg (l := []) (Chg.of_fresh bb) (by simp), HB1.out.2.1.below bb, HB1.out.2.2.1.trans (bb.mono HB1.out.2.2.1.size), Nat.lt_of_lt_of_le HB1.out.2.2.2 bb.size⟩; have hc1s0 := HC1.out.1.cell (i := 0) rfl; have hc1s1 := HC1.out.1.cell (i := 1) rfl; have hc1s2 := HC1.out.1.cell (i := 2) rfl; have hc1s3 := HC1.out.1.cell (i := 3) rfl; have hc1s4 := HC1.out.1.cell (i := 4) rfl; have hc1s5 := HC1.out.1.cell (i := 5) rfl; clear bb HB1; clear hb1s0 hb1s1 hb1s2 hb1s3 hb1s4 hb1s5; rw [HG.out]))
      go_ret2
      obtain ⟨rfl, rfl⟩ := HR.out
      exact ⟨rfl, HC1.out.2.2.1⟩
    | true =>
      have HG := Lib.hid hg
      clear hg
      by_cases h1 : each < 1
      · have HR : Hid (0 = bb0 ∧ false = okb) := Lib.hid (by
          have h := HRES.out
          rw [if_neg (fun h => h.2.2.1 h1)] at h
          injection h with h1 h2
          exact ⟨h1, h2⟩)
        go_enter Try.func22, Try.ntmps22
        go_upto_region 1 with fail
        revert H0
        generalize (w.alloc (.cells #[.int .i64 l, .int .i64 r, .int .i64 i, .int .i64 o, .int .i64 q, .int .i64 v] 54)) = W0
        intro H0
        have HA := H0
        clear H0
        go_wp2_with (first
          | (go_at_call 24; (with_reducible refine (rg_first _ len cap L HL.out.1 (by omega) 7 f HF.out _ HA.out.2.1).mono ?_); rintro r4 W1 ⟨rfl, bb⟩; have HB1 : Hid (Blk W1 X [.int .i64 l, .int .i64 r, .int .i64 i, .int .i64 o, .int .i64 q, .int .i64 v] 54 ∧ EL W1 (some ⟨gg, oo, none⟩) L ∧ Below w.heap.size w W1 ∧ X < W1.heap.size) := Lib.hid ⟨HA.out.1.chg (l := []) (Chg.of_fresh bb) (by simp), HA.out.2.1.below bb, HA.out.2.2.1.trans (bb.mono HA.out.2.2.1.size), Nat.lt_of_lt_of_le HA.out.2.2.2 bb.size⟩; have hb1s0 := HB1.out.1.cell (i := 0) rfl; have hb1s1 := HB1.out.1.cell (i := 1) rfl; have hb1s2 := HB1.out.1.cell (i := 2) rfl; have hb1s3 := HB1.out.1.cell (i := 3) rfl; have hb1s4 := HB1.out.1.cell (i := 4) rfl; have hb1s5 := HB1.out.1.cell (i := 5) rfl; clear bb HA)
          | (go_at_call 49; (with_reducible refine (rgood_any l r i o q v _).mono ?_); rintro r4 W2 ⟨rfl, bb⟩; have HC1 : Hid (Blk W2 X [.int .i64 l, .int .i64 r, .int .i64 i, .int .i64 o, .int .i64 q, .int .i64 v] 54 ∧ EL W2 (some ⟨gg, oo, none⟩) L ∧ Below w.heap.size w W2 ∧ X < W2.heap.size) := Lib.hid ⟨HB1.out.1.chg (l := []) (Chg.of_fresh bb) (by simp), HB1.out.2.1.below bb, HB1.out.2.2.1.trans (bb.mono HB1.out.2.2.1.size), Nat.lt_of_lt_of_le HB1.out.2.2.2 bb.size⟩; have hc1s0 := HC1.out.1.cell (i := 0) rfl; have hc1s1 := HC1.out.1.cell (i := 1) rfl; have hc1s2 := HC1.out.1.cell (i := 2) rfl; have hc1s3 := HC1.out.1.cell (i := 3) rfl; have hc1s4 := HC1.out.1.cell (i := 4) rfl; have hc1s5 := HC1.out.1.cell (i := 5) rfl; clear bb HB1; clear hb1s0 hb1s1 hb1s2 hb1s3 hb1s4 hb1s5; rw [HG.out]))
        go_ret2
        obtain ⟨rfl, rfl⟩ := HR.out
        exact ⟨rfl, HC1.out.2.2.1⟩
      · by_cases h2 : u = 9223372036854775807
        · have HR : Hid (0 = bb0 ∧ false = okb) := Lib.hid (by
            have h := HRES.out
            rw [if_neg (fun h => h.2.2.2.1 h2)] at h
            injection h with h1 h2
            exact ⟨h1, h2⟩)
          subst h2
          go_enter Try.func22, Try.ntmps22
          go_upto_region 1 with fail
          revert H0
          generalize (w.alloc (.cells #[.int .i64 l, .int .i64 r, .int .i64 i, .int .i64 o, .int .i64 q, .int .i64 v] 54)) = W0
          intro H0
          have HA := H0
          clear H0
          go_upto_region 4 with (first
            | (go_at_call 24; (with_reducible refine (rg_first _ len cap L HL.out.1 (by omega) 7 f HF.out _ HA.out.2.1).mono ?_); rintro r4 W1 ⟨rfl, bb⟩; have HB1 : Hid (Blk W1 X [.int .i64 l, .int .i64 r, .int .i64 i, .int .i64 o, .int .i64 q, .int .i64 v] 54 ∧ EL W1 (some ⟨gg, oo, none⟩) L ∧ Below w.heap.size w W1 ∧ X < W1.heap.size) := Lib.hid ⟨HA.out.1.chg (l := []) (Chg.of_fresh bb) (by simp), HA.out.2.1.below bb, HA.out.2.2.1.trans (bb.mono HA.out.2.2.1.size), Nat.lt_of_lt_of_le HA.out.2.2.2 bb.size⟩; have hb1s0 := HB1.out.1.cell (i := 0) rfl; have hb1s1 := HB1.out.1.cell (i := 1) rfl; have hb1s2 := HB1.out.1.cell (i := 2) rfl; have hb1s3 := HB1.out.1.cell (i := 3) rfl; have hb1s4 := HB1.out.1.cell (i := 4) rfl; have hb1s5 := HB1.out.1.cell (i := 5) rfl; clear bb HA)
            | (go_at_call 49; (with_reducible refine (rgood_any l r i o q v _).mono ?_); rintro r4 W2 ⟨rfl, bb⟩; have HC1 : Hid (Blk W2 X [.int .i64 l, .int .i64 r, .int .i64 i, .int .i64 o, .int .i64 q, .int .i64 v] 54 ∧ EL W2 (some ⟨gg, oo, none⟩) L ∧ Below w.heap.size w W2 ∧ X < W2.heap.size) := Lib.hid ⟨HB1.out.1.chg (l := []) (Chg.of_fresh bb) (by simp), HB1.out.2.1.below bb, HB1.out.2.2.1.trans (bb.mono HB1.out.2.2.1.size), Nat.lt_of_lt_of_le HB1.out.2.2.2 bb.size⟩; have hc1s0 := HC1.out.1.cell (i := 0) rfl; have hc1s1 := HC1.out.1.cell (i := 1) rfl; have hc1s2 := HC1.out.1.cell (i := 2) rfl; have hc1s3 := HC1.out.1.cell (i := 3) rfl; have hc1s4 := HC1.out.1.cell (i := 4) rfl; have hc1s5 := HC1.out.1.cell (i := 5) rfl; clear bb HB1; clear hb1s0 hb1s1 hb1s2 hb1s3 hb1s4 hb1s5; rw [HG.out]))
          refine wp_region_class (fun w' => Below W2.heap.size W2 w') (by kernel_rfl) (by kernel_rfl) (Below.refl _ _).drew ?_
          repeat (first
            | go_big_quiet_skip
            | (go_big_quiet_want
               unfold Oper.quiet
               apply Exists.intro
               refine ⟨fun wq hwq => ?_, ?_⟩
               · (
                  obtain ⟨xb, gg3, oo3, hga3, xw, q0, q1, q2, q3, q4, q5, q6, q7, q8, q9, q10, q11⟩ := (HC1.out.2.1.below hwq).get HV.out
                  injection hga3 with hga3
                  injection hga3 with hga31 hga32
                  subst hga31 hga32
                  have HSq := HC1.out.1.chg (l := []) (Chg.of_fresh hwq) (by simp)
                  have y0 := HSq.cell (i := 0) rfl
                  have y1 := HSq.cell (i := 1) rfl
                  have y2 := HSq.cell (i := 2) rfl
                  have y3 := HSq.cell (i := 3) rfl
                  have y4 := HSq.cell (i := 4) rfl
                  have y5 := HSq.cell (i := 5) rfl
                  clear q0 q1 q2 q4 q5 q6 q7 q8 q9 q10 q11
                  unfold Oper.quietAt
                  go_simp
                  first
                    | exact ⟨rfl, hwq⟩
                    | exact rfl
                    | (go_at_call 50; refine (runtil_any l r i o q v t2 each ht he _).mono ?_; rintro e w3 ⟨he, hb⟩; exact ⟨he, hwq.trans (hb.mono hwq.size)⟩)
                  )
               simp only [Act.put, List.setIfInBounds_toArray, List.set_cons_zero, List.set_cons_succ]
               go_big_quiet_on))
          refine wpQuiet_nil ?_
          intro w4 hw4
          rw [HU.out]
          have HE1 : Hid (Blk w4 X [.int .i64 l, .int .i64 r, .int .i64 i, .int .i64 o, .int .i64 q, .int .i64 v] 54 ∧ EL w4 (some ⟨gg, oo, none⟩) L ∧ Below w.heap.size w w4 ∧ X < w4.heap.size) := Lib.hid ⟨HC1.out.1.chg (l := []) (Chg.of_fresh hw4) (by simp), HC1.out.2.1.below hw4, HC1.out.2.2.1.trans (hw4.mono HC1.out.2.2.1.size), Nat.lt_of_lt_of_le HC1.out.2.2.2 hw4.size⟩
          clear hw4
          go_wp2_with fail
          go_ret2
          obtain ⟨rfl, rfl⟩ := HR.out
          exact ⟨rfl, HE1.out.2.2.1⟩
        · have u1 : (u == 9223372036854775807) = false := by simp [h2]
          by_cases h3 : c < u
          · have HR : Hid (0 = bb0 ∧ false = okb) := Lib.hid (by
              have h := HRES.out
              rw [if_neg (fun h => h.2.2.2.2 h3)] at h
              injection h with h1 h2
              exact ⟨h1, h2⟩)
            go_enter Try.func22, Try.ntmps22
            go_upto_region 1 with fail
            revert H0
            generalize (w.alloc (.cells #[.int .i64 l, .int .i64 r, .int .i64 i, .int .i64 o, .int .i64 q, .int .i64 v] 54)) = W0
            intro H0
            have HA := H0
            clear H0
            go_upto_region 4 with (first
              | (go_at_call 24; (with_reducible refine (rg_first _ len cap L HL.out.1 (by omega) 7 f HF.out _ HA.out.2.1).mono ?_); rintro r4 W1 ⟨rfl, bb⟩; have HB1 : Hid (Blk W1 X [.int .i64 l, .int .i64 r, .int .i64 i, .int .i64 o, .int .i64 q, .int .i64 v] 54 ∧ EL W1 (some ⟨gg, oo, none⟩) L ∧ Below w.heap.size w W1 ∧ X < W1.heap.size) := Lib.hid ⟨HA.out.1.chg (l := []) (Chg.of_fresh bb) (by simp), HA.out.2.1.below bb, HA.out.2.2.1.trans (bb.mono HA.out.2.2.1.size), Nat.lt_of_lt_of_le HA.out.2.2.2 bb.size⟩; have hb1s0 := HB1.out.1.cell (i := 0) rfl; have hb1s1 := HB1.out.1.cell (i := 1) rfl; have hb1s2 := HB1.out.1.cell (i := 2) rfl; have hb1s3 := HB1.out.1.cell (i := 3) rfl; have hb1s4 := HB1.out.1.cell (i := 4) rfl; have hb1s5 := HB1.out.1.cell (i := 5) rfl; clear bb HA)
              | (go_at_call 49; (with_reducible refine (rgood_any l r i o q v _).mono ?_); rintro r4 W2 ⟨rfl, bb⟩; have HC1 : Hid (Blk W2 X [.int .i64 l, .int .i64 r, .int .i64 i, .int .i64 o, .int .i64 q, .int .i64 v] 54 ∧ EL W2 (some ⟨gg, oo, none⟩) L ∧ Below w.heap.size w W2 ∧ X < W2.heap.size) := Lib.hid ⟨HB1.out.1.chg (l := []) (Chg.of_fresh bb) (by simp), HB1.out.2.1.below bb, HB1.out.2.2.1.trans (bb.mono HB1.out.2.2.1.size), Nat.lt_of_lt_of_le HB1.out.2.2.2 bb.size⟩; have hc1s0 := HC1.out.1.cell (i := 0) rfl; have hc1s1 := HC1.out.1.cell (i := 1) rfl; have hc1s2 := HC1.out.1.cell (i := 2) rfl; have hc1s3 := HC1.out.1.cell (i := 3) rfl; have hc1s4 := HC1.out.1.cell (i := 4) rfl; have hc1s5 := HC1.out.1.cell (i := 5) rfl; clear bb HB1; clear hb1s0 hb1s1 hb1s2 hb1s3 hb1s4 hb1s5; rw [HG.out]))
            refine wp_region_class (fun w' => Below W2.heap.size W2 w') (by kernel_rfl) (by kernel_rfl) (Below.refl _ _).drew ?_
            repeat (first
              | go_big_quiet_skip
              | (go_big_quiet_want
                 unfold Oper.quiet
                 apply Exists.intro
                 refine ⟨fun wq hwq => ?_, ?_⟩
                 · (
                    obtain ⟨xb, gg3, oo3, hga3, xw, q0, q1, q2, q3, q4, q5, q6, q7, q8, q9, q10, q11⟩ := (HC1.out.2.1.below hwq).get HV.out
                    injection hga3 with hga3
                    injection hga3 with hga31 hga32
                    subst hga31 hga32
                    have HSq := HC1.out.1.chg (l := []) (Chg.of_fresh hwq) (by simp)
                    have y0 := HSq.cell (i := 0) rfl
                    have y1 := HSq.cell (i := 1) rfl
                    have y2 := HSq.cell (i := 2) rfl
                    have y3 := HSq.cell (i := 3) rfl
                    have y4 := HSq.cell (i := 4) rfl
                    have y5 := HSq.cell (i := 5) rfl
                    clear q0 q1 q2 q4 q5 q6 q7 q8 q9 q10 q11
                    unfold Oper.quietAt
                    go_simp
                    first
                      | exact ⟨rfl, hwq⟩
                      | exact rfl
                      | (go_at_call 50; refine (runtil_any l r i o q v t2 each ht he _).mono ?_; rintro e w3 ⟨he, hb⟩; exact ⟨he, hwq.trans (hb.mono hwq.size)⟩)
                    )
                 simp only [Act.put, List.setIfInBounds_toArray, List.set_cons_zero, List.set_cons_succ]
                 go_big_quiet_on))
            refine wpQuiet_nil ?_
            intro w4 hw4
            rw [HU.out]
            have HE1 : Hid (Blk w4 X [.int .i64 l, .int .i64 r, .int .i64 i, .int .i64 o, .int .i64 q, .int .i64 v] 54 ∧ EL w4 (some ⟨gg, oo, none⟩) L ∧ Below w.heap.size w w4 ∧ X < w4.heap.size) := Lib.hid ⟨HC1.out.1.chg (l := []) (Chg.of_fresh hw4) (by simp), HC1.out.2.1.below hw4, HC1.out.2.2.1.trans (hw4.mono HC1.out.2.2.1.size), Nat.lt_of_lt_of_le HC1.out.2.2.2 hw4.size⟩
            clear hw4
            go_wp2_with (first
              | (go_at_call 51; (with_reducible refine (rg_last _ len cap L HL.out.1 hlm2 c HCK.out _ HE1.out.2.1).mono ?_); rintro r4 W5 ⟨rfl, rfl⟩))
            go_ret2
            obtain ⟨rfl, rfl⟩ := HR.out
            exact ⟨rfl, HE1.out.2.2.1⟩
          · have HR : Hid (u = bb0 ∧ true = okb) := Lib.hid (by
              have h := HRES.out
              rw [if_pos ⟨rfl, HG.out, h1, h2, h3⟩] at h
              injection h with h1 h2
              exact ⟨h1, h2⟩)
            go_enter Try.func22, Try.ntmps22
            go_upto_region 1 with fail
            revert H0
            generalize (w.alloc (.cells #[.int .i64 l, .int .i64 r, .int .i64 i, .int .i64 o, .int .i64 q, .int .i64 v] 54)) = W0
            intro H0
            have HA := H0
            clear H0
            go_upto_region 4 with (first
              | (go_at_call 24; (with_reducible refine (rg_first _ len cap L HL.out.1 (by omega) 7 f HF.out _ HA.out.2.1).mono ?_); rintro r4 W1 ⟨rfl, bb⟩; have HB1 : Hid (Blk W1 X [.int .i64 l, .int .i64 r, .int .i64 i, .int .i64 o, .int .i64 q, .int .i64 v] 54 ∧ EL W1 (some ⟨gg, oo, none⟩) L ∧ Below w.heap.size w W1 ∧ X < W1.heap.size) := Lib.hid ⟨HA.out.1.chg (l := []) (Chg.of_fresh bb) (by simp), HA.out.2.1.below bb, HA.out.2.2.1.trans (bb.mono HA.out.2.2.1.size), Nat.lt_of_lt_of_le HA.out.2.2.2 bb.size⟩; have hb1s0 := HB1.out.1.cell (i := 0) rfl; have hb1s1 := HB1.out.1.cell (i := 1) rfl; have hb1s2 := HB1.out.1.cell (i := 2) rfl; have hb1s3 := HB1.out.1.cell (i := 3) rfl; have hb1s4 := HB1.out.1.cell (i := 4) rfl; have hb1s5 := HB1.out.1.cell (i := 5) rfl; clear bb HA)
              | (go_at_call 49; (with_reducible refine (rgood_any l r i o q v _).mono ?_); rintro r4 W2 ⟨rfl, bb⟩; have HC1 : Hid (Blk W2 X [.int .i64 l, .int .i64 r, .int .i64 i, .int .i64 o, .int .i64 q, .int .i64 v] 54 ∧ EL W2 (some ⟨gg, oo, none⟩) L ∧ Below w.heap.size w W2 ∧ X < W2.heap.size) := Lib.hid ⟨HB1.out.1.chg (l := []) (Chg.of_fresh bb) (by simp), HB1.out.2.1.below bb, HB1.out.2.2.1.trans (bb.mono HB1.out.2.2.1.size), Nat.lt_of_lt_of_le HB1.out.2.2.2 bb.size⟩; have hc1s0 := HC1.out.1.cell (i := 0) rfl; have hc1s1 := HC1.out.1.cell (i := 1) rfl; have hc1s2 := HC1.out.1.cell (i := 2) rfl; have hc1s3 := HC1.out.1.cell (i := 3) rfl; have hc1s4 := HC1.out.1.cell (i := 4) rfl; have hc1s5 := HC1.out.1.cell (i := 5) rfl; clear bb HB1; clear hb1s0 hb1s1 hb1s2 hb1s3 hb1s4 hb1s5; rw [HG.out]))
            refine wp_region_class (fun w' => Below W2.heap.size W2 w') (by kernel_rfl) (by kernel_rfl) (Below.refl _ _).drew ?_
            repeat (first
              | go_big_quiet_skip
              | (go_big_quiet_want
                 unfold Oper.quiet
                 apply Exists.intro
                 refine ⟨fun wq hwq => ?_, ?_⟩
                 · (
                    obtain ⟨xb, gg3, oo3, hga3, xw, q0, q1, q2, q3, q4, q5, q6, q7, q8, q9, q10, q11⟩ := (HC1.out.2.1.below hwq).get HV.out
                    injection hga3 with hga3
                    injection hga3 with hga31 hga32
                    subst hga31 hga32
                    have HSq := HC1.out.1.chg (l := []) (Chg.of_fresh hwq) (by simp)
                    have y0 := HSq.cell (i := 0) rfl
                    have y1 := HSq.cell (i := 1) rfl
                    have y2 := HSq.cell (i := 2) rfl
                    have y3 := HSq.cell (i := 3) rfl
                    have y4 := HSq.cell (i := 4) rfl
                    have y5 := HSq.cell (i := 5) rfl
                    clear q0 q1 q2 q4 q5 q6 q7 q8 q9 q10 q11
                    unfold Oper.quietAt
                    go_simp
                    first
                      | exact ⟨rfl, hwq⟩
                      | exact rfl
                      | (go_at_call 50; refine (runtil_any l r i o q v t2 each ht he _).mono ?_; rintro e w3 ⟨he, hb⟩; exact ⟨he, hwq.trans (hb.mono hwq.size)⟩)
                    )
                 simp only [Act.put, List.setIfInBounds_toArray, List.set_cons_zero, List.set_cons_succ]
                 go_big_quiet_on))
            refine wpQuiet_nil ?_
            intro w4 hw4
            rw [HU.out]
            have HE1 : Hid (Blk w4 X [.int .i64 l, .int .i64 r, .int .i64 i, .int .i64 o, .int .i64 q, .int .i64 v] 54 ∧ EL w4 (some ⟨gg, oo, none⟩) L ∧ Below w.heap.size w w4 ∧ X < w4.heap.size) := Lib.hid ⟨HC1.out.1.chg (l := []) (Chg.of_fresh hw4) (by simp), HC1.out.2.1.below hw4, HC1.out.2.2.1.trans (hw4.mono HC1.out.2.2.1.size), Nat.lt_of_lt_of_le HC1.out.2.2.2 hw4.size⟩
            clear hw4
            go_wp2_with (first
              | (go_at_call 51; (with_reducible refine (rg_last _ len cap L HL.out.1 hlm2 c HCK.out _ HE1.out.2.1).mono ?_); rintro r4 W5 ⟨rfl, rfl⟩))
            go_ret2
            obtain ⟨rfl, rfl⟩ := HR.out
            exact ⟨rfl, HE1.out.2.2.1⟩
  · rw [if_neg h] at hx
    have HF := Lib.hid hx
    rw [List.getElem?_eq_none (by omega)] at hb
    injection hb with hb1 hb2
    subst hb1 hb2
    clear hx hl
    have HR : Hid (0 = bb0 ∧ false = okb) := Lib.hid (by
      have h := HRES.out
      rw [if_neg (by simp)] at h
      injection h with h1 h2
      exact ⟨h1, h2⟩)
    go_enter Try.func22, Try.ntmps22
    go_upto_region 1 with fail
    revert H0
    generalize (w.alloc (.cells #[.int .i64 l, .int .i64 r, .int .i64 i, .int .i64 o, .int .i64 q, .int .i64 v] 54)) = W0
    intro H0
    have HA := H0
    clear H0
    go_wp2_with (first
      | (go_at_call 24; (with_reducible refine (rg_first _ len cap L HL.out.1 (by omega) 7 (-1) HF.out _ HA.out.2.1).mono ?_); rintro r4 W1 ⟨rfl, bb⟩; have HB1 : Hid (Blk W1 X [.int .i64 l, .int .i64 r, .int .i64 i, .int .i64 o, .int .i64 q, .int .i64 v] 54 ∧ EL W1 a L ∧ Below w.heap.size w W1 ∧ X < W1.heap.size) := Lib.hid ⟨HA.out.1.chg (l := []) (Chg.of_fresh bb) (by simp), HA.out.2.1.below bb, HA.out.2.2.1.trans (bb.mono HA.out.2.2.1.size), Nat.lt_of_lt_of_le HA.out.2.2.2 bb.size⟩; have hb1s0 := HB1.out.1.cell (i := 0) rfl; have hb1s1 := HB1.out.1.cell (i := 1) rfl; have hb1s2 := HB1.out.1.cell (i := 2) rfl; have hb1s3 := HB1.out.1.cell (i := 3) rfl; have hb1s4 := HB1.out.1.cell (i := 4) rfl; have hb1s5 := HB1.out.1.cell (i := 5) rfl; clear bb HA))
    go_ret2
    obtain ⟨rfl, rfl⟩ := HR.out
    exact ⟨rfl, HB1.out.2.2.1⟩
end Go.Proofs.Ytdchedkhlfmpeaa
/- Grace: the document's numbers, and where they lie. -/
namespace Go.Proofs.Ytdchedkhlfmpeaa
open Go.ChangeShapes Go.WideShapes Go.ChangeAt Go.RowKit
set_option linter.unusedSimpArgs false
set_option linter.unusedVariables false

set_option maxRecDepth 20000 in
set_option maxHeartbeats 16000000 in
theorem rf_ids2 (a : Option Addr) (len cap : Nat) (L : List Ev) (hl : L.length = len) (hlm : len ≤ 100000) (D0 : List Int) (hD : Ev.ids L = D0) (n0 : Nat) (hn : D0.length = n0) (w : World) (HE : EL w a L) :
    Calls Try.prog 14 #[.slice a len cap] w fun e w' => ∃ r c, e = .returned (.slice r n0 c) ∧ RI w' r D0 ∧ (∀ g ∈ rvB r, w.heap.size ≤ g) ∧ Below w.heap.size w w' := by
  have HL := Lib.hid (And.intro hl (And.intro HE (And.intro hD hn)))
  clear hl HE hD hn
  have H0 : Hid (RM (w.alloc (.cells #[] 3)) w.heap.size (some ⟨w.heap.size, 0, none⟩) 0 0 1 ((Ev.ids (L.take 0)).map (Value.int .i64)) 3 ∧ Below w.heap.size w (w.alloc (.cells #[] 3))) := Lib.hid (by
    have h := KR.new w w (Below.refl _ _)
    rw [List.take_zero]
    exact ⟨h.2.1, h.1⟩)
  go_enter Try.func14, Try.ntmps14
  go_upto_region 2 with fail
  revert H0
  generalize (w.alloc (.cells #[] 3)) = V
  intro H0
  go_wp2_with fail
  go_loopw [3, 4] (fun o z wr => ∃ (j nd c go : Nat), o = .slice (some ⟨go, 0, none⟩) nd c ∧ z = .int .i64 j ∧ j ≤ len ∧ nd ≤ j ∧ nd ≤ c ∧ Hid (RM wr w.heap.size (some ⟨go, 0, none⟩) nd c 1 ((Ev.ids (L.take j)).map (Value.int .i64)) 3 ∧ Below w.heap.size w wr)) (fun _ z _ => len - (intOf z).toNat)
  case atStart => exact ⟨0, 0, 0, _, rfl, rfl, by omega, by omega, by omega, H0⟩
  case round =>
    clear H0
    obtain ⟨j, nd, c, go, rfl, rfl, hj, hnj, hnc, HB⟩ := hrel
    have j0 : (0 : Int) ≤ (j : Int) := by omega
    by_cases hjl : j < len
    · have i1 : (j : Int) < (len : Int) := by omega
      have w1 : IntKind.i64.wrap ((j : Int) + 1) = (j : Int) + 1 := IntWalk.i64_in _ (by omega)
      obtain ⟨k, i, n, t, b, e, s0, s1, s2, s3, s4, s5, es⟩ : ∃ k i n t b e s0 s1 s2 s3 s4 s5, L[j]? = some ⟨k, i, n, t, b, e, s0, s1, s2, s3, s4, s5⟩ := ⟨_, _, _, _, _, _, _, _, _, _, _, _, List.getElem?_eq_getElem (by rw [HL.out.1]; exact hjl)⟩
      obtain ⟨hb, ga, o, rfl, hgw, e0, e1, e2, e3, e4, e5, e6, e7, e8, e9, e10, e11⟩ := (HL.out.2.1.below HB.out.2).get es
      obtain ⟨D, hDD⟩ : ∃ D, Ev.ids (L.take j) = D := ⟨_, rfl⟩
      have HS : Hid (Ev.ids (L.take (j + 1)) = if k = 2 then insD i D else D) := Lib.hid (by rw [take_snocE es, Ev.ids_snoc, ← hDD])
      rw [hDD] at HB
      have hDn : Hid (D.length = nd) := Lib.hid (by have := HB.out.1.1; rw [List.length_map] at this; omega)
      clear es hDD hb e2 e3 e4 e5 e6 e7 e8 e9 e10 e11
      by_cases h2 : k = 2
      · subst h2
        have HS2 : Hid (Ev.ids (L.take (j + 1)) = insD i D) := Lib.hid (by simpa using HS.out)
        go_upto_region 6 with fail
        have HE1 : Hid (wr.cell? ⟨ga, o + j * 12 + 1, none⟩ = some (.int .i64 i)) := Lib.hid e1
        clear e0 e1
        go_wp2_with fail
        obtain ⟨WO, rfl⟩ : ∃ WO, WO = wr := ⟨_, rfl⟩
        go_loopw [5] (fun z wr => ∃ p : Nat, z = .int .i64 p ∧ p ≤ nd ∧ Hid (Below WO.heap.size WO wr) ∧ Hid (∀ q v, q < p → D[q]? = some v → v < i)) (fun z _ => nd - (intOf z).toNat)
        case atStart => exact ⟨0, rfl, by omega, Lib.hid (Below.refl _ _), Lib.hid (fun q v h => by omega)⟩
        case round =>
          obtain ⟨p, rfl, hp, HY, HK⟩ := hrel
          have p0 : (0 : Int) ≤ (p : Int) := by omega
          have w2 : IntKind.i64.wrap ((p : Int) + 1) = (p : Int) + 1 := IntWalk.i64_in _ (by omega)
          have HC : Hid (∀ W, Below wr.heap.size wr W → W.cell? ⟨ga, o + j * 12 + 1, none⟩ = some (.int .i64 i) ∧ ∀ v, D[p]? = some v → W.cell? ⟨go, p, none⟩ = some (.int .i64 v)) := Lib.hid (fun W hW => by
            have hB2 : Below WO.heap.size WO W := HY.out.trans (hW.mono HY.out.size)
            refine ⟨(hB2.cell (World.block_lt_of_cell? _ _ HE1.out)).trans HE1.out, fun v hv => ?_⟩
            have h := ints_at HB.out.1 hB2 p 0 (.int .i64 v) (by rw [List.getElem?_map, List.getElem?_drop, Nat.add_zero, hv]; rfl)
            rw [Addr.add_lit, Nat.add_zero] at h
            exact h)
          by_cases hpn : p < nd
          · have pi : (p : Int) < (nd : Int) := by omega
            obtain ⟨v, hv⟩ : ∃ v, D[p]? = some v := ⟨_, List.getElem?_eq_getElem (by rw [hDn.out]; exact hpn)⟩
            have HV := Lib.hid hv
            clear hv
            by_cases hvi : v < i
            · have hvb : decide (v < i) = true := by simp [hvi]
              go_upto_region 7 with fail
              refine wp_region_class (fun w' => Below wr.heap.size wr w') (by kernel_rfl) (by kernel_rfl) (Below.refl _ _).drew ?_
              repeat (first
                | go_big_quiet_skip
                | (go_big_quiet_want
                   unfold Oper.quiet
                   apply Exists.intro
                   refine ⟨fun wq hwq => ?_, ?_⟩
                   · (
                      obtain ⟨ce, cv0⟩ := HC.out _ hwq
                      have cv := cv0 v HV.out
                      unfold Oper.quietAt
                      go_simp
                      first
                        | exact ⟨rfl, hwq⟩
                        | exact rfl
                      )
                   simp only [Act.put, List.setIfInBounds_toArray, List.set_cons_zero, List.set_cons_succ]
                   go_big_quiet_on))
              refine wpQuiet_nil ?_
              intro w4 hw4
              have HY2 := Lib.hid (HY.out.trans (hw4.mono HY.out.size))
              clear hw4
              go_wp2_with fail
              go_roundw
              case rel => exact ⟨p + 1, by go_num, by omega, HY2, Lib.hid (fun q u hq hu => by
                by_cases e : q = p
                · rw [e, HV.out] at hu; rw [← Option.some.inj hu]; exact hvi
                · exact HK.out q u (by omega) hu)⟩
              case measure => simp [intOf]; omega
            · have hvb : decide (v < i) = false := by simp; omega
              have HI := Lib.hid (insD_at HK.out (Or.inr ⟨v, HV.out, hvi⟩))
              go_upto_region 7 with fail
              refine wp_region_class (fun w' => Below wr.heap.size wr w') (by kernel_rfl) (by kernel_rfl) (Below.refl _ _).drew ?_
              repeat (first
                | go_big_quiet_skip
                | (go_big_quiet_want
                   unfold Oper.quiet
                   apply Exists.intro
                   refine ⟨fun wq hwq => ?_, ?_⟩
                   · (
                      obtain ⟨ce, cv0⟩ := HC.out _ hwq
                      have cv := cv0 v HV.out
                      unfold Oper.quietAt
                      go_simp
                      first
                        | exact ⟨rfl, hwq⟩
                        | exact rfl
                      )
                   simp only [Act.put, List.setIfInBounds_toArray, List.set_cons_zero, List.set_cons_succ]
                   go_big_quiet_on))
              refine wpQuiet_nil ?_
              intro w4 hw4
              have HY2 := Lib.hid (HY.out.trans (hw4.mono HY.out.size))
              have HC2 : Hid (∀ W, Below w4.heap.size w4 W → W.cell? ⟨ga, o + j * 12 + 1, none⟩ = some (.int .i64 i) ∧ W.cell? ⟨go, p, none⟩ = some (.int .i64 v)) := Lib.hid (fun W hW => by
                have h := HC.out W (hw4.trans (hW.mono hw4.size))
                exact ⟨h.1, h.2 v HV.out⟩)
              clear hw4
              have pne : ((p : Int) == (nd : Int)) = false := by simp; omega
              have pne2 : ¬ p = nd := by omega
              go_upto_region 9 with fail
              by_cases hve : v = i
              · have hveb : (v != i) = false := by simp [hve]
                refine wp_region_class (fun w' => Below w4.heap.size w4 w') (by kernel_rfl) (by kernel_rfl) (Below.refl _ _).drew ?_
                repeat (first
                  | go_big_quiet_skip
                  | (go_big_quiet_want
                     unfold Oper.quiet
                     apply Exists.intro
                     refine ⟨fun wq hwq => ?_, ?_⟩
                     · (
                        obtain ⟨ce, cv⟩ := HC2.out _ hwq
                        unfold Oper.quietAt
                        go_simp
                        first
                          | exact ⟨rfl, hwq⟩
                          | exact rfl
                        )
                     simp only [Act.put, List.setIfInBounds_toArray, List.set_cons_zero, List.set_cons_succ]
                     go_big_quiet_on))
                refine wpQuiet_nil ?_
                intro w5 hw5
                have HY3 := Lib.hid (HY2.out.trans (hw5.mono HY2.out.size))
                clear hw5
                go_wp2_with fail
                go_roundw
                case rel => exact ⟨j + 1, nd, c, go, rfl, by go_num, by omega, by omega, hnc, Lib.hid ⟨by
                  rw [HS2.out]
                  unfold insD
                  rw [HI.out.1, HI.out.2, List.head?_drop, HV.out, hve, if_pos rfl, List.nil_append, List.take_append_drop]
                  exact HB.out.1.chg (Chg.of_fresh (l := []) HY3.out) (by simp), HB.out.2.trans (HY3.out.mono HB.out.2.size)⟩⟩
                case measure => simp [intOf]; omega
              · have hveb : (v != i) = true := by simp [hve]
                refine wp_region_class (fun w' => Below w4.heap.size w4 w') (by kernel_rfl) (by kernel_rfl) (Below.refl _ _).drew ?_
                repeat (first
                  | go_big_quiet_skip
                  | (go_big_quiet_want
                     unfold Oper.quiet
                     apply Exists.intro
                     refine ⟨fun wq hwq => ?_, ?_⟩
                     · (
                        obtain ⟨ce, cv⟩ := HC2.out _ hwq
                        unfold Oper.quietAt
                        go_simp
                        first
                          | exact ⟨rfl, hwq⟩
                          | exact rfl
                        )
                     simp only [Act.put, List.setIfInBounds_toArray, List.set_cons_zero, List.set_cons_succ]
                     go_big_quiet_on))
                refine wpQuiet_nil ?_
                intro w5 hw5
                have HY3 := Lib.hid (HY2.out.trans (hw5.mono HY2.out.size))
                have ce := (HC2.out _ hw5).1
                have HIN : Hid (insD i D = D.take p ++ ([i] ++ D.drop p)) := Lib.hid (by
                  unfold insD
                  rw [HI.out.1, HI.out.2, List.head?_drop]
                  rw [HV.out, if_neg (by intro h; exact hve (Option.some.inj h))])
                have HA : Hid (((D.take p).map (Value.int .i64)).length = p * 1 ∧ RM w5 w.heap.size (some ⟨go, 0, none⟩) nd c 1 (D.map (Value.int .i64)) 3 ∧ ((D.drop p).map (Value.int .i64)).length = (nd - p) * 1) := Lib.hid ⟨by have := hDn.out; rw [List.length_map, List.length_take]; omega, HB.out.1.chg (Chg.of_fresh (l := []) HY3.out) (by simp), by have := hDn.out; rw [List.length_map, List.length_drop]; omega⟩
                have HB5 := Lib.hid (HB.out.2.trans (HY3.out.mono HB.out.2.size))
                clear hw5
                go_upto_region 10 with fail
                have fa1 : (p : Int) ≤ (c : Int) := by omega
                have fa2 : p ≤ c := by omega
                have fa3 : ¬ c = p := by omega
                have fa4 : (p : Int) ≤ (nd : Int) := by omega
                have fa5 : p ≤ nd := by omega
                have ced : w5.drew.cell? ⟨ga, o + j * 12 + 1, none⟩ = some (.int .i64 i) := ce
                have gal : ga < w5.heap.size := World.block_lt_of_cell? _ _ ce
                have ga1 : ¬ ga = w5.heap.size := by omega
                have ga2 : ¬ w5.heap.size = ga := by omega
                go_region_law (first
                  | ((refine step_append_rz rfl (.tmp 53) (.tmp 56) 37 37 rfl 3 (.int .i64 0) 1 8 Try.underlying37 infoInt rfl (by omega) w5.heap.size _ 0 0 [] rfl ((KR.new w5 w5 (Below.refl _ _)).drew).2.1 (Nat.le_refl _) _ rfl p ((D.take p).map (Value.int .i64)) (Src.ofSlice _ Try.underlying37 ⟨go, 0, none⟩ p _ ((D.take p).map (Value.int .i64)) HA.out.1 (ints_at0 HA.out.2.1 ((KR.new w5 w5 (Below.refl _ _)).drew).1 p) (int_one _)) (by omega) (by omega) ?_); intro g5 c5 wA q1 q0 q2 q3; rw [Nat.zero_add] at q1 q0; have HS := Lib.hid (((KR.new w5 w5 (Below.refl _ _)).drew).grow q1 q0 q3); have ceA := (HS.out.1.cell gal).trans ce; have gA : ga < wA.heap.size := Nat.lt_of_lt_of_le gal HS.out.1.size; have gA1 : ¬ ga = wA.heap.size := (by omega); have gA2 : ¬ wA.heap.size = ga := (by omega); clear q0 q1 q2 q3)
                  | ((refine step_append_rz rfl (.tmp 53) (.tmp 56) 37 37 rfl 3 (.int .i64 0) 1 8 Try.underlying37 infoInt rfl (by omega) w5.heap.size _ 0 0 [] rfl (((KR.new w5 w5 (Below.refl _ _)).alloc (.cells #[.int .i64 i] 3)).drew).2.1 (Nat.le_refl _) _ rfl p ((D.take p).map (Value.int .i64)) (Src.ofSlice _ Try.underlying37 ⟨go, 0, none⟩ p _ ((D.take p).map (Value.int .i64)) HA.out.1 (ints_at0 HA.out.2.1 (((KR.new w5 w5 (Below.refl _ _)).alloc (.cells #[.int .i64 i] 3)).drew).1 p) (int_one _)) (by omega) (by omega) ?_); intro g5 c5 wA q1 q0 q2 q3; rw [Nat.zero_add] at q1 q0; have HS := Lib.hid ((((KR.new w5 w5 (Below.refl _ _)).alloc (.cells #[.int .i64 i] 3)).drew).grow q1 q0 q3); have ceA := (HS.out.1.cell gal).trans ce; have gA : ga < wA.heap.size := Nat.lt_of_lt_of_le gal HS.out.1.size; have gA1 : ¬ ga = wA.heap.size := (by omega); have gA2 : ¬ wA.heap.size = ga := (by omega); have bI := Blk.newA (w5.alloc (.cells #[] 3)) #[.int .i64 i] 3; have hI := (bI.drew.chg q3 (by simp)).cell (i := 0) rfl; clear bI; rw [World.size_alloc] at hI; clear q0 q1 q2 q3)
                  | ((refine step_append_rz rfl (.tmp 53) (.tmp 56) 37 37 rfl 3 (.int .i64 0) 1 8 Try.underlying37 infoInt rfl (by omega) w5.heap.size _ 0 0 [] rfl ((KR.new2 w5 (.cells #[.int .i64 i] 3)).drew).2.1 (Nat.le_refl _) _ rfl p ((D.take p).map (Value.int .i64)) (Src.ofSlice _ Try.underlying37 ⟨go, 0, none⟩ p _ ((D.take p).map (Value.int .i64)) HA.out.1 (ints_at0 HA.out.2.1 ((KR.new2 w5 (.cells #[.int .i64 i] 3)).drew).1 p) (int_one _)) (by omega) (by omega) ?_); intro g5 c5 wA q1 q0 q2 q3; rw [Nat.zero_add] at q1 q0; have HS := Lib.hid (((KR.new2 w5 (.cells #[.int .i64 i] 3)).drew).grow q1 q0 q3); have ceA := (HS.out.1.cell gal).trans ce; have gA : ga < wA.heap.size := Nat.lt_of_lt_of_le gal HS.out.1.size; have gA1 : ¬ ga = wA.heap.size := (by omega); have gA2 : ¬ wA.heap.size = ga := (by omega); have bI := (Blk.newA w5 #[.int .i64 i] 3).alloc (.cells #[] 3); have hI := (bI.drew.chg q3 (by simp)).cell (i := 0) rfl; clear bI; clear q0 q1 q2 q3)
                  | (refine step_append_rz rfl (.tmp 57) (.tmp 63) 37 37 rfl 3 (.int .i64 0) 1 8 Try.underlying37 infoInt rfl (by omega) w5.heap.size g5 p c5 _ rfl (HS.out.alloc (.cells #[.int .i64 i] 3)).2.1 HS.out.2.2 _ rfl 1 [.int .i64 i] (Src.ofSlice _ Try.underlying37 ⟨_, 0, none⟩ 1 1 [.int .i64 i] rfl (new_atE _ _ _) (int_one [i])) (by omega) (by omega) ?_; intro g6 c6 wB q1 q0 q2 q3; have HT := Lib.hid ((HS.out.alloc (.cells #[.int .i64 i] 3)).grow q1 q0 q3); clear q0 q1 q2 q3)
                  | (refine step_append_rz rfl (.tmp 57) (.tmp 63) 37 37 rfl 3 (.int .i64 0) 1 8 Try.underlying37 infoInt rfl (by omega) w5.heap.size g5 p c5 _ rfl (HS.out).2.1 HS.out.2.2 _ rfl 1 [.int .i64 i] (Src.ofSlice _ Try.underlying37 ⟨_, 0, none⟩ 1 1 [.int .i64 i] rfl (one_at hI) (int_one [i])) (by omega) (by omega) ?_; intro g6 c6 wB q1 q0 q2 q3; have HT := Lib.hid ((HS.out).grow q1 q0 q3); clear q0 q1 q2 q3)
                  | (refine step_append_rz rfl (.tmp 64) (.tmp 67) 37 37 rfl 3 (.int .i64 0) 1 8 Try.underlying37 infoInt rfl (by omega) w5.heap.size g6 (p + 1) c6 _ rfl HT.out.2.1 HT.out.2.2 _ rfl (nd - p) ((D.drop p).map (Value.int .i64)) (Src.ofSlice _ Try.underlying37 ⟨go, p, none⟩ (nd - p) _ ((D.drop p).map (Value.int .i64)) HA.out.2.2 (ints_at HA.out.2.1 HT.out.1 p) (int_one _)) (by omega) (by omega) ?_; intro g7 c7 wC q1 q0 q2 q3; have HN := Lib.hid (HT.out.grow q1 q0 q3); clear q0 q1 q2 q3)
                )
                all_goals
                  go_wp2_with fail
                  go_roundw
                  case rel => exact ⟨j + 1, p + 1 + (nd - p), c7, g7, by go_num, by go_num, by omega, by omega, HN.out.2.2, Lib.hid ⟨by
                    rw [HS2.out, HIN.out]
                    have h := HN.out.2.1.base_le (B' := w.heap.size) HB5.out.size
                    simpa using h, HB5.out.trans (HN.out.1.mono HB5.out.size)⟩⟩
                  case measure => simp [intOf]; omega
          · obtain rfl : p = nd := by omega
            have pi : ¬ (p : Int) < (p : Int) := by omega
            have HI := Lib.hid (insD_at HK.out (Or.inl hDn.out.symm))
            go_upto_region 7 with fail
            refine wp_region_class (fun w' => Below wr.heap.size wr w') (by kernel_rfl) (by kernel_rfl) (Below.refl _ _).drew ?_
            repeat (first
              | go_big_quiet_skip
              | (go_big_quiet_want
                 unfold Oper.quiet
                 apply Exists.intro
                 refine ⟨fun wq hwq => ?_, ?_⟩
                 · (
                    obtain ⟨ce, cv0⟩ := HC.out _ hwq
                    clear cv0
                    unfold Oper.quietAt
                    go_simp
                    first
                      | exact ⟨rfl, hwq⟩
                      | exact rfl
                    )
                 simp only [Act.put, List.setIfInBounds_toArray, List.set_cons_zero, List.set_cons_succ]
                 go_big_quiet_on))
            refine wpQuiet_nil ?_
            intro w4 hw4
            have HY2 := Lib.hid (HY.out.trans (hw4.mono HY.out.size))
            have HC2 : Hid (∀ W, Below w4.heap.size w4 W → W.cell? ⟨ga, o + j * 12 + 1, none⟩ = some (.int .i64 i)) := Lib.hid (fun W hW => (HC.out W (hw4.trans (hW.mono hw4.size))).1)
            clear hw4
            go_upto_region 9 with fail
            refine wp_region_class (fun w' => Below w4.heap.size w4 w') (by kernel_rfl) (by kernel_rfl) (Below.refl _ _).drew ?_
            repeat (first
              | go_big_quiet_skip
              | (go_big_quiet_want
                 unfold Oper.quiet
                 apply Exists.intro
                 refine ⟨fun wq hwq => ?_, ?_⟩
                 · (
                    have ce := HC2.out _ hwq
                    unfold Oper.quietAt
                    go_simp
                    first
                      | exact ⟨rfl, hwq⟩
                      | exact rfl
                    )
                 simp only [Act.put, List.setIfInBounds_toArray, List.set_cons_zero, List.set_cons_succ]
                 go_big_quiet_on))
            refine wpQuiet_nil ?_
            intro w5 hw5
            by_cases hcp : p = c
            · have hcb : True := trivial
              subst hcp
              have HY3 := Lib.hid (HY2.out.trans (hw5.mono HY2.out.size))
              have ce := HC2.out _ hw5
              have HIN : Hid (insD i D = D.take p ++ ([i] ++ [])) := Lib.hid (by
                unfold insD
                rw [HI.out.1, HI.out.2, List.head?_drop]
                rw [List.getElem?_eq_none (by rw [hDn.out]; exact Nat.le_refl _), if_neg (by simp), List.drop_of_length_le (by rw [hDn.out]; exact Nat.le_refl _)])
              have HA : Hid (((D.take p).map (Value.int .i64)).length = p * 1 ∧ RM w5 w.heap.size (some ⟨go, 0, none⟩) p p 1 (D.map (Value.int .i64)) 3 ∧ ((D.drop p).map (Value.int .i64)).length = (p - p) * 1) := Lib.hid ⟨by have := hDn.out; rw [List.length_map, List.length_take]; omega, HB.out.1.chg (Chg.of_fresh (l := []) HY3.out) (by simp), by have := hDn.out; rw [List.length_map, List.length_drop]; omega⟩
              have HB5 := Lib.hid (HB.out.2.trans (HY3.out.mono HB.out.2.size))
              clear hw5
              go_upto_region 10 with fail
              have fa1 : (p : Int) ≤ (p : Int) := by omega
              have fa2 : p ≤ p := by omega
              have ced : w5.drew.cell? ⟨ga, o + j * 12 + 1, none⟩ = some (.int .i64 i) := ce
              have gal : ga < w5.heap.size := World.block_lt_of_cell? _ _ ce
              have ga1 : ¬ ga = w5.heap.size := by omega
              have ga2 : ¬ w5.heap.size = ga := by omega
              go_region_law (first
                | ((refine step_append_rz rfl (.tmp 53) (.tmp 56) 37 37 rfl 3 (.int .i64 0) 1 8 Try.underlying37 infoInt rfl (by omega) w5.heap.size _ 0 0 [] rfl ((KR.new w5 w5 (Below.refl _ _)).drew).2.1 (Nat.le_refl _) _ rfl p ((D.take p).map (Value.int .i64)) (Src.ofSlice _ Try.underlying37 ⟨go, 0, none⟩ p _ ((D.take p).map (Value.int .i64)) HA.out.1 (ints_at0 HA.out.2.1 ((KR.new w5 w5 (Below.refl _ _)).drew).1 p) (int_one _)) (by omega) (by omega) ?_); intro g5 c5 wA q1 q0 q2 q3; rw [Nat.zero_add] at q1 q0; have HS := Lib.hid (((KR.new w5 w5 (Below.refl _ _)).drew).grow q1 q0 q3); have ceA := (HS.out.1.cell gal).trans ce; have gA : ga < wA.heap.size := Nat.lt_of_lt_of_le gal HS.out.1.size; have gA1 : ¬ ga = wA.heap.size := (by omega); have gA2 : ¬ wA.heap.size = ga := (by omega); clear q0 q1 q2 q3)
                | ((refine step_append_rz rfl (.tmp 53) (.tmp 56) 37 37 rfl 3 (.int .i64 0) 1 8 Try.underlying37 infoInt rfl (by omega) w5.heap.size _ 0 0 [] rfl (((KR.new w5 w5 (Below.refl _ _)).alloc (.cells #[.int .i64 i] 3)).drew).2.1 (Nat.le_refl _) _ rfl p ((D.take p).map (Value.int .i64)) (Src.ofSlice _ Try.underlying37 ⟨go, 0, none⟩ p _ ((D.take p).map (Value.int .i64)) HA.out.1 (ints_at0 HA.out.2.1 (((KR.new w5 w5 (Below.refl _ _)).alloc (.cells #[.int .i64 i] 3)).drew).1 p) (int_one _)) (by omega) (by omega) ?_); intro g5 c5 wA q1 q0 q2 q3; rw [Nat.zero_add] at q1 q0; have HS := Lib.hid ((((KR.new w5 w5 (Below.refl _ _)).alloc (.cells #[.int .i64 i] 3)).drew).grow q1 q0 q3); have ceA := (HS.out.1.cell gal).trans ce; have gA : ga < wA.heap.size := Nat.lt_of_lt_of_le gal HS.out.1.size; have gA1 : ¬ ga = wA.heap.size := (by omega); have gA2 : ¬ wA.heap.size = ga := (by omega); have bI := Blk.newA (w5.alloc (.cells #[] 3)) #[.int .i64 i] 3; have hI := (bI.drew.chg q3 (by simp)).cell (i := 0) rfl; clear bI; rw [World.size_alloc] at hI; clear q0 q1 q2 q3)
                | ((refine step_append_rz rfl (.tmp 53) (.tmp 56) 37 37 rfl 3 (.int .i64 0) 1 8 Try.underlying37 infoInt rfl (by omega) w5.heap.size _ 0 0 [] rfl ((KR.new2 w5 (.cells #[.int .i64 i] 3)).drew).2.1 (Nat.le_refl _) _ rfl p ((D.take p).map (Value.int .i64)) (Src.ofSlice _ Try.underlying37 ⟨go, 0, none⟩ p _ ((D.take p).map (Value.int .i64)) HA.out.1 (ints_at0 HA.out.2.1 ((KR.new2 w5 (.cells #[.int .i64 i] 3)).drew).1 p) (int_one _)) (by omega) (by omega) ?_); intro g5 c5 wA q1 q0 q2 q3; rw [Nat.zero_add] at q1 q0; have HS := Lib.hid (((KR.new2 w5 (.cells #[.int .i64 i] 3)).drew).grow q1 q0 q3); have ceA := (HS.out.1.cell gal).trans ce; have gA : ga < wA.heap.size := Nat.lt_of_lt_of_le gal HS.out.1.size; have gA1 : ¬ ga = wA.heap.size := (by omega); have gA2 : ¬ wA.heap.size = ga := (by omega); have bI := (Blk.newA w5 #[.int .i64 i] 3).alloc (.cells #[] 3); have hI := (bI.drew.chg q3 (by simp)).cell (i := 0) rfl; clear bI; clear q0 q1 q2 q3)
                | (refine step_append_rz rfl (.tmp 57) (.tmp 63) 37 37 rfl 3 (.int .i64 0) 1 8 Try.underlying37 infoInt rfl (by omega) w5.heap.size g5 p c5 _ rfl (HS.out.alloc (.cells #[.int .i64 i] 3)).2.1 HS.out.2.2 _ rfl 1 [.int .i64 i] (Src.ofSlice _ Try.underlying37 ⟨_, 0, none⟩ 1 1 [.int .i64 i] rfl (new_atE _ _ _) (int_one [i])) (by omega) (by omega) ?_; intro g6 c6 wB q1 q0 q2 q3; have HT := Lib.hid ((HS.out.alloc (.cells #[.int .i64 i] 3)).grow q1 q0 q3); clear q0 q1 q2 q3)
                | (refine step_append_rz rfl (.tmp 57) (.tmp 63) 37 37 rfl 3 (.int .i64 0) 1 8 Try.underlying37 infoInt rfl (by omega) w5.heap.size g5 p c5 _ rfl (HS.out).2.1 HS.out.2.2 _ rfl 1 [.int .i64 i] (Src.ofSlice _ Try.underlying37 ⟨_, 0, none⟩ 1 1 [.int .i64 i] rfl (one_at hI) (int_one [i])) (by omega) (by omega) ?_; intro g6 c6 wB q1 q0 q2 q3; have HT := Lib.hid ((HS.out).grow q1 q0 q3); clear q0 q1 q2 q3)
                | (refine step_append_rz rfl (.tmp 64) (.tmp 67) 37 37 rfl 3 (.int .i64 0) 1 8 Try.underlying37 infoInt rfl (by omega) w5.heap.size g6 (p + 1) c6 _ rfl HT.out.2.1 HT.out.2.2 _ rfl 0 [] (Src.ofSlice _ Try.underlying37 ⟨go, _, none⟩ 0 _ [] rfl (fun j u h => by simp at h) (fun v h => by simp at h)) (by omega) (by omega) ?_; intro g7 c7 wC q1 q0 q2 q3; have HN := Lib.hid (HT.out.grow q1 q0 q3); clear q0 q1 q2 q3)
              )
              all_goals
                go_wp2_with fail
                go_roundw
                case rel => exact ⟨j + 1, p + 1 + 0, c7, g7, by go_num, by go_num, by omega, by omega, HN.out.2.2, Lib.hid ⟨by
                  rw [HS2.out, HIN.out]
                  have h := HN.out.2.1.base_le (B' := w.heap.size) HB5.out.size
                  simpa using h, HB5.out.trans (HN.out.1.mono HB5.out.size)⟩⟩
                case measure => simp [intOf]; omega
            · have hc1 : p < c := by omega
              have HY3 := Lib.hid (HY2.out.trans (hw5.mono HY2.out.size))
              have ce := HC2.out _ hw5
              have HIN : Hid (insD i D = D.take p ++ ([i] ++ [])) := Lib.hid (by
                unfold insD
                rw [HI.out.1, HI.out.2, List.head?_drop]
                rw [List.getElem?_eq_none (by rw [hDn.out]; exact Nat.le_refl _), if_neg (by simp), List.drop_of_length_le (by rw [hDn.out]; exact Nat.le_refl _)])
              have HA : Hid (((D.take p).map (Value.int .i64)).length = p * 1 ∧ RM w5 w.heap.size (some ⟨go, 0, none⟩) p c 1 (D.map (Value.int .i64)) 3 ∧ ((D.drop p).map (Value.int .i64)).length = (p - p) * 1) := Lib.hid ⟨by have := hDn.out; rw [List.length_map, List.length_take]; omega, HB.out.1.chg (Chg.of_fresh (l := []) HY3.out) (by simp), by have := hDn.out; rw [List.length_map, List.length_drop]; omega⟩
              have HB5 := Lib.hid (HB.out.2.trans (HY3.out.mono HB.out.2.size))
              clear hw5
              go_upto_region 10 with fail
              have fa1 : (p : Int) ≤ (c : Int) := by omega
              have fa2 : p ≤ c := by omega
              have fa3 : ¬ c = p := by omega
              have ced : w5.drew.cell? ⟨ga, o + j * 12 + 1, none⟩ = some (.int .i64 i) := ce
              have gal : ga < w5.heap.size := World.block_lt_of_cell? _ _ ce
              have ga1 : ¬ ga = w5.heap.size := by omega
              have ga2 : ¬ w5.heap.size = ga := by omega
              go_region_law (first
                | ((refine step_append_rz rfl (.tmp 53) (.tmp 56) 37 37 rfl 3 (.int .i64 0) 1 8 Try.underlying37 infoInt rfl (by omega) w5.heap.size _ 0 0 [] rfl ((KR.new w5 w5 (Below.refl _ _)).drew).2.1 (Nat.le_refl _) _ rfl p ((D.take p).map (Value.int .i64)) (Src.ofSlice _ Try.underlying37 ⟨go, 0, none⟩ p _ ((D.take p).map (Value.int .i64)) HA.out.1 (ints_at0 HA.out.2.1 ((KR.new w5 w5 (Below.refl _ _)).drew).1 p) (int_one _)) (by omega) (by omega) ?_); intro g5 c5 wA q1 q0 q2 q3; rw [Nat.zero_add] at q1 q0; have HS := Lib.hid (((KR.new w5 w5 (Below.refl _ _)).drew).grow q1 q0 q3); have ceA := (HS.out.1.cell gal).trans ce; have gA : ga < wA.heap.size := Nat.lt_of_lt_of_le gal HS.out.1.size; have gA1 : ¬ ga = wA.heap.size := (by omega); have gA2 : ¬ wA.heap.size = ga := (by omega); clear q0 q1 q2 q3)
                | ((refine step_append_rz rfl (.tmp 53) (.tmp 56) 37 37 rfl 3 (.int .i64 0) 1 8 Try.underlying37 infoInt rfl (by omega) w5.heap.size _ 0 0 [] rfl (((KR.new w5 w5 (Below.refl _ _)).alloc (.cells #[.int .i64 i] 3)).drew).2.1 (Nat.le_refl _) _ rfl p ((D.take p).map (Value.int .i64)) (Src.ofSlice _ Try.underlying37 ⟨go, 0, none⟩ p _ ((D.take p).map (Value.int .i64)) HA.out.1 (ints_at0 HA.out.2.1 (((KR.new w5 w5 (Below.refl _ _)).alloc (.cells #[.int .i64 i] 3)).drew).1 p) (int_one _)) (by omega) (by omega) ?_); intro g5 c5 wA q1 q0 q2 q3; rw [Nat.zero_add] at q1 q0; have HS := Lib.hid ((((KR.new w5 w5 (Below.refl _ _)).alloc (.cells #[.int .i64 i] 3)).drew).grow q1 q0 q3); have ceA := (HS.out.1.cell gal).trans ce; have gA : ga < wA.heap.size := Nat.lt_of_lt_of_le gal HS.out.1.size; have gA1 : ¬ ga = wA.heap.size := (by omega); have gA2 : ¬ wA.heap.size = ga := (by omega); have bI := Blk.newA (w5.alloc (.cells #[] 3)) #[.int .i64 i] 3; have hI := (bI.drew.chg q3 (by simp)).cell (i := 0) rfl; clear bI; rw [World.size_alloc] at hI; clear q0 q1 q2 q3)
                | ((refine step_append_rz rfl (.tmp 53) (.tmp 56) 37 37 rfl 3 (.int .i64 0) 1 8 Try.underlying37 infoInt rfl (by omega) w5.heap.size _ 0 0 [] rfl ((KR.new2 w5 (.cells #[.int .i64 i] 3)).drew).2.1 (Nat.le_refl _) _ rfl p ((D.take p).map (Value.int .i64)) (Src.ofSlice _ Try.underlying37 ⟨go, 0, none⟩ p _ ((D.take p).map (Value.int .i64)) HA.out.1 (ints_at0 HA.out.2.1 ((KR.new2 w5 (.cells #[.int .i64 i] 3)).drew).1 p) (int_one _)) (by omega) (by omega) ?_); intro g5 c5 wA q1 q0 q2 q3; rw [Nat.zero_add] at q1 q0; have HS := Lib.hid (((KR.new2 w5 (.cells #[.int .i64 i] 3)).drew).grow q1 q0 q3); have ceA := (HS.out.1.cell gal).trans ce; have gA : ga < wA.heap.size := Nat.lt_of_lt_of_le gal HS.out.1.size; have gA1 : ¬ ga = wA.heap.size := (by omega); have gA2 : ¬ wA.heap.size = ga := (by omega); have bI := (Blk.newA w5 #[.int .i64 i] 3).alloc (.cells #[] 3); have hI := (bI.drew.chg q3 (by simp)).cell (i := 0) rfl; clear bI; clear q0 q1 q2 q3)
                | (refine step_append_rz rfl (.tmp 57) (.tmp 63) 37 37 rfl 3 (.int .i64 0) 1 8 Try.underlying37 infoInt rfl (by omega) w5.heap.size g5 p c5 _ rfl (HS.out.alloc (.cells #[.int .i64 i] 3)).2.1 HS.out.2.2 _ rfl 1 [.int .i64 i] (Src.ofSlice _ Try.underlying37 ⟨_, 0, none⟩ 1 1 [.int .i64 i] rfl (new_atE _ _ _) (int_one [i])) (by omega) (by omega) ?_; intro g6 c6 wB q1 q0 q2 q3; have HT := Lib.hid ((HS.out.alloc (.cells #[.int .i64 i] 3)).grow q1 q0 q3); clear q0 q1 q2 q3)
                | (refine step_append_rz rfl (.tmp 57) (.tmp 63) 37 37 rfl 3 (.int .i64 0) 1 8 Try.underlying37 infoInt rfl (by omega) w5.heap.size g5 p c5 _ rfl (HS.out).2.1 HS.out.2.2 _ rfl 1 [.int .i64 i] (Src.ofSlice _ Try.underlying37 ⟨_, 0, none⟩ 1 1 [.int .i64 i] rfl (one_at hI) (int_one [i])) (by omega) (by omega) ?_; intro g6 c6 wB q1 q0 q2 q3; have HT := Lib.hid ((HS.out).grow q1 q0 q3); clear q0 q1 q2 q3)
                | (refine step_append_rz rfl (.tmp 64) (.tmp 67) 37 37 rfl 3 (.int .i64 0) 1 8 Try.underlying37 infoInt rfl (by omega) w5.heap.size g6 (p + 1) c6 _ rfl HT.out.2.1 HT.out.2.2 _ rfl 0 [] (Src.ofSlice _ Try.underlying37 ⟨go, _, none⟩ 0 _ [] rfl (fun j u h => by simp at h) (fun v h => by simp at h)) (by omega) (by omega) ?_; intro g7 c7 wC q1 q0 q2 q3; have HN := Lib.hid (HT.out.grow q1 q0 q3); clear q0 q1 q2 q3)
              )
              all_goals
                go_wp2_with fail
                go_roundw
                case rel => exact ⟨j + 1, p + 1 + 0, c7, g7, by go_num, by go_num, by omega, by omega, HN.out.2.2, Lib.hid ⟨by
                  rw [HS2.out, HIN.out]
                  have h := HN.out.2.1.base_le (B' := w.heap.size) HB5.out.size
                  simpa using h, HB5.out.trans (HN.out.1.mono HB5.out.size)⟩⟩
                case measure => simp [intOf]; omega
      · have h2b : (k != 2) = true := by simp [h2]
        go_wp2_with fail
        go_roundw
        case rel => exact ⟨j + 1, nd, c, go, rfl, by go_num, by omega, by omega, hnc, Lib.hid ⟨by rw [HS.out, if_neg h2]; exact HB.out.1, HB.out.2⟩⟩
        case measure => simp [intOf]; omega
    · obtain rfl : j = len := by omega
      have i1 : ¬ (j : Int) < (j : Int) := by omega
      have HZ : Hid (RI wr (some ⟨go, 0, none⟩) D0 ∧ nd = n0) := Lib.hid (by
        have h := HB.out.1
        rw [List.take_of_length_le (by rw [HL.out.1]; exact Nat.le_refl _), HL.out.2.2.1] at h
        have h3 : D0.length = nd := by have := h.1; rw [List.length_map] at this; omega
        exact ⟨RI.of_rm h h3, by rw [← h3]; exact HL.out.2.2.2⟩)
      obtain rfl : nd = n0 := HZ.out.2
      go_wp2_with fail
      go_ret
      first
        | exact ⟨_, c, rfl, HZ.out.1, fun g hg => (HB.out.1.lt g hg).1, HB.out.2⟩
        | exact ⟨_, ⟨c, rfl⟩, HZ.out.1, fun g hg => (HB.out.1.lt g hg).1, HB.out.2⟩
end Go.Proofs.Ytdchedkhlfmpeaa
/- Grace: the document on who was late. -/
namespace Go.Proofs.Ytdchedkhlfmpeaa
open Go.ChangeShapes Go.WideShapes Go.ChangeAt Go.RowKit
set_option linter.unusedSimpArgs false
set_option linter.unusedVariables false

theorem RI.chg {w w' : World} {r : Option Addr} {L : List Int} (h : RI w r L) {l : List Nat} (k : Chg l w w') (hl : ∀ g ∈ rvB r, g ∉ l) : RI w' r L := fun j v hj => by
  obtain ⟨g, o, e, h1, h2⟩ := h j v hj
  subst e
  exact ⟨g, o, rfl, Nat.lt_of_lt_of_le h1 k.size, by rw [← h2]; exact Chg.cell k h1 (hl g (by rw [rvB_some]; simp))⟩
theorem RI.drew {w : World} {r : Option Addr} {L : List Int} (h : RI w r L) : RI w.drew r L := h
/-- The document's list, beside the numbers that it goes through. -/
def LI (w wr : World) (rq : Option Addr) (qn cq : Nat) (O : List Value) (ra : Option Addr) (D1 : List Int) : Prop := RM wr w.heap.size rq qn cq 1 O 3 ∧ RI wr ra D1 ∧ (∀ g ∈ rvB rq, g ∉ rvB ra) ∧ Below w.heap.size w wr
theorem LI.be {w wr : World} {rq : Option Addr} {qn cq : Nat} {O : List Value} {ra : Option Addr} {D1 : List Int} (h : LI w wr rq qn cq O ra D1) : Below w.heap.size w wr := h.2.2.2
theorem LI.same {w wr w' : World} {rq : Option Addr} {qn cq : Nat} {O : List Value} {ra : Option Addr} {D1 : List Int} (h : LI w wr rq qn cq O ra D1) (k : Below wr.heap.size wr w') : LI w w' rq qn cq O ra D1 :=
  ⟨h.1.chg (l := []) (Chg.of_fresh k) (by simp), h.2.1.below k, h.2.2.1, h.2.2.2.trans (k.mono h.2.2.2.size)⟩
theorem LI.grow {w wr w' : World} {rq : Option Addr} {qn cq : Nat} {O : List Value} {ra : Option Addr} {D1 : List Int} (h : LI w wr rq qn cq O ra D1) (ha : ∀ g ∈ rvB ra, g < wr.heap.size) {g' m' c' : Nat} {O' : List Value} (hr : RM w' w.heap.size (some ⟨g', 0, none⟩) m' c' 1 O' 3) (hg : g' ∈ rvB rq ∨ wr.heap.size ≤ g') (k : Chg (rvB rq) wr w') : LI w w' (some ⟨g', 0, none⟩) m' c' O' ra D1 :=
  ⟨hr, h.2.1.chg k (fun g hg2 hg3 => h.2.2.1 g hg3 hg2), by
    intro g hm hm2
    rw [rvB_some] at hm
    simp at hm
    subst hm
    rcases hg with hg | hg
    · exact h.2.2.1 _ hg hm2
    · have := ha _ hm2; omega, k.onto h.2.2.2 h.2.2.2.size (fun y hy => (h.1.lt y hy).1)⟩
set_option maxRecDepth 20000 in
set_option maxHeartbeats 16000000 in
theorem rg_late (l r i o q v each : Int) (a : Option Addr) (len cap : Nat) (L : List Ev) (hl : L.length = len) (hlm : len ≤ 10000) (hlc : len ≤ cap) (hcm : cap ≤ 9223372036854775807) (hb24 : ∀ x ∈ L, x.b.size ≤ 24) (bd : Int) (isb : Bool) (f : Nat) (hf : Gr.fst 7 L = f) (hib : isb = true → f < len)
    (hbd : ∀ W, EL W a L → Calls Try.prog 22 #[.agg #[.int .i64 l, .int .i64 r, .int .i64 i, .int .i64 o, .int .i64 q, .int .i64 v], .slice a len cap, .int .i64 each] W fun e W' => e = .returned (.tuple #[.int .i64 bd, .bool isb]) ∧ Below W.heap.size W W')
    (D : List Int) (hD : (if isb = true then Gr.late bd f L else []) = D) (n : Nat) (hn : D.length = n) (w : World) (HE : EL w a L) :
    Calls Try.prog 26 #[.agg #[.int .i64 l, .int .i64 r, .int .i64 i, .int .i64 o, .int .i64 q, .int .i64 v], .slice a len cap, .int .i64 each] w fun e w' => ∃ (rr : Option Addr) (cc : Nat), e = .returned (.slice rr n cc) ∧ RI w' rr D ∧ Below w.heap.size w w' := by
  obtain ⟨X, hX⟩ : ∃ X, w.heap.size = X := ⟨_, rfl⟩
  have H0 : Hid ((Blk (w.alloc (.cells #[.int .i64 l, .int .i64 r, .int .i64 i, .int .i64 o, .int .i64 q, .int .i64 v] 54)) X [.int .i64 l, .int .i64 r, .int .i64 i, .int .i64 o, .int .i64 q, .int .i64 v] 54 ∧ EL (w.alloc (.cells #[.int .i64 l, .int .i64 r, .int .i64 i, .int .i64 o, .int .i64 q, .int .i64 v] 54)) a L ∧ Below w.heap.size w (w.alloc (.cells #[.int .i64 l, .int .i64 r, .int .i64 i, .int .i64 o, .int .i64 q, .int .i64 v] 54)) ∧ X < (w.alloc (.cells #[.int .i64 l, .int .i64 r, .int .i64 i, .int .i64 o, .int .i64 q, .int .i64 v] 54)).heap.size) ∧ RM ((w.alloc (.cells #[.int .i64 l, .int .i64 r, .int .i64 i, .int .i64 o, .int .i64 q, .int .i64 v] 54)).alloc (.cells #[] 3)) w.heap.size (some ⟨(w.alloc (.cells #[.int .i64 l, .int .i64 r, .int .i64 i, .int .i64 o, .int .i64 q, .int .i64 v] 54)).heap.size, 0, none⟩) 0 0 1 [] 3) := Lib.hid (by
    have b1 := Blk.newA w #[.int .i64 l, .int .i64 r, .int .i64 i, .int .i64 o, .int .i64 q, .int .i64 v] 54
    rw [hX] at b1
    refine ⟨⟨b1, HE.below ((Below.refl _ _).alloc (Nat.le_refl _) _), (Below.refl _ _).alloc (Nat.le_refl _) _, b1.lt⟩, by simp, by simp; omega, Or.inr ⟨(w.alloc (.cells #[.int .i64 l, .int .i64 r, .int .i64 i, .int .i64 o, .int .i64 q, .int .i64 v] 54)).heap.size, rfl, by simp, by simpa using Rn.empty (w.alloc (.cells #[.int .i64 l, .int .i64 r, .int .i64 i, .int .i64 o, .int .i64 q, .int .i64 v] 54)) 1 3⟩⟩)
  have HB0 := Lib.hid hbd
  have HL := Lib.hid (And.intro hl (And.intro HE (And.intro hb24 (And.intro hD hn))))
  have HF := Lib.hid hf
  clear hl hbd HE hb24 hD hn hf
  cases isb with
  | false =>
    clear hib
    have HDD : Hid (D = [] ∧ n = 0) := Lib.hid (by
      have h := HL.out.2.2.2
      rw [if_neg (by simp)] at h
      exact ⟨h.1.symm, by rw [← h.2, ← h.1]; rfl⟩)
    obtain rfl : n = 0 := HDD.out.2
    go_enter Try.func26, Try.ntmps26
    go_upto_region 1 with fail
    clear hX
    revert H0
    generalize (w.alloc (.cells #[.int .i64 l, .int .i64 r, .int .i64 i, .int .i64 o, .int .i64 q, .int .i64 v] 54)) = W00
    intro H0
    go_upto_region 2 with fail
    obtain ⟨gO, hgO⟩ : ∃ g, W00.heap.size = g := ⟨_, rfl⟩
    have HA : Hid (Blk (W00.alloc (.cells #[] 3)) X [.int .i64 l, .int .i64 r, .int .i64 i, .int .i64 o, .int .i64 q, .int .i64 v] 54 ∧ EL (W00.alloc (.cells #[] 3)) a L ∧ Below w.heap.size w (W00.alloc (.cells #[] 3)) ∧ RM (W00.alloc (.cells #[] 3)) w.heap.size (some ⟨gO, 0, none⟩) 0 0 1 [] 3) := Lib.hid ⟨H0.out.1.1.alloc _, H0.out.1.2.1.below ((Below.refl _ _).alloc (Nat.le_refl _) _), H0.out.1.2.2.1.alloc H0.out.1.2.2.1.size _, by rw [← hgO]; exact H0.out.2⟩
    clear H0
    revert HA
    generalize (W00.alloc (.cells #[] 3)) = W0
    intro HA
    try rw [hgO]
    clear hgO
    have sc0 := HA.out.1.cell (i := 0) rfl
    have sc1 := HA.out.1.cell (i := 1) rfl
    have sc2 := HA.out.1.cell (i := 2) rfl
    have sc3 := HA.out.1.cell (i := 3) rfl
    have sc4 := HA.out.1.cell (i := 4) rfl
    have sc5 := HA.out.1.cell (i := 5) rfl
    go_wp2_with (first
      | (go_at_call 22; (with_reducible refine (HB0.out _ HA.out.2.1).mono ?_); rintro r4 W1 ⟨rfl, bb⟩; have HB1 : Hid (EL W1 a L ∧ RM W1 w.heap.size (some ⟨gO, 0, none⟩) 0 0 1 [] 3 ∧ Below w.heap.size w W1) := Lib.hid ⟨HA.out.2.1.below bb, HA.out.2.2.2.chg (l := []) (Chg.of_fresh bb) (by simp), HA.out.2.2.1.trans (bb.mono HA.out.2.2.1.size)⟩; clear bb HA sc0 sc1 sc2 sc3 sc4 sc5))
    go_ret
    rw [HDD.out.1]
    first
      | exact ⟨_, 0, rfl, RI.nil _ _, HB1.out.2.2⟩
      | exact ⟨_, ⟨0, rfl⟩, RI.nil _ _, HB1.out.2.2⟩
  | true =>
    replace hib := hib rfl
    go_enter Try.func26, Try.ntmps26
    go_upto_region 1 with fail
    clear hX
    revert H0
    generalize (w.alloc (.cells #[.int .i64 l, .int .i64 r, .int .i64 i, .int .i64 o, .int .i64 q, .int .i64 v] 54)) = W00
    intro H0
    go_upto_region 2 with fail
    obtain ⟨gO, hgO⟩ : ∃ g, W00.heap.size = g := ⟨_, rfl⟩
    have HA : Hid (Blk (W00.alloc (.cells #[] 3)) X [.int .i64 l, .int .i64 r, .int .i64 i, .int .i64 o, .int .i64 q, .int .i64 v] 54 ∧ EL (W00.alloc (.cells #[] 3)) a L ∧ Below w.heap.size w (W00.alloc (.cells #[] 3)) ∧ RM (W00.alloc (.cells #[] 3)) w.heap.size (some ⟨gO, 0, none⟩) 0 0 1 [] 3) := Lib.hid ⟨H0.out.1.1.alloc _, H0.out.1.2.1.below ((Below.refl _ _).alloc (Nat.le_refl _) _), H0.out.1.2.2.1.alloc H0.out.1.2.2.1.size _, by rw [← hgO]; exact H0.out.2⟩
    clear H0
    revert HA
    generalize (W00.alloc (.cells #[] 3)) = W0
    intro HA
    try rw [hgO]
    clear hgO
    have sc0 := HA.out.1.cell (i := 0) rfl
    have sc1 := HA.out.1.cell (i := 1) rfl
    have sc2 := HA.out.1.cell (i := 2) rfl
    have sc3 := HA.out.1.cell (i := 3) rfl
    have sc4 := HA.out.1.cell (i := 4) rfl
    have sc5 := HA.out.1.cell (i := 5) rfl
    have f0 : (0 : Int) ≤ (f : Int) := by omega
    have f1 : (f : Int) ≤ (cap : Int) := by omega
    have f2 : f ≤ cap := by omega
    obtain ⟨D1, hD1⟩ : ∃ D1, Ev.ids (L.take f) = D1 := ⟨_, rfl⟩
    obtain ⟨n1, hn1⟩ : ∃ n1, D1.length = n1 := ⟨_, rfl⟩
    have HTL : Hid ((L.take f).length = f ∧ Ev.idx (Gr.isk 7) L = (f : Int)) := Lib.hid ⟨by rw [List.length_take, HL.out.1]; omega, by rw [Gr.fst_idx, HF.out, if_pos (by rw [HL.out.1]; exact hib)]⟩
    have hn1m : n1 ≤ 10000 := by
      have h1 := Ev.ids_le (L.take f)
      rw [hD1, hn1, HTL.out.1] at h1
      omega
    have HI := Lib.hid (And.intro hD1 hn1)
    clear hD1 hn1
    go_upto_region 6 with (first
      | (go_at_call 22; (with_reducible refine (HB0.out _ HA.out.2.1).mono ?_); rintro r4 W1 ⟨rfl, bb⟩; have HB1 : Hid (EL W1 a L ∧ RM W1 w.heap.size (some ⟨gO, 0, none⟩) 0 0 1 [] 3 ∧ Below w.heap.size w W1) := Lib.hid ⟨HA.out.2.1.below bb, HA.out.2.2.2.chg (l := []) (Chg.of_fresh bb) (by simp), HA.out.2.2.1.trans (bb.mono HA.out.2.2.1.size)⟩; clear bb HA sc0 sc1 sc2 sc3 sc4 sc5)
      | (go_at_call 24; (with_reducible refine (rg_first a len cap L HL.out.1 (by omega) 7 (f : Int) HTL.out.2 _ HB1.out.1).mono ?_); rintro r5 W2 ⟨rfl, bb⟩; have HB2 : Hid (EL W2 a L ∧ RM W2 w.heap.size (some ⟨gO, 0, none⟩) 0 0 1 [] 3 ∧ Below w.heap.size w W2) := Lib.hid ⟨HB1.out.1.below bb, HB1.out.2.1.chg (l := []) (Chg.of_fresh bb) (by simp), HB1.out.2.2.trans (bb.mono HB1.out.2.2.size)⟩; clear bb HB1)
      | (go_at_call 14; (with_reducible refine (rf_ids2 a f cap (L.take f) HTL.out.1 (by omega) D1 HI.out.1 n1 HI.out.2 _ (HB2.out.1.take f)).mono ?_); rintro r6 W4 ⟨ra, ca, rfl, hri, hfr, bb⟩; have HW : Hid (LI w W4 (some ⟨gO, 0, none⟩) 0 0 [] ra D1) := Lib.hid ⟨HB2.out.2.1.chg (l := []) (Chg.of_fresh bb) (by simp), hri, fun g hg hg2 => by have h1 := (HB2.out.2.1.lt g hg).2; have h2 := hfr g hg2; omega, HB2.out.2.2.trans (bb.mono HB2.out.2.2.size)⟩; clear bb HB2 hri hfr))
    go_wp2_with fail
    go_loopw [7, 11, 12, 13] (fun o7 z _ _ wr => ∃ (j qn cq : Nat) (rq : Option Addr), o7 = .slice rq qn cq ∧ z = .int .i64 j ∧ j ≤ n1 ∧ qn ≤ j ∧ Hid (LI w wr rq qn cq (((D1.take j).filter (fun i => Gr.lat bd (Gr.tl i L))).map (Value.int .i64)) ra D1)) (fun _ z _ _ _ => n1 - (intOf z).toNat)
    case atStart => exact ⟨0, 0, 0, _, rfl, rfl, by omega, by omega, Lib.hid (by rw [List.take_zero]; exact HW.out)⟩
    case round =>
      obtain ⟨j, qn, cq, rq, rfl, rfl, hj, hqn, HB⟩ := hrel
      have j0 : (0 : Int) ≤ (j : Int) := by omega
      by_cases hjn : j < n1
      · have i1 : (j : Int) < (n1 : Int) := by omega
        have w1 : IntKind.i64.wrap ((j : Int) + 1) = (j : Int) + 1 := IntWalk.i64_in _ (by omega)
        obtain ⟨ix, hix⟩ : ∃ ix, D1[j]? = some ix := ⟨_, List.getElem?_eq_getElem (by rw [HI.out.2]; exact hjn)⟩
        obtain ⟨gr, og, rfl, hgr, e0⟩ := HB.out.2.1 j ix hix
        obtain ⟨O, hO⟩ : ∃ O, ((D1.take j).filter (fun i => Gr.lat bd (Gr.tl i L))).map (Value.int .i64) = O := ⟨_, rfl⟩
        obtain ⟨DN, hDN⟩ : ∃ DN, ((D1.take (j + 1)).filter (fun i => Gr.lat bd (Gr.tl i L))).map (Value.int .i64) = DN := ⟨_, rfl⟩
        rw [hO] at HB
        have HV : Hid (DN = if (fun i => Gr.lat bd (Gr.tl i L)) ix = true then O ++ [.int .i64 ix] else O) := Lib.hid (by
          rw [← hDN, ← hO, take_snocE hix, List.filter_append, List.filter_cons]
          split <;> simp)
        have HDN := Lib.hid hDN
        have HIX := Lib.hid hix
        obtain ⟨⟨i2, sc, fr, TT, ok⟩, hlf⟩ : ∃ p, Pj.lifeD ix L = p := ⟨_, rfl⟩
        obtain ⟨nT, hnT⟩ : ∃ n, TT.length = n := ⟨_, rfl⟩
        obtain ⟨nS, hnS⟩ : ∃ n, (Pj.stE TT).length = n := ⟨_, rfl⟩
        obtain ⟨rd, hrd⟩ : ∃ x, Pj.rd TT = x := ⟨_, rfl⟩
        obtain ⟨tk, htk⟩ : ∃ x, Pj.tk TT = x := ⟨_, rfl⟩
        obtain ⟨eo, heo⟩ : ∃ x, Pj.eof TT = x := ⟨_, rfl⟩
        obtain ⟨st, hst⟩ : ∃ x, Pj.ss TT = x := ⟨_, rfl⟩
        have HT : Hid (Pj.lifeD ix L = (i2, sc, fr, TT, ok) ∧ TT.length = nT ∧ (Pj.stE TT).length = nS ∧ Pj.rd TT = rd ∧ Pj.tk TT = tk ∧ Pj.eof TT = eo ∧ Pj.ss TT = st ∧ Gr.tl ix L = TT) := Lib.hid ⟨hlf, hnT, hnS, hrd, htk, heo, hst, by unfold Gr.tl; rw [hlf]⟩
        have HSUM : Hid (Ev.sum L ≤ 1000000) := Lib.hid (by
          have h1 := Ev.sum_le (L := L) (B := 24) HL.out.2.2.1
          rw [HL.out.1] at h1
          omega)
        clear hlf hnT hnS hrd htk heo hst hix hO hDN
        go_upto_region 10 with (go_at_call 10; (with_reducible refine (rf_any a len cap L HL.out.1 (by omega) HSUM.out ix i2 sc fr TT ok HT.out.1 eo HT.out.2.2.2.2.2.1 st HT.out.2.2.2.2.2.2.1 rd tk HT.out.2.2.2.1 HT.out.2.2.2.2.1 nT nS HT.out.2.1 HT.out.2.2.1 _ (HL.out.2.1.below HB.out.be)).mono ?_); rintro r9 V3 ⟨r1, c1, r2, c2, r3, c3, rfl, q1, q2, bb⟩; have HJ3 : Hid (LI w V3 rq qn cq O (some ⟨gr, og, none⟩) D1 ∧ RE V3 r3 6 Ev.st (Pj.stE TT) ∧ gr < V3.heap.size) := Lib.hid ⟨HB.out.same bb, q2, Nat.lt_of_lt_of_le hgr bb.size⟩; clear bb HB q1 q2 hgr e0)
        have HJ : Hid (LI w (V3.alloc (.cells #[.int .i64 i2, .int .i64 sc, .int .i64 fr, .slice r1 nT c1, .slice r2 nT c2, .slice r3 nS c3, .string rd, .string tk, .bool eo, .int .i64 st] 32)) rq qn cq O (some ⟨gr, og, none⟩) D1 ∧ Blk (V3.alloc (.cells #[.int .i64 i2, .int .i64 sc, .int .i64 fr, .slice r1 nT c1, .slice r2 nT c2, .slice r3 nS c3, .string rd, .string tk, .bool eo, .int .i64 st] 32)) V3.heap.size [.int .i64 i2, .int .i64 sc, .int .i64 fr, .slice r1 nT c1, .slice r2 nT c2, .slice r3 nS c3, .string rd, .string tk, .bool eo, .int .i64 st] 32 ∧ RE (V3.alloc (.cells #[.int .i64 i2, .int .i64 sc, .int .i64 fr, .slice r1 nT c1, .slice r2 nT c2, .slice r3 nS c3, .string rd, .string tk, .bool eo, .int .i64 st] 32)) r3 6 Ev.st (Pj.stE TT) ∧ gr < (V3.alloc (.cells #[.int .i64 i2, .int .i64 sc, .int .i64 fr, .slice r1 nT c1, .slice r2 nT c2, .slice r3 nS c3, .string rd, .string tk, .bool eo, .int .i64 st] 32)).heap.size) := Lib.hid ⟨HJ3.out.1.same ((Below.refl _ _).alloc (Nat.le_refl _) _), Blk.newA _ _ _, HJ3.out.2.1.below ((Below.refl _ _).alloc (Nat.le_refl _) _), by rw [World.size_alloc]; have := HJ3.out.2.2; omega⟩
        clear HJ3
        revert HJ
        generalize (V3.alloc (.cells #[.int .i64 i2, .int .i64 sc, .int .i64 fr, .slice r1 nT c1, .slice r2 nT c2, .slice r3 nS c3, .string rd, .string tk, .bool eo, .int .i64 st] 32)) = V4
        generalize V3.heap.size = X3
        intro HJ
        have y9 := HJ.out.2.1.cell (i := 9) rfl
        have y5 := HJ.out.2.1.cell (i := 5) rfl
        have e0 : V4.cell? ⟨gr, og + j, none⟩ = some (.int .i64 ix) := by
          obtain ⟨g5, o5, e5, _, h5⟩ := HJ.out.1.2.1 j ix HIX.out
          injection e5 with e5
          injection e5 with e6 e7 _
          subst e6 e7
          exact h5
        by_cases hs0 : st = 0
        · have sb : (st == 0) = true := by simp [hs0]
          have HS : Hid (((D1.take (j + 1)).filter (fun i => Gr.lat bd (Gr.tl i L))).map (Value.int .i64) = O ++ [.int .i64 ix]) := Lib.hid (by
            rw [HDN.out, HV.out, if_pos (by show Gr.lat _ _ = true; rw [HT.out.2.2.2.2.2.2.2]; unfold Gr.lat; rw [HT.out.2.2.2.2.2.2.1]; simp [hs0])])
          clear hs0
          go_wp2_with (at_builtin; refine wpList_append_rm _ rfl (.tmp 67) (.tmp 72) 37 37 rfl 3 (.int .i64 0) 1 8 Try.underlying37 infoInt rfl w.heap.size rq qn cq O rfl (HJ.out.1.same ((Below.refl _ _).alloc (Nat.le_refl _) _)).1 _ rfl 1 (by omega) [.int .i64 ix] (Src.ofSlice _ Try.underlying37 ⟨_, 0, none⟩ 1 1 [.int .i64 ix] rfl (new_atE _ _ _) (by intro v hv; simp at hv; subst hv; rfl)) (by omega) (by omega) ?_; intro g4 c4 w4 u1 u2 u3; have HN := Lib.hid ((HJ.out.1.same ((Below.refl _ _).alloc (Nat.le_refl _) _)).grow (by intro g hg; rw [rvB_some] at hg; simp at hg; subst hg; rw [World.size_alloc]; have := HJ.out.2.2.2; omega) u1 u2 u3); clear u1 u2 u3)
          go_roundw
          case rel => exact ⟨j + 1, qn + 1, c4, _, rfl, by go_num, by omega, by omega, by rw [HS.out]; exact HN⟩
          case measure => simp [intOf]; omega
        · have sb : (st == 0) = false := by simp [hs0]
          have hne := Pj.stE_ne (T := TT) (by rw [HT.out.2.2.2.2.2.2.1]; exact hs0)
          obtain ⟨mS, hmS⟩ : ∃ mS, nS = mS + 1 := ⟨nS - 1, by have := HT.out.2.2.1; have h2 := List.length_pos_iff.2 hne; omega⟩
          obtain ⟨y, hy⟩ : ∃ y, (Pj.stE TT)[mS]? = some y := ⟨_, List.getElem?_eq_getElem (by have := HT.out.2.2.1; omega)⟩
          have hlast : (Pj.stE TT).getLast? = some y := by
            rw [List.getLast?_eq_getElem?, HT.out.2.2.1, hmS]; exact hy
          obtain ⟨g2, o2, rfl, hg2, hcy⟩ := HJ.out.2.2.1 mS y hy
          have z0 := hcy 0 (.int .i64 y.s0) rfl
          rw [Nat.add_zero] at z0
          have hns : nS ≤ 20000 := by
            have h1 := Pj.nst_le TT
            have h2 := (Pj.lifeD_ok HL.out.2.1.ok HT.out.1).2
            rw [HT.out.2.2.1] at h1
            rw [HL.out.1] at h2
            omega
          have n0 : (0 : Int) ≤ (mS : Int) := by omega
          have n3 : (mS : Int) < (nS : Int) := by omega
          have n4 : mS < nS := by omega
          have nb : ((nS : Int) == 0) = false := by rw [beq_eq_false_iff_ne]; omega
          have ws : IntKind.i64.wrap ((nS : Int) - 1) = (mS : Int) := by rw [IntWalk.i64_in _ (by omega)]; omega
          have HLT : Hid (Gr.lat bd TT = decide (bd ≤ y.s0)) := Lib.hid (by
            unfold Gr.lat
            rw [HT.out.2.2.2.2.2.2.1, hlast]
            simp [hs0])
          obtain ⟨ys, hys⟩ : ∃ ys, y.s0 = ys := ⟨_, rfl⟩
          rw [hys] at z0 HLT
          clear hs0 hne hmS hlast hy hcy hys hns
          by_cases hcmp : bd ≤ ys
          · have HS : Hid (((D1.take (j + 1)).filter (fun i => Gr.lat bd (Gr.tl i L))).map (Value.int .i64) = O ++ [.int .i64 ix]) := Lib.hid (by
              rw [HDN.out, HV.out, if_pos (by show Gr.lat _ _ = true; rw [HT.out.2.2.2.2.2.2.2, HLT.out]; simp [hcmp])])
            go_wp2_with (at_builtin; refine wpList_append_rm _ rfl (.tmp 67) (.tmp 72) 37 37 rfl 3 (.int .i64 0) 1 8 Try.underlying37 infoInt rfl w.heap.size rq qn cq O rfl (HJ.out.1.same ((Below.refl _ _).alloc (Nat.le_refl _) _)).1 _ rfl 1 (by omega) [.int .i64 ix] (Src.ofSlice _ Try.underlying37 ⟨_, 0, none⟩ 1 1 [.int .i64 ix] rfl (new_atE _ _ _) (by intro v hv; simp at hv; subst hv; rfl)) (by omega) (by omega) ?_; intro g4 c4 w4 u1 u2 u3; have HN := Lib.hid ((HJ.out.1.same ((Below.refl _ _).alloc (Nat.le_refl _) _)).grow (by intro g hg; rw [rvB_some] at hg; simp at hg; subst hg; rw [World.size_alloc]; have := HJ.out.2.2.2; omega) u1 u2 u3); clear u1 u2 u3)
            go_roundw
            case rel => exact ⟨j + 1, qn + 1, c4, _, rfl, by go_num, by omega, by omega, by rw [HS.out]; exact HN⟩
            case measure => simp [intOf]; omega
          · have HS : Hid (((D1.take (j + 1)).filter (fun i => Gr.lat bd (Gr.tl i L))).map (Value.int .i64) = O) := Lib.hid (by
              rw [HDN.out, HV.out, if_neg (by show ¬ Gr.lat _ _ = true; rw [HT.out.2.2.2.2.2.2.2, HLT.out]; simp [hcmp])])
            go_wp2_with fail
            go_roundw
            case rel => exact ⟨j + 1, qn, cq, rq, rfl, by go_num, by omega, by omega, Lib.hid (by rw [HS.out]; exact HJ.out.1)⟩
            case measure => simp [intOf]; omega
      · obtain rfl : j = n1 := by omega
        have i1 : ¬ (j : Int) < (j : Int) := by omega
        have HFD : Hid (D1.filter (fun i => Gr.lat bd (Gr.tl i L)) = D) := Lib.hid (by
          have h := HL.out.2.2.2.1
          first
            | rw [if_pos trivial] at h
            | rw [if_pos rfl] at h
          rw [← h, ← HI.out.1]
          rfl)
        have HFR : Hid (LI w wr rq qn cq (D.map (Value.int .i64)) ra D1) := Lib.hid (by
          have h := HB.out
          rw [List.take_of_length_le (l := D1) (by rw [HI.out.2]; exact Nat.le_refl _), HFD.out] at h
          exact h)
        have hqe : D.length = qn := by
          have := HFR.out.1.1
          rw [List.length_map] at this
          omega
        obtain rfl : qn = n := by rw [← hqe]; exact HL.out.2.2.2.2
        clear HB
        go_wp2_with fail
        go_ret
        first
          | exact ⟨rq, cq, rfl, RI.of_rm HFR.out.1 hqe, HFR.out.2.2.2⟩
          | exact ⟨rq, ⟨cq, rfl⟩, RI.of_rm HFR.out.1 hqe, HFR.out.2.2.2⟩
end Go.Proofs.Ytdchedkhlfmpeaa
