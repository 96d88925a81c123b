/- Grace: the document on Closed. -/
import Derived.Test.YtdchedkhlfmpeaaGr1
import Derived.WalkKit
import Derived.ProofKit
import Derived.Handy
import Derived.WalkLawsBesides
import Derived.WalkSpells
import Derived.Lib.Hide
import Derived.Lib.SliceRun
import Derived.Deep.RegionLaw
import Derived.RegionTactic
import Derived.ChangeAlike
import Derived.WalkSmall
import Derived.Deep.QuietTactic
import Derived.BigQuiet
import Derived.OwnWalk
import Derived.Outline
import Derived.Deep.CutRange
import Derived.Deep.CutBlock
import Derived.LoopTactic
namespace Go.Proofs.Ytdchedkhlfmpeaa
open Go.ChangeShapes Go.WideShapes Go.ChangeAt Go.RowKit
set_option linter.unusedSimpArgs false
set_option linter.unusedVariables false

/-- One of a kind stands among the first j. -/
def Gr.had (kd : Int) (L : List Ev) (j : Nat) : Prop := ∃ p x, p < j ∧ L[p]? = some x ∧ x.k = kd
/-- Somebody came behind a drain, or something behind a stop. -/
def Gr.wide (L : List Ev) (j : Nat) : Prop := ∃ q y, q < j ∧ L[q]? = some y ∧ ((Gr.had 7 L q ∧ y.k = 2) ∨ (Gr.had 9 L q ∧ ¬ y.k = 1 ∧ ¬ y.k = 3))
theorem Gr.had_step {kd : Int} {L : List Ev} {j : Nat} {x : Ev} (hx : L[j]? = some x) : Gr.had kd L (j + 1) ↔ (Gr.had kd L j ∨ x.k = kd) := by
  constructor
  · rintro ⟨p, y, h1, h2, h3⟩
    rcases Nat.lt_or_ge p j with h | h
    · exact Or.inl ⟨p, y, h, h2, h3⟩
    · obtain rfl : p = j := by omega
      rw [hx] at h2; injection h2 with h2; subst h2; exact Or.inr h3
  · rintro (⟨p, y, h1, h2⟩ | h)
    · exact ⟨p, y, by omega, h2⟩
    · exact ⟨j, x, by omega, hx, h⟩
theorem Gr.wide_step {L : List Ev} {j : Nat} {x : Ev} (hx : L[j]? = some x) : Gr.wide L (j + 1) ↔ (Gr.wide L j ∨ ((Gr.had 7 L j ∧ x.k = 2) ∨ (Gr.had 9 L j ∧ ¬ x.k = 1 ∧ ¬ x.k = 3))) := by
  constructor
  · rintro ⟨q, y, h1, h2, h3⟩
    rcases Nat.lt_or_ge q j with h | h
    · exact Or.inl ⟨q, y, h, h2, h3⟩
    · obtain rfl : q = j := by omega
      rw [hx] at h2; injection h2 with h2; subst h2; exact Or.inr h3
  · rintro (⟨q, y, h1, h2⟩ | h)
    · exact ⟨q, y, by omega, h2⟩
    · exact ⟨j, x, by omega, hx, h⟩
theorem Gr.wide_mono {L : List Ev} {i j : Nat} (h : i ≤ j) (hb : Gr.wide L i) : Gr.wide L j := by
  obtain ⟨q, y, h1, h2⟩ := hb
  exact ⟨q, y, by omega, h2⟩
theorem below_dnG {B : Nat} {w w' : World} (n : Nat) (h : Below B w w') : Below B w (w'.drewN n) := ⟨h.os, h.tape, h.output, h.size, h.block⟩
set_option maxRecDepth 20000 in
set_option maxHeartbeats 16000000 in
theorem rg_closed (a : Option Addr) (len cap : Nat) (L : List Ev) (hl : L.length = len) (hlm : len ≤ 1000000) (r : Bool) (hr : r = true ↔ ¬ Gr.wide L len) (w : World) (HE : EL w a L) :
    Calls Try.prog 31 #[.slice a len cap] w fun e w' => e = .returned (.bool r) ∧ Below w.heap.size w w' := by
  have HL := Lib.hid (And.intro hl (And.intro HE hr))
  clear hl HE hr
  go_enter Try.func31, Try.ntmps31
  go_wp2_with fail
  go_loopw [3, 4, 5] (fun u v z wr => ∃ (j : Nat) (dr st : Bool), u = .bool dr ∧ v = .bool st ∧ z = .int .i64 j ∧ j ≤ len ∧ Hid (¬ Gr.wide L j ∧ (dr = true ↔ Gr.had 7 L j) ∧ (st = true ↔ Gr.had 9 L j)) ∧ Hid (Below w.heap.size w wr)) (fun _ _ z _ => len - (intOf z).toNat)
  case atStart => exact ⟨0, false, false, rfl, rfl, rfl, by omega, Lib.hid ⟨fun ⟨_, _, h, _⟩ => absurd h (by omega), ⟨fun h => (by cases h), fun ⟨_, _, h, _⟩ => absurd h (by omega)⟩, ⟨fun h => (by cases h), fun ⟨_, _, h, _⟩ => absurd h (by omega)⟩⟩, Lib.hid (Below.refl _ _)⟩
  case round =>
    obtain ⟨j, dr, st, rfl, rfl, rfl, hj, HK, HB⟩ := hrel
    have i0 : (0 : Int) ≤ (j : Int) := by omega
    by_cases hjl : j < len
    · have i1 : (j : Int) < (len : Int) := by omega
      have w1 : IntKind.i64.wrap ((j : Int) + 1) = (j : Int) + 1 := IntWalk.i64_in _ (by omega)
      obtain ⟨k, i, n, t, b, e, s0, s1, s2, s3, s4, s5, es⟩ : ∃ k i n t b e s0 s1 s2 s3 s4 s5, L[j]? = some ⟨k, i, n, t, b, e, s0, s1, s2, s3, s4, s5⟩ := ⟨_, _, _, _, _, _, _, _, _, _, _, _, List.getElem?_eq_getElem (by rw [HL.out.1]; exact hjl)⟩
      obtain ⟨hb, ga, o, rfl, hgw, e0, e1, e2, e3, e4, e5, e6, e7, e8, e9, e10, e11⟩ := (HL.out.2.1.below HB.out).get es
      have HE := Lib.hid es
      clear es e1 e2 e3 e4 e5 e6 e7 e8 e9 e10 e11 hgw hb
      obtain ⟨b7, hb7⟩ : ∃ b7, (k == 7) = b7 := ⟨_, rfl⟩
      obtain ⟨b9, hb9⟩ : ∃ b9, (k == 9) = b9 := ⟨_, rfl⟩
      have kb7 := hb7
      have kb9 := hb9
      cases dr with
      | true =>
        cases st with
        | true =>
          by_cases hc2 : k = 2
          · have kb2 : (k == 2) = true := by simp [hc2]
            obtain rfl : false = r := by
              cases hr : r with
              | false => rfl
              | true => exact absurd (Gr.wide_mono (i := j + 1) (by omega) ((Gr.wide_step HE.out).2 (Or.inr (Or.inl ⟨HK.out.2.1.1 rfl, hc2⟩)))) (HL.out.2.2.1 hr)
            clear hb7 hb9 hc2
            go_wp2_with fail
            go_ret
            exact ⟨rfl, HB.out⟩
          · have kb2 : (k == 2) = false := by simp [hc2]
            by_cases hc1 : k = 1
            · have kb1 : (k != 1) = false := by simp [hc1]
              have HN : Hid (¬ Gr.wide L (j + 1) ∧ (true = true ↔ Gr.had 7 L (j + 1)) ∧ (true = true ↔ Gr.had 9 L (j + 1))) := Lib.hid ⟨by
                rw [Gr.wide_step HE.out]
                rintro (h | ⟨h, h2⟩ | ⟨h, h2, h3⟩)
                · exact HK.out.1 h
                · first | exact hc2 h2 | (have := HK.out.2.1.2 h; cases this)
                · first | exact h2 hc1 | exact h3 hc3 | (have := HK.out.2.2.2 h; cases this), by rw [Gr.had_step HE.out, ← HK.out.2.1]; simp [← hb7], by rw [Gr.had_step HE.out, ← HK.out.2.2]; simp [← hb9]⟩
              clear hb7 hb9 hc1 hc2
              go_upto_region 7 with fail
              go_quiet (fail)
              have HD := Lib.hid (below_dnG nq HB.out)
              clear HB
              go_wp2_with fail
              go_roundw
              case rel => exact ⟨j + 1, _, _, rfl, rfl, by go_num, by omega, HN, HD⟩
              case measure => simp [intOf]; omega
            · have kb1 : (k != 1) = true := by simp [hc1]
              by_cases hc3 : k = 3
              · have kb3 : (k != 3) = false := by simp [hc3]
                have HN : Hid (¬ Gr.wide L (j + 1) ∧ (true = true ↔ Gr.had 7 L (j + 1)) ∧ (true = true ↔ Gr.had 9 L (j + 1))) := Lib.hid ⟨by
                  rw [Gr.wide_step HE.out]
                  rintro (h | ⟨h, h2⟩ | ⟨h, h2, h3⟩)
                  · exact HK.out.1 h
                  · first | exact hc2 h2 | (have := HK.out.2.1.2 h; cases this)
                  · first | exact h2 hc1 | exact h3 hc3 | (have := HK.out.2.2.2 h; cases this), by rw [Gr.had_step HE.out, ← HK.out.2.1]; simp [← hb7], by rw [Gr.had_step HE.out, ← HK.out.2.2]; simp [← hb9]⟩
                clear hb7 hb9 hc1 hc3 hc2
                go_upto_region 7 with fail
                go_quiet (fail)
                have HD := Lib.hid (below_dnG nq HB.out)
                clear HB
                go_wp2_with fail
                go_roundw
                case rel => exact ⟨j + 1, _, _, rfl, rfl, by go_num, by omega, HN, HD⟩
                case measure => simp [intOf]; omega
              · have kb3 : (k != 3) = true := by simp [hc3]
                obtain rfl : false = r := by
                  cases hr : r with
                  | false => rfl
                  | true => exact absurd (Gr.wide_mono (i := j + 1) (by omega) ((Gr.wide_step HE.out).2 (Or.inr (Or.inr ⟨HK.out.2.2.1 rfl, hc1, hc3⟩)))) (HL.out.2.2.1 hr)
                clear hb7 hb9 hc1 hc3 hc2
                go_wp2_with fail
                go_ret
                exact ⟨rfl, HB.out⟩
        | false =>
          by_cases hc2 : k = 2
          · have kb2 : (k == 2) = true := by simp [hc2]
            obtain rfl : false = r := by
              cases hr : r with
              | false => rfl
              | true => exact absurd (Gr.wide_mono (i := j + 1) (by omega) ((Gr.wide_step HE.out).2 (Or.inr (Or.inl ⟨HK.out.2.1.1 rfl, hc2⟩)))) (HL.out.2.2.1 hr)
            clear hb7 hb9 hc2
            go_wp2_with fail
            go_ret
            exact ⟨rfl, HB.out⟩
          · have kb2 : (k == 2) = false := by simp [hc2]
            have HN : Hid (¬ Gr.wide L (j + 1) ∧ (true = true ↔ Gr.had 7 L (j + 1)) ∧ (b9 = true ↔ Gr.had 9 L (j + 1))) := Lib.hid ⟨by
              rw [Gr.wide_step HE.out]
              rintro (h | ⟨h, h2⟩ | ⟨h, h2, h3⟩)
              · exact HK.out.1 h
              · first | exact hc2 h2 | (have := HK.out.2.1.2 h; cases this)
              · first | exact h2 hc1 | exact h3 hc3 | (have := HK.out.2.2.2 h; cases this), by rw [Gr.had_step HE.out, ← HK.out.2.1]; simp [← hb7], by rw [Gr.had_step HE.out, ← HK.out.2.2]; simp [← hb9]⟩
            clear hb7 hb9 hc2
            go_upto_region 7 with fail
            go_quiet (fail)
            have HD := Lib.hid (below_dnG nq HB.out)
            clear HB
            go_wp2_with fail
            go_roundw
            case rel => exact ⟨j + 1, _, _, rfl, rfl, by go_num, by omega, HN, HD⟩
            case measure => simp [intOf]; omega
      | false =>
        cases st with
        | true =>
          by_cases hc1 : k = 1
          · have kb1 : (k != 1) = false := by simp [hc1]
            have HN : Hid (¬ Gr.wide L (j + 1) ∧ (b7 = true ↔ Gr.had 7 L (j + 1)) ∧ (true = true ↔ Gr.had 9 L (j + 1))) := Lib.hid ⟨by
              rw [Gr.wide_step HE.out]
              rintro (h | ⟨h, h2⟩ | ⟨h, h2, h3⟩)
              · exact HK.out.1 h
              · first | exact hc2 h2 | (have := HK.out.2.1.2 h; cases this)
              · first | exact h2 hc1 | exact h3 hc3 | (have := HK.out.2.2.2 h; cases this), by rw [Gr.had_step HE.out, ← HK.out.2.1]; simp [← hb7], by rw [Gr.had_step HE.out, ← HK.out.2.2]; simp [← hb9]⟩
            clear hb7 hb9 hc1 
            go_upto_region 7 with fail
            go_quiet (fail)
            have HD := Lib.hid (below_dnG nq HB.out)
            clear HB
            go_wp2_with fail
            go_roundw
            case rel => exact ⟨j + 1, _, _, rfl, rfl, by go_num, by omega, HN, HD⟩
            case measure => simp [intOf]; omega
          · have kb1 : (k != 1) = true := by simp [hc1]
            by_cases hc3 : k = 3
            · have kb3 : (k != 3) = false := by simp [hc3]
              have HN : Hid (¬ Gr.wide L (j + 1) ∧ (b7 = true ↔ Gr.had 7 L (j + 1)) ∧ (true = true ↔ Gr.had 9 L (j + 1))) := Lib.hid ⟨by
                rw [Gr.wide_step HE.out]
                rintro (h | ⟨h, h2⟩ | ⟨h, h2, h3⟩)
                · exact HK.out.1 h
                · first | exact hc2 h2 | (have := HK.out.2.1.2 h; cases this)
                · first | exact h2 hc1 | exact h3 hc3 | (have := HK.out.2.2.2 h; cases this), by rw [Gr.had_step HE.out, ← HK.out.2.1]; simp [← hb7], by rw [Gr.had_step HE.out, ← HK.out.2.2]; simp [← hb9]⟩
              clear hb7 hb9 hc1 hc3 
              go_upto_region 7 with fail
              go_quiet (fail)
              have HD := Lib.hid (below_dnG nq HB.out)
              clear HB
              go_wp2_with fail
              go_roundw
              case rel => exact ⟨j + 1, _, _, rfl, rfl, by go_num, by omega, HN, HD⟩
              case measure => simp [intOf]; omega
            · have kb3 : (k != 3) = true := by simp [hc3]
              obtain rfl : false = r := by
                cases hr : r with
                | false => rfl
                | true => exact absurd (Gr.wide_mono (i := j + 1) (by omega) ((Gr.wide_step HE.out).2 (Or.inr (Or.inr ⟨HK.out.2.2.1 rfl, hc1, hc3⟩)))) (HL.out.2.2.1 hr)
              clear hb7 hb9 hc1 hc3 
              go_wp2_with fail
              go_ret
              exact ⟨rfl, HB.out⟩
        | false =>
          have HN : Hid (¬ Gr.wide L (j + 1) ∧ (b7 = true ↔ Gr.had 7 L (j + 1)) ∧ (b9 = true ↔ Gr.had 9 L (j + 1))) := Lib.hid ⟨by
            rw [Gr.wide_step HE.out]
            rintro (h | ⟨h, h2⟩ | ⟨h, h2, h3⟩)
            · exact HK.out.1 h
            · first | exact hc2 h2 | (have := HK.out.2.1.2 h; cases this)
            · first | exact h2 hc1 | exact h3 hc3 | (have := HK.out.2.2.2 h; cases this), by rw [Gr.had_step HE.out, ← HK.out.2.1]; simp [← hb7], by rw [Gr.had_step HE.out, ← HK.out.2.2]; simp [← hb9]⟩
          clear hb7 hb9 
          go_upto_region 7 with fail
          go_quiet (fail)
          have HD := Lib.hid (below_dnG nq HB.out)
          clear HB
          go_wp2_with fail
          go_roundw
          case rel => exact ⟨j + 1, _, _, rfl, rfl, by go_num, by omega, HN, HD⟩
          case measure => simp [intOf]; omega
    · obtain rfl : j = len := by omega
      have i1 : ¬ (j : Int) < (j : Int) := by omega
      obtain rfl : true = r := by
        cases hr : r with
        | true => rfl
        | false => exact absurd (HL.out.2.2.2 HK.out.1) (by rw [hr]; simp)
      go_wp2_with fail
      go_ret
      exact ⟨rfl, HB.out⟩
end Go.Proofs.Ytdchedkhlfmpeaa
