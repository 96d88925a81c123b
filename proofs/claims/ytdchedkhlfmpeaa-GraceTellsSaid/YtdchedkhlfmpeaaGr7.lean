/- Grace: Begin; the last tick. -/
import Derived.Test.YtdchedkhlfmpeaaGr1
import Derived.Test.YtdchedkhlfmpeaaEv16
import Derived.WalkKit
import Derived.ProofKit
import Derived.Handy
import Derived.WalkLawsBesides
import Derived.WalkSpells
import Derived.Lib.Hide
import Derived.Lib.SliceRun
import Derived.Deep.RegionLaw
import Derived.RegionTactic
import Derived.ChangeAlike
import Derived.WalkSmall
import Derived.Deep.QuietTactic
import Derived.BigQuiet
import Derived.OwnWalk
import Derived.Outline
import Derived.Deep.CutRange
import Derived.Deep.CutBlock
import Derived.LoopTactic
namespace Go.Proofs.Ytdchedkhlfmpeaa
open Go.ChangeShapes Go.WideShapes Go.ChangeAt Go.RowKit
set_option linter.unusedSimpArgs false
set_option linter.unusedVariables false

theorem Ev.clks_last (L : List Ev) : ∀ j, j ≤ L.length → (Ev.clks (L.take j) = [] ∧ Ev.clock (L.take j) = 0) ∨ (∃ D, Ev.clks (L.take j) = D ++ [Ev.clock (L.take j)]) := by
  intro j
  induction j with
  | zero => intro _; left; rw [List.take_zero]; exact ⟨rfl, rfl⟩
  | succ j ih =>
    intro h
    have hx : L[j]? = some L[j] := List.getElem?_eq_getElem (by omega)
    rw [take_snocE hx, Ev.clks_snoc, Ev.clock_snoc]
    by_cases hk : L[j].k = 1
    · rw [if_pos hk, if_pos hk]
      exact Or.inr ⟨_, rfl⟩
    · rw [if_neg hk, if_neg hk]
      exact ih (by omega)
theorem Ev.clks_end (L : List Ev) : (Ev.clks L = [] ∧ Ev.clock L = 0) ∨ (0 < (Ev.clks L).length ∧ (Ev.clks L)[(Ev.clks L).length - 1]? = some (Ev.clock L)) := by
  have h := Ev.clks_last L L.length (Nat.le_refl _)
  rw [List.take_length] at h
  rcases h with h | ⟨D, h⟩
  · exact Or.inl h
  · right
    rw [h]
    simp
set_option maxRecDepth 20000 in
set_option maxHeartbeats 16000000 in
theorem gr_last (a : Option Addr) (len cap : Nat) (L : List Ev) (hl : L.length = len) (hlm : len ≤ 100000) (r : Int) (hr : Ev.clock L = r) (w : World) (HE : EL w a L) :
    Calls Try.prog 48 #[.slice a len cap] w fun e w' => e = .returned (.int .i64 r) ∧ Below w.heap.size w w' := by
  obtain ⟨D, hD⟩ : ∃ D, Ev.clks L = D := ⟨_, rfl⟩
  obtain ⟨n, hn⟩ : ∃ n, D.length = n := ⟨_, rfl⟩
  have hc := Ev.clks_end L
  rw [hD, hr, hn] at hc
  have hnl : n ≤ 100000 := by
    rw [← hn, ← hD]
    unfold Ev.clks
    rw [List.length_map]
    exact Nat.le_trans (List.length_filter_le _ _) (by rw [hl]; exact hlm)
  have HL := Lib.hid (And.intro hl (And.intro hD (And.intro hn HE)))
  clear hl hr HE
  rcases hc with ⟨h1, rfl⟩ | ⟨h1, h2⟩
  · obtain rfl : 0 = n := by rw [← hn, h1]; rfl
    clear h1 hn hD
    go_enter Try.func48, Try.ntmps48
    go_wp2_with (go_at_call 16; (with_reducible refine (pj_clocks a len cap L HL.out.1 hlm D HL.out.2.1 0 HL.out.2.2.1 _ HL.out.2.2.2).mono ?_); rintro r4 W4 ⟨ra, ca, rfl, p1, hb4⟩; have HB := Lib.hid hb4; clear hb4 p1)
    go_ret
    exact ⟨rfl, HB.out⟩
  · have b0 : ((n : Int) == 0) = false := by simp; omega
    have b1 : ¬ (n : Int) = 0 := by omega
    have b2 : ¬ n = 0 := by omega
    obtain ⟨m, hm⟩ : ∃ m, n - 1 = m := ⟨_, rfl⟩
    have hmn : m < n := by omega
    have w1 : (n : Int) - 1 = (m : Int) := by omega
    have w2 : IntKind.i64.wrap ((n : Int) - 1) = (m : Int) := by rw [w1]; exact IntWalk.i64_in _ (by omega)
    have w3 : IntKind.i64.wrap (m : Int) = (m : Int) := IntWalk.i64_in _ (by omega)
    have i1 : (m : Int) < (n : Int) := by omega
    have i0 : (0 : Int) ≤ (m : Int) := by omega
    rw [hm] at h2
    have H2 := Lib.hid h2
    clear h1 h2 hn hD hm
    go_enter Try.func48, Try.ntmps48
    go_wp2_with (go_at_call 16; (with_reducible refine (pj_clocks a len cap L HL.out.1 hlm D HL.out.2.1 n HL.out.2.2.1 _ HL.out.2.2.2).mono ?_); rintro r4 W4 ⟨ra, ca, rfl, p1, hb4⟩; obtain ⟨g5, o5, rfl, hg5, c5⟩ := p1 m _ H2.out; have HB := Lib.hid hb4; clear hb4 p1)
    go_ret
    exact ⟨rfl, HB.out⟩
set_option maxRecDepth 20000 in
set_option maxHeartbeats 16000000 in
theorem rg_last (a : Option Addr) (len cap : Nat) (L : List Ev) (hl : L.length = len) (hlm : len ≤ maxLen) (r : Int) (hr : Ev.clock L = r) (w : World) (HE : EL w a L) :
    Calls Try.prog 51 #[.slice a len cap] w fun e w' => e = .returned (.int .i64 r) ∧ w' = w := by
  unfold maxLen at hlm
  have HL := Lib.hid (And.intro hl (And.intro HE hr))
  clear hl HE hr
  have w1 : IntKind.i64.wrap ((len : Int) - 1) = (len : Int) - 1 := IntWalk.i64_in _ (by omega)
  go_enter Try.func51, Try.ntmps51
  go_wp2_with fail
  clear w1
  go_loopw [3] (fun z wr => ∃ j : Nat, z = .int .i64 ((j : Int) - 1) ∧ j ≤ len ∧ wr = w ∧ Hid (∀ q y, j ≤ q → L[q]? = some y → y.k ≠ 1)) (fun z _ => (intOf z + 1).toNat)
  case atStart => exact ⟨len, rfl, by omega, rfl, Lib.hid (fun q y hq hy => by have := (List.getElem?_eq_some_iff.1 hy).1; rw [HL.out.1] at this; omega)⟩
  case round =>
    obtain ⟨j, rfl, hj, rfl, HK⟩ := hrel
    cases j with
    | zero =>
      have i0 : ¬ (0 : Int) ≤ ((0 : Nat) : Int) - 1 := by omega
      obtain rfl : 0 = r := by rw [← HL.out.2.2]; exact (Ev.clock_none (fun q y hy => HK.out q y (by omega) hy)).symm
      go_wp2_with fail
      go_ret
      exact ⟨rfl, rfl⟩
    | succ j =>
      rw [show (((j + 1 : Nat) : Int) - 1) = (j : Int) by omega]
      have i0 : (0 : Int) ≤ (j : Int) := by omega
      have i1 : (j : Int) < (len : Int) := by omega
      have i2 : j < len := by omega
      have w1 : IntKind.i64.wrap ((j : Int) - 1) = (j : Int) - 1 := IntWalk.i64_in _ (by omega)
      obtain ⟨k, i, n, t, b, e, s0, s1, s2, s3, s4, s5, es⟩ : ∃ k i n t b e s0 s1 s2 s3 s4 s5, L[j]? = some ⟨k, i, n, t, b, e, s0, s1, s2, s3, s4, s5⟩ := ⟨_, _, _, _, _, _, _, _, _, _, _, _, List.getElem?_eq_getElem (by rw [HL.out.1]; omega)⟩
      obtain ⟨hb, ga, o, rfl, hgw, e0, e1, e2, e3, e4, e5, e6, e7, e8, e9, e10, e11⟩ := HL.out.2.1.get es
      have HV := Lib.hid es
      clear es e1 e2 e4 e5 e6 e7 e8 e9 e10 e11
      by_cases hk : k = 1
      · subst hk
        obtain rfl : t = r := by rw [← HL.out.2.2]; exact (Ev.clock_back HL.out.1 HV.out rfl (fun q y hq hy => HK.out q y (by omega) hy)).symm
        go_wp2_with fail
        go_ret
        exact ⟨rfl, rfl⟩
      · have hk2 : (k == 1) = false := by simp [hk]
        have HK2 : Hid (∀ q y, j ≤ q → L[q]? = some y → y.k ≠ 1) := Lib.hid (fun q y hq hy => by
          by_cases e : q = j
          · rw [e, HV.out] at hy; rw [← Option.some.inj hy]; exact hk
          · exact HK.out q y (by omega) hy)
        go_wp2_with fail
        go_roundw
        case rel => exact ⟨j, by go_num, by omega, by trivial, HK2⟩
        case measure => first | (simp [intOf]; done) | (simp [intOf]; omega)
set_option maxRecDepth 20000 in
set_option maxHeartbeats 16000000 in
theorem gr_begin (a : Option Addr) (len cap : Nat) (L : List Ev) (hl : L.length = len) (hlm : len ≤ 1000000) (t : Int) (ok : Bool) (hb : (match L[Gr.fst 7 L]? with | some x => (x.t, true) | none => (0, false)) = (t, ok)) (w : World) (HE : EL w a L) :
    Calls Try.prog 23 #[.slice a len cap] w fun e w' => e = .returned (.tuple #[.int .i64 t, .bool ok]) ∧ Below w.heap.size w w' := by
  obtain ⟨f, hf⟩ : ∃ f, Gr.fst 7 L = f := ⟨_, rfl⟩
  have hfl : f ≤ len := by rw [← hf, ← hl]; exact Gr.fst_le _ _
  have hlm2 : len ≤ maxLen := by unfold maxLen; omega
  rw [hf] at hb
  have HL := Lib.hid (And.intro hl (And.intro HE hf))
  by_cases hfe : f = len
  · have h2 : L[f]? = none := List.getElem?_eq_none (by omega)
    rw [h2] at hb
    injection hb with hb1 hb2
    subst hb1 hb2 hfe
    clear hl HE hf h2
    go_enter Try.func23, Try.ntmps23
    go_wp2_with (go_at_call 52; (with_reducible refine (gr_first a f cap L HL.out.1 hlm2 7 f HL.out.2.2 _ HL.out.2.1).mono ?_); rintro r4 W4 ⟨rfl, hb4⟩; have HB := Lib.hid hb4; clear hb4)
    go_ret2
    exact ⟨rfl, HB.out⟩
  · have hlt : f < len := by omega
    obtain ⟨k, i, n, t, b, e, s0, s1, s2, s3, s4, s5, es⟩ : ∃ k i n t b e s0 s1 s2 s3 s4 s5, L[f]? = some ⟨k, i, n, t, b, e, s0, s1, s2, s3, s4, s5⟩ := ⟨_, _, _, _, _, _, _, _, _, _, _, _, List.getElem?_eq_getElem (by rw [hl]; exact hlt)⟩
    rw [es] at hb
    injection hb with hb1 hb2
    dsimp only at hb1
    subst hb1 hb2
    have HX := Lib.hid es
    have b0 : ((f : Int) == (len : Int)) = false := by simp; omega
    have b1 : ¬ (f : Int) = (len : Int) := by omega
    have i1 : (f : Int) < (len : Int) := by omega
    have i0 : (0 : Int) ≤ (f : Int) := by omega
    clear hl HE hf es
    go_enter Try.func23, Try.ntmps23
    go_wp2_with (go_at_call 52; (with_reducible refine (gr_first a len cap L HL.out.1 hlm2 7 f HL.out.2.2 _ HL.out.2.1).mono ?_); rintro r4 W4 ⟨rfl, hb4⟩; obtain ⟨hb, ga, o, rfl, hgw, e0, e1, e2, e3, e4, e5, e6, e7, e8, e9, e10, e11⟩ := (HL.out.2.1.below hb4).get HX.out; have HB := Lib.hid hb4; clear hb4)
    go_ret2
    exact ⟨rfl, HB.out⟩
end Go.Proofs.Ytdchedkhlfmpeaa
