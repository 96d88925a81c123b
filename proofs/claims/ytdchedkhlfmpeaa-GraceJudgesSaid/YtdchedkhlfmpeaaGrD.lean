/- Several texts in one. -/
import Derived.Test.YtdchedkhlfmpeaaEv3
import Derived.WalkKit
import Derived.ProofKit
import Derived.Handy
import Derived.WalkLawsBesides
import Derived.WalkSpells
import Derived.Lib.Hide
import Derived.Lib.SliceRun
import Derived.Deep.RegionLaw
import Derived.RegionTactic
import Derived.ChangeAlike
import Derived.WalkSmall
import Derived.Deep.QuietTactic
import Derived.BigQuiet
import Derived.OwnWalk
import Derived.Outline
import Derived.Deep.CutRange
import Derived.Deep.CutBlock
import Derived.LoopTactic
/- Grace: Once. -/
namespace Go.Proofs.Ytdchedkhlfmpeaa
open Go.ChangeShapes Go.WideShapes Go.ChangeAt Go.RowKit
set_option linter.unusedSimpArgs false
set_option linter.unusedVariables false

/-- A step of his. -/
def Gr.mine (id : Int) (x : Ev) : Prop := x.k = 8 ∧ x.i = id
/-- He did a step behind one by which he ended. -/
def Gr.bad (id : Int) (L : List Ev) (j : Nat) : Prop := ∃ p q x y, p < q ∧ q < j ∧ L[p]? = some x ∧ L[q]? = some y ∧ Gr.mine id x ∧ Gr.mine id y ∧ ¬ x.s5 = 0
def Gr.over (id : Int) (L : List Ev) (j : Nat) : Prop := ∃ p x, p < j ∧ L[p]? = some x ∧ Gr.mine id x ∧ ¬ x.s5 = 0
theorem Gr.not_mine {id : Int} {L : List Ev} {j : Nat} {x : Ev} (hx : L[j]? = some x) (hm : ¬ Gr.mine id x) : (Gr.bad id L (j + 1) ↔ Gr.bad id L j) ∧ (Gr.over id L (j + 1) ↔ Gr.over id L j) := by
  constructor
  · constructor
    · rintro ⟨p, q, u, v, h1, h2, h3, h4, h5, h6, h7⟩
      refine ⟨p, q, u, v, h1, ?_, h3, h4, h5, h6, h7⟩
      rcases Nat.lt_or_ge q j with h | h
      · exact h
      · obtain rfl : q = j := by omega
        rw [hx] at h4; injection h4 with h4; subst h4; exact absurd h6 hm
    · rintro ⟨p, q, u, v, h1, h2, h3⟩
      exact ⟨p, q, u, v, h1, by omega, h3⟩
  · constructor
    · rintro ⟨p, u, h1, h3, h4, h5⟩
      refine ⟨p, u, ?_, h3, h4, h5⟩
      rcases Nat.lt_or_ge p j with h | h
      · exact h
      · obtain rfl : p = j := by omega
        rw [hx] at h3; injection h3 with h3; subst h3; exact absurd h4 hm
    · rintro ⟨p, u, h1, h2⟩
      exact ⟨p, u, by omega, h2⟩
theorem Gr.mine_over {id : Int} {L : List Ev} {j : Nat} {x : Ev} (hx : L[j]? = some x) (hm : Gr.mine id x) (ho : Gr.over id L j) : Gr.bad id L (j + 1) := by
  obtain ⟨p, u, h1, h2, h3, h4⟩ := ho
  exact ⟨p, j, u, x, h1, by omega, h2, hx, h3, hm, h4⟩
theorem Gr.mine_fine {id : Int} {L : List Ev} {j : Nat} {x : Ev} (hx : L[j]? = some x) (hm : Gr.mine id x) (ho : ¬ Gr.over id L j) (hb : ¬ Gr.bad id L j) : ¬ Gr.bad id L (j + 1) ∧ (Gr.over id L (j + 1) ↔ ¬ x.s5 = 0) := by
  constructor
  · rintro ⟨p, q, u, v, h1, h2, h3, h4, h5, h6, h7⟩
    rcases Nat.lt_or_ge q j with h | h
    · exact hb ⟨p, q, u, v, h1, h, h3, h4, h5, h6, h7⟩
    · exact ho ⟨p, u, by omega, h3, h5, h7⟩
  · constructor
    · rintro ⟨p, u, h1, h3, h4, h5⟩
      rcases Nat.lt_or_ge p j with h | h
      · exact absurd ⟨p, u, h, h3, h4, h5⟩ ho
      · obtain rfl : p = j := by omega
        rw [hx] at h3; injection h3 with h3; subst h3; exact h5
    · intro h
      exact ⟨j, x, by omega, hx, hm, h⟩
theorem Gr.bad_mono {id : Int} {L : List Ev} {i j : Nat} (h : i ≤ j) (hb : Gr.bad id L i) : Gr.bad id L j := by
  obtain ⟨p, q, u, v, h1, h2, h3⟩ := hb
  exact ⟨p, q, u, v, h1, by omega, h3⟩
set_option maxRecDepth 20000 in
set_option maxHeartbeats 16000000 in
theorem gr_once (a : Option Addr) (len cap : Nat) (L : List Ev) (hl : L.length = len) (hlm : len ≤ 1000000) (id : Int) (r : Bool) (hr : r = true ↔ ¬ Gr.bad id L len) (w : World) (HE : EL w a L) :
    Calls Try.prog 32 #[.slice a len cap, .int .i64 id] w fun e w' => e = .returned (.bool r) ∧ Below w.heap.size w w' := by
  have HL := Lib.hid (And.intro hl (And.intro HE hr))
  clear hl HE hr
  go_enter Try.func32, Try.ntmps32
  go_wp2_with fail
  go_loopw [5, 7, 10] (fun s _ z wr => ∃ (j : Nat) (en : Bool), s = .bool en ∧ z = .int .i64 j ∧ j ≤ len ∧ Hid (¬ Gr.bad id L j ∧ (en = true ↔ Gr.over id L j)) ∧ Hid (Below w.heap.size w wr)) (fun _ _ z _ => len - (intOf z).toNat)
  case atStart => exact ⟨0, false, rfl, rfl, by omega, Lib.hid ⟨fun ⟨_, _, _, _, _, h, _⟩ => absurd h (by omega), ⟨fun h => (by cases h), fun ⟨_, _, h, _⟩ => absurd h (by omega)⟩⟩, Lib.hid (Below.refl _ _)⟩
  case round =>
    obtain ⟨j, en, rfl, rfl, hj, HK, HB⟩ := hrel
    have i0 : (0 : Int) ≤ (j : Int) := by omega
    by_cases hjl : j < len
    · have i1 : (j : Int) < (len : Int) := by omega
      have w1 : IntKind.i64.wrap ((j : Int) + 1) = (j : Int) + 1 := IntWalk.i64_in _ (by omega)
      obtain ⟨k, i, n, t, b, e, s0, s1, s2, s3, s4, s5, es⟩ : ∃ k i n t b e s0 s1 s2 s3 s4 s5, L[j]? = some ⟨k, i, n, t, b, e, s0, s1, s2, s3, s4, s5⟩ := ⟨_, _, _, _, _, _, _, _, _, _, _, _, List.getElem?_eq_getElem (by rw [HL.out.1]; exact hjl)⟩
      obtain ⟨hb, ga, o, rfl, hgw, e0, e1, e2, e3, e4, e5, e6, e7, e8, e9, e10, e11⟩ := (HL.out.2.1.below HB.out).get es
      have HX : Hid (Blk (wr.alloc (.cells #[.int .i64 k, .int .i64 i, .int .i64 n, .int .i64 t, .string b, .int .i64 e, .int .i64 s0, .int .i64 s1, .int .i64 s2, .int .i64 s3, .int .i64 s4, .int .i64 s5] 47)) wr.heap.size [.int .i64 k, .int .i64 i, .int .i64 n, .int .i64 t, .string b, .int .i64 e, .int .i64 s0, .int .i64 s1, .int .i64 s2, .int .i64 s3, .int .i64 s4, .int .i64 s5] 47 ∧ Below w.heap.size w (wr.alloc (.cells #[.int .i64 k, .int .i64 i, .int .i64 n, .int .i64 t, .string b, .int .i64 e, .int .i64 s0, .int .i64 s1, .int .i64 s2, .int .i64 s3, .int .i64 s4, .int .i64 s5] 47))) := Lib.hid ⟨Blk.newA _ _ _, HB.out.alloc HB.out.size _⟩
      go_upto_region 5 with fail
      have HE := Lib.hid es
      clear e0 e1 e2 e3 e4 e5 e6 e7 e8 e9 e10 e11 hgw hb HB es
      revert HX
      generalize (wr.alloc (.cells #[.int .i64 k, .int .i64 i, .int .i64 n, .int .i64 t, .string b, .int .i64 e, .int .i64 s0, .int .i64 s1, .int .i64 s2, .int .i64 s3, .int .i64 s4, .int .i64 s5] 47)) = W1
      generalize wr.heap.size = X
      intro HX
      have d0 := HX.out.1.cell (i := 0) rfl
      have d1 := HX.out.1.cell (i := 1) rfl
      have d11 := HX.out.1.cell (i := 11) rfl
      by_cases hk : k = 8
      · have kb : (k != 8) = false := by simp [hk]
        by_cases hi : i = id
        · have ib : (i != id) = false := by simp [hi]
          have hm : Gr.mine id ⟨k, i, n, t, b, e, s0, s1, s2, s3, s4, s5⟩ := ⟨hk, hi⟩
          cases en with
          | true =>
            have hbad := Gr.mine_over HE.out hm (HK.out.2.1 rfl)
            obtain rfl : false = r := by
              cases hr : r with
              | false => rfl
              | true => exact absurd (Gr.bad_mono (by omega) hbad) (HL.out.2.2.1 hr)
            clear hbad hm hk hi
            go_wp2_with fail
            go_ret
            exact ⟨rfl, HX.out.2⟩
          | false =>
            have hf := Gr.mine_fine HE.out hm (fun h => by have := HK.out.2.2 h; cases this) HK.out.1
            obtain ⟨bv, hbv⟩ : ∃ bv, (s5 != 0) = bv := ⟨_, rfl⟩
            have HF : Hid (¬ Gr.bad id L (j + 1) ∧ (bv = true ↔ Gr.over id L (j + 1))) := Lib.hid ⟨hf.1, by rw [hf.2, ← hbv]; simp⟩
            clear hf hm hk hi
            go_wp2_with fail
            go_roundw
            case rel => exact ⟨j + 1, bv, rfl, by go_num, by omega, HF, Lib.hid HX.out.2⟩
            case measure => simp [intOf]; omega
        · have ib : (i != id) = true := by simp [hi]
          have hn := Gr.not_mine (id := id) HE.out (fun h => hi h.2)
          have HF : Hid (¬ Gr.bad id L (j + 1) ∧ (en = true ↔ Gr.over id L (j + 1))) := Lib.hid ⟨by rw [hn.1]; exact HK.out.1, by rw [hn.2]; exact HK.out.2⟩
          clear hn hk hi
          go_wp2_with fail
          go_roundw
          case rel => exact ⟨j + 1, en, rfl, by go_num, by omega, HF, Lib.hid HX.out.2⟩
          case measure => simp [intOf]; omega
      · have kb : (k != 8) = true := by simp [hk]
        have hn := Gr.not_mine (id := id) HE.out (fun h => hk h.1)
        have HF : Hid (¬ Gr.bad id L (j + 1) ∧ (en = true ↔ Gr.over id L (j + 1))) := Lib.hid ⟨by rw [hn.1]; exact HK.out.1, by rw [hn.2]; exact HK.out.2⟩
        clear hn hk
        go_wp2_with fail
        go_roundw
        case rel => exact ⟨j + 1, en, rfl, by go_num, by omega, HF, Lib.hid HX.out.2⟩
        case measure => simp [intOf]; omega
    · obtain rfl : j = len := by omega
      have i1 : ¬ (j : Int) < (j : Int) := by omega
      obtain rfl : true = r := by
        cases hr : r with
        | true => rfl
        | false => exact absurd (HL.out.2.2.2 HK.out.1) (by rw [hr]; simp)
      go_wp2_with fail
      go_ret
      exact ⟨rfl, HB.out⟩
end Go.Proofs.Ytdchedkhlfmpeaa
/- Grace: the document on Once. -/
namespace Go.Proofs.Ytdchedkhlfmpeaa
open Go.ChangeShapes Go.WideShapes Go.ChangeAt Go.RowKit
set_option linter.unusedSimpArgs false
set_option linter.unusedVariables false

set_option maxRecDepth 20000 in
set_option maxHeartbeats 16000000 in
theorem rg_once (a : Option Addr) (len cap : Nat) (L : List Ev) (hl : L.length = len) (hlm : len ≤ 1000000) (id : Int) (r : Bool) (hr : r = true ↔ ¬ Gr.bad id L len) (w : World) (HE : EL w a L) :
    Calls Try.prog 33 #[.slice a len cap, .int .i64 id] w fun e w' => e = .returned (.bool r) ∧ Below w.heap.size w w' := by
  have HL := Lib.hid (And.intro hl (And.intro HE hr))
  clear hl HE hr
  go_enter Try.func33, Try.ntmps33
  go_wp2_with fail
  go_loopw [5, 6] (fun z _ wr => ∃ j : Nat, z = .int .i64 j ∧ j ≤ len ∧ Hid (¬ Gr.bad id L j) ∧ Hid (Below w.heap.size w wr)) (fun z _ _ => len - (intOf z).toNat)
  case atStart => exact ⟨0, rfl, by omega, Lib.hid (fun ⟨_, _, _, _, _, h, _⟩ => absurd h (by omega)), Lib.hid (Below.refl _ _)⟩
  case round =>
    obtain ⟨j, rfl, hj, HK, HB⟩ := hrel
    have i0 : (0 : Int) ≤ (j : Int) := by omega
    by_cases hjl : j < len
    · have i1 : (j : Int) < (len : Int) := by omega
      have w1 : IntKind.i64.wrap ((j : Int) + 1) = (j : Int) + 1 := IntWalk.i64_in _ (by omega)
      obtain ⟨k, i, n, t, b, e, s0, s1, s2, s3, s4, s5, es⟩ : ∃ k i n t b e s0 s1 s2 s3 s4 s5, L[j]? = some ⟨k, i, n, t, b, e, s0, s1, s2, s3, s4, s5⟩ := ⟨_, _, _, _, _, _, _, _, _, _, _, _, List.getElem?_eq_getElem (by rw [HL.out.1]; exact hjl)⟩
      have HJ := Lib.hid es
      clear es
      obtain ⟨WO, rfl⟩ : ∃ WO, WO = wr := ⟨_, rfl⟩
      go_wp2_with fail
      go_loopw [6] (fun z wr => ∃ q : Nat, z = .int .i64 q ∧ q ≤ j ∧ Hid (∀ p y, p < q → L[p]? = some y → ¬ (Gr.mine id ⟨k, i, n, t, b, e, s0, s1, s2, s3, s4, s5⟩ ∧ Gr.mine id y ∧ ¬ y.s5 = 0)) ∧ Hid (Below w.heap.size w wr)) (fun z _ => j - (intOf z).toNat)
      case atStart => exact ⟨0, rfl, by omega, Lib.hid (fun p y hp => by omega), HB⟩
      case round =>
        obtain ⟨q, rfl, hq, HK2, HC⟩ := hrel
        have q0' : (0 : Int) ≤ (q : Int) := by omega
        by_cases hqj : q < j
        · have j1 : (q : Int) < (j : Int) := by omega
          have j2 : (q : Int) < (len : Int) := by omega
          have w2 : IntKind.i64.wrap ((q : Int) + 1) = (q : Int) + 1 := IntWalk.i64_in _ (by omega)
          obtain ⟨k2, i2, n2, t2, b2, f2, r0, r1, r2, r3, r4, r5, fs⟩ : ∃ k2 i2 n2 t2 b2 f2 r0 r1 r2 r3 r4 r5, L[q]? = some ⟨k2, i2, n2, t2, b2, f2, r0, r1, r2, r3, r4, r5⟩ := ⟨_, _, _, _, _, _, _, _, _, _, _, _, List.getElem?_eq_getElem (by rw [HL.out.1]; omega)⟩
          obtain ⟨hb, ga, o, rfl, hgw, e0, e1, e2, e3, e4, e5, e6, e7, e8, e9, e10, e11⟩ := (HL.out.2.1.below HC.out).get HJ.out
          obtain ⟨hb2, ga2, o2, heq, hgw2, g0, g1, g2, g3, g4, g5, g6, g7, g8, g9, g10, g11⟩ := (HL.out.2.1.below HC.out).get fs
          injection heq with heq
          injection heq with qq1 qq2 _
          subst qq1 qq2
          have HE := Lib.hid (And.intro HJ.out fs)
          clear fs e2 e3 e4 e5 e6 e7 e8 e9 e10 e11 g2 g3 g4 g5 g6 g7 g8 g9 g10 hb hb2 hgw hgw2
          by_cases hk : k = 8
          · have kb : (k == 8) = true := by simp [hk]
            by_cases hi : i = id
            · have ib : (i == id) = true := by simp [hi]
              by_cases hk2 : k2 = 8
              · have kb2 : (k2 == 8) = true := by simp [hk2]
                by_cases hi2 : i2 = id
                · have ib2 : (i2 == id) = true := by simp [hi2]
                  by_cases hs : r5 = 0
                  · have sb : (r5 != 0) = false := by simp [hs]
                    have HN : Hid (∀ p y, p < q + 1 → L[p]? = some y → ¬ (Gr.mine id ⟨k, i, n, t, b, e, s0, s1, s2, s3, s4, s5⟩ ∧ Gr.mine id y ∧ ¬ y.s5 = 0)) := Lib.hid (fun p y hp hy => by
                      by_cases e : p = q
                      · rw [e, HE.out.2] at hy
                        injection hy with hy
                        subst hy
                        rintro ⟨h1, h2, h3⟩
                        exact h3 hs
                      · exact HK2.out p y (by omega) hy)
                    clear hk hi hk2 hi2 hs
                    go_wp2_with fail
                    go_roundw
                    case rel => exact ⟨q + 1, by go_num, by omega, HN, HC⟩
                    case measure => simp [intOf]; omega
                  · have sb : (r5 != 0) = true := by simp [hs]
                    obtain rfl : false = r := by
                      cases hr : r with
                      | false => rfl
                      | true => exact absurd ⟨q, j, _, _, hqj, hjl, HE.out.2, HE.out.1, ⟨hk2, hi2⟩, ⟨hk, hi⟩, hs⟩ (HL.out.2.2.1 hr)
                    clear hk hi hk2 hi2 hs
                    go_wp2_with fail
                    go_ret
                    exact ⟨rfl, HC.out⟩
                · have ib2 : (i2 == id) = false := by simp [hi2]
                  have HN : Hid (∀ p y, p < q + 1 → L[p]? = some y → ¬ (Gr.mine id ⟨k, i, n, t, b, e, s0, s1, s2, s3, s4, s5⟩ ∧ Gr.mine id y ∧ ¬ y.s5 = 0)) := Lib.hid (fun p y hp hy => by
                    by_cases e : p = q
                    · rw [e, HE.out.2] at hy
                      injection hy with hy
                      subst hy
                      rintro ⟨h1, h2, h3⟩
                      exact hi2 h2.2
                    · exact HK2.out p y (by omega) hy)
                  clear hk hi hk2 hi2
                  go_wp2_with fail
                  go_roundw
                  case rel => exact ⟨q + 1, by go_num, by omega, HN, HC⟩
                  case measure => simp [intOf]; omega
              · have kb2 : (k2 == 8) = false := by simp [hk2]
                have HN : Hid (∀ p y, p < q + 1 → L[p]? = some y → ¬ (Gr.mine id ⟨k, i, n, t, b, e, s0, s1, s2, s3, s4, s5⟩ ∧ Gr.mine id y ∧ ¬ y.s5 = 0)) := Lib.hid (fun p y hp hy => by
                  by_cases e : p = q
                  · rw [e, HE.out.2] at hy
                    injection hy with hy
                    subst hy
                    rintro ⟨h1, h2, h3⟩
                    exact hk2 h2.1
                  · exact HK2.out p y (by omega) hy)
                clear hk hi hk2
                go_wp2_with fail
                go_roundw
                case rel => exact ⟨q + 1, by go_num, by omega, HN, HC⟩
                case measure => simp [intOf]; omega
            · have ib : (i == id) = false := by simp [hi]
              have HN : Hid (∀ p y, p < q + 1 → L[p]? = some y → ¬ (Gr.mine id ⟨k, i, n, t, b, e, s0, s1, s2, s3, s4, s5⟩ ∧ Gr.mine id y ∧ ¬ y.s5 = 0)) := Lib.hid (fun p y hp hy => by
                by_cases e : p = q
                · rw [e, HE.out.2] at hy
                  injection hy with hy
                  subst hy
                  rintro ⟨h1, h2, h3⟩
                  exact hi h1.2
                · exact HK2.out p y (by omega) hy)
              clear hk hi
              go_wp2_with fail
              go_roundw
              case rel => exact ⟨q + 1, by go_num, by omega, HN, HC⟩
              case measure => simp [intOf]; omega
          · have kb : (k == 8) = false := by simp [hk]
            have HN : Hid (∀ p y, p < q + 1 → L[p]? = some y → ¬ (Gr.mine id ⟨k, i, n, t, b, e, s0, s1, s2, s3, s4, s5⟩ ∧ Gr.mine id y ∧ ¬ y.s5 = 0)) := Lib.hid (fun p y hp hy => by
              by_cases e : p = q
              · rw [e, HE.out.2] at hy
                injection hy with hy
                subst hy
                rintro ⟨h1, h2, h3⟩
                exact hk h1.1
              · exact HK2.out p y (by omega) hy)
            clear hk
            go_wp2_with fail
            go_roundw
            case rel => exact ⟨q + 1, by go_num, by omega, HN, HC⟩
            case measure => simp [intOf]; omega
        · obtain rfl : q = j := by omega
          have j1 : ¬ (q : Int) < (q : Int) := by omega
          have HF : Hid (¬ Gr.bad id L (q + 1)) := Lib.hid (by
            rintro ⟨p, u, x, y, h1, h2, h3, h4, h5, h6, h7⟩
            rcases Nat.lt_or_ge u q with h | h
            · exact HK.out ⟨p, u, x, y, h1, h, h3, h4, h5, h6, h7⟩
            · obtain rfl : u = q := by omega
              rw [HJ.out] at h4
              injection h4 with h4
              subst h4
              exact HK2.out p x h1 h3 ⟨h6, h5, h7⟩)
          go_wp2_with fail
          go_roundw
          case rel => exact ⟨q + 1, by go_num, by omega, HF, HC⟩
          case measure => simp [intOf]; omega
    · obtain rfl : j = len := by omega
      have i1 : ¬ (j : Int) < (j : Int) := by omega
      obtain rfl : true = r := by
        cases hr : r with
        | true => rfl
        | false => exact absurd (HL.out.2.2.2 HK.out) (by rw [hr]; simp)
      go_wp2_with fail
      go_ret
      exact ⟨rfl, HB.out⟩
end Go.Proofs.Ytdchedkhlfmpeaa
