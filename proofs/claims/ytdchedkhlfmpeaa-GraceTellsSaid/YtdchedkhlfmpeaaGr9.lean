/- Grace: Stops. -/
import Derived.Test.YtdchedkhlfmpeaaGr8
import Derived.Test.YtdchedkhlfmpeaaGr5
import Derived.WalkKit
import Derived.ProofKit
import Derived.Handy
import Derived.WalkLawsBesides
import Derived.WalkSpells
import Derived.Lib.Hide
import Derived.Lib.SliceRun
import Derived.Deep.RegionLaw
import Derived.RegionTactic
import Derived.ChangeAlike
import Derived.WalkSmall
import Derived.Deep.QuietTactic
import Derived.BigQuiet
import Derived.OwnWalk
import Derived.Outline
import Derived.Deep.CutRange
import Derived.Deep.CutBlock
import Derived.LoopTactic
namespace Go.Proofs.Ytdchedkhlfmpeaa
open Go.ChangeShapes Go.WideShapes Go.ChangeAt Go.RowKit
set_option linter.unusedSimpArgs false
set_option linter.unusedVariables false

/-- A round began among the first j. -/
def Gr.bgn (L : List Ev) (j : Nat) : Prop := ∃ p x, p < j ∧ L[p]? = some x ∧ x.k = 1
/-- A stop stands among the first j, behind a round, and the round ahead of it is ahead of b. -/
def Gr.stp (L : List Ev) (b : Int) (j : Nat) : Prop := ∃ q y, q < j ∧ L[q]? = some y ∧ y.k = 9 ∧ Gr.bgn L q ∧ Ev.clock (L.take q) < b
theorem Gr.bgn_step {L : List Ev} {j : Nat} {x : Ev} (hx : L[j]? = some x) : Gr.bgn L (j + 1) ↔ (Gr.bgn L j ∨ x.k = 1) := by
  constructor
  · rintro ⟨p, y, h1, h2, h3⟩
    rcases Nat.lt_or_ge p j with h | h
    · exact Or.inl ⟨p, y, h, h2, h3⟩
    · obtain rfl : p = j := by omega
      rw [hx] at h2; injection h2 with h2; subst h2; exact Or.inr h3
  · rintro (⟨p, y, h1, h2⟩ | h)
    · exact ⟨p, y, by omega, h2⟩
    · exact ⟨j, x, by omega, hx, h⟩
theorem Gr.stp_step {L : List Ev} {b : Int} {j : Nat} {x : Ev} (hx : L[j]? = some x) : Gr.stp L b (j + 1) ↔ (Gr.stp L b j ∨ (x.k = 9 ∧ Gr.bgn L j ∧ Ev.clock (L.take j) < b)) := by
  constructor
  · rintro ⟨q, y, h1, h2, h3⟩
    rcases Nat.lt_or_ge q j with h | h
    · exact Or.inl ⟨q, y, h, h2, h3⟩
    · obtain rfl : q = j := by omega
      rw [hx] at h2; injection h2 with h2; subst h2; exact Or.inr h3
  · rintro (⟨q, y, h1, h2⟩ | h)
    · exact ⟨q, y, by omega, h2⟩
    · exact ⟨j, x, by omega, hx, h⟩
theorem Gr.stp_mono {L : List Ev} {b : Int} {i j : Nat} (h : i ≤ j) (hb : Gr.stp L b i) : Gr.stp L b j := by
  obtain ⟨q, y, h1, h2⟩ := hb
  exact ⟨q, y, by omega, h2⟩
theorem Gr.clock_step {L : List Ev} {j : Nat} {x : Ev} (hx : L[j]? = some x) : Ev.clock (L.take (j + 1)) = if x.k = 1 then x.t else Ev.clock (L.take j) := by rw [take_snocE hx, Ev.clock_snoc]
set_option maxRecDepth 20000 in
set_option maxHeartbeats 16000000 in
theorem gr_stops (l r i o q v each : Int) (he : each ≤ 9223372036854775807) (a : Option Addr) (len cap : Nat) (L : List Ev) (hl : L.length = len) (hlm : len ≤ 100000) (t : Int) (ht : t ≤ 9223372036854775807) (ok : Bool) (hb : Gr.beg L = (t, ok)) (u : Int) (hu : Co.untl l r i o q v t each = u) (c : Int) (hc : Ev.clock L = c) (bb0 : Int) (okb : Bool)
    (hres : (if ok = true ∧ Co.goodB l r i o q v = true ∧ ¬ each < 1 ∧ ¬ u = 9223372036854775807 ∧ ¬ c < u then (u, true) else ((0 : Int), false)) = (bb0, okb)) (rr : Bool) (hrr : rr = true ↔ (okb = true → Gr.stp L bb0 len)) (w : World) (HE : EL w a L) :
    Calls Try.prog 27 #[.agg #[.int .i64 l, .int .i64 r, .int .i64 i, .int .i64 o, .int .i64 q, .int .i64 v], .slice a len cap, .int .i64 each] w fun e w' => e = .returned (.bool rr) ∧ Below w.heap.size w w' := by
  obtain ⟨X, hX⟩ : ∃ X, w.heap.size = X := ⟨_, rfl⟩
  have H0 : Hid (Blk (w.alloc (.cells #[.int .i64 l, .int .i64 r, .int .i64 i, .int .i64 o, .int .i64 q, .int .i64 v] 54)) X [.int .i64 l, .int .i64 r, .int .i64 i, .int .i64 o, .int .i64 q, .int .i64 v] 54 ∧ EL (w.alloc (.cells #[.int .i64 l, .int .i64 r, .int .i64 i, .int .i64 o, .int .i64 q, .int .i64 v] 54)) a L ∧ Below w.heap.size w (w.alloc (.cells #[.int .i64 l, .int .i64 r, .int .i64 i, .int .i64 o, .int .i64 q, .int .i64 v] 54)) ∧ X < (w.alloc (.cells #[.int .i64 l, .int .i64 r, .int .i64 i, .int .i64 o, .int .i64 q, .int .i64 v] 54)).heap.size) := Lib.hid (by
    have b1 := Blk.newA w #[.int .i64 l, .int .i64 r, .int .i64 i, .int .i64 o, .int .i64 q, .int .i64 v] 54
    rw [hX] at b1
    exact ⟨b1, HE.below ((Below.refl _ _).alloc (Nat.le_refl _) _), (Below.refl _ _).alloc (Nat.le_refl _) _, b1.lt⟩)
  have HB0 := Lib.hid (fun W (h : EL W a L) => gr_bound l r i o q v each he a len cap L hl hlm t ht ok hb u hu c hc bb0 okb hres W h)
  have HL := Lib.hid (And.intro hl (And.intro HE hrr))
  clear hl hb hu hc hres HE hrr ht
  cases okb with
  | false =>
    obtain rfl : true = rr := by
      cases hq : rr with
      | true => rfl
      | false => exact absurd (HL.out.2.2.2 (fun h => by cases h)) (by rw [hq]; simp)
    go_enter Try.func27, Try.ntmps27
    go_upto_region 1 with fail
    revert H0
    generalize (w.alloc (.cells #[.int .i64 l, .int .i64 r, .int .i64 i, .int .i64 o, .int .i64 q, .int .i64 v] 54)) = W0
    intro H0
    have HA := H0
    clear H0
    have sc0 := HA.out.1.cell (i := 0) rfl
    have sc1 := HA.out.1.cell (i := 1) rfl
    have sc2 := HA.out.1.cell (i := 2) rfl
    have sc3 := HA.out.1.cell (i := 3) rfl
    have sc4 := HA.out.1.cell (i := 4) rfl
    have sc5 := HA.out.1.cell (i := 5) rfl
    go_wp2_with (first
      | (go_at_call 21; (with_reducible refine (HB0.out _ HA.out.2.1).mono ?_); rintro r4 W1 ⟨rfl, bb⟩; have HB1 : Hid (Below w.heap.size w W1) := Lib.hid (HA.out.2.2.1.trans (bb.mono HA.out.2.2.1.size)); clear bb HA sc0 sc1 sc2 sc3 sc4 sc5 hX))
    go_ret
    exact ⟨rfl, HB1.out⟩
  | true =>
    go_enter Try.func27, Try.ntmps27
    go_upto_region 1 with fail
    revert H0
    generalize (w.alloc (.cells #[.int .i64 l, .int .i64 r, .int .i64 i, .int .i64 o, .int .i64 q, .int .i64 v] 54)) = W0
    intro H0
    have HA := H0
    clear H0
    have sc0 := HA.out.1.cell (i := 0) rfl
    have sc1 := HA.out.1.cell (i := 1) rfl
    have sc2 := HA.out.1.cell (i := 2) rfl
    have sc3 := HA.out.1.cell (i := 3) rfl
    have sc4 := HA.out.1.cell (i := 4) rfl
    have sc5 := HA.out.1.cell (i := 5) rfl
    go_wp2_with (first
      | (go_at_call 21; (with_reducible refine (HB0.out _ HA.out.2.1).mono ?_); rintro r4 W1 ⟨rfl, bb⟩; have HB1 : Hid (Below w.heap.size w W1) := Lib.hid (HA.out.2.2.1.trans (bb.mono HA.out.2.2.1.size)); clear bb HA sc0 sc1 sc2 sc3 sc4 sc5 hX))
    go_loopw [9, 10, 12, 24] (fun u v _ z wr => ∃ (j : Nat) (bg : Bool) (cc : Int), u = .bool bg ∧ v = .int .i64 cc ∧ z = .int .i64 j ∧ j ≤ len ∧ Hid (¬ Gr.stp L bb0 j ∧ (bg = true ↔ Gr.bgn L j) ∧ Ev.clock (L.take j) = cc) ∧ Hid (Below w.heap.size w wr)) (fun _ _ _ z _ => len - (intOf z).toNat)
    case atStart => exact ⟨0, false, 0, rfl, rfl, rfl, by omega, Lib.hid ⟨fun ⟨_, _, h, _⟩ => absurd h (by omega), ⟨fun h => (by cases h), fun ⟨_, _, h, _⟩ => absurd h (by omega)⟩, rfl⟩, HB1⟩
    case round =>
      obtain ⟨j, bg, cc, rfl, rfl, rfl, hj, HK, HB⟩ := hrel
      have i0 : (0 : Int) ≤ (j : Int) := by omega
      by_cases hjl : j < len
      · have i1 : (j : Int) < (len : Int) := by omega
        have w1 : IntKind.i64.wrap ((j : Int) + 1) = (j : Int) + 1 := IntWalk.i64_in _ (by omega)
        obtain ⟨k, i, n, t, b, e, s0, s1, s2, s3, s4, s5, es⟩ : ∃ k i n t b e s0 s1 s2 s3 s4 s5, L[j]? = some ⟨k, i, n, t, b, e, s0, s1, s2, s3, s4, s5⟩ := ⟨_, _, _, _, _, _, _, _, _, _, _, _, List.getElem?_eq_getElem (by rw [HL.out.1]; exact hjl)⟩
        obtain ⟨hb, ga, o, rfl, hgw, e0, e1, e2, e3, e4, e5, e6, e7, e8, e9, e10, e11⟩ := (HL.out.2.1.below HB.out).get es
        have HX : Hid (Blk (wr.alloc (.cells #[.int .i64 k, .int .i64 i, .int .i64 n, .int .i64 t, .string b, .int .i64 e, .int .i64 s0, .int .i64 s1, .int .i64 s2, .int .i64 s3, .int .i64 s4, .int .i64 s5] 47)) wr.heap.size [.int .i64 k, .int .i64 i, .int .i64 n, .int .i64 t, .string b, .int .i64 e, .int .i64 s0, .int .i64 s1, .int .i64 s2, .int .i64 s3, .int .i64 s4, .int .i64 s5] 47 ∧ Below w.heap.size w (wr.alloc (.cells #[.int .i64 k, .int .i64 i, .int .i64 n, .int .i64 t, .string b, .int .i64 e, .int .i64 s0, .int .i64 s1, .int .i64 s2, .int .i64 s3, .int .i64 s4, .int .i64 s5] 47))) := Lib.hid ⟨Blk.newA _ _ _, HB.out.alloc HB.out.size _⟩
        go_upto_region 8 with fail
        have HE := Lib.hid es
        clear e0 e1 e2 e3 e4 e5 e6 e7 e8 e9 e10 e11 hgw hb HB es
        revert HX
        generalize (wr.alloc (.cells #[.int .i64 k, .int .i64 i, .int .i64 n, .int .i64 t, .string b, .int .i64 e, .int .i64 s0, .int .i64 s1, .int .i64 s2, .int .i64 s3, .int .i64 s4, .int .i64 s5] 47)) = W2
        generalize wr.heap.size = X2
        intro HX
        have d0 := HX.out.1.cell (i := 0) rfl
        have d3 := HX.out.1.cell (i := 3) rfl
        by_cases hk : k = 1
        · have HN : Hid (¬ Gr.stp L bb0 (j + 1) ∧ (true = true ↔ Gr.bgn L (j + 1)) ∧ Ev.clock (L.take (j + 1)) = t) := Lib.hid ⟨by
            rw [Gr.stp_step HE.out]
            rintro (h | ⟨h1, h2, h3⟩)
            · exact HK.out.1 h
            · have h1 : k = 9 := h1
              omega, by rw [Gr.bgn_step HE.out]; exact ⟨fun _ => Or.inr hk, fun _ => rfl⟩, by rw [Gr.clock_step HE.out]; exact if_pos hk⟩
          have kb : (k == 1) = true := by simp [hk]
          clear hk
          go_upto_region 10 with fail
          go_quiet (fail)
          have HD := Lib.hid (below_dnG nq HX.out.2)
          go_wp2_with fail
          go_roundw
          case rel => exact ⟨j + 1, true, _, rfl, rfl, by go_num, by omega, HN, HD⟩
          case measure => simp [intOf]; omega
        · have kb : (k == 1) = false := by simp [hk]
          by_cases hk9 : k = 9
          · have kb9 : (k == 9) = true := by simp [hk9]
            cases bg with
            | false =>
              have HN : Hid (¬ Gr.stp L bb0 (j + 1) ∧ (false = true ↔ Gr.bgn L (j + 1)) ∧ Ev.clock (L.take (j + 1)) = cc) := Lib.hid ⟨by
                rw [Gr.stp_step HE.out]
                rintro (h | ⟨h1, h2, h3⟩)
                · exact HK.out.1 h
                · exact absurd (HK.out.2.1.2 h2) (by simp), by rw [Gr.bgn_step HE.out, ← HK.out.2.1]; exact ⟨Or.inl, fun h => h.elim id (fun h => absurd h hk)⟩, by rw [Gr.clock_step HE.out, ← HK.out.2.2]; exact if_neg hk⟩
              clear hk hk9
              go_wp2_with fail
              go_roundw
              case rel => exact ⟨j + 1, false, _, rfl, rfl, by go_num, by omega, HN, Lib.hid HX.out.2⟩
              case measure => simp [intOf]; omega
            | true =>
              by_cases hcb : cc < bb0
              · obtain rfl : true = rr := by
                  cases hq : rr with
                  | true => rfl
                  | false => exact absurd (HL.out.2.2.2 (fun _ => Gr.stp_mono (i := j + 1) (by omega) ((Gr.stp_step HE.out).2 (Or.inr ⟨hk9, HK.out.2.1.1 rfl, by rw [HK.out.2.2]; exact hcb⟩)))) (by rw [hq]; simp)
                clear hk hk9
                go_wp2_with fail
                go_ret
                exact ⟨rfl, HX.out.2⟩
              ·
                have HN : Hid (¬ Gr.stp L bb0 (j + 1) ∧ (true = true ↔ Gr.bgn L (j + 1)) ∧ Ev.clock (L.take (j + 1)) = cc) := Lib.hid ⟨by
                  rw [Gr.stp_step HE.out]
                  rintro (h | ⟨h1, h2, h3⟩)
                  · exact HK.out.1 h
                  · exact hcb (HK.out.2.2 ▸ h3), by rw [Gr.bgn_step HE.out, ← HK.out.2.1]; exact ⟨Or.inl, fun h => h.elim id (fun h => absurd h hk)⟩, by rw [Gr.clock_step HE.out, ← HK.out.2.2]; exact if_neg hk⟩
                clear hk hk9
                go_wp2_with fail
                go_roundw
                case rel => exact ⟨j + 1, true, _, rfl, rfl, by go_num, by omega, HN, Lib.hid HX.out.2⟩
                case measure => simp [intOf]; omega
          · have kb9 : (k == 9) = false := by simp [hk9]
            have HN : Hid (¬ Gr.stp L bb0 (j + 1) ∧ (bg = true ↔ Gr.bgn L (j + 1)) ∧ Ev.clock (L.take (j + 1)) = cc) := Lib.hid ⟨by
              rw [Gr.stp_step HE.out]
              rintro (h | ⟨h1, h2, h3⟩)
              · exact HK.out.1 h
              · exact hk9 h1, by rw [Gr.bgn_step HE.out, ← HK.out.2.1]; exact ⟨Or.inl, fun h => h.elim id (fun h => absurd h hk)⟩, by rw [Gr.clock_step HE.out, ← HK.out.2.2]; exact if_neg hk⟩
            clear hk hk9
            go_wp2_with fail
            go_roundw
            case rel => exact ⟨j + 1, bg, _, rfl, rfl, by go_num, by omega, HN, Lib.hid HX.out.2⟩
            case measure => simp [intOf]; omega
      · obtain rfl : j = len := by omega
        have i1 : ¬ (j : Int) < (j : Int) := by omega
        obtain rfl : false = rr := by
          cases hq : rr with
          | false => rfl
          | true => exact absurd (HL.out.2.2.1 hq (by simp)) HK.out.1
        go_wp2_with fail
        go_ret
        exact ⟨rfl, HB.out⟩
end Go.Proofs.Ytdchedkhlfmpeaa
