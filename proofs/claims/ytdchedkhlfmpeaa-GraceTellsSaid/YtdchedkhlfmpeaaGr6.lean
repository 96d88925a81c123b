/- Grace: Closed. -/
import Derived.Test.YtdchedkhlfmpeaaGr5
import Derived.WalkKit
import Derived.ProofKit
import Derived.Handy
import Derived.WalkLawsBesides
import Derived.WalkSpells
import Derived.Lib.Hide
import Derived.Lib.SliceRun
import Derived.Deep.RegionLaw
import Derived.RegionTactic
import Derived.ChangeAlike
import Derived.WalkSmall
import Derived.Deep.QuietTactic
import Derived.BigQuiet
import Derived.OwnWalk
import Derived.Outline
import Derived.Deep.CutRange
import Derived.Deep.CutBlock
import Derived.LoopTactic
namespace Go.Proofs.Ytdchedkhlfmpeaa
open Go.ChangeShapes Go.WideShapes Go.ChangeAt Go.RowKit
set_option linter.unusedSimpArgs false
set_option linter.unusedVariables false

theorem Gr.fst_at {kd : Int} {L : List Ev} (h : Gr.fst kd L < L.length) : ∃ x, L[Gr.fst kd L]? = some x ∧ x.k = kd := by
  refine ⟨_, List.getElem?_eq_getElem h, ?_⟩
  have := List.findIdx_getElem (w := h) (p := Gr.isk kd) (xs := L)
  unfold Gr.isk at this
  exact eq_of_beq this
theorem Gr.fst_min {kd : Int} {L : List Ev} {p : Nat} {y : Ev} (hy : L[p]? = some y) (hk : y.k = kd) : Gr.fst kd L ≤ p := by
  rcases Nat.lt_or_ge p (Gr.fst kd L) with h | h
  · have h2 := List.not_of_lt_findIdx h
    obtain ⟨_, h3⟩ := List.getElem?_eq_some_iff.1 hy
    rw [h3] at h2
    unfold Gr.isk at h2
    simp [hk] at h2
  · exact h
theorem Gr.wide_drain {L : List Ev} : (∃ q y, q < L.length ∧ L[q]? = some y ∧ Gr.had 7 L q ∧ y.k = 2) ↔ Gr.fst 2 (L.drop (Gr.fst 7 L)) < (L.drop (Gr.fst 7 L)).length := by
  constructor
  · rintro ⟨q, y, h1, h2, ⟨p, x, h3, h4, h5⟩, h6⟩
    have hp := Gr.fst_min h4 h5
    have hm : Gr.fst 2 (L.drop (Gr.fst 7 L)) ≤ q - Gr.fst 7 L := Gr.fst_min (y := y) (by rw [List.getElem?_drop]; rw [show Gr.fst 7 L + (q - Gr.fst 7 L) = q by omega]; exact h2) h6
    rw [List.length_drop]
    omega
  · intro h
    obtain ⟨y, h1, h2⟩ := Gr.fst_at h
    rw [List.getElem?_drop] at h1
    rw [List.length_drop] at h
    have hf : Gr.fst 7 L < L.length := by omega
    obtain ⟨x, h3, h4⟩ := Gr.fst_at hf
    have h0 : 0 < Gr.fst 2 (L.drop (Gr.fst 7 L)) := by
      rcases Nat.eq_zero_or_pos (Gr.fst 2 (L.drop (Gr.fst 7 L))) with h5 | h5
      · rw [h5, Nat.add_zero, h3] at h1
        injection h1 with h1
        subst h1
        rw [h4] at h2
        cases h2
      · exact h5
    exact ⟨_, y, (List.getElem?_eq_some_iff.1 h1).1, h1, ⟨_, x, by omega, h3, h4⟩, h2⟩
theorem Gr.wide_stop {L : List Ev} {q : Nat} (hq : q < L.length) : Gr.had 9 L q ↔ min (Gr.fst 9 L + 1) L.length ≤ q := by
  constructor
  · rintro ⟨p, x, h1, h2, h3⟩
    have := Gr.fst_min h2 h3
    omega
  · intro h
    have hf : Gr.fst 9 L < L.length := by omega
    obtain ⟨x, h3, h4⟩ := Gr.fst_at hf
    exact ⟨_, x, by omega, h3, h4⟩
theorem Gr.wide_iff {L : List Ev} : Gr.wide L L.length ↔ (Gr.fst 2 (L.drop (Gr.fst 7 L)) < (L.drop (Gr.fst 7 L)).length ∨ ∃ q y, min (Gr.fst 9 L + 1) L.length ≤ q ∧ L[q]? = some y ∧ ¬ y.k = 1 ∧ ¬ y.k = 3) := by
  rw [← Gr.wide_drain]
  constructor
  · rintro ⟨q, y, h1, h2, ⟨h3, h4⟩ | ⟨h3, h4⟩⟩
    · exact Or.inl ⟨q, y, h1, h2, h3, h4⟩
    · exact Or.inr ⟨q, y, (Gr.wide_stop h1).1 h3, h2, h4⟩
  · rintro (⟨q, y, h1, h2, h3, h4⟩ | ⟨q, y, h1, h2, h3⟩)
    · exact ⟨q, y, h1, h2, Or.inl ⟨h3, h4⟩⟩
    · have hq := (List.getElem?_eq_some_iff.1 h2).1
      exact ⟨q, y, hq, h2, Or.inr ⟨(Gr.wide_stop hq).2 h1, h3⟩⟩
theorem Gr.mincast {a b s : Nat} (h : min (a + 1) b = s) : min ((a : Int) + 1) (b : Int) = (s : Int) := by omega
theorem Gr.wrapc {a : Nat} (h : a ≤ 1000000) : IntKind.i64.wrap ((a : Int) + 1) = (a : Int) + 1 := IntWalk.i64_in _ (by omega)
theorem Gr.smax {a : Nat} (h : a ≤ 1000000) : a ≤ maxLen := by unfold maxLen; omega
set_option maxRecDepth 20000 in
set_option maxHeartbeats 16000000 in
theorem gr_closed (ga len cap : Nat) (L : List Ev) (hl : L.length = len) (hlm1 : len ≤ 1000000) (hlc : len ≤ cap) (hcm : cap ≤ 9223372036854775807) (r : Bool) (hr : r = true ↔ ¬ Gr.wide L len) (w : World) (HE : EL w (some ⟨ga, 0, none⟩) L) :
    Calls Try.prog 30 #[.slice (some ⟨ga, 0, none⟩) len cap] w fun e w' => e = .returned (.bool r) ∧ Below w.heap.size w w' := by
  have hlm : len ≤ maxLen := Gr.smax (by omega)
  obtain ⟨f7, h7⟩ : ∃ f, Gr.fst 7 L = f := ⟨_, rfl⟩
  obtain ⟨f9, h9⟩ : ∃ f, Gr.fst 9 L = f := ⟨_, rfl⟩
  have hf7 : f7 ≤ len := by rw [← h7, ← hl]; exact Gr.fst_le _ _
  have hf9 : f9 ≤ len := by rw [← h9, ← hl]; exact Gr.fst_le _ _
  obtain ⟨dl, hdl⟩ : ∃ dl, len - f7 = dl := ⟨_, rfl⟩
  obtain ⟨f2, h2⟩ : ∃ f, Gr.fst 2 (L.drop f7) = f := ⟨_, rfl⟩
  have hdlen : (L.drop f7).length = dl := by rw [List.length_drop, hl]; exact hdl
  obtain ⟨s9, hs9⟩ : ∃ s, min (f9 + 1) len = s := ⟨_, rfl⟩
  obtain ⟨el, hel⟩ : ∃ e, len - s9 = e := ⟨_, rfl⟩
  have hs9l : s9 ≤ len := by omega
  have hdl2 : dl ≤ maxLen := Gr.smax (by omega)
  have hf9m : f9 ≤ 1000000 := by omega
  have hw := Gr.wide_iff (L := L)
  rw [h7, h9, hl, h2, hdlen, hs9] at hw
  have HF := Lib.hid (And.intro h7 (And.intro h2 h9))
  have HW := Lib.hid (And.intro hw hdlen)
  have HL := Lib.hid (And.intro hl (And.intro HE hr))
  have HB : Hid (Below w.heap.size w w) := Lib.hid (Below.refl _ _)
  have c7 : (f7 : Int) ≤ (cap : Int) := by omega
  have c7b : (f7 : Int) ≤ (len : Int) := by omega
  have c70 : (0 : Int) ≤ (f7 : Int) := by omega
  have c9 : (s9 : Int) ≤ (cap : Int) := by omega
  have c9b : (s9 : Int) ≤ (len : Int) := by omega
  have c90 : (0 : Int) ≤ (s9 : Int) := by omega
  have n9 : min ((f9 : Int) + 1) (len : Int) = (s9 : Int) := Gr.mincast hs9
  have w9 : IntKind.i64.wrap ((f9 : Int) + 1) = (f9 : Int) + 1 := Gr.wrapc hf9m
  clear h7 h9 h2 hs9 hw hl HE hr hdlen
  go_enter Try.func30, Try.ntmps30
  go_upto_region 1 with fail
  go_cut [3] from 6 to 9 (fun z wx => ∃ A c, z = .slice A dl c ∧ Hid (EL wx A (L.drop f7) ∧ Below w.heap.size w wx))
  case first =>
    by_cases hf : f7 < len
    · have ncf : ¬ cap = f7 := by omega
      go_wp2_with (go_at_call 52; (with_reducible refine (gr_first (some ⟨ga, 0, none⟩) len cap L HL.out.1 hlm 7 f7 HF.out.1 _ (HL.out.2.1.below HB.out)).mono ?_); rintro r4 W4 ⟨rfl, hb4⟩; have HQ := Lib.hid (HB.out.trans (hb4.mono HB.out.size)); clear hb4 HB)
      go_meet
      exact ⟨(some ⟨ga, f7 * 12, none⟩), cap - f7, by first | rfl | simp [*], Lib.hid ⟨(by have h := EL.drop (HL.out.2.1.below HQ.out) f7; rw [Nat.zero_add] at h; exact h), HQ.out⟩⟩
    · by_cases hcl : cap = f7
      · have hcl2 : (cap = f7) = True := eq_true hcl
        have HCL := Lib.hid hcl
        clear hcl
        go_wp2_with (go_at_call 52; (with_reducible refine (gr_first (some ⟨ga, 0, none⟩) len cap L HL.out.1 hlm 7 f7 HF.out.1 _ (HL.out.2.1.below HB.out)).mono ?_); rintro r4 W4 ⟨rfl, hb4⟩; have HQ := Lib.hid (HB.out.trans (hb4.mono HB.out.size)); clear hb4 HB)
        go_meet
        exact ⟨(some ⟨ga, 0, none⟩), cap - f7, by first | rfl | simp [*], Lib.hid ⟨(by rw [List.drop_of_length_le (by rw [HL.out.1]; omega)]; exact EL.nil _ _), HQ.out⟩⟩
      · go_wp2_with (go_at_call 52; (with_reducible refine (gr_first (some ⟨ga, 0, none⟩) len cap L HL.out.1 hlm 7 f7 HF.out.1 _ (HL.out.2.1.below HB.out)).mono ?_); rintro r4 W4 ⟨rfl, hb4⟩; have HQ := Lib.hid (HB.out.trans (hb4.mono HB.out.size)); clear hb4 HB)
        go_meet
        exact ⟨(some ⟨ga, f7 * 12, none⟩), cap - f7, by first | rfl | simp [*], Lib.hid ⟨(by rw [List.drop_of_length_le (by rw [HL.out.1]; omega)]; exact EL.nil _ _), HQ.out⟩⟩
  case rest =>
    obtain ⟨A, c, rfl, HD⟩ := hcut
    clear HB
    by_cases hd : f2 < dl
    · have i2 : (f2 : Int) < (dl : Int) := by omega
      obtain rfl : false = r := by
        cases hr : r with
        | false => rfl
        | true => exact absurd (HW.out.1.2 (Or.inl hd)) (HL.out.2.2.1 hr)
      go_wp2_with (go_at_call 52; (with_reducible refine (gr_first A dl c (L.drop f7) HW.out.2 hdl2 2 f2 HF.out.2.1 _ HD.out.1).mono ?_); rintro r4 W4 ⟨rfl, hb4⟩; have HQ := Lib.hid (HD.out.2.trans (hb4.mono HD.out.2.size)); clear hb4)
      go_ret
      exact ⟨rfl, HQ.out⟩
    · have i2 : ¬ (f2 : Int) < (dl : Int) := by omega
      go_upto_region 4 with (go_at_call 52; (with_reducible refine (gr_first A dl c (L.drop f7) HW.out.2 hdl2 2 f2 HF.out.2.1 _ HD.out.1).mono ?_); rintro r4 W4 ⟨rfl, hb4⟩; have HB := Lib.hid (HD.out.2.trans (hb4.mono HD.out.2.size)); clear hb4 HD)
      go_cut [22, 23, 24] from 15 to 24 (fun z y x wx => ∃ A c, z = .slice A el c ∧ y = .int .i64 el ∧ x = .int .i64 0 ∧ Hid (EL wx A (L.drop s9) ∧ Below w.heap.size w wx))
      case first =>
        by_cases hf : s9 < len
        · have ncf : ¬ cap = s9 := by omega
          go_wp2_with (go_at_call 52; (with_reducible refine (gr_first (some ⟨ga, 0, none⟩) len cap L HL.out.1 hlm 9 f9 HF.out.2.2 _ (HL.out.2.1.below HB.out)).mono ?_); rintro r4 W4 ⟨rfl, hb4⟩; have HQ := Lib.hid (HB.out.trans (hb4.mono HB.out.size)); clear hb4 HB)
          go_meet
          exact ⟨(some ⟨ga, s9 * 12, none⟩), cap - s9, by first | rfl | simp [*], by first | rfl | simp [*], rfl, Lib.hid ⟨(by have h := EL.drop (HL.out.2.1.below HQ.out) s9; rw [Nat.zero_add] at h; exact h), HQ.out⟩⟩
        · by_cases hcl : cap = s9
          · have hcl2 : (cap = s9) = True := eq_true hcl
            have HCL := Lib.hid hcl
            clear hcl
            go_wp2_with (go_at_call 52; (with_reducible refine (gr_first (some ⟨ga, 0, none⟩) len cap L HL.out.1 hlm 9 f9 HF.out.2.2 _ (HL.out.2.1.below HB.out)).mono ?_); rintro r4 W4 ⟨rfl, hb4⟩; have HQ := Lib.hid (HB.out.trans (hb4.mono HB.out.size)); clear hb4 HB)
            go_meet
            exact ⟨(some ⟨ga, 0, none⟩), cap - s9, by first | rfl | simp [*], by first | rfl | simp [*], rfl, Lib.hid ⟨(by rw [List.drop_of_length_le (by rw [HL.out.1]; omega)]; exact EL.nil _ _), HQ.out⟩⟩
          · go_wp2_with (go_at_call 52; (with_reducible refine (gr_first (some ⟨ga, 0, none⟩) len cap L HL.out.1 hlm 9 f9 HF.out.2.2 _ (HL.out.2.1.below HB.out)).mono ?_); rintro r4 W4 ⟨rfl, hb4⟩; have HQ := Lib.hid (HB.out.trans (hb4.mono HB.out.size)); clear hb4 HB)
            go_meet
            exact ⟨(some ⟨ga, s9 * 12, none⟩), cap - s9, by first | rfl | simp [*], by first | rfl | simp [*], rfl, Lib.hid ⟨(by rw [List.drop_of_length_le (by rw [HL.out.1]; omega)]; exact EL.nil _ _), HQ.out⟩⟩
      case rest =>
        obtain ⟨A2, c2, rfl, rfl, rfl, HD⟩ := hcut
        clear HB
        have hel9 : el ≤ 1000000 := by omega
        have HG := Lib.hid (And.intro hel hs9l)
        go_wp2_with fail
        go_loopw [5, 24] (fun _ z wr => ∃ j : Nat, z = .int .i64 j ∧ j ≤ el ∧ Hid (∀ q y, q < j → (L.drop s9)[q]? = some y → y.k = 1 ∨ y.k = 3) ∧ Hid (EL wr A2 (L.drop s9) ∧ Below w.heap.size w wr)) (fun _ z _ => el - (intOf z).toNat)
        case atStart => exact ⟨0, rfl, by omega, Lib.hid (fun q y hq => by omega), HD⟩
        case round =>
          clear HD
          obtain ⟨j, rfl, hj, HK, HB⟩ := hrel
          have i0 : (0 : Int) ≤ (j : Int) := by omega
          by_cases hjl : j < el
          · have i1 : (j : Int) < (el : Int) := by omega
            have w1 : IntKind.i64.wrap ((j : Int) + 1) = (j : Int) + 1 := Gr.wrapc (by omega)
            obtain ⟨k, i, n, t, b, e, s0, s1, s2, s3, s4, s5, es⟩ : ∃ k i n t b e s0 s1 s2 s3 s4 s5, (L.drop s9)[j]? = some ⟨k, i, n, t, b, e, s0, s1, s2, s3, s4, s5⟩ := ⟨_, _, _, _, _, _, _, _, _, _, _, _, List.getElem?_eq_getElem (by rw [List.length_drop, HL.out.1]; omega)⟩
            obtain ⟨hb, g5, o5, rfl, hgw, e0, e1, e2, e3, e4, e5, e6, e7, e8, e9, e10, e11⟩ := HB.out.1.get es
            have HX : Hid (EL (wr.alloc (.cells #[.int .i64 k, .int .i64 i, .int .i64 n, .int .i64 t, .string b, .int .i64 e, .int .i64 s0, .int .i64 s1, .int .i64 s2, .int .i64 s3, .int .i64 s4, .int .i64 s5] 47)) (some ⟨g5, o5, none⟩) (L.drop s9) ∧ Blk (wr.alloc (.cells #[.int .i64 k, .int .i64 i, .int .i64 n, .int .i64 t, .string b, .int .i64 e, .int .i64 s0, .int .i64 s1, .int .i64 s2, .int .i64 s3, .int .i64 s4, .int .i64 s5] 47)) wr.heap.size [.int .i64 k, .int .i64 i, .int .i64 n, .int .i64 t, .string b, .int .i64 e, .int .i64 s0, .int .i64 s1, .int .i64 s2, .int .i64 s3, .int .i64 s4, .int .i64 s5] 47 ∧ Below w.heap.size w (wr.alloc (.cells #[.int .i64 k, .int .i64 i, .int .i64 n, .int .i64 t, .string b, .int .i64 e, .int .i64 s0, .int .i64 s1, .int .i64 s2, .int .i64 s3, .int .i64 s4, .int .i64 s5] 47))) := Lib.hid ⟨HB.out.1.below ((Below.refl _ _).alloc (Nat.le_refl _) _), Blk.newA _ _ _, HB.out.2.alloc HB.out.2.size _⟩
            go_upto_region 7 with fail
            have HE := Lib.hid es
            clear e0 e1 e2 e3 e4 e5 e6 e7 e8 e9 e10 e11 hgw hb HB es
            revert HX
            generalize (wr.alloc (.cells #[.int .i64 k, .int .i64 i, .int .i64 n, .int .i64 t, .string b, .int .i64 e, .int .i64 s0, .int .i64 s1, .int .i64 s2, .int .i64 s3, .int .i64 s4, .int .i64 s5] 47)) = W1
            generalize wr.heap.size = X
            intro HX
            have d0 := HX.out.2.1.cell (i := 0) rfl
            by_cases hc1 : k = 1
            · have kb1 : (k != 1) = false := by simp [hc1]
              have HN : Hid (∀ q y, q < j + 1 → (L.drop s9)[q]? = some y → y.k = 1 ∨ y.k = 3) := Lib.hid (fun q y hq hy => by
                by_cases e : q = j
                · rw [e, HE.out] at hy; injection hy with hy; subst hy; exact Or.inl hc1
                · exact HK.out q y (by omega) hy)
              clear hc1
              go_wp2_with fail
              go_roundw
              case rel => exact ⟨j + 1, by go_num, by omega, HN, Lib.hid ⟨HX.out.1, HX.out.2.2⟩⟩
              case measure => simp [intOf]; omega
            · have kb1 : (k != 1) = true := by simp [hc1]
              by_cases hc3 : k = 3
              · have kb3 : (k != 3) = false := by simp [hc3]
                have HN : Hid (∀ q y, q < j + 1 → (L.drop s9)[q]? = some y → y.k = 1 ∨ y.k = 3) := Lib.hid (fun q y hq hy => by
                  by_cases e : q = j
                  · rw [e, HE.out] at hy; injection hy with hy; subst hy; exact Or.inr hc3
                  · exact HK.out q y (by omega) hy)
                clear hc1 hc3
                go_wp2_with fail
                go_roundw
                case rel => exact ⟨j + 1, by go_num, by omega, HN, Lib.hid ⟨HX.out.1, HX.out.2.2⟩⟩
                case measure => simp [intOf]; omega
              · have kb3 : (k != 3) = true := by simp [hc3]
                obtain rfl : false = r := by
                  cases hr : r with
                  | false => rfl
                  | true => exact absurd (HW.out.1.2 (Or.inr ⟨s9 + j, ⟨k, i, n, t, b, e, s0, s1, s2, s3, s4, s5⟩, Nat.le_add_right _ _, by rw [← List.getElem?_drop]; exact HE.out, hc1, hc3⟩)) (HL.out.2.2.1 hr)
                clear hc1 hc3
                go_wp2_with fail
                go_ret
                exact ⟨rfl, HX.out.2.2⟩
          · obtain rfl : j = el := by omega
            have i1 : ¬ (j : Int) < (j : Int) := by omega
            obtain rfl : true = r := by
              cases hr : r with
              | true => rfl
              | false =>
                have hnw : ¬ Gr.wide L len := by
                  rw [HW.out.1]
                  rintro (h | ⟨q, y, h1, h2, h3, h4⟩)
                  · exact hd h
                  · have hq := (List.getElem?_eq_some_iff.1 h2).1
                    rw [HL.out.1] at hq
                    have h5 := HK.out (q - s9) y (by have := HG.out; omega) (by rw [List.getElem?_drop]; rw [show s9 + (q - s9) = q by omega]; exact h2)
                    rcases h5 with h5 | h5
                    · exact h3 h5
                    · exact h4 h5
                exact absurd (HL.out.2.2.2 hnw) (by rw [hr]; simp)
            go_wp2_with fail
            go_ret
            exact ⟨rfl, HB.out.2⟩
end Go.Proofs.Ytdchedkhlfmpeaa
