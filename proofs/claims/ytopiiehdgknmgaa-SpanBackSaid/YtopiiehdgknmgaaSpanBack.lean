/- P11.1, P11.3: for every pattern (its first 8 items) and text (cut to 12 bytes): the pattern the other way round is as the document says, and matches just what the pattern matches, the other way round. No condition. -/
import Derived.Test.YtopiiehdgknmgaaOpen
import Derived.WalkKit
import Derived.ProofKit
import Derived.OpenShut
import Derived.Test.YtopiiehdgknmgaaSp5
import Derived.Test.YtopiiehdgknmgaaLgC
namespace Go.Proofs.Ytopiiehdgknmgaa.spanBack
open Go.Joins Go.ChangeShapes Go.WideShapes Go.ChangeAt Go.RowKit Go.Deep
open Go.ChangeMaps (open_string)
set_option linter.unusedSimpArgs false
set_option linter.unusedVariables false

set_option maxRecDepth 20000 in
set_option maxHeartbeats 16000000 in

theorem walk (a0 : Option Addr) (len0 cap0 : Nat) (z0 : List (Bool × BitVec 256)) (a1 : ByteArray) (w : World) (w0 : IsIt w a0 len0 cap0 z0) (w1 : a1.size ≤ maxLen) :
    Calls Try.prog 7 #[.slice a0 len0 cap0, .string a1] w fun e w' => e = .returned (.bool true) ∧ Below w.heap.size w w' := by
  obtain ⟨L, hL⟩ : ∃ L, z0.take 8 = L := ⟨_, rfl⟩
  obtain ⟨n, hn⟩ : ∃ n, L.length = n := ⟨_, rfl⟩
  have hnm : n ≤ 8 := by rw [← hn, ← hL, List.length_take]; omega
  have hn6 : n ≤ 1000000 := by omega
  have hn3 : n ≤ 1000 := by omega
  have HI := Lib.hid (items_in w0)
  obtain ⟨s, hs⟩ : ∃ s, cutT a1 12 = s := ⟨_, rfl⟩
  have hs6 : s.size ≤ 12 := by rw [← hs]; exact cutT_le _ _
  have hs3 : s.size ≤ 1000 := by omega
  have hs1 : s.size ≤ 1000000 := by omega
  obtain ⟨t, ht⟩ : ∃ t, s.data.toList = t := ⟨_, rfl⟩
  obtain ⟨N, hN⟩ : ∃ N, s.size = N := ⟨_, rfl⟩
  obtain ⟨b, hb⟩ : ∃ b, Lg.m L t = b := ⟨_, rfl⟩
  obtain ⟨u, hu⟩ := text_mk t.reverse
  obtain ⟨v, hv⟩ : ∃ v, t.reverse = v := ⟨_, rfl⟩
  have hn5 : n ≤ 100000 := by omega
  have hu3 : u.size ≤ 1000 := by rw [size_of hu, List.length_reverse, ← ht]; simpa using hs3
  have HS : Hid (cutT a1 12 = s ∧ s.data.toList = t ∧ Lg.m L t = b ∧ u.data.toList = v ∧ u.data.toList = s.data.toList.reverse ∧ Lg.m L.reverse v = b) := Lib.hid ⟨hs, ht, hb, by rw [hu, hv], by rw [hu, ht], by rw [← hv, m_rev]; exact hb⟩
  have HN : Hid (z0.take 8 = L ∧ L.length = n ∧ L.reverse.length = n) := Lib.hid ⟨hL, hn, by rw [List.length_reverse]; exact hn⟩
  clear hL hn hs ht hb hu hv hN hs1
  go_enter Try.func7, Try.ntmps7
  go_upto_region 2 with (first
    | (go_at_call 30; with_reducible refine (fewm_first 8 (by omega) z0 L HN.out.1 n HN.out.2.1 a0 len0 cap0 HI.out.1 HI.out.2.1 8 rfl _ HI.out.2.2).mono ?_; rintro e W1 ⟨a, c0, rfl, ha, hb1⟩; have HB := Lib.hid (And.intro ha hb1); have HP := Lib.hid ha; clear ha hb1)
    | (go_at_call 31; with_reducible refine (cut_m a1 s 12 (by omega) w1 HS.out.1 12 rfl _).mono ?_; rintro e W1 ⟨rfl, hb1⟩; first | (replace HB := Lib.hid (And.intro (HB.out.1.below hb1) (HB.out.2.trans (hb1.mono HB.out.2.size))); replace HP := Lib.hid (IK.below HP.out hb1); clear hb1) | clear hb1))
  go_wp2_with (first
    | (go_at_call 30; with_reducible refine (fewm_again 8 (by omega) L n HN.out.2.1 hnm a c0 8 rfl _ HB.out.1.ia).mono ?_; rintro e W1 ⟨p, cp, rfl, hp, hb1⟩; replace HB := Lib.hid (And.intro (HB.out.1.below hb1) (HB.out.2.trans (hb1.mono HB.out.2.size))); replace HP := Lib.hid (IK.below HP.out hb1); clear hb1; clear HP; have HP := Lib.hid hp; clear hp)
    | (go_at_call 32; with_reducible refine (sp_back L n HN.out.2.1 hn5 p cp _ HP.out.ia).mono ?_; rintro e W1 ⟨q, cq, rfl, k1, hb1⟩; replace HB := Lib.hid (And.intro (HB.out.1.below hb1) (HB.out.2.trans (hb1.mono HB.out.2.size))); clear HP; have HP := Lib.hid k1; clear k1 hb1))
  go_loopw [6] (fun i wr => ∃ k : Nat, i = .int .i64 k ∧ k ≤ n ∧ Hid (IK wr a L ∧ IK wr q L.reverse ∧ Below w.heap.size w wr)) (fun i _ => n - (intOf i).toNat)
  case atStart => exact ⟨0, rfl, by omega, Lib.hid ⟨HB.out.1, HP.out, HB.out.2⟩⟩
  case round =>
    clear HB HP
    obtain ⟨k, rfl, hk, HB⟩ := hrel
    have k0 : (0 : Int) ≤ (k : Int) := by omega
    by_cases hkn : k < n
    · have i1 : (k : Int) < (n : Int) := by omega
      obtain ⟨j, hj⟩ : ∃ j, n - 1 - k = j := ⟨_, rfl⟩
      obtain ⟨x, hx⟩ : ∃ x, L[j]? = some x := ⟨_, List.getElem?_eq_getElem (by rw [HN.out.2.1]; omega)⟩
      obtain ⟨r, X⟩ := x
      have hy : L.reverse[k]? = some (r, X) := by
        rw [List.getElem?_reverse (by rw [HN.out.2.1]; exact hkn), HN.out.2.1, hj]; exact hx
      have j0 : (0 : Int) ≤ (j : Int) := by omega
      have j1 : (j : Int) < (n : Int) := by omega
      have j2 : j < n := by omega
      have w1 : IntKind.i64.wrap ((k : Int) + 1) = (k : Int) + 1 := IntWalk.i64_in _ (by omega)
      have w2 : IntKind.i64.wrap ((n : Int) - 1) = (n : Int) - 1 := IntWalk.i64_in _ (by omega)
      have w3 : IntKind.i64.wrap ((n : Int) - 1 - (k : Int)) = (j : Int) := by rw [IntWalk.i64_in _ (by omega)]; omega
      have HX := Lib.hid (And.intro hx hy)
      have eqi := eqItem r r X X
      rw [show (r == r && decide (X = X)) = true by simp] at eqi
      rcases HB.out.1.1 with e | ⟨g, ha, HIL⟩
      · rw [e] at hx; simp at hx
      · rcases HB.out.2.1.1 with e | ⟨g2, ha2, HIM⟩
        · rw [e] at hy; simp at hy
        · have HB2 : Hid (IL wr g L ∧ IL wr g2 L.reverse ∧ Below w.heap.size w wr) := Lib.hid ⟨HIL, HIM, HB.out.2.2⟩
          have HA := Lib.hid (And.intro HB.out.1.2 HB.out.2.1.2)
          subst ha; subst ha2
          clear hx hy HIL HIM HB hj
          go_wp2_with fail
          refine wp_region_class (fun w' => IL w' g L ∧ IL w' g2 L.reverse ∧ Below w.heap.size w w') (by kernel_rfl) (by kernel_rfl) ⟨HB2.out.1, HB2.out.2.1, HB2.out.2.2.drew⟩ ?_
          repeat (first
              | go_big_quiet_skip
              | (go_big_quiet_want
                 unfold Oper.quiet
                 apply Exists.intro
                 refine ⟨fun wq hwq => ?_, ?_⟩
                 · (obtain ⟨hq1, hq2, hq3⟩ := hwq
                    obtain ⟨z0, z1, z2, z3, z4⟩ := hq1.cell HX.out.1
                    obtain ⟨y0, y1, y2, y3, y4⟩ := hq2.cell HX.out.2
                    dsimp only at z0 z1 z2 z3 z4 y0 y1 y2 y3 y4
                    unfold Oper.quietAt
                    go_simp
                    first
                      | exact ⟨rfl, hq1, hq2, hq3⟩
                      | exact rfl)
                 simp only [Act.put, List.setIfInBounds_toArray, List.set_cons_zero, List.set_cons_succ]
                 go_big_quiet_on))
          refine wpQuiet_nil ?_
          intro w4 hw4
          have HB4 : Hid (IK w4 (some ⟨g, 0, none⟩) L ∧ IK w4 (some ⟨g2, 0, none⟩) L.reverse ∧ Below w.heap.size w w4) := Lib.hid ⟨⟨Or.inr ⟨g, rfl, hw4.1⟩, HA.out.1⟩, ⟨Or.inr ⟨g2, rfl, hw4.2.1⟩, HA.out.2⟩, hw4.2.2⟩
          clear hw4
          go_wp2
          refine ⟨?_, ?measure⟩
          case measure => simp [intOf]; omega
          first
            | exact ⟨k + 1, by go_num, by omega, HB4⟩
            | ((repeat apply Exists.intro); exact ⟨⟨k + 1, by go_num, by omega, HB4⟩, rfl⟩)
    · obtain rfl : k = n := by omega
      have i1 : ¬ (k : Int) < (k : Int) := by omega
      cases hg : goodB L with
      | false =>
        have HG := Lib.hid hg
        clear hg
        go_wp2_with (first
          | (go_at_call 33; with_reducible refine (rg_good L false HG.out a k c0 HN.out.2.1 hn6 _ HB.out.1.li).mono ?_; rintro e W1 ⟨rfl, hb1⟩; replace HB := Lib.hid (And.intro (IK.below HB.out.1 hb1) (And.intro (IK.below HB.out.2.1 hb1) (HB.out.2.2.trans (hb1.mono HB.out.2.2.size)))); clear hb1)
          | (go_at_call 36; with_reducible refine (sp_lives _).mono ?_; rintro e W1 ⟨rfl, hb1⟩; replace HB := Lib.hid (And.intro (IK.below HB.out.1 hb1) (And.intro (IK.below HB.out.2.1 hb1) (HB.out.2.2.trans (hb1.mono HB.out.2.2.size)))); clear hb1))
        go_ret
        exact ⟨rfl, HB.out.2.2⟩
      | true =>
        have HG := Lib.hid hg
        clear hg
        go_wp2_with (first
          | (go_at_call 33; with_reducible refine (rg_good L true HG.out a k c0 HN.out.2.1 hn6 _ HB.out.1.li).mono ?_; rintro e W1 ⟨rfl, hb1⟩; replace HB := Lib.hid (And.intro (IK.below HB.out.1 hb1) (And.intro (IK.below HB.out.2.1 hb1) (HB.out.2.2.trans (hb1.mono HB.out.2.2.size)))); clear hb1)
          | (go_at_call 35; with_reducible refine (lw_turned s u hs3 HS.out.2.2.2.2.1 _).mono ?_; rintro e W1 ⟨rfl, hb1⟩; replace HB := Lib.hid (And.intro (IK.below HB.out.1 hb1) (And.intro (IK.below HB.out.2.1 hb1) (HB.out.2.2.trans (hb1.mono HB.out.2.2.size)))); clear hb1)
          | (go_at_call 34; with_reducible refine (rg_matches L.reverse u v hu3 HS.out.2.2.2.1 b HS.out.2.2.2.2.2 k q cq HN.out.2.2 hn3 _ HB.out.2.1.ia).mono ?_; rintro e W1 ⟨rfl, hb1⟩; replace HB := Lib.hid (And.intro (IK.below HB.out.1 hb1) (And.intro (IK.below HB.out.2.1 hb1) (HB.out.2.2.trans (hb1.mono HB.out.2.2.size)))); clear hb1)
          | (go_at_call 34; with_reducible refine (rg_matches L s t hs3 HS.out.2.1 b HS.out.2.2.1 k a c0 HN.out.2.1 hn3 _ HB.out.1.ia).mono ?_; rintro e W1 ⟨rfl, hb1⟩; replace HB := Lib.hid (And.intro (IK.below HB.out.1 hb1) (And.intro (IK.below HB.out.2.1 hb1) (HB.out.2.2.trans (hb1.mono HB.out.2.2.size)))); clear hb1)
          | (go_at_call 36; with_reducible refine (sp_lives _).mono ?_; rintro e W1 ⟨rfl, hb1⟩; replace HB := Lib.hid (And.intro (IK.below HB.out.1 hb1) (And.intro (IK.below HB.out.2.1 hb1) (HB.out.2.2.trans (hb1.mono HB.out.2.2.size)))); clear hb1))
        go_ret
        exact ⟨rfl, HB.out.2.2⟩

set_option maxRecDepth 100000 in
theorem lifted (os : Os) (started : os.Started) (H : Type) (enc : TypeId × Value → H) :
    ReturnsInHanded {} Try.checked os 7 .any (Rows.spanBackSpec.pre6 enc Try.prog Try.f7 Rows.spanBackRow.domain false) (Rows.spanBackSpec.post enc Try.prog Try.f7 false true false false) := by
  refine returnsInHanded_of_change (C := Try.checked) ownKn started (by kernel_rfl) Try.func7
    (ChangeSpec.witness6 (enc := enc) (C := Try.checked) false ⟨#[], #[.slice none 0 0, .string ByteArray.empty], []⟩ 8 (by kernel_rfl) (by kernel_rfl) (by kernel_rfl) (by kernel_rfl)) ?_
  intro W base args ds gs before hval0 hW hcnd _
  have hval : ∀ (j : Nat) t v, Try.f7.params[j]? = some t → args[j]? = some v → Value.okWide Try.prog W .any base t v := hval0
  have hW' := hW
  obtain ⟨p, q, hA0, hV, rfl, hfz, hnd⟩ := hW
  have hA : DataW.TrodAll enc Try.prog W 0 (fun _ => true) true Try.f7.params.toList args.toList ds p := hA0
  rw [Try.params7] at hA hval
  obtain ⟨v0, vs0, d0, ds0, p0, q0, hargs, rfl, rfl, h0, r0⟩ := trodAll_cons hA
  obtain ⟨v1, vs1, d1, ds1, p1, q1, rfl, rfl, rfl, h1, r1⟩ := trodAll_cons r0
  obtain ⟨rfl, rfl, rfl⟩ := trodAll_nil r1
  obtain rfl : args = #[v0, v1] := by cases args; simp_all
  obtain ⟨rfl, rfl⟩ := trodVars_none hV
  have k0 := h0
  have lt0 : ∀ x ∈ p0, x.block < W.heap.size := by obtain ⟨m, hm⟩ := k0; exact DataW.trod_lt m _ _ _ hm
  obtain ⟨b0, lb0, cb0, rfl⟩ := okWide_slice Try.underlying54 (hval 0 54 v0 rfl rfl)
  obtain ⟨fu0, hf0⟩ := h0
  simp only [Value.cells] at hf0
  obtain ⟨a0, len0, cap0, z0, e0, w0⟩ := fld_items hf0
  obtain ⟨rfl, rfl, rfl⟩ : b0 = a0 ∧ lb0 = len0 ∧ cb0 = cap0 := by simpa using e0
  have k1 := h1
  have lt1 : ∀ x ∈ p1, x.block < W.heap.size := by obtain ⟨m, hm⟩ := k1; exact DataW.trod_lt m _ _ _ hm
  obtain ⟨a1, rfl, rfl, rfl, w1⟩ := open_string Try.underlying9 (hval 1 9 v1 rfl rfl) h1
  clear hA0 hval0
  refine (walk b0 lb0 cb0 z0 a1 W w0 w1).mono fun e W' ⟨he, bel⟩ => ?_
  subst he
  exact ⟨_, rfl, _, _, _, [], _, [], hW', trodAll_mk1 (shut_bool Try.underlying4 _), (trodAll_cons_mk (Below.trod laidOut (by kernel_rfl) (of_decide_eq_true (by kernel_rfl)) k0 bel lt0) (trodAll_cons_mk (Below.trod laidOut (by kernel_rfl) (of_decide_eq_true (by kernel_rfl)) k1 bel lt1) trodAll_mk0)), rfl, bel.frame _, fun h => by cases h⟩

theorem over : Rows.spanBackRow.holds Try.pinned (OpenSpec.ofChange Rows.spanBackSpec) :=
  OpenClaim.holds_of_wide 7 Try.f7 rfl rfl rfl rfl rfl rfl rfl ⟨rfl, rfl, rfl, rfl, rfl⟩ rfl rfl rfl rfl rfl (by kernel_rfl) Try.func7 (by kernel_rfl)
    (of_decide_eq_true (by kernel_rfl)) (by unfold Func.isWrapper; first | (rw [if_pos (by decide +kernel)]; kernel_rfl) | (rw [if_neg (by decide +kernel)]; exact ⟨rfl, rfl⟩))
    (fun os started H enc _ => lifted os started H enc)

/-- The statement. -/
theorem proved : Rows.SpanBackSaid := over
#print axioms proved
end Go.Proofs.Ytopiiehdgknmgaa.spanBack
