/- P7.3, P7.4: for every text: the text of the pattern that is just its bytes is as the page says, and it is one set a byte. No condition. -/
import Derived.Test.YtkihlnomchhiiaaOpen
import Derived.WalkKit
import Derived.ProofKit
import Derived.OpenShut
import Derived.Test.YtkihlnomchhiiaaGl8
namespace Go.Proofs.Ytkihlnomchhiiaa.globPlain
open Go.Joins Go.ChangeShapes Go.WideShapes Go.ChangeAt Go.RowKit Go.Deep
open Go.ChangeMaps (open_string)
set_option linter.unusedSimpArgs false
set_option linter.unusedVariables false

set_option maxRecDepth 20000 in
set_option maxHeartbeats 2000000 in

theorem walk (a0 : ByteArray) (w : World) (w0 : a0.size ≤ maxLen) :
    Calls Try.prog 5 #[.string a0] w fun e w' => e = .returned (.bool true) ∧ Below w.heap.size w w' := by
  obtain ⟨s, hs⟩ : ∃ s, cutT a0 60 = s := ⟨_, rfl⟩
  have ls : s.size ≤ 60 := by rw [← hs]; exact cutT_le _ _
  obtain ⟨t, ht⟩ := text_mk (Cs.pl s.data.toList)
  have lt : t.size ≤ 1000000 := by
    have := pl_le s.data.toList
    rw [size_of ht]
    have e : s.data.toList.length = s.size := by simp
    omega
  obtain ⟨n, hn⟩ : ∃ n, s.size = n := ⟨_, rfl⟩
  have hll : (plainI s.data.toList).length = n := by unfold plainI; rw [List.length_map, ← hn]; simp
  have HS := Lib.hid (And.intro hs (And.intro ht (And.intro lt (And.intro (show s.size ≤ 1000 by omega) (And.intro hll ls)))))
  have ls2 : n ≤ 60 := by omega
  clear hs ht lt hll ls
  go_enter Try.func5, Try.ntmps5
  go_upto_region 5 with (first
    | (go_at_call 6; with_reducible refine (cut_60 a0 s w0 HS.out.1 _).mono ?_; rintro e w' ⟨rfl, rfl⟩; have HB : Hid (Below w.heap.size w w) := Lib.hid (Below.refl _ _))
    | (go_at_call 7; refine (gl_parse t (plainI s.data.toList) HS.out.2.2.1 (by rw [HS.out.2.1, plain_itxs]) (plain_ok _) (by have := HS.out.2.2.2.2.1; have := HS.out.2.2.2.2.2; omega) _).mono ?_; rintro e W2 ⟨v, rfl, h1, h2⟩; obtain ⟨a, c, rfl, h3⟩ := LI.own h1; rw [HS.out.2.2.2.2.1]; have HP : Hid (LI W2 a (plainI s.data.toList)) := Lib.hid h3; replace HB := Lib.hid (HB.out.trans (h2.mono HB.out.size)); clear h1 h2 h3)
    | (go_at_call 17; with_reducible refine (gl_plain s t HS.out.2.2.2.1 HS.out.2.1 _).mono ?_; rintro e W1 ⟨rfl, hb1⟩; replace HB := Lib.hid (HB.out.trans (hb1.mono HB.out.size)); try (replace HP := Lib.hid (HP.out.below hb1)); clear hb1)
    | (go_at_call 18; with_reducible refine (rg_plain s t HS.out.2.2.2.1 HS.out.2.1 _).mono ?_; rintro e W3 ⟨rfl, hb3⟩; replace HB := Lib.hid (HB.out.trans (hb3.mono HB.out.size)); replace HP := Lib.hid (HP.out.below hb3); clear hb3))
  go_wp2_with fail
  go_loopw [6] (fun i wr => ∃ k : Nat, i = .int .i64 k ∧ k ≤ n ∧ Hid (LI wr a (plainI s.data.toList) ∧ Below w.heap.size w wr)) (fun i _ => n - (intOf i).toNat)
  case atStart => exact ⟨0, rfl, by omega, Lib.hid ⟨HP.out, HB.out⟩⟩
  case round =>
    clear HP HB
    obtain ⟨k, rfl, hk, HB⟩ := hrel
    have j0 : (0 : Int) ≤ (k : Int) := by omega
    by_cases hkl : k < n
    · have hks : k < s.size := by omega
      obtain ⟨b, hb⟩ : ∃ b, s[k] = b := ⟨_, rfl⟩
      have hx : (plainI s.data.toList)[k]? = some (false, Cs.bitS b.toNat) := by
        unfold plainI
        rw [List.getElem?_map, byte_at hks, hb]; rfl
      obtain ⟨X, hX⟩ : ∃ X, Cs.bitS b.toNat = X := ⟨_, rfl⟩
      rw [hX] at hx
      have HX : Hid ((plainI s.data.toList)[k]? = some (false, X) ∧ Cs.span b.toNat b.toNat = X) := Lib.hid ⟨hx, by rw [span_one _ b.toNat_lt, hX]⟩
      have eqi := eqItem_same X
      have wb : IntKind.i64.wrap (b.toNat : Int) = (b.toNat : Int) := IntWalk.i64_in _ (by have := b.toNat_lt; omega)
      rcases HB.out.1 with e | ⟨g, ha, HIL⟩
      · rw [e] at hx; simp at hx
      · subst ha
        have HB2 : Hid (IL wr g (plainI s.data.toList) ∧ Below w.heap.size w wr) := Lib.hid ⟨HIL, HB.out.2⟩
        clear hx hX HIL HB
        go_wp2_with fail
        refine wp_region_class (fun w' => IL w' g (plainI s.data.toList) ∧ Below w.heap.size w w') (by kernel_rfl) (by kernel_rfl) ⟨HB2.out.1, HB2.out.2.drew⟩ ?_
        repeat (first
            | go_big_quiet_skip
            | (go_big_quiet_want
               unfold Oper.quiet
               apply Exists.intro
               refine ⟨fun wq hwq => ?_, ?_⟩
               · (obtain ⟨hq1, hq2⟩ := hwq
                  obtain ⟨z0, z1, z2, z3, z4⟩ := hq1.cell HX.out.1
                  unfold Oper.quietAt
                  go_simp
                  first
                    | exact ⟨rfl, hq1, hq2⟩
                    | exact rfl
                    | (go_at_call 19; with_reducible refine (rf_span b.toNat b.toNat b.toNat_lt b.toNat_lt _).mono ?_; rintro e w3 ⟨he, hb⟩; rw [HX.out.2] at he; unfold Cs.sv at he; exact ⟨he, hq1.below hb, hq2.trans (hb.mono hq2.size)⟩))
               simp only [Act.put, List.setIfInBounds_toArray, List.set_cons_zero, List.set_cons_succ]
               go_big_quiet_on))
        refine wpQuiet_nil ?_
        intro w4 hw4
        have HB4 : Hid (LI w4 (some ⟨g, 0, none⟩) (plainI s.data.toList) ∧ Below w.heap.size w w4) := Lib.hid ⟨Or.inr ⟨g, rfl, hw4.1⟩, hw4.2⟩
        clear hw4
        go_wp2
        refine ⟨?_, ?measure⟩
        case measure => simp [intOf]; omega
        first
          | exact ⟨k + 1, by go_num, by omega, HB4⟩
          | ((repeat apply Exists.intro); exact ⟨⟨k + 1, by go_num, by omega, HB4⟩, rfl⟩)
    · obtain rfl : k = n := by omega
      go_wp2_with (go_at_call 11; with_reducible refine (gl_lives _).mono ?_; rintro e w9 ⟨rfl, kb⟩)
      go_ret
      exact ⟨rfl, HB.out.2.trans (kb.mono HB.out.2.size)⟩

set_option maxRecDepth 100000 in
theorem lifted (os : Os) (started : os.Started) (H : Type) (enc : TypeId × Value → H) :
    ReturnsInHanded {} Try.checked os 5 .any (Rows.globPlainSpec.pre6 enc Try.prog Try.f5 Rows.globPlainRow.domain false) (Rows.globPlainSpec.post enc Try.prog Try.f5 false true false false) := by
  refine returnsInHanded_of_change (C := Try.checked) ownKn started (by kernel_rfl) Try.func5
    (ChangeSpec.witness6 (enc := enc) (C := Try.checked) false ⟨#[], #[.string ByteArray.empty], []⟩ 8 (by kernel_rfl) (by kernel_rfl) (by kernel_rfl) (by kernel_rfl)) ?_
  intro W base args ds gs before hval0 hW hcnd _
  have hval : ∀ (j : Nat) t v, Try.f5.params[j]? = some t → args[j]? = some v → Value.okWide Try.prog W .any base t v := hval0
  have hW' := hW
  obtain ⟨p, q, hA0, hV, rfl, hfz, hnd⟩ := hW
  have hA : DataW.TrodAll enc Try.prog W 0 (fun _ => true) true Try.f5.params.toList args.toList ds p := hA0
  rw [Try.params5] at hA hval
  obtain ⟨v0, vs0, d0, ds0, p0, q0, hargs, rfl, rfl, h0, r0⟩ := trodAll_cons hA
  obtain ⟨rfl, rfl, rfl⟩ := trodAll_nil r0
  obtain rfl : args = #[v0] := by cases args; simp_all
  obtain ⟨rfl, rfl⟩ := trodVars_none hV
  have k0 := h0
  have lt0 : ∀ x ∈ p0, x.block < W.heap.size := by obtain ⟨m, hm⟩ := k0; exact DataW.trod_lt m _ _ _ hm
  obtain ⟨a0, rfl, rfl, rfl, w0⟩ := open_string Try.underlying9 (hval 0 9 v0 rfl rfl) h0
  clear hA0 hval0
  refine (walk a0 W w0).mono fun e W' ⟨he, bel⟩ => ?_
  subst he
  exact ⟨_, rfl, _, _, _, [], _, [], hW', trodAll_mk1 (shut_bool Try.underlying4 _), (trodAll_cons_mk (Below.trod laidOut (by kernel_rfl) (of_decide_eq_true (by kernel_rfl)) k0 bel lt0) trodAll_mk0), rfl, bel.frame _, fun h => by cases h⟩

theorem over : Rows.globPlainRow.holds Try.pinned (OpenSpec.ofChange Rows.globPlainSpec) :=
  OpenClaim.holds_of_wide 5 Try.f5 rfl rfl rfl rfl rfl rfl rfl ⟨rfl, rfl, rfl, rfl, rfl⟩ rfl rfl rfl rfl rfl (by kernel_rfl) Try.func5 (by kernel_rfl)
    (of_decide_eq_true (by kernel_rfl)) (by unfold Func.isWrapper; first | (rw [if_pos (by decide +kernel)]; kernel_rfl) | (rw [if_neg (by decide +kernel)]; exact ⟨rfl, rfl⟩))
    (fun os started H enc _ => lifted os started H enc)

/-- The statement. -/
theorem proved : Rows.GlobPlainSaid := over
#print axioms proved
end Go.Proofs.Ytkihlnomchhiiaa.globPlain
