/- P37.3: for every list of events (its first 18, bytes cut) and every number: whether they are closed, and whether that one ended at most once, is as the document says. No condition. -/
import Derived.Test.YtdchedkhlfmpeaaOpen
import Derived.WalkKit
import Derived.ProofKit
import Derived.OpenShut
import Derived.Test.YtdchedkhlfmpeaaGrC
import Derived.Test.YtdchedkhlfmpeaaGrD
import Derived.Test.YtdchedkhlfmpeaaGrD
import Derived.Test.YtdchedkhlfmpeaaGr5
import Derived.Test.YtdchedkhlfmpeaaGr6
import Derived.Test.YtdchedkhlfmpeaaClass
namespace Go.Proofs.Ytdchedkhlfmpeaa.graceJudges
open Go.Joins Go.ChangeShapes Go.WideShapes Go.ChangeAt Go.RowKit Go.Deep
open Go.ChangeMaps (open_string)
set_option linter.unusedSimpArgs false
set_option linter.unusedVariables false

set_option maxRecDepth 100000 in
set_option maxHeartbeats 16000000 in

theorem walk (a0 : Option Addr) (len0 cap0 : Nat) (z0 : List Ev) (a1 : Int) (w : World) (w0 : IsEv w a0 len0 cap0 z0) (w1 : (Lit.int .i64 a1).wf = true) :
    Calls Try.prog 6 #[.slice a0 len0 cap0, .int .i64 a1] w fun e w' => e = .returned (.bool true) ∧ Below w.heap.size w w' := by
  have HI0 : Hid _ := Lib.hid w0
  obtain ⟨L, hL⟩ : ∃ L, fewE 18 z0 = L := ⟨_, rfl⟩
  obtain ⟨m, hm⟩ : ∃ m, L.length = m := ⟨_, rfl⟩
  have hm18 : m ≤ 18 := by rw [← hm, ← hL, fewE_len]; omega
  obtain ⟨r1, hr1⟩ : ∃ r : Bool, (r = true ↔ ¬ Gr.wide L m) := by
    by_cases h : Gr.wide L m
    · exact ⟨false, by simp [h]⟩
    · exact ⟨true, by simp [h]⟩
  obtain ⟨r2, hr2⟩ : ∃ r : Bool, (r = true ↔ ¬ Gr.bad a1 L m) := by
    by_cases h : Gr.bad a1 L m
    · exact ⟨false, by simp [h]⟩
    · exact ⟨true, by simp [h]⟩
  have HL : Hid (fewE 18 z0 = L ∧ L.length = m ∧ (∀ x ∈ L, x.ok) ∧ fewE 18 L = L) := Lib.hid ⟨hL, hm, by rw [← hL]; exact fewE_ok w0.2.2.2.ok, by rw [← hL]; exact fewE_fewE 18 z0⟩
  have HR := Lib.hid (And.intro hr1 hr2)
  have b1 : (r1 == r1) = true := by simp
  have b2 : (r2 == r2) = true := by simp
  clear hL hm w0 hr1 hr2
  go_enter Try.func6, Try.ntmps6
  go_wp2_with (first
    | (go_at_call 8; (refine (few_ev a0 len0 cap0 z0 HI0.out.1 (by have := HI0.out.2.1; have := HI0.out.2.2.1; omega) 18 (by omega) 18 rfl L HL.out.1 m HL.out.2.1 _ HI0.out.2.2.2).mono ?_); rintro r4 W1 ⟨g1, c1, rfl, q1, q2, q3⟩; have H1 : Hid (Rn W1 g1 c1 12 (evs L) 47 ∧ Below w.heap.size w W1) := Lib.hid ⟨q1, q3⟩; clear q1 q2 q3 HI0)
    | (go_at_call 8; (refine (few_ev (some ⟨g1, 0, none⟩) m c1 L HL.out.2.1 (by unfold maxLen; omega) 18 (by omega) 18 rfl L HL.out.2.2.2 m HL.out.2.1 _ (EL.of_rn H1.out.1 HL.out.2.2.1)).mono ?_); rintro r5 W2 ⟨g2, c2, rfl, q1, q2, q3⟩; have H2 := kp_2 H1.out.1 H1.out.2 q1 q3; clear q1 q2 q3 H1)
    | (go_at_call 8; (refine (few_ev (some ⟨g1, 0, none⟩) m c1 L HL.out.2.1 (by unfold maxLen; omega) 18 (by omega) 18 rfl L HL.out.2.2.2 m HL.out.2.1 _ (EL.of_rn H4.out.1 HL.out.2.2.1)).mono ?_); rintro r5 W5 ⟨g3, c3, rfl, q1, q2, q3⟩; have H5 := kp_2 H4.out.1 H4.out.2 q1 q3; clear q1 q2 q3 H4)
    | (go_at_call 30; (refine (gr_closed g2 m c2 L HL.out.2.1 (by omega) (cap_of H2.out.2.1 HL.out.2.1).1 (cap_of H2.out.2.1 HL.out.2.1).2 r1 HR.out.1 _ (EL.of_rn H2.out.2.1 HL.out.2.2.1)).mono ?_); rintro r5 W3 ⟨rfl, bb⟩; have H3 := kp_r H2.out.1 H2.out.2.2 bb; clear bb H2)
    | (go_at_call 31; (refine (rg_closed (some ⟨g1, 0, none⟩) m c1 L HL.out.2.1 (by omega) r1 HR.out.1 _ (EL.of_rn H3.out.1 HL.out.2.2.1)).mono ?_); rintro r5 W4 ⟨rfl, bb⟩; have H4 := kp_r H3.out.1 H3.out.2 bb; clear bb H3)
    | (go_at_call 32; (refine (gr_once (some ⟨g3, 0, none⟩) m c3 L HL.out.2.1 (by omega) a1 r2 HR.out.2 _ (EL.of_rn H5.out.2.1 HL.out.2.2.1)).mono ?_); rintro r5 W6 ⟨rfl, bb⟩; have H6 := kp_r H5.out.1 H5.out.2.2 bb; clear bb H5)
    | (go_at_call 33; (refine (rg_once (some ⟨g1, 0, none⟩) m c1 L HL.out.2.1 (by omega) a1 r2 HR.out.2 _ (EL.of_rn H6.out.1 HL.out.2.2.1)).mono ?_); rintro r5 W7 ⟨rfl, bb⟩; have H7 := kp_r H6.out.1 H6.out.2 bb; clear bb H6)
    | (go_at_call 29; (refine (gr_lives _).mono ?_); rintro r5 W8 ⟨rfl, bb⟩; have H8 := Lib.hid bb; clear bb))
  go_ret
  exact ⟨rfl, H7.out.2.trans (H8.out.mono H7.out.2.size)⟩

set_option maxRecDepth 100000 in
theorem lifted (os : Os) (started : os.Started) (H : Type) (enc : TypeId × Value → H) :
    ReturnsInHanded {} Try.checked os 6 .any (Rows.graceJudgesSpec.pre6 enc Try.prog Try.f6 Rows.graceJudgesRow.domain false) (Rows.graceJudgesSpec.post enc Try.prog Try.f6 false true false false) := by
  refine returnsInHanded_of_change (C := Try.checked) ownKn started (by kernel_rfl) Try.func6
    (ChangeSpec.witness6 (enc := enc) (C := Try.checked) false ⟨#[], #[.slice none 0 0, .int .i64 0], []⟩ 8 (by kernel_rfl) (by kernel_rfl) (by kernel_rfl) (by kernel_rfl)) ?_
  intro W base args ds gs before hval0 hW hcnd _
  have hval : ∀ (j : Nat) t v, Try.f6.params[j]? = some t → args[j]? = some v → Value.okWide Try.prog W .any base t v := hval0
  have hW' := hW
  obtain ⟨p, q, hA0, hV, rfl, hfz, hnd⟩ := hW
  have hA : DataW.TrodAll enc Try.prog W 0 (fun _ => true) true Try.f6.params.toList args.toList ds p := hA0
  rw [Try.params6] at hA hval
  obtain ⟨v0, vs0, d0, ds0, p0, q0, hargs, rfl, rfl, h0, r0⟩ := trodAll_cons hA
  obtain ⟨v1, vs1, d1, ds1, p1, q1, rfl, rfl, rfl, h1, r1⟩ := trodAll_cons r0
  obtain ⟨rfl, rfl, rfl⟩ := trodAll_nil r1
  obtain rfl : args = #[v0, v1] := by cases args; simp_all
  obtain ⟨rfl, rfl⟩ := trodVars_none hV
  have k0 := h0
  have lt0 : ∀ x ∈ p0, x.block < W.heap.size := by obtain ⟨m, hm⟩ := k0; exact DataW.trod_lt m _ _ _ hm
  obtain ⟨b0, lb0, cb0, rfl⟩ := okWide_slice Try.underlying22 (hval 0 22 v0 rfl rfl)
  obtain ⟨fu0, hf0⟩ := h0
  simp only [Value.cells] at hf0
  obtain ⟨a0, len0, cap0, z0, e0, w0⟩ := fld_ev hf0
  obtain ⟨rfl, rfl, rfl⟩ : b0 = a0 ∧ lb0 = len0 ∧ cb0 = cap0 := by simpa using e0
  have k1 := h1
  have lt1 : ∀ x ∈ p1, x.block < W.heap.size := by obtain ⟨m, hm⟩ := k1; exact DataW.trod_lt m _ _ _ hm
  obtain ⟨a1, rfl, rfl, rfl, w1⟩ := open_int Try.underlying3 (hval 1 3 v1 rfl rfl) h1
  clear hA0 hval0
  refine (walk b0 lb0 cb0 z0 a1 W w0 w1).mono fun e W' ⟨he, bel⟩ => ?_
  subst he
  exact ⟨_, rfl, _, _, _, [], _, [], hW', trodAll_mk1 (shut_bool Try.underlying4 _), (trodAll_cons_mk (Below.trod laidOut (by kernel_rfl) (of_decide_eq_true (by kernel_rfl)) k0 bel lt0) (trodAll_cons_mk (Below.trod laidOut (by kernel_rfl) (of_decide_eq_true (by kernel_rfl)) k1 bel lt1) trodAll_mk0)), rfl, bel.frame _, fun h => by cases h⟩

theorem over : Rows.graceJudgesRow.holds Try.pinned (OpenSpec.ofChange Rows.graceJudgesSpec) :=
  OpenClaim.holds_of_wide 6 Try.f6 rfl rfl rfl rfl rfl rfl rfl ⟨rfl, rfl, rfl, rfl, rfl⟩ rfl rfl rfl rfl rfl (by kernel_rfl) Try.func6 (by kernel_rfl)
    (of_decide_eq_true (by kernel_rfl)) (by unfold Func.isWrapper; first | (rw [if_pos (by decide +kernel)]; kernel_rfl) | (rw [if_neg (by decide +kernel)]; exact ⟨rfl, rfl⟩))
    (fun os started H enc _ => lifted os started H enc)

/-- The statement. -/
theorem proved : Rows.GraceJudgesSaid := over
#print axioms proved
end Go.Proofs.Ytdchedkhlfmpeaa.graceJudges
