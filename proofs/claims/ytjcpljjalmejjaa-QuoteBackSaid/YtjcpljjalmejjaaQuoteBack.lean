/- P2.1, P2.4: for every two texts: the text in quotes is as the page says, and comes back, whatever stands behind it. No condition. -/
import Derived.Test.YtjcpljjalmejjaaOpen
import Derived.WalkKit
import Derived.ProofKit
import Derived.OpenShut
import Derived.Test.YtjcpljjalmejjaaQtR4
namespace Go.Proofs.Ytjcpljjalmejjaa.quoteBack
open Go.Joins Go.ChangeShapes Go.WideShapes Go.ChangeAt Go.RowKit Go.Deep
open Go.ChangeMaps (open_string)
set_option linter.unusedSimpArgs false
set_option linter.unusedVariables false

set_option maxRecDepth 20000 in
set_option maxHeartbeats 2000000 in

theorem walk (a0 : ByteArray) (a1 : ByteArray) (w : World) (w0 : a0.size ≤ maxLen) (w1 : a1.size ≤ maxLen) :
    Calls Try.prog 3 #[.string a0, .string a1] w fun e w' => e = .returned (.bool true) ∧ Below w.heap.size w w' := by
  obtain ⟨s, hs⟩ : ∃ s, cutT a0 60 = s := ⟨_, rfl⟩
  obtain ⟨b, hb⟩ : ∃ b, cutT a1 10 = b := ⟨_, rfl⟩
  have ls : s.size ≤ 60 := by rw [← hs]; exact cutT_le _ _
  have lb : b.size ≤ 10 := by rw [← hb]; exact cutT_le _ _
  obtain ⟨q, hq⟩ := text_mk (Qt.quo s.data.toList)
  have lq : q.size ≤ 242 := by have := Qt.quo_le s.data.toList; have := len_tx s; rw [size_of hq]; omega
  obtain ⟨v, hv⟩ : ∃ v, q ++ b = v := ⟨_, rfl⟩
  have lv : v.size ≤ 1000 := by rw [← hv, ByteArray.size_append]; omega
  have HR : Hid (Qt.read v.data.toList = (s.data.toList, q.size, 0)) := Lib.hid (by rw [← hv, ByteArray.data_append, Array.toList_append, hq, Qt.read_quo, size_of hq])
  have HS := Lib.hid (And.intro hs hb)
  have HQ := Lib.hid hq
  have HB : Hid (Below w.heap.size w w) := Lib.hid (Below.refl _ _)
  have ls2 : s.size ≤ 1000 := by omega
  clear hs hb hq
  go_enter Try.func3, Try.ntmps3
  go_wp2_with (first
    | (go_at_call 7; with_reducible refine (cut_60 a0 s w0 HS.out.1 _).mono ?_; rintro e w' ⟨rfl, rfl⟩)
    | (go_at_call 7; with_reducible refine (cut_10 a1 b w1 HS.out.2 _).mono ?_; rintro e w' ⟨rfl, rfl⟩)
    | (go_at_call 8; with_reducible refine (quote_any s q ls2 HQ.out _).mono ?_; rintro e v1 ⟨rfl, kb⟩; replace HB := Lib.hid (HB.out.trans (kb.mono HB.out.size)); clear kb)
    | (go_at_call 10; with_reducible refine (qr_quote s q ls2 HQ.out _).mono ?_; rintro e v1 ⟨rfl, kb⟩; replace HB := Lib.hid (HB.out.trans (kb.mono HB.out.size)); clear kb)
    | (go_at_call 9; with_reducible refine (read_any v s q.size 0 lv HR.out _).mono ?_; rintro e v1 ⟨rfl, kb⟩; replace HB := Lib.hid (HB.out.trans (kb.mono HB.out.size)); clear kb)
    | (go_at_call 11; with_reducible refine (qt_lives _).mono ?_; rintro e v1 ⟨rfl, kb⟩; replace HB := Lib.hid (HB.out.trans (kb.mono HB.out.size)); clear kb))
  go_ret
  exact ⟨rfl, HB.out⟩

set_option maxRecDepth 100000 in
theorem lifted (os : Os) (started : os.Started) (H : Type) (enc : TypeId × Value → H) :
    ReturnsInHanded {} Try.checked os 3 .any (Rows.quoteBackSpec.pre6 enc Try.prog Try.f3 Rows.quoteBackRow.domain false) (Rows.quoteBackSpec.post enc Try.prog Try.f3 false true false false) := by
  refine returnsInHanded_of_change (C := Try.checked) ownKn started (by kernel_rfl) Try.func3
    (ChangeSpec.witness6 (enc := enc) (C := Try.checked) false ⟨#[], #[.string ByteArray.empty, .string ByteArray.empty], []⟩ 8 (by kernel_rfl) (by kernel_rfl) (by kernel_rfl) (by kernel_rfl)) ?_
  intro W base args ds gs before hval0 hW hcnd _
  have hval : ∀ (j : Nat) t v, Try.f3.params[j]? = some t → args[j]? = some v → Value.okWide Try.prog W .any base t v := hval0
  have hW' := hW
  obtain ⟨p, q, hA0, hV, rfl, hfz, hnd⟩ := hW
  have hA : DataW.TrodAll enc Try.prog W 0 (fun _ => true) true Try.f3.params.toList args.toList ds p := hA0
  rw [Try.params3] at hA hval
  obtain ⟨v0, vs0, d0, ds0, p0, q0, hargs, rfl, rfl, h0, r0⟩ := trodAll_cons hA
  obtain ⟨v1, vs1, d1, ds1, p1, q1, rfl, rfl, rfl, h1, r1⟩ := trodAll_cons r0
  obtain ⟨rfl, rfl, rfl⟩ := trodAll_nil r1
  obtain rfl : args = #[v0, v1] := by cases args; simp_all
  obtain ⟨rfl, rfl⟩ := trodVars_none hV
  have k0 := h0
  have lt0 : ∀ x ∈ p0, x.block < W.heap.size := by obtain ⟨m, hm⟩ := k0; exact DataW.trod_lt m _ _ _ hm
  obtain ⟨a0, rfl, rfl, rfl, w0⟩ := open_string Try.underlying9 (hval 0 9 v0 rfl rfl) h0
  have k1 := h1
  have lt1 : ∀ x ∈ p1, x.block < W.heap.size := by obtain ⟨m, hm⟩ := k1; exact DataW.trod_lt m _ _ _ hm
  obtain ⟨a1, rfl, rfl, rfl, w1⟩ := open_string Try.underlying9 (hval 1 9 v1 rfl rfl) h1
  clear hA0 hval0
  refine (walk a0 a1 W w0 w1).mono fun e W' ⟨he, bel⟩ => ?_
  subst he
  exact ⟨_, rfl, _, _, _, [], _, [], hW', trodAll_mk1 (shut_bool Try.underlying4 _), (trodAll_cons_mk (Below.trod laidOut (by kernel_rfl) (of_decide_eq_true (by kernel_rfl)) k0 bel lt0) (trodAll_cons_mk (Below.trod laidOut (by kernel_rfl) (of_decide_eq_true (by kernel_rfl)) k1 bel lt1) trodAll_mk0)), rfl, bel.frame _, fun h => by cases h⟩

theorem over : Rows.quoteBackRow.holds Try.pinned (OpenSpec.ofChange Rows.quoteBackSpec) :=
  OpenClaim.holds_of_wide 3 Try.f3 rfl rfl rfl rfl rfl rfl rfl ⟨rfl, rfl, rfl, rfl, rfl⟩ rfl rfl rfl rfl rfl (by kernel_rfl) Try.func3 (by kernel_rfl)
    (of_decide_eq_true (by kernel_rfl)) (by unfold Func.isWrapper; first | (rw [if_pos (by decide +kernel)]; kernel_rfl) | (rw [if_neg (by decide +kernel)]; exact ⟨rfl, rfl⟩))
    (fun os started H enc _ => lifted os started H enc)

/-- The statement. -/
theorem proved : Rows.QuoteBackSaid := over
#print axioms proved
end Go.Proofs.Ytjcpljjalmejjaa.quoteBack
