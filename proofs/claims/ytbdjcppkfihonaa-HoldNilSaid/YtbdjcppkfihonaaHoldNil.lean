/- P19.2: for every two texts: what no window finds, and a window that no ring is given to. No condition. -/
import Derived.Test.YtbdjcppkfihonaaOpen
import Derived.WalkKit
import Derived.ProofKit
import Derived.OpenShut
import Derived.Test.YtbdjcppkfihonaaHdB
namespace Go.Proofs.Ytbdjcppkfihonaa.holdNil
open Go.Joins Go.ChangeShapes Go.WideShapes Go.ChangeAt Go.RowKit Go.Deep
open Go.ChangeMaps (open_string)
set_option linter.unusedSimpArgs false
set_option linter.unusedVariables false

set_option maxRecDepth 20000 in
set_option maxHeartbeats 4000000 in

theorem walk (a0 : ByteArray) (a1 : ByteArray) (w : World) (w0 : a0.size ≤ maxLen) (w1 : a1.size ≤ maxLen) :
    Calls Try.prog 11 #[.string a0, .string a1] w fun e w' => e = .returned (.bool true) ∧ Below w.heap.size w w' := by
  go_enter Try.func11, Try.ntmps11
  go_wp2_with (first
    | (go_at_call 34; refine (new_any 9 9 _ (by decide)).mono ?_; rintro e W1 ⟨rfl, q1, q2⟩; have H1 := Lib.hid (And.intro q1 q2); clear q1 q2)
    | (go_at_call 36; refine (put_any_b _ _ 9 0 _ a1 _ w1 H1.out.1).mono ?_; rintro e W2 ⟨rfl, q1, q2⟩; have H2 : Hid (Below w.heap.size w W2 ∧ w.heap.size ≤ W2.heap.size) := Lib.hid ⟨q2.onto H1.out.2 H1.out.2.size (by simp), Nat.le_trans H1.out.2.size q2.size⟩; clear q1 q2 H1)
    | (go_at_call 42; refine (hd_begin_nil _ _).mono ?_; rintro e W3 ⟨rfl, hw3⟩; have H3 : Hid (Below w.heap.size w W3 ∧ w.heap.size ≤ W3.heap.size) := Lib.hid (by rw [hw3]; have h1 := H2.out.1.alloc H2.out.2 (.cells #[.string a0] 9); exact ⟨h1, h1.size⟩); clear hw3 H2)
    | (go_at_call 50; refine (hd_copy_nil _).mono ?_; rintro e W4 ⟨rfl, hw4⟩; subst hw4)
    | (go_at_call 45; refine (hd_len_nil _).mono ?_; rintro e W4 ⟨rfl, hw4⟩; subst hw4)
    | (go_at_call 44; refine (hd_fresh_nil _).mono ?_; rintro e W4 ⟨rfl, hw4⟩; subst hw4)
    | (go_at_call 43; refine (hd_text_nil _).mono ?_; rintro e W4 ⟨rfl, hw4⟩; subst hw4)
    | (go_at_call 32; refine (hd_new 3 3 (by decide) _).mono ?_; rintro e W5 ⟨rfl, q1, q2⟩; have H5 : Hid (HO W5 _ 3 none 0 0 ByteArray.empty 0 (.slice none 0 0) none ∧ Below w.heap.size w W5 ∧ w.heap.size ≤ W5.heap.size) := Lib.hid ⟨q1, H4.out.1.trans (q2.mono H4.out.2), Nat.le_trans H4.out.2 q2.size⟩; clear q1 q2 H4)
    | (go_at_call 39; refine (hd_look_noring _ 3 0 0 none none ByteArray.empty _ _ H5.out.1).mono ?_; rintro e W6 ⟨rfl, q1⟩; have H6 : Hid (Below w.heap.size w W6 ∧ w.heap.size ≤ W6.heap.size) := Lib.hid ⟨H5.out.2.1.trans (q1.mono H5.out.2.2), Nat.le_trans H5.out.2.2 q1.size⟩; clear q1 H5)
    | (go_at_call 39; refine (hd_look_nil _ _).mono ?_; rintro e W3b ⟨rfl, q1⟩; have H4 : Hid (Below w.heap.size w W3b ∧ w.heap.size ≤ W3b.heap.size) := Lib.hid ⟨H3.out.1.trans (q1.mono H3.out.2), Nat.le_trans H3.out.2 q1.size⟩; clear q1 H3)
    | (go_at_call 47; refine (hd_lives _).mono ?_; rintro e W7 ⟨rfl, q1⟩; have H7 := Lib.hid (H6.out.1.trans (q1.mono H6.out.2)); clear q1 H6))
  go_ret
  exact ⟨rfl, H7.out⟩

set_option maxRecDepth 100000 in
theorem lifted (os : Os) (started : os.Started) (H : Type) (enc : TypeId × Value → H) :
    ReturnsInHanded {} Try.checked os 11 .any (Rows.holdNilSpec.pre6 enc Try.prog Try.f11 Rows.holdNilRow.domain false) (Rows.holdNilSpec.post enc Try.prog Try.f11 false true false false) := by
  refine returnsInHanded_of_change (C := Try.checked) ownKn started (by kernel_rfl) Try.func11
    (ChangeSpec.witness6 (enc := enc) (C := Try.checked) false ⟨#[], #[.string ByteArray.empty, .string ByteArray.empty], []⟩ 8 (by kernel_rfl) (by kernel_rfl) (by kernel_rfl) (by kernel_rfl)) ?_
  intro W base args ds gs before hval0 hW hcnd _
  have hval : ∀ (j : Nat) t v, Try.f11.params[j]? = some t → args[j]? = some v → Value.okWide Try.prog W .any base t v := hval0
  have hW' := hW
  obtain ⟨p, q, hA0, hV, rfl, hfz, hnd⟩ := hW
  have hA : DataW.TrodAll enc Try.prog W 0 (fun _ => true) true Try.f11.params.toList args.toList ds p := hA0
  rw [Try.params11] at hA hval
  obtain ⟨v0, vs0, d0, ds0, p0, q0, hargs, rfl, rfl, h0, r0⟩ := trodAll_cons hA
  obtain ⟨v1, vs1, d1, ds1, p1, q1, rfl, rfl, rfl, h1, r1⟩ := trodAll_cons r0
  obtain ⟨rfl, rfl, rfl⟩ := trodAll_nil r1
  obtain rfl : args = #[v0, v1] := by cases args; simp_all
  obtain ⟨rfl, rfl⟩ := trodVars_none hV
  have k0 := h0
  have lt0 : ∀ x ∈ p0, x.block < W.heap.size := by obtain ⟨m, hm⟩ := k0; exact DataW.trod_lt m _ _ _ hm
  obtain ⟨a0, rfl, rfl, rfl, w0⟩ := open_string Try.underlying9 (hval 0 9 v0 rfl rfl) h0
  have k1 := h1
  have lt1 : ∀ x ∈ p1, x.block < W.heap.size := by obtain ⟨m, hm⟩ := k1; exact DataW.trod_lt m _ _ _ hm
  obtain ⟨a1, rfl, rfl, rfl, w1⟩ := open_string Try.underlying9 (hval 1 9 v1 rfl rfl) h1
  clear hA0 hval0
  refine (walk a0 a1 W w0 w1).mono fun e W' ⟨he, bel⟩ => ?_
  subst he
  exact ⟨_, rfl, _, _, _, [], _, [], hW', trodAll_mk1 (shut_bool Try.underlying4 _), (trodAll_cons_mk (Below.trod laidOut (by kernel_rfl) (of_decide_eq_true (by kernel_rfl)) k0 bel lt0) (trodAll_cons_mk (Below.trod laidOut (by kernel_rfl) (of_decide_eq_true (by kernel_rfl)) k1 bel lt1) trodAll_mk0)), rfl, bel.frame _, fun h => by cases h⟩

theorem over : Rows.holdNilRow.holds Try.pinned (OpenSpec.ofChange Rows.holdNilSpec) :=
  OpenClaim.holds_of_wide 11 Try.f11 rfl rfl rfl rfl rfl rfl rfl ⟨rfl, rfl, rfl, rfl, rfl⟩ rfl rfl rfl rfl rfl (by kernel_rfl) Try.func11 (by kernel_rfl)
    (of_decide_eq_true (by kernel_rfl)) (by unfold Func.isWrapper; first | (rw [if_pos (by decide +kernel)]; kernel_rfl) | (rw [if_neg (by decide +kernel)]; exact ⟨rfl, rfl⟩))
    (fun os started H enc _ => lifted os started H enc)

/-- The statement. -/
theorem proved : Rows.HoldNilSaid := over
#print axioms proved
end Go.Proofs.Ytbdjcppkfihonaa.holdNil
