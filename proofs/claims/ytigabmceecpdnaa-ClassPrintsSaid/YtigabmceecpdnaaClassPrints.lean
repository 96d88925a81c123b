/- P6.3, P6.4: for every set and every text behind: the set's text is as the page says, and the set comes back from it, whatever stands behind it. No condition. -/
import Derived.Test.YtigabmceecpdnaaOpen
import Derived.WalkKit
import Derived.ProofKit
import Derived.OpenShut
import Derived.Test.YtigabmceecpdnaaCsQ
namespace Go.Proofs.Ytigabmceecpdnaa.classPrints
open Go.Joins Go.ChangeShapes Go.WideShapes Go.ChangeAt Go.RowKit Go.Deep
open Go.ChangeMaps (open_string)
set_option linter.unusedSimpArgs false
set_option linter.unusedVariables false

theorem told_ne (X : BitVec 256) : Cs.prP 257 (Cs.memT (Cs.told X) 256) ≠ [] := by
  have hl : 0 < (Cs.memT (Cs.told X) 256).length := by
    rw [Cs.memT_len]
    have hc := Cs.cnt_not X
    unfold Cs.told Cs.neg
    by_cases h : (decide (Cs.cnt X.getLsbD 256 = 0) || (decide (128 < Cs.cnt X.getLsbD 256) && decide (Cs.cnt X.getLsbD 256 < 256))) = true
    · rw [if_pos h]
      simp at h; omega
    · rw [if_neg h]
      simp at h; omega
  cases hm : Cs.memT (Cs.told X) 256 with
  | nil => rw [hm] at hl; simp at hl
  | cons c r =>
    simp only [Cs.prP]
    split <;> simp
theorem setP_told (X : BitVec 256) : Cs.setP (Cs.prP 257 (Cs.memT (Cs.told X) 256)) = Cs.told X :=
  Cs.setP_mem _ _ (by have := Cs.memT_le (Cs.told X); omega)
theorem read_back (X : BitVec 256) (s v b : ByteArray) (hs : s.data.toList = Cs.prt X) (hv : s ++ b = v) (hl : v.size ≤ 1000000) (w : World) :
    Calls Try.prog 23 #[.string v] w fun e w' => e = .returned (.tuple #[Cs.sv X, .int .i64 s.size, .int .i64 0]) ∧ Below w.heap.size w w' := by
  have hd : v.data.toList = Cs.prt X ++ b.data.toList := by rw [← hv, ByteArray.data_append, Array.toList_append, hs]
  have hz : s.size = (Cs.prt X).length := size_of hs
  have hok := Cs.prP_ok 257 (Cs.memT (Cs.told X) 256)
  have hne := told_ne X
  have hset := setP_told X
  cases h : Cs.neg X with
  | true =>
    have ht : Cs.told X = ~~~X := by unfold Cs.told; rw [h]; rfl
    have k := cs_read_not v (Cs.prP 257 (Cs.memT (Cs.told X) 256)) b.data.toList hl (by rw [hd]; unfold Cs.prt Cs.ptx; rw [h]; simp) hok hne (~~~X) (by rw [hset, ht]) w
    have e1 : ~~~(~~~X) = X := by simp
    have e2 : 2 + ((Cs.txt (Cs.prP 257 (Cs.memT (Cs.told X) 256))).length + 1) = s.size := by rw [hz]; unfold Cs.prt Cs.ptx; rw [h]; simp; omega
    rw [e1, e2] at k
    exact k
  | false =>
    have ht : Cs.told X = X := by unfold Cs.told; rw [h]; rfl
    have k := cs_read_plain v (Cs.prP 257 (Cs.memT (Cs.told X) 256)) b.data.toList hl (by rw [hd]; unfold Cs.prt Cs.ptx; rw [h]; simp) hok hne X (by rw [hset, ht]) w
    have e2 : 1 + ((Cs.txt (Cs.prP 257 (Cs.memT (Cs.told X) 256))).length + 1) = s.size := by rw [hz]; unfold Cs.prt Cs.ptx; rw [h]; simp; omega
    rw [e2] at k
    exact k
theorem prt_le (X : BitVec 256) : (Cs.prt X).length ≤ 1283 := by
  have := Cs.ptx_le (Cs.told X)
  unfold Cs.prt
  cases Cs.neg X <;> simp <;> omega
set_option maxRecDepth 20000 in
set_option maxHeartbeats 2000000 in

theorem walk (a0_0 a0_1 a0_2 a0_3 : Int) (a1 : ByteArray) (w : World) (w0_0 : (Lit.int .u64 a0_0).wf = true) (w0_1 : (Lit.int .u64 a0_1).wf = true) (w0_2 : (Lit.int .u64 a0_2).wf = true) (w0_3 : (Lit.int .u64 a0_3).wf = true) (w1 : a1.size ≤ maxLen) :
    Calls Try.prog 5 #[.agg #[.int .u64 a0_0, .int .u64 a0_1, .int .u64 a0_2, .int .u64 a0_3], .string a1] w fun e w' => e = .returned (.bool true) ∧ Below w.heap.size w w' := by
  obtain ⟨X, e0, e1, e2, e3⟩ := Cs.words_set a0_0 a0_1 a0_2 a0_3 (wf_u64 w0_0) (wf_u64 w0_1) (wf_u64 w0_2) (wf_u64 w0_3)
  subst e0; subst e1; subst e2; subst e3
  obtain ⟨s, hs⟩ := text_mk (Cs.prt X)
  have ls : s.size ≤ 1283 := by rw [size_of hs]; exact prt_le X
  obtain ⟨b, hb⟩ : ∃ b, cutT a1 10 = b := ⟨_, rfl⟩
  have lb : b.size ≤ 10 := by rw [← hb]; exact cutT_le _ _
  obtain ⟨v, hv⟩ : ∃ v, s ++ b = v := ⟨_, rfl⟩
  have lv : v.size ≤ 1000000 := by rw [← hv, ByteArray.size_append]; omega
  have HS := Lib.hid (And.intro hs (And.intro hv (And.intro lv hb)))
  have eqa : ∀ w, (Op.equalIn 10000 25 (.agg #[.int .u64 (Cs.wd X 0), .int .u64 (Cs.wd X 1), .int .u64 (Cs.wd X 2), .int .u64 (Cs.wd X 3)]) (.agg #[.int .u64 (Cs.wd X 0), .int .u64 (Cs.wd X 1), .int .u64 (Cs.wd X 2), .int .u64 (Cs.wd X 3)])).run Try.prog w = .ok true w := eqIn_set X
  have hc : Hid (SB (w.alloc (.cells #[.int .u64 (Cs.wd X 0), .int .u64 (Cs.wd X 1), .int .u64 (Cs.wd X 2), .int .u64 (Cs.wd X 3)] 25)) w.heap.size X ∧ Below w.heap.size w (w.alloc (.cells #[.int .u64 (Cs.wd X 0), .int .u64 (Cs.wd X 1), .int .u64 (Cs.wd X 2), .int .u64 (Cs.wd X 3)] 25))) := Lib.hid ⟨SB.new w X, (Below.refl _ _).alloc (Nat.le_refl _) _⟩
  clear hs hb lv
  go_enter Try.func5, Try.ntmps5
  go_upto_region 1 with fail
  revert hc
  generalize w.alloc (.cells #[.int .u64 (Cs.wd X 0), .int .u64 (Cs.wd X 1), .int .u64 (Cs.wd X 2), .int .u64 (Cs.wd X 3)] 25) = W
  intro hc
  have x0 := hc.out.1.at (i := 0) (by decide)
  have x1 := hc.out.1.at (i := 1) (by decide)
  have x2 := hc.out.1.at (i := 2) (by decide)
  have x3 := hc.out.1.at (i := 3) (by decide)
  go_upto_region 2 with (first
    | (go_at_call 22; rw [sv_def X]; refine (rf_print X s HS.out.1 _).mono ?_; rintro e W1 ⟨rfl, hb1⟩; have HB1 : Hid (SB W1 w.heap.size X ∧ Below w.heap.size w W1) := Lib.hid ⟨hc.out.1.below hb1, hc.out.2.trans (hb1.mono hc.out.2.size)⟩; clear hb1 x0 x1 x2 x3)
    | (go_at_call 6; with_reducible refine (cut_10 a1 b w1 HS.out.2.2.2 _).mono ?_; rintro e w' ⟨rfl, rfl⟩))
  go_upto_region 3 with (go_at_call 23; refine (read_back X s v b HS.out.1 HS.out.2.1 HS.out.2.2.1 _).mono ?_; rintro e W2 ⟨rfl, hb2⟩; unfold Cs.sv; have HB2 : Hid (SB (W2.alloc (.cells #[.int .u64 (Cs.wd X 0), .int .u64 (Cs.wd X 1), .int .u64 (Cs.wd X 2), .int .u64 (Cs.wd X 3)] 25)) W2.heap.size X ∧ SB (W2.alloc (.cells #[.int .u64 (Cs.wd X 0), .int .u64 (Cs.wd X 1), .int .u64 (Cs.wd X 2), .int .u64 (Cs.wd X 3)] 25)) w.heap.size X ∧ Below w.heap.size w (W2.alloc (.cells #[.int .u64 (Cs.wd X 0), .int .u64 (Cs.wd X 1), .int .u64 (Cs.wd X 2), .int .u64 (Cs.wd X 3)] 25))) := Lib.hid ⟨SB.new W2 X, (HB1.out.1.below hb2).alloc _, (HB1.out.2.trans (hb2.mono HB1.out.2.size)).alloc (by have := HB1.out.2.size; have := hb2.size; omega) _⟩; clear hb2)
  revert HB2
  generalize W2.alloc (.cells #[.int .u64 (Cs.wd X 0), .int .u64 (Cs.wd X 1), .int .u64 (Cs.wd X 2), .int .u64 (Cs.wd X 3)] 25) = V
  generalize W2.heap.size = D
  intro HB2
  have y0 := HB2.out.1.at (i := 0) (by decide)
  have y1 := HB2.out.1.at (i := 1) (by decide)
  have y2 := HB2.out.1.at (i := 2) (by decide)
  have y3 := HB2.out.1.at (i := 3) (by decide)
  have x0 := HB2.out.2.1.at (i := 0) (by decide)
  have x1 := HB2.out.2.1.at (i := 1) (by decide)
  have x2 := HB2.out.2.1.at (i := 2) (by decide)
  have x3 := HB2.out.2.1.at (i := 3) (by decide)
  go_wp2_with (first
    | (go_at_call 24; rw [sv_def X]; refine (cs_print X s HS.out.1 _).mono ?_; rintro e W5 ⟨rfl, hb5⟩; have HB5 : Hid (SB W5 D X ∧ SB W5 w.heap.size X ∧ Below w.heap.size w W5) := Lib.hid ⟨HB2.out.1.below hb5, HB2.out.2.1.below hb5, HB2.out.2.2.trans (hb5.mono HB2.out.2.2.size)⟩; clear hb5 x0 x1 x2 x3 y0 y1 y2 y3; have y0 := HB5.out.1.at (i := 0) (by decide); have y1 := HB5.out.1.at (i := 1) (by decide); have y2 := HB5.out.1.at (i := 2) (by decide); have y3 := HB5.out.1.at (i := 3) (by decide); have x0 := HB5.out.2.1.at (i := 0) (by decide); have x1 := HB5.out.2.1.at (i := 1) (by decide); have x2 := HB5.out.2.1.at (i := 2) (by decide); have x3 := HB5.out.2.1.at (i := 3) (by decide))
    | (go_at_call 11; with_reducible refine (cs_lives _).mono ?_; rintro e W6 ⟨rfl, kb⟩; have HB6 : Hid (Below w.heap.size w W6) := Lib.hid (HB5.out.2.2.trans (kb.mono HB5.out.2.2.size)); clear kb))
  go_ret
  exact ⟨rfl, HB6.out⟩

set_option maxRecDepth 100000 in
theorem lifted (os : Os) (started : os.Started) (H : Type) (enc : TypeId × Value → H) :
    ReturnsInHanded {} Try.checked os 5 .any (Rows.classPrintsSpec.pre6 enc Try.prog Try.f5 Rows.classPrintsRow.domain false) (Rows.classPrintsSpec.post enc Try.prog Try.f5 false true false false) := by
  refine returnsInHanded_of_change (C := Try.checked) ownKn started (by kernel_rfl) Try.func5
    (ChangeSpec.witness6 (enc := enc) (C := Try.checked) false ⟨#[], #[.agg #[.int .u64 0, .int .u64 0, .int .u64 0, .int .u64 0], .string ByteArray.empty], []⟩ 8 (by kernel_rfl) (by kernel_rfl) (by kernel_rfl) (by kernel_rfl)) ?_
  intro W base args ds gs before hval0 hW hcnd _
  have hval : ∀ (j : Nat) t v, Try.f5.params[j]? = some t → args[j]? = some v → Value.okWide Try.prog W .any base t v := hval0
  have hW' := hW
  obtain ⟨p, q, hA0, hV, rfl, hfz, hnd⟩ := hW
  have hA : DataW.TrodAll enc Try.prog W 0 (fun _ => true) true Try.f5.params.toList args.toList ds p := hA0
  rw [Try.params5] at hA hval
  obtain ⟨v0, vs0, d0, ds0, p0, q0, hargs, rfl, rfl, h0, r0⟩ := trodAll_cons hA
  obtain ⟨v1, vs1, d1, ds1, p1, q1, rfl, rfl, rfl, h1, r1⟩ := trodAll_cons r0
  obtain ⟨rfl, rfl, rfl⟩ := trodAll_nil r1
  obtain rfl : args = #[v0, v1] := by cases args; simp_all
  obtain ⟨rfl, rfl⟩ := trodVars_none hV
  have k0 := h0
  have lt0 : ∀ x ∈ p0, x.block < W.heap.size := by obtain ⟨m, hm⟩ := k0; exact DataW.trod_lt m _ _ _ hm
  obtain ⟨c0_0, c0_1, c0_2, c0_3, rfl⟩ := okWide_arr4 Try.underlying25 (by kernel_rfl) (hval 0 25 v0 rfl rfl)
  obtain ⟨fu0, hf0⟩ := h0
  obtain ⟨y0_0, y0_1, y0_2, y0_3, nn0, _, g0_0, g0_1, g0_2, g0_3⟩ := trod_array4 Try.underlying25 (by kernel_rfl) hf0
  obtain ⟨a0_0, rfl, w0_0⟩ := fld_int Try.underlying23 g0_0
  obtain ⟨a0_1, rfl, w0_1⟩ := fld_int Try.underlying23 g0_1
  obtain ⟨a0_2, rfl, w0_2⟩ := fld_int Try.underlying23 g0_2
  obtain ⟨a0_3, rfl, w0_3⟩ := fld_int Try.underlying23 g0_3
  have k1 := h1
  have lt1 : ∀ x ∈ p1, x.block < W.heap.size := by obtain ⟨m, hm⟩ := k1; exact DataW.trod_lt m _ _ _ hm
  obtain ⟨a1, rfl, rfl, rfl, w1⟩ := open_string Try.underlying9 (hval 1 9 v1 rfl rfl) h1
  clear hA0 hval0
  refine (walk a0_0 a0_1 a0_2 a0_3 a1 W w0_0 w0_1 w0_2 w0_3 w1).mono fun e W' ⟨he, bel⟩ => ?_
  subst he
  exact ⟨_, rfl, _, _, _, [], _, [], hW', trodAll_mk1 (shut_bool Try.underlying4 _), (trodAll_cons_mk (Below.trod laidOut (by kernel_rfl) (of_decide_eq_true (by kernel_rfl)) k0 bel lt0) (trodAll_cons_mk (Below.trod laidOut (by kernel_rfl) (of_decide_eq_true (by kernel_rfl)) k1 bel lt1) trodAll_mk0)), rfl, bel.frame _, fun h => by cases h⟩

theorem over : Rows.classPrintsRow.holds Try.pinned (OpenSpec.ofChange Rows.classPrintsSpec) :=
  OpenClaim.holds_of_wide 5 Try.f5 rfl rfl rfl rfl rfl rfl rfl ⟨rfl, rfl, rfl, rfl, rfl⟩ rfl rfl rfl rfl rfl (by kernel_rfl) Try.func5 (by kernel_rfl)
    (of_decide_eq_true (by kernel_rfl)) (by unfold Func.isWrapper; first | (rw [if_pos (by decide +kernel)]; kernel_rfl) | (rw [if_neg (by decide +kernel)]; exact ⟨rfl, rfl⟩))
    (fun os started H enc _ => lifted os started H enc)

/-- The statement. -/
theorem proved : Rows.ClassPrintsSaid := over
#print axioms proved
end Go.Proofs.Ytigabmceecpdnaa.classPrints
