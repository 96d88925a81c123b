/- P6.1, P6.4: for every two sets and every byte: what comes of them, which bytes are in one, and how many, is as the page says. No condition. -/
import Derived.Test.YtigabmceecpdnaaOpen
import Derived.WalkKit
import Derived.ProofKit
import Derived.OpenShut
import Derived.Test.YtigabmceecpdnaaCsQ
import Derived.Test.YtigabmceecpdnaaClass
namespace Go.Proofs.Ytigabmceecpdnaa.classPairs
open Go.Joins Go.ChangeShapes Go.WideShapes Go.ChangeAt Go.RowKit Go.Deep
open Go.ChangeMaps (open_string)
set_option linter.unusedSimpArgs false
set_option linter.unusedVariables false

set_option maxRecDepth 20000 in
set_option maxHeartbeats 4000000 in

theorem walk (a0_0 a0_1 a0_2 a0_3 : Int) (a1_0 a1_1 a1_2 a1_3 : Int) (a2 : Int) (w : World) (w0_0 : (Lit.int .u64 a0_0).wf = true) (w0_1 : (Lit.int .u64 a0_1).wf = true) (w0_2 : (Lit.int .u64 a0_2).wf = true) (w0_3 : (Lit.int .u64 a0_3).wf = true) (w1_0 : (Lit.int .u64 a1_0).wf = true) (w1_1 : (Lit.int .u64 a1_1).wf = true) (w1_2 : (Lit.int .u64 a1_2).wf = true) (w1_3 : (Lit.int .u64 a1_3).wf = true) (w2 : (Lit.int .u8 a2).wf = true) :
    Calls Try.prog 4 #[.agg #[.int .u64 a0_0, .int .u64 a0_1, .int .u64 a0_2, .int .u64 a0_3], .agg #[.int .u64 a1_0, .int .u64 a1_1, .int .u64 a1_2, .int .u64 a1_3], .int .u8 a2] w fun e w' => e = .returned (.bool true) ∧ Below w.heap.size w w' := by
  obtain ⟨X, e0, e1, e2, e3⟩ := Cs.words_set a0_0 a0_1 a0_2 a0_3 (wf_u64 w0_0) (wf_u64 w0_1) (wf_u64 w0_2) (wf_u64 w0_3)
  subst e0; subst e1; subst e2; subst e3
  obtain ⟨Y, e0, e1, e2, e3⟩ := Cs.words_set a1_0 a1_1 a1_2 a1_3 (wf_u64 w1_0) (wf_u64 w1_1) (wf_u64 w1_2) (wf_u64 w1_3)
  subst e0; subst e1; subst e2; subst e3
  obtain ⟨b, rfl, hb⟩ : ∃ b : Nat, a2 = (b : Int) ∧ b < 256 := by have := wf_u8 w2; exact ⟨a2.toNat, by omega, by omega⟩
  obtain ⟨s, hs⟩ := text_mk (Cs.memT X 256)
  obtain ⟨n, hn⟩ : ∃ n, s.size = n := ⟨_, rfl⟩
  have HS : Hid (s.data.toList = Cs.memT X 256 ∧ Cs.cnt X.getLsbD 256 = n) := Lib.hid ⟨hs, by rw [← hn, size_of hs, Cs.memT_len]⟩
  obtain ⟨r, hr⟩ : ∃ r, X.getLsbD b = r := ⟨_, rfl⟩
  have HR := Lib.hid hr
  have wb : IntKind.i64.wrap (b : Int) = (b : Int) := IntWalk.i64_in _ (by omega)
  have eqn := neq_set
  have eqg := guard_set BinOp.neq
  have hc : Hid (SB ((w.alloc (.cells #[.int .u64 (Cs.wd X 0), .int .u64 (Cs.wd X 1), .int .u64 (Cs.wd X 2), .int .u64 (Cs.wd X 3)] 25)).alloc (.cells #[.int .u64 (Cs.wd Y 0), .int .u64 (Cs.wd Y 1), .int .u64 (Cs.wd Y 2), .int .u64 (Cs.wd Y 3)] 25)) w.heap.size X ∧ SB ((w.alloc (.cells #[.int .u64 (Cs.wd X 0), .int .u64 (Cs.wd X 1), .int .u64 (Cs.wd X 2), .int .u64 (Cs.wd X 3)] 25)).alloc (.cells #[.int .u64 (Cs.wd Y 0), .int .u64 (Cs.wd Y 1), .int .u64 (Cs.wd Y 2), .int .u64 (Cs.wd Y 3)] 25)) (w.heap.size + 1) Y ∧ Below w.heap.size w ((w.alloc (.cells #[.int .u64 (Cs.wd X 0), .int .u64 (Cs.wd X 1), .int .u64 (Cs.wd X 2), .int .u64 (Cs.wd X 3)] 25)).alloc (.cells #[.int .u64 (Cs.wd Y 0), .int .u64 (Cs.wd Y 1), .int .u64 (Cs.wd Y 2), .int .u64 (Cs.wd Y 3)] 25))) := Lib.hid ⟨(SB.new w X).alloc _, by have := SB.new (w.alloc (.cells #[.int .u64 (Cs.wd X 0), .int .u64 (Cs.wd X 1), .int .u64 (Cs.wd X 2), .int .u64 (Cs.wd X 3)] 25)) Y; simpa using this, ((Below.refl _ _).alloc (Nat.le_refl _) _).alloc (by simp) _⟩
  clear hs hr
  go_enter Try.func4, Try.ntmps4
  go_upto_region 1 with fail
  revert hc
  generalize (w.alloc (.cells #[.int .u64 (Cs.wd X 0), .int .u64 (Cs.wd X 1), .int .u64 (Cs.wd X 2), .int .u64 (Cs.wd X 3)] 25)).alloc (.cells #[.int .u64 (Cs.wd Y 0), .int .u64 (Cs.wd Y 1), .int .u64 (Cs.wd Y 2), .int .u64 (Cs.wd Y 3)] 25) = W
  intro hc
  refine wp_region_class (fun w' => SB w' w.heap.size X ∧ SB w' (w.heap.size + 1) Y ∧ Below w.heap.size w w') (by kernel_rfl) (by kernel_rfl) ⟨hc.out.1.drew, hc.out.2.1.drew, hc.out.2.2.drew⟩ ?_
  repeat (first
      | go_big_quiet_skip
      | (go_big_quiet_want
         unfold Oper.quiet
         apply Exists.intro
         refine ⟨fun wq hwq => ?_, ?_⟩
         · (obtain ⟨hq1, hq2, hq3⟩ := hwq
            have x0 := hq1.at (i := 0) (by decide)
            have x1 := hq1.at (i := 1) (by decide)
            have x2 := hq1.at (i := 2) (by decide)
            have x3 := hq1.at (i := 3) (by decide)
            have y0 := hq2.at (i := 0) (by decide)
            have y1 := hq2.at (i := 1) (by decide)
            have y2 := hq2.at (i := 2) (by decide)
            have y3 := hq2.at (i := 3) (by decide)
            unfold Oper.quietAt
            go_simp
            first
              | exact ⟨rfl, hq1, hq2, hq3⟩
              | exact rfl
              | (go_at_call 12; rw [sv_def X]; with_reducible refine (cs_not X _).mono ?_; rintro e w3 ⟨he, hb⟩; exact ⟨he, hq1.below hb, hq2.below hb, hq3.trans (hb.mono hq3.size)⟩)
              | (go_at_call 13; rw [sv_def X]; with_reducible refine (rf_not X _).mono ?_; rintro e w3 ⟨he, hb⟩; exact ⟨he, hq1.below hb, hq2.below hb, hq3.trans (hb.mono hq3.size)⟩)
              | (go_at_call 14; rw [sv_def X, sv_def Y]; with_reducible refine (cs_or X Y _).mono ?_; rintro e w3 ⟨he, hb⟩; exact ⟨he, hq1.below hb, hq2.below hb, hq3.trans (hb.mono hq3.size)⟩)
              | (go_at_call 15; rw [sv_def X, sv_def Y]; with_reducible refine (rf_both X Y true (X ||| Y) rfl _).mono ?_; rintro e w3 ⟨he, hb⟩; exact ⟨he, hq1.below hb, hq2.below hb, hq3.trans (hb.mono hq3.size)⟩)
              | (go_at_call 16; rw [sv_def X, sv_def Y]; with_reducible refine (cs_and X Y _).mono ?_; rintro e w3 ⟨he, hb⟩; exact ⟨he, hq1.below hb, hq2.below hb, hq3.trans (hb.mono hq3.size)⟩)
              | (go_at_call 15; rw [sv_def X, sv_def Y]; with_reducible refine (rf_both X Y false (X &&& Y) rfl _).mono ?_; rintro e w3 ⟨he, hb⟩; exact ⟨he, hq1.below hb, hq2.below hb, hq3.trans (hb.mono hq3.size)⟩)
              | (go_at_call 17; rw [sv_def X]; with_reducible refine (cs_has X b hb r HR.out _).mono ?_; rintro e w3 ⟨he, hb⟩; exact ⟨he, hq1.below hb, hq2.below hb, hq3.trans (hb.mono hq3.size)⟩)
              | (go_at_call 18; rw [sv_def X]; with_reducible refine (rf_has X b hb r HR.out _).mono ?_; rintro e w3 ⟨he, hb⟩; exact ⟨he, hq1.below hb, hq2.below hb, hq3.trans (hb.mono hq3.size)⟩)
  )
         simp only [Act.put, List.setIfInBounds_toArray, List.set_cons_zero, List.set_cons_succ]
         go_big_quiet_on))
  refine wpQuiet_nil ?_
  intro w4 hw4
  have HB4 := Lib.hid hw4
  clear hw4
  go_upto_region 3 with fail
  have HB5 := HB4
  clear HB4
  refine wp_region_class (fun w' => SB w' w.heap.size X ∧ SB w' (w.heap.size + 1) Y ∧ Below w.heap.size w w') (by kernel_rfl) (by kernel_rfl) ⟨HB5.out.1.drew, HB5.out.2.1.drew, HB5.out.2.2.drew⟩ ?_
  repeat (first
      | go_big_quiet_skip
      | (go_big_quiet_want
         unfold Oper.quiet
         apply Exists.intro
         refine ⟨fun wq hwq => ?_, ?_⟩
         · (obtain ⟨hq1, hq2, hq3⟩ := hwq
            have x0 := hq1.at (i := 0) (by decide)
            have x1 := hq1.at (i := 1) (by decide)
            have x2 := hq1.at (i := 2) (by decide)
            have x3 := hq1.at (i := 3) (by decide)
            have y0 := hq2.at (i := 0) (by decide)
            have y1 := hq2.at (i := 1) (by decide)
            have y2 := hq2.at (i := 2) (by decide)
            have y3 := hq2.at (i := 3) (by decide)
            unfold Oper.quietAt
            go_simp
            first
              | exact ⟨rfl, hq1, hq2, hq3⟩
              | exact rfl
              | (go_at_call 19; rw [sv_def X]; with_reducible refine (cs_bytes X s HS.out.1 _).mono ?_; rintro e w3 ⟨he, hb⟩; exact ⟨he, hq1.below hb, hq2.below hb, hq3.trans (hb.mono hq3.size)⟩)
              | (go_at_call 20; rw [sv_def X]; with_reducible refine (rf_bytes X s HS.out.1 _).mono ?_; rintro e w3 ⟨he, hb⟩; exact ⟨he, hq1.below hb, hq2.below hb, hq3.trans (hb.mono hq3.size)⟩)
              | (go_at_call 21; rw [sv_def X]; with_reducible refine (cs_len X _).mono ?_; rw [HS.out.2]; rintro e w3 ⟨he, hb⟩; exact ⟨he, hq1.below hb, hq2.below hb, hq3.trans (hb.mono hq3.size)⟩)
              | (go_at_call 11; with_reducible refine (cs_lives _).mono ?_; rintro e w3 ⟨he, hb⟩; exact ⟨he, hq1.below hb, hq2.below hb, hq3.trans (hb.mono hq3.size)⟩)
  )
         simp only [Act.put, List.setIfInBounds_toArray, List.set_cons_zero, List.set_cons_succ]
         go_big_quiet_on))
  refine wpQuiet_nil ?_
  intro w4 hw4
  have HB4 := Lib.hid hw4
  clear hw4
  go_wp2
  go_ret
  exact ⟨rfl, HB4.out.2.2⟩

set_option maxRecDepth 100000 in
theorem lifted (os : Os) (started : os.Started) (H : Type) (enc : TypeId × Value → H) :
    ReturnsInHanded {} Try.checked os 4 .any (Rows.classPairsSpec.pre6 enc Try.prog Try.f4 Rows.classPairsRow.domain false) (Rows.classPairsSpec.post enc Try.prog Try.f4 false true false false) := by
  refine returnsInHanded_of_change (C := Try.checked) ownKn started (by kernel_rfl) Try.func4
    (ChangeSpec.witness6 (enc := enc) (C := Try.checked) false ⟨#[], #[.agg #[.int .u64 0, .int .u64 0, .int .u64 0, .int .u64 0], .agg #[.int .u64 0, .int .u64 0, .int .u64 0, .int .u64 0], .int .u8 0], []⟩ 8 (by kernel_rfl) (by kernel_rfl) (by kernel_rfl) (by kernel_rfl)) ?_
  intro W base args ds gs before hval0 hW hcnd _
  have hval : ∀ (j : Nat) t v, Try.f4.params[j]? = some t → args[j]? = some v → Value.okWide Try.prog W .any base t v := hval0
  have hW' := hW
  obtain ⟨p, q, hA0, hV, rfl, hfz, hnd⟩ := hW
  have hA : DataW.TrodAll enc Try.prog W 0 (fun _ => true) true Try.f4.params.toList args.toList ds p := hA0
  rw [Try.params4] at hA hval
  obtain ⟨v0, vs0, d0, ds0, p0, q0, hargs, rfl, rfl, h0, r0⟩ := trodAll_cons hA
  obtain ⟨v1, vs1, d1, ds1, p1, q1, rfl, rfl, rfl, h1, r1⟩ := trodAll_cons r0
  obtain ⟨v2, vs2, d2, ds2, p2, q2, rfl, rfl, rfl, h2, r2⟩ := trodAll_cons r1
  obtain ⟨rfl, rfl, rfl⟩ := trodAll_nil r2
  obtain rfl : args = #[v0, v1, v2] := by cases args; simp_all
  obtain ⟨rfl, rfl⟩ := trodVars_none hV
  have k0 := h0
  have lt0 : ∀ x ∈ p0, x.block < W.heap.size := by obtain ⟨m, hm⟩ := k0; exact DataW.trod_lt m _ _ _ hm
  obtain ⟨c0_0, c0_1, c0_2, c0_3, rfl⟩ := okWide_arr4 Try.underlying25 (by kernel_rfl) (hval 0 25 v0 rfl rfl)
  obtain ⟨fu0, hf0⟩ := h0
  obtain ⟨y0_0, y0_1, y0_2, y0_3, nn0, _, g0_0, g0_1, g0_2, g0_3⟩ := trod_array4 Try.underlying25 (by kernel_rfl) hf0
  obtain ⟨a0_0, rfl, w0_0⟩ := fld_int Try.underlying23 g0_0
  obtain ⟨a0_1, rfl, w0_1⟩ := fld_int Try.underlying23 g0_1
  obtain ⟨a0_2, rfl, w0_2⟩ := fld_int Try.underlying23 g0_2
  obtain ⟨a0_3, rfl, w0_3⟩ := fld_int Try.underlying23 g0_3
  have k1 := h1
  have lt1 : ∀ x ∈ p1, x.block < W.heap.size := by obtain ⟨m, hm⟩ := k1; exact DataW.trod_lt m _ _ _ hm
  obtain ⟨c1_0, c1_1, c1_2, c1_3, rfl⟩ := okWide_arr4 Try.underlying25 (by kernel_rfl) (hval 1 25 v1 rfl rfl)
  obtain ⟨fu1, hf1⟩ := h1
  obtain ⟨y1_0, y1_1, y1_2, y1_3, nn1, _, g1_0, g1_1, g1_2, g1_3⟩ := trod_array4 Try.underlying25 (by kernel_rfl) hf1
  obtain ⟨a1_0, rfl, w1_0⟩ := fld_int Try.underlying23 g1_0
  obtain ⟨a1_1, rfl, w1_1⟩ := fld_int Try.underlying23 g1_1
  obtain ⟨a1_2, rfl, w1_2⟩ := fld_int Try.underlying23 g1_2
  obtain ⟨a1_3, rfl, w1_3⟩ := fld_int Try.underlying23 g1_3
  have k2 := h2
  have lt2 : ∀ x ∈ p2, x.block < W.heap.size := by obtain ⟨m, hm⟩ := k2; exact DataW.trod_lt m _ _ _ hm
  obtain ⟨a2, rfl, rfl, rfl, w2⟩ := open_int Try.underlying5 (hval 2 5 v2 rfl rfl) h2
  clear hA0 hval0
  refine (walk a0_0 a0_1 a0_2 a0_3 a1_0 a1_1 a1_2 a1_3 a2 W w0_0 w0_1 w0_2 w0_3 w1_0 w1_1 w1_2 w1_3 w2).mono fun e W' ⟨he, bel⟩ => ?_
  subst he
  exact ⟨_, rfl, _, _, _, [], _, [], hW', trodAll_mk1 (shut_bool Try.underlying4 _), (trodAll_cons_mk (Below.trod laidOut (by kernel_rfl) (of_decide_eq_true (by kernel_rfl)) k0 bel lt0) (trodAll_cons_mk (Below.trod laidOut (by kernel_rfl) (of_decide_eq_true (by kernel_rfl)) k1 bel lt1) (trodAll_cons_mk (Below.trod laidOut (by kernel_rfl) (of_decide_eq_true (by kernel_rfl)) k2 bel lt2) trodAll_mk0))), rfl, bel.frame _, fun h => by cases h⟩

theorem over : Rows.classPairsRow.holds Try.pinned (OpenSpec.ofChange Rows.classPairsSpec) :=
  OpenClaim.holds_of_wide 4 Try.f4 rfl rfl rfl rfl rfl rfl rfl ⟨rfl, rfl, rfl, rfl, rfl⟩ rfl rfl rfl rfl rfl (by kernel_rfl) Try.func4 (by kernel_rfl)
    (of_decide_eq_true (by kernel_rfl)) (by unfold Func.isWrapper; first | (rw [if_pos (by decide +kernel)]; kernel_rfl) | (rw [if_neg (by decide +kernel)]; exact ⟨rfl, rfl⟩))
    (fun os started H enc _ => lifted os started H enc)

/-- The statement. -/
theorem proved : Rows.ClassPairsSaid := over
#print axioms proved
end Go.Proofs.Ytigabmceecpdnaa.classPairs
