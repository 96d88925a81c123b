/- P38.3: for every row of ten numbers: its line is as the document says. ! tab si -/
import Derived.Test.YtdchedkhlfmpeaaDoorOpen
import Derived.Test.YtdchedkhlfmpeaaDoorCards
import Derived.Test.YtdchedkhlfmpeaaDoorTie
import Derived.WalkKit
import Derived.Deep.DeepHandedRow
import Derived.Shelf.Vars
import Derived.Stop.LaidErr
import Derived.Lib.LaidTab
import Derived.ProofKit
import Derived.OpenShut
import Derived.Test.YtdchedkhlfmpeaaDoorLeB
import Derived.Test.YtdchedkhlfmpeaaDoorLeC
import Derived.Test.YtdchedkhlfmpeaaDoorClass
namespace Go.Proofs.YtdchedkhlfmpeaaDoor.ledgerLines
open Go.Joins Go.ChangeShapes Go.WideShapes Go.ChangeAt Go.RowKit Go.Deep
open Go.ChangeMaps (open_string)
set_option linter.unusedSimpArgs false
set_option linter.unusedVariables false

section
variable {H : Type} {enc : TypeId × Value → H} {P : Program} {w : World} {base : Nat} {spare : Nat → Bool} {held : Bool}
theorem open_flat10 {r : Reach} {b0 : Nat} {t : TypeId} {f0 f1 f2 f3 f4 f5 f6 f7 f8 f9 : Field} {v : Value} {d : DataW H} {p : List MemPlace} (hs : P.underlying t = some (.struct #[f0, f1, f2, f3, f4, f5, f6, f7, f8, f9])) (hone : oneCellFields P #[f0, f1, f2, f3, f4, f5, f6, f7, f8, f9] = true) (hC : P.cellsOf t = 10)
    (hv : Value.okWide P w r b0 t v) (h : DataW.Trod enc P w base spare held t v d p) :
    ∃ (v0 v1 v2 v3 v4 v5 v6 v7 v8 v9 : Value) (y0 y1 y2 y3 y4 y5 y6 y7 y8 y9 : DataW H × List MemPlace) (n : Nat), v = .agg #[v0, v1, v2, v3, v4, v5, v6, v7, v8, v9] ∧ d = .agg [y0.1, y1.1, y2.1, y3.1, y4.1, y5.1, y6.1, y7.1, y8.1, y9.1] ∧ True ∧
      DataW.trod enc P w base spare held n f0.type [v0] = some y0 ∧ DataW.trod enc P w base spare held n f1.type [v1] = some y1 ∧ DataW.trod enc P w base spare held n f2.type [v2] = some y2 ∧ DataW.trod enc P w base spare held n f3.type [v3] = some y3 ∧ DataW.trod enc P w base spare held n f4.type [v4] = some y4 ∧ DataW.trod enc P w base spare held n f5.type [v5] = some y5 ∧ DataW.trod enc P w base spare held n f6.type [v6] = some y6 ∧ DataW.trod enc P w base spare held n f7.type [v7] = some y7 ∧ DataW.trod enc P w base spare held n f8.type [v8] = some y8 ∧ DataW.trod enc P w base spare held n f9.type [v9] = some y9 := by
  obtain ⟨cs, rfl, hsz⟩ := okWide_struct hs hv
  obtain ⟨l⟩ := cs
  match l, hsz.trans hC with
  | [c0, c1, c2, c3, c4, c5, c6, c7, c8, c9], _ =>
    obtain ⟨fuel, hf⟩ := h
    obtain ⟨xs, n, _, hx, _, hlen, hg⟩ := DataW.trod_struct hs hf
    obtain ⟨o0, k0⟩ := hone_of hone 0 f0 rfl
    obtain ⟨o1, k1⟩ := hone_of hone 1 f1 rfl
    obtain ⟨o2, k2⟩ := hone_of hone 2 f2 rfl
    obtain ⟨o3, k3⟩ := hone_of hone 3 f3 rfl
    obtain ⟨o4, k4⟩ := hone_of hone 4 f4 rfl
    obtain ⟨o5, k5⟩ := hone_of hone 5 f5 rfl
    obtain ⟨o6, k6⟩ := hone_of hone 6 f6 rfl
    obtain ⟨o7, k7⟩ := hone_of hone 7 f7 rfl
    obtain ⟨o8, k8⟩ := hone_of hone 8 f8 rfl
    obtain ⟨o9, k9⟩ := hone_of hone 9 f9 rfl
    match xs, hlen with
    | [y0, y1, y2, y3, y4, y5, y6, y7, y8, y9], _ =>
      simp only [Prod.mk.injEq] at hx
      exact ⟨c0, c1, c2, c3, c4, c5, c6, c7, c8, c9, y0, y1, y2, y3, y4, y5, y6, y7, y8, y9, n, rfl, by simpa using hx.1, trivial, by simpa [Value.cells, o0, k0] using hg 0 f0 rfl, by simpa [Value.cells, o1, k1] using hg 1 f1 rfl, by simpa [Value.cells, o2, k2] using hg 2 f2 rfl, by simpa [Value.cells, o3, k3] using hg 3 f3 rfl, by simpa [Value.cells, o4, k4] using hg 4 f4 rfl, by simpa [Value.cells, o5, k5] using hg 5 f5 rfl, by simpa [Value.cells, o6, k6] using hg 6 f6 rfl, by simpa [Value.cells, o7, k7] using hg 7 f7 rfl, by simpa [Value.cells, o8, k8] using hg 8 f8 rfl, by simpa [Value.cells, o9, k9] using hg 9 f9 rfl⟩
end
theorem rl_line10 (x0 x1 x2 x3 x4 x5 x6 x7 x8 x9 : Int) (HXX : Le.R.ok ⟨x0, x1, x2, x3, x4, x5, x6, x7, x8, x9⟩) (X : ByteArray) (hX : Le.t (Le.line x0 x1 x2 x3 x4 x5 x6 x7 x8 x9) = X) (w : World) :
    Calls Tryd.prog 16 #[.agg #[.int .i64 x0, .int .i64 x1, .int .i64 x2, .int .i64 x3, .int .i64 x4, .int .i64 x5, .int .i64 x6, .int .i64 x7, .int .i64 x8, .int .i64 x9]] w fun e w' => e = .returned (.string X) ∧ Below w.heap.size w w' := by
  subst hX
  obtain ⟨h0, h1, h2, h3, h4, h5, h6, h7, h8⟩ := HXX
  exact rl_line x0 x1 x2 x3 x4 x5 x6 x7 x8 x9 h0 h1 h2 h3 h4 h5 h6 h7 h8 w
set_option maxRecDepth 20000 in
set_option maxHeartbeats 16000000 in

theorem walk (a0_Id : Int) (a0_Script : Int) (a0_From : Int) (a0_Steps : Int) (a0_Looks : Int) (a0_Jumps : Int) (a0_Read : Int) (a0_Taken : Int) (a0_Status : Int) (a0_End : Int) (w : World) (htab : Lib.TabIs Tryd.prog w "internal/strconv.uint64pow10" .u64 Lib.pow10Tab) (hsi : SI w) (w0_Id : (Lit.int .i64 a0_Id).wf = true) (w0_Script : (Lit.int .i64 a0_Script).wf = true) (w0_From : (Lit.int .i64 a0_From).wf = true) (w0_Steps : (Lit.int .i64 a0_Steps).wf = true) (w0_Looks : (Lit.int .i64 a0_Looks).wf = true) (w0_Jumps : (Lit.int .i64 a0_Jumps).wf = true) (w0_Read : (Lit.int .i64 a0_Read).wf = true) (w0_Taken : (Lit.int .i64 a0_Taken).wf = true) (w0_Status : (Lit.int .i64 a0_Status).wf = true) (w0_End : (Lit.int .i64 a0_End).wf = true) :
    Calls Tryd.prog 5 #[.agg #[.int .i64 a0_Id, .int .i64 a0_Script, .int .i64 a0_From, .int .i64 a0_Steps, .int .i64 a0_Looks, .int .i64 a0_Jumps, .int .i64 a0_Read, .int .i64 a0_Taken, .int .i64 a0_Status, .int .i64 a0_End]] w fun e w' => e = .returned (.bool true) ∧ Below w.heap.size w w' := by
  have hok : Le.R.ok ⟨a0_Id, a0_Script, a0_From, a0_Steps, a0_Looks, a0_Jumps, a0_Read, a0_Taken, a0_Status, a0_End⟩ := by
    unfold Le.R.ok Le.i64
    have := bounds_i64 w0_Id
    have := bounds_i64 w0_Script
    have := bounds_i64 w0_From
    have := bounds_i64 w0_Steps
    have := bounds_i64 w0_Looks
    have := bounds_i64 w0_Jumps
    have := bounds_i64 w0_Read
    have := bounds_i64 w0_Taken
    have := bounds_i64 w0_End
    dsimp only
    omega
  obtain ⟨S, hS⟩ : ∃ S, Le.t (Le.line a0_Id a0_Script a0_From a0_Steps a0_Looks a0_Jumps a0_Read a0_Taken a0_Status a0_End) = S := ⟨_, rfl⟩
  obtain ⟨X, hX⟩ : ∃ X, w.heap.size = X := ⟨_, rfl⟩
  have k0 : Below w.heap.size w (w.alloc (.cells #[.int .i64 a0_Id, .int .i64 a0_Script, .int .i64 a0_From, .int .i64 a0_Steps, .int .i64 a0_Looks, .int .i64 a0_Jumps, .int .i64 a0_Read, .int .i64 a0_Taken, .int .i64 a0_Status, .int .i64 a0_End] 31)) := (Below.refl _ _).alloc (Nat.le_refl _) _
  have HS : Hid (LG w (w.alloc (.cells #[.int .i64 a0_Id, .int .i64 a0_Script, .int .i64 a0_From, .int .i64 a0_Steps, .int .i64 a0_Looks, .int .i64 a0_Jumps, .int .i64 a0_Read, .int .i64 a0_Taken, .int .i64 a0_Status, .int .i64 a0_End] 31)) X [.int .i64 a0_Id, .int .i64 a0_Script, .int .i64 a0_From, .int .i64 a0_Steps, .int .i64 a0_Looks, .int .i64 a0_Jumps, .int .i64 a0_Read, .int .i64 a0_Taken, .int .i64 a0_Status, .int .i64 a0_End] 31) := Lib.hid ⟨by rw [← hX]; exact Blk.newA _ _ _, tab_below k0 htab, hsi.below k0, k0, by simp⟩
  have HV := Lib.hid (And.intro hok hS)
  clear hok hS k0 htab hsi
  go_enter Tryd.func5, Tryd.ntmps5
  go_upto_region 1 with fail
  clear hX
  revert HS
  generalize (w.alloc (.cells #[.int .i64 a0_Id, .int .i64 a0_Script, .int .i64 a0_From, .int .i64 a0_Steps, .int .i64 a0_Looks, .int .i64 a0_Jumps, .int .i64 a0_Read, .int .i64 a0_Taken, .int .i64 a0_Status, .int .i64 a0_End] 31)) = W1
  intro HS
  replace HS := Lib.hid (HS.out.below (Below.refl _ _).drew)
  have s0 := HS.out.s10
  go_region_held3 (fun W => W.cell? ⟨X, 0, none⟩ = some (.int .i64 a0_Id) ∧ W.cell? ⟨X, 1, none⟩ = some (.int .i64 a0_Script) ∧ W.cell? ⟨X, 2, none⟩ = some (.int .i64 a0_From) ∧ W.cell? ⟨X, 3, none⟩ = some (.int .i64 a0_Steps) ∧ W.cell? ⟨X, 4, none⟩ = some (.int .i64 a0_Looks) ∧ W.cell? ⟨X, 5, none⟩ = some (.int .i64 a0_Jumps) ∧ W.cell? ⟨X, 6, none⟩ = some (.int .i64 a0_Read) ∧ W.cell? ⟨X, 7, none⟩ = some (.int .i64 a0_Taken) ∧ W.cell? ⟨X, 8, none⟩ = some (.int .i64 a0_Status) ∧ W.cell? ⟨X, 9, none⟩ = some (.int .i64 a0_End)) (first | with_reducible exact sA | with_reducible exact s0 | go_keep) (first
    | (go_at_call 15; (with_reducible refine (le_line10 a0_Id a0_Script a0_From a0_Steps a0_Looks a0_Jumps a0_Read a0_Taken a0_Status a0_End HV.out.1 S HV.out.2 _ HS.out.tab HS.out.si).mono ?_); rintro e1 V1 ⟨rfl, q3⟩; have HSn := Lib.hid (HS.out.below q3); clear HS; have HS := HSn; clear HSn q3; have sA := HS.out.s10)
    | (go_at_call 16; (with_reducible refine (rl_line10 a0_Id a0_Script a0_From a0_Steps a0_Looks a0_Jumps a0_Read a0_Taken a0_Status a0_End HV.out.1 S HV.out.2 _).mono ?_); rintro e1 V1 ⟨rfl, q3⟩; have HSn := Lib.hid (HS.out.below q3); clear HS; have HS := HSn; clear HSn q3; have sA := HS.out.s10)
    | (go_at_call 13; (with_reducible refine (le_lives _ HS.out.tab HS.out.si).mono ?_); rintro e1 V1 ⟨rfl, q3⟩; have HSn := Lib.hid (HS.out.below q3); clear HS; have HS := HSn; clear HSn q3; have sA := HS.out.s10))
  all_goals
    go_wp2_with fail
    go_ret
    exact ⟨rfl, HS.out.be⟩


theorem own3 : ownKnob Tryd.prog.godebug = none := by kernel_rfl
theorem tab_rows : (Rows.laid_internal_strconv_uint64pow10 : DataW Unit) = Lib.tabData .u64 Lib.pow10Tab := by kernel_rfl
theorem tab_of (W : World) (hL : laidMetH Tryd.prog Rows.ledgerLinesRow.laid W) : Lib.TabIs Tryd.prog W "internal/strconv.uint64pow10" .u64 Lib.pow10Tab := by
  have h1 : laidMet Tryd.prog Rows.ledgerLinesRow.laid W := hL
  have h2 : laidMet Tryd.prog [("math/bits.deBruijn32tab", Rows.laid_math_bits_deBruijn32tab), ("math/bits.deBruijn64tab", Rows.laid_math_bits_deBruijn64tab), ("internal/strconv.uint64pow10", Rows.laid_internal_strconv_uint64pow10), ("repartee/log.statuses", Rows.laid_repartee_log_statuses)] W := h1
  have h3 := h2.tail.tail
  rw [tab_rows] at h3
  exact Lib.tabIs_of_head (g := 1) (t := 137) (e := 118) (n := 20) (by kernel_rfl) (by kernel_rfl) (by kernel_rfl) (by kernel_rfl) (by kernel_rfl) (by kernel_rfl) h3
theorem si_of (W : World) (hL : laidMetH Tryd.prog Rows.ledgerLinesRow.laid W) : SI W := by
  have h1 : laidMet Tryd.prog Rows.ledgerLinesRow.laid W := hL
  have h2 : laidMet Tryd.prog [("math/bits.deBruijn32tab", Rows.laid_math_bits_deBruijn32tab), ("math/bits.deBruijn64tab", Rows.laid_math_bits_deBruijn64tab), ("internal/strconv.uint64pow10", Rows.laid_internal_strconv_uint64pow10), ("repartee/log.statuses", Rows.laid_repartee_log_statuses)] W := h1
  exact SI_of W h2.tail.tail.tail
set_option maxRecDepth 100000 in
theorem contract (H : Type) (enc : TypeId × Value → H) (W : World) (base : Nat) (args : Array Value) (ds gs : List (DataW H)) (before : List MemPlace)
    (hval0 : ∀ (j : Nat) t v, Tryd.f5.params[j]? = some t → args[j]? = some v → Value.okWide Tryd.prog W .any base t v)
    (hW : DataW.Whole enc Tryd.prog Tryd.f5.params.toList Rows.ledgerLinesSpec.vars false W args.toList ds gs before) (hSh : W.ShapedOpen Tryd.prog) (htab : Lib.TabIs Tryd.prog W "internal/strconv.uint64pow10" .u64 Lib.pow10Tab) (hsi : SI W) :
    Calls Tryd.prog 5 args W fun e W' => ∃ v, e = .returned v ∧ Rows.ledgerLinesSpec.post enc Tryd.prog Tryd.f5 false true false false W args v W' := by
  have hval : ∀ (j : Nat) t v, Tryd.f5.params[j]? = some t → args[j]? = some v → Value.okWide Tryd.prog W .any base t v := hval0
  have hW' := hW
  obtain ⟨p, q, hA0, hV, rfl, hfz, hnd⟩ := hW
  have hA : DataW.TrodAll enc Tryd.prog W 0 (fun _ => true) true Tryd.f5.params.toList args.toList ds p := hA0
  rw [Tryd.params5] at hA hval
  obtain ⟨v0, vs0, d0, ds0, p0, q0, hargs, rfl, rfl, h0, r0⟩ := trodAll_cons hA
  obtain ⟨rfl, rfl, rfl⟩ := trodAll_nil r0
  obtain rfl : args = #[v0] := by cases args; simp_all
  obtain ⟨rfl, rfl⟩ := trodVars_none hV
  have k0 := h0
  have lt0 : ∀ x ∈ p0, x.block < W.heap.size := by obtain ⟨m, hm⟩ := k0; exact DataW.trod_lt m _ _ _ hm
  obtain ⟨u0_0, u0_1, u0_2, u0_3, u0_4, u0_5, u0_6, u0_7, u0_8, u0_9, y0_0, y0_1, y0_2, y0_3, y0_4, y0_5, y0_6, y0_7, y0_8, y0_9, nn0, rfl, _, _, g0_0, g0_1, g0_2, g0_3, g0_4, g0_5, g0_6, g0_7, g0_8, g0_9⟩ := open_flat10 Tryd.underlying31 (by kernel_rfl) (by kernel_rfl) (hval 0 31 v0 rfl rfl) h0
  obtain ⟨a0_Id, rfl, w0_Id⟩ := fld_int Tryd.underlying3 g0_0
  obtain ⟨a0_Script, rfl, w0_Script⟩ := fld_int Tryd.underlying3 g0_1
  obtain ⟨a0_From, rfl, w0_From⟩ := fld_int Tryd.underlying2 g0_2
  obtain ⟨a0_Steps, rfl, w0_Steps⟩ := fld_int Tryd.underlying3 g0_3
  obtain ⟨a0_Looks, rfl, w0_Looks⟩ := fld_int Tryd.underlying3 g0_4
  obtain ⟨a0_Jumps, rfl, w0_Jumps⟩ := fld_int Tryd.underlying3 g0_5
  obtain ⟨a0_Read, rfl, w0_Read⟩ := fld_int Tryd.underlying3 g0_6
  obtain ⟨a0_Taken, rfl, w0_Taken⟩ := fld_int Tryd.underlying3 g0_7
  obtain ⟨a0_Status, rfl, w0_Status⟩ := fld_int Tryd.underlying3 g0_8
  obtain ⟨a0_End, rfl, w0_End⟩ := fld_int Tryd.underlying2 g0_9
  clear hA0 hval0
  refine (walk a0_Id a0_Script a0_From a0_Steps a0_Looks a0_Jumps a0_Read a0_Taken a0_Status a0_End W htab hsi w0_Id w0_Script w0_From w0_Steps w0_Looks w0_Jumps w0_Read w0_Taken w0_Status w0_End).mono fun e W' ⟨he, bel⟩ => ?_
  subst he
  exact ⟨_, rfl, _, _, _, [], _, [], hW', trodAll_mk1 (shut_bool Tryd.underlying4 _), (trodAll_cons_mk (Below.trod laidOut (by kernel_rfl) (of_decide_eq_true (by kernel_rfl)) k0 bel lt0) trodAll_mk0), rfl, bel.frame _, fun h => by cases h⟩

noncomputable def laidWorld (os : Os) : World :=
  { World.holding Tryd.prog os ⟨#[], #[], []⟩ with heap := (((((World.holding Tryd.prog os ⟨#[], #[], []⟩).heap.modify 3 fun
      | .cells _ t frozen => .cells #[.int .u8 0, .int .u8 1, .int .u8 28, .int .u8 2, .int .u8 29, .int .u8 14, .int .u8 24, .int .u8 3, .int .u8 30, .int .u8 22, .int .u8 20, .int .u8 15, .int .u8 25, .int .u8 17, .int .u8 4, .int .u8 8, .int .u8 31, .int .u8 27, .int .u8 13, .int .u8 23, .int .u8 21, .int .u8 19, .int .u8 16, .int .u8 7, .int .u8 26, .int .u8 12, .int .u8 18, .int .u8 6, .int .u8 11, .int .u8 5, .int .u8 10, .int .u8 9] t frozen
      | o => o).modify 4 fun
      | .cells _ t frozen => .cells #[.int .u8 0, .int .u8 1, .int .u8 56, .int .u8 2, .int .u8 57, .int .u8 49, .int .u8 28, .int .u8 3, .int .u8 61, .int .u8 58, .int .u8 42, .int .u8 50, .int .u8 38, .int .u8 29, .int .u8 17, .int .u8 4, .int .u8 62, .int .u8 47, .int .u8 59, .int .u8 36, .int .u8 45, .int .u8 43, .int .u8 51, .int .u8 22, .int .u8 53, .int .u8 39, .int .u8 33, .int .u8 30, .int .u8 24, .int .u8 18, .int .u8 12, .int .u8 5, .int .u8 63, .int .u8 55, .int .u8 48, .int .u8 27, .int .u8 60, .int .u8 41, .int .u8 37, .int .u8 16, .int .u8 46, .int .u8 35, .int .u8 44, .int .u8 21, .int .u8 52, .int .u8 32, .int .u8 23, .int .u8 11, .int .u8 54, .int .u8 26, .int .u8 40, .int .u8 15, .int .u8 34, .int .u8 20, .int .u8 31, .int .u8 10, .int .u8 25, .int .u8 14, .int .u8 19, .int .u8 9, .int .u8 13, .int .u8 8, .int .u8 7, .int .u8 6] t frozen
      | o => o).modify 1 fun
      | .cells _ t frozen => .cells #[.int .u64 1, .int .u64 10, .int .u64 100, .int .u64 1000, .int .u64 10000, .int .u64 100000, .int .u64 1000000, .int .u64 10000000, .int .u64 100000000, .int .u64 1000000000, .int .u64 10000000000, .int .u64 100000000000, .int .u64 1000000000000, .int .u64 10000000000000, .int .u64 100000000000000, .int .u64 1000000000000000, .int .u64 10000000000000000, .int .u64 100000000000000000, .int .u64 1000000000000000000, .int .u64 10000000000000000000] t frozen
      | o => o).modify 0 fun
      | .cells _ t frozen => .cells #[.string ⟨#[114, 117, 110]⟩, .string ⟨#[100, 111, 110, 101]⟩, .string ⟨#[102, 97, 105, 108, 101, 100]⟩, .string ⟨#[100, 101, 97, 100, 108, 105, 110, 101]⟩, .string ⟨#[111, 118, 101, 114, 102, 108, 111, 119]⟩, .string ⟨#[100, 114, 97, 105, 110, 101, 100]⟩] t frozen
      | o => o) }
theorem laid_met (os : Os) : laidMet Tryd.prog Rows.ledgerLinesRow.laid ((laidWorld os).forCall (fun _ _ => 0) ⟨#[], #[.agg #[.int .i64 0, .int .i64 0, .int .i64 0, .int .i64 0, .int .i64 0, .int .i64 0, .int .i64 0, .int .i64 0, .int .i64 0, .int .i64 0]], []⟩).memory :=
  laidMet_of_run' 8 (by kernel_rfl) (by kernel_rfl)
theorem reads (os : Os) {H : Type} (enc : TypeId × Value → H) : ∃ places, DataW.whole enc Tryd.prog ((laidWorld os).forCall (fun _ _ => 0) ⟨#[], #[.agg #[.int .i64 0, .int .i64 0, .int .i64 0, .int .i64 0, .int .i64 0, .int .i64 0, .int .i64 0, .int .i64 0, .int .i64 0, .int .i64 0]], []⟩).memory Tryd.f5.params.toList Rows.ledgerLinesSpec.vars false (#[.agg #[.int .i64 0, .int .i64 0, .int .i64 0, .int .i64 0, .int .i64 0, .int .i64 0, .int .i64 0, .int .i64 0, .int .i64 0, .int .i64 0]] : Array Value).toList 8 = some ([.agg [.lit (.int .i64 0), .lit (.int .i64 0), .lit (.int .i64 0), .lit (.int .i64 0), .lit (.int .i64 0), .lit (.int .i64 0), .lit (.int .i64 0), .lit (.int .i64 0), .lit (.int .i64 0), .lit (.int .i64 0)]], [], places) :=
  ⟨[], by kernel_rfl⟩
set_option maxRecDepth 100000 in
theorem lifted (os : Os) (started : os.Started) (H : Type) (enc : TypeId × Value → H) (F : Stop.Interp) :
    ReturnsInHanded {} Tryd.checked os 5 .any ((OpenSpec.ofChange Rows.ledgerLinesSpec).preRow enc Tryd.prog Tryd.f5 Rows.ledgerLinesRow.domain false Rows.ledgerLinesRow.laid) (((OpenSpec.ofChange Rows.ledgerLinesSpec).at F).post enc Tryd.prog Tryd.f5 false true false false) := by
  obtain ⟨places, hx⟩ := reads os enc
  refine returnsInHanded_of_row (C := Tryd.checked) (s := OpenSpec.ofChange Rows.ledgerLinesSpec) own3 started (by kernel_rfl) Tryd.func5
    (witness_row_at (enc := enc) (C := Tryd.checked) false (laidWorld os) #[.agg #[.int .i64 0, .int .i64 0, .int .i64 0, .int .i64 0, .int .i64 0, .int .i64 0, .int .i64 0, .int .i64 0, .int .i64 0, .int .i64 0]] rfl (by kernel_rfl) (by kernel_rfl) (by kernel_rfl)
      (OpenSpec.preRow_of_cond 8 hx (by kernel_rfl) (fun k hk => by cases hk) (by kernel_rfl) (laid_met os))) ?_
  intro W base args ds gs before hval hW _ _ _ hL hSh _
  exact contract H enc W base args ds gs before hval hW hSh (tab_of W hL) (si_of W hL)
theorem said : Rows.LedgerLinesSaid :=
  OpenClaim.holds_of_cond 5 Tryd.f5 rfl rfl rfl rfl rfl rfl rfl ⟨rfl, rfl, rfl, rfl, rfl⟩ rfl rfl rfl rfl rfl (by kernel_rfl) Tryd.func5 (by kernel_rfl)
    (of_decide_eq_true (by kernel_rfl)) (by unfold Func.isWrapper; first | (rw [if_pos (by decide +kernel)]; kernel_rfl) | (rw [if_neg (by decide +kernel)]; exact ⟨rfl, rfl⟩))
    (fun os started H enc _ F => by rw [OpenClaim.pre_eq_preRow]; exact lifted os started H enc F)
theorem plain (f : FuncId) (fn : Func) (hf : Tryd.pinned.checked.prog.funcNamed "repartee/reparteelaw38.LedgerLines" = some f) (hfn : Tryd.pinned.checked.prog.funcs[f]? = some fn) :
    false = Tryd.pinned.checked.prog.looks [] ∧ ∀ (j : Nat) t, fn.params[j]? = some t → Tryd.pinned.checked.prog.wantsStandIn t = false := by
  obtain rfl : f = 5 := Option.some.inj ((show Tryd.prog.funcNamed "repartee/reparteelaw38.LedgerLines" = some 5 by kernel_rfl).symm.trans hf) |>.symm
  obtain rfl : fn = Tryd.f5 := (Option.some.inj (Tryd.func5.symm.trans hfn)).symm
  refine ⟨by kernel_rfl, fun j t ht => ?_⟩
  rw [Tryd.params5] at ht
  have hm : t ∈ [31] := by simpa using Array.mem_of_getElem? ht
  have hall : ([31].all fun u => !Tryd.prog.wantsStandIn u) = true := by kernel_rfl
  exact (show Tryd.prog.wantsStandIn t = false by simpa using List.all_eq_true.1 hall t hm)
/-- The statement. -/
theorem proved : Rows.LedgerLinesCardSaid :=
  Claim7.holds_tied_plain_at .later [] _ _ _ _ said (fun _ h => by cases h) (by kernel_rfl) (fun _ h => by cases h) ledgerLines_row_tie rfl ⟨rfl, rfl⟩ (by kernel_rfl) rfl plain (by kernel_rfl)
#print axioms proved
end Go.Proofs.YtdchedkhlfmpeaaDoor.ledgerLines
