/- P30.2: for every text (cut to 90 bytes): what is read of it is a good event that is printed so, or none. No condition but what the card ties. ! tab log -/
import Derived.Test.YtfhhkmjjifbfeaaGreatDoorOpen
import Derived.Test.YtfhhkmjjifbfeaaGreatDoorCards
import Derived.Test.YtfhhkmjjifbfeaaGreatDoorTie
import Derived.WalkKit
import Derived.Deep.DeepHandedRow
import Derived.Shelf.Vars
import Derived.Stop.LaidErr
import Derived.Lib.LaidTab
import Derived.ProofKit
import Derived.OpenShut
import Derived.Test.YtfhhkmjjifbfeaaGreatDoorLo21
import Derived.Test.YtfhhkmjjifbfeaaGreatDoorClass
namespace Go.Proofs.YtfhhkmjjifbfeaaGreatDoor.logParses
open Go.Joins Go.ChangeShapes Go.WideShapes Go.ChangeAt Go.RowKit Go.Deep
open Go.ChangeMaps (open_string)
set_option linter.unusedSimpArgs false
set_option linter.unusedVariables false

set_option maxRecDepth 20000 in
set_option maxHeartbeats 16000000 in

theorem walk (a0 : ByteArray) (w : World) (htab : Lib.TabIs Tryz.prog w "internal/strconv.uint64pow10" .u64 Lib.pow10Tab) (hni : NI w) (hwi : WI w) (hsi : SI w) (w0 : a0.size ≤ maxLen) :
    Calls Tryz.prog 4 #[.string a0] w fun e w' => e = .returned (.bool true) ∧ Below w.heap.size w w' := by
  obtain ⟨s, hs⟩ : ∃ s, cutE a0 90 = s := ⟨_, rfl⟩
  have hs90 : s.size ≤ 90 := by rw [← hs]; exact cutE_le _ _
  obtain ⟨⟨k, i, n, t, b, e, s0, s1, s2, s3, s4, s5⟩, er, hpar⟩ : ∃ x er, Lo.parse s = (x, er) := ⟨_, _, rfl⟩
  have hev := Lo.parse_evok s (by omega)
  rw [hpar] at hev
  have hb : b.size ≤ 4000 := by have := hev.2; dsimp only at this; omega
  have HS := Lib.hid (And.intro hs (And.intro (show s.size ≤ 4000 by omega) (And.intro hpar (And.intro hev.1 hb))))
  have HI := Lib.hid (And.intro htab (And.intro hni (And.intro hwi hsi)))
  have HW := Lib.hid w0
  clear hs hs90 hpar hev hb htab hni hwi hsi w0
  go_enter Tryz.func4, Tryz.ntmps4
  go_upto_region 3 with (first
    | (go_at_call 6; (with_reducible refine (ev_cut a0 s 90 (by omega) HW.out HS.out.1 90 rfl _).mono ?_); rintro e1 W1 ⟨rfl, rfl⟩)
    | (go_at_call 15; (with_reducible refine (lo_parse12 s HS.out.2.1 k i n t b e s0 s1 s2 s3 s4 s5 er HS.out.2.2.1 _ HI.out.1 HI.out.2.1 HI.out.2.2.1 HI.out.2.2.2).mono ?_); rintro e1 V1 ⟨rfl, q3⟩; have HB : Hid (Blk (V1.alloc (.cells #[.int .i64 k, .int .i64 i, .int .i64 n, .int .i64 t, .string b, .int .i64 e, .int .i64 s0, .int .i64 s1, .int .i64 s2, .int .i64 s3, .int .i64 s4, .int .i64 s5] 26)) V1.heap.size [.int .i64 k, .int .i64 i, .int .i64 n, .int .i64 t, .string b, .int .i64 e, .int .i64 s0, .int .i64 s1, .int .i64 s2, .int .i64 s3, .int .i64 s4, .int .i64 s5] 26 ∧ Below w.heap.size w (V1.alloc (.cells #[.int .i64 k, .int .i64 i, .int .i64 n, .int .i64 t, .string b, .int .i64 e, .int .i64 s0, .int .i64 s1, .int .i64 s2, .int .i64 s3, .int .i64 s4, .int .i64 s5] 26))) := Lib.hid ⟨Blk.newA _ _ _, q3.alloc q3.size _⟩; clear q3))
  revert HB
  generalize (V1.alloc (.cells #[.int .i64 k, .int .i64 i, .int .i64 n, .int .i64 t, .string b, .int .i64 e, .int .i64 s0, .int .i64 s1, .int .i64 s2, .int .i64 s3, .int .i64 s4, .int .i64 s5] 26)) = W2
  generalize V1.heap.size = X
  intro HB
  have d0 := HB.out.1.cell (i := 0) rfl
  have d1 := HB.out.1.cell (i := 1) rfl
  have d2 := HB.out.1.cell (i := 2) rfl
  have d3 := HB.out.1.cell (i := 3) rfl
  have d4 := HB.out.1.cell (i := 4) rfl
  have d5 := HB.out.1.cell (i := 5) rfl
  have d6 := HB.out.1.cell (i := 6) rfl
  have d7 := HB.out.1.cell (i := 7) rfl
  have d8 := HB.out.1.cell (i := 8) rfl
  have d9 := HB.out.1.cell (i := 9) rfl
  have d10 := HB.out.1.cell (i := 10) rfl
  have d11 := HB.out.1.cell (i := 11) rfl
  by_cases her : er = 0
  · subst her
    have hg := Lo.parse_ok HS.out.2.2.1
    have HG := Lib.hid hg
    clear hg
    go_wp2_with (first
      | (go_at_call 9; (with_reducible refine (rg_good12 k i n t b e s0 s1 s2 s3 s4 s5 true HG.out.1 HS.out.2.2.2.1 _).mono ?_); rintro e1 V2 ⟨rfl, q3⟩; have HBn := Lib.hid (And.intro (HB.out.1.chg (l := []) (Chg.of_fresh q3) (by simp)) (HB.out.2.trans (q3.mono HB.out.2.size))); clear HB; have HB := HBn; clear HBn q3; have d0 := HB.out.1.cell (i := 0) rfl; have d1 := HB.out.1.cell (i := 1) rfl; have d2 := HB.out.1.cell (i := 2) rfl; have d3 := HB.out.1.cell (i := 3) rfl; have d4 := HB.out.1.cell (i := 4) rfl; have d5 := HB.out.1.cell (i := 5) rfl; have d6 := HB.out.1.cell (i := 6) rfl; have d7 := HB.out.1.cell (i := 7) rfl; have d8 := HB.out.1.cell (i := 8) rfl; have d9 := HB.out.1.cell (i := 9) rfl; have d10 := HB.out.1.cell (i := 10) rfl; have d11 := HB.out.1.cell (i := 11) rfl)
      | (go_at_call 16; (with_reducible refine (rg_print12 k i n t b e s0 s1 s2 s3 s4 s5 HS.out.2.2.2.1 HS.out.2.2.2.2 HG.out.1 s HG.out.2 _).mono ?_); rintro e1 V2 ⟨rfl, q3⟩; have HBn := Lib.hid (And.intro (HB.out.1.chg (l := []) (Chg.of_fresh q3) (by simp)) (HB.out.2.trans (q3.mono HB.out.2.size))); clear HB; have HB := HBn; clear HBn q3)
      | (go_at_call 14; (with_reducible refine (lo_lives _ (tab_below HB.out.2 HI.out.1) (HI.out.2.1.below HB.out.2) (HI.out.2.2.1.below HB.out.2) (HI.out.2.2.2.below HB.out.2)).mono ?_); rintro e1 V4 ⟨rfl, q3⟩; have HBn := Lib.hid (And.intro (HB.out.1.chg (l := []) (Chg.of_fresh q3) (by simp)) (HB.out.2.trans (q3.mono HB.out.2.size))); clear HB; have HB := HBn; clear HBn q3))
    go_ret
    exact ⟨rfl, HB.out.2⟩
  · have hno := Lo.parse_no HS.out.2.2.1 her
    have eqp : ∀ W : World, (Op.equalIn 10000 26 (.agg #[.int .i64 0, .int .i64 0, .int .i64 0, .int .i64 0, .string { data := #[] }, .int .i64 0, .int .i64 0, .int .i64 0, .int .i64 0, .int .i64 0, .int .i64 0, .int .i64 0]) (.agg #[.int .i64 0, .int .i64 0, .int .i64 0, .int .i64 0, .string { data := #[] }, .int .i64 0, .int .i64 0, .int .i64 0, .int .i64 0, .int .i64 0, .int .i64 0, .int .i64 0])).run Tryz.prog W = .ok true W := fun W => by
      have z : Lo.i64 0 := by unfold Lo.i64; omega
      have hz : Ev.none.ok := Ev.ok_of _ (by decide) ⟨z, z, z, z, z, z, z, z, z, z, z⟩
      have h := eqEv Ev.none Ev.none hz hz W
      rw [decide_eq_true rfl] at h
      exact h
    obtain ⟨hz, h2⟩ := hno
    simp only [Ev.none, Ev.mk.injEq] at hz
    obtain ⟨z1, z2, z3, z4, z5, z6, z7, z8, z9, z10, z11, z12⟩ := hz
    subst z1 z2 z3 z4 z5 z6 z7 z8 z9 z10 z11 z12 h2
    clear her
    go_wp2_with (go_at_call 14; (with_reducible refine (lo_lives _ (tab_below HB.out.2 HI.out.1) (HI.out.2.1.below HB.out.2) (HI.out.2.2.1.below HB.out.2) (HI.out.2.2.2.below HB.out.2)).mono ?_); rintro e1 V4 ⟨rfl, q3⟩; have HBn := Lib.hid (And.intro (HB.out.1.chg (l := []) (Chg.of_fresh q3) (by simp)) (HB.out.2.trans (q3.mono HB.out.2.size))); clear HB; have HB := HBn; clear HBn q3)
    go_ret
    exact ⟨rfl, HB.out.2⟩


theorem own3 : ownKnob Tryz.prog.godebug = none := by kernel_rfl
theorem tab_rows : (Rows.laid_internal_strconv_uint64pow10 : DataW Unit) = Lib.tabData .u64 Lib.pow10Tab := by kernel_rfl
theorem tab_of (W : World) (hL : laidMetH Tryz.prog Rows.logParsesRow.laid W) : Lib.TabIs Tryz.prog W "internal/strconv.uint64pow10" .u64 Lib.pow10Tab := by
  have h1 : laidMet Tryz.prog Rows.logParsesRow.laid W := hL
  have h2 : laidMet Tryz.prog [("math/bits.deBruijn32tab", Rows.laid_math_bits_deBruijn32tab), ("math/bits.deBruijn64tab", Rows.laid_math_bits_deBruijn64tab), ("internal/strconv.uint64pow10", Rows.laid_internal_strconv_uint64pow10), ("unicode/utf8.acceptRanges", Rows.laid_unicode_utf8_acceptRanges), ("strconv.ErrRange", Rows.laid_strconv_ErrRange), ("strconv.ErrSyntax", Rows.laid_strconv_ErrSyntax), ("repartee/log.whats", Rows.laid_repartee_log_whats), ("repartee/log.statuses", Rows.laid_repartee_log_statuses), ("unicode/utf8.first", Rows.laid_unicode_utf8_first)] W := h1
  have h3 := h2.tail.tail
  rw [tab_rows] at h3
  exact Lib.tabIs_of_head (g := 2) (t := 104) (e := 90) (n := 20) (by kernel_rfl) (by kernel_rfl) (by kernel_rfl) (by kernel_rfl) (by kernel_rfl) (by kernel_rfl) h3
theorem log_of (W : World) (hSh : W.ShapedOpen Tryz.prog) (hL : laidMetH Tryz.prog Rows.logParsesRow.laid W) : NI W ∧ WI W ∧ SI W := by
  have h1 : laidMet Tryz.prog Rows.logParsesRow.laid W := hL
  have h2 : laidMet Tryz.prog [("math/bits.deBruijn32tab", Rows.laid_math_bits_deBruijn32tab), ("math/bits.deBruijn64tab", Rows.laid_math_bits_deBruijn64tab), ("internal/strconv.uint64pow10", Rows.laid_internal_strconv_uint64pow10), ("unicode/utf8.acceptRanges", Rows.laid_unicode_utf8_acceptRanges), ("strconv.ErrRange", Rows.laid_strconv_ErrRange), ("strconv.ErrSyntax", Rows.laid_strconv_ErrSyntax), ("repartee/log.whats", Rows.laid_repartee_log_whats), ("repartee/log.statuses", Rows.laid_repartee_log_statuses), ("unicode/utf8.first", Rows.laid_unicode_utf8_first)] W := h1
  obtain ⟨m0, hm0⟩ := cell_of_shapedOpen_int (P := Tryz.prog) (g := 3) (t := 3) (zero := #[.int .i64 0]) hSh (of_decide_eq_true (by kernel_rfl)) (by kernel_rfl) rfl (by kernel_rfl) (by kernel_rfl) Tryz.underlying3
  exact ⟨⟨⟨m0, hm0⟩, sent_of _ 4 _ _ W (by kernel_rfl) (by kernel_rfl) h2.tail.tail.tail.tail.tail, sent_of _ 5 _ _ W (by kernel_rfl) (by kernel_rfl) h2.tail.tail.tail.tail⟩, WI_of2 W _ h2.tail.tail.tail.tail.tail.tail, SI_of2 W _ h2.tail.tail.tail.tail.tail.tail.tail⟩
set_option maxRecDepth 100000 in
theorem contract (H : Type) (enc : TypeId × Value → H) (W : World) (base : Nat) (args : Array Value) (ds gs : List (DataW H)) (before : List MemPlace)
    (hval0 : ∀ (j : Nat) t v, Tryz.f4.params[j]? = some t → args[j]? = some v → Value.okWide Tryz.prog W .any base t v)
    (hW : DataW.Whole enc Tryz.prog Tryz.f4.params.toList Rows.logParsesSpec.vars false W args.toList ds gs before) (hSh : W.ShapedOpen Tryz.prog) (htab : Lib.TabIs Tryz.prog W "internal/strconv.uint64pow10" .u64 Lib.pow10Tab) (hni : NI W) (hwi : WI W) (hsi : SI W) :
    Calls Tryz.prog 4 args W fun e W' => ∃ v, e = .returned v ∧ Rows.logParsesSpec.post enc Tryz.prog Tryz.f4 false true false false W args v W' := by
  have hval : ∀ (j : Nat) t v, Tryz.f4.params[j]? = some t → args[j]? = some v → Value.okWide Tryz.prog W .any base t v := hval0
  have hW' := hW
  obtain ⟨p, q, hA0, hV, rfl, hfz, hnd⟩ := hW
  have hA : DataW.TrodAll enc Tryz.prog W 0 (fun _ => true) true Tryz.f4.params.toList args.toList ds p := hA0
  rw [Tryz.params4] at hA hval
  obtain ⟨v0, vs0, d0, ds0, p0, q0, hargs, rfl, rfl, h0, r0⟩ := trodAll_cons hA
  obtain ⟨rfl, rfl, rfl⟩ := trodAll_nil r0
  obtain rfl : args = #[v0] := by cases args; simp_all
  obtain ⟨rfl, rfl⟩ := trodVars_none hV
  have k0 := h0
  have lt0 : ∀ x ∈ p0, x.block < W.heap.size := by obtain ⟨m, hm⟩ := k0; exact DataW.trod_lt m _ _ _ hm
  obtain ⟨a0, rfl, rfl, rfl, w0⟩ := open_string Tryz.underlying9 (hval 0 9 v0 rfl rfl) h0
  clear hA0 hval0
  refine (walk a0 W htab hni hwi hsi w0).mono fun e W' ⟨he, bel⟩ => ?_
  subst he
  exact ⟨_, rfl, _, _, _, [], _, [], hW', trodAll_mk1 (shut_bool Tryz.underlying4 _), (trodAll_cons_mk (Below.trod laidOut (by kernel_rfl) (of_decide_eq_true (by kernel_rfl)) k0 bel lt0) trodAll_mk0), rfl, bel.frame _, fun h => by cases h⟩

noncomputable def low : Nat := (World.holding Tryz.prog default ⟨#[], #[], []⟩).heap.size
noncomputable def laidWorld (os : Os) : World :=
  { World.holding Tryz.prog os ⟨#[.cells #[.string ⟨#[118, 97, 108, 117, 101, 32, 111, 117, 116, 32, 111, 102, 32, 114, 97, 110, 103, 101]⟩] 137, .cells #[.string ⟨#[105, 110, 118, 97, 108, 105, 100, 32, 115, 121, 110, 116, 97, 120]⟩] 137], #[], []⟩ with heap := ((((((((((World.holding Tryz.prog os ⟨#[.cells #[.string ⟨#[118, 97, 108, 117, 101, 32, 111, 117, 116, 32, 111, 102, 32, 114, 97, 110, 103, 101]⟩] 137, .cells #[.string ⟨#[105, 110, 118, 97, 108, 105, 100, 32, 115, 121, 110, 116, 97, 120]⟩] 137], #[], []⟩).heap.modify 8 fun
      | .cells _ t frozen => .cells #[.int .u8 0, .int .u8 1, .int .u8 28, .int .u8 2, .int .u8 29, .int .u8 14, .int .u8 24, .int .u8 3, .int .u8 30, .int .u8 22, .int .u8 20, .int .u8 15, .int .u8 25, .int .u8 17, .int .u8 4, .int .u8 8, .int .u8 31, .int .u8 27, .int .u8 13, .int .u8 23, .int .u8 21, .int .u8 19, .int .u8 16, .int .u8 7, .int .u8 26, .int .u8 12, .int .u8 18, .int .u8 6, .int .u8 11, .int .u8 5, .int .u8 10, .int .u8 9] t frozen
      | o => o).modify 9 fun
      | .cells _ t frozen => .cells #[.int .u8 0, .int .u8 1, .int .u8 56, .int .u8 2, .int .u8 57, .int .u8 49, .int .u8 28, .int .u8 3, .int .u8 61, .int .u8 58, .int .u8 42, .int .u8 50, .int .u8 38, .int .u8 29, .int .u8 17, .int .u8 4, .int .u8 62, .int .u8 47, .int .u8 59, .int .u8 36, .int .u8 45, .int .u8 43, .int .u8 51, .int .u8 22, .int .u8 53, .int .u8 39, .int .u8 33, .int .u8 30, .int .u8 24, .int .u8 18, .int .u8 12, .int .u8 5, .int .u8 63, .int .u8 55, .int .u8 48, .int .u8 27, .int .u8 60, .int .u8 41, .int .u8 37, .int .u8 16, .int .u8 46, .int .u8 35, .int .u8 44, .int .u8 21, .int .u8 52, .int .u8 32, .int .u8 23, .int .u8 11, .int .u8 54, .int .u8 26, .int .u8 40, .int .u8 15, .int .u8 34, .int .u8 20, .int .u8 31, .int .u8 10, .int .u8 25, .int .u8 14, .int .u8 19, .int .u8 9, .int .u8 13, .int .u8 8, .int .u8 7, .int .u8 6] t frozen
      | o => o).modify 2 fun
      | .cells _ t frozen => .cells #[.int .u64 1, .int .u64 10, .int .u64 100, .int .u64 1000, .int .u64 10000, .int .u64 100000, .int .u64 1000000, .int .u64 10000000, .int .u64 100000000, .int .u64 1000000000, .int .u64 10000000000, .int .u64 100000000000, .int .u64 1000000000000, .int .u64 10000000000000, .int .u64 100000000000000, .int .u64 1000000000000000, .int .u64 10000000000000000, .int .u64 100000000000000000, .int .u64 1000000000000000000, .int .u64 10000000000000000000] t frozen
      | o => o).modify 7 fun
      | .cells _ t frozen => .cells #[.int .u8 128, .int .u8 191, .int .u8 160, .int .u8 191, .int .u8 128, .int .u8 159, .int .u8 144, .int .u8 191, .int .u8 128, .int .u8 143, .int .u8 0, .int .u8 0, .int .u8 0, .int .u8 0, .int .u8 0, .int .u8 0, .int .u8 0, .int .u8 0, .int .u8 0, .int .u8 0, .int .u8 0, .int .u8 0, .int .u8 0, .int .u8 0, .int .u8 0, .int .u8 0, .int .u8 0, .int .u8 0, .int .u8 0, .int .u8 0, .int .u8 0, .int .u8 0] t frozen
      | o => o).modify 5 fun
      | .cells _ t frozen => .cells #[.iface 135 (.pointer (some ⟨low, 0, none⟩))] t frozen
      | o => o).modify 4 fun
      | .cells _ t frozen => .cells #[.iface 135 (.pointer (some ⟨low + 1, 0, none⟩))] t frozen
      | o => o).modify 0 fun
      | .cells _ t frozen => .cells #[.string ⟨#[]⟩, .string ⟨#[108, 111, 111, 107]⟩, .string ⟨#[109, 97, 116, 99, 104]⟩, .string ⟨#[116, 105, 109, 101, 111, 117, 116]⟩, .string ⟨#[101, 111, 102]⟩, .string ⟨#[108, 111, 97, 100]⟩, .string ⟨#[115, 101, 110, 116]⟩, .string ⟨#[106, 117, 109, 112]⟩, .string ⟨#[119, 111, 107, 101]⟩, .string ⟨#[100, 111, 110, 101]⟩, .string ⟨#[102, 97, 105, 108]⟩, .string ⟨#[108, 111, 111, 112, 101, 100]⟩, .string ⟨#[100, 101, 97, 100, 108, 105, 110, 101]⟩, .string ⟨#[111, 118, 101, 114, 102, 108, 111, 119]⟩, .string ⟨#[100, 114, 97, 105, 110, 101, 100]⟩] t frozen
      | o => o).modify 1 fun
      | .cells _ t frozen => .cells #[.string ⟨#[114, 117, 110]⟩, .string ⟨#[100, 111, 110, 101]⟩, .string ⟨#[102, 97, 105, 108, 101, 100]⟩, .string ⟨#[100, 101, 97, 100, 108, 105, 110, 101]⟩, .string ⟨#[111, 118, 101, 114, 102, 108, 111, 119]⟩, .string ⟨#[100, 114, 97, 105, 110, 101, 100]⟩] t frozen
      | o => o).modify 6 fun
      | .cells _ t frozen => .cells (Go.Pinned.utf8FirstZ.map fun (x : Nat) => Value.int .u8 (x : Int)).toArray t frozen
      | o => o) }
theorem laid_met (os : Os) : laidMet Tryz.prog Rows.logParsesRow.laid ((laidWorld os).forCall (fun _ _ => 0) ⟨#[], #[.string ByteArray.empty], []⟩).memory :=
  laidMet_of_run' 8 (by kernel_rfl) (by kernel_rfl)
theorem reads (os : Os) {H : Type} (enc : TypeId × Value → H) : ∃ places, DataW.whole enc Tryz.prog ((laidWorld os).forCall (fun _ _ => 0) ⟨#[], #[.string ByteArray.empty], []⟩).memory Tryz.f4.params.toList Rows.logParsesSpec.vars false (#[.string ByteArray.empty] : Array Value).toList 8 = some ([.lit (.string [])], [], places) :=
  ⟨[], by kernel_rfl⟩
set_option maxRecDepth 100000 in
theorem lifted (os : Os) (started : os.Started) (H : Type) (enc : TypeId × Value → H) (F : Stop.Interp) :
    ReturnsInHanded {} Tryz.checked os 4 .any ((OpenSpec.ofChange Rows.logParsesSpec).preRow enc Tryz.prog Tryz.f4 Rows.logParsesRow.domain false Rows.logParsesRow.laid) (((OpenSpec.ofChange Rows.logParsesSpec).at F).post enc Tryz.prog Tryz.f4 false true false false) := by
  obtain ⟨places, hx⟩ := reads os enc
  refine returnsInHanded_of_row (C := Tryz.checked) (s := OpenSpec.ofChange Rows.logParsesSpec) own3 started (by kernel_rfl) Tryz.func4
    (witness_row_at (enc := enc) (C := Tryz.checked) false (laidWorld os) #[.string ByteArray.empty] rfl (by kernel_rfl) (by kernel_rfl) (by kernel_rfl)
      (OpenSpec.preRow_of_cond 8 hx (by kernel_rfl) (fun k hk => by cases hk) (by kernel_rfl) (laid_met os))) ?_
  intro W base args ds gs before hval hW _ _ _ hL hSh _
  exact contract H enc W base args ds gs before hval hW hSh (tab_of W hL) (log_of W hSh hL).1 (log_of W hSh hL).2.1 (log_of W hSh hL).2.2
theorem said : Rows.LogParsesSaid :=
  OpenClaim.holds_of_cond 4 Tryz.f4 rfl rfl rfl rfl rfl rfl rfl ⟨rfl, rfl, rfl, rfl, rfl⟩ rfl rfl rfl rfl rfl (by kernel_rfl) Tryz.func4 (by kernel_rfl)
    (of_decide_eq_true (by kernel_rfl)) (by unfold Func.isWrapper; first | (rw [if_pos (by decide +kernel)]; kernel_rfl) | (rw [if_neg (by decide +kernel)]; exact ⟨rfl, rfl⟩))
    (fun os started H enc _ F => by rw [OpenClaim.pre_eq_preRow]; exact lifted os started H enc F)
theorem plain (f : FuncId) (fn : Func) (hf : Tryz.pinned.checked.prog.funcNamed "repartee/reparteelaw30.LogParses" = some f) (hfn : Tryz.pinned.checked.prog.funcs[f]? = some fn) :
    true = Tryz.pinned.checked.prog.looks [] ∧ ∀ (j : Nat) t, fn.params[j]? = some t → Tryz.pinned.checked.prog.wantsStandIn t = false := by
  obtain rfl : f = 4 := Option.some.inj ((show Tryz.prog.funcNamed "repartee/reparteelaw30.LogParses" = some 4 by kernel_rfl).symm.trans hf) |>.symm
  obtain rfl : fn = Tryz.f4 := (Option.some.inj (Tryz.func4.symm.trans hfn)).symm
  refine ⟨by kernel_rfl, fun j t ht => ?_⟩
  rw [Tryz.params4] at ht
  have hm : t ∈ [9] := by simpa using Array.mem_of_getElem? ht
  have hall : ([9].all fun u => !Tryz.prog.wantsStandIn u) = true := by kernel_rfl
  exact (show Tryz.prog.wantsStandIn t = false by simpa using List.all_eq_true.1 hall t hm)
/-- The statement. -/
theorem proved : Rows.LogParsesCardSaid :=
  Claim7.holds_tied_plain_at .later [] _ _ _ _ said (fun _ h => by cases h) (by kernel_rfl) (fun _ h => by cases h) logParses_row_tie rfl ⟨rfl, rfl⟩ (by kernel_rfl) rfl plain (by kernel_rfl)
#print axioms proved
end Go.Proofs.YtfhhkmjjifbfeaaGreatDoor.logParses
