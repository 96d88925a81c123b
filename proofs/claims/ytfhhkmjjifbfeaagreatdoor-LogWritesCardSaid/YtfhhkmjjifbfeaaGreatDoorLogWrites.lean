/- P30.2, P30.3: for all events (at most 8, their bytes cut to 24): their text, and that they come back from it. No condition but what the card ties. ! tab log -/
import Derived.Test.YtfhhkmjjifbfeaaGreatDoorOpen
import Derived.Test.YtfhhkmjjifbfeaaGreatDoorCards
import Derived.Test.YtfhhkmjjifbfeaaGreatDoorTie
import Derived.WalkKit
import Derived.Deep.DeepHandedRow
import Derived.Shelf.Vars
import Derived.Stop.LaidErr
import Derived.Lib.LaidTab
import Derived.ProofKit
import Derived.OpenShut
import Derived.Test.YtfhhkmjjifbfeaaGreatDoorLo23
import Derived.Test.YtfhhkmjjifbfeaaGreatDoorLo21
import Derived.Test.YtfhhkmjjifbfeaaGreatDoorClass
namespace Go.Proofs.YtfhhkmjjifbfeaaGreatDoor.logWrites
open Go.Joins Go.ChangeShapes Go.WideShapes Go.ChangeAt Go.RowKit Go.Deep
open Go.ChangeMaps (open_string)
set_option linter.unusedSimpArgs false
set_option linter.unusedVariables false

theorem few_evA (a : Option Addr) (len cap : Nat) (L : List Ev) (hl : L.length = len) (hlm : len ≤ maxLen) (L2 : List Ev) (h2 : fewE 8 L = L2) (m : Nat) (hm : L2.length = m) (hok : ∀ x ∈ L2, x.ok) (w : World) (HE : EL w a L) :
    Calls Tryz.prog 17 #[.slice a len cap, .int .i64 8] w fun r w' => ∃ al c, r = .returned (.slice al m c) ∧ EL w' al L2 ∧ Below w.heap.size w w' := by
  refine (few_ev a len cap L hl hlm 8 (by omega) 8 rfl L2 h2 m hm w HE).mono ?_
  rintro r w' ⟨g, c, rfl, h1, _, h3⟩
  exact ⟨_, c, rfl, EL.of_rn h1 hok, h3⟩
theorem lo_readCat (L : List Ev) (m : Nat) (hm : L.length = m) (hm8 : m ≤ 8) (hL : ∀ x ∈ L, x.ok ∧ x.b.size ≤ 24 ∧ Lo.good x = true) (S : ByteArray) (hS : S = Le.t (Lo.cat L)) (w : World) (htab : Lib.TabIs Tryz.prog w "internal/strconv.uint64pow10" .u64 Lib.pow10Tab) (hni : NI w) (hwi : WI w) (hsi : SI w) :
    Calls Tryz.prog 19 #[.string S] w fun e w' => ∃ r c, e = .returned (.tuple #[.slice r m c, .int .i64 0, .int .i64 0]) ∧ RE w' r 12 Ev.c L ∧ Below w.heap.size w w' := by
  have h1 : S.data.toList = Lo.cat L := by rw [hS]; exact Le.t_list _
  have h2 := Lo.cat_len L (fun x hx => ⟨(hL x hx).1, (hL x hx).2.1⟩)
  have h3 : S.size ≤ 4000 := by
    have h4 : S.data.toList.length = S.size := rfl
    rw [h1] at h4
    omega
  have hg : ∀ x ∈ L, x.ok ∧ Lo.good x = true := fun x hx => ⟨(hL x hx).1, (hL x hx).2.2⟩
  refine (lo_readAll S h3 (L.map fun x => Le.t (Lo.line x)) (by rw [h1]; exact Lo.lines_cat L) m (by rw [List.length_map]; exact hm) m (by rw [Lo.okn_cat L hg]; exact hm) w htab hni hwi hsi).mono ?_
  rintro e w' (⟨h5, _⟩ | ⟨_, r, c, rfl, base, _, h6, h7⟩)
  · omega
  · rw [Lo.evl_cat L hg] at h6
    exact ⟨r, c, rfl, RE.of_rm h6 hm Ev.c_len, h7⟩
set_option maxRecDepth 20000 in
set_option maxHeartbeats 16000000 in

theorem walk (a0 : Option Addr) (len0 cap0 : Nat) (z0 : List Ev) (w : World) (htab : Lib.TabIs Tryz.prog w "internal/strconv.uint64pow10" .u64 Lib.pow10Tab) (hni : NI w) (hwi : WI w) (hsi : SI w) (w0 : IsEv w a0 len0 cap0 z0) :
    Calls Tryz.prog 5 #[.slice a0 len0 cap0] w fun e w' => e = .returned (.bool true) ∧ Below w.heap.size w w' := by
  obtain ⟨hl, hlc, hcm, HE0⟩ := w0
  obtain ⟨L, hL⟩ : ∃ L, fewE 8 z0 = L := ⟨_, rfl⟩
  obtain ⟨m, hm⟩ : ∃ m, L.length = m := ⟨_, rfl⟩
  have hm8 : m ≤ 8 := by rw [← hm, ← hL, fewE_len]; omega
  have hok : ∀ x ∈ L, x.ok := by rw [← hL]; exact fewE_ok HE0.ok
  have hb24 : ∀ x ∈ L, x.b.size ≤ 24 := by rw [← hL]; exact fewE_b
  obtain ⟨T, te, hT⟩ : ∃ T te, Lo.wr L = (T, te) := ⟨_, _, rfl⟩
  have HS := Lib.hid (And.intro hL (And.intro hm (And.intro hok (And.intro hb24 hT))))
  have HI := Lib.hid (And.intro htab (And.intro hni (And.intro hwi hsi)))
  have HA := Lib.hid (And.intro hl (And.intro (Nat.le_trans hlc hcm) HE0))
  clear hl hlc hcm HE0 hL hm hok hb24 hT htab hni hwi hsi
  go_enter Tryz.func5, Tryz.ntmps5
  go_upto_region 3 with (first
    | (go_at_call 17; (with_reducible refine (few_evA a0 len0 cap0 z0 HA.out.1 HA.out.2.1 L HS.out.1 m HS.out.2.1 HS.out.2.2.1 _ HA.out.2.2).mono ?_); rintro e1 V1 ⟨al, cl, rfl, q1, q3⟩; have HB := Lib.hid (And.intro q1 q3); clear q1 q3)
    | (go_at_call 18; (with_reducible refine (lo_write al m cl L HS.out.2.1 (by omega) HS.out.2.2.2.1 T te HS.out.2.2.2.2 _ HB.out.1 (tab_below HB.out.2 HI.out.1) (HI.out.2.2.1.below HB.out.2) (HI.out.2.2.2.below HB.out.2)).mono ?_); rintro e1 V2 ⟨rfl, q3⟩; have HBn := Lib.hid (And.intro (HB.out.1.below q3) (HB.out.2.trans (q3.mono HB.out.2.size))); clear HB; have HB := HBn; clear HBn q3))
  go_wp2_with fail
  have HB0 : Hid (({ data := #[] } : ByteArray) = Le.t (Lo.cat (L.take 0)) ∧ ∀ x ∈ L.take 0, Lo.good x = true) := Lib.hid ⟨by simp [Lo.cat, Le.t], by simp⟩
  go_loopw [5, 6] (fun av iv wr => ∃ (j : Nat) (A : ByteArray), av = .string A ∧ iv = .int .i64 j ∧ j ≤ m ∧ Hid (A = Le.t (Lo.cat (L.take j)) ∧ ∀ x ∈ L.take j, Lo.good x = true) ∧ Hid (EL wr al L ∧ Below w.heap.size w wr)) (fun _ iv _ => m - (intOf iv).toNat)
  case atStart => exact ⟨0, _, rfl, rfl, by omega, HB0, HB⟩
  case round =>
    clear HB HB0
    obtain ⟨j, A, rfl, rfl, hj, HG, HB⟩ := hrel
    have j0 : (0 : Int) ≤ (j : Int) := by omega
    by_cases hjn : j < m
    · have i1 : (j : Int) < (m : Int) := by omega
      have w1 : IntKind.i64.wrap ((j : Int) + 1) = (j : Int) + 1 := IntWalk.i64_in _ (by omega)
      obtain ⟨⟨k, i, n, t, b, e, s0, s1, s2, s3, s4, s5⟩, es⟩ : ∃ x, L[j]? = some x := ⟨_, List.getElem?_eq_getElem (by rw [HS.out.2.1]; exact hjn)⟩
      have hxm := List.mem_of_getElem? es
      have hok : Ev.ok ⟨k, i, n, t, b, e, s0, s1, s2, s3, s4, s5⟩ := HS.out.2.2.1 _ hxm
      have hbb : b.size ≤ 24 := HS.out.2.2.2.1 _ hxm
      obtain ⟨gx, hg⟩ : ∃ g, Lo.good ⟨k, i, n, t, b, e, s0, s1, s2, s3, s4, s5⟩ = g := ⟨_, rfl⟩
      have hAs : A.size ≤ 2008 := by
        rw [HG.out.1, Le.t_size]
        have h := Lo.cat_len (L.take j) (fun x hx => ⟨HS.out.2.2.1 x (List.mem_of_mem_take hx), HS.out.2.2.2.1 x (List.mem_of_mem_take hx)⟩)
        have h4 : (L.take j).length ≤ 8 := by rw [List.length_take]; omega
        omega
      obtain ⟨hb, ga, o, rfl, hgw, e0, e1, e2, e3, e4, e5, e6, e7, e8, e9, e10, e11⟩ := HB.out.1.get es
      have HX := Lib.hid (And.intro es (And.intro hok (And.intro hbb (And.intro hg (show b.size ≤ 4000 by omega)))))
      clear hxm hok hbb hg hb
      cases gx with
      | false =>
        obtain ⟨hT1, hT2⟩ : ({ data := #[] } : ByteArray) = T ∧ (2 : Int) = te := by
          have h := (Lo.wr_bad (List.mem_of_getElem? HX.out.1) HX.out.2.2.2.1).symm.trans HS.out.2.2.2.2
          exact Prod.mk.inj h
        subst hT1 hT2
        clear es
        go_wp2_with (first
          | (go_at_call 9; (with_reducible refine (rg_good12 k i n t b e s0 s1 s2 s3 s4 s5 false HX.out.2.2.2.1 HX.out.2.1 _).mono ?_); rintro e1 V5 ⟨rfl, q3⟩; have HBn := Lib.hid (And.intro (HB.out.1.below q3) (HB.out.2.trans (q3.mono HB.out.2.size))); clear HB; have HB := HBn; clear HBn q3)
          | (go_at_call 14; (with_reducible refine (lo_lives _ (tab_below HB.out.2 HI.out.1) (HI.out.2.1.below HB.out.2) (HI.out.2.2.1.below HB.out.2) (HI.out.2.2.2.below HB.out.2)).mono ?_); rintro e1 V4 ⟨rfl, q3⟩; have HBn := Lib.hid (And.intro (HB.out.1.below q3) (HB.out.2.trans (q3.mono HB.out.2.size))); clear HB; have HB := HBn; clear HBn q3))
        go_ret
        exact ⟨rfl, HB.out.2⟩
      | true =>
        obtain ⟨R, hR⟩ : ∃ R, Le.t (Lo.line ⟨k, i, n, t, b, e, s0, s1, s2, s3, s4, s5⟩) = R := ⟨_, rfl⟩
        have hrs : R.size ≤ 250 := by rw [← hR, Le.t_size]; exact Lo.line_sz _ HX.out.2.1 HX.out.2.2.1
        have HR : Hid (Le.t (Lo.line ⟨k, i, n, t, b, e, s0, s1, s2, s3, s4, s5⟩) = R ∧ A ++ R ++ { data := #[10] } = Le.t (Lo.cat (L.take (j + 1))) ∧ ∀ x ∈ L.take (j + 1), Lo.good x = true) := Lib.hid ⟨hR, by
          rw [take_snocE es, Lo.cat_snoc, HG.out.1, ← hR, Lo.t_app]
          have h10 : ({ data := #[10] } : ByteArray) = Le.t [10] := rfl
          rw [h10, Lo.t_app, List.append_assoc], fun x hx => by
          rw [take_snocE es] at hx
          rcases List.mem_append.1 hx with h | h
          · exact HG.out.2 x h
          · rw [List.mem_singleton.1 h]; exact HX.out.2.2.2.1⟩
        clear es hR
        go_upto_region 9 with (go_at_call 9; (with_reducible refine (rg_good12 k i n t b e s0 s1 s2 s3 s4 s5 true HX.out.2.2.2.1 HX.out.2.1 _).mono ?_); rintro e1 V5 ⟨rfl, q3⟩; have HBn := Lib.hid (And.intro (HB.out.1.below q3) (HB.out.2.trans (q3.mono HB.out.2.size))); clear HB; have HB := HBn; clear HBn q3)
        clear e0 e1 e2 e3 e4 e5 e6 e7 e8 e9 e10 e11
        obtain ⟨hb9, ga9, o9, ho9, hgw9, e0, e1, e2, e3, e4, e5, e6, e7, e8, e9, e10, e11⟩ := HB.out.1.get HX.out.1
        obtain ⟨rfl, rfl⟩ : ga = ga9 ∧ o = o9 := by
          injection ho9 with ho9
          injection ho9 with h1 h2 h3
          exact ⟨h1, h2⟩
        clear ho9 hb9
        go_wp2_with (go_at_call 16; (with_reducible refine (rg_print12 k i n t b e s0 s1 s2 s3 s4 s5 HX.out.2.1 HX.out.2.2.2.2 HX.out.2.2.2.1 R HR.out.1 _).mono ?_); rintro e1 V6 ⟨rfl, q3⟩; have HBn := Lib.hid (And.intro (HB.out.1.below q3) (HB.out.2.trans (q3.mono HB.out.2.size))); clear HB; have HB := HBn; clear HBn q3)
        go_roundw
        case rel => exact ⟨j + 1, _, rfl, by go_num, by omega, Lib.hid ⟨HR.out.2.1, HR.out.2.2⟩, HB⟩
        case measure => simp [intOf]; omega
    · obtain rfl : j = m := by omega
      have i1 : ¬ (j : Int) < (j : Int) := by omega
      have hfull : L.take j = L := List.take_of_length_le (by rw [HS.out.2.1]; exact Nat.le_refl _)
      have hG := HG.out
      rw [hfull] at hG
      have HL : Hid (A = Le.t (Lo.cat L) ∧ ∀ x ∈ L, x.ok ∧ x.b.size ≤ 24 ∧ Lo.good x = true) := Lib.hid ⟨hG.1, fun x hx => ⟨HS.out.2.2.1 x hx, HS.out.2.2.2.1 x hx, hG.2 x hx⟩⟩
      obtain ⟨hT1, hT2⟩ : A = T ∧ (0 : Int) = te := by
        have h := (Lo.wr_good hG.2).symm.trans HS.out.2.2.2.2
        rw [← hG.1] at h
        exact Prod.mk.inj h
      subst hT1 hT2
      clear hG hfull HG
      go_wp2_with (first
        | (go_at_call 19; (with_reducible refine (lo_readCat L j HS.out.2.1 (by omega) HL.out.2 A HL.out.1 _ (tab_below HB.out.2 HI.out.1) (HI.out.2.1.below HB.out.2) (HI.out.2.2.1.below HB.out.2) (HI.out.2.2.2.below HB.out.2)).mono ?_); rintro e1 V7 ⟨r3, c3, rfl, q1, q3⟩; have HR3 := Lib.hid q1; have HBn := Lib.hid (And.intro (HB.out.1.below q3) (HB.out.2.trans (q3.mono HB.out.2.size))); clear HB; have HB := HBn; clear HBn q3; clear q1)
        | (go_at_call 20; (with_reducible refine (ev_same r3 al j c3 cl L HS.out.2.1 (by omega) _ HR3.out ⟨RE.of_el HB.out.1, HS.out.2.2.1⟩).mono ?_); rintro e1 V8 ⟨rfl, q3⟩; have HBn := Lib.hid (And.intro (HB.out.1.below q3) (HB.out.2.trans (q3.mono HB.out.2.size))); clear HB; have HB := HBn; clear HBn q3)
        | (go_at_call 14; (with_reducible refine (lo_lives _ (tab_below HB.out.2 HI.out.1) (HI.out.2.1.below HB.out.2) (HI.out.2.2.1.below HB.out.2) (HI.out.2.2.2.below HB.out.2)).mono ?_); rintro e1 V4 ⟨rfl, q3⟩; have HBn := Lib.hid (And.intro (HB.out.1.below q3) (HB.out.2.trans (q3.mono HB.out.2.size))); clear HB; have HB := HBn; clear HBn q3))
      go_ret
      exact ⟨rfl, HB.out.2⟩


theorem own3 : ownKnob Tryz.prog.godebug = none := by kernel_rfl
theorem tab_rows : (Rows.laid_internal_strconv_uint64pow10 : DataW Unit) = Lib.tabData .u64 Lib.pow10Tab := by kernel_rfl
theorem tab_of (W : World) (hL : laidMetH Tryz.prog Rows.logWritesRow.laid W) : Lib.TabIs Tryz.prog W "internal/strconv.uint64pow10" .u64 Lib.pow10Tab := by
  have h1 : laidMet Tryz.prog Rows.logWritesRow.laid W := hL
  have h2 : laidMet Tryz.prog [("math/bits.deBruijn32tab", Rows.laid_math_bits_deBruijn32tab), ("math/bits.deBruijn64tab", Rows.laid_math_bits_deBruijn64tab), ("internal/strconv.uint64pow10", Rows.laid_internal_strconv_uint64pow10), ("unicode/utf8.acceptRanges", Rows.laid_unicode_utf8_acceptRanges), ("strconv.ErrRange", Rows.laid_strconv_ErrRange), ("strconv.ErrSyntax", Rows.laid_strconv_ErrSyntax), ("repartee/log.whats", Rows.laid_repartee_log_whats), ("repartee/log.statuses", Rows.laid_repartee_log_statuses), ("unicode/utf8.first", Rows.laid_unicode_utf8_first)] W := h1
  have h3 := h2.tail.tail
  rw [tab_rows] at h3
  exact Lib.tabIs_of_head (g := 2) (t := 104) (e := 90) (n := 20) (by kernel_rfl) (by kernel_rfl) (by kernel_rfl) (by kernel_rfl) (by kernel_rfl) (by kernel_rfl) h3
theorem log_of (W : World) (hSh : W.ShapedOpen Tryz.prog) (hL : laidMetH Tryz.prog Rows.logWritesRow.laid W) : NI W ∧ WI W ∧ SI W := by
  have h1 : laidMet Tryz.prog Rows.logWritesRow.laid W := hL
  have h2 : laidMet Tryz.prog [("math/bits.deBruijn32tab", Rows.laid_math_bits_deBruijn32tab), ("math/bits.deBruijn64tab", Rows.laid_math_bits_deBruijn64tab), ("internal/strconv.uint64pow10", Rows.laid_internal_strconv_uint64pow10), ("unicode/utf8.acceptRanges", Rows.laid_unicode_utf8_acceptRanges), ("strconv.ErrRange", Rows.laid_strconv_ErrRange), ("strconv.ErrSyntax", Rows.laid_strconv_ErrSyntax), ("repartee/log.whats", Rows.laid_repartee_log_whats), ("repartee/log.statuses", Rows.laid_repartee_log_statuses), ("unicode/utf8.first", Rows.laid_unicode_utf8_first)] W := h1
  obtain ⟨m0, hm0⟩ := cell_of_shapedOpen_int (P := Tryz.prog) (g := 3) (t := 3) (zero := #[.int .i64 0]) hSh (of_decide_eq_true (by kernel_rfl)) (by kernel_rfl) rfl (by kernel_rfl) (by kernel_rfl) Tryz.underlying3
  exact ⟨⟨⟨m0, hm0⟩, sent_of _ 4 _ _ W (by kernel_rfl) (by kernel_rfl) h2.tail.tail.tail.tail.tail, sent_of _ 5 _ _ W (by kernel_rfl) (by kernel_rfl) h2.tail.tail.tail.tail⟩, WI_of2 W _ h2.tail.tail.tail.tail.tail.tail, SI_of2 W _ h2.tail.tail.tail.tail.tail.tail.tail⟩
set_option maxRecDepth 100000 in
theorem contract (H : Type) (enc : TypeId × Value → H) (W : World) (base : Nat) (args : Array Value) (ds gs : List (DataW H)) (before : List MemPlace)
    (hval0 : ∀ (j : Nat) t v, Tryz.f5.params[j]? = some t → args[j]? = some v → Value.okWide Tryz.prog W .any base t v)
    (hW : DataW.Whole enc Tryz.prog Tryz.f5.params.toList Rows.logWritesSpec.vars false W args.toList ds gs before) (hSh : W.ShapedOpen Tryz.prog) (htab : Lib.TabIs Tryz.prog W "internal/strconv.uint64pow10" .u64 Lib.pow10Tab) (hni : NI W) (hwi : WI W) (hsi : SI W) :
    Calls Tryz.prog 5 args W fun e W' => ∃ v, e = .returned v ∧ Rows.logWritesSpec.post enc Tryz.prog Tryz.f5 false true false false W args v W' := by
  have hval : ∀ (j : Nat) t v, Tryz.f5.params[j]? = some t → args[j]? = some v → Value.okWide Tryz.prog W .any base t v := hval0
  have hW' := hW
  obtain ⟨p, q, hA0, hV, rfl, hfz, hnd⟩ := hW
  have hA : DataW.TrodAll enc Tryz.prog W 0 (fun _ => true) true Tryz.f5.params.toList args.toList ds p := hA0
  rw [Tryz.params5] at hA hval
  obtain ⟨v0, vs0, d0, ds0, p0, q0, hargs, rfl, rfl, h0, r0⟩ := trodAll_cons hA
  obtain ⟨rfl, rfl, rfl⟩ := trodAll_nil r0
  obtain rfl : args = #[v0] := by cases args; simp_all
  obtain ⟨rfl, rfl⟩ := trodVars_none hV
  have k0 := h0
  have lt0 : ∀ x ∈ p0, x.block < W.heap.size := by obtain ⟨m, hm⟩ := k0; exact DataW.trod_lt m _ _ _ hm
  obtain ⟨b0, lb0, cb0, rfl⟩ := okWide_slice Tryz.underlying38 (hval 0 38 v0 rfl rfl)
  obtain ⟨fu0, hf0⟩ := h0
  simp only [Value.cells] at hf0
  obtain ⟨a0, len0, cap0, z0, e0, w0⟩ := fld_ev hf0
  obtain ⟨rfl, rfl, rfl⟩ : b0 = a0 ∧ lb0 = len0 ∧ cb0 = cap0 := by simpa using e0
  clear hA0 hval0
  refine (walk b0 lb0 cb0 z0 W htab hni hwi hsi w0).mono fun e W' ⟨he, bel⟩ => ?_
  subst he
  exact ⟨_, rfl, _, _, _, [], _, [], hW', trodAll_mk1 (shut_bool Tryz.underlying4 _), (trodAll_cons_mk (Below.trod laidOut (by kernel_rfl) (of_decide_eq_true (by kernel_rfl)) k0 bel lt0) trodAll_mk0), rfl, bel.frame _, fun h => by cases h⟩

noncomputable def low : Nat := (World.holding Tryz.prog default ⟨#[], #[], []⟩).heap.size
noncomputable def laidWorld (os : Os) : World :=
  { World.holding Tryz.prog os ⟨#[.cells #[.string ⟨#[118, 97, 108, 117, 101, 32, 111, 117, 116, 32, 111, 102, 32, 114, 97, 110, 103, 101]⟩] 137, .cells #[.string ⟨#[105, 110, 118, 97, 108, 105, 100, 32, 115, 121, 110, 116, 97, 120]⟩] 137], #[], []⟩ with heap := ((((((((((World.holding Tryz.prog os ⟨#[.cells #[.string ⟨#[118, 97, 108, 117, 101, 32, 111, 117, 116, 32, 111, 102, 32, 114, 97, 110, 103, 101]⟩] 137, .cells #[.string ⟨#[105, 110, 118, 97, 108, 105, 100, 32, 115, 121, 110, 116, 97, 120]⟩] 137], #[], []⟩).heap.modify 8 fun
      | .cells _ t frozen => .cells #[.int .u8 0, .int .u8 1, .int .u8 28, .int .u8 2, .int .u8 29, .int .u8 14, .int .u8 24, .int .u8 3, .int .u8 30, .int .u8 22, .int .u8 20, .int .u8 15, .int .u8 25, .int .u8 17, .int .u8 4, .int .u8 8, .int .u8 31, .int .u8 27, .int .u8 13, .int .u8 23, .int .u8 21, .int .u8 19, .int .u8 16, .int .u8 7, .int .u8 26, .int .u8 12, .int .u8 18, .int .u8 6, .int .u8 11, .int .u8 5, .int .u8 10, .int .u8 9] t frozen
      | o => o).modify 9 fun
      | .cells _ t frozen => .cells #[.int .u8 0, .int .u8 1, .int .u8 56, .int .u8 2, .int .u8 57, .int .u8 49, .int .u8 28, .int .u8 3, .int .u8 61, .int .u8 58, .int .u8 42, .int .u8 50, .int .u8 38, .int .u8 29, .int .u8 17, .int .u8 4, .int .u8 62, .int .u8 47, .int .u8 59, .int .u8 36, .int .u8 45, .int .u8 43, .int .u8 51, .int .u8 22, .int .u8 53, .int .u8 39, .int .u8 33, .int .u8 30, .int .u8 24, .int .u8 18, .int .u8 12, .int .u8 5, .int .u8 63, .int .u8 55, .int .u8 48, .int .u8 27, .int .u8 60, .int .u8 41, .int .u8 37, .int .u8 16, .int .u8 46, .int .u8 35, .int .u8 44, .int .u8 21, .int .u8 52, .int .u8 32, .int .u8 23, .int .u8 11, .int .u8 54, .int .u8 26, .int .u8 40, .int .u8 15, .int .u8 34, .int .u8 20, .int .u8 31, .int .u8 10, .int .u8 25, .int .u8 14, .int .u8 19, .int .u8 9, .int .u8 13, .int .u8 8, .int .u8 7, .int .u8 6] t frozen
      | o => o).modify 2 fun
      | .cells _ t frozen => .cells #[.int .u64 1, .int .u64 10, .int .u64 100, .int .u64 1000, .int .u64 10000, .int .u64 100000, .int .u64 1000000, .int .u64 10000000, .int .u64 100000000, .int .u64 1000000000, .int .u64 10000000000, .int .u64 100000000000, .int .u64 1000000000000, .int .u64 10000000000000, .int .u64 100000000000000, .int .u64 1000000000000000, .int .u64 10000000000000000, .int .u64 100000000000000000, .int .u64 1000000000000000000, .int .u64 10000000000000000000] t frozen
      | o => o).modify 7 fun
      | .cells _ t frozen => .cells #[.int .u8 128, .int .u8 191, .int .u8 160, .int .u8 191, .int .u8 128, .int .u8 159, .int .u8 144, .int .u8 191, .int .u8 128, .int .u8 143, .int .u8 0, .int .u8 0, .int .u8 0, .int .u8 0, .int .u8 0, .int .u8 0, .int .u8 0, .int .u8 0, .int .u8 0, .int .u8 0, .int .u8 0, .int .u8 0, .int .u8 0, .int .u8 0, .int .u8 0, .int .u8 0, .int .u8 0, .int .u8 0, .int .u8 0, .int .u8 0, .int .u8 0, .int .u8 0] t frozen
      | o => o).modify 5 fun
      | .cells _ t frozen => .cells #[.iface 135 (.pointer (some ⟨low, 0, none⟩))] t frozen
      | o => o).modify 4 fun
      | .cells _ t frozen => .cells #[.iface 135 (.pointer (some ⟨low + 1, 0, none⟩))] t frozen
      | o => o).modify 0 fun
      | .cells _ t frozen => .cells #[.string ⟨#[]⟩, .string ⟨#[108, 111, 111, 107]⟩, .string ⟨#[109, 97, 116, 99, 104]⟩, .string ⟨#[116, 105, 109, 101, 111, 117, 116]⟩, .string ⟨#[101, 111, 102]⟩, .string ⟨#[108, 111, 97, 100]⟩, .string ⟨#[115, 101, 110, 116]⟩, .string ⟨#[106, 117, 109, 112]⟩, .string ⟨#[119, 111, 107, 101]⟩, .string ⟨#[100, 111, 110, 101]⟩, .string ⟨#[102, 97, 105, 108]⟩, .string ⟨#[108, 111, 111, 112, 101, 100]⟩, .string ⟨#[100, 101, 97, 100, 108, 105, 110, 101]⟩, .string ⟨#[111, 118, 101, 114, 102, 108, 111, 119]⟩, .string ⟨#[100, 114, 97, 105, 110, 101, 100]⟩] t frozen
      | o => o).modify 1 fun
      | .cells _ t frozen => .cells #[.string ⟨#[114, 117, 110]⟩, .string ⟨#[100, 111, 110, 101]⟩, .string ⟨#[102, 97, 105, 108, 101, 100]⟩, .string ⟨#[100, 101, 97, 100, 108, 105, 110, 101]⟩, .string ⟨#[111, 118, 101, 114, 102, 108, 111, 119]⟩, .string ⟨#[100, 114, 97, 105, 110, 101, 100]⟩] t frozen
      | o => o).modify 6 fun
      | .cells _ t frozen => .cells (Go.Pinned.utf8FirstZ.map fun (x : Nat) => Value.int .u8 (x : Int)).toArray t frozen
      | o => o) }
theorem laid_met (os : Os) : laidMet Tryz.prog Rows.logWritesRow.laid ((laidWorld os).forCall (fun _ _ => 0) ⟨#[], #[.slice none 0 0], []⟩).memory :=
  laidMet_of_run' 8 (by kernel_rfl) (by kernel_rfl)
theorem reads (os : Os) {H : Type} (enc : TypeId × Value → H) : ∃ places, DataW.whole enc Tryz.prog ((laidWorld os).forCall (fun _ _ => 0) ⟨#[], #[.slice none 0 0], []⟩).memory Tryz.f5.params.toList Rows.logWritesSpec.vars false (#[.slice none 0 0] : Array Value).toList 8 = some ([.nil], [], places) :=
  ⟨[], by kernel_rfl⟩
set_option maxRecDepth 100000 in
theorem lifted (os : Os) (started : os.Started) (H : Type) (enc : TypeId × Value → H) (F : Stop.Interp) :
    ReturnsInHanded {} Tryz.checked os 5 .any ((OpenSpec.ofChange Rows.logWritesSpec).preRow enc Tryz.prog Tryz.f5 Rows.logWritesRow.domain false Rows.logWritesRow.laid) (((OpenSpec.ofChange Rows.logWritesSpec).at F).post enc Tryz.prog Tryz.f5 false true false false) := by
  obtain ⟨places, hx⟩ := reads os enc
  refine returnsInHanded_of_row (C := Tryz.checked) (s := OpenSpec.ofChange Rows.logWritesSpec) own3 started (by kernel_rfl) Tryz.func5
    (witness_row_at (enc := enc) (C := Tryz.checked) false (laidWorld os) #[.slice none 0 0] rfl (by kernel_rfl) (by kernel_rfl) (by kernel_rfl)
      (OpenSpec.preRow_of_cond 8 hx (by kernel_rfl) (fun k hk => by cases hk) (by kernel_rfl) (laid_met os))) ?_
  intro W base args ds gs before hval hW _ _ _ hL hSh _
  exact contract H enc W base args ds gs before hval hW hSh (tab_of W hL) (log_of W hSh hL).1 (log_of W hSh hL).2.1 (log_of W hSh hL).2.2
theorem said : Rows.LogWritesSaid :=
  OpenClaim.holds_of_cond 5 Tryz.f5 rfl rfl rfl rfl rfl rfl rfl ⟨rfl, rfl, rfl, rfl, rfl⟩ rfl rfl rfl rfl rfl (by kernel_rfl) Tryz.func5 (by kernel_rfl)
    (of_decide_eq_true (by kernel_rfl)) (by unfold Func.isWrapper; first | (rw [if_pos (by decide +kernel)]; kernel_rfl) | (rw [if_neg (by decide +kernel)]; exact ⟨rfl, rfl⟩))
    (fun os started H enc _ F => by rw [OpenClaim.pre_eq_preRow]; exact lifted os started H enc F)
theorem plain (f : FuncId) (fn : Func) (hf : Tryz.pinned.checked.prog.funcNamed "repartee/reparteelaw30.LogWrites" = some f) (hfn : Tryz.pinned.checked.prog.funcs[f]? = some fn) :
    true = Tryz.pinned.checked.prog.looks [] ∧ ∀ (j : Nat) t, fn.params[j]? = some t → Tryz.pinned.checked.prog.wantsStandIn t = false := by
  obtain rfl : f = 5 := Option.some.inj ((show Tryz.prog.funcNamed "repartee/reparteelaw30.LogWrites" = some 5 by kernel_rfl).symm.trans hf) |>.symm
  obtain rfl : fn = Tryz.f5 := (Option.some.inj (Tryz.func5.symm.trans hfn)).symm
  refine ⟨by kernel_rfl, fun j t ht => ?_⟩
  rw [Tryz.params5] at ht
  have hm : t ∈ [38] := by simpa using Array.mem_of_getElem? ht
  have hall : ([38].all fun u => !Tryz.prog.wantsStandIn u) = true := by kernel_rfl
  exact (show Tryz.prog.wantsStandIn t = false by simpa using List.all_eq_true.1 hall t hm)
/-- The statement. -/
theorem proved : Rows.LogWritesCardSaid :=
  Claim7.holds_tied_plain_at .later [] _ _ _ _ said (fun _ h => by cases h) (by kernel_rfl) (fun _ h => by cases h) logWrites_row_tie rfl ⟨rfl, rfl⟩ (by kernel_rfl) rfl plain (by kernel_rfl)
#print axioms proved
end Go.Proofs.YtfhhkmjjifbfeaaGreatDoor.logWrites
