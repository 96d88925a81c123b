/- P16.2, P16.4: for every list of wraps (its first 8, names cut) and every number of an error: which place and which name is told. No condition. ! tab err -/
import Derived.Test.YtlofcccabdocgaaDoorOpen
import Derived.Test.YtlofcccabdocgaaDoorCards
import Derived.Test.YtlofcccabdocgaaDoorTie
import Derived.WalkKit
import Derived.Deep.DeepHandedRow
import Derived.Shelf.Vars
import Derived.Stop.LaidErr
import Derived.Lib.LaidTab
import Derived.LaidHandle
import Derived.ProofKit
import Derived.OpenShut
import Derived.Test.YtlofcccabdocgaaDoorFa14
import Derived.Test.YtlofcccabdocgaaDoorClass
namespace Go.Proofs.YtlofcccabdocgaaDoor.faultPlaces
open Go.Joins Go.ChangeShapes Go.WideShapes Go.ChangeAt Go.RowKit Go.Deep
open Go.ChangeMaps (open_string)
set_option linter.unusedSimpArgs false
set_option linter.unusedVariables false

theorem Fa.wh_step {L : List Wp} {q : Nat} {x : Wp} (h : L[q]? = some x) : Fa.wh (L.drop q) = (if x.a = true then ((x.l, x.c), true) else Fa.wh (L.drop (q + 1))) ∧ Fa.who (L.drop q) = (if x.a = true then Fa.who (L.drop (q + 1)) else (x.n, true)) := by
  rw [drop_at h]
  unfold Fa.wh Fa.who
  simp only [Fa.fst]
  cases hx : x.a <;> simp
/-- What the law keeps: the place told, the place wanted. -/
structure PLS (w W : World) (g1 : Nat) (L : List Wp) (X6 : Nat) (l c : Int) (X10 : Nat) (wl wc : Int) : Prop where
  ws : WL W (some ⟨g1, 0, none⟩) L
  b6 : Blk W X6 [.int .i64 l, .int .i64 c] 33
  b10 : Blk W X10 [.int .i64 wl, .int .i64 wc] 33
  be : Below w.heap.size w W
  lt : w.heap.size ≤ X10 ∧ X6 ≠ X10 ∧ g1 ≠ X10
theorem PLS.set2 {w W : World} {g1 : Nat} {L : List Wp} {X6 : Nat} {l c : Int} {X10 : Nat} {wl wc : Int} (h : PLS w W g1 L X6 l c X10 wl wc) (a b : Int) : PLS w ((W.setCell ⟨X10, 0, none⟩ (.int .i64 a)).setCell ⟨X10, 1, none⟩ (.int .i64 b)) g1 L X6 l c X10 a b := by
  have k : Chg [X10] W ((W.setCell ⟨X10, 0, none⟩ (.int .i64 a)).setCell ⟨X10, 1, none⟩ (.int .i64 b)) := ((Chg.refl [X10] W).set (Or.inl (List.mem_singleton.2 rfl)) 0 _).set (Or.inl (List.mem_singleton.2 rfl)) 1 _
  refine ⟨fun j x hj => ?_, h.b6.chg k (fun e => h.lt.2.1 (List.mem_singleton.1 e)), (h.b10.set 0 (.int .i64 a)).set 1 (.int .i64 b), h.be.trans (k.below h.be.size (by intro y hy; simp at hy; rw [hy]; exact h.lt.1)), h.lt⟩
  obtain ⟨h0, g, o, h2, h3, hc⟩ := h.ws j x hj
  injection h2 with h2
  injection h2 with e1 e2 _
  subst e1 e2
  exact ⟨h0, g1, 0, rfl, Nat.lt_of_lt_of_le h3 k.size, fun q v hq => (k.cell h3 (by simp; exact h.lt.2.2)).trans (hc q v hq)⟩
theorem PLS.below {w W W' : World} {g1 : Nat} {L : List Wp} {X6 : Nat} {l c : Int} {X10 : Nat} {wl wc : Int} (h : PLS w W g1 L X6 l c X10 wl wc) (k : Below W.heap.size W W') : PLS w W' g1 L X6 l c X10 wl wc :=
  ⟨h.ws.below k, h.b6.chg (l := []) (Chg.of_fresh k) (by simp), h.b10.chg (l := []) (Chg.of_fresh k) (by simp), h.be.trans (k.mono h.be.size), h.lt⟩
set_option maxRecDepth 100000 in
set_option maxHeartbeats 16000000 in

theorem walk (a0 : Option Addr) (len0 cap0 : Nat) (z0 : List Wp) (a1 : Int) (w : World) (htab : Lib.TabIs Tryd.prog w "internal/strconv.uint64pow10" .u64 Lib.pow10Tab) (herr : w.cell? ⟨0, 0, none⟩ = some (.iface 92 (.agg #[.pointer (some ⟨4, 29, none⟩)]))) (w0 : IsWr w a0 len0 cap0 z0) (w1 : (Lit.int .i64 a1).wf = true) :
    Calls Tryd.prog 4 #[.slice a0 len0 cap0, .int .i64 a1] w fun e w' => e = .returned (.bool true) ∧ Below w.heap.size w w' := by
  obtain ⟨L, hL⟩ : ∃ L, fewW z0 = L := ⟨_, rfl⟩
  obtain ⟨m, hm⟩ : ∃ m, L.length = m := ⟨_, rfl⟩
  have hm8 : m ≤ 8 := by rw [← hm, ← hL, fewW_len]; omega
  obtain ⟨l, c, b, hwh⟩ : ∃ l c b, Fa.wh L = ((l, c), b) := ⟨_, _, _, rfl⟩
  obtain ⟨nm, b2, hwo⟩ : ∃ nm b2, Fa.who L = (nm, b2) := ⟨_, _, rfl⟩
  have HI0 : Hid (z0.length = len0 ∧ len0 ≤ maxLen ∧ WL w a0 z0) := Lib.hid ⟨w0.1, Nat.le_trans w0.2.1 w0.2.2.1, w0.2.2.2⟩
  have HL : Hid (fewW z0 = L ∧ L.length = m ∧ (∀ x ∈ L, x.ok) ∧ L.drop m = []) := Lib.hid ⟨hL, hm, by rw [← hL]; exact fewW_ok w0.2.2.2.ok, List.drop_eq_nil_of_le (by omega)⟩
  have HW := Lib.hid (And.intro hwh hwo)
  have HTB := Lib.hid (And.intro htab herr)
  have hz : 0 < w.heap.size := World.block_lt_of_cell? _ _ herr
  clear hL hm w0 htab herr hwh hwo
  go_enter Tryd.func4, Tryd.ntmps4
  go_upto_region 2 with (go_at_call 7; (with_reducible refine (few_wp a0 len0 cap0 z0 HI0.out.1 HI0.out.2.1 L HL.out.1 m HL.out.2.1 _ HI0.out.2.2).mono ?_); rintro r4 W1 ⟨g1, c1, rfl, q1, q2, q3⟩; have H1 : Hid (WL W1 (some ⟨g1, 0, none⟩) L ∧ g1 < W1.heap.size ∧ Below w.heap.size w W1) := Lib.hid ⟨WL.of_rn q1 HL.out.2.2.1, q1.lt, q3⟩; clear q1 q2 q3 HI0)
  by_cases he : a1 = 0
  · have k0 : (a1 == 0) = true := by simp [he]
    clear he
    go_wp2_with (go_at_call 10; (with_reducible refine (fa_lives _ (tab_below H1.out.2.2 HTB.out.1)).mono ?_); rintro r4 W2 ⟨rfl, q3⟩; have H2 := Lib.hid (H1.out.2.2.trans (q3.mono H1.out.2.2.size)); clear q3)
    go_ret
    exact ⟨rfl, H2.out⟩
  · have k0 : (a1 == 0) = false := by simp [he]
    go_upto_region 5 with (go_at_call 11; (with_reducible refine (fa_wrapped (some ⟨g1, 0, none⟩) m c1 L HL.out.2.1 (by omega) a1 _ H1.out.1).mono ?_); rintro r4 W2 ⟨v, rfl, q1, q3⟩; have H2 : Hid (EV W2 L a1 v ∧ WL W2 (some ⟨g1, 0, none⟩) L ∧ g1 < W2.heap.size ∧ Below w.heap.size w W2) := Lib.hid ⟨q1, H1.out.1.below q3, Nat.lt_of_lt_of_le H1.out.2.1 q3.size, H1.out.2.2.trans (q3.mono H1.out.2.2.size)⟩; clear q1 q3 H1)
    go_upto_region 6 with (go_at_call 12; (with_reducible refine (fa_where L m HL.out.2.1 a1 v l c b HW.out.1 _ H2.out.1 ((H2.out.2.2.2.cell hz).trans HTB.out.2)).mono ?_); rintro r4 W3 ⟨rfl, q3⟩; have H3 : Hid (EV W3 L a1 v ∧ WL W3 (some ⟨g1, 0, none⟩) L ∧ g1 < W3.heap.size ∧ Below w.heap.size w W3) := Lib.hid ⟨EV.below q3 H2.out.1, H2.out.2.1.below q3, Nat.lt_of_lt_of_le H2.out.2.2.1 q3.size, H2.out.2.2.2.trans (q3.mono H2.out.2.2.2.size)⟩; clear q3 H2)
    have k4 := (Below.refl W3.heap.size W3).alloc (Nat.le_refl _) (.cells #[.int .i64 l, .int .i64 c] 33)
    have H4 : Hid (EV (W3.alloc (.cells #[.int .i64 l, .int .i64 c] 33)) L a1 v ∧ WL (W3.alloc (.cells #[.int .i64 l, .int .i64 c] 33)) (some ⟨g1, 0, none⟩) L ∧ g1 < (W3.alloc (.cells #[.int .i64 l, .int .i64 c] 33)).heap.size ∧ Below w.heap.size w (W3.alloc (.cells #[.int .i64 l, .int .i64 c] 33)) ∧ Blk (W3.alloc (.cells #[.int .i64 l, .int .i64 c] 33)) W3.heap.size [.int .i64 l, .int .i64 c] 33) := Lib.hid ⟨EV.below k4 H3.out.1, H3.out.2.1.below k4, Nat.lt_of_lt_of_le H3.out.2.2.1 k4.size, H3.out.2.2.2.trans (k4.mono H3.out.2.2.2.size), Blk.newA _ _ _⟩
    clear k4 H3
    revert H4
    generalize (W3.alloc (.cells #[.int .i64 l, .int .i64 c] 33)) = W4
    generalize W3.heap.size = X6
    intro H4
    go_upto_region 7 with (go_at_call 13; (with_reducible refine (fa_who L m HL.out.2.1 a1 v nm b2 HW.out.2 _ H4.out.1 ((H4.out.2.2.2.1.cell hz).trans HTB.out.2)).mono ?_); rintro r4 W5 ⟨rfl, q3⟩; have H5 : Hid (WL W5 (some ⟨g1, 0, none⟩) L ∧ g1 < W5.heap.size ∧ Below w.heap.size w W5 ∧ Blk W5 X6 [.int .i64 l, .int .i64 c] 33) := Lib.hid ⟨H4.out.2.1.below q3, Nat.lt_of_lt_of_le H4.out.2.2.1 q3.size, H4.out.2.2.2.1.trans (q3.mono H4.out.2.2.2.1.size), H4.out.2.2.2.2.chg (l := []) (Chg.of_fresh q3) (by simp)⟩; clear q3 H4)
    have H6 : Hid (PLS w (W5.alloc (.cells #[.int .i64 0, .int .i64 0] 33)) g1 L X6 l c W5.heap.size 0 0) := Lib.hid ⟨H5.out.1.below ((Below.refl _ _).alloc (Nat.le_refl _) _), H5.out.2.2.2.alloc _, Blk.newA _ _ _, H5.out.2.2.1.alloc H5.out.2.2.1.size _, H5.out.2.2.1.size, by have := H5.out.2.2.2.lt; omega, by have := H5.out.2.1; omega⟩
    go_upto_region 8 with fail
    clear H5
    revert H6
    generalize (W5.alloc (.cells #[.int .i64 0, .int .i64 0] 33)) = W6
    generalize W5.heap.size = X10
    intro H6
    have w0' : IntKind.i64.wrap ((m : Int) - 1) = (m : Int) - 1 := IntWalk.i64_in _ (by omega)
    go_wp2_with fail
    go_loopw [11, 12, 13, 14] (fun p q r i wr => ∃ (k : Nat) (wl wc : Int) (pb : Bool) (qn : ByteArray) (rb : Bool), p = .bool pb ∧ q = .string qn ∧ r = .bool rb ∧ i = .int .i64 ((k : Int) - 1) ∧ k ≤ m ∧ Hid (PLS w wr g1 L X6 l c X10 wl wc ∧ Fa.wh (L.drop k) = ((wl, wc), pb) ∧ Fa.who (L.drop k) = (qn, rb))) (fun _ _ _ i _ => (intOf i + 1).toNat)
    case atStart => exact ⟨m, 0, 0, false, _, false, rfl, rfl, rfl, rfl, by omega, Lib.hid ⟨H6.out, by rw [HL.out.2.2.2]; rfl, by rw [HL.out.2.2.2]; rfl⟩⟩
    case round =>
      obtain ⟨k, wl, wc, pb, qn, rb, rfl, rfl, rfl, rfl, hk, HB⟩ := hrel
      by_cases hk0 : k = 0
      · subst hk0
        have i1 : ¬ (0 : Int) ≤ ((0 : Nat) : Int) - 1 := by omega
        have h1 : ((wl, wc), pb) = ((l, c), b) := HB.out.2.1.symm.trans HW.out.1
        have h2 : (qn, rb) = (nm, b2) := HB.out.2.2.symm.trans HW.out.2
        simp only [Prod.mk.injEq] at h1 h2
        obtain ⟨⟨rfl, rfl⟩, rfl⟩ := h1
        obtain ⟨rfl, rfl⟩ := h2
        have HF := Lib.hid HB.out.1
        clear HB
        have p0 := HF.out.b6.cell (i := 0) rfl
        have p1 := HF.out.b6.cell (i := 1) rfl
        have q0 := HF.out.b10.cell (i := 0) rfl
        have q1 := HF.out.b10.cell (i := 1) rfl
        go_wp2_with (go_at_call 10; (with_reducible refine (fa_lives _ (tab_below HF.out.be HTB.out.1)).mono ?_); rintro r4 W7 ⟨rfl, q3⟩; have H7 := Lib.hid (HF.out.be.trans (q3.mono HF.out.be.size)); clear q3)
        go_ret
        exact ⟨rfl, H7.out⟩
      · obtain ⟨q, rfl⟩ : ∃ q, k = q + 1 := ⟨k - 1, by omega⟩
        have i1 : (0 : Int) ≤ ((q + 1 : Nat) : Int) - 1 := by omega
        have e1 : ((q + 1 : Nat) : Int) - 1 = (q : Int) := by omega
        rw [e1] at i1
        simp only [e1]
        have i2 : (q : Int) < (m : Int) := by omega
        have w1' : IntKind.i64.wrap ((q : Int) - 1) = (q : Int) - 1 := IntWalk.i64_in _ (by omega)
        obtain ⟨ba, ln, co, nx, es⟩ : ∃ ba ln co nx, L[q]? = some ⟨ba, ln, co, nx⟩ := ⟨_, _, _, _, List.getElem?_eq_getElem (by rw [HL.out.2.1]; omega)⟩
        obtain ⟨_, ga, o, hgo, hgw, e0, e2, e3, e4⟩ := HB.out.1.ws.get es
        injection hgo with hgo
        injection hgo with hg1 hg2 _
        subst hg1 hg2
        simp only [Nat.zero_add] at e0 e2 e3 e4
        have HS := Lib.hid (Fa.wh_step es)
        clear es
        cases ba with
        | true =>
          have HN : Hid (PLS w ((wr.setCell ⟨X10, 0, none⟩ (.int .i64 ln)).setCell ⟨X10, 1, none⟩ (.int .i64 co)) g1 L X6 l c X10 ln co ∧ Fa.wh (L.drop q) = ((ln, co), true) ∧ Fa.who (L.drop q) = (qn, rb)) := Lib.hid ⟨HB.out.1.set2 ln co, by rw [HS.out.1]; rfl, by rw [HS.out.2, HB.out.2.2]; rfl⟩
          have p0 := HB.out.1.b10.cell (i := 0) rfl
          have p1 := HB.out.1.b10.cell (i := 1) rfl
          have f0 := HB.out.1.b10.free 0
          have f1 := HB.out.1.b10.free 1
          go_wp2_with fail
          go_roundw
          case rel => exact ⟨q, ln, co, true, qn, rb, rfl, rfl, rfl, rfl, by omega, HN⟩
          case measure => simp [intOf]
        | false =>
          have HN : Hid (PLS w wr g1 L X6 l c X10 wl wc ∧ Fa.wh (L.drop q) = ((wl, wc), pb) ∧ Fa.who (L.drop q) = (nx, true)) := Lib.hid ⟨HB.out.1, by rw [HS.out.1, HB.out.2.1]; rfl, by rw [HS.out.2]; rfl⟩
          go_wp2_with fail
          go_roundw
          case rel => exact ⟨q, wl, wc, pb, nx, true, rfl, rfl, rfl, rfl, by omega, HN⟩
          case measure => simp [intOf]


theorem own3 : ownKnob Tryd.prog.godebug = none := by kernel_rfl
theorem tab_rows : (Rows.laid_internal_strconv_uint64pow10 : DataW Unit) = Lib.tabData .u64 Lib.pow10Tab := by kernel_rfl
theorem tab_of (W : World) (hL : laidMetH Tryd.prog Rows.faultPlacesRow.laid W) : Lib.TabIs Tryd.prog W "internal/strconv.uint64pow10" .u64 Lib.pow10Tab := by
  have h1 : laidMet Tryd.prog [("math/bits.deBruijn32tab", Rows.laid_math_bits_deBruijn32tab), ("math/bits.deBruijn64tab", Rows.laid_math_bits_deBruijn64tab), ("internal/strconv.uint64pow10", Rows.laid_internal_strconv_uint64pow10)] W ∧ handlesMet Tryd.prog [("errors.errorType", Rows.laid_errors_errorType)] W := hL
  have h2 := h1.1
  have h3 := h2.tail.tail
  rw [tab_rows] at h3
  exact Lib.tabIs_of_head (g := 1) (t := 116) (e := 109) (n := 20) (by kernel_rfl) (by kernel_rfl) (by kernel_rfl) (by kernel_rfl) (by kernel_rfl) (by kernel_rfl) h3
theorem err_row : (Tryd.prog.cutTypes.find? (·.1 == "internal/reflectlite.rtype")).map (·.2) = some 92 := by kernel_rfl
theorem err_one : ((List.range 152).filter fun t => Tryd.prog.rowNamed t [101, 114, 114, 111, 114]) = [29] := by kernel_rfl
theorem err_size : Tryd.prog.types.size = 152 := by kernel_rfl
theorem err_glob : Tryd.prog.globalNamed "errors.errorType" = some 0 := by kernel_rfl
theorem err_of (W : World) (hL : laidMetH Tryd.prog Rows.faultPlacesRow.laid W) : W.cell? ⟨0, 0, none⟩ = some (.iface 92 (.agg #[.pointer (some ⟨4, 29, none⟩)])) := by
  have h1 : laidMet Tryd.prog [("math/bits.deBruijn32tab", Rows.laid_math_bits_deBruijn32tab), ("math/bits.deBruijn64tab", Rows.laid_math_bits_deBruijn64tab), ("internal/strconv.uint64pow10", Rows.laid_internal_strconv_uint64pow10)] W ∧ handlesMet Tryd.prog [("errors.errorType", Rows.laid_errors_errorType)] W := hL
  obtain ⟨name, u, ty, e1, e2, e3, e4, e5⟩ := h1.2 _ (List.mem_singleton.2 rfl)
  have en : name = [101, 114, 114, 111, 114] := (Option.some.inj e1).symm
  subst en
  obtain rfl := Option.some.inj (err_row.symm.trans e2)
  have hm : ty ∈ (List.range 152).filter fun t => Tryd.prog.rowNamed t [101, 114, 114, 111, 114] := List.mem_filter.2 ⟨List.mem_range.2 (by rw [← err_size]; exact e3), e4⟩
  rw [err_one] at hm
  obtain rfl := List.mem_singleton.1 hm
  have hh : typeHandle Tryd.prog 29 = .pointer (some ⟨4, 29, none⟩) := by kernel_rfl
  rw [hh] at e5
  simpa using World.var?_cell err_glob e5 0
set_option maxRecDepth 100000 in
theorem contract (H : Type) (enc : TypeId × Value → H) (W : World) (base : Nat) (args : Array Value) (ds gs : List (DataW H)) (before : List MemPlace)
    (hval0 : ∀ (j : Nat) t v, Tryd.f4.params[j]? = some t → args[j]? = some v → Value.okWide Tryd.prog W .any base t v)
    (hW : DataW.Whole enc Tryd.prog Tryd.f4.params.toList Rows.faultPlacesSpec.vars false W args.toList ds gs before) (hSh : W.ShapedOpen Tryd.prog) (htab : Lib.TabIs Tryd.prog W "internal/strconv.uint64pow10" .u64 Lib.pow10Tab) (herr : W.cell? ⟨0, 0, none⟩ = some (.iface 92 (.agg #[.pointer (some ⟨4, 29, none⟩)]))) :
    Calls Tryd.prog 4 args W fun e W' => ∃ v, e = .returned v ∧ Rows.faultPlacesSpec.post enc Tryd.prog Tryd.f4 false true false false W args v W' := by
  have hval : ∀ (j : Nat) t v, Tryd.f4.params[j]? = some t → args[j]? = some v → Value.okWide Tryd.prog W .any base t v := hval0
  have hW' := hW
  obtain ⟨p, q, hA0, hV, rfl, hfz, hnd⟩ := hW
  have hA : DataW.TrodAll enc Tryd.prog W 0 (fun _ => true) true Tryd.f4.params.toList args.toList ds p := hA0
  rw [Tryd.params4] at hA hval
  obtain ⟨v0, vs0, d0, ds0, p0, q0, hargs, rfl, rfl, h0, r0⟩ := trodAll_cons hA
  obtain ⟨v1, vs1, d1, ds1, p1, q1, rfl, rfl, rfl, h1, r1⟩ := trodAll_cons r0
  obtain ⟨rfl, rfl, rfl⟩ := trodAll_nil r1
  obtain rfl : args = #[v0, v1] := by cases args; simp_all
  obtain ⟨rfl, rfl⟩ := trodVars_none hV
  have k0 := h0
  have lt0 : ∀ x ∈ p0, x.block < W.heap.size := by obtain ⟨m, hm⟩ := k0; exact DataW.trod_lt m _ _ _ hm
  obtain ⟨b0, lb0, cb0, rfl⟩ := okWide_slice Tryd.underlying22 (hval 0 22 v0 rfl rfl)
  obtain ⟨fu0, hf0⟩ := h0
  simp only [Value.cells] at hf0
  obtain ⟨a0, len0, cap0, z0, e0, w0⟩ := fld_wr hf0
  obtain ⟨rfl, rfl, rfl⟩ : b0 = a0 ∧ lb0 = len0 ∧ cb0 = cap0 := by simpa using e0
  have k1 := h1
  have lt1 : ∀ x ∈ p1, x.block < W.heap.size := by obtain ⟨m, hm⟩ := k1; exact DataW.trod_lt m _ _ _ hm
  obtain ⟨a1, rfl, rfl, rfl, w1⟩ := open_int Tryd.underlying23 (hval 1 23 v1 rfl rfl) h1
  clear hA0 hval0
  refine (walk b0 lb0 cb0 z0 a1 W htab herr w0 w1).mono fun e W' ⟨he, bel⟩ => ?_
  subst he
  exact ⟨_, rfl, _, _, _, [], _, [], hW', trodAll_mk1 (shut_bool Tryd.underlying4 _), (trodAll_cons_mk (Below.trod laidOut (by kernel_rfl) (of_decide_eq_true (by kernel_rfl)) k0 bel lt0) (trodAll_cons_mk (Below.trod laidOut (by kernel_rfl) (of_decide_eq_true (by kernel_rfl)) k1 bel lt1) trodAll_mk0)), rfl, bel.frame _, fun h => by cases h⟩

noncomputable def laidWorld (os : Os) : World :=
  { World.holding Tryd.prog os ⟨#[], #[], []⟩ with heap := (((((World.holding Tryd.prog os ⟨#[], #[], []⟩).heap.modify 2 fun
      | .cells _ t frozen => .cells #[.int .u8 0, .int .u8 1, .int .u8 28, .int .u8 2, .int .u8 29, .int .u8 14, .int .u8 24, .int .u8 3, .int .u8 30, .int .u8 22, .int .u8 20, .int .u8 15, .int .u8 25, .int .u8 17, .int .u8 4, .int .u8 8, .int .u8 31, .int .u8 27, .int .u8 13, .int .u8 23, .int .u8 21, .int .u8 19, .int .u8 16, .int .u8 7, .int .u8 26, .int .u8 12, .int .u8 18, .int .u8 6, .int .u8 11, .int .u8 5, .int .u8 10, .int .u8 9] t frozen
      | o => o).modify 3 fun
      | .cells _ t frozen => .cells #[.int .u8 0, .int .u8 1, .int .u8 56, .int .u8 2, .int .u8 57, .int .u8 49, .int .u8 28, .int .u8 3, .int .u8 61, .int .u8 58, .int .u8 42, .int .u8 50, .int .u8 38, .int .u8 29, .int .u8 17, .int .u8 4, .int .u8 62, .int .u8 47, .int .u8 59, .int .u8 36, .int .u8 45, .int .u8 43, .int .u8 51, .int .u8 22, .int .u8 53, .int .u8 39, .int .u8 33, .int .u8 30, .int .u8 24, .int .u8 18, .int .u8 12, .int .u8 5, .int .u8 63, .int .u8 55, .int .u8 48, .int .u8 27, .int .u8 60, .int .u8 41, .int .u8 37, .int .u8 16, .int .u8 46, .int .u8 35, .int .u8 44, .int .u8 21, .int .u8 52, .int .u8 32, .int .u8 23, .int .u8 11, .int .u8 54, .int .u8 26, .int .u8 40, .int .u8 15, .int .u8 34, .int .u8 20, .int .u8 31, .int .u8 10, .int .u8 25, .int .u8 14, .int .u8 19, .int .u8 9, .int .u8 13, .int .u8 8, .int .u8 7, .int .u8 6] t frozen
      | o => o).modify 1 fun
      | .cells _ t frozen => .cells #[.int .u64 1, .int .u64 10, .int .u64 100, .int .u64 1000, .int .u64 10000, .int .u64 100000, .int .u64 1000000, .int .u64 10000000, .int .u64 100000000, .int .u64 1000000000, .int .u64 10000000000, .int .u64 100000000000, .int .u64 1000000000000, .int .u64 10000000000000, .int .u64 100000000000000, .int .u64 1000000000000000, .int .u64 10000000000000000, .int .u64 100000000000000000, .int .u64 1000000000000000000, .int .u64 10000000000000000000] t frozen
      | o => o).modify 0 fun
      | .cells _ t frozen => .cells #[.iface 92 (.agg #[.pointer (some ⟨4, 29, none⟩)])] t frozen
      | o => o) }
theorem laid_met (os : Os) : laidMetH Tryd.prog Rows.faultPlacesRow.laid ((laidWorld os).forCall (fun _ _ => 0) ⟨#[], #[.slice none 0 0, .int .i64 0], []⟩).memory :=
  laidMetH_of_parts (laidMet_of_run' 8 (by kernel_rfl) (by kernel_rfl)) (by kernel_rfl)
theorem reads (os : Os) {H : Type} (enc : TypeId × Value → H) : ∃ places, DataW.whole enc Tryd.prog ((laidWorld os).forCall (fun _ _ => 0) ⟨#[], #[.slice none 0 0, .int .i64 0], []⟩).memory Tryd.f4.params.toList Rows.faultPlacesSpec.vars false (#[.slice none 0 0, .int .i64 0] : Array Value).toList 8 = some ([.nil, .lit (.int .i64 0)], [], places) :=
  ⟨[], by kernel_rfl⟩
set_option maxRecDepth 100000 in
theorem lifted (os : Os) (started : os.Started) (H : Type) (enc : TypeId × Value → H) (F : Stop.Interp) :
    ReturnsInHanded {} Tryd.checked os 4 .any ((OpenSpec.ofChange Rows.faultPlacesSpec).preRow enc Tryd.prog Tryd.f4 Rows.faultPlacesRow.domain false Rows.faultPlacesRow.laid) (((OpenSpec.ofChange Rows.faultPlacesSpec).at F).post enc Tryd.prog Tryd.f4 false true false false) := by
  obtain ⟨places, hx⟩ := reads os enc
  refine returnsInHanded_of_row (C := Tryd.checked) (s := OpenSpec.ofChange Rows.faultPlacesSpec) own3 started (by kernel_rfl) Tryd.func4
    (witness_row_at (enc := enc) (C := Tryd.checked) false (laidWorld os) #[.slice none 0 0, .int .i64 0] rfl (by kernel_rfl) (by kernel_rfl) (by kernel_rfl)
      (OpenSpec.preRow_of_cond 8 hx (by kernel_rfl) (fun k hk => by cases hk) (by kernel_rfl) (laid_met os))) ?_
  intro W base args ds gs before hval hW _ _ _ hL hSh _
  exact contract H enc W base args ds gs before hval hW hSh (tab_of W hL) (err_of W hL)
theorem said : Rows.FaultPlacesSaid :=
  OpenClaim.holds_of_cond 4 Tryd.f4 rfl rfl rfl rfl rfl rfl rfl ⟨rfl, rfl, rfl, rfl, rfl⟩ rfl rfl rfl rfl rfl (by kernel_rfl) Tryd.func4 (by kernel_rfl)
    (of_decide_eq_true (by kernel_rfl)) (by unfold Func.isWrapper; first | (rw [if_pos (by decide +kernel)]; kernel_rfl) | (rw [if_neg (by decide +kernel)]; exact ⟨rfl, rfl⟩))
    (fun os started H enc _ F => by rw [OpenClaim.pre_eq_preRow]; exact lifted os started H enc F)
theorem plain (f : FuncId) (fn : Func) (hf : Tryd.pinned.checked.prog.funcNamed "repartee/reparteelaw16.FaultPlaces" = some f) (hfn : Tryd.pinned.checked.prog.funcs[f]? = some fn) :
    true = Tryd.pinned.checked.prog.looks [] ∧ ∀ (j : Nat) t, fn.params[j]? = some t → Tryd.pinned.checked.prog.wantsStandIn t = false := by
  obtain rfl : f = 4 := Option.some.inj ((show Tryd.prog.funcNamed "repartee/reparteelaw16.FaultPlaces" = some 4 by kernel_rfl).symm.trans hf) |>.symm
  obtain rfl : fn = Tryd.f4 := (Option.some.inj (Tryd.func4.symm.trans hfn)).symm
  refine ⟨by kernel_rfl, fun j t ht => ?_⟩
  rw [Tryd.params4] at ht
  have hm : t ∈ [22, 23] := by simpa using Array.mem_of_getElem? ht
  have hall : ([22, 23].all fun u => !Tryd.prog.wantsStandIn u) = true := by kernel_rfl
  exact (show Tryd.prog.wantsStandIn t = false by simpa using List.all_eq_true.1 hall t hm)
/-- The statement. -/
theorem proved : Rows.FaultPlacesCardSaid :=
  Claim7.holds_tied_plain_at .later [] _ _ _ _ said (fun _ h => by cases h) (by kernel_rfl) (fun _ h => by cases h) faultPlaces_row_tie rfl ⟨rfl, rfl⟩ (by kernel_rfl) rfl plain (by kernel_rfl)
#print axioms proved
end Go.Proofs.YtlofcccabdocgaaDoor.faultPlaces
