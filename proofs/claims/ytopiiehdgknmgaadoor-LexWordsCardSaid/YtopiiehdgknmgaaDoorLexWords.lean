/- P12.1, P12.2, P12.4: for every line (cut to 90 bytes): its words, or where and why it is none, are as the document says; joined and read again they are the same. No condition but what the card ties. -/
import Derived.Test.YtopiiehdgknmgaaDoorOpen
import Derived.Test.YtopiiehdgknmgaaDoorCards
import Derived.Test.YtopiiehdgknmgaaDoorTie
import Derived.WalkKit
import Derived.Deep.DeepHandedRow
import Derived.Shelf.Vars
import Derived.ProofKit
import Derived.OpenShut
import Derived.Test.YtopiiehdgknmgaaDoorLx11
import Derived.Test.YtopiiehdgknmgaaDoorLx12
namespace Go.Proofs.YtopiiehdgknmgaaDoor.lexWords
open Go.Joins Go.ChangeShapes Go.WideShapes Go.ChangeAt Go.RowKit Go.Deep
open Go.ChangeMaps (open_string)
set_option linter.unusedSimpArgs false
set_option linter.unusedVariables false

set_option maxRecDepth 20000 in
set_option maxHeartbeats 16000000 in

theorem walk (a0 : ByteArray) (w : World) (m0 : Int) (hm0 : w.cell? ⟨0, 0, none⟩ = some (.int .i64 m0)) (hz0 : 0 < w.heap.size) (w0 : a0.size ≤ maxLen) :
    Calls Tryd.prog 3 #[.string a0] w fun e w' => e = .returned (.bool true) ∧ Below w.heap.size w w' := by
  have HM0 : Hid (w.cell? ⟨0, 0, none⟩ = some (.int .i64 m0) ∧ 0 < w.heap.size) := Lib.hid ⟨hm0, hz0⟩
  obtain ⟨s, hs⟩ : ∃ s, cutT a0 90 = s := ⟨_, rfl⟩
  have hs90 : s.size ≤ 90 := by rw [← hs]; exact cutT_le _ _
  obtain ⟨t, ht⟩ : ∃ t, s.data.toList = t := ⟨_, rfl⟩
  have htl : t.length = s.size := by rw [← ht]; simp
  obtain ⟨⟨L, p, e⟩, hw⟩ : ∃ z, Lx.words t = z := ⟨_, rfl⟩
  obtain ⟨n, hn⟩ : ∃ n, L.length = n := ⟨_, rfl⟩
  have hfit := words_fit t
  rw [hw] at hfit
  dsimp only at hfit
  have hback := words_back L hfit.1
  obtain ⟨J, hJ⟩ : ∃ J, mkT (Lx.cat L) = J := ⟨_, rfl⟩
  have hJl : J.data.toList = Lx.cat L := by rw [← hJ, mkT_list]
  have hcost : Lx.cost L ≤ 2000 := by have := hfit.2; omega
  have hJs : J.size ≤ 1200 := by
    rw [size_of hJl]
    have h1 := cat_cost L
    have h2 := hfit.2
    omega
  obtain ⟨L2, hL2⟩ : ∃ L2, Lx.at 0 L = L2 := ⟨_, rfl⟩
  have hl2 : L2.length = n := by rw [← hL2, at_length, hn]
  have hn63 : n ≤ 2000 := by have := len_cost L; omega
  rw [hL2] at hback
  have HS : Hid (L.length = n ∧ Lx.cost L ≤ 2000 ∧ mkT (Lx.cat L) = J ∧ cutT a0 90 = s ∧ s.data.toList = t ∧ Lx.words t = (L, p, e) ∧ J.data.toList = Lx.cat L ∧ Lx.words (Lx.cat L) = (L2, 0, 0) ∧ L2.length = n ∧ Lx.at 0 L = L2) := Lib.hid ⟨hn, hcost, hJ, hs, ht, hw, hJl, hback, hl2, hL2⟩
  have HB0 : Hid (Below w.heap.size w w) := Lib.hid (Below.refl _ _)
  have hs12 : s.size ≤ 1200 := by omega
  clear hm0 hz0 hs ht htl hw hn hfit hback hJ hJl hcost hL2 hl2
  go_enter Tryd.func3, Tryd.ntmps3
  go_wp2_with (first
    | (go_at_call 6; with_reducible refine (cut_90 a0 s w0 HS.out.2.2.2.1 _).mono ?_; rintro e W1 ⟨rfl, rfl⟩)
    | (go_at_call 7; with_reducible refine (lx_words s t hs12 HS.out.2.2.2.2.1 L n p e HS.out.2.2.2.2.2.1 HS.out.1 _).mono ?_; rintro _ W1 ⟨r1, c1, rfl, h1, hb1⟩; have H1 := Lib.hid h1; replace HB0 := Lib.hid (HB0.out.trans (hb1.mono HB0.out.size)); clear hb1 h1)
    | (go_at_call 8; with_reducible refine (rx_words s t hs12 HS.out.2.2.2.2.1 L n p e HS.out.2.2.2.2.2.1 HS.out.1 _).mono ?_; rintro _ W1 ⟨r2, c2, rfl, h2, hb1⟩; have HB : Hid (WR W1 r1 L ∧ WR W1 r2 L ∧ Below w.heap.size w W1) := Lib.hid (And.intro (H1.out.below hb1) (And.intro h2 (HB0.out.trans (hb1.mono HB0.out.size)))); clear hb1 h2 H1 HB0)
    | (go_at_call 9; with_reducible refine (lx_same L n HS.out.1 (by omega) r1 r2 c1 c2 _ HB.out.1 HB.out.2.1).mono ?_; rintro _ W1 ⟨rfl, hb1⟩; replace HB := Lib.hid (And.intro (HB.out.1.below hb1) (And.intro (HB.out.2.1.below hb1) (HB.out.2.2.trans (hb1.mono HB.out.2.2.size)))); clear hb1)
    | (go_at_call 10; with_reducible refine (lx_join L n HS.out.1 (by omega) HS.out.2.1 r1 c1 _ HB.out.1).mono ?_; rintro _ W1 ⟨rfl, hb1⟩; rw [HS.out.2.2.1]; replace HB := Lib.hid (And.intro (HB.out.1.below hb1) (And.intro (HB.out.2.1.below hb1) (HB.out.2.2.trans (hb1.mono HB.out.2.2.size)))); clear hb1)
    | (go_at_call 11; with_reducible refine (rx_join L n HS.out.1 (by omega) HS.out.2.1 r2 c2 _ HB.out.2.1).mono ?_; rintro _ W1 ⟨rfl, hb1⟩; rw [HS.out.2.2.1]; replace HB := Lib.hid (And.intro (HB.out.1.below hb1) (And.intro (HB.out.2.1.below hb1) (HB.out.2.2.trans (hb1.mono HB.out.2.2.size)))); clear hb1)
    | (go_at_call 7; with_reducible refine (lx_words J (Lx.cat L) hJs HS.out.2.2.2.2.2.2.1 L2 n 0 0 HS.out.2.2.2.2.2.2.2.1 HS.out.2.2.2.2.2.2.2.2.1 _).mono ?_; rintro _ W1 ⟨r3, c3, rfl, h3, hb1⟩; have HC : Hid (WR W1 r3 L2 ∧ WR W1 r2 L ∧ Below w.heap.size w W1) := Lib.hid (And.intro h3 (And.intro (HB.out.2.1.below hb1) (HB.out.2.2.trans (hb1.mono HB.out.2.2.size)))); clear hb1 h3 HB))
  go_loopw [12] (fun iv wr => ∃ k : Nat, iv = .int .i64 k ∧ k ≤ n ∧ Hid (WR wr r3 L2 ∧ WR wr r2 L ∧ Below w.heap.size w wr)) (fun iv _ => n - (intOf iv).toNat)
  case atStart => exact ⟨0, rfl, by omega, HC⟩
  case round =>
    clear HC
    obtain ⟨k, rfl, hk, HB⟩ := hrel
    have k0 : (0 : Int) ≤ (k : Int) := by omega
    by_cases hkn : k < n
    · have kI : (k : Int) < (n : Int) := by omega
      have w1 : IntKind.i64.wrap ((k : Int) + 1) = (k : Int) + 1 := IntWalk.i64_in _ (by omega)
      obtain ⟨⟨tt, q, p2⟩, hx⟩ : ∃ x, L[k]? = some x := ⟨_, List.getElem?_eq_getElem (by rw [HS.out.1]; exact hkn)⟩
      obtain ⟨p3, hx2⟩ := at_get L 0 k _ hx
      rw [HS.out.2.2.2.2.2.2.2.2.2] at hx2
      obtain ⟨g3, rfl, _⟩ := HB.out.1.row hx2
      obtain ⟨g2, rfl, _⟩ := HB.out.2.1.row hx
      obtain ⟨X, hX⟩ : ∃ X, mkT tt = X := ⟨_, rfl⟩
      have HX : Hid (L2[k]? = some (tt, q, p3) ∧ L[k]? = some (tt, q, p2) ∧ mkT tt = X) := Lib.hid ⟨hx2, hx, hX⟩
      clear hx hx2 hX
      go_wp2_with fail
      refine wp_region_class (fun w' => WR w' (some ⟨g3, 0, none⟩) L2 ∧ WR w' (some ⟨g2, 0, none⟩) L ∧ Below w.heap.size w w') (by kernel_rfl) (by kernel_rfl) ⟨HB.out.1.drew, HB.out.2.1.drew, HB.out.2.2.drew⟩ ?_
      repeat (first
          | go_big_quiet_skip
          | (go_big_quiet_want
             unfold Oper.quiet
             apply Exists.intro
             refine ⟨fun wq hwq => ?_, ?_⟩
             · (obtain ⟨hq1, hq2, hq3⟩ := hwq
                obtain ⟨d1, d2, d3⟩ := hq1.cells HX.out.1
                obtain ⟨e1, e2, e3⟩ := hq2.cells HX.out.2.1
                rw [HX.out.2.2] at d1 e1
                unfold Oper.quietAt
                go_simp
                first
                  | exact ⟨rfl, hq1, hq2, hq3⟩
                  | exact rfl)
             simp only [Act.put, List.setIfInBounds_toArray, List.set_cons_zero, List.set_cons_succ]
             go_big_quiet_on))
      refine wpQuiet_nil ?_
      intro w4 hw4
      have HB4 := Lib.hid hw4
      clear hw4 HB
      go_wp2
      refine ⟨?_, ?measure⟩
      case measure => simp [intOf]; omega
      first
        | exact ⟨k + 1, by go_num, by omega, HB4⟩
        | ((repeat apply Exists.intro); exact ⟨⟨k + 1, by go_num, by omega, HB4⟩, rfl⟩)
    · have kI : ¬ (k : Int) < (n : Int) := by omega
      go_wp2_with (go_at_call 12; with_reducible refine (lx_lives m0 _ ((HB.out.2.2.cell (p := ⟨0, 0, none⟩) HM0.out.2).trans HM0.out.1) (Nat.lt_of_lt_of_le HM0.out.2 HB.out.2.2.size)).mono ?_; rintro e W1 ⟨rfl, hb1⟩; replace HB := Lib.hid (And.intro (HB.out.1.below hb1) (And.intro (HB.out.2.1.below hb1) (HB.out.2.2.trans (hb1.mono HB.out.2.2.size)))); clear hb1)
      go_ret
      exact ⟨rfl, HB.out.2.2⟩


theorem own3 : ownKnob Tryd.prog.godebug = none := by kernel_rfl
theorem contract (H : Type) (enc : TypeId × Value → H) (W : World) (base : Nat) (args : Array Value) (ds gs : List (DataW H)) (before : List MemPlace)
    (hval0 : ∀ (j : Nat) t v, Tryd.f3.params[j]? = some t → args[j]? = some v → Value.okWide Tryd.prog W .any base t v)
    (hW : DataW.Whole enc Tryd.prog Tryd.f3.params.toList Rows.lexWordsSpec.vars false W args.toList ds gs before) (hSh : W.ShapedOpen Tryd.prog) :
    Calls Tryd.prog 3 args W fun e W' => ∃ v, e = .returned v ∧ Rows.lexWordsSpec.post enc Tryd.prog Tryd.f3 false true false false W args v W' := by
  obtain ⟨m0, hm0⟩ := cell_of_shapedOpen_int (P := Tryd.prog) (g := 0) (t := 3) (zero := #[.int .i64 0]) hSh (of_decide_eq_true (by kernel_rfl)) (by kernel_rfl) rfl (by kernel_rfl) (by kernel_rfl) Tryd.underlying3
  have hz0 : 0 < W.heap.size := by
    rcases Nat.lt_or_ge 0 W.heap.size with h | h
    · exact h
    · have : W.heap[0]? = none := Array.getElem?_eq_none (by omega)
      simp [World.cell?, this] at hm0
  have hval : ∀ (j : Nat) t v, Tryd.f3.params[j]? = some t → args[j]? = some v → Value.okWide Tryd.prog W .any base t v := hval0
  have hW' := hW
  obtain ⟨p, q, hA0, hV, rfl, hfz, hnd⟩ := hW
  have hA : DataW.TrodAll enc Tryd.prog W 0 (fun _ => true) true Tryd.f3.params.toList args.toList ds p := hA0
  rw [Tryd.params3] at hA hval
  obtain ⟨v0, vs0, d0, ds0, p0, q0, hargs, rfl, rfl, h0, r0⟩ := trodAll_cons hA
  obtain ⟨rfl, rfl, rfl⟩ := trodAll_nil r0
  obtain rfl : args = #[v0] := by cases args; simp_all
  obtain ⟨rfl, rfl⟩ := trodVars_none hV
  have k0 := h0
  have lt0 : ∀ x ∈ p0, x.block < W.heap.size := by obtain ⟨m, hm⟩ := k0; exact DataW.trod_lt m _ _ _ hm
  obtain ⟨a0, rfl, rfl, rfl, w0⟩ := open_string Tryd.underlying9 (hval 0 9 v0 rfl rfl) h0
  clear hA0 hval0
  refine (walk a0 W m0 hm0 hz0 w0).mono fun e W' ⟨he, bel⟩ => ?_
  subst he
  exact ⟨_, rfl, _, _, _, [], _, [], hW', trodAll_mk1 (shut_bool Tryd.underlying4 _), (trodAll_cons_mk (Below.trod laidOut (by kernel_rfl) (of_decide_eq_true (by kernel_rfl)) k0 bel lt0) trodAll_mk0), rfl, bel.frame _, fun h => by cases h⟩

noncomputable def laidWorld (os : Os) : World :=
  { World.holding Tryd.prog os ⟨#[], #[], []⟩ with heap := (((World.holding Tryd.prog os ⟨#[], #[], []⟩).heap.modify 2 fun
      | .cells _ t frozen => .cells #[.int .u8 128, .int .u8 191, .int .u8 160, .int .u8 191, .int .u8 128, .int .u8 159, .int .u8 144, .int .u8 191, .int .u8 128, .int .u8 143, .int .u8 0, .int .u8 0, .int .u8 0, .int .u8 0, .int .u8 0, .int .u8 0, .int .u8 0, .int .u8 0, .int .u8 0, .int .u8 0, .int .u8 0, .int .u8 0, .int .u8 0, .int .u8 0, .int .u8 0, .int .u8 0, .int .u8 0, .int .u8 0, .int .u8 0, .int .u8 0, .int .u8 0, .int .u8 0] t frozen
      | o => o).modify 1 fun
      | .cells _ t frozen => .cells (Go.Pinned.utf8FirstZ.map fun (x : Nat) => Value.int .u8 (x : Int)).toArray t frozen
      | o => o) }
theorem laid_met (os : Os) : laidMet Tryd.prog Rows.lexWordsRow.laid ((laidWorld os).forCall (fun _ _ => 0) ⟨#[], #[.string ByteArray.empty], []⟩).memory :=
  laidMet_of_run' 8 (by kernel_rfl) (by kernel_rfl)
theorem reads (os : Os) {H : Type} (enc : TypeId × Value → H) : ∃ places, DataW.whole enc Tryd.prog ((laidWorld os).forCall (fun _ _ => 0) ⟨#[], #[.string ByteArray.empty], []⟩).memory Tryd.f3.params.toList Rows.lexWordsSpec.vars false (#[.string ByteArray.empty] : Array Value).toList 8 = some ([.lit (.string [])], [], places) :=
  ⟨[], by kernel_rfl⟩
set_option maxRecDepth 100000 in
theorem lifted (os : Os) (started : os.Started) (H : Type) (enc : TypeId × Value → H) (F : Stop.Interp) :
    ReturnsInHanded {} Tryd.checked os 3 .any ((OpenSpec.ofChange Rows.lexWordsSpec).preRow enc Tryd.prog Tryd.f3 Rows.lexWordsRow.domain false Rows.lexWordsRow.laid) (((OpenSpec.ofChange Rows.lexWordsSpec).at F).post enc Tryd.prog Tryd.f3 false true false false) := by
  obtain ⟨places, hx⟩ := reads os enc
  refine returnsInHanded_of_row (C := Tryd.checked) (s := OpenSpec.ofChange Rows.lexWordsSpec) own3 started (by kernel_rfl) Tryd.func3
    (witness_row_at (enc := enc) (C := Tryd.checked) false (laidWorld os) #[.string ByteArray.empty] rfl (by kernel_rfl) (by kernel_rfl) (by kernel_rfl)
      (OpenSpec.preRow_of_cond 8 hx (by kernel_rfl) (fun k hk => by cases hk) (by kernel_rfl) (laid_met os))) ?_
  intro W base args ds gs before hval hW _ _ _ _ hSh _
  exact contract H enc W base args ds gs before hval hW hSh
theorem said : Rows.LexWordsSaid :=
  OpenClaim.holds_of_cond 3 Tryd.f3 rfl rfl rfl rfl rfl rfl rfl ⟨rfl, rfl, rfl, rfl, rfl⟩ rfl rfl rfl rfl rfl (by kernel_rfl) Tryd.func3 (by kernel_rfl)
    (of_decide_eq_true (by kernel_rfl)) (by unfold Func.isWrapper; first | (rw [if_pos (by decide +kernel)]; kernel_rfl) | (rw [if_neg (by decide +kernel)]; exact ⟨rfl, rfl⟩))
    (fun os started H enc _ F => by rw [OpenClaim.pre_eq_preRow]; exact lifted os started H enc F)
theorem plain (f : FuncId) (fn : Func) (hf : Tryd.pinned.checked.prog.funcNamed "repartee/reparteelaw12.LexWords" = some f) (hfn : Tryd.pinned.checked.prog.funcs[f]? = some fn) :
    false = Tryd.pinned.checked.prog.looks [] ∧ ∀ (j : Nat) t, fn.params[j]? = some t → Tryd.pinned.checked.prog.wantsStandIn t = false := by
  obtain rfl : f = 3 := Option.some.inj ((show Tryd.prog.funcNamed "repartee/reparteelaw12.LexWords" = some 3 by kernel_rfl).symm.trans hf) |>.symm
  obtain rfl : fn = Tryd.f3 := (Option.some.inj (Tryd.func3.symm.trans hfn)).symm
  refine ⟨by kernel_rfl, fun j t ht => ?_⟩
  rw [Tryd.params3] at ht
  have hm : t ∈ [9] := by simpa using Array.mem_of_getElem? ht
  have hall : ([9].all fun u => !Tryd.prog.wantsStandIn u) = true := by kernel_rfl
  exact (show Tryd.prog.wantsStandIn t = false by simpa using List.all_eq_true.1 hall t hm)
/-- The statement. -/
theorem proved : Rows.LexWordsCardSaid :=
  Claim7.holds_tied_plain_at .later [] _ _ _ _ said (fun _ h => by cases h) (by kernel_rfl) (fun _ h => by cases h) lexWords_row_tie rfl ⟨rfl, rfl⟩ (by kernel_rfl) rfl plain (by kernel_rfl)
#print axioms proved
end Go.Proofs.YtopiiehdgknmgaaDoor.lexWords
