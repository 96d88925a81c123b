/- P12.2: for every text (cut to 60 bytes): its lines, and which of them say nothing, are as the document says; with line feeds between they are the text. No condition but what the card ties. -/
import Derived.Test.YtopiiehdgknmgaaDoorOpen
import Derived.Test.YtopiiehdgknmgaaDoorCards
import Derived.Test.YtopiiehdgknmgaaDoorTie
import Derived.WalkKit
import Derived.Deep.DeepHandedRow
import Derived.Shelf.Vars
import Derived.ProofKit
import Derived.OpenShut
import Derived.Test.YtopiiehdgknmgaaDoorLx8
import Derived.Test.YtopiiehdgknmgaaDoorClass
namespace Go.Proofs.YtopiiehdgknmgaaDoor.lexLines
open Go.Joins Go.ChangeShapes Go.WideShapes Go.ChangeAt Go.RowKit Go.Deep
open Go.ChangeMaps (open_string)
set_option linter.unusedSimpArgs false
set_option linter.unusedVariables false

theorem lx_idleX (x : List UInt8) (X : ByteArray) (hX : mkT x = X) (hx : x.length ≤ 100000) (r : Bool) (hr : Lx.idle x = r) (w : World) : Calls Tryd.prog 15 #[.string X] w fun e w' => e = .returned (.bool r) ∧ Below w.heap.size w w' := by rw [← hX]; exact lx_idle x hx r hr w
theorem rx_idleX (x : List UInt8) (X : ByteArray) (hX : mkT x = X) (hx : x.length ≤ 100000) (r : Bool) (hr : Lx.idle x = r) (w : World) : Calls Tryd.prog 16 #[.string X] w fun e w' => e = .returned (.bool r) ∧ Below w.heap.size w w' := by rw [← hX]; exact rx_idle x hx r hr w
set_option maxRecDepth 20000 in
set_option maxHeartbeats 16000000 in

theorem walk (a0 : ByteArray) (w : World) (m0 : Int) (hm0 : w.cell? ⟨0, 0, none⟩ = some (.int .i64 m0)) (hz0 : 0 < w.heap.size) (w0 : a0.size ≤ maxLen) :
    Calls Tryd.prog 5 #[.string a0] w fun e w' => e = .returned (.bool true) ∧ Below w.heap.size w w' := by
  have HM0 : Hid (w.cell? ⟨0, 0, none⟩ = some (.int .i64 m0) ∧ 0 < w.heap.size) := Lib.hid ⟨hm0, hz0⟩
  obtain ⟨s, hs⟩ : ∃ s, cutT a0 60 = s := ⟨_, rfl⟩
  have hs60 : s.size ≤ 60 := by rw [← hs]; exact cutT_le _ _
  obtain ⟨t, ht⟩ : ∃ t, s.data.toList = t := ⟨_, rfl⟩
  have htl : t.length = s.size := by rw [← ht]; simp
  obtain ⟨L, hL⟩ : ∃ L, Lx.ls t = L := ⟨_, rfl⟩
  obtain ⟨n, hn⟩ : ∃ n, L.length = n := ⟨_, rfl⟩
  have hle := ls_le t
  rw [hL] at hle
  have hn61 : n ≤ 61 := by omega
  have hx60 : ∀ (i : Nat) (x : List UInt8), L[i]? = some x → x.length ≤ 60 := fun i x hi => by have := hle.2 x (List.mem_of_getElem? hi); omega
  have HS : Hid (cutT a0 60 = s ∧ s.data.toList = t ∧ Lx.ls t = L ∧ L.length = n ∧ (∀ (i : Nat) (x : List UInt8), L[i]? = some x → x.length ≤ 60) ∧ Lx.jf L n = t) := Lib.hid ⟨hs, ht, hL, hn, hx60, by rw [← hn, ← hL]; exact jf_ls t⟩
  have HB0 : Hid (Below w.heap.size w w) := Lib.hid (Below.refl _ _)
  have hs1 : s.size ≤ 100000 := by omega
  have hs2 : s.size ≤ 1000000 := by omega
  clear hm0 hz0 hs ht htl hL hn hle hx60
  go_enter Tryd.func5, Tryd.ntmps5
  go_wp2_with (first
    | (go_at_call 6; with_reducible refine (cut_60 a0 s w0 HS.out.1 _).mono ?_; rintro e W1 ⟨rfl, rfl⟩)
    | (go_at_call 13; with_reducible refine (lx_lines2 s hs2 L (by rw [HS.out.2.1]; exact HS.out.2.2.1) n HS.out.2.2.2.1 m0 _ ((HB0.out.cell (p := ⟨0, 0, none⟩) HM0.out.2).trans HM0.out.1)).mono ?_; rintro e W1 ⟨g1, c1, rfl, h1, hb1⟩; have H1 := Lib.hid h1; replace HB0 := Lib.hid (HB0.out.trans (hb1.mono HB0.out.size)); clear hb1 h1)
    | (go_at_call 14; with_reducible refine (rx_lines s t hs1 HS.out.2.1 L HS.out.2.2.1 n HS.out.2.2.2.1 _).mono ?_; rintro e W1 ⟨g2, c2, rfl, h2, hb1⟩; have HB : Hid (LT W1 g1 L ∧ LT W1 g2 L ∧ Below w.heap.size w W1) := Lib.hid (And.intro (H1.out.below hb1) (And.intro h2 (HB0.out.trans (hb1.mono HB0.out.size)))); clear hb1 h2 H1 HB0))
  go_loopw [5, 6] (fun av iv wr => ∃ (k : Nat) (A : ByteArray), av = .string A ∧ iv = .int .i64 k ∧ k ≤ n ∧ Hid (A.data.toList = Lx.jf L k) ∧ Hid (LT wr g1 L ∧ LT wr g2 L ∧ Below w.heap.size w wr)) (fun _ iv _ => n - (intOf iv).toNat)
  case atStart => exact ⟨0, { data := #[] }, rfl, rfl, by omega, Lib.hid rfl, HB⟩
  case round =>
    clear HB
    obtain ⟨k, A, rfl, rfl, hk, HA, HB⟩ := hrel
    have k0 : (0 : Int) ≤ (k : Int) := by omega
    by_cases hkn : k < n
    · have kI : (k : Int) < (n : Int) := by omega
      obtain ⟨x, hx⟩ : ∃ x, L[k]? = some x := ⟨_, List.getElem?_eq_getElem (by rw [HS.out.2.2.2.1]; exact hkn)⟩
      obtain ⟨X, hX⟩ : ∃ X, mkT x = X := ⟨_, rfl⟩
      obtain ⟨b, hb⟩ : ∃ b, Lx.idle x = b := ⟨_, rfl⟩
      have hx6 := HS.out.2.2.2.2.1 k x hx
      have hXs : X.size ≤ 60 := by rw [← hX, mkT_size]; exact hx6
      have hAs : A.size ≤ 10000 := by
        rw [size_of HA.out]
        have h1 := jf_len L 60 HS.out.2.2.2.2.1 k
        have h2 : k * (60 + 1) ≤ 61 * 61 := Nat.mul_le_mul (by omega) (by omega)
        omega
      have hXl : X.data.toList = x := by rw [← hX, mkT_list]
      have HX : Hid (L[k]? = some x ∧ mkT x = X ∧ x.length ≤ 100000 ∧ Lx.idle x = b) := Lib.hid ⟨hx, hX, by omega, hb⟩
      have w1 : IntKind.i64.wrap ((k : Int) + 1) = (k : Int) + 1 := IntWalk.i64_in _ (by omega)
      by_cases hk0 : k = 0
      · have kz : ¬ (0 : Int) < (k : Int) := by omega
        have kz2 : ¬ 0 < k := by omega
        have HA2 : Hid ((A ++ X).data.toList = Lx.jf L (k + 1)) := Lib.hid (by
          rw [Lx.jf, if_pos hk0, hx, ← HA.out]; simp [hXl])
        clear hx hX hb hXl hx6 hk0
        go_wp2_with fail
        refine wp_region_class (fun w' => LT w' g1 L ∧ LT w' g2 L ∧ Below w.heap.size w w') (by kernel_rfl) (by kernel_rfl) ⟨HB.out.1.drew, HB.out.2.1.drew, HB.out.2.2.drew⟩ ?_
        repeat (first
            | go_big_quiet_skip
            | (go_big_quiet_want
               unfold Oper.quiet
               apply Exists.intro
               refine ⟨fun wq hwq => ?_, ?_⟩
               · (obtain ⟨hq1, hq2, hq3⟩ := hwq
                  have d1 := hq1.2 k x HX.out.1
                  have d2 := hq2.2 k x HX.out.1
                  rw [HX.out.2.1] at d1 d2
                  unfold Oper.quietAt
                  go_simp
                  first
                    | exact ⟨rfl, hq1, hq2, hq3⟩
                    | exact rfl
                    | (go_at_call 15; refine (lx_idleX x X HX.out.2.1 HX.out.2.2.1 b HX.out.2.2.2 _).mono ?_; rintro e w3 ⟨he, hb⟩; exact ⟨he, hq1.below hb, hq2.below hb, hq3.trans (hb.mono hq3.size)⟩)
                    | (go_at_call 16; refine (rx_idleX x X HX.out.2.1 HX.out.2.2.1 b HX.out.2.2.2 _).mono ?_; rintro e w3 ⟨he, hb⟩; exact ⟨he, hq1.below hb, hq2.below hb, hq3.trans (hb.mono hq3.size)⟩))
               simp only [Act.put, List.setIfInBounds_toArray, List.set_cons_zero, List.set_cons_succ]
               go_big_quiet_on))
        refine wpQuiet_nil ?_
        intro w4 hw4
        have HB4 := Lib.hid hw4
        have d1 := hw4.1.2 k x HX.out.1
        rw [HX.out.2.1] at d1
        clear hw4 HB
        go_wp2
        refine ⟨?_, ?measure⟩
        case measure => simp [intOf]; omega
        first
          | exact ⟨k + 1, A ++ X, by go_num, by go_num, by omega, HA2, HB4⟩
          | ((repeat apply Exists.intro); exact ⟨⟨k + 1, A ++ X, by go_num, by go_num, by omega, HA2, HB4⟩, rfl⟩)
      · have kz : (0 : Int) < (k : Int) := by omega
        have kz2 : 0 < k := by omega
        have HA2 : Hid ((A ++ ({ data := #[10] } : ByteArray) ++ X).data.toList = Lx.jf L (k + 1)) := Lib.hid (by
          rw [Lx.jf, if_neg hk0, hx, ← HA.out]; simp [hXl])
        clear hx hX hb hXl hx6 hk0
        go_wp2_with fail
        refine wp_region_class (fun w' => LT w' g1 L ∧ LT w' g2 L ∧ Below w.heap.size w w') (by kernel_rfl) (by kernel_rfl) ⟨HB.out.1.drew, HB.out.2.1.drew, HB.out.2.2.drew⟩ ?_
        repeat (first
            | go_big_quiet_skip
            | (go_big_quiet_want
               unfold Oper.quiet
               apply Exists.intro
               refine ⟨fun wq hwq => ?_, ?_⟩
               · (obtain ⟨hq1, hq2, hq3⟩ := hwq
                  have d1 := hq1.2 k x HX.out.1
                  have d2 := hq2.2 k x HX.out.1
                  rw [HX.out.2.1] at d1 d2
                  unfold Oper.quietAt
                  go_simp
                  first
                    | exact ⟨rfl, hq1, hq2, hq3⟩
                    | exact rfl
                    | (go_at_call 15; refine (lx_idleX x X HX.out.2.1 HX.out.2.2.1 b HX.out.2.2.2 _).mono ?_; rintro e w3 ⟨he, hb⟩; exact ⟨he, hq1.below hb, hq2.below hb, hq3.trans (hb.mono hq3.size)⟩)
                    | (go_at_call 16; refine (rx_idleX x X HX.out.2.1 HX.out.2.2.1 b HX.out.2.2.2 _).mono ?_; rintro e w3 ⟨he, hb⟩; exact ⟨he, hq1.below hb, hq2.below hb, hq3.trans (hb.mono hq3.size)⟩))
               simp only [Act.put, List.setIfInBounds_toArray, List.set_cons_zero, List.set_cons_succ]
               go_big_quiet_on))
        refine wpQuiet_nil ?_
        intro w4 hw4
        have HB4 := Lib.hid hw4
        have d1 := hw4.1.2 k x HX.out.1
        rw [HX.out.2.1] at d1
        clear hw4 HB
        go_wp2
        refine ⟨?_, ?measure⟩
        case measure => simp [intOf]; omega
        first
          | exact ⟨k + 1, A ++ ({ data := #[10] } : ByteArray) ++ X, by go_num, by go_num, by omega, HA2, HB4⟩
          | ((repeat apply Exists.intro); exact ⟨⟨k + 1, A ++ ({ data := #[10] } : ByteArray) ++ X, by go_num, by go_num, by omega, HA2, HB4⟩, rfl⟩)
    · obtain rfl : k = n := by omega
      have kI : ¬ (k : Int) < (k : Int) := by omega
      obtain rfl : A = s := eqT (by rw [HA.out, HS.out.2.2.2.2.2, HS.out.2.1])
      go_wp2_with (go_at_call 12; with_reducible refine (lx_lives m0 _ ((HB.out.2.2.cell (p := ⟨0, 0, none⟩) HM0.out.2).trans HM0.out.1) (Nat.lt_of_lt_of_le HM0.out.2 HB.out.2.2.size)).mono ?_; rintro e W1 ⟨rfl, hb1⟩; replace HB := Lib.hid (And.intro (HB.out.1.below hb1) (And.intro (HB.out.2.1.below hb1) (HB.out.2.2.trans (hb1.mono HB.out.2.2.size)))); clear hb1)
      go_ret
      exact ⟨rfl, HB.out.2.2⟩


theorem own3 : ownKnob Tryd.prog.godebug = none := by kernel_rfl
theorem contract (H : Type) (enc : TypeId × Value → H) (W : World) (base : Nat) (args : Array Value) (ds gs : List (DataW H)) (before : List MemPlace)
    (hval0 : ∀ (j : Nat) t v, Tryd.f5.params[j]? = some t → args[j]? = some v → Value.okWide Tryd.prog W .any base t v)
    (hW : DataW.Whole enc Tryd.prog Tryd.f5.params.toList Rows.lexLinesSpec.vars false W args.toList ds gs before) (hSh : W.ShapedOpen Tryd.prog) :
    Calls Tryd.prog 5 args W fun e W' => ∃ v, e = .returned v ∧ Rows.lexLinesSpec.post enc Tryd.prog Tryd.f5 false true false false W args v W' := by
  obtain ⟨m0, hm0⟩ := cell_of_shapedOpen_int (P := Tryd.prog) (g := 0) (t := 3) (zero := #[.int .i64 0]) hSh (of_decide_eq_true (by kernel_rfl)) (by kernel_rfl) rfl (by kernel_rfl) (by kernel_rfl) Tryd.underlying3
  have hz0 : 0 < W.heap.size := by
    rcases Nat.lt_or_ge 0 W.heap.size with h | h
    · exact h
    · have : W.heap[0]? = none := Array.getElem?_eq_none (by omega)
      simp [World.cell?, this] at hm0
  have hval : ∀ (j : Nat) t v, Tryd.f5.params[j]? = some t → args[j]? = some v → Value.okWide Tryd.prog W .any base t v := hval0
  have hW' := hW
  obtain ⟨p, q, hA0, hV, rfl, hfz, hnd⟩ := hW
  have hA : DataW.TrodAll enc Tryd.prog W 0 (fun _ => true) true Tryd.f5.params.toList args.toList ds p := hA0
  rw [Tryd.params5] at hA hval
  obtain ⟨v0, vs0, d0, ds0, p0, q0, hargs, rfl, rfl, h0, r0⟩ := trodAll_cons hA
  obtain ⟨rfl, rfl, rfl⟩ := trodAll_nil r0
  obtain rfl : args = #[v0] := by cases args; simp_all
  obtain ⟨rfl, rfl⟩ := trodVars_none hV
  have k0 := h0
  have lt0 : ∀ x ∈ p0, x.block < W.heap.size := by obtain ⟨m, hm⟩ := k0; exact DataW.trod_lt m _ _ _ hm
  obtain ⟨a0, rfl, rfl, rfl, w0⟩ := open_string Tryd.underlying9 (hval 0 9 v0 rfl rfl) h0
  clear hA0 hval0
  refine (walk a0 W m0 hm0 hz0 w0).mono fun e W' ⟨he, bel⟩ => ?_
  subst he
  exact ⟨_, rfl, _, _, _, [], _, [], hW', trodAll_mk1 (shut_bool Tryd.underlying4 _), (trodAll_cons_mk (Below.trod laidOut (by kernel_rfl) (of_decide_eq_true (by kernel_rfl)) k0 bel lt0) trodAll_mk0), rfl, bel.frame _, fun h => by cases h⟩

noncomputable def laidWorld (os : Os) : World :=
  { World.holding Tryd.prog os ⟨#[], #[], []⟩ with heap := (((World.holding Tryd.prog os ⟨#[], #[], []⟩).heap.modify 2 fun
      | .cells _ t frozen => .cells #[.int .u8 128, .int .u8 191, .int .u8 160, .int .u8 191, .int .u8 128, .int .u8 159, .int .u8 144, .int .u8 191, .int .u8 128, .int .u8 143, .int .u8 0, .int .u8 0, .int .u8 0, .int .u8 0, .int .u8 0, .int .u8 0, .int .u8 0, .int .u8 0, .int .u8 0, .int .u8 0, .int .u8 0, .int .u8 0, .int .u8 0, .int .u8 0, .int .u8 0, .int .u8 0, .int .u8 0, .int .u8 0, .int .u8 0, .int .u8 0, .int .u8 0, .int .u8 0] t frozen
      | o => o).modify 1 fun
      | .cells _ t frozen => .cells (Go.Pinned.utf8FirstZ.map fun (x : Nat) => Value.int .u8 (x : Int)).toArray t frozen
      | o => o) }
theorem laid_met (os : Os) : laidMet Tryd.prog Rows.lexLinesRow.laid ((laidWorld os).forCall (fun _ _ => 0) ⟨#[], #[.string ByteArray.empty], []⟩).memory :=
  laidMet_of_run' 8 (by kernel_rfl) (by kernel_rfl)
theorem reads (os : Os) {H : Type} (enc : TypeId × Value → H) : ∃ places, DataW.whole enc Tryd.prog ((laidWorld os).forCall (fun _ _ => 0) ⟨#[], #[.string ByteArray.empty], []⟩).memory Tryd.f5.params.toList Rows.lexLinesSpec.vars false (#[.string ByteArray.empty] : Array Value).toList 8 = some ([.lit (.string [])], [], places) :=
  ⟨[], by kernel_rfl⟩
set_option maxRecDepth 100000 in
theorem lifted (os : Os) (started : os.Started) (H : Type) (enc : TypeId × Value → H) (F : Stop.Interp) :
    ReturnsInHanded {} Tryd.checked os 5 .any ((OpenSpec.ofChange Rows.lexLinesSpec).preRow enc Tryd.prog Tryd.f5 Rows.lexLinesRow.domain false Rows.lexLinesRow.laid) (((OpenSpec.ofChange Rows.lexLinesSpec).at F).post enc Tryd.prog Tryd.f5 false true false false) := by
  obtain ⟨places, hx⟩ := reads os enc
  refine returnsInHanded_of_row (C := Tryd.checked) (s := OpenSpec.ofChange Rows.lexLinesSpec) own3 started (by kernel_rfl) Tryd.func5
    (witness_row_at (enc := enc) (C := Tryd.checked) false (laidWorld os) #[.string ByteArray.empty] rfl (by kernel_rfl) (by kernel_rfl) (by kernel_rfl)
      (OpenSpec.preRow_of_cond 8 hx (by kernel_rfl) (fun k hk => by cases hk) (by kernel_rfl) (laid_met os))) ?_
  intro W base args ds gs before hval hW _ _ _ _ hSh _
  exact contract H enc W base args ds gs before hval hW hSh
theorem said : Rows.LexLinesSaid :=
  OpenClaim.holds_of_cond 5 Tryd.f5 rfl rfl rfl rfl rfl rfl rfl ⟨rfl, rfl, rfl, rfl, rfl⟩ rfl rfl rfl rfl rfl (by kernel_rfl) Tryd.func5 (by kernel_rfl)
    (of_decide_eq_true (by kernel_rfl)) (by unfold Func.isWrapper; first | (rw [if_pos (by decide +kernel)]; kernel_rfl) | (rw [if_neg (by decide +kernel)]; exact ⟨rfl, rfl⟩))
    (fun os started H enc _ F => by rw [OpenClaim.pre_eq_preRow]; exact lifted os started H enc F)
theorem plain (f : FuncId) (fn : Func) (hf : Tryd.pinned.checked.prog.funcNamed "repartee/reparteelaw12.LexLines" = some f) (hfn : Tryd.pinned.checked.prog.funcs[f]? = some fn) :
    false = Tryd.pinned.checked.prog.looks [] ∧ ∀ (j : Nat) t, fn.params[j]? = some t → Tryd.pinned.checked.prog.wantsStandIn t = false := by
  obtain rfl : f = 5 := Option.some.inj ((show Tryd.prog.funcNamed "repartee/reparteelaw12.LexLines" = some 5 by kernel_rfl).symm.trans hf) |>.symm
  obtain rfl : fn = Tryd.f5 := (Option.some.inj (Tryd.func5.symm.trans hfn)).symm
  refine ⟨by kernel_rfl, fun j t ht => ?_⟩
  rw [Tryd.params5] at ht
  have hm : t ∈ [9] := by simpa using Array.mem_of_getElem? ht
  have hall : ([9].all fun u => !Tryd.prog.wantsStandIn u) = true := by kernel_rfl
  exact (show Tryd.prog.wantsStandIn t = false by simpa using List.all_eq_true.1 hall t hm)
/-- The statement. -/
theorem proved : Rows.LexLinesCardSaid :=
  Claim7.holds_tied_plain_at .later [] _ _ _ _ said (fun _ h => by cases h) (by kernel_rfl) (fun _ h => by cases h) lexLines_row_tie rfl ⟨rfl, rfl⟩ (by kernel_rfl) rfl plain (by kernel_rfl)
#print axioms proved
end Go.Proofs.YtopiiehdgknmgaaDoor.lexLines
