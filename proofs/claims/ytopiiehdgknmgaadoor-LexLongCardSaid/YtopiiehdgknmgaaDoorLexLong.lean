/- P12.1: for every number: a line of 1190 to 1209 bytes has words up to 1200 bytes, and none beyond. No condition but what the card ties. -/
import Derived.Test.YtopiiehdgknmgaaDoorOpen
import Derived.Test.YtopiiehdgknmgaaDoorCards
import Derived.Test.YtopiiehdgknmgaaDoorTie
import Derived.WalkKit
import Derived.Deep.DeepHandedRow
import Derived.Shelf.Vars
import Derived.ProofKit
import Derived.OpenShut
import Derived.Test.YtopiiehdgknmgaaDoorLx7
import Derived.Test.YtopiiehdgknmgaaDoorClass
namespace Go.Proofs.YtopiiehdgknmgaaDoor.lexLong
open Go.Joins Go.ChangeShapes Go.WideShapes Go.ChangeAt Go.RowKit Go.Deep
open Go.ChangeMaps (open_string)
set_option linter.unusedSimpArgs false
set_option linter.unusedVariables false

theorem wf8 {n : Int} (h : (Lit.int .u8 n).wf = true) : 0 ≤ n ∧ n < 256 := by
  simp [Lit.wf, IntKind.min, IntKind.max, IntKind.signed, IntKind.bits] at h
  omega
theorem tmodn (b : Nat) (k : Nat) : (b : Int).tmod (k : Int) = ((b % k : Nat) : Int) := by
  rw [Int.tmod_eq_emod_of_nonneg (Int.natCast_nonneg b)]; omega
theorem run_rep (n : Nat) : Lx.run (List.replicate n 97) = n := by
  induction n with
  | zero => rfl
  | succ n ih =>
    unfold Lx.run at ih ⊢
    rw [List.replicate_succ, List.takeWhile_cons_of_pos (by decide), List.length_cons, ih]
theorem read_rep (n : Nat) (hn : 0 < n) : Lx.read (List.replicate n 97) = (List.replicate n 97, false, n, 0) := by
  obtain ⟨m, rfl⟩ : ∃ m, n = m + 1 := ⟨n - 1, by omega⟩
  have hr := run_rep (m + 1)
  rw [List.replicate_succ] at hr ⊢
  unfold Lx.read
  dsimp only
  rw [if_neg (by decide), hr, if_neg (by omega), List.take_of_length_le (by simp)]
theorem wd_rep (n : Nat) (hn : 0 < n) : Lx.wd (List.replicate n 97) ((List.replicate n (97 : UInt8)).length + 1) 0 [] = ([(List.replicate n 97, false, 0)], 0, 0) := by
  rw [Lx.wd, List.drop_zero, read_rep n hn]
  dsimp only
  rw [if_neg (by simp), if_pos (by simp)]
  rfl
theorem long_words (u : ByteArray) (n : Nat) (hn : 0 < n) (h12 : n ≤ 1200) (hu : u.data.toList = List.replicate n 97) (w : World) : Calls Tryd.prog 7 #[.string u] w fun r w' => ∃ g c, r = .returned (.tuple #[.slice (some ⟨g, 0, none⟩) 1 c, .int .i64 0, .int .i64 0]) ∧ w'.cell? ⟨g, 0, none⟩ = some (.string u) ∧ g < w'.heap.size ∧ Below w.heap.size w w' := by
  have hs : u.size = n := by rw [size_of hu]; simp
  refine (lx_words_some u (List.replicate n 97) (by omega) (by omega) hu _ 0 0 (wd_rep n hn) w).mono ?_
  rintro e W1 ⟨a, c, rfl, h1, h2⟩
  obtain ⟨g, rfl, _, hr⟩ := h1.row (by simp)
  refine ⟨g, c, rfl, ?_, hr.lt, h2⟩
  rw [hr.cell (j := 0) (v := .string (mkT (List.replicate n 97))) rfl, ← mkT_eq hu]
set_option maxRecDepth 20000 in
set_option maxHeartbeats 16000000 in

theorem walk (a0 : Int) (w : World) (m0 : Int) (hm0 : w.cell? ⟨0, 0, none⟩ = some (.int .i64 m0)) (hz0 : 0 < w.heap.size) (w0 : (Lit.int .u8 a0).wf = true) :
    Calls Tryd.prog 4 #[.int .u8 a0] w fun e w' => e = .returned (.bool true) ∧ Below w.heap.size w w' := by
  have HM0 : Hid (w.cell? ⟨0, 0, none⟩ = some (.int .i64 m0) ∧ 0 < w.heap.size) := Lib.hid ⟨hm0, hz0⟩
  obtain ⟨y, rfl, hy⟩ : ∃ y : Nat, a0 = (y : Int) ∧ y < 256 := by have := wf8 w0; exact ⟨a0.toNat, by omega, by omega⟩
  obtain ⟨yy, hyy⟩ : ∃ yy, y % 20 = yy := ⟨_, rfl⟩
  have y20 : yy < 20 := by omega
  obtain ⟨N, hN⟩ : ∃ N, 1190 + yy = N := ⟨_, rfl⟩
  have y1 : (y : Int).tmod 20 = (yy : Int) := by rw [← hyy]; exact tmodn y 20
  have y2 : IntKind.u8.wrap (yy : Int) = (yy : Int) := by simp [IntKind.wrap, IntKind.signed, IntKind.bits]; omega
  have y3 : IntKind.i64.wrap (yy : Int) = (yy : Int) := IntWalk.i64_in _ (by omega)
  have y4 : IntKind.i64.wrap (1190 + (yy : Int)) = (N : Int) := by rw [IntWalk.i64_in _ (by omega)]; omega
  have hN1 : N ≤ 1209 := by omega
  have hN0 : 0 < N := by omega
  clear hm0 hz0 w0 hyy y20 hN
  go_enter Tryd.func4, Tryd.ntmps4
  go_upto_region 2 with fail
  have HR : Hid (Rw (w.alloc (.cells #[] 5)) w.heap.size 0 (cu (List.replicate 0 97)) 5 ∧ w.heap.size ≤ w.heap.size ∧ Below w.heap.size w (w.alloc (.cells #[] 5))) := Lib.hid ⟨Rw.empty w 5, Nat.le_refl _, (Below.refl _ _).alloc (Nat.le_refl _) _⟩
  revert HR
  generalize w.alloc (.cells #[] 5) = V1
  intro HR
  go_wp2_with fail
  go_loopw [3, 4] (fun v i wr => ∃ (k g c : Nat), v = .slice (some ⟨g, 0, none⟩) k c ∧ i = .int .i64 k ∧ k ≤ N ∧ Hid (Rw wr g c (cu (List.replicate k 97)) 5 ∧ w.heap.size ≤ g ∧ Below w.heap.size w wr)) (fun _ i _ => N - (intOf i).toNat)
  case atStart => exact ⟨0, w.heap.size, 0, rfl, rfl, by omega, HR⟩
  case round =>
    clear HR
    obtain ⟨k, g, c, rfl, rfl, hk, HK⟩ := hrel
    have k0 : (0 : Int) ≤ (k : Int) := by omega
    by_cases hkN : k < N
    · have kI : (k : Int) < (N : Int) := by omega
      have w1 : IntKind.i64.wrap ((k : Int) + 1) = (k : Int) + 1 := IntWalk.i64_in _ (by omega)
      go_wp2_with (at_builtin; refine wpList_append_rw _ rfl (.tmp 17) (.tmp 18) 38 38 rfl 5 (.int .u8 0) 1 Tryd.underlying38 info5 rfl g k c (cu (List.replicate k 97)) rfl (by rw [cu_length, List.length_replicate]) (HK.out.1.chg ((Chg.refl [] _).alloc _) (by simp)) _ rfl 1 _ (Src.ofSlice _ Tryd.underlying38 ⟨_, 0, none⟩ 1 1 [.int .u8 97] rfl (one_new _ _ _) (one_u8 _)) (by omega) (by omega) ?_; intro g4 c4 w4 r1 r2 r3; have HK4 : Hid (Rw w4 g4 c4 (cu (List.replicate (k + 1) 97)) 5 ∧ w.heap.size ≤ g4 ∧ Below w.heap.size w w4) := Lib.hid (by
            have hs := HK.out.2.2.size
            have hg := HK.out.2.1
            simp only [World.size_alloc] at r2
            exact ⟨by rw [List.replicate_succ', cu_append]; exact r1, by omega, r3.onto (HK.out.2.2.alloc hs _) (by simp; omega) (by simp; omega)⟩); clear r1 r2 r3)
      refine ⟨?_, ?measure⟩
      case measure => simp [intOf]; omega
      first
        | exact ⟨k + 1, g4, c4, by go_num, by go_num, by omega, HK4⟩
        | ((repeat apply Exists.intro); exact ⟨⟨k + 1, g4, c4, by go_num, by go_num, by omega, HK4⟩, rfl⟩)
    · obtain rfl : k = N := by omega
      have kI : ¬ (k : Int) < (k : Int) := by omega
      obtain ⟨u, hu⟩ := text_mk (List.replicate k 97)
      have hus : u.size = k := by rw [size_of hu]; simp
      have HU := Lib.hid (And.intro hu hus)
      have HK2 : Hid (Rw wr g c (cu u.data.toList) 5 ∧ Below w.heap.size w wr) := Lib.hid ⟨by rw [hu]; exact HK.out.1, HK.out.2.2⟩
      have hcv := conv_rw wr g k c u HK2.out.1 hus
      clear HK hu hus
      by_cases h12 : 1200 < k
      · have i1 : (1200 : Int) < (k : Int) := by omega
        go_wp2_with (first
          | (go_at_call 7; with_reducible refine (lx_words_long u (by rw [HU.out.2]; exact h12) _).mono ?_; rintro e W1 ⟨rfl, hb1⟩; have HB := Lib.hid (HK2.out.2.trans (hb1.mono HK2.out.2.size)); clear hb1)
          | (go_at_call 12; with_reducible refine (lx_lives m0 _ ((HB.out.cell (p := ⟨0, 0, none⟩) HM0.out.2).trans HM0.out.1) (Nat.lt_of_lt_of_le HM0.out.2 HB.out.size)).mono ?_; rintro e W1 ⟨rfl, hb1⟩; replace HB := Lib.hid (HB.out.trans (hb1.mono HB.out.size)); clear hb1))
        go_ret
        exact ⟨rfl, HB.out⟩
      · have i1 : ¬ (1200 : Int) < (k : Int) := by omega
        go_upto_region 9 with (go_at_call 7; with_reducible refine (long_words u k hN0 (by omega) HU.out.1 _).mono ?_; rintro e W1 ⟨g2, c2, rfl, h1, h2, hb1⟩; have HB : Hid (W1.cell? ⟨g2, 0, none⟩ = some (.string u) ∧ g2 < W1.heap.size ∧ Rw W1 g c (cu u.data.toList) 5 ∧ Below w.heap.size w W1) := Lib.hid ⟨h1, h2, HK2.out.1.fresh hb1, HK2.out.2.trans (hb1.mono HK2.out.2.size)⟩; clear hb1 h1 h2)
        clear hcv
        refine wp_region_class (fun w' => w'.cell? ⟨g2, 0, none⟩ = some (.string u) ∧ g2 < w'.heap.size ∧ Rw w' g c (cu u.data.toList) 5 ∧ Below w.heap.size w w') (by kernel_rfl) (by kernel_rfl) ⟨HB.out.1, HB.out.2.1, HB.out.2.2.1.chg (Chg.refl [] _).drew (by simp), HB.out.2.2.2.drew⟩ ?_
        repeat (first
            | go_big_quiet_skip
            | (go_big_quiet_want
               unfold Oper.quiet
               apply Exists.intro
               refine ⟨fun wq hwq => ?_, ?_⟩
               · (obtain ⟨hq1, hq2, hq3, hq4⟩ := hwq
                  have hcv := conv_rw wq g k c u hq3 HU.out.2
                  unfold Oper.quietAt
                  go_simp
                  first
                    | exact ⟨rfl, hq1, hq2, hq3, hq4⟩
                    | exact rfl
                    | (go_at_call 12; refine (lx_lives m0 _ ((hq4.cell (p := ⟨0, 0, none⟩) HM0.out.2).trans HM0.out.1) (Nat.lt_of_lt_of_le HM0.out.2 hq4.size)).mono ?_; rintro e w3 ⟨he, hb⟩; exact ⟨he, (hb.cell (p := ⟨g2, 0, none⟩) hq2).trans hq1, Nat.lt_of_lt_of_le hq2 hb.size, hq3.fresh hb, hq4.trans (hb.mono hq4.size)⟩))
               simp only [Act.put, List.setIfInBounds_toArray, List.set_cons_zero, List.set_cons_succ]
               go_big_quiet_on))
        refine wpQuiet_nil ?_
        intro w4 hw4
        have HB4 := Lib.hid hw4.2.2.2
        clear hw4
        go_wp2
        go_ret
        exact ⟨rfl, HB4.out⟩


theorem own3 : ownKnob Tryd.prog.godebug = none := by kernel_rfl
theorem contract (H : Type) (enc : TypeId × Value → H) (W : World) (base : Nat) (args : Array Value) (ds gs : List (DataW H)) (before : List MemPlace)
    (hval0 : ∀ (j : Nat) t v, Tryd.f4.params[j]? = some t → args[j]? = some v → Value.okWide Tryd.prog W .any base t v)
    (hW : DataW.Whole enc Tryd.prog Tryd.f4.params.toList Rows.lexLongSpec.vars false W args.toList ds gs before) (hSh : W.ShapedOpen Tryd.prog) :
    Calls Tryd.prog 4 args W fun e W' => ∃ v, e = .returned v ∧ Rows.lexLongSpec.post enc Tryd.prog Tryd.f4 false true false false W args v W' := by
  obtain ⟨m0, hm0⟩ := cell_of_shapedOpen_int (P := Tryd.prog) (g := 0) (t := 3) (zero := #[.int .i64 0]) hSh (of_decide_eq_true (by kernel_rfl)) (by kernel_rfl) rfl (by kernel_rfl) (by kernel_rfl) Tryd.underlying3
  have hz0 : 0 < W.heap.size := by
    rcases Nat.lt_or_ge 0 W.heap.size with h | h
    · exact h
    · have : W.heap[0]? = none := Array.getElem?_eq_none (by omega)
      simp [World.cell?, this] at hm0
  have hval : ∀ (j : Nat) t v, Tryd.f4.params[j]? = some t → args[j]? = some v → Value.okWide Tryd.prog W .any base t v := hval0
  have hW' := hW
  obtain ⟨p, q, hA0, hV, rfl, hfz, hnd⟩ := hW
  have hA : DataW.TrodAll enc Tryd.prog W 0 (fun _ => true) true Tryd.f4.params.toList args.toList ds p := hA0
  rw [Tryd.params4] at hA hval
  obtain ⟨v0, vs0, d0, ds0, p0, q0, hargs, rfl, rfl, h0, r0⟩ := trodAll_cons hA
  obtain ⟨rfl, rfl, rfl⟩ := trodAll_nil r0
  obtain rfl : args = #[v0] := by cases args; simp_all
  obtain ⟨rfl, rfl⟩ := trodVars_none hV
  have k0 := h0
  have lt0 : ∀ x ∈ p0, x.block < W.heap.size := by obtain ⟨m, hm⟩ := k0; exact DataW.trod_lt m _ _ _ hm
  obtain ⟨a0, rfl, rfl, rfl, w0⟩ := open_int Tryd.underlying5 (hval 0 5 v0 rfl rfl) h0
  clear hA0 hval0
  refine (walk a0 W m0 hm0 hz0 w0).mono fun e W' ⟨he, bel⟩ => ?_
  subst he
  exact ⟨_, rfl, _, _, _, [], _, [], hW', trodAll_mk1 (shut_bool Tryd.underlying4 _), (trodAll_cons_mk (Below.trod laidOut (by kernel_rfl) (of_decide_eq_true (by kernel_rfl)) k0 bel lt0) trodAll_mk0), rfl, bel.frame _, fun h => by cases h⟩

noncomputable def laidWorld (os : Os) : World :=
  { World.holding Tryd.prog os ⟨#[], #[], []⟩ with heap := (((World.holding Tryd.prog os ⟨#[], #[], []⟩).heap.modify 2 fun
      | .cells _ t frozen => .cells #[.int .u8 128, .int .u8 191, .int .u8 160, .int .u8 191, .int .u8 128, .int .u8 159, .int .u8 144, .int .u8 191, .int .u8 128, .int .u8 143, .int .u8 0, .int .u8 0, .int .u8 0, .int .u8 0, .int .u8 0, .int .u8 0, .int .u8 0, .int .u8 0, .int .u8 0, .int .u8 0, .int .u8 0, .int .u8 0, .int .u8 0, .int .u8 0, .int .u8 0, .int .u8 0, .int .u8 0, .int .u8 0, .int .u8 0, .int .u8 0, .int .u8 0, .int .u8 0] t frozen
      | o => o).modify 1 fun
      | .cells _ t frozen => .cells (Go.Pinned.utf8FirstZ.map fun (x : Nat) => Value.int .u8 (x : Int)).toArray t frozen
      | o => o) }
theorem laid_met (os : Os) : laidMet Tryd.prog Rows.lexLongRow.laid ((laidWorld os).forCall (fun _ _ => 0) ⟨#[], #[.int .u8 0], []⟩).memory :=
  laidMet_of_run' 8 (by kernel_rfl) (by kernel_rfl)
theorem reads (os : Os) {H : Type} (enc : TypeId × Value → H) : ∃ places, DataW.whole enc Tryd.prog ((laidWorld os).forCall (fun _ _ => 0) ⟨#[], #[.int .u8 0], []⟩).memory Tryd.f4.params.toList Rows.lexLongSpec.vars false (#[.int .u8 0] : Array Value).toList 8 = some ([.lit (.int .u8 0)], [], places) :=
  ⟨[], by kernel_rfl⟩
set_option maxRecDepth 100000 in
theorem lifted (os : Os) (started : os.Started) (H : Type) (enc : TypeId × Value → H) (F : Stop.Interp) :
    ReturnsInHanded {} Tryd.checked os 4 .any ((OpenSpec.ofChange Rows.lexLongSpec).preRow enc Tryd.prog Tryd.f4 Rows.lexLongRow.domain false Rows.lexLongRow.laid) (((OpenSpec.ofChange Rows.lexLongSpec).at F).post enc Tryd.prog Tryd.f4 false true false false) := by
  obtain ⟨places, hx⟩ := reads os enc
  refine returnsInHanded_of_row (C := Tryd.checked) (s := OpenSpec.ofChange Rows.lexLongSpec) own3 started (by kernel_rfl) Tryd.func4
    (witness_row_at (enc := enc) (C := Tryd.checked) false (laidWorld os) #[.int .u8 0] rfl (by kernel_rfl) (by kernel_rfl) (by kernel_rfl)
      (OpenSpec.preRow_of_cond 8 hx (by kernel_rfl) (fun k hk => by cases hk) (by kernel_rfl) (laid_met os))) ?_
  intro W base args ds gs before hval hW _ _ _ _ hSh _
  exact contract H enc W base args ds gs before hval hW hSh
theorem said : Rows.LexLongSaid :=
  OpenClaim.holds_of_cond 4 Tryd.f4 rfl rfl rfl rfl rfl rfl rfl ⟨rfl, rfl, rfl, rfl, rfl⟩ rfl rfl rfl rfl rfl (by kernel_rfl) Tryd.func4 (by kernel_rfl)
    (of_decide_eq_true (by kernel_rfl)) (by unfold Func.isWrapper; first | (rw [if_pos (by decide +kernel)]; kernel_rfl) | (rw [if_neg (by decide +kernel)]; exact ⟨rfl, rfl⟩))
    (fun os started H enc _ F => by rw [OpenClaim.pre_eq_preRow]; exact lifted os started H enc F)
theorem plain (f : FuncId) (fn : Func) (hf : Tryd.pinned.checked.prog.funcNamed "repartee/reparteelaw12.LexLong" = some f) (hfn : Tryd.pinned.checked.prog.funcs[f]? = some fn) :
    false = Tryd.pinned.checked.prog.looks [] ∧ ∀ (j : Nat) t, fn.params[j]? = some t → Tryd.pinned.checked.prog.wantsStandIn t = false := by
  obtain rfl : f = 4 := Option.some.inj ((show Tryd.prog.funcNamed "repartee/reparteelaw12.LexLong" = some 4 by kernel_rfl).symm.trans hf) |>.symm
  obtain rfl : fn = Tryd.f4 := (Option.some.inj (Tryd.func4.symm.trans hfn)).symm
  refine ⟨by kernel_rfl, fun j t ht => ?_⟩
  rw [Tryd.params4] at ht
  have hm : t ∈ [5] := by simpa using Array.mem_of_getElem? ht
  have hall : ([5].all fun u => !Tryd.prog.wantsStandIn u) = true := by kernel_rfl
  exact (show Tryd.prog.wantsStandIn t = false by simpa using List.all_eq_true.1 hall t hm)
/-- The statement. -/
theorem proved : Rows.LexLongCardSaid :=
  Claim7.holds_tied_plain_at .later [] _ _ _ _ said (fun _ h => by cases h) (by kernel_rfl) (fun _ h => by cases h) lexLong_row_tie rfl ⟨rfl, rfl⟩ (by kernel_rfl) rfl plain (by kernel_rfl)
#print axioms proved
end Go.Proofs.YtopiiehdgknmgaaDoor.lexLong
