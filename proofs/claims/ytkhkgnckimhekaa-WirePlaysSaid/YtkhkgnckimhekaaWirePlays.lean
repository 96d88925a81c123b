/- P25.1, P25.2: for every calls: what a wire tells of them, and all that it tells behind each, is as the page says. No condition. -/
import Derived.Test.YtkhkgnckimhekaaOpen
import Derived.Test.YtkhkgnckimhekaaMix
import Derived.WalkKit
import Derived.ProofKit
import Derived.OpenShut
import Derived.Test.YtkhkgnckimhekaaWireRef
import Derived.Test.YtkhkgnckimhekaaMix
import Derived.Deep.CutRange
import Derived.Deep.LoopGhost
namespace Go.Proofs.Ytkhkgnckimhekaa.wirePlays
open Go.Joins Go.ChangeShapes Go.WideShapes Go.ChangeAt Go.RowKit Go.Deep
open Go.ChangeMaps (open_string)
set_option linter.unusedSimpArgs false
set_option linter.unusedVariables false

theorem cut_at (s : ByteArray) (hs : s.size ≤ 9223372036854775807) (w : World) :
    Calls Try.prog 8 #[.string s, .int .i64 12] w fun e w' => ∃ T : ByteArray, T.size ≤ 12 ∧ e = .returned (.string T) ∧ w = w' := by
  by_cases h : 12 < s.size
  · go_enter Try.func8, Try.ntmps8
    go_wp2
    go_ret
    exact ⟨s.extract 0 12, by rw [ByteArray.size_extract]; omega, rfl, rfl⟩
  · go_enter Try.func8, Try.ntmps8
    go_wp2
    go_ret
    exact ⟨s, by omega, rfl, rfl⟩
/-- What holds all the time: the wire, the document's own answer, and that nothing elder has changed. -/
def Inv (w0 w : World) (N : Nat) (S : ByteArray) (se re : Nat) (en : Bool) (x : List Value) : Prop :=
  (∃ v, WAt w N v en se re ∧ HV w (N + 2) v S) ∧ Blk w (N + 1) x 26 ∧ Below N w0 w ∧ N + 2 ≤ w.heap.size
theorem Inv.fresh {w0 w w' : World} {N : Nat} {S : ByteArray} {se re : Nat} {en : Bool} {x : List Value} (h : Inv w0 w N S se re en x) (k : Below w.heap.size w w') : Inv w0 w' N S se re en x := by
  obtain ⟨⟨v, k1, k2⟩, k3, k4, k5⟩ := h
  exact ⟨⟨v, k1.below k, k2.below k⟩, k3.below k k3.lt, k4.trans (k.mono (by omega)), Nat.le_trans k5 k.size⟩
theorem Inv.setX {w0 w : World} {N : Nat} {S : ByteArray} {se re : Nat} {en : Bool} {x : List Value} (h : Inv w0 w N S se re en x) (hx : x.length = 4) (a b c d : Value) :
    Inv w0 ((((w.setCell ⟨N + 1, 0, none⟩ a).setCell ⟨N + 1, 1, none⟩ b).setCell ⟨N + 1, 2, none⟩ c).setCell ⟨N + 1, 3, none⟩ d) N S se re en [a, b, c, d] := by
  obtain ⟨⟨v, k1, k2⟩, k3, k4, k5⟩ := h
  match x, hx with
  | [x0, x1, x2, x3], _ =>
    refine ⟨⟨v, k1.of_block ?_, (((k2.set (by omega) 0 a).set (by omega) 1 b).set (by omega) 2 c).set (by omega) 3 d⟩, (((k3.set 0 a).set 1 b).set 2 c).set 3 d, (((k4.setCell (p := ⟨N + 1, 0, none⟩) (by simp) a).setCell (p := ⟨N + 1, 1, none⟩) (by simp) b).setCell (p := ⟨N + 1, 2, none⟩) (by simp) c).setCell (p := ⟨N + 1, 3, none⟩) (by simp) d, by simpa using k5⟩
    rw [Below.heap_setCell _ _ _ _ (by simp), Below.heap_setCell _ _ _ _ (by simp), Below.heap_setCell _ _ _ _ (by simp), Below.heap_setCell _ _ _ _ (by simp)]
theorem Inv.only {w0 w w' : World} {N : Nat} {S S' : ByteArray} {se re se' re' : Nat} {en en' : Bool} {x : List Value} {v' : Value} (h : Inv w0 w N S se re en x) (k : Only N (N + 2) w w') (hw : WAt w' N v' en' se' re') (hv : HV w' (N + 2) v' S') : Inv w0 w' N S' se' re' en' x := by
  obtain ⟨_, k3, k4, k5⟩ := h
  refine ⟨⟨v', hw, hv⟩, ?_, k4.trans (k.below (by omega)), Nat.le_trans k5 k.size⟩
  unfold Blk at *
  rw [k.block (N + 1) (by omega) (by omega)]; exact k3
set_option maxRecDepth 20000 in
set_option maxHeartbeats 4000000 in

theorem walk (a0 : Option Addr) (len0 cap0 : Nat) (a1 : Int) (w : World) (w0 : IsMix Try.prog [3, 9, 3] w a0 len0 cap0) (w1 : (Lit.int .i64 a1).wf = true) :
    Calls Try.prog 3 #[.slice a0 len0 cap0, .int .i64 a1] w fun e w' => e = .returned (.bool true) ∧ Below w.heap.size w w' := by
  obtain ⟨hlc, hcm, hnil, hcell⟩ := w0
  unfold maxLen at hcm
  have HCELL := Lib.hid hcell
  clear hcell hnil
  go_enter Try.func3, Try.ntmps3
  go_wp2_with (go_at_call 7; go_in)
  have HI0 : Hid (Inv w ((w.alloc (Obj.cells #[.slice none 0 0, .bool false, .int .i64 0, .int .i64 0] 47)).alloc (Obj.cells #[.string ⟨#[]⟩, .int .i64 0, .int .i64 0, .bool false] 26)) w.heap.size ⟨#[]⟩ 0 0 false [.string ⟨#[]⟩, .int .i64 0, .int .i64 0, .bool false]) := by
    refine ⟨⟨.slice none 0 0, ⟨by simp [go_sem], by simp [go_sem], by simp [go_sem], by simp [go_sem], by simp [go_sem], by simp [go_sem], by simp [go_sem], by simp [go_sem]⟩, Or.inl ⟨rfl, rfl⟩⟩, ?_, ((Below.refl _ _).alloc (Nat.le_refl _) _).alloc (by simp) _, by simp⟩
    have := Blk.newA (w.alloc (Obj.cells #[.slice none 0 0, .bool false, .int .i64 0, .int .i64 0] 47)) #[.string ⟨#[]⟩, .int .i64 0, .int .i64 0, .bool false] 26
    simpa using this
  revert HI0
  generalize ((w.alloc (Obj.cells #[.slice none 0 0, .bool false, .int .i64 0, .int .i64 0] 47)).alloc (Obj.cells #[.string ⟨#[]⟩, .int .i64 0, .int .i64 0, .bool false] 26)) = W0
  intro HI0
  go_loopw [7] (fun i wr => ∃ (k : Nat) (S : ByteArray) (se re : Nat) (en : Bool), k ≤ 20 ∧ k ≤ len0 ∧ i = .int .i64 k ∧ S.size ≤ 12 * k ∧ se ≤ 12 * k ∧ re + S.size ≤ 12 * k ∧ Hid (Inv w wr w.heap.size S se re en [.string S, .int .i64 se, .int .i64 re, .bool en])) (fun i _ => 20 - (intOf i).toNat)
  case atStart => exact ⟨0, ⟨#[]⟩, 0, 0, false, by omega, by omega, rfl, Nat.le_refl _, Nat.le_refl _, Nat.le_refl _, HI0⟩
  case round =>
    clear HI0
    obtain ⟨k, S, se, re, en, hk20, hkl, rfl, bS, bse, bre, HI⟩ := hrel
    by_cases hlt : k < len0
    · by_cases h20 : k < 20
      · obtain ⟨bb, off, hab, hbl, hcl⟩ := HCELL.out (by omega)
        subst hab
        obtain ⟨v0, e0, i0⟩ := hcl k hlt 0 _ rfl
        obtain ⟨kd, rfl, wkd⟩ := isK_int Try.underlying3 i0
        obtain ⟨v1, e1, i1⟩ := hcl k hlt 1 _ rfl
        obtain ⟨s0, rfl, ws0⟩ := isK_string Try.underlying9 i1
        obtain ⟨v2, e2, i2⟩ := hcl k hlt 2 _ rfl
        obtain ⟨m0, rfl, wm0⟩ := isK_int Try.underlying3 i2
        have y0 : wr.cell? ⟨bb, off + k * 3, none⟩ = some (.int .i64 kd) := by rw [HI.out.2.2.1.cell (by simpa using hbl)]; exact e0
        have y1 : wr.cell? ⟨bb, off + k * 3 + 1, none⟩ = some (.string s0) := by rw [HI.out.2.2.1.cell (by simpa using hbl)]; exact e1
        have y2 : wr.cell? ⟨bb, off + k * 3 + 1 + 1, none⟩ = some (.int .i64 m0) := by rw [HI.out.2.2.1.cell (by simpa using hbl)]; exact e2
        have hsl : s0.size ≤ 9223372036854775807 := by unfold maxLen at ws0; omega
        have hlts : w.heap.size + 1 < wr.heap.size := HI.out.2.2.2
        have z0 := HI.out.2.1.cell (i := 0) rfl
        have z1 := HI.out.2.1.cell (i := 1) rfl
        have z2 := HI.out.2.1.cell (i := 2) rfl
        have z3 := HI.out.2.1.cell (i := 3) rfl
        clear hcl e0 e1 e2 i0 i1 i2 ws0
        go_wp2_with fail
        refine (cut_at _ hsl _).mono ?_
        rintro e w' ⟨T, zT, rfl, rfl⟩
        cases en
        · skip
          by_cases k0 : kd = 0
          · subst k0
            go_wp2_with fail
            have H0 : Hid (Inv w (wr.alloc (Obj.cells #[Value.int .i64 0, Value.string T, Value.int .i64 m0] 28)) w.heap.size S se re false [.string S, .int .i64 se, .int .i64 re, .bool false] ∧ Blk (wr.alloc (Obj.cells #[Value.int .i64 0, Value.string T, Value.int .i64 m0] 28)) wr.heap.size [Value.int .i64 0, Value.string T, Value.int .i64 m0] 28) := ⟨Inv.fresh HI.out ((Below.refl _ _).alloc (Nat.le_refl _) _), Blk.newA wr _ _⟩
            clear y0 y1 y2 HI z0 z1 z2 z3
            revert H0
            generalize (wr.alloc (Obj.cells #[Value.int .i64 0, Value.string T, Value.int .i64 m0] 28)) = u0
            intro H0
            obtain ⟨S2, hS2⟩ : ∃ S2, S ++ T = S2 := ⟨_, rfl⟩
            have zS2 : S2.size = S.size + T.size := by rw [← hS2, ByteArray.size_append]
            obtain ⟨se2, hse2⟩ : ∃ se2, se + T.size = se2 := ⟨_, rfl⟩
            refine (ref_offer S T se re false _ (by omega) (by omega) (by omega)).mono ?_
            rintro e u1 ⟨rfl, b1⟩
            rw [hS2, hse2]
            have H1 := Lib.hid (Inv.fresh H0.out.1 b1)
            have A1 := Lib.hid (H0.out.2.below b1 H0.out.2.lt)
            clear b1 H0
            have x0 := H1.out.2.1.cell (i := 0) rfl
            have x1 := H1.out.2.1.cell (i := 1) rfl
            have x2 := H1.out.2.1.cell (i := 2) rfl
            have x3 := H1.out.2.1.cell (i := 3) rfl
            have f0 := H1.out.2.1.free 0
            have f1 := H1.out.2.1.free 1
            have f2 := H1.out.2.1.free 2
            have f3 := H1.out.2.1.free 3
            have y0 := A1.out.cell (i := 0) rfl
            have y1 := A1.out.cell (i := 1) rfl
            go_wp2_with fail
            have H2 := Lib.hid (Inv.setX H1.out rfl (.string S2) (.int .i64 se2) (.int .i64 re) (.bool false))
            clear x0 x1 x2 x3 f0 f1 f2 f3 H1 y0 y1
            revert H2
            generalize ((((u1.setCell ⟨w.heap.size + 1, 0, none⟩ (.string S2)).setCell ⟨w.heap.size + 1, 1, none⟩ (.int .i64 se2)).setCell ⟨w.heap.size + 1, 2, none⟩ (.int .i64 re)).setCell ⟨w.heap.size + 1, 3, none⟩ (.bool false)) = u2
            intro H2
            obtain ⟨⟨v7, hw7, hv7⟩, _, _, hs7⟩ := H2.out
            refine (offer_at2 w.heap.size (w.heap.size + 2) v7 S T se re false _ (by omega) (by omega) (by omega) (by omega) hs7 hw7 hv7).mono ?_
            rintro e u3 ⟨v8, rfl, hw8, hv8, ho8⟩
            rw [hS2] at hv8
            rw [hse2] at hw8
            have HQ := Lib.hid (Inv.only H2.out ho8 hw8 hv8)
            clear ho8 hw8 hv8 H2 hw7 hv7
            obtain ⟨⟨v9, hw9, hv9⟩, hx9, _, _⟩ := HQ.out
            have x0 := hx9.cell (i := 0) rfl
            have x1 := hx9.cell (i := 1) rfl
            have x2 := hx9.cell (i := 2) rfl
            have x3 := hx9.cell (i := 3) rfl
            clear hx9
            go_wp2_with fail
            refine (told_any w.heap.size (w.heap.size + 2) v9 S2 false se2 re a1 _ (by omega) hw9 hv9).mono ?_
            rintro e u9 ⟨rfl, b9⟩
            have H9 := Lib.hid (Inv.fresh HQ.out b9)
            clear b9 HQ x0 x1 x2 x3 hw9 hv9
            go_wp2
            refine ⟨?_, ?measure⟩
            case measure => simp [intOf]; omega
            first
              | exact ⟨k + 1, S2, se2, re, false, by omega, by omega, by go_num, by omega, by omega, by omega, H9⟩
              | ((repeat apply Exists.intro); exact ⟨⟨k + 1, S2, se2, re, false, by omega, by omega, by go_num, by omega, by omega, by omega, H9⟩, rfl⟩)
          · by_cases k1 : kd = 1
            · subst k1
              go_wp2_with fail
              have H0 : Hid (Inv w (wr.alloc (Obj.cells #[Value.int .i64 1, Value.string T, Value.int .i64 m0] 28)) w.heap.size S se re false [.string S, .int .i64 se, .int .i64 re, .bool false] ∧ Blk (wr.alloc (Obj.cells #[Value.int .i64 1, Value.string T, Value.int .i64 m0] 28)) wr.heap.size [Value.int .i64 1, Value.string T, Value.int .i64 m0] 28) := ⟨Inv.fresh HI.out ((Below.refl _ _).alloc (Nat.le_refl _) _), Blk.newA wr _ _⟩
              clear y0 y1 y2 HI z0 z1 z2 z3
              revert H0
              generalize (wr.alloc (Obj.cells #[Value.int .i64 1, Value.string T, Value.int .i64 m0] 28)) = u0
              intro H0
              obtain ⟨S2, hS2⟩ : ∃ S2, S ++ T = S2 := ⟨_, rfl⟩
              have zS2 : S2.size = S.size + T.size := by rw [← hS2, ByteArray.size_append]
              obtain ⟨se2, hse2⟩ : ∃ se2, se + T.size = se2 := ⟨_, rfl⟩
              refine (ref_offer S T se re true _ (by omega) (by omega) (by omega)).mono ?_
              rintro e u1 ⟨rfl, b1⟩
              rw [hS2, hse2]
              have H1 := Lib.hid (Inv.fresh H0.out.1 b1)
              have A1 := Lib.hid (H0.out.2.below b1 H0.out.2.lt)
              clear b1 H0
              have x0 := H1.out.2.1.cell (i := 0) rfl
              have x1 := H1.out.2.1.cell (i := 1) rfl
              have x2 := H1.out.2.1.cell (i := 2) rfl
              have x3 := H1.out.2.1.cell (i := 3) rfl
              have f0 := H1.out.2.1.free 0
              have f1 := H1.out.2.1.free 1
              have f2 := H1.out.2.1.free 2
              have f3 := H1.out.2.1.free 3
              have y0 := A1.out.cell (i := 0) rfl
              have y1 := A1.out.cell (i := 1) rfl
              go_wp2_with fail
              have H2 := Lib.hid (Inv.setX H1.out rfl (.string S2) (.int .i64 se2) (.int .i64 re) (.bool true))
              clear x0 x1 x2 x3 f0 f1 f2 f3 H1 y0 y1
              revert H2
              generalize ((((u1.setCell ⟨w.heap.size + 1, 0, none⟩ (.string S2)).setCell ⟨w.heap.size + 1, 1, none⟩ (.int .i64 se2)).setCell ⟨w.heap.size + 1, 2, none⟩ (.int .i64 re)).setCell ⟨w.heap.size + 1, 3, none⟩ (.bool true)) = u2
              intro H2
              obtain ⟨⟨v7, hw7, hv7⟩, _, _, hs7⟩ := H2.out
              refine (offer_at2 w.heap.size (w.heap.size + 2) v7 S T se re true _ (by omega) (by omega) (by omega) (by omega) hs7 hw7 hv7).mono ?_
              rintro e u3 ⟨v8, rfl, hw8, hv8, ho8⟩
              rw [hS2] at hv8
              rw [hse2] at hw8
              have HQ := Lib.hid (Inv.only H2.out ho8 hw8 hv8)
              clear ho8 hw8 hv8 H2 hw7 hv7
              obtain ⟨⟨v9, hw9, hv9⟩, hx9, _, _⟩ := HQ.out
              have x0 := hx9.cell (i := 0) rfl
              have x1 := hx9.cell (i := 1) rfl
              have x2 := hx9.cell (i := 2) rfl
              have x3 := hx9.cell (i := 3) rfl
              clear hx9
              go_wp2_with fail
              refine (told_any w.heap.size (w.heap.size + 2) v9 S2 true se2 re a1 _ (by omega) hw9 hv9).mono ?_
              rintro e u9 ⟨rfl, b9⟩
              have H9 := Lib.hid (Inv.fresh HQ.out b9)
              clear b9 HQ x0 x1 x2 x3 hw9 hv9
              go_wp2
              refine ⟨?_, ?measure⟩
              case measure => simp [intOf]; omega
              first
                | exact ⟨k + 1, S2, se2, re, true, by omega, by omega, by go_num, by omega, by omega, by omega, H9⟩
                | ((repeat apply Exists.intro); exact ⟨⟨k + 1, S2, se2, re, true, by omega, by omega, by go_num, by omega, by omega, by omega, H9⟩, rfl⟩)
            · by_cases k2 : kd = 2
              · subst k2
                obtain ⟨m, hm⟩ : ∃ m, K3 m0 S.size m := K3_ex _ _
                have hmS := hm.le
                have HM := Lib.hid hm
                clear hm
                obtain ⟨S2, hS2⟩ : ∃ S2, S.extract m S.size = S2 := ⟨_, rfl⟩
                have zS2 : S2.size ≤ S.size := by rw [← hS2, ByteArray.size_extract]; omega
                obtain ⟨D, hD⟩ : ∃ D, S.extract 0 m = D := ⟨_, rfl⟩
                obtain ⟨re2, hre2⟩ : ∃ re2, re + m = re2 := ⟨_, rfl⟩
                have zz : S2.size + m ≤ S.size := by rw [← hS2, ByteArray.size_extract]; omega
                go_wp2_with fail
                have H0 : Hid (Inv w (wr.alloc (Obj.cells #[Value.int .i64 2, Value.string T, Value.int .i64 m0] 28)) w.heap.size S se re false [.string S, .int .i64 se, .int .i64 re, .bool false] ∧ Blk (wr.alloc (Obj.cells #[Value.int .i64 2, Value.string T, Value.int .i64 m0] 28)) wr.heap.size [Value.int .i64 2, Value.string T, Value.int .i64 m0] 28) := ⟨Inv.fresh HI.out ((Below.refl _ _).alloc (Nat.le_refl _) _), Blk.newA wr _ _⟩
                clear y0 y1 y2 HI z0 z1 z2 z3
                revert H0
                generalize (wr.alloc (Obj.cells #[Value.int .i64 2, Value.string T, Value.int .i64 m0] 28)) = u0
                intro H0
                refine (ref_take S se re false m0 m HM.out _ (by omega) (by omega)).mono ?_
                rintro e u1 ⟨rfl, b1⟩
                rw [hS2, hD, hre2]
                have H1 := Lib.hid (Inv.fresh H0.out.1 b1)
                have A1 := Lib.hid (H0.out.2.below b1 H0.out.2.lt)
                clear b1 H0
                have x0 := H1.out.2.1.cell (i := 0) rfl
                have x1 := H1.out.2.1.cell (i := 1) rfl
                have x2 := H1.out.2.1.cell (i := 2) rfl
                have x3 := H1.out.2.1.cell (i := 3) rfl
                have f0 := H1.out.2.1.free 0
                have f1 := H1.out.2.1.free 1
                have f2 := H1.out.2.1.free 2
                have f3 := H1.out.2.1.free 3
                have y0 := A1.out.cell (i := 2) rfl
                go_wp2_with fail
                have H2 := Lib.hid (Inv.setX H1.out rfl (.string S2) (.int .i64 se) (.int .i64 re2) (.bool false))
                clear x0 x1 x2 x3 f0 f1 f2 f3 H1 y0
                revert H2
                generalize ((((u1.setCell ⟨w.heap.size + 1, 0, none⟩ (.string S2)).setCell ⟨w.heap.size + 1, 1, none⟩ (.int .i64 se)).setCell ⟨w.heap.size + 1, 2, none⟩ (.int .i64 re2)).setCell ⟨w.heap.size + 1, 3, none⟩ (.bool false)) = u2
                intro H2
                obtain ⟨⟨v7, hw7, hv7⟩, _, _, hs7⟩ := H2.out
                refine (take_k3 w.heap.size (w.heap.size + 2) v7 S false se re m0 m _ HM.out (by omega) (by omega) (by omega) hw7 hv7).mono ?_
                rintro e u3 ⟨v8, rfl, hw8, hv8, ho8⟩
                rw [hS2] at hv8
                rw [hre2] at hw8
                rw [hD]
                have HQ := Lib.hid (Inv.only H2.out ho8 hw8 hv8)
                clear ho8 hw8 hv8 H2 hw7 hv7
                obtain ⟨⟨v9, hw9, hv9⟩, hx9, _, _⟩ := HQ.out
                have x0 := hx9.cell (i := 0) rfl
                have x1 := hx9.cell (i := 1) rfl
                have x2 := hx9.cell (i := 2) rfl
                have x3 := hx9.cell (i := 3) rfl
                clear hx9
                go_wp2_with fail
                refine (told_any w.heap.size (w.heap.size + 2) v9 S2 false se re2 a1 _ (by omega) hw9 hv9).mono ?_
                rintro e u9 ⟨rfl, b9⟩
                have H9 := Lib.hid (Inv.fresh HQ.out b9)
                clear b9 HQ x0 x1 x2 x3 hw9 hv9
                go_wp2
                refine ⟨?_, ?measure⟩
                case measure => simp [intOf]; omega
                first
                  | exact ⟨k + 1, S2, se, re2, false, by omega, by omega, by go_num, by omega, by omega, by omega, H9⟩
                  | ((repeat apply Exists.intro); exact ⟨⟨k + 1, S2, se, re2, false, by omega, by omega, by go_num, by omega, by omega, by omega, H9⟩, rfl⟩)
              · by_cases k3 : kd = 3
                · subst k3
                  go_wp2_with fail
                  have H0 : Hid (Inv w (wr.alloc (Obj.cells #[Value.int .i64 3, Value.string T, Value.int .i64 m0] 28)) w.heap.size S se re false [.string S, .int .i64 se, .int .i64 re, .bool false] ∧ Blk (wr.alloc (Obj.cells #[Value.int .i64 3, Value.string T, Value.int .i64 m0] 28)) wr.heap.size [Value.int .i64 3, Value.string T, Value.int .i64 m0] 28) := ⟨Inv.fresh HI.out ((Below.refl _ _).alloc (Nat.le_refl _) _), Blk.newA wr _ _⟩
                  clear y0 y1 y2 HI z0 z1 z2 z3
                  revert H0
                  generalize (wr.alloc (Obj.cells #[Value.int .i64 3, Value.string T, Value.int .i64 m0] 28)) = u0
                  intro H0
                  obtain ⟨⟨v7, hw7, hv7⟩, hx7, _, hs7⟩ := H0.out.1
                  obtain ⟨aa, cc, rfl⟩ := hv7.shape
                  have x0 := hx7.cell (i := 0) rfl
                  clear hx7
                  go_region_held3 (fun w' => w'.cell? ⟨w.heap.size + 1, 0, none⟩ = some (.string S)) (first | go_keep | assumption) (first
                    | (go_at_call 13; refine (drop_any w.heap.size (w.heap.size + 2) aa S.size cc false se re _ (hw7.drewN 1)).mono ?_; rintro e u1 ⟨rfl, hw8, ho8⟩; have H1 := Lib.hid (Inv.only (Inv.fresh H0.out.1 (below_drewN (Below.refl _ _) 1)) ho8 hw8 (S' := ⟨#[]⟩) (Or.inl ⟨rfl, rfl⟩)); have k1 : u1.cell? ⟨w.heap.size + 1, 0, none⟩ = some (.string S) := H1.out.2.1.cell (i := 0) rfl; clear ho8 hw8))
                  clear hw7 hv7 H0 x0
                  have x0 := H1.out.2.1.cell (i := 0) rfl
                  have x1 := H1.out.2.1.cell (i := 1) rfl
                  have x2 := H1.out.2.1.cell (i := 2) rfl
                  have x3 := H1.out.2.1.cell (i := 3) rfl
                  have f0 := H1.out.2.1.free 0
                  have f1 := H1.out.2.1.free 1
                  have f2 := H1.out.2.1.free 2
                  have f3 := H1.out.2.1.free 3
                  go_wp2_with fail
                  refine (ref_drop S se re false _).mono ?_
                  rintro e u4 ⟨rfl, b4⟩
                  have H4 := Lib.hid (Inv.fresh H1.out b4)
                  clear b4 H1 x0 x1 x2 x3 f0 f1 f2 f3 k1
                  have x0 := H4.out.2.1.cell (i := 0) rfl
                  have x1 := H4.out.2.1.cell (i := 1) rfl
                  have x2 := H4.out.2.1.cell (i := 2) rfl
                  have x3 := H4.out.2.1.cell (i := 3) rfl
                  have f0 := H4.out.2.1.free 0
                  have f1 := H4.out.2.1.free 1
                  have f2 := H4.out.2.1.free 2
                  have f3 := H4.out.2.1.free 3
                  go_wp2_with fail
                  have HQ := Lib.hid (Inv.setX H4.out rfl (.string ⟨#[]⟩) (.int .i64 se) (.int .i64 re) (.bool true))
                  clear x0 x1 x2 x3 f0 f1 f2 f3 H4
                  revert HQ
                  generalize ((((u4.setCell ⟨w.heap.size + 1, 0, none⟩ (.string ⟨#[]⟩)).setCell ⟨w.heap.size + 1, 1, none⟩ (.int .i64 se)).setCell ⟨w.heap.size + 1, 2, none⟩ (.int .i64 re)).setCell ⟨w.heap.size + 1, 3, none⟩ (.bool true)) = u5
                  intro HQ
                  have hz0 : (⟨#[]⟩ : ByteArray).size = 0 := rfl
                  obtain ⟨⟨v9, hw9, hv9⟩, hx9, _, _⟩ := HQ.out
                  have x0 := hx9.cell (i := 0) rfl
                  have x1 := hx9.cell (i := 1) rfl
                  have x2 := hx9.cell (i := 2) rfl
                  have x3 := hx9.cell (i := 3) rfl
                  clear hx9
                  refine (told_any w.heap.size (w.heap.size + 2) v9 ⟨#[]⟩ true se re a1 _ (by omega) hw9 hv9).mono ?_
                  rintro e u9 ⟨rfl, b9⟩
                  have H9 := Lib.hid (Inv.fresh HQ.out b9)
                  clear b9 HQ x0 x1 x2 x3 hw9 hv9
                  go_wp2
                  refine ⟨?_, ?measure⟩
                  case measure => simp [intOf]; omega
                  first
                    | exact ⟨k + 1, ⟨#[]⟩, se, re, true, by omega, by omega, by go_num, by omega, by omega, by omega, H9⟩
                    | ((repeat apply Exists.intro); exact ⟨⟨k + 1, ⟨#[]⟩, se, re, true, by omega, by omega, by go_num, by omega, by omega, by omega, H9⟩, rfl⟩)
                · skip
                  have HQ0 := Lib.hid (Inv.fresh HI.out ((Below.refl wr.heap.size wr).alloc (Nat.le_refl _) (Obj.cells #[Value.int .i64 kd, Value.string T, Value.int .i64 m0] 28)))
                  obtain ⟨⟨v9, hw9, hv9⟩, _, _, _⟩ := HQ0.out
                  go_wp2_with fail
                  refine (told_any w.heap.size (w.heap.size + 2) v9 S false se re a1 _ (by omega) hw9 hv9).mono ?_
                  rintro e u9 ⟨rfl, b9⟩
                  have H9 := Lib.hid (Inv.fresh HQ0.out b9)
                  clear b9 HQ0 hw9 hv9 y0 y1 y2 z0 z1 z2 z3 HI
                  go_wp2
                  refine ⟨?_, ?measure⟩
                  case measure => simp [intOf]; omega
                  first
                    | exact ⟨k + 1, S, se, re, false, by omega, by omega, by go_num, by omega, by omega, by omega, H9⟩
                    | ((repeat apply Exists.intro); exact ⟨⟨k + 1, S, se, re, false, by omega, by omega, by go_num, by omega, by omega, by omega, H9⟩, rfl⟩)
        · skip
          by_cases k0 : kd = 0
          · subst k0
            go_wp2_with fail
            have H0 : Hid (Inv w (wr.alloc (Obj.cells #[Value.int .i64 0, Value.string T, Value.int .i64 m0] 28)) w.heap.size S se re true [.string S, .int .i64 se, .int .i64 re, .bool true] ∧ Blk (wr.alloc (Obj.cells #[Value.int .i64 0, Value.string T, Value.int .i64 m0] 28)) wr.heap.size [Value.int .i64 0, Value.string T, Value.int .i64 m0] 28) := ⟨Inv.fresh HI.out ((Below.refl _ _).alloc (Nat.le_refl _) _), Blk.newA wr _ _⟩
            clear y0 y1 y2 HI z0 z1 z2 z3
            revert H0
            generalize (wr.alloc (Obj.cells #[Value.int .i64 0, Value.string T, Value.int .i64 m0] 28)) = u0
            intro H0
            refine (ref_offer_no S T se re false _).mono ?_
            rintro e u1 ⟨rfl, b1⟩
            have H1 := Lib.hid (Inv.fresh H0.out.1 b1)
            have A1 := Lib.hid (H0.out.2.below b1 H0.out.2.lt)
            clear b1 H0
            have x0 := H1.out.2.1.cell (i := 0) rfl
            have x1 := H1.out.2.1.cell (i := 1) rfl
            have x2 := H1.out.2.1.cell (i := 2) rfl
            have x3 := H1.out.2.1.cell (i := 3) rfl
            have f0 := H1.out.2.1.free 0
            have f1 := H1.out.2.1.free 1
            have f2 := H1.out.2.1.free 2
            have f3 := H1.out.2.1.free 3
            have y0 := A1.out.cell (i := 0) rfl
            have y1 := A1.out.cell (i := 1) rfl
            go_wp2_with fail
            have H2 := Lib.hid (Inv.setX H1.out rfl (.string S) (.int .i64 se) (.int .i64 re) (.bool true))
            clear x0 x1 x2 x3 f0 f1 f2 f3 H1 y0 y1
            revert H2
            generalize ((((u1.setCell ⟨w.heap.size + 1, 0, none⟩ (.string S)).setCell ⟨w.heap.size + 1, 1, none⟩ (.int .i64 se)).setCell ⟨w.heap.size + 1, 2, none⟩ (.int .i64 re)).setCell ⟨w.heap.size + 1, 3, none⟩ (.bool true)) = u2
            intro H2
            obtain ⟨⟨v7, hw7, hv7⟩, _, _, hs7⟩ := H2.out
            refine (refused w.heap.size v7 se re T false _ hw7).mono ?_
            rintro e u3 ⟨rfl, rfl⟩
            have HQ := H2
            clear H2 hw7 hv7
            obtain ⟨⟨v9, hw9, hv9⟩, hx9, _, _⟩ := HQ.out
            have x0 := hx9.cell (i := 0) rfl
            have x1 := hx9.cell (i := 1) rfl
            have x2 := hx9.cell (i := 2) rfl
            have x3 := hx9.cell (i := 3) rfl
            clear hx9
            go_wp2_with fail
            refine (told_any w.heap.size (w.heap.size + 2) v9 S true se re a1 _ (by omega) hw9 hv9).mono ?_
            rintro e u9 ⟨rfl, b9⟩
            have H9 := Lib.hid (Inv.fresh HQ.out b9)
            clear b9 HQ x0 x1 x2 x3 hw9 hv9
            go_wp2
            refine ⟨?_, ?measure⟩
            case measure => simp [intOf]; omega
            first
              | exact ⟨k + 1, S, se, re, true, by omega, by omega, by go_num, by omega, by omega, by omega, H9⟩
              | ((repeat apply Exists.intro); exact ⟨⟨k + 1, S, se, re, true, by omega, by omega, by go_num, by omega, by omega, by omega, H9⟩, rfl⟩)
          · by_cases k1 : kd = 1
            · subst k1
              go_wp2_with fail
              have H0 : Hid (Inv w (wr.alloc (Obj.cells #[Value.int .i64 1, Value.string T, Value.int .i64 m0] 28)) w.heap.size S se re true [.string S, .int .i64 se, .int .i64 re, .bool true] ∧ Blk (wr.alloc (Obj.cells #[Value.int .i64 1, Value.string T, Value.int .i64 m0] 28)) wr.heap.size [Value.int .i64 1, Value.string T, Value.int .i64 m0] 28) := ⟨Inv.fresh HI.out ((Below.refl _ _).alloc (Nat.le_refl _) _), Blk.newA wr _ _⟩
              clear y0 y1 y2 HI z0 z1 z2 z3
              revert H0
              generalize (wr.alloc (Obj.cells #[Value.int .i64 1, Value.string T, Value.int .i64 m0] 28)) = u0
              intro H0
              refine (ref_offer_no S T se re true _).mono ?_
              rintro e u1 ⟨rfl, b1⟩
              have H1 := Lib.hid (Inv.fresh H0.out.1 b1)
              have A1 := Lib.hid (H0.out.2.below b1 H0.out.2.lt)
              clear b1 H0
              have x0 := H1.out.2.1.cell (i := 0) rfl
              have x1 := H1.out.2.1.cell (i := 1) rfl
              have x2 := H1.out.2.1.cell (i := 2) rfl
              have x3 := H1.out.2.1.cell (i := 3) rfl
              have f0 := H1.out.2.1.free 0
              have f1 := H1.out.2.1.free 1
              have f2 := H1.out.2.1.free 2
              have f3 := H1.out.2.1.free 3
              have y0 := A1.out.cell (i := 0) rfl
              have y1 := A1.out.cell (i := 1) rfl
              go_wp2_with fail
              have H2 := Lib.hid (Inv.setX H1.out rfl (.string S) (.int .i64 se) (.int .i64 re) (.bool true))
              clear x0 x1 x2 x3 f0 f1 f2 f3 H1 y0 y1
              revert H2
              generalize ((((u1.setCell ⟨w.heap.size + 1, 0, none⟩ (.string S)).setCell ⟨w.heap.size + 1, 1, none⟩ (.int .i64 se)).setCell ⟨w.heap.size + 1, 2, none⟩ (.int .i64 re)).setCell ⟨w.heap.size + 1, 3, none⟩ (.bool true)) = u2
              intro H2
              obtain ⟨⟨v7, hw7, hv7⟩, _, _, hs7⟩ := H2.out
              refine (refused w.heap.size v7 se re T true _ hw7).mono ?_
              rintro e u3 ⟨rfl, rfl⟩
              have HQ := H2
              clear H2 hw7 hv7
              obtain ⟨⟨v9, hw9, hv9⟩, hx9, _, _⟩ := HQ.out
              have x0 := hx9.cell (i := 0) rfl
              have x1 := hx9.cell (i := 1) rfl
              have x2 := hx9.cell (i := 2) rfl
              have x3 := hx9.cell (i := 3) rfl
              clear hx9
              go_wp2_with fail
              refine (told_any w.heap.size (w.heap.size + 2) v9 S true se re a1 _ (by omega) hw9 hv9).mono ?_
              rintro e u9 ⟨rfl, b9⟩
              have H9 := Lib.hid (Inv.fresh HQ.out b9)
              clear b9 HQ x0 x1 x2 x3 hw9 hv9
              go_wp2
              refine ⟨?_, ?measure⟩
              case measure => simp [intOf]; omega
              first
                | exact ⟨k + 1, S, se, re, true, by omega, by omega, by go_num, by omega, by omega, by omega, H9⟩
                | ((repeat apply Exists.intro); exact ⟨⟨k + 1, S, se, re, true, by omega, by omega, by go_num, by omega, by omega, by omega, H9⟩, rfl⟩)
            · by_cases k2 : kd = 2
              · subst k2
                obtain ⟨m, hm⟩ : ∃ m, K3 m0 S.size m := K3_ex _ _
                have hmS := hm.le
                have HM := Lib.hid hm
                clear hm
                obtain ⟨S2, hS2⟩ : ∃ S2, S.extract m S.size = S2 := ⟨_, rfl⟩
                have zS2 : S2.size ≤ S.size := by rw [← hS2, ByteArray.size_extract]; omega
                obtain ⟨D, hD⟩ : ∃ D, S.extract 0 m = D := ⟨_, rfl⟩
                obtain ⟨re2, hre2⟩ : ∃ re2, re + m = re2 := ⟨_, rfl⟩
                have zz : S2.size + m ≤ S.size := by rw [← hS2, ByteArray.size_extract]; omega
                go_wp2_with fail
                have H0 : Hid (Inv w (wr.alloc (Obj.cells #[Value.int .i64 2, Value.string T, Value.int .i64 m0] 28)) w.heap.size S se re true [.string S, .int .i64 se, .int .i64 re, .bool true] ∧ Blk (wr.alloc (Obj.cells #[Value.int .i64 2, Value.string T, Value.int .i64 m0] 28)) wr.heap.size [Value.int .i64 2, Value.string T, Value.int .i64 m0] 28) := ⟨Inv.fresh HI.out ((Below.refl _ _).alloc (Nat.le_refl _) _), Blk.newA wr _ _⟩
                clear y0 y1 y2 HI z0 z1 z2 z3
                revert H0
                generalize (wr.alloc (Obj.cells #[Value.int .i64 2, Value.string T, Value.int .i64 m0] 28)) = u0
                intro H0
                refine (ref_take S se re true m0 m HM.out _ (by omega) (by omega)).mono ?_
                rintro e u1 ⟨rfl, b1⟩
                rw [hS2, hD, hre2]
                have H1 := Lib.hid (Inv.fresh H0.out.1 b1)
                have A1 := Lib.hid (H0.out.2.below b1 H0.out.2.lt)
                clear b1 H0
                have x0 := H1.out.2.1.cell (i := 0) rfl
                have x1 := H1.out.2.1.cell (i := 1) rfl
                have x2 := H1.out.2.1.cell (i := 2) rfl
                have x3 := H1.out.2.1.cell (i := 3) rfl
                have f0 := H1.out.2.1.free 0
                have f1 := H1.out.2.1.free 1
                have f2 := H1.out.2.1.free 2
                have f3 := H1.out.2.1.free 3
                have y0 := A1.out.cell (i := 2) rfl
                go_wp2_with fail
                have H2 := Lib.hid (Inv.setX H1.out rfl (.string S2) (.int .i64 se) (.int .i64 re2) (.bool true))
                clear x0 x1 x2 x3 f0 f1 f2 f3 H1 y0
                revert H2
                generalize ((((u1.setCell ⟨w.heap.size + 1, 0, none⟩ (.string S2)).setCell ⟨w.heap.size + 1, 1, none⟩ (.int .i64 se)).setCell ⟨w.heap.size + 1, 2, none⟩ (.int .i64 re2)).setCell ⟨w.heap.size + 1, 3, none⟩ (.bool true)) = u2
                intro H2
                obtain ⟨⟨v7, hw7, hv7⟩, _, _, hs7⟩ := H2.out
                refine (take_k3 w.heap.size (w.heap.size + 2) v7 S true se re m0 m _ HM.out (by omega) (by omega) (by omega) hw7 hv7).mono ?_
                rintro e u3 ⟨v8, rfl, hw8, hv8, ho8⟩
                rw [hS2] at hv8
                rw [hre2] at hw8
                rw [hD]
                have HQ := Lib.hid (Inv.only H2.out ho8 hw8 hv8)
                clear ho8 hw8 hv8 H2 hw7 hv7
                obtain ⟨⟨v9, hw9, hv9⟩, hx9, _, _⟩ := HQ.out
                have x0 := hx9.cell (i := 0) rfl
                have x1 := hx9.cell (i := 1) rfl
                have x2 := hx9.cell (i := 2) rfl
                have x3 := hx9.cell (i := 3) rfl
                clear hx9
                go_wp2_with fail
                refine (told_any w.heap.size (w.heap.size + 2) v9 S2 true se re2 a1 _ (by omega) hw9 hv9).mono ?_
                rintro e u9 ⟨rfl, b9⟩
                have H9 := Lib.hid (Inv.fresh HQ.out b9)
                clear b9 HQ x0 x1 x2 x3 hw9 hv9
                go_wp2
                refine ⟨?_, ?measure⟩
                case measure => simp [intOf]; omega
                first
                  | exact ⟨k + 1, S2, se, re2, true, by omega, by omega, by go_num, by omega, by omega, by omega, H9⟩
                  | ((repeat apply Exists.intro); exact ⟨⟨k + 1, S2, se, re2, true, by omega, by omega, by go_num, by omega, by omega, by omega, H9⟩, rfl⟩)
              · by_cases k3 : kd = 3
                · subst k3
                  go_wp2_with fail
                  have H0 : Hid (Inv w (wr.alloc (Obj.cells #[Value.int .i64 3, Value.string T, Value.int .i64 m0] 28)) w.heap.size S se re true [.string S, .int .i64 se, .int .i64 re, .bool true] ∧ Blk (wr.alloc (Obj.cells #[Value.int .i64 3, Value.string T, Value.int .i64 m0] 28)) wr.heap.size [Value.int .i64 3, Value.string T, Value.int .i64 m0] 28) := ⟨Inv.fresh HI.out ((Below.refl _ _).alloc (Nat.le_refl _) _), Blk.newA wr _ _⟩
                  clear y0 y1 y2 HI z0 z1 z2 z3
                  revert H0
                  generalize (wr.alloc (Obj.cells #[Value.int .i64 3, Value.string T, Value.int .i64 m0] 28)) = u0
                  intro H0
                  obtain ⟨⟨v7, hw7, hv7⟩, hx7, _, hs7⟩ := H0.out.1
                  obtain ⟨aa, cc, rfl⟩ := hv7.shape
                  have x0 := hx7.cell (i := 0) rfl
                  clear hx7
                  go_region_held3 (fun w' => w'.cell? ⟨w.heap.size + 1, 0, none⟩ = some (.string S)) (first | go_keep | assumption) (first
                    | (go_at_call 13; refine (drop_any w.heap.size (w.heap.size + 2) aa S.size cc true se re _ (hw7.drewN 1)).mono ?_; rintro e u1 ⟨rfl, hw8, ho8⟩; have H1 := Lib.hid (Inv.only (Inv.fresh H0.out.1 (below_drewN (Below.refl _ _) 1)) ho8 hw8 (S' := ⟨#[]⟩) (Or.inl ⟨rfl, rfl⟩)); have k1 : u1.cell? ⟨w.heap.size + 1, 0, none⟩ = some (.string S) := H1.out.2.1.cell (i := 0) rfl; clear ho8 hw8))
                  clear hw7 hv7 H0 x0
                  have x0 := H1.out.2.1.cell (i := 0) rfl
                  have x1 := H1.out.2.1.cell (i := 1) rfl
                  have x2 := H1.out.2.1.cell (i := 2) rfl
                  have x3 := H1.out.2.1.cell (i := 3) rfl
                  have f0 := H1.out.2.1.free 0
                  have f1 := H1.out.2.1.free 1
                  have f2 := H1.out.2.1.free 2
                  have f3 := H1.out.2.1.free 3
                  go_wp2_with fail
                  refine (ref_drop S se re true _).mono ?_
                  rintro e u4 ⟨rfl, b4⟩
                  have H4 := Lib.hid (Inv.fresh H1.out b4)
                  clear b4 H1 x0 x1 x2 x3 f0 f1 f2 f3 k1
                  have x0 := H4.out.2.1.cell (i := 0) rfl
                  have x1 := H4.out.2.1.cell (i := 1) rfl
                  have x2 := H4.out.2.1.cell (i := 2) rfl
                  have x3 := H4.out.2.1.cell (i := 3) rfl
                  have f0 := H4.out.2.1.free 0
                  have f1 := H4.out.2.1.free 1
                  have f2 := H4.out.2.1.free 2
                  have f3 := H4.out.2.1.free 3
                  go_wp2_with fail
                  have HQ := Lib.hid (Inv.setX H4.out rfl (.string ⟨#[]⟩) (.int .i64 se) (.int .i64 re) (.bool true))
                  clear x0 x1 x2 x3 f0 f1 f2 f3 H4
                  revert HQ
                  generalize ((((u4.setCell ⟨w.heap.size + 1, 0, none⟩ (.string ⟨#[]⟩)).setCell ⟨w.heap.size + 1, 1, none⟩ (.int .i64 se)).setCell ⟨w.heap.size + 1, 2, none⟩ (.int .i64 re)).setCell ⟨w.heap.size + 1, 3, none⟩ (.bool true)) = u5
                  intro HQ
                  have hz0 : (⟨#[]⟩ : ByteArray).size = 0 := rfl
                  obtain ⟨⟨v9, hw9, hv9⟩, hx9, _, _⟩ := HQ.out
                  have x0 := hx9.cell (i := 0) rfl
                  have x1 := hx9.cell (i := 1) rfl
                  have x2 := hx9.cell (i := 2) rfl
                  have x3 := hx9.cell (i := 3) rfl
                  clear hx9
                  refine (told_any w.heap.size (w.heap.size + 2) v9 ⟨#[]⟩ true se re a1 _ (by omega) hw9 hv9).mono ?_
                  rintro e u9 ⟨rfl, b9⟩
                  have H9 := Lib.hid (Inv.fresh HQ.out b9)
                  clear b9 HQ x0 x1 x2 x3 hw9 hv9
                  go_wp2
                  refine ⟨?_, ?measure⟩
                  case measure => simp [intOf]; omega
                  first
                    | exact ⟨k + 1, ⟨#[]⟩, se, re, true, by omega, by omega, by go_num, by omega, by omega, by omega, H9⟩
                    | ((repeat apply Exists.intro); exact ⟨⟨k + 1, ⟨#[]⟩, se, re, true, by omega, by omega, by go_num, by omega, by omega, by omega, H9⟩, rfl⟩)
                · skip
                  have HQ0 := Lib.hid (Inv.fresh HI.out ((Below.refl wr.heap.size wr).alloc (Nat.le_refl _) (Obj.cells #[Value.int .i64 kd, Value.string T, Value.int .i64 m0] 28)))
                  obtain ⟨⟨v9, hw9, hv9⟩, _, _, _⟩ := HQ0.out
                  go_wp2_with fail
                  refine (told_any w.heap.size (w.heap.size + 2) v9 S true se re a1 _ (by omega) hw9 hv9).mono ?_
                  rintro e u9 ⟨rfl, b9⟩
                  have H9 := Lib.hid (Inv.fresh HQ0.out b9)
                  clear b9 HQ0 hw9 hv9 y0 y1 y2 z0 z1 z2 z3 HI
                  go_wp2
                  refine ⟨?_, ?measure⟩
                  case measure => simp [intOf]; omega
                  first
                    | exact ⟨k + 1, S, se, re, true, by omega, by omega, by go_num, by omega, by omega, by omega, H9⟩
                    | ((repeat apply Exists.intro); exact ⟨⟨k + 1, S, se, re, true, by omega, by omega, by go_num, by omega, by omega, by omega, H9⟩, rfl⟩)
      · go_wp2_with (go_at_call 16; refine (lives_any _).mono ?_; rintro e w9 ⟨rfl, hb⟩)
        go_ret
        exact ⟨rfl, HI.out.2.2.1.trans (Below.mono (by assumption) (by have := HI.out.2.2.2; omega))⟩
    · go_wp2_with (go_at_call 16; refine (lives_any _).mono ?_; rintro e w9 ⟨rfl, hb⟩)
      go_ret
      exact ⟨rfl, HI.out.2.2.1.trans (Below.mono (by assumption) (by have := HI.out.2.2.2; omega))⟩

set_option maxRecDepth 100000 in
theorem lifted (os : Os) (started : os.Started) (H : Type) (enc : TypeId × Value → H) :
    ReturnsInHanded {} Try.checked os 3 .any (Rows.wirePlaysSpec.pre6 enc Try.prog Try.f3 Rows.wirePlaysRow.domain false) (Rows.wirePlaysSpec.post enc Try.prog Try.f3 false true false false) := by
  refine returnsInHanded_of_change (C := Try.checked) ownKn started (by kernel_rfl) Try.func3
    (ChangeSpec.witness6 (enc := enc) (C := Try.checked) false ⟨#[], #[.slice none 0 0, .int .i64 0], []⟩ 8 (by kernel_rfl) (by kernel_rfl) (by kernel_rfl) (by kernel_rfl)) ?_
  intro W base args ds gs before hval0 hW hcnd _
  have hval : ∀ (j : Nat) t v, Try.f3.params[j]? = some t → args[j]? = some v → Value.okWide Try.prog W .any base t v := hval0
  have hW' := hW
  obtain ⟨p, q, hA0, hV, rfl, hfz, hnd⟩ := hW
  have hA : DataW.TrodAll enc Try.prog W 0 (fun _ => true) true Try.f3.params.toList args.toList ds p := hA0
  rw [Try.params3] at hA hval
  obtain ⟨v0, vs0, d0, ds0, p0, q0, hargs, rfl, rfl, h0, r0⟩ := trodAll_cons hA
  obtain ⟨v1, vs1, d1, ds1, p1, q1, rfl, rfl, rfl, h1, r1⟩ := trodAll_cons r0
  obtain ⟨rfl, rfl, rfl⟩ := trodAll_nil r1
  obtain rfl : args = #[v0, v1] := by cases args; simp_all
  obtain ⟨rfl, rfl⟩ := trodVars_none hV
  have k0 := h0
  have lt0 : ∀ x ∈ p0, x.block < W.heap.size := by obtain ⟨m, hm⟩ := k0; exact DataW.trod_lt m _ _ _ hm
  obtain ⟨b0, lb0, cb0, rfl⟩ := okWide_slice Try.underlying22 (hval 0 22 v0 rfl rfl)
  obtain ⟨fu0, hf0⟩ := h0
  simp only [Value.cells] at hf0
  obtain ⟨a0, len0, cap0, e0, w0⟩ := fld_mix [3, 9, 3] Try.underlying22 Try.underlying28 (by kernel_rfl) (by kernel_rfl) rfl (by intro t ht; simp only [List.mem_cons, List.not_mem_nil, or_false] at ht; obtain rfl | rfl | rfl := ht; all_goals (first | exact Or.inl ⟨_, Try.underlying3⟩ | exact Or.inr (Or.inl Try.underlying9))) (by decide) hf0
  obtain ⟨rfl, rfl, rfl⟩ : b0 = a0 ∧ lb0 = len0 ∧ cb0 = cap0 := by simpa using e0
  have k1 := h1
  have lt1 : ∀ x ∈ p1, x.block < W.heap.size := by obtain ⟨m, hm⟩ := k1; exact DataW.trod_lt m _ _ _ hm
  obtain ⟨a1, rfl, rfl, rfl, w1⟩ := open_int Try.underlying3 (hval 1 3 v1 rfl rfl) h1
  clear hA0 hval0
  refine (walk b0 lb0 cb0 a1 W w0 w1).mono fun e W' ⟨he, bel⟩ => ?_
  subst he
  exact ⟨_, rfl, _, _, _, [], _, [], hW', trodAll_mk1 (shut_bool Try.underlying4 _), (trodAll_cons_mk (Below.trod laidOut (by kernel_rfl) (of_decide_eq_true (by kernel_rfl)) k0 bel lt0) (trodAll_cons_mk (Below.trod laidOut (by kernel_rfl) (of_decide_eq_true (by kernel_rfl)) k1 bel lt1) trodAll_mk0)), rfl, bel.frame _, fun h => by cases h⟩

theorem over : Rows.wirePlaysRow.holds Try.pinned (OpenSpec.ofChange Rows.wirePlaysSpec) :=
  OpenClaim.holds_of_wide 3 Try.f3 rfl rfl rfl rfl rfl rfl rfl ⟨rfl, rfl, rfl, rfl, rfl⟩ rfl rfl rfl rfl rfl (by kernel_rfl) Try.func3 (by kernel_rfl)
    (of_decide_eq_true (by kernel_rfl)) (by unfold Func.isWrapper; first | (rw [if_pos (by decide +kernel)]; kernel_rfl) | (rw [if_neg (by decide +kernel)]; exact ⟨rfl, rfl⟩))
    (fun os started H enc _ => lifted os started H enc)

/-- The statement. -/
theorem proved : Rows.WirePlaysSaid := over
#print axioms proved
end Go.Proofs.Ytkhkgnckimhekaa.wirePlays
