/- P18.4: for every setup and ops: a step costs no less where there is more to look at, or to load. No condition. -/
import Derived.Test.YteodknfmghnalaaOpen
import Derived.WalkKit
import Derived.ProofKit
import Derived.OpenShut
import Derived.Test.YteodknfmghnalaaCostTurns
namespace Go.Proofs.Yteodknfmghnalaa.costRises
open Go.Joins Go.ChangeShapes Go.WideShapes Go.ChangeAt Go.RowKit Go.Deep
set_option linter.unusedSimpArgs false
set_option linter.unusedVariables false

section
variable {H : Type} {enc : TypeId × Value → H} {P : Program} {w : World} {base : Nat} {spare : Nat → Bool} {held : Bool}
theorem open_flat3 {r : Reach} {b0 : Nat} {t : TypeId} {f0 f1 f2 : Field} {v : Value} {d : DataW H} {p : List MemPlace} (hs : P.underlying t = some (.struct #[f0, f1, f2])) (hone : oneCellFields P #[f0, f1, f2] = true) (hC : P.cellsOf t = 3)
    (hv : Value.okWide P w r b0 t v) (h : DataW.Trod enc P w base spare held t v d p) :
    ∃ (v0 v1 v2 : Value) (y0 y1 y2 : DataW H × List MemPlace) (n : Nat), v = .agg #[v0, v1, v2] ∧ d = .agg [y0.1, y1.1, y2.1] ∧ True ∧
      DataW.trod enc P w base spare held n f0.type [v0] = some y0 ∧ DataW.trod enc P w base spare held n f1.type [v1] = some y1 ∧ DataW.trod enc P w base spare held n f2.type [v2] = some y2 := by
  obtain ⟨cs, rfl, hsz⟩ := okWide_struct hs hv
  obtain ⟨l⟩ := cs
  match l, hsz.trans hC with
  | [c0, c1, c2], _ =>
    obtain ⟨fuel, hf⟩ := h
    obtain ⟨xs, n, _, hx, _, hlen, hg⟩ := DataW.trod_struct hs hf
    obtain ⟨o0, k0⟩ := hone_of hone 0 f0 rfl
    obtain ⟨o1, k1⟩ := hone_of hone 1 f1 rfl
    obtain ⟨o2, k2⟩ := hone_of hone 2 f2 rfl
    match xs, hlen with
    | [y0, y1, y2], _ =>
      simp only [Prod.mk.injEq] at hx
      exact ⟨c0, c1, c2, y0, y1, y2, n, rfl, by simpa using hx.1, trivial, by simpa [Value.cells, o0, k0] using hg 0 f0 rfl, by simpa [Value.cells, o1, k1] using hg 1 f1 rfl, by simpa [Value.cells, o2, k2] using hg 2 f2 rfl⟩
end
section
variable {H : Type} {enc : TypeId × Value → H} {P : Program} {w : World} {base : Nat} {spare : Nat → Bool} {held : Bool}
theorem open_flat6 {r : Reach} {b0 : Nat} {t : TypeId} {f0 f1 f2 f3 f4 f5 : Field} {v : Value} {d : DataW H} {p : List MemPlace} (hs : P.underlying t = some (.struct #[f0, f1, f2, f3, f4, f5])) (hone : oneCellFields P #[f0, f1, f2, f3, f4, f5] = true) (hC : P.cellsOf t = 6)
    (hv : Value.okWide P w r b0 t v) (h : DataW.Trod enc P w base spare held t v d p) :
    ∃ (v0 v1 v2 v3 v4 v5 : Value) (y0 y1 y2 y3 y4 y5 : DataW H × List MemPlace) (n : Nat), v = .agg #[v0, v1, v2, v3, v4, v5] ∧ d = .agg [y0.1, y1.1, y2.1, y3.1, y4.1, y5.1] ∧ True ∧
      DataW.trod enc P w base spare held n f0.type [v0] = some y0 ∧ DataW.trod enc P w base spare held n f1.type [v1] = some y1 ∧ DataW.trod enc P w base spare held n f2.type [v2] = some y2 ∧ DataW.trod enc P w base spare held n f3.type [v3] = some y3 ∧ DataW.trod enc P w base spare held n f4.type [v4] = some y4 ∧ DataW.trod enc P w base spare held n f5.type [v5] = some y5 := by
  obtain ⟨cs, rfl, hsz⟩ := okWide_struct hs hv
  obtain ⟨l⟩ := cs
  match l, hsz.trans hC with
  | [c0, c1, c2, c3, c4, c5], _ =>
    obtain ⟨fuel, hf⟩ := h
    obtain ⟨xs, n, _, hx, _, hlen, hg⟩ := DataW.trod_struct hs hf
    obtain ⟨o0, k0⟩ := hone_of hone 0 f0 rfl
    obtain ⟨o1, k1⟩ := hone_of hone 1 f1 rfl
    obtain ⟨o2, k2⟩ := hone_of hone 2 f2 rfl
    obtain ⟨o3, k3⟩ := hone_of hone 3 f3 rfl
    obtain ⟨o4, k4⟩ := hone_of hone 4 f4 rfl
    obtain ⟨o5, k5⟩ := hone_of hone 5 f5 rfl
    match xs, hlen with
    | [y0, y1, y2, y3, y4, y5], _ =>
      simp only [Prod.mk.injEq] at hx
      exact ⟨c0, c1, c2, c3, c4, c5, y0, y1, y2, y3, y4, y5, n, rfl, by simpa using hx.1, trivial, by simpa [Value.cells, o0, k0] using hg 0 f0 rfl, by simpa [Value.cells, o1, k1] using hg 1 f1 rfl, by simpa [Value.cells, o2, k2] using hg 2 f2 rfl, by simpa [Value.cells, o3, k3] using hg 3 f3 rfl, by simpa [Value.cells, o4, k4] using hg 4 f4 rfl, by simpa [Value.cells, o5, k5] using hg 5 f5 rfl⟩
end
def RisesS (W W' : World) (b : Nat) (a0_Live a0_Ring a0_Win a0_Out a0_Quantum a0_Visits a1_Kind a1_Fresh a1_Waits a2_Fresh a2_Waits : Int) : Prop :=
  Below (b + 3) W W' ∧ W'.cell? ⟨b, 0, none⟩ = some (.int .i64 a0_Live) ∧ W'.cell? ⟨b, 1, none⟩ = some (.int .i64 a0_Ring) ∧ W'.cell? ⟨b, 2, none⟩ = some (.int .i64 a0_Win) ∧ W'.cell? ⟨b, 3, none⟩ = some (.int .i64 a0_Out) ∧ W'.cell? ⟨b, 4, none⟩ = some (.int .i64 a0_Quantum) ∧ W'.cell? ⟨b, 5, none⟩ = some (.int .i64 a0_Visits) ∧ W'.cell? ⟨b + 1, 0, none⟩ = some (.int .i64 a1_Kind) ∧ W'.cell? ⟨b + 1, 1, none⟩ = some (.int .i64 a1_Fresh) ∧ W'.cell? ⟨b + 1, 2, none⟩ = some (.int .i64 a1_Waits) ∧ W'.cell? ⟨b + 2, 0, none⟩ = some (.int .i64 a1_Kind) ∧ W'.cell? ⟨b + 2, 1, none⟩ = some (.int .i64 a2_Fresh) ∧ W'.cell? ⟨b + 2, 2, none⟩ = some (.int .i64 a2_Waits)
theorem rises_S {W W' : World} {b : Nat} {a0_Live a0_Ring a0_Win a0_Out a0_Quantum a0_Visits a1_Kind a1_Fresh a1_Waits a2_Fresh a2_Waits : Int} (h : SetupAt W b a0_Live a0_Ring a0_Win a0_Out a0_Quantum a0_Visits) (hx : W.cell? ⟨b + 1, 0, none⟩ = some (.int .i64 a1_Kind) ∧ W.cell? ⟨b + 1, 1, none⟩ = some (.int .i64 a1_Fresh) ∧ W.cell? ⟨b + 1, 2, none⟩ = some (.int .i64 a1_Waits)) (hy : W.cell? ⟨b + 2, 0, none⟩ = some (.int .i64 a1_Kind) ∧ W.cell? ⟨b + 2, 1, none⟩ = some (.int .i64 a2_Fresh) ∧ W.cell? ⟨b + 2, 2, none⟩ = some (.int .i64 a2_Waits)) (hb : Below (b + 3) W W') :
    RisesS W W' b a0_Live a0_Ring a0_Win a0_Out a0_Quantum a0_Visits a1_Kind a1_Fresh a1_Waits a2_Fresh a2_Waits := by
  obtain ⟨h0, h1, h2, h3, h4, h5⟩ := h.kept hb (by omega)
  exact ⟨hb, h0, h1, h2, h3, h4, h5, (hb.cell (by simp)).trans hx.1, (hb.cell (by simp)).trans hx.2.1, (hb.cell (by simp)).trans hx.2.2, (hb.cell (by simp)).trans hy.1, (hb.cell (by simp)).trans hy.2.1, (hb.cell (by simp)).trans hy.2.2⟩
set_option maxHeartbeats 4000000 in

theorem walk (a0_Live : Int) (a0_Ring : Int) (a0_Win : Int) (a0_Out : Int) (a0_Quantum : Int) (a0_Visits : Int) (a1_Kind : Int) (a1_Fresh : Int) (a1_Waits : Int) (a2_Kind : Int) (a2_Fresh : Int) (a2_Waits : Int) (w : World) (w0_Live : (Lit.int .i64 a0_Live).wf = true) (w0_Ring : (Lit.int .i64 a0_Ring).wf = true) (w0_Win : (Lit.int .i64 a0_Win).wf = true) (w0_Out : (Lit.int .i64 a0_Out).wf = true) (w0_Quantum : (Lit.int .i64 a0_Quantum).wf = true) (w0_Visits : (Lit.int .i64 a0_Visits).wf = true) (w1_Kind : (Lit.int .i64 a1_Kind).wf = true) (w1_Fresh : (Lit.int .i64 a1_Fresh).wf = true) (w1_Waits : (Lit.int .i64 a1_Waits).wf = true) (w2_Kind : (Lit.int .i64 a2_Kind).wf = true) (w2_Fresh : (Lit.int .i64 a2_Fresh).wf = true) (w2_Waits : (Lit.int .i64 a2_Waits).wf = true) :
    Calls Try.prog 5 #[.agg #[.int .i64 a0_Live, .int .i64 a0_Ring, .int .i64 a0_Win, .int .i64 a0_Out, .int .i64 a0_Quantum, .int .i64 a0_Visits], .agg #[.int .i64 a1_Kind, .int .i64 a1_Fresh, .int .i64 a1_Waits], .agg #[.int .i64 a2_Kind, .int .i64 a2_Fresh, .int .i64 a2_Waits]] w fun e w' => e = .returned (.bool true) ∧ Below w.heap.size w w' := by
  by_cases hF : a2_Fresh < a1_Fresh
  · go_enter Try.func5, Try.ntmps5
    go_wp2_with (go_at_call 12; refine (lives_any _).mono ?_; rintro e w3 ⟨rfl, hb2⟩)
    go_ret
    exact ⟨rfl, below_on (Nat.le_refl _) ((((Below.refl _ _).alloc (Nat.le_refl _) _).alloc (by simp) _).alloc (by simp; omega) _) (by assumption)⟩
  · by_cases hW : a2_Waits < a1_Waits
    · go_enter Try.func5, Try.ntmps5
      go_wp2_with (go_at_call 12; refine (lives_any _).mono ?_; rintro e w3 ⟨rfl, hb2⟩)
      go_ret
      exact ⟨rfl, below_on (Nat.le_refl _) ((((Below.refl _ _).alloc (Nat.le_refl _) _).alloc (by simp) _).alloc (by simp; omega) _) (by assumption)⟩
    · have p2 := Co.price_mono a0_Live a0_Ring a0_Win a0_Out a0_Quantum a0_Visits a1_Kind a1_Fresh a1_Waits a2_Fresh a2_Waits (by omega) (by omega)
      have p3 : decide (Co.price a0_Live a0_Ring a0_Win a0_Out a0_Quantum a0_Visits a1_Kind a1_Fresh a1_Waits ≤ Co.price a0_Live a0_Ring a0_Win a0_Out a0_Quantum a0_Visits a1_Kind a2_Fresh a2_Waits) = true := by simpa using p2
      go_enter Try.func5, Try.ntmps5
      go_wp2
      have HC := Lib.hid (setup_new w a0_Live a0_Ring a0_Win a0_Out a0_Quantum a0_Visits 23)
      have HC2 : Hid (SetupAt (((w.alloc (Obj.cells #[Value.int IntKind.i64 a0_Live, Value.int IntKind.i64 a0_Ring, Value.int IntKind.i64 a0_Win, Value.int IntKind.i64 a0_Out, Value.int IntKind.i64 a0_Quantum, Value.int IntKind.i64 a0_Visits] 23)).alloc (Obj.cells #[Value.int IntKind.i64 a1_Kind, Value.int IntKind.i64 a1_Fresh, Value.int IntKind.i64 a1_Waits] 25)).alloc (Obj.cells #[Value.int IntKind.i64 a1_Kind, Value.int IntKind.i64 a2_Fresh, Value.int IntKind.i64 a2_Waits] 25)) w.heap.size a0_Live a0_Ring a0_Win a0_Out a0_Quantum a0_Visits) := Lib.hid (HC.out.kept (B := w.heap.size + 1) (((Below.refl _ _).alloc (by simp) _).alloc (by simp) _) (by omega))
      have HX : Hid ((((w.alloc (Obj.cells #[Value.int IntKind.i64 a0_Live, Value.int IntKind.i64 a0_Ring, Value.int IntKind.i64 a0_Win, Value.int IntKind.i64 a0_Out, Value.int IntKind.i64 a0_Quantum, Value.int IntKind.i64 a0_Visits] 23)).alloc (Obj.cells #[Value.int IntKind.i64 a1_Kind, Value.int IntKind.i64 a1_Fresh, Value.int IntKind.i64 a1_Waits] 25)).alloc (Obj.cells #[Value.int IntKind.i64 a1_Kind, Value.int IntKind.i64 a2_Fresh, Value.int IntKind.i64 a2_Waits] 25)).cell? ⟨w.heap.size + 1, 0, none⟩ = some (.int .i64 a1_Kind) ∧ (((w.alloc (Obj.cells #[Value.int IntKind.i64 a0_Live, Value.int IntKind.i64 a0_Ring, Value.int IntKind.i64 a0_Win, Value.int IntKind.i64 a0_Out, Value.int IntKind.i64 a0_Quantum, Value.int IntKind.i64 a0_Visits] 23)).alloc (Obj.cells #[Value.int IntKind.i64 a1_Kind, Value.int IntKind.i64 a1_Fresh, Value.int IntKind.i64 a1_Waits] 25)).alloc (Obj.cells #[Value.int IntKind.i64 a1_Kind, Value.int IntKind.i64 a2_Fresh, Value.int IntKind.i64 a2_Waits] 25)).cell? ⟨w.heap.size + 1, 1, none⟩ = some (.int .i64 a1_Fresh) ∧ (((w.alloc (Obj.cells #[Value.int IntKind.i64 a0_Live, Value.int IntKind.i64 a0_Ring, Value.int IntKind.i64 a0_Win, Value.int IntKind.i64 a0_Out, Value.int IntKind.i64 a0_Quantum, Value.int IntKind.i64 a0_Visits] 23)).alloc (Obj.cells #[Value.int IntKind.i64 a1_Kind, Value.int IntKind.i64 a1_Fresh, Value.int IntKind.i64 a1_Waits] 25)).alloc (Obj.cells #[Value.int IntKind.i64 a1_Kind, Value.int IntKind.i64 a2_Fresh, Value.int IntKind.i64 a2_Waits] 25)).cell? ⟨w.heap.size + 1, 2, none⟩ = some (.int .i64 a1_Waits)) := by
        refine Lib.hid ⟨?_, ?_, ?_⟩
        all_goals simp [go_sem]
      have HY : Hid ((((w.alloc (Obj.cells #[Value.int IntKind.i64 a0_Live, Value.int IntKind.i64 a0_Ring, Value.int IntKind.i64 a0_Win, Value.int IntKind.i64 a0_Out, Value.int IntKind.i64 a0_Quantum, Value.int IntKind.i64 a0_Visits] 23)).alloc (Obj.cells #[Value.int IntKind.i64 a1_Kind, Value.int IntKind.i64 a1_Fresh, Value.int IntKind.i64 a1_Waits] 25)).alloc (Obj.cells #[Value.int IntKind.i64 a1_Kind, Value.int IntKind.i64 a2_Fresh, Value.int IntKind.i64 a2_Waits] 25)).cell? ⟨w.heap.size + 2, 0, none⟩ = some (.int .i64 a1_Kind) ∧ (((w.alloc (Obj.cells #[Value.int IntKind.i64 a0_Live, Value.int IntKind.i64 a0_Ring, Value.int IntKind.i64 a0_Win, Value.int IntKind.i64 a0_Out, Value.int IntKind.i64 a0_Quantum, Value.int IntKind.i64 a0_Visits] 23)).alloc (Obj.cells #[Value.int IntKind.i64 a1_Kind, Value.int IntKind.i64 a1_Fresh, Value.int IntKind.i64 a1_Waits] 25)).alloc (Obj.cells #[Value.int IntKind.i64 a1_Kind, Value.int IntKind.i64 a2_Fresh, Value.int IntKind.i64 a2_Waits] 25)).cell? ⟨w.heap.size + 2, 1, none⟩ = some (.int .i64 a2_Fresh) ∧ (((w.alloc (Obj.cells #[Value.int IntKind.i64 a0_Live, Value.int IntKind.i64 a0_Ring, Value.int IntKind.i64 a0_Win, Value.int IntKind.i64 a0_Out, Value.int IntKind.i64 a0_Quantum, Value.int IntKind.i64 a0_Visits] 23)).alloc (Obj.cells #[Value.int IntKind.i64 a1_Kind, Value.int IntKind.i64 a1_Fresh, Value.int IntKind.i64 a1_Waits] 25)).alloc (Obj.cells #[Value.int IntKind.i64 a1_Kind, Value.int IntKind.i64 a2_Fresh, Value.int IntKind.i64 a2_Waits] 25)).cell? ⟨w.heap.size + 2, 2, none⟩ = some (.int .i64 a2_Waits)) := by
        refine Lib.hid ⟨?_, ?_, ?_⟩
        all_goals simp [go_sem]
      have hs2 : w.heap.size + 3 ≤ (((w.alloc (Obj.cells #[Value.int IntKind.i64 a0_Live, Value.int IntKind.i64 a0_Ring, Value.int IntKind.i64 a0_Win, Value.int IntKind.i64 a0_Out, Value.int IntKind.i64 a0_Quantum, Value.int IntKind.i64 a0_Visits] 23)).alloc (Obj.cells #[Value.int IntKind.i64 a1_Kind, Value.int IntKind.i64 a1_Fresh, Value.int IntKind.i64 a1_Waits] 25)).alloc (Obj.cells #[Value.int IntKind.i64 a1_Kind, Value.int IntKind.i64 a2_Fresh, Value.int IntKind.i64 a2_Waits] 25)).heap.size := by simp
      have HB2 : Hid (Below w.heap.size w (((w.alloc (Obj.cells #[Value.int IntKind.i64 a0_Live, Value.int IntKind.i64 a0_Ring, Value.int IntKind.i64 a0_Win, Value.int IntKind.i64 a0_Out, Value.int IntKind.i64 a0_Quantum, Value.int IntKind.i64 a0_Visits] 23)).alloc (Obj.cells #[Value.int IntKind.i64 a1_Kind, Value.int IntKind.i64 a1_Fresh, Value.int IntKind.i64 a1_Waits] 25)).alloc (Obj.cells #[Value.int IntKind.i64 a1_Kind, Value.int IntKind.i64 a2_Fresh, Value.int IntKind.i64 a2_Waits] 25))) := Lib.hid ((((Below.refl _ _).alloc (Nat.le_refl _) _).alloc (by simp) _).alloc (by simp; omega) _)
      clear HC
      revert HC2 HX HY hs2 HB2
      generalize (((w.alloc (Obj.cells #[Value.int IntKind.i64 a0_Live, Value.int IntKind.i64 a0_Ring, Value.int IntKind.i64 a0_Win, Value.int IntKind.i64 a0_Out, Value.int IntKind.i64 a0_Quantum, Value.int IntKind.i64 a0_Visits] 23)).alloc (Obj.cells #[Value.int IntKind.i64 a1_Kind, Value.int IntKind.i64 a1_Fresh, Value.int IntKind.i64 a1_Waits] 25)).alloc (Obj.cells #[Value.int IntKind.i64 a1_Kind, Value.int IntKind.i64 a2_Fresh, Value.int IntKind.i64 a2_Waits] 25)) = w2
      intro HC2 HX HY hs2 HB2
      go_region_held3 (fun w' => Below (w.heap.size + 3) w2 w' ∧ w'.cell? ⟨w.heap.size, 0, none⟩ = some (.int .i64 a0_Live) ∧ w'.cell? ⟨w.heap.size, 1, none⟩ = some (.int .i64 a0_Ring) ∧ w'.cell? ⟨w.heap.size, 2, none⟩ = some (.int .i64 a0_Win) ∧ w'.cell? ⟨w.heap.size, 3, none⟩ = some (.int .i64 a0_Out) ∧ w'.cell? ⟨w.heap.size, 4, none⟩ = some (.int .i64 a0_Quantum) ∧ w'.cell? ⟨w.heap.size, 5, none⟩ = some (.int .i64 a0_Visits) ∧ w'.cell? ⟨w.heap.size + 1, 0, none⟩ = some (.int .i64 a1_Kind) ∧ w'.cell? ⟨w.heap.size + 1, 1, none⟩ = some (.int .i64 a1_Fresh) ∧ w'.cell? ⟨w.heap.size + 1, 2, none⟩ = some (.int .i64 a1_Waits) ∧ w'.cell? ⟨w.heap.size + 2, 0, none⟩ = some (.int .i64 a1_Kind) ∧ w'.cell? ⟨w.heap.size + 2, 1, none⟩ = some (.int .i64 a2_Fresh) ∧ w'.cell? ⟨w.heap.size + 2, 2, none⟩ = some (.int .i64 a2_Waits))
        (first | exact rises_S HC2.out HX.out HY.out (Below.refl _ _).drew | (go_split_ands; exact rises_S HC2.out HX.out HY.out (below_on hs2 (by first | assumption | exact (Below.refl _ _).drew) hb2)))
        (first
          | (go_at_call 6; refine (price_any _ _ _ _ _ _ _ _ _ _).mono ?_; rintro e w3 ⟨rfl, hb2⟩)
          | (go_at_call 12; refine (lives_any _).mono ?_; rintro e w3 ⟨rfl, hb2⟩))
      go_wp2
      go_ret
      go_split_ands
      exact ⟨rfl, HB2.out.trans (Below.mono (B := w.heap.size + 3) (by assumption) (by omega))⟩

set_option maxRecDepth 100000 in
theorem lifted (os : Os) (started : os.Started) (H : Type) (enc : TypeId × Value → H) :
    ReturnsInHanded {} Try.checked os 5 .any (Rows.costRisesSpec.pre6 enc Try.prog Try.f5 Rows.costRisesRow.domain false) (Rows.costRisesSpec.post enc Try.prog Try.f5 false true false false) := by
  refine returnsInHanded_of_change (C := Try.checked) ownKn started (by kernel_rfl) Try.func5
    (ChangeSpec.witness6 (enc := enc) (C := Try.checked) false ⟨#[], #[.agg #[.int .i64 0, .int .i64 0, .int .i64 0, .int .i64 0, .int .i64 0, .int .i64 0], .agg #[.int .i64 0, .int .i64 0, .int .i64 0], .agg #[.int .i64 0, .int .i64 0, .int .i64 0]], []⟩ 8 (by kernel_rfl) (by kernel_rfl) (by kernel_rfl) (by kernel_rfl)) ?_
  intro W base args ds gs before hval0 hW hcnd _
  have hval : ∀ (j : Nat) t v, Try.f5.params[j]? = some t → args[j]? = some v → Value.okWide Try.prog W .any base t v := hval0
  have hW' := hW
  obtain ⟨p, q, hA0, hV, rfl, hfz, hnd⟩ := hW
  have hA : DataW.TrodAll enc Try.prog W 0 (fun _ => true) true Try.f5.params.toList args.toList ds p := hA0
  rw [Try.params5] at hA hval
  obtain ⟨v0, vs0, d0, ds0, p0, q0, hargs, rfl, rfl, h0, r0⟩ := trodAll_cons hA
  obtain ⟨v1, vs1, d1, ds1, p1, q1, rfl, rfl, rfl, h1, r1⟩ := trodAll_cons r0
  obtain ⟨v2, vs2, d2, ds2, p2, q2, rfl, rfl, rfl, h2, r2⟩ := trodAll_cons r1
  obtain ⟨rfl, rfl, rfl⟩ := trodAll_nil r2
  obtain rfl : args = #[v0, v1, v2] := by cases args; simp_all
  obtain ⟨rfl, rfl⟩ := trodVars_none hV
  have k0 := h0
  have lt0 : ∀ x ∈ p0, x.block < W.heap.size := by obtain ⟨m, hm⟩ := k0; exact DataW.trod_lt m _ _ _ hm
  obtain ⟨u0_0, u0_1, u0_2, u0_3, u0_4, u0_5, y0_0, y0_1, y0_2, y0_3, y0_4, y0_5, nn0, rfl, _, _, g0_0, g0_1, g0_2, g0_3, g0_4, g0_5⟩ := open_flat6 Try.underlying23 (by kernel_rfl) (by kernel_rfl) (hval 0 23 v0 rfl rfl) h0
  obtain ⟨a0_Live, rfl, w0_Live⟩ := fld_int Try.underlying3 g0_0
  obtain ⟨a0_Ring, rfl, w0_Ring⟩ := fld_int Try.underlying3 g0_1
  obtain ⟨a0_Win, rfl, w0_Win⟩ := fld_int Try.underlying3 g0_2
  obtain ⟨a0_Out, rfl, w0_Out⟩ := fld_int Try.underlying3 g0_3
  obtain ⟨a0_Quantum, rfl, w0_Quantum⟩ := fld_int Try.underlying3 g0_4
  obtain ⟨a0_Visits, rfl, w0_Visits⟩ := fld_int Try.underlying3 g0_5
  have k1 := h1
  have lt1 : ∀ x ∈ p1, x.block < W.heap.size := by obtain ⟨m, hm⟩ := k1; exact DataW.trod_lt m _ _ _ hm
  obtain ⟨u1_0, u1_1, u1_2, y1_0, y1_1, y1_2, nn1, rfl, _, _, g1_0, g1_1, g1_2⟩ := open_flat3 Try.underlying25 (by kernel_rfl) (by kernel_rfl) (hval 1 25 v1 rfl rfl) h1
  obtain ⟨a1_Kind, rfl, w1_Kind⟩ := fld_int Try.underlying3 g1_0
  obtain ⟨a1_Fresh, rfl, w1_Fresh⟩ := fld_int Try.underlying3 g1_1
  obtain ⟨a1_Waits, rfl, w1_Waits⟩ := fld_int Try.underlying3 g1_2
  have k2 := h2
  have lt2 : ∀ x ∈ p2, x.block < W.heap.size := by obtain ⟨m, hm⟩ := k2; exact DataW.trod_lt m _ _ _ hm
  obtain ⟨u2_0, u2_1, u2_2, y2_0, y2_1, y2_2, nn2, rfl, _, _, g2_0, g2_1, g2_2⟩ := open_flat3 Try.underlying25 (by kernel_rfl) (by kernel_rfl) (hval 2 25 v2 rfl rfl) h2
  obtain ⟨a2_Kind, rfl, w2_Kind⟩ := fld_int Try.underlying3 g2_0
  obtain ⟨a2_Fresh, rfl, w2_Fresh⟩ := fld_int Try.underlying3 g2_1
  obtain ⟨a2_Waits, rfl, w2_Waits⟩ := fld_int Try.underlying3 g2_2
  clear hA0 hval0
  refine (walk a0_Live a0_Ring a0_Win a0_Out a0_Quantum a0_Visits a1_Kind a1_Fresh a1_Waits a2_Kind a2_Fresh a2_Waits W w0_Live w0_Ring w0_Win w0_Out w0_Quantum w0_Visits w1_Kind w1_Fresh w1_Waits w2_Kind w2_Fresh w2_Waits).mono fun e W' ⟨he, bel⟩ => ?_
  subst he
  exact ⟨_, rfl, _, _, _, [], _, [], hW', trodAll_mk1 (shut_bool Try.underlying4 _), (trodAll_cons_mk (Below.trod laidOut (by kernel_rfl) (of_decide_eq_true (by kernel_rfl)) k0 bel lt0) (trodAll_cons_mk (Below.trod laidOut (by kernel_rfl) (of_decide_eq_true (by kernel_rfl)) k1 bel lt1) (trodAll_cons_mk (Below.trod laidOut (by kernel_rfl) (of_decide_eq_true (by kernel_rfl)) k2 bel lt2) trodAll_mk0))), rfl, bel.frame _, fun h => by cases h⟩

theorem over : Rows.costRisesRow.holds Try.pinned (OpenSpec.ofChange Rows.costRisesSpec) :=
  OpenClaim.holds_of_wide 5 Try.f5 rfl rfl rfl rfl rfl rfl rfl ⟨rfl, rfl, rfl, rfl, rfl⟩ rfl rfl rfl rfl rfl (by kernel_rfl) Try.func5 (by kernel_rfl)
    (of_decide_eq_true (by kernel_rfl)) (by unfold Func.isWrapper; first | (rw [if_pos (by decide +kernel)]; kernel_rfl) | (rw [if_neg (by decide +kernel)]; exact ⟨rfl, rfl⟩))
    (fun os started H enc _ => lifted os started H enc)

/-- The statement. -/
theorem proved : Rows.CostRisesSaid := over
#print axioms proved
end Go.Proofs.Yteodknfmghnalaa.costRises
