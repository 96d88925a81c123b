/- P18.3, P18.4: for every setup and ticks: in how many turns a step is done, how many turns all have, and ahead of which tick it is done, are as the document's own answers say. No condition. -/
import Derived.Test.YteodknfmghnalaaOpen
import Derived.WalkKit
import Derived.ProofKit
import Derived.OpenShut
import Derived.Test.YteodknfmghnalaaCostRef
import Derived.Test.YteodknfmghnalaaClass
namespace Go.Proofs.Yteodknfmghnalaa.costWaits
open Go.Joins Go.ChangeShapes Go.WideShapes Go.ChangeAt Go.RowKit Go.Deep
set_option linter.unusedSimpArgs false
set_option linter.unusedVariables false

section
variable {H : Type} {enc : TypeId × Value → H} {P : Program} {w : World} {base : Nat} {spare : Nat → Bool} {held : Bool}
theorem open_flat6 {r : Reach} {b0 : Nat} {t : TypeId} {f0 f1 f2 f3 f4 f5 : Field} {v : Value} {d : DataW H} {p : List MemPlace} (hs : P.underlying t = some (.struct #[f0, f1, f2, f3, f4, f5])) (hone : oneCellFields P #[f0, f1, f2, f3, f4, f5] = true) (hC : P.cellsOf t = 6)
    (hv : Value.okWide P w r b0 t v) (h : DataW.Trod enc P w base spare held t v d p) :
    ∃ (v0 v1 v2 v3 v4 v5 : Value) (y0 y1 y2 y3 y4 y5 : DataW H × List MemPlace) (n : Nat), v = .agg #[v0, v1, v2, v3, v4, v5] ∧ d = .agg [y0.1, y1.1, y2.1, y3.1, y4.1, y5.1] ∧ True ∧
      DataW.trod enc P w base spare held n f0.type [v0] = some y0 ∧ DataW.trod enc P w base spare held n f1.type [v1] = some y1 ∧ DataW.trod enc P w base spare held n f2.type [v2] = some y2 ∧ DataW.trod enc P w base spare held n f3.type [v3] = some y3 ∧ DataW.trod enc P w base spare held n f4.type [v4] = some y4 ∧ DataW.trod enc P w base spare held n f5.type [v5] = some y5 := by
  obtain ⟨cs, rfl, hsz⟩ := okWide_struct hs hv
  obtain ⟨l⟩ := cs
  match l, hsz.trans hC with
  | [c0, c1, c2, c3, c4, c5], _ =>
    obtain ⟨fuel, hf⟩ := h
    obtain ⟨xs, n, _, hx, _, hlen, hg⟩ := DataW.trod_struct hs hf
    obtain ⟨o0, k0⟩ := hone_of hone 0 f0 rfl
    obtain ⟨o1, k1⟩ := hone_of hone 1 f1 rfl
    obtain ⟨o2, k2⟩ := hone_of hone 2 f2 rfl
    obtain ⟨o3, k3⟩ := hone_of hone 3 f3 rfl
    obtain ⟨o4, k4⟩ := hone_of hone 4 f4 rfl
    obtain ⟨o5, k5⟩ := hone_of hone 5 f5 rfl
    match xs, hlen with
    | [y0, y1, y2, y3, y4, y5], _ =>
      simp only [Prod.mk.injEq] at hx
      exact ⟨c0, c1, c2, c3, c4, c5, y0, y1, y2, y3, y4, y5, n, rfl, by simpa using hx.1, trivial, by simpa [Value.cells, o0, k0] using hg 0 f0 rfl, by simpa [Value.cells, o1, k1] using hg 1 f1 rfl, by simpa [Value.cells, o2, k2] using hg 2 f2 rfl, by simpa [Value.cells, o3, k3] using hg 3 f3 rfl, by simpa [Value.cells, o4, k4] using hg 4 f4 rfl, by simpa [Value.cells, o5, k5] using hg 5 f5 rfl⟩
end
theorem turns_ge {l r i o q v : Int} (hg : Co.goodB l r i o q v = true) : Co.most l r i o q v ≤ Co.turns l r i o q v * q ∧ (Co.turns l r i o q v - 1) * q < Co.most l r i o q v ∧ 0 ≤ Co.turns l r i o q v - 1 := by
  have b := Co.good_bd hg
  have t0 := Co.turnsI_bd i o q (by omega) (by omega) (by omega) (by omega) (by omega)
  have e : Co.turns l r i o q v = Co.turnsI i o q := by simp [Co.turns, hg]
  have h1 := Co.turns_test l r i o q v (Co.turns l r i o q v) (by omega) (Or.inl hg)
  have h2 := Co.turns_test l r i o q v (Co.turns l r i o q v - 1) (by omega) (Or.inl hg)
  rw [decide_eq_decide] at h1 h2
  omega
set_option maxHeartbeats 4000000 in

theorem walk (a0_Live : Int) (a0_Ring : Int) (a0_Win : Int) (a0_Out : Int) (a0_Quantum : Int) (a0_Visits : Int) (a1 : Int) (a2 : Int) (w : World) (w0_Live : (Lit.int .i64 a0_Live).wf = true) (w0_Ring : (Lit.int .i64 a0_Ring).wf = true) (w0_Win : (Lit.int .i64 a0_Win).wf = true) (w0_Out : (Lit.int .i64 a0_Out).wf = true) (w0_Quantum : (Lit.int .i64 a0_Quantum).wf = true) (w0_Visits : (Lit.int .i64 a0_Visits).wf = true) (w1 : (Lit.int .i64 a1).wf = true) (w2 : (Lit.int .i64 a2).wf = true) :
    Calls Try.prog 4 #[.agg #[.int .i64 a0_Live, .int .i64 a0_Ring, .int .i64 a0_Win, .int .i64 a0_Out, .int .i64 a0_Quantum, .int .i64 a0_Visits], .int .i64 a1, .int .i64 a2] w fun e w' => e = .returned (.bool true) ∧ Below w.heap.size w w' := by
  have b1 := bounds_i64 w1
  have b2 := bounds_i64 w2
  cases hg : Co.goodB a0_Live a0_Ring a0_Win a0_Out a0_Quantum a0_Visits
  case false =>
    have ht : Co.turns a0_Live a0_Ring a0_Win a0_Out a0_Quantum a0_Visits = 0 := by simp [Co.turns, hg]
    go_enter Try.func4, Try.ntmps4
    go_wp2
    have HC2 := Lib.hid (setup_new w a0_Live a0_Ring a0_Win a0_Out a0_Quantum a0_Visits 23)
    have hs2 : w.heap.size + 1 ≤ (w.alloc (Obj.cells #[Value.int IntKind.i64 a0_Live, Value.int IntKind.i64 a0_Ring, Value.int IntKind.i64 a0_Win, Value.int IntKind.i64 a0_Out, Value.int IntKind.i64 a0_Quantum, Value.int IntKind.i64 a0_Visits] 23)).heap.size := by simp
    have HB2 : Hid (Below w.heap.size w (w.alloc (Obj.cells #[Value.int IntKind.i64 a0_Live, Value.int IntKind.i64 a0_Ring, Value.int IntKind.i64 a0_Win, Value.int IntKind.i64 a0_Out, Value.int IntKind.i64 a0_Quantum, Value.int IntKind.i64 a0_Visits] 23))) := Lib.hid ((Below.refl _ _).alloc (Nat.le_refl _) _)
    revert HC2 hs2 HB2
    generalize (w.alloc (Obj.cells #[Value.int IntKind.i64 a0_Live, Value.int IntKind.i64 a0_Ring, Value.int IntKind.i64 a0_Win, Value.int IntKind.i64 a0_Out, Value.int IntKind.i64 a0_Quantum, Value.int IntKind.i64 a0_Visits] 23)) = w2
    intro HC2 hs2 HB2
    refine wp_region_class (fun w' => Below (w.heap.size + 1) w2 w' ∧ w'.cell? ⟨w.heap.size, 0, none⟩ = some (.int .i64 a0_Live) ∧ w'.cell? ⟨w.heap.size, 1, none⟩ = some (.int .i64 a0_Ring) ∧ w'.cell? ⟨w.heap.size, 2, none⟩ = some (.int .i64 a0_Win) ∧ w'.cell? ⟨w.heap.size, 3, none⟩ = some (.int .i64 a0_Out) ∧ w'.cell? ⟨w.heap.size, 4, none⟩ = some (.int .i64 a0_Quantum) ∧ w'.cell? ⟨w.heap.size, 5, none⟩ = some (.int .i64 a0_Visits)) (by kernel_rfl) (by kernel_rfl) (setup_S HC2.out (by omega) (Below.refl _ _).drew) ?_
    repeat (first
        | go_big_quiet_skip
        | (go_big_quiet_want
           unfold Oper.quiet
           apply Exists.intro
           refine ⟨fun wq hwq => ?_, ?_⟩
           · (obtain ⟨hbq, c0, c1, c2, c3, c4, c5⟩ := hwq
              unfold Oper.quietAt
              go_simp
              first
                | exact ⟨rfl, rfl⟩
                | exact rfl
                | (go_at_call 13; refine (turns_any _ _ _ _ _ _ _).mono ?_; rintro e w3 ⟨he, hb2⟩; exact ⟨he, setup_S HC2.out (by omega) (below_on hs2 hbq hb2)⟩)
                | (go_at_call 14; refine (rturns_any _ _ _ _ _ _ _).mono ?_; rintro e w3 ⟨he, hb2⟩; exact ⟨he, setup_S HC2.out (by omega) (below_on hs2 hbq hb2)⟩)
                | (go_at_call 15; refine (wait_any _ _ _ _ _ _ _).mono ?_; rintro e w3 ⟨he, hb2⟩; exact ⟨he, setup_S HC2.out (by omega) (below_on hs2 hbq hb2)⟩)
                | (go_at_call 16; refine (rwait_any _ _ _ _ _ _ _).mono ?_; rintro e w3 ⟨he, hb2⟩; exact ⟨he, setup_S HC2.out (by omega) (below_on hs2 hbq hb2)⟩)
                | (go_at_call 17; refine (until_any _ _ _ _ _ _ _ _ (by omega) (by omega) _).mono ?_; rintro e w3 ⟨he, hb2⟩; exact ⟨he, setup_S HC2.out (by omega) (below_on hs2 hbq hb2)⟩)
                | (go_at_call 18; refine (runtil_any _ _ _ _ _ _ _ _ (by omega) (by omega) _).mono ?_; rintro e w3 ⟨he, hb2⟩; exact ⟨he, setup_S HC2.out (by omega) (below_on hs2 hbq hb2)⟩)
                | (go_at_call 10; refine (most_any _ _ _ _ _ _ _).mono ?_; rintro e w3 ⟨he, hb2⟩; exact ⟨he, setup_S HC2.out (by omega) (below_on hs2 hbq hb2)⟩)
                | (go_at_call 12; refine (lives_any _).mono ?_; rintro e w3 ⟨he, hb2⟩; exact ⟨he, setup_S HC2.out (by omega) (below_on hs2 hbq hb2)⟩))
           simp only [Act.put, List.setIfInBounds_toArray, List.set_cons_zero, List.set_cons_succ]
           go_big_quiet_on))
    refine wpQuiet_nil ?_
    intro w4 hw4
    obtain ⟨HB4, HC4⟩ := hw4

    obtain ⟨c0, c1, c2, c3, c4, c5⟩ := HC4
    go_wp2_with (first
      | (go_at_call 8; refine (rgood_any _ _ _ _ _ _ _).mono ?_; rintro e w5 ⟨rfl, hb5⟩; have HB5 := below_on hs2 (by assumption) hb5; obtain ⟨d0, d1, d2, d3, d4, d5⟩ := (setup_S HC2.out (by omega) HB5).2)
      | (go_at_call 13; refine (turns_any _ _ _ _ _ _ _).mono ?_; rintro e w5 ⟨rfl, hb5⟩; have HB5 := below_on hs2 (by assumption) hb5; obtain ⟨d0, d1, d2, d3, d4, d5⟩ := (setup_S HC2.out (by omega) HB5).2)
      | (go_at_call 12; refine (lives_any _).mono ?_; rintro e w5 ⟨rfl, hb5⟩; have HB5 := below_on hs2 (by assumption) hb5; obtain ⟨d0, d1, d2, d3, d4, d5⟩ := (setup_S HC2.out (by omega) HB5).2))
    go_ret
    exact ⟨rfl, HB2.out.trans (Below.mono (B := w.heap.size + 1) (by assumption) (by omega))⟩
  case true =>
    have bd := Co.good_bd hg
    have tb := Co.turns_bd a0_Live a0_Ring a0_Win a0_Out a0_Quantum a0_Visits
    have tg := turns_ge hg
    have m1 := Co.turns_mul a0_Live a0_Ring a0_Win a0_Out a0_Quantum a0_Visits hg (Co.turns a0_Live a0_Ring a0_Win a0_Out a0_Quantum a0_Visits) (by omega) (by omega)
    have m2 := Co.turns_mul a0_Live a0_Ring a0_Win a0_Out a0_Quantum a0_Visits hg (Co.turns a0_Live a0_Ring a0_Win a0_Out a0_Quantum a0_Visits - 1) (by omega) (by omega)
    have s1 : IntKind.i64.wrap (Co.turns a0_Live a0_Ring a0_Win a0_Out a0_Quantum a0_Visits * a0_Quantum) = Co.turns a0_Live a0_Ring a0_Win a0_Out a0_Quantum a0_Visits * a0_Quantum := IntWalk.i64_in _ (by omega)
    have s2 : IntKind.i64.wrap (Co.turns a0_Live a0_Ring a0_Win a0_Out a0_Quantum a0_Visits - 1) = Co.turns a0_Live a0_Ring a0_Win a0_Out a0_Quantum a0_Visits - 1 := IntWalk.i64_in _ (by omega)
    have s3 : IntKind.i64.wrap ((Co.turns a0_Live a0_Ring a0_Win a0_Out a0_Quantum a0_Visits - 1) * a0_Quantum) = (Co.turns a0_Live a0_Ring a0_Win a0_Out a0_Quantum a0_Visits - 1) * a0_Quantum := IntWalk.i64_in _ (by omega)
    have p1 : decide (Co.most a0_Live a0_Ring a0_Win a0_Out a0_Quantum a0_Visits ≤ Co.turns a0_Live a0_Ring a0_Win a0_Out a0_Quantum a0_Visits * a0_Quantum) = true := by simpa using tg.1
    have p2 : decide ((Co.turns a0_Live a0_Ring a0_Win a0_Out a0_Quantum a0_Visits - 1) * a0_Quantum < Co.most a0_Live a0_Ring a0_Win a0_Out a0_Quantum a0_Visits) = true := by simpa using tg.2.1
    go_enter Try.func4, Try.ntmps4
    go_wp2
    have HC2 := Lib.hid (setup_new w a0_Live a0_Ring a0_Win a0_Out a0_Quantum a0_Visits 23)
    have hs2 : w.heap.size + 1 ≤ (w.alloc (Obj.cells #[Value.int IntKind.i64 a0_Live, Value.int IntKind.i64 a0_Ring, Value.int IntKind.i64 a0_Win, Value.int IntKind.i64 a0_Out, Value.int IntKind.i64 a0_Quantum, Value.int IntKind.i64 a0_Visits] 23)).heap.size := by simp
    have HB2 : Hid (Below w.heap.size w (w.alloc (Obj.cells #[Value.int IntKind.i64 a0_Live, Value.int IntKind.i64 a0_Ring, Value.int IntKind.i64 a0_Win, Value.int IntKind.i64 a0_Out, Value.int IntKind.i64 a0_Quantum, Value.int IntKind.i64 a0_Visits] 23))) := Lib.hid ((Below.refl _ _).alloc (Nat.le_refl _) _)
    revert HC2 hs2 HB2
    generalize (w.alloc (Obj.cells #[Value.int IntKind.i64 a0_Live, Value.int IntKind.i64 a0_Ring, Value.int IntKind.i64 a0_Win, Value.int IntKind.i64 a0_Out, Value.int IntKind.i64 a0_Quantum, Value.int IntKind.i64 a0_Visits] 23)) = w2
    intro HC2 hs2 HB2
    refine wp_region_class (fun w' => Below (w.heap.size + 1) w2 w' ∧ w'.cell? ⟨w.heap.size, 0, none⟩ = some (.int .i64 a0_Live) ∧ w'.cell? ⟨w.heap.size, 1, none⟩ = some (.int .i64 a0_Ring) ∧ w'.cell? ⟨w.heap.size, 2, none⟩ = some (.int .i64 a0_Win) ∧ w'.cell? ⟨w.heap.size, 3, none⟩ = some (.int .i64 a0_Out) ∧ w'.cell? ⟨w.heap.size, 4, none⟩ = some (.int .i64 a0_Quantum) ∧ w'.cell? ⟨w.heap.size, 5, none⟩ = some (.int .i64 a0_Visits)) (by kernel_rfl) (by kernel_rfl) (setup_S HC2.out (by omega) (Below.refl _ _).drew) ?_
    repeat (first
        | go_big_quiet_skip
        | (go_big_quiet_want
           unfold Oper.quiet
           apply Exists.intro
           refine ⟨fun wq hwq => ?_, ?_⟩
           · (obtain ⟨hbq, c0, c1, c2, c3, c4, c5⟩ := hwq
              unfold Oper.quietAt
              go_simp
              first
                | exact ⟨rfl, rfl⟩
                | exact rfl
                | (go_at_call 13; refine (turns_any _ _ _ _ _ _ _).mono ?_; rintro e w3 ⟨he, hb2⟩; exact ⟨he, setup_S HC2.out (by omega) (below_on hs2 hbq hb2)⟩)
                | (go_at_call 14; refine (rturns_any _ _ _ _ _ _ _).mono ?_; rintro e w3 ⟨he, hb2⟩; exact ⟨he, setup_S HC2.out (by omega) (below_on hs2 hbq hb2)⟩)
                | (go_at_call 15; refine (wait_any _ _ _ _ _ _ _).mono ?_; rintro e w3 ⟨he, hb2⟩; exact ⟨he, setup_S HC2.out (by omega) (below_on hs2 hbq hb2)⟩)
                | (go_at_call 16; refine (rwait_any _ _ _ _ _ _ _).mono ?_; rintro e w3 ⟨he, hb2⟩; exact ⟨he, setup_S HC2.out (by omega) (below_on hs2 hbq hb2)⟩)
                | (go_at_call 17; refine (until_any _ _ _ _ _ _ _ _ (by omega) (by omega) _).mono ?_; rintro e w3 ⟨he, hb2⟩; exact ⟨he, setup_S HC2.out (by omega) (below_on hs2 hbq hb2)⟩)
                | (go_at_call 18; refine (runtil_any _ _ _ _ _ _ _ _ (by omega) (by omega) _).mono ?_; rintro e w3 ⟨he, hb2⟩; exact ⟨he, setup_S HC2.out (by omega) (below_on hs2 hbq hb2)⟩)
                | (go_at_call 10; refine (most_any _ _ _ _ _ _ _).mono ?_; rintro e w3 ⟨he, hb2⟩; exact ⟨he, setup_S HC2.out (by omega) (below_on hs2 hbq hb2)⟩)
                | (go_at_call 12; refine (lives_any _).mono ?_; rintro e w3 ⟨he, hb2⟩; exact ⟨he, setup_S HC2.out (by omega) (below_on hs2 hbq hb2)⟩))
           simp only [Act.put, List.setIfInBounds_toArray, List.set_cons_zero, List.set_cons_succ]
           go_big_quiet_on))
    refine wpQuiet_nil ?_
    intro w4 hw4
    obtain ⟨HB4, HC4⟩ := hw4

    obtain ⟨c0, c1, c2, c3, c4, c5⟩ := HC4
    go_wp2_with (go_at_call 8; refine (rgood_any _ _ _ _ _ _ _).mono ?_; rintro e w5 ⟨rfl, hb5⟩; have HB5 := below_on hs2 (by assumption) hb5; obtain ⟨d0, d1, d2, d3, d4, d5⟩ := (setup_S HC2.out (by omega) HB5).2)
    clear c0 c1 c2 c3 c4 c5
    refine wp_region_class (fun w' => Below (w.heap.size + 1) w2 w' ∧ w'.cell? ⟨w.heap.size, 0, none⟩ = some (.int .i64 a0_Live) ∧ w'.cell? ⟨w.heap.size, 1, none⟩ = some (.int .i64 a0_Ring) ∧ w'.cell? ⟨w.heap.size, 2, none⟩ = some (.int .i64 a0_Win) ∧ w'.cell? ⟨w.heap.size, 3, none⟩ = some (.int .i64 a0_Out) ∧ w'.cell? ⟨w.heap.size, 4, none⟩ = some (.int .i64 a0_Quantum) ∧ w'.cell? ⟨w.heap.size, 5, none⟩ = some (.int .i64 a0_Visits)) (by kernel_rfl) (by kernel_rfl) (setup_S HC2.out (by omega) HB5.drew) ?_
    repeat (first
        | go_big_quiet_skip
        | (go_big_quiet_want
           unfold Oper.quiet
           apply Exists.intro
           refine ⟨fun wq hwq => ?_, ?_⟩
           · (obtain ⟨hbq, c0, c1, c2, c3, c4, c5⟩ := hwq
              unfold Oper.quietAt
              go_simp
              first
                | exact ⟨rfl, rfl⟩
                | exact rfl
                | (go_at_call 13; refine (turns_any _ _ _ _ _ _ _).mono ?_; rintro e w3 ⟨he, hb2⟩; exact ⟨he, setup_S HC2.out (by omega) (below_on hs2 hbq hb2)⟩)
                | (go_at_call 14; refine (rturns_any _ _ _ _ _ _ _).mono ?_; rintro e w3 ⟨he, hb2⟩; exact ⟨he, setup_S HC2.out (by omega) (below_on hs2 hbq hb2)⟩)
                | (go_at_call 15; refine (wait_any _ _ _ _ _ _ _).mono ?_; rintro e w3 ⟨he, hb2⟩; exact ⟨he, setup_S HC2.out (by omega) (below_on hs2 hbq hb2)⟩)
                | (go_at_call 16; refine (rwait_any _ _ _ _ _ _ _).mono ?_; rintro e w3 ⟨he, hb2⟩; exact ⟨he, setup_S HC2.out (by omega) (below_on hs2 hbq hb2)⟩)
                | (go_at_call 17; refine (until_any _ _ _ _ _ _ _ _ (by omega) (by omega) _).mono ?_; rintro e w3 ⟨he, hb2⟩; exact ⟨he, setup_S HC2.out (by omega) (below_on hs2 hbq hb2)⟩)
                | (go_at_call 18; refine (runtil_any _ _ _ _ _ _ _ _ (by omega) (by omega) _).mono ?_; rintro e w3 ⟨he, hb2⟩; exact ⟨he, setup_S HC2.out (by omega) (below_on hs2 hbq hb2)⟩)
                | (go_at_call 10; refine (most_any _ _ _ _ _ _ _).mono ?_; rintro e w3 ⟨he, hb2⟩; exact ⟨he, setup_S HC2.out (by omega) (below_on hs2 hbq hb2)⟩)
                | (go_at_call 12; refine (lives_any _).mono ?_; rintro e w3 ⟨he, hb2⟩; exact ⟨he, setup_S HC2.out (by omega) (below_on hs2 hbq hb2)⟩))
           simp only [Act.put, List.setIfInBounds_toArray, List.set_cons_zero, List.set_cons_succ]
           go_big_quiet_on))
    refine wpQuiet_nil ?_
    intro w6 hw6
    obtain ⟨HB6, HC6⟩ := hw6
    go_wp2
    go_ret
    exact ⟨rfl, HB2.out.trans (HB6.mono (by omega))⟩

set_option maxRecDepth 100000 in
theorem lifted (os : Os) (started : os.Started) (H : Type) (enc : TypeId × Value → H) :
    ReturnsInHanded {} Try.checked os 4 .any (Rows.costWaitsSpec.pre6 enc Try.prog Try.f4 Rows.costWaitsRow.domain false) (Rows.costWaitsSpec.post enc Try.prog Try.f4 false true false false) := by
  refine returnsInHanded_of_change (C := Try.checked) ownKn started (by kernel_rfl) Try.func4
    (ChangeSpec.witness6 (enc := enc) (C := Try.checked) false ⟨#[], #[.agg #[.int .i64 0, .int .i64 0, .int .i64 0, .int .i64 0, .int .i64 0, .int .i64 0], .int .i64 0, .int .i64 0], []⟩ 8 (by kernel_rfl) (by kernel_rfl) (by kernel_rfl) (by kernel_rfl)) ?_
  intro W base args ds gs before hval0 hW hcnd _
  have hval : ∀ (j : Nat) t v, Try.f4.params[j]? = some t → args[j]? = some v → Value.okWide Try.prog W .any base t v := hval0
  have hW' := hW
  obtain ⟨p, q, hA0, hV, rfl, hfz, hnd⟩ := hW
  have hA : DataW.TrodAll enc Try.prog W 0 (fun _ => true) true Try.f4.params.toList args.toList ds p := hA0
  rw [Try.params4] at hA hval
  obtain ⟨v0, vs0, d0, ds0, p0, q0, hargs, rfl, rfl, h0, r0⟩ := trodAll_cons hA
  obtain ⟨v1, vs1, d1, ds1, p1, q1, rfl, rfl, rfl, h1, r1⟩ := trodAll_cons r0
  obtain ⟨v2, vs2, d2, ds2, p2, q2, rfl, rfl, rfl, h2, r2⟩ := trodAll_cons r1
  obtain ⟨rfl, rfl, rfl⟩ := trodAll_nil r2
  obtain rfl : args = #[v0, v1, v2] := by cases args; simp_all
  obtain ⟨rfl, rfl⟩ := trodVars_none hV
  have k0 := h0
  have lt0 : ∀ x ∈ p0, x.block < W.heap.size := by obtain ⟨m, hm⟩ := k0; exact DataW.trod_lt m _ _ _ hm
  obtain ⟨u0_0, u0_1, u0_2, u0_3, u0_4, u0_5, y0_0, y0_1, y0_2, y0_3, y0_4, y0_5, nn0, rfl, _, _, g0_0, g0_1, g0_2, g0_3, g0_4, g0_5⟩ := open_flat6 Try.underlying23 (by kernel_rfl) (by kernel_rfl) (hval 0 23 v0 rfl rfl) h0
  obtain ⟨a0_Live, rfl, w0_Live⟩ := fld_int Try.underlying3 g0_0
  obtain ⟨a0_Ring, rfl, w0_Ring⟩ := fld_int Try.underlying3 g0_1
  obtain ⟨a0_Win, rfl, w0_Win⟩ := fld_int Try.underlying3 g0_2
  obtain ⟨a0_Out, rfl, w0_Out⟩ := fld_int Try.underlying3 g0_3
  obtain ⟨a0_Quantum, rfl, w0_Quantum⟩ := fld_int Try.underlying3 g0_4
  obtain ⟨a0_Visits, rfl, w0_Visits⟩ := fld_int Try.underlying3 g0_5
  have k1 := h1
  have lt1 : ∀ x ∈ p1, x.block < W.heap.size := by obtain ⟨m, hm⟩ := k1; exact DataW.trod_lt m _ _ _ hm
  obtain ⟨a1, rfl, rfl, rfl, w1⟩ := open_int Try.underlying2 (hval 1 2 v1 rfl rfl) h1
  have k2 := h2
  have lt2 : ∀ x ∈ p2, x.block < W.heap.size := by obtain ⟨m, hm⟩ := k2; exact DataW.trod_lt m _ _ _ hm
  obtain ⟨a2, rfl, rfl, rfl, w2⟩ := open_int Try.underlying2 (hval 2 2 v2 rfl rfl) h2
  clear hA0 hval0
  refine (walk a0_Live a0_Ring a0_Win a0_Out a0_Quantum a0_Visits a1 a2 W w0_Live w0_Ring w0_Win w0_Out w0_Quantum w0_Visits w1 w2).mono fun e W' ⟨he, bel⟩ => ?_
  subst he
  exact ⟨_, rfl, _, _, _, [], _, [], hW', trodAll_mk1 (shut_bool Try.underlying4 _), (trodAll_cons_mk (Below.trod laidOut (by kernel_rfl) (of_decide_eq_true (by kernel_rfl)) k0 bel lt0) (trodAll_cons_mk (Below.trod laidOut (by kernel_rfl) (of_decide_eq_true (by kernel_rfl)) k1 bel lt1) (trodAll_cons_mk (Below.trod laidOut (by kernel_rfl) (of_decide_eq_true (by kernel_rfl)) k2 bel lt2) trodAll_mk0))), rfl, bel.frame _, fun h => by cases h⟩

theorem over : Rows.costWaitsRow.holds Try.pinned (OpenSpec.ofChange Rows.costWaitsSpec) :=
  OpenClaim.holds_of_wide 4 Try.f4 rfl rfl rfl rfl rfl rfl rfl ⟨rfl, rfl, rfl, rfl, rfl⟩ rfl rfl rfl rfl rfl (by kernel_rfl) Try.func4 (by kernel_rfl)
    (of_decide_eq_true (by kernel_rfl)) (by unfold Func.isWrapper; first | (rw [if_pos (by decide +kernel)]; kernel_rfl) | (rw [if_neg (by decide +kernel)]; exact ⟨rfl, rfl⟩))
    (fun os started H enc _ => lifted os started H enc)

/-- The statement. -/
theorem proved : Rows.CostWaitsSaid := over
#print axioms proved
end Go.Proofs.Yteodknfmghnalaa.costWaits
