/- Contracts of patterns: whether a list may be, by the document. -/
import Derived.Test.YtkihlnomchhiiaaGl9
namespace Go.Proofs.Ytkihlnomchhiiaa
open Go.ChangeShapes Go.WideShapes Go.ChangeAt Go.RowKit
set_option linter.unusedSimpArgs false
set_option linter.unusedVariables false

set_option maxRecDepth 20000 in
set_option maxHeartbeats 1000000 in
theorem rg_good (l : List (Bool × BitVec 256)) (b : Bool) (hb : goodB l = b) (a : Option Addr) (n c : Nat) (hn : l.length = n) (hn6 : n ≤ 1000000) (w : World) (h : LI w a l) :
    Calls Try.prog 14 #[.slice a n c] w fun e w' => e = .returned (.bool b) ∧ Below w.heap.size w w' := by
  have HG := Lib.hid (And.intro hb hn)
  have HL := Lib.hid h
  clear hb hn h
  have eqz := eqIn_zero
  go_enter Try.func14, Try.ntmps14
  go_wp2
  go_loopw [3] (fun i wr => ∃ k : Nat, i = .int .i64 k ∧ k ≤ n ∧ Hid ((l.take k).all (fun x => !(x.1 && decide (x.2 ≠ 0))) = true) ∧ Hid (LI wr a l ∧ Below w.heap.size w wr)) (fun i _ => n - (intOf i).toNat)
  case atStart => exact ⟨0, rfl, by omega, Lib.hid (by simp), Lib.hid ⟨HL.out, Below.refl _ _⟩⟩
  case round =>
    obtain ⟨k, rfl, hk, HK, HB⟩ := hrel
    have j0 : (0 : Int) ≤ (k : Int) := by omega
    by_cases hkl : k < n
    · obtain ⟨x, hx⟩ : ∃ x, l[k]? = some x := ⟨_, List.getElem?_eq_getElem (by rw [HG.out.2]; exact hkl)⟩
      rcases HB.out.1 with e | ⟨g, ha, HIL⟩
      · rw [e] at hx; simp at hx
      · subst ha
        obtain ⟨r, X⟩ := x
        have z0 := (HIL.cell hx).1
        have z1 := (HIL.cell hx).2.1
        have z2 := (HIL.cell hx).2.2.1
        have z3 := (HIL.cell hx).2.2.2.1
        have z4 := (HIL.cell hx).2.2.2.2
        dsimp only at z0 z1 z2 z3 z4
        have w1 : IntKind.i64.wrap ((k : Int) + 1) = (k : Int) + 1 := IntWalk.i64_in _ (by omega)
        have HX := Lib.hid hx
        have HB2 : Hid (LI wr (some ⟨g, 0, none⟩) l ∧ Below w.heap.size w wr) := Lib.hid ⟨Or.inr ⟨g, rfl, HIL⟩, HB.out.2⟩
        clear hx HIL HB
        cases r with
        | false =>
          have HK2 : Hid ((l.take (k + 1)).all (fun x => !(x.1 && decide (x.2 ≠ 0))) = true) := Lib.hid (by
            rw [List.take_add_one, HX.out, List.all_append, HK.out]; rfl)
          go_wp2
          refine ⟨?_, ?measure⟩
          case measure => simp [intOf]; omega
          first
            | exact ⟨k + 1, by go_num, by omega, HK2, HB2⟩
            | ((repeat apply Exists.intro); exact ⟨⟨k + 1, by go_num, by omega, HK2, HB2⟩, rfl⟩)
        | true =>
          by_cases hX : X = 0
          · have HK2 : Hid ((l.take (k + 1)).all (fun x => !(x.1 && decide (x.2 ≠ 0))) = true) := Lib.hid (by
              rw [List.take_add_one, HX.out, List.all_append, HK.out, hX]; rfl)
            have eq0 : decide (X = 0) = true := decide_eq_true hX
            have eqx : ∀ w, (Op.equalIn 10000 38 (.agg #[.int .u64 (Cs.wd X 0), .int .u64 (Cs.wd X 1), .int .u64 (Cs.wd X 2), .int .u64 (Cs.wd X 3)]) (.agg #[.int .u64 0, .int .u64 0, .int .u64 0, .int .u64 0])).run Try.prog w = .ok true w := fun w => by rw [eqz X w, eq0]
            clear eqz eq0 hX
            go_wp2
            refine ⟨?_, ?measure⟩
            case measure => simp [intOf]; omega
            first
              | exact ⟨k + 1, by go_num, by omega, HK2, HB2⟩
              | ((repeat apply Exists.intro); exact ⟨⟨k + 1, by go_num, by omega, HK2, HB2⟩, rfl⟩)
          · have eq0 : decide (X = 0) = false := decide_eq_false hX
            have eqx : ∀ w, (Op.equalIn 10000 38 (.agg #[.int .u64 (Cs.wd X 0), .int .u64 (Cs.wd X 1), .int .u64 (Cs.wd X 2), .int .u64 (Cs.wd X 3)]) (.agg #[.int .u64 0, .int .u64 0, .int .u64 0, .int .u64 0])).run Try.prog w = .ok false w := fun w => by rw [eqz X w, eq0]
            have HE : Hid (b = false) := Lib.hid (by
              rw [← HG.out.1]
              unfold goodB
              have : (l.all fun x => !(x.1 && decide (x.2 ≠ 0))) = false := by
                rw [Bool.eq_false_iff]
                intro h
                rw [List.all_eq_true] at h
                have := h (true, X) (List.mem_of_getElem? HX.out)
                simp at this
                exact hX (by simpa using this)
              rw [this]; simp)
            have nq : ¬X = 0#256 := hX
            clear eqz eq0 hX
            go_wp2
            go_ret
            exact ⟨by rw [HE.out]; rfl, HB2.out.2⟩
    · obtain rfl : k = n := by omega
      have HE : Hid (b = decide ((k : Int) < 61)) := Lib.hid (by
        rw [← HG.out.1]
        unfold goodB
        have := HK.out
        rw [List.take_of_length_le (by rw [HG.out.2]; exact Nat.le_refl _)] at this
        rw [this, HG.out.2, Bool.and_true]
        exact decide_eq_decide.2 (by omega))
      go_wp2
      go_ret
      exact ⟨by rw [HE.out]; try rfl, HB.out.2⟩
end Go.Proofs.Ytkihlnomchhiiaa
