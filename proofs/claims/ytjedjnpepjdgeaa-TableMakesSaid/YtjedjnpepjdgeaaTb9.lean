/- Tables: the document's numbers of a state. -/
import Derived.Test.YtjedjnpepjdgeaaTb8
namespace Go.Proofs.Ytjedjnpepjdgeaa
open Go.ChangeShapes Go.WideShapes Go.ChangeAt Go.RowKit
set_option linter.unusedSimpArgs false
set_option linter.unusedVariables false

set_option maxRecDepth 20000 in
set_option maxHeartbeats 8000000 in
theorem r9_numbers (l : List (Bool × BitVec 256)) (n : Nat) (a : Option Addr) (c : Nat) (hn : l.length = n) (hn6 : n ≤ 100) (X : BitVec 64) (x : Int) (hx : (X.toNat : Int) = x) (w : World) (hI : IA w a l) :
    Calls Try.prog 70 #[.slice a n c, .int .u64 x] w fun e w' => ∃ g c', e = .returned (.slice (some ⟨g, 0, none⟩) (n + 1) c') ∧ w.heap.size ≤ g ∧ Rw w' g c' (bl (Lg.P (lgL l) X.getLsbD) (n + 1)) 4 ∧ Below w.heap.size w w' := by
  obtain ⟨i0, hi, hz0, hz1, hz2⟩ := info_split infob
  have HIN := Lib.hid (And.intro hi (And.intro hz0 (And.intro hz1 hz2)))
  have HG := Lib.hid (And.intro hI hn)
  have HX := Lib.hid hx
  have HE : Hid (Below w.heap.size w (w.alloc (.cells #[] 4)) ∧ (w.alloc (.cells #[] 4)).ownsRow w.heap.size 4 1 (.slice (some ⟨w.heap.size, 0, none⟩) 0 0) (0) (bl (Lg.P (lgL l) X.getLsbD) (0)) ∧ w.heap.size ≤ (w.alloc (.cells #[] 4)).heap.size) := Lib.hid ⟨(Below.refl _ _).alloc (Nat.le_refl _) _, World.ownsRow_lit w #[] 0 (Nat.le_refl _) (by decide) rfl, by simp⟩
  clear hI hn hx hi hz0 hz1 hz2
  go_enter Try.func70, Try.ntmps70
  go_upto_region 2 with fail
  revert HE
  generalize w.alloc (.cells #[] 4) = W1
  intro HE
  go_wp2_with fail
  go_loopw [5, 6] (fun v i wr => ∃ k : Nat, i = .int .i64 k ∧ k ≤ n + 1 ∧ Hid (Below w.heap.size w wr ∧ wr.ownsRow w.heap.size 4 1 v (k) (bl (Lg.P (lgL l) X.getLsbD) (k)) ∧ w.heap.size ≤ wr.heap.size)) (fun _ i _ => n + 1 - (intOf i).toNat)
  case atStart => exact ⟨0, rfl, by omega, HE⟩
  case round =>
    clear HE
    obtain ⟨k, rfl, hk, HB⟩ := hrel
    have k0 : (0 : Int) ≤ (k : Int) := by omega
    by_cases hkn : k ≤ n
    · have hkI : (k : Int) ≤ (n : Int) := by omega
      obtain ⟨b, hb⟩ : ∃ b, X.getLsbD k = b := ⟨_, rfl⟩
      have HI := Lib.hid hb
      clear hb
      cases b with
      | true =>
        obtain ⟨rn, cn, hv⟩ := own_slice HB.out.2.1
        subst hv
        have HV : Hid ((Lg.P (lgL l) X.getLsbD) k = true) := Lib.hid (by cases k with
          | zero => rw [Lg.P]; exact HI.out
          | succ k => rw [Lg.P, HI.out]; rfl)
        go_wp2_with (first
          | (go_at_call 80; with_reducible refine (r9_in X x HX.out k (by omega) true HI.out _).mono ?_; rintro e W1 ⟨rfl, rfl⟩)
          | (at_builtin; refine wpList_append_own _ rfl _ _ 82 rfl w.heap.size 4 i0 (.bool false) 1 1 Try.underlying82 HIN.out.1 HIN.out.2.1 HIN.out.2.2.1 HIN.out.2.2.2 rfl (by decide) _ _ _ rfl (HB.out.2.1.alloc _) ⟨_, 0, none⟩ 1 1 [.bool true] rfl rfl (one_new _ _ _) (one_b _) (by unfold maxLen; omega) (by omega) (by have := HB.out.2.2; simp; omega) ?_; intro v9 w3 hown hgrow _; have HN : Hid (Below w.heap.size w w3 ∧ w3.ownsRow w.heap.size 4 1 v9 (k + 1) (bl (Lg.P (lgL l) X.getLsbD) (k + 1)) ∧ w.heap.size ≤ w3.heap.size) := Lib.hid (by
            obtain ⟨q1, q2, q3, q4⟩ := app_b HB.out.1 HB.out.2.1 HB.out.2.2 _ hgrow (Nat.le_refl _) hown (show bl (Lg.P (lgL l) X.getLsbD) (k + 1) = bl (Lg.P (lgL l) X.getLsbD) k ++ [.bool true] by rw [bl_snoc, HV.out])
            exact ⟨q1, q2, q3⟩); clear hown hgrow))
        refine ⟨?_, ?measure⟩
        case measure => simp [intOf]; omega
        first
          | exact ⟨k + 1, by go_num, by omega, HN⟩
          | ((repeat apply Exists.intro); exact ⟨⟨k + 1, by go_num, by omega, HN⟩, rfl⟩)
      | false =>
        by_cases hk1 : k = 0
        · obtain ⟨rn, cn, hv⟩ := own_slice HB.out.2.1
          subst hv
          have HV : Hid ((Lg.P (lgL l) X.getLsbD) k = false) := Lib.hid (by rw [hk1, Lg.P]; have := HI.out; rw [hk1] at this; exact this)
          have kI : ¬ (0 : Int) < (k : Int) := by omega
          have kN : ¬ 0 < k := by omega
          clear hk1
          go_wp2_with (first
            | (go_at_call 80; with_reducible refine (r9_in X x HX.out k (by omega) false HI.out _).mono ?_; rintro e W1 ⟨rfl, rfl⟩)
            | (at_builtin; refine wpList_append_own _ rfl _ _ 82 rfl w.heap.size 4 i0 (.bool false) 1 1 Try.underlying82 HIN.out.1 HIN.out.2.1 HIN.out.2.2.1 HIN.out.2.2.2 rfl (by decide) _ _ _ rfl (HB.out.2.1.alloc _) ⟨_, 0, none⟩ 1 1 [.bool false] rfl rfl (one_new _ _ _) (one_b _) (by unfold maxLen; omega) (by omega) (by have := HB.out.2.2; simp; omega) ?_; intro v9 w3 hown hgrow _; have HN : Hid (Below w.heap.size w w3 ∧ w3.ownsRow w.heap.size 4 1 v9 (k + 1) (bl (Lg.P (lgL l) X.getLsbD) (k + 1)) ∧ w.heap.size ≤ w3.heap.size) := Lib.hid (by
              obtain ⟨q1, q2, q3, q4⟩ := app_b HB.out.1 HB.out.2.1 HB.out.2.2 _ hgrow (Nat.le_refl _) hown (show bl (Lg.P (lgL l) X.getLsbD) (k + 1) = bl (Lg.P (lgL l) X.getLsbD) k ++ [.bool false] by rw [bl_snoc, HV.out])
              exact ⟨q1, q2, q3⟩); clear hown hgrow))
          refine ⟨?_, ?measure⟩
          case measure => simp [intOf]; omega
          first
            | exact ⟨k + 1, by go_num, by omega, HN⟩
            | ((repeat apply Exists.intro); exact ⟨⟨k + 1, by go_num, by omega, HN⟩, rfl⟩)
        · obtain ⟨k1, hka, hkb⟩ : ∃ k1, k ≤ k1 + 1 ∧ k1 + 1 ≤ k := ⟨k - 1, by omega, by omega⟩
          have kI : (0 : Int) < (k : Int) := by omega
          have kN : 0 < k := by omega
          have w2 : IntKind.i64.wrap ((k : Int) - 1) = (k1 : Int) := by rw [IntWalk.i64_in _ (by omega)]; omega
          obtain ⟨gr, cr, hv, hBV⟩ := BV.own HB.out.2.1 kN
          subst hv
          obtain ⟨b1, hb1⟩ : ∃ b1, (Lg.P (lgL l) X.getLsbD) k1 = b1 := ⟨_, rfl⟩
          have ci := hBV.2 k1 (by omega)
          rw [hb1] at ci
          have k10 : (0 : Int) ≤ (k1 : Int) := by omega
          have k11 : (k1 : Int) < (k : Int) := by omega
          have k12 : k1 < k := by omega
          have k13 : (k1 : Int) < (n : Int) := by omega
          have k14 : k1 < n := by omega
          obtain ⟨y, hy⟩ : ∃ y, l[k1]? = some y := ⟨_, List.getElem?_eq_getElem (by rw [HG.out.2]; omega)⟩
          obtain ⟨r, Y⟩ := y
          have hL : lgL l k1 = (r, Y) := by unfold lgL; rw [hy]; rfl
          have HP : Hid ((Lg.P (lgL l) X.getLsbD) k = (b1 && r)) := Lib.hid (by
            have e : k = k1 + 1 := by omega
            rw [e, Lg.P, hb1, hL, ← e, HI.out]; rfl)
          obtain ⟨gi, o, ha, hgi, z0, z1, z2, z3, z4⟩ := (HG.out.1.below HB.out.1).cell hy
          subst ha
          dsimp only at z0
          clear hb1 hy hL hgi z1 z2 z3 z4 hBV hk1
          cases b1 with
          | false =>
            have HV : Hid ((Lg.P (lgL l) X.getLsbD) k = false) := Lib.hid (by rw [HP.out]; rfl)
            go_wp2_with (first
              | (go_at_call 80; with_reducible refine (r9_in X x HX.out k (by omega) false HI.out _).mono ?_; rintro e W1 ⟨rfl, rfl⟩)
              | (at_builtin; refine wpList_append_own _ rfl _ _ 82 rfl w.heap.size 4 i0 (.bool false) 1 1 Try.underlying82 HIN.out.1 HIN.out.2.1 HIN.out.2.2.1 HIN.out.2.2.2 rfl (by decide) _ _ _ rfl (HB.out.2.1.alloc _) ⟨_, 0, none⟩ 1 1 [.bool false] rfl rfl (one_new _ _ _) (one_b _) (by unfold maxLen; omega) (by omega) (by have := HB.out.2.2; simp; omega) ?_; intro v9 w3 hown hgrow _; have HN : Hid (Below w.heap.size w w3 ∧ w3.ownsRow w.heap.size 4 1 v9 (k + 1) (bl (Lg.P (lgL l) X.getLsbD) (k + 1)) ∧ w.heap.size ≤ w3.heap.size) := Lib.hid (by
                obtain ⟨q1, q2, q3, q4⟩ := app_b HB.out.1 HB.out.2.1 HB.out.2.2 _ hgrow (Nat.le_refl _) hown (show bl (Lg.P (lgL l) X.getLsbD) (k + 1) = bl (Lg.P (lgL l) X.getLsbD) k ++ [.bool false] by rw [bl_snoc, HV.out])
                exact ⟨q1, q2, q3⟩); clear hown hgrow))
            refine ⟨?_, ?measure⟩
            case measure => simp [intOf]; omega
            first
              | exact ⟨k + 1, by go_num, by omega, HN⟩
              | ((repeat apply Exists.intro); exact ⟨⟨k + 1, by go_num, by omega, HN⟩, rfl⟩)
          | true =>
            have HV : Hid ((Lg.P (lgL l) X.getLsbD) k = r) := Lib.hid (by rw [HP.out]; rfl)
            go_wp2_with (first
              | (go_at_call 80; with_reducible refine (r9_in X x HX.out k (by omega) false HI.out _).mono ?_; rintro e W1 ⟨rfl, rfl⟩)
              | (at_builtin; refine wpList_append_own _ rfl _ _ 82 rfl w.heap.size 4 i0 (.bool false) 1 1 Try.underlying82 HIN.out.1 HIN.out.2.1 HIN.out.2.2.1 HIN.out.2.2.2 rfl (by decide) _ _ _ rfl (HB.out.2.1.alloc _) ⟨_, 0, none⟩ 1 1 [.bool r] rfl rfl (one_new _ _ _) (one_b _) (by unfold maxLen; omega) (by omega) (by have := HB.out.2.2; simp; omega) ?_; intro v9 w3 hown hgrow _; have HN : Hid (Below w.heap.size w w3 ∧ w3.ownsRow w.heap.size 4 1 v9 (k + 1) (bl (Lg.P (lgL l) X.getLsbD) (k + 1)) ∧ w.heap.size ≤ w3.heap.size) := Lib.hid (by
                obtain ⟨q1, q2, q3, q4⟩ := app_b HB.out.1 HB.out.2.1 HB.out.2.2 _ hgrow (Nat.le_refl _) hown (show bl (Lg.P (lgL l) X.getLsbD) (k + 1) = bl (Lg.P (lgL l) X.getLsbD) k ++ [.bool r] by rw [bl_snoc, HV.out])
                exact ⟨q1, q2, q3⟩); clear hown hgrow))
            refine ⟨?_, ?measure⟩
            case measure => simp [intOf]; omega
            first
              | exact ⟨k + 1, by go_num, by omega, HN⟩
              | ((repeat apply Exists.intro); exact ⟨⟨k + 1, by go_num, by omega, HN⟩, rfl⟩)
    · have hkI : ¬ (k : Int) ≤ (n : Int) := by omega
      obtain rfl : k = n + 1 := by omega
      obtain ⟨gr, cr, hv, hBV⟩ := BV.own HB.out.2.1 (by omega)
      subst hv
      obtain ⟨g, cap, e1, e2, e3, _⟩ := Rw.of_own HB.out.2.1 (by simp)
      injection e1 with e4 e5 e6
      injection e4 with e4
      injection e4 with e4
      subst e4
      subst e6
      have HN := Lib.hid (And.intro e2 (And.intro e3 HB.out.1))
      clear hBV e2 e3
      go_wp2
      go_ret
      first
        | exact ⟨_, _, rfl, HN.out⟩
        | exact ⟨_, ⟨_, rfl⟩, HN.out⟩
end Go.Proofs.Ytjedjnpepjdgeaa
