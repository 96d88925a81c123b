/- Contracts of patterns: two lists item by item, by the program and by the document. -/
import Derived.Test.YtkihlnomchhiiaaGl9
namespace Go.Proofs.Ytkihlnomchhiiaa
open Go.ChangeShapes Go.WideShapes Go.ChangeAt Go.RowKit
set_option linter.unusedSimpArgs false
set_option linter.unusedVariables false

set_option maxRecDepth 20000 in
set_option maxHeartbeats 1000000 in
theorem gl_equal (l m : List (Bool × BitVec 256)) (b : Bool) (hb : decide (l = m) = b) (a a2 : Option Addr) (n c n2 c2 : Nat) (hn : l.length = n) (hn2 : m.length = n2) (hn6 : n ≤ 1000000) (hn7 : n2 ≤ 1000000) (w : World) (h : LI w a l) (h2 : LI w a2 m) :
    Calls Try.prog 24 #[.slice a n c, .slice a2 n2 c2] w fun e w' => e = .returned (.bool b) ∧ Below w.heap.size w w' := by
  by_cases hnn : n = n2
  · subst hnn
    have HG := Lib.hid (And.intro hb (And.intro hn hn2))
    have HL := Lib.hid (And.intro h h2)
    clear hb hn hn2 h h2
    go_enter Try.func24, Try.ntmps24
    go_wp2
    go_loopw [13] (fun i wr => ∃ k : Nat, i = .int .i64 k ∧ k ≤ n ∧ Hid (l.take k = m.take k) ∧ Hid (LI wr a l ∧ LI wr a2 m ∧ Below w.heap.size w wr)) (fun i _ => n - (intOf i).toNat)
    case atStart => exact ⟨0, rfl, by omega, Lib.hid (by simp), Lib.hid ⟨HL.out.1, HL.out.2, Below.refl _ _⟩⟩
    case round =>
      obtain ⟨k, rfl, hk, HK, HB⟩ := hrel
      have j0 : (0 : Int) ≤ (k : Int) := by omega
      by_cases hkl : k < n
      · obtain ⟨x, hx⟩ : ∃ x, l[k]? = some x := ⟨_, List.getElem?_eq_getElem (by rw [HG.out.2.1]; exact hkl)⟩
        obtain ⟨y, hy⟩ : ∃ y, m[k]? = some y := ⟨_, List.getElem?_eq_getElem (by rw [HG.out.2.2]; exact hkl)⟩
        rcases HB.out.1 with e | ⟨g, ha, HIL⟩
        · rw [e] at hx; simp at hx
        · rcases HB.out.2.1 with e | ⟨g2, ha2, HIM⟩
          · rw [e] at hy; simp at hy
          · subst ha; subst ha2
            have w1 : IntKind.i64.wrap ((k : Int) + 1) = (k : Int) + 1 := IntWalk.i64_in _ (by omega)
            obtain ⟨r, X⟩ := x
            obtain ⟨s, Y⟩ := y
            have HX := Lib.hid (And.intro hx hy)
            have HB2 : Hid (IL wr g l ∧ IL wr g2 m ∧ Below w.heap.size w wr) := Lib.hid ⟨HIL, HIM, HB.out.2.2⟩
            have eqi := eqItem r s X Y
            obtain ⟨q, hq⟩ : ∃ q, (r == s && decide (X = Y)) = q := ⟨_, rfl⟩
            have HQ : Hid (q = decide ((r, X) = (s, Y))) := Lib.hid (by rw [← hq, Bool.eq_iff_iff]; simp)
            rw [hq] at eqi
            clear hx hy hq HIL HIM HB
            go_wp2_with fail
            refine wp_region_class (fun w' => IL w' g l ∧ IL w' g2 m ∧ Below w.heap.size w w') (by kernel_rfl) (by kernel_rfl) ⟨HB2.out.1, HB2.out.2.1, HB2.out.2.2.drew⟩ ?_
            repeat (first
                | go_big_quiet_skip
                | (go_big_quiet_want
                   unfold Oper.quiet
                   apply Exists.intro
                   refine ⟨fun wq hwq => ?_, ?_⟩
                   · (obtain ⟨hq1, hq2, hq3⟩ := hwq
                      obtain ⟨z0, z1, z2, z3, z4⟩ := hq1.cell HX.out.1
                      obtain ⟨y0, y1, y2, y3, y4⟩ := hq2.cell HX.out.2
                      dsimp only at z0 z1 z2 z3 z4 y0 y1 y2 y3 y4
                      unfold Oper.quietAt
                      go_simp
                      first
                        | exact ⟨rfl, hq1, hq2, hq3⟩
                        | exact rfl)
                   simp only [Act.put, List.setIfInBounds_toArray, List.set_cons_zero, List.set_cons_succ]
                   go_big_quiet_on))
            refine wpQuiet_nil ?_
            intro w4 hw4
            have HB4 : Hid (LI w4 (some ⟨g, 0, none⟩) l ∧ LI w4 (some ⟨g2, 0, none⟩) m ∧ Below w.heap.size w w4) := Lib.hid ⟨Or.inr ⟨g, rfl, hw4.1⟩, Or.inr ⟨g2, rfl, hw4.2.1⟩, hw4.2.2⟩
            clear hw4
            cases q with
            | true =>
              have HK2 : Hid (l.take (k + 1) = m.take (k + 1)) := Lib.hid (by
                rw [take_more l k _ HX.out.1, take_more m k _ HX.out.2, HK.out, of_decide_eq_true HQ.out.symm])
              go_wp2
              refine ⟨?_, ?measure⟩
              case measure => simp [intOf]; omega
              first
                | exact ⟨k + 1, by go_num, by omega, HK2, HB4⟩
                | ((repeat apply Exists.intro); exact ⟨⟨k + 1, by go_num, by omega, HK2, HB4⟩, rfl⟩)
            | false =>
              have HE : Hid (b = false) := Lib.hid (by
                rw [← HG.out.1]
                refine decide_eq_false fun e => ?_
                have h := HX.out.1
                rw [e, HX.out.2] at h
                exact of_decide_eq_false HQ.out.symm (Option.some.inj h).symm)
              go_wp2
              go_ret
              exact ⟨by rw [HE.out]; rfl, HB4.out.2.2⟩
      · obtain rfl : k = n := by omega
        have HE : Hid (b = true) := Lib.hid (by
          rw [← HG.out.1]
          refine decide_eq_true ?_
          have := HK.out
          rwa [List.take_of_length_le (by rw [HG.out.2.1]; exact Nat.le_refl _), List.take_of_length_le (by rw [HG.out.2.2]; exact Nat.le_refl _)] at this)
        go_wp2
        go_ret
        exact ⟨by rw [HE.out]; rfl, HB.out.2.2⟩
  · obtain rfl : b = false := by rw [← hb]; exact decide_eq_false fun e => hnn (by rw [← hn, ← hn2, e])
    have hne : ((n : Int) == n2) = false := by rw [beq_eq_false_iff_ne]; omega
    clear hb hn hn2 h h2
    go_enter Try.func24, Try.ntmps24
    go_wp2
    go_ret
    exact ⟨rfl, Below.refl _ _⟩
theorem gl_same (l m : List (Bool × BitVec 256)) (b : Bool) (hb : decide (l = m) = b) (a a2 : Option Addr) (n c n2 c2 : Nat) (hn : l.length = n) (hn2 : m.length = n2) (hn6 : n ≤ 1000000) (hn7 : n2 ≤ 1000000) (w : World) (h : LI w a l) (h2 : LI w a2 m) :
    Calls Try.prog 15 #[.slice a n c, .slice a2 n2 c2] w fun e w' => e = .returned (.bool b) ∧ Below w.heap.size w w' := by
  have HG := Lib.hid (And.intro hb (And.intro hn (And.intro hn2 (And.intro h h2))))
  clear hb hn hn2 h h2
  go_enter Try.func15, Try.ntmps15
  go_wp2_with (go_at_call 24; with_reducible refine (gl_equal l m b HG.out.1 a a2 n c n2 c2 HG.out.2.1 HG.out.2.2.1 hn6 hn7 _ HG.out.2.2.2.1 HG.out.2.2.2.2).mono ?_; rintro e W1 ⟨rfl, hb1⟩; have HB1 := Lib.hid hb1; clear hb1)
  go_ret
  exact ⟨rfl, HB1.out⟩
set_option maxRecDepth 20000 in
set_option maxHeartbeats 1000000 in
theorem rg_same (l m : List (Bool × BitVec 256)) (b : Bool) (hb : decide (l = m) = b) (a a2 : Option Addr) (n c n2 c2 : Nat) (hn : l.length = n) (hn2 : m.length = n2) (hn6 : n ≤ 1000000) (hn7 : n2 ≤ 1000000) (w : World) (h : LI w a l) (h2 : LI w a2 m) :
    Calls Try.prog 9 #[.slice a n c, .slice a2 n2 c2] w fun e w' => e = .returned (.bool b) ∧ Below w.heap.size w w' := by
  by_cases hnn : n = n2
  · subst hnn
    have HG := Lib.hid (And.intro hb (And.intro hn hn2))
    have HL := Lib.hid (And.intro h h2)
    clear hb hn hn2 h h2
    go_enter Try.func9, Try.ntmps9
    go_wp2
    go_loopw [5] (fun i wr => ∃ k : Nat, i = .int .i64 k ∧ k ≤ n ∧ Hid (l.take k = m.take k) ∧ Hid (LI wr a l ∧ LI wr a2 m ∧ Below w.heap.size w wr)) (fun i _ => n - (intOf i).toNat)
    case atStart => exact ⟨0, rfl, by omega, Lib.hid (by simp), Lib.hid ⟨HL.out.1, HL.out.2, Below.refl _ _⟩⟩
    case round =>
      obtain ⟨k, rfl, hk, HK, HB⟩ := hrel
      have j0 : (0 : Int) ≤ (k : Int) := by omega
      by_cases hkl : k < n
      · obtain ⟨x, hx⟩ : ∃ x, l[k]? = some x := ⟨_, List.getElem?_eq_getElem (by rw [HG.out.2.1]; exact hkl)⟩
        obtain ⟨y, hy⟩ : ∃ y, m[k]? = some y := ⟨_, List.getElem?_eq_getElem (by rw [HG.out.2.2]; exact hkl)⟩
        rcases HB.out.1 with e | ⟨g, ha, HIL⟩
        · rw [e] at hx; simp at hx
        · rcases HB.out.2.1 with e | ⟨g2, ha2, HIM⟩
          · rw [e] at hy; simp at hy
          · subst ha; subst ha2
            have w1 : IntKind.i64.wrap ((k : Int) + 1) = (k : Int) + 1 := IntWalk.i64_in _ (by omega)
            obtain ⟨r, X⟩ := x
            obtain ⟨s, Y⟩ := y
            have HX := Lib.hid (And.intro hx hy)
            have HB2 : Hid (IL wr g l ∧ IL wr g2 m ∧ Below w.heap.size w wr) := Lib.hid ⟨HIL, HIM, HB.out.2.2⟩
            have eqi := eqItem r s X Y
            obtain ⟨q, hq⟩ : ∃ q, (r == s && decide (X = Y)) = q := ⟨_, rfl⟩
            have HQ : Hid (q = decide ((r, X) = (s, Y))) := Lib.hid (by rw [← hq, Bool.eq_iff_iff]; simp)
            rw [hq] at eqi
            clear hx hy hq HIL HIM HB
            go_wp2_with fail
            refine wp_region_class (fun w' => IL w' g l ∧ IL w' g2 m ∧ Below w.heap.size w w') (by kernel_rfl) (by kernel_rfl) ⟨HB2.out.1, HB2.out.2.1, HB2.out.2.2.drew⟩ ?_
            repeat (first
                | go_big_quiet_skip
                | (go_big_quiet_want
                   unfold Oper.quiet
                   apply Exists.intro
                   refine ⟨fun wq hwq => ?_, ?_⟩
                   · (obtain ⟨hq1, hq2, hq3⟩ := hwq
                      obtain ⟨z0, z1, z2, z3, z4⟩ := hq1.cell HX.out.1
                      obtain ⟨y0, y1, y2, y3, y4⟩ := hq2.cell HX.out.2
                      dsimp only at z0 z1 z2 z3 z4 y0 y1 y2 y3 y4
                      unfold Oper.quietAt
                      go_simp
                      first
                        | exact ⟨rfl, hq1, hq2, hq3⟩
                        | exact rfl)
                   simp only [Act.put, List.setIfInBounds_toArray, List.set_cons_zero, List.set_cons_succ]
                   go_big_quiet_on))
            refine wpQuiet_nil ?_
            intro w4 hw4
            have HB4 : Hid (LI w4 (some ⟨g, 0, none⟩) l ∧ LI w4 (some ⟨g2, 0, none⟩) m ∧ Below w.heap.size w w4) := Lib.hid ⟨Or.inr ⟨g, rfl, hw4.1⟩, Or.inr ⟨g2, rfl, hw4.2.1⟩, hw4.2.2⟩
            clear hw4
            cases q with
            | true =>
              have HK2 : Hid (l.take (k + 1) = m.take (k + 1)) := Lib.hid (by
                rw [take_more l k _ HX.out.1, take_more m k _ HX.out.2, HK.out, of_decide_eq_true HQ.out.symm])
              go_wp2
              refine ⟨?_, ?measure⟩
              case measure => simp [intOf]; omega
              first
                | exact ⟨k + 1, by go_num, by omega, HK2, HB4⟩
                | ((repeat apply Exists.intro); exact ⟨⟨k + 1, by go_num, by omega, HK2, HB4⟩, rfl⟩)
            | false =>
              have HE : Hid (b = false) := Lib.hid (by
                rw [← HG.out.1]
                refine decide_eq_false fun e => ?_
                have h := HX.out.1
                rw [e, HX.out.2] at h
                exact of_decide_eq_false HQ.out.symm (Option.some.inj h).symm)
              go_wp2
              go_ret
              exact ⟨by rw [HE.out]; rfl, HB4.out.2.2⟩
      · obtain rfl : k = n := by omega
        have HE : Hid (b = true) := Lib.hid (by
          rw [← HG.out.1]
          refine decide_eq_true ?_
          have := HK.out
          rwa [List.take_of_length_le (by rw [HG.out.2.1]; exact Nat.le_refl _), List.take_of_length_le (by rw [HG.out.2.2]; exact Nat.le_refl _)] at this)
        go_wp2
        go_ret
        exact ⟨by rw [HE.out]; rfl, HB.out.2.2⟩
  · obtain rfl : b = false := by rw [← hb]; exact decide_eq_false fun e => hnn (by rw [← hn, ← hn2, e])
    have hne : ((n : Int) == n2) = false := by rw [beq_eq_false_iff_ne]; omega
    clear hb hn hn2 h h2
    go_enter Try.func9, Try.ntmps9
    go_wp2
    go_ret
    exact ⟨rfl, Below.refl _ _⟩
end Go.Proofs.Ytkihlnomchhiiaa
