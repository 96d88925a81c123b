/- Heap: the document's Same, before. -/
import Derived.Test.YtbdjcppkfihonaaHe16
import Derived.WalkKit
import Derived.ProofKit
import Derived.Handy
import Derived.WalkLawsBesides
import Derived.WalkSpells
import Derived.Lib.Hide
import Derived.RegionTactic
import Derived.ChangeAlike
import Derived.WalkSmall
import Derived.Deep.QuietTactic
import Derived.BigQuiet
import Derived.OwnWalk
import Derived.Outline
import Derived.Deep.CutRange
import Derived.Deep.CutBlock
import Derived.LoopTactic
namespace Go.Proofs.Ytbdjcppkfihonaa
open Go.ChangeShapes Go.WideShapes Go.ChangeAt Go.RowKit
set_option linter.unusedSimpArgs false
set_option linter.unusedVariables false

theorem below_drewN {B : Nat} {a b : World} (h : Below B a b) (q : Nat) : Below B a (b.drewN q) := ⟨h.os, h.tape, h.output, h.size, h.block⟩
set_option maxRecDepth 20000 in
set_option maxHeartbeats 4000000 in
theorem rf_same5 (l m : List (Int × Int)) (n c k e : Nat) (hn : l.length = n) (hk : m.length = k) (hn6 : n ≤ 1000000) (a b : Option Addr) (r : Bool) (hr : decide (l = m) = r) (w : World) (h : EA w a l) (h2 : EA w b m) : Calls Try.prog 23 #[.slice a n c, .slice b k e] w fun e w' => e = .returned (.bool r) ∧ Below w.heap.size w w' := by
  by_cases hne : n = k
  · subst hne
    have H := Lib.hid (And.intro hn (And.intro hk (And.intro h (And.intro h2 hr))))
    have hnb : ((n : Int) != (n : Int)) = false := by simp
    clear hn hk h h2 hr
    go_enter Try.func23, Try.ntmps23
    go_wp2_with fail
    go_loopw [5] (fun iv wr => ∃ j : Nat, j ≤ n ∧ iv = .int .i64 j ∧ Hid (Below w.heap.size w wr ∧ ∀ i, i < j → l[i]? = m[i]?)) (fun iv _ => n - (intOf iv).toNat)
    case atStart => exact ⟨0, by omega, rfl, Lib.hid ⟨Below.refl _ _, fun i hi => by omega⟩⟩
    case round =>
      obtain ⟨j, hj, rfl, HR⟩ := hrel
      have j0 : (0 : Int) ≤ (j : Int) := by omega
      by_cases hlt : j < n
      · have jI : (j : Int) < (n : Int) := by omega
        obtain ⟨⟨x1, x2⟩, hx⟩ : ∃ x, l[j]? = some x := ⟨_, List.getElem?_eq_getElem (by rw [H.out.1]; exact hlt)⟩
        obtain ⟨⟨y1, y2⟩, hy⟩ : ∃ x, m[j]? = some x := ⟨_, List.getElem?_eq_getElem (by rw [H.out.2.1]; exact hlt)⟩
        obtain ⟨g, o, rfl, d0, d1⟩ := (H.out.2.2.1.chg (Chg.of_fresh (l := []) HR.out.1) (by simp)).at hx
        obtain ⟨g2, o2, rfl, f0, f1⟩ := (H.out.2.2.2.1.chg (Chg.of_fresh (l := []) HR.out.1) (by simp)).at hy
        have HX := Lib.hid (And.intro hx hy)
        clear hx hy
        by_cases he : x1 = y1 ∧ x2 = y2
        · obtain ⟨rfl, rfl⟩ := he
          have HN : ∀ q, Hid (Below w.heap.size w (wr.drewN q) ∧ ∀ i, i < j + 1 → l[i]? = m[i]?) := fun q => Lib.hid ⟨(below_drewN HR.out.1 q), fun i hi => by
            by_cases e : i = j
            · subst e; rw [HX.out.1, HX.out.2]
            · exact HR.out.2 i (by omega)⟩
          go_wp2_with fail
          go_quiet (fail)
          go_wp2
          refine ⟨?_, ?measure⟩
          case measure => simp [intOf]; omega
          first
            | exact ⟨j + 1, by omega, by go_num, HN _⟩
            | ((repeat apply Exists.intro); exact ⟨⟨j + 1, by omega, by go_num, HN _⟩, rfl⟩)
        · have HF : Hid (r = false) := Lib.hid (by
            rw [← H.out.2.2.2.2]
            refine decide_eq_false fun e => he ?_
            rw [e] at HX
            have := HX.out.1.symm.trans HX.out.2
            injection this with this
            exact ⟨(Prod.mk.inj this).1, (Prod.mk.inj this).2⟩)
          have HD : Hid (∀ q, Below w.heap.size w (wr.drewN q)) := Lib.hid fun q => (below_drewN HR.out.1 q)
          by_cases he1 : x1 = y1
          · have he2 : ¬ x2 = y2 := fun e => he ⟨he1, e⟩
            subst he1
            have hb : (x2 == y2) = false := by rw [beq_eq_false_iff_ne]; exact he2
            clear he
            go_wp2_with fail
            go_quiet (fail)
            go_wp2
            go_ret
            exact ⟨by rw [HF.out]; rfl, HD.out _⟩
          · have hb : (x1 == y1) = false := by rw [beq_eq_false_iff_ne]; exact he1
            clear he
            go_wp2_with fail
            go_quiet (fail)
            go_wp2
            go_ret
            exact ⟨by rw [HF.out]; rfl, HD.out _⟩
      · obtain rfl : j = n := by omega
        have jI : ¬ (j : Int) < (j : Int) := by omega
        have HT : Hid (r = true) := Lib.hid (by
          rw [← H.out.2.2.2.2]
          refine decide_eq_true (List.ext_getElem? fun i => ?_)
          rcases Nat.lt_or_ge i j with h | h
          · exact HR.out.2 i h
          · rw [List.getElem?_eq_none (by rw [H.out.1]; exact h), List.getElem?_eq_none (by rw [H.out.2.1]; exact h)])
        go_wp2
        go_ret
        exact ⟨by rw [HT.out]; rfl, HR.out.1⟩
  · obtain rfl : r = false := by
      rw [← hr]
      refine decide_eq_false fun e => hne ?_
      rw [← hn, ← hk, e]
    have hnb : ((n : Int) != (k : Int)) = true := by simp; omega
    clear hn hk h h2 hr
    go_enter Try.func23, Try.ntmps23
    go_wp2
    go_ret
    exact ⟨rfl, Below.refl _ _⟩
set_option maxRecDepth 20000 in
set_option maxHeartbeats 4000000 in
theorem rf_before5 (a1 a2 b1 b2 : Int) (r : Bool) (hr : decide (He.cmp (a1, a2) (b1, b2) < 0) = r) (w : World) : Calls Try.prog 51 #[.agg #[.int .i64 a1, .int .i64 a2], .agg #[.int .i64 b1, .int .i64 b2]] w fun e w' => e = .returned (.bool r) ∧ Below w.heap.size w w' := by
  have hb : Below w.heap.size w ((w.alloc (.cells #[.int .i64 a1, .int .i64 a2] 38)).alloc (.cells #[.int .i64 b1, .int .i64 b2] 38)) := ((Below.refl _ _).alloc (Nat.le_refl _) _).alloc (by simp) _
  have HB := Lib.hid hb
  have hc := cmp_lt (a1, a2) (b1, b2)
  dsimp only at hc
  clear hb
  by_cases h1 : a1 < b1
  · have HR : Hid (r = true) := Lib.hid (by rw [← hr]; exact decide_eq_true (hc.2 (Or.inl h1)))
    have hd : decide (a1 < b1) = true := by simpa using h1
    clear hr hc
    go_enter Try.func51, Try.ntmps51
    go_wp2
    go_ret
    exact ⟨by rw [HR.out]; rfl, HB.out⟩
  · by_cases h2 : a1 = b1
    · subst h2
      by_cases h3 : a2 < b2
      · have HR : Hid (r = true) := Lib.hid (by rw [← hr]; exact decide_eq_true (hc.2 (Or.inr ⟨rfl, h3⟩)))
        have hd : decide (a2 < b2) = true := by simpa using h3
        clear hr hc
        go_enter Try.func51, Try.ntmps51
        go_wp2
        go_ret
        exact ⟨by rw [HR.out]; rfl, HB.out⟩
      · have HR : Hid (r = false) := Lib.hid (by rw [← hr]; exact decide_eq_false (fun h => by have := hc.1 h; omega))
        have hd : decide (a2 < b2) = false := by simpa using h3
        clear hr hc
        go_enter Try.func51, Try.ntmps51
        go_wp2
        go_ret
        exact ⟨by rw [HR.out]; rfl, HB.out⟩
    · have HR : Hid (r = false) := Lib.hid (by rw [← hr]; exact decide_eq_false (fun h => by have := hc.1 h; omega))
      have hd : decide (a1 < b1) = false := by simpa using h1
      have hd2 : (a1 == b1) = false := by rw [beq_eq_false_iff_ne]; exact h2
      clear hr hc
      go_enter Try.func51, Try.ntmps51
      go_wp2
      go_ret
      exact ⟨by rw [HR.out]; rfl, HB.out⟩
end Go.Proofs.Ytbdjcppkfihonaa
