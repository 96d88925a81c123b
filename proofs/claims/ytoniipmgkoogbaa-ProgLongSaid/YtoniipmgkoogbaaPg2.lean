/- Scripts: arms read; ops held against each other; what is wrong of an op. -/
import Derived.Test.YtoniipmgkoogbaaPg1
import Derived.Lib.SliceRun
import Derived.Deep.RegionLaw
import Derived.WalkKit
import Derived.ProofKit
import Derived.Handy
import Derived.WalkLawsBesides
import Derived.WalkSpells
import Derived.Lib.Hide
import Derived.RegionTactic
import Derived.ChangeAlike
import Derived.WalkSmall
import Derived.Deep.QuietTactic
import Derived.BigQuiet
import Derived.OwnWalk
import Derived.Outline
import Derived.Deep.CutRange
import Derived.Deep.CutBlock
import Derived.LoopTactic
namespace Go.Proofs.Ytoniipmgkoogbaa
open Go.ChangeShapes Go.WideShapes Go.ChangeAt Go.RowKit
set_option linter.unusedSimpArgs false
set_option linter.unusedVariables false


/-- A slice (at a) of arms: the first L.length of them are L. -/
def AL (w : World) (a : Option Addr) (L : List (ByteArray × Int)) : Prop := ∀ (i : Nat) (s : ByteArray) (t : Int), L[i]? = some (s, t) → s.size ≤ maxLen ∧ ∃ g o, a = some ⟨g, o, none⟩ ∧ g < w.heap.size ∧ w.cell? ⟨g, o + i * 2, none⟩ = some (.string s) ∧ w.cell? ⟨g, o + i * 2 + 1, none⟩ = some (.int .i64 t)
theorem AL.nil (w : World) (a : Option Addr) : AL w a [] := fun i s t h => by simp at h
theorem AL.below {w w' : World} {a : Option Addr} {L : List (ByteArray × Int)} (h : AL w a L) (k : Below w.heap.size w w') : AL w' a L := fun i s t hi => by
  obtain ⟨h0, g, o, h1, h2, h3, h4⟩ := h i s t hi
  exact ⟨h0, g, o, h1, Nat.lt_of_lt_of_le h2 k.size, by rw [← h3]; exact Chg.cell (l := []) (Chg.of_fresh k) h2 (by simp), by rw [← h4]; exact Chg.cell (l := []) (Chg.of_fresh k) h2 (by simp)⟩
theorem toList_ne {s t : ByteArray} (h : ¬ s = t) : ¬ s.toList = t.toList := fun e => h (by
  rw [Lib.toList_data, Lib.toList_data] at e
  cases s with | mk a => cases t with | mk b => simp at e; subst e; rfl)
theorem str_ne {s t : ByteArray} (h : ¬ s = t) : (s.toList == t.toList) = false := by
  have h2 := toList_ne h
  simpa using h2
theorem eqArm (s t : ByteArray) (x y : Int) (w : World) : (Op.equalIn 10000 38 (.agg #[.string s, .int .i64 x]) (.agg #[.string t, .int .i64 y])).run Try.prog w = .ok (decide ((s, x) = (t, y))) w := by
  have hst : Try.prog.stoodInHeld 38 = false := by kernel_rfl
  show (Op.equalIn (9999 + 1) _ _ _).run _ _ = _
  rw [Op.equalIn]
  by_cases h1 : s = t
  · subst h1
    by_cases h2 : x = y
    · subst h2
      simp [go_sem, run_underlying Try.underlying38, part, hst]
    · simp [go_sem, run_underlying Try.underlying38, part, hst, h2]
  · have h3 := toList_ne h1
    simp [go_sem, run_underlying Try.underlying38, part, hst, h1, h3]
theorem bel_drewN (w : World) (n : Nat) : Below w.heap.size w (w.drewN n) := ((Chg.refl [] w).drewN n).below (Nat.le_refl _) (by simp)
set_option maxRecDepth 20000 in
set_option maxHeartbeats 4000000 in
theorem pg_equal (L1 L2 : List (ByteArray × Int)) (n1 n2 : Nat) (h1 : L1.length = n1) (h2 : L2.length = n2) (m1 : n1 ≤ maxLen) (a1 a2 : Option Addr) (c1 c2 : Nat) (b : Bool) (hb : decide (L1 = L2) = b) (w : World) (H1 : AL w a1 L1) (H2 : AL w a2 L2) :
    Calls Try.prog 29 #[.slice a1 n1 c1, .slice a2 n2 c2] w fun e w' => e = .returned (.bool b) ∧ Below w.heap.size w w' := by
  have hm : maxLen ≤ 9223372036854775807 := by unfold maxLen; omega
  by_cases hn : n1 = n2
  · subst hn
    have HL := Lib.hid (And.intro h1 (And.intro h2 hb))
    have HA := Lib.hid (And.intro H1 H2)
    clear h1 h2 hb H1 H2
    go_enter Try.func29, Try.ntmps29
    go_wp2
    go_loopw [5, 13] (fun _ i wr => ∃ k q : Nat, i = .int .i64 k ∧ k ≤ n1 ∧ Hid (∀ j, j < k → L1[j]? = L2[j]?) ∧ wr = w.drewN q) (fun _ i _ => n1 - (intOf i).toNat)
    case atStart => exact ⟨0, 0, rfl, by omega, Lib.hid (fun j hj => by omega), rfl⟩
    case round =>
      obtain ⟨k, q, rfl, hk, HK, rfl⟩ := hrel
      have i0 : (0 : Int) ≤ (k : Int) := by omega
      by_cases hkn : k < n1
      · have i1 : (k : Int) < (n1 : Int) := by omega
        have w1 : IntKind.i64.wrap ((k : Int) + 1) = (k : Int) + 1 := IntWalk.i64_in _ (by omega)
        obtain ⟨s1, t1, e1⟩ : ∃ s t, L1[k]? = some (s, t) := ⟨_, _, List.getElem?_eq_getElem (by rw [HL.out.1]; exact hkn)⟩
        obtain ⟨s2, t2, e2⟩ : ∃ s t, L2[k]? = some (s, t) := ⟨_, _, List.getElem?_eq_getElem (by rw [HL.out.2.1]; exact hkn)⟩
        obtain ⟨_, g1, o1, rfl, _, d1, d2⟩ := HA.out.1 k s1 t1 e1
        obtain ⟨_, g2, o2, rfl, _, d3, d4⟩ := HA.out.2 k s2 t2 e2
        have eqp := eqArm s1 s2 t1 t2
        by_cases hp : (s1, t1) = (s2, t2)
        · rw [decide_eq_true hp] at eqp
          have HK2 : Hid (∀ j, j < k + 1 → L1[j]? = L2[j]?) := Lib.hid (fun j hj => by
            by_cases e : j = k
            · rw [e, e1, e2, hp]
            · exact HK.out j (by omega))
          clear e1 e2 hp HK
          go_wp2_with fail
          go_quiet (fail)
          go_wp2
          go_roundw
          case rel => exact ⟨k + 1, q + nq, by go_num, by omega, HK2, by simp [World.drewN_drewN]⟩
          case measure => simp [intOf]; omega
        · rw [decide_eq_false hp] at eqp
          have HF : Hid (b = false) := Lib.hid (by
            rw [← HL.out.2.2]
            refine decide_eq_false (fun e => hp ?_)
            rw [e, e2] at e1
            exact (Option.some.inj e1).symm)
          clear e1 e2 hp HK
          go_wp2_with fail
          go_quiet (fail)
          go_wp2
          go_ret
          exact ⟨by rw [HF.out]; rfl, by rw [World.drewN_drewN]; exact bel_drewN _ _⟩
      · have i1 : ¬ (k : Int) < (n1 : Int) := by omega
        have HT : Hid (b = true) := Lib.hid (by
          rw [← HL.out.2.2]
          refine decide_eq_true (List.ext_getElem? fun j => ?_)
          by_cases hj : j < k
          · exact HK.out j hj
          · rw [List.getElem?_eq_none (by rw [HL.out.1]; omega), List.getElem?_eq_none (by rw [HL.out.2.1]; omega)])
        go_wp2
        go_ret
        exact ⟨by rw [HT.out]; rfl, bel_drewN _ _⟩
  · obtain rfl : false = b := by
      rw [← hb]
      exact (decide_eq_false (fun e => hn (by rw [← h1, ← h2, e]))).symm
    have i1 : ((n1 : Int) == (n2 : Int)) = false := by simpa using (show ¬ (n1 : Int) = (n2 : Int) by omega)
    clear hb h1 h2 H1 H2
    go_enter Try.func29, Try.ntmps29
    go_wp2
    go_ret
    exact ⟨rfl, Below.refl _ _⟩
theorem bel2 (w : World) (o1 o2 : Obj) : Below w.heap.size w ((w.alloc o1).alloc o2) := ((Below.refl _ _).alloc (Nat.le_refl _) _).alloc (by simp) _
theorem bx2 {w W1 : World} {b0 b1 b2 b3 b4 b5 b6 d0 d1 d2 d3 d4 d5 d6 : Value} {T : TypeId} (h : Below ((w.alloc (.cells #[b0, b1, b2, b3, b4, b5, b6] T)).alloc (.cells #[d0, d1, d2, d3, d4, d5, d6] T)).heap.size ((w.alloc (.cells #[b0, b1, b2, b3, b4, b5, b6] T)).alloc (.cells #[d0, d1, d2, d3, d4, d5, d6] T)) W1) :
    W1.cell? ⟨w.heap.size, 5, none⟩ = some b5 ∧ W1.cell? ⟨w.heap.size, 6, none⟩ = some b6 ∧ W1.cell? ⟨w.heap.size + 1, 5, none⟩ = some d5 ∧ W1.cell? ⟨w.heap.size + 1, 6, none⟩ = some d6 := by
  have k1 := Blk.below ((Blk.newA w #[b0, b1, b2, b3, b4, b5, b6] T).alloc (.cells #[d0, d1, d2, d3, d4, d5, d6] T)) h (by simp; omega)
  have k2 := Blk.below (Blk.newA (w.alloc (.cells #[b0, b1, b2, b3, b4, b5, b6] T)) #[d0, d1, d2, d3, d4, d5, d6] T) h (by simp)
  have e : (w.alloc (.cells #[b0, b1, b2, b3, b4, b5, b6] T)).heap.size = w.heap.size + 1 := by simp
  rw [e] at k2
  exact ⟨k1.cell (i := 5) rfl, k1.cell (i := 6) rfl, k2.cell (i := 5) rfl, k2.cell (i := 6) rfl⟩
set_option maxRecDepth 20000 in
set_option maxHeartbeats 4000000 in
set_option maxRecDepth 20000 in
set_option maxHeartbeats 4000000 in
theorem pg_sameop (k1 k2 : Int) (x1 x2 : ByteArray) (n1 n2 t1 t2 : Int) (a1 a2 : Option Addr) (l1 l2 c1 c2 : Nat) (u1 u2 v1 v2 : Int) (L1 L2 : List (ByteArray × Int)) (h1 : L1.length = l1) (h2 : L2.length = l2) (m1 : l1 ≤ maxLen) (b : Bool) (hb : Pg.same ⟨k1, x1, n1, t1, L1, u1, v1⟩ ⟨k2, x2, n2, t2, L2, u2, v2⟩ = b) (w : World) (H1 : AL w a1 L1) (H2 : AL w a2 L2) :
    Calls Try.prog 24 #[.agg #[.int .i64 k1, .string x1, .int .i64 n1, .int .i64 t1, .slice a1 l1 c1, .int .i64 u1, .int .i64 v1], .agg #[.int .i64 k2, .string x2, .int .i64 n2, .int .i64 t2, .slice a2 l2 c2, .int .i64 u2, .int .i64 v2]] w fun e w' => e = .returned (.bool b) ∧ Below w.heap.size w w' := by
  unfold Pg.same at hb
  dsimp only at hb
  by_cases e0 : k1 = k2
  · subst e0
    by_cases e1 : x1 = x2
    · subst e1
      by_cases e2 : n1 = n2
      · subst e2
        by_cases e3 : t1 = t2
        · subst e3
          by_cases e4 : L1 = L2
          · have he : decide (L1 = L2) = true := decide_eq_true e4
            by_cases e5 : u1 = u2
            · subst e5
              by_cases e6 : v1 = v2
              · subst e6
                obtain rfl : true = b := by rw [← hb]; simp [e4]
                have HL := Lib.hid (And.intro h1 (And.intro h2 (And.intro he (And.intro H1 H2))))
                clear hb h1 h2 H1 H2 he e4
                go_enter Try.func24, Try.ntmps24
                go_wp2_with (first | (go_at_call 29; refine (pg_equal L1 L2 l1 l2 HL.out.1 HL.out.2.1 m1 a1 a2 c1 c2 _ HL.out.2.2.1 _ (HL.out.2.2.2.1.below (bel2 w _ _)) (HL.out.2.2.2.2.below (bel2 w _ _))).mono ?_; rintro e W1 ⟨rfl, hb1⟩; have HB := Lib.hid hb1; clear hb1; have p := bx2 HB.out; obtain ⟨p15, p16, p25, p26⟩ := p) | fail)
                go_ret
                exact ⟨rfl, (bel2 w _ _).trans (HB.out.mono (bel2 w _ _).size)⟩
              · obtain rfl : false = b := by rw [← hb]; simp [e6, e4]
                have g : (v1 == v2) = false := by simpa using e6
                have HL := Lib.hid (And.intro h1 (And.intro h2 (And.intro he (And.intro H1 H2))))
                clear hb h1 h2 H1 H2 he e6 e4
                go_enter Try.func24, Try.ntmps24
                go_wp2_with (first | (go_at_call 29; refine (pg_equal L1 L2 l1 l2 HL.out.1 HL.out.2.1 m1 a1 a2 c1 c2 _ HL.out.2.2.1 _ (HL.out.2.2.2.1.below (bel2 w _ _)) (HL.out.2.2.2.2.below (bel2 w _ _))).mono ?_; rintro e W1 ⟨rfl, hb1⟩; have HB := Lib.hid hb1; clear hb1; have p := bx2 HB.out; obtain ⟨p15, p16, p25, p26⟩ := p) | fail)
                go_ret
                exact ⟨rfl, (bel2 w _ _).trans (HB.out.mono (bel2 w _ _).size)⟩
            · obtain rfl : false = b := by rw [← hb]; simp [e5, e4]
              have g : (u1 == u2) = false := by simpa using e5
              have HL := Lib.hid (And.intro h1 (And.intro h2 (And.intro he (And.intro H1 H2))))
              clear hb h1 h2 H1 H2 he e5 e4
              go_enter Try.func24, Try.ntmps24
              go_wp2_with (first | (go_at_call 29; refine (pg_equal L1 L2 l1 l2 HL.out.1 HL.out.2.1 m1 a1 a2 c1 c2 _ HL.out.2.2.1 _ (HL.out.2.2.2.1.below (bel2 w _ _)) (HL.out.2.2.2.2.below (bel2 w _ _))).mono ?_; rintro e W1 ⟨rfl, hb1⟩; have HB := Lib.hid hb1; clear hb1; have p := bx2 HB.out; obtain ⟨p15, p16, p25, p26⟩ := p) | fail)
              go_ret
              exact ⟨rfl, (bel2 w _ _).trans (HB.out.mono (bel2 w _ _).size)⟩
          · obtain rfl : false = b := by rw [← hb]; simp [e4]
            have he : decide (L1 = L2) = false := decide_eq_false e4
            have HL := Lib.hid (And.intro h1 (And.intro h2 (And.intro he (And.intro H1 H2))))
            clear hb h1 h2 H1 H2 he e4
            go_enter Try.func24, Try.ntmps24
            go_wp2_with (first | (go_at_call 29; refine (pg_equal L1 L2 l1 l2 HL.out.1 HL.out.2.1 m1 a1 a2 c1 c2 _ HL.out.2.2.1 _ (HL.out.2.2.2.1.below (bel2 w _ _)) (HL.out.2.2.2.2.below (bel2 w _ _))).mono ?_; rintro e W1 ⟨rfl, hb1⟩; have HB := Lib.hid hb1; clear hb1; have p := bx2 HB.out; obtain ⟨p15, p16, p25, p26⟩ := p) | fail)
            go_ret
            exact ⟨rfl, (bel2 w _ _).trans (HB.out.mono (bel2 w _ _).size)⟩
        · obtain rfl : false = b := by rw [← hb]; simp [e3]
          have g : (t1 == t2) = false := by simpa using e3
          clear hb h1 h2 H1 H2 e3
          go_enter Try.func24, Try.ntmps24
          go_wp2_with fail
          go_ret
          exact ⟨rfl, ((Below.refl _ _).alloc (Nat.le_refl _) _).alloc (by simp) _⟩
      · obtain rfl : false = b := by rw [← hb]; simp [e2]
        have g : (n1 == n2) = false := by simpa using e2
        clear hb h1 h2 H1 H2 e2
        go_enter Try.func24, Try.ntmps24
        go_wp2_with fail
        go_ret
        exact ⟨rfl, ((Below.refl _ _).alloc (Nat.le_refl _) _).alloc (by simp) _⟩
    · obtain rfl : false = b := by rw [← hb]; simp [e1]
      have g := str_ne e1
      clear hb h1 h2 H1 H2 e1
      go_enter Try.func24, Try.ntmps24
      go_wp2_with fail
      go_ret
      exact ⟨rfl, ((Below.refl _ _).alloc (Nat.le_refl _) _).alloc (by simp) _⟩
  · obtain rfl : false = b := by rw [← hb]; simp [e0]
    have g : (k1 == k2) = false := by simpa using e0
    clear hb h1 h2 H1 H2 e0
    go_enter Try.func24, Try.ntmps24
    go_wp2_with fail
    go_ret
    exact ⟨rfl, ((Below.refl _ _).alloc (Nat.le_refl _) _).alloc (by simp) _⟩
end Go.Proofs.Ytoniipmgkoogbaa
