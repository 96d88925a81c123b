/- Log: whether an event has a line. -/
import Derived.Test.YtfhhkmjjifbfeaaGreatDoorLo5
import Derived.Test.YtfhhkmjjifbfeaaGreatDoorClass
import Derived.DeepKeys
import Derived.WalkKit
import Derived.ProofKit
import Derived.Handy
import Derived.WalkLawsBesides
import Derived.WalkSpells
import Derived.Lib.Hide
import Derived.Lib.SliceRun
import Derived.Deep.RegionLaw
import Derived.RegionTactic
import Derived.ChangeAlike
import Derived.WalkSmall
import Derived.Deep.QuietTactic
import Derived.BigQuiet
import Derived.OwnWalk
import Derived.Outline
import Derived.Deep.CutRange
import Derived.Deep.CutBlock
import Derived.LoopTactic
namespace Go.Proofs.YtfhhkmjjifbfeaaGreatDoor
open Go.ChangeShapes Go.WideShapes Go.ChangeAt Go.RowKit
set_option linter.unusedSimpArgs false
set_option linter.unusedVariables false

theorem Ev.inj_lits {a b : ByteArray} (h : a.data.toList = b.data.toList) : a = b := ByteArray.ext (Array.ext' h)
theorem deep_ev : Tryz.prog.keyTypeAt 4 26 = true := by kernel_rfl
theorem lits_ev (x : Ev) (h : x.ok) : Tryz.prog.keyLits 3 26 x.c = some [.int .i64 x.k, .int .i64 x.i, .int .i64 x.n, .int .i64 x.t, .string x.b.data.toList, .int .i64 x.e, .int .i64 x.s0, .int .i64 x.s1, .int .i64 x.s2, .int .i64 x.s3, .int .i64 x.s4, .int .i64 x.s5] := by
  have k12 : Tryz.prog.cellsOf 26 = 12 := by kernel_rfl
  have k6 : Tryz.prog.cellsOf 24 = 6 := by kernel_rfl
  have k3 : Tryz.prog.cellsOf 3 = 1 := by kernel_rfl
  have k2 : Tryz.prog.cellsOf 2 = 1 := by kernel_rfl
  have k9 : Tryz.prog.cellsOf 9 = 1 := by kernel_rfl
  have k43 : Tryz.prog.cellsOf 22 = 1 := by kernel_rfl
  have w : ∀ z, Value.int .i64 z ∈ x.c → (Lit.int .i64 z).wf = true := h.2 .i64
  have hb := h.1
  simp only [Ev.c, List.mem_cons, List.not_mem_nil, or_false, Value.int.injEq, true_and, reduceCtorEq, false_or] at w
  have u1 := w x.k (by simp); have u2 := w x.i (by simp); have u3 := w x.n (by simp); have u4 := w x.t (by simp); have u5 := w x.e (by simp); have u6 := w x.s0 (by simp); have u7 := w x.s1 (by simp); have u8 := w x.s2 (by simp); have u9 := w x.s3 (by simp); have u10 := w x.s4 (by simp); have u11 := w x.s5 (by simp)
  simp [Program.keyLits, Tryz.underlying26, Tryz.underlying24, Tryz.underlying3, Tryz.underlying2, Tryz.underlying9, Tryz.underlying22, k12, k6, k3, k2, k9, k43, Ev.c, hb, u1, u2, u3, u4, u5, u6, u7, u8, u9, u10, u11]
  rw [if_pos (by
    intro i hi
    obtain rfl | rfl | rfl | rfl | rfl | rfl : i = 0 ∨ i = 1 ∨ i = 2 ∨ i = 3 ∨ i = 4 ∨ i = 5 := by omega
    all_goals simp)]
  rfl
noncomputable instance evDec : DecidableEq Ev := fun _ _ => Classical.propDecidable _
theorem eqEv (x y : Ev) (hx : x.ok) (hy : y.ok) (w : World) : (Op.equalIn 10000 26 (.agg x.c.toArray) (.agg y.c.toArray)).run Tryz.prog w = .ok (decide (x = y)) w := by
  obtain ⟨r, hr, hiff⟩ := run_equalIn_deep (P := Tryz.prog) 9996 4 26 deep_ev w 3 3 (.agg x.c.toArray) (.agg y.c.toArray) _ _ (by kernel_rfl) (by kernel_rfl) (lits_ev x hx) (lits_ev y hy)
  have e : r = decide (x = y) := by
    rw [Bool.eq_iff_iff, hiff, decide_eq_true_eq]
    constructor
    · intro h
      simp only [List.cons.injEq, Lit.int.injEq, Lit.string.injEq, true_and, and_true] at h
      obtain ⟨h1, h2, h3, h4, h5, h6, h7, h8, h9, h10, h11, h12⟩ := h
      obtain ⟨k, i, n, t, b, e, s0, s1, s2, s3, s4, s5⟩ := x
      obtain ⟨k', i', n', t', b', e', s0', s1', s2', s3', s4', s5'⟩ := y
      dsimp only at h1 h2 h3 h4 h5 h6 h7 h8 h9 h10 h11 h12
      rw [h1, h2, h3, h4, Ev.inj_lits h5, h6, h7, h8, h9, h10, h11, h12]
    · rintro rfl; rfl
  rw [e] at hr
  exact hr
theorem Lo.left_ok {x : Ev} (h : x.ok) : (Lo.left x).ok := by
  obtain ⟨k, i, n, t, b, e, s0, s1, s2, s3, s4, s5⟩ := x
  have hz : (Lit.int .i64 0).wf = true := by decide
  have hs : (Lit.int .i64 (b.size : Int)).wf = true := WalkArith.wf_i64 (by have := h.1; unfold maxLen at this; dsimp only at this; omega)
  have he : ({ data := #[] } : ByteArray).size ≤ maxLen := by unfold maxLen; decide
  have g : ∀ v, Value.int .i64 v ∈ (Ev.c ⟨k, i, n, t, b, e, s0, s1, s2, s3, s4, s5⟩) → (Lit.int .i64 v).wf = true := fun v hv => h.2 .i64 v hv
  have gk := g k (by simp [Ev.c])
  have gi := g i (by simp [Ev.c])
  have gn := g n (by simp [Ev.c])
  have gt := g t (by simp [Ev.c])
  have ge := g e (by simp [Ev.c])
  have g0 := g s0 (by simp [Ev.c])
  have g1 := g s1 (by simp [Ev.c])
  have g2 := g s2 (by simp [Ev.c])
  have g3 := g s3 (by simp [Ev.c])
  have g4 := g s4 (by simp [Ev.c])
  have g5 := g s5 (by simp [Ev.c])
  have c1 : (Lit.int .i64 1).wf = true := by decide
  have c2 : (Lit.int .i64 2).wf = true := by decide
  have c3 : (Lit.int .i64 3).wf = true := by decide
  have c5 : (Lit.int .i64 5).wf = true := by decide
  have c8 : (Lit.int .i64 8).wf = true := by decide
  have hb := h.1
  dsimp only at hb
  unfold Lo.left
  dsimp only
  have key : ∀ (y : Ev), y.b.size ≤ maxLen → ((Lit.int .i64 y.k).wf = true ∧ (Lit.int .i64 y.i).wf = true ∧ (Lit.int .i64 y.n).wf = true ∧ (Lit.int .i64 y.t).wf = true ∧ (Lit.int .i64 y.e).wf = true ∧ (Lit.int .i64 y.s0).wf = true ∧ (Lit.int .i64 y.s1).wf = true ∧ (Lit.int .i64 y.s2).wf = true ∧ (Lit.int .i64 y.s3).wf = true ∧ (Lit.int .i64 y.s4).wf = true ∧ (Lit.int .i64 y.s5).wf = true) → y.ok := by
    intro y hy hh
    obtain ⟨a1, a2, a3, a4, a5, a6, a7, a8, a9, a10, a11⟩ := hh
    refine ⟨hy, fun kk z hz2 => ?_⟩
    simp only [Ev.c, List.mem_cons, List.not_mem_nil, or_false, Value.int.injEq, reduceCtorEq, false_or] at hz2
    rcases hz2 with ⟨rfl, rfl⟩ | ⟨rfl, rfl⟩ | ⟨rfl, rfl⟩ | ⟨rfl, rfl⟩ | ⟨rfl, rfl⟩ | ⟨rfl, rfl⟩ | ⟨rfl, rfl⟩ | ⟨rfl, rfl⟩ | ⟨rfl, rfl⟩ | ⟨rfl, rfl⟩ | ⟨rfl, rfl⟩ <;> assumption
  repeat' split
  all_goals first
    | exact key _ he ⟨by assumption, by assumption, by assumption, by assumption, by assumption, by assumption, by assumption, by assumption, by assumption, by assumption, by assumption⟩
    | exact key _ hb ⟨by assumption, by assumption, by assumption, by assumption, by assumption, by assumption, by assumption, by assumption, by assumption, by assumption, by assumption⟩
theorem lo_left12 (k i n t : Int) (b : ByteArray) (e s0 s1 s2 s3 s4 s5 : Int) (k' i' n' t' : Int) (b' : ByteArray) (e' q0 q1 q2 q3 q4 q5 : Int) (hX : Lo.left ⟨k, i, n, t, b, e, s0, s1, s2, s3, s4, s5⟩ = ⟨k', i', n', t', b', e', q0, q1, q2, q3, q4, q5⟩) (w : World) :
    Calls Tryz.prog 26 #[.agg #[.int .i64 k, .int .i64 i, .int .i64 n, .int .i64 t, .string b, .int .i64 e, .int .i64 s0, .int .i64 s1, .int .i64 s2, .int .i64 s3, .int .i64 s4, .int .i64 s5]] w fun r w' => r = .returned (.agg #[.int .i64 k', .int .i64 i', .int .i64 n', .int .i64 t', .string b', .int .i64 e', .int .i64 q0, .int .i64 q1, .int .i64 q2, .int .i64 q3, .int .i64 q4, .int .i64 q5]) ∧ Below w.heap.size w w' := lo_left k i n t b e s0 s1 s2 s3 s4 s5 _ hX w
/-- Whether an event has a line. -/
noncomputable def Lo.good (x : Ev) : Bool := decide (x = Lo.left x) && Lo.may x
set_option maxRecDepth 20000 in
set_option maxHeartbeats 16000000 in
theorem lo_good (k i n t : Int) (b : ByteArray) (e s0 s1 s2 s3 s4 s5 : Int) (r : Bool) (hr : Lo.good ⟨k, i, n, t, b, e, s0, s1, s2, s3, s4, s5⟩ = r) (hok : Ev.ok ⟨k, i, n, t, b, e, s0, s1, s2, s3, s4, s5⟩) (w : World) (hwi : WI w) (hsi : SI w) :
    Calls Tryz.prog 8 #[.agg #[.int .i64 k, .int .i64 i, .int .i64 n, .int .i64 t, .string b, .int .i64 e, .int .i64 s0, .int .i64 s1, .int .i64 s2, .int .i64 s3, .int .i64 s4, .int .i64 s5]] w fun e w' => e = .returned (.bool r) ∧ Below w.heap.size w w' := by
  obtain ⟨⟨k', i', n', t', b', e', q0, q1, q2, q3, q4, q5⟩, hY⟩ : ∃ Y, Lo.left ⟨k, i, n, t, b, e, s0, s1, s2, s3, s4, s5⟩ = Y := ⟨_, rfl⟩
  obtain ⟨m, hm⟩ : ∃ m, Lo.may ⟨k, i, n, t, b, e, s0, s1, s2, s3, s4, s5⟩ = m := ⟨_, rfl⟩
  have hyok : Ev.ok ⟨k', i', n', t', b', e', q0, q1, q2, q3, q4, q5⟩ := by rw [← hY]; exact Lo.left_ok hok
  obtain ⟨q, hq⟩ : ∃ q, decide ((⟨k, i, n, t, b, e, s0, s1, s2, s3, s4, s5⟩ : Ev) = ⟨k', i', n', t', b', e', q0, q1, q2, q3, q4, q5⟩) = q := ⟨_, rfl⟩
  have HX : Hid ((q && m) = r) := Lib.hid (by rw [← hr, ← hm, ← hq, ← hY]; rfl)
  have HE : Hid (∀ w' : World, (Op.equalIn 10000 26 (.agg #[.int .i64 k, .int .i64 i, .int .i64 n, .int .i64 t, .string b, .int .i64 e, .int .i64 s0, .int .i64 s1, .int .i64 s2, .int .i64 s3, .int .i64 s4, .int .i64 s5]) (.agg #[.int .i64 k', .int .i64 i', .int .i64 n', .int .i64 t', .string b', .int .i64 e', .int .i64 q0, .int .i64 q1, .int .i64 q2, .int .i64 q3, .int .i64 q4, .int .i64 q5])).run Tryz.prog w' = .ok q w') := Lib.hid (fun w' => by
    have h := eqEv ⟨k, i, n, t, b, e, s0, s1, s2, s3, s4, s5⟩ ⟨k', i', n', t', b', e', q0, q1, q2, q3, q4, q5⟩ hok hyok w'
    rw [hq] at h
    exact h)
  have HY := Lib.hid (And.intro hY hm)
  have k0 : Below w.heap.size w (w.alloc (.cells #[.int .i64 k, .int .i64 i, .int .i64 n, .int .i64 t, .string b, .int .i64 e, .int .i64 s0, .int .i64 s1, .int .i64 s2, .int .i64 s3, .int .i64 s4, .int .i64 s5] 26)) := (Below.refl _ _).alloc (Nat.le_refl _) _
  have HT : Hid (Below w.heap.size w (w.alloc (.cells #[.int .i64 k, .int .i64 i, .int .i64 n, .int .i64 t, .string b, .int .i64 e, .int .i64 s0, .int .i64 s1, .int .i64 s2, .int .i64 s3, .int .i64 s4, .int .i64 s5] 26)) ∧ WI (w.alloc (.cells #[.int .i64 k, .int .i64 i, .int .i64 n, .int .i64 t, .string b, .int .i64 e, .int .i64 s0, .int .i64 s1, .int .i64 s2, .int .i64 s3, .int .i64 s4, .int .i64 s5] 26)) ∧ SI (w.alloc (.cells #[.int .i64 k, .int .i64 i, .int .i64 n, .int .i64 t, .string b, .int .i64 e, .int .i64 s0, .int .i64 s1, .int .i64 s2, .int .i64 s3, .int .i64 s4, .int .i64 s5] 26))) := Lib.hid ⟨k0, hwi.below k0, hsi.below k0⟩
  have HB : Hid (Blk (w.alloc (.cells #[.int .i64 k, .int .i64 i, .int .i64 n, .int .i64 t, .string b, .int .i64 e, .int .i64 s0, .int .i64 s1, .int .i64 s2, .int .i64 s3, .int .i64 s4, .int .i64 s5] 26)) w.heap.size [.int .i64 k, .int .i64 i, .int .i64 n, .int .i64 t, .string b, .int .i64 e, .int .i64 s0, .int .i64 s1, .int .i64 s2, .int .i64 s3, .int .i64 s4, .int .i64 s5] 26) := Lib.hid (Blk.newA _ _ _)
  clear hr hY hm hq hyok hok hwi hsi k0
  go_enter Tryz.func8, Tryz.ntmps8
  go_upto_region 1 with fail
  revert HT HB
  generalize (w.alloc (.cells #[.int .i64 k, .int .i64 i, .int .i64 n, .int .i64 t, .string b, .int .i64 e, .int .i64 s0, .int .i64 s1, .int .i64 s2, .int .i64 s3, .int .i64 s4, .int .i64 s5] 26)) = W0
  intro HT HB
  generalize hX : w.heap.size = X at HB ⊢
  clear hX
  cases q with
  | true =>
    refine wp_region_class (fun w' => Below W0.heap.size W0 w') (by kernel_rfl) (by kernel_rfl) (Below.refl _ _).drew ?_
    repeat (first
      | go_big_quiet_skip
      | (go_big_quiet_want
         unfold Oper.quiet
         apply Exists.intro
         refine ⟨fun wq hwq => ?_, ?_⟩
         · (have HQ := Lib.hid (HB.out.chg (l := []) (Chg.of_fresh hwq) (by simp))
            have d0 := HQ.out.cell (i := 0) rfl
            have d1 := HQ.out.cell (i := 1) rfl
            have d2 := HQ.out.cell (i := 2) rfl
            have d3 := HQ.out.cell (i := 3) rfl
            have d4 := HQ.out.cell (i := 4) rfl
            have d5 := HQ.out.cell (i := 5) rfl
            have d6 := HQ.out.cell (i := 6) rfl
            have d7 := HQ.out.cell (i := 7) rfl
            have d8 := HQ.out.cell (i := 8) rfl
            have d9 := HQ.out.cell (i := 9) rfl
            have d10 := HQ.out.cell (i := 10) rfl
            have d11 := HQ.out.cell (i := 11) rfl
            have eqp := HE.out
            unfold Oper.quietAt
            go_simp
            first
              | exact ⟨rfl, rfl⟩
              | exact rfl
              | (go_at_call 26; refine (lo_left12 k i n t b e s0 s1 s2 s3 s4 s5 k' i' n' t' b' e' q0 q1 q2 q3 q4 q5 HY.out.1 _).mono ?_; rintro e w3 ⟨he, hb2⟩; exact ⟨he, hwq.trans (hb2.mono hwq.size)⟩)
              | (go_at_call 27; refine (lo_may k i n t b e s0 s1 s2 s3 s4 s5 m HY.out.2 _ (HT.out.2.1.below hwq) (HT.out.2.2.below hwq)).mono ?_; rintro e w3 ⟨he, hb2⟩; exact ⟨he, hwq.trans (hb2.mono hwq.size)⟩))
         simp only [Act.put, List.setIfInBounds_toArray, List.set_cons_zero, List.set_cons_succ]
         go_big_quiet_on))
    refine wpQuiet_nil ?_
    intro w4 hw4
    have H4 := Lib.hid (HT.out.1.trans (hw4.mono HT.out.1.size))
    go_wp2_with fail
    go_ret
    exact ⟨by rw [← HX.out]; rfl, H4.out⟩
  | false =>
    refine wp_region_class (fun w' => Below W0.heap.size W0 w') (by kernel_rfl) (by kernel_rfl) (Below.refl _ _).drew ?_
    repeat (first
      | go_big_quiet_skip
      | (go_big_quiet_want
         unfold Oper.quiet
         apply Exists.intro
         refine ⟨fun wq hwq => ?_, ?_⟩
         · (have HQ := Lib.hid (HB.out.chg (l := []) (Chg.of_fresh hwq) (by simp))
            have d0 := HQ.out.cell (i := 0) rfl
            have d1 := HQ.out.cell (i := 1) rfl
            have d2 := HQ.out.cell (i := 2) rfl
            have d3 := HQ.out.cell (i := 3) rfl
            have d4 := HQ.out.cell (i := 4) rfl
            have d5 := HQ.out.cell (i := 5) rfl
            have d6 := HQ.out.cell (i := 6) rfl
            have d7 := HQ.out.cell (i := 7) rfl
            have d8 := HQ.out.cell (i := 8) rfl
            have d9 := HQ.out.cell (i := 9) rfl
            have d10 := HQ.out.cell (i := 10) rfl
            have d11 := HQ.out.cell (i := 11) rfl
            have eqp := HE.out
            unfold Oper.quietAt
            go_simp
            first
              | exact ⟨rfl, rfl⟩
              | exact rfl
              | (go_at_call 26; refine (lo_left12 k i n t b e s0 s1 s2 s3 s4 s5 k' i' n' t' b' e' q0 q1 q2 q3 q4 q5 HY.out.1 _).mono ?_; rintro e w3 ⟨he, hb2⟩; exact ⟨he, hwq.trans (hb2.mono hwq.size)⟩)
              | (go_at_call 27; refine (lo_may k i n t b e s0 s1 s2 s3 s4 s5 m HY.out.2 _ (HT.out.2.1.below hwq) (HT.out.2.2.below hwq)).mono ?_; rintro e w3 ⟨he, hb2⟩; exact ⟨he, hwq.trans (hb2.mono hwq.size)⟩))
         simp only [Act.put, List.setIfInBounds_toArray, List.set_cons_zero, List.set_cons_succ]
         go_big_quiet_on))
    refine wpQuiet_nil ?_
    intro w4 hw4
    have H4 := Lib.hid (HT.out.1.trans (hw4.mono HT.out.1.size))
    go_wp2_with fail
    go_ret
    exact ⟨by rw [← HX.out]; rfl, H4.out⟩
end Go.Proofs.YtfhhkmjjifbfeaaGreatDoor
