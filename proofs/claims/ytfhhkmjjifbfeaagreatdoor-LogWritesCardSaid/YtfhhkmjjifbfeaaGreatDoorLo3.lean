/- Log: what an event leaves. -/
import Derived.Test.YtfhhkmjjifbfeaaGreatDoorEv1
import Derived.Test.YtfhhkmjjifbfeaaGreatDoorLo1
import Derived.BigRegion
import Derived.WalkKit
import Derived.ProofKit
import Derived.Handy
import Derived.WalkLawsBesides
import Derived.WalkSpells
import Derived.Lib.Hide
import Derived.Lib.SliceRun
import Derived.Deep.RegionLaw
import Derived.RegionTactic
import Derived.ChangeAlike
import Derived.WalkSmall
import Derived.Deep.QuietTactic
import Derived.BigQuiet
import Derived.OwnWalk
import Derived.Outline
import Derived.Deep.CutRange
import Derived.Deep.CutBlock
import Derived.LoopTactic
namespace Go.Proofs.YtfhhkmjjifbfeaaGreatDoor
open Go.ChangeShapes Go.WideShapes Go.ChangeAt Go.RowKit
set_option linter.unusedSimpArgs false
set_option linter.unusedVariables false

/-- What an event's kind leaves of it. -/
def Lo.left (x : Ev) : Ev :=
  if x.k = 1 ∨ x.k = 7 then ⟨x.k, 0, 0, x.t, { data := #[] }, 0, 0, 0, 0, 0, 0, 0⟩
  else if x.k = 2 then ⟨2, x.i, x.n, 0, { data := #[] }, 0, 0, 0, 0, 0, 0, 0⟩
  else if x.k = 3 then ⟨3, x.i, x.n, 0, { data := #[] }, x.e, 0, 0, 0, 0, 0, 0⟩
  else if x.k = 4 ∨ x.k = 6 then ⟨x.k, x.i, (x.b.size : Int), 0, x.b, 0, 0, 0, 0, 0, 0, 0⟩
  else if x.k = 5 then ⟨5, x.i, 0, 0, { data := #[] }, 0, 0, 0, 0, 0, 0, 0⟩
  else if x.k = 8 then ⟨8, x.i, 0, 0, { data := #[] }, 0, x.s0, x.s1, x.s2, x.s3, x.s4, x.s5⟩
  else ⟨x.k, 0, 0, 0, { data := #[] }, 0, 0, 0, 0, 0, 0, 0⟩
/-- What left works on: its event, its result, what is built. -/
structure LF (w W : World) (X Q Y : Nat) (xs ys : List Value) : Prop where
  bx : Blk W X xs 26
  bq : Blk W Q [.int .i64 0, .int .i64 0, .int .i64 0, .int .i64 0, .string { data := #[] }, .int .i64 0, .int .i64 0, .int .i64 0, .int .i64 0, .int .i64 0, .int .i64 0, .int .i64 0] 26
  by_ : Blk W Y ys 26
  be : Below w.heap.size w W
  lt : w.heap.size ≤ Q ∧ w.heap.size ≤ Y ∧ X ≠ Y ∧ Q ≠ Y ∧ X ≠ Q
theorem LF.set {w W : World} {X Q Y : Nat} {xs ys : List Value} (h : LF w W X Q Y xs ys) (c : Nat) (v : Value) : LF w (W.setCell ⟨Y, c, none⟩ v) X Q Y xs (ys.set c v) :=
  ⟨h.bx.other h.lt.2.2.1 _ _, h.bq.other h.lt.2.2.2.1 _ _, h.by_.set c v, h.be.trans (((Chg.refl [Y] W).set (Or.inl (List.mem_singleton.2 rfl)) c v).below h.be.size (by intro y hy; simp at hy; rw [hy]; exact h.lt.2.1)), h.lt⟩
theorem LF.drew {w W : World} {X Q Y : Nat} {xs ys : List Value} (h : LF w W X Q Y xs ys) : LF w W.drew X Q Y xs ys := ⟨h.bx, h.bq, h.by_, h.be.trans ((Below.refl _ _).drew.mono h.be.size), h.lt⟩
theorem LF.fill {w W : World} {X Q Y : Nat} {xs ys : List Value} (h : LF w W X Q Y xs ys) (v0 v1 v2 v3 v4 v5 v6 v7 v8 v9 v10 v11 : Value) : Blk ((((((((((((W.setCell ⟨Q, 0, none⟩ (v0)).setCell ⟨Q, 1, none⟩ (v1)).setCell ⟨Q, 2, none⟩ (v2)).setCell ⟨Q, 3, none⟩ (v3)).setCell ⟨Q, 4, none⟩ (v4)).setCell ⟨Q, 5, none⟩ (v5)).setCell ⟨Q, 6, none⟩ (v6)).setCell ⟨Q, 7, none⟩ (v7)).setCell ⟨Q, 8, none⟩ (v8)).setCell ⟨Q, 9, none⟩ (v9)).setCell ⟨Q, 10, none⟩ (v10)).setCell ⟨Q, 11, none⟩ (v11)) Q [v0, v1, v2, v3, v4, v5, v6, v7, v8, v9, v10, v11] 26 ∧ Below w.heap.size w ((((((((((((W.setCell ⟨Q, 0, none⟩ (v0)).setCell ⟨Q, 1, none⟩ (v1)).setCell ⟨Q, 2, none⟩ (v2)).setCell ⟨Q, 3, none⟩ (v3)).setCell ⟨Q, 4, none⟩ (v4)).setCell ⟨Q, 5, none⟩ (v5)).setCell ⟨Q, 6, none⟩ (v6)).setCell ⟨Q, 7, none⟩ (v7)).setCell ⟨Q, 8, none⟩ (v8)).setCell ⟨Q, 9, none⟩ (v9)).setCell ⟨Q, 10, none⟩ (v10)).setCell ⟨Q, 11, none⟩ (v11)) := by
  have k : Chg [Q] W ((((((((((((W.setCell ⟨Q, 0, none⟩ (v0)).setCell ⟨Q, 1, none⟩ (v1)).setCell ⟨Q, 2, none⟩ (v2)).setCell ⟨Q, 3, none⟩ (v3)).setCell ⟨Q, 4, none⟩ (v4)).setCell ⟨Q, 5, none⟩ (v5)).setCell ⟨Q, 6, none⟩ (v6)).setCell ⟨Q, 7, none⟩ (v7)).setCell ⟨Q, 8, none⟩ (v8)).setCell ⟨Q, 9, none⟩ (v9)).setCell ⟨Q, 10, none⟩ (v10)).setCell ⟨Q, 11, none⟩ (v11)) := (((((((((((((Chg.refl [Q] W).set (Or.inl (List.mem_singleton.2 rfl)) 0 v0).set (Or.inl (List.mem_singleton.2 rfl)) 1 v1).set (Or.inl (List.mem_singleton.2 rfl)) 2 v2).set (Or.inl (List.mem_singleton.2 rfl)) 3 v3).set (Or.inl (List.mem_singleton.2 rfl)) 4 v4).set (Or.inl (List.mem_singleton.2 rfl)) 5 v5).set (Or.inl (List.mem_singleton.2 rfl)) 6 v6).set (Or.inl (List.mem_singleton.2 rfl)) 7 v7).set (Or.inl (List.mem_singleton.2 rfl)) 8 v8).set (Or.inl (List.mem_singleton.2 rfl)) 9 v9).set (Or.inl (List.mem_singleton.2 rfl)) 10 v10).set (Or.inl (List.mem_singleton.2 rfl)) 11 v11)
  exact ⟨((((((((((((h.bq.set 0 v0).set 1 v1).set 2 v2).set 3 v3).set 4 v4).set 5 v5).set 6 v6).set 7 v7).set 8 v8).set 9 v9).set 10 v10).set 11 v11), h.be.trans (k.below h.be.size (by intro y hy; simp at hy; rw [hy]; exact h.lt.1))⟩
set_option maxRecDepth 20000 in
set_option maxHeartbeats 16000000 in
theorem lo_left (k i n t : Int) (b : ByteArray) (e s0 s1 s2 s3 s4 s5 : Int) (X' : Ev) (hX : Lo.left ⟨k, i, n, t, b, e, s0, s1, s2, s3, s4, s5⟩ = X') (w : World) :
    Calls Tryz.prog 26 #[.agg #[.int .i64 k, .int .i64 i, .int .i64 n, .int .i64 t, .string b, .int .i64 e, .int .i64 s0, .int .i64 s1, .int .i64 s2, .int .i64 s3, .int .i64 s4, .int .i64 s5]] w fun r w' => r = .returned (.agg X'.c.toArray) ∧ Below w.heap.size w w' := by
  have HB : Hid (LF w (((w.alloc (.cells #[.int .i64 k, .int .i64 i, .int .i64 n, .int .i64 t, .string b, .int .i64 e, .int .i64 s0, .int .i64 s1, .int .i64 s2, .int .i64 s3, .int .i64 s4, .int .i64 s5] 26)).alloc (.cells #[.int .i64 0, .int .i64 0, .int .i64 0, .int .i64 0, .string { data := #[] }, .int .i64 0, .int .i64 0, .int .i64 0, .int .i64 0, .int .i64 0, .int .i64 0, .int .i64 0] 26)).alloc (.cells #[.int .i64 k, .int .i64 0, .int .i64 0, .int .i64 0, .string { data := #[] }, .int .i64 0, .int .i64 0, .int .i64 0, .int .i64 0, .int .i64 0, .int .i64 0, .int .i64 0] 26)) w.heap.size (w.heap.size + 1) (w.heap.size + 1 + 1) [.int .i64 k, .int .i64 i, .int .i64 n, .int .i64 t, .string b, .int .i64 e, .int .i64 s0, .int .i64 s1, .int .i64 s2, .int .i64 s3, .int .i64 s4, .int .i64 s5] [.int .i64 k, .int .i64 0, .int .i64 0, .int .i64 0, .string { data := #[] }, .int .i64 0, .int .i64 0, .int .i64 0, .int .i64 0, .int .i64 0, .int .i64 0, .int .i64 0]) := Lib.hid (by
    have h1 := Blk.newA w #[.int .i64 k, .int .i64 i, .int .i64 n, .int .i64 t, .string b, .int .i64 e, .int .i64 s0, .int .i64 s1, .int .i64 s2, .int .i64 s3, .int .i64 s4, .int .i64 s5] 26
    have h2 := Blk.newA (w.alloc (.cells #[.int .i64 k, .int .i64 i, .int .i64 n, .int .i64 t, .string b, .int .i64 e, .int .i64 s0, .int .i64 s1, .int .i64 s2, .int .i64 s3, .int .i64 s4, .int .i64 s5] 26)) #[.int .i64 0, .int .i64 0, .int .i64 0, .int .i64 0, .string { data := #[] }, .int .i64 0, .int .i64 0, .int .i64 0, .int .i64 0, .int .i64 0, .int .i64 0, .int .i64 0] 26
    have h3 := Blk.newA ((w.alloc (.cells #[.int .i64 k, .int .i64 i, .int .i64 n, .int .i64 t, .string b, .int .i64 e, .int .i64 s0, .int .i64 s1, .int .i64 s2, .int .i64 s3, .int .i64 s4, .int .i64 s5] 26)).alloc (.cells #[.int .i64 0, .int .i64 0, .int .i64 0, .int .i64 0, .string { data := #[] }, .int .i64 0, .int .i64 0, .int .i64 0, .int .i64 0, .int .i64 0, .int .i64 0, .int .i64 0] 26)) #[.int .i64 k, .int .i64 0, .int .i64 0, .int .i64 0, .string { data := #[] }, .int .i64 0, .int .i64 0, .int .i64 0, .int .i64 0, .int .i64 0, .int .i64 0, .int .i64 0] 26
    rw [World.size_alloc] at h2 h3
    rw [World.size_alloc] at h3
    exact ⟨(h1.alloc _).alloc _, h2.alloc _, h3, (((Below.refl _ _).alloc (Nat.le_refl _) _).alloc (by rw [World.size_alloc]; omega) _).alloc (by rw [World.size_alloc, World.size_alloc]; omega) _, by omega, by omega, by omega, by omega, by omega⟩)
  go_enter Tryz.func26, Tryz.ntmps26
  go_upto_region 2 with fail
  revert HB
  generalize (((w.alloc (.cells #[.int .i64 k, .int .i64 i, .int .i64 n, .int .i64 t, .string b, .int .i64 e, .int .i64 s0, .int .i64 s1, .int .i64 s2, .int .i64 s3, .int .i64 s4, .int .i64 s5] 26)).alloc (.cells #[.int .i64 0, .int .i64 0, .int .i64 0, .int .i64 0, .string { data := #[] }, .int .i64 0, .int .i64 0, .int .i64 0, .int .i64 0, .int .i64 0, .int .i64 0, .int .i64 0] 26)).alloc (.cells #[.int .i64 k, .int .i64 0, .int .i64 0, .int .i64 0, .string { data := #[] }, .int .i64 0, .int .i64 0, .int .i64 0, .int .i64 0, .int .i64 0, .int .i64 0, .int .i64 0] 26)) = W0
  generalize w.heap.size + 1 + 1 = Y
  generalize w.heap.size + 1 = Q
  generalize w.heap.size = X
  intro HB
  have nx1 : ¬ X = Y := HB.out.lt.2.2.1
  have nx2 : ¬ Y = X := fun e => nx1 e.symm
  by_cases h1 : k = 1
  · subst h1
    have HX : Hid ((⟨1, 0, 0, t, { data := #[] }, 0, 0, 0, 0, 0, 0, 0⟩ : Ev) = X') := Lib.hid (by rw [← hX]; rfl)
    clear hX
    have dk := HB.out.bx.cell (i := 0) rfl
    have d3 := HB.out.bx.cell (i := 3) rfl
    have p3 := HB.out.by_.cell (i := 3) rfl
    have f3 := HB.out.by_.free 3
    go_upto_region 5 with fail
    clear dk
    go_upto_region 17 with fail
    all_goals
      have HC : Hid (LF w ((W0.setCell ⟨Y, 3, none⟩ (.int .i64 t))) X Q Y [.int .i64 1, .int .i64 i, .int .i64 n, .int .i64 t, .string b, .int .i64 e, .int .i64 s0, .int .i64 s1, .int .i64 s2, .int .i64 s3, .int .i64 s4, .int .i64 s5] [.int .i64 1, .int .i64 0, .int .i64 0, .int .i64 t, .string { data := #[] }, .int .i64 0, .int .i64 0, .int .i64 0, .int .i64 0, .int .i64 0, .int .i64 0, .int .i64 0]) := Lib.hid (HB.out.set 3 _)
      clear d3 p3 f3 HB
      revert HC
      generalize (W0.setCell ⟨Y, 3, none⟩ (.int .i64 t)) = W1
      intro HC
      have y0 := HC.out.by_.cell (i := 0) rfl
      have q0 := HC.out.bq.cell (i := 0) rfl
      have g0 := HC.out.bq.free 0
      have y1 := HC.out.by_.cell (i := 1) rfl
      have q1 := HC.out.bq.cell (i := 1) rfl
      have g1 := HC.out.bq.free 1
      have y2 := HC.out.by_.cell (i := 2) rfl
      have q2 := HC.out.bq.cell (i := 2) rfl
      have g2 := HC.out.bq.free 2
      have y3 := HC.out.by_.cell (i := 3) rfl
      have q3 := HC.out.bq.cell (i := 3) rfl
      have g3 := HC.out.bq.free 3
      have y4 := HC.out.by_.cell (i := 4) rfl
      have q4 := HC.out.bq.cell (i := 4) rfl
      have g4 := HC.out.bq.free 4
      have y5 := HC.out.by_.cell (i := 5) rfl
      have q5 := HC.out.bq.cell (i := 5) rfl
      have g5 := HC.out.bq.free 5
      have y6 := HC.out.by_.cell (i := 6) rfl
      have q6 := HC.out.bq.cell (i := 6) rfl
      have g6 := HC.out.bq.free 6
      have y7 := HC.out.by_.cell (i := 7) rfl
      have q7 := HC.out.bq.cell (i := 7) rfl
      have g7 := HC.out.bq.free 7
      have y8 := HC.out.by_.cell (i := 8) rfl
      have q8 := HC.out.bq.cell (i := 8) rfl
      have g8 := HC.out.bq.free 8
      have y9 := HC.out.by_.cell (i := 9) rfl
      have q9 := HC.out.bq.cell (i := 9) rfl
      have g9 := HC.out.bq.free 9
      have y10 := HC.out.by_.cell (i := 10) rfl
      have q10 := HC.out.bq.cell (i := 10) rfl
      have g10 := HC.out.bq.free 10
      have y11 := HC.out.by_.cell (i := 11) rfl
      have q11 := HC.out.bq.cell (i := 11) rfl
      have g11 := HC.out.bq.free 11
      have HW9 : Hid (Blk ((((((((((((W1.setCell ⟨Q, 0, none⟩ (.int .i64 1)).setCell ⟨Q, 1, none⟩ (.int .i64 0)).setCell ⟨Q, 2, none⟩ (.int .i64 0)).setCell ⟨Q, 3, none⟩ (.int .i64 t)).setCell ⟨Q, 4, none⟩ (.string { data := #[] })).setCell ⟨Q, 5, none⟩ (.int .i64 0)).setCell ⟨Q, 6, none⟩ (.int .i64 0)).setCell ⟨Q, 7, none⟩ (.int .i64 0)).setCell ⟨Q, 8, none⟩ (.int .i64 0)).setCell ⟨Q, 9, none⟩ (.int .i64 0)).setCell ⟨Q, 10, none⟩ (.int .i64 0)).setCell ⟨Q, 11, none⟩ (.int .i64 0)) Q [.int .i64 1, .int .i64 0, .int .i64 0, .int .i64 t, .string { data := #[] }, .int .i64 0, .int .i64 0, .int .i64 0, .int .i64 0, .int .i64 0, .int .i64 0, .int .i64 0] 26 ∧ Below w.heap.size w ((((((((((((W1.setCell ⟨Q, 0, none⟩ (.int .i64 1)).setCell ⟨Q, 1, none⟩ (.int .i64 0)).setCell ⟨Q, 2, none⟩ (.int .i64 0)).setCell ⟨Q, 3, none⟩ (.int .i64 t)).setCell ⟨Q, 4, none⟩ (.string { data := #[] })).setCell ⟨Q, 5, none⟩ (.int .i64 0)).setCell ⟨Q, 6, none⟩ (.int .i64 0)).setCell ⟨Q, 7, none⟩ (.int .i64 0)).setCell ⟨Q, 8, none⟩ (.int .i64 0)).setCell ⟨Q, 9, none⟩ (.int .i64 0)).setCell ⟨Q, 10, none⟩ (.int .i64 0)).setCell ⟨Q, 11, none⟩ (.int .i64 0))) := Lib.hid (HC.out.fill _ _ _ _ _ _ _ _ _ _ _ _)
      have nq1 : ¬ Q = Y := HC.out.lt.2.2.2.1
      have nq2 : ¬ Y = Q := fun e => nq1 e.symm
      go_wp2_with fail
      clear y0 q0 g0 y1 q1 g1 y2 q2 g2 y3 q3 g3 y4 q4 g4 y5 q5 g5 y6 q6 g6 y7 q7 g7 y8 q8 g8 y9 q9 g9 y10 q10 g10 y11 q11 g11
      revert HW9
      generalize ((((((((((((W1.setCell ⟨Q, 0, none⟩ (.int .i64 1)).setCell ⟨Q, 1, none⟩ (.int .i64 0)).setCell ⟨Q, 2, none⟩ (.int .i64 0)).setCell ⟨Q, 3, none⟩ (.int .i64 t)).setCell ⟨Q, 4, none⟩ (.string { data := #[] })).setCell ⟨Q, 5, none⟩ (.int .i64 0)).setCell ⟨Q, 6, none⟩ (.int .i64 0)).setCell ⟨Q, 7, none⟩ (.int .i64 0)).setCell ⟨Q, 8, none⟩ (.int .i64 0)).setCell ⟨Q, 9, none⟩ (.int .i64 0)).setCell ⟨Q, 10, none⟩ (.int .i64 0)).setCell ⟨Q, 11, none⟩ (.int .i64 0)) = W9
      intro HW9
      have r0 := HW9.out.1.cell (i := 0) rfl
      have r1 := HW9.out.1.cell (i := 1) rfl
      have r2 := HW9.out.1.cell (i := 2) rfl
      have r3 := HW9.out.1.cell (i := 3) rfl
      have r4 := HW9.out.1.cell (i := 4) rfl
      have r5 := HW9.out.1.cell (i := 5) rfl
      have r6 := HW9.out.1.cell (i := 6) rfl
      have r7 := HW9.out.1.cell (i := 7) rfl
      have r8 := HW9.out.1.cell (i := 8) rfl
      have r9 := HW9.out.1.cell (i := 9) rfl
      have r10 := HW9.out.1.cell (i := 10) rfl
      have r11 := HW9.out.1.cell (i := 11) rfl
      (try simp only [Exit.inBlock, Exit.then])
      exact bodyPost_ret (v := .agg X'.c.toArray) (by rw [← HX.out]; simp [results, Tryz.results26, go_sem, r0, r1, r2, r3, r4, r5, r6, r7, r8, r9, r10, r11, Ev.c]) rfl ⟨rfl, HW9.out.2⟩
  by_cases h7 : k = 7
  · subst h7
    have HX : Hid ((⟨7, 0, 0, t, { data := #[] }, 0, 0, 0, 0, 0, 0, 0⟩ : Ev) = X') := Lib.hid (by rw [← hX]; rfl)
    clear hX
    have dk := HB.out.bx.cell (i := 0) rfl
    have d3 := HB.out.bx.cell (i := 3) rfl
    have p3 := HB.out.by_.cell (i := 3) rfl
    have f3 := HB.out.by_.free 3
    go_upto_region 5 with fail
    clear dk
    go_upto_region 17 with fail
    all_goals
      have HC : Hid (LF w ((W0.setCell ⟨Y, 3, none⟩ (.int .i64 t))) X Q Y [.int .i64 7, .int .i64 i, .int .i64 n, .int .i64 t, .string b, .int .i64 e, .int .i64 s0, .int .i64 s1, .int .i64 s2, .int .i64 s3, .int .i64 s4, .int .i64 s5] [.int .i64 7, .int .i64 0, .int .i64 0, .int .i64 t, .string { data := #[] }, .int .i64 0, .int .i64 0, .int .i64 0, .int .i64 0, .int .i64 0, .int .i64 0, .int .i64 0]) := Lib.hid (HB.out.set 3 _)
      clear d3 p3 f3 HB
      revert HC
      generalize (W0.setCell ⟨Y, 3, none⟩ (.int .i64 t)) = W1
      intro HC
      have y0 := HC.out.by_.cell (i := 0) rfl
      have q0 := HC.out.bq.cell (i := 0) rfl
      have g0 := HC.out.bq.free 0
      have y1 := HC.out.by_.cell (i := 1) rfl
      have q1 := HC.out.bq.cell (i := 1) rfl
      have g1 := HC.out.bq.free 1
      have y2 := HC.out.by_.cell (i := 2) rfl
      have q2 := HC.out.bq.cell (i := 2) rfl
      have g2 := HC.out.bq.free 2
      have y3 := HC.out.by_.cell (i := 3) rfl
      have q3 := HC.out.bq.cell (i := 3) rfl
      have g3 := HC.out.bq.free 3
      have y4 := HC.out.by_.cell (i := 4) rfl
      have q4 := HC.out.bq.cell (i := 4) rfl
      have g4 := HC.out.bq.free 4
      have y5 := HC.out.by_.cell (i := 5) rfl
      have q5 := HC.out.bq.cell (i := 5) rfl
      have g5 := HC.out.bq.free 5
      have y6 := HC.out.by_.cell (i := 6) rfl
      have q6 := HC.out.bq.cell (i := 6) rfl
      have g6 := HC.out.bq.free 6
      have y7 := HC.out.by_.cell (i := 7) rfl
      have q7 := HC.out.bq.cell (i := 7) rfl
      have g7 := HC.out.bq.free 7
      have y8 := HC.out.by_.cell (i := 8) rfl
      have q8 := HC.out.bq.cell (i := 8) rfl
      have g8 := HC.out.bq.free 8
      have y9 := HC.out.by_.cell (i := 9) rfl
      have q9 := HC.out.bq.cell (i := 9) rfl
      have g9 := HC.out.bq.free 9
      have y10 := HC.out.by_.cell (i := 10) rfl
      have q10 := HC.out.bq.cell (i := 10) rfl
      have g10 := HC.out.bq.free 10
      have y11 := HC.out.by_.cell (i := 11) rfl
      have q11 := HC.out.bq.cell (i := 11) rfl
      have g11 := HC.out.bq.free 11
      have HW9 : Hid (Blk ((((((((((((W1.setCell ⟨Q, 0, none⟩ (.int .i64 7)).setCell ⟨Q, 1, none⟩ (.int .i64 0)).setCell ⟨Q, 2, none⟩ (.int .i64 0)).setCell ⟨Q, 3, none⟩ (.int .i64 t)).setCell ⟨Q, 4, none⟩ (.string { data := #[] })).setCell ⟨Q, 5, none⟩ (.int .i64 0)).setCell ⟨Q, 6, none⟩ (.int .i64 0)).setCell ⟨Q, 7, none⟩ (.int .i64 0)).setCell ⟨Q, 8, none⟩ (.int .i64 0)).setCell ⟨Q, 9, none⟩ (.int .i64 0)).setCell ⟨Q, 10, none⟩ (.int .i64 0)).setCell ⟨Q, 11, none⟩ (.int .i64 0)) Q [.int .i64 7, .int .i64 0, .int .i64 0, .int .i64 t, .string { data := #[] }, .int .i64 0, .int .i64 0, .int .i64 0, .int .i64 0, .int .i64 0, .int .i64 0, .int .i64 0] 26 ∧ Below w.heap.size w ((((((((((((W1.setCell ⟨Q, 0, none⟩ (.int .i64 7)).setCell ⟨Q, 1, none⟩ (.int .i64 0)).setCell ⟨Q, 2, none⟩ (.int .i64 0)).setCell ⟨Q, 3, none⟩ (.int .i64 t)).setCell ⟨Q, 4, none⟩ (.string { data := #[] })).setCell ⟨Q, 5, none⟩ (.int .i64 0)).setCell ⟨Q, 6, none⟩ (.int .i64 0)).setCell ⟨Q, 7, none⟩ (.int .i64 0)).setCell ⟨Q, 8, none⟩ (.int .i64 0)).setCell ⟨Q, 9, none⟩ (.int .i64 0)).setCell ⟨Q, 10, none⟩ (.int .i64 0)).setCell ⟨Q, 11, none⟩ (.int .i64 0))) := Lib.hid (HC.out.fill _ _ _ _ _ _ _ _ _ _ _ _)
      have nq1 : ¬ Q = Y := HC.out.lt.2.2.2.1
      have nq2 : ¬ Y = Q := fun e => nq1 e.symm
      go_wp2_with fail
      clear y0 q0 g0 y1 q1 g1 y2 q2 g2 y3 q3 g3 y4 q4 g4 y5 q5 g5 y6 q6 g6 y7 q7 g7 y8 q8 g8 y9 q9 g9 y10 q10 g10 y11 q11 g11
      revert HW9
      generalize ((((((((((((W1.setCell ⟨Q, 0, none⟩ (.int .i64 7)).setCell ⟨Q, 1, none⟩ (.int .i64 0)).setCell ⟨Q, 2, none⟩ (.int .i64 0)).setCell ⟨Q, 3, none⟩ (.int .i64 t)).setCell ⟨Q, 4, none⟩ (.string { data := #[] })).setCell ⟨Q, 5, none⟩ (.int .i64 0)).setCell ⟨Q, 6, none⟩ (.int .i64 0)).setCell ⟨Q, 7, none⟩ (.int .i64 0)).setCell ⟨Q, 8, none⟩ (.int .i64 0)).setCell ⟨Q, 9, none⟩ (.int .i64 0)).setCell ⟨Q, 10, none⟩ (.int .i64 0)).setCell ⟨Q, 11, none⟩ (.int .i64 0)) = W9
      intro HW9
      have r0 := HW9.out.1.cell (i := 0) rfl
      have r1 := HW9.out.1.cell (i := 1) rfl
      have r2 := HW9.out.1.cell (i := 2) rfl
      have r3 := HW9.out.1.cell (i := 3) rfl
      have r4 := HW9.out.1.cell (i := 4) rfl
      have r5 := HW9.out.1.cell (i := 5) rfl
      have r6 := HW9.out.1.cell (i := 6) rfl
      have r7 := HW9.out.1.cell (i := 7) rfl
      have r8 := HW9.out.1.cell (i := 8) rfl
      have r9 := HW9.out.1.cell (i := 9) rfl
      have r10 := HW9.out.1.cell (i := 10) rfl
      have r11 := HW9.out.1.cell (i := 11) rfl
      (try simp only [Exit.inBlock, Exit.then])
      exact bodyPost_ret (v := .agg X'.c.toArray) (by rw [← HX.out]; simp [results, Tryz.results26, go_sem, r0, r1, r2, r3, r4, r5, r6, r7, r8, r9, r10, r11, Ev.c]) rfl ⟨rfl, HW9.out.2⟩
  by_cases h2 : k = 2
  · subst h2
    have HX : Hid ((⟨2, i, n, 0, { data := #[] }, 0, 0, 0, 0, 0, 0, 0⟩ : Ev) = X') := Lib.hid (by rw [← hX]; rfl)
    clear hX
    have dk := HB.out.bx.cell (i := 0) rfl
    have d1 := HB.out.bx.cell (i := 1) rfl
    have d2 := HB.out.bx.cell (i := 2) rfl
    have p1 := HB.out.by_.cell (i := 1) rfl
    have f1 := HB.out.by_.free 1
    have p2 := HB.out.by_.cell (i := 2) rfl
    have f2 := HB.out.by_.free 2
    go_wp2_with fail
    clear dk
    go_region
    all_goals
      have HC : Hid (LF w ((((W0.setCell ⟨Y, 1, none⟩ (.int .i64 i)).setCell ⟨Y, 2, none⟩ (.int .i64 n))).drew) X Q Y [.int .i64 2, .int .i64 i, .int .i64 n, .int .i64 t, .string b, .int .i64 e, .int .i64 s0, .int .i64 s1, .int .i64 s2, .int .i64 s3, .int .i64 s4, .int .i64 s5] [.int .i64 2, .int .i64 i, .int .i64 n, .int .i64 0, .string { data := #[] }, .int .i64 0, .int .i64 0, .int .i64 0, .int .i64 0, .int .i64 0, .int .i64 0, .int .i64 0]) := Lib.hid ((HB.out.set 1 _).set 2 _).drew
      clear d1 d2 p1 f1 p2 f2 HB
      revert HC
      generalize (((W0.setCell ⟨Y, 1, none⟩ (.int .i64 i)).setCell ⟨Y, 2, none⟩ (.int .i64 n))).drew = W1
      intro HC
      have y0 := HC.out.by_.cell (i := 0) rfl
      have q0 := HC.out.bq.cell (i := 0) rfl
      have g0 := HC.out.bq.free 0
      have y1 := HC.out.by_.cell (i := 1) rfl
      have q1 := HC.out.bq.cell (i := 1) rfl
      have g1 := HC.out.bq.free 1
      have y2 := HC.out.by_.cell (i := 2) rfl
      have q2 := HC.out.bq.cell (i := 2) rfl
      have g2 := HC.out.bq.free 2
      have y3 := HC.out.by_.cell (i := 3) rfl
      have q3 := HC.out.bq.cell (i := 3) rfl
      have g3 := HC.out.bq.free 3
      have y4 := HC.out.by_.cell (i := 4) rfl
      have q4 := HC.out.bq.cell (i := 4) rfl
      have g4 := HC.out.bq.free 4
      have y5 := HC.out.by_.cell (i := 5) rfl
      have q5 := HC.out.bq.cell (i := 5) rfl
      have g5 := HC.out.bq.free 5
      have y6 := HC.out.by_.cell (i := 6) rfl
      have q6 := HC.out.bq.cell (i := 6) rfl
      have g6 := HC.out.bq.free 6
      have y7 := HC.out.by_.cell (i := 7) rfl
      have q7 := HC.out.bq.cell (i := 7) rfl
      have g7 := HC.out.bq.free 7
      have y8 := HC.out.by_.cell (i := 8) rfl
      have q8 := HC.out.bq.cell (i := 8) rfl
      have g8 := HC.out.bq.free 8
      have y9 := HC.out.by_.cell (i := 9) rfl
      have q9 := HC.out.bq.cell (i := 9) rfl
      have g9 := HC.out.bq.free 9
      have y10 := HC.out.by_.cell (i := 10) rfl
      have q10 := HC.out.bq.cell (i := 10) rfl
      have g10 := HC.out.bq.free 10
      have y11 := HC.out.by_.cell (i := 11) rfl
      have q11 := HC.out.bq.cell (i := 11) rfl
      have g11 := HC.out.bq.free 11
      have HW9 : Hid (Blk ((((((((((((W1.setCell ⟨Q, 0, none⟩ (.int .i64 2)).setCell ⟨Q, 1, none⟩ (.int .i64 i)).setCell ⟨Q, 2, none⟩ (.int .i64 n)).setCell ⟨Q, 3, none⟩ (.int .i64 0)).setCell ⟨Q, 4, none⟩ (.string { data := #[] })).setCell ⟨Q, 5, none⟩ (.int .i64 0)).setCell ⟨Q, 6, none⟩ (.int .i64 0)).setCell ⟨Q, 7, none⟩ (.int .i64 0)).setCell ⟨Q, 8, none⟩ (.int .i64 0)).setCell ⟨Q, 9, none⟩ (.int .i64 0)).setCell ⟨Q, 10, none⟩ (.int .i64 0)).setCell ⟨Q, 11, none⟩ (.int .i64 0)) Q [.int .i64 2, .int .i64 i, .int .i64 n, .int .i64 0, .string { data := #[] }, .int .i64 0, .int .i64 0, .int .i64 0, .int .i64 0, .int .i64 0, .int .i64 0, .int .i64 0] 26 ∧ Below w.heap.size w ((((((((((((W1.setCell ⟨Q, 0, none⟩ (.int .i64 2)).setCell ⟨Q, 1, none⟩ (.int .i64 i)).setCell ⟨Q, 2, none⟩ (.int .i64 n)).setCell ⟨Q, 3, none⟩ (.int .i64 0)).setCell ⟨Q, 4, none⟩ (.string { data := #[] })).setCell ⟨Q, 5, none⟩ (.int .i64 0)).setCell ⟨Q, 6, none⟩ (.int .i64 0)).setCell ⟨Q, 7, none⟩ (.int .i64 0)).setCell ⟨Q, 8, none⟩ (.int .i64 0)).setCell ⟨Q, 9, none⟩ (.int .i64 0)).setCell ⟨Q, 10, none⟩ (.int .i64 0)).setCell ⟨Q, 11, none⟩ (.int .i64 0))) := Lib.hid (HC.out.fill _ _ _ _ _ _ _ _ _ _ _ _)
      have nq1 : ¬ Q = Y := HC.out.lt.2.2.2.1
      have nq2 : ¬ Y = Q := fun e => nq1 e.symm
      go_wp2_with fail
      clear y0 q0 g0 y1 q1 g1 y2 q2 g2 y3 q3 g3 y4 q4 g4 y5 q5 g5 y6 q6 g6 y7 q7 g7 y8 q8 g8 y9 q9 g9 y10 q10 g10 y11 q11 g11
      revert HW9
      generalize ((((((((((((W1.setCell ⟨Q, 0, none⟩ (.int .i64 2)).setCell ⟨Q, 1, none⟩ (.int .i64 i)).setCell ⟨Q, 2, none⟩ (.int .i64 n)).setCell ⟨Q, 3, none⟩ (.int .i64 0)).setCell ⟨Q, 4, none⟩ (.string { data := #[] })).setCell ⟨Q, 5, none⟩ (.int .i64 0)).setCell ⟨Q, 6, none⟩ (.int .i64 0)).setCell ⟨Q, 7, none⟩ (.int .i64 0)).setCell ⟨Q, 8, none⟩ (.int .i64 0)).setCell ⟨Q, 9, none⟩ (.int .i64 0)).setCell ⟨Q, 10, none⟩ (.int .i64 0)).setCell ⟨Q, 11, none⟩ (.int .i64 0)) = W9
      intro HW9
      have r0 := HW9.out.1.cell (i := 0) rfl
      have r1 := HW9.out.1.cell (i := 1) rfl
      have r2 := HW9.out.1.cell (i := 2) rfl
      have r3 := HW9.out.1.cell (i := 3) rfl
      have r4 := HW9.out.1.cell (i := 4) rfl
      have r5 := HW9.out.1.cell (i := 5) rfl
      have r6 := HW9.out.1.cell (i := 6) rfl
      have r7 := HW9.out.1.cell (i := 7) rfl
      have r8 := HW9.out.1.cell (i := 8) rfl
      have r9 := HW9.out.1.cell (i := 9) rfl
      have r10 := HW9.out.1.cell (i := 10) rfl
      have r11 := HW9.out.1.cell (i := 11) rfl
      (try simp only [Exit.inBlock, Exit.then])
      exact bodyPost_ret (v := .agg X'.c.toArray) (by rw [← HX.out]; simp [results, Tryz.results26, go_sem, r0, r1, r2, r3, r4, r5, r6, r7, r8, r9, r10, r11, Ev.c]) rfl ⟨rfl, HW9.out.2⟩
  by_cases h3 : k = 3
  · subst h3
    have HX : Hid ((⟨3, i, n, 0, { data := #[] }, e, 0, 0, 0, 0, 0, 0⟩ : Ev) = X') := Lib.hid (by rw [← hX]; rfl)
    clear hX
    have dk := HB.out.bx.cell (i := 0) rfl
    have d1 := HB.out.bx.cell (i := 1) rfl
    have d2 := HB.out.bx.cell (i := 2) rfl
    have d5 := HB.out.bx.cell (i := 5) rfl
    have p1 := HB.out.by_.cell (i := 1) rfl
    have f1 := HB.out.by_.free 1
    have p2 := HB.out.by_.cell (i := 2) rfl
    have f2 := HB.out.by_.free 2
    have p5 := HB.out.by_.cell (i := 5) rfl
    have f5 := HB.out.by_.free 5
    go_wp2_with fail
    clear dk
    go_region
    all_goals
      have HC : Hid (LF w (((((W0.setCell ⟨Y, 1, none⟩ (.int .i64 i)).setCell ⟨Y, 2, none⟩ (.int .i64 n)).setCell ⟨Y, 5, none⟩ (.int .i64 e))).drew) X Q Y [.int .i64 3, .int .i64 i, .int .i64 n, .int .i64 t, .string b, .int .i64 e, .int .i64 s0, .int .i64 s1, .int .i64 s2, .int .i64 s3, .int .i64 s4, .int .i64 s5] [.int .i64 3, .int .i64 i, .int .i64 n, .int .i64 0, .string { data := #[] }, .int .i64 e, .int .i64 0, .int .i64 0, .int .i64 0, .int .i64 0, .int .i64 0, .int .i64 0]) := Lib.hid (((HB.out.set 1 _).set 2 _).set 5 _).drew
      clear d1 d2 d5 p1 f1 p2 f2 p5 f5 HB
      revert HC
      generalize ((((W0.setCell ⟨Y, 1, none⟩ (.int .i64 i)).setCell ⟨Y, 2, none⟩ (.int .i64 n)).setCell ⟨Y, 5, none⟩ (.int .i64 e))).drew = W1
      intro HC
      have y0 := HC.out.by_.cell (i := 0) rfl
      have q0 := HC.out.bq.cell (i := 0) rfl
      have g0 := HC.out.bq.free 0
      have y1 := HC.out.by_.cell (i := 1) rfl
      have q1 := HC.out.bq.cell (i := 1) rfl
      have g1 := HC.out.bq.free 1
      have y2 := HC.out.by_.cell (i := 2) rfl
      have q2 := HC.out.bq.cell (i := 2) rfl
      have g2 := HC.out.bq.free 2
      have y3 := HC.out.by_.cell (i := 3) rfl
      have q3 := HC.out.bq.cell (i := 3) rfl
      have g3 := HC.out.bq.free 3
      have y4 := HC.out.by_.cell (i := 4) rfl
      have q4 := HC.out.bq.cell (i := 4) rfl
      have g4 := HC.out.bq.free 4
      have y5 := HC.out.by_.cell (i := 5) rfl
      have q5 := HC.out.bq.cell (i := 5) rfl
      have g5 := HC.out.bq.free 5
      have y6 := HC.out.by_.cell (i := 6) rfl
      have q6 := HC.out.bq.cell (i := 6) rfl
      have g6 := HC.out.bq.free 6
      have y7 := HC.out.by_.cell (i := 7) rfl
      have q7 := HC.out.bq.cell (i := 7) rfl
      have g7 := HC.out.bq.free 7
      have y8 := HC.out.by_.cell (i := 8) rfl
      have q8 := HC.out.bq.cell (i := 8) rfl
      have g8 := HC.out.bq.free 8
      have y9 := HC.out.by_.cell (i := 9) rfl
      have q9 := HC.out.bq.cell (i := 9) rfl
      have g9 := HC.out.bq.free 9
      have y10 := HC.out.by_.cell (i := 10) rfl
      have q10 := HC.out.bq.cell (i := 10) rfl
      have g10 := HC.out.bq.free 10
      have y11 := HC.out.by_.cell (i := 11) rfl
      have q11 := HC.out.bq.cell (i := 11) rfl
      have g11 := HC.out.bq.free 11
      have HW9 : Hid (Blk ((((((((((((W1.setCell ⟨Q, 0, none⟩ (.int .i64 3)).setCell ⟨Q, 1, none⟩ (.int .i64 i)).setCell ⟨Q, 2, none⟩ (.int .i64 n)).setCell ⟨Q, 3, none⟩ (.int .i64 0)).setCell ⟨Q, 4, none⟩ (.string { data := #[] })).setCell ⟨Q, 5, none⟩ (.int .i64 e)).setCell ⟨Q, 6, none⟩ (.int .i64 0)).setCell ⟨Q, 7, none⟩ (.int .i64 0)).setCell ⟨Q, 8, none⟩ (.int .i64 0)).setCell ⟨Q, 9, none⟩ (.int .i64 0)).setCell ⟨Q, 10, none⟩ (.int .i64 0)).setCell ⟨Q, 11, none⟩ (.int .i64 0)) Q [.int .i64 3, .int .i64 i, .int .i64 n, .int .i64 0, .string { data := #[] }, .int .i64 e, .int .i64 0, .int .i64 0, .int .i64 0, .int .i64 0, .int .i64 0, .int .i64 0] 26 ∧ Below w.heap.size w ((((((((((((W1.setCell ⟨Q, 0, none⟩ (.int .i64 3)).setCell ⟨Q, 1, none⟩ (.int .i64 i)).setCell ⟨Q, 2, none⟩ (.int .i64 n)).setCell ⟨Q, 3, none⟩ (.int .i64 0)).setCell ⟨Q, 4, none⟩ (.string { data := #[] })).setCell ⟨Q, 5, none⟩ (.int .i64 e)).setCell ⟨Q, 6, none⟩ (.int .i64 0)).setCell ⟨Q, 7, none⟩ (.int .i64 0)).setCell ⟨Q, 8, none⟩ (.int .i64 0)).setCell ⟨Q, 9, none⟩ (.int .i64 0)).setCell ⟨Q, 10, none⟩ (.int .i64 0)).setCell ⟨Q, 11, none⟩ (.int .i64 0))) := Lib.hid (HC.out.fill _ _ _ _ _ _ _ _ _ _ _ _)
      have nq1 : ¬ Q = Y := HC.out.lt.2.2.2.1
      have nq2 : ¬ Y = Q := fun e => nq1 e.symm
      go_wp2_with fail
      clear y0 q0 g0 y1 q1 g1 y2 q2 g2 y3 q3 g3 y4 q4 g4 y5 q5 g5 y6 q6 g6 y7 q7 g7 y8 q8 g8 y9 q9 g9 y10 q10 g10 y11 q11 g11
      revert HW9
      generalize ((((((((((((W1.setCell ⟨Q, 0, none⟩ (.int .i64 3)).setCell ⟨Q, 1, none⟩ (.int .i64 i)).setCell ⟨Q, 2, none⟩ (.int .i64 n)).setCell ⟨Q, 3, none⟩ (.int .i64 0)).setCell ⟨Q, 4, none⟩ (.string { data := #[] })).setCell ⟨Q, 5, none⟩ (.int .i64 e)).setCell ⟨Q, 6, none⟩ (.int .i64 0)).setCell ⟨Q, 7, none⟩ (.int .i64 0)).setCell ⟨Q, 8, none⟩ (.int .i64 0)).setCell ⟨Q, 9, none⟩ (.int .i64 0)).setCell ⟨Q, 10, none⟩ (.int .i64 0)).setCell ⟨Q, 11, none⟩ (.int .i64 0)) = W9
      intro HW9
      have r0 := HW9.out.1.cell (i := 0) rfl
      have r1 := HW9.out.1.cell (i := 1) rfl
      have r2 := HW9.out.1.cell (i := 2) rfl
      have r3 := HW9.out.1.cell (i := 3) rfl
      have r4 := HW9.out.1.cell (i := 4) rfl
      have r5 := HW9.out.1.cell (i := 5) rfl
      have r6 := HW9.out.1.cell (i := 6) rfl
      have r7 := HW9.out.1.cell (i := 7) rfl
      have r8 := HW9.out.1.cell (i := 8) rfl
      have r9 := HW9.out.1.cell (i := 9) rfl
      have r10 := HW9.out.1.cell (i := 10) rfl
      have r11 := HW9.out.1.cell (i := 11) rfl
      (try simp only [Exit.inBlock, Exit.then])
      exact bodyPost_ret (v := .agg X'.c.toArray) (by rw [← HX.out]; simp [results, Tryz.results26, go_sem, r0, r1, r2, r3, r4, r5, r6, r7, r8, r9, r10, r11, Ev.c]) rfl ⟨rfl, HW9.out.2⟩
  by_cases h4 : k = 4
  · subst h4
    have HX : Hid ((⟨4, i, (b.size : Int), 0, b, 0, 0, 0, 0, 0, 0, 0⟩ : Ev) = X') := Lib.hid (by rw [← hX]; rfl)
    clear hX
    have dk := HB.out.bx.cell (i := 0) rfl
    have d1 := HB.out.bx.cell (i := 1) rfl
    have d2 := HB.out.bx.cell (i := 2) rfl
    have d4 := HB.out.bx.cell (i := 4) rfl
    have p1 := HB.out.by_.cell (i := 1) rfl
    have f1 := HB.out.by_.free 1
    have p4 := HB.out.by_.cell (i := 4) rfl
    have f4 := HB.out.by_.free 4
    have p2 := HB.out.by_.cell (i := 2) rfl
    have f2 := HB.out.by_.free 2
    go_wp2_with fail
    clear dk
    go_region
    all_goals
      have HC : Hid (LF w (((((W0.setCell ⟨Y, 1, none⟩ (.int .i64 i)).setCell ⟨Y, 4, none⟩ (.string b)).setCell ⟨Y, 2, none⟩ (.int .i64 (b.size : Int)))).drew) X Q Y [.int .i64 4, .int .i64 i, .int .i64 n, .int .i64 t, .string b, .int .i64 e, .int .i64 s0, .int .i64 s1, .int .i64 s2, .int .i64 s3, .int .i64 s4, .int .i64 s5] [.int .i64 4, .int .i64 i, .int .i64 (b.size : Int), .int .i64 0, .string b, .int .i64 0, .int .i64 0, .int .i64 0, .int .i64 0, .int .i64 0, .int .i64 0, .int .i64 0]) := Lib.hid (((HB.out.set 1 _).set 4 _).set 2 _).drew
      clear d1 d2 d4 p1 f1 p4 f4 p2 f2 HB
      revert HC
      generalize ((((W0.setCell ⟨Y, 1, none⟩ (.int .i64 i)).setCell ⟨Y, 4, none⟩ (.string b)).setCell ⟨Y, 2, none⟩ (.int .i64 (b.size : Int)))).drew = W1
      intro HC
      have y0 := HC.out.by_.cell (i := 0) rfl
      have q0 := HC.out.bq.cell (i := 0) rfl
      have g0 := HC.out.bq.free 0
      have y1 := HC.out.by_.cell (i := 1) rfl
      have q1 := HC.out.bq.cell (i := 1) rfl
      have g1 := HC.out.bq.free 1
      have y2 := HC.out.by_.cell (i := 2) rfl
      have q2 := HC.out.bq.cell (i := 2) rfl
      have g2 := HC.out.bq.free 2
      have y3 := HC.out.by_.cell (i := 3) rfl
      have q3 := HC.out.bq.cell (i := 3) rfl
      have g3 := HC.out.bq.free 3
      have y4 := HC.out.by_.cell (i := 4) rfl
      have q4 := HC.out.bq.cell (i := 4) rfl
      have g4 := HC.out.bq.free 4
      have y5 := HC.out.by_.cell (i := 5) rfl
      have q5 := HC.out.bq.cell (i := 5) rfl
      have g5 := HC.out.bq.free 5
      have y6 := HC.out.by_.cell (i := 6) rfl
      have q6 := HC.out.bq.cell (i := 6) rfl
      have g6 := HC.out.bq.free 6
      have y7 := HC.out.by_.cell (i := 7) rfl
      have q7 := HC.out.bq.cell (i := 7) rfl
      have g7 := HC.out.bq.free 7
      have y8 := HC.out.by_.cell (i := 8) rfl
      have q8 := HC.out.bq.cell (i := 8) rfl
      have g8 := HC.out.bq.free 8
      have y9 := HC.out.by_.cell (i := 9) rfl
      have q9 := HC.out.bq.cell (i := 9) rfl
      have g9 := HC.out.bq.free 9
      have y10 := HC.out.by_.cell (i := 10) rfl
      have q10 := HC.out.bq.cell (i := 10) rfl
      have g10 := HC.out.bq.free 10
      have y11 := HC.out.by_.cell (i := 11) rfl
      have q11 := HC.out.bq.cell (i := 11) rfl
      have g11 := HC.out.bq.free 11
      have HW9 : Hid (Blk ((((((((((((W1.setCell ⟨Q, 0, none⟩ (.int .i64 4)).setCell ⟨Q, 1, none⟩ (.int .i64 i)).setCell ⟨Q, 2, none⟩ (.int .i64 (b.size : Int))).setCell ⟨Q, 3, none⟩ (.int .i64 0)).setCell ⟨Q, 4, none⟩ (.string b)).setCell ⟨Q, 5, none⟩ (.int .i64 0)).setCell ⟨Q, 6, none⟩ (.int .i64 0)).setCell ⟨Q, 7, none⟩ (.int .i64 0)).setCell ⟨Q, 8, none⟩ (.int .i64 0)).setCell ⟨Q, 9, none⟩ (.int .i64 0)).setCell ⟨Q, 10, none⟩ (.int .i64 0)).setCell ⟨Q, 11, none⟩ (.int .i64 0)) Q [.int .i64 4, .int .i64 i, .int .i64 (b.size : Int), .int .i64 0, .string b, .int .i64 0, .int .i64 0, .int .i64 0, .int .i64 0, .int .i64 0, .int .i64 0, .int .i64 0] 26 ∧ Below w.heap.size w ((((((((((((W1.setCell ⟨Q, 0, none⟩ (.int .i64 4)).setCell ⟨Q, 1, none⟩ (.int .i64 i)).setCell ⟨Q, 2, none⟩ (.int .i64 (b.size : Int))).setCell ⟨Q, 3, none⟩ (.int .i64 0)).setCell ⟨Q, 4, none⟩ (.string b)).setCell ⟨Q, 5, none⟩ (.int .i64 0)).setCell ⟨Q, 6, none⟩ (.int .i64 0)).setCell ⟨Q, 7, none⟩ (.int .i64 0)).setCell ⟨Q, 8, none⟩ (.int .i64 0)).setCell ⟨Q, 9, none⟩ (.int .i64 0)).setCell ⟨Q, 10, none⟩ (.int .i64 0)).setCell ⟨Q, 11, none⟩ (.int .i64 0))) := Lib.hid (HC.out.fill _ _ _ _ _ _ _ _ _ _ _ _)
      have nq1 : ¬ Q = Y := HC.out.lt.2.2.2.1
      have nq2 : ¬ Y = Q := fun e => nq1 e.symm
      go_wp2_with fail
      clear y0 q0 g0 y1 q1 g1 y2 q2 g2 y3 q3 g3 y4 q4 g4 y5 q5 g5 y6 q6 g6 y7 q7 g7 y8 q8 g8 y9 q9 g9 y10 q10 g10 y11 q11 g11
      revert HW9
      generalize ((((((((((((W1.setCell ⟨Q, 0, none⟩ (.int .i64 4)).setCell ⟨Q, 1, none⟩ (.int .i64 i)).setCell ⟨Q, 2, none⟩ (.int .i64 (b.size : Int))).setCell ⟨Q, 3, none⟩ (.int .i64 0)).setCell ⟨Q, 4, none⟩ (.string b)).setCell ⟨Q, 5, none⟩ (.int .i64 0)).setCell ⟨Q, 6, none⟩ (.int .i64 0)).setCell ⟨Q, 7, none⟩ (.int .i64 0)).setCell ⟨Q, 8, none⟩ (.int .i64 0)).setCell ⟨Q, 9, none⟩ (.int .i64 0)).setCell ⟨Q, 10, none⟩ (.int .i64 0)).setCell ⟨Q, 11, none⟩ (.int .i64 0)) = W9
      intro HW9
      have r0 := HW9.out.1.cell (i := 0) rfl
      have r1 := HW9.out.1.cell (i := 1) rfl
      have r2 := HW9.out.1.cell (i := 2) rfl
      have r3 := HW9.out.1.cell (i := 3) rfl
      have r4 := HW9.out.1.cell (i := 4) rfl
      have r5 := HW9.out.1.cell (i := 5) rfl
      have r6 := HW9.out.1.cell (i := 6) rfl
      have r7 := HW9.out.1.cell (i := 7) rfl
      have r8 := HW9.out.1.cell (i := 8) rfl
      have r9 := HW9.out.1.cell (i := 9) rfl
      have r10 := HW9.out.1.cell (i := 10) rfl
      have r11 := HW9.out.1.cell (i := 11) rfl
      (try simp only [Exit.inBlock, Exit.then])
      exact bodyPost_ret (v := .agg X'.c.toArray) (by rw [← HX.out]; simp [results, Tryz.results26, go_sem, r0, r1, r2, r3, r4, r5, r6, r7, r8, r9, r10, r11, Ev.c]) rfl ⟨rfl, HW9.out.2⟩
  by_cases h6 : k = 6
  · subst h6
    have HX : Hid ((⟨6, i, (b.size : Int), 0, b, 0, 0, 0, 0, 0, 0, 0⟩ : Ev) = X') := Lib.hid (by rw [← hX]; rfl)
    clear hX
    have dk := HB.out.bx.cell (i := 0) rfl
    have d1 := HB.out.bx.cell (i := 1) rfl
    have d2 := HB.out.bx.cell (i := 2) rfl
    have d4 := HB.out.bx.cell (i := 4) rfl
    have p1 := HB.out.by_.cell (i := 1) rfl
    have f1 := HB.out.by_.free 1
    have p4 := HB.out.by_.cell (i := 4) rfl
    have f4 := HB.out.by_.free 4
    have p2 := HB.out.by_.cell (i := 2) rfl
    have f2 := HB.out.by_.free 2
    go_wp2_with fail
    clear dk
    go_region
    all_goals
      have HC : Hid (LF w (((((W0.setCell ⟨Y, 1, none⟩ (.int .i64 i)).setCell ⟨Y, 4, none⟩ (.string b)).setCell ⟨Y, 2, none⟩ (.int .i64 (b.size : Int)))).drew) X Q Y [.int .i64 6, .int .i64 i, .int .i64 n, .int .i64 t, .string b, .int .i64 e, .int .i64 s0, .int .i64 s1, .int .i64 s2, .int .i64 s3, .int .i64 s4, .int .i64 s5] [.int .i64 6, .int .i64 i, .int .i64 (b.size : Int), .int .i64 0, .string b, .int .i64 0, .int .i64 0, .int .i64 0, .int .i64 0, .int .i64 0, .int .i64 0, .int .i64 0]) := Lib.hid (((HB.out.set 1 _).set 4 _).set 2 _).drew
      clear d1 d2 d4 p1 f1 p4 f4 p2 f2 HB
      revert HC
      generalize ((((W0.setCell ⟨Y, 1, none⟩ (.int .i64 i)).setCell ⟨Y, 4, none⟩ (.string b)).setCell ⟨Y, 2, none⟩ (.int .i64 (b.size : Int)))).drew = W1
      intro HC
      have y0 := HC.out.by_.cell (i := 0) rfl
      have q0 := HC.out.bq.cell (i := 0) rfl
      have g0 := HC.out.bq.free 0
      have y1 := HC.out.by_.cell (i := 1) rfl
      have q1 := HC.out.bq.cell (i := 1) rfl
      have g1 := HC.out.bq.free 1
      have y2 := HC.out.by_.cell (i := 2) rfl
      have q2 := HC.out.bq.cell (i := 2) rfl
      have g2 := HC.out.bq.free 2
      have y3 := HC.out.by_.cell (i := 3) rfl
      have q3 := HC.out.bq.cell (i := 3) rfl
      have g3 := HC.out.bq.free 3
      have y4 := HC.out.by_.cell (i := 4) rfl
      have q4 := HC.out.bq.cell (i := 4) rfl
      have g4 := HC.out.bq.free 4
      have y5 := HC.out.by_.cell (i := 5) rfl
      have q5 := HC.out.bq.cell (i := 5) rfl
      have g5 := HC.out.bq.free 5
      have y6 := HC.out.by_.cell (i := 6) rfl
      have q6 := HC.out.bq.cell (i := 6) rfl
      have g6 := HC.out.bq.free 6
      have y7 := HC.out.by_.cell (i := 7) rfl
      have q7 := HC.out.bq.cell (i := 7) rfl
      have g7 := HC.out.bq.free 7
      have y8 := HC.out.by_.cell (i := 8) rfl
      have q8 := HC.out.bq.cell (i := 8) rfl
      have g8 := HC.out.bq.free 8
      have y9 := HC.out.by_.cell (i := 9) rfl
      have q9 := HC.out.bq.cell (i := 9) rfl
      have g9 := HC.out.bq.free 9
      have y10 := HC.out.by_.cell (i := 10) rfl
      have q10 := HC.out.bq.cell (i := 10) rfl
      have g10 := HC.out.bq.free 10
      have y11 := HC.out.by_.cell (i := 11) rfl
      have q11 := HC.out.bq.cell (i := 11) rfl
      have g11 := HC.out.bq.free 11
      have HW9 : Hid (Blk ((((((((((((W1.setCell ⟨Q, 0, none⟩ (.int .i64 6)).setCell ⟨Q, 1, none⟩ (.int .i64 i)).setCell ⟨Q, 2, none⟩ (.int .i64 (b.size : Int))).setCell ⟨Q, 3, none⟩ (.int .i64 0)).setCell ⟨Q, 4, none⟩ (.string b)).setCell ⟨Q, 5, none⟩ (.int .i64 0)).setCell ⟨Q, 6, none⟩ (.int .i64 0)).setCell ⟨Q, 7, none⟩ (.int .i64 0)).setCell ⟨Q, 8, none⟩ (.int .i64 0)).setCell ⟨Q, 9, none⟩ (.int .i64 0)).setCell ⟨Q, 10, none⟩ (.int .i64 0)).setCell ⟨Q, 11, none⟩ (.int .i64 0)) Q [.int .i64 6, .int .i64 i, .int .i64 (b.size : Int), .int .i64 0, .string b, .int .i64 0, .int .i64 0, .int .i64 0, .int .i64 0, .int .i64 0, .int .i64 0, .int .i64 0] 26 ∧ Below w.heap.size w ((((((((((((W1.setCell ⟨Q, 0, none⟩ (.int .i64 6)).setCell ⟨Q, 1, none⟩ (.int .i64 i)).setCell ⟨Q, 2, none⟩ (.int .i64 (b.size : Int))).setCell ⟨Q, 3, none⟩ (.int .i64 0)).setCell ⟨Q, 4, none⟩ (.string b)).setCell ⟨Q, 5, none⟩ (.int .i64 0)).setCell ⟨Q, 6, none⟩ (.int .i64 0)).setCell ⟨Q, 7, none⟩ (.int .i64 0)).setCell ⟨Q, 8, none⟩ (.int .i64 0)).setCell ⟨Q, 9, none⟩ (.int .i64 0)).setCell ⟨Q, 10, none⟩ (.int .i64 0)).setCell ⟨Q, 11, none⟩ (.int .i64 0))) := Lib.hid (HC.out.fill _ _ _ _ _ _ _ _ _ _ _ _)
      have nq1 : ¬ Q = Y := HC.out.lt.2.2.2.1
      have nq2 : ¬ Y = Q := fun e => nq1 e.symm
      go_wp2_with fail
      clear y0 q0 g0 y1 q1 g1 y2 q2 g2 y3 q3 g3 y4 q4 g4 y5 q5 g5 y6 q6 g6 y7 q7 g7 y8 q8 g8 y9 q9 g9 y10 q10 g10 y11 q11 g11
      revert HW9
      generalize ((((((((((((W1.setCell ⟨Q, 0, none⟩ (.int .i64 6)).setCell ⟨Q, 1, none⟩ (.int .i64 i)).setCell ⟨Q, 2, none⟩ (.int .i64 (b.size : Int))).setCell ⟨Q, 3, none⟩ (.int .i64 0)).setCell ⟨Q, 4, none⟩ (.string b)).setCell ⟨Q, 5, none⟩ (.int .i64 0)).setCell ⟨Q, 6, none⟩ (.int .i64 0)).setCell ⟨Q, 7, none⟩ (.int .i64 0)).setCell ⟨Q, 8, none⟩ (.int .i64 0)).setCell ⟨Q, 9, none⟩ (.int .i64 0)).setCell ⟨Q, 10, none⟩ (.int .i64 0)).setCell ⟨Q, 11, none⟩ (.int .i64 0)) = W9
      intro HW9
      have r0 := HW9.out.1.cell (i := 0) rfl
      have r1 := HW9.out.1.cell (i := 1) rfl
      have r2 := HW9.out.1.cell (i := 2) rfl
      have r3 := HW9.out.1.cell (i := 3) rfl
      have r4 := HW9.out.1.cell (i := 4) rfl
      have r5 := HW9.out.1.cell (i := 5) rfl
      have r6 := HW9.out.1.cell (i := 6) rfl
      have r7 := HW9.out.1.cell (i := 7) rfl
      have r8 := HW9.out.1.cell (i := 8) rfl
      have r9 := HW9.out.1.cell (i := 9) rfl
      have r10 := HW9.out.1.cell (i := 10) rfl
      have r11 := HW9.out.1.cell (i := 11) rfl
      (try simp only [Exit.inBlock, Exit.then])
      exact bodyPost_ret (v := .agg X'.c.toArray) (by rw [← HX.out]; simp [results, Tryz.results26, go_sem, r0, r1, r2, r3, r4, r5, r6, r7, r8, r9, r10, r11, Ev.c]) rfl ⟨rfl, HW9.out.2⟩
  by_cases h5 : k = 5
  · subst h5
    have HX : Hid ((⟨5, i, 0, 0, { data := #[] }, 0, 0, 0, 0, 0, 0, 0⟩ : Ev) = X') := Lib.hid (by rw [← hX]; rfl)
    clear hX
    have dk := HB.out.bx.cell (i := 0) rfl
    have d1 := HB.out.bx.cell (i := 1) rfl
    have p1 := HB.out.by_.cell (i := 1) rfl
    have f1 := HB.out.by_.free 1
    go_upto_region 14 with fail
    clear dk
    go_upto_region 17 with fail
    all_goals
      have HC : Hid (LF w ((W0.setCell ⟨Y, 1, none⟩ (.int .i64 i))) X Q Y [.int .i64 5, .int .i64 i, .int .i64 n, .int .i64 t, .string b, .int .i64 e, .int .i64 s0, .int .i64 s1, .int .i64 s2, .int .i64 s3, .int .i64 s4, .int .i64 s5] [.int .i64 5, .int .i64 i, .int .i64 0, .int .i64 0, .string { data := #[] }, .int .i64 0, .int .i64 0, .int .i64 0, .int .i64 0, .int .i64 0, .int .i64 0, .int .i64 0]) := Lib.hid (HB.out.set 1 _)
      clear d1 p1 f1 HB
      revert HC
      generalize (W0.setCell ⟨Y, 1, none⟩ (.int .i64 i)) = W1
      intro HC
      have y0 := HC.out.by_.cell (i := 0) rfl
      have q0 := HC.out.bq.cell (i := 0) rfl
      have g0 := HC.out.bq.free 0
      have y1 := HC.out.by_.cell (i := 1) rfl
      have q1 := HC.out.bq.cell (i := 1) rfl
      have g1 := HC.out.bq.free 1
      have y2 := HC.out.by_.cell (i := 2) rfl
      have q2 := HC.out.bq.cell (i := 2) rfl
      have g2 := HC.out.bq.free 2
      have y3 := HC.out.by_.cell (i := 3) rfl
      have q3 := HC.out.bq.cell (i := 3) rfl
      have g3 := HC.out.bq.free 3
      have y4 := HC.out.by_.cell (i := 4) rfl
      have q4 := HC.out.bq.cell (i := 4) rfl
      have g4 := HC.out.bq.free 4
      have y5 := HC.out.by_.cell (i := 5) rfl
      have q5 := HC.out.bq.cell (i := 5) rfl
      have g5 := HC.out.bq.free 5
      have y6 := HC.out.by_.cell (i := 6) rfl
      have q6 := HC.out.bq.cell (i := 6) rfl
      have g6 := HC.out.bq.free 6
      have y7 := HC.out.by_.cell (i := 7) rfl
      have q7 := HC.out.bq.cell (i := 7) rfl
      have g7 := HC.out.bq.free 7
      have y8 := HC.out.by_.cell (i := 8) rfl
      have q8 := HC.out.bq.cell (i := 8) rfl
      have g8 := HC.out.bq.free 8
      have y9 := HC.out.by_.cell (i := 9) rfl
      have q9 := HC.out.bq.cell (i := 9) rfl
      have g9 := HC.out.bq.free 9
      have y10 := HC.out.by_.cell (i := 10) rfl
      have q10 := HC.out.bq.cell (i := 10) rfl
      have g10 := HC.out.bq.free 10
      have y11 := HC.out.by_.cell (i := 11) rfl
      have q11 := HC.out.bq.cell (i := 11) rfl
      have g11 := HC.out.bq.free 11
      have HW9 : Hid (Blk ((((((((((((W1.setCell ⟨Q, 0, none⟩ (.int .i64 5)).setCell ⟨Q, 1, none⟩ (.int .i64 i)).setCell ⟨Q, 2, none⟩ (.int .i64 0)).setCell ⟨Q, 3, none⟩ (.int .i64 0)).setCell ⟨Q, 4, none⟩ (.string { data := #[] })).setCell ⟨Q, 5, none⟩ (.int .i64 0)).setCell ⟨Q, 6, none⟩ (.int .i64 0)).setCell ⟨Q, 7, none⟩ (.int .i64 0)).setCell ⟨Q, 8, none⟩ (.int .i64 0)).setCell ⟨Q, 9, none⟩ (.int .i64 0)).setCell ⟨Q, 10, none⟩ (.int .i64 0)).setCell ⟨Q, 11, none⟩ (.int .i64 0)) Q [.int .i64 5, .int .i64 i, .int .i64 0, .int .i64 0, .string { data := #[] }, .int .i64 0, .int .i64 0, .int .i64 0, .int .i64 0, .int .i64 0, .int .i64 0, .int .i64 0] 26 ∧ Below w.heap.size w ((((((((((((W1.setCell ⟨Q, 0, none⟩ (.int .i64 5)).setCell ⟨Q, 1, none⟩ (.int .i64 i)).setCell ⟨Q, 2, none⟩ (.int .i64 0)).setCell ⟨Q, 3, none⟩ (.int .i64 0)).setCell ⟨Q, 4, none⟩ (.string { data := #[] })).setCell ⟨Q, 5, none⟩ (.int .i64 0)).setCell ⟨Q, 6, none⟩ (.int .i64 0)).setCell ⟨Q, 7, none⟩ (.int .i64 0)).setCell ⟨Q, 8, none⟩ (.int .i64 0)).setCell ⟨Q, 9, none⟩ (.int .i64 0)).setCell ⟨Q, 10, none⟩ (.int .i64 0)).setCell ⟨Q, 11, none⟩ (.int .i64 0))) := Lib.hid (HC.out.fill _ _ _ _ _ _ _ _ _ _ _ _)
      have nq1 : ¬ Q = Y := HC.out.lt.2.2.2.1
      have nq2 : ¬ Y = Q := fun e => nq1 e.symm
      go_wp2_with fail
      clear y0 q0 g0 y1 q1 g1 y2 q2 g2 y3 q3 g3 y4 q4 g4 y5 q5 g5 y6 q6 g6 y7 q7 g7 y8 q8 g8 y9 q9 g9 y10 q10 g10 y11 q11 g11
      revert HW9
      generalize ((((((((((((W1.setCell ⟨Q, 0, none⟩ (.int .i64 5)).setCell ⟨Q, 1, none⟩ (.int .i64 i)).setCell ⟨Q, 2, none⟩ (.int .i64 0)).setCell ⟨Q, 3, none⟩ (.int .i64 0)).setCell ⟨Q, 4, none⟩ (.string { data := #[] })).setCell ⟨Q, 5, none⟩ (.int .i64 0)).setCell ⟨Q, 6, none⟩ (.int .i64 0)).setCell ⟨Q, 7, none⟩ (.int .i64 0)).setCell ⟨Q, 8, none⟩ (.int .i64 0)).setCell ⟨Q, 9, none⟩ (.int .i64 0)).setCell ⟨Q, 10, none⟩ (.int .i64 0)).setCell ⟨Q, 11, none⟩ (.int .i64 0)) = W9
      intro HW9
      have r0 := HW9.out.1.cell (i := 0) rfl
      have r1 := HW9.out.1.cell (i := 1) rfl
      have r2 := HW9.out.1.cell (i := 2) rfl
      have r3 := HW9.out.1.cell (i := 3) rfl
      have r4 := HW9.out.1.cell (i := 4) rfl
      have r5 := HW9.out.1.cell (i := 5) rfl
      have r6 := HW9.out.1.cell (i := 6) rfl
      have r7 := HW9.out.1.cell (i := 7) rfl
      have r8 := HW9.out.1.cell (i := 8) rfl
      have r9 := HW9.out.1.cell (i := 9) rfl
      have r10 := HW9.out.1.cell (i := 10) rfl
      have r11 := HW9.out.1.cell (i := 11) rfl
      (try simp only [Exit.inBlock, Exit.then])
      exact bodyPost_ret (v := .agg X'.c.toArray) (by rw [← HX.out]; simp [results, Tryz.results26, go_sem, r0, r1, r2, r3, r4, r5, r6, r7, r8, r9, r10, r11, Ev.c]) rfl ⟨rfl, HW9.out.2⟩
  by_cases h8 : k = 8
  · subst h8
    have HX : Hid ((⟨8, i, 0, 0, { data := #[] }, 0, s0, s1, s2, s3, s4, s5⟩ : Ev) = X') := Lib.hid (by rw [← hX]; rfl)
    clear hX
    have dk := HB.out.bx.cell (i := 0) rfl
    have d1 := HB.out.bx.cell (i := 1) rfl
    have d6 := HB.out.bx.cell (i := 6) rfl
    have d7 := HB.out.bx.cell (i := 7) rfl
    have d8 := HB.out.bx.cell (i := 8) rfl
    have d9 := HB.out.bx.cell (i := 9) rfl
    have d10 := HB.out.bx.cell (i := 10) rfl
    have d11 := HB.out.bx.cell (i := 11) rfl
    have p1 := HB.out.by_.cell (i := 1) rfl
    have f1 := HB.out.by_.free 1
    have p6 := HB.out.by_.cell (i := 6) rfl
    have f6 := HB.out.by_.free 6
    have p7 := HB.out.by_.cell (i := 7) rfl
    have f7 := HB.out.by_.free 7
    have p8 := HB.out.by_.cell (i := 8) rfl
    have f8 := HB.out.by_.free 8
    have p9 := HB.out.by_.cell (i := 9) rfl
    have f9 := HB.out.by_.free 9
    have p10 := HB.out.by_.cell (i := 10) rfl
    have f10 := HB.out.by_.free 10
    have p11 := HB.out.by_.cell (i := 11) rfl
    have f11 := HB.out.by_.free 11
    go_wp2_with fail
    clear dk
    go_region
    all_goals
      have HC : Hid (LF w (((((((((W0.setCell ⟨Y, 1, none⟩ (.int .i64 i)).setCell ⟨Y, 6, none⟩ (.int .i64 s0)).setCell ⟨Y, 7, none⟩ (.int .i64 s1)).setCell ⟨Y, 8, none⟩ (.int .i64 s2)).setCell ⟨Y, 9, none⟩ (.int .i64 s3)).setCell ⟨Y, 10, none⟩ (.int .i64 s4)).setCell ⟨Y, 11, none⟩ (.int .i64 s5))).drew) X Q Y [.int .i64 8, .int .i64 i, .int .i64 n, .int .i64 t, .string b, .int .i64 e, .int .i64 s0, .int .i64 s1, .int .i64 s2, .int .i64 s3, .int .i64 s4, .int .i64 s5] [.int .i64 8, .int .i64 i, .int .i64 0, .int .i64 0, .string { data := #[] }, .int .i64 0, .int .i64 s0, .int .i64 s1, .int .i64 s2, .int .i64 s3, .int .i64 s4, .int .i64 s5]) := Lib.hid (((((((HB.out.set 1 _).set 6 _).set 7 _).set 8 _).set 9 _).set 10 _).set 11 _).drew
      clear d1 d6 d7 d8 d9 d10 d11 p1 f1 p6 f6 p7 f7 p8 f8 p9 f9 p10 f10 p11 f11 HB
      revert HC
      generalize ((((((((W0.setCell ⟨Y, 1, none⟩ (.int .i64 i)).setCell ⟨Y, 6, none⟩ (.int .i64 s0)).setCell ⟨Y, 7, none⟩ (.int .i64 s1)).setCell ⟨Y, 8, none⟩ (.int .i64 s2)).setCell ⟨Y, 9, none⟩ (.int .i64 s3)).setCell ⟨Y, 10, none⟩ (.int .i64 s4)).setCell ⟨Y, 11, none⟩ (.int .i64 s5))).drew = W1
      intro HC
      have y0 := HC.out.by_.cell (i := 0) rfl
      have q0 := HC.out.bq.cell (i := 0) rfl
      have g0 := HC.out.bq.free 0
      have y1 := HC.out.by_.cell (i := 1) rfl
      have q1 := HC.out.bq.cell (i := 1) rfl
      have g1 := HC.out.bq.free 1
      have y2 := HC.out.by_.cell (i := 2) rfl
      have q2 := HC.out.bq.cell (i := 2) rfl
      have g2 := HC.out.bq.free 2
      have y3 := HC.out.by_.cell (i := 3) rfl
      have q3 := HC.out.bq.cell (i := 3) rfl
      have g3 := HC.out.bq.free 3
      have y4 := HC.out.by_.cell (i := 4) rfl
      have q4 := HC.out.bq.cell (i := 4) rfl
      have g4 := HC.out.bq.free 4
      have y5 := HC.out.by_.cell (i := 5) rfl
      have q5 := HC.out.bq.cell (i := 5) rfl
      have g5 := HC.out.bq.free 5
      have y6 := HC.out.by_.cell (i := 6) rfl
      have q6 := HC.out.bq.cell (i := 6) rfl
      have g6 := HC.out.bq.free 6
      have y7 := HC.out.by_.cell (i := 7) rfl
      have q7 := HC.out.bq.cell (i := 7) rfl
      have g7 := HC.out.bq.free 7
      have y8 := HC.out.by_.cell (i := 8) rfl
      have q8 := HC.out.bq.cell (i := 8) rfl
      have g8 := HC.out.bq.free 8
      have y9 := HC.out.by_.cell (i := 9) rfl
      have q9 := HC.out.bq.cell (i := 9) rfl
      have g9 := HC.out.bq.free 9
      have y10 := HC.out.by_.cell (i := 10) rfl
      have q10 := HC.out.bq.cell (i := 10) rfl
      have g10 := HC.out.bq.free 10
      have y11 := HC.out.by_.cell (i := 11) rfl
      have q11 := HC.out.bq.cell (i := 11) rfl
      have g11 := HC.out.bq.free 11
      have HW9 : Hid (Blk ((((((((((((W1.setCell ⟨Q, 0, none⟩ (.int .i64 8)).setCell ⟨Q, 1, none⟩ (.int .i64 i)).setCell ⟨Q, 2, none⟩ (.int .i64 0)).setCell ⟨Q, 3, none⟩ (.int .i64 0)).setCell ⟨Q, 4, none⟩ (.string { data := #[] })).setCell ⟨Q, 5, none⟩ (.int .i64 0)).setCell ⟨Q, 6, none⟩ (.int .i64 s0)).setCell ⟨Q, 7, none⟩ (.int .i64 s1)).setCell ⟨Q, 8, none⟩ (.int .i64 s2)).setCell ⟨Q, 9, none⟩ (.int .i64 s3)).setCell ⟨Q, 10, none⟩ (.int .i64 s4)).setCell ⟨Q, 11, none⟩ (.int .i64 s5)) Q [.int .i64 8, .int .i64 i, .int .i64 0, .int .i64 0, .string { data := #[] }, .int .i64 0, .int .i64 s0, .int .i64 s1, .int .i64 s2, .int .i64 s3, .int .i64 s4, .int .i64 s5] 26 ∧ Below w.heap.size w ((((((((((((W1.setCell ⟨Q, 0, none⟩ (.int .i64 8)).setCell ⟨Q, 1, none⟩ (.int .i64 i)).setCell ⟨Q, 2, none⟩ (.int .i64 0)).setCell ⟨Q, 3, none⟩ (.int .i64 0)).setCell ⟨Q, 4, none⟩ (.string { data := #[] })).setCell ⟨Q, 5, none⟩ (.int .i64 0)).setCell ⟨Q, 6, none⟩ (.int .i64 s0)).setCell ⟨Q, 7, none⟩ (.int .i64 s1)).setCell ⟨Q, 8, none⟩ (.int .i64 s2)).setCell ⟨Q, 9, none⟩ (.int .i64 s3)).setCell ⟨Q, 10, none⟩ (.int .i64 s4)).setCell ⟨Q, 11, none⟩ (.int .i64 s5))) := Lib.hid (HC.out.fill _ _ _ _ _ _ _ _ _ _ _ _)
      have nq1 : ¬ Q = Y := HC.out.lt.2.2.2.1
      have nq2 : ¬ Y = Q := fun e => nq1 e.symm
      go_wp2_with fail
      clear y0 q0 g0 y1 q1 g1 y2 q2 g2 y3 q3 g3 y4 q4 g4 y5 q5 g5 y6 q6 g6 y7 q7 g7 y8 q8 g8 y9 q9 g9 y10 q10 g10 y11 q11 g11
      revert HW9
      generalize ((((((((((((W1.setCell ⟨Q, 0, none⟩ (.int .i64 8)).setCell ⟨Q, 1, none⟩ (.int .i64 i)).setCell ⟨Q, 2, none⟩ (.int .i64 0)).setCell ⟨Q, 3, none⟩ (.int .i64 0)).setCell ⟨Q, 4, none⟩ (.string { data := #[] })).setCell ⟨Q, 5, none⟩ (.int .i64 0)).setCell ⟨Q, 6, none⟩ (.int .i64 s0)).setCell ⟨Q, 7, none⟩ (.int .i64 s1)).setCell ⟨Q, 8, none⟩ (.int .i64 s2)).setCell ⟨Q, 9, none⟩ (.int .i64 s3)).setCell ⟨Q, 10, none⟩ (.int .i64 s4)).setCell ⟨Q, 11, none⟩ (.int .i64 s5)) = W9
      intro HW9
      have r0 := HW9.out.1.cell (i := 0) rfl
      have r1 := HW9.out.1.cell (i := 1) rfl
      have r2 := HW9.out.1.cell (i := 2) rfl
      have r3 := HW9.out.1.cell (i := 3) rfl
      have r4 := HW9.out.1.cell (i := 4) rfl
      have r5 := HW9.out.1.cell (i := 5) rfl
      have r6 := HW9.out.1.cell (i := 6) rfl
      have r7 := HW9.out.1.cell (i := 7) rfl
      have r8 := HW9.out.1.cell (i := 8) rfl
      have r9 := HW9.out.1.cell (i := 9) rfl
      have r10 := HW9.out.1.cell (i := 10) rfl
      have r11 := HW9.out.1.cell (i := 11) rfl
      (try simp only [Exit.inBlock, Exit.then])
      exact bodyPost_ret (v := .agg X'.c.toArray) (by rw [← HX.out]; simp [results, Tryz.results26, go_sem, r0, r1, r2, r3, r4, r5, r6, r7, r8, r9, r10, r11, Ev.c]) rfl ⟨rfl, HW9.out.2⟩
  have HX : Hid ((⟨k, 0, 0, 0, { data := #[] }, 0, 0, 0, 0, 0, 0, 0⟩ : Ev) = X') := Lib.hid (by rw [← hX]; unfold Lo.left; dsimp only; rw [if_neg (by simp [h1, h7]), if_neg h2, if_neg h3, if_neg (by simp [h4, h6]), if_neg h5, if_neg h8])
  have b1 : (k == 1) = false := by simp [h1]
  have b7 : (k == 7) = false := by simp [h7]
  have b2 : (k == 2) = false := by simp [h2]
  have b3 : (k == 3) = false := by simp [h3]
  have b4 : (k == 4) = false := by simp [h4]
  have b6 : (k == 6) = false := by simp [h6]
  have b5 : (k == 5) = false := by simp [h5]
  have b8 : (k == 8) = false := by simp [h8]
  have dk := HB.out.bx.cell (i := 0) rfl
  clear hX h1 h7 h2 h3 h4 h6 h5 h8
  go_upto_region 17 with fail
  clear dk
  have HC := HB
  clear HB
  have y0 := HC.out.by_.cell (i := 0) rfl
  have q0 := HC.out.bq.cell (i := 0) rfl
  have g0 := HC.out.bq.free 0
  have y1 := HC.out.by_.cell (i := 1) rfl
  have q1 := HC.out.bq.cell (i := 1) rfl
  have g1 := HC.out.bq.free 1
  have y2 := HC.out.by_.cell (i := 2) rfl
  have q2 := HC.out.bq.cell (i := 2) rfl
  have g2 := HC.out.bq.free 2
  have y3 := HC.out.by_.cell (i := 3) rfl
  have q3 := HC.out.bq.cell (i := 3) rfl
  have g3 := HC.out.bq.free 3
  have y4 := HC.out.by_.cell (i := 4) rfl
  have q4 := HC.out.bq.cell (i := 4) rfl
  have g4 := HC.out.bq.free 4
  have y5 := HC.out.by_.cell (i := 5) rfl
  have q5 := HC.out.bq.cell (i := 5) rfl
  have g5 := HC.out.bq.free 5
  have y6 := HC.out.by_.cell (i := 6) rfl
  have q6 := HC.out.bq.cell (i := 6) rfl
  have g6 := HC.out.bq.free 6
  have y7 := HC.out.by_.cell (i := 7) rfl
  have q7 := HC.out.bq.cell (i := 7) rfl
  have g7 := HC.out.bq.free 7
  have y8 := HC.out.by_.cell (i := 8) rfl
  have q8 := HC.out.bq.cell (i := 8) rfl
  have g8 := HC.out.bq.free 8
  have y9 := HC.out.by_.cell (i := 9) rfl
  have q9 := HC.out.bq.cell (i := 9) rfl
  have g9 := HC.out.bq.free 9
  have y10 := HC.out.by_.cell (i := 10) rfl
  have q10 := HC.out.bq.cell (i := 10) rfl
  have g10 := HC.out.bq.free 10
  have y11 := HC.out.by_.cell (i := 11) rfl
  have q11 := HC.out.bq.cell (i := 11) rfl
  have g11 := HC.out.bq.free 11
  have HW9 : Hid (Blk ((((((((((((W0.setCell ⟨Q, 0, none⟩ (.int .i64 k)).setCell ⟨Q, 1, none⟩ (.int .i64 0)).setCell ⟨Q, 2, none⟩ (.int .i64 0)).setCell ⟨Q, 3, none⟩ (.int .i64 0)).setCell ⟨Q, 4, none⟩ (.string { data := #[] })).setCell ⟨Q, 5, none⟩ (.int .i64 0)).setCell ⟨Q, 6, none⟩ (.int .i64 0)).setCell ⟨Q, 7, none⟩ (.int .i64 0)).setCell ⟨Q, 8, none⟩ (.int .i64 0)).setCell ⟨Q, 9, none⟩ (.int .i64 0)).setCell ⟨Q, 10, none⟩ (.int .i64 0)).setCell ⟨Q, 11, none⟩ (.int .i64 0)) Q [.int .i64 k, .int .i64 0, .int .i64 0, .int .i64 0, .string { data := #[] }, .int .i64 0, .int .i64 0, .int .i64 0, .int .i64 0, .int .i64 0, .int .i64 0, .int .i64 0] 26 ∧ Below w.heap.size w ((((((((((((W0.setCell ⟨Q, 0, none⟩ (.int .i64 k)).setCell ⟨Q, 1, none⟩ (.int .i64 0)).setCell ⟨Q, 2, none⟩ (.int .i64 0)).setCell ⟨Q, 3, none⟩ (.int .i64 0)).setCell ⟨Q, 4, none⟩ (.string { data := #[] })).setCell ⟨Q, 5, none⟩ (.int .i64 0)).setCell ⟨Q, 6, none⟩ (.int .i64 0)).setCell ⟨Q, 7, none⟩ (.int .i64 0)).setCell ⟨Q, 8, none⟩ (.int .i64 0)).setCell ⟨Q, 9, none⟩ (.int .i64 0)).setCell ⟨Q, 10, none⟩ (.int .i64 0)).setCell ⟨Q, 11, none⟩ (.int .i64 0))) := Lib.hid (HC.out.fill _ _ _ _ _ _ _ _ _ _ _ _)
  have nq1 : ¬ Q = Y := HC.out.lt.2.2.2.1
  have nq2 : ¬ Y = Q := fun e => nq1 e.symm
  go_wp2_with fail
  clear y0 q0 g0 y1 q1 g1 y2 q2 g2 y3 q3 g3 y4 q4 g4 y5 q5 g5 y6 q6 g6 y7 q7 g7 y8 q8 g8 y9 q9 g9 y10 q10 g10 y11 q11 g11
  revert HW9
  generalize ((((((((((((W0.setCell ⟨Q, 0, none⟩ (.int .i64 k)).setCell ⟨Q, 1, none⟩ (.int .i64 0)).setCell ⟨Q, 2, none⟩ (.int .i64 0)).setCell ⟨Q, 3, none⟩ (.int .i64 0)).setCell ⟨Q, 4, none⟩ (.string { data := #[] })).setCell ⟨Q, 5, none⟩ (.int .i64 0)).setCell ⟨Q, 6, none⟩ (.int .i64 0)).setCell ⟨Q, 7, none⟩ (.int .i64 0)).setCell ⟨Q, 8, none⟩ (.int .i64 0)).setCell ⟨Q, 9, none⟩ (.int .i64 0)).setCell ⟨Q, 10, none⟩ (.int .i64 0)).setCell ⟨Q, 11, none⟩ (.int .i64 0)) = W9
  intro HW9
  have r0 := HW9.out.1.cell (i := 0) rfl
  have r1 := HW9.out.1.cell (i := 1) rfl
  have r2 := HW9.out.1.cell (i := 2) rfl
  have r3 := HW9.out.1.cell (i := 3) rfl
  have r4 := HW9.out.1.cell (i := 4) rfl
  have r5 := HW9.out.1.cell (i := 5) rfl
  have r6 := HW9.out.1.cell (i := 6) rfl
  have r7 := HW9.out.1.cell (i := 7) rfl
  have r8 := HW9.out.1.cell (i := 8) rfl
  have r9 := HW9.out.1.cell (i := 9) rfl
  have r10 := HW9.out.1.cell (i := 10) rfl
  have r11 := HW9.out.1.cell (i := 11) rfl
  (try simp only [Exit.inBlock, Exit.then])
  exact bodyPost_ret (v := .agg X'.c.toArray) (by rw [← HX.out]; simp [results, Tryz.results26, go_sem, r0, r1, r2, r3, r4, r5, r6, r7, r8, r9, r10, r11, Ev.c]) rfl ⟨rfl, HW9.out.2⟩
end Go.Proofs.YtfhhkmjjifbfeaaGreatDoor
