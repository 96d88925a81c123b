/- Events: what is gathered of one: add. -/
import Derived.Test.YtdchedkhlfmpeaaDoorEv5
import Derived.WalkKit
import Derived.ProofKit
import Derived.Handy
import Derived.WalkLawsBesides
import Derived.WalkSpells
import Derived.Lib.Hide
import Derived.Lib.SliceRun
import Derived.Deep.RegionLaw
import Derived.RegionTactic
import Derived.ChangeAlike
import Derived.WalkSmall
import Derived.Deep.QuietTactic
import Derived.BigQuiet
import Derived.OwnWalk
import Derived.Outline
import Derived.Deep.CutRange
import Derived.Deep.CutBlock
import Derived.LoopTactic
namespace Go.Proofs.YtdchedkhlfmpeaaDoor
open Go.ChangeShapes Go.WideShapes Go.ChangeAt Go.RowKit
set_option linter.unusedSimpArgs false
set_option linter.unusedVariables false

set_option maxRecDepth 20000 in
set_option maxHeartbeats 16000000 in
theorem pj_add5 (i n t : Int) (b : ByteArray) (e s0 s1 s2 s3 s4 s5 : Int) (w0 : World) (b0 : List Nat) (B p : Nat) (id sc fr : Int) (eo : Bool) (st : Int) (r1 : Option Addr) (n1 c1 : Nat) (L1 : List Value) (r2 : Option Addr) (n2 c2 : Nat) (L2 : List Value) (r3 : Option Addr) (n3 c3 : Nat) (L3 : List Value) (r4 : Option Addr) (n4 c4 : Nat) (L4 : List Value) (r5 : Option Addr) (n5 c5 : Nat) (L5 : List Value) (hn1 : n1 ≤ 100000) (hn3 : n3 ≤ 100000) (w : World) (H : TO w0 b0 w B p id sc fr eo st r1 n1 c1 L1 r2 n2 c2 L2 r3 n3 c3 L3 r4 n4 c4 L4 r5 n5 c5 L5) :
    Calls Tryd.prog 40 #[.pointer (some ⟨p, 0, none⟩), .agg #[.int .i64 5, .int .i64 i, .int .i64 n, .int .i64 t, .string b, .int .i64 e, .int .i64 s0, .int .i64 s1, .int .i64 s2, .int .i64 s3, .int .i64 s4, .int .i64 s5]] w fun r w' => ∃ (gA kA gC kC : Nat), r = .returned (.tuple #[]) ∧ TO w0 b0 w' B p id sc fr true st (some ⟨gA, 0, none⟩) (n1 + 1) kA (L1 ++ [.int .i64 2, .string ⟨#[]⟩, .int .i64 0, .int .i64 0]) r2 n2 c2 L2 (some ⟨gC, 0, none⟩) (n3 + 1) kC (L3 ++ [.int .i64 5, .int .i64 i, .int .i64 n, .int .i64 t, .string b, .int .i64 e, .int .i64 s0, .int .i64 s1, .int .i64 s2, .int .i64 s3, .int .i64 s4, .int .i64 s5]) r4 n4 c4 L4 r5 n5 c5 L5 := by
  have H1 : Hid (TA w0 b0 ((w.alloc (.cells #[.int .i64 5, .int .i64 i, .int .i64 n, .int .i64 t, .string b, .int .i64 e, .int .i64 s0, .int .i64 s1, .int .i64 s2, .int .i64 s3, .int .i64 s4, .int .i64 s5] 46)).alloc (.cells #[.int .i64 0, .string ⟨#[]⟩, .int .i64 0, .int .i64 0] 90)) B p id sc fr eo st r1 n1 c1 L1 r2 n2 c2 L2 r3 n3 c3 L3 r4 n4 c4 L4 r5 n5 c5 L5 w.heap.size ⟨5, i, n, t, b, e, s0, s1, s2, s3, s4, s5⟩ [.int .i64 0, .string ⟨#[]⟩, .int .i64 0, .int .i64 0]) := Lib.hid (by
    have hl := H.lt
    refine ⟨(H.alloc _).alloc _, (Blk.newA w #[.int .i64 5, .int .i64 i, .int .i64 n, .int .i64 t, .string b, .int .i64 e, .int .i64 s0, .int .i64 s1, .int .i64 s2, .int .i64 s3, .int .i64 s4, .int .i64 s5] 46).alloc _, ?_, H.ch.size, fun hh => absurd (hl _ hh) (by omega), fun hh => absurd (hl _ hh) (by omega)⟩
    have := Blk.newA (w.alloc (.cells #[.int .i64 5, .int .i64 i, .int .i64 n, .int .i64 t, .string b, .int .i64 e, .int .i64 s0, .int .i64 s1, .int .i64 s2, .int .i64 s3, .int .i64 s4, .int .i64 s5] 46)) #[.int .i64 0, .string ⟨#[]⟩, .int .i64 0, .int .i64 0] 90
    rw [World.size_alloc] at this
    exact this)
  clear H
  go_enter Tryd.func40, Tryd.ntmps40
  go_upto_region 2 with fail
  revert H1
  generalize ((w.alloc (.cells #[.int .i64 5, .int .i64 i, .int .i64 n, .int .i64 t, .string b, .int .i64 e, .int .i64 s0, .int .i64 s1, .int .i64 s2, .int .i64 s3, .int .i64 s4, .int .i64 s5] 46)).alloc (.cells #[.int .i64 0, .string ⟨#[]⟩, .int .i64 0, .int .i64 0] 90)) = W1
  generalize w.heap.size = X
  intro H1
  have z0 := H1.out.inp.cell (i := 0) rfl
  have fz0 := H1.out.inp.free 0
  have z1 := H1.out.inp.cell (i := 1) rfl
  have fz1 := H1.out.inp.free 1
  have z2 := H1.out.inp.cell (i := 2) rfl
  have fz2 := H1.out.inp.free 2
  have z3 := H1.out.inp.cell (i := 3) rfl
  have fz3 := H1.out.inp.free 3
  have ne1 : ¬ p = X + 1 := fun e => H1.out.nY (by simp [toB, e])
  have ne2 : ¬ X + 1 = p := fun e => ne1 e.symm
  have ne3 : ¬ p = X := fun e => H1.out.nX (by simp [toB, e])
  have ne4 : ¬ X = p := fun e => ne3 e.symm
  have d0 := H1.out.ev.cell (i := 0) rfl
  have d1 := H1.out.ev.cell (i := 1) rfl
  have d2 := H1.out.ev.cell (i := 2) rfl
  have d3 := H1.out.ev.cell (i := 3) rfl
  have d4 := H1.out.ev.cell (i := 4) rfl
  have d5 := H1.out.ev.cell (i := 5) rfl
  have d6 := H1.out.ev.cell (i := 6) rfl
  have d7 := H1.out.ev.cell (i := 7) rfl
  have d8 := H1.out.ev.cell (i := 8) rfl
  have d9 := H1.out.ev.cell (i := 9) rfl
  have d10 := H1.out.ev.cell (i := 10) rfl
  have d11 := H1.out.ev.cell (i := 11) rfl
  have p7 := H1.out.o.blk.cell (i := 7) rfl
  have fp7 := H1.out.o.blk.free 7
  go_upto_region 19 with fail
  have H2 : Hid (TA w0 b0 (((((W1.setCell ⟨X + 1, 0, none⟩ (.int .i64 2)).setCell ⟨X + 1, 1, none⟩ (.string ⟨#[]⟩)).setCell ⟨X + 1, 2, none⟩ (.int .i64 0)).setCell ⟨X + 1, 3, none⟩ (.int .i64 0)).setCell ⟨p, 7, none⟩ (.bool true)) B p id sc fr true st r1 n1 c1 L1 r2 n2 c2 L2 r3 n3 c3 L3 r4 n4 c4 L4 r5 n5 c5 L5 X ⟨5, i, n, t, b, e, s0, s1, s2, s3, s4, s5⟩ [.int .i64 2, .string ⟨#[]⟩, .int .i64 0, .int .i64 0]) := Lib.hid (((((H1.out.setI 0 (.int .i64 2)).setI 1 (.string ⟨#[]⟩)).setI 2 (.int .i64 0)).setI 3 (.int .i64 0)).setP true)
  clear z0 fz0 z1 fz1 z2 fz2 z3 fz3 ne1 ne2 ne3 ne4 d0 d1 d2 d3 d4 d5 d6 d7 d8 d9 d10 d11 p7 fp7 H1
  revert H2
  generalize (((((W1.setCell ⟨X + 1, 0, none⟩ (.int .i64 2)).setCell ⟨X + 1, 1, none⟩ (.string ⟨#[]⟩)).setCell ⟨X + 1, 2, none⟩ (.int .i64 0)).setCell ⟨X + 1, 3, none⟩ (.int .i64 0)).setCell ⟨p, 7, none⟩ (.bool true)) = W2
  intro H2
  go_cut [] from 81 to 92 (fun wx => ∃ gA kA : Nat, Hid (TA w0 b0 wx B p id sc fr true st (some ⟨gA, 0, none⟩) (n1 + 1) kA (L1 ++ [.int .i64 2, .string ⟨#[]⟩, .int .i64 0, .int .i64 0]) r2 n2 c2 L2 r3 n3 c3 L3 r4 n4 c4 L4 r5 n5 c5 L5 X ⟨5, i, n, t, b, e, s0, s1, s2, s3, s4, s5⟩ [.int .i64 2, .string ⟨#[]⟩, .int .i64 0, .int .i64 0]))
  case first =>
    have p3 := (H2.out.cd (i := 3) rfl).1
    have f3 := (H2.out.cd (i := 3) rfl).2
    have y0 := H2.out.ind (i := 0) rfl
    have y1 := H2.out.ind (i := 1) rfl
    have y2 := H2.out.ind (i := 2) rfl
    have y3 := H2.out.ind (i := 3) rfl
    have p3a := H2.out.ca #[.int .i64 2, .string ⟨#[]⟩, .int .i64 0, .int .i64 0] 90 (i := 3) rfl
    obtain ⟨np1, np2, np3, np4, np5, np6, np7, np8, np9⟩ := H2.out.apart
    go_region_law (first
      | (refine step_append_rm rfl (.tmp 86) (.tmp 88) 54 54 rfl 90 (.agg #[.int .i64 0, .string ByteArray.empty, .int .i64 0, .int .i64 0]) 4 40 Tryd.underlying54 infoIn rfl B r1 n1 c1 L1 rfl (H2.out.alloc _).drew.o.m1 _ rfl 1 (by omega) [.int .i64 2, .string ⟨#[]⟩, .int .i64 0, .int .i64 0] (Src.ofSlice _ Tryd.underlying54 ⟨_, 0, none⟩ 1 1 [.int .i64 2, .string ⟨#[]⟩, .int .i64 0, .int .i64 0] rfl (new_atE _ _ _) (in_one _ _ _ _)) (by omega) (by omega) ?_; intro gA kA w4 q1 q2 q3; have HN := Lib.hid ((H2.out.alloc _).drew.grow1 q1 (some_sub q2) q3); have u3 := (H2.out.alloc _).drew.keep1 q3; have p3m := u3.1; have f3m := u3.2; clear u3 q1 q2 q3))
    all_goals
      go_wp2_with fail
      go_meet
      exact ⟨gA, kA, HN⟩
  case rest =>
    obtain ⟨gA, kA, HA⟩ := hcut
    clear H2
    go_upto_region 20 with fail
    have p3 := (HA.out.cd (i := 9) rfl).1
    have f3 := (HA.out.cd (i := 9) rfl).2
    have y0 := HA.out.evd (i := 0) rfl
    have y1 := HA.out.evd (i := 1) rfl
    have y2 := HA.out.evd (i := 2) rfl
    have y3 := HA.out.evd (i := 3) rfl
    have y4 := HA.out.evd (i := 4) rfl
    have y5 := HA.out.evd (i := 5) rfl
    have y6 := HA.out.evd (i := 6) rfl
    have y7 := HA.out.evd (i := 7) rfl
    have y8 := HA.out.evd (i := 8) rfl
    have y9 := HA.out.evd (i := 9) rfl
    have y10 := HA.out.evd (i := 10) rfl
    have y11 := HA.out.evd (i := 11) rfl
    have p3a := HA.out.ca #[.int .i64 5, .int .i64 i, .int .i64 n, .int .i64 t, .string b, .int .i64 e, .int .i64 s0, .int .i64 s1, .int .i64 s2, .int .i64 s3, .int .i64 s4, .int .i64 s5] 46 (i := 9) rfl
    obtain ⟨np1, np2, np3, np4, np5, np6, np7, np8, np9⟩ := HA.out.apart
    go_region_law (first
      | (refine step_append_rm rfl (.tmp 97) (.tmp 99) 22 22 rfl 46 (.agg #[.int .i64 0, .int .i64 0, .int .i64 0, .int .i64 0, .string ByteArray.empty, .int .i64 0, .int .i64 0, .int .i64 0, .int .i64 0, .int .i64 0, .int .i64 0, .int .i64 0]) 12 104 Tryd.underlying22 infoEv rfl B r3 n3 c3 L3 rfl (HA.out.alloc _).drew.o.m3 _ rfl 1 (by omega) [.int .i64 5, .int .i64 i, .int .i64 n, .int .i64 t, .string b, .int .i64 e, .int .i64 s0, .int .i64 s1, .int .i64 s2, .int .i64 s3, .int .i64 s4, .int .i64 s5] (Src.ofSlice _ Tryd.underlying22 ⟨_, 0, none⟩ 1 1 [.int .i64 5, .int .i64 i, .int .i64 n, .int .i64 t, .string b, .int .i64 e, .int .i64 s0, .int .i64 s1, .int .i64 s2, .int .i64 s3, .int .i64 s4, .int .i64 s5] rfl (new_atE _ _ _) (Ev.c_one ⟨5, i, n, t, b, e, s0, s1, s2, s3, s4, s5⟩)) (by omega) (by omega) ?_; intro gC kC w4 q1 q2 q3; have HN := Lib.hid ((HA.out.alloc _).drew.grow3 q1 (some_sub q2) q3); have u3 := (HA.out.alloc _).drew.keep3 q3; have p3m := u3.1; have f3m := u3.2; clear u3 q1 q2 q3))
    all_goals
      go_wp2_with fail
      go_end0
      exact ⟨rfl, gA, kA, gC, kC, HN.out.o⟩
set_option maxRecDepth 20000 in
set_option maxHeartbeats 16000000 in
theorem pj_add7 (i n t : Int) (b : ByteArray) (e s0 s1 s2 s3 s4 s5 : Int) (w0 : World) (b0 : List Nat) (B p : Nat) (id sc fr : Int) (eo : Bool) (st : Int) (r1 : Option Addr) (n1 c1 : Nat) (L1 : List Value) (r2 : Option Addr) (n2 c2 : Nat) (L2 : List Value) (r3 : Option Addr) (n3 c3 : Nat) (L3 : List Value) (r4 : Option Addr) (n4 c4 : Nat) (L4 : List Value) (r5 : Option Addr) (n5 c5 : Nat) (L5 : List Value) (hn1 : n1 ≤ 100000) (hn3 : n3 ≤ 100000) (hst : st = 0) (w : World) (H : TO w0 b0 w B p id sc fr eo st r1 n1 c1 L1 r2 n2 c2 L2 r3 n3 c3 L3 r4 n4 c4 L4 r5 n5 c5 L5) :
    Calls Tryd.prog 40 #[.pointer (some ⟨p, 0, none⟩), .agg #[.int .i64 7, .int .i64 i, .int .i64 n, .int .i64 t, .string b, .int .i64 e, .int .i64 s0, .int .i64 s1, .int .i64 s2, .int .i64 s3, .int .i64 s4, .int .i64 s5]] w fun r w' => ∃ (gA kA gC kC : Nat), r = .returned (.tuple #[]) ∧ TO w0 b0 w' B p id sc fr eo 0 (some ⟨gA, 0, none⟩) (n1 + 1) kA (L1 ++ [.int .i64 4, .string ⟨#[]⟩, .int .i64 0, .int .i64 t]) r2 n2 c2 L2 (some ⟨gC, 0, none⟩) (n3 + 1) kC (L3 ++ [.int .i64 7, .int .i64 i, .int .i64 n, .int .i64 t, .string b, .int .i64 e, .int .i64 s0, .int .i64 s1, .int .i64 s2, .int .i64 s3, .int .i64 s4, .int .i64 s5]) r4 n4 c4 L4 r5 n5 c5 L5 := by
  have H1 : Hid (TA w0 b0 ((w.alloc (.cells #[.int .i64 7, .int .i64 i, .int .i64 n, .int .i64 t, .string b, .int .i64 e, .int .i64 s0, .int .i64 s1, .int .i64 s2, .int .i64 s3, .int .i64 s4, .int .i64 s5] 46)).alloc (.cells #[.int .i64 0, .string ⟨#[]⟩, .int .i64 0, .int .i64 0] 90)) B p id sc fr eo st r1 n1 c1 L1 r2 n2 c2 L2 r3 n3 c3 L3 r4 n4 c4 L4 r5 n5 c5 L5 w.heap.size ⟨7, i, n, t, b, e, s0, s1, s2, s3, s4, s5⟩ [.int .i64 0, .string ⟨#[]⟩, .int .i64 0, .int .i64 0]) := Lib.hid (by
    have hl := H.lt
    refine ⟨(H.alloc _).alloc _, (Blk.newA w #[.int .i64 7, .int .i64 i, .int .i64 n, .int .i64 t, .string b, .int .i64 e, .int .i64 s0, .int .i64 s1, .int .i64 s2, .int .i64 s3, .int .i64 s4, .int .i64 s5] 46).alloc _, ?_, H.ch.size, fun hh => absurd (hl _ hh) (by omega), fun hh => absurd (hl _ hh) (by omega)⟩
    have := Blk.newA (w.alloc (.cells #[.int .i64 7, .int .i64 i, .int .i64 n, .int .i64 t, .string b, .int .i64 e, .int .i64 s0, .int .i64 s1, .int .i64 s2, .int .i64 s3, .int .i64 s4, .int .i64 s5] 46)) #[.int .i64 0, .string ⟨#[]⟩, .int .i64 0, .int .i64 0] 90
    rw [World.size_alloc] at this
    exact this)
  clear H
  go_enter Tryd.func40, Tryd.ntmps40
  go_upto_region 2 with fail
  revert H1
  generalize ((w.alloc (.cells #[.int .i64 7, .int .i64 i, .int .i64 n, .int .i64 t, .string b, .int .i64 e, .int .i64 s0, .int .i64 s1, .int .i64 s2, .int .i64 s3, .int .i64 s4, .int .i64 s5] 46)).alloc (.cells #[.int .i64 0, .string ⟨#[]⟩, .int .i64 0, .int .i64 0] 90)) = W1
  generalize w.heap.size = X
  intro H1
  have z0 := H1.out.inp.cell (i := 0) rfl
  have fz0 := H1.out.inp.free 0
  have z1 := H1.out.inp.cell (i := 1) rfl
  have fz1 := H1.out.inp.free 1
  have z2 := H1.out.inp.cell (i := 2) rfl
  have fz2 := H1.out.inp.free 2
  have z3 := H1.out.inp.cell (i := 3) rfl
  have fz3 := H1.out.inp.free 3
  have ne1 : ¬ p = X + 1 := fun e => H1.out.nY (by simp [toB, e])
  have ne2 : ¬ X + 1 = p := fun e => ne1 e.symm
  have ne3 : ¬ p = X := fun e => H1.out.nX (by simp [toB, e])
  have ne4 : ¬ X = p := fun e => ne3 e.symm
  have d0 := H1.out.ev.cell (i := 0) rfl
  have d1 := H1.out.ev.cell (i := 1) rfl
  have d2 := H1.out.ev.cell (i := 2) rfl
  have d3 := H1.out.ev.cell (i := 3) rfl
  have d4 := H1.out.ev.cell (i := 4) rfl
  have d5 := H1.out.ev.cell (i := 5) rfl
  have d6 := H1.out.ev.cell (i := 6) rfl
  have d7 := H1.out.ev.cell (i := 7) rfl
  have d8 := H1.out.ev.cell (i := 8) rfl
  have d9 := H1.out.ev.cell (i := 9) rfl
  have d10 := H1.out.ev.cell (i := 10) rfl
  have d11 := H1.out.ev.cell (i := 11) rfl
  subst hst
  have p8 := H1.out.o.blk.cell (i := 8) rfl
  go_upto_region 19 with fail
  have H2 : Hid (TA w0 b0 ((((W1.setCell ⟨X + 1, 0, none⟩ (.int .i64 4)).setCell ⟨X + 1, 1, none⟩ (.string ⟨#[]⟩)).setCell ⟨X + 1, 2, none⟩ (.int .i64 0)).setCell ⟨X + 1, 3, none⟩ (.int .i64 t)) B p id sc fr eo 0 r1 n1 c1 L1 r2 n2 c2 L2 r3 n3 c3 L3 r4 n4 c4 L4 r5 n5 c5 L5 X ⟨7, i, n, t, b, e, s0, s1, s2, s3, s4, s5⟩ [.int .i64 4, .string ⟨#[]⟩, .int .i64 0, .int .i64 t]) := Lib.hid (((((H1.out.setI 0 (.int .i64 4)).setI 1 (.string ⟨#[]⟩)).setI 2 (.int .i64 0)).setI 3 (.int .i64 t)))
  clear z0 fz0 z1 fz1 z2 fz2 z3 fz3 ne1 ne2 ne3 ne4 d0 d1 d2 d3 d4 d5 d6 d7 d8 d9 d10 d11 p8 H1
  revert H2
  generalize ((((W1.setCell ⟨X + 1, 0, none⟩ (.int .i64 4)).setCell ⟨X + 1, 1, none⟩ (.string ⟨#[]⟩)).setCell ⟨X + 1, 2, none⟩ (.int .i64 0)).setCell ⟨X + 1, 3, none⟩ (.int .i64 t)) = W2
  intro H2
  go_cut [] from 81 to 92 (fun wx => ∃ gA kA : Nat, Hid (TA w0 b0 wx B p id sc fr eo 0 (some ⟨gA, 0, none⟩) (n1 + 1) kA (L1 ++ [.int .i64 4, .string ⟨#[]⟩, .int .i64 0, .int .i64 t]) r2 n2 c2 L2 r3 n3 c3 L3 r4 n4 c4 L4 r5 n5 c5 L5 X ⟨7, i, n, t, b, e, s0, s1, s2, s3, s4, s5⟩ [.int .i64 4, .string ⟨#[]⟩, .int .i64 0, .int .i64 t]))
  case first =>
    have p3 := (H2.out.cd (i := 3) rfl).1
    have f3 := (H2.out.cd (i := 3) rfl).2
    have y0 := H2.out.ind (i := 0) rfl
    have y1 := H2.out.ind (i := 1) rfl
    have y2 := H2.out.ind (i := 2) rfl
    have y3 := H2.out.ind (i := 3) rfl
    have p3a := H2.out.ca #[.int .i64 4, .string ⟨#[]⟩, .int .i64 0, .int .i64 t] 90 (i := 3) rfl
    obtain ⟨np1, np2, np3, np4, np5, np6, np7, np8, np9⟩ := H2.out.apart
    go_region_law (first
      | (refine step_append_rm rfl (.tmp 86) (.tmp 88) 54 54 rfl 90 (.agg #[.int .i64 0, .string ByteArray.empty, .int .i64 0, .int .i64 0]) 4 40 Tryd.underlying54 infoIn rfl B r1 n1 c1 L1 rfl (H2.out.alloc _).drew.o.m1 _ rfl 1 (by omega) [.int .i64 4, .string ⟨#[]⟩, .int .i64 0, .int .i64 t] (Src.ofSlice _ Tryd.underlying54 ⟨_, 0, none⟩ 1 1 [.int .i64 4, .string ⟨#[]⟩, .int .i64 0, .int .i64 t] rfl (new_atE _ _ _) (in_one _ _ _ _)) (by omega) (by omega) ?_; intro gA kA w4 q1 q2 q3; have HN := Lib.hid ((H2.out.alloc _).drew.grow1 q1 (some_sub q2) q3); have u3 := (H2.out.alloc _).drew.keep1 q3; have p3m := u3.1; have f3m := u3.2; clear u3 q1 q2 q3))
    all_goals
      go_wp2_with fail
      go_meet
      exact ⟨gA, kA, HN⟩
  case rest =>
    obtain ⟨gA, kA, HA⟩ := hcut
    clear H2
    go_upto_region 20 with fail
    have p3 := (HA.out.cd (i := 9) rfl).1
    have f3 := (HA.out.cd (i := 9) rfl).2
    have y0 := HA.out.evd (i := 0) rfl
    have y1 := HA.out.evd (i := 1) rfl
    have y2 := HA.out.evd (i := 2) rfl
    have y3 := HA.out.evd (i := 3) rfl
    have y4 := HA.out.evd (i := 4) rfl
    have y5 := HA.out.evd (i := 5) rfl
    have y6 := HA.out.evd (i := 6) rfl
    have y7 := HA.out.evd (i := 7) rfl
    have y8 := HA.out.evd (i := 8) rfl
    have y9 := HA.out.evd (i := 9) rfl
    have y10 := HA.out.evd (i := 10) rfl
    have y11 := HA.out.evd (i := 11) rfl
    have p3a := HA.out.ca #[.int .i64 7, .int .i64 i, .int .i64 n, .int .i64 t, .string b, .int .i64 e, .int .i64 s0, .int .i64 s1, .int .i64 s2, .int .i64 s3, .int .i64 s4, .int .i64 s5] 46 (i := 9) rfl
    obtain ⟨np1, np2, np3, np4, np5, np6, np7, np8, np9⟩ := HA.out.apart
    go_region_law (first
      | (refine step_append_rm rfl (.tmp 97) (.tmp 99) 22 22 rfl 46 (.agg #[.int .i64 0, .int .i64 0, .int .i64 0, .int .i64 0, .string ByteArray.empty, .int .i64 0, .int .i64 0, .int .i64 0, .int .i64 0, .int .i64 0, .int .i64 0, .int .i64 0]) 12 104 Tryd.underlying22 infoEv rfl B r3 n3 c3 L3 rfl (HA.out.alloc _).drew.o.m3 _ rfl 1 (by omega) [.int .i64 7, .int .i64 i, .int .i64 n, .int .i64 t, .string b, .int .i64 e, .int .i64 s0, .int .i64 s1, .int .i64 s2, .int .i64 s3, .int .i64 s4, .int .i64 s5] (Src.ofSlice _ Tryd.underlying22 ⟨_, 0, none⟩ 1 1 [.int .i64 7, .int .i64 i, .int .i64 n, .int .i64 t, .string b, .int .i64 e, .int .i64 s0, .int .i64 s1, .int .i64 s2, .int .i64 s3, .int .i64 s4, .int .i64 s5] rfl (new_atE _ _ _) (Ev.c_one ⟨7, i, n, t, b, e, s0, s1, s2, s3, s4, s5⟩)) (by omega) (by omega) ?_; intro gC kC w4 q1 q2 q3; have HN := Lib.hid ((HA.out.alloc _).drew.grow3 q1 (some_sub q2) q3); have u3 := (HA.out.alloc _).drew.keep3 q3; have p3m := u3.1; have f3m := u3.2; clear u3 q1 q2 q3))
    all_goals
      go_wp2_with fail
      go_end0
      exact ⟨rfl, gA, kA, gC, kC, HN.out.o⟩
set_option maxRecDepth 20000 in
set_option maxHeartbeats 16000000 in
theorem pj_add8 (i n t : Int) (b : ByteArray) (e s0 s1 s2 s3 s4 s5 : Int) (w0 : World) (b0 : List Nat) (B p : Nat) (id sc fr : Int) (eo : Bool) (st : Int) (r1 : Option Addr) (n1 c1 : Nat) (L1 : List Value) (r2 : Option Addr) (n2 c2 : Nat) (L2 : List Value) (r3 : Option Addr) (n3 c3 : Nat) (L3 : List Value) (r4 : Option Addr) (n4 c4 : Nat) (L4 : List Value) (r5 : Option Addr) (n5 c5 : Nat) (L5 : List Value) (hn1 : n1 ≤ 100000) (hn3 : n3 ≤ 100000) (hn2 : n2 ≤ 100000) (w : World) (H : TO w0 b0 w B p id sc fr eo st r1 n1 c1 L1 r2 n2 c2 L2 r3 n3 c3 L3 r4 n4 c4 L4 r5 n5 c5 L5) :
    Calls Tryd.prog 40 #[.pointer (some ⟨p, 0, none⟩), .agg #[.int .i64 8, .int .i64 i, .int .i64 n, .int .i64 t, .string b, .int .i64 e, .int .i64 s0, .int .i64 s1, .int .i64 s2, .int .i64 s3, .int .i64 s4, .int .i64 s5]] w fun r w' => ∃ (gT kT gA kA gC kC : Nat), r = .returned (.tuple #[]) ∧ TO w0 b0 w' B p id sc fr eo s5 (some ⟨gA, 0, none⟩) (n1 + 1) kA (L1 ++ [.int .i64 5, .string ⟨#[]⟩, .int .i64 0, .int .i64 s0]) (some ⟨gT, 0, none⟩) (n2 + 1) kT (L2 ++ [.int .i64 s0, .int .i64 s1, .int .i64 s2, .int .i64 s3, .int .i64 s4, .int .i64 s5]) (some ⟨gC, 0, none⟩) (n3 + 1) kC (L3 ++ [.int .i64 8, .int .i64 i, .int .i64 n, .int .i64 t, .string b, .int .i64 e, .int .i64 s0, .int .i64 s1, .int .i64 s2, .int .i64 s3, .int .i64 s4, .int .i64 s5]) r4 n4 c4 L4 r5 n5 c5 L5 := by
  have H1 : Hid (TA w0 b0 ((w.alloc (.cells #[.int .i64 8, .int .i64 i, .int .i64 n, .int .i64 t, .string b, .int .i64 e, .int .i64 s0, .int .i64 s1, .int .i64 s2, .int .i64 s3, .int .i64 s4, .int .i64 s5] 46)).alloc (.cells #[.int .i64 0, .string ⟨#[]⟩, .int .i64 0, .int .i64 0] 90)) B p id sc fr eo st r1 n1 c1 L1 r2 n2 c2 L2 r3 n3 c3 L3 r4 n4 c4 L4 r5 n5 c5 L5 w.heap.size ⟨8, i, n, t, b, e, s0, s1, s2, s3, s4, s5⟩ [.int .i64 0, .string ⟨#[]⟩, .int .i64 0, .int .i64 0]) := Lib.hid (by
    have hl := H.lt
    refine ⟨(H.alloc _).alloc _, (Blk.newA w #[.int .i64 8, .int .i64 i, .int .i64 n, .int .i64 t, .string b, .int .i64 e, .int .i64 s0, .int .i64 s1, .int .i64 s2, .int .i64 s3, .int .i64 s4, .int .i64 s5] 46).alloc _, ?_, H.ch.size, fun hh => absurd (hl _ hh) (by omega), fun hh => absurd (hl _ hh) (by omega)⟩
    have := Blk.newA (w.alloc (.cells #[.int .i64 8, .int .i64 i, .int .i64 n, .int .i64 t, .string b, .int .i64 e, .int .i64 s0, .int .i64 s1, .int .i64 s2, .int .i64 s3, .int .i64 s4, .int .i64 s5] 46)) #[.int .i64 0, .string ⟨#[]⟩, .int .i64 0, .int .i64 0] 90
    rw [World.size_alloc] at this
    exact this)
  clear H
  go_enter Tryd.func40, Tryd.ntmps40
  go_upto_region 2 with fail
  revert H1
  generalize ((w.alloc (.cells #[.int .i64 8, .int .i64 i, .int .i64 n, .int .i64 t, .string b, .int .i64 e, .int .i64 s0, .int .i64 s1, .int .i64 s2, .int .i64 s3, .int .i64 s4, .int .i64 s5] 46)).alloc (.cells #[.int .i64 0, .string ⟨#[]⟩, .int .i64 0, .int .i64 0] 90)) = W1
  generalize w.heap.size = X
  intro H1
  have d0 := H1.out.ev.cell (i := 0) rfl
  go_upto_block 0 with fail
  go_cut [] from 7 to 80 (fun wx => ∃ (gT : Nat) (kT : Nat), Hid (TA w0 b0 wx B p id sc fr eo s5 r1 n1 c1 L1 (some ⟨gT, 0, none⟩) (n2 + 1) kT (L2 ++ [.int .i64 s0, .int .i64 s1, .int .i64 s2, .int .i64 s3, .int .i64 s4, .int .i64 s5]) r3 n3 c3 L3 r4 n4 c4 L4 r5 n5 c5 L5 X ⟨8, i, n, t, b, e, s0, s1, s2, s3, s4, s5⟩ [.int .i64 5, .string ⟨#[]⟩, .int .i64 0, .int .i64 s0]))
  case first =>
    have z0 := H1.out.inp.cell (i := 0) rfl
    have fz0 := H1.out.inp.free 0
    have z1 := H1.out.inp.cell (i := 1) rfl
    have fz1 := H1.out.inp.free 1
    have z2 := H1.out.inp.cell (i := 2) rfl
    have fz2 := H1.out.inp.free 2
    have z3 := H1.out.inp.cell (i := 3) rfl
    have fz3 := H1.out.inp.free 3
    have ne1 : ¬ p = X + 1 := fun e => H1.out.nY (by simp [toB, e])
    have ne2 : ¬ X + 1 = p := fun e => ne1 e.symm
    have ne3 : ¬ p = X := fun e => H1.out.nX (by simp [toB, e])
    have ne4 : ¬ X = p := fun e => ne3 e.symm
    have d0 := H1.out.ev.cell (i := 0) rfl
    have d1 := H1.out.ev.cell (i := 1) rfl
    have d2 := H1.out.ev.cell (i := 2) rfl
    have d3 := H1.out.ev.cell (i := 3) rfl
    have d4 := H1.out.ev.cell (i := 4) rfl
    have d5 := H1.out.ev.cell (i := 5) rfl
    have d6 := H1.out.ev.cell (i := 6) rfl
    have d7 := H1.out.ev.cell (i := 7) rfl
    have d8 := H1.out.ev.cell (i := 8) rfl
    have d9 := H1.out.ev.cell (i := 9) rfl
    have d10 := H1.out.ev.cell (i := 10) rfl
    have d11 := H1.out.ev.cell (i := 11) rfl
    go_upto_region 14 with fail
    have H2 : Hid (TA w0 b0 ((((W1.setCell ⟨X + 1, 0, none⟩ (.int .i64 5)).setCell ⟨X + 1, 1, none⟩ (.string ⟨#[]⟩)).setCell ⟨X + 1, 2, none⟩ (.int .i64 0)).setCell ⟨X + 1, 3, none⟩ (.int .i64 s0)) B p id sc fr eo st r1 n1 c1 L1 r2 n2 c2 L2 r3 n3 c3 L3 r4 n4 c4 L4 r5 n5 c5 L5 X ⟨8, i, n, t, b, e, s0, s1, s2, s3, s4, s5⟩ [.int .i64 5, .string ⟨#[]⟩, .int .i64 0, .int .i64 s0]) := Lib.hid (((((H1.out.setI 0 (.int .i64 5)).setI 1 (.string ⟨#[]⟩)).setI 2 (.int .i64 0)).setI 3 (.int .i64 s0)))
    clear z0 fz0 z1 fz1 z2 fz2 z3 fz3 ne1 ne2 ne3 ne4 d0 d1 d2 d3 d4 d5 d6 d7 d8 d9 d10 d11 H1
    revert H2
    generalize ((((W1.setCell ⟨X + 1, 0, none⟩ (.int .i64 5)).setCell ⟨X + 1, 1, none⟩ (.string ⟨#[]⟩)).setCell ⟨X + 1, 2, none⟩ (.int .i64 0)).setCell ⟨X + 1, 3, none⟩ (.int .i64 s0)) = W2
    intro H2
    have p3 := (H2.out.cd (i := 4) rfl).1
    have f3 := (H2.out.cd (i := 4) rfl).2
    have y0 := H2.out.evd (i := 6) rfl
    have y1 := H2.out.evd (i := 7) rfl
    have y2 := H2.out.evd (i := 8) rfl
    have y3 := H2.out.evd (i := 9) rfl
    have y4 := H2.out.evd (i := 10) rfl
    have y5 := H2.out.evd (i := 11) rfl
    have p3a := H2.out.ca #[.int .i64 s0, .int .i64 s1, .int .i64 s2, .int .i64 s3, .int .i64 s4, .int .i64 s5] 44 (i := 4) rfl
    obtain ⟨np1, np2, np3, np4, np5, np6, np7, np8, np9⟩ := H2.out.apart
    go_region_law (first
      | (refine step_append_rm rfl (.tmp 55) (.tmp 58) 56 56 rfl 44 (.agg #[.int .i64 0, .int .i64 0, .int .i64 0, .int .i64 0, .int .i64 0, .int .i64 0]) 6 48 Tryd.underlying56 infoSt rfl B r2 n2 c2 L2 rfl (H2.out.alloc _).drew.o.m2 _ rfl 1 (by omega) [.int .i64 s0, .int .i64 s1, .int .i64 s2, .int .i64 s3, .int .i64 s4, .int .i64 s5] (Src.ofSlice _ Tryd.underlying56 ⟨_, 0, none⟩ 1 1 [.int .i64 s0, .int .i64 s1, .int .i64 s2, .int .i64 s3, .int .i64 s4, .int .i64 s5] rfl (new_atE _ _ _) (Ev.st_one ⟨8, i, n, t, b, e, s0, s1, s2, s3, s4, s5⟩)) (by omega) (by omega) ?_; intro gT kT w4 q1 q2 q3; have HN := Lib.hid ((H2.out.alloc _).drew.grow2 q1 (some_sub q2) q3); have u3 := (H2.out.alloc _).drew.keep2 q3; have p3m := u3.1; have f3m := u3.2; clear u3 q1 q2 q3))
    all_goals
      clear p3m f3m
      revert HN
      generalize (w4.setCell ⟨p, 4, none⟩ (.slice (some ⟨gT, 0, none⟩) (n2 + 1) kT)) = W3
      intro HN
      have y11 := HN.out.ev.cell (i := 11) rfl
      have p8 := HN.out.o.blk.cell (i := 8) rfl
      have f8 := HN.out.o.blk.free 8
      go_wp2_with fail
      go_meet
      exact ⟨gT, kT, Lib.hid (HN.out.setS s5)⟩
  case rest =>
    obtain ⟨gT, kT, HT⟩ := hcut
    clear H1 d0
    go_upto_region 19 with fail
    go_cut [] from 81 to 92 (fun wx => ∃ gA kA : Nat, Hid (TA w0 b0 wx B p id sc fr eo s5 (some ⟨gA, 0, none⟩) (n1 + 1) kA (L1 ++ [.int .i64 5, .string ⟨#[]⟩, .int .i64 0, .int .i64 s0]) (some ⟨gT, 0, none⟩) (n2 + 1) kT (L2 ++ [.int .i64 s0, .int .i64 s1, .int .i64 s2, .int .i64 s3, .int .i64 s4, .int .i64 s5]) r3 n3 c3 L3 r4 n4 c4 L4 r5 n5 c5 L5 X ⟨8, i, n, t, b, e, s0, s1, s2, s3, s4, s5⟩ [.int .i64 5, .string ⟨#[]⟩, .int .i64 0, .int .i64 s0]))
    case first =>
      have p3 := (HT.out.cd (i := 3) rfl).1
      have f3 := (HT.out.cd (i := 3) rfl).2
      have y0 := HT.out.ind (i := 0) rfl
      have y1 := HT.out.ind (i := 1) rfl
      have y2 := HT.out.ind (i := 2) rfl
      have y3 := HT.out.ind (i := 3) rfl
      have p3a := HT.out.ca #[.int .i64 5, .string ⟨#[]⟩, .int .i64 0, .int .i64 s0] 90 (i := 3) rfl
      obtain ⟨np1, np2, np3, np4, np5, np6, np7, np8, np9⟩ := HT.out.apart
      go_region_law (first
        | (refine step_append_rm rfl (.tmp 86) (.tmp 88) 54 54 rfl 90 (.agg #[.int .i64 0, .string ByteArray.empty, .int .i64 0, .int .i64 0]) 4 40 Tryd.underlying54 infoIn rfl B r1 n1 c1 L1 rfl (HT.out.alloc _).drew.o.m1 _ rfl 1 (by omega) [.int .i64 5, .string ⟨#[]⟩, .int .i64 0, .int .i64 s0] (Src.ofSlice _ Tryd.underlying54 ⟨_, 0, none⟩ 1 1 [.int .i64 5, .string ⟨#[]⟩, .int .i64 0, .int .i64 s0] rfl (new_atE _ _ _) (in_one _ _ _ _)) (by omega) (by omega) ?_; intro gA kA w4 q1 q2 q3; have HN := Lib.hid ((HT.out.alloc _).drew.grow1 q1 (some_sub q2) q3); have u3 := (HT.out.alloc _).drew.keep1 q3; have p3m := u3.1; have f3m := u3.2; clear u3 q1 q2 q3))
      all_goals
        go_wp2_with fail
        go_meet
        exact ⟨gA, kA, HN⟩
    case rest =>
      obtain ⟨gA, kA, HA⟩ := hcut
      clear HT
      go_upto_region 20 with fail
      have p3 := (HA.out.cd (i := 9) rfl).1
      have f3 := (HA.out.cd (i := 9) rfl).2
      have y0 := HA.out.evd (i := 0) rfl
      have y1 := HA.out.evd (i := 1) rfl
      have y2 := HA.out.evd (i := 2) rfl
      have y3 := HA.out.evd (i := 3) rfl
      have y4 := HA.out.evd (i := 4) rfl
      have y5 := HA.out.evd (i := 5) rfl
      have y6 := HA.out.evd (i := 6) rfl
      have y7 := HA.out.evd (i := 7) rfl
      have y8 := HA.out.evd (i := 8) rfl
      have y9 := HA.out.evd (i := 9) rfl
      have y10 := HA.out.evd (i := 10) rfl
      have y11 := HA.out.evd (i := 11) rfl
      have p3a := HA.out.ca #[.int .i64 8, .int .i64 i, .int .i64 n, .int .i64 t, .string b, .int .i64 e, .int .i64 s0, .int .i64 s1, .int .i64 s2, .int .i64 s3, .int .i64 s4, .int .i64 s5] 46 (i := 9) rfl
      obtain ⟨np1, np2, np3, np4, np5, np6, np7, np8, np9⟩ := HA.out.apart
      go_region_law (first
        | (refine step_append_rm rfl (.tmp 97) (.tmp 99) 22 22 rfl 46 (.agg #[.int .i64 0, .int .i64 0, .int .i64 0, .int .i64 0, .string ByteArray.empty, .int .i64 0, .int .i64 0, .int .i64 0, .int .i64 0, .int .i64 0, .int .i64 0, .int .i64 0]) 12 104 Tryd.underlying22 infoEv rfl B r3 n3 c3 L3 rfl (HA.out.alloc _).drew.o.m3 _ rfl 1 (by omega) [.int .i64 8, .int .i64 i, .int .i64 n, .int .i64 t, .string b, .int .i64 e, .int .i64 s0, .int .i64 s1, .int .i64 s2, .int .i64 s3, .int .i64 s4, .int .i64 s5] (Src.ofSlice _ Tryd.underlying22 ⟨_, 0, none⟩ 1 1 [.int .i64 8, .int .i64 i, .int .i64 n, .int .i64 t, .string b, .int .i64 e, .int .i64 s0, .int .i64 s1, .int .i64 s2, .int .i64 s3, .int .i64 s4, .int .i64 s5] rfl (new_atE _ _ _) (Ev.c_one ⟨8, i, n, t, b, e, s0, s1, s2, s3, s4, s5⟩)) (by omega) (by omega) ?_; intro gC kC w4 q1 q2 q3; have HN := Lib.hid ((HA.out.alloc _).drew.grow3 q1 (some_sub q2) q3); have u3 := (HA.out.alloc _).drew.keep3 q3; have p3m := u3.1; have f3m := u3.2; clear u3 q1 q2 q3))
      all_goals
        go_wp2_with fail
        go_end0
        exact ⟨rfl, gT, kT, gA, kA, gC, kC, HN.out.o⟩
set_option maxRecDepth 20000 in
set_option maxHeartbeats 16000000 in
theorem pj_add4 (i n t : Int) (b : ByteArray) (e s0 s1 s2 s3 s4 s5 : Int) (w0 : World) (b0 : List Nat) (B p : Nat) (id sc fr : Int) (eo : Bool) (st : Int) (r1 : Option Addr) (n1 c1 : Nat) (L1 : List Value) (r2 : Option Addr) (n2 c2 : Nat) (L2 : List Value) (r3 : Option Addr) (n3 c3 : Nat) (L3 : List Value) (r4 : Option Addr) (n4 c4 : Nat) (L4 : List Value) (r5 : Option Addr) (n5 c5 : Nat) (L5 : List Value) (hn1 : n1 ≤ 100000) (hn3 : n3 ≤ 100000) (hb : n4 + b.size ≤ 1000000) (w : World) (H : TO w0 b0 w B p id sc fr eo st r1 n1 c1 L1 r2 n2 c2 L2 r3 n3 c3 L3 r4 n4 c4 L4 r5 n5 c5 L5) :
    Calls Tryd.prog 40 #[.pointer (some ⟨p, 0, none⟩), .agg #[.int .i64 4, .int .i64 i, .int .i64 n, .int .i64 t, .string b, .int .i64 e, .int .i64 s0, .int .i64 s1, .int .i64 s2, .int .i64 s3, .int .i64 s4, .int .i64 s5]] w fun r w' => ∃ (gT : Option Addr) (kT gA kA gC kC : Nat), r = .returned (.tuple #[]) ∧ TO w0 b0 w' B p id sc fr eo st (some ⟨gA, 0, none⟩) (n1 + 1) kA (L1 ++ [.int .i64 1, .string b, .int .i64 0, .int .i64 0]) r2 n2 c2 L2 (some ⟨gC, 0, none⟩) (n3 + 1) kC (L3 ++ [.int .i64 4, .int .i64 i, .int .i64 n, .int .i64 t, .string b, .int .i64 e, .int .i64 s0, .int .i64 s1, .int .i64 s2, .int .i64 s3, .int .i64 s4, .int .i64 s5]) gT (n4 + b.size) kT (L4 ++ bv b) r5 n5 c5 L5 := by
  have H1 : Hid (TA w0 b0 ((w.alloc (.cells #[.int .i64 4, .int .i64 i, .int .i64 n, .int .i64 t, .string b, .int .i64 e, .int .i64 s0, .int .i64 s1, .int .i64 s2, .int .i64 s3, .int .i64 s4, .int .i64 s5] 46)).alloc (.cells #[.int .i64 0, .string ⟨#[]⟩, .int .i64 0, .int .i64 0] 90)) B p id sc fr eo st r1 n1 c1 L1 r2 n2 c2 L2 r3 n3 c3 L3 r4 n4 c4 L4 r5 n5 c5 L5 w.heap.size ⟨4, i, n, t, b, e, s0, s1, s2, s3, s4, s5⟩ [.int .i64 0, .string ⟨#[]⟩, .int .i64 0, .int .i64 0]) := Lib.hid (by
    have hl := H.lt
    refine ⟨(H.alloc _).alloc _, (Blk.newA w #[.int .i64 4, .int .i64 i, .int .i64 n, .int .i64 t, .string b, .int .i64 e, .int .i64 s0, .int .i64 s1, .int .i64 s2, .int .i64 s3, .int .i64 s4, .int .i64 s5] 46).alloc _, ?_, H.ch.size, fun hh => absurd (hl _ hh) (by omega), fun hh => absurd (hl _ hh) (by omega)⟩
    have := Blk.newA (w.alloc (.cells #[.int .i64 4, .int .i64 i, .int .i64 n, .int .i64 t, .string b, .int .i64 e, .int .i64 s0, .int .i64 s1, .int .i64 s2, .int .i64 s3, .int .i64 s4, .int .i64 s5] 46)) #[.int .i64 0, .string ⟨#[]⟩, .int .i64 0, .int .i64 0] 90
    rw [World.size_alloc] at this
    exact this)
  clear H
  go_enter Tryd.func40, Tryd.ntmps40
  go_upto_region 2 with fail
  revert H1
  generalize ((w.alloc (.cells #[.int .i64 4, .int .i64 i, .int .i64 n, .int .i64 t, .string b, .int .i64 e, .int .i64 s0, .int .i64 s1, .int .i64 s2, .int .i64 s3, .int .i64 s4, .int .i64 s5] 46)).alloc (.cells #[.int .i64 0, .string ⟨#[]⟩, .int .i64 0, .int .i64 0] 90)) = W1
  generalize w.heap.size = X
  intro H1
  have d0 := H1.out.ev.cell (i := 0) rfl
  go_upto_block 0 with fail
  go_cut [] from 7 to 80 (fun wx => ∃ (gT : Option Addr) (kT : Nat), Hid (TA w0 b0 wx B p id sc fr eo st r1 n1 c1 L1 r2 n2 c2 L2 r3 n3 c3 L3 gT (n4 + b.size) kT (L4 ++ bv b) r5 n5 c5 L5 X ⟨4, i, n, t, b, e, s0, s1, s2, s3, s4, s5⟩ [.int .i64 1, .string b, .int .i64 0, .int .i64 0]))
  case first =>
    have z0 := H1.out.inp.cell (i := 0) rfl
    have fz0 := H1.out.inp.free 0
    have z1 := H1.out.inp.cell (i := 1) rfl
    have fz1 := H1.out.inp.free 1
    have z2 := H1.out.inp.cell (i := 2) rfl
    have fz2 := H1.out.inp.free 2
    have z3 := H1.out.inp.cell (i := 3) rfl
    have fz3 := H1.out.inp.free 3
    have ne1 : ¬ p = X + 1 := fun e => H1.out.nY (by simp [toB, e])
    have ne2 : ¬ X + 1 = p := fun e => ne1 e.symm
    have ne3 : ¬ p = X := fun e => H1.out.nX (by simp [toB, e])
    have ne4 : ¬ X = p := fun e => ne3 e.symm
    have d0 := H1.out.ev.cell (i := 0) rfl
    have d1 := H1.out.ev.cell (i := 1) rfl
    have d2 := H1.out.ev.cell (i := 2) rfl
    have d3 := H1.out.ev.cell (i := 3) rfl
    have d4 := H1.out.ev.cell (i := 4) rfl
    have d5 := H1.out.ev.cell (i := 5) rfl
    have d6 := H1.out.ev.cell (i := 6) rfl
    have d7 := H1.out.ev.cell (i := 7) rfl
    have d8 := H1.out.ev.cell (i := 8) rfl
    have d9 := H1.out.ev.cell (i := 9) rfl
    have d10 := H1.out.ev.cell (i := 10) rfl
    have d11 := H1.out.ev.cell (i := 11) rfl
    go_upto_region 5 with fail
    have H2 : Hid (TA w0 b0 ((((W1.setCell ⟨X + 1, 0, none⟩ (.int .i64 1)).setCell ⟨X + 1, 1, none⟩ (.string b)).setCell ⟨X + 1, 2, none⟩ (.int .i64 0)).setCell ⟨X + 1, 3, none⟩ (.int .i64 0)) B p id sc fr eo st r1 n1 c1 L1 r2 n2 c2 L2 r3 n3 c3 L3 r4 n4 c4 L4 r5 n5 c5 L5 X ⟨4, i, n, t, b, e, s0, s1, s2, s3, s4, s5⟩ [.int .i64 1, .string b, .int .i64 0, .int .i64 0]) := Lib.hid (((((H1.out.setI 0 (.int .i64 1)).setI 1 (.string b)).setI 2 (.int .i64 0)).setI 3 (.int .i64 0)))
    clear z0 fz0 z1 fz1 z2 fz2 z3 fz3 ne1 ne2 ne3 ne4 d0 d1 d2 d3 d4 d5 d6 d7 d8 d9 d10 d11 H1
    revert H2
    generalize ((((W1.setCell ⟨X + 1, 0, none⟩ (.int .i64 1)).setCell ⟨X + 1, 1, none⟩ (.string b)).setCell ⟨X + 1, 2, none⟩ (.int .i64 0)).setCell ⟨X + 1, 3, none⟩ (.int .i64 0)) = W2
    intro H2
    have p3 := (H2.out.cd (i := 10) rfl).1
    have f3 := (H2.out.cd (i := 10) rfl).2
    have y4 := H2.out.evd (i := 4) rfl
    obtain ⟨np1, np2, np3, np4, np5, np6, np7, np8, np9⟩ := H2.out.apart
    go_region_law (first
      | (refine step_append_rb rfl (.tmp 16) (.tmp 18) rfl B r4 n4 c4 L4 rfl H2.out.drew.o.m4 b rfl (by omega) ?_; intro gT kT w4 q1 q2 q3; have HN := Lib.hid (H2.out.drew.grow4 q1 q2 q3); have u3 := H2.out.drew.keep4 q3; have p3m := u3.1; have f3m := u3.2; clear u3 q1 q2 q3))
    all_goals
      go_wp2_with fail
      go_meet
      exact ⟨gT, kT, HN⟩
  case rest =>
    obtain ⟨gT, kT, HT⟩ := hcut
    clear H1 d0
    go_upto_region 19 with fail
    go_cut [] from 81 to 92 (fun wx => ∃ gA kA : Nat, Hid (TA w0 b0 wx B p id sc fr eo st (some ⟨gA, 0, none⟩) (n1 + 1) kA (L1 ++ [.int .i64 1, .string b, .int .i64 0, .int .i64 0]) r2 n2 c2 L2 r3 n3 c3 L3 gT (n4 + b.size) kT (L4 ++ bv b) r5 n5 c5 L5 X ⟨4, i, n, t, b, e, s0, s1, s2, s3, s4, s5⟩ [.int .i64 1, .string b, .int .i64 0, .int .i64 0]))
    case first =>
      have p3 := (HT.out.cd (i := 3) rfl).1
      have f3 := (HT.out.cd (i := 3) rfl).2
      have y0 := HT.out.ind (i := 0) rfl
      have y1 := HT.out.ind (i := 1) rfl
      have y2 := HT.out.ind (i := 2) rfl
      have y3 := HT.out.ind (i := 3) rfl
      have p3a := HT.out.ca #[.int .i64 1, .string b, .int .i64 0, .int .i64 0] 90 (i := 3) rfl
      obtain ⟨np1, np2, np3, np4, np5, np6, np7, np8, np9⟩ := HT.out.apart
      go_region_law (first
        | (refine step_append_rm rfl (.tmp 86) (.tmp 88) 54 54 rfl 90 (.agg #[.int .i64 0, .string ByteArray.empty, .int .i64 0, .int .i64 0]) 4 40 Tryd.underlying54 infoIn rfl B r1 n1 c1 L1 rfl (HT.out.alloc _).drew.o.m1 _ rfl 1 (by omega) [.int .i64 1, .string b, .int .i64 0, .int .i64 0] (Src.ofSlice _ Tryd.underlying54 ⟨_, 0, none⟩ 1 1 [.int .i64 1, .string b, .int .i64 0, .int .i64 0] rfl (new_atE _ _ _) (in_one _ _ _ _)) (by omega) (by omega) ?_; intro gA kA w4 q1 q2 q3; have HN := Lib.hid ((HT.out.alloc _).drew.grow1 q1 (some_sub q2) q3); have u3 := (HT.out.alloc _).drew.keep1 q3; have p3m := u3.1; have f3m := u3.2; clear u3 q1 q2 q3))
      all_goals
        go_wp2_with fail
        go_meet
        exact ⟨gA, kA, HN⟩
    case rest =>
      obtain ⟨gA, kA, HA⟩ := hcut
      clear HT
      go_upto_region 20 with fail
      have p3 := (HA.out.cd (i := 9) rfl).1
      have f3 := (HA.out.cd (i := 9) rfl).2
      have y0 := HA.out.evd (i := 0) rfl
      have y1 := HA.out.evd (i := 1) rfl
      have y2 := HA.out.evd (i := 2) rfl
      have y3 := HA.out.evd (i := 3) rfl
      have y4 := HA.out.evd (i := 4) rfl
      have y5 := HA.out.evd (i := 5) rfl
      have y6 := HA.out.evd (i := 6) rfl
      have y7 := HA.out.evd (i := 7) rfl
      have y8 := HA.out.evd (i := 8) rfl
      have y9 := HA.out.evd (i := 9) rfl
      have y10 := HA.out.evd (i := 10) rfl
      have y11 := HA.out.evd (i := 11) rfl
      have p3a := HA.out.ca #[.int .i64 4, .int .i64 i, .int .i64 n, .int .i64 t, .string b, .int .i64 e, .int .i64 s0, .int .i64 s1, .int .i64 s2, .int .i64 s3, .int .i64 s4, .int .i64 s5] 46 (i := 9) rfl
      obtain ⟨np1, np2, np3, np4, np5, np6, np7, np8, np9⟩ := HA.out.apart
      go_region_law (first
        | (refine step_append_rm rfl (.tmp 97) (.tmp 99) 22 22 rfl 46 (.agg #[.int .i64 0, .int .i64 0, .int .i64 0, .int .i64 0, .string ByteArray.empty, .int .i64 0, .int .i64 0, .int .i64 0, .int .i64 0, .int .i64 0, .int .i64 0, .int .i64 0]) 12 104 Tryd.underlying22 infoEv rfl B r3 n3 c3 L3 rfl (HA.out.alloc _).drew.o.m3 _ rfl 1 (by omega) [.int .i64 4, .int .i64 i, .int .i64 n, .int .i64 t, .string b, .int .i64 e, .int .i64 s0, .int .i64 s1, .int .i64 s2, .int .i64 s3, .int .i64 s4, .int .i64 s5] (Src.ofSlice _ Tryd.underlying22 ⟨_, 0, none⟩ 1 1 [.int .i64 4, .int .i64 i, .int .i64 n, .int .i64 t, .string b, .int .i64 e, .int .i64 s0, .int .i64 s1, .int .i64 s2, .int .i64 s3, .int .i64 s4, .int .i64 s5] rfl (new_atE _ _ _) (Ev.c_one ⟨4, i, n, t, b, e, s0, s1, s2, s3, s4, s5⟩)) (by omega) (by omega) ?_; intro gC kC w4 q1 q2 q3; have HN := Lib.hid ((HA.out.alloc _).drew.grow3 q1 (some_sub q2) q3); have u3 := (HA.out.alloc _).drew.keep3 q3; have p3m := u3.1; have f3m := u3.2; clear u3 q1 q2 q3))
      all_goals
        go_wp2_with fail
        go_end0
        exact ⟨rfl, gT, kT, gA, kA, gC, kC, HN.out.o⟩
set_option maxRecDepth 20000 in
set_option maxHeartbeats 16000000 in
theorem pj_add6 (i n t : Int) (b : ByteArray) (e s0 s1 s2 s3 s4 s5 : Int) (w0 : World) (b0 : List Nat) (B p : Nat) (id sc fr : Int) (eo : Bool) (st : Int) (r1 : Option Addr) (n1 c1 : Nat) (L1 : List Value) (r2 : Option Addr) (n2 c2 : Nat) (L2 : List Value) (r3 : Option Addr) (n3 c3 : Nat) (L3 : List Value) (r4 : Option Addr) (n4 c4 : Nat) (L4 : List Value) (r5 : Option Addr) (n5 c5 : Nat) (L5 : List Value) (hn1 : n1 ≤ 100000) (hn3 : n3 ≤ 100000) (hb : n5 + b.size ≤ 1000000) (w : World) (H : TO w0 b0 w B p id sc fr eo st r1 n1 c1 L1 r2 n2 c2 L2 r3 n3 c3 L3 r4 n4 c4 L4 r5 n5 c5 L5) :
    Calls Tryd.prog 40 #[.pointer (some ⟨p, 0, none⟩), .agg #[.int .i64 6, .int .i64 i, .int .i64 n, .int .i64 t, .string b, .int .i64 e, .int .i64 s0, .int .i64 s1, .int .i64 s2, .int .i64 s3, .int .i64 s4, .int .i64 s5]] w fun r w' => ∃ (gT : Option Addr) (kT gA kA gC kC : Nat), r = .returned (.tuple #[]) ∧ TO w0 b0 w' B p id sc fr eo st (some ⟨gA, 0, none⟩) (n1 + 1) kA (L1 ++ [.int .i64 3, .string ⟨#[]⟩, .int .i64 n, .int .i64 0]) r2 n2 c2 L2 (some ⟨gC, 0, none⟩) (n3 + 1) kC (L3 ++ [.int .i64 6, .int .i64 i, .int .i64 n, .int .i64 t, .string b, .int .i64 e, .int .i64 s0, .int .i64 s1, .int .i64 s2, .int .i64 s3, .int .i64 s4, .int .i64 s5]) r4 n4 c4 L4 gT (n5 + b.size) kT (L5 ++ bv b) := by
  have H1 : Hid (TA w0 b0 ((w.alloc (.cells #[.int .i64 6, .int .i64 i, .int .i64 n, .int .i64 t, .string b, .int .i64 e, .int .i64 s0, .int .i64 s1, .int .i64 s2, .int .i64 s3, .int .i64 s4, .int .i64 s5] 46)).alloc (.cells #[.int .i64 0, .string ⟨#[]⟩, .int .i64 0, .int .i64 0] 90)) B p id sc fr eo st r1 n1 c1 L1 r2 n2 c2 L2 r3 n3 c3 L3 r4 n4 c4 L4 r5 n5 c5 L5 w.heap.size ⟨6, i, n, t, b, e, s0, s1, s2, s3, s4, s5⟩ [.int .i64 0, .string ⟨#[]⟩, .int .i64 0, .int .i64 0]) := Lib.hid (by
    have hl := H.lt
    refine ⟨(H.alloc _).alloc _, (Blk.newA w #[.int .i64 6, .int .i64 i, .int .i64 n, .int .i64 t, .string b, .int .i64 e, .int .i64 s0, .int .i64 s1, .int .i64 s2, .int .i64 s3, .int .i64 s4, .int .i64 s5] 46).alloc _, ?_, H.ch.size, fun hh => absurd (hl _ hh) (by omega), fun hh => absurd (hl _ hh) (by omega)⟩
    have := Blk.newA (w.alloc (.cells #[.int .i64 6, .int .i64 i, .int .i64 n, .int .i64 t, .string b, .int .i64 e, .int .i64 s0, .int .i64 s1, .int .i64 s2, .int .i64 s3, .int .i64 s4, .int .i64 s5] 46)) #[.int .i64 0, .string ⟨#[]⟩, .int .i64 0, .int .i64 0] 90
    rw [World.size_alloc] at this
    exact this)
  clear H
  go_enter Tryd.func40, Tryd.ntmps40
  go_upto_region 2 with fail
  revert H1
  generalize ((w.alloc (.cells #[.int .i64 6, .int .i64 i, .int .i64 n, .int .i64 t, .string b, .int .i64 e, .int .i64 s0, .int .i64 s1, .int .i64 s2, .int .i64 s3, .int .i64 s4, .int .i64 s5] 46)).alloc (.cells #[.int .i64 0, .string ⟨#[]⟩, .int .i64 0, .int .i64 0] 90)) = W1
  generalize w.heap.size = X
  intro H1
  have d0 := H1.out.ev.cell (i := 0) rfl
  go_upto_block 0 with fail
  go_cut [] from 7 to 80 (fun wx => ∃ (gT : Option Addr) (kT : Nat), Hid (TA w0 b0 wx B p id sc fr eo st r1 n1 c1 L1 r2 n2 c2 L2 r3 n3 c3 L3 r4 n4 c4 L4 gT (n5 + b.size) kT (L5 ++ bv b) X ⟨6, i, n, t, b, e, s0, s1, s2, s3, s4, s5⟩ [.int .i64 3, .string ⟨#[]⟩, .int .i64 n, .int .i64 0]))
  case first =>
    have z0 := H1.out.inp.cell (i := 0) rfl
    have fz0 := H1.out.inp.free 0
    have z1 := H1.out.inp.cell (i := 1) rfl
    have fz1 := H1.out.inp.free 1
    have z2 := H1.out.inp.cell (i := 2) rfl
    have fz2 := H1.out.inp.free 2
    have z3 := H1.out.inp.cell (i := 3) rfl
    have fz3 := H1.out.inp.free 3
    have ne1 : ¬ p = X + 1 := fun e => H1.out.nY (by simp [toB, e])
    have ne2 : ¬ X + 1 = p := fun e => ne1 e.symm
    have ne3 : ¬ p = X := fun e => H1.out.nX (by simp [toB, e])
    have ne4 : ¬ X = p := fun e => ne3 e.symm
    have d0 := H1.out.ev.cell (i := 0) rfl
    have d1 := H1.out.ev.cell (i := 1) rfl
    have d2 := H1.out.ev.cell (i := 2) rfl
    have d3 := H1.out.ev.cell (i := 3) rfl
    have d4 := H1.out.ev.cell (i := 4) rfl
    have d5 := H1.out.ev.cell (i := 5) rfl
    have d6 := H1.out.ev.cell (i := 6) rfl
    have d7 := H1.out.ev.cell (i := 7) rfl
    have d8 := H1.out.ev.cell (i := 8) rfl
    have d9 := H1.out.ev.cell (i := 9) rfl
    have d10 := H1.out.ev.cell (i := 10) rfl
    have d11 := H1.out.ev.cell (i := 11) rfl
    go_upto_region 11 with fail
    have H2 : Hid (TA w0 b0 ((((W1.setCell ⟨X + 1, 0, none⟩ (.int .i64 3)).setCell ⟨X + 1, 1, none⟩ (.string ⟨#[]⟩)).setCell ⟨X + 1, 2, none⟩ (.int .i64 n)).setCell ⟨X + 1, 3, none⟩ (.int .i64 0)) B p id sc fr eo st r1 n1 c1 L1 r2 n2 c2 L2 r3 n3 c3 L3 r4 n4 c4 L4 r5 n5 c5 L5 X ⟨6, i, n, t, b, e, s0, s1, s2, s3, s4, s5⟩ [.int .i64 3, .string ⟨#[]⟩, .int .i64 n, .int .i64 0]) := Lib.hid (((((H1.out.setI 0 (.int .i64 3)).setI 1 (.string ⟨#[]⟩)).setI 2 (.int .i64 n)).setI 3 (.int .i64 0)))
    clear z0 fz0 z1 fz1 z2 fz2 z3 fz3 ne1 ne2 ne3 ne4 d0 d1 d2 d3 d4 d5 d6 d7 d8 d9 d10 d11 H1
    revert H2
    generalize ((((W1.setCell ⟨X + 1, 0, none⟩ (.int .i64 3)).setCell ⟨X + 1, 1, none⟩ (.string ⟨#[]⟩)).setCell ⟨X + 1, 2, none⟩ (.int .i64 n)).setCell ⟨X + 1, 3, none⟩ (.int .i64 0)) = W2
    intro H2
    have p3 := (H2.out.cd (i := 11) rfl).1
    have f3 := (H2.out.cd (i := 11) rfl).2
    have y4 := H2.out.evd (i := 4) rfl
    obtain ⟨np1, np2, np3, np4, np5, np6, np7, np8, np9⟩ := H2.out.apart
    go_region_law (first
      | (refine step_append_rb rfl (.tmp 38) (.tmp 40) rfl B r5 n5 c5 L5 rfl H2.out.drew.o.m5 b rfl (by omega) ?_; intro gT kT w4 q1 q2 q3; have HN := Lib.hid (H2.out.drew.grow5 q1 q2 q3); have u3 := H2.out.drew.keep5 q3; have p3m := u3.1; have f3m := u3.2; clear u3 q1 q2 q3))
    all_goals
      go_wp2_with fail
      go_meet
      exact ⟨gT, kT, HN⟩
  case rest =>
    obtain ⟨gT, kT, HT⟩ := hcut
    clear H1 d0
    go_upto_region 19 with fail
    go_cut [] from 81 to 92 (fun wx => ∃ gA kA : Nat, Hid (TA w0 b0 wx B p id sc fr eo st (some ⟨gA, 0, none⟩) (n1 + 1) kA (L1 ++ [.int .i64 3, .string ⟨#[]⟩, .int .i64 n, .int .i64 0]) r2 n2 c2 L2 r3 n3 c3 L3 r4 n4 c4 L4 gT (n5 + b.size) kT (L5 ++ bv b) X ⟨6, i, n, t, b, e, s0, s1, s2, s3, s4, s5⟩ [.int .i64 3, .string ⟨#[]⟩, .int .i64 n, .int .i64 0]))
    case first =>
      have p3 := (HT.out.cd (i := 3) rfl).1
      have f3 := (HT.out.cd (i := 3) rfl).2
      have y0 := HT.out.ind (i := 0) rfl
      have y1 := HT.out.ind (i := 1) rfl
      have y2 := HT.out.ind (i := 2) rfl
      have y3 := HT.out.ind (i := 3) rfl
      have p3a := HT.out.ca #[.int .i64 3, .string ⟨#[]⟩, .int .i64 n, .int .i64 0] 90 (i := 3) rfl
      obtain ⟨np1, np2, np3, np4, np5, np6, np7, np8, np9⟩ := HT.out.apart
      go_region_law (first
        | (refine step_append_rm rfl (.tmp 86) (.tmp 88) 54 54 rfl 90 (.agg #[.int .i64 0, .string ByteArray.empty, .int .i64 0, .int .i64 0]) 4 40 Tryd.underlying54 infoIn rfl B r1 n1 c1 L1 rfl (HT.out.alloc _).drew.o.m1 _ rfl 1 (by omega) [.int .i64 3, .string ⟨#[]⟩, .int .i64 n, .int .i64 0] (Src.ofSlice _ Tryd.underlying54 ⟨_, 0, none⟩ 1 1 [.int .i64 3, .string ⟨#[]⟩, .int .i64 n, .int .i64 0] rfl (new_atE _ _ _) (in_one _ _ _ _)) (by omega) (by omega) ?_; intro gA kA w4 q1 q2 q3; have HN := Lib.hid ((HT.out.alloc _).drew.grow1 q1 (some_sub q2) q3); have u3 := (HT.out.alloc _).drew.keep1 q3; have p3m := u3.1; have f3m := u3.2; clear u3 q1 q2 q3))
      all_goals
        go_wp2_with fail
        go_meet
        exact ⟨gA, kA, HN⟩
    case rest =>
      obtain ⟨gA, kA, HA⟩ := hcut
      clear HT
      go_upto_region 20 with fail
      have p3 := (HA.out.cd (i := 9) rfl).1
      have f3 := (HA.out.cd (i := 9) rfl).2
      have y0 := HA.out.evd (i := 0) rfl
      have y1 := HA.out.evd (i := 1) rfl
      have y2 := HA.out.evd (i := 2) rfl
      have y3 := HA.out.evd (i := 3) rfl
      have y4 := HA.out.evd (i := 4) rfl
      have y5 := HA.out.evd (i := 5) rfl
      have y6 := HA.out.evd (i := 6) rfl
      have y7 := HA.out.evd (i := 7) rfl
      have y8 := HA.out.evd (i := 8) rfl
      have y9 := HA.out.evd (i := 9) rfl
      have y10 := HA.out.evd (i := 10) rfl
      have y11 := HA.out.evd (i := 11) rfl
      have p3a := HA.out.ca #[.int .i64 6, .int .i64 i, .int .i64 n, .int .i64 t, .string b, .int .i64 e, .int .i64 s0, .int .i64 s1, .int .i64 s2, .int .i64 s3, .int .i64 s4, .int .i64 s5] 46 (i := 9) rfl
      obtain ⟨np1, np2, np3, np4, np5, np6, np7, np8, np9⟩ := HA.out.apart
      go_region_law (first
        | (refine step_append_rm rfl (.tmp 97) (.tmp 99) 22 22 rfl 46 (.agg #[.int .i64 0, .int .i64 0, .int .i64 0, .int .i64 0, .string ByteArray.empty, .int .i64 0, .int .i64 0, .int .i64 0, .int .i64 0, .int .i64 0, .int .i64 0, .int .i64 0]) 12 104 Tryd.underlying22 infoEv rfl B r3 n3 c3 L3 rfl (HA.out.alloc _).drew.o.m3 _ rfl 1 (by omega) [.int .i64 6, .int .i64 i, .int .i64 n, .int .i64 t, .string b, .int .i64 e, .int .i64 s0, .int .i64 s1, .int .i64 s2, .int .i64 s3, .int .i64 s4, .int .i64 s5] (Src.ofSlice _ Tryd.underlying22 ⟨_, 0, none⟩ 1 1 [.int .i64 6, .int .i64 i, .int .i64 n, .int .i64 t, .string b, .int .i64 e, .int .i64 s0, .int .i64 s1, .int .i64 s2, .int .i64 s3, .int .i64 s4, .int .i64 s5] rfl (new_atE _ _ _) (Ev.c_one ⟨6, i, n, t, b, e, s0, s1, s2, s3, s4, s5⟩)) (by omega) (by omega) ?_; intro gC kC w4 q1 q2 q3; have HN := Lib.hid ((HA.out.alloc _).drew.grow3 q1 (some_sub q2) q3); have u3 := (HA.out.alloc _).drew.keep3 q3; have p3m := u3.1; have f3m := u3.2; clear u3 q1 q2 q3))
      all_goals
        go_wp2_with fail
        go_end0
        exact ⟨rfl, gT, kT, gA, kA, gC, kC, HN.out.o⟩
end Go.Proofs.YtdchedkhlfmpeaaDoor
