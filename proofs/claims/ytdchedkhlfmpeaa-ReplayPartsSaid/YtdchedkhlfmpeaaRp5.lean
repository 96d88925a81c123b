/- Replay: report of what was read. -/
import Derived.Test.YtdchedkhlfmpeaaRp4
import Derived.WalkKit
import Derived.ProofKit
import Derived.Handy
import Derived.WalkLawsBesides
import Derived.WalkSpells
import Derived.Lib.Hide
import Derived.Lib.SliceRun
import Derived.Deep.RegionLaw
import Derived.RegionTactic
import Derived.ChangeAlike
import Derived.WalkSmall
import Derived.Deep.QuietTactic
import Derived.BigQuiet
import Derived.OwnWalk
import Derived.Outline
import Derived.Deep.CutRange
import Derived.Deep.CutBlock
import Derived.LoopTactic
namespace Go.Proofs.Ytdchedkhlfmpeaa
open Go.ChangeShapes Go.WideShapes Go.ChangeAt Go.RowKit
set_option linter.unusedSimpArgs false
set_option linter.unusedVariables false

set_option maxRecDepth 20000 in
set_option maxHeartbeats 16000000 in
theorem rp_read (R : Nat) (tk : Int) (vo : Value) (y0 y1 y2 y3 : Int) (yb : ByteArray) (y5 y6 y7 y8 y9 y10 y11 : Int) (i n t : Int) (b : ByteArray) (e s0 s1 s2 s3 s4 s5 : Int) (w : World) (HR : Blk w R [.int .i64 tk, vo, .slice none 0 0, .slice none 0 0, .int .i64 0, .bool false] 92) :
    Calls Try.prog 95 #[.pointer (some ⟨R, 0, none⟩), .agg #[.int .i64 y0, .int .i64 y1, .int .i64 y2, .int .i64 y3, .string yb, .int .i64 y5, .int .i64 y6, .int .i64 y7, .int .i64 y8, .int .i64 y9, .int .i64 y10, .int .i64 y11], .agg #[.int .i64 4, .int .i64 i, .int .i64 n, .int .i64 t, .string b, .int .i64 e, .int .i64 s0, .int .i64 s1, .int .i64 s2, .int .i64 s3, .int .i64 s4, .int .i64 s5]] w fun r w' => r = .returned (.tuple #[]) ∧ ∃ X gA kA gB kB : Nat, SR w w' R X tk vo (some ⟨gA, 0, none⟩) 1 kA [.int .i64 i, .string b, .bool false] (some ⟨gB, 0, none⟩) 1 kB [.int .i64 i, .bool true, .bool false, .int .i64 0] [.int .i64 4, .int .i64 i, .int .i64 n, .int .i64 t, .string b, .int .i64 e, .int .i64 s0, .int .i64 s1, .int .i64 s2, .int .i64 s3, .int .i64 s4, .int .i64 s5] := by
  have H1 : Hid (SR w ((w.alloc (.cells #[.int .i64 y0, .int .i64 y1, .int .i64 y2, .int .i64 y3, .string yb, .int .i64 y5, .int .i64 y6, .int .i64 y7, .int .i64 y8, .int .i64 y9, .int .i64 y10, .int .i64 y11] 47)).alloc (.cells #[.int .i64 4, .int .i64 i, .int .i64 n, .int .i64 t, .string b, .int .i64 e, .int .i64 s0, .int .i64 s1, .int .i64 s2, .int .i64 s3, .int .i64 s4, .int .i64 s5] 47)) R (w.heap.size + 1) tk vo none 0 0 [] none 0 0 [] [.int .i64 4, .int .i64 i, .int .i64 n, .int .i64 t, .string b, .int .i64 e, .int .i64 s0, .int .i64 s1, .int .i64 s2, .int .i64 s3, .int .i64 s4, .int .i64 s5]) := Lib.hid (by
    have b2 := Blk.newA (w.alloc (.cells #[.int .i64 y0, .int .i64 y1, .int .i64 y2, .int .i64 y3, .string yb, .int .i64 y5, .int .i64 y6, .int .i64 y7, .int .i64 y8, .int .i64 y9, .int .i64 y10, .int .i64 y11] 47)) #[.int .i64 4, .int .i64 i, .int .i64 n, .int .i64 t, .string b, .int .i64 e, .int .i64 s0, .int .i64 s1, .int .i64 s2, .int .i64 s3, .int .i64 s4, .int .i64 s5] 47
    rw [World.size_alloc] at b2
    have hR := HR.lt
    exact ⟨(HR.alloc _).alloc _, b2, RM.nil _ _ _ _ (by simp; omega), RM.nil _ _ _ _ (by simp; omega), ((Chg.refl [R] w).alloc _).alloc _, hR, by omega⟩)
  clear HR
  go_enter Try.func95, Try.ntmps95
  go_upto_region 1 with fail
  revert H1
  generalize ((w.alloc (.cells #[.int .i64 y0, .int .i64 y1, .int .i64 y2, .int .i64 y3, .string yb, .int .i64 y5, .int .i64 y6, .int .i64 y7, .int .i64 y8, .int .i64 y9, .int .i64 y10, .int .i64 y11] 47)).alloc (.cells #[.int .i64 4, .int .i64 i, .int .i64 n, .int .i64 t, .string b, .int .i64 e, .int .i64 s0, .int .i64 s1, .int .i64 s2, .int .i64 s3, .int .i64 s4, .int .i64 s5] 47)) = V
  generalize w.heap.size + 1 = X
  intro H1
  have d0 := H1.out.2.1.cell (i := 0) rfl
  go_upto_region 3 with fail
  clear d0
  go_cut [] from 10 to 23 (fun wx => ∃ gA kA : Nat, Hid (SR w wx R X tk vo (some ⟨gA, 0, none⟩) 1 kA [.int .i64 i, .string b, .bool false] none 0 0 [] [.int .i64 4, .int .i64 i, .int .i64 n, .int .i64 t, .string b, .int .i64 e, .int .i64 s0, .int .i64 s1, .int .i64 s2, .int .i64 s3, .int .i64 s4, .int .i64 s5]))
  case first =>
    have c2 := H1.out.1.cell (i := 2) rfl
    have f2 := H1.out.1.free 2
    have c2a := (H1.out.1.alloc (.cells #[.int .i64 i, .string b, .bool false] 94)).cell (i := 2) rfl
    have x1 := H1.out.2.1.cell (i := 1) rfl
    have x4 := H1.out.2.1.cell (i := 4) rfl
    have x1a := (H1.out.2.1.alloc (.cells #[.int .i64 i, .string b, .bool false] 94)).cell (i := 1) rfl
    have hB1 : w.heap.size ≤ V.heap.size := H1.out.2.2.2.2.1.size
    go_region_law (first
      | (refine step_append_rm rfl (.tmp 14) (.tmp 20) 89 89 rfl 94 (.agg #[.int .i64 0, .string ByteArray.empty, .bool false]) 3 32 Try.underlying89 infoOf rfl w.heap.size none 0 0 [] rfl (RM.nil _ _ _ _ (by simp; omega)) _ rfl 1 (by omega) [.int .i64 i, .string b, .bool false] (Src.ofSlice _ Try.underlying89 ⟨_, 0, none⟩ 1 1 [.int .i64 i, .string b, .bool false] rfl (new_atE _ _ _) (of_one _ _ _)) (by omega) (by omega) ?_; intro gA kA w4 q1 q2 q3; have HM := Lib.hid (SR.offer H1.out q1 q2 q3); have b4 := ((H1.out.1.alloc (.cells #[.int .i64 i, .string b, .bool false] 94)).drew).chg q3 (by simp [rvB]); have c2m := b4.cell (i := 2) rfl; have f2m := b4.free 2; clear b4 q1 q2 q3))
    all_goals
      go_wp2_with fail
      go_meet
      exact ⟨gA, kA, HM⟩
  case rest =>
    obtain ⟨gA, kA, HA⟩ := hcut
    go_upto_region 4 with fail
    have c2 := HA.out.1.cell (i := 3) rfl
    have f2 := HA.out.1.free 3
    have c2a := (HA.out.1.alloc (.cells #[.int .i64 i, .bool true, .bool false, .int .i64 0] 96)).cell (i := 3) rfl
    have x1 := HA.out.2.1.cell (i := 1) rfl
    have x4 := HA.out.2.1.cell (i := 4) rfl
    have x1a := (HA.out.2.1.alloc (.cells #[.int .i64 i, .bool true, .bool false, .int .i64 0] 96)).cell (i := 1) rfl
    have hB1 : w.heap.size ≤ wc.heap.size := HA.out.2.2.2.2.1.size
    go_region_law (first
      | (refine step_append_rm rfl (.tmp 28) (.tmp 32) 90 90 rfl 96 (.agg #[.int .i64 0, .bool false, .bool false, .int .i64 0]) 4 24 Try.underlying90 infoRp rfl w.heap.size none 0 0 [] rfl (RM.nil _ _ _ _ (by simp; omega)) _ rfl 1 (by omega) [.int .i64 i, .bool true, .bool false, .int .i64 0] (Src.ofSlice _ Try.underlying90 ⟨_, 0, none⟩ 1 1 [.int .i64 i, .bool true, .bool false, .int .i64 0] rfl (new_atE _ _ _) (rp_one _ _ _ _)) (by omega) (by omega) ?_; intro gB kB w4 q1 q2 q3; have HM := Lib.hid (SR.rep HA.out q1 q2 q3); have b4 := ((HA.out.1.alloc (.cells #[.int .i64 i, .bool true, .bool false, .int .i64 0] 96)).drew).chg q3 (by simp [rvB]); have c2m := b4.cell (i := 3) rfl; have f2m := b4.free 3; clear b4 q1 q2 q3))
    all_goals
      have d0 := HM.out.2.1.cell (i := 0) rfl
      go_wp2_with fail
      go_end0
      exact ⟨rfl, X, gA, kA, gB, kB, HM.out⟩
end Go.Proofs.Ytdchedkhlfmpeaa
