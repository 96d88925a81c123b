/- Replay: report. -/
import Derived.Test.YtdchedkhlfmpeaaRp1
import Derived.WalkKit
import Derived.ProofKit
import Derived.Handy
import Derived.WalkLawsBesides
import Derived.WalkSpells
import Derived.Lib.Hide
import Derived.Lib.SliceRun
import Derived.Deep.RegionLaw
import Derived.RegionTactic
import Derived.ChangeAlike
import Derived.WalkSmall
import Derived.Deep.QuietTactic
import Derived.BigQuiet
import Derived.OwnWalk
import Derived.Outline
import Derived.Deep.CutRange
import Derived.Deep.CutBlock
import Derived.LoopTactic
namespace Go.Proofs.Ytdchedkhlfmpeaa
open Go.ChangeShapes Go.WideShapes Go.ChangeAt Go.RowKit
set_option linter.unusedSimpArgs false
set_option linter.unusedVariables false

/-- What report works on: the round in block R, the event in block X, and two rows. -/
def SR (w0 w : World) (R X : Nat) (tk : Int) (vo : Value) (ro : Option Addr) (no co : Nat) (Lo : List Value) (rr : Option Addr) (nr cr : Nat) (Lr : List Value) (xc : List Value) : Prop :=
  Blk w R [.int .i64 tk, vo, .slice ro no co, .slice rr nr cr, .int .i64 0, .bool false] 92 ∧ Blk w X xc 47 ∧ RM w w0.heap.size ro no co 3 Lo 94 ∧ RM w w0.heap.size rr nr cr 4 Lr 96 ∧ Chg [R] w0 w ∧ R < w0.heap.size ∧ ¬ R = X
theorem SR.offer {w0 W w4 : World} {R X : Nat} {tk : Int} {vo : Value} {xc : List Value} {news : Array Value} {U : TypeId} {g k : Nat} {rr : Option Addr} {nr cr : Nat} {Lr : List Value} {L : List Value} (h : SR w0 W R X tk vo none 0 0 [] rr nr cr Lr xc) (q1 : RM w4 w0.heap.size (some ⟨g, 0, none⟩) 1 k 3 L 94) (q2 : g ∈ rvB none ∨ (W.alloc (.cells news U)).drew.heap.size ≤ g) (q3 : Chg (rvB none) (W.alloc (.cells news U)).drew w4) :
    SR w0 (w4.setCell ⟨R, 2, none⟩ (.slice (some ⟨g, 0, none⟩) 1 k)) R X tk vo (some ⟨g, 0, none⟩) 1 k L rr nr cr Lr xc := by
  obtain ⟨h1, h2, h3, h4, h5, h6, h7⟩ := h
  have kk : Chg [R] w4 (w4.setCell ⟨R, 2, none⟩ (.slice (some ⟨g, 0, none⟩) 1 k)) := (Chg.refl [R] w4).set (Or.inl (by simp)) _ _
  have hg : W.heap.size < g := by
    rcases q2 with q | q
    · simp [rvB] at q
    · simp at q; omega
  have hR := h1.lt
  have ka : Chg [] W (W.alloc (.cells news U)).drew := ((Chg.refl [] W).alloc _).drew
  refine ⟨((h1.alloc _).drew.chg q3 (by simp [rvB])).set 2 _, (((h2.alloc _).drew).chg q3 (by simp [rvB])).chg kk (by simp; omega), q1.chg kk (by intro y hy; simp [rvB] at hy; subst hy; simp; omega), ((h4.chg ka (by simp)).chg q3 (by simp [rvB])).chg kk (fun y hy => by have := (h4.lt y hy).1; simp; omega), ?_, h6, h7⟩
  exact ((h5.alloc _).drew.trans q3 (by simp [rvB])).trans kk (by simp)
theorem SR.rep {w0 W w4 : World} {R X : Nat} {tk : Int} {vo : Value} {xc : List Value} {news : Array Value} {U : TypeId} {g k : Nat} {ro : Option Addr} {no co : Nat} {Lo : List Value} {L : List Value} (h : SR w0 W R X tk vo ro no co Lo none 0 0 [] xc) (q1 : RM w4 w0.heap.size (some ⟨g, 0, none⟩) 1 k 4 L 96) (q2 : g ∈ rvB none ∨ (W.alloc (.cells news U)).drew.heap.size ≤ g) (q3 : Chg (rvB none) (W.alloc (.cells news U)).drew w4) :
    SR w0 (w4.setCell ⟨R, 3, none⟩ (.slice (some ⟨g, 0, none⟩) 1 k)) R X tk vo ro no co Lo (some ⟨g, 0, none⟩) 1 k L xc := by
  obtain ⟨h1, h2, h3, h4, h5, h6, h7⟩ := h
  have kk : Chg [R] w4 (w4.setCell ⟨R, 3, none⟩ (.slice (some ⟨g, 0, none⟩) 1 k)) := (Chg.refl [R] w4).set (Or.inl (by simp)) _ _
  have hg : W.heap.size < g := by
    rcases q2 with q | q
    · simp [rvB] at q
    · simp at q; omega
  have hR := h1.lt
  have ka : Chg [] W (W.alloc (.cells news U)).drew := ((Chg.refl [] W).alloc _).drew
  refine ⟨((h1.alloc _).drew.chg q3 (by simp [rvB])).set 3 _, (((h2.alloc _).drew).chg q3 (by simp [rvB])).chg kk (by simp; omega), ((h3.chg ka (by simp)).chg q3 (by simp [rvB])).chg kk (fun y hy => by have := (h3.lt y hy).1; simp; omega), q1.chg kk (by intro y hy; simp [rvB] at hy; subst hy; simp; omega), ?_, h6, h7⟩
  exact ((h5.alloc _).drew.trans q3 (by simp [rvB])).trans kk (by simp)
theorem infoOf : (Try.prog.info? 94).map (fun i => (i.zero, i.size, i.bytes)) = some (some (.agg #[.int .i64 0, .string ByteArray.empty, .bool false]), 3, 32) := by kernel_rfl
theorem infoRp : (Try.prog.info? 96).map (fun i => (i.zero, i.size, i.bytes)) = some (some (.agg #[.int .i64 0, .bool false, .bool false, .int .i64 0]), 4, 24) := by kernel_rfl
theorem of_one (i : Int) (b : ByteArray) (c : Bool) : ∀ v ∈ [Value.int .i64 i, .string b, .bool c], v.oneCell' = true := by
  intro v hv
  simp only [List.mem_cons, List.not_mem_nil, or_false] at hv
  rcases hv with rfl | rfl | rfl <;> rfl
theorem rp_one (i : Int) (b c : Bool) (d : Int) : ∀ v ∈ [Value.int .i64 i, .bool b, .bool c, .int .i64 d], v.oneCell' = true := by
  intro v hv
  simp only [List.mem_cons, List.not_mem_nil, or_false] at hv
  rcases hv with rfl | rfl | rfl | rfl <;> rfl
set_option maxRecDepth 20000 in
set_option maxHeartbeats 16000000 in
theorem rp_idle (R : Nat) (y0 y1 y2 y3 : Int) (yb : ByteArray) (y5 y6 y7 y8 y9 y10 y11 : Int) (i n t : Int) (b : ByteArray) (e s0 s1 s2 s3 s4 s5 : Int) (w : World) :
    Calls Try.prog 95 #[.pointer (some ⟨R, 0, none⟩), .agg #[.int .i64 y0, .int .i64 y1, .int .i64 y2, .int .i64 y3, .string yb, .int .i64 y5, .int .i64 y6, .int .i64 y7, .int .i64 y8, .int .i64 y9, .int .i64 y10, .int .i64 y11], .agg #[.int .i64 1, .int .i64 i, .int .i64 n, .int .i64 t, .string b, .int .i64 e, .int .i64 s0, .int .i64 s1, .int .i64 s2, .int .i64 s3, .int .i64 s4, .int .i64 s5]] w fun e w' => e = .returned (.tuple #[]) ∧ Below w.heap.size w w' := by
  have H1 : Hid (Blk ((w.alloc (.cells #[.int .i64 y0, .int .i64 y1, .int .i64 y2, .int .i64 y3, .string yb, .int .i64 y5, .int .i64 y6, .int .i64 y7, .int .i64 y8, .int .i64 y9, .int .i64 y10, .int .i64 y11] 47)).alloc (.cells #[.int .i64 1, .int .i64 i, .int .i64 n, .int .i64 t, .string b, .int .i64 e, .int .i64 s0, .int .i64 s1, .int .i64 s2, .int .i64 s3, .int .i64 s4, .int .i64 s5] 47)) (w.heap.size + 1) [.int .i64 1, .int .i64 i, .int .i64 n, .int .i64 t, .string b, .int .i64 e, .int .i64 s0, .int .i64 s1, .int .i64 s2, .int .i64 s3, .int .i64 s4, .int .i64 s5] 47 ∧ Below w.heap.size w ((w.alloc (.cells #[.int .i64 y0, .int .i64 y1, .int .i64 y2, .int .i64 y3, .string yb, .int .i64 y5, .int .i64 y6, .int .i64 y7, .int .i64 y8, .int .i64 y9, .int .i64 y10, .int .i64 y11] 47)).alloc (.cells #[.int .i64 1, .int .i64 i, .int .i64 n, .int .i64 t, .string b, .int .i64 e, .int .i64 s0, .int .i64 s1, .int .i64 s2, .int .i64 s3, .int .i64 s4, .int .i64 s5] 47))) := Lib.hid (by
    have b2 := Blk.newA (w.alloc (.cells #[.int .i64 y0, .int .i64 y1, .int .i64 y2, .int .i64 y3, .string yb, .int .i64 y5, .int .i64 y6, .int .i64 y7, .int .i64 y8, .int .i64 y9, .int .i64 y10, .int .i64 y11] 47)) #[.int .i64 1, .int .i64 i, .int .i64 n, .int .i64 t, .string b, .int .i64 e, .int .i64 s0, .int .i64 s1, .int .i64 s2, .int .i64 s3, .int .i64 s4, .int .i64 s5] 47
    rw [World.size_alloc] at b2
    exact ⟨b2, ((Below.refl _ _).alloc (Nat.le_refl _) _).alloc (by simp) _⟩)
  go_enter Try.func95, Try.ntmps95
  go_upto_region 1 with fail
  revert H1
  generalize ((w.alloc (.cells #[.int .i64 y0, .int .i64 y1, .int .i64 y2, .int .i64 y3, .string yb, .int .i64 y5, .int .i64 y6, .int .i64 y7, .int .i64 y8, .int .i64 y9, .int .i64 y10, .int .i64 y11] 47)).alloc (.cells #[.int .i64 1, .int .i64 i, .int .i64 n, .int .i64 t, .string b, .int .i64 e, .int .i64 s0, .int .i64 s1, .int .i64 s2, .int .i64 s3, .int .i64 s4, .int .i64 s5] 47)) = V
  generalize w.heap.size + 1 = X
  intro H1
  have d0 := H1.out.1.cell (i := 0) rfl
  go_wp2_with fail
  go_end0
  exact ⟨rfl, H1.out.2⟩
end Go.Proofs.Ytdchedkhlfmpeaa
