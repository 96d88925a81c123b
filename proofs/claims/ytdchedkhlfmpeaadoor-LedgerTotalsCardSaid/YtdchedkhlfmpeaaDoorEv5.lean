/- Events: what is gathered of one, while an event is added. -/
import Derived.Test.YtdchedkhlfmpeaaDoorEv4
import Derived.Deep.Upon
import Derived.WalkKit
import Derived.ProofKit
import Derived.Handy
import Derived.WalkLawsBesides
import Derived.WalkSpells
import Derived.Lib.Hide
import Derived.Lib.SliceRun
import Derived.Deep.RegionLaw
import Derived.RegionTactic
import Derived.ChangeAlike
import Derived.WalkSmall
import Derived.Deep.QuietTactic
import Derived.BigQuiet
import Derived.OwnWalk
import Derived.Outline
import Derived.Deep.CutRange
import Derived.Deep.CutBlock
import Derived.LoopTactic
namespace Go.Proofs.YtdchedkhlfmpeaaDoor
open Go.ChangeShapes Go.WideShapes Go.ChangeAt Go.RowKit
set_option linter.unusedSimpArgs false
set_option linter.unusedVariables false

theorem bv_bc (s : ByteArray) : byteCells s = bv s := rfl
theorem infoB8 : (Tryd.prog.info? 5).map (fun i => (i.zero, i.size, i.bytes)) = some (some (.int .u8 0), 1, 1) := by kernel_rfl
theorem infoIn : (Tryd.prog.info? 90).map (fun i => (i.zero, i.size, i.bytes)) = some (some (.agg #[.int .i64 0, .string ByteArray.empty, .int .i64 0, .int .i64 0]), 4, 40) := by kernel_rfl
theorem infoSt : (Tryd.prog.info? 44).map (fun i => (i.zero, i.size, i.bytes)) = some (some (.agg #[.int .i64 0, .int .i64 0, .int .i64 0, .int .i64 0, .int .i64 0, .int .i64 0]), 6, 48) := by kernel_rfl
theorem Ev.st_one (x : Ev) : ∀ v ∈ x.st, v.oneCell' = true := by
  intro v hv
  simp only [Ev.st, List.mem_cons, List.not_mem_nil, or_false] at hv
  rcases hv with rfl | rfl | rfl | rfl | rfl | rfl <;> rfl
theorem in_one (a : Int) (b : ByteArray) (c d : Int) : ∀ v ∈ [Value.int .i64 a, .string b, .int .i64 c, .int .i64 d], v.oneCell' = true := by
  intro v hv
  simp only [List.mem_cons, List.not_mem_nil, or_false] at hv
  rcases hv with rfl | rfl | rfl | rfl <;> rfl
/-- A text behind a row of bytes. -/
theorem wp_append_rb (w : World) {o : Oper} {a : Act} {K : Act → World → Prop} {Q : Exit → Act → World → Prop}
    (s x : Operand) (hop : o.op = Op.call { callee := Callee.builtin Builtin.append, args := #[s, x], argTypes := #[62, 9] })
    (base : Nat) (r : Option Addr) (m cap : Nat) (L : List Value) (hs : a.eval s = .slice r m cap) (hown : RM w base r m cap 1 L 5) (t : ByteArray) (hx : a.eval x = .string t) (h63 : m + t.size ≤ 1000000)
    (hK : ∀ r' cap' w', RM w' base r' (m + t.size) cap' 1 (L ++ bv t) 5 → (∀ g ∈ rvB r', g ∈ rvB r ∨ w.heap.size ≤ g) → Chg (rvB r) w w' → K (a.put o.dst (.slice r' (m + t.size) cap')) w') :
    Oper.wp Tryd.prog o a w K Q := by
  by_cases h0 : t.size = 0
  · have hbv : bv t = [] := List.length_eq_zero_iff.1 (by rw [bv_length]; exact h0)
    have hle : m ≤ cap := by
      obtain ⟨hl, _, ⟨_, h2, h3⟩ | ⟨g, _, _, h4⟩⟩ := hown
      · omega
      · have := h4.len; omega
    obtain ⟨i, hi, hzz⟩ := Option.map_eq_some_iff.1 infoB8
    simp only [Prod.mk.injEq] at hzz
    obtain ⟨hz, hs1, hb1⟩ := hzz
    have hsrc : Src Tryd.prog i.size 9 (.string t) 0 [] w := by
      have := Src.ofString (P := Tryd.prog) w Tryd.underlying9 t
      rw [h0, bv_bc, hbv] at this
      rw [hs1]; exact this
    have hrun := run_append_nothing (P := Tryd.prog) w 62 9 o.type 5 i Tryd.underlying62 hi r m cap hle (.string t) hsrc
    unfold Oper.wp
    simp [execOp, hop, resolve, invoke, builtin, hs, hx, hrun, Result.andThen]
    have hk := hK r cap w (by rw [hbv, List.append_nil, h0]; exact hown) (fun g hg => Or.inl hg) (Chg.refl _ _)
    rw [h0] at hk
    exact hk
  · refine wp_append_rm w s x 62 9 hop 5 (.int .u8 0) 1 1 Tryd.underlying62 infoB8 rfl base r m cap L hs hown (.string t) hx t.size (by omega) (bv t) (by
      have := Src.ofString (P := Tryd.prog) w Tryd.underlying9 t
      rw [bv_bc] at this
      exact this) h63 (by omega) fun g' cap' w' h1 h2 h3 => hK _ cap' w' h1 (fun g hg => by rw [rvB_some] at hg; simp at hg; subst hg; exact h2) h3
theorem step_append_rb {ops : Array Oper} {o : Oper} {a : Act} {w : World} {K : Act → World → Prop} {Q : Exit → Act → World → Prop} {E : Prop} (hgd : o.guard = none)
    (s x : Operand) (hop : o.op = Op.call { callee := Callee.builtin Builtin.append, args := #[s, x], argTypes := #[62, 9] })
    (base : Nat) (r : Option Addr) (m cap : Nat) (L : List Value) (hs : a.eval s = .slice r m cap) (hown : RM w base r m cap 1 L 5) (t : ByteArray) (hx : a.eval x = .string t) (h63 : m + t.size ≤ 1000000)
    (hK : ∀ r' cap' w', RM w' base r' (m + t.size) cap' 1 (L ++ bv t) 5 → (∀ g ∈ rvB r', g ∈ rvB r ∨ w.heap.size ≤ g) → Chg (rvB r) w w' → K (a.put o.dst (.slice r' (m + t.size) cap')) w') :
    if Region.wanted o (yielded ops a.tmps) = true then Oper.wp Tryd.prog o a w K Q else E := by
  have hw : Region.wanted o (yielded ops a.tmps) = true := by simp [Region.wanted, hgd]
  rw [if_pos hw]
  exact wp_append_rb w s x hop base r m cap L hs hown t hx h63 hK
theorem some_sub {g' : Nat} {r : Option Addr} {n : Nat} (h : g' ∈ rvB r ∨ n ≤ g') : ∀ g ∈ rvB (some ⟨g', 0, none⟩), g ∈ rvB r ∨ n ≤ g := fun g hg => by rw [rvB_some] at hg; simp at hg; subst hg; exact h
/-- What add works on: the object; the event in block X; the input in block X + 1. -/
structure TA (w0 : World) (b0 : List Nat) (w : World) (B p : Nat) (id sc fr : Int) (eo : Bool) (st : Int) (r1 : Option Addr) (n1 c1 : Nat) (L1 : List Value) (r2 : Option Addr) (n2 c2 : Nat) (L2 : List Value) (r3 : Option Addr) (n3 c3 : Nat) (L3 : List Value) (r4 : Option Addr) (n4 c4 : Nat) (L4 : List Value) (r5 : Option Addr) (n5 c5 : Nat) (L5 : List Value) (X : Nat) (x : Ev) (I : List Value) : Prop where
  o : TO w0 b0 w B p id sc fr eo st r1 n1 c1 L1 r2 n2 c2 L2 r3 n3 c3 L3 r4 n4 c4 L4 r5 n5 c5 L5
  ev : Blk w X x.c 46
  inp : Blk w (X + 1) I 90
  n0 : w0.heap.size ≤ X
  nX : X ∉ toB p r1 r2 r3 r4 r5
  nY : X + 1 ∉ toB p r1 r2 r3 r4 r5
theorem TA.setI {w0 : World} {b0 : List Nat} {w : World} {B p : Nat} {id sc fr : Int} {eo : Bool} {st : Int} {r1 : Option Addr} {n1 c1 : Nat} {L1 : List Value} {r2 : Option Addr} {n2 c2 : Nat} {L2 : List Value} {r3 : Option Addr} {n3 c3 : Nat} {L3 : List Value} {r4 : Option Addr} {n4 c4 : Nat} {L4 : List Value} {r5 : Option Addr} {n5 c5 : Nat} {L5 : List Value} {X : Nat} {x : Ev} {I : List Value} (h : TA w0 b0 w B p id sc fr eo st r1 n1 c1 L1 r2 n2 c2 L2 r3 n3 c3 L3 r4 n4 c4 L4 r5 n5 c5 L5 X x I) (i : Nat) (v : Value) : TA w0 b0 (w.setCell ⟨X + 1, i, none⟩ v) B p id sc fr eo st r1 n1 c1 L1 r2 n2 c2 L2 r3 n3 c3 L3 r4 n4 c4 L4 r5 n5 c5 L5 X x (I.set i v) :=
  ⟨h.o.setO (by have := h.n0; omega) h.nY i v, h.ev.other (by omega) i v, h.inp.set i v, h.n0, h.nX, h.nY⟩
theorem TA.setP {w0 : World} {b0 : List Nat} {w : World} {B p : Nat} {id sc fr : Int} {eo : Bool} {st : Int} {r1 : Option Addr} {n1 c1 : Nat} {L1 : List Value} {r2 : Option Addr} {n2 c2 : Nat} {L2 : List Value} {r3 : Option Addr} {n3 c3 : Nat} {L3 : List Value} {r4 : Option Addr} {n4 c4 : Nat} {L4 : List Value} {r5 : Option Addr} {n5 c5 : Nat} {L5 : List Value} {X : Nat} {x : Ev} {I : List Value} (h : TA w0 b0 w B p id sc fr eo st r1 n1 c1 L1 r2 n2 c2 L2 r3 n3 c3 L3 r4 n4 c4 L4 r5 n5 c5 L5 X x I) (eo' : Bool) : TA w0 b0 (w.setCell ⟨p, 7, none⟩ (.bool eo')) B p id sc fr eo' st r1 n1 c1 L1 r2 n2 c2 L2 r3 n3 c3 L3 r4 n4 c4 L4 r5 n5 c5 L5 X x I := by
  have h1 := h.nX; have h2 := h.nY
  simp only [toB, List.mem_cons, not_or] at h1 h2
  exact ⟨h.o.setP eo', h.ev.other h1.1 _ _, h.inp.other h2.1 _ _, h.n0, h.nX, h.nY⟩
theorem TA.setS {w0 : World} {b0 : List Nat} {w : World} {B p : Nat} {id sc fr : Int} {eo : Bool} {st : Int} {r1 : Option Addr} {n1 c1 : Nat} {L1 : List Value} {r2 : Option Addr} {n2 c2 : Nat} {L2 : List Value} {r3 : Option Addr} {n3 c3 : Nat} {L3 : List Value} {r4 : Option Addr} {n4 c4 : Nat} {L4 : List Value} {r5 : Option Addr} {n5 c5 : Nat} {L5 : List Value} {X : Nat} {x : Ev} {I : List Value} (h : TA w0 b0 w B p id sc fr eo st r1 n1 c1 L1 r2 n2 c2 L2 r3 n3 c3 L3 r4 n4 c4 L4 r5 n5 c5 L5 X x I) (st' : Int) : TA w0 b0 (w.setCell ⟨p, 8, none⟩ (.int .i64 st')) B p id sc fr eo st' r1 n1 c1 L1 r2 n2 c2 L2 r3 n3 c3 L3 r4 n4 c4 L4 r5 n5 c5 L5 X x I := by
  have h1 := h.nX; have h2 := h.nY
  simp only [toB, List.mem_cons, not_or] at h1 h2
  exact ⟨h.o.setS st', h.ev.other h1.1 _ _, h.inp.other h2.1 _ _, h.n0, h.nX, h.nY⟩
theorem TA.alloc {w0 : World} {b0 : List Nat} {w : World} {B p : Nat} {id sc fr : Int} {eo : Bool} {st : Int} {r1 : Option Addr} {n1 c1 : Nat} {L1 : List Value} {r2 : Option Addr} {n2 c2 : Nat} {L2 : List Value} {r3 : Option Addr} {n3 c3 : Nat} {L3 : List Value} {r4 : Option Addr} {n4 c4 : Nat} {L4 : List Value} {r5 : Option Addr} {n5 c5 : Nat} {L5 : List Value} {X : Nat} {x : Ev} {I : List Value} (h : TA w0 b0 w B p id sc fr eo st r1 n1 c1 L1 r2 n2 c2 L2 r3 n3 c3 L3 r4 n4 c4 L4 r5 n5 c5 L5 X x I) (o : Obj) : TA w0 b0 (w.alloc o) B p id sc fr eo st r1 n1 c1 L1 r2 n2 c2 L2 r3 n3 c3 L3 r4 n4 c4 L4 r5 n5 c5 L5 X x I := ⟨h.o.alloc o, h.ev.alloc o, h.inp.alloc o, h.n0, h.nX, h.nY⟩
theorem TA.drew {w0 : World} {b0 : List Nat} {w : World} {B p : Nat} {id sc fr : Int} {eo : Bool} {st : Int} {r1 : Option Addr} {n1 c1 : Nat} {L1 : List Value} {r2 : Option Addr} {n2 c2 : Nat} {L2 : List Value} {r3 : Option Addr} {n3 c3 : Nat} {L3 : List Value} {r4 : Option Addr} {n4 c4 : Nat} {L4 : List Value} {r5 : Option Addr} {n5 c5 : Nat} {L5 : List Value} {X : Nat} {x : Ev} {I : List Value} (h : TA w0 b0 w B p id sc fr eo st r1 n1 c1 L1 r2 n2 c2 L2 r3 n3 c3 L3 r4 n4 c4 L4 r5 n5 c5 L5 X x I) : TA w0 b0 w.drew B p id sc fr eo st r1 n1 c1 L1 r2 n2 c2 L2 r3 n3 c3 L3 r4 n4 c4 L4 r5 n5 c5 L5 X x I := ⟨h.o.drew, h.ev, h.inp, h.n0, h.nX, h.nY⟩
theorem TA.grow1 {w0 : World} {b0 : List Nat} {w w' : World} {B p : Nat} {id sc fr : Int} {eo : Bool} {st : Int} {r1 : Option Addr} {n1 c1 : Nat} {L1 : List Value} {r2 : Option Addr} {n2 c2 : Nat} {L2 : List Value} {r3 : Option Addr} {n3 c3 : Nat} {L3 : List Value} {r4 : Option Addr} {n4 c4 : Nat} {L4 : List Value} {r5 : Option Addr} {n5 c5 : Nat} {L5 : List Value} {X : Nat} {x : Ev} {I : List Value} (h : TA w0 b0 w B p id sc fr eo st r1 n1 c1 L1 r2 n2 c2 L2 r3 n3 c3 L3 r4 n4 c4 L4 r5 n5 c5 L5 X x I) {r' : Option Addr} {m c' : Nat} {M : List Value} (hr : RM w' B r' m c' 4 M 90) (hg : ∀ g ∈ rvB r', g ∈ rvB r1 ∨ w.heap.size ≤ g) (k : Chg (rvB r1) w w') :
    TA w0 b0 (w'.setCell ⟨p, 3, none⟩ (.slice r' m c')) B p id sc fr eo st r' m c' M r2 n2 c2 L2 r3 n3 c3 L3 r4 n4 c4 L4 r5 n5 c5 L5 X x I := by
  have h1 := h.nX; have h2 := h.nY
  simp only [toB, List.mem_cons, List.mem_append, not_or] at h1 h2
  have l1 := h.ev.lt; have l2 := h.inp.lt
  have n1 : X ∉ rvB r' := fun e => by
    rcases hg _ e with e | e
    · exact absurd e (by simp [h1])
    · omega
  have n2 : X + 1 ∉ rvB r' := fun e => by
    rcases hg _ e with e | e
    · exact absurd e (by simp [h2])
    · omega
  exact ⟨h.o.grow1 hr hg k, (h.ev.chg k (by simp [h1])).other h1.1 _ _, (h.inp.chg k (by simp [h2])).other h2.1 _ _, h.n0, by simp [toB, h1, n1], by simp [toB, h2, n2]⟩
theorem TA.grow2 {w0 : World} {b0 : List Nat} {w w' : World} {B p : Nat} {id sc fr : Int} {eo : Bool} {st : Int} {r1 : Option Addr} {n1 c1 : Nat} {L1 : List Value} {r2 : Option Addr} {n2 c2 : Nat} {L2 : List Value} {r3 : Option Addr} {n3 c3 : Nat} {L3 : List Value} {r4 : Option Addr} {n4 c4 : Nat} {L4 : List Value} {r5 : Option Addr} {n5 c5 : Nat} {L5 : List Value} {X : Nat} {x : Ev} {I : List Value} (h : TA w0 b0 w B p id sc fr eo st r1 n1 c1 L1 r2 n2 c2 L2 r3 n3 c3 L3 r4 n4 c4 L4 r5 n5 c5 L5 X x I) {r' : Option Addr} {m c' : Nat} {M : List Value} (hr : RM w' B r' m c' 6 M 44) (hg : ∀ g ∈ rvB r', g ∈ rvB r2 ∨ w.heap.size ≤ g) (k : Chg (rvB r2) w w') :
    TA w0 b0 (w'.setCell ⟨p, 4, none⟩ (.slice r' m c')) B p id sc fr eo st r1 n1 c1 L1 r' m c' M r3 n3 c3 L3 r4 n4 c4 L4 r5 n5 c5 L5 X x I := by
  have h1 := h.nX; have h2 := h.nY
  simp only [toB, List.mem_cons, List.mem_append, not_or] at h1 h2
  have l1 := h.ev.lt; have l2 := h.inp.lt
  have n1 : X ∉ rvB r' := fun e => by
    rcases hg _ e with e | e
    · exact absurd e (by simp [h1])
    · omega
  have n2 : X + 1 ∉ rvB r' := fun e => by
    rcases hg _ e with e | e
    · exact absurd e (by simp [h2])
    · omega
  exact ⟨h.o.grow2 hr hg k, (h.ev.chg k (by simp [h1])).other h1.1 _ _, (h.inp.chg k (by simp [h2])).other h2.1 _ _, h.n0, by simp [toB, h1, n1], by simp [toB, h2, n2]⟩
theorem TA.grow3 {w0 : World} {b0 : List Nat} {w w' : World} {B p : Nat} {id sc fr : Int} {eo : Bool} {st : Int} {r1 : Option Addr} {n1 c1 : Nat} {L1 : List Value} {r2 : Option Addr} {n2 c2 : Nat} {L2 : List Value} {r3 : Option Addr} {n3 c3 : Nat} {L3 : List Value} {r4 : Option Addr} {n4 c4 : Nat} {L4 : List Value} {r5 : Option Addr} {n5 c5 : Nat} {L5 : List Value} {X : Nat} {x : Ev} {I : List Value} (h : TA w0 b0 w B p id sc fr eo st r1 n1 c1 L1 r2 n2 c2 L2 r3 n3 c3 L3 r4 n4 c4 L4 r5 n5 c5 L5 X x I) {r' : Option Addr} {m c' : Nat} {M : List Value} (hr : RM w' B r' m c' 12 M 46) (hg : ∀ g ∈ rvB r', g ∈ rvB r3 ∨ w.heap.size ≤ g) (k : Chg (rvB r3) w w') :
    TA w0 b0 (w'.setCell ⟨p, 9, none⟩ (.slice r' m c')) B p id sc fr eo st r1 n1 c1 L1 r2 n2 c2 L2 r' m c' M r4 n4 c4 L4 r5 n5 c5 L5 X x I := by
  have h1 := h.nX; have h2 := h.nY
  simp only [toB, List.mem_cons, List.mem_append, not_or] at h1 h2
  have l1 := h.ev.lt; have l2 := h.inp.lt
  have n1 : X ∉ rvB r' := fun e => by
    rcases hg _ e with e | e
    · exact absurd e (by simp [h1])
    · omega
  have n2 : X + 1 ∉ rvB r' := fun e => by
    rcases hg _ e with e | e
    · exact absurd e (by simp [h2])
    · omega
  exact ⟨h.o.grow3 hr hg k, (h.ev.chg k (by simp [h1])).other h1.1 _ _, (h.inp.chg k (by simp [h2])).other h2.1 _ _, h.n0, by simp [toB, h1, n1], by simp [toB, h2, n2]⟩
theorem TA.grow4 {w0 : World} {b0 : List Nat} {w w' : World} {B p : Nat} {id sc fr : Int} {eo : Bool} {st : Int} {r1 : Option Addr} {n1 c1 : Nat} {L1 : List Value} {r2 : Option Addr} {n2 c2 : Nat} {L2 : List Value} {r3 : Option Addr} {n3 c3 : Nat} {L3 : List Value} {r4 : Option Addr} {n4 c4 : Nat} {L4 : List Value} {r5 : Option Addr} {n5 c5 : Nat} {L5 : List Value} {X : Nat} {x : Ev} {I : List Value} (h : TA w0 b0 w B p id sc fr eo st r1 n1 c1 L1 r2 n2 c2 L2 r3 n3 c3 L3 r4 n4 c4 L4 r5 n5 c5 L5 X x I) {r' : Option Addr} {m c' : Nat} {M : List Value} (hr : RM w' B r' m c' 1 M 5) (hg : ∀ g ∈ rvB r', g ∈ rvB r4 ∨ w.heap.size ≤ g) (k : Chg (rvB r4) w w') :
    TA w0 b0 (w'.setCell ⟨p, 10, none⟩ (.slice r' m c')) B p id sc fr eo st r1 n1 c1 L1 r2 n2 c2 L2 r3 n3 c3 L3 r' m c' M r5 n5 c5 L5 X x I := by
  have h1 := h.nX; have h2 := h.nY
  simp only [toB, List.mem_cons, List.mem_append, not_or] at h1 h2
  have l1 := h.ev.lt; have l2 := h.inp.lt
  have n1 : X ∉ rvB r' := fun e => by
    rcases hg _ e with e | e
    · exact absurd e (by simp [h1])
    · omega
  have n2 : X + 1 ∉ rvB r' := fun e => by
    rcases hg _ e with e | e
    · exact absurd e (by simp [h2])
    · omega
  exact ⟨h.o.grow4 hr hg k, (h.ev.chg k (by simp [h1])).other h1.1 _ _, (h.inp.chg k (by simp [h2])).other h2.1 _ _, h.n0, by simp [toB, h1, n1], by simp [toB, h2, n2]⟩
theorem TA.grow5 {w0 : World} {b0 : List Nat} {w w' : World} {B p : Nat} {id sc fr : Int} {eo : Bool} {st : Int} {r1 : Option Addr} {n1 c1 : Nat} {L1 : List Value} {r2 : Option Addr} {n2 c2 : Nat} {L2 : List Value} {r3 : Option Addr} {n3 c3 : Nat} {L3 : List Value} {r4 : Option Addr} {n4 c4 : Nat} {L4 : List Value} {r5 : Option Addr} {n5 c5 : Nat} {L5 : List Value} {X : Nat} {x : Ev} {I : List Value} (h : TA w0 b0 w B p id sc fr eo st r1 n1 c1 L1 r2 n2 c2 L2 r3 n3 c3 L3 r4 n4 c4 L4 r5 n5 c5 L5 X x I) {r' : Option Addr} {m c' : Nat} {M : List Value} (hr : RM w' B r' m c' 1 M 5) (hg : ∀ g ∈ rvB r', g ∈ rvB r5 ∨ w.heap.size ≤ g) (k : Chg (rvB r5) w w') :
    TA w0 b0 (w'.setCell ⟨p, 11, none⟩ (.slice r' m c')) B p id sc fr eo st r1 n1 c1 L1 r2 n2 c2 L2 r3 n3 c3 L3 r4 n4 c4 L4 r' m c' M X x I := by
  have h1 := h.nX; have h2 := h.nY
  simp only [toB, List.mem_cons, List.mem_append, not_or] at h1 h2
  have l1 := h.ev.lt; have l2 := h.inp.lt
  have n1 : X ∉ rvB r' := fun e => by
    rcases hg _ e with e | e
    · exact absurd e (by simp [h1])
    · omega
  have n2 : X + 1 ∉ rvB r' := fun e => by
    rcases hg _ e with e | e
    · exact absurd e (by simp [h2])
    · omega
  exact ⟨h.o.grow5 hr hg k, (h.ev.chg k (by simp [h1])).other h1.1 _ _, (h.inp.chg k (by simp [h2])).other h2.1 _ _, h.n0, by simp [toB, h1, n1], by simp [toB, h2, n2]⟩
theorem TA.keep1 {w0 : World} {b0 : List Nat} {w w' : World} {B p : Nat} {id sc fr : Int} {eo : Bool} {st : Int} {r1 : Option Addr} {n1 c1 : Nat} {L1 : List Value} {r2 : Option Addr} {n2 c2 : Nat} {L2 : List Value} {r3 : Option Addr} {n3 c3 : Nat} {L3 : List Value} {r4 : Option Addr} {n4 c4 : Nat} {L4 : List Value} {r5 : Option Addr} {n5 c5 : Nat} {L5 : List Value} {X : Nat} {x : Ev} {I : List Value} (h : TA w0 b0 w B p id sc fr eo st r1 n1 c1 L1 r2 n2 c2 L2 r3 n3 c3 L3 r4 n4 c4 L4 r5 n5 c5 L5 X x I) (k : Chg (rvB r1) w w') : w'.cell? ⟨p, 3, none⟩ = some (.slice r1 n1 c1) ∧ w'.frozen? ⟨p, 3, none⟩ = false := by
  have hb := h.o.blk.chg k (by obtain ⟨p1, p2, p3, p4, p5⟩ := h.o.pB; exact p1)
  exact ⟨hb.cell (i := 3) rfl, hb.free _⟩
theorem TA.keep2 {w0 : World} {b0 : List Nat} {w w' : World} {B p : Nat} {id sc fr : Int} {eo : Bool} {st : Int} {r1 : Option Addr} {n1 c1 : Nat} {L1 : List Value} {r2 : Option Addr} {n2 c2 : Nat} {L2 : List Value} {r3 : Option Addr} {n3 c3 : Nat} {L3 : List Value} {r4 : Option Addr} {n4 c4 : Nat} {L4 : List Value} {r5 : Option Addr} {n5 c5 : Nat} {L5 : List Value} {X : Nat} {x : Ev} {I : List Value} (h : TA w0 b0 w B p id sc fr eo st r1 n1 c1 L1 r2 n2 c2 L2 r3 n3 c3 L3 r4 n4 c4 L4 r5 n5 c5 L5 X x I) (k : Chg (rvB r2) w w') : w'.cell? ⟨p, 4, none⟩ = some (.slice r2 n2 c2) ∧ w'.frozen? ⟨p, 4, none⟩ = false := by
  have hb := h.o.blk.chg k (by obtain ⟨p1, p2, p3, p4, p5⟩ := h.o.pB; exact p2)
  exact ⟨hb.cell (i := 4) rfl, hb.free _⟩
theorem TA.keep3 {w0 : World} {b0 : List Nat} {w w' : World} {B p : Nat} {id sc fr : Int} {eo : Bool} {st : Int} {r1 : Option Addr} {n1 c1 : Nat} {L1 : List Value} {r2 : Option Addr} {n2 c2 : Nat} {L2 : List Value} {r3 : Option Addr} {n3 c3 : Nat} {L3 : List Value} {r4 : Option Addr} {n4 c4 : Nat} {L4 : List Value} {r5 : Option Addr} {n5 c5 : Nat} {L5 : List Value} {X : Nat} {x : Ev} {I : List Value} (h : TA w0 b0 w B p id sc fr eo st r1 n1 c1 L1 r2 n2 c2 L2 r3 n3 c3 L3 r4 n4 c4 L4 r5 n5 c5 L5 X x I) (k : Chg (rvB r3) w w') : w'.cell? ⟨p, 9, none⟩ = some (.slice r3 n3 c3) ∧ w'.frozen? ⟨p, 9, none⟩ = false := by
  have hb := h.o.blk.chg k (by obtain ⟨p1, p2, p3, p4, p5⟩ := h.o.pB; exact p3)
  exact ⟨hb.cell (i := 9) rfl, hb.free _⟩
theorem TA.keep4 {w0 : World} {b0 : List Nat} {w w' : World} {B p : Nat} {id sc fr : Int} {eo : Bool} {st : Int} {r1 : Option Addr} {n1 c1 : Nat} {L1 : List Value} {r2 : Option Addr} {n2 c2 : Nat} {L2 : List Value} {r3 : Option Addr} {n3 c3 : Nat} {L3 : List Value} {r4 : Option Addr} {n4 c4 : Nat} {L4 : List Value} {r5 : Option Addr} {n5 c5 : Nat} {L5 : List Value} {X : Nat} {x : Ev} {I : List Value} (h : TA w0 b0 w B p id sc fr eo st r1 n1 c1 L1 r2 n2 c2 L2 r3 n3 c3 L3 r4 n4 c4 L4 r5 n5 c5 L5 X x I) (k : Chg (rvB r4) w w') : w'.cell? ⟨p, 10, none⟩ = some (.slice r4 n4 c4) ∧ w'.frozen? ⟨p, 10, none⟩ = false := by
  have hb := h.o.blk.chg k (by obtain ⟨p1, p2, p3, p4, p5⟩ := h.o.pB; exact p4)
  exact ⟨hb.cell (i := 10) rfl, hb.free _⟩
theorem TA.keep5 {w0 : World} {b0 : List Nat} {w w' : World} {B p : Nat} {id sc fr : Int} {eo : Bool} {st : Int} {r1 : Option Addr} {n1 c1 : Nat} {L1 : List Value} {r2 : Option Addr} {n2 c2 : Nat} {L2 : List Value} {r3 : Option Addr} {n3 c3 : Nat} {L3 : List Value} {r4 : Option Addr} {n4 c4 : Nat} {L4 : List Value} {r5 : Option Addr} {n5 c5 : Nat} {L5 : List Value} {X : Nat} {x : Ev} {I : List Value} (h : TA w0 b0 w B p id sc fr eo st r1 n1 c1 L1 r2 n2 c2 L2 r3 n3 c3 L3 r4 n4 c4 L4 r5 n5 c5 L5 X x I) (k : Chg (rvB r5) w w') : w'.cell? ⟨p, 11, none⟩ = some (.slice r5 n5 c5) ∧ w'.frozen? ⟨p, 11, none⟩ = false := by
  have hb := h.o.blk.chg k (by obtain ⟨p1, p2, p3, p4, p5⟩ := h.o.pB; exact p5)
  exact ⟨hb.cell (i := 11) rfl, hb.free _⟩
theorem TA.cd {w0 : World} {b0 : List Nat} {w : World} {B p : Nat} {id sc fr : Int} {eo : Bool} {st : Int} {r1 : Option Addr} {n1 c1 : Nat} {L1 : List Value} {r2 : Option Addr} {n2 c2 : Nat} {L2 : List Value} {r3 : Option Addr} {n3 c3 : Nat} {L3 : List Value} {r4 : Option Addr} {n4 c4 : Nat} {L4 : List Value} {r5 : Option Addr} {n5 c5 : Nat} {L5 : List Value} {X : Nat} {x : Ev} {I : List Value} (h : TA w0 b0 w B p id sc fr eo st r1 n1 c1 L1 r2 n2 c2 L2 r3 n3 c3 L3 r4 n4 c4 L4 r5 n5 c5 L5 X x I) {i : Nat} {v : Value} (hi : [.int .i64 id, .int .i64 sc, .int .i64 fr, .slice r1 n1 c1, .slice r2 n2 c2, .string ⟨#[]⟩, .string ⟨#[]⟩, .bool eo, .int .i64 st, .slice r3 n3 c3, .slice r4 n4 c4, .slice r5 n5 c5][i]? = some v) : w.drew.cell? ⟨p, i, none⟩ = some v ∧ w.drew.frozen? ⟨p, i, none⟩ = false := ⟨h.o.blk.cell hi, h.o.blk.free i⟩
theorem TA.ca {w0 : World} {b0 : List Nat} {w : World} {B p : Nat} {id sc fr : Int} {eo : Bool} {st : Int} {r1 : Option Addr} {n1 c1 : Nat} {L1 : List Value} {r2 : Option Addr} {n2 c2 : Nat} {L2 : List Value} {r3 : Option Addr} {n3 c3 : Nat} {L3 : List Value} {r4 : Option Addr} {n4 c4 : Nat} {L4 : List Value} {r5 : Option Addr} {n5 c5 : Nat} {L5 : List Value} {X : Nat} {x : Ev} {I : List Value} (h : TA w0 b0 w B p id sc fr eo st r1 n1 c1 L1 r2 n2 c2 L2 r3 n3 c3 L3 r4 n4 c4 L4 r5 n5 c5 L5 X x I) (cs : Array Value) (T : TypeId) {i : Nat} {v : Value} (hi : [.int .i64 id, .int .i64 sc, .int .i64 fr, .slice r1 n1 c1, .slice r2 n2 c2, .string ⟨#[]⟩, .string ⟨#[]⟩, .bool eo, .int .i64 st, .slice r3 n3 c3, .slice r4 n4 c4, .slice r5 n5 c5][i]? = some v) : (w.alloc (.cells cs T)).cell? ⟨p, i, none⟩ = some v := (h.o.blk.alloc _).cell hi
theorem TA.evd {w0 : World} {b0 : List Nat} {w : World} {B p : Nat} {id sc fr : Int} {eo : Bool} {st : Int} {r1 : Option Addr} {n1 c1 : Nat} {L1 : List Value} {r2 : Option Addr} {n2 c2 : Nat} {L2 : List Value} {r3 : Option Addr} {n3 c3 : Nat} {L3 : List Value} {r4 : Option Addr} {n4 c4 : Nat} {L4 : List Value} {r5 : Option Addr} {n5 c5 : Nat} {L5 : List Value} {X : Nat} {x : Ev} {I : List Value} (h : TA w0 b0 w B p id sc fr eo st r1 n1 c1 L1 r2 n2 c2 L2 r3 n3 c3 L3 r4 n4 c4 L4 r5 n5 c5 L5 X x I) {i : Nat} {v : Value} (hi : x.c[i]? = some v) : w.drew.cell? ⟨X, i, none⟩ = some v := h.ev.cell hi
theorem TA.ind {w0 : World} {b0 : List Nat} {w : World} {B p : Nat} {id sc fr : Int} {eo : Bool} {st : Int} {r1 : Option Addr} {n1 c1 : Nat} {L1 : List Value} {r2 : Option Addr} {n2 c2 : Nat} {L2 : List Value} {r3 : Option Addr} {n3 c3 : Nat} {L3 : List Value} {r4 : Option Addr} {n4 c4 : Nat} {L4 : List Value} {r5 : Option Addr} {n5 c5 : Nat} {L5 : List Value} {X : Nat} {x : Ev} {I : List Value} (h : TA w0 b0 w B p id sc fr eo st r1 n1 c1 L1 r2 n2 c2 L2 r3 n3 c3 L3 r4 n4 c4 L4 r5 n5 c5 L5 X x I) {i : Nat} {v : Value} (hi : I[i]? = some v) : w.drew.cell? ⟨X + 1, i, none⟩ = some v := h.inp.cell hi
theorem TA.apart {w0 : World} {b0 : List Nat} {w : World} {B p : Nat} {id sc fr : Int} {eo : Bool} {st : Int} {r1 : Option Addr} {n1 c1 : Nat} {L1 : List Value} {r2 : Option Addr} {n2 c2 : Nat} {L2 : List Value} {r3 : Option Addr} {n3 c3 : Nat} {L3 : List Value} {r4 : Option Addr} {n4 c4 : Nat} {L4 : List Value} {r5 : Option Addr} {n5 c5 : Nat} {L5 : List Value} {X : Nat} {x : Ev} {I : List Value} (h : TA w0 b0 w B p id sc fr eo st r1 n1 c1 L1 r2 n2 c2 L2 r3 n3 c3 L3 r4 n4 c4 L4 r5 n5 c5 L5 X x I) : ¬ p = w.heap.size ∧ ¬ w.heap.size = p ∧ ¬ X = w.heap.size ∧ ¬ w.heap.size = X ∧ ¬ X + 1 = w.heap.size ∧ ¬ w.heap.size = X + 1 ∧ p < w.heap.size ∧ X < w.heap.size ∧ X + 1 < w.heap.size := by
  have h1 := h.o.blk.lt; have h2 := h.ev.lt; have h3 := h.inp.lt
  omega
end Go.Proofs.YtdchedkhlfmpeaaDoor
