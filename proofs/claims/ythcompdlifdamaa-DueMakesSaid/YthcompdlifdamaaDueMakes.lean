/- P21.1: for every ticks: the deadlines of any beginning, wait, rest and cut are as the page says. No condition. -/
import Derived.Test.YthcompdlifdamaaOpen
import Derived.WalkKit
import Derived.ProofKit
import Derived.OpenShut
import Derived.Test.YthcompdlifdamaaDueSame
import Derived.Test.YthcompdlifdamaaBlk
import Derived.Test.YthcompdlifdamaaClass
import Derived.Test.YthcompdlifdamaaStage
import Derived.Deep.CutRange
import Derived.Deep.CutBlock
import Derived.Deep.RegionHeld3
namespace Go.Proofs.Ythcompdlifdamaa.dueMakes
open Go.Joins Go.ChangeShapes Go.WideShapes Go.ChangeAt Go.RowKit Go.Deep
open Go.ChangeMaps (open_string)
set_option linter.unusedSimpArgs false
set_option linter.unusedVariables false

section
variable {H : Type} {enc : TypeId × Value → H} {P : Program} {w : World} {base : Nat} {spare : Nat → Bool} {held : Bool}
theorem open_flat5 {r : Reach} {b0 : Nat} {t : TypeId} {f0 f1 f2 f3 f4 : Field} {v : Value} {d : DataW H} {p : List MemPlace} (hs : P.underlying t = some (.struct #[f0, f1, f2, f3, f4])) (hone : oneCellFields P #[f0, f1, f2, f3, f4] = true) (hC : P.cellsOf t = 5)
    (hv : Value.okWide P w r b0 t v) (h : DataW.Trod enc P w base spare held t v d p) :
    ∃ (v0 v1 v2 v3 v4 : Value) (y0 y1 y2 y3 y4 : DataW H × List MemPlace) (n : Nat), v = .agg #[v0, v1, v2, v3, v4] ∧ d = .agg [y0.1, y1.1, y2.1, y3.1, y4.1] ∧ True ∧
      DataW.trod enc P w base spare held n f0.type [v0] = some y0 ∧ DataW.trod enc P w base spare held n f1.type [v1] = some y1 ∧ DataW.trod enc P w base spare held n f2.type [v2] = some y2 ∧ DataW.trod enc P w base spare held n f3.type [v3] = some y3 ∧ DataW.trod enc P w base spare held n f4.type [v4] = some y4 := by
  obtain ⟨cs, rfl, hsz⟩ := okWide_struct hs hv
  obtain ⟨l⟩ := cs
  match l, hsz.trans hC with
  | [c0, c1, c2, c3, c4], _ =>
    obtain ⟨fuel, hf⟩ := h
    obtain ⟨xs, n, _, hx, _, hlen, hg⟩ := DataW.trod_struct hs hf
    obtain ⟨o0, k0⟩ := hone_of hone 0 f0 rfl
    obtain ⟨o1, k1⟩ := hone_of hone 1 f1 rfl
    obtain ⟨o2, k2⟩ := hone_of hone 2 f2 rfl
    obtain ⟨o3, k3⟩ := hone_of hone 3 f3 rfl
    obtain ⟨o4, k4⟩ := hone_of hone 4 f4 rfl
    match xs, hlen with
    | [y0, y1, y2, y3, y4], _ =>
      simp only [Prod.mk.injEq] at hx
      exact ⟨c0, c1, c2, c3, c4, y0, y1, y2, y3, y4, n, rfl, by simpa using hx.1, trivial, by simpa [Value.cells, o0, k0] using hg 0 f0 rfl, by simpa [Value.cells, o1, k1] using hg 1 f1 rfl, by simpa [Value.cells, o2, k2] using hg 2 f2 rfl, by simpa [Value.cells, o3, k3] using hg 3 f3 rfl, by simpa [Value.cells, o4, k4] using hg 4 f4 rfl⟩
end
/-- Deadlines, the document's deadlines and the statement's argument in memory. -/
def DS (w0 w : World) (qc : List Value) (D X : Nat) (dc xc : List Value) : Prop :=
  Blk w w0.heap.size qc 23 ∧ Blk w D dc 25 ∧ Blk w X xc 27 ∧ Below w0.heap.size w0 w ∧ (w0.heap.size < D ∧ w0.heap.size < X ∧ D ≠ X)
theorem DS.fresh {w0 w w' : World} {qc : List Value} {D X : Nat} {dc xc : List Value} (s : DS w0 w qc D X dc xc) (k : Below w.heap.size w w') : DS w0 w' qc D X dc xc :=
  ⟨s.1.below k s.1.lt, s.2.1.below k s.2.1.lt, s.2.2.1.below k s.2.2.1.lt, s.2.2.2.1.trans (k.mono s.2.2.2.1.size), s.2.2.2.2⟩
theorem DS.drew {w0 w : World} {qc : List Value} {D X : Nat} {dc xc : List Value} (s : DS w0 w qc D X dc xc) : DS w0 w.drew qc D X dc xc := s.fresh (Below.refl _ _).drew
theorem DS.setD {w0 w : World} {qc : List Value} {D X : Nat} {x y z a b c : Value} {xc : List Value} (s : DS w0 w qc D X [x, y, z] xc) : DS w0 (((w.setCell ⟨D, 0, none⟩ a).setCell ⟨D, 1, none⟩ b).setCell ⟨D, 2, none⟩ c) qc D X [a, b, c] xc := by
  obtain ⟨s1, s2, s3, s4, s5⟩ := s
  exact ⟨((s1.other (by omega) _ _).other (by omega) _ _).other (by omega) _ _, ((s2.set 0 a).set 1 b).set 2 c, ((s3.other (by omega) _ _).other (by omega) _ _).other (by omega) _ _, ((s4.setCell (by simp; omega) _).setCell (by simp; omega) _).setCell (by simp; omega) _, s5⟩
theorem DS.setX {w0 w : World} {qc : List Value} {D X : Nat} {x y z a b c : Value} {dc : List Value} (s : DS w0 w qc D X dc [x, y, z]) : DS w0 (((w.setCell ⟨X, 0, none⟩ a).setCell ⟨X, 1, none⟩ b).setCell ⟨X, 2, none⟩ c) qc D X dc [a, b, c] := by
  obtain ⟨s1, s2, s3, s4, s5⟩ := s
  exact ⟨((s1.other (by omega) _ _).other (by omega) _ _).other (by omega) _ _, ((s2.other (by omega) _ _).other (by omega) _ _).other (by omega) _ _, ((s3.set 0 a).set 1 b).set 2 c, ((s4.setCell (by simp; omega) _).setCell (by simp; omega) _).setCell (by simp; omega) _, s5⟩
theorem DS.setX0 {w0 w : World} {qc : List Value} {D X : Nat} {x y z a : Value} {dc : List Value} (s : DS w0 w qc D X dc [x, y, z]) : DS w0 (w.setCell ⟨X, 0, none⟩ a) qc D X dc [a, y, z] := by
  obtain ⟨s1, s2, s3, s4, s5⟩ := s
  exact ⟨s1.other (by omega) _ _, s2.other (by omega) _ _, s3.set 0 a, s4.setCell (by simp; omega) _, s5⟩
/-- The same while the blocks are being made: which of them are there, and what they hold. -/
def ST0 (w0 w : World) (qc : List Value) (od ox : Option (Nat × List Value)) : Prop :=
  Blk w w0.heap.size qc 23 ∧ Below w0.heap.size w0 w ∧ (∀ d dc, od = some (d, dc) → Blk w d dc 25 ∧ w0.heap.size < d) ∧ (∀ x xc, ox = some (x, xc) → Blk w x xc 27 ∧ w0.heap.size < x) ∧ (∀ d dc x xc, od = some (d, dc) → ox = some (x, xc) → d ≠ x)
section
variable {w0 w w' : World} {qc : List Value} {od ox : Option (Nat × List Value)}
theorem ST0.call (s : ST0 w0 w qc od ox) (k : Below w.heap.size w w') : ST0 w0 w' qc od ox :=
  ⟨s.1.below k s.1.lt, s.2.1.trans (k.mono s.2.1.size), fun d dc h => ⟨(s.2.2.1 d dc h).1.below k (s.2.2.1 d dc h).1.lt, (s.2.2.1 d dc h).2⟩, fun x xc h => ⟨(s.2.2.2.1 x xc h).1.below k (s.2.2.2.1 x xc h).1.lt, (s.2.2.2.1 x xc h).2⟩, s.2.2.2.2⟩
theorem ST0.drew (s : ST0 w0 w qc od ox) : ST0 w0 w.drew qc od ox := s.call (Below.refl _ _).drew
theorem ST0.allocD (s : ST0 w0 w qc none ox) (a b c : Value) : ST0 w0 (w.alloc (.cells #[a, b, c] 25)) qc (some (w.heap.size, [a, b, c])) ox := by
  have k : Below w.heap.size w (w.alloc (.cells #[a, b, c] 25)) := (Below.refl _ _).alloc (Nat.le_refl _) _
  have h := s.call k
  have hq := s.1.lt
  refine ⟨h.1, h.2.1, fun d dc e => ?_, h.2.2.2.1, fun d dc x xc e f => ?_⟩
  · obtain ⟨rfl, rfl⟩ : w.heap.size = d ∧ [a, b, c] = dc := by simpa using e
    exact ⟨Blk.newA w _ _, hq⟩
  · obtain ⟨rfl, rfl⟩ : w.heap.size = d ∧ [a, b, c] = dc := by simpa using e
    have := (s.2.2.2.1 x xc f).1.lt; omega
theorem ST0.allocX (s : ST0 w0 w qc od none) (a b c : Value) : ST0 w0 (w.alloc (.cells #[a, b, c] 27)) qc od (some (w.heap.size, [a, b, c])) := by
  have k : Below w.heap.size w (w.alloc (.cells #[a, b, c] 27)) := (Below.refl _ _).alloc (Nat.le_refl _) _
  have h := s.call k
  have hq := s.1.lt
  refine ⟨h.1, h.2.1, h.2.2.1, fun x xc e => ?_, fun d dc x xc e f => ?_⟩
  · obtain ⟨rfl, rfl⟩ : w.heap.size = x ∧ [a, b, c] = xc := by simpa using e
    exact ⟨Blk.newA w _ _, hq⟩
  · obtain ⟨rfl, rfl⟩ : w.heap.size = x ∧ [a, b, c] = xc := by simpa using f
    have := (s.2.2.1 d dc e).1.lt; omega
theorem ST0.setD {d : Nat} {x y z : Value} (s : ST0 w0 w qc (some (d, [x, y, z])) ox) (a b c : Value) : ST0 w0 (((w.setCell ⟨d, 0, none⟩ a).setCell ⟨d, 1, none⟩ b).setCell ⟨d, 2, none⟩ c) qc (some (d, [a, b, c])) ox := by
  obtain ⟨h1, h2, h3, h4, h5⟩ := s
  obtain ⟨hd, hl⟩ := h3 d _ rfl
  refine ⟨((h1.other (by omega) _ _).other (by omega) _ _).other (by omega) _ _, ((h2.setCell (by simp; omega) _).setCell (by simp; omega) _).setCell (by simp; omega) _, fun d' dc e => ?_, fun x' xc e => ?_, fun d' dc x' xc e f => ?_⟩
  · obtain ⟨rfl, rfl⟩ : d = d' ∧ [a, b, c] = dc := by simpa using e
    exact ⟨((hd.set 0 a).set 1 b).set 2 c, hl⟩
  · have hne : x' ≠ d := fun q => h5 d _ x' xc rfl e q.symm
    exact ⟨(((h4 x' xc e).1.other hne _ _).other hne _ _).other hne _ _, (h4 x' xc e).2⟩
  · obtain ⟨rfl, rfl⟩ : d = d' ∧ [a, b, c] = dc := by simpa using e
    exact h5 d _ x' xc rfl f
theorem ST0.setX {d : Nat} {x y z : Value} (s : ST0 w0 w qc od (some (d, [x, y, z]))) (a b c : Value) : ST0 w0 (((w.setCell ⟨d, 0, none⟩ a).setCell ⟨d, 1, none⟩ b).setCell ⟨d, 2, none⟩ c) qc od (some (d, [a, b, c])) := by
  obtain ⟨h1, h2, h3, h4, h5⟩ := s
  obtain ⟨hd, hl⟩ := h4 d _ rfl
  refine ⟨((h1.other (by omega) _ _).other (by omega) _ _).other (by omega) _ _, ((h2.setCell (by simp; omega) _).setCell (by simp; omega) _).setCell (by simp; omega) _, fun x' xc e => ?_, fun d' dc e => ?_, fun x' xc d' dc e f => ?_⟩
  · have hne : x' ≠ d := fun q => h5 x' xc d _ e rfl q
    exact ⟨(((h3 x' xc e).1.other hne _ _).other hne _ _).other hne _ _, (h3 x' xc e).2⟩
  · obtain ⟨rfl, rfl⟩ : d = d' ∧ [a, b, c] = dc := by simpa using e
    exact ⟨((hd.set 0 a).set 1 b).set 2 c, hl⟩
  · obtain ⟨rfl, rfl⟩ : d = d' ∧ [a, b, c] = dc := by simpa using f
    exact h5 x' xc d _ e rfl
theorem ST0.done {d x : Nat} {dc xc : List Value} (s : ST0 w0 w qc (some (d, dc)) (some (x, xc))) : DS w0 w qc d x dc xc :=
  ⟨s.1, (s.2.2.1 d dc rfl).1, (s.2.2.2.1 x xc rfl).1, s.2.1, (s.2.2.1 d dc rfl).2, (s.2.2.2.1 x xc rfl).2, s.2.2.2.2 d dc x xc rfl rfl⟩
theorem ST0.q {q0 q1 : Value} {r : List Value} (s : ST0 w0 w qc od ox) (h : q0 :: q1 :: r = qc) : w.cell? ⟨w0.heap.size, 0, none⟩ = some q0 ∧ w.cell? ⟨w0.heap.size, 1, none⟩ = some q1 :=
  ⟨s.1.cell (i := 0) (by rw [← h]; rfl), s.1.cell (i := 1) (by rw [← h]; rfl)⟩
end
/-- .. as a structure, so that nothing unfolds it. -/
structure ST (w0 w : World) (qc : List Value) (od ox : Option (Nat × List Value)) : Prop where
  h : ST0 w0 w qc od ox
section
variable {w0 w w' : World} {qc : List Value} {od ox : Option (Nat × List Value)}
theorem ST.call (s : ST w0 w qc od ox) (k : Below w.heap.size w w') : ST w0 w' qc od ox := ⟨s.h.call k⟩
theorem ST.drew (s : ST w0 w qc od ox) : ST w0 w.drew qc od ox := ⟨s.h.drew⟩
theorem ST.allocD (s : ST w0 w qc none ox) (a b c : Value) : ST w0 (w.alloc (.cells #[a, b, c] 25)) qc (some (w.heap.size, [a, b, c])) ox := ⟨s.h.allocD a b c⟩
theorem ST.allocX (s : ST w0 w qc od none) (a b c : Value) : ST w0 (w.alloc (.cells #[a, b, c] 27)) qc od (some (w.heap.size, [a, b, c])) := ⟨s.h.allocX a b c⟩
theorem ST.setD {d : Nat} {x y z : Value} (s : ST w0 w qc (some (d, [x, y, z])) ox) (a b c : Value) : ST w0 (((w.setCell ⟨d, 0, none⟩ a).setCell ⟨d, 1, none⟩ b).setCell ⟨d, 2, none⟩ c) qc (some (d, [a, b, c])) ox := ⟨s.h.setD a b c⟩
theorem ST.setX {d : Nat} {x y z : Value} (s : ST w0 w qc od (some (d, [x, y, z]))) (a b c : Value) : ST w0 (((w.setCell ⟨d, 0, none⟩ a).setCell ⟨d, 1, none⟩ b).setCell ⟨d, 2, none⟩ c) qc od (some (d, [a, b, c])) := ⟨s.h.setX a b c⟩
theorem ST.done {d x : Nat} {dc xc : List Value} (s : ST w0 w qc (some (d, dc)) (some (x, xc))) : DS w0 w qc d x dc xc := s.h.done
theorem ST.q {q0 q1 : Value} {r : List Value} (s : ST w0 w qc od ox) (h : q0 :: q1 :: r = qc) : w.cell? ⟨w0.heap.size, 0, none⟩ = some q0 ∧ w.cell? ⟨w0.heap.size, 1, none⟩ = some q1 := s.h.q h
end
/-- Both as they were ahead of a region, or as they are behind it, by what has come up. -/
def CS (w0 : World) (qc : List Value) (D X : Nat) (d0 d1 x0 x1 : List Value) (i j : Nat) (L : Nat → Bool) (w : World) : Prop := DS w0 w qc D X (if L i = true then d1 else d0) (if L j = true then x1 else x0)
section
variable {w0 w w' : World} {qc : List Value} {D X : Nat} {d0 d1 x0 x1 : List Value} {i j k : Nat} {L : Nat → Bool}
theorem CS.other (s : CS w0 qc D X d0 d1 x0 x1 i j L w) (hi : i ≠ k) (hj : j ≠ k) : CS w0 qc D X d0 d1 x0 x1 i j (doneL L k) w := by
  unfold CS at *; rw [doneL_other L hi, doneL_other L hj]; exact s
theorem CS.fresh (s : CS w0 qc D X d0 d1 x0 x1 i j L w) (k : Below w.heap.size w w') : CS w0 qc D X d0 d1 x0 x1 i j L w' := DS.fresh s k
end
theorem begin_as (n d nv lm : Int) (hn : n ≤ 9223372036854775807) (hd : d ≤ 9223372036854775807) (h1 : 9223372036854775807 = nv) (h2 : Tk.add n d = lm) (w : World) : Calls Try.prog 5 #[.int .i64 n, .int .i64 d] w fun e w' => e = .returned (.agg #[.int .i64 nv, .int .i64 lm, .int .i64 nv]) ∧ Below w.heap.size w w' := by
  subst h1; subst h2; exact begin_any n d hn hd w
theorem rbegin_as (n d nv lm : Int) (hn : n ≤ 9223372036854775807) (hd : d ≤ 9223372036854775807) (h1 : 9223372036854775807 = nv) (h2 : Tk.add n d = lm) (w : World) : Calls Try.prog 6 #[.int .i64 n, .int .i64 d] w fun e w' => e = .returned (.agg #[.int .i64 nv, .int .i64 lm, .int .i64 nv]) ∧ Below w.heap.size w w' := by
  subst h1; subst h2; exact rbegin_any n d hn hd w
/-- Whoever waits for one that has not come up has not come up. -/
theorem not_yet {ops : Array Oper} {L : Nat → Bool} (hc : ClosedL ops L) (j i : Nat) (hj : (match ops[j]? with | some o => o.after.any (fun e => Region.binds .any e && e.on == i) | none => false) = true) (h : L i = false) : L j = false := by
  cases ho : ops[j]? with
  | none => rw [ho] at hj; cases hj
  | some o =>
    rw [ho] at hj
    simp only [Array.any_eq_true', Bool.and_eq_true, beq_iff_eq] at hj
    obtain ⟨e, he, hb, rfl⟩ := hj
    cases hl : L j with
    | false => rfl
    | true => rw [hc j o ho hl e he hb] at h; cases h
set_option maxRecDepth 20000 in
set_option maxHeartbeats 8000000 in

theorem walk (a0_From : Int) (a0_Last : Int) (a0_N : Int) (a0_At : Int) (a0_Now : Int) (w : World) (w0_From : (Lit.int .i64 a0_From).wf = true) (w0_Last : (Lit.int .i64 a0_Last).wf = true) (w0_N : (Lit.int .i64 a0_N).wf = true) (w0_At : (Lit.int .i64 a0_At).wf = true) (w0_Now : (Lit.int .i64 a0_Now).wf = true) :
    Calls Try.prog 3 #[.agg #[.int .i64 a0_From, .int .i64 a0_Last, .int .i64 a0_N, .int .i64 a0_At, .int .i64 a0_Now]] w fun e w' => e = .returned (.bool true) ∧ Below w.heap.size w w' := by
  have u0 : a0_From ≤ 9223372036854775807 := (bounds_i64 w0_From).2
  have u1 : a0_Last ≤ 9223372036854775807 := (bounds_i64 w0_Last).2
  have u2 : a0_N ≤ 9223372036854775807 := (bounds_i64 w0_N).2
  have u3 : a0_At ≤ 9223372036854775807 := (bounds_i64 w0_At).2
  have u4 : a0_Now ≤ 9223372036854775807 := (bounds_i64 w0_Now).2
  go_enter Try.func3, Try.ntmps3
  go_upto_region 1 with fail
  have hW : Hid (Blk (w.alloc (Obj.cells #[Value.int .i64 a0_From, .int .i64 a0_Last, .int .i64 a0_N, .int .i64 a0_At, .int .i64 a0_Now] 23)) w.heap.size (#[Value.int .i64 a0_From, .int .i64 a0_Last, .int .i64 a0_N, .int .i64 a0_At, .int .i64 a0_Now] : Array Value).toList 23 ∧ Below w.heap.size w (w.alloc (Obj.cells #[Value.int .i64 a0_From, .int .i64 a0_Last, .int .i64 a0_N, .int .i64 a0_At, .int .i64 a0_Now] 23))) := Lib.hid ⟨Blk.newA w _ _, (Below.refl _ _).alloc (Nat.le_refl _) _⟩
  revert hW
  generalize w.alloc (Obj.cells #[Value.int .i64 a0_From, .int .i64 a0_Last, .int .i64 a0_N, .int .i64 a0_At, .int .i64 a0_Now] 23) = W0
  intro hW
  obtain ⟨qc, hqc⟩ : ∃ qc, (#[Value.int .i64 a0_From, .int .i64 a0_Last, .int .i64 a0_N, .int .i64 a0_At, .int .i64 a0_Now] : Array Value).toList = qc := ⟨_, rfl⟩
  have HG := Lib.hid hqc
  rw [hqc] at hW
  clear hqc
  have lG : w.heap.size < W0.heap.size := hW.out.1.lt
  obtain ⟨nv, hnv⟩ : ∃ nv : Int, 9223372036854775807 = nv := ⟨_, rfl⟩
  have hnvle : nv ≤ 9223372036854775807 := by omega
  obtain ⟨lm, hlm⟩ : ∃ lm, Tk.add a0_From a0_Last = lm := ⟨_, rfl⟩
  have HNV := Lib.hid (And.intro hnv hlm)
  clear hnv hlm
  go_cut [3, 4] from 5 to 14 (fun s3 s4 wx => ∃ D X : Nat, s3 = .pointer (some ⟨D, 0, none⟩) ∧ s4 = .pointer (some ⟨X, 0, none⟩) ∧ Hid (DS w wx qc D X [.int .i64 nv, .int .i64 lm, .int .i64 nv] [.int .i64 nv, .int .i64 lm, .int .i64 nv]))
  case first =>
    have F0 : Hid (ST w W0 qc none none) := Lib.hid ⟨⟨hW.out.1, hW.out.2, (fun _ _ h => by cases h), (fun _ _ h => by cases h), (fun _ _ _ _ h => by cases h)⟩⟩
    have c0 := F0.out.drew.h.1.cell (i := 0) (v := .int .i64 a0_From) (by rw [← HG.out]; rfl)
    have c1 := F0.out.drew.h.1.cell (i := 1) (v := .int .i64 a0_Last) (by rw [← HG.out]; rfl)
    go_region_held3 (fun w' => w'.cell? ⟨w.heap.size, 0, none⟩ = some (.int .i64 a0_From) ∧ w'.cell? ⟨w.heap.size, 1, none⟩ = some (.int .i64 a0_Last)) (first | (with_reducible have j0 := F0.out.drew; with_reducible exact ST.q j0 HG.out) | (with_reducible have j0 := F0.out.allocD (.int .i64 0) (.int .i64 0) (.int .i64 0); with_reducible have j1 := j0.drew; with_reducible exact ST.q j1 HG.out) | (with_reducible have j0 := F0.out.allocX (.int .i64 0) (.int .i64 0) (.int .i64 0); with_reducible have j1 := j0.drew; with_reducible exact ST.q j1 HG.out) | (with_reducible have j0 := F0.out.allocD (.int .i64 0) (.int .i64 0) (.int .i64 0); with_reducible have j1 := j0.allocX (.int .i64 0) (.int .i64 0) (.int .i64 0); with_reducible have j2 := j1.drew; with_reducible exact ST.q j2 HG.out) | (with_reducible have j0 := F0.out.allocX (.int .i64 0) (.int .i64 0) (.int .i64 0); with_reducible have j1 := j0.allocD (.int .i64 0) (.int .i64 0) (.int .i64 0); with_reducible have j2 := j1.drew; with_reducible exact ST.q j2 HG.out) | (with_reducible have j0 := F0.out.allocD (.int .i64 0) (.int .i64 0) (.int .i64 0); with_reducible exact ST.q j0 HG.out) | (with_reducible have j0 := F0.out.allocX (.int .i64 0) (.int .i64 0) (.int .i64 0); with_reducible exact ST.q j0 HG.out) | (with_reducible have j0 := F0.out.allocD (.int .i64 0) (.int .i64 0) (.int .i64 0); with_reducible have j1 := j0.allocX (.int .i64 0) (.int .i64 0) (.int .i64 0); with_reducible exact ST.q j1 HG.out) | (with_reducible have j0 := F0.out.allocX (.int .i64 0) (.int .i64 0) (.int .i64 0); with_reducible have j1 := j0.allocD (.int .i64 0) (.int .i64 0) (.int .i64 0); with_reducible exact ST.q j1 HG.out) | (with_reducible exact ST.q F1.out HG.out) | (with_reducible have j0 := F1.out.allocD (.int .i64 0) (.int .i64 0) (.int .i64 0); with_reducible exact ST.q j0 HG.out) | (with_reducible have j0 := F1.out.allocX (.int .i64 0) (.int .i64 0) (.int .i64 0); with_reducible exact ST.q j0 HG.out) | (with_reducible have j0 := F1.out.allocD (.int .i64 0) (.int .i64 0) (.int .i64 0); with_reducible have j1 := j0.allocX (.int .i64 0) (.int .i64 0) (.int .i64 0); with_reducible exact ST.q j1 HG.out) | (with_reducible have j0 := F1.out.allocX (.int .i64 0) (.int .i64 0) (.int .i64 0); with_reducible have j1 := j0.allocD (.int .i64 0) (.int .i64 0) (.int .i64 0); with_reducible exact ST.q j1 HG.out) | (with_reducible exact ST.q F2.out HG.out) | (with_reducible have j0 := F2.out.allocD (.int .i64 0) (.int .i64 0) (.int .i64 0); with_reducible exact ST.q j0 HG.out) | (with_reducible have j0 := F2.out.allocX (.int .i64 0) (.int .i64 0) (.int .i64 0); with_reducible exact ST.q j0 HG.out) | (with_reducible have j0 := F2.out.allocD (.int .i64 0) (.int .i64 0) (.int .i64 0); with_reducible have j1 := j0.allocX (.int .i64 0) (.int .i64 0) (.int .i64 0); with_reducible exact ST.q j1 HG.out) | (with_reducible have j0 := F2.out.allocX (.int .i64 0) (.int .i64 0) (.int .i64 0); with_reducible have j1 := j0.allocD (.int .i64 0) (.int .i64 0) (.int .i64 0); with_reducible exact ST.q j1 HG.out) | (with_reducible have j0 := F2.out.setD (.int .i64 nv) (.int .i64 lm) (.int .i64 nv); with_reducible exact ST.q j0 HG.out) | (with_reducible have j0 := F2.out.setD (.int .i64 nv) (.int .i64 lm) (.int .i64 nv); with_reducible have j1 := j0.allocX (.int .i64 0) (.int .i64 0) (.int .i64 0); with_reducible exact ST.q j1 HG.out) | (with_reducible have j0 := F2.out.allocD (.int .i64 nv) (.int .i64 lm) (.int .i64 nv); with_reducible have j1 := j0.allocX (.int .i64 0) (.int .i64 0) (.int .i64 0); with_reducible exact ST.q j1 HG.out) | (with_reducible have j0 := F2.out.allocX (.int .i64 0) (.int .i64 0) (.int .i64 0); with_reducible have j1 := j0.allocD (.int .i64 nv) (.int .i64 lm) (.int .i64 nv); with_reducible exact ST.q j1 HG.out) | (with_reducible have j0 := F2.out.allocD (.int .i64 nv) (.int .i64 lm) (.int .i64 nv); with_reducible exact ST.q j0 HG.out) | (with_reducible have j0 := F2.out.setX (.int .i64 nv) (.int .i64 lm) (.int .i64 nv); with_reducible exact ST.q j0 HG.out) | (with_reducible have j0 := F2.out.setX (.int .i64 nv) (.int .i64 lm) (.int .i64 nv); with_reducible have j1 := j0.allocD (.int .i64 0) (.int .i64 0) (.int .i64 0); with_reducible exact ST.q j1 HG.out) | (with_reducible have j0 := F2.out.allocX (.int .i64 nv) (.int .i64 lm) (.int .i64 nv); with_reducible have j1 := j0.allocD (.int .i64 0) (.int .i64 0) (.int .i64 0); with_reducible exact ST.q j1 HG.out) | (with_reducible have j0 := F2.out.allocD (.int .i64 0) (.int .i64 0) (.int .i64 0); with_reducible have j1 := j0.allocX (.int .i64 nv) (.int .i64 lm) (.int .i64 nv); with_reducible exact ST.q j1 HG.out) | (with_reducible have j0 := F2.out.allocX (.int .i64 nv) (.int .i64 lm) (.int .i64 nv); with_reducible exact ST.q j0 HG.out) | (with_reducible have j0 := F2.out.setD (.int .i64 nv) (.int .i64 lm) (.int .i64 nv); with_reducible have j1 := j0.setX (.int .i64 nv) (.int .i64 lm) (.int .i64 nv); with_reducible exact ST.q j1 HG.out) | (with_reducible have j0 := F2.out.setX (.int .i64 nv) (.int .i64 lm) (.int .i64 nv); with_reducible have j1 := j0.setD (.int .i64 nv) (.int .i64 lm) (.int .i64 nv); with_reducible exact ST.q j1 HG.out) | (with_reducible have j0 := F2.out.setD (.int .i64 nv) (.int .i64 lm) (.int .i64 nv); with_reducible have j1 := j0.allocX (.int .i64 nv) (.int .i64 lm) (.int .i64 nv); with_reducible exact ST.q j1 HG.out) | (with_reducible have j0 := F2.out.setX (.int .i64 nv) (.int .i64 lm) (.int .i64 nv); with_reducible have j1 := j0.allocD (.int .i64 nv) (.int .i64 lm) (.int .i64 nv); with_reducible exact ST.q j1 HG.out) | (with_reducible have j0 := F2.out.allocD (.int .i64 nv) (.int .i64 lm) (.int .i64 nv); with_reducible have j1 := j0.allocX (.int .i64 nv) (.int .i64 lm) (.int .i64 nv); with_reducible exact ST.q j1 HG.out) | (with_reducible have j0 := F2.out.allocX (.int .i64 nv) (.int .i64 lm) (.int .i64 nv); with_reducible have j1 := j0.allocD (.int .i64 nv) (.int .i64 lm) (.int .i64 nv); with_reducible exact ST.q j1 HG.out)) (first
      | (go_at_call 5; refine (begin_as _ _ nv lm u0 u1 HNV.out.1 HNV.out.2 _).mono ?_; rintro e w1 ⟨rfl, k2⟩; (first | (with_reducible have j0 := F0.out.drew; with_reducible have F1 := Lib.hid (ST.call j0 k2); try clear j2; try clear j1; try clear j0) | (with_reducible have j0 := F0.out.allocD (.int .i64 0) (.int .i64 0) (.int .i64 0); with_reducible have j1 := j0.drew; with_reducible have F1 := Lib.hid (ST.call j1 k2); try clear j2; try clear j1; try clear j0) | (with_reducible have j0 := F0.out.allocX (.int .i64 0) (.int .i64 0) (.int .i64 0); with_reducible have j1 := j0.drew; with_reducible have F1 := Lib.hid (ST.call j1 k2); try clear j2; try clear j1; try clear j0) | (with_reducible have j0 := F0.out.allocD (.int .i64 0) (.int .i64 0) (.int .i64 0); with_reducible have j1 := j0.allocX (.int .i64 0) (.int .i64 0) (.int .i64 0); with_reducible have j2 := j1.drew; with_reducible have F1 := Lib.hid (ST.call j2 k2); try clear j2; try clear j1; try clear j0) | (with_reducible have j0 := F0.out.allocX (.int .i64 0) (.int .i64 0) (.int .i64 0); with_reducible have j1 := j0.allocD (.int .i64 0) (.int .i64 0) (.int .i64 0); with_reducible have j2 := j1.drew; with_reducible have F1 := Lib.hid (ST.call j2 k2); try clear j2; try clear j1; try clear j0)); (try simp only [World.size_alloc] at F1); clear k2)
      | (go_at_call 6; refine (rbegin_as _ _ nv lm u0 u1 HNV.out.1 HNV.out.2 _).mono ?_; rintro e w2 ⟨rfl, k2⟩; (first | (with_reducible have F2 := Lib.hid (ST.call F1.out k2); try clear j2; try clear j1; try clear j0) | (with_reducible have j0 := F1.out.allocD (.int .i64 0) (.int .i64 0) (.int .i64 0); with_reducible have F2 := Lib.hid (ST.call j0 k2); try clear j2; try clear j1; try clear j0) | (with_reducible have j0 := F1.out.allocX (.int .i64 0) (.int .i64 0) (.int .i64 0); with_reducible have F2 := Lib.hid (ST.call j0 k2); try clear j2; try clear j1; try clear j0) | (with_reducible have j0 := F1.out.allocD (.int .i64 0) (.int .i64 0) (.int .i64 0); with_reducible have j1 := j0.allocX (.int .i64 0) (.int .i64 0) (.int .i64 0); with_reducible have F2 := Lib.hid (ST.call j1 k2); try clear j2; try clear j1; try clear j0) | (with_reducible have j0 := F1.out.allocX (.int .i64 0) (.int .i64 0) (.int .i64 0); with_reducible have j1 := j0.allocD (.int .i64 0) (.int .i64 0) (.int .i64 0); with_reducible have F2 := Lib.hid (ST.call j1 k2); try clear j2; try clear j1; try clear j0)); (try simp only [World.size_alloc] at F2); (first | (have hD := F2.out.h.2.2.1 _ _ rfl; have x0 := hD.1.cell (i := 0) rfl; have x1 := hD.1.cell (i := 1) rfl; have x2 := hD.1.cell (i := 2) rfl; have y0 := hD.1.free 0; have y1 := hD.1.free 1; have y2 := hD.1.free 2; have lD := hD.1.lt; have nD := Nat.ne_of_lt lD; clear hD) | skip); (first | (have hX := F2.out.h.2.2.2.1 _ _ rfl; have z0 := hX.1.cell (i := 0) rfl; have z1 := hX.1.cell (i := 1) rfl; have z2 := hX.1.cell (i := 2) rfl; have v0 := hX.1.free 0; have v1 := hX.1.free 1; have v2 := hX.1.free 2; have lX := hX.1.lt; have nX := Nat.ne_of_lt lX; clear hX) | skip); (first | (have hDX := F2.out.h.2.2.2.2 _ _ _ _ rfl rfl; have hXD := Ne.symm hDX) | skip); (try simp only [World.size_alloc] at x0 x1 x2 y0 y1 y2 lD nD); (try simp only [World.size_alloc] at z0 z1 z2 v0 v1 v2 lX nX); (try simp only [World.size_alloc] at hDX hXD); clear k2))
    all_goals
      go_wp2_with fail
      go_meet
      first
        | (with_reducible have j0 := F2.out.setD (.int .i64 nv) (.int .i64 lm) (.int .i64 nv); with_reducible have j1 := j0.setX (.int .i64 nv) (.int .i64 lm) (.int .i64 nv); with_reducible have jj := Lib.hid (ST.done j1); (try simp only [World.size_alloc, World.size_setCell] at jj); with_reducible exact ⟨_, _, rfl, rfl, jj⟩)
        | (with_reducible have j0 := F2.out.setX (.int .i64 nv) (.int .i64 lm) (.int .i64 nv); with_reducible have j1 := j0.setD (.int .i64 nv) (.int .i64 lm) (.int .i64 nv); with_reducible have jj := Lib.hid (ST.done j1); (try simp only [World.size_alloc, World.size_setCell] at jj); with_reducible exact ⟨_, _, rfl, rfl, jj⟩)
        | (with_reducible have j0 := F2.out.setD (.int .i64 nv) (.int .i64 lm) (.int .i64 nv); with_reducible have j1 := j0.allocX (.int .i64 nv) (.int .i64 lm) (.int .i64 nv); with_reducible have jj := Lib.hid (ST.done j1); (try simp only [World.size_alloc, World.size_setCell] at jj); with_reducible exact ⟨_, _, rfl, rfl, jj⟩)
        | (with_reducible have j0 := F2.out.setX (.int .i64 nv) (.int .i64 lm) (.int .i64 nv); with_reducible have j1 := j0.allocD (.int .i64 nv) (.int .i64 lm) (.int .i64 nv); with_reducible have jj := Lib.hid (ST.done j1); (try simp only [World.size_alloc, World.size_setCell] at jj); with_reducible exact ⟨_, _, rfl, rfl, jj⟩)
        | (with_reducible have j0 := F2.out.allocD (.int .i64 nv) (.int .i64 lm) (.int .i64 nv); with_reducible have j1 := j0.allocX (.int .i64 nv) (.int .i64 lm) (.int .i64 nv); with_reducible have jj := Lib.hid (ST.done j1); (try simp only [World.size_alloc, World.size_setCell] at jj); with_reducible exact ⟨_, _, rfl, rfl, jj⟩)
        | (with_reducible have j0 := F2.out.allocX (.int .i64 nv) (.int .i64 lm) (.int .i64 nv); with_reducible have j1 := j0.allocD (.int .i64 nv) (.int .i64 lm) (.int .i64 nv); with_reducible have jj := Lib.hid (ST.done j1); (try simp only [World.size_alloc, World.size_setCell] at jj); with_reducible exact ⟨_, _, rfl, rfl, jj⟩)
  case rest =>
    obtain ⟨D, X, rfl, rfl, HS⟩ := hcut
    clear lG hW
    have d0 := HS.out.2.1.cell (i := 0) rfl
    have d1 := HS.out.2.1.cell (i := 1) rfl
    have d2 := HS.out.2.1.cell (i := 2) rfl
    have x0 := HS.out.2.2.1.cell (i := 0) rfl
    have x1 := HS.out.2.2.1.cell (i := 1) rfl
    have x2 := HS.out.2.2.1.cell (i := 2) rfl
    have hnn : Tk.add 0 9223372036854775807 = 9223372036854775807 := by decide
    go_upto_region 4 with (first
      | (go_at_call 7; refine (same_any _ _ _ _).mono ?_; rintro e w3 ⟨rfl, k3⟩; have HS2 := Lib.hid (HS.out.fresh k3); clear k3)
      | (go_at_call 8; refine (free_any _).mono ?_; rintro e w4 ⟨rfl, k3⟩; have HS3 := Lib.hid (HS2.out.fresh k3); clear k3)
      | (go_at_call 6; refine (rbegin_any _ _ (by omega) (by omega) _).mono ?_; rintro e w5 ⟨rfl, k3⟩; rw [hnn]; have HS4 := Lib.hid (HS3.out.fresh k3); clear k3)
      | (go_at_call 7; refine (same_any _ _ _ _).mono ?_; rintro e w6 ⟨rfl, k3⟩; have HS5 := Lib.hid (HS4.out.fresh k3); clear k3))
    clear d0 d1 d2 x0 x1 x2 hnn
    have hdx : ¬ D = X := HS5.out.2.2.2.2.2.2
    have hxd : ¬ X = D := fun e => hdx e.symm
    obtain ⟨wn, hwn⟩ : ∃ wn, Tk.add a0_Now a0_N = wn := ⟨_, rfl⟩
    have HWN := Lib.hid hwn
    clear hwn
    go_cut [] from 25 to 36 (fun wx => Hid (DS w wx qc D X [.int .i64 wn, .int .i64 lm, .int .i64 nv] [.int .i64 wn, .int .i64 lm, .int .i64 nv]))
    case first =>
      refine wp_region_stages (CS w qc D X [.int .i64 nv, .int .i64 lm, .int .i64 nv] [.int .i64 wn, .int .i64 lm, .int .i64 nv] [.int .i64 nv, .int .i64 lm, .int .i64 nv] [.int .i64 wn, .int .i64 lm, .int .i64 nv] 11 13) (by kernel_rfl) (by kernel_rfl) (by kernel_rfl) HS5.out.drew ?_
      refine wpSt_step (fun K hK => ?_)
      rw [if_pos (by simp [Region.wanted])]
      apply Exists.intro
      refine ⟨fun L wq hcl hL0 hpr hC => ?_, ?_⟩
      · have hC1 : DS w wq qc D X _ _ := hC
        rw [(not_yet hcl 11 5 (by kernel_rfl) (not_yet hcl 5 0 (by kernel_rfl) hL0))] at hC1
        simp only [Bool.false_eq_true, if_false] at hC1
        have e0 := hC1.2.1.cell (i := 0) rfl
        have e1 := hC1.2.1.cell (i := 1) rfl
        have e2 := hC1.2.1.cell (i := 2) rfl
        clear hC1
        go_simp
        exact upSt_value rfl (CS.other hC (by decide) (by decide))
      simp only [Act.put, List.setIfInBounds_toArray, List.set_cons_zero, List.set_cons_succ]
      refine hK _ ?_
      clear hK K
      refine wpSt_step (fun K hK => ?_)
      rw [if_pos (by simp [Region.wanted])]
      apply Exists.intro
      refine ⟨fun L wq hcl hL0 hpr hC => ?_, ?_⟩
      · go_simp
        exact upSt_value rfl (CS.other hC (by decide) (by decide))
      simp only [Act.put, List.setIfInBounds_toArray, List.set_cons_zero, List.set_cons_succ]
      refine hK _ ?_
      clear hK K
      refine wpSt_step (fun K hK => ?_)
      rw [if_pos (by simp [Region.wanted])]
      apply Exists.intro
      refine ⟨fun L wq hcl hL0 hpr hC => ?_, ?_⟩
      · have q4 : wq.cell? ⟨w.heap.size, 4, none⟩ = some (.int .i64 a0_Now) := hC.1.cell (i := 4) (by (rw [← HG.out]) <;> rfl)
        go_simp
        exact upSt_value rfl (CS.other hC (by decide) (by decide))
      simp only [Act.put, List.setIfInBounds_toArray, List.set_cons_zero, List.set_cons_succ]
      refine hK _ ?_
      clear hK K
      refine wpSt_step (fun K hK => ?_)
      rw [if_pos (by simp [Region.wanted])]
      apply Exists.intro
      refine ⟨fun L wq hcl hL0 hpr hC => ?_, ?_⟩
      · go_simp
        exact upSt_value rfl (CS.other hC (by decide) (by decide))
      simp only [Act.put, List.setIfInBounds_toArray, List.set_cons_zero, List.set_cons_succ]
      refine hK _ ?_
      clear hK K
      refine wpSt_step (fun K hK => ?_)
      rw [if_pos (by simp [Region.wanted])]
      apply Exists.intro
      refine ⟨fun L wq hcl hL0 hpr hC => ?_, ?_⟩
      · have q2 : wq.cell? ⟨w.heap.size, 2, none⟩ = some (.int .i64 a0_N) := hC.1.cell (i := 2) (by (rw [← HG.out]) <;> rfl)
        go_simp
        exact upSt_value rfl (CS.other hC (by decide) (by decide))
      simp only [Act.put, List.setIfInBounds_toArray, List.set_cons_zero, List.set_cons_succ]
      refine hK _ ?_
      clear hK K
      refine wpSt_step (fun K hK => ?_)
      rw [if_pos (by simp [Region.wanted])]
      apply Exists.intro
      refine ⟨fun L wq hcl hL0 hpr hC => ?_, ?_⟩
      · go_simp
        simp only [upSt]
        go_at_call 9
        refine (wait_any _ _ _ a0_Now a0_N u4 u2 _).mono ?_
        rintro e w7 ⟨he, k3⟩
        rw [HWN.out] at he; exact ⟨he, (CS.other hC (by decide) (by decide)).fresh k3⟩
      simp only [Act.put, List.setIfInBounds_toArray, List.set_cons_zero, List.set_cons_succ]
      refine hK _ ?_
      clear hK K
      refine wpSt_step (fun K hK => ?_)
      rw [if_pos (by simp [Region.wanted])]
      apply Exists.intro
      refine ⟨fun L wq hcl hL0 hpr hC => ?_, ?_⟩
      · go_simp
        exact upSt_value rfl (CS.other hC (by decide) (by decide))
      simp only [Act.put, List.setIfInBounds_toArray, List.set_cons_zero, List.set_cons_succ]
      refine hK _ ?_
      clear hK K
      refine wpSt_step (fun K hK => ?_)
      rw [if_pos (by simp [Region.wanted])]
      apply Exists.intro
      refine ⟨fun L wq hcl hL0 hpr hC => ?_, ?_⟩
      · have q4 : wq.cell? ⟨w.heap.size, 4, none⟩ = some (.int .i64 a0_Now) := hC.1.cell (i := 4) (by (rw [← HG.out]) <;> rfl)
        go_simp
        exact upSt_value rfl (CS.other hC (by decide) (by decide))
      simp only [Act.put, List.setIfInBounds_toArray, List.set_cons_zero, List.set_cons_succ]
      refine hK _ ?_
      clear hK K
      refine wpSt_step (fun K hK => ?_)
      rw [if_pos (by simp [Region.wanted])]
      apply Exists.intro
      refine ⟨fun L wq hcl hL0 hpr hC => ?_, ?_⟩
      · go_simp
        exact upSt_value rfl (CS.other hC (by decide) (by decide))
      simp only [Act.put, List.setIfInBounds_toArray, List.set_cons_zero, List.set_cons_succ]
      refine hK _ ?_
      clear hK K
      refine wpSt_step (fun K hK => ?_)
      rw [if_pos (by simp [Region.wanted])]
      apply Exists.intro
      refine ⟨fun L wq hcl hL0 hpr hC => ?_, ?_⟩
      · have q2 : wq.cell? ⟨w.heap.size, 2, none⟩ = some (.int .i64 a0_N) := hC.1.cell (i := 2) (by (rw [← HG.out]) <;> rfl)
        go_simp
        exact upSt_value rfl (CS.other hC (by decide) (by decide))
      simp only [Act.put, List.setIfInBounds_toArray, List.set_cons_zero, List.set_cons_succ]
      refine hK _ ?_
      clear hK K
      refine wpSt_step (fun K hK => ?_)
      rw [if_pos (by simp [Region.wanted])]
      apply Exists.intro
      refine ⟨fun L wq hcl hL0 hpr hC => ?_, ?_⟩
      · go_simp
        simp only [upSt]
        go_at_call 10
        refine (behind_any a0_Now a0_N u4 u2 _).mono ?_
        rintro e w7 ⟨he, rfl⟩
        rw [HWN.out] at he; exact ⟨he, (CS.other hC (by decide) (by decide))⟩
      simp only [Act.put, List.setIfInBounds_toArray, List.set_cons_zero, List.set_cons_succ]
      refine hK _ ?_
      clear hK K
      refine wpSt_step (fun K hK => ?_)
      rw [if_pos (by simp [Region.wanted])]
      apply Exists.intro
      refine ⟨fun L wq hcl hL0 hpr hC => ?_, ?_⟩
      · have hC1 : DS w wq qc D X _ _ := hC
        rw [hL0] at hC1
        simp only [Bool.false_eq_true, if_false] at hC1
        have e0 := hC1.2.1.cell (i := 0) rfl
        have f0 := hC1.2.1.free 0
        have e1 := hC1.2.1.cell (i := 1) rfl
        have f1 := hC1.2.1.free 1
        have e2 := hC1.2.1.cell (i := 2) rfl
        have f2 := hC1.2.1.free 2
        have HC1 := Lib.hid hC1
        clear hC1 hC
        go_simp
        refine upSt_skip ?_
        unfold CS
        rw [doneL_same, doneL_other L (by decide), if_pos rfl]
        exact HC1.out.setD
      simp only [Act.put, List.setIfInBounds_toArray, List.set_cons_zero, List.set_cons_succ]
      refine hK _ ?_
      clear hK K
      refine wpSt_step (fun K hK => ?_)
      rw [if_pos (by simp [Region.wanted])]
      apply Exists.intro
      refine ⟨fun L wq hcl hL0 hpr hC => ?_, ?_⟩
      · go_simp
        exact upSt_value rfl (CS.other hC (by decide) (by decide))
      simp only [Act.put, List.setIfInBounds_toArray, List.set_cons_zero, List.set_cons_succ]
      refine hK _ ?_
      clear hK K
      refine wpSt_step (fun K hK => ?_)
      rw [if_pos (by simp [Region.wanted])]
      apply Exists.intro
      refine ⟨fun L wq hcl hL0 hpr hC => ?_, ?_⟩
      · have hC1 : DS w wq qc D X _ _ := hC
        rw [hL0] at hC1
        simp only [Bool.false_eq_true, if_false] at hC1
        have e0 := hC1.2.2.1.cell (i := 0) rfl
        have f0 := hC1.2.2.1.free 0
        have HC1 := Lib.hid hC1
        clear hC1 hC
        go_simp
        refine upSt_skip ?_
        unfold CS
        rw [doneL_same, doneL_other L (by decide), if_pos rfl]
        exact HC1.out.setX0
      simp only [Act.put, List.setIfInBounds_toArray, List.set_cons_zero, List.set_cons_succ]
      refine hK _ ?_
      clear hK K
      refine wpSt_nil ?_
      intro w7 hw7
      have HS7 : Hid (DS w w7 qc D X [.int .i64 wn, .int .i64 lm, .int .i64 nv] [.int .i64 wn, .int .i64 lm, .int .i64 nv]) := Lib.hid hw7
      go_wp2_with fail
      go_meet
      exact HS7
    case rest =>
      clear HS HS2 HS3 HS4 HS5
      have HS7 := hcut
      clear hcut
      obtain ⟨cl, hcl⟩ : ∃ cl, Tk.least [nv, a0_At] = cl := ⟨_, rfl⟩
      have HCL := Lib.hid hcl
      have hclb : Tk.least [nv, a0_At] ≤ 9223372036854775807 := by
        have e : Tk.least [nv, a0_At] = Tk.minI (Tk.minI 9223372036854775807 (Tk.own nv)) (Tk.own a0_At) := rfl
        rw [e]; unfold Tk.minI; omega
      rw [hcl] at hclb
      clear hcl
      have d0 := HS7.out.2.1.cell (i := 0) rfl
      have d1 := HS7.out.2.1.cell (i := 1) rfl
      have d2 := HS7.out.2.1.cell (i := 2) rfl
      have x0 := HS7.out.2.2.1.cell (i := 0) rfl
      have x1 := HS7.out.2.2.1.cell (i := 1) rfl
      have x2 := HS7.out.2.2.1.cell (i := 2) rfl
      go_upto_region 7 with (go_at_call 7; refine (same_any _ _ _ _).mono ?_; rintro e w8 ⟨rfl, k3⟩; have HS8 := Lib.hid (HS7.out.fresh k3); clear k3)
      clear d0 d1 d2 x0 x1 x2
      go_cut [] from 41 to 48 (fun wx => Hid (DS w wx qc D X [.int .i64 wn, .int .i64 lm, .int .i64 cl] [.int .i64 wn, .int .i64 lm, .int .i64 cl]))
      case first =>
        refine wp_region_stages (CS w qc D X [.int .i64 wn, .int .i64 lm, .int .i64 nv] [.int .i64 wn, .int .i64 lm, .int .i64 cl] [.int .i64 wn, .int .i64 lm, .int .i64 nv] [.int .i64 wn, .int .i64 lm, .int .i64 cl] 8 9) (by kernel_rfl) (by kernel_rfl) (by kernel_rfl) HS8.out.drew ?_
        refine wpSt_step (fun K hK => ?_)
        rw [if_pos (by simp [Region.wanted])]
        apply Exists.intro
        refine ⟨fun L wq hcl hL0 hpr hC => ?_, ?_⟩
        · have hC1 : DS w wq qc D X _ _ := hC
          rw [(not_yet hcl 8 3 (by kernel_rfl) (not_yet hcl 3 0 (by kernel_rfl) hL0))] at hC1
          simp only [Bool.false_eq_true, if_false] at hC1
          have e0 := hC1.2.1.cell (i := 0) rfl
          have e1 := hC1.2.1.cell (i := 1) rfl
          have e2 := hC1.2.1.cell (i := 2) rfl
          clear hC1
          go_simp
          exact upSt_value rfl (CS.other hC (by decide) (by decide))
        simp only [Act.put, List.setIfInBounds_toArray, List.set_cons_zero, List.set_cons_succ]
        refine hK _ ?_
        clear hK K
        refine wpSt_step (fun K hK => ?_)
        rw [if_pos (by simp [Region.wanted])]
        apply Exists.intro
        refine ⟨fun L wq hcl hL0 hpr hC => ?_, ?_⟩
        · go_simp
          exact upSt_value rfl (CS.other hC (by decide) (by decide))
        simp only [Act.put, List.setIfInBounds_toArray, List.set_cons_zero, List.set_cons_succ]
        refine hK _ ?_
        clear hK K
        refine wpSt_step (fun K hK => ?_)
        rw [if_pos (by simp [Region.wanted])]
        apply Exists.intro
        refine ⟨fun L wq hcl hL0 hpr hC => ?_, ?_⟩
        · have q3 : wq.cell? ⟨w.heap.size, 3, none⟩ = some (.int .i64 a0_At) := hC.1.cell (i := 3) (by (rw [← HG.out]) <;> rfl)
          go_simp
          exact upSt_value rfl (CS.other hC (by decide) (by decide))
        simp only [Act.put, List.setIfInBounds_toArray, List.set_cons_zero, List.set_cons_succ]
        refine hK _ ?_
        clear hK K
        refine wpSt_step (fun K hK => ?_)
        rw [if_pos (by simp [Region.wanted])]
        apply Exists.intro
        refine ⟨fun L wq hcl hL0 hpr hC => ?_, ?_⟩
        · go_simp
          simp only [upSt]
          go_at_call 11
          refine (cuts_any _ _ _ _ hnvle u3 _).mono ?_
          rintro e w7 ⟨he, k3⟩
          rw [HCL.out] at he; exact ⟨he, (CS.other hC (by decide) (by decide)).fresh k3⟩
        simp only [Act.put, List.setIfInBounds_toArray, List.set_cons_zero, List.set_cons_succ]
        refine hK _ ?_
        clear hK K
        refine wpSt_step (fun K hK => ?_)
        rw [if_pos (by simp [Region.wanted])]
        apply Exists.intro
        refine ⟨fun L wq hcl hL0 hpr hC => ?_, ?_⟩
        · have hC1 : DS w wq qc D X _ _ := hC
          rw [(not_yet hcl 9 7 (by kernel_rfl) (not_yet hcl 7 4 (by kernel_rfl) hL0))] at hC1
          simp only [Bool.false_eq_true, if_false] at hC1
          have e0 := hC1.2.2.1.cell (i := 0) rfl
          have e1 := hC1.2.2.1.cell (i := 1) rfl
          have e2 := hC1.2.2.1.cell (i := 2) rfl
          clear hC1
          go_simp
          exact upSt_value rfl (CS.other hC (by decide) (by decide))
        simp only [Act.put, List.setIfInBounds_toArray, List.set_cons_zero, List.set_cons_succ]
        refine hK _ ?_
        clear hK K
        refine wpSt_step (fun K hK => ?_)
        rw [if_pos (by simp [Region.wanted])]
        apply Exists.intro
        refine ⟨fun L wq hcl hL0 hpr hC => ?_, ?_⟩
        · go_simp
          exact upSt_value rfl (CS.other hC (by decide) (by decide))
        simp only [Act.put, List.setIfInBounds_toArray, List.set_cons_zero, List.set_cons_succ]
        refine hK _ ?_
        clear hK K
        refine wpSt_step (fun K hK => ?_)
        rw [if_pos (by simp [Region.wanted])]
        apply Exists.intro
        refine ⟨fun L wq hcl hL0 hpr hC => ?_, ?_⟩
        · have q3 : wq.cell? ⟨w.heap.size, 3, none⟩ = some (.int .i64 a0_At) := hC.1.cell (i := 3) (by (rw [← HG.out]) <;> rfl)
          go_simp
          exact upSt_value rfl (CS.other hC (by decide) (by decide))
        simp only [Act.put, List.setIfInBounds_toArray, List.set_cons_zero, List.set_cons_succ]
        refine hK _ ?_
        clear hK K
        refine wpSt_step (fun K hK => ?_)
        rw [if_pos (by simp [Region.wanted])]
        apply Exists.intro
        refine ⟨fun L wq hcl hL0 hpr hC => ?_, ?_⟩
        · go_simp
          simp only [upSt]
          go_at_call 12
          refine (rcuts_any _ _ _ _ hnvle u3 _).mono ?_
          rintro e w7 ⟨he, k3⟩
          rw [HCL.out] at he; exact ⟨he, (CS.other hC (by decide) (by decide)).fresh k3⟩
        simp only [Act.put, List.setIfInBounds_toArray, List.set_cons_zero, List.set_cons_succ]
        refine hK _ ?_
        clear hK K
        refine wpSt_step (fun K hK => ?_)
        rw [if_pos (by simp [Region.wanted])]
        apply Exists.intro
        refine ⟨fun L wq hcl hL0 hpr hC => ?_, ?_⟩
        · have hC1 : DS w wq qc D X _ _ := hC
          rw [hL0] at hC1
          simp only [Bool.false_eq_true, if_false] at hC1
          have e0 := hC1.2.1.cell (i := 0) rfl
          have f0 := hC1.2.1.free 0
          have e1 := hC1.2.1.cell (i := 1) rfl
          have f1 := hC1.2.1.free 1
          have e2 := hC1.2.1.cell (i := 2) rfl
          have f2 := hC1.2.1.free 2
          have HC1 := Lib.hid hC1
          clear hC1 hC
          go_simp
          refine upSt_skip ?_
          unfold CS
          rw [doneL_same, doneL_other L (by decide), if_pos rfl]
          exact HC1.out.setD
        simp only [Act.put, List.setIfInBounds_toArray, List.set_cons_zero, List.set_cons_succ]
        refine hK _ ?_
        clear hK K
        refine wpSt_step (fun K hK => ?_)
        rw [if_pos (by simp [Region.wanted])]
        apply Exists.intro
        refine ⟨fun L wq hcl hL0 hpr hC => ?_, ?_⟩
        · have hC1 : DS w wq qc D X _ _ := hC
          rw [hL0] at hC1
          simp only [Bool.false_eq_true, if_false] at hC1
          have e0 := hC1.2.2.1.cell (i := 0) rfl
          have f0 := hC1.2.2.1.free 0
          have e1 := hC1.2.2.1.cell (i := 1) rfl
          have f1 := hC1.2.2.1.free 1
          have e2 := hC1.2.2.1.cell (i := 2) rfl
          have f2 := hC1.2.2.1.free 2
          have HC1 := Lib.hid hC1
          clear hC1 hC
          go_simp
          refine upSt_skip ?_
          unfold CS
          rw [doneL_same, doneL_other L (by decide), if_pos rfl]
          exact HC1.out.setX
        simp only [Act.put, List.setIfInBounds_toArray, List.set_cons_zero, List.set_cons_succ]
        refine hK _ ?_
        clear hK K
        refine wpSt_nil ?_
        intro w9 hw9
        have HS9 : Hid (DS w w9 qc D X [.int .i64 wn, .int .i64 lm, .int .i64 cl] [.int .i64 wn, .int .i64 lm, .int .i64 cl]) := Lib.hid hw9
        go_wp2_with fail
        go_meet
        exact HS9
      case rest =>
        have HS9 := hcut
        clear hcut HS7 HS8
        obtain ⟨c2, hc2⟩ : ∃ c2, Tk.least [cl, a0_Now] = c2 := ⟨_, rfl⟩
        have HC2 := Lib.hid hc2
        clear hc2
        go_upto_region 8 with fail
        refine wp_region_class (fun w' => DS w w' qc D X [.int .i64 wn, .int .i64 lm, .int .i64 cl] [.int .i64 wn, .int .i64 lm, .int .i64 cl]) (by kernel_rfl) (by kernel_rfl) HS9.out.drew ?_
        repeat (first
          | go_big_quiet_skip
          | (go_big_quiet_want
             unfold Oper.quiet
             apply Exists.intro
             refine ⟨fun wq hwq => ?_, ?_⟩
             · (have HQ := Lib.hid hwq
                have d0 := HQ.out.2.1.cell (i := 0) rfl
                have d1 := HQ.out.2.1.cell (i := 1) rfl
                have d2 := HQ.out.2.1.cell (i := 2) rfl
                have x0 := HQ.out.2.2.1.cell (i := 0) rfl
                have x1 := HQ.out.2.2.1.cell (i := 1) rfl
                have x2 := HQ.out.2.2.1.cell (i := 2) rfl
                have q4 : wq.cell? ⟨w.heap.size, 4, none⟩ = some (.int .i64 a0_Now) := HQ.out.1.cell (i := 4) (by (rw [← HG.out]) <;> rfl)
                clear hwq
                unfold Oper.quietAt
                go_simp
                first
                  | exact ⟨rfl, rfl⟩
                  | exact rfl
                  | (go_at_call 7; refine (same_any _ _ _ _).mono ?_; rintro e w13 ⟨he, hb2⟩; exact ⟨he, HQ.out.fresh hb2⟩)
                  | (go_at_call 11; refine (cuts_any _ _ _ _ hclb u4 _).mono ?_; rintro e w13 ⟨he, hb2⟩; rw [HC2.out] at he; exact ⟨he, HQ.out.fresh hb2⟩)
                  | (go_at_call 12; refine (rcuts_any _ _ _ _ hclb u4 _).mono ?_; rintro e w13 ⟨he, hb2⟩; rw [HC2.out] at he; exact ⟨he, HQ.out.fresh hb2⟩))
             simp only [Act.put, List.setIfInBounds_toArray, List.set_cons_zero, List.set_cons_succ]
             go_big_quiet_on))
        refine wpQuiet_nil ?_
        intro w10 hw10
        have HS10 : Hid (DS w w10 qc D X [.int .i64 wn, .int .i64 lm, .int .i64 cl] [.int .i64 wn, .int .i64 lm, .int .i64 cl]) := Lib.hid hw10
        clear hw10
        have x0 := HS10.out.2.2.1.cell (i := 0) rfl
        have y0 := HS10.out.2.2.1.free 0
        go_upto_region 11 with fail
        have HS11 : Hid (DS w (w10.setCell ⟨X, 0, none⟩ (.int .i64 9223372036854775807)) qc D X [.int .i64 wn, .int .i64 lm, .int .i64 cl] [.int .i64 9223372036854775807, .int .i64 lm, .int .i64 cl]) := Lib.hid HS10.out.setX0
        clear x0 y0
        revert HS11
        generalize w10.setCell ⟨X, 0, none⟩ (.int .i64 9223372036854775807) = w11
        intro HS11
        refine wp_region_class (fun w' => DS w w' qc D X [.int .i64 wn, .int .i64 lm, .int .i64 cl] [.int .i64 9223372036854775807, .int .i64 lm, .int .i64 cl]) (by kernel_rfl) (by kernel_rfl) HS11.out.drew ?_
        repeat (first
          | go_big_quiet_skip
          | (go_big_quiet_want
             unfold Oper.quiet
             apply Exists.intro
             refine ⟨fun wq hwq => ?_, ?_⟩
             · (have HQ := Lib.hid hwq
                have d0 := HQ.out.2.1.cell (i := 0) rfl
                have d1 := HQ.out.2.1.cell (i := 1) rfl
                have d2 := HQ.out.2.1.cell (i := 2) rfl
                have x0 := HQ.out.2.2.1.cell (i := 0) rfl
                have x1 := HQ.out.2.2.1.cell (i := 1) rfl
                have x2 := HQ.out.2.2.1.cell (i := 2) rfl
                have q4 : wq.cell? ⟨w.heap.size, 4, none⟩ = some (.int .i64 a0_Now) := HQ.out.1.cell (i := 4) (by (rw [← HG.out]) <;> rfl)
                clear hwq
                unfold Oper.quietAt
                go_simp
                first
                  | exact ⟨rfl, rfl⟩
                  | exact rfl
                  | (go_at_call 7; refine (same_any _ _ _ _).mono ?_; rintro e w13 ⟨he, hb2⟩; exact ⟨he, HQ.out.fresh hb2⟩)
                  | (go_at_call 13; refine (rest_any _ _ _ _).mono ?_; rintro e w13 ⟨he, hb2⟩; exact ⟨he, HQ.out.fresh hb2⟩)
                  | (go_at_call 14; refine (lives_any _).mono ?_; rintro e w13 ⟨he, hb2⟩; exact ⟨he, HQ.out.fresh hb2⟩))
             simp only [Act.put, List.setIfInBounds_toArray, List.set_cons_zero, List.set_cons_succ]
             go_big_quiet_on))
        refine wpQuiet_nil ?_
        intro w12 hw12
        have HB : Hid (Below w.heap.size w w12) := Lib.hid hw12.2.2.2.1
        clear hw12
        go_wp2_with fail
        go_ret
        exact ⟨rfl, HB.out⟩

set_option maxRecDepth 100000 in
theorem lifted (os : Os) (started : os.Started) (H : Type) (enc : TypeId × Value → H) :
    ReturnsInHanded {} Try.checked os 3 .any (Rows.dueMakesSpec.pre6 enc Try.prog Try.f3 Rows.dueMakesRow.domain false) (Rows.dueMakesSpec.post enc Try.prog Try.f3 false true false false) := by
  refine returnsInHanded_of_change (C := Try.checked) ownKn started (by kernel_rfl) Try.func3
    (ChangeSpec.witness6 (enc := enc) (C := Try.checked) false ⟨#[], #[.agg #[.int .i64 0, .int .i64 0, .int .i64 0, .int .i64 0, .int .i64 0]], []⟩ 8 (by kernel_rfl) (by kernel_rfl) (by kernel_rfl) (by kernel_rfl)) ?_
  intro W base args ds gs before hval0 hW hcnd _
  have hval : ∀ (j : Nat) t v, Try.f3.params[j]? = some t → args[j]? = some v → Value.okWide Try.prog W .any base t v := hval0
  have hW' := hW
  obtain ⟨p, q, hA0, hV, rfl, hfz, hnd⟩ := hW
  have hA : DataW.TrodAll enc Try.prog W 0 (fun _ => true) true Try.f3.params.toList args.toList ds p := hA0
  rw [Try.params3] at hA hval
  obtain ⟨v0, vs0, d0, ds0, p0, q0, hargs, rfl, rfl, h0, r0⟩ := trodAll_cons hA
  obtain ⟨rfl, rfl, rfl⟩ := trodAll_nil r0
  obtain rfl : args = #[v0] := by cases args; simp_all
  obtain ⟨rfl, rfl⟩ := trodVars_none hV
  have k0 := h0
  have lt0 : ∀ x ∈ p0, x.block < W.heap.size := by obtain ⟨m, hm⟩ := k0; exact DataW.trod_lt m _ _ _ hm
  obtain ⟨u0_0, u0_1, u0_2, u0_3, u0_4, y0_0, y0_1, y0_2, y0_3, y0_4, nn0, rfl, _, _, g0_0, g0_1, g0_2, g0_3, g0_4⟩ := open_flat5 Try.underlying23 (by kernel_rfl) (by kernel_rfl) (hval 0 23 v0 rfl rfl) h0
  obtain ⟨a0_From, rfl, w0_From⟩ := fld_int Try.underlying2 g0_0
  obtain ⟨a0_Last, rfl, w0_Last⟩ := fld_int Try.underlying2 g0_1
  obtain ⟨a0_N, rfl, w0_N⟩ := fld_int Try.underlying2 g0_2
  obtain ⟨a0_At, rfl, w0_At⟩ := fld_int Try.underlying2 g0_3
  obtain ⟨a0_Now, rfl, w0_Now⟩ := fld_int Try.underlying2 g0_4
  clear hA0 hval0
  refine (walk a0_From a0_Last a0_N a0_At a0_Now W w0_From w0_Last w0_N w0_At w0_Now).mono fun e W' ⟨he, bel⟩ => ?_
  subst he
  exact ⟨_, rfl, _, _, _, [], _, [], hW', trodAll_mk1 (shut_bool Try.underlying4 _), (trodAll_cons_mk (Below.trod laidOut (by kernel_rfl) (of_decide_eq_true (by kernel_rfl)) k0 bel lt0) trodAll_mk0), rfl, bel.frame _, fun h => by cases h⟩

theorem over : Rows.dueMakesRow.holds Try.pinned (OpenSpec.ofChange Rows.dueMakesSpec) :=
  OpenClaim.holds_of_wide 3 Try.f3 rfl rfl rfl rfl rfl rfl rfl ⟨rfl, rfl, rfl, rfl, rfl⟩ rfl rfl rfl rfl rfl (by kernel_rfl) Try.func3 (by kernel_rfl)
    (of_decide_eq_true (by kernel_rfl)) (by unfold Func.isWrapper; first | (rw [if_pos (by decide +kernel)]; kernel_rfl) | (rw [if_neg (by decide +kernel)]; exact ⟨rfl, rfl⟩))
    (fun os started H enc _ => lifted os started H enc)

/-- The statement. -/
theorem proved : Rows.DueMakesSaid := over
#print axioms proved
end Go.Proofs.Ythcompdlifdamaa.dueMakes
