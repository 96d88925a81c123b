/- Events: somewhat cut. -/
import Derived.Test.YtfhhkmjjifbfeaaDoorEv1
import Derived.Test.YtfhhkmjjifbfeaaDoorRnStep
import Derived.Test.YtfhhkmjjifbfeaaDoorClass
import Derived.WalkKit
import Derived.ProofKit
import Derived.Handy
import Derived.WalkLawsBesides
import Derived.WalkSpells
import Derived.Lib.Hide
import Derived.Lib.SliceRun
import Derived.Deep.RegionLaw
import Derived.RegionTactic
import Derived.ChangeAlike
import Derived.WalkSmall
import Derived.Deep.QuietTactic
import Derived.BigQuiet
import Derived.OwnWalk
import Derived.Outline
import Derived.Deep.CutRange
import Derived.Deep.CutBlock
import Derived.LoopTactic
namespace Go.Proofs.YtfhhkmjjifbfeaaDoor
open Go.ChangeShapes Go.WideShapes Go.ChangeAt Go.RowKit
set_option linter.unusedSimpArgs false
set_option linter.unusedVariables false

/-- A text, somewhat cut. -/
def cutE (s : ByteArray) (m : Nat) : ByteArray := if m < s.size then s.extract 0 m else s
theorem cutE_le (s : ByteArray) (m : Nat) : (cutE s m).size ≤ m := by
  unfold cutE
  split
  · rw [ByteArray.size_extract]; omega
  · omega
theorem ev_cut (s t : ByteArray) (m : Nat) (hm : m ≤ 1000) (hs : s.size ≤ maxLen) (ht : cutE s m = t) (mi : Int) (hmi : mi = m) (w : World) :
    Calls Tryd.prog 4 #[.string s, .int .i64 mi] w fun e w' => e = .returned (.string t) ∧ w = w' := by
  subst hmi
  unfold maxLen at hs
  unfold cutE at ht
  by_cases h : m < s.size
  · rw [if_pos h] at ht
    have i1 : (m : Int) < (s.size : Int) := by omega
    go_enter Tryd.func4, Tryd.ntmps4
    go_wp2
    go_ret
    exact ⟨rfl, rfl⟩
  · rw [if_neg h] at ht
    subst ht
    have i1 : ¬ (m : Int) < (s.size : Int) := by omega
    go_enter Tryd.func4, Tryd.ntmps4
    go_wp2
    go_ret
    exact ⟨rfl, rfl⟩
def Ev.cut (x : Ev) : Ev := ⟨x.k, x.i, x.n, x.t, cutE x.b 24, x.e, x.s0, x.s1, x.s2, x.s3, x.s4, x.s5⟩
theorem Ev.cut_ok {x : Ev} (h : x.ok) : x.cut.ok := ⟨Nat.le_trans (cutE_le _ _) (by unfold maxLen; omega), fun k z hz => h.2 k z (by
  simp only [Ev.cut, Ev.c, List.mem_cons, List.not_mem_nil, or_false, reduceCtorEq, false_or] at hz ⊢
  exact hz)⟩
/-- Events, somewhat cut. -/
def fewE (m : Nat) (L : List Ev) : List Ev := (L.take m).map Ev.cut
theorem fewE_len (m : Nat) (L : List Ev) : (fewE m L).length = min m L.length := by unfold fewE; rw [List.length_map, List.length_take]
theorem fewE_ok {m : Nat} {L : List Ev} (h : ∀ x ∈ L, x.ok) : ∀ x ∈ fewE m L, x.ok := by
  intro x hx
  obtain ⟨y, hy, rfl⟩ := List.mem_map.1 hx
  exact Ev.cut_ok (h y (List.mem_of_mem_take hy))
theorem fewE_b {m : Nat} {L : List Ev} : ∀ x ∈ fewE m L, x.b.size ≤ 24 := by
  intro x hx
  obtain ⟨y, hy, rfl⟩ := List.mem_map.1 hx
  exact cutE_le _ _
theorem fewE_at {m : Nat} {L : List Ev} {j : Nat} {x : Ev} (h : L[j]? = some x) (hj : j < m) : (fewE m L)[j]? = some x.cut := by
  unfold fewE; rw [List.getElem?_map, List.getElem?_take_of_lt hj, h]; rfl
theorem take_snocE {α : Type} {l : List α} {j : Nat} {x : α} (h : l[j]? = some x) : l.take (j + 1) = l.take j ++ [x] := by
  obtain ⟨hl, e⟩ := List.getElem?_eq_some_iff.1 h
  rw [List.take_succ_eq_append_getElem hl, e]
theorem EL.ok {w : World} {a : Option Addr} {L : List Ev} (h : EL w a L) : ∀ x ∈ L, x.ok := fun x hx => by
  obtain ⟨j, hj⟩ := List.getElem?_of_mem hx
  exact (h j x hj).1
theorem infoEv : (Tryd.prog.info? 32).map (fun i => (i.zero, i.size, i.bytes)) = some (some (.agg #[.int .i64 0, .int .i64 0, .int .i64 0, .int .i64 0, .string ByteArray.empty, .int .i64 0, .int .i64 0, .int .i64 0, .int .i64 0, .int .i64 0, .int .i64 0, .int .i64 0]), 12, 104) := by kernel_rfl
theorem new_atE (w : World) (cs : List Value) (T : TypeId) : ∀ j u, cs[j]? = some u → (w.alloc (.cells cs.toArray T)).cell? ((⟨w.heap.size, 0, none⟩ : Addr).add j) = some u := fun j u hj => by
  rw [Addr.add_lit, Nat.zero_add]; exact (Blk.new w cs T).cell hj
end Go.Proofs.YtfhhkmjjifbfeaaDoor
