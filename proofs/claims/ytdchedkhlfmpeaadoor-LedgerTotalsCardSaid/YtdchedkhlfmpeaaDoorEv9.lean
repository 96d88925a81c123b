/- Events: rows held against each other. -/
import Derived.Test.YtdchedkhlfmpeaaDoorEv8
import Derived.DeepKeys
import Derived.WalkKit
import Derived.ProofKit
import Derived.Handy
import Derived.WalkLawsBesides
import Derived.WalkSpells
import Derived.Lib.Hide
import Derived.Lib.SliceRun
import Derived.Deep.RegionLaw
import Derived.RegionTactic
import Derived.ChangeAlike
import Derived.WalkSmall
import Derived.Deep.QuietTactic
import Derived.BigQuiet
import Derived.OwnWalk
import Derived.Outline
import Derived.Deep.CutRange
import Derived.Deep.CutBlock
import Derived.LoopTactic
namespace Go.Proofs.YtdchedkhlfmpeaaDoor
open Go.ChangeShapes Go.WideShapes Go.ChangeAt Go.RowKit
set_option linter.unusedSimpArgs false
set_option linter.unusedVariables false

/-- A slice (at a) of records, sz cells each: the first M.length of them are those of M by f. -/
def RE (w : World) (a : Option Addr) (sz : Nat) (f : Ev → List Value) (M : List Ev) : Prop := ∀ (j : Nat) (x : Ev), M[j]? = some x → ∃ g o, a = some ⟨g, o, none⟩ ∧ g < w.heap.size ∧ ∀ (q : Nat) (v : Value), (f x)[q]? = some v → w.cell? ⟨g, o + (j * sz + q), none⟩ = some v
theorem flat_at {f : Ev → List Value} {sz : Nat} (hf : ∀ x, (f x).length = sz) : ∀ (L : List Ev) (j : Nat) (x : Ev) (q : Nat) (v : Value), L[j]? = some x → (f x)[q]? = some v → (L.flatMap f)[j * sz + q]? = some v
  | [], j, x, q, v, h, _ => by simp at h
  | y :: L, 0, x, q, v, h, hq => by
    simp at h
    subst h
    have hl := (List.getElem?_eq_some_iff.1 hq).1
    rw [List.flatMap_cons, Nat.zero_mul, Nat.zero_add, List.getElem?_append_left hl, hq]
  | y :: L, j + 1, x, q, v, h, hq => by
    have ih := flat_at hf L j x q v (by simpa using h) hq
    have e : (j + 1) * sz + q = sz + (j * sz + q) := by rw [Nat.add_mul]; omega
    rw [List.flatMap_cons, List.getElem?_append_right (by rw [hf, e]; omega), hf, e, Nat.add_sub_cancel_left]
    exact ih
theorem RE.of_rm {w : World} {B : Nat} {r : Option Addr} {n c sz : Nat} {f : Ev → List Value} {M : List Ev} {T : TypeId} (h : RM w B r n c sz (M.flatMap f) T) (hn : M.length = n) (hf : ∀ x, (f x).length = sz) : RE w r sz f M := fun j x hj => by
  have hj2 := (List.getElem?_eq_some_iff.1 hj).1
  obtain ⟨g, rfl, _, hr⟩ := h.row (by omega)
  exact ⟨g, 0, rfl, hr.lt, fun q v hq => by rw [Nat.zero_add]; exact hr.cell (flat_at hf M j x q v hj hq)⟩
theorem RE.below {w w' : World} {a : Option Addr} {sz : Nat} {f : Ev → List Value} {M : List Ev} (h : RE w a sz f M) (k : Below w.heap.size w w') : RE w' a sz f M := fun j x hj => by
  obtain ⟨g, o, h2, h3, hc⟩ := h j x hj
  exact ⟨g, o, h2, Nat.lt_of_lt_of_le h3 k.size, fun q v hq => by rw [← hc q v hq]; exact Chg.cell (l := []) (Chg.of_fresh k) h3 (by simp)⟩
theorem RE.drew {w : World} {a : Option Addr} {sz : Nat} {f : Ev → List Value} {M : List Ev} (h : RE w a sz f M) : RE w.drew a sz f M := h
theorem RE.of_el {w : World} {a : Option Addr} {M : List Ev} (h : EL w a M) : RE w a 12 Ev.c M := fun j x hj => (h j x hj).2
theorem Ev.st_len (x : Ev) : x.st.length = 6 := rfl
theorem Pj.inC_as (x : Ev) (hx : x.ok) : ∃ a b c d, Pj.inC x = [.int .i64 a, .string b, .int .i64 c, .int .i64 d] ∧ (Lit.int .i64 a).wf = true ∧ b.size ≤ maxLen ∧ (Lit.int .i64 c).wf = true ∧ (Lit.int .i64 d).wf = true := by
  obtain ⟨hb, hw⟩ := hx
  have h0 : (Lit.int .i64 0).wf = true := by decide
  have hs : (⟨#[]⟩ : ByteArray).size ≤ maxLen := by unfold maxLen; show (0 : Nat) ≤ _; omega
  unfold Pj.inC
  by_cases h4 : x.k = 4
  · rw [if_pos h4]; exact ⟨_, _, _, _, rfl, by decide, hb, h0, h0⟩
  rw [if_neg h4]
  by_cases h5 : x.k = 5
  · rw [if_pos h5]; exact ⟨_, _, _, _, rfl, by decide, hs, h0, h0⟩
  rw [if_neg h5]
  by_cases h6 : x.k = 6
  · rw [if_pos h6]; exact ⟨_, _, _, _, rfl, by decide, hs, hw .i64 x.n (by simp [Ev.c]), h0⟩
  rw [if_neg h6]
  by_cases h8 : x.k = 8
  · rw [if_pos h8]; exact ⟨_, _, _, _, rfl, by decide, hs, h0, hw .i64 x.s0 (by simp [Ev.c])⟩
  · rw [if_neg h8]; exact ⟨_, _, _, _, rfl, by decide, hs, h0, hw .i64 x.t (by simp [Ev.c])⟩
theorem Ev.inj_lits {a b : ByteArray} (h : a.data.toList = b.data.toList) : a = b := ByteArray.ext (Array.ext' h)
theorem eqIn_input (a : Int) (b : ByteArray) (c d : Int) (w : World) : (Op.equalIn 10000 90 (.agg #[.int .i64 a, .string b, .int .i64 c, .int .i64 d]) (.agg #[.int .i64 a, .string b, .int .i64 c, .int .i64 d])).run Tryd.prog w = .ok true w := by
  have hst : Tryd.prog.stoodInHeld 90 = false := by kernel_rfl
  show (Op.equalIn (9999 + 1) _ _ _).run _ _ = _
  rw [Op.equalIn]
  simp [go_sem, run_underlying Tryd.underlying90, part, hst]
theorem eqIn_step (a b c d e f : Int) (w : World) : (Op.equalIn 10000 44 (.agg #[.int .i64 a, .int .i64 b, .int .i64 c, .int .i64 d, .int .i64 e, .int .i64 f]) (.agg #[.int .i64 a, .int .i64 b, .int .i64 c, .int .i64 d, .int .i64 e, .int .i64 f])).run Tryd.prog w = .ok true w := by
  have hst : Tryd.prog.stoodInHeld 44 = false := by kernel_rfl
  show (Op.equalIn (9999 + 1) _ _ _).run _ _ = _
  rw [Op.equalIn]
  simp [go_sem, run_underlying Tryd.underlying44, part, hst]
theorem deep_ev : Tryd.prog.keyTypeAt 4 46 = true := by kernel_rfl
theorem lits_ev (x : Ev) (h : x.ok) : Tryd.prog.keyLits 3 46 x.c = some [.int .i64 x.k, .int .i64 x.i, .int .i64 x.n, .int .i64 x.t, .string x.b.data.toList, .int .i64 x.e, .int .i64 x.s0, .int .i64 x.s1, .int .i64 x.s2, .int .i64 x.s3, .int .i64 x.s4, .int .i64 x.s5] := by
  have k12 : Tryd.prog.cellsOf 46 = 12 := by kernel_rfl
  have k6 : Tryd.prog.cellsOf 44 = 6 := by kernel_rfl
  have k3 : Tryd.prog.cellsOf 3 = 1 := by kernel_rfl
  have k2 : Tryd.prog.cellsOf 2 = 1 := by kernel_rfl
  have k9 : Tryd.prog.cellsOf 9 = 1 := by kernel_rfl
  have k43 : Tryd.prog.cellsOf 42 = 1 := by kernel_rfl
  have w : ∀ z, Value.int .i64 z ∈ x.c → (Lit.int .i64 z).wf = true := h.2 .i64
  have hb := h.1
  simp only [Ev.c, List.mem_cons, List.not_mem_nil, or_false, Value.int.injEq, true_and, reduceCtorEq, false_or] at w
  have u1 := w x.k (by simp); have u2 := w x.i (by simp); have u3 := w x.n (by simp); have u4 := w x.t (by simp); have u5 := w x.e (by simp); have u6 := w x.s0 (by simp); have u7 := w x.s1 (by simp); have u8 := w x.s2 (by simp); have u9 := w x.s3 (by simp); have u10 := w x.s4 (by simp); have u11 := w x.s5 (by simp)
  simp [Program.keyLits, Tryd.underlying46, Tryd.underlying44, Tryd.underlying3, Tryd.underlying2, Tryd.underlying9, Tryd.underlying42, k12, k6, k3, k2, k9, k43, Ev.c, hb, u1, u2, u3, u4, u5, u6, u7, u8, u9, u10, u11]
  rw [if_pos (by
    intro i hi
    obtain rfl | rfl | rfl | rfl | rfl | rfl : i = 0 ∨ i = 1 ∨ i = 2 ∨ i = 3 ∨ i = 4 ∨ i = 5 := by omega
    all_goals simp)]
  rfl
noncomputable instance evDec : DecidableEq Ev := fun _ _ => Classical.propDecidable _
theorem eqEv (x y : Ev) (hx : x.ok) (hy : y.ok) (w : World) : (Op.equalIn 10000 46 (.agg x.c.toArray) (.agg y.c.toArray)).run Tryd.prog w = .ok (decide (x = y)) w := by
  obtain ⟨r, hr, hiff⟩ := run_equalIn_deep (P := Tryd.prog) 9996 4 46 deep_ev w 3 3 (.agg x.c.toArray) (.agg y.c.toArray) _ _ (by kernel_rfl) (by kernel_rfl) (lits_ev x hx) (lits_ev y hy)
  have e : r = decide (x = y) := by
    rw [Bool.eq_iff_iff, hiff, decide_eq_true_eq]
    constructor
    · intro h
      simp only [List.cons.injEq, Lit.int.injEq, Lit.string.injEq, true_and, and_true] at h
      obtain ⟨h1, h2, h3, h4, h5, h6, h7, h8, h9, h10, h11, h12⟩ := h
      obtain ⟨k, i, n, t, b, e, s0, s1, s2, s3, s4, s5⟩ := x
      obtain ⟨k', i', n', t', b', e', s0', s1', s2', s3', s4', s5'⟩ := y
      dsimp only at h1 h2 h3 h4 h5 h6 h7 h8 h9 h10 h11 h12
      rw [h1, h2, h3, h4, Ev.inj_lits h5, h6, h7, h8, h9, h10, h11, h12]
    · rintro rfl; rfl
  rw [e] at hr
  exact hr
end Go.Proofs.YtdchedkhlfmpeaaDoor
