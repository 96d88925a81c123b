/- Events: rows held against each other. -/
import Derived.Test.YtdchedkhlfmpeaaEv8
import Derived.DeepKeys
import Derived.WalkKit
import Derived.ProofKit
import Derived.Handy
import Derived.WalkLawsBesides
import Derived.WalkSpells
import Derived.Lib.Hide
import Derived.Lib.SliceRun
import Derived.Deep.RegionLaw
import Derived.RegionTactic
import Derived.ChangeAlike
import Derived.WalkSmall
import Derived.Deep.QuietTactic
import Derived.BigQuiet
import Derived.OwnWalk
import Derived.Outline
import Derived.Deep.CutRange
import Derived.Deep.CutBlock
import Derived.LoopTactic
namespace Go.Proofs.Ytdchedkhlfmpeaa
open Go.ChangeShapes Go.WideShapes Go.ChangeAt Go.RowKit
set_option linter.unusedSimpArgs false
set_option linter.unusedVariables false

/-- A slice (at a) of records, sz cells each: the first M.length of them are those of M by f. -/
def RE (w : World) (a : Option Addr) (sz : Nat) (f : Ev → List Value) (M : List Ev) : Prop := ∀ (j : Nat) (x : Ev), M[j]? = some x → ∃ g o, a = some ⟨g, o, none⟩ ∧ g < w.heap.size ∧ ∀ (q : Nat) (v : Value), (f x)[q]? = some v → w.cell? ⟨g, o + (j * sz + q), none⟩ = some v
theorem flat_at {f : Ev → List Value} {sz : Nat} (hf : ∀ x, (f x).length = sz) : ∀ (L : List Ev) (j : Nat) (x : Ev) (q : Nat) (v : Value), L[j]? = some x → (f x)[q]? = some v → (L.flatMap f)[j * sz + q]? = some v
  | [], j, x, q, v, h, _ => by simp at h
  | y :: L, 0, x, q, v, h, hq => by
    simp at h
    subst h
    have hl := (List.getElem?_eq_some_iff.1 hq).1
    rw [List.flatMap_cons, Nat.zero_mul, Nat.zero_add, List.getElem?_append_left hl, hq]
  | y :: L, j + 1, x, q, v, h, hq => by
    have ih := flat_at hf L j x q v (by simpa using h) hq
    have e : (j + 1) * sz + q = sz + (j * sz + q) := by rw [Nat.add_mul]; omega
    rw [List.flatMap_cons, List.getElem?_append_right (by rw [hf, e]; omega), hf, e, Nat.add_sub_cancel_left]
    exact ih
theorem RE.of_rm {w : World} {B : Nat} {r : Option Addr} {n c sz : Nat} {f : Ev → List Value} {M : List Ev} {T : TypeId} (h : RM w B r n c sz (M.flatMap f) T) (hn : M.length = n) (hf : ∀ x, (f x).length = sz) : RE w r sz f M := fun j x hj => by
  have hj2 := (List.getElem?_eq_some_iff.1 hj).1
  obtain ⟨g, rfl, _, hr⟩ := h.row (by omega)
  exact ⟨g, 0, rfl, hr.lt, fun q v hq => by rw [Nat.zero_add]; exact hr.cell (flat_at hf M j x q v hj hq)⟩
theorem RE.below {w w' : World} {a : Option Addr} {sz : Nat} {f : Ev → List Value} {M : List Ev} (h : RE w a sz f M) (k : Below w.heap.size w w') : RE w' a sz f M := fun j x hj => by
  obtain ⟨g, o, h2, h3, hc⟩ := h j x hj
  exact ⟨g, o, h2, Nat.lt_of_lt_of_le h3 k.size, fun q v hq => by rw [← hc q v hq]; exact Chg.cell (l := []) (Chg.of_fresh k) h3 (by simp)⟩
theorem RE.drew {w : World} {a : Option Addr} {sz : Nat} {f : Ev → List Value} {M : List Ev} (h : RE w a sz f M) : RE w.drew a sz f M := h
theorem RE.of_el {w : World} {a : Option Addr} {M : List Ev} (h : EL w a M) : RE w a 12 Ev.c M := fun j x hj => (h j x hj).2
theorem Ev.st_len (x : Ev) : x.st.length = 6 := rfl
theorem Pj.inC_as (x : Ev) (hx : x.ok) : ∃ a b c d, Pj.inC x = [.int .i64 a, .string b, .int .i64 c, .int .i64 d] ∧ (Lit.int .i64 a).wf = true ∧ b.size ≤ maxLen ∧ (Lit.int .i64 c).wf = true ∧ (Lit.int .i64 d).wf = true := by
  obtain ⟨hb, hw⟩ := hx
  have h0 : (Lit.int .i64 0).wf = true := by decide
  have hs : (⟨#[]⟩ : ByteArray).size ≤ maxLen := by unfold maxLen; show (0 : Nat) ≤ _; omega
  unfold Pj.inC
  by_cases h4 : x.k = 4
  · rw [if_pos h4]; exact ⟨_, _, _, _, rfl, by decide, hb, h0, h0⟩
  rw [if_neg h4]
  by_cases h5 : x.k = 5
  · rw [if_pos h5]; exact ⟨_, _, _, _, rfl, by decide, hs, h0, h0⟩
  rw [if_neg h5]
  by_cases h6 : x.k = 6
  · rw [if_pos h6]; exact ⟨_, _, _, _, rfl, by decide, hs, hw .i64 x.n (by simp [Ev.c]), h0⟩
  rw [if_neg h6]
  by_cases h8 : x.k = 8
  · rw [if_pos h8]; exact ⟨_, _, _, _, rfl, by decide, hs, h0, hw .i64 x.s0 (by simp [Ev.c])⟩
  · rw [if_neg h8]; exact ⟨_, _, _, _, rfl, by decide, hs, h0, hw .i64 x.t (by simp [Ev.c])⟩
theorem Ev.inj_lits {a b : ByteArray} (h : a.data.toList = b.data.toList) : a = b := ByteArray.ext (Array.ext' h)
theorem eqIn_input (a : Int) (b : ByteArray) (c d : Int) (w : World) : (Op.equalIn 10000 74 (.agg #[.int .i64 a, .string b, .int .i64 c, .int .i64 d]) (.agg #[.int .i64 a, .string b, .int .i64 c, .int .i64 d])).run Try.prog w = .ok true w := by
  have hst : Try.prog.stoodInHeld 74 = false := by kernel_rfl
  show (Op.equalIn (9999 + 1) _ _ _).run _ _ = _
  rw [Op.equalIn]
  simp [go_sem, run_underlying Try.underlying74, part, hst]
theorem eqIn_step (a b c d e f : Int) (w : World) : (Op.equalIn 10000 45 (.agg #[.int .i64 a, .int .i64 b, .int .i64 c, .int .i64 d, .int .i64 e, .int .i64 f]) (.agg #[.int .i64 a, .int .i64 b, .int .i64 c, .int .i64 d, .int .i64 e, .int .i64 f])).run Try.prog w = .ok true w := by
  have hst : Try.prog.stoodInHeld 45 = false := by kernel_rfl
  show (Op.equalIn (9999 + 1) _ _ _).run _ _ = _
  rw [Op.equalIn]
  simp [go_sem, run_underlying Try.underlying45, part, hst]
theorem deep_ev : Try.prog.keyTypeAt 4 47 = true := by kernel_rfl
theorem lits_ev (x : Ev) (h : x.ok) : Try.prog.keyLits 3 47 x.c = some [.int .i64 x.k, .int .i64 x.i, .int .i64 x.n, .int .i64 x.t, .string x.b.data.toList, .int .i64 x.e, .int .i64 x.s0, .int .i64 x.s1, .int .i64 x.s2, .int .i64 x.s3, .int .i64 x.s4, .int .i64 x.s5] := by
  have k12 : Try.prog.cellsOf 47 = 12 := by kernel_rfl
  have k6 : Try.prog.cellsOf 45 = 6 := by kernel_rfl
  have k3 : Try.prog.cellsOf 3 = 1 := by kernel_rfl
  have k2 : Try.prog.cellsOf 2 = 1 := by kernel_rfl
  have k9 : Try.prog.cellsOf 9 = 1 := by kernel_rfl
  have k43 : Try.prog.cellsOf 43 = 1 := by kernel_rfl
  have w : ∀ z, Value.int .i64 z ∈ x.c → (Lit.int .i64 z).wf = true := h.2 .i64
  have hb := h.1
  simp only [Ev.c, List.mem_cons, List.not_mem_nil, or_false, Value.int.injEq, true_and, reduceCtorEq, false_or] at w
  have u1 := w x.k (by simp); have u2 := w x.i (by simp); have u3 := w x.n (by simp); have u4 := w x.t (by simp); have u5 := w x.e (by simp); have u6 := w x.s0 (by simp); have u7 := w x.s1 (by simp); have u8 := w x.s2 (by simp); have u9 := w x.s3 (by simp); have u10 := w x.s4 (by simp); have u11 := w x.s5 (by simp)
  simp [Program.keyLits, Try.underlying47, Try.underlying45, Try.underlying3, Try.underlying2, Try.underlying9, Try.underlying43, k12, k6, k3, k2, k9, k43, Ev.c, hb, u1, u2, u3, u4, u5, u6, u7, u8, u9, u10, u11]
  rw [if_pos (by
    intro i hi
    obtain rfl | rfl | rfl | rfl | rfl | rfl : i = 0 ∨ i = 1 ∨ i = 2 ∨ i = 3 ∨ i = 4 ∨ i = 5 := by omega
    all_goals simp)]
  rfl
noncomputable instance evDec : DecidableEq Ev := fun _ _ => Classical.propDecidable _
theorem eqEv (x y : Ev) (hx : x.ok) (hy : y.ok) (w : World) : (Op.equalIn 10000 47 (.agg x.c.toArray) (.agg y.c.toArray)).run Try.prog w = .ok (decide (x = y)) w := by
  obtain ⟨r, hr, hiff⟩ := run_equalIn_deep (P := Try.prog) 9996 4 47 deep_ev w 3 3 (.agg x.c.toArray) (.agg y.c.toArray) _ _ (by kernel_rfl) (by kernel_rfl) (lits_ev x hx) (lits_ev y hy)
  have e : r = decide (x = y) := by
    rw [Bool.eq_iff_iff, hiff, decide_eq_true_eq]
    constructor
    · intro h
      simp only [List.cons.injEq, Lit.int.injEq, Lit.string.injEq, true_and, and_true] at h
      obtain ⟨h1, h2, h3, h4, h5, h6, h7, h8, h9, h10, h11, h12⟩ := h
      obtain ⟨k, i, n, t, b, e, s0, s1, s2, s3, s4, s5⟩ := x
      obtain ⟨k', i', n', t', b', e', s0', s1', s2', s3', s4', s5'⟩ := y
      dsimp only at h1 h2 h3 h4 h5 h6 h7 h8 h9 h10 h11 h12
      rw [h1, h2, h3, h4, Ev.inj_lits h5, h6, h7, h8, h9, h10, h11, h12]
    · rintro rfl; rfl
  rw [e] at hr
  exact hr
set_option maxRecDepth 20000 in
set_option maxHeartbeats 16000000 in
theorem pj_sameIn (a b : Option Addr) (n ca cb : Nat) (M : List Ev) (hl : M.length = n) (hn : n ≤ 100000) (hok : ∀ x ∈ M, x.ok) (w : World) (HA : RE w a 4 Pj.inC M) (HB : RE w b 4 Pj.inC M) :
    Calls Try.prog 19 #[.slice a n ca, .slice b n cb] w fun r w' => r = .returned (.bool true) ∧ Below w.heap.size w w' := by
  have HL := Lib.hid (And.intro hl (And.intro HA HB))
  clear hl HA HB
  go_enter Try.func19, Try.ntmps19
  go_wp2_with fail
  go_loopw [5] (fun z wr => ∃ j : Nat, z = .int .i64 j ∧ j ≤ n ∧ Hid (Below w.heap.size w wr)) (fun z _ => n - (intOf z).toNat)
  case atStart => exact ⟨0, rfl, by omega, Lib.hid (Below.refl _ _)⟩
  case round =>
    obtain ⟨j, rfl, hj, HB⟩ := hrel
    have j0 : (0 : Int) ≤ (j : Int) := by omega
    by_cases hjl : j < n
    · have i1 : (j : Int) < (n : Int) := by omega
      have w1 : IntKind.i64.wrap ((j : Int) + 1) = (j : Int) + 1 := IntWalk.i64_in _ (by omega)
      obtain ⟨x, es⟩ : ∃ x, M[j]? = some x := ⟨_, List.getElem?_eq_getElem (by rw [HL.out.1]; exact hjl)⟩
      obtain ⟨a0, b0, c0, d0', hc, _⟩ := Pj.inC_as x (hok x (List.mem_of_getElem? es))
      obtain ⟨g1, o1, rfl, hg1, C1⟩ := (HL.out.2.1.below HB.out) j x es
      obtain ⟨g2, o2, rfl, hg2, C2⟩ := (HL.out.2.2.below HB.out) j x es
      have d0 := C1 0 _ (by rw [hc]; rfl)
      have e0 := C2 0 _ (by rw [hc]; rfl)
      rw [Nat.add_zero] at d0 e0
      have d1 := C1 1 _ (by rw [hc]; rfl)
      have e1 := C2 1 _ (by rw [hc]; rfl)
      rw [← Nat.add_assoc] at d1 e1
      have d2 := C1 2 _ (by rw [hc]; rfl)
      have e2 := C2 2 _ (by rw [hc]; rfl)
      rw [← Nat.add_assoc] at d2 e2
      have d3 := C1 3 _ (by rw [hc]; rfl)
      have e3 := C2 3 _ (by rw [hc]; rfl)
      rw [← Nat.add_assoc] at d3 e3
      have eqp := eqIn_input a0 b0 c0 d0'
      clear C1 C2 es
      go_upto_region 6 with fail
      go_cut [25] from 17 to 25 (fun s wx => s = .bool false ∧ Hid (Below w.heap.size w wx))
      case first =>
        go_region_law (fail)
        all_goals
          go_wp2_with fail
          go_meet
          exact ⟨rfl, Lib.hid HB.out.drew⟩
      case rest =>
        obtain ⟨rfl, HD⟩ := hcut
        go_wp2_with fail
        go_roundw
        case rel => exact ⟨j + 1, by go_num, by omega, HD⟩
        case measure => simp [intOf]; omega
    · have i1 : ¬ (j : Int) < (n : Int) := by omega
      go_wp2_with fail
      go_ret
      exact ⟨rfl, HB.out⟩
set_option maxRecDepth 20000 in
set_option maxHeartbeats 16000000 in
theorem pj_sameSteps (a b : Option Addr) (n ca cb : Nat) (M : List Ev) (hl : M.length = n) (hn : n ≤ 100000) (w : World) (HA : RE w a 6 Ev.st M) (HB : RE w b 6 Ev.st M) :
    Calls Try.prog 20 #[.slice a n ca, .slice b n cb] w fun r w' => r = .returned (.bool true) ∧ Below w.heap.size w w' := by
  have HL := Lib.hid (And.intro hl (And.intro HA HB))
  clear hl HA HB
  go_enter Try.func20, Try.ntmps20
  go_wp2_with fail
  go_loopw [5] (fun z wr => ∃ j : Nat, z = .int .i64 j ∧ j ≤ n ∧ Hid (Below w.heap.size w wr)) (fun z _ => n - (intOf z).toNat)
  case atStart => exact ⟨0, rfl, by omega, Lib.hid (Below.refl _ _)⟩
  case round =>
    obtain ⟨j, rfl, hj, HB⟩ := hrel
    have j0 : (0 : Int) ≤ (j : Int) := by omega
    by_cases hjl : j < n
    · have i1 : (j : Int) < (n : Int) := by omega
      have w1 : IntKind.i64.wrap ((j : Int) + 1) = (j : Int) + 1 := IntWalk.i64_in _ (by omega)
      obtain ⟨x, es⟩ : ∃ x, M[j]? = some x := ⟨_, List.getElem?_eq_getElem (by rw [HL.out.1]; exact hjl)⟩

      obtain ⟨g1, o1, rfl, hg1, C1⟩ := (HL.out.2.1.below HB.out) j x es
      obtain ⟨g2, o2, rfl, hg2, C2⟩ := (HL.out.2.2.below HB.out) j x es
      have d0 := C1 0 _ rfl
      have e0 := C2 0 _ rfl
      rw [Nat.add_zero] at d0 e0
      have d1 := C1 1 _ rfl
      have e1 := C2 1 _ rfl
      rw [← Nat.add_assoc] at d1 e1
      have d2 := C1 2 _ rfl
      have e2 := C2 2 _ rfl
      rw [← Nat.add_assoc] at d2 e2
      have d3 := C1 3 _ rfl
      have e3 := C2 3 _ rfl
      rw [← Nat.add_assoc] at d3 e3
      have d4 := C1 4 _ rfl
      have e4 := C2 4 _ rfl
      rw [← Nat.add_assoc] at d4 e4
      have d5 := C1 5 _ rfl
      have e5 := C2 5 _ rfl
      rw [← Nat.add_assoc] at d5 e5
      have eqp := eqIn_step x.s0 x.s1 x.s2 x.s3 x.s4 x.s5
      clear C1 C2 es
      go_upto_region 6 with fail
      go_cut [25] from 17 to 25 (fun s wx => s = .bool false ∧ Hid (Below w.heap.size w wx))
      case first =>
        go_region_law (fail)
        all_goals
          go_wp2_with fail
          go_meet
          exact ⟨rfl, Lib.hid HB.out.drew⟩
      case rest =>
        obtain ⟨rfl, HD⟩ := hcut
        go_wp2_with fail
        go_roundw
        case rel => exact ⟨j + 1, by go_num, by omega, HD⟩
        case measure => simp [intOf]; omega
    · have i1 : ¬ (j : Int) < (n : Int) := by omega
      go_wp2_with fail
      go_ret
      exact ⟨rfl, HB.out⟩
end Go.Proofs.Ytdchedkhlfmpeaa
