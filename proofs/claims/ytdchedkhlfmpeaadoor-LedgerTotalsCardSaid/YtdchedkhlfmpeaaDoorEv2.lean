/- Events: somewhat cut. -/
import Derived.Test.YtdchedkhlfmpeaaDoorEv1
import Derived.Test.YtdchedkhlfmpeaaDoorRnStep
import Derived.Test.YtdchedkhlfmpeaaDoorClass
import Derived.WalkKit
import Derived.ProofKit
import Derived.Handy
import Derived.WalkLawsBesides
import Derived.WalkSpells
import Derived.Lib.Hide
import Derived.Lib.SliceRun
import Derived.Deep.RegionLaw
import Derived.RegionTactic
import Derived.ChangeAlike
import Derived.WalkSmall
import Derived.Deep.QuietTactic
import Derived.BigQuiet
import Derived.OwnWalk
import Derived.Outline
import Derived.Deep.CutRange
import Derived.Deep.CutBlock
import Derived.LoopTactic
namespace Go.Proofs.YtdchedkhlfmpeaaDoor
open Go.ChangeShapes Go.WideShapes Go.ChangeAt Go.RowKit
set_option linter.unusedSimpArgs false
set_option linter.unusedVariables false

/-- A text, somewhat cut. -/
def cutE (s : ByteArray) (m : Nat) : ByteArray := if m < s.size then s.extract 0 m else s
theorem cutE_le (s : ByteArray) (m : Nat) : (cutE s m).size ≤ m := by
  unfold cutE
  split
  · rw [ByteArray.size_extract]; omega
  · omega
theorem ev_cut (s t : ByteArray) (m : Nat) (hm : m ≤ 1000) (hs : s.size ≤ maxLen) (ht : cutE s m = t) (mi : Int) (hmi : mi = m) (w : World) :
    Calls Tryd.prog 17 #[.string s, .int .i64 mi] w fun e w' => e = .returned (.string t) ∧ w = w' := by
  subst hmi
  unfold maxLen at hs
  unfold cutE at ht
  by_cases h : m < s.size
  · rw [if_pos h] at ht
    have i1 : (m : Int) < (s.size : Int) := by omega
    go_enter Tryd.func17, Tryd.ntmps17
    go_wp2
    go_ret
    exact ⟨rfl, rfl⟩
  · rw [if_neg h] at ht
    subst ht
    have i1 : ¬ (m : Int) < (s.size : Int) := by omega
    go_enter Tryd.func17, Tryd.ntmps17
    go_wp2
    go_ret
    exact ⟨rfl, rfl⟩
def Ev.cut (x : Ev) : Ev := ⟨x.k, x.i, x.n, x.t, cutE x.b 24, x.e, x.s0, x.s1, x.s2, x.s3, x.s4, x.s5⟩
theorem Ev.cut_ok {x : Ev} (h : x.ok) : x.cut.ok := ⟨Nat.le_trans (cutE_le _ _) (by unfold maxLen; omega), fun k z hz => h.2 k z (by
  simp only [Ev.cut, Ev.c, List.mem_cons, List.not_mem_nil, or_false, reduceCtorEq, false_or] at hz ⊢
  exact hz)⟩
/-- Events, somewhat cut. -/
def fewE (m : Nat) (L : List Ev) : List Ev := (L.take m).map Ev.cut
theorem fewE_len (m : Nat) (L : List Ev) : (fewE m L).length = min m L.length := by unfold fewE; rw [List.length_map, List.length_take]
theorem fewE_ok {m : Nat} {L : List Ev} (h : ∀ x ∈ L, x.ok) : ∀ x ∈ fewE m L, x.ok := by
  intro x hx
  obtain ⟨y, hy, rfl⟩ := List.mem_map.1 hx
  exact Ev.cut_ok (h y (List.mem_of_mem_take hy))
theorem fewE_b {m : Nat} {L : List Ev} : ∀ x ∈ fewE m L, x.b.size ≤ 24 := by
  intro x hx
  obtain ⟨y, hy, rfl⟩ := List.mem_map.1 hx
  exact cutE_le _ _
theorem fewE_at {m : Nat} {L : List Ev} {j : Nat} {x : Ev} (h : L[j]? = some x) (hj : j < m) : (fewE m L)[j]? = some x.cut := by
  unfold fewE; rw [List.getElem?_map, List.getElem?_take_of_lt hj, h]; rfl
theorem take_snocE {α : Type} {l : List α} {j : Nat} {x : α} (h : l[j]? = some x) : l.take (j + 1) = l.take j ++ [x] := by
  obtain ⟨hl, e⟩ := List.getElem?_eq_some_iff.1 h
  rw [List.take_succ_eq_append_getElem hl, e]
theorem EL.ok {w : World} {a : Option Addr} {L : List Ev} (h : EL w a L) : ∀ x ∈ L, x.ok := fun x hx => by
  obtain ⟨j, hj⟩ := List.getElem?_of_mem hx
  exact (h j x hj).1
theorem infoEv : (Tryd.prog.info? 46).map (fun i => (i.zero, i.size, i.bytes)) = some (some (.agg #[.int .i64 0, .int .i64 0, .int .i64 0, .int .i64 0, .string ByteArray.empty, .int .i64 0, .int .i64 0, .int .i64 0, .int .i64 0, .int .i64 0, .int .i64 0, .int .i64 0]), 12, 104) := by kernel_rfl
theorem new_atE (w : World) (cs : List Value) (T : TypeId) : ∀ j u, cs[j]? = some u → (w.alloc (.cells cs.toArray T)).cell? ((⟨w.heap.size, 0, none⟩ : Addr).add j) = some u := fun j u hj => by
  rw [Addr.add_lit, Nat.zero_add]; exact (Blk.new w cs T).cell hj
set_option maxRecDepth 20000 in
set_option maxHeartbeats 16000000 in
theorem few_ev (a : Option Addr) (len cap : Nat) (L : List Ev) (hl : L.length = len) (hlm : len ≤ maxLen) (most : Nat) (hmost : most ≤ 1000) (mi : Int) (hmi : mi = most) (L2 : List Ev) (h2 : fewE most L = L2) (m : Nat) (hm : L2.length = m) (w : World) (HE : EL w a L) :
    Calls Tryd.prog 6 #[.slice a len cap, .int .i64 mi] w fun r w' => ∃ g c, r = .returned (.slice (some ⟨g, 0, none⟩) m c) ∧ Rn w' g c 12 (evs L2) 46 ∧ w.heap.size ≤ g ∧ Below w.heap.size w w' := by
  subst hmi
  unfold maxLen at hlm
  have hm1 : m = min most len := by rw [← hm, ← h2, fewE_len, hl]
  have hm3 : m ≤ most := by omega
  have hm4 : m ≤ len := by omega
  have hm5 : most ≤ m ∨ len ≤ m := by omega
  clear hm1
  have HL := Lib.hid (And.intro hl (And.intro HE (And.intro h2 hm)))
  have H0 : Hid (Rn (w.alloc (.cells #[] 46)) w.heap.size 0 12 (evs (L2.take 0)) 46 ∧ Below w.heap.size w (w.alloc (.cells #[] 46))) := Lib.hid ⟨by rw [List.take_zero]; exact Rn.empty w 12 46, (Below.refl _ _).alloc (Nat.le_refl _) _⟩
  clear hl HE h2 hm
  go_enter Tryd.func6, Tryd.ntmps6
  go_wp2_with fail
  revert H0
  generalize (w.alloc (.cells #[] 46)) = W0
  intro H0
  go_wp2_with fail
  go_loopw [5, 6] (fun o i wr => ∃ (j g c : Nat), o = .slice (some ⟨g, 0, none⟩) j c ∧ i = .int .i64 j ∧ j ≤ m ∧ w.heap.size ≤ g ∧ Hid (Rn wr g c 12 (evs (L2.take j)) 46 ∧ Below w.heap.size w wr)) (fun _ i _ => m - (intOf i).toNat)
  case atStart => exact ⟨0, _, 0, rfl, rfl, by omega, Nat.le_refl _, H0⟩
  case round =>
    clear H0
    obtain ⟨j, g, c, rfl, rfl, hj, hg, HB⟩ := hrel
    have j0 : (0 : Int) ≤ (j : Int) := by omega
    by_cases hjm : j < m
    · have i1 : (j : Int) < (len : Int) := by omega
      have i2 : (j : Int) < (most : Int) := by omega
      have w1 : IntKind.i64.wrap ((j : Int) + 1) = (j : Int) + 1 := IntWalk.i64_in _ (by omega)
      obtain ⟨k, i, n, t, b, e, s0, s1, s2, s3, s4, s5, es⟩ : ∃ k i n t b e s0 s1 s2 s3 s4 s5, L[j]? = some ⟨k, i, n, t, b, e, s0, s1, s2, s3, s4, s5⟩ := ⟨_, _, _, _, _, _, _, _, _, _, _, _, List.getElem?_eq_getElem (by rw [HL.out.1]; omega)⟩
      obtain ⟨hb, ga, o, rfl, hgw, e0, e1, e2, e3, e4, e5, e6, e7, e8, e9, e10, e11⟩ := (HL.out.2.1.below HB.out.2).get es
      obtain ⟨b2, hb2⟩ : ∃ t, cutE b 24 = t := ⟨_, rfl⟩
      have HU : Hid (cutE b 24 = b2 ∧ L2.take (j + 1) = L2.take j ++ [⟨k, i, n, t, b2, e, s0, s1, s2, s3, s4, s5⟩] ∧ (evs (L2.take j)).length = j * 12 ∧ b.size ≤ maxLen) := Lib.hid ⟨hb2, by
        refine take_snocE ?_
        rw [← HL.out.2.2.1, fewE_at es (by omega), ← hb2]; rfl, by rw [evs_len, List.length_take, HL.out.2.2.2]; congr 1; omega, hb⟩
      clear es hb hb2
      have hj1000 : j ≤ 1000 := by omega
      go_upto_region 6 with fail
      have H1 : Hid ((Rn (wr.alloc (.cells #[.int .i64 k, .int .i64 i, .int .i64 n, .int .i64 t, .string b, .int .i64 e, .int .i64 s0, .int .i64 s1, .int .i64 s2, .int .i64 s3, .int .i64 s4, .int .i64 s5] 46)) g c 12 (evs (L2.take j)) 46 ∧ Below w.heap.size w (wr.alloc (.cells #[.int .i64 k, .int .i64 i, .int .i64 n, .int .i64 t, .string b, .int .i64 e, .int .i64 s0, .int .i64 s1, .int .i64 s2, .int .i64 s3, .int .i64 s4, .int .i64 s5] 46))) ∧ Blk (wr.alloc (.cells #[.int .i64 k, .int .i64 i, .int .i64 n, .int .i64 t, .string b, .int .i64 e, .int .i64 s0, .int .i64 s1, .int .i64 s2, .int .i64 s3, .int .i64 s4, .int .i64 s5] 46)) wr.heap.size [.int .i64 k, .int .i64 i, .int .i64 n, .int .i64 t, .string b, .int .i64 e, .int .i64 s0, .int .i64 s1, .int .i64 s2, .int .i64 s3, .int .i64 s4, .int .i64 s5] 46 ∧ g < wr.heap.size) := Lib.hid ⟨⟨HB.out.1.chg (l := []) ((Chg.refl [] wr).alloc _) (by simp), HB.out.2.alloc HB.out.2.size _⟩, Blk.newA _ _ _, HB.out.1.lt⟩
      clear e0 e1 e2 e3 e4 e5 e6 e7 e8 e9 e10 e11 HB
      revert H1
      generalize (wr.alloc (.cells #[.int .i64 k, .int .i64 i, .int .i64 n, .int .i64 t, .string b, .int .i64 e, .int .i64 s0, .int .i64 s1, .int .i64 s2, .int .i64 s3, .int .i64 s4, .int .i64 s5] 46)) = W1
      generalize wr.heap.size = X
      intro H1
      have d4 := H1.out.2.1.cell (i := 4) rfl
      have f4 := H1.out.2.1.free 4
      go_upto_region 7 with (first
        | (go_at_call 17; refine (ev_cut b b2 24 (by omega) HU.out.2.2.2 HU.out.1 24 rfl _).mono ?_; rintro e W2 ⟨rfl, rfl⟩)
        | fail)
      have H2 : Hid ((Rn (W1.setCell ⟨X, 4, none⟩ (.string b2)) g c 12 (evs (L2.take j)) 46 ∧ Below w.heap.size w (W1.setCell ⟨X, 4, none⟩ (.string b2))) ∧ Blk (W1.setCell ⟨X, 4, none⟩ (.string b2)) X [.int .i64 k, .int .i64 i, .int .i64 n, .int .i64 t, .string b2, .int .i64 e, .int .i64 s0, .int .i64 s1, .int .i64 s2, .int .i64 s3, .int .i64 s4, .int .i64 s5] 46) := Lib.hid (by
        have hlt := H1.out.2.2
        have k1 : Chg [X] W1 (W1.setCell ⟨X, 4, none⟩ (.string b2)) := (Chg.refl [X] W1).set (Or.inl (by simp)) _ _
        exact ⟨⟨H1.out.1.1.chg k1 (by simp; omega), k1.onto H1.out.1.2 H1.out.1.2.size (by simp; omega)⟩, H1.out.2.1.set 4 _⟩)
      clear d4 f4 H1
      revert H2
      generalize (W1.setCell ⟨X, 4, none⟩ (.string b2)) = W2
      intro H2
      have d0 := H2.out.2.cell (i := 0) rfl
      have d1 := H2.out.2.cell (i := 1) rfl
      have d2 := H2.out.2.cell (i := 2) rfl
      have d3 := H2.out.2.cell (i := 3) rfl
      have d4 := H2.out.2.cell (i := 4) rfl
      have d5 := H2.out.2.cell (i := 5) rfl
      have d6 := H2.out.2.cell (i := 6) rfl
      have d7 := H2.out.2.cell (i := 7) rfl
      have d8 := H2.out.2.cell (i := 8) rfl
      have d9 := H2.out.2.cell (i := 9) rfl
      have d10 := H2.out.2.cell (i := 10) rfl
      have d11 := H2.out.2.cell (i := 11) rfl
      go_wp2_with (at_builtin; refine wpList_append_rn _ rfl (.tmp 28) (.tmp 30) 22 22 rfl 46 (.agg #[.int .i64 0, .int .i64 0, .int .i64 0, .int .i64 0, .string ByteArray.empty, .int .i64 0, .int .i64 0, .int .i64 0, .int .i64 0, .int .i64 0, .int .i64 0, .int .i64 0]) 12 104 Tryd.underlying22 infoEv rfl g j c (evs (L2.take j)) rfl HU.out.2.2.1 (H2.out.1.1.chg (l := []) ((Chg.refl [] W2).alloc _) (by simp)) _ rfl 1 (Ev.c ⟨k, i, n, t, b2, e, s0, s1, s2, s3, s4, s5⟩) (Src.ofSlice _ Tryd.underlying22 ⟨_, 0, none⟩ 1 1 (Ev.c ⟨k, i, n, t, b2, e, s0, s1, s2, s3, s4, s5⟩) rfl (new_atE _ _ _) (Ev.c_one _)) (by omega) (by omega) ?_; intro g4 c4 w4 r1 r2 r3; have HN : Hid (w.heap.size ≤ g4 ∧ Rn w4 g4 c4 12 (evs (L2.take (j + 1))) 46 ∧ Below w.heap.size w w4) := Lib.hid (by
        have hs := H2.out.1.2.size
        have k1 : Below w.heap.size w (W2.alloc (.cells (Ev.c ⟨k, i, n, t, b2, e, s0, s1, s2, s3, s4, s5⟩).toArray 46)) := H2.out.1.2.alloc hs _
        refine ⟨?_, by rw [HU.out.2.1, evs_snoc]; exact r1, r3.onto k1 (by simp; omega) (by simp; omega)⟩
        rcases r2 with r2 | r2
        · omega
        · simp at r2; omega); clear r1 r2 r3)
      go_roundw
      case rel => exact ⟨j + 1, g4, c4, rfl, by go_num, by omega, HN.out.1, Lib.hid HN.out.2⟩
      case measure => simp [intOf]; omega
    · obtain rfl : j = m := by omega
      have HZ : Hid (Rn wr g c 12 (evs L2) 46 ∧ Below w.heap.size w wr) := Lib.hid ⟨by have := HB.out.1; rw [List.take_of_length_le (by rw [HL.out.2.2.2]; exact Nat.le_refl _)] at this; exact this, HB.out.2⟩
      by_cases hja : j < len
      · have i1 : (j : Int) < (len : Int) := by omega
        have i2 : ¬ (j : Int) < (most : Int) := by omega
        go_wp2_with fail
        go_ret
        exact ⟨g, c, rfl, HZ.out.1, hg, HZ.out.2⟩
      · have i1 : ¬ (j : Int) < (len : Int) := by omega
        go_wp2_with fail
        go_ret
        exact ⟨g, c, rfl, HZ.out.1, hg, HZ.out.2⟩
end Go.Proofs.YtdchedkhlfmpeaaDoor
