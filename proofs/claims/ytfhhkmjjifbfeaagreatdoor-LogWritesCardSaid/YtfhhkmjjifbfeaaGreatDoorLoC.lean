/- Several texts in one. -/
import Derived.Test.YtfhhkmjjifbfeaaGreatDoorEv1
import Derived.Test.YtfhhkmjjifbfeaaGreatDoorRnStep
import Derived.Test.YtfhhkmjjifbfeaaGreatDoorClass
import Derived.WalkKit
import Derived.ProofKit
import Derived.Handy
import Derived.WalkLawsBesides
import Derived.WalkSpells
import Derived.Lib.Hide
import Derived.Lib.SliceRun
import Derived.Deep.RegionLaw
import Derived.RegionTactic
import Derived.ChangeAlike
import Derived.WalkSmall
import Derived.Deep.QuietTactic
import Derived.BigQuiet
import Derived.OwnWalk
import Derived.Outline
import Derived.Deep.CutRange
import Derived.Deep.CutBlock
import Derived.LoopTactic
import Derived.Test.YtfhhkmjjifbfeaaGreatDoorLoB
import Derived.Test.YtfhhkmjjifbfeaaGreatDoorRm
import Derived.Test.YtfhhkmjjifbfeaaGreatDoorRw
import Derived.Test.YtfhhkmjjifbfeaaGreatDoorRwStep
import Derived.Test.YtfhhkmjjifbfeaaGreatDoorQtR4
import Derived.Stop.LaidErr
import Derived.Shelf.Vars
import Derived.Lib.LaidTab
/- Events: somewhat cut. -/
namespace Go.Proofs.YtfhhkmjjifbfeaaGreatDoor
open Go.ChangeShapes Go.WideShapes Go.ChangeAt Go.RowKit
set_option linter.unusedSimpArgs false
set_option linter.unusedVariables false

/-- A text, somewhat cut. -/
def cutE (s : ByteArray) (m : Nat) : ByteArray := if m < s.size then s.extract 0 m else s
theorem cutE_le (s : ByteArray) (m : Nat) : (cutE s m).size ≤ m := by
  unfold cutE
  split
  · rw [ByteArray.size_extract]; omega
  · omega
theorem ev_cut (s t : ByteArray) (m : Nat) (hm : m ≤ 1000) (hs : s.size ≤ maxLen) (ht : cutE s m = t) (mi : Int) (hmi : mi = m) (w : World) :
    Calls Tryz.prog 6 #[.string s, .int .i64 mi] w fun e w' => e = .returned (.string t) ∧ w = w' := by
  subst hmi
  unfold maxLen at hs
  unfold cutE at ht
  by_cases h : m < s.size
  · rw [if_pos h] at ht
    have i1 : (m : Int) < (s.size : Int) := by omega
    go_enter Tryz.func6, Tryz.ntmps6
    go_wp2
    go_ret
    exact ⟨rfl, rfl⟩
  · rw [if_neg h] at ht
    subst ht
    have i1 : ¬ (m : Int) < (s.size : Int) := by omega
    go_enter Tryz.func6, Tryz.ntmps6
    go_wp2
    go_ret
    exact ⟨rfl, rfl⟩
def Ev.cut (x : Ev) : Ev := ⟨x.k, x.i, x.n, x.t, cutE x.b 24, x.e, x.s0, x.s1, x.s2, x.s3, x.s4, x.s5⟩
theorem Ev.cut_ok {x : Ev} (h : x.ok) : x.cut.ok := ⟨Nat.le_trans (cutE_le _ _) (by unfold maxLen; omega), fun k z hz => h.2 k z (by
  simp only [Ev.cut, Ev.c, List.mem_cons, List.not_mem_nil, or_false, reduceCtorEq, false_or] at hz ⊢
  exact hz)⟩
/-- Events, somewhat cut. -/
def fewE (m : Nat) (L : List Ev) : List Ev := (L.take m).map Ev.cut
theorem fewE_len (m : Nat) (L : List Ev) : (fewE m L).length = min m L.length := by unfold fewE; rw [List.length_map, List.length_take]
theorem fewE_ok {m : Nat} {L : List Ev} (h : ∀ x ∈ L, x.ok) : ∀ x ∈ fewE m L, x.ok := by
  intro x hx
  obtain ⟨y, hy, rfl⟩ := List.mem_map.1 hx
  exact Ev.cut_ok (h y (List.mem_of_mem_take hy))
theorem fewE_b {m : Nat} {L : List Ev} : ∀ x ∈ fewE m L, x.b.size ≤ 24 := by
  intro x hx
  obtain ⟨y, hy, rfl⟩ := List.mem_map.1 hx
  exact cutE_le _ _
theorem fewE_at {m : Nat} {L : List Ev} {j : Nat} {x : Ev} (h : L[j]? = some x) (hj : j < m) : (fewE m L)[j]? = some x.cut := by
  unfold fewE; rw [List.getElem?_map, List.getElem?_take_of_lt hj, h]; rfl
theorem take_snocE {α : Type} {l : List α} {j : Nat} {x : α} (h : l[j]? = some x) : l.take (j + 1) = l.take j ++ [x] := by
  obtain ⟨hl, e⟩ := List.getElem?_eq_some_iff.1 h
  rw [List.take_succ_eq_append_getElem hl, e]
theorem EL.ok {w : World} {a : Option Addr} {L : List Ev} (h : EL w a L) : ∀ x ∈ L, x.ok := fun x hx => by
  obtain ⟨j, hj⟩ := List.getElem?_of_mem hx
  exact (h j x hj).1
theorem infoEv : (Tryz.prog.info? 26).map (fun i => (i.zero, i.size, i.bytes)) = some (some (.agg #[.int .i64 0, .int .i64 0, .int .i64 0, .int .i64 0, .string ByteArray.empty, .int .i64 0, .int .i64 0, .int .i64 0, .int .i64 0, .int .i64 0, .int .i64 0, .int .i64 0]), 12, 104) := by kernel_rfl
theorem new_atE (w : World) (cs : List Value) (T : TypeId) : ∀ j u, cs[j]? = some u → (w.alloc (.cells cs.toArray T)).cell? ((⟨w.heap.size, 0, none⟩ : Addr).add j) = some u := fun j u hj => by
  rw [Addr.add_lit, Nat.zero_add]; exact (Blk.new w cs T).cell hj
set_option maxRecDepth 20000 in
set_option maxHeartbeats 16000000 in
theorem few_ev (a : Option Addr) (len cap : Nat) (L : List Ev) (hl : L.length = len) (hlm : len ≤ maxLen) (most : Nat) (hmost : most ≤ 1000) (mi : Int) (hmi : mi = most) (L2 : List Ev) (h2 : fewE most L = L2) (m : Nat) (hm : L2.length = m) (w : World) (HE : EL w a L) :
    Calls Tryz.prog 17 #[.slice a len cap, .int .i64 mi] w fun r w' => ∃ g c, r = .returned (.slice (some ⟨g, 0, none⟩) m c) ∧ Rn w' g c 12 (evs L2) 26 ∧ w.heap.size ≤ g ∧ Below w.heap.size w w' := by
  subst hmi
  unfold maxLen at hlm
  have hm1 : m = min most len := by rw [← hm, ← h2, fewE_len, hl]
  have hm3 : m ≤ most := by omega
  have hm4 : m ≤ len := by omega
  have hm5 : most ≤ m ∨ len ≤ m := by omega
  clear hm1
  have HL := Lib.hid (And.intro hl (And.intro HE (And.intro h2 hm)))
  have H0 : Hid (Rn (w.alloc (.cells #[] 26)) w.heap.size 0 12 (evs (L2.take 0)) 26 ∧ Below w.heap.size w (w.alloc (.cells #[] 26))) := Lib.hid ⟨by rw [List.take_zero]; exact Rn.empty w 12 26, (Below.refl _ _).alloc (Nat.le_refl _) _⟩
  clear hl HE h2 hm
  go_enter Tryz.func17, Tryz.ntmps17
  go_wp2_with fail
  revert H0
  generalize (w.alloc (.cells #[] 26)) = W0
  intro H0
  go_wp2_with fail
  go_loopw [5, 6] (fun o i wr => ∃ (j g c : Nat), o = .slice (some ⟨g, 0, none⟩) j c ∧ i = .int .i64 j ∧ j ≤ m ∧ w.heap.size ≤ g ∧ Hid (Rn wr g c 12 (evs (L2.take j)) 26 ∧ Below w.heap.size w wr)) (fun _ i _ => m - (intOf i).toNat)
  case atStart => exact ⟨0, _, 0, rfl, rfl, by omega, Nat.le_refl _, H0⟩
  case round =>
    clear H0
    obtain ⟨j, g, c, rfl, rfl, hj, hg, HB⟩ := hrel
    have j0 : (0 : Int) ≤ (j : Int) := by omega
    by_cases hjm : j < m
    · have i1 : (j : Int) < (len : Int) := by omega
      have i2 : (j : Int) < (most : Int) := by omega
      have w1 : IntKind.i64.wrap ((j : Int) + 1) = (j : Int) + 1 := IntWalk.i64_in _ (by omega)
      obtain ⟨k, i, n, t, b, e, s0, s1, s2, s3, s4, s5, es⟩ : ∃ k i n t b e s0 s1 s2 s3 s4 s5, L[j]? = some ⟨k, i, n, t, b, e, s0, s1, s2, s3, s4, s5⟩ := ⟨_, _, _, _, _, _, _, _, _, _, _, _, List.getElem?_eq_getElem (by rw [HL.out.1]; omega)⟩
      obtain ⟨hb, ga, o, rfl, hgw, e0, e1, e2, e3, e4, e5, e6, e7, e8, e9, e10, e11⟩ := (HL.out.2.1.below HB.out.2).get es
      obtain ⟨b2, hb2⟩ : ∃ t, cutE b 24 = t := ⟨_, rfl⟩
      have HU : Hid (cutE b 24 = b2 ∧ L2.take (j + 1) = L2.take j ++ [⟨k, i, n, t, b2, e, s0, s1, s2, s3, s4, s5⟩] ∧ (evs (L2.take j)).length = j * 12 ∧ b.size ≤ maxLen) := Lib.hid ⟨hb2, by
        refine take_snocE ?_
        rw [← HL.out.2.2.1, fewE_at es (by omega), ← hb2]; rfl, by rw [evs_len, List.length_take, HL.out.2.2.2]; congr 1; omega, hb⟩
      clear es hb hb2
      have hj1000 : j ≤ 1000 := by omega
      go_upto_region 6 with fail
      have H1 : Hid ((Rn (wr.alloc (.cells #[.int .i64 k, .int .i64 i, .int .i64 n, .int .i64 t, .string b, .int .i64 e, .int .i64 s0, .int .i64 s1, .int .i64 s2, .int .i64 s3, .int .i64 s4, .int .i64 s5] 26)) g c 12 (evs (L2.take j)) 26 ∧ Below w.heap.size w (wr.alloc (.cells #[.int .i64 k, .int .i64 i, .int .i64 n, .int .i64 t, .string b, .int .i64 e, .int .i64 s0, .int .i64 s1, .int .i64 s2, .int .i64 s3, .int .i64 s4, .int .i64 s5] 26))) ∧ Blk (wr.alloc (.cells #[.int .i64 k, .int .i64 i, .int .i64 n, .int .i64 t, .string b, .int .i64 e, .int .i64 s0, .int .i64 s1, .int .i64 s2, .int .i64 s3, .int .i64 s4, .int .i64 s5] 26)) wr.heap.size [.int .i64 k, .int .i64 i, .int .i64 n, .int .i64 t, .string b, .int .i64 e, .int .i64 s0, .int .i64 s1, .int .i64 s2, .int .i64 s3, .int .i64 s4, .int .i64 s5] 26 ∧ g < wr.heap.size) := Lib.hid ⟨⟨HB.out.1.chg (l := []) ((Chg.refl [] wr).alloc _) (by simp), HB.out.2.alloc HB.out.2.size _⟩, Blk.newA _ _ _, HB.out.1.lt⟩
      clear e0 e1 e2 e3 e4 e5 e6 e7 e8 e9 e10 e11 HB
      revert H1
      generalize (wr.alloc (.cells #[.int .i64 k, .int .i64 i, .int .i64 n, .int .i64 t, .string b, .int .i64 e, .int .i64 s0, .int .i64 s1, .int .i64 s2, .int .i64 s3, .int .i64 s4, .int .i64 s5] 26)) = W1
      generalize wr.heap.size = X
      intro H1
      have d4 := H1.out.2.1.cell (i := 4) rfl
      have f4 := H1.out.2.1.free 4
      go_upto_region 7 with (first
        | (go_at_call 6; refine (ev_cut b b2 24 (by omega) HU.out.2.2.2 HU.out.1 24 rfl _).mono ?_; rintro e W2 ⟨rfl, rfl⟩)
        | fail)
      have H2 : Hid ((Rn (W1.setCell ⟨X, 4, none⟩ (.string b2)) g c 12 (evs (L2.take j)) 26 ∧ Below w.heap.size w (W1.setCell ⟨X, 4, none⟩ (.string b2))) ∧ Blk (W1.setCell ⟨X, 4, none⟩ (.string b2)) X [.int .i64 k, .int .i64 i, .int .i64 n, .int .i64 t, .string b2, .int .i64 e, .int .i64 s0, .int .i64 s1, .int .i64 s2, .int .i64 s3, .int .i64 s4, .int .i64 s5] 26) := Lib.hid (by
        have hlt := H1.out.2.2
        have k1 : Chg [X] W1 (W1.setCell ⟨X, 4, none⟩ (.string b2)) := (Chg.refl [X] W1).set (Or.inl (by simp)) _ _
        exact ⟨⟨H1.out.1.1.chg k1 (by simp; omega), k1.onto H1.out.1.2 H1.out.1.2.size (by simp; omega)⟩, H1.out.2.1.set 4 _⟩)
      clear d4 f4 H1
      revert H2
      generalize (W1.setCell ⟨X, 4, none⟩ (.string b2)) = W2
      intro H2
      have d0 := H2.out.2.cell (i := 0) rfl
      have d1 := H2.out.2.cell (i := 1) rfl
      have d2 := H2.out.2.cell (i := 2) rfl
      have d3 := H2.out.2.cell (i := 3) rfl
      have d4 := H2.out.2.cell (i := 4) rfl
      have d5 := H2.out.2.cell (i := 5) rfl
      have d6 := H2.out.2.cell (i := 6) rfl
      have d7 := H2.out.2.cell (i := 7) rfl
      have d8 := H2.out.2.cell (i := 8) rfl
      have d9 := H2.out.2.cell (i := 9) rfl
      have d10 := H2.out.2.cell (i := 10) rfl
      have d11 := H2.out.2.cell (i := 11) rfl
      go_wp2_with (at_builtin; refine wpList_append_rn _ rfl (.tmp 28) (.tmp 30) 38 38 rfl 26 (.agg #[.int .i64 0, .int .i64 0, .int .i64 0, .int .i64 0, .string ByteArray.empty, .int .i64 0, .int .i64 0, .int .i64 0, .int .i64 0, .int .i64 0, .int .i64 0, .int .i64 0]) 12 104 Tryz.underlying38 infoEv rfl g j c (evs (L2.take j)) rfl HU.out.2.2.1 (H2.out.1.1.chg (l := []) ((Chg.refl [] W2).alloc _) (by simp)) _ rfl 1 (Ev.c ⟨k, i, n, t, b2, e, s0, s1, s2, s3, s4, s5⟩) (Src.ofSlice _ Tryz.underlying38 ⟨_, 0, none⟩ 1 1 (Ev.c ⟨k, i, n, t, b2, e, s0, s1, s2, s3, s4, s5⟩) rfl (new_atE _ _ _) (Ev.c_one _)) (by omega) (by omega) ?_; intro g4 c4 w4 r1 r2 r3; have HN : Hid (w.heap.size ≤ g4 ∧ Rn w4 g4 c4 12 (evs (L2.take (j + 1))) 26 ∧ Below w.heap.size w w4) := Lib.hid (by
        have hs := H2.out.1.2.size
        have k1 : Below w.heap.size w (W2.alloc (.cells (Ev.c ⟨k, i, n, t, b2, e, s0, s1, s2, s3, s4, s5⟩).toArray 26)) := H2.out.1.2.alloc hs _
        refine ⟨?_, by rw [HU.out.2.1, evs_snoc]; exact r1, r3.onto k1 (by simp; omega) (by simp; omega)⟩
        rcases r2 with r2 | r2
        · omega
        · simp at r2; omega); clear r1 r2 r3)
      go_roundw
      case rel => exact ⟨j + 1, g4, c4, rfl, by go_num, by omega, HN.out.1, Lib.hid HN.out.2⟩
      case measure => simp [intOf]; omega
    · obtain rfl : j = m := by omega
      have HZ : Hid (Rn wr g c 12 (evs L2) 26 ∧ Below w.heap.size w wr) := Lib.hid ⟨by have := HB.out.1; rw [List.take_of_length_le (by rw [HL.out.2.2.2]; exact Nat.le_refl _)] at this; exact this, HB.out.2⟩
      by_cases hja : j < len
      · have i1 : (j : Int) < (len : Int) := by omega
        have i2 : ¬ (j : Int) < (most : Int) := by omega
        go_wp2_with fail
        go_ret
        exact ⟨g, c, rfl, HZ.out.1, hg, HZ.out.2⟩
      · have i1 : ¬ (j : Int) < (len : Int) := by omega
        go_wp2_with fail
        go_ret
        exact ⟨g, c, rfl, HZ.out.1, hg, HZ.out.2⟩
end Go.Proofs.YtfhhkmjjifbfeaaGreatDoor
/- Log: the events of lines. -/
namespace Go.Proofs.YtfhhkmjjifbfeaaGreatDoor
open Go.ChangeShapes Go.WideShapes Go.ChangeAt Go.RowKit
set_option linter.unusedSimpArgs false
set_option linter.unusedVariables false

/-- How many lines, from the first on, are events. -/
noncomputable def Lo.okn : List ByteArray → Nat
  | [] => 0
  | z :: r => if (Lo.parse z).2 = 0 then Lo.okn r + 1 else 0
theorem Lo.okn_le : ∀ M : List ByteArray, Lo.okn M ≤ M.length
  | [] => Nat.le_refl _
  | z :: r => by
    rw [Lo.okn]
    split
    · have := Lo.okn_le r; simp only [List.length_cons]; omega
    · simp
theorem Lo.okn_hit : ∀ (M : List ByteArray) (k : Nat) (X : ByteArray), M[k]? = some X → k ≤ Lo.okn M → (Lo.parse X).2 ≠ 0 → Lo.okn M = k
  | [], k, X, h, _, _ => by simp at h
  | z :: r, 0, X, h, _, hx => by
    have e : z = X := by simpa using h
    rw [Lo.okn, if_neg (by rw [e]; exact hx)]
  | z :: r, k + 1, X, h, hk, hx => by
    rw [Lo.okn] at hk ⊢
    by_cases hz : (Lo.parse z).2 = 0
    · rw [if_pos hz] at hk ⊢
      rw [Lo.okn_hit r k X (by simpa using h) (by omega) hx]
    · rw [if_neg hz] at hk; omega
theorem Lo.okn_next : ∀ (M : List ByteArray) (k : Nat) (X : ByteArray), M[k]? = some X → k ≤ Lo.okn M → (Lo.parse X).2 = 0 → k + 1 ≤ Lo.okn M
  | [], k, X, h, _, _ => by simp at h
  | z :: r, 0, X, h, _, hx => by
    have e : z = X := by simpa using h
    rw [Lo.okn, if_pos (by rw [e]; exact hx)]; omega
  | z :: r, k + 1, X, h, hk, hx => by
    rw [Lo.okn] at hk ⊢
    by_cases hz : (Lo.parse z).2 = 0
    · rw [if_pos hz] at hk ⊢
      have := Lo.okn_next r k X (by simpa using h) (by omega) hx
      omega
    · rw [if_neg hz] at hk; omega
/-- The lines that are read: without the last one, if it is empty. -/
def Lo.trim (L : List ByteArray) : List ByteArray := if L[L.length - 1]? = some { data := #[] } then L.take (L.length - 1) else L
def Lo.lines (l : List UInt8) : List ByteArray := Lo.trim (Lo.spB 10 l)
theorem Lo.trim_at (L : List ByteArray) (k : Nat) (X : ByteArray) (h : (Lo.trim L)[k]? = some X) : L[k]? = some X := by
  unfold Lo.trim at h
  split at h
  · rw [List.getElem?_take] at h
    split at h
    · exact h
    · cases h
  · exact h
theorem Lo.spB_le (c : UInt8) (l : List UInt8) : 0 < (Lo.spB c l).length ∧ (Lo.spB c l).length ≤ l.length + 1 ∧ ∀ x ∈ Lo.spB c l, x.size ≤ l.length := by
  obtain ⟨a, m, h⟩ := Lo.sp_ne c l
  have h2 := Lo.sp_le c l
  unfold Lo.spB
  rw [List.length_map]
  refine ⟨by rw [h]; simp, h2.1, fun x hx => ?_⟩
  obtain ⟨z, hz, rfl⟩ := List.mem_map.1 hx
  rw [Le.t_size]
  exact h2.2 z hz
/-- The events of lines. -/
noncomputable def Lo.evl (M : List ByteArray) : List Ev := M.map fun z => (Lo.parse z).1
theorem Lo.evl_len (M : List ByteArray) : (Lo.evl M).length = M.length := List.length_map _
theorem Lo.evl_next {M : List ByteArray} {k : Nat} {X : ByteArray} (h : M[k]? = some X) : (Lo.evl M).take (k + 1) = (Lo.evl M).take k ++ [(Lo.parse X).1] := by
  refine take_snocE ?_
  unfold Lo.evl
  rw [List.getElem?_map, h]; rfl
/-- What Read works on. -/
structure LD (w W : World) (bk base : Nat) (ls : List Value) (r : Option Addr) (k c : Nat) (rows : List Value) : Prop where
  bl : Blk W bk ls 9
  rm : RM W base r k c 12 rows 26
  be : Below w.heap.size w W
  lt : w.heap.size ≤ bk ∧ bk < base
theorem LD.chg {w W W' : World} {bk base : Nat} {ls : List Value} {r : Option Addr} {k c : Nat} {rows : List Value} (h : LD w W bk base ls r k c rows) (q : Below W.heap.size W W') : LD w W' bk base ls r k c rows :=
  ⟨h.bl.chg (l := []) (Chg.of_fresh q) (by simp), h.rm.chg (l := []) (Chg.of_fresh q) (by simp), h.be.trans (q.mono h.be.size), h.lt⟩
theorem LD.push {w W W1 W' : World} {bk base : Nat} {ls : List Value} {r : Option Addr} {k c : Nat} {rows : List Value} (h : LD w W bk base ls r k c rows) {g' c' : Nat} {rows' : List Value} (q : Below W.heap.size W W1) (r1 : RM W' base (some ⟨g', 0, none⟩) (k + 1) c' 12 rows' 26) (r3 : Chg (rvB r) W1 W') : LD w W' bk base ls (some ⟨g', 0, none⟩) (k + 1) c' rows' := by
  have h1 := h.chg q
  have hb : ∀ g ∈ rvB r, base ≤ g := fun g hg => (h1.rm.lt g hg).1
  have hl := h.lt
  exact ⟨h1.bl.chg r3 (fun hg => by have := hb _ hg; omega), r1, r3.onto h1.be h1.be.size (fun g hg => by have := hb g hg; omega), hl⟩
theorem lo_parse12 (s : ByteArray) (hs : s.size ≤ 4000) (k i n t : Int) (b : ByteArray) (e s0 s1 s2 s3 s4 s5 er : Int) (hx : Lo.parse s = (⟨k, i, n, t, b, e, s0, s1, s2, s3, s4, s5⟩, er)) (w : World) (htab : Lib.TabIs Tryz.prog w "internal/strconv.uint64pow10" .u64 Lib.pow10Tab) (hni : NI w) (hwi : WI w) (hsi : SI w) :
    Calls Tryz.prog 15 #[.string s] w fun r w' => r = .returned (.tuple #[.agg #[.int .i64 k, .int .i64 i, .int .i64 n, .int .i64 t, .string b, .int .i64 e, .int .i64 s0, .int .i64 s1, .int .i64 s2, .int .i64 s3, .int .i64 s4, .int .i64 s5], .int .i64 er]) ∧ Below w.heap.size w w' := lo_parse s hs ⟨k, i, n, t, b, e, s0, s1, s2, s3, s4, s5⟩ er hx w htab hni hwi hsi
set_option maxRecDepth 20000 in
set_option maxHeartbeats 16000000 in
theorem lo_readAll (s : ByteArray) (hs : s.size ≤ 4000) (M : List ByteArray) (hM : Lo.lines s.data.toList = M) (m : Nat) (hm : M.length = m) (p : Nat) (hp : Lo.okn M = p) (w : World) (htab : Lib.TabIs Tryz.prog w "internal/strconv.uint64pow10" .u64 Lib.pow10Tab) (hni : NI w) (hwi : WI w) (hsi : SI w) :
    Calls Tryz.prog 19 #[.string s] w fun e w' => (p < m ∧ e = .returned (.tuple #[.slice none 0 0, .int .i64 ((p : Int) + 1), .int .i64 2]) ∧ Below w.heap.size w w') ∨ (p = m ∧ ∃ r c, e = .returned (.tuple #[.slice r m c, .int .i64 0, .int .i64 0]) ∧ ∃ base, w.heap.size ≤ base ∧ RM w' base r m c 12 (evs (Lo.evl M)) 26 ∧ Below w.heap.size w w') := by
  obtain ⟨L, hL⟩ : ∃ L, Lo.spB 10 s.data.toList = L := ⟨_, rfl⟩
  obtain ⟨N, hn⟩ : ∃ N, L.length = N := ⟨_, rfl⟩
  have hsz : s.data.toList.length = s.size := rfl
  have hle := Lo.spB_le 10 s.data.toList
  rw [hL, hn] at hle
  have hM2 : Lo.trim L = M := by rw [← hL]; exact hM
  have hMk : ∀ (j : Nat) (X : ByteArray), M[j]? = some X → (L.map Value.string)[j]? = some (.string X) ∧ X.size ≤ 4000 := fun j X h => by
    have h1 := Lo.trim_at L j X (by rw [hM2]; exact h)
    refine ⟨by rw [List.getElem?_map, h1]; rfl, ?_⟩
    have h2 := hle.2.2 X (List.mem_of_getElem? h1)
    omega
  obtain ⟨n1, hn1⟩ : ∃ n1, N = n1 + 1 := ⟨N - 1, by omega⟩
  obtain ⟨X9, hX9⟩ : ∃ X, L[n1]? = some X := ⟨_, List.getElem?_eq_getElem (by omega)⟩
  have hn5 : N ≤ 5000 := by omega
  have hlast : (L.map Value.string)[n1]? = some (.string X9) := by rw [List.getElem?_map, hX9]; rfl
  have htrim : M = if X9 = { data := #[] } then L.take n1 else L := by
    rw [← hM2]
    unfold Lo.trim
    rw [hn, hn1, Nat.add_sub_cancel, hX9]
    by_cases h : X9 = { data := #[] }
    · rw [if_pos h, if_pos (by rw [h])]
    · rw [if_neg h, if_neg (by intro h2; injection h2 with h2; exact h h2)]
  obtain ⟨ls, hls⟩ : ∃ ls, L.map Value.string = ls := ⟨_, rfl⟩
  rw [hls] at hlast
  rw [hls] at hMk
  have HC := Lib.hid (And.intro hs (And.intro hL (And.intro hn hls)))
  have HM := Lib.hid (And.intro hm (And.intro hMk hp))
  have HI := Lib.hid (And.intro htab (And.intro hni (And.intro hwi hsi)))
  have hmm : m = if X9 = { data := #[] } then n1 else N := by
    rw [← hm, htrim]
    split
    · rw [List.length_take]; omega
    · exact hn
  clear hs hM hL hn hsz hle hM2 hMk hX9 htrim htab hni hwi hsi hls hm hp
  have i0 : (0 : Int) ≤ (n1 : Int) := by omega
  have i9 : (n1 : Int) < (N : Int) := by omega
  have i8 : (n1 : Int) ≤ (N : Int) := by omega
  have w0 : IntKind.i64.wrap ((N : Int) - 1) = (n1 : Int) := by rw [IntWalk.i64_in _ (by omega)]; omega
  clear hn1
  go_enter Tryz.func19, Tryz.ntmps19
  go_upto_region 2 with (go_at_call 35; (with_reducible refine (lo_split 10 s (by have := HC.out.1; omega) L HC.out.2.1 N HC.out.2.2.1 _ HI.out.2.1).mono ?_); rintro e1 V1 ⟨bk, rfl, q1, q2, q3⟩; have HD : Hid (LD w V1 bk V1.heap.size ls none 0 0 (evs ((Lo.evl M).take 0))) := Lib.hid ⟨by rw [← HC.out.2.2.2]; exact q1, RM.nil _ _ _ _ (Nat.le_refl _), q3, q2, q1.lt⟩; clear q1 q2 q3)
  have c9 := HD.out.bl.cell (i := n1) hlast
  revert HD
  generalize V1.heap.size = base
  intro HD
  by_cases h9 : X9 = { data := #[] }
  · rw [if_pos h9] at hmm
    have b9 := Lo.txt_eq (W := X9) (l := []) (by rw [h9])
    clear h9 hlast
    subst hmm
    go_wp2_with fail
    go_loopw [6, 27] (fun sl iv wr => ∃ (j c : Nat) (r : Option Addr), sl = .slice r j c ∧ iv = .int .i64 j ∧ j ≤ m ∧ j ≤ p ∧ Hid (LD w wr bk base ls r j c (evs ((Lo.evl M).take j)))) (fun _ iv _ => m - (intOf iv).toNat)
    case atStart => exact ⟨0, 0, none, rfl, rfl, by omega, by omega, HD⟩
    case round =>
      clear HD
      obtain ⟨j, c, r, rfl, rfl, hj, hjp, HD⟩ := hrel
      have j0 : (0 : Int) ≤ (j : Int) := by omega
      by_cases hjm : j < m
      · have i1 : (j : Int) < (m : Int) := by omega
        have w1 : IntKind.i64.wrap ((j : Int) + 1) = (j : Int) + 1 := IntWalk.i64_in _ (by omega)
        obtain ⟨X, hX⟩ : ∃ X, M[j]? = some X := ⟨_, List.getElem?_eq_getElem (by have := HM.out.1; omega)⟩
        obtain ⟨⟨k, i, n, t, b, e, s0, s1, s2, s3, s4, s5⟩, er, hpar⟩ : ∃ x er, Lo.parse X = (x, er) := ⟨_, _, rfl⟩
        have hL := HM.out.2.1 j X hX
        have cX := HD.out.bl.cell (i := j) hL.1
        have HX := Lib.hid (And.intro hX (And.intro hL.2 hpar))
        clear hX hL hpar
        go_upto_region 8 with fail
        clear cX
        go_upto_region 9 with (go_at_call 15; (with_reducible refine (lo_parse12 X HX.out.2.1 k i n t b e s0 s1 s2 s3 s4 s5 er HX.out.2.2 _ (tab_below HD.out.be HI.out.1) (HI.out.2.1.below HD.out.be) (HI.out.2.2.1.below HD.out.be) (HI.out.2.2.2.below HD.out.be)).mono ?_); rintro e1 V1 ⟨rfl, q3⟩; have HDn := Lib.hid (HD.out.chg q3); clear HD; have HD := HDn; clear HDn q3)
        have HK : Hid (LD w (V1.alloc (.cells #[.int .i64 k, .int .i64 i, .int .i64 n, .int .i64 t, .string b, .int .i64 e, .int .i64 s0, .int .i64 s1, .int .i64 s2, .int .i64 s3, .int .i64 s4, .int .i64 s5] 26)) bk base ls r j c (evs ((Lo.evl M).take j)) ∧ Blk (V1.alloc (.cells #[.int .i64 k, .int .i64 i, .int .i64 n, .int .i64 t, .string b, .int .i64 e, .int .i64 s0, .int .i64 s1, .int .i64 s2, .int .i64 s3, .int .i64 s4, .int .i64 s5] 26)) V1.heap.size [.int .i64 k, .int .i64 i, .int .i64 n, .int .i64 t, .string b, .int .i64 e, .int .i64 s0, .int .i64 s1, .int .i64 s2, .int .i64 s3, .int .i64 s4, .int .i64 s5] 26) := Lib.hid ⟨HD.out.chg ((Below.refl _ _).alloc (Nat.le_refl _) _), Blk.newA _ _ _⟩
        clear HD
        revert HK
        generalize (V1.alloc (.cells #[.int .i64 k, .int .i64 i, .int .i64 n, .int .i64 t, .string b, .int .i64 e, .int .i64 s0, .int .i64 s1, .int .i64 s2, .int .i64 s3, .int .i64 s4, .int .i64 s5] 26)) = W1
        generalize V1.heap.size = Y
        intro HK
        by_cases her : er = 0
        · subst her
          have d0 := HK.out.2.cell (i := 0) rfl
          have d1 := HK.out.2.cell (i := 1) rfl
          have d2 := HK.out.2.cell (i := 2) rfl
          have d3 := HK.out.2.cell (i := 3) rfl
          have d4 := HK.out.2.cell (i := 4) rfl
          have d5 := HK.out.2.cell (i := 5) rfl
          have d6 := HK.out.2.cell (i := 6) rfl
          have d7 := HK.out.2.cell (i := 7) rfl
          have d8 := HK.out.2.cell (i := 8) rfl
          have d9 := HK.out.2.cell (i := 9) rfl
          have d10 := HK.out.2.cell (i := 10) rfl
          have d11 := HK.out.2.cell (i := 11) rfl
          have HS : Hid ((Lo.evl M).take (j + 1) = (Lo.evl M).take j ++ [⟨k, i, n, t, b, e, s0, s1, s2, s3, s4, s5⟩] ∧ j + 1 ≤ p) := Lib.hid (by
            have h2 := HX.out.2.2
            refine ⟨?_, ?_⟩
            · rw [Lo.evl_next HX.out.1, h2]
            · rw [← HM.out.2.2]
              exact Lo.okn_next M j X HX.out.1 (by rw [HM.out.2.2]; exact hjp) (by rw [h2]))
          go_wp2_with (at_builtin; refine wpList_append_rm _ rfl (.tmp 42) (.tmp 44) 38 38 rfl 26 (.agg #[.int .i64 0, .int .i64 0, .int .i64 0, .int .i64 0, .string ByteArray.empty, .int .i64 0, .int .i64 0, .int .i64 0, .int .i64 0, .int .i64 0, .int .i64 0, .int .i64 0]) 12 104 Tryz.underlying38 infoEv rfl base r j c (evs ((Lo.evl M).take j)) rfl (HK.out.1.rm.chg (l := []) ((Chg.refl [] W1).alloc _) (by simp)) _ rfl 1 (by omega) (Ev.c ⟨k, i, n, t, b, e, s0, s1, s2, s3, s4, s5⟩) (Src.ofSlice _ Tryz.underlying38 ⟨_, 0, none⟩ 1 1 (Ev.c ⟨k, i, n, t, b, e, s0, s1, s2, s3, s4, s5⟩) rfl (new_atE _ _ _) (Ev.c_one _)) (by omega) (by omega) ?_; intro g4 c4 w4 r1 r2 r3; have HN : Hid (LD w w4 bk base ls (some ⟨g4, 0, none⟩) (j + 1) c4 (evs ((Lo.evl M).take (j + 1)))) := Lib.hid (HK.out.1.push ((Below.refl _ _).alloc (Nat.le_refl _) _) (by rw [HS.out.1, evs_snoc]; exact r1) r3); clear r1 r2 r3)
          go_roundw
          case rel => exact ⟨j + 1, c4, some ⟨g4, 0, none⟩, rfl, by go_num, by omega, HS.out.2, HN⟩
          case measure => simp [intOf]; omega
        · have HP : Hid (p = j ∧ er = 2) := Lib.hid (by
            have h2 := HX.out.2.2
            refine ⟨?_, (Lo.parse_no h2 her).2⟩
            rw [← HM.out.2.2]
            exact Lo.okn_hit M j X HX.out.1 (by rw [HM.out.2.2]; exact hjp) (by rw [h2]; exact her))
          go_wp2_with fail
          go_ret3
          refine Or.inl ⟨by rw [HP.out.1]; omega, ?_, HK.out.1.be⟩
          obtain ⟨h3, h4⟩ := HP.out
          subst h3 h4
          simp
      · obtain rfl : j = m := by omega
        have i1 : ¬ (j : Int) < (j : Int) := by omega
        have HZ : Hid (p = j ∧ RM wr base r j c 12 (evs (Lo.evl M)) 26) := Lib.hid ⟨by have := HM.out.1; have h2 := Lo.okn_le M; rw [HM.out.2.2] at h2; omega, by have := HD.out.rm; rw [List.take_of_length_le (by rw [Lo.evl_len, HM.out.1]; exact Nat.le_refl _)] at this; exact this⟩
        go_wp2_with fail
        go_ret3
        exact Or.inr ⟨HZ.out.1, r, c, rfl, base, by have := HD.out.lt; omega, HZ.out.2, HD.out.be⟩
  · rw [if_neg h9] at hmm
    have b9 := Lo.txt_ne (W := X9) (l := []) (fun h => h9 (ByteArray.ext (Array.ext' h)))
    clear h9 hlast
    subst hmm
    go_wp2_with fail
    go_loopw [6, 27] (fun sl iv wr => ∃ (j c : Nat) (r : Option Addr), sl = .slice r j c ∧ iv = .int .i64 j ∧ j ≤ m ∧ j ≤ p ∧ Hid (LD w wr bk base ls r j c (evs ((Lo.evl M).take j)))) (fun _ iv _ => m - (intOf iv).toNat)
    case atStart => exact ⟨0, 0, none, rfl, rfl, by omega, by omega, HD⟩
    case round =>
      clear HD
      obtain ⟨j, c, r, rfl, rfl, hj, hjp, HD⟩ := hrel
      have j0 : (0 : Int) ≤ (j : Int) := by omega
      by_cases hjm : j < m
      · have i1 : (j : Int) < (m : Int) := by omega
        have w1 : IntKind.i64.wrap ((j : Int) + 1) = (j : Int) + 1 := IntWalk.i64_in _ (by omega)
        obtain ⟨X, hX⟩ : ∃ X, M[j]? = some X := ⟨_, List.getElem?_eq_getElem (by have := HM.out.1; omega)⟩
        obtain ⟨⟨k, i, n, t, b, e, s0, s1, s2, s3, s4, s5⟩, er, hpar⟩ : ∃ x er, Lo.parse X = (x, er) := ⟨_, _, rfl⟩
        have hL := HM.out.2.1 j X hX
        have cX := HD.out.bl.cell (i := j) hL.1
        have HX := Lib.hid (And.intro hX (And.intro hL.2 hpar))
        clear hX hL hpar
        go_upto_region 8 with fail
        clear cX
        go_upto_region 9 with (go_at_call 15; (with_reducible refine (lo_parse12 X HX.out.2.1 k i n t b e s0 s1 s2 s3 s4 s5 er HX.out.2.2 _ (tab_below HD.out.be HI.out.1) (HI.out.2.1.below HD.out.be) (HI.out.2.2.1.below HD.out.be) (HI.out.2.2.2.below HD.out.be)).mono ?_); rintro e1 V1 ⟨rfl, q3⟩; have HDn := Lib.hid (HD.out.chg q3); clear HD; have HD := HDn; clear HDn q3)
        have HK : Hid (LD w (V1.alloc (.cells #[.int .i64 k, .int .i64 i, .int .i64 n, .int .i64 t, .string b, .int .i64 e, .int .i64 s0, .int .i64 s1, .int .i64 s2, .int .i64 s3, .int .i64 s4, .int .i64 s5] 26)) bk base ls r j c (evs ((Lo.evl M).take j)) ∧ Blk (V1.alloc (.cells #[.int .i64 k, .int .i64 i, .int .i64 n, .int .i64 t, .string b, .int .i64 e, .int .i64 s0, .int .i64 s1, .int .i64 s2, .int .i64 s3, .int .i64 s4, .int .i64 s5] 26)) V1.heap.size [.int .i64 k, .int .i64 i, .int .i64 n, .int .i64 t, .string b, .int .i64 e, .int .i64 s0, .int .i64 s1, .int .i64 s2, .int .i64 s3, .int .i64 s4, .int .i64 s5] 26) := Lib.hid ⟨HD.out.chg ((Below.refl _ _).alloc (Nat.le_refl _) _), Blk.newA _ _ _⟩
        clear HD
        revert HK
        generalize (V1.alloc (.cells #[.int .i64 k, .int .i64 i, .int .i64 n, .int .i64 t, .string b, .int .i64 e, .int .i64 s0, .int .i64 s1, .int .i64 s2, .int .i64 s3, .int .i64 s4, .int .i64 s5] 26)) = W1
        generalize V1.heap.size = Y
        intro HK
        by_cases her : er = 0
        · subst her
          have d0 := HK.out.2.cell (i := 0) rfl
          have d1 := HK.out.2.cell (i := 1) rfl
          have d2 := HK.out.2.cell (i := 2) rfl
          have d3 := HK.out.2.cell (i := 3) rfl
          have d4 := HK.out.2.cell (i := 4) rfl
          have d5 := HK.out.2.cell (i := 5) rfl
          have d6 := HK.out.2.cell (i := 6) rfl
          have d7 := HK.out.2.cell (i := 7) rfl
          have d8 := HK.out.2.cell (i := 8) rfl
          have d9 := HK.out.2.cell (i := 9) rfl
          have d10 := HK.out.2.cell (i := 10) rfl
          have d11 := HK.out.2.cell (i := 11) rfl
          have HS : Hid ((Lo.evl M).take (j + 1) = (Lo.evl M).take j ++ [⟨k, i, n, t, b, e, s0, s1, s2, s3, s4, s5⟩] ∧ j + 1 ≤ p) := Lib.hid (by
            have h2 := HX.out.2.2
            refine ⟨?_, ?_⟩
            · rw [Lo.evl_next HX.out.1, h2]
            · rw [← HM.out.2.2]
              exact Lo.okn_next M j X HX.out.1 (by rw [HM.out.2.2]; exact hjp) (by rw [h2]))
          go_wp2_with (at_builtin; refine wpList_append_rm _ rfl (.tmp 42) (.tmp 44) 38 38 rfl 26 (.agg #[.int .i64 0, .int .i64 0, .int .i64 0, .int .i64 0, .string ByteArray.empty, .int .i64 0, .int .i64 0, .int .i64 0, .int .i64 0, .int .i64 0, .int .i64 0, .int .i64 0]) 12 104 Tryz.underlying38 infoEv rfl base r j c (evs ((Lo.evl M).take j)) rfl (HK.out.1.rm.chg (l := []) ((Chg.refl [] W1).alloc _) (by simp)) _ rfl 1 (by omega) (Ev.c ⟨k, i, n, t, b, e, s0, s1, s2, s3, s4, s5⟩) (Src.ofSlice _ Tryz.underlying38 ⟨_, 0, none⟩ 1 1 (Ev.c ⟨k, i, n, t, b, e, s0, s1, s2, s3, s4, s5⟩) rfl (new_atE _ _ _) (Ev.c_one _)) (by omega) (by omega) ?_; intro g4 c4 w4 r1 r2 r3; have HN : Hid (LD w w4 bk base ls (some ⟨g4, 0, none⟩) (j + 1) c4 (evs ((Lo.evl M).take (j + 1)))) := Lib.hid (HK.out.1.push ((Below.refl _ _).alloc (Nat.le_refl _) _) (by rw [HS.out.1, evs_snoc]; exact r1) r3); clear r1 r2 r3)
          go_roundw
          case rel => exact ⟨j + 1, c4, some ⟨g4, 0, none⟩, rfl, by go_num, by omega, HS.out.2, HN⟩
          case measure => simp [intOf]; omega
        · have HP : Hid (p = j ∧ er = 2) := Lib.hid (by
            have h2 := HX.out.2.2
            refine ⟨?_, (Lo.parse_no h2 her).2⟩
            rw [← HM.out.2.2]
            exact Lo.okn_hit M j X HX.out.1 (by rw [HM.out.2.2]; exact hjp) (by rw [h2]; exact her))
          go_wp2_with fail
          go_ret3
          refine Or.inl ⟨by rw [HP.out.1]; omega, ?_, HK.out.1.be⟩
          obtain ⟨h3, h4⟩ := HP.out
          subst h3 h4
          simp
      · obtain rfl : j = m := by omega
        have i1 : ¬ (j : Int) < (j : Int) := by omega
        have HZ : Hid (p = j ∧ RM wr base r j c 12 (evs (Lo.evl M)) 26) := Lib.hid ⟨by have := HM.out.1; have h2 := Lo.okn_le M; rw [HM.out.2.2] at h2; omega, by have := HD.out.rm; rw [List.take_of_length_le (by rw [Lo.evl_len, HM.out.1]; exact Nat.le_refl _)] at this; exact this⟩
        go_wp2_with fail
        go_ret3
        exact Or.inr ⟨HZ.out.1, r, c, rfl, base, by have := HD.out.lt; omega, HZ.out.2, HD.out.be⟩
end Go.Proofs.YtfhhkmjjifbfeaaGreatDoor
/- Log: the document's lines, events held against each other, the listed tables, the law's lives. -/
namespace Go.Proofs.YtfhhkmjjifbfeaaGreatDoor
open Go.ChangeShapes Go.WideShapes Go.ChangeAt Go.RowKit
set_option linter.unusedSimpArgs false
set_option linter.unusedVariables false

def mkT (l : List UInt8) : ByteArray := ⟨l.toArray⟩
theorem mkT_list (l : List UInt8) : (mkT l).data.toList = l := by simp [mkT]
theorem mkT_eq {s : ByteArray} {l : List UInt8} (h : s.data.toList = l) : s = mkT l := by
  subst h; simp [mkT]
theorem mkT_size (l : List UInt8) : (mkT l).size = l.length := by rw [size_of (mkT_list l)]
theorem ext_drop2 (s u : ByteArray) (k : Nat) (h : s.extract k s.size = u) : u.data.toList = s.data.toList.drop k := by
  rw [← h, ByteArray.data_extract]
  simp
  try (rw [List.take_of_length_le]; simp)
/-- The lines of a text. -/
def Lx.ls : List UInt8 → List (List UInt8)
  | [] => [[]]
  | c :: r => if c = 10 then [] :: Lx.ls r else match Lx.ls r with
    | [] => [[c]]
    | a :: m => (c :: a) :: m
theorem ls_ne (t : List UInt8) : ∃ a m, Lx.ls t = a :: m := by
  cases t with
  | nil => exact ⟨_, _, rfl⟩
  | cons c r =>
    rw [Lx.ls]
    by_cases h : c = 10
    · rw [if_pos h]; exact ⟨_, _, rfl⟩
    · rw [if_neg h]
      cases Lx.ls r <;> exact ⟨_, _, rfl⟩
theorem ls_none : ∀ (t : List UInt8), (∀ k : Nat, t[k]? ≠ some 10) → Lx.ls t = [t]
  | [], _ => rfl
  | c :: r, h => by
    have h0 := h 0
    rw [Lx.ls, if_neg (by intro e; exact h0 (by rw [e]; rfl)), ls_none r (fun k => by have := h (k + 1); simpa using this)]
theorem ls_hit : ∀ (t : List UInt8) (i : Nat), t[i]? = some 10 → (∀ k : Nat, k < i → t[k]? ≠ some 10) → Lx.ls t = t.take i :: Lx.ls (t.drop (i + 1))
  | [], i, h, _ => by simp at h
  | c :: r, 0, h, _ => by
    rw [Lx.ls, if_pos (by simpa using h)]; rfl
  | c :: r, i + 1, h, h2 => by
    have h0 := h2 0 (by omega)
    rw [Lx.ls, if_neg (by intro e; exact h0 (by rw [e]; rfl)), ls_hit r i (by simpa using h) (fun k hk => by have := h2 (k + 1) (by omega); simpa using this)]
    rfl
/-- Texts at the head of a block. -/
def LT (w : World) (g : Nat) (L : List (List UInt8)) : Prop := g < w.heap.size ∧ ∀ (j : Nat) (x : List UInt8), L[j]? = some x → w.cell? ⟨g, j, none⟩ = some (.string (mkT x))
theorem LT.below {w w' : World} {g : Nat} {L : List (List UInt8)} (h : LT w g L) (k : Below w.heap.size w w') : LT w' g L := ⟨Nat.lt_of_lt_of_le h.1 k.size, fun j x hx => (k.cell (p := ⟨g, j, none⟩) h.1).trans (h.2 j x hx)⟩
theorem LT.drew {w : World} {g : Nat} {L : List (List UInt8)} (h : LT w g L) : LT w.drew g L := h
theorem infos : (Tryz.prog.info? 9).map (fun i => (i.zero, i.size, i.bytes)) = some (some (.string ({ data := #[] } : ByteArray)), 1, 16) := by kernel_rfl
theorem one_str (s : ByteArray) : ∀ u ∈ [Value.string s], u.oneCell' = true := by intro u hu; simp at hu; subst hu; rfl
/-- The texts as cells. -/
def sc (L : List (List UInt8)) : List Value := L.map fun x => Value.string (mkT x)
theorem sc_length (L : List (List UInt8)) : (sc L).length = L.length := by simp [sc]
theorem sc_snoc (L : List (List UInt8)) (x : List UInt8) : sc (L ++ [x]) = sc L ++ [.string (mkT x)] := by simp [sc]
theorem sc_lt {w : World} {g c : Nat} {L : List (List UInt8)} (h : Rw w g c (sc L) 9) : LT w g L := ⟨h.lt, fun j x hx => h.cell (by simp [sc, hx])⟩
/-- A slice (at a) of records, sz cells each: the first M.length of them are those of M by f. -/
def RE (w : World) (a : Option Addr) (sz : Nat) (f : Ev → List Value) (M : List Ev) : Prop := ∀ (j : Nat) (x : Ev), M[j]? = some x → ∃ g o, a = some ⟨g, o, none⟩ ∧ g < w.heap.size ∧ ∀ (q : Nat) (v : Value), (f x)[q]? = some v → w.cell? ⟨g, o + (j * sz + q), none⟩ = some v
theorem flat_at {f : Ev → List Value} {sz : Nat} (hf : ∀ x, (f x).length = sz) : ∀ (L : List Ev) (j : Nat) (x : Ev) (q : Nat) (v : Value), L[j]? = some x → (f x)[q]? = some v → (L.flatMap f)[j * sz + q]? = some v
  | [], j, x, q, v, h, _ => by simp at h
  | y :: L, 0, x, q, v, h, hq => by
    simp at h
    subst h
    have hl := (List.getElem?_eq_some_iff.1 hq).1
    rw [List.flatMap_cons, Nat.zero_mul, Nat.zero_add, List.getElem?_append_left hl, hq]
  | y :: L, j + 1, x, q, v, h, hq => by
    have ih := flat_at hf L j x q v (by simpa using h) hq
    have e : (j + 1) * sz + q = sz + (j * sz + q) := by rw [Nat.add_mul]; omega
    rw [List.flatMap_cons, List.getElem?_append_right (by rw [hf, e]; omega), hf, e, Nat.add_sub_cancel_left]
    exact ih
theorem RE.of_rm {w : World} {B : Nat} {r : Option Addr} {n c sz : Nat} {f : Ev → List Value} {M : List Ev} {T : TypeId} (h : RM w B r n c sz (M.flatMap f) T) (hn : M.length = n) (hf : ∀ x, (f x).length = sz) : RE w r sz f M := fun j x hj => by
  have hj2 := (List.getElem?_eq_some_iff.1 hj).1
  obtain ⟨g, rfl, _, hr⟩ := h.row (by omega)
  exact ⟨g, 0, rfl, hr.lt, fun q v hq => by rw [Nat.zero_add]; exact hr.cell (flat_at hf M j x q v hj hq)⟩
theorem RE.below {w w' : World} {a : Option Addr} {sz : Nat} {f : Ev → List Value} {M : List Ev} (h : RE w a sz f M) (k : Below w.heap.size w w') : RE w' a sz f M := fun j x hj => by
  obtain ⟨g, o, h2, h3, hc⟩ := h j x hj
  exact ⟨g, o, h2, Nat.lt_of_lt_of_le h3 k.size, fun q v hq => by rw [← hc q v hq]; exact Chg.cell (l := []) (Chg.of_fresh k) h3 (by simp)⟩
theorem RE.drew {w : World} {a : Option Addr} {sz : Nat} {f : Ev → List Value} {M : List Ev} (h : RE w a sz f M) : RE w.drew a sz f M := h
theorem RE.of_el {w : World} {a : Option Addr} {M : List Ev} (h : EL w a M) : RE w a 12 Ev.c M := fun j x hj => (h j x hj).2
set_option maxRecDepth 20000 in
set_option maxHeartbeats 16000000 in
theorem ev_same (a b : Option Addr) (n ca cb : Nat) (M : List Ev) (hl : M.length = n) (hn : n ≤ 1000000) (w : World) (HA : RE w a 12 Ev.c M) (HB : RE w b 12 Ev.c M ∧ ∀ x ∈ M, x.ok) :
    Calls Tryz.prog 20 #[.slice a n ca, .slice b n cb] w fun r w' => r = .returned (.bool true) ∧ Below w.heap.size w w' := by
  have HL := Lib.hid (And.intro hl (And.intro HA HB))
  clear hl HA HB
  go_enter Tryz.func20, Tryz.ntmps20
  go_wp2_with fail
  go_loopw [5] (fun z wr => ∃ j : Nat, z = .int .i64 j ∧ j ≤ n ∧ Hid (Below w.heap.size w wr)) (fun z _ => n - (intOf z).toNat)
  case atStart => exact ⟨0, rfl, by omega, Lib.hid (Below.refl _ _)⟩
  case round =>
    obtain ⟨j, rfl, hj, HB⟩ := hrel
    have j0 : (0 : Int) ≤ (j : Int) := by omega
    by_cases hjl : j < n
    · have i1 : (j : Int) < (n : Int) := by omega
      have w1 : IntKind.i64.wrap ((j : Int) + 1) = (j : Int) + 1 := IntWalk.i64_in _ (by omega)
      obtain ⟨x, es⟩ : ∃ x, M[j]? = some x := ⟨_, List.getElem?_eq_getElem (by rw [HL.out.1]; exact hjl)⟩
      have hok := HL.out.2.2.2 x (List.mem_of_getElem? es)
      have eqp := eqEv x x hok hok
      rw [decide_eq_true rfl] at eqp
      obtain ⟨k, i, m, t, b2, e, s0, s1, s2, s3, s4, s5⟩ := x
      obtain ⟨g1, o1, rfl, hg1, C1⟩ := (HL.out.2.1.below HB.out) j _ es
      obtain ⟨g2, o2, rfl, hg2, C2⟩ := (HL.out.2.2.1.below HB.out) j _ es
      have d0 := C1 0 _ rfl
      have e0 := C2 0 _ rfl
      rw [Nat.add_zero] at d0 e0
      have d1 := C1 1 _ rfl
      have e1 := C2 1 _ rfl
      rw [← Nat.add_assoc] at d1 e1
      have d2 := C1 2 _ rfl
      have e2 := C2 2 _ rfl
      rw [← Nat.add_assoc] at d2 e2
      have d3 := C1 3 _ rfl
      have e3 := C2 3 _ rfl
      rw [← Nat.add_assoc] at d3 e3
      have d4 := C1 4 _ rfl
      have e4 := C2 4 _ rfl
      rw [← Nat.add_assoc] at d4 e4
      have d5 := C1 5 _ rfl
      have e5 := C2 5 _ rfl
      rw [← Nat.add_assoc] at d5 e5
      have d6 := C1 6 _ rfl
      have e6 := C2 6 _ rfl
      rw [← Nat.add_assoc] at d6 e6
      have d7 := C1 7 _ rfl
      have e7 := C2 7 _ rfl
      rw [← Nat.add_assoc] at d7 e7
      have d8 := C1 8 _ rfl
      have e8 := C2 8 _ rfl
      rw [← Nat.add_assoc] at d8 e8
      have d9 := C1 9 _ rfl
      have e9 := C2 9 _ rfl
      rw [← Nat.add_assoc] at d9 e9
      have d10 := C1 10 _ rfl
      have e10 := C2 10 _ rfl
      rw [← Nat.add_assoc] at d10 e10
      have d11 := C1 11 _ rfl
      have e11 := C2 11 _ rfl
      rw [← Nat.add_assoc] at d11 e11
      clear C1 C2 hok
      clear es
      go_upto_region 6 with fail
      go_cut [25] from 17 to 25 (fun s wx => s = .bool false ∧ Hid (Below w.heap.size w wx))
      case first =>
        go_region_law (fail)
        all_goals
          go_wp2_with fail
          go_meet
          exact ⟨rfl, Lib.hid HB.out.drew⟩
      case rest =>
        obtain ⟨rfl, HD⟩ := hcut
        go_wp2_with fail
        go_roundw
        case rel => exact ⟨j + 1, by go_num, by omega, HD⟩
        case measure => simp [intOf]; omega
    · have i1 : ¬ (j : Int) < (n : Int) := by omega
      go_wp2_with fail
      go_ret
      exact ⟨rfl, HB.out⟩
/-- An array of texts that reads as these holds these. -/
theorem cells_of_strs {H : Type} {enc : TypeId × Value → H} {P : Program} {w : World} {base : Nat} {sp : Nat → Bool} {held : Bool} {fuel : Nat} {t e : TypeId} {n : Nat} {cs : List Value} {zs : List (List UInt8)} {p : List MemPlace}
    (ht : P.underlying t = some (.array n e)) (he : P.underlying e = some .string) (hce : P.cellsOf e = 1) (hct : P.cellsOf t = n)
    (h : DataW.trod enc P w base sp held fuel t cs = some (.agg (zs.map fun z => .lit (.string z)), p)) : cs = zs.map fun z => Value.string ⟨z.toArray⟩ := by
  obtain ⟨xs, m, _, hx, hlc, hxl, hel⟩ := DataW.trod_array ht h
  have hxs : xs.map (·.1) = zs.map fun z => (DataW.lit (.string z) : DataW H) := (DataW.agg.inj (Prod.mk.inj hx).1).symm
  have hzl : zs.length = n := by
    have := congrArg List.length hxs
    simp at this
    omega
  apply List.ext_getElem?
  intro i
  by_cases hi : i < n
  · have hE := hel i hi
    rw [hce, Nat.mul_one, List.getElem?_eq_getElem (by omega : i < xs.length)] at hE
    obtain ⟨s, e1, e2, _⟩ := DataW.trod_string he hE
    have h1 : cs[i]? = some (.string s) := by
      have := congrArg (·[0]?) e1
      simpa [List.getElem?_take, List.getElem?_drop] using this
    have h2 : (xs.map (·.1))[i]? = some (DataW.lit (.string s.data.toList) : DataW H) := by rw [List.getElem?_map, List.getElem?_eq_getElem (by omega : i < xs.length), e2]; rfl
    rw [hxs] at h2
    simp only [List.getElem?_map, Option.map_eq_some_iff, DataW.lit.injEq, Lit.string.injEq] at h2
    obtain ⟨z', hz', e⟩ := h2
    rw [h1, List.getElem?_map, hz', e]
    simp
  · rw [List.getElem?_eq_none (by omega), List.getElem?_eq_none (by simp; omega)]
theorem Lo.ls_sp : ∀ l : List UInt8, Lx.ls l = Lo.sp 10 l
  | [] => rfl
  | c :: r => by
    rw [Lx.ls, Lo.sp, Lo.ls_sp r]
    by_cases h : c = 10
    · rw [if_pos h, if_pos h]
    · rw [if_neg h, if_neg h]
      cases Lo.sp 10 r <;> rfl
theorem SI_of2 (W : World) (r : List (String × DataW Unit)) (h : laidMet Tryz.prog (("repartee/log.statuses", (.agg (([[114, 117, 110], [100, 111, 110, 101], [102, 97, 105, 108, 101, 100], [100, 101, 97, 100, 108, 105, 110, 101], [111, 118, 101, 114, 102, 108, 111, 119], [100, 114, 97, 105, 110, 101, 100]] : List (List UInt8)).map fun z => .lit (.string z)) : DataW Unit)) :: r) W) : SI W := by
  obtain ⟨ps, ⟨g', t', cs, fuel, p, q, hg', ht', hvar, hd, _, _⟩, _⟩ := h
  obtain rfl := Option.some.inj ((show Tryz.prog.globalNamed "repartee/log.statuses" = some 1 by kernel_rfl).symm.trans hg')
  obtain rfl := Option.some.inj ((show (Tryz.prog.globals[1]?).map (·.type) = some 53 by kernel_rfl).symm.trans ht')
  have hc := cells_of_strs (n := 6) (e := 9) (by kernel_rfl) (by kernel_rfl) (by kernel_rfl) (by kernel_rfl) hd
  have h0 : ∀ i, W.cell? ⟨1, i, none⟩ = cs.toList[i]? := fun i => by rw [World.var?_cell hg' hvar i]; simp
  unfold SI
  simp only [h0, hc]
  exact ⟨rfl, rfl, rfl, rfl, rfl, rfl⟩
theorem WI_of2 (W : World) (r : List (String × DataW Unit)) (h : laidMet Tryz.prog (("repartee/log.whats", (.agg (([[], [108, 111, 111, 107], [109, 97, 116, 99, 104], [116, 105, 109, 101, 111, 117, 116], [101, 111, 102], [108, 111, 97, 100], [115, 101, 110, 116], [106, 117, 109, 112], [119, 111, 107, 101], [100, 111, 110, 101], [102, 97, 105, 108], [108, 111, 111, 112, 101, 100], [100, 101, 97, 100, 108, 105, 110, 101], [111, 118, 101, 114, 102, 108, 111, 119], [100, 114, 97, 105, 110, 101, 100]] : List (List UInt8)).map fun z => .lit (.string z)) : DataW Unit)) :: r) W) : WI W := by
  obtain ⟨ps, ⟨g', t', cs, fuel, p, q, hg', ht', hvar, hd, _, _⟩, _⟩ := h
  obtain rfl := Option.some.inj ((show Tryz.prog.globalNamed "repartee/log.whats" = some 0 by kernel_rfl).symm.trans hg')
  obtain rfl := Option.some.inj ((show (Tryz.prog.globals[0]?).map (·.type) = some 51 by kernel_rfl).symm.trans ht')
  have hc := cells_of_strs (n := 15) (e := 9) (by kernel_rfl) (by kernel_rfl) (by kernel_rfl) (by kernel_rfl) hd
  have h0 : ∀ i, W.cell? ⟨0, i, none⟩ = cs.toList[i]? := fun i => by rw [World.var?_cell hg' hvar i]; simp
  unfold WI
  simp only [h0, hc]
  exact ⟨rfl, rfl, rfl, rfl, rfl, rfl, rfl, rfl, rfl, rfl, rfl, rfl, rfl, rfl, rfl⟩
theorem err_star : "*" ++ "errors.errorString" = "*errors.errorString" := by decide
theorem err_row (u : TypeId) (h : Tryz.prog.typeName? 3 u = some "*errors.errorString") : u = 135 :=
  typeName_ptr_named (nm := "errors.errorString") (by rw [err_star]; kernel_rfl) (by kernel_rfl) (by decide) u (by rw [err_star]; exact h)
theorem sent_of (n : String) (g : Nat) (text : List UInt8) (r : List (String × DataW Unit)) (W : World) (hg : Tryz.prog.globalNamed n = some g) (ht : (Tryz.prog.globals[g]?).map (·.type) = some 60) (h : laidMet Tryz.prog ((n, .iface "*errors.errorString" (.ptr (.agg [.lit (.string text)]))) :: r) W) : ∃ T p, W.cell? ⟨g, 0, none⟩ = some (.iface T p) := by
  obtain ⟨a, s, hv, -, -, -⟩ := laid_sentinel h hg ht Tryz.underlying60 err_row Tryz.underlying135 Tryz.underlying137 rfl rfl Tryz.underlying9 (by kernel_rfl) (by kernel_rfl)
  exact ⟨_, _, by simpa using World.var?_cell hg hv 0⟩
theorem Lo.e0_ok : Ev.ok (⟨8, 0, 0, 0, { data := #[] }, 0, 5, 1, 2, 0, 3, 0⟩ : Ev) := Ev.ok_of _ (by decide) (by unfold Lo.i64; decide)
theorem Lo.e0_good : Lo.good (⟨8, 0, 0, 0, { data := #[] }, 0, 5, 1, 2, 0, 3, 0⟩ : Ev) = true := by
  unfold Lo.good
  rw [Bool.and_eq_true, decide_eq_true_eq]
  exact ⟨rfl, by decide +kernel⟩
theorem Lo.e0_line : Lo.line (⟨8, 0, 0, 0, { data := #[] }, 0, 5, 1, 2, 0, 3, 0⟩ : Ev) = [115, 116, 101, 112, 32, 48, 32, 53, 32, 49, 32, 109, 97, 116, 99, 104, 32, 48, 32, 51, 32, 114, 117, 110] := by
  have e0 : Lib.itoa 0 = [48] := by unfold Lib.itoa; rw [if_neg (by decide), Lib.decDigits_one (by decide)]; rfl
  have e1 : Lib.itoa 1 = [49] := by unfold Lib.itoa; rw [if_neg (by decide), Lib.decDigits_one (by decide)]; rfl
  have e3 : Lib.itoa 3 = [51] := by unfold Lib.itoa; rw [if_neg (by decide), Lib.decDigits_one (by decide)]; rfl
  have e5 : Lo.tt 5 = [53] := by
    have h : (Tk.own 5).toNat = 5 := by decide
    unfold Lo.tt Tx.text; rw [h, if_neg (by decide), Lib.decDigits_one (by decide)]; rfl
  show Lib.join [[115, 116, 101, 112], Lib.itoa 0, Lib.join [Lo.tt 5, Lib.itoa 1, (Lo.word 2).data.toList, Lib.itoa 0, Lib.itoa 3, (Le.word 0).data.toList] [32]] [32] = _
  rw [e0, e1, e3, e5]
  decide +kernel
theorem Lo.e0_pr : Lo.pr (⟨8, 0, 0, 0, { data := #[] }, 0, 5, 1, 2, 0, 3, 0⟩ : Ev) = (({ data := #[115, 116, 101, 112, 32, 48, 32, 53, 32, 49, 32, 109, 97, 116, 99, 104, 32, 48, 32, 51, 32, 114, 117, 110] } : ByteArray), 0) := by
  unfold Lo.pr
  rw [if_pos Lo.e0_good, Lo.e0_line]; rfl
theorem Lo.z_size : ({ data := #[] } : ByteArray).size ≤ 4000 := by decide
theorem Lo.e0_size : ({ data := #[115, 116, 101, 112, 32, 48, 32, 53, 32, 49, 32, 109, 97, 116, 99, 104, 32, 48, 32, 51, 32, 114, 117, 110] } : ByteArray).size ≤ 4000 := by decide +kernel
theorem Lo.e0_parse : Lo.parse ({ data := #[115, 116, 101, 112, 32, 48, 32, 53, 32, 49, 32, 109, 97, 116, 99, 104, 32, 48, 32, 51, 32, 114, 117, 110] } : ByteArray) = ((⟨8, 0, 0, 0, { data := #[] }, 0, 5, 1, 2, 0, 3, 0⟩ : Ev), 0) := by
  have h := Lo.parse_line (⟨8, 0, 0, 0, { data := #[] }, 0, 5, 1, 2, 0, 3, 0⟩ : Ev) Lo.e0_ok Lo.e0_good
  rw [Lo.e0_line] at h
  exact h
set_option maxRecDepth 20000 in
set_option maxHeartbeats 16000000 in
theorem lo_lives (w : World) (htab : Lib.TabIs Tryz.prog w "internal/strconv.uint64pow10" .u64 Lib.pow10Tab) (hni : NI w) (hwi : WI w) (hsi : SI w) :
    Calls Tryz.prog 14 #[] w fun r w' => r = .returned (.bool true) ∧ Below w.heap.size w w' := by
  have eqp : ∀ W : World, (Op.equalIn 10000 26 (.agg #[.int .i64 8, .int .i64 0, .int .i64 0, .int .i64 0, .string { data := #[] }, .int .i64 0, .int .i64 5, .int .i64 1, .int .i64 2, .int .i64 0, .int .i64 3, .int .i64 0]) (.agg #[.int .i64 8, .int .i64 0, .int .i64 0, .int .i64 0, .string { data := #[] }, .int .i64 0, .int .i64 5, .int .i64 1, .int .i64 2, .int .i64 0, .int .i64 3, .int .i64 0])).run Tryz.prog W = .ok true W := fun W => by
    have h := eqEv (⟨8, 0, 0, 0, { data := #[] }, 0, 5, 1, 2, 0, 3, 0⟩ : Ev) (⟨8, 0, 0, 0, { data := #[] }, 0, 5, 1, 2, 0, 3, 0⟩ : Ev) Lo.e0_ok Lo.e0_ok W
    rw [decide_eq_true rfl] at h
    exact h
  have k0 : Below w.heap.size w (w.alloc (.cells #[.int .i64 8, .int .i64 0, .int .i64 0, .int .i64 0, .string { data := #[] }, .int .i64 0, .int .i64 5, .int .i64 1, .int .i64 2, .int .i64 0, .int .i64 3, .int .i64 0] 26)) := (Below.refl _ _).alloc (Nat.le_refl _) _
  obtain ⟨X, hX⟩ : ∃ X, w.heap.size = X := ⟨_, rfl⟩
  have HB : Hid (Blk (w.alloc (.cells #[.int .i64 8, .int .i64 0, .int .i64 0, .int .i64 0, .string { data := #[] }, .int .i64 0, .int .i64 5, .int .i64 1, .int .i64 2, .int .i64 0, .int .i64 3, .int .i64 0] 26)) X [.int .i64 8, .int .i64 0, .int .i64 0, .int .i64 0, .string { data := #[] }, .int .i64 0, .int .i64 5, .int .i64 1, .int .i64 2, .int .i64 0, .int .i64 3, .int .i64 0] 26 ∧ Below w.heap.size w (w.alloc (.cells #[.int .i64 8, .int .i64 0, .int .i64 0, .int .i64 0, .string { data := #[] }, .int .i64 0, .int .i64 5, .int .i64 1, .int .i64 2, .int .i64 0, .int .i64 3, .int .i64 0] 26))) := Lib.hid ⟨by rw [← hX]; exact Blk.newA _ _ _, k0⟩
  have HI := Lib.hid (And.intro htab (And.intro hni (And.intro hwi hsi)))
  obtain ⟨R, hR⟩ : ∃ R : ByteArray, ({ data := #[115, 116, 101, 112, 32, 48, 32, 53, 32, 49, 32, 109, 97, 116, 99, 104, 32, 48, 32, 51, 32, 114, 117, 110] } : ByteArray) = R := ⟨_, rfl⟩
  have HR : Hid (Lo.pr (⟨8, 0, 0, 0, { data := #[] }, 0, 5, 1, 2, 0, 3, 0⟩ : Ev) = (R, 0)) := Lib.hid (by rw [← hR]; exact Lo.e0_pr)
  have b1 := Lo.txt_eq (W := R) (l := [115, 116, 101, 112, 32, 48, 32, 53, 32, 49, 32, 109, 97, 116, 99, 104, 32, 48, 32, 51, 32, 114, 117, 110]) (by rw [← hR])
  clear htab hni hwi hsi k0 hR
  go_enter Tryz.func14, Tryz.ntmps14
  go_upto_region 2 with fail
  clear hX
  revert HB
  generalize (w.alloc (.cells #[.int .i64 8, .int .i64 0, .int .i64 0, .int .i64 0, .string { data := #[] }, .int .i64 0, .int .i64 5, .int .i64 1, .int .i64 2, .int .i64 0, .int .i64 3, .int .i64 0] 26)) = W1
  intro HB
  have d0 := HB.out.1.cell (i := 0) rfl
  have d1 := HB.out.1.cell (i := 1) rfl
  have d2 := HB.out.1.cell (i := 2) rfl
  have d3 := HB.out.1.cell (i := 3) rfl
  have d4 := HB.out.1.cell (i := 4) rfl
  have d5 := HB.out.1.cell (i := 5) rfl
  have d6 := HB.out.1.cell (i := 6) rfl
  have d7 := HB.out.1.cell (i := 7) rfl
  have d8 := HB.out.1.cell (i := 8) rfl
  have d9 := HB.out.1.cell (i := 9) rfl
  have d10 := HB.out.1.cell (i := 10) rfl
  have d11 := HB.out.1.cell (i := 11) rfl
  go_upto_region 3 with (go_at_call 7; (with_reducible refine (lo_print12 8 0 0 0 { data := #[] } 0 5 1 2 0 3 0 Lo.e0_ok Lo.z_size R 0 HR.out _ (tab_below HB.out.2 HI.out.1) (HI.out.2.2.1.below HB.out.2) (HI.out.2.2.2.below HB.out.2)).mono ?_); rintro e1 V2 ⟨rfl, q3⟩; have HBn := Lib.hid (And.intro (HB.out.1.chg (l := []) (Chg.of_fresh q3) (by simp)) (HB.out.2.trans (q3.mono HB.out.2.size))); clear HB; have HB := HBn; clear HBn q3)
  clear d0 d1 d2 d3 d4 d5 d6 d7 d8 d9 d10 d11
  go_upto_region 4 with (go_at_call 15; (with_reducible refine (lo_parse12 ({ data := #[115, 116, 101, 112, 32, 48, 32, 53, 32, 49, 32, 109, 97, 116, 99, 104, 32, 48, 32, 51, 32, 114, 117, 110] } : ByteArray) Lo.e0_size 8 0 0 0 { data := #[] } 0 5 1 2 0 3 0 0 Lo.e0_parse _ (tab_below HB.out.2 HI.out.1) (HI.out.2.1.below HB.out.2) (HI.out.2.2.1.below HB.out.2) (HI.out.2.2.2.below HB.out.2)).mono ?_); rintro e1 V3 ⟨rfl, q3⟩; have HBn := Lib.hid (And.intro (HB.out.1.chg (l := []) (Chg.of_fresh q3) (by simp)) (HB.out.2.trans (q3.mono HB.out.2.size))); clear HB; have HB := HBn; clear HBn q3)
  have HC : Hid (Blk (V3.alloc (.cells #[.int .i64 8, .int .i64 0, .int .i64 0, .int .i64 0, .string { data := #[] }, .int .i64 0, .int .i64 5, .int .i64 1, .int .i64 2, .int .i64 0, .int .i64 3, .int .i64 0] 26)) X [.int .i64 8, .int .i64 0, .int .i64 0, .int .i64 0, .string { data := #[] }, .int .i64 0, .int .i64 5, .int .i64 1, .int .i64 2, .int .i64 0, .int .i64 3, .int .i64 0] 26 ∧ Blk (V3.alloc (.cells #[.int .i64 8, .int .i64 0, .int .i64 0, .int .i64 0, .string { data := #[] }, .int .i64 0, .int .i64 5, .int .i64 1, .int .i64 2, .int .i64 0, .int .i64 3, .int .i64 0] 26)) V3.heap.size [.int .i64 8, .int .i64 0, .int .i64 0, .int .i64 0, .string { data := #[] }, .int .i64 0, .int .i64 5, .int .i64 1, .int .i64 2, .int .i64 0, .int .i64 3, .int .i64 0] 26 ∧ Below w.heap.size w (V3.alloc (.cells #[.int .i64 8, .int .i64 0, .int .i64 0, .int .i64 0, .string { data := #[] }, .int .i64 0, .int .i64 5, .int .i64 1, .int .i64 2, .int .i64 0, .int .i64 3, .int .i64 0] 26))) := Lib.hid (by
    have q3 : Below V3.heap.size V3 (V3.alloc (.cells #[.int .i64 8, .int .i64 0, .int .i64 0, .int .i64 0, .string { data := #[] }, .int .i64 0, .int .i64 5, .int .i64 1, .int .i64 2, .int .i64 0, .int .i64 3, .int .i64 0] 26)) := (Below.refl _ _).alloc (Nat.le_refl _) _
    exact ⟨HB.out.1.chg (l := []) (Chg.of_fresh q3) (by simp), Blk.newA _ _ _, HB.out.2.trans (q3.mono HB.out.2.size)⟩)
  clear HB
  revert HC
  generalize (V3.alloc (.cells #[.int .i64 8, .int .i64 0, .int .i64 0, .int .i64 0, .string { data := #[] }, .int .i64 0, .int .i64 5, .int .i64 1, .int .i64 2, .int .i64 0, .int .i64 3, .int .i64 0] 26)) = W4
  generalize V3.heap.size = Y
  intro HC
  have d0 := HC.out.1.cell (i := 0) rfl
  have d1 := HC.out.1.cell (i := 1) rfl
  have d2 := HC.out.1.cell (i := 2) rfl
  have d3 := HC.out.1.cell (i := 3) rfl
  have d4 := HC.out.1.cell (i := 4) rfl
  have d5 := HC.out.1.cell (i := 5) rfl
  have d6 := HC.out.1.cell (i := 6) rfl
  have d7 := HC.out.1.cell (i := 7) rfl
  have d8 := HC.out.1.cell (i := 8) rfl
  have d9 := HC.out.1.cell (i := 9) rfl
  have d10 := HC.out.1.cell (i := 10) rfl
  have d11 := HC.out.1.cell (i := 11) rfl
  have e0 := HC.out.2.1.cell (i := 0) rfl
  have e1 := HC.out.2.1.cell (i := 1) rfl
  have e2 := HC.out.2.1.cell (i := 2) rfl
  have e3 := HC.out.2.1.cell (i := 3) rfl
  have e4 := HC.out.2.1.cell (i := 4) rfl
  have e5 := HC.out.2.1.cell (i := 5) rfl
  have e6 := HC.out.2.1.cell (i := 6) rfl
  have e7 := HC.out.2.1.cell (i := 7) rfl
  have e8 := HC.out.2.1.cell (i := 8) rfl
  have e9 := HC.out.2.1.cell (i := 9) rfl
  have e10 := HC.out.2.1.cell (i := 10) rfl
  have e11 := HC.out.2.1.cell (i := 11) rfl
  go_wp2_with fail
  go_ret
  exact ⟨rfl, HC.out.2.2⟩
end Go.Proofs.YtfhhkmjjifbfeaaGreatDoor
/- Log: texts of many events (no program). -/
namespace Go.Proofs.YtfhhkmjjifbfeaaGreatDoor
open Go.ChangeShapes Go.WideShapes Go.ChangeAt Go.RowKit
set_option linter.unusedSimpArgs false
set_option linter.unusedVariables false

theorem Lo.mem_join (c x : UInt8) : ∀ L : List (List UInt8), x ∈ Lib.join L [c] → x = c ∨ ∃ l ∈ L, x ∈ l
  | [], h => by rw [Lib.join_nil] at h; cases h
  | [a], h => by rw [Lib.join_one] at h; exact Or.inr ⟨a, by simp, h⟩
  | a :: y :: L, h => by
    rw [Lo.join_two, List.mem_append, List.mem_cons] at h
    rcases h with h | h | h
    · exact Or.inr ⟨a, by simp, h⟩
    · exact Or.inl h
    · rcases Lo.mem_join c x (y :: L) h with h | ⟨l, hl, h⟩
      · exact Or.inl h
      · exact Or.inr ⟨l, List.mem_cons_of_mem _ hl, h⟩
theorem Lo.no_join (x : UInt8) (hx : x ≠ 32) (L : List (List UInt8)) (h : ∀ l ∈ L, x ∉ l) : x ∉ Lib.join L [32] := fun e => by
  rcases Lo.mem_join 32 x L e with e | ⟨l, hl, e⟩
  · exact hx e
  · exact h l hl e
theorem Lo.no10_dec (u : Nat) : (10 : UInt8) ∉ Lib.decDigits u := fun e => by
  have h := List.all_eq_true.1 (Tx.dec_dig u) _ e
  revert h
  decide
theorem Lo.no10_itoa (n : Int) : (10 : UInt8) ∉ Lib.itoa n := by
  unfold Lib.itoa
  split
  · intro e
    rcases List.mem_cons.1 e with e | e
    · exact absurd e (by decide)
    · exact Lo.no10_dec _ e
  · exact Lo.no10_dec _
theorem Lo.no10_tt (t : Int) : (10 : UInt8) ∉ Lo.tt t := by
  unfold Lo.tt Tx.text
  split
  · decide
  · exact Lo.no10_dec _
theorem Lo.no10_wordF : ∀ i : Fin 15, (10 : UInt8) ∉ (Lo.word (i.val : Int)).data.toList := by decide +kernel
theorem Lo.no10_word5F : ∀ i : Fin 6, (10 : UInt8) ∉ (Le.word (i.val : Int)).data.toList := by decide +kernel
theorem Lo.no10_word (s : Int) : (10 : UInt8) ∉ (Lo.word s).data.toList := by
  by_cases h : 0 ≤ s ∧ s < 15
  · have h2 := Lo.no10_wordF ⟨s.toNat, by omega⟩
    dsimp only at h2
    rw [show ((s.toNat : Nat) : Int) = s by omega] at h2
    exact h2
  · have e : Lo.word s = { data := #[] } := by
      unfold Lo.word
      rw [if_neg (by omega), if_neg (by omega), if_neg (by omega), if_neg (by omega), if_neg (by omega), if_neg (by omega), if_neg (by omega), if_neg (by omega), if_neg (by omega), if_neg (by omega), if_neg (by omega), if_neg (by omega), if_neg (by omega), if_neg (by omega)]
    rw [e]
    decide
theorem Lo.no10_word5 (s : Int) : (10 : UInt8) ∉ (Le.word s).data.toList := by
  by_cases h : 0 ≤ s ∧ s < 6
  · have h2 := Lo.no10_word5F ⟨s.toNat, by omega⟩
    dsimp only at h2
    rw [show ((s.toNat : Nat) : Int) = s by omega] at h2
    exact h2
  · have e : Le.word s = { data := #[] } := by
      unfold Le.word
      rw [if_neg (by omega), if_neg (by omega), if_neg (by omega), if_neg (by omega), if_neg (by omega), if_neg (by omega)]
    rw [e]
    decide
theorem Lo.no10_sgn : ∀ b : UInt8, (10 : UInt8) ∉ Qt.sgn b := by
  have h : ∀ n : Fin 256, (10 : UInt8) ∉ Qt.sgn (UInt8.ofNat n.val) := by decide +kernel
  intro b
  have := h ⟨b.toNat, b.toNat_lt⟩
  simpa using this
theorem Lo.no10_quo (l : List UInt8) : (10 : UInt8) ∉ Qt.quo l := by
  unfold Qt.quo
  intro e
  rcases List.mem_cons.1 e with e | e
  · exact absurd e (by decide)
  rcases List.mem_append.1 e with e | e
  · obtain ⟨b, _, hb⟩ := List.mem_flatMap.1 e
    exact Lo.no10_sgn b hb
  · exact absurd (List.mem_singleton.1 e) (by decide)
theorem Lo.no10_stepL (s0 s1 s2 s3 s4 s5 : Int) : (10 : UInt8) ∉ Lo.stepL s0 s1 s2 s3 s4 s5 := by
  unfold Lo.stepL
  refine Lo.no_join 10 (by decide) _ fun l hl => ?_
  simp only [List.mem_cons, List.not_mem_nil, or_false] at hl
  rcases hl with rfl | rfl | rfl | rfl | rfl | rfl
  · exact Lo.no10_tt _
  · exact Lo.no10_itoa _
  · exact Lo.no10_word _
  · exact Lo.no10_itoa _
  · exact Lo.no10_itoa _
  · exact Lo.no10_word5 _
theorem Lo.no10_line (x : Ev) : (10 : UInt8) ∉ Lo.line x := by
  obtain ⟨k, i, n, t, b, e, s0, s1, s2, s3, s4, s5⟩ := x
  unfold Lo.line Lo.parts
  refine Lo.no_join 10 (by decide) _ fun l hl => ?_
  dsimp only at hl
  repeat' split at hl
  all_goals
    simp only [List.mem_cons, List.not_mem_nil, or_false] at hl
  all_goals
    first
      | (rcases hl with h | h | h | h <;> rw [h] <;> first | exact Lo.no10_tt _ | exact Lo.no10_itoa _ | exact Lo.no10_quo _ | exact Lo.no10_stepL _ _ _ _ _ _ | decide)
      | (rcases hl with h | h | h <;> rw [h] <;> first | exact Lo.no10_tt _ | exact Lo.no10_itoa _ | exact Lo.no10_quo _ | exact Lo.no10_stepL _ _ _ _ _ _ | decide)
      | (rcases hl with h | h <;> rw [h] <;> first | exact Lo.no10_tt _ | exact Lo.no10_itoa _ | exact Lo.no10_quo _ | exact Lo.no10_stepL _ _ _ _ _ _ | decide)
      | (rw [hl]; decide)
theorem Lo.stepL_sz (s0 s1 s2 s3 s4 s5 : Int) (h0 : s0 ≤ 9223372036854775807) (h1 : Lo.i64 s1) (h3 : Lo.i64 s3) (h4 : Lo.i64 s4) : (Lo.stepL s0 s1 s2 s3 s4 s5).length ≤ 185 := by
  have g0 := Lo.tt_len h0
  have g1 := Lo.itoa_len h1
  have g2 : (Lo.word s2).data.toList.length ≤ 30 := Lo.word_le s2
  have g3 := Lo.itoa_len h3
  have g4 := Lo.itoa_len h4
  have g5 : (Le.word s5).data.toList.length ≤ 30 := Lo.word5_le s5
  unfold Lo.stepL
  rw [Lo.join_two, Lo.join_two, Lo.join_two, Lo.join_two, Lo.join_two, Lib.join_one]
  simp only [List.length_append, List.length_cons]
  omega
theorem Lo.line_sz (x : Ev) (hok : x.ok) (hb : x.b.size ≤ 24) : (Lo.line x).length ≤ 250 := by
  obtain ⟨k, i, n, t, b, e, s0, s1, s2, s3, s4, s5⟩ := x
  have g : ∀ v, Value.int .i64 v ∈ (Ev.c ⟨k, i, n, t, b, e, s0, s1, s2, s3, s4, s5⟩) → Lo.i64 v := fun v hv => bounds_i64 (hok.2 .i64 v hv)
  have gi := Lo.itoa_len (g i (by simp [Ev.c]))
  have gn := Lo.itoa_len (g n (by simp [Ev.c]))
  have gt := Lo.tt_len (g t (by simp [Ev.c])).2
  have ge := Lo.itoa_len (g e (by simp [Ev.c]))
  have gs := Lo.stepL_sz s0 s1 s2 s3 s4 s5 (g s0 (by simp [Ev.c])).2 (g s1 (by simp [Ev.c])) (g s3 (by simp [Ev.c])) (g s4 (by simp [Ev.c]))
  have gq : (Qt.quo b.data.toList).length ≤ 98 := by
    have h1 := Qt.quo_le b.data.toList
    have h2 : b.data.toList.length = b.size := rfl
    dsimp only at hb
    omega
  unfold Lo.line Lo.parts
  dsimp only
  repeat' split
  all_goals
    repeat rw [Lo.join_two]
    rw [Lib.join_one]
    simp only [List.length_append, List.length_cons, List.length_nil]
    omega
/-- The lines of events, one behind the other. -/
def Lo.cat : List Ev → List UInt8
  | [] => []
  | x :: r => Lo.line x ++ 10 :: Lo.cat r
theorem Lo.cat_snoc : ∀ (L : List Ev) (x : Ev), Lo.cat (L ++ [x]) = Lo.cat L ++ (Lo.line x ++ [10])
  | [], x => by simp [Lo.cat]
  | y :: L, x => by
    rw [List.cons_append, Lo.cat, Lo.cat_snoc L x, Lo.cat]
    simp
theorem Lo.cat_len : ∀ (L : List Ev), (∀ x ∈ L, x.ok ∧ x.b.size ≤ 24) → (Lo.cat L).length ≤ 251 * L.length
  | [], _ => by simp [Lo.cat]
  | x :: L, h => by
    have h1 := Lo.line_sz x (h x (by simp)).1 (h x (by simp)).2
    have h2 := Lo.cat_len L (fun y hy => h y (List.mem_cons_of_mem _ hy))
    rw [Lo.cat, List.length_append, List.length_cons, List.length_cons]
    omega
theorem Lo.sp_cat : ∀ L : List Ev, Lo.sp 10 (Lo.cat L) = L.map Lo.line ++ [[]]
  | [] => rfl
  | x :: L => by rw [Lo.cat, Lo.sp_app 10 _ _ (Lo.no10_line x), Lo.sp_cat L]; rfl
theorem Lo.lines_cat (L : List Ev) : Lo.lines (Lo.cat L) = L.map fun x => Le.t (Lo.line x) := by
  unfold Lo.lines Lo.spB
  rw [Lo.sp_cat, List.map_append]
  unfold Lo.trim
  have hl : ((L.map Lo.line).map Le.t ++ [[]].map Le.t).length - 1 = ((L.map Lo.line).map Le.t).length := by simp
  rw [hl, List.getElem?_append_right (Nat.le_refl _), Nat.sub_self, if_pos (show (List.map Le.t [[]])[0]? = some { data := #[] } from rfl), List.take_left, List.map_map]
  rfl
theorem Lo.okn_all : ∀ M : List ByteArray, (∀ z ∈ M, (Lo.parse z).2 = 0) → Lo.okn M = M.length
  | [], _ => rfl
  | z :: r, h => by rw [Lo.okn, if_pos (h z (by simp)), Lo.okn_all r (fun y hy => h y (List.mem_cons_of_mem _ hy)), List.length_cons]
theorem Lo.okn_cat (L : List Ev) (h : ∀ x ∈ L, x.ok ∧ Lo.good x = true) : Lo.okn (L.map fun x => Le.t (Lo.line x)) = L.length := by
  rw [Lo.okn_all, List.length_map]
  intro z hz
  obtain ⟨x, hx, rfl⟩ := List.mem_map.1 hz
  rw [Lo.parse_line x (h x hx).1 (h x hx).2]
theorem Lo.evl_cat (L : List Ev) (h : ∀ x ∈ L, x.ok ∧ Lo.good x = true) : Lo.evl (L.map fun x => Le.t (Lo.line x)) = L := by
  unfold Lo.evl
  rw [List.map_map]
  conv => rhs; rw [← List.map_id L]
  refine List.map_congr_left fun x hx => ?_
  show (Lo.parse (Le.t (Lo.line x))).1 = x
  rw [Lo.parse_line x (h x hx).1 (h x hx).2]
/-- What Write tells of events. -/
noncomputable def Lo.wr (L : List Ev) : ByteArray × Int := open Classical in if ∀ x ∈ L, Lo.good x = true then (Le.t (Lo.cat L), 0) else ({ data := #[] }, 2)
end Go.Proofs.YtfhhkmjjifbfeaaGreatDoor
