/- Faults: few wraps. -/
import Derived.Test.YtlofcccabdocgaaDoorFa1
import Derived.Test.YtlofcccabdocgaaDoorRnStep
import Derived.Test.YtlofcccabdocgaaDoorClass
import Derived.WalkKit
import Derived.ProofKit
import Derived.Handy
import Derived.WalkLawsBesides
import Derived.WalkSpells
import Derived.Lib.Hide
import Derived.Lib.SliceRun
import Derived.Deep.RegionLaw
import Derived.RegionTactic
import Derived.ChangeAlike
import Derived.WalkSmall
import Derived.Deep.QuietTactic
import Derived.BigQuiet
import Derived.OwnWalk
import Derived.Outline
import Derived.Deep.CutRange
import Derived.Deep.CutBlock
import Derived.LoopTactic
namespace Go.Proofs.YtlofcccabdocgaaDoor
open Go.ChangeShapes Go.WideShapes Go.ChangeAt Go.RowKit
set_option linter.unusedSimpArgs false
set_option linter.unusedVariables false

/-- A text, somewhat cut. -/
def cutE (s : ByteArray) (m : Nat) : ByteArray := if m < s.size then s.extract 0 m else s
theorem cutE_le (s : ByteArray) (m : Nat) : (cutE s m).size ≤ m := by
  unfold cutE
  split
  · rw [ByteArray.size_extract]; omega
  · omega
theorem fa_cut (s t : ByteArray) (m : Nat) (hm : m ≤ 1000) (hs : s.size ≤ maxLen) (ht : cutE s m = t) (mi : Int) (hmi : mi = m) (w : World) :
    Calls Tryd.prog 16 #[.string s, .int .i64 mi] w fun e w' => e = .returned (.string t) ∧ w = w' := by
  subst hmi
  unfold maxLen at hs
  unfold cutE at ht
  by_cases h : m < s.size
  · rw [if_pos h] at ht
    have i1 : (m : Int) < (s.size : Int) := by omega
    go_enter Tryd.func16, Tryd.ntmps16
    go_wp2
    go_ret
    exact ⟨rfl, rfl⟩
  · rw [if_neg h] at ht
    subst ht
    have i1 : ¬ (m : Int) < (s.size : Int) := by omega
    go_enter Tryd.func16, Tryd.ntmps16
    go_wp2
    go_ret
    exact ⟨rfl, rfl⟩
theorem take_snocE {α : Type} {l : List α} {j : Nat} {x : α} (h : l[j]? = some x) : l.take (j + 1) = l.take j ++ [x] := by
  obtain ⟨hl, e⟩ := List.getElem?_eq_some_iff.1 h
  rw [List.take_succ_eq_append_getElem hl, e]
theorem new_atE (w : World) (cs : List Value) (T : TypeId) : ∀ j u, cs[j]? = some u → (w.alloc (.cells cs.toArray T)).cell? ((⟨w.heap.size, 0, none⟩ : Addr).add j) = some u := fun j u hj => by
  rw [Addr.add_lit, Nat.zero_add]; exact (Blk.new w cs T).cell hj
def Wp.cut (x : Wp) : Wp := ⟨x.a, x.l, x.c, cutE x.n 8⟩
theorem Wp.cut_ok {x : Wp} (h : x.ok) : x.cut.ok := ⟨Nat.le_trans (cutE_le _ _) (by unfold maxLen; omega), h.2⟩
/-- Wraps, somewhat cut. -/
def fewW (L : List Wp) : List Wp := (L.take 8).map Wp.cut
theorem fewW_len (L : List Wp) : (fewW L).length = min 8 L.length := by unfold fewW; rw [List.length_map, List.length_take]
theorem fewW_ok {L : List Wp} (h : ∀ x ∈ L, x.ok) : ∀ x ∈ fewW L, x.ok := by
  intro x hx
  obtain ⟨y, hy, rfl⟩ := List.mem_map.1 hx
  exact Wp.cut_ok (h y (List.mem_of_mem_take hy))
theorem fewW_n {L : List Wp} : ∀ x ∈ fewW L, x.n.size ≤ 8 := by
  intro x hx
  obtain ⟨y, hy, rfl⟩ := List.mem_map.1 hx
  exact cutE_le _ _
theorem fewW_at {L : List Wp} {j : Nat} {x : Wp} (h : L[j]? = some x) (hj : j < 8) : (fewW L)[j]? = some x.cut := by
  unfold fewW; rw [List.getElem?_map, List.getElem?_take_of_lt hj, h]; rfl
theorem infoWp : (Tryd.prog.info? 39).map (fun i => (i.zero, i.size, i.bytes)) = some (some (.agg #[.bool false, .int .i64 0, .int .i64 0, .string ByteArray.empty]), 4, 40) := by kernel_rfl
set_option maxRecDepth 20000 in
set_option maxHeartbeats 16000000 in
theorem few_wp (a : Option Addr) (len cap : Nat) (L : List Wp) (hl : L.length = len) (hlm : len ≤ maxLen) (L2 : List Wp) (h2 : fewW L = L2) (m : Nat) (hm : L2.length = m) (w : World) (HE : WL w a L) :
    Calls Tryd.prog 7 #[.slice a len cap] w fun r w' => ∃ g c, r = .returned (.slice (some ⟨g, 0, none⟩) m c) ∧ Rn w' g c 4 (wps L2) 39 ∧ w.heap.size ≤ g ∧ Below w.heap.size w w' := by
  unfold maxLen at hlm
  have hm1 : m = min 8 len := by rw [← hm, ← h2, fewW_len, hl]
  have hm3 : m ≤ 8 := by omega
  have hm4 : m ≤ len := by omega
  have hm5 : 8 ≤ m ∨ len ≤ m := by omega
  clear hm1
  have HL := Lib.hid (And.intro hl (And.intro HE (And.intro h2 hm)))
  have H0 : Hid (Rn (w.alloc (.cells #[] 39)) w.heap.size 0 4 (wps (L2.take 0)) 39 ∧ Below w.heap.size w (w.alloc (.cells #[] 39))) := Lib.hid ⟨by rw [List.take_zero]; exact Rn.empty w 4 39, (Below.refl _ _).alloc (Nat.le_refl _) _⟩
  clear hl HE h2 hm
  go_enter Tryd.func7, Tryd.ntmps7
  go_wp2_with fail
  revert H0
  generalize (w.alloc (.cells #[] 39)) = W0
  intro H0
  go_wp2_with fail
  go_loopw [3, 4] (fun o i wr => ∃ (j g c : Nat), o = .slice (some ⟨g, 0, none⟩) j c ∧ i = .int .i64 j ∧ j ≤ m ∧ w.heap.size ≤ g ∧ Hid (Rn wr g c 4 (wps (L2.take j)) 39 ∧ Below w.heap.size w wr)) (fun _ i _ => m - (intOf i).toNat)
  case atStart => exact ⟨0, _, 0, rfl, rfl, by omega, Nat.le_refl _, H0⟩
  case round =>
    clear H0
    obtain ⟨j, g, c, rfl, rfl, hj, hg, HB⟩ := hrel
    have j0 : (0 : Int) ≤ (j : Int) := by omega
    by_cases hjm : j < m
    · have i1 : (j : Int) < (len : Int) := by omega
      have i2 : (j : Int) < (8 : Int) := by omega
      have w1 : IntKind.i64.wrap ((j : Int) + 1) = (j : Int) + 1 := IntWalk.i64_in _ (by omega)
      obtain ⟨ba, ln, co, nm, es⟩ : ∃ ba ln co nm, L[j]? = some ⟨ba, ln, co, nm⟩ := ⟨_, _, _, _, List.getElem?_eq_getElem (by rw [HL.out.1]; omega)⟩
      obtain ⟨⟨hb, _, _⟩, ga, o, rfl, hgw, e0, e1, e2, e3⟩ := (HL.out.2.1.below HB.out.2).get es
      obtain ⟨b2, hb2⟩ : ∃ t, cutE nm 8 = t := ⟨_, rfl⟩
      have HU : Hid (cutE nm 8 = b2 ∧ L2.take (j + 1) = L2.take j ++ [⟨ba, ln, co, b2⟩] ∧ (wps (L2.take j)).length = j * 4 ∧ nm.size ≤ maxLen) := Lib.hid ⟨hb2, by
        refine take_snocE ?_
        rw [← HL.out.2.2.1, fewW_at es (by omega), ← hb2]; rfl, by rw [wps_len, List.length_take, HL.out.2.2.2]; congr 1; omega, hb⟩
      clear es hb hb2
      have hj1000 : j ≤ 1000 := by omega
      go_upto_region 6 with fail
      have H1 : Hid ((Rn (wr.alloc (.cells #[.bool ba, .int .i64 ln, .int .i64 co, .string nm] 39)) g c 4 (wps (L2.take j)) 39 ∧ Below w.heap.size w (wr.alloc (.cells #[.bool ba, .int .i64 ln, .int .i64 co, .string nm] 39))) ∧ Blk (wr.alloc (.cells #[.bool ba, .int .i64 ln, .int .i64 co, .string nm] 39)) wr.heap.size [.bool ba, .int .i64 ln, .int .i64 co, .string nm] 39 ∧ g < wr.heap.size) := Lib.hid ⟨⟨HB.out.1.chg (l := []) ((Chg.refl [] wr).alloc _) (by simp), HB.out.2.alloc HB.out.2.size _⟩, Blk.newA _ _ _, HB.out.1.lt⟩
      clear e0 e1 e2 e3 HB
      revert H1
      generalize (wr.alloc (.cells #[.bool ba, .int .i64 ln, .int .i64 co, .string nm] 39)) = W1
      generalize wr.heap.size = X
      intro H1
      have d3 := H1.out.2.1.cell (i := 3) rfl
      have f3 := H1.out.2.1.free 3
      go_upto_region 7 with (first
        | (go_at_call 16; refine (fa_cut nm b2 8 (by omega) HU.out.2.2.2 HU.out.1 8 rfl _).mono ?_; rintro e W2 ⟨rfl, rfl⟩)
        | fail)
      have H2 : Hid ((Rn (W1.setCell ⟨X, 3, none⟩ (.string b2)) g c 4 (wps (L2.take j)) 39 ∧ Below w.heap.size w (W1.setCell ⟨X, 3, none⟩ (.string b2))) ∧ Blk (W1.setCell ⟨X, 3, none⟩ (.string b2)) X [.bool ba, .int .i64 ln, .int .i64 co, .string b2] 39) := Lib.hid (by
        have hlt := H1.out.2.2
        have k1 : Chg [X] W1 (W1.setCell ⟨X, 3, none⟩ (.string b2)) := (Chg.refl [X] W1).set (Or.inl (by simp)) _ _
        exact ⟨⟨H1.out.1.1.chg k1 (by simp; omega), k1.onto H1.out.1.2 H1.out.1.2.size (by simp; omega)⟩, H1.out.2.1.set 3 _⟩)
      clear d3 f3 H1
      revert H2
      generalize (W1.setCell ⟨X, 3, none⟩ (.string b2)) = W2
      intro H2
      have d0 := H2.out.2.cell (i := 0) rfl
      have d1 := H2.out.2.cell (i := 1) rfl
      have d2 := H2.out.2.cell (i := 2) rfl
      have d3 := H2.out.2.cell (i := 3) rfl
      go_wp2_with (at_builtin; refine wpList_append_rn _ rfl (.tmp 25) (.tmp 27) 22 22 rfl 39 (.agg #[.bool false, .int .i64 0, .int .i64 0, .string ByteArray.empty]) 4 40 Tryd.underlying22 infoWp rfl g j c (wps (L2.take j)) rfl HU.out.2.2.1 (H2.out.1.1.chg (l := []) ((Chg.refl [] W2).alloc _) (by simp)) _ rfl 1 (Wp.cs ⟨ba, ln, co, b2⟩) (Src.ofSlice _ Tryd.underlying22 ⟨_, 0, none⟩ 1 1 (Wp.cs ⟨ba, ln, co, b2⟩) rfl (new_atE _ _ _) (Wp.cs_one _)) (by omega) (by omega) ?_; intro g4 c4 w4 r1 r2 r3; have HN : Hid (w.heap.size ≤ g4 ∧ Rn w4 g4 c4 4 (wps (L2.take (j + 1))) 39 ∧ Below w.heap.size w w4) := Lib.hid (by
        have hs := H2.out.1.2.size
        have k1 : Below w.heap.size w (W2.alloc (.cells (Wp.cs ⟨ba, ln, co, b2⟩).toArray 39)) := H2.out.1.2.alloc hs _
        refine ⟨?_, by rw [HU.out.2.1, wps_snoc]; exact r1, r3.onto k1 (by simp; omega) (by simp; omega)⟩
        rcases r2 with r2 | r2
        · omega
        · simp at r2; omega); clear r1 r2 r3)
      go_roundw
      case rel => exact ⟨j + 1, g4, c4, rfl, by go_num, by omega, HN.out.1, Lib.hid HN.out.2⟩
      case measure => simp [intOf]; omega
    · obtain rfl : j = m := by omega
      have HZ : Hid (Rn wr g c 4 (wps L2) 39 ∧ Below w.heap.size w wr) := Lib.hid ⟨by have := HB.out.1; rw [List.take_of_length_le (by rw [HL.out.2.2.2]; exact Nat.le_refl _)] at this; exact this, HB.out.2⟩
      by_cases hja : j < len
      · have i1 : (j : Int) < (len : Int) := by omega
        have i2 : ¬ (j : Int) < (8 : Int) := by omega
        go_wp2_with fail
        go_ret
        exact ⟨g, c, rfl, HZ.out.1, hg, HZ.out.2⟩
      · have i1 : ¬ (j : Int) < (len : Int) := by omega
        go_wp2_with fail
        go_ret
        exact ⟨g, c, rfl, HZ.out.1, hg, HZ.out.2⟩
end Go.Proofs.YtlofcccabdocgaaDoor
