/- Several texts in one. -/
import Derived.Test.YtdchedkhlfmpeaaDoorEv11
import Derived.Test.YtdchedkhlfmpeaaDoorEv14
import Derived.WalkKit
import Derived.ProofKit
import Derived.Handy
import Derived.WalkLawsBesides
import Derived.WalkSpells
import Derived.Lib.Hide
import Derived.Lib.SliceRun
import Derived.Deep.RegionLaw
import Derived.RegionTactic
import Derived.ChangeAlike
import Derived.WalkSmall
import Derived.Deep.QuietTactic
import Derived.BigQuiet
import Derived.OwnWalk
import Derived.Outline
import Derived.Deep.CutRange
import Derived.Deep.CutBlock
import Derived.LoopTactic
import Derived.Test.YtdchedkhlfmpeaaDoorBlk
import Derived.MapKept
import Derived.Test.YtdchedkhlfmpeaaDoorRm
import Derived.Test.YtdchedkhlfmpeaaDoorRv
import Derived.Test.YtdchedkhlfmpeaaDoorEv5
import Derived.Maps.RangeWalk
/- Parts: what is gathered of each. -/
namespace Go.Proofs.YtdchedkhlfmpeaaDoor
open Go.ChangeShapes Go.WideShapes Go.ChangeAt Go.RowKit
set_option linter.unusedSimpArgs false
set_option linter.unusedVariables false

/-- One's part: who, the events, their rounds. -/
abbrev PtC := Int × List Ev × List Int
def Cp.hear (x : Ev) (i : Int) : Bool := x.k == 7 || ((x.k == 4 || x.k == 5 || x.k == 6 || x.k == 8) && x.i == i)
def Cp.rnd (b : Nat) : Int := ((b - 1 : Nat) : Int)
def Cp.add (x : Ev) (r : Int) (s : PtC) : PtC := if Cp.hear x s.1 then (s.1, s.2.1 ++ [x], s.2.2 ++ [r]) else s
def Cp.new (b : Nat) (z x : Ev) : PtC := (x.i, (if b = 0 then [] else [z]) ++ [x], (if b = 0 then [] else [Cp.rnd b]) ++ [Cp.rnd b])
def Cp.step (b : Nat) (z : Ev) (S : List PtC) (x : Ev) : List PtC := if x.k = 2 then (if x.i ∈ S.map (·.1) then S else S ++ [Cp.new b z x]) else S.map (Cp.add x (Cp.rnd b))
structure Cp.St where
  b : Nat
  z : Ev
  S : List PtC
def Cp.zev : Ev := ⟨0, 0, 0, 0, ⟨#[]⟩, 0, 0, 0, 0, 0, 0, 0⟩
def Cp.one (s : Cp.St) (x : Ev) : Cp.St := ⟨if x.k = 1 then s.b + 1 else s.b, if x.k = 1 then x else s.z, Cp.step s.b s.z s.S x⟩
def Cp.run (M : List Ev) : Cp.St := M.foldl Cp.one ⟨0, Cp.zev, []⟩
theorem Cp.run_snoc (M : List Ev) (x : Ev) : Cp.run (M ++ [x]) = Cp.one (Cp.run M) x := by unfold Cp.run; rw [List.foldl_append]; rfl
theorem Cp.add_id (x : Ev) (r : Int) (s : PtC) : (Cp.add x r s).1 = s.1 := by unfold Cp.add; split <;> rfl
theorem Cp.step_ids (b : Nat) (z : Ev) (S : List PtC) (x : Ev) : (Cp.step b z S x).map (·.1) = if x.k = 2 then (if x.i ∈ S.map (·.1) then S.map (·.1) else S.map (·.1) ++ [x.i]) else S.map (·.1) := by
  unfold Cp.step
  split
  · split
    · rfl
    · rw [List.map_append]; rfl
  · rw [List.map_map]
    apply List.map_congr_left
    intro s _
    exact Cp.add_id _ _ _
/-- All that is to be known of what was gathered. -/
def Cp.inv (M : List Ev) (s : Cp.St) : Prop :=
  (s.S.map (·.1)).Nodup ∧ (∀ i, i ∈ s.S.map (·.1) ↔ i ∈ Ev.ops M) ∧ (s.b = 0 → Ev.clock M = 0) ∧ (0 < s.b → s.z ∈ M ∧ s.z.k = 1 ∧ Ev.clock M = s.z.t) ∧ s.b ≤ M.length ∧
  ∀ t ∈ s.S, Pj.life t.1 t.2.1 = Pj.life t.1 M ∧ t.2.2.length = t.2.1.length ∧ t.2.1.length ≤ M.length + 1 ∧ (∀ y ∈ t.2.1, y ∈ M)
theorem Cp.life_iff (i : Int) : ∀ (M : List Ev), (Pj.life i M = none) ↔ i ∉ Ev.ops M := by
  intro M
  unfold Pj.life
  cases h : M.findIdx? (Pj.opens i) with
  | none =>
    simp only [true_iff]
    rw [List.findIdx?_eq_none_iff] at h
    unfold Ev.ops
    intro hm
    obtain ⟨x, hx, hi⟩ := List.mem_map.1 hm
    rw [List.mem_filter] at hx
    have := h x hx.1
    unfold Pj.opens at this
    have h2 := hx.2
    rw [h2, hi] at this
    simp at this
  | some j =>
    simp only [reduceCtorEq, false_iff, Classical.not_not]
    obtain ⟨hl, h1, _⟩ := List.findIdx?_eq_some_iff_getElem.1 h
    unfold Pj.opens at h1
    simp only [Bool.and_eq_true, beq_iff_eq] at h1
    unfold Ev.ops
    refine List.mem_map.2 ⟨M[j], List.mem_filter.2 ⟨List.getElem_mem hl, by simp [h1.1]⟩, h1.2⟩
theorem Cp.inv_one (M : List Ev) (x : Ev) (s : Cp.St) (ih : Cp.inv M s) : Cp.inv (M ++ [x]) (Cp.one s x) := by
  obtain ⟨h1, h2, h3, h4, h5, h6⟩ := ih
  have hids := Cp.step_ids s.b s.z s.S x
  refine ⟨?_, ?_, ?_, ?_, ?_, ?_⟩
  · show ((Cp.step s.b s.z s.S x).map (·.1)).Nodup
    rw [hids]
    split
    · split
      · exact h1
      · rename_i hn
        rw [List.nodup_append]
        refine ⟨h1, by simp, ?_⟩
        intro a ha b hb e
        simp at hb
        subst hb
        subst e
        exact hn ha
    · exact h1
  · intro i
    show i ∈ (Cp.step s.b s.z s.S x).map (·.1) ↔ _
    rw [hids, Ev.ops_snoc]
    by_cases hk : x.k = 2
    · rw [if_pos hk, if_pos hk, List.mem_append, ← h2 i]
      split
      · rename_i hm
        constructor
        · exact Or.inl
        · rintro (h | h)
          · exact h
          · simp at h; subst h; exact hm
      · rw [List.mem_append]
    · rw [if_neg hk, if_neg hk]; exact h2 i
  · show (if x.k = 1 then s.b + 1 else s.b) = 0 → _
    rw [Ev.clock_snoc]
    by_cases hk : x.k = 1
    · rw [if_pos hk]; intro h; omega
    · rw [if_neg hk, if_neg hk]; exact h3
  · show 0 < (if x.k = 1 then s.b + 1 else s.b) → (if x.k = 1 then x else s.z) ∈ _ ∧ _
    by_cases hk : x.k = 1
    · intro _
      refine ⟨by rw [if_pos hk]; simp, ?_, ?_⟩
      · show (if x.k = 1 then x else s.z).k = 1
        rw [if_pos hk]; exact hk
      · show _ = (if x.k = 1 then x else s.z).t
        rw [Ev.clock_snoc, if_pos hk, if_pos hk]
    · rw [if_neg hk]
      intro h
      obtain ⟨a1, a2, a3⟩ := h4 h
      refine ⟨by rw [if_neg hk]; exact List.mem_append_left _ a1, ?_, ?_⟩
      · show (if x.k = 1 then x else s.z).k = 1
        rw [if_neg hk]; exact a2
      · show _ = (if x.k = 1 then x else s.z).t
        rw [Ev.clock_snoc, if_neg hk, if_neg hk]; exact a3
  · show (if x.k = 1 then s.b + 1 else s.b) ≤ _
    rw [List.length_append]
    split <;> simp <;> omega
  · intro t ht
    change t ∈ Cp.step s.b s.z s.S x at ht
    unfold Cp.step at ht
    have old : ∀ u ∈ s.S, Cp.hear x u.1 = false → Pj.life u.1 u.2.1 = Pj.life u.1 (M ++ [x]) := by
      intro u hu hh
      have hlf := (h6 u hu).1
      have hin : u.1 ∈ Ev.ops M := (h2 u.1).1 (List.mem_map.2 ⟨u, hu, rfl⟩)
      rw [Pj.life_snoc, ← hlf]
      cases hc : Pj.life u.1 u.2.1 with
      | none =>
        rw [hlf] at hc
        exact absurd hin ((Cp.life_iff _ _).1 hc)
      | some p =>
        obtain ⟨sc, fr, T⟩ := p
        have : Pj.step u.1 T x = T := by
          unfold Cp.hear at hh
          simp only [Bool.or_eq_false_iff, beq_eq_false_iff_ne, Bool.and_eq_false_iff, ne_eq] at hh
          unfold Pj.step
          split
          · rename_i hor
            have hi : x.i = u.1 := by rcases hor with h | h; exact absurd h hh.1; exact h
            have h7 := hh.2
            simp only [hi, not_true_eq_false, or_false] at h7
            exact Pj.one_no ⟨h7.1.1.1, h7.1.1.2, h7.1.2, h7.2, hh.1⟩ T
          · rfl
        simp [this]
    split at ht
    · rename_i hk
      have nohear : ∀ u : PtC, Cp.hear x u.1 = false := by intro u; unfold Cp.hear; rw [hk]; simp
      split at ht
      · obtain ⟨_, b2, b3, b4⟩ := h6 t ht
        exact ⟨old t ht (nohear t), b2, by rw [List.length_append]; omega, fun y hy => List.mem_append_left _ (b4 y hy)⟩
      · rename_i hn
        rcases List.mem_append.1 ht with ht | ht
        · obtain ⟨_, b2, b3, b4⟩ := h6 t ht
          exact ⟨old t ht (nohear t), b2, by rw [List.length_append]; omega, fun y hy => List.mem_append_left _ (b4 y hy)⟩
        · simp at ht
          subst ht
          have hno : Pj.life x.i M = none := (Cp.life_iff _ _).2 (fun h => hn ((h2 x.i).2 h))
          have hop : Pj.opens x.i x = true := by unfold Pj.opens; simp [hk]
          by_cases hb : s.b = 0
          · refine ⟨?_, by unfold Cp.new; simp [hb], by unfold Cp.new; simp [hb], by unfold Cp.new; simp [hb]⟩
            show Pj.life x.i ((if s.b = 0 then [] else [s.z]) ++ [x]) = Pj.life x.i (M ++ [x])
            rw [if_pos hb, Pj.life_snoc, Pj.life_snoc, hno]
            have e0 : Pj.life x.i [] = none := rfl
            rw [e0]
            simp [hop, h3 hb, show Ev.clock [] = 0 from rfl]
          · obtain ⟨a1, a2, a3⟩ := h4 (by omega)
            refine ⟨?_, by unfold Cp.new; simp [hb], ?_, ?_⟩
            · show Pj.life x.i ((if s.b = 0 then [] else [s.z]) ++ [x]) = Pj.life x.i (M ++ [x])
              rw [if_neg hb, Pj.life_snoc, Pj.life_snoc, hno]
              have e0 : Pj.life x.i [s.z] = none := by
                rw [Cp.life_iff]
                unfold Ev.ops
                simp [a2]
              rw [e0]
              have e1 : Ev.clock [s.z] = s.z.t := by
                have := Ev.clock_snoc [] s.z
                rw [if_pos a2] at this
                exact this
              simp [hop, a3, e1]
            · unfold Cp.new
              simp [hb]
            · unfold Cp.new
              intro y hy
              simp [hb] at hy
              rcases hy with rfl | rfl
              · exact List.mem_append_left _ a1
              · simp
    · rename_i hk
      obtain ⟨u, hu, rfl⟩ := List.mem_map.1 ht
      obtain ⟨b1, b2, b3, b4⟩ := h6 u hu
      unfold Cp.add
      cases hh : Cp.hear x u.1 with
      | false =>
        rw [if_neg (by simp)]
        exact ⟨old u hu hh, b2, by rw [List.length_append]; omega, fun y hy => List.mem_append_left _ (b4 y hy)⟩
      | true =>
        rw [if_pos rfl]
        refine ⟨?_, by simp [b2], by simp; omega, ?_⟩
        · show Pj.life u.1 (u.2.1 ++ [x]) = _
          rw [Pj.life_snoc, Pj.life_snoc, b1]
          have hin : u.1 ∈ Ev.ops M := (h2 u.1).1 (List.mem_map.2 ⟨u, hu, rfl⟩)
          cases hc : Pj.life u.1 M with
          | none => exact absurd hin ((Cp.life_iff _ _).1 hc)
          | some p => rfl
        · intro y hy
          rcases List.mem_append.1 hy with h | h
          · exact List.mem_append_left _ (b4 y h)
          · exact List.mem_append_right _ h
theorem Cp.inv_run (M : List Ev) : Cp.inv M (Cp.run M) := by
  have key : ∀ (N M : List Ev) (s : Cp.St), Cp.inv M s → Cp.inv (M ++ N) (N.foldl Cp.one s) := by
    intro N
    induction N with
    | nil => intro M s h; simpa using h
    | cons x N ih =>
      intro M s h
      have := ih (M ++ [x]) (Cp.one s x) (Cp.inv_one M x s h)
      simpa using this
  have h0 : Cp.inv [] ⟨0, Cp.zev, []⟩ := ⟨by simp, by intro i; simp [Ev.ops], by intro _; rfl, by intro h; simp at h, by simp, by intro t ht; simp at ht⟩
  have := key M [] _ h0
  rw [List.nil_append] at this
  exact this
end Go.Proofs.YtdchedkhlfmpeaaDoor
/- A map of integers to whatever values, known whole: looked up, written. Nothing of the program. -/
namespace Go.Proofs.YtdchedkhlfmpeaaDoor
open Go.RowKit
set_option linter.unusedSimpArgs false
set_option linter.unusedVariables false

/-- An entry: key, value, and when it was put in. -/
def entV (x : Int × Value × Nat) : MapEntry := { key := .int .i64 x.1, val := x.2.1, born := x.2.2 }
/-- Block b is a map of just these entries. -/
def MpV (w : World) (b : Nat) (M : List (Int × Value × Nat)) (c : Nat) : Prop := w.heap[b]? = some (.map (M.map entV).toArray c)
def setMV (w : World) (b : Nat) (M : List (Int × Value × Nat)) (c : Nat) : World := { w with heap := w.heap.setIfInBounds b (.map (M.map entV).toArray c) }
section
variable {w w' : World} {b : Nat} {M M' : List (Int × Value × Nat)} {c c' : Nat}
theorem MpV.lt (h : MpV w b M c) : b < w.heap.size := by
  unfold MpV at h
  rcases Nat.lt_or_ge b w.heap.size with h' | h'
  · exact h'
  · rw [Array.getElem?_eq_none h'] at h; cases h
theorem MpV.drew (h : MpV w b M c) : MpV w.drew b M c := h
theorem MpV.chg (h : MpV w b M c) {l : List Nat} (k : Chg l w w') (hb : b ∉ l) : MpV w' b M c := by
  have := h.lt
  unfold MpV at *
  rw [k.block b this hb]; exact h
theorem MpV.below {B : Nat} (h : MpV w b M c) (k : Below B w w') (hb : b < B) : MpV w' b M c := by
  unfold MpV at *
  rw [k.block b hb]; exact h
theorem MpV.other (h : MpV w b M c) {g : Nat} (hne : b ≠ g) (i : Nat) (v : Value) : MpV (w.setCell ⟨g, i, none⟩ v) b M c := by
  unfold MpV at *
  rw [heap_setCell_other w _ b v hne]; exact h
theorem MpV.new (w : World) : MpV (w.alloc (.map #[] 0)) w.heap.size [] 0 := heap_alloc_new w _
theorem setMV_size (w : World) (b : Nat) (M : List (Int × Value × Nat)) (c : Nat) : (setMV w b M c).heap.size = w.heap.size := by unfold setMV; simp
theorem setMV_same (h : b < w.heap.size) (M : List (Int × Value × Nat)) (c : Nat) : MpV (setMV w b M c) b M c := by unfold MpV setMV; simp [h]
theorem setMV_chg (w : World) (b : Nat) (M : List (Int × Value × Nat)) (c : Nat) : Chg [b] w (setMV w b M c) :=
  ⟨rfl, rfl, rfl, by rw [setMV_size]; exact Nat.le_refl _, fun k hk hn => by unfold setMV; simp at hn; simp [Ne.symm hn]⟩
theorem modify_endV {α : Type} (f : α → α) (a : α) : ∀ l : List α, (l ++ [a]).modify l.length f = l ++ [f a]
  | [] => rfl
  | x :: r => by
    have := modify_endV f a r
    simpa [List.modify] using this
theorem erase_mapV {α β : Type} (f : α → β) : ∀ (l : List α) (j : Nat), (l.map f).eraseIdx j = (l.eraseIdx j).map f
  | [], _ => rfl
  | _ :: _, 0 => rfl
  | _ :: r, j + 1 => by simp [erase_mapV f r j]
/-- The value of a key, and where its entry stands. -/
def mIdV : List (Int × Value × Nat) → Int → Option (Nat × Value)
  | [], _ => none
  | x :: r, k => if x.1 = k then some (0, x.2.1) else (mIdV r k).map fun p => (p.1 + 1, p.2)
theorem findNow_entV (k : Int) : ∀ (M : List (Int × Value × Nat)) (i : Nat), Instr.findNow (.int .i64) (.int .i64 k) (M.map entV) i = some ((mIdV M k).map fun p => (i + p.1, p.2))
  | [], i => rfl
  | x :: r, i => by
    by_cases h : x.1 = k
    · simp [Instr.findNow, Instr.sameNow, entV, mIdV, h]
    · have h' : ¬ k = x.1 := fun e => h e.symm
      have ih := findNow_entV k r (i + 1)
      simp only [List.map_cons, Instr.findNow, Instr.sameNow, entV, mIdV, h, if_false] at ih ⊢
      simp only [if_true, beq_eq_false_iff_ne.2 h', ih]
      cases mIdV r k <;> simp [Nat.add_assoc, Nat.add_comm 1]
theorem mIdV_none {k : Int} : ∀ {M : List (Int × Value × Nat)}, (∀ x ∈ M, x.1 ≠ k) → mIdV M k = none
  | [], _ => rfl
  | x :: r, h => by
    rw [mIdV, if_neg (h x (by simp)), mIdV_none (fun y hy => h y (by simp [hy]))]; rfl
variable {P : Program} {t K E : TypeId}
theorem run_lookV {z : Value} (ht : P.underlying t = some (.map K E)) (hK : P.underlying K = some (.int .i64)) (hz : ∀ w, (zeroValue E).run P w = .ok z w) (h : MpV w b M c) (k : Int) :
    (Instr.lookup t (.map (some b)) (.int .i64 k) false).run P w = .ok (((mIdV M k).map (·.2)).getD z) w := by
  have hf := findNow_entV k M 0
  unfold Instr.lookup
  simp only [Sem.run_bind, run_underlying ht, Result.andThen, MapKept.run_getObj_map h, Sem.run_pure, MapKept.run_checkKey hK (show MapKept.IsKey (.int .i64) (.int .i64 k) from rfl), List.toList_toArray, MapKept.run_findKey hK hf]
  cases mIdV M k with
  | none => simp [hz, Result.andThen]
  | some p => simp [Result.andThen]
theorem run_updateV (ht : P.underlying t = some (.map K E)) (hK : P.underlying K = some (.int .i64)) (h : MpV w b M c) (k : Int) (hk : mIdV M k = none) (v : Value) :
    (Instr.mapUpdate t (.map (some b)) (.int .i64 k) v).run P w = .ok () (setMV w b (M ++ [(k, v, c)]) (c + 1)) := by
  have hf := findNow_entV k M 0
  rw [hk] at hf
  unfold Instr.mapUpdate
  simp only [Sem.run_bind, run_underlying ht, Result.andThen, MapKept.run_getObj_map h, Sem.run_pure, MapKept.run_checkKey hK (show MapKept.IsKey (.int .i64) (.int .i64 k) from rfl), List.toList_toArray, MapKept.run_findKey hK hf, Option.map_none, MapKept.run_setObj_map _ h]
  unfold setMV
  simp [entV]
end
end Go.Proofs.YtdchedkhlfmpeaaDoor
/- Parts in memory. -/
namespace Go.Proofs.YtdchedkhlfmpeaaDoor
open Go.ChangeShapes Go.WideShapes Go.ChangeAt Go.RowKit
set_option linter.unusedSimpArgs false
set_option linter.unusedVariables false

/-- One's part in memory, but for who he is: its two rows. -/
structure PV where
  re : Option Addr
  ce : Nat
  T : List Ev
  rr : Option Addr
  cr : Nat
  R : List Int
def PV.bl (p : Nat) (v : PV) : List Nat := p :: (rvB v.re ++ rvB v.rr)
def PV.cs (i : Int) (v : PV) : List Value := [.int .i64 i, .slice v.re v.T.length v.ce, .slice v.rr v.R.length v.cr]
def PO (w : World) (B : Nat) (k : Int × Nat) (v : PV) : Prop := Blk w k.2 (v.cs k.1) 52 ∧ RM w B v.re v.T.length v.ce 12 (evs v.T) 46 ∧ RM w B v.rr v.R.length v.cr 1 (v.R.map (Value.int .i64)) 3 ∧ B ≤ k.2
theorem PO.chg {w w' : World} {B : Nat} {k : Int × Nat} {v : PV} (h : PO w B k v) {l : List Nat} (c : Chg l w w') (hl : ∀ g ∈ v.bl k.2, g ∉ l) : PO w' B k v :=
  ⟨h.1.chg c (hl _ (by simp [PV.bl])), h.2.1.chg c (fun g hg => hl g (by simp [PV.bl, hg])), h.2.2.1.chg c (fun g hg => hl g (by simp [PV.bl, hg])), h.2.2.2⟩
theorem PO.lt {w : World} {B : Nat} {k : Int × Nat} {v : PV} (h : PO w B k v) : ∀ g ∈ v.bl k.2, B ≤ g ∧ g < w.heap.size := by
  intro g hg
  unfold PV.bl at hg
  rcases List.mem_cons.1 hg with rfl | hg
  · exact ⟨h.2.2.2, h.1.lt⟩
  · rcases List.mem_append.1 hg with hg | hg
    · exact h.2.1.lt g hg
    · exact h.2.2.1.lt g hg
/-- Many parts, no two of which share a block. -/
def FM (w : World) (B : Nat) (K : List (Int × Nat)) (V : List PV) : Prop := K.length = V.length ∧ (∀ (i : Nat) k v, K[i]? = some k → V[i]? = some v → PO w B k v) ∧ (∀ (i j : Nat) k v k' v', i ≠ j → K[i]? = some k → V[i]? = some v → K[j]? = some k' → V[j]? = some v' → ∀ g ∈ v.bl k.2, g ∉ v'.bl k'.2)
theorem FM.nil (w : World) (B : Nat) : FM w B [] [] := ⟨rfl, fun i k v h => by simp at h, fun i j k v k' v' _ h => by simp at h⟩
theorem FM.chg {w w' : World} {B : Nat} {K : List (Int × Nat)} {V : List PV} (h : FM w B K V) {l : List Nat} (c : Chg l w w') (hl : ∀ (i : Nat) k v, K[i]? = some k → V[i]? = some v → ∀ g ∈ v.bl k.2, g ∉ l) : FM w' B K V :=
  ⟨h.1, fun i k v hk hv => (h.2.1 i k v hk hv).chg c (hl i k v hk hv), h.2.2⟩
theorem FM.same {w w' : World} {B : Nat} {K : List (Int × Nat)} {V : List PV} (h : FM w B K V) (c : Chg [] w w') : FM w' B K V := h.chg c (fun _ _ _ _ _ _ _ hg => by simp at hg)
theorem FM.lt {w : World} {B : Nat} {K : List (Int × Nat)} {V : List PV} (h : FM w B K V) {i : Nat} {k : Int × Nat} {v : PV} (hk : K[i]? = some k) (hv : V[i]? = some v) : ∀ g ∈ v.bl k.2, B ≤ g ∧ g < w.heap.size := (h.2.1 i k v hk hv).lt
theorem FM.val {w : World} {B : Nat} {K : List (Int × Nat)} {V : List PV} (h : FM w B K V) {i : Nat} {k : Int × Nat} (hk : K[i]? = some k) : ∃ v, V[i]? = some v := by
  have := (List.getElem?_eq_some_iff.1 hk).1
  exact ⟨_, List.getElem?_eq_getElem (by rw [← h.1]; exact this)⟩
theorem FM.put {w w' : World} {B : Nat} {K : List (Int × Nat)} {V : List PV} (h : FM w B K V) {j : Nat} {k : Int × Nat} {v v' : PV} (hk : K[j]? = some k) (hv : V[j]? = some v) (c : Chg (v.bl k.2) w w') (po : PO w' B k v') (fr : ∀ g ∈ v'.bl k.2, g ∈ v.bl k.2 ∨ w.heap.size ≤ g) : FM w' B K (V.set j v') := by
  have hjl := (List.getElem?_eq_some_iff.1 hv).1
  have hsame : (V.set j v')[j]? = some v' := by rw [List.getElem?_set_self hjl]
  have hoth : ∀ i, i ≠ j → (V.set j v')[i]? = V[i]? := fun i hi => by rw [List.getElem?_set_ne (Ne.symm hi)]
  refine ⟨by rw [List.length_set]; exact h.1, fun i k2 v2 hk2 hv2 => ?_, fun i i' k2 v2 k3 v3 hne hk2 hv2 hk3 hv3 g hg hg3 => ?_⟩
  · by_cases e : i = j
    · subst e
      rw [hsame] at hv2
      rw [hk] at hk2
      injection hk2 with hk2; injection hv2 with hv2
      subst hk2 hv2
      exact po
    · rw [hoth i e] at hv2
      exact (h.2.1 i k2 v2 hk2 hv2).chg c (h.2.2 i j k2 v2 k v e hk2 hv2 hk hv)
  · by_cases e : i = j
    · subst e
      rw [hsame] at hv2
      rw [hk] at hk2
      injection hk2 with hk2; injection hv2 with hv2
      subst hk2 hv2
      rw [hoth i' (Ne.symm hne)] at hv3
      rcases fr g hg with hg | hg
      · exact h.2.2 i i' _ _ _ _ hne hk hv hk3 hv3 g hg hg3
      · have := (h.lt hk3 hv3 g hg3).2; omega
    · rw [hoth i e] at hv2
      by_cases e' : i' = j
      · subst e'
        rw [hsame] at hv3
        rw [hk] at hk3
        injection hk3 with hk3; injection hv3 with hv3
        subst hk3 hv3
        rcases fr g hg3 with hg3 | hg3
        · exact h.2.2 i i' _ _ _ _ hne hk2 hv2 hk hv g hg hg3
        · have := (h.lt hk2 hv2 g hg).2; omega
      · rw [hoth i' e'] at hv3
        exact h.2.2 i i' _ _ _ _ hne hk2 hv2 hk3 hv3 g hg hg3
theorem FM.snoc {w : World} {B N : Nat} {K : List (Int × Nat)} {V : List PV} (h : FM w B K V) {k : Int × Nat} {v : PV} (po : PO w B k v) (hN : ∀ (i : Nat) k' v', K[i]? = some k' → V[i]? = some v' → ∀ g ∈ v'.bl k'.2, g < N) (fr : ∀ g ∈ v.bl k.2, N ≤ g) : FM w B (K ++ [k]) (V ++ [v]) := by
  have hat : ∀ (i : Nat) k2 v2, (K ++ [k])[i]? = some k2 → (V ++ [v])[i]? = some v2 → (K[i]? = some k2 ∧ V[i]? = some v2 ∧ i < K.length) ∨ (i = K.length ∧ k2 = k ∧ v2 = v) := by
    intro i k2 v2 hk2 hv2
    by_cases e : i < K.length
    · rw [List.getElem?_append_left e] at hk2
      rw [List.getElem?_append_left (by rw [← h.1]; exact e)] at hv2
      exact Or.inl ⟨hk2, hv2, e⟩
    · have e2 : i = K.length := by
        have := (List.getElem?_eq_some_iff.1 hk2).1
        simp at this; omega
      subst e2
      rw [List.getElem?_append_right (Nat.le_refl _)] at hk2
      rw [h.1, List.getElem?_append_right (Nat.le_refl _)] at hv2
      simp at hk2 hv2
      exact Or.inr ⟨rfl, hk2.symm, hv2.symm⟩
  refine ⟨by simp [h.1], fun i k2 v2 hk2 hv2 => ?_, fun i i' k2 v2 k3 v3 hne hk2 hv2 hk3 hv3 g hg hg3 => ?_⟩
  · rcases hat i k2 v2 hk2 hv2 with ⟨a, b, _⟩ | ⟨_, rfl, rfl⟩
    · exact h.2.1 i k2 v2 a b
    · exact po
  · rcases hat i k2 v2 hk2 hv2 with ⟨a, b, _⟩ | ⟨e1, rfl, rfl⟩
    · rcases hat i' k3 v3 hk3 hv3 with ⟨a', b', _⟩ | ⟨_, rfl, rfl⟩
      · exact h.2.2 i i' k2 v2 k3 v3 hne a b a' b' g hg hg3
      · have := hN i k2 v2 a b g hg
        have := fr g hg3
        omega
    · rcases hat i' k3 v3 hk3 hv3 with ⟨a', b', _⟩ | ⟨e2, rfl, rfl⟩
      · have := hN i' k3 v3 a' b' g hg3
        have := fr g hg
        omega
      · omega
/-- What the parts are. -/
def Cp.con (K : List (Int × Nat)) (V : List PV) : List PtC := List.zipWith (fun k v => (k.1, v.T, v.R)) K V
theorem Cp.con_at {K : List (Int × Nat)} {V : List PV} {i : Nat} {k : Int × Nat} {v : PV} (hk : K[i]? = some k) (hv : V[i]? = some v) : (Cp.con K V)[i]? = some (k.1, v.T, v.R) := by
  unfold Cp.con
  rw [List.getElem?_zipWith, hk, hv]
theorem Cp.con_ids {K : List (Int × Nat)} {V : List PV} (h : K.length = V.length) : (Cp.con K V).map (·.1) = K.map (·.1) := by
  induction K generalizing V with
  | nil => rfl
  | cons k K ih =>
    cases V with
    | nil => simp at h
    | cons v V =>
      simp only [Cp.con, List.zipWith_cons_cons, List.map_cons]
      congr 1
      exact ih (by simpa using h)
theorem Cp.con_len {K : List (Int × Nat)} {V : List PV} (h : K.length = V.length) : (Cp.con K V).length = K.length := by unfold Cp.con; rw [List.length_zipWith]; omega
theorem Cp.con_snoc {K : List (Int × Nat)} {V : List PV} (h : K.length = V.length) (k : Int × Nat) (v : PV) : Cp.con (K ++ [k]) (V ++ [v]) = Cp.con K V ++ [(k.1, v.T, v.R)] := by
  unfold Cp.con
  rw [List.zipWith_append h]
  rfl
/-- The entries of the map of parts. -/
def Cp.ens (K : List (Int × Nat)) : List (Int × Value × Nat) := K.mapIdx (fun n k => (k.1, Value.pointer (some ⟨k.2, 0, none⟩), n))
theorem Cp.ens_snoc (K : List (Int × Nat)) (k : Int × Nat) : Cp.ens (K ++ [k]) = Cp.ens K ++ [(k.1, Value.pointer (some ⟨k.2, 0, none⟩), K.length)] := by unfold Cp.ens; rw [List.mapIdx_concat]
theorem Cp.ens_len (K : List (Int × Nat)) : (Cp.ens K).length = K.length := by unfold Cp.ens; simp
theorem Cp.ens_at {K : List (Int × Nat)} {i : Nat} {k : Int × Nat} (h : K[i]? = some k) : (Cp.ens K)[i]? = some (k.1, Value.pointer (some ⟨k.2, 0, none⟩), i) := by unfold Cp.ens; rw [List.getElem?_mapIdx, h]; rfl
theorem Cp.ens_mem {K : List (Int × Nat)} {x : Int × Value × Nat} (h : x ∈ Cp.ens K) : ∃ (i : Nat) (k : Int × Nat), K[i]? = some k ∧ x = (k.1, Value.pointer (some ⟨k.2, 0, none⟩), i) := by
  obtain ⟨i, hi⟩ := List.getElem?_of_mem h
  unfold Cp.ens at hi
  rw [List.getElem?_mapIdx] at hi
  cases hk : K[i]? with
  | none => rw [hk] at hi; cases hi
  | some k => rw [hk] at hi; injection hi with hi; exact ⟨i, k, hk, hi.symm⟩
theorem Cp.ens_none {K : List (Int × Nat)} {i : Int} (h : i ∉ K.map (·.1)) : mIdV (Cp.ens K) i = none := mIdV_none (fun x hx => by
  obtain ⟨n, k, hk, rfl⟩ := Cp.ens_mem hx
  intro e
  exact h (List.mem_map.2 ⟨k, List.mem_of_getElem? hk, e⟩))
theorem mIdV_hit {k : Int} {v : Value} {b : Nat} : ∀ {M : List (Int × Value × Nat)} {j : Nat}, (M.map (·.1)).Nodup → M[j]? = some (k, v, b) → mIdV M k = some (j, v)
  | [], j, _, h => by simp at h
  | x :: M, 0, _, h => by
    simp at h
    subst h
    unfold mIdV
    rw [if_pos rfl]
  | x :: M, j + 1, hn, h => by
    simp only [List.getElem?_cons_succ] at h
    have hn2 : x.1 ∉ M.map (·.1) ∧ (M.map (·.1)).Nodup := List.nodup_cons.1 hn
    unfold mIdV
    rw [if_neg (fun e => hn2.1 (by rw [e]; exact List.mem_map.2 ⟨_, List.mem_of_getElem? h, rfl⟩)), mIdV_hit hn2.2 h]
    rfl
theorem Cp.ens_ids (K : List (Int × Nat)) : (Cp.ens K).map (·.1) = K.map (·.1) := by
  apply List.ext_getElem?
  intro i
  rw [List.getElem?_map, List.getElem?_map]
  unfold Cp.ens
  rw [List.getElem?_mapIdx]
  cases K[i]? <;> rfl
theorem Cp.ens_hit {K : List (Int × Nat)} (hn : (K.map (·.1)).Nodup) {j : Nat} {k : Int × Nat} (h : K[j]? = some k) : mIdV (Cp.ens K) k.1 = some (j, Value.pointer (some ⟨k.2, 0, none⟩)) := mIdV_hit (by rw [Cp.ens_ids]; exact hn) (Cp.ens_at h)
end Go.Proofs.YtdchedkhlfmpeaaDoor
/- Parts: add of one, the number of a round. -/
namespace Go.Proofs.YtdchedkhlfmpeaaDoor
open Go.ChangeShapes Go.WideShapes Go.ChangeAt Go.RowKit
set_option linter.unusedSimpArgs false
set_option linter.unusedVariables false

theorem PV.pnot {w : World} {B p : Nat} {i : Int} {v : PV} (h : PO w B (i, p) v) : p ∉ rvB v.re ∧ p ∉ rvB v.rr := ⟨rm_ty h.2.1 h.1 (by decide), rm_ty h.2.2.1 h.1 (by decide)⟩
theorem PV.apart {w : World} {B p : Nat} {i : Int} {v : PV} (h : PO w B (i, p) v) : (∀ g ∈ rvB v.rr, g ∉ rvB v.re) ∧ (∀ g ∈ rvB v.re, g ∉ rvB v.rr) := ⟨rm_ne h.2.2.1 h.2.1 (by decide), rm_ne h.2.1 h.2.2.1 (by decide)⟩
/-- A part that is worked on. -/
structure PA (w0 : World) (l0 : List Nat) (w : World) (B p : Nat) (i : Int) (v : PV) : Prop where
  o : PO w B (i, p) v
  ch : Chg l0 w0 w
  fr : ∀ g ∈ v.bl p, g ∈ l0 ∨ w0.heap.size ≤ g
theorem PA.same {w0 : World} {l0 : List Nat} {w w' : World} {B p : Nat} {i : Int} {v : PV} (h : PA w0 l0 w B p i v) (k : Chg [] w w') : PA w0 l0 w' B p i v := ⟨h.o.chg k (by simp), h.ch.trans k (by simp), h.fr⟩
theorem PA.alloc {w0 : World} {l0 : List Nat} {w : World} {B p : Nat} {i : Int} {v : PV} (h : PA w0 l0 w B p i v) (o : Obj) : PA w0 l0 (w.alloc o) B p i v := h.same ((Chg.refl [] _).alloc _)
theorem PA.drew {w0 : World} {l0 : List Nat} {w : World} {B p : Nat} {i : Int} {v : PV} (h : PA w0 l0 w B p i v) : PA w0 l0 w.drew B p i v := h.same (Chg.refl [] _).drew
theorem PA.grow1 {w0 : World} {l0 : List Nat} {w w' : World} {B p : Nat} {i : Int} {re : Option Addr} {ce : Nat} {T : List Ev} {rr : Option Addr} {cr : Nat} {R : List Int} (h : PA w0 l0 w B p i ⟨re, ce, T, rr, cr, R⟩) {g' c' n : Nat} {x : Ev} (hn : T.length = n) (hr : RM w' B (some ⟨g', 0, none⟩) (n + 1) c' 12 (evs T ++ x.c) 46) (hg : g' ∈ rvB re ∨ w.heap.size ≤ g') (k : Chg (rvB re) w w') :
    PA w0 l0 (w'.setCell ⟨p, 1, none⟩ (.slice (some ⟨g', 0, none⟩) (n + 1) c')) B p i ⟨some ⟨g', 0, none⟩, c', T ++ [x], rr, cr, R⟩ := by
  subst hn
  have hp := PV.pnot h.o
  have ha := PV.apart h.o
  have hl : ∀ g ∈ rvB re, g ∈ l0 ∨ w0.heap.size ≤ g := fun g hm => h.fr g (by simp [PV.bl, hm])
  have hpl : p ∈ l0 ∨ w0.heap.size ≤ p := h.fr p (by simp [PV.bl])
  have b1 := (h.o.1.chg k hp.1).set 1 (.slice (some ⟨g', 0, none⟩) (T.length + 1) c')
  have c1 : Chg [p] w' (w'.setCell ⟨p, 1, none⟩ (.slice (some ⟨g', 0, none⟩) (T.length + 1) c')) := (Chg.refl [p] w').set (Or.inl (by simp)) _ _
  have q1 := rm_ty hr (h.o.1.chg k hp.1) (by decide)
  have r2 := h.o.2.2.1.chg k ha.1
  have q2 := rm_ty r2 (h.o.1.chg k hp.1) (by decide)
  refine ⟨⟨?_, ?_, r2.chg c1 (fun g hm e => by simp at e; subst e; exact q2 hm), h.o.2.2.2⟩, ?_, ?_⟩
  · simpa [PV.cs] using b1
  · show RM _ B _ (T ++ [x]).length c' 12 (evs (T ++ [x])) _
    rw [evs_snoc, List.length_append]
    exact hr.chg c1 (fun g hm e => by simp at e; subst e; exact q1 hm)
  · exact (h.ch.trans k hl).trans c1 (by intro y hy; simp at hy; subst hy; exact hpl)
  · intro g hm
    simp only [PV.bl, rvB_some, List.mem_cons, List.mem_append, List.not_mem_nil, or_false] at hm
    rcases hm with rfl | rfl | hm
    · exact hpl
    · rcases hg with hg | hg
      · exact hl _ hg
      · exact Or.inr (Nat.le_trans h.ch.size hg)
    · exact h.fr g (by simp [PV.bl, hm])
theorem PA.grow2 {w0 : World} {l0 : List Nat} {w w' : World} {B p : Nat} {i : Int} {re : Option Addr} {ce : Nat} {T : List Ev} {rr : Option Addr} {cr : Nat} {R : List Int} (h : PA w0 l0 w B p i ⟨re, ce, T, rr, cr, R⟩) {g' c' n : Nat} {r : Int} (hn : R.length = n) (hr : RM w' B (some ⟨g', 0, none⟩) (n + 1) c' 1 (R.map (Value.int .i64) ++ [.int .i64 r]) 3) (hg : g' ∈ rvB rr ∨ w.heap.size ≤ g') (k : Chg (rvB rr) w w') :
    PA w0 l0 (w'.setCell ⟨p, 2, none⟩ (.slice (some ⟨g', 0, none⟩) (n + 1) c')) B p i ⟨re, ce, T, some ⟨g', 0, none⟩, c', R ++ [r]⟩ := by
  subst hn
  have hp := PV.pnot h.o
  have ha := PV.apart h.o
  have hl : ∀ g ∈ rvB rr, g ∈ l0 ∨ w0.heap.size ≤ g := fun g hm => h.fr g (by simp [PV.bl, hm])
  have hpl : p ∈ l0 ∨ w0.heap.size ≤ p := h.fr p (by simp [PV.bl])
  have b1 := (h.o.1.chg k hp.2).set 2 (.slice (some ⟨g', 0, none⟩) (R.length + 1) c')
  have c1 : Chg [p] w' (w'.setCell ⟨p, 2, none⟩ (.slice (some ⟨g', 0, none⟩) (R.length + 1) c')) := (Chg.refl [p] w').set (Or.inl (by simp)) _ _
  have q1 := rm_ty hr (h.o.1.chg k hp.2) (by decide)
  have r2 := h.o.2.1.chg k ha.2
  have q2 := rm_ty r2 (h.o.1.chg k hp.2) (by decide)
  refine ⟨⟨?_, r2.chg c1 (fun g hm e => by simp at e; subst e; exact q2 hm), ?_, h.o.2.2.2⟩, ?_, ?_⟩
  · simpa [PV.cs] using b1
  · show RM _ B _ (R ++ [r]).length c' 1 ((R ++ [r]).map (Value.int .i64)) _
    rw [List.map_append, List.length_append]
    exact hr.chg c1 (fun g hm e => by simp at e; subst e; exact q1 hm)
  · exact (h.ch.trans k hl).trans c1 (by intro y hy; simp at hy; subst hy; exact hpl)
  · intro g hm
    simp only [PV.bl, rvB_some, List.mem_cons, List.mem_append, List.not_mem_nil, or_false] at hm
    rcases hm with rfl | hm | rfl
    · exact hpl
    · exact h.fr g (by simp [PV.bl, hm])
    · rcases hg with hg | hg
      · exact hl _ hg
      · exact Or.inr (Nat.le_trans h.ch.size hg)
set_option maxRecDepth 20000 in
set_option maxHeartbeats 16000000 in
theorem cp_round (b s : Nat) (hb : b ≤ 1000000) (r : Int) (hr : Cp.rnd b = r) (w : World) (hc : w.cell? ⟨s, 1, none⟩ = some (.int .i64 b)) :
    Calls Tryd.prog 52 #[.pointer (some ⟨s, 0, none⟩)] w fun q w' => q = .returned (.int .i64 r) ∧ w' = w := by
  unfold Cp.rnd at hr
  have w1 : IntKind.i64.wrap ((b : Int) - 1) = (b : Int) - 1 := IntWalk.i64_in _ (by omega)
  have HR : Hid (max ((b : Int) - 1) 0 = r) := Lib.hid (by rw [← hr]; omega)
  clear hr
  go_enter Tryd.func52, Tryd.ntmps52
  go_wp2_with fail
  go_ret
  have h := HR.out
  exact ⟨by rw [h]; rfl, rfl⟩
set_option maxRecDepth 20000 in
set_option maxHeartbeats 16000000 in
theorem cp_padd (k i n t : Int) (b : ByteArray) (e s0 s1 s2 s3 s4 s5 : Int) (r i0 : Int) (B p : Nat) (v : PV) (hT : v.T.length ≤ 100000) (hR : v.R.length ≤ 100000) (w : World) (H : PO w B (i0, p) v) :
    Calls Tryd.prog 51 #[.pointer (some ⟨p, 0, none⟩), .agg #[.int .i64 k, .int .i64 i, .int .i64 n, .int .i64 t, .string b, .int .i64 e, .int .i64 s0, .int .i64 s1, .int .i64 s2, .int .i64 s3, .int .i64 s4, .int .i64 s5], .int .i64 r] w fun q w' => ∃ v' : PV, q = .returned (.tuple #[]) ∧ PO w' B (i0, p) v' ∧ v'.T = v.T ++ [⟨k, i, n, t, b, e, s0, s1, s2, s3, s4, s5⟩] ∧ v'.R = v.R ++ [r] ∧ Chg (v.bl p) w w' ∧ (∀ g ∈ v'.bl p, g ∈ v.bl p ∨ w.heap.size ≤ g) := by
  obtain ⟨re, ce, T, rr, cr, R⟩ := v
  obtain ⟨m1, hm1⟩ : ∃ m, T.length = m := ⟨_, rfl⟩
  obtain ⟨m2, hm2⟩ : ∃ m, R.length = m := ⟨_, rfl⟩
  dsimp only at hT hR
  rw [hm1] at hT
  rw [hm2] at hR
  obtain ⟨l0, hl0⟩ : ∃ l0, PV.bl p ⟨re, ce, T, rr, cr, R⟩ = l0 := ⟨_, rfl⟩
  have H1 : Hid (PA w l0 (w.alloc (.cells #[.int .i64 k, .int .i64 i, .int .i64 n, .int .i64 t, .string b, .int .i64 e, .int .i64 s0, .int .i64 s1, .int .i64 s2, .int .i64 s3, .int .i64 s4, .int .i64 s5] 46)) B p i0 ⟨re, ce, T, rr, cr, R⟩ ∧ Blk (w.alloc (.cells #[.int .i64 k, .int .i64 i, .int .i64 n, .int .i64 t, .string b, .int .i64 e, .int .i64 s0, .int .i64 s1, .int .i64 s2, .int .i64 s3, .int .i64 s4, .int .i64 s5] 46)) w.heap.size [.int .i64 k, .int .i64 i, .int .i64 n, .int .i64 t, .string b, .int .i64 e, .int .i64 s0, .int .i64 s1, .int .i64 s2, .int .i64 s3, .int .i64 s4, .int .i64 s5] 46) := Lib.hid ⟨PA.alloc ⟨H, Chg.refl _ _, fun g hg => Or.inl (by rw [← hl0]; exact hg)⟩ _, Blk.newA _ _ _⟩
  have HM := Lib.hid (And.intro hm1 (And.intro hm2 hl0))
  clear H hm1 hm2 hl0
  go_enter Tryd.func51, Tryd.ntmps51
  go_upto_region 1 with fail
  revert H1
  generalize (w.alloc (.cells #[.int .i64 k, .int .i64 i, .int .i64 n, .int .i64 t, .string b, .int .i64 e, .int .i64 s0, .int .i64 s1, .int .i64 s2, .int .i64 s3, .int .i64 s4, .int .i64 s5] 46)) = W1
  generalize w.heap.size = X
  intro H1
  go_cut [] from 6 to 15 (fun wx => ∃ gA kA : Nat, Hid (PA w l0 wx B p i0 ⟨some ⟨gA, 0, none⟩, kA, T ++ [⟨k, i, n, t, b, e, s0, s1, s2, s3, s4, s5⟩], rr, cr, R⟩))
  case first =>
    have p1 : W1.drew.cell? ⟨p, 1, none⟩ = some (.slice re m1 ce) := by have := H1.out.1.o.1.cell (i := 1) rfl; rw [HM.out.1] at this; exact this
    have f1 : W1.drew.frozen? ⟨p, 1, none⟩ = false := H1.out.1.o.1.free 1
    have y0 := H1.out.2.drew.cell (i := 0) rfl
    have y1 := H1.out.2.drew.cell (i := 1) rfl
    have y2 := H1.out.2.drew.cell (i := 2) rfl
    have y3 := H1.out.2.drew.cell (i := 3) rfl
    have y4 := H1.out.2.drew.cell (i := 4) rfl
    have y5 := H1.out.2.drew.cell (i := 5) rfl
    have y6 := H1.out.2.drew.cell (i := 6) rfl
    have y7 := H1.out.2.drew.cell (i := 7) rfl
    have y8 := H1.out.2.drew.cell (i := 8) rfl
    have y9 := H1.out.2.drew.cell (i := 9) rfl
    have y10 := H1.out.2.drew.cell (i := 10) rfl
    have y11 := H1.out.2.drew.cell (i := 11) rfl
    have p1a : (W1.alloc (.cells #[.int .i64 k, .int .i64 i, .int .i64 n, .int .i64 t, .string b, .int .i64 e, .int .i64 s0, .int .i64 s1, .int .i64 s2, .int .i64 s3, .int .i64 s4, .int .i64 s5] 46)).cell? ⟨p, 1, none⟩ = some (.slice re m1 ce) := by have := (H1.out.1.o.1.alloc (.cells #[.int .i64 k, .int .i64 i, .int .i64 n, .int .i64 t, .string b, .int .i64 e, .int .i64 s0, .int .i64 s1, .int .i64 s2, .int .i64 s3, .int .i64 s4, .int .i64 s5] 46)).cell (i := 1) rfl; rw [HM.out.1] at this; exact this
    have lp := H1.out.1.o.1.lt
    have lx := H1.out.2.lt
    dsimp only at lp
    have np1 : ¬ p = W1.heap.size := by omega
    have np2 : ¬ W1.heap.size = p := by omega
    have np3 : ¬ X = W1.heap.size := by omega
    have np4 : ¬ W1.heap.size = X := by omega
    go_region_law (first
      | (refine step_append_rm rfl (.tmp 10) (.tmp 12) 22 22 rfl 46 (.agg #[.int .i64 0, .int .i64 0, .int .i64 0, .int .i64 0, .string ByteArray.empty, .int .i64 0, .int .i64 0, .int .i64 0, .int .i64 0, .int .i64 0, .int .i64 0, .int .i64 0]) 12 104 Tryd.underlying22 infoEv rfl B re m1 ce (evs T) rfl (by have := (H1.out.1.alloc (.cells #[.int .i64 k, .int .i64 i, .int .i64 n, .int .i64 t, .string b, .int .i64 e, .int .i64 s0, .int .i64 s1, .int .i64 s2, .int .i64 s3, .int .i64 s4, .int .i64 s5] 46)).drew.o.2.1; rw [HM.out.1] at this; exact this) _ rfl 1 (by omega) [.int .i64 k, .int .i64 i, .int .i64 n, .int .i64 t, .string b, .int .i64 e, .int .i64 s0, .int .i64 s1, .int .i64 s2, .int .i64 s3, .int .i64 s4, .int .i64 s5] (Src.ofSlice _ Tryd.underlying22 ⟨_, 0, none⟩ 1 1 [.int .i64 k, .int .i64 i, .int .i64 n, .int .i64 t, .string b, .int .i64 e, .int .i64 s0, .int .i64 s1, .int .i64 s2, .int .i64 s3, .int .i64 s4, .int .i64 s5] rfl (new_atE _ _ _) (Ev.c_one ⟨k, i, n, t, b, e, s0, s1, s2, s3, s4, s5⟩)) (by omega) (by omega) ?_; intro gA kA w4 q1 q2 q3; have HN := Lib.hid ((H1.out.1.alloc (.cells #[.int .i64 k, .int .i64 i, .int .i64 n, .int .i64 t, .string b, .int .i64 e, .int .i64 s0, .int .i64 s1, .int .i64 s2, .int .i64 s3, .int .i64 s4, .int .i64 s5] 46)).drew.grow1 (x := ⟨k, i, n, t, b, e, s0, s1, s2, s3, s4, s5⟩) HM.out.1 q1 q2 q3); have u3 := (H1.out.1.alloc (.cells #[.int .i64 k, .int .i64 i, .int .i64 n, .int .i64 t, .string b, .int .i64 e, .int .i64 s0, .int .i64 s1, .int .i64 s2, .int .i64 s3, .int .i64 s4, .int .i64 s5] 46)).drew.o.1.chg q3 (PV.pnot (H1.out.1.alloc (.cells #[.int .i64 k, .int .i64 i, .int .i64 n, .int .i64 t, .string b, .int .i64 e, .int .i64 s0, .int .i64 s1, .int .i64 s2, .int .i64 s3, .int .i64 s4, .int .i64 s5] 46)).drew.o).1; have p3m := u3.cell (i := 1) rfl; have f3m := u3.free 1; rw [HM.out.1] at p3m; clear u3 q1 q2 q3))
    all_goals
      go_wp2_with fail
      go_meet
      exact ⟨gA, kA, HN⟩
  case rest =>
    obtain ⟨gA, kA, HA⟩ := hcut
    clear H1
    have p2 := HA.out.o.1.cell (i := 2) rfl
    rw [HM.out.2.1] at p2
    have f2 := HA.out.o.1.free 2
    have lp := HA.out.o.1.lt
    dsimp only at lp p2 f2
    have np1 : ¬ p = _ := Nat.ne_of_lt lp
    go_wp2_with (at_builtin; refine wpList_append_rm _ rfl (.tmp 20) (.tmp 22) 50 50 rfl 3 (.int .i64 0) 1 8 Tryd.underlying50 infoInt rfl B rr m2 cr (R.map (Value.int .i64)) rfl (by have := (HA.out.alloc (.cells #[.int .i64 r] 3)).o.2.2.1; rw [HM.out.2.1] at this; exact this) _ rfl 1 (by omega) [.int .i64 r] (Src.ofSlice _ Tryd.underlying50 ⟨_, 0, none⟩ 1 1 [.int .i64 r] rfl (new_atE _ _ _) (by intro v hv; simp at hv; subst hv; rfl)) (by omega) (by omega) ?_; intro g4 c4 w4 r1 r2 r3; have HN := Lib.hid ((HA.out.alloc (.cells #[.int .i64 r] 3)).grow2 HM.out.2.1 r1 r2 r3); have u3 := (HA.out.alloc (.cells #[.int .i64 r] 3)).o.1.chg r3 (PV.pnot (HA.out.alloc (.cells #[.int .i64 r] 3)).o).2; have p3m := u3.cell (i := 2) rfl; have f3m := u3.free 2; rw [HM.out.2.1] at p3m; clear u3 r1 r2 r3)
    go_end0
    refine ⟨rfl, _, HN.out.o, rfl, rfl, ?_, ?_⟩
    · rw [HM.out.2.2]; exact HN.out.ch
    · rw [HM.out.2.2]; exact HN.out.fr
end Go.Proofs.YtdchedkhlfmpeaaDoor
/- Parts: the splitter; open. -/
namespace Go.Proofs.YtdchedkhlfmpeaaDoor
open Go.ChangeShapes Go.WideShapes Go.ChangeAt Go.RowKit
set_option linter.unusedSimpArgs false
set_option linter.unusedVariables false

/-- The splitter in block sb, its map in block mb. -/
structure SPS (w : World) (B sb mb : Nat) (K : List (Int × Nat)) (V : List PV) (b : Nat) (z : Ev) : Prop where
  o : Blk w sb (.map (some mb) :: .int .i64 b :: z.c) 82
  m : MpV w mb (Cp.ens K) K.length
  f : FM w B K V
  hB : B ≤ sb ∧ B ≤ mb
  nd : (K.map (·.1)).Nodup
theorem PO.notSb {w : World} {B : Nat} {k : Int × Nat} {v : PV} (h : PO w B k v) {sb : Nat} {cs : List Value} (hb : Blk w sb cs 82) : sb ∉ v.bl k.2 := by
  intro hm
  simp only [PV.bl, List.mem_cons, List.mem_append] at hm
  rcases hm with e | e | e
  · have h1 := h.1
    rw [← e] at h1
    unfold Blk at h1 hb
    rw [hb] at h1
    have := Option.some.inj h1
    injection this with _ b
    exact absurd b (by decide)
  · exact rm_ty h.2.1 hb (by decide) e
  · exact rm_ty h.2.2.1 hb (by decide) e
theorem rn_notM {w : World} {g c sz : Nat} {L : List Value} {T : TypeId} (h : Rn w g c sz L T) {mb : Nat} {M : List (Int × Value × Nat)} {q : Nat} (hm : MpV w mb M q) : mb ≠ g := by
  intro e
  subst e
  obtain ⟨_, _, _, hb⟩ := h
  unfold Blk at hb; unfold MpV at hm
  rw [hm] at hb
  have := Option.some.inj hb
  cases this
theorem rm_notM {w : World} {B n c sz : Nat} {r : Option Addr} {L : List Value} {T : TypeId} (h : RM w B r n c sz L T) {mb : Nat} {M : List (Int × Value × Nat)} {q : Nat} (hm : MpV w mb M q) : mb ∉ rvB r := by
  obtain ⟨_, _, ⟨rfl, _, _⟩ | ⟨g, rfl, _, hr⟩⟩ := h
  · simp [rvB]
  · rw [rvB_some]; simp; exact rn_notM hr hm
theorem blk_notM {w : World} {g : Nat} {L : List Value} {T : TypeId} (hb : Blk w g L T) {mb : Nat} {M : List (Int × Value × Nat)} {q : Nat} (hm : MpV w mb M q) : mb ≠ g := by
  intro e
  subst e
  unfold Blk at hb; unfold MpV at hm
  rw [hm] at hb
  have := Option.some.inj hb
  cases this
theorem PO.notMb {w : World} {B : Nat} {k : Int × Nat} {v : PV} (h : PO w B k v) {mb : Nat} {M : List (Int × Value × Nat)} {q : Nat} (hm : MpV w mb M q) : mb ∉ v.bl k.2 := by
  intro e
  simp only [PV.bl, List.mem_cons, List.mem_append] at e
  rcases e with e | e | e
  · exact blk_notM h.1 hm e
  · exact rm_notM h.2.1 hm e
  · exact rm_notM h.2.2.1 hm e
theorem SPS.same {w w' : World} {B sb mb : Nat} {K : List (Int × Nat)} {V : List PV} {b : Nat} {z : Ev} (h : SPS w B sb mb K V b z) (k : Chg [] w w') : SPS w' B sb mb K V b z := ⟨h.o.chg k (by simp), h.m.chg k (by simp), h.f.same k, h.hB, h.nd⟩
theorem SPS.lt {w : World} {B sb mb : Nat} {K : List (Int × Nat)} {V : List PV} {b : Nat} {z : Ev} (h : SPS w B sb mb K V b z) : sb < w.heap.size ∧ mb < w.heap.size := ⟨h.o.lt, h.m.lt⟩
theorem SPS.below {w w' : World} {B sb mb : Nat} {K : List (Int × Nat)} {V : List PV} {b : Nat} {z : Ev} (h : SPS w B sb mb K V b z) (k : Below w.heap.size w w') : SPS w' B sb mb K V b z := h.same (Chg.of_fresh k)
theorem PO.base_le {w : World} {B B' : Nat} {k : Int × Nat} {v : PV} (h : PO w B k v) (hB : B' ≤ B) : PO w B' k v := ⟨h.1, h.2.1.base_le hB, h.2.2.1.base_le hB, Nat.le_trans hB h.2.2.2⟩
/-- A new part comes into the map. -/
theorem SPS.more {w : World} {B sb mb N : Nat} {K : List (Int × Nat)} {V : List PV} {b : Nat} {z : Ev} (h : SPS w B sb mb K V b z) {w' : World} (hk : Below w.heap.size w w') (hN : w.heap.size ≤ N) {i : Int} {q : Nat} {v : PV} (po : PO w' N (i, q) v) (hi : i ∉ K.map (·.1)) (hBN : B ≤ w.heap.size) :
    SPS (setMV w' mb (Cp.ens K ++ [(i, Value.pointer (some ⟨q, 0, none⟩), K.length)]) (K.length + 1)) B sb mb (K ++ [(i, q)]) (V ++ [v]) b z ∧ Below B w' (setMV w' mb (Cp.ens K ++ [(i, Value.pointer (some ⟨q, 0, none⟩), K.length)]) (K.length + 1)) := by
  have h' := h.below hk
  have c := setMV_chg w' mb (Cp.ens K ++ [(i, Value.pointer (some ⟨q, 0, none⟩), K.length)]) (K.length + 1)
  refine ⟨⟨h'.o.chg c (by simp; exact fun e => blk_notM h'.o h'.m e.symm), ?_, ?_, h.hB, ?_⟩, c.below (Nat.le_trans h.hB.2 (Nat.le_of_lt h'.m.lt)) (by intro x hx; simp at hx; subst hx; exact h.hB.2)⟩
  · rw [Cp.ens_snoc, List.length_append]
    exact setMV_same h'.m.lt _ _
  · have f2 := h'.f.chg c (fun n k2 v2 a1 a2 g hg e => by simp at e; subst e; exact (h'.f.2.1 n k2 v2 a1 a2).notMb h'.m hg)
    refine f2.snoc (N := w.heap.size) ((po.chg c (fun g hg e => by simp at e; subst e; exact po.notMb h'.m hg)).base_le (by omega)) (fun n k2 v2 a1 a2 g hg => (h.f.lt a1 a2 g hg).2) (fun g hg => Nat.le_trans hN (po.lt g hg).1)
  · rw [List.map_append, List.nodup_append]
    refine ⟨h.nd, by simp, ?_⟩
    intro a ha c hc e
    simp at hc
    subst hc
    subst e
    exact hi ha
theorem zeroPP (w : World) : (zeroValue 88).run Tryd.prog w = .ok (.pointer none) w := by kernel_rfl
/-- A part that is made. -/
structure OS (w0 w : World) (x : Ev) (q : Nat) (v : PV) : Prop where
  be : Below w0.heap.size w0 w
  ev : Blk w w0.heap.size x.c 46
  po : PO w (w0.heap.size + 1) (x.i, q) v
  le : w0.heap.size + 1 ≤ w.heap.size
theorem OS.drew {w0 w : World} {x : Ev} {q : Nat} {v : PV} (h : OS w0 w x q v) : OS w0 w.drew x q v := ⟨h.be.drew, h.ev.drew, h.po.chg (Chg.refl [] _).drew (by simp), h.le⟩
theorem OS.new (w0 : World) (x : Ev) : OS w0 ((w0.alloc (.cells x.c.toArray 46)).alloc (.cells #[.int .i64 x.i, .slice none 0 0, .slice none 0 0] 52)) x (w0.heap.size + 1) ⟨none, 0, [], none, 0, []⟩ := by
  have b1 := (Blk.new w0 x.c 46).alloc (.cells #[.int .i64 x.i, .slice none 0 0, .slice none 0 0] 52)
  have b2 := Blk.newA (w0.alloc (.cells x.c.toArray 46)) #[.int .i64 x.i, .slice none 0 0, .slice none 0 0] 52
  rw [World.size_alloc] at b2
  exact ⟨((Below.refl _ _).alloc (Nat.le_refl _) _).alloc (by simp) _, b1, ⟨b2, RM.nil _ _ _ _ (by simp), by simpa using RM.nil _ _ _ _ (by simp), Nat.le_refl _⟩, by simp⟩
theorem OS.step {w0 w w' : World} {x : Ev} {q : Nat} {v v' : PV} (h : OS w0 w x q v) (po : PO w' (w0.heap.size + 1) (x.i, q) v') (k : Chg (v.bl q) w w') : OS w0 w' x q v' :=
  ⟨h.be.trans (k.below (by have := h.le; omega) (fun y hy => by have := (h.po.lt y hy).1; omega)), h.ev.chg k (fun hm => by have := (h.po.lt _ hm).1; omega), po, Nat.le_trans h.le k.size⟩
set_option maxRecDepth 20000 in
set_option maxHeartbeats 16000000 in
theorem cp_open (i n t : Int) (b_ : ByteArray) (e s0 s1 s2 s3 s4 s5 : Int) (B sb mb : Nat) (K : List (Int × Nat)) (V : List PV) (b : Nat) (hb : b ≤ 100000) (z : Ev) (w : World) (hBw : B ≤ w.heap.size) (H : SPS w B sb mb K V b z) :
    Calls Tryd.prog 50 #[.pointer (some ⟨sb, 0, none⟩), .agg #[.int .i64 2, .int .i64 i, .int .i64 n, .int .i64 t, .string b_, .int .i64 e, .int .i64 s0, .int .i64 s1, .int .i64 s2, .int .i64 s3, .int .i64 s4, .int .i64 s5]] w fun r w' => r = .returned (.tuple #[]) ∧ ∃ K' V', SPS w' B sb mb K' V' b z ∧ Cp.con K' V' = Cp.step b z (Cp.con K V) ⟨2, i, n, t, b_, e, s0, s1, s2, s3, s4, s5⟩ ∧ Below B w w' := by
  obtain ⟨zk, zi, zn, zt, zb, ze, z0, z1, z2, z3, z4, z5⟩ := z
  obtain ⟨N, hN⟩ : ∃ N, w.heap.size = N := ⟨_, rfl⟩
  by_cases hin : i ∈ K.map (·.1)
  · obtain ⟨k2, hk2, hki⟩ := List.mem_map.1 hin
    obtain ⟨j, hj⟩ := List.getElem?_of_mem hk2
    obtain ⟨ki, kp⟩ := k2
    dsimp only at hki
    subst hki
    have hhit := Cp.ens_hit H.nd hj
    have H1 : Hid (SPS (w.alloc (.cells #[.int .i64 2, .int .i64 ki, .int .i64 n, .int .i64 t, .string b_, .int .i64 e, .int .i64 s0, .int .i64 s1, .int .i64 s2, .int .i64 s3, .int .i64 s4, .int .i64 s5] 46)) B sb mb K V b ⟨zk, zi, zn, zt, zb, ze, z0, z1, z2, z3, z4, z5⟩ ∧ Blk (w.alloc (.cells #[.int .i64 2, .int .i64 ki, .int .i64 n, .int .i64 t, .string b_, .int .i64 e, .int .i64 s0, .int .i64 s1, .int .i64 s2, .int .i64 s3, .int .i64 s4, .int .i64 s5] 46)) N [.int .i64 2, .int .i64 ki, .int .i64 n, .int .i64 t, .string b_, .int .i64 e, .int .i64 s0, .int .i64 s1, .int .i64 s2, .int .i64 s3, .int .i64 s4, .int .i64 s5] 46 ∧ Below B w (w.alloc (.cells #[.int .i64 2, .int .i64 ki, .int .i64 n, .int .i64 t, .string b_, .int .i64 e, .int .i64 s0, .int .i64 s1, .int .i64 s2, .int .i64 s3, .int .i64 s4, .int .i64 s5] 46)) ∧ Cp.con K V = Cp.step b ⟨zk, zi, zn, zt, zb, ze, z0, z1, z2, z3, z4, z5⟩ (Cp.con K V) ⟨2, ki, n, t, b_, e, s0, s1, s2, s3, s4, s5⟩ ∧ mIdV (Cp.ens K) ki = some (j, Value.pointer (some ⟨kp, 0, none⟩))) := Lib.hid ⟨H.same ((Chg.refl [] _).alloc _), by rw [← hN]; exact Blk.newA _ _ _, (Below.refl _ _).alloc hBw _, by unfold Cp.step; rw [if_pos rfl, Cp.con_ids H.f.1, if_pos hin], hhit⟩
    clear H hin hk2 hj hhit
    go_enter Tryd.func50, Tryd.ntmps50
    go_upto_region 1 with fail
    revert H1
    generalize (w.alloc (.cells #[.int .i64 2, .int .i64 ki, .int .i64 n, .int .i64 t, .string b_, .int .i64 e, .int .i64 s0, .int .i64 s1, .int .i64 s2, .int .i64 s3, .int .i64 s4, .int .i64 s5] 46)) = W1
    intro H1
    have d1 : W1.drew.cell? ⟨N, 1, none⟩ = some (.int .i64 ki) := H1.out.2.1.cell (i := 1) rfl
    have s0c : W1.drew.cell? ⟨sb, 0, none⟩ = some (.map (some mb)) := H1.out.1.o.cell (i := 0) rfl
    have hl := run_lookV (P := Tryd.prog) (w := W1.drew) Tryd.underlying80 Tryd.underlying3 zeroPP (H1.out.1.same (Chg.refl [] _).drew).m ki
    rw [H1.out.2.2.2.2] at hl
    go_region_law (fail)
    all_goals
      go_wp2_with fail
      ((try simp only [Exit.inBlock, Exit.then]); refine bodyPost_ret (results_none rfl _ _ _) rfl ?_)
      exact ⟨rfl, K, V, H1.out.1.same (Chg.refl [] _).drew, H1.out.2.2.2.1, H1.out.2.2.1.drew⟩
  · have hids := Cp.con_ids H.f.1
    have HZ : Hid (SPS w B sb mb K V b ⟨zk, zi, zn, zt, zb, ze, z0, z1, z2, z3, z4, z5⟩ ∧ i ∉ K.map (·.1) ∧ Cp.step b ⟨zk, zi, zn, zt, zb, ze, z0, z1, z2, z3, z4, z5⟩ (Cp.con K V) ⟨2, i, n, t, b_, e, s0, s1, s2, s3, s4, s5⟩ = Cp.con K V ++ [Cp.new b ⟨zk, zi, zn, zt, zb, ze, z0, z1, z2, z3, z4, z5⟩ ⟨2, i, n, t, b_, e, s0, s1, s2, s3, s4, s5⟩] ∧ B ≤ w.heap.size ∧ mIdV (Cp.ens K) i = none) := Lib.hid ⟨H, hin, by unfold Cp.step; rw [if_pos rfl, hids, if_neg hin], hBw, Cp.ens_none hin⟩
    have H1 : Hid (Below w.heap.size w (w.alloc (.cells #[.int .i64 2, .int .i64 i, .int .i64 n, .int .i64 t, .string b_, .int .i64 e, .int .i64 s0, .int .i64 s1, .int .i64 s2, .int .i64 s3, .int .i64 s4, .int .i64 s5] 46)) ∧ Blk (w.alloc (.cells #[.int .i64 2, .int .i64 i, .int .i64 n, .int .i64 t, .string b_, .int .i64 e, .int .i64 s0, .int .i64 s1, .int .i64 s2, .int .i64 s3, .int .i64 s4, .int .i64 s5] 46)) N [.int .i64 2, .int .i64 i, .int .i64 n, .int .i64 t, .string b_, .int .i64 e, .int .i64 s0, .int .i64 s1, .int .i64 s2, .int .i64 s3, .int .i64 s4, .int .i64 s5] 46 ∧ OS w ((w.alloc (.cells #[.int .i64 2, .int .i64 i, .int .i64 n, .int .i64 t, .string b_, .int .i64 e, .int .i64 s0, .int .i64 s1, .int .i64 s2, .int .i64 s3, .int .i64 s4, .int .i64 s5] 46)).alloc (.cells #[.int .i64 i, .slice none 0 0, .slice none 0 0] 52)) ⟨2, i, n, t, b_, e, s0, s1, s2, s3, s4, s5⟩ (w.heap.size + 1) ⟨none, 0, [], none, 0, []⟩ ∧ (w.alloc (.cells #[.int .i64 2, .int .i64 i, .int .i64 n, .int .i64 t, .string b_, .int .i64 e, .int .i64 s0, .int .i64 s1, .int .i64 s2, .int .i64 s3, .int .i64 s4, .int .i64 s5] 46)).heap.size = w.heap.size + 1) := Lib.hid ⟨(Below.refl _ _).alloc (Nat.le_refl _) _, by rw [← hN]; exact Blk.newA _ _ _, OS.new w ⟨2, i, n, t, b_, e, s0, s1, s2, s3, s4, s5⟩, by simp⟩
    clear H hin hids
    go_enter Tryd.func50, Tryd.ntmps50
    go_upto_region 1 with fail
    revert H1
    generalize (w.alloc (.cells #[.int .i64 2, .int .i64 i, .int .i64 n, .int .i64 t, .string b_, .int .i64 e, .int .i64 s0, .int .i64 s1, .int .i64 s2, .int .i64 s3, .int .i64 s4, .int .i64 s5] 46)) = W1
    intro H1
    have d1 : W1.drew.cell? ⟨N, 1, none⟩ = some (.int .i64 i) := H1.out.2.1.cell (i := 1) rfl
    have s0c : W1.drew.cell? ⟨sb, 0, none⟩ = some (.map (some mb)) := (HZ.out.1.below (H1.out.1.drew)).o.cell (i := 0) rfl
    have hl : (Instr.lookup 80 (.map (some mb)) (.int .i64 i) false).run Tryd.prog W1.drew = .ok (.pointer none) W1.drew := by
      have := run_lookV (P := Tryd.prog) (w := W1.drew) Tryd.underlying80 Tryd.underlying3 zeroPP (HZ.out.1.below (H1.out.1.drew)).m i
      rw [HZ.out.2.2.2.2] at this
      exact this
    go_cut [12] from 5 to 12 (fun v wx => v = .bool false ∧ wx = W1.drew)
    case first =>
      go_region_law (fail)
      all_goals
        go_wp2_with fail
        go_meet
        exact ⟨rfl, rfl⟩
    obtain ⟨hv12, rfl⟩ := hcut
    subst hv12
    go_upto_region 3 with fail
    clear d1 s0c hl
    obtain ⟨q, hq⟩ : ∃ q, W1.heap.size = q := ⟨_, rfl⟩
    have H2 : Hid (OS w ((W1.alloc (.cells #[.int .i64 i, .slice none 0 0, .slice none 0 0] 52)).drew) ⟨2, i, n, t, b_, e, s0, s1, s2, s3, s4, s5⟩ q ⟨none, 0, [], none, 0, []⟩) := Lib.hid (by
      have h1 := H1.out.2.2.1
      have h2 := H1.out.2.2.2
      rw [← h2, hq] at h1
      exact h1.drew)
    clear H1
    revert H2
    generalize ((W1.alloc (.cells #[.int .i64 i, .slice none 0 0, .slice none 0 0] 52)).drew) = W2
    rw [hq]
    clear hq
    intro H2
    have i0 : (0 : Int) ≤ (b : Int) := by omega
    by_cases hb0 : b = 0
    · subst hb0
      have HV : Hid ((⟨none, 0, [], none, 0, []⟩ : PV).T ++ [⟨2, i, n, t, b_, e, s0, s1, s2, s3, s4, s5⟩] = (Cp.new 0 ⟨zk, zi, zn, zt, zb, ze, z0, z1, z2, z3, z4, z5⟩ ⟨2, i, n, t, b_, e, s0, s1, s2, s3, s4, s5⟩).2.1 ∧ (⟨none, 0, [], none, 0, []⟩ : PV).R ++ [Cp.rnd 0] = (Cp.new 0 ⟨zk, zi, zn, zt, zb, ze, z0, z1, z2, z3, z4, z5⟩ ⟨2, i, n, t, b_, e, s0, s1, s2, s3, s4, s5⟩).2.2 ∧ (⟨none, 0, [], none, 0, []⟩ : PV).T.length ≤ 1 ∧ (⟨none, 0, [], none, 0, []⟩ : PV).R.length ≤ 1) := Lib.hid ⟨rfl, rfl, by simp, by simp⟩
      have bg : ¬ (0 : Int) < ((0 : Nat) : Int) := by omega
      revert H2 HV
      generalize (⟨none, 0, [], none, 0, []⟩ : PV) = v1
      intro H2 HV
      have s1c : W2.cell? ⟨sb, 1, none⟩ = some (.int .i64 ((0 : Nat) : Int)) := (HZ.out.1.below H2.out.be).o.cell (i := 1) rfl
      go_upto_region 5 with fail
      clear s1c
      have y1 : W2.drew.cell? ⟨sb, 1, none⟩ = some (.int .i64 ((0 : Nat) : Int)) := (HZ.out.1.below H2.out.be).o.cell (i := 1) rfl
      have x0 : W2.drew.cell? ⟨N, 0, none⟩ = some (.int .i64 2) := by rw [← hN]; exact H2.out.ev.cell (i := 0) rfl
      have x1 : W2.drew.cell? ⟨N, 1, none⟩ = some (.int .i64 i) := by rw [← hN]; exact H2.out.ev.cell (i := 1) rfl
      have x2 : W2.drew.cell? ⟨N, 2, none⟩ = some (.int .i64 n) := by rw [← hN]; exact H2.out.ev.cell (i := 2) rfl
      have x3 : W2.drew.cell? ⟨N, 3, none⟩ = some (.int .i64 t) := by rw [← hN]; exact H2.out.ev.cell (i := 3) rfl
      have x4 : W2.drew.cell? ⟨N, 4, none⟩ = some (.string b_) := by rw [← hN]; exact H2.out.ev.cell (i := 4) rfl
      have x5 : W2.drew.cell? ⟨N, 5, none⟩ = some (.int .i64 e) := by rw [← hN]; exact H2.out.ev.cell (i := 5) rfl
      have x6 : W2.drew.cell? ⟨N, 6, none⟩ = some (.int .i64 s0) := by rw [← hN]; exact H2.out.ev.cell (i := 6) rfl
      have x7 : W2.drew.cell? ⟨N, 7, none⟩ = some (.int .i64 s1) := by rw [← hN]; exact H2.out.ev.cell (i := 7) rfl
      have x8 : W2.drew.cell? ⟨N, 8, none⟩ = some (.int .i64 s2) := by rw [← hN]; exact H2.out.ev.cell (i := 8) rfl
      have x9 : W2.drew.cell? ⟨N, 9, none⟩ = some (.int .i64 s3) := by rw [← hN]; exact H2.out.ev.cell (i := 9) rfl
      have x10 : W2.drew.cell? ⟨N, 10, none⟩ = some (.int .i64 s4) := by rw [← hN]; exact H2.out.ev.cell (i := 10) rfl
      have x11 : W2.drew.cell? ⟨N, 11, none⟩ = some (.int .i64 s5) := by rw [← hN]; exact H2.out.ev.cell (i := 11) rfl
      go_region_law (first
        | (rw [if_pos (by simp [Region.wanted])]
           unfold Oper.wp
           go_simp
           go_at_call 52
           (with_reducible refine (cp_round 0 sb (by omega) (Cp.rnd 0) rfl _ y1).mono ?_)
           rintro r7 v7 ⟨rfl, e7⟩
           subst e7)
        | (rw [if_pos (by simp [Region.wanted])]
           unfold Oper.wp
           go_simp
           go_at_call 51
           (refine (cp_padd 2 i n t b_ e s0 s1 s2 s3 s4 s5 (Cp.rnd 0) i (w.heap.size + 1) q v1 (by have := HV.out.2.2.1; omega) (by have := HV.out.2.2.2; omega) _ H2.out.drew.po).mono ?_)
           rintro r8 v8 ⟨v2, rfl, q1, q2, q3, q4, q5⟩
           have H8 : Hid (OS w v8 ⟨2, i, n, t, b_, e, s0, s1, s2, s3, s4, s5⟩ q v2 ∧ v2.T = (Cp.new 0 ⟨zk, zi, zn, zt, zb, ze, z0, z1, z2, z3, z4, z5⟩ ⟨2, i, n, t, b_, e, s0, s1, s2, s3, s4, s5⟩).2.1 ∧ v2.R = (Cp.new 0 ⟨zk, zi, zn, zt, zb, ze, z0, z1, z2, z3, z4, z5⟩ ⟨2, i, n, t, b_, e, s0, s1, s2, s3, s4, s5⟩).2.2) := Lib.hid ⟨H2.out.drew.step q1 q4, by rw [q2]; exact HV.out.1, by rw [q3]; exact HV.out.2.1⟩
           clear q1 q2 q3 q4 q5))
      all_goals
        go_upto_region 6 with fail
        clear y1 x0 x1 x2 x3 x4 x5 x6 x7 x8 x9 x10 x11
        have d1 : v8.drew.cell? ⟨N, 1, none⟩ = some (.int .i64 i) := by rw [← hN]; exact H8.out.1.ev.cell (i := 1) rfl
        have s0c : v8.drew.cell? ⟨sb, 0, none⟩ = some (.map (some mb)) := (HZ.out.1.below H8.out.1.be).o.cell (i := 0) rfl
        have hu := run_updateV (P := Tryd.prog) (w := v8.drew) Tryd.underlying80 Tryd.underlying3 (HZ.out.1.below H8.out.1.be.drew).m i HZ.out.2.2.2.2 (.pointer (some ⟨q, 0, none⟩))
        have HF := Lib.hid (HZ.out.1.more (N := w.heap.size + 1) H8.out.1.drew.be (by omega) H8.out.1.drew.po HZ.out.2.1 HZ.out.2.2.2.1)
        revert hu HF
        generalize (setMV v8.drew mb (Cp.ens K ++ [(i, Value.pointer (some ⟨q, 0, none⟩), K.length)]) (K.length + 1)) = W9
        intro hu HF
        go_region_law (fail)
        all_goals
          go_wp2_with fail
          go_end0
          refine ⟨rfl, _, _, HF.out.1, ?_, ?_⟩
          · rw [Cp.con_snoc HZ.out.1.f.1, HZ.out.2.2.1, H8.out.2.1, H8.out.2.2]; rfl
          · exact (H8.out.1.be.drew.mono HZ.out.2.2.2.1).trans HF.out.2
    · have bg : (0 : Int) < (b : Int) := by omega
      have s1c : W2.cell? ⟨sb, 1, none⟩ = some (.int .i64 (b : Int)) := (HZ.out.1.below H2.out.be).o.cell (i := 1) rfl
      have u0 : W2.drew.cell? ⟨sb, 2, none⟩ = some (.int .i64 zk) := (HZ.out.1.below H2.out.be).o.cell (i := 2) rfl
      have u1 : W2.drew.cell? ⟨sb, 3, none⟩ = some (.int .i64 zi) := (HZ.out.1.below H2.out.be).o.cell (i := 3) rfl
      have u2 : W2.drew.cell? ⟨sb, 4, none⟩ = some (.int .i64 zn) := (HZ.out.1.below H2.out.be).o.cell (i := 4) rfl
      have u3 : W2.drew.cell? ⟨sb, 5, none⟩ = some (.int .i64 zt) := (HZ.out.1.below H2.out.be).o.cell (i := 5) rfl
      have u4 : W2.drew.cell? ⟨sb, 6, none⟩ = some (.string zb) := (HZ.out.1.below H2.out.be).o.cell (i := 6) rfl
      have u5 : W2.drew.cell? ⟨sb, 7, none⟩ = some (.int .i64 ze) := (HZ.out.1.below H2.out.be).o.cell (i := 7) rfl
      have u6 : W2.drew.cell? ⟨sb, 8, none⟩ = some (.int .i64 z0) := (HZ.out.1.below H2.out.be).o.cell (i := 8) rfl
      have u7 : W2.drew.cell? ⟨sb, 9, none⟩ = some (.int .i64 z1) := (HZ.out.1.below H2.out.be).o.cell (i := 9) rfl
      have u8 : W2.drew.cell? ⟨sb, 10, none⟩ = some (.int .i64 z2) := (HZ.out.1.below H2.out.be).o.cell (i := 10) rfl
      have u9 : W2.drew.cell? ⟨sb, 11, none⟩ = some (.int .i64 z3) := (HZ.out.1.below H2.out.be).o.cell (i := 11) rfl
      have u10 : W2.drew.cell? ⟨sb, 12, none⟩ = some (.int .i64 z4) := (HZ.out.1.below H2.out.be).o.cell (i := 12) rfl
      have u11 : W2.drew.cell? ⟨sb, 13, none⟩ = some (.int .i64 z5) := (HZ.out.1.below H2.out.be).o.cell (i := 13) rfl
      have ds1 : W2.drew.cell? ⟨sb, 1, none⟩ = some (.int .i64 (b : Int)) := s1c
      go_upto_region 4 with fail
      clear s1c
      go_region_law (first
        | (rw [if_pos (by simp [Region.wanted])]
           unfold Oper.wp
           go_simp
           go_at_call 52
           (with_reducible refine (cp_round b sb (by omega) (Cp.rnd b) rfl _ ds1).mono ?_)
           rintro r5 v5 ⟨rfl, e5⟩
           subst e5)
        | (rw [if_pos (by simp [Region.wanted])]
           unfold Oper.wp
           go_simp
           go_at_call 51
           (refine (cp_padd zk zi zn zt zb ze z0 z1 z2 z3 z4 z5 (Cp.rnd b) i (w.heap.size + 1) q ⟨none, 0, [], none, 0, []⟩ (by simp) (by simp) _ H2.out.drew.po).mono ?_)
           rintro r6 v6 ⟨v1, rfl, q1, q2, q3, q4, q5⟩
           have H5 : Hid (OS w v6 ⟨2, i, n, t, b_, e, s0, s1, s2, s3, s4, s5⟩ q v1 ∧ v1.T = [⟨zk, zi, zn, zt, zb, ze, z0, z1, z2, z3, z4, z5⟩] ∧ v1.R = [Cp.rnd b]) := Lib.hid ⟨H2.out.drew.step q1 q4, q2, q3⟩
           clear q1 q2 q3 q4 q5))
      all_goals
        go_upto_region 5 with fail
        clear ds1 u0 u1 u2 u3 u4 u5 u6 u7 u8 u9 u10 u11
        have HV : Hid (v1.T ++ [⟨2, i, n, t, b_, e, s0, s1, s2, s3, s4, s5⟩] = (Cp.new b ⟨zk, zi, zn, zt, zb, ze, z0, z1, z2, z3, z4, z5⟩ ⟨2, i, n, t, b_, e, s0, s1, s2, s3, s4, s5⟩).2.1 ∧ v1.R ++ [Cp.rnd b] = (Cp.new b ⟨zk, zi, zn, zt, zb, ze, z0, z1, z2, z3, z4, z5⟩ ⟨2, i, n, t, b_, e, s0, s1, s2, s3, s4, s5⟩).2.2 ∧ v1.T.length ≤ 1 ∧ v1.R.length ≤ 1) := Lib.hid (by
          obtain ⟨_, e1, e2⟩ := H5.out
          rw [e1, e2]
          unfold Cp.new
          rw [if_neg hb0, if_neg hb0]
          exact ⟨rfl, rfl, by simp, by simp⟩)
        have H6 := Lib.hid H5.out.1
        clear H5
        have y1 : v6.drew.cell? ⟨sb, 1, none⟩ = some (.int .i64 (b : Int)) := (HZ.out.1.below H6.out.be).o.cell (i := 1) rfl
        have x0 : v6.drew.cell? ⟨N, 0, none⟩ = some (.int .i64 2) := by rw [← hN]; exact H6.out.ev.cell (i := 0) rfl
        have x1 : v6.drew.cell? ⟨N, 1, none⟩ = some (.int .i64 i) := by rw [← hN]; exact H6.out.ev.cell (i := 1) rfl
        have x2 : v6.drew.cell? ⟨N, 2, none⟩ = some (.int .i64 n) := by rw [← hN]; exact H6.out.ev.cell (i := 2) rfl
        have x3 : v6.drew.cell? ⟨N, 3, none⟩ = some (.int .i64 t) := by rw [← hN]; exact H6.out.ev.cell (i := 3) rfl
        have x4 : v6.drew.cell? ⟨N, 4, none⟩ = some (.string b_) := by rw [← hN]; exact H6.out.ev.cell (i := 4) rfl
        have x5 : v6.drew.cell? ⟨N, 5, none⟩ = some (.int .i64 e) := by rw [← hN]; exact H6.out.ev.cell (i := 5) rfl
        have x6 : v6.drew.cell? ⟨N, 6, none⟩ = some (.int .i64 s0) := by rw [← hN]; exact H6.out.ev.cell (i := 6) rfl
        have x7 : v6.drew.cell? ⟨N, 7, none⟩ = some (.int .i64 s1) := by rw [← hN]; exact H6.out.ev.cell (i := 7) rfl
        have x8 : v6.drew.cell? ⟨N, 8, none⟩ = some (.int .i64 s2) := by rw [← hN]; exact H6.out.ev.cell (i := 8) rfl
        have x9 : v6.drew.cell? ⟨N, 9, none⟩ = some (.int .i64 s3) := by rw [← hN]; exact H6.out.ev.cell (i := 9) rfl
        have x10 : v6.drew.cell? ⟨N, 10, none⟩ = some (.int .i64 s4) := by rw [← hN]; exact H6.out.ev.cell (i := 10) rfl
        have x11 : v6.drew.cell? ⟨N, 11, none⟩ = some (.int .i64 s5) := by rw [← hN]; exact H6.out.ev.cell (i := 11) rfl
        go_region_law (first
          | (rw [if_pos (by simp [Region.wanted])]
             unfold Oper.wp
             go_simp
             go_at_call 52
             (with_reducible refine (cp_round b sb (by omega) (Cp.rnd b) rfl _ y1).mono ?_)
             rintro r7 v7 ⟨rfl, e7⟩
             subst e7)
          | (rw [if_pos (by simp [Region.wanted])]
             unfold Oper.wp
             go_simp
             go_at_call 51
             (refine (cp_padd 2 i n t b_ e s0 s1 s2 s3 s4 s5 (Cp.rnd b) i (w.heap.size + 1) q v1 (by have := HV.out.2.2.1; omega) (by have := HV.out.2.2.2; omega) _ H6.out.drew.po).mono ?_)
             rintro r8 v8 ⟨v2, rfl, q1, q2, q3, q4, q5⟩
             have H8 : Hid (OS w v8 ⟨2, i, n, t, b_, e, s0, s1, s2, s3, s4, s5⟩ q v2 ∧ v2.T = (Cp.new b ⟨zk, zi, zn, zt, zb, ze, z0, z1, z2, z3, z4, z5⟩ ⟨2, i, n, t, b_, e, s0, s1, s2, s3, s4, s5⟩).2.1 ∧ v2.R = (Cp.new b ⟨zk, zi, zn, zt, zb, ze, z0, z1, z2, z3, z4, z5⟩ ⟨2, i, n, t, b_, e, s0, s1, s2, s3, s4, s5⟩).2.2) := Lib.hid ⟨H6.out.drew.step q1 q4, by rw [q2]; exact HV.out.1, by rw [q3]; exact HV.out.2.1⟩
             clear q1 q2 q3 q4 q5))
        all_goals
          go_upto_region 6 with fail
          clear y1 x0 x1 x2 x3 x4 x5 x6 x7 x8 x9 x10 x11
          have d1 : v8.drew.cell? ⟨N, 1, none⟩ = some (.int .i64 i) := by rw [← hN]; exact H8.out.1.ev.cell (i := 1) rfl
          have s0c : v8.drew.cell? ⟨sb, 0, none⟩ = some (.map (some mb)) := (HZ.out.1.below H8.out.1.be).o.cell (i := 0) rfl
          have hu := run_updateV (P := Tryd.prog) (w := v8.drew) Tryd.underlying80 Tryd.underlying3 (HZ.out.1.below H8.out.1.be.drew).m i HZ.out.2.2.2.2 (.pointer (some ⟨q, 0, none⟩))
          have HF := Lib.hid (HZ.out.1.more (N := w.heap.size + 1) H8.out.1.drew.be (by omega) H8.out.1.drew.po HZ.out.2.1 HZ.out.2.2.2.1)
          revert hu HF
          generalize (setMV v8.drew mb (Cp.ens K ++ [(i, Value.pointer (some ⟨q, 0, none⟩), K.length)]) (K.length + 1)) = W9
          intro hu HF
          go_region_law (fail)
          all_goals
            go_wp2_with fail
            go_end0
            refine ⟨rfl, _, _, HF.out.1, ?_, ?_⟩
            · rw [Cp.con_snoc HZ.out.1.f.1, HZ.out.2.2.1, H8.out.2.1, H8.out.2.2]; rfl
            · exact (H8.out.1.be.drew.mono HZ.out.2.2.2.1).trans HF.out.2
end Go.Proofs.YtdchedkhlfmpeaaDoor
/- Parts: a range over the map. -/
namespace Go.Proofs.YtdchedkhlfmpeaaDoor
open Go.ChangeShapes Go.WideShapes Go.ChangeAt Go.RowKit
set_option linter.unusedSimpArgs false
set_option linter.unusedVariables false

theorem getobj_new (w : World) (o : Obj) : (w.alloc o).heap[w.heap.size]? = some o := heap_alloc_new w o
theorem wpList_range_mv {P : Program} (w : World) {ops : Array Oper} {rest : List Oper} {o : Oper} {a : Act} {Q : Exit → Act → World → Prop} (hg : o.guard = none) (m : Operand) (t : TypeId) (hop : o.op = Op.range t m) (k e : TypeId) (ht : P.underlying t = some (.map k e)) (b : Nat) (M : List (Int × Value × Nat)) (c : Nat)
    (hm : a.eval m = .map (some b)) (hown : MpV w b M c) (hK : wpList P ops Q rest (a.put o.dst (.pointer (some ⟨w.heap.size, 0, none⟩))) (w.alloc (.mapIter (some b) c #[] c))) :
    wpList P ops Q (o :: rest) a w := by
  refine wpList_plain hg fun K' hK' => ?_
  have hrun := run_range_map (P := P) w t k e b (M.map entV).toArray c ht hown
  unfold Oper.wp
  simp [execOp, hop, hm, hrun, Result.andThen]
  exact hK' _ _ hK
/-- How many entries are still to come. -/
def Cp.left (n : Nat) (seen : Array Nat) : Nat := ((List.range n).filter (fun j => !seen.contains j)).length
theorem Cp.left_lt {n j : Nat} {seen : Array Nat} (hj : j < n) (h : seen.contains j = false) : Cp.left n (seen.push j) < Cp.left n seen :=
  filter_lt (fun x => !seen.contains x) (fun x => !(seen.push j).contains x) (fun x hx => by
    rw [contains_push] at hx
    cases hc : seen.contains x with
    | false => rfl
    | true => rw [hc, Bool.true_or] at hx; exact absurd hx (by decide)) j (by rw [h]; rfl) (by rw [contains_push, beq_self_eq_true, Bool.or_true]; rfl) (List.range n) (List.mem_range.2 hj)
theorem Cp.ens_born (K : List (Int × Nat)) : ∀ x ∈ ((Cp.ens K).map entV), x.born < K.length := fun x hx => by
  obtain ⟨y, hy, rfl⟩ := List.mem_map.1 hx
  obtain ⟨i, k, hk, rfl⟩ := Cp.ens_mem hy
  exact (List.getElem?_eq_some_iff.1 hk).1
theorem Cp.ens_borns (K : List (Int × Nat)) : ((Cp.ens K).map entV).map (·.born) = List.range K.length := by
  apply List.ext_getElem?
  intro i
  rw [List.getElem?_map, List.getElem?_map]
  unfold Cp.ens
  rw [List.getElem?_mapIdx]
  by_cases h : i < K.length
  · rw [List.getElem?_eq_getElem h, List.getElem?_eq_getElem (by simpa using h)]
    simp [entV]
  · rw [List.getElem?_eq_none (by omega), List.getElem?_eq_none (by simp; omega)]; rfl
theorem chg_block (w : World) (r : Nat) (o : Obj) : Chg [r] w (Go.ChangeMaps.setBlock w r o) := ⟨rfl, rfl, rfl, by simp [Go.ChangeMaps.setBlock], fun k hk hn => by
  simp at hn
  simp [Go.ChangeMaps.setBlock, Ne.symm hn]⟩
theorem wpList_next_mv {P : Program} (w : World) {ops : Array Oper} {rest : List Oper} {o : Oper} {a : Act} {Q : Exit → Act → World → Prop} (hg : o.guard = none) (it : Operand) (hop : o.op = Op.next it false) (K : List (Int × Nat)) (b r : Nat) (seen : Array Nat)
    (hit : a.eval it = .pointer (some ⟨r, 0, none⟩)) (hm : MpV w b (Cp.ens K) K.length) (hr : w.heap[r]? = some (.mapIter (some b) K.length seen K.length))
    (hDone : (∀ j, j < K.length → seen.contains j = true) → wpList P ops Q rest (a.put o.dst (.tuple #[.bool false])) w)
    (hMore : ∀ (j : Nat) (ki : Int) (kp : Nat) (w' : World), K[j]? = some (ki, kp) → seen.contains j = false → w'.heap[r]? = some (.mapIter (some b) K.length (seen.push j) K.length) → Chg [r] w w' → (Instr.entry (.pointer (some ⟨r, 0, none⟩))).run P w' = .ok (.tuple #[.int .i64 ki, .pointer (some ⟨kp, 0, none⟩)]) w' → wpList P ops Q rest (a.put o.dst (.tuple #[.bool true, .int .i64 ki, .pointer (some ⟨kp, 0, none⟩)])) w') :
    wpList P ops Q (o :: rest) a w := by
  refine wpList_plain hg fun K' hK' => ?_
  have hb : w.heap[b]? = some (.map ((Cp.ens K).map entV).toArray K.length) := hm
  have hbr : b ≠ r := fun e => by rw [e, hr] at hb; cases hb
  have hbn : ((Cp.ens K).map entV).toArray.toList.map (·.born) = List.range K.length := by rw [List.toList_toArray]; exact Cp.ens_borns K
  unfold Oper.wp
  rcases run_next_at (P := P) w o.type r b K.length K.length seen _ K.length hr hb (fun x hx => Cp.ens_born K x (by simpa using hx)) (Nat.le_refl _) with ⟨h0, hrun⟩ | ⟨e, he, w1, hw1, hrun⟩
  · simp [execOp, hop, hit, hrun, Result.andThen]
    refine hK' _ _ (hDone (fun j hj => ?_))
    have hall := all_seen _ _ h0
    obtain ⟨k, hk⟩ : ∃ k, K[j]? = some k := ⟨_, List.getElem?_eq_getElem hj⟩
    have hmem : entV (k.1, Value.pointer (some ⟨k.2, 0, none⟩), j) ∈ ((Cp.ens K).map entV).toArray.toList := by
      rw [List.toList_toArray]
      exact List.mem_map.2 ⟨_, List.mem_of_getElem? (Cp.ens_at hk), rfl⟩
    exact hall _ hmem
  · obtain ⟨hmem, hns⟩ := mem_left he
    have hmem2 := hmem
    rw [List.toList_toArray] at hmem2
    obtain ⟨y, hy, rfl⟩ := List.mem_map.1 hmem2
    obtain ⟨j, k, hk, rfl⟩ := Cp.ens_mem hy
    obtain ⟨ki, kp⟩ := k
    have hr2 : (Go.ChangeMaps.setBlock w1 r (.mapIter (some b) K.length (seen.push j) K.length)).heap[r]? = some (.mapIter (some b) K.length (seen.push j) K.length) := by
      have : r < w1.heap.size := by
        have h1 : r < w.heap.size := by
          rcases Nat.lt_or_ge r w.heap.size with h | h
          · exact h
          · rw [Array.getElem?_eq_none h] at hr; cases hr
        rcases hw1 with rfl | rfl <;> exact h1
      simp [Go.ChangeMaps.setBlock, this]
    have hch : Chg [r] w (Go.ChangeMaps.setBlock w1 r (.mapIter (some b) K.length (seen.push j) K.length)) := by
      rcases hw1 with rfl | rfl
      · exact chg_block _ _ _
      · exact ((Chg.refl [r] w).drew).trans (chg_block _ _ _) (fun x hx => Or.inl hx)
    have hb2 : (Go.ChangeMaps.setBlock w1 r (.mapIter (some b) K.length (seen.push j) K.length)).heap[b]? = some (.map ((Cp.ens K).map entV).toArray K.length) := by
      have hlt : b < w.heap.size := hm.lt
      rw [hch.block b hlt (by simpa using hbr)]; exact hb
    have hen := run_entry_at (P := P) _ r b K.length seen _ K.length _ hr2 hb2 hmem (by rw [hbn]; exact List.nodup_range)
    simp [execOp, hop, hit, hrun, Result.andThen]
    exact hK' _ _ (hMore j ki kp _ hk hns hr2 hch hen)
end Go.Proofs.YtdchedkhlfmpeaaDoor
/- Parts: the splitter, an event more. -/
namespace Go.Proofs.YtdchedkhlfmpeaaDoor
open Go.ChangeShapes Go.WideShapes Go.ChangeAt Go.RowKit
set_option linter.unusedSimpArgs false
set_option linter.unusedVariables false

theorem PO.notO {w : World} {B : Nat} {k : Int × Nat} {v : PV} (h : PO w B k v) {g : Nat} {o : Obj} (ho : w.heap[g]? = some o) (hc : ∀ cs T f, o ≠ .cells cs T f) : g ∉ v.bl k.2 := by
  have key : ∀ {g2 : Nat} {cs : List Value} {T : TypeId}, Blk w g2 cs T → g ≠ g2 := by
    intro g2 cs T hb e
    subst e
    unfold Blk at hb
    rw [ho] at hb
    exact hc _ _ _ (Option.some.inj hb)
  have key2 : ∀ {B2 n c sz : Nat} {r : Option Addr} {L : List Value} {T : TypeId}, RM w B2 r n c sz L T → g ∉ rvB r := by
    intro B2 n c sz r L T hm
    obtain ⟨_, _, ⟨rfl, _, _⟩ | ⟨g2, rfl, _, hr⟩⟩ := hm
    · simp [rvB]
    · rw [rvB_some]
      obtain ⟨_, _, _, hb⟩ := hr
      simp
      exact key hb
  intro e
  simp only [PV.bl, List.mem_cons, List.mem_append] at e
  rcases e with e | e | e
  · exact key h.1 e
  · exact key2 h.2.1 e
  · exact key2 h.2.2.1 e
theorem Cp.hear_no {x : Ev} (h : x.k ≠ 4 ∧ x.k ≠ 5 ∧ x.k ≠ 6 ∧ x.k ≠ 7 ∧ x.k ≠ 8) (i : Int) : Cp.hear x i = false := by
  unfold Cp.hear
  simp [h.1, h.2.1, h.2.2.1, h.2.2.2.1, h.2.2.2.2]
theorem Cp.step_no {x : Ev} (h : x.k ≠ 4 ∧ x.k ≠ 5 ∧ x.k ≠ 6 ∧ x.k ≠ 7 ∧ x.k ≠ 8) (h2 : x.k ≠ 2) (b : Nat) (z : Ev) (S : List PtC) : Cp.step b z S x = S := by
  unfold Cp.step
  rw [if_neg h2]
  conv => rhs; rw [← List.map_id S]
  apply List.map_congr_left
  intro s _
  unfold Cp.add
  rw [Cp.hear_no h]
  rfl
theorem Cp.con_map {K : List (Int × Nat)} {V V' : List PV} {b : Nat} {z x : Ev} (h2 : x.k ≠ 2) (h : K.length = V.length) (h' : K.length = V'.length) (hm : ∀ (j : Nat) k v, K[j]? = some k → V[j]? = some v → ∃ v', V'[j]? = some v' ∧ v'.T = (if Cp.hear x k.1 then v.T ++ [x] else v.T) ∧ v'.R = (if Cp.hear x k.1 then v.R ++ [Cp.rnd b] else v.R)) : Cp.con K V' = Cp.step b z (Cp.con K V) x := by
  unfold Cp.step
  rw [if_neg h2]
  apply List.ext_getElem?
  intro j
  by_cases hj : j < K.length
  · obtain ⟨k, hk⟩ : ∃ k, K[j]? = some k := ⟨_, List.getElem?_eq_getElem hj⟩
    obtain ⟨v, hv⟩ : ∃ v, V[j]? = some v := ⟨_, List.getElem?_eq_getElem (by omega)⟩
    obtain ⟨v', hv', e1, e2⟩ := hm j k v hk hv
    rw [Cp.con_at hk hv', List.getElem?_map, Cp.con_at hk hv, e1, e2]
    unfold Cp.add
    dsimp only [Option.map_some]
    split <;> rfl
  · rw [List.getElem?_eq_none (by rw [Cp.con_len h']; omega), List.getElem?_map, List.getElem?_eq_none (by rw [Cp.con_len h]; omega)]; rfl
theorem iterSeen_at {w : World} {r : Nat} {m : Option Nat} {a c : Nat} {s : Array Nat} (h : w.heap[r]? = some (.mapIter m a s c)) : w.iterSeen r = s := by unfold World.iterSeen; rw [h]
/-- The loop of a drain. -/
structure DI (w0 wr : World) (B sb mb N : Nat) (K : List (Int × Nat)) (V : List PV) (b : Nat) (z x : Ev) (seen : Array Nat) (V' : List PV) : Prop where
  sp : SPS wr B sb mb K V' b z
  ev : Blk wr N x.c 46
  nX : ∀ (j : Nat) k v, K[j]? = some k → V'[j]? = some v → N ∉ v.bl k.2
  ct : ∀ (j : Nat) v, V[j]? = some v → ∃ v', V'[j]? = some v' ∧ v'.T = (if seen.contains j then v.T ++ [x] else v.T) ∧ v'.R = (if seen.contains j then v.R ++ [Cp.rnd b] else v.R)
  it : wr.heap[N + 1]? = some (.mapIter (some mb) K.length seen K.length)
  be : Below B w0 wr
  hB : B ≤ N
theorem SPS.iter {w w' : World} {B sb mb r : Nat} {K : List (Int × Nat)} {V : List PV} {b : Nat} {z : Ev} (h : SPS w B sb mb K V b z) {o : Obj} (ho : w.heap[r]? = some o) (hc : ∀ cs T f, o ≠ .cells cs T f) (hm : ∀ es c, o ≠ .map es c) (k : Chg [r] w w') : SPS w' B sb mb K V b z := by
  refine ⟨h.o.chg k ?_, h.m.chg k ?_, h.f.chg k (fun i k2 v a1 a2 g hg e => ?_), h.hB, h.nd⟩
  · simp
    intro e
    have := h.o
    unfold Blk at this
    rw [e, ho] at this
    exact hc _ _ _ (Option.some.inj this)
  · simp
    intro e
    have := h.m
    unfold MpV at this
    rw [e, ho] at this
    exact hm _ _ (Option.some.inj this)
  · simp at e
    subst e
    exact (h.f.2.1 i k2 v a1 a2).notO ho hc hg
theorem SPS.put {w w' : World} {B sb mb : Nat} {K : List (Int × Nat)} {V : List PV} {b b' : Nat} {z z' : Ev} (h : SPS w B sb mb K V b z) (k : Chg [sb] w w') (hb : Blk w' sb (.map (some mb) :: .int .i64 b' :: z'.c) 82) : SPS w' B sb mb K V b' z' :=
  ⟨hb, h.m.chg k (by simp; exact blk_notM h.o h.m), h.f.chg k (fun i k2 v a1 a2 g hg e => by simp at e; subst e; exact (h.f.2.1 i k2 v a1 a2).notSb h.o hg), h.hB, h.nd⟩
theorem DI.next {w0 wr w1 : World} {B sb mb N : Nat} {K : List (Int × Nat)} {V V' : List PV} {b : Nat} {z x : Ev} {seen : Array Nat} (h : DI w0 wr B sb mb N K V b z x seen V') (k : Chg [N + 1] wr w1) : SPS w1 B sb mb K V' b z ∧ Blk w1 N x.c 46 ∧ Below B w0 w1 :=
  ⟨h.sp.iter h.it (by intro _ _ _ e; cases e) (by intro _ _ e; cases e) k, h.ev.chg k (by simp), h.be.trans (k.below (by have := h.ev.lt; have := h.hB; omega) (by intro y hy; simp at hy; have := h.hB; omega))⟩
theorem DI.step {w0 wr w1 w2 : World} {B sb mb N : Nat} {K : List (Int × Nat)} {V V' : List PV} {b : Nat} {z x : Ev} {seen : Array Nat} (h : DI w0 wr B sb mb N K V b z x seen V') (k : Chg [N + 1] wr w1) {j : Nat} {kp : Int × Nat} {v v2 : PV} (hk : K[j]? = some kp) (hns : seen.contains j = false) (hr : w1.heap[N + 1]? = some (.mapIter (some mb) K.length (seen.push j) K.length)) (hv : V'[j]? = some v) (po : PO w2 B kp v2) (hT : v2.T = v.T ++ [x]) (hR : v2.R = v.R ++ [Cp.rnd b]) (c : Chg (v.bl kp.2) w1 w2) (fr : ∀ g ∈ v2.bl kp.2, g ∈ v.bl kp.2 ∨ w1.heap.size ≤ g) : DI w0 w2 B sb mb N K V b z x (seen.push j) (V'.set j v2) := by
  obtain ⟨n1, n2, n3⟩ := h.next k
  have hpo := n1.f.2.1 j kp v hk hv
  have hl := hpo.lt
  have nit : N + 1 ∉ v.bl kp.2 := hpo.notO hr (by intro _ _ _ e; cases e)
  have hjl := (List.getElem?_eq_some_iff.1 hv).1
  refine ⟨⟨n1.o.chg c (hpo.notSb n1.o), n1.m.chg c (hpo.notMb n1.m), n1.f.put hk hv c po fr, n1.hB, n1.nd⟩, n2.chg c (h.nX j kp v hk hv), ?_, ?_, ?_, ?_, h.hB⟩
  · intro j2 k2 v3 hk2 hv3
    by_cases e : j2 = j
    · subst e
      rw [List.getElem?_set_self hjl] at hv3
      rw [hk] at hk2
      injection hk2 with hk2; injection hv3 with hv3
      subst hk2 hv3
      intro hm
      rcases fr _ hm with hm | hm
      · exact h.nX j2 _ _ hk hv hm
      · have := n2.lt; omega
    · rw [List.getElem?_set_ne (Ne.symm e)] at hv3
      exact h.nX j2 k2 v3 hk2 hv3
  · intro j2 v3 hv3
    obtain ⟨v4, a1, a2, a3⟩ := h.ct j2 v3 hv3
    by_cases e : j2 = j
    · subst e
      rw [hv] at a1
      injection a1 with a1
      subst a1
      rw [hns] at a2 a3
      refine ⟨v2, by rw [List.getElem?_set_self hjl], ?_, ?_⟩
      · rw [contains_push, beq_self_eq_true, Bool.or_true, if_pos rfl, hT, a2]; rfl
      · rw [contains_push, beq_self_eq_true, Bool.or_true, if_pos rfl, hR, a3]; rfl
    · refine ⟨v4, by rw [List.getElem?_set_ne (Ne.symm e)]; exact a1, ?_, ?_⟩
      · rw [contains_push, beq_eq_false_iff_ne.2 e, Bool.or_false]; exact a2
      · rw [contains_push, beq_eq_false_iff_ne.2 e, Bool.or_false]; exact a3
  · have hlt : N + 1 < w1.heap.size := by
      rcases Nat.lt_or_ge (N + 1) w1.heap.size with h | h
      · exact h
      · rw [Array.getElem?_eq_none h] at hr; cases hr
    rw [c.block _ hlt nit]; exact hr
  · exact n3.trans (c.below (Nat.le_trans hpo.2.2.2 (Nat.le_of_lt hpo.1.lt)) (fun y hy => (hl y hy).1))
set_option maxRecDepth 20000 in
set_option maxHeartbeats 16000000 in
theorem cp_add1 (i n t : Int) (b_ : ByteArray) (e s0 s1 s2 s3 s4 s5 : Int) (B sb mb : Nat) (K : List (Int × Nat)) (V : List PV) (b : Nat) (hb : b ≤ 100000) (z : Ev) (w : World) (hBw : B ≤ w.heap.size) (H : SPS w B sb mb K V b z) :
    Calls Tryd.prog 32 #[.pointer (some ⟨sb, 0, none⟩), .agg #[.int .i64 1, .int .i64 i, .int .i64 n, .int .i64 t, .string b_, .int .i64 e, .int .i64 s0, .int .i64 s1, .int .i64 s2, .int .i64 s3, .int .i64 s4, .int .i64 s5]] w fun r w' => r = .returned (.tuple #[]) ∧ ∃ K' V', SPS w' B sb mb K' V' (b + 1) ⟨1, i, n, t, b_, e, s0, s1, s2, s3, s4, s5⟩ ∧ Cp.con K' V' = Cp.step b z (Cp.con K V) ⟨1, i, n, t, b_, e, s0, s1, s2, s3, s4, s5⟩ ∧ Below B w w' := by
  obtain ⟨zk, zi, zn, zt, zb, ze, z0, z1, z2, z3, z4, z5⟩ := z
  obtain ⟨N, hN⟩ : ∃ N, w.heap.size = N := ⟨_, rfl⟩
  have H1 : Hid (SPS (w.alloc (.cells #[.int .i64 1, .int .i64 i, .int .i64 n, .int .i64 t, .string b_, .int .i64 e, .int .i64 s0, .int .i64 s1, .int .i64 s2, .int .i64 s3, .int .i64 s4, .int .i64 s5] 46)) B sb mb K V b ⟨zk, zi, zn, zt, zb, ze, z0, z1, z2, z3, z4, z5⟩ ∧ Blk (w.alloc (.cells #[.int .i64 1, .int .i64 i, .int .i64 n, .int .i64 t, .string b_, .int .i64 e, .int .i64 s0, .int .i64 s1, .int .i64 s2, .int .i64 s3, .int .i64 s4, .int .i64 s5] 46)) N [.int .i64 1, .int .i64 i, .int .i64 n, .int .i64 t, .string b_, .int .i64 e, .int .i64 s0, .int .i64 s1, .int .i64 s2, .int .i64 s3, .int .i64 s4, .int .i64 s5] 46 ∧ Below B w (w.alloc (.cells #[.int .i64 1, .int .i64 i, .int .i64 n, .int .i64 t, .string b_, .int .i64 e, .int .i64 s0, .int .i64 s1, .int .i64 s2, .int .i64 s3, .int .i64 s4, .int .i64 s5] 46)) ∧ (w.alloc (.cells #[.int .i64 1, .int .i64 i, .int .i64 n, .int .i64 t, .string b_, .int .i64 e, .int .i64 s0, .int .i64 s1, .int .i64 s2, .int .i64 s3, .int .i64 s4, .int .i64 s5] 46)).heap.size = N + 1) := Lib.hid ⟨H.same ((Chg.refl [] _).alloc _), by rw [← hN]; exact Blk.newA _ _ _, (Below.refl _ _).alloc hBw _, by simp [hN]⟩
  have HC : Hid (Cp.con K V = Cp.step b ⟨zk, zi, zn, zt, zb, ze, z0, z1, z2, z3, z4, z5⟩ (Cp.con K V) ⟨1, i, n, t, b_, e, s0, s1, s2, s3, s4, s5⟩) := Lib.hid (Cp.step_no (by simp) (by simp) _ _ _).symm
  clear H
  go_enter Tryd.func32, Tryd.ntmps32
  go_upto_region 1 with fail
  revert H1
  generalize (w.alloc (.cells #[.int .i64 1, .int .i64 i, .int .i64 n, .int .i64 t, .string b_, .int .i64 e, .int .i64 s0, .int .i64 s1, .int .i64 s2, .int .i64 s3, .int .i64 s4, .int .i64 s5] 46)) = W1
  intro H1
  have d0 : W1.cell? ⟨N, 0, none⟩ = some (.int .i64 1) := H1.out.2.1.cell (i := 0) rfl
  have d1 : W1.cell? ⟨N, 1, none⟩ = some (.int .i64 i) := H1.out.2.1.cell (i := 1) rfl
  have d2 : W1.cell? ⟨N, 2, none⟩ = some (.int .i64 n) := H1.out.2.1.cell (i := 2) rfl
  have d3 : W1.cell? ⟨N, 3, none⟩ = some (.int .i64 t) := H1.out.2.1.cell (i := 3) rfl
  have d4 : W1.cell? ⟨N, 4, none⟩ = some (.string b_) := H1.out.2.1.cell (i := 4) rfl
  have d5 : W1.cell? ⟨N, 5, none⟩ = some (.int .i64 e) := H1.out.2.1.cell (i := 5) rfl
  have d6 : W1.cell? ⟨N, 6, none⟩ = some (.int .i64 s0) := H1.out.2.1.cell (i := 6) rfl
  have d7 : W1.cell? ⟨N, 7, none⟩ = some (.int .i64 s1) := H1.out.2.1.cell (i := 7) rfl
  have d8 : W1.cell? ⟨N, 8, none⟩ = some (.int .i64 s2) := H1.out.2.1.cell (i := 8) rfl
  have d9 : W1.cell? ⟨N, 9, none⟩ = some (.int .i64 s3) := H1.out.2.1.cell (i := 9) rfl
  have d10 : W1.cell? ⟨N, 10, none⟩ = some (.int .i64 s4) := H1.out.2.1.cell (i := 10) rfl
  have d11 : W1.cell? ⟨N, 11, none⟩ = some (.int .i64 s5) := H1.out.2.1.cell (i := 11) rfl
  have c1 := H1.out.1.o.cell (i := 1) rfl
  have c2 := H1.out.1.o.cell (i := 2) rfl
  have c3 := H1.out.1.o.cell (i := 3) rfl
  have c4 := H1.out.1.o.cell (i := 4) rfl
  have c5 := H1.out.1.o.cell (i := 5) rfl
  have c6 := H1.out.1.o.cell (i := 6) rfl
  have c7 := H1.out.1.o.cell (i := 7) rfl
  have c8 := H1.out.1.o.cell (i := 8) rfl
  have c9 := H1.out.1.o.cell (i := 9) rfl
  have c10 := H1.out.1.o.cell (i := 10) rfl
  have c11 := H1.out.1.o.cell (i := 11) rfl
  have c12 := H1.out.1.o.cell (i := 12) rfl
  have c13 := H1.out.1.o.cell (i := 13) rfl
  have f1 := H1.out.1.o.free 1
  have f2 := H1.out.1.o.free 2
  have f3 := H1.out.1.o.free 3
  have f4 := H1.out.1.o.free 4
  have f5 := H1.out.1.o.free 5
  have f6 := H1.out.1.o.free 6
  have f7 := H1.out.1.o.free 7
  have f8 := H1.out.1.o.free 8
  have f9 := H1.out.1.o.free 9
  have f10 := H1.out.1.o.free 10
  have f11 := H1.out.1.o.free 11
  have f12 := H1.out.1.o.free 12
  have f13 := H1.out.1.o.free 13
  have nb1 : ¬ sb = N := fun e => by
    have h1 := H1.out.1.o; have h2 := H1.out.2.1
    rw [e] at h1
    unfold Blk at h1 h2
    rw [h1] at h2
    have := Option.some.inj h2
    injection this with _ b
    exact absurd b (by decide)
  have nb2 : ¬ N = sb := fun e => nb1 e.symm
  have w1 : IntKind.i64.wrap ((b : Int) + 1) = (b : Int) + 1 := IntWalk.i64_in _ (by omega)
  go_wp2_with fail
  go_end0
  have kb : Blk _ sb (.map (some mb) :: .int .i64 ((b : Int) + 1) :: [.int .i64 1, .int .i64 i, .int .i64 n, .int .i64 t, .string b_, .int .i64 e, .int .i64 s0, .int .i64 s1, .int .i64 s2, .int .i64 s3, .int .i64 s4, .int .i64 s5]) 82 := ((((((((((((H1.out.1.o.set 1 (.int .i64 ((b : Int) + 1))).set 2 (.int .i64 1)).set 3 (.int .i64 i)).set 4 (.int .i64 n)).set 5 (.int .i64 t)).set 6 (.string b_)).set 7 (.int .i64 e)).set 8 (.int .i64 s0)).set 9 (.int .i64 s1)).set 10 (.int .i64 s2)).set 11 (.int .i64 s3)).set 12 (.int .i64 s4)).set 13 (.int .i64 s5)
  have kc : Chg [sb] W1 _ := (((((((((((((Chg.refl [sb] W1).set (Or.inl (List.mem_singleton.2 rfl)) 1 (.int .i64 ((b : Int) + 1))).set (Or.inl (List.mem_singleton.2 rfl)) 2 (.int .i64 1)).set (Or.inl (List.mem_singleton.2 rfl)) 3 (.int .i64 i)).set (Or.inl (List.mem_singleton.2 rfl)) 4 (.int .i64 n)).set (Or.inl (List.mem_singleton.2 rfl)) 5 (.int .i64 t)).set (Or.inl (List.mem_singleton.2 rfl)) 6 (.string b_)).set (Or.inl (List.mem_singleton.2 rfl)) 7 (.int .i64 e)).set (Or.inl (List.mem_singleton.2 rfl)) 8 (.int .i64 s0)).set (Or.inl (List.mem_singleton.2 rfl)) 9 (.int .i64 s1)).set (Or.inl (List.mem_singleton.2 rfl)) 10 (.int .i64 s2)).set (Or.inl (List.mem_singleton.2 rfl)) 11 (.int .i64 s3)).set (Or.inl (List.mem_singleton.2 rfl)) 12 (.int .i64 s4)).set (Or.inl (List.mem_singleton.2 rfl)) 13 (.int .i64 s5)
  rw [show (b : Int) + 1 = ((b + 1 : Nat) : Int) by omega] at kb
  refine ⟨rfl, K, V, H1.out.1.put (z' := ⟨1, i, n, t, b_, e, s0, s1, s2, s3, s4, s5⟩) kc ?_, HC.out, H1.out.2.2.1.trans (kc.below (Nat.le_trans H1.out.1.hB.1 (Nat.le_of_lt H1.out.1.o.lt)) (by intro y hy; simp at hy; subst hy; exact H1.out.1.hB.1))⟩
  exact kb
end Go.Proofs.YtdchedkhlfmpeaaDoor
