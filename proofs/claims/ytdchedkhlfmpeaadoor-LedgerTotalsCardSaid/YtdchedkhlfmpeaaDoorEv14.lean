/- Events: who were opened. -/
import Derived.Test.YtdchedkhlfmpeaaDoorEv10
import Derived.Test.YtdchedkhlfmpeaaDoorShelf
import Derived.Lib.OwnBridge
import Derived.Shelf.Slices.CompactI
import Derived.Lib.RowBridge
import Derived.WalkKit
import Derived.ProofKit
import Derived.Handy
import Derived.WalkLawsBesides
import Derived.WalkSpells
import Derived.Lib.Hide
import Derived.Lib.SliceRun
import Derived.Deep.RegionLaw
import Derived.RegionTactic
import Derived.ChangeAlike
import Derived.WalkSmall
import Derived.Deep.QuietTactic
import Derived.BigQuiet
import Derived.OwnWalk
import Derived.Outline
import Derived.Deep.CutRange
import Derived.Deep.CutBlock
import Derived.LoopTactic
namespace Go.Proofs.YtdchedkhlfmpeaaDoor
open Go.ChangeShapes Go.WideShapes Go.ChangeAt Go.RowKit
set_option linter.unusedSimpArgs false
set_option linter.unusedVariables false

/-- Who were opened, as they came. -/
def Ev.ops (L : List Ev) : List Int := (L.filter (fun x => x.k == 2)).map Ev.i
theorem Ev.ops_snoc (L : List Ev) (x : Ev) : Ev.ops (L ++ [x]) = if x.k = 2 then Ev.ops L ++ [x.i] else Ev.ops L := by
  unfold Ev.ops; rw [List.filter_append]
  by_cases h : x.k = 2
  · simp [h]
  · simp [h]
/-- A number put into its place, once. -/
def insD (x : Int) (o : List Int) : List Int := o.takeWhile (fun y => decide (y < x)) ++ ((if (o.dropWhile (fun y => decide (y < x))).head? = some x then [] else [x]) ++ o.dropWhile (fun y => decide (y < x)))
/-- Who were opened, rising. -/
def Ev.ids (L : List Ev) : List Int := L.foldl (fun o x => if x.k = 2 then insD x.i o else o) []
theorem Ev.ids_snoc (L : List Ev) (x : Ev) : Ev.ids (L ++ [x]) = if x.k = 2 then insD x.i (Ev.ids L) else Ev.ids L := by unfold Ev.ids; rw [List.foldl_append]; rfl
theorem lt_ext : ∀ (a b : List Int), a.Pairwise (· < ·) → b.Pairwise (· < ·) → (∀ x, x ∈ a ↔ x ∈ b) → a = b
  | [], [], _, _, _ => rfl
  | [], y :: b, _, _, h => by have := (h y).2 (by simp); cases this
  | x :: a, [], _, _, h => by have := (h x).1 (by simp); cases this
  | x :: a, y :: b, ha, hb, h => by
    obtain ⟨ha1, ha2⟩ := List.pairwise_cons.1 ha
    obtain ⟨hb1, hb2⟩ := List.pairwise_cons.1 hb
    have e : x = y := by
      have h1 := (h x).1 (by simp)
      have h2 := (h y).2 (by simp)
      rw [List.mem_cons] at h1 h2
      rcases h1 with h1 | h1
      · exact h1
      · rcases h2 with h2 | h2
        · exact h2.symm
        · have := ha1 y h2; have := hb1 x h1; omega
    subst e
    congr 1
    refine lt_ext a b ha2 hb2 fun z => ⟨fun hz => ?_, fun hz => ?_⟩
    · have h1 := (h z).1 (by simp [hz])
      rw [List.mem_cons] at h1
      rcases h1 with h1 | h1
      · have := ha1 z hz; omega
      · exact h1
    · have h1 := (h z).2 (by simp [hz])
      rw [List.mem_cons] at h1
      rcases h1 with h1 | h1
      · have := hb1 z hz; omega
      · exact h1
theorem takeWhile_lt (x : Int) : ∀ (o : List Int), o.Pairwise (· < ·) → ∀ y ∈ o.dropWhile (fun y => decide (y < x)), x ≤ y
  | [], _, y, hy => by simp at hy
  | z :: o, h, y, hy => by
    obtain ⟨h1, h2⟩ := List.pairwise_cons.1 h
    rw [List.dropWhile_cons] at hy
    by_cases hz : z < x
    · simp only [hz, decide_true, if_true] at hy
      exact takeWhile_lt x o h2 y hy
    · simp only [hz, decide_false, Bool.false_eq_true, if_false, List.mem_cons] at hy
      rcases hy with rfl | hy
      · omega
      · have := h1 y hy; omega
theorem takeWhile_all (x : Int) (o : List Int) : ∀ y ∈ o.takeWhile (fun y => decide (y < x)), y < x := fun y hy => by
  have h : o.takeWhile (fun y => decide (y < x)) ++ o.dropWhile (fun y => decide (y < x)) = o := List.takeWhile_append_dropWhile
  have := List.all_takeWhile (l := o) (p := fun y => decide (y < x))
  rw [List.all_eq_true] at this
  simpa using this y hy
theorem insD_srt {x : Int} {o : List Int} (h : o.Pairwise (· < ·)) : (insD x o).Pairwise (· < ·) ∧ ∀ y, y ∈ insD x o ↔ y = x ∨ y ∈ o := by
  have e : o.takeWhile (fun y => decide (y < x)) ++ o.dropWhile (fun y => decide (y < x)) = o := List.takeWhile_append_dropWhile
  have h2 := h
  rw [← e, List.pairwise_append] at h2
  have hd := takeWhile_lt x o h
  have ht := takeWhile_all x o
  obtain ⟨A, hA⟩ : ∃ A, o.takeWhile (fun y => decide (y < x)) = A := ⟨_, rfl⟩
  obtain ⟨D, hD⟩ : ∃ D, o.dropWhile (fun y => decide (y < x)) = D := ⟨_, rfl⟩
  unfold insD
  rw [hA] at e h2 ht ⊢
  rw [hD] at e h2 hd ⊢
  have mo : ∀ y, y ∈ o ↔ y ∈ A ∨ y ∈ D := fun y => by rw [← e, List.mem_append]
  cases D with
  | nil =>
    simp only [List.head?_nil, reduceCtorEq, if_false, List.append_nil]
    refine ⟨List.pairwise_append.2 ⟨h2.1, by simp, fun a ha b hb => by simp at hb; subst hb; exact ht a ha⟩, fun y => ?_⟩
    rw [mo]; simp [or_comm]
  | cons z D =>
    by_cases hz : z = x
    · subst hz
      simp only [List.head?_cons, if_true, List.nil_append]
      refine ⟨List.pairwise_append.2 h2, fun y => ?_⟩
      rw [mo, List.mem_append]
      exact ⟨Or.inr, fun h => h.elim (fun e => Or.inr (by simp [e])) id⟩
    · simp only [List.head?_cons, Option.some.injEq, hz, if_false]
      refine ⟨List.pairwise_append.2 ⟨h2.1, List.pairwise_cons.2 ⟨fun b hb => ?_, h2.2.1⟩, fun a ha b hb => ?_⟩, fun y => ?_⟩
      · rcases List.mem_cons.1 hb with rfl | hb
        · have := hd b (by simp); omega
        · have := (List.pairwise_cons.1 h2.2.1).1 b hb; have := hd z (by simp); omega
      · rw [List.singleton_append] at hb
        rcases List.mem_cons.1 hb with rfl | hb
        · exact ht a ha
        · exact h2.2.2 a ha b hb
      · rw [mo]; simp
        constructor
        · rintro (h | h | h)
          · exact Or.inr (Or.inl h)
          · exact Or.inl h
          · exact Or.inr (Or.inr h)
        · rintro (h | h | h)
          · exact Or.inr (Or.inl h)
          · exact Or.inl h
          · exact Or.inr (Or.inr h)
theorem Ev.ids_srt (L : List Ev) : (Ev.ids L).Pairwise (· < ·) ∧ ∀ y, y ∈ Ev.ids L ↔ y ∈ Ev.ops L := by
  have key : ∀ m, (Ev.ids (L.take m)).Pairwise (· < ·) ∧ ∀ y, y ∈ Ev.ids (L.take m) ↔ y ∈ Ev.ops (L.take m) := by
    intro m
    induction m with
    | zero => rw [List.take_zero]; exact ⟨List.Pairwise.nil, fun y => by simp [Ev.ids, Ev.ops]⟩
    | succ m ih =>
      by_cases hl : m < L.length
      · rw [List.take_succ_eq_append_getElem hl, Ev.ids_snoc, Ev.ops_snoc]
        split
        · obtain ⟨h1, h2⟩ := insD_srt (x := L[m].i) ih.1
          refine ⟨h1, fun y => ?_⟩
          rw [h2, ih.2, List.mem_append]; simp [or_comm]
        · exact ih
      · rw [List.take_of_length_le (by omega)] at ih ⊢
        exact ih
  have := key L.length
  rwa [List.take_length] at this
theorem keeps_at (d : Array Int) (m : Nat) : Lib.keeps d m = true ↔ m = 0 ∨ d[m]! ≠ d[m - 1]! := by
  by_cases h0 : m = 0
  · subst h0; simp [Lib.keeps]
  · by_cases h : d[m]! = d[m - 1]!
    · rw [Lib.keeps_neg (by omega) h]; simp [h0, h]
    · rw [Lib.keeps_pos h]; simp [h]
/-- What is compacted of a rising list rises, and holds the same. -/
theorem compact_srt (zs : List Int) (h : zs.Pairwise (· ≤ ·)) : (Lib.compact zs).Pairwise (· < ·) ∧ ∀ y, y ∈ Lib.compact zs ↔ y ∈ zs := by
  have at' : ∀ j, j < zs.length → zs.toArray[j]! = zs[j]! := fun j hj => by simp [hj]
  have key : ∀ m, m ≤ zs.length → (Lib.compactUpTo zs.toArray m).Pairwise (· < ·) ∧ (∀ y, y ∈ Lib.compactUpTo zs.toArray m ↔ y ∈ zs.take m) := by
    intro m
    induction m with
    | zero => intro _; rw [List.take_zero]; exact ⟨by simp [Lib.compactUpTo], fun y => by simp [Lib.compactUpTo]⟩
    | succ m ih =>
      intro hm
      obtain ⟨i1, i2⟩ := ih (by omega)
      have hml : m < zs.length := by omega
      rw [Lib.compactUpTo_succ, List.take_succ_eq_append_getElem hml]
      have hg : zs.toArray[m]! = zs[m] := by simp [hml]
      have hle : ∀ y ∈ zs.take m, y ≤ zs[m] := fun y hy => by
        obtain ⟨q, hq, rfl⟩ := List.mem_iff_getElem.1 hy
        rw [List.length_take] at hq
        rw [List.getElem_take]
        exact (List.pairwise_iff_getElem.1 h) q m (by omega) hml (by omega)
      by_cases hk : Lib.keeps zs.toArray m = true
      · rw [if_pos hk, hg]
        have hlt : ∀ y ∈ zs.take m, y < zs[m] := fun y hy => by
          obtain ⟨q, hq, rfl⟩ := List.mem_iff_getElem.1 hy
          rw [List.length_take] at hq
          rw [List.getElem_take]
          rcases (keeps_at _ _).1 hk with e | e
          · omega
          · rw [hg] at e
            have hg2 : zs.toArray[m - 1]! = zs[m - 1]'(by omega) := by
              rw [getElem!_pos _ _ (by simp; omega)]; simp
            rw [hg2] at e
            have a1 : zs[m - 1]'(by omega) ≤ zs[m] := (List.pairwise_iff_getElem.1 h) (m - 1) m (by omega) hml (by omega)
            have a2 : zs[q]'(by omega) ≤ zs[m - 1]'(by omega) := by
              by_cases e2 : q = m - 1
              · subst e2; exact Int.le_refl _
              · exact (List.pairwise_iff_getElem.1 h) q (m - 1) (by omega) (by omega) (by omega)
            omega
        refine ⟨List.pairwise_append.2 ⟨i1, by simp, fun a ha b hb => by simp at hb; subst hb; exact hlt a ((i2 a).1 ha)⟩, fun y => ?_⟩
        rw [List.mem_append, List.mem_append, i2]
      · rw [if_neg hk, List.append_nil]
        refine ⟨i1, fun y => ?_⟩
        rw [List.mem_append, i2]
        constructor
        · exact Or.inl
        · rintro (hy | hy)
          · exact hy
          · simp at hy
            subst hy
            have hk2 : ¬ (m = 0 ∨ zs.toArray[m]! ≠ zs.toArray[m - 1]!) := fun e => hk ((keeps_at _ _).2 e)
            have hm0 : m ≠ 0 := fun e => hk2 (Or.inl e)
            have he : zs.toArray[m]! = zs.toArray[m - 1]! := Classical.byContradiction fun e => hk2 (Or.inr e)
            rw [hg, getElem!_pos _ _ (by simp; omega)] at he
            rw [he]
            simp only [List.getElem_toArray]
            exact List.mem_iff_getElem.2 ⟨m - 1, by rw [List.length_take]; omega, by rw [List.getElem_take]⟩
  have := key zs.length (Nat.le_refl _)
  rw [List.take_length] at this
  exact this
/-- The program's way to it. -/
theorem ids_eq (L : List Ev) : Lib.compact ((Ev.ops L).mergeSort fun x y => decide (x ≤ y)) = Ev.ids L := by
  have hs : ((Ev.ops L).mergeSort fun x y => decide (x ≤ y)).Pairwise (· ≤ ·) := by
    have := List.pairwise_mergeSort (le := fun (x y : Int) => decide (x ≤ y)) (fun a b c h1 h2 => by simp at *; omega) (fun a b => by simp; omega) (Ev.ops L)
    exact this.imp (fun h => by simpa using h)
  obtain ⟨h1, h2⟩ := compact_srt _ hs
  refine lt_ext _ _ h1 (Ev.ids_srt L).1 fun y => ?_
  rw [h2, (Ev.ids_srt L).2]
  exact (List.mergeSort_perm _ _).mem_iff
/-- A slice (at r) of numbers: the first L.length of them are L. -/
def RI (w : World) (r : Option Addr) (L : List Int) : Prop := ∀ (j : Nat) (v : Int), L[j]? = some v → ∃ g o, r = some ⟨g, o, none⟩ ∧ g < w.heap.size ∧ w.cell? ⟨g, o + j, none⟩ = some (.int .i64 v)
theorem RI.nil (w : World) (r : Option Addr) : RI w r [] := fun j v h => by simp at h
theorem RI.below {w w' : World} {r : Option Addr} {L : List Int} (h : RI w r L) (k : Below w.heap.size w w') : RI w' r L := fun j v hj => by
  obtain ⟨g, o, h2, h3, hc⟩ := h j v hj
  exact ⟨g, o, h2, Nat.lt_of_lt_of_le h3 k.size, by rw [← hc]; exact Chg.cell (l := []) (Chg.of_fresh k) h3 (by simp)⟩
theorem RI.of_rm {w : World} {B : Nat} {r : Option Addr} {n c : Nat} {L : List Int} {T : TypeId} (h : RM w B r n c 1 (L.map (Value.int .i64)) T) (hn : L.length = n) : RI w r L := fun j v hj => by
  have hj2 := (List.getElem?_eq_some_iff.1 hj).1
  obtain ⟨g, rfl, _, hr⟩ := h.row (by omega)
  exact ⟨g, 0, rfl, hr.lt, by rw [Nat.zero_add]; exact hr.cell (by rw [List.getElem?_map, hj]; rfl)⟩
theorem infoInt : (Tryd.prog.info? 3).map (fun i => (i.zero, i.size, i.bytes)) = some (some (.int .i64 0), 1, 8) := by kernel_rfl
theorem below_grow {B : Nat} {w0 w : World} (h : Below B w0 w) (hB : B ≤ w.heap.size) (os : Array Obj) : Below B w0 (Go.Sort.grow w os) :=
  ⟨h.os, h.tape, h.output, by have := h.size; simp [Go.Sort.grow]; omega, fun k hk => by rw [← h.block k hk]; exact Go.Sort.heap_grow_old w os (by omega)⟩
theorem compact_len (zs : List Int) : (Lib.compact zs).length ≤ zs.length := Lib.compact_length_le zs
end Go.Proofs.YtdchedkhlfmpeaaDoor
