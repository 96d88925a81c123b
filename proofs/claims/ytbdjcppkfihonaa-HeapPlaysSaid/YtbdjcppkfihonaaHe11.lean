/- Heap: what a heap is (no program). -/
import Derived.Test.YtbdjcppkfihonaaHe10
import Derived.Test.YtbdjcppkfihonaaTkMath
import Derived.WalkKit
import Derived.ProofKit
import Derived.Handy
import Derived.WalkLawsBesides
import Derived.WalkSpells
import Derived.Lib.Hide
import Derived.RegionTactic
import Derived.ChangeAlike
import Derived.WalkSmall
import Derived.Deep.QuietTactic
import Derived.BigQuiet
import Derived.OwnWalk
import Derived.Outline
import Derived.Deep.CutRange
import Derived.Deep.CutBlock
import Derived.LoopTactic
namespace Go.Proofs.Ytbdjcppkfihonaa
open Go.ChangeShapes Go.WideShapes Go.ChangeAt Go.RowKit
set_option linter.unusedSimpArgs false
set_option linter.unusedVariables false

/-- A number's deadline; Never, if it has none. -/
def He.at (l : List (Int × Int)) (id : Int) : Int := match l.find? (fun x => x.2 == id) with
  | some x => x.1
  | none => 9223372036854775807
def He.cut (l : List (Int × Int)) (id : Int) : List (Int × Int) := l.filter fun x => x.2 != id
/-- Entries of numbers below k, in order. -/
structure He.ok (k : Nat) (l : List (Int × Int)) : Prop where
  srt : He.srt l
  rng : ∀ x ∈ l, 0 ≤ x.2 ∧ x.2 < k ∧ 0 ≤ x.1 ∧ x.1 < 9223372036854775807
  nod : (l.map Prod.snd).Nodup
theorem nodup_len : ∀ (k : Nat) (l : List Int), l.Nodup → (∀ x ∈ l, 0 ≤ x ∧ x < k) → l.length ≤ k
  | 0, l, _, h => by
    cases l with
    | nil => simp
    | cons a r => have := h a (by simp); omega
  | k + 1, l, hn, h => by
    have h1 : (l.erase (k : Int)).Nodup := hn.erase _
    have h2 := nodup_len k (l.erase (k : Int)) h1 (fun x hx => by
      have hm := (List.Nodup.mem_erase_iff hn).1 hx
      have := h x hm.2
      have hne := hm.1
      omega)
    have h3 : l.length ≤ (l.erase (k : Int)).length + 1 := by rw [List.length_erase]; split <;> omega
    omega
theorem He.ok.len {k : Nat} {l : List (Int × Int)} (h : He.ok k l) : l.length ≤ k := by
  have := nodup_len k (l.map Prod.snd) h.nod (fun x hx => by
    obtain ⟨y, hy, rfl⟩ := List.mem_map.1 hx
    have := h.rng y hy
    omega)
  simpa using this
theorem He.ok.uniq : ∀ {l : List (Int × Int)}, (l.map Prod.snd).Nodup → ∀ {t s i : Int}, (t, i) ∈ l → (s, i) ∈ l → t = s
  | [], _, _, _, _, h, _ => by simp at h
  | a :: r, hn, t, s, i, h1, h2 => by
    simp only [List.map_cons, List.nodup_cons] at hn
    rcases List.mem_cons.1 h1 with e1 | e1 <;> rcases List.mem_cons.1 h2 with e2 | e2
    · rw [← e1] at e2; exact (Prod.mk.inj e2).1.symm
    · exact absurd (List.mem_map.2 ⟨_, e2, by rw [← e1]⟩) hn.1
    · exact absurd (List.mem_map.2 ⟨_, e1, by rw [← e2]⟩) hn.1
    · exact He.ok.uniq hn.2 e1 e2
theorem at_none {l : List (Int × Int)} {i : Int} (h : ∀ t, (t, i) ∉ l) : He.at l i = 9223372036854775807 := by
  unfold He.at
  cases hf : l.find? (fun x => x.2 == i) with
  | none => rfl
  | some x =>
    exfalso
    have h1 := List.mem_of_find?_eq_some hf
    have h2 := List.find?_some hf
    simp at h2
    exact h x.1 (by rw [← h2]; exact h1)
theorem at_mem {l : List (Int × Int)} (hn : (l.map Prod.snd).Nodup) {t i : Int} (h : (t, i) ∈ l) : He.at l i = t := by
  unfold He.at
  cases hf : l.find? (fun x => x.2 == i) with
  | none => have := List.find?_eq_none.1 hf _ h; simp at this
  | some x =>
    have h1 := List.mem_of_find?_eq_some hf
    have h2 := List.find?_some hf
    simp at h2
    have h3 : (x.1, i) ∈ l := by rw [← h2]; exact h1
    exact He.ok.uniq hn h3 h
theorem at_is {l : List (Int × Int)} {i : Int} (h : He.at l i ≠ 9223372036854775807) : (He.at l i, i) ∈ l := by
  unfold He.at at *
  cases hf : l.find? (fun x => x.2 == i) with
  | none => rw [hf] at h; exact absurd rfl h
  | some x =>
    have h1 := List.mem_of_find?_eq_some hf
    have h2 := List.find?_some hf
    simp at h2
    dsimp only
    rw [← h2]; exact h1
theorem at_no {k : Nat} {l : List (Int × Int)} (h : He.ok k l) {i : Int} (ha : He.at l i = 9223372036854775807) : ∀ t, (t, i) ∉ l := fun t ht => by
  have := at_mem h.nod ht
  have h2 := (h.rng _ ht).2.2.2
  dsimp only at h2
  omega
theorem at_out {k : Nat} {l : List (Int × Int)} (h : He.ok k l) {i : Int} (hi : ¬ (0 ≤ i ∧ i < k)) : He.at l i = 9223372036854775807 := at_none fun t ht => by
  have := h.rng _ ht
  dsimp only at this
  omega
theorem cut_same {l : List (Int × Int)} {i : Int} (h : ∀ t, (t, i) ∉ l) : He.cut l i = l := by
  unfold He.cut
  rw [List.filter_eq_self]
  intro x hx
  have : x.2 ≠ i := fun e => h x.1 (by rw [← e]; exact hx)
  simpa using this
theorem cut_idx : ∀ {l : List (Int × Int)}, (l.map Prod.snd).Nodup → ∀ {j : Nat} {t i : Int}, l[j]? = some (t, i) → He.cut l i = l.take j ++ l.drop (j + 1)
  | [], _, _, _, _, h => by simp at h
  | a :: r, hn, 0, t, i, h => by
    simp only [List.map_cons, List.nodup_cons] at hn
    simp at h; subst h
    have : He.cut r i = r := cut_same fun s hs => hn.1 (List.mem_map.2 ⟨_, hs, rfl⟩)
    unfold He.cut at *
    simp [this]
  | a :: r, hn, j + 1, t, i, h => by
    simp only [List.map_cons, List.nodup_cons] at hn
    have h' : r[j]? = some (t, i) := by simpa using h
    have ha : a.2 ≠ i := fun e => hn.1 (List.mem_map.2 ⟨_, List.mem_of_getElem? h', e.symm⟩)
    have ih := cut_idx hn.2 h'
    unfold He.cut at *
    rw [List.filter_cons_of_pos (by simpa using ha), ih]
    simp
theorem ok_cut {k : Nat} {l : List (Int × Int)} (h : He.ok k l) (i : Int) : He.ok k (He.cut l i) :=
  ⟨List.Pairwise.sublist List.filter_sublist h.srt, fun x hx => h.rng x (List.mem_filter.1 hx).1, List.Nodup.sublist (List.filter_sublist.map _) h.nod⟩
theorem mem_cut {l : List (Int × Int)} {i : Int} {x : Int × Int} : x ∈ He.cut l i ↔ x ∈ l ∧ x.2 ≠ i := by
  unfold He.cut; rw [List.mem_filter]; simp
theorem at_cut {k : Nat} {l : List (Int × Int)} (h : He.ok k l) (i j : Int) : He.at (He.cut l i) j = if j = i then 9223372036854775807 else He.at l j := by
  by_cases e : j = i
  · rw [if_pos e]
    exact at_none fun t ht => (mem_cut.1 ht).2 e
  · rw [if_neg e]
    by_cases hn : He.at l j = 9223372036854775807
    · rw [hn]
      exact at_none fun t ht => at_no h hn t (mem_cut.1 ht).1
    · exact at_mem (ok_cut h i).nod (mem_cut.2 ⟨at_is hn, e⟩)
theorem mem_ins {l : List (Int × Int)} {t x : Int × Int} : x ∈ He.ins l t ↔ x = t ∨ x ∈ l := by
  unfold He.ins
  conv => rhs; rw [← List.take_append_drop (He.pl l t) l]
  simp only [List.mem_append, List.mem_cons]
  constructor
  · rintro (h | h | h)
    · exact Or.inr (Or.inl h)
    · exact Or.inl h
    · exact Or.inr (Or.inr h)
  · rintro (h | h | h)
    · exact Or.inr (Or.inl h)
    · exact Or.inl h
    · exact Or.inr (Or.inr h)
theorem ins_perm (l : List (Int × Int)) (t : Int × Int) : (He.ins l t).Perm (t :: l) := by
  unfold He.ins
  have := (List.perm_middle (l₁ := l.take (He.pl l t)) (l₂ := l.drop (He.pl l t)) (a := t))
  rw [List.take_append_drop] at this
  exact this
theorem ok_ins {k : Nat} {l : List (Int × Int)} (h : He.ok k l) {t i : Int} (hi : ∀ s, (s, i) ∉ l) (h1 : 0 ≤ i ∧ i < k) (h2 : 0 ≤ t ∧ t < 9223372036854775807) : He.ok k (He.ins l (t, i)) := by
  refine ⟨ins_srt l (t, i) h.srt (hi t), fun x hx => ?_, ?_⟩
  · rcases mem_ins.1 hx with rfl | hx
    · exact ⟨h1.1, h1.2, h2.1, h2.2⟩
    · exact h.rng x hx
  · have := ((ins_perm l (t, i)).map Prod.snd).nodup_iff.2 (List.nodup_cons.2 ⟨fun hm => by
      obtain ⟨y, hy, hyi⟩ := List.mem_map.1 hm
      obtain ⟨y1, y2⟩ := y
      have h5 : y2 = i := hyi
      rw [h5] at hy
      exact hi y1 hy, h.nod⟩)
    exact this
theorem at_ins {k : Nat} {l : List (Int × Int)} (h : He.ok k l) {t i : Int} (hi : ∀ s, (s, i) ∉ l) (h1 : 0 ≤ i ∧ i < k) (h2 : 0 ≤ t ∧ t < 9223372036854775807) (j : Int) : He.at (He.ins l (t, i)) j = if j = i then t else He.at l j := by
  have hk := ok_ins h hi h1 h2
  by_cases e : j = i
  · rw [if_pos e, e]
    exact at_mem hk.nod (mem_ins.2 (Or.inl rfl))
  · rw [if_neg e]
    by_cases hn : He.at l j = 9223372036854775807
    · rw [hn]
      refine at_none fun s hs => ?_
      rcases mem_ins.1 hs with hs | hs
      · exact e (Prod.mk.inj hs).2
      · exact at_no h hn s hs
    · exact at_mem hk.nod (mem_ins.2 (Or.inr (at_is hn)))
/-- An entry is told anew. -/
def He.set (l : List (Int × Int)) (i at_ : Int) : List (Int × Int) := if Tk.own at_ = 9223372036854775807 then He.cut l i else He.ins (He.cut l i) (Tk.own at_, i)
theorem cut_no (l : List (Int × Int)) (i : Int) : ∀ s, (s, i) ∉ He.cut l i := fun s hs => (mem_cut.1 hs).2 rfl
theorem own_lt {t : Int} (h : t ≤ 9223372036854775807) (hn : Tk.own t ≠ 9223372036854775807) : 0 ≤ Tk.own t ∧ Tk.own t < 9223372036854775807 := by
  have := Tk.own_nn t
  have := Tk.own_le t h
  omega
theorem ok_set {k : Nat} {l : List (Int × Int)} (h : He.ok k l) {i t : Int} (h1 : 0 ≤ i ∧ i < k) (h2 : t ≤ 9223372036854775807) : He.ok k (He.set l i t) := by
  unfold He.set
  split
  · exact ok_cut h i
  · rename_i hne
    exact ok_ins (ok_cut h i) (cut_no l i) h1 (own_lt h2 hne)
theorem at_set {k : Nat} {l : List (Int × Int)} (h : He.ok k l) {i t : Int} (h1 : 0 ≤ i ∧ i < k) (h2 : t ≤ 9223372036854775807) (j : Int) : He.at (He.set l i t) j = if j = i then Tk.own t else He.at l j := by
  unfold He.set
  split
  · rename_i he
    rw [at_cut h i j, he]
  · rename_i hne
    rw [at_ins (ok_cut h i) (cut_no l i) h1 (own_lt h2 hne), at_cut h i j]
    split <;> rfl
theorem ok_nil (k : Nat) : He.ok k [] := ⟨List.Pairwise.nil, fun x hx => by simp at hx, List.nodup_nil⟩
theorem cut_head {x : Int × Int} {r : List (Int × Int)} (hn : ((x :: r).map Prod.snd).Nodup) : He.cut (x :: r) x.2 = r := by
  have := cut_idx (j := 0) (t := x.1) (i := x.2) hn rfl
  simpa using this
/-- The deadlines by number, as cells. -/
def He.ats (k : Nat) (l : List (Int × Int)) : List Value := (List.range k).map fun (i : Nat) => .int .i64 (He.at l (i : Int))
theorem ats_length (k : Nat) (l : List (Int × Int)) : (He.ats k l).length = k := by simp [He.ats]
theorem ats_get {k : Nat} (l : List (Int × Int)) {i : Nat} (h : i < k) : (He.ats k l)[i]? = some (.int .i64 (He.at l i)) := by simp [He.ats, h]
theorem ats_put {k : Nat} {l m : List (Int × Int)} {i : Nat} (hi : i < k) {v : Int} (h : ∀ j : Nat, j < k → He.at m j = if (j : Int) = i then v else He.at l j) : (He.ats k l).set i (.int .i64 v) = He.ats k m := by
  apply List.ext_getElem?
  intro j
  rw [List.getElem?_set]
  by_cases e : i = j
  · subst e
    rw [if_pos rfl, ats_length, if_pos hi, ats_get m hi, h i hi, if_pos rfl]
  · rw [if_neg e]
    by_cases hj : j < k
    · rw [ats_get l hj, ats_get m hj, h j hj, if_neg (by omega)]
    · rw [List.getElem?_eq_none (by rw [ats_length]; omega), List.getElem?_eq_none (by rw [ats_length]; omega)]
theorem ats_same {k : Nat} {l m : List (Int × Int)} (h : ∀ j : Nat, j < k → He.at m j = He.at l j) : He.ats k l = He.ats k m := by
  unfold He.ats
  apply List.map_congr_left
  intro j hj
  rw [h j (List.mem_range.1 hj)]
theorem ats_nil (k : Nat) : He.ats k [] = List.replicate k (.int .i64 9223372036854775807) := by
  apply List.ext_getElem?
  intro j
  by_cases hj : j < k
  · rw [ats_get [] hj, List.getElem?_replicate, if_pos hj]; rfl
  · rw [List.getElem?_eq_none (by rw [ats_length]; omega), List.getElem?_eq_none (by simp; omega)]
end Go.Proofs.Ytbdjcppkfihonaa
