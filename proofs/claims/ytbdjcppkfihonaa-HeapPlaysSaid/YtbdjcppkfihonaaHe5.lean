/- Heap: entries in order (no program). -/
import Derived.Test.YtbdjcppkfihonaaHe4
import Derived.WalkKit
import Derived.ProofKit
import Derived.Handy
import Derived.WalkLawsBesides
import Derived.WalkSpells
import Derived.Lib.Hide
import Derived.RegionTactic
import Derived.ChangeAlike
import Derived.WalkSmall
import Derived.Deep.QuietTactic
import Derived.BigQuiet
import Derived.OwnWalk
import Derived.Outline
import Derived.Deep.CutRange
import Derived.Deep.CutBlock
import Derived.LoopTactic
namespace Go.Proofs.Ytbdjcppkfihonaa
open Go.ChangeShapes Go.WideShapes Go.ChangeAt Go.RowKit
set_option linter.unusedSimpArgs false
set_option linter.unusedVariables false

theorem cmp_lt (a b : Int × Int) : He.cmp a b < 0 ↔ a.1 < b.1 ∨ (a.1 = b.1 ∧ a.2 < b.2) := by
  unfold He.cmp Lib.compareInt
  by_cases h1 : a.1 < b.1
  · rw [if_pos h1]; simp [h1]
  · by_cases h2 : a.1 > b.1
    · rw [if_neg h1, if_pos h2]; simp; omega
    · rw [if_neg h1, if_neg h2, if_pos rfl]
      by_cases h3 : a.2 < b.2
      · rw [if_pos h3]; simp; omega
      · by_cases h4 : a.2 > b.2
        · rw [if_neg h3, if_pos h4]; simp; omega
        · rw [if_neg h3, if_neg h4]; simp; omega
theorem cmp_trans {a b c : Int × Int} (h1 : He.cmp a b < 0) (h2 : He.cmp b c < 0) : He.cmp a c < 0 := by
  rw [cmp_lt] at *; omega
/-- In order, each number's entry once. -/
def He.srt (l : List (Int × Int)) : Prop := l.Pairwise fun a b => He.cmp a b < 0
/-- How many stand ahead of t. -/
def He.pl (l : List (Int × Int)) (t : Int × Int) : Nat := (l.takeWhile fun x => decide (He.cmp x t < 0)).length
theorem pl_parts : ∀ (l : List (Int × Int)) (t : Int × Int), He.srt l → He.parts l t (He.pl l t)
  | [], t, _ => ⟨by simp [He.pl], fun j x h => by simp at h⟩
  | a :: r, t, hs => by
    have hr := List.pairwise_cons.1 hs
    by_cases ha : He.cmp a t < 0
    · have e : He.pl (a :: r) t = He.pl r t + 1 := by
        unfold He.pl
        rw [List.takeWhile_cons_of_pos (by simpa using ha)]; rfl
      obtain ⟨h1, h2⟩ := pl_parts r t hr.2
      rw [e]
      refine ⟨by simp; omega, fun j x hj => ?_⟩
      cases j with
      | zero => simp at hj; subst hj; simp [ha]
      | succ j =>
        have := h2 j x (by simpa using hj)
        rw [this]; omega
    · have e : He.pl (a :: r) t = 0 := by
        unfold He.pl
        rw [List.takeWhile_cons_of_neg (by simpa using ha)]; rfl
      rw [e]
      refine ⟨by omega, fun j x hj => ⟨fun hx => ?_, fun h => by omega⟩⟩
      exfalso
      cases j with
      | zero => simp at hj; subst hj; exact ha hx
      | succ j =>
        have hm := List.mem_of_getElem? (by simpa using hj : r[j]? = some x)
        exact ha (cmp_trans (hr.1 x hm) hx)
/-- An entry put in its place. -/
def He.ins (l : List (Int × Int)) (t : Int × Int) : List (Int × Int) := l.take (He.pl l t) ++ t :: l.drop (He.pl l t)
theorem ins_srt (l : List (Int × Int)) (t : Int × Int) (hs : He.srt l) (hn : t ∉ l) : He.srt (He.ins l t) := by
  obtain ⟨h1, h2⟩ := pl_parts l t hs
  unfold He.srt He.ins
  have hd : (l.take (He.pl l t) ++ l.drop (He.pl l t)).Pairwise fun a b => He.cmp a b < 0 := by rw [List.take_append_drop]; exact hs
  rw [List.pairwise_append] at hd ⊢
  obtain ⟨d1, d2, d3⟩ := hd
  have hlow : ∀ x ∈ l.take (He.pl l t), He.cmp x t < 0 := fun x hx => by
    obtain ⟨j, hj⟩ := List.mem_iff_getElem?.1 hx
    rw [List.getElem?_take] at hj
    split at hj
    · rename_i hlt; exact (h2 j x hj).2 hlt
    · cases hj
  have hhigh : ∀ x ∈ l.drop (He.pl l t), He.cmp t x < 0 := fun x hx => by
    obtain ⟨j, hj⟩ := List.mem_iff_getElem?.1 hx
    rw [List.getElem?_drop] at hj
    have hnl : ¬ He.cmp x t < 0 := fun h => by have := (h2 _ x hj).1 h; omega
    have hne : t ≠ x := fun h => hn (h ▸ List.mem_of_getElem? hj)
    rw [cmp_lt] at hnl ⊢
    obtain ⟨t1, t2⟩ := t
    obtain ⟨x1, x2⟩ := x
    dsimp only at hnl ⊢
    rcases Int.lt_trichotomy t1 x1 with h | h | h
    · omega
    · rcases Int.lt_trichotomy t2 x2 with k | k | k
      · omega
      · exact absurd (by rw [h, k]) hne
      · omega
    · omega
  refine ⟨d1, List.pairwise_cons.2 ⟨hhigh, d2⟩, fun a ha b hb => ?_⟩
  rcases List.mem_cons.1 hb with rfl | hb
  · exact hlow a ha
  · exact d3 a ha b hb
/-- The place of an entry that is there. -/
theorem pl_at (l : List (Int × Int)) (hs : He.srt l) (i : Nat) (x : Int × Int) (hi : l[i]? = some x) : He.pl l x = i := by
  obtain ⟨h1, h2⟩ := pl_parts l x hs
  obtain ⟨k, hk⟩ : ∃ k, He.pl l x = k := ⟨_, rfl⟩
  rw [hk] at h1 h2 ⊢
  clear hk
  have hxx : ¬ He.cmp x x < 0 := by rw [cmp_self]; omega
  have ha : ¬ i < k := fun h => hxx ((h2 i x hi).2 h)
  rcases Nat.lt_or_ge (k) i with h | h
  · exfalso
    have hlen : i < l.length := by
      rcases Nat.lt_or_ge i l.length with h | h
      · exact h
      · rw [List.getElem?_eq_none h] at hi; cases hi
    obtain ⟨y, hy⟩ : ∃ y, l[k]? = some y := ⟨_, List.getElem?_eq_getElem (by omega)⟩
    have hyx : He.cmp y x < 0 := by
      have hp := List.pairwise_iff_getElem.1 hs (k) i (by omega) hlen h
      rw [List.getElem?_eq_getElem (by omega)] at hy hi
      injection hy with hy; injection hi with hi
      rw [← hy, ← hi]; exact hp
    have := (h2 _ y hy).1 hyx
    omega
  · omega
theorem srt_del (l : List (Int × Int)) (hs : He.srt l) (i : Nat) : He.srt (l.take i ++ l.drop (i + 1)) := by
  have e : l.take i ++ l.drop (i + 1) = l.eraseIdx i := by rw [List.eraseIdx_eq_take_drop_succ]
  rw [e]
  exact List.Pairwise.sublist (List.eraseIdx_sublist l i) hs
end Go.Proofs.Ytbdjcppkfihonaa
