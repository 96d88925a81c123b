/- Heap: many set, what is due (no program). -/
import Derived.Test.YtbdjcppkfihonaaHe18
import Derived.WalkKit
import Derived.ProofKit
import Derived.Handy
import Derived.WalkLawsBesides
import Derived.WalkSpells
import Derived.Lib.Hide
import Derived.RegionTactic
import Derived.ChangeAlike
import Derived.WalkSmall
import Derived.Deep.QuietTactic
import Derived.BigQuiet
import Derived.OwnWalk
import Derived.Outline
import Derived.Deep.CutRange
import Derived.Deep.CutBlock
import Derived.LoopTactic
namespace Go.Proofs.Ytbdjcppkfihonaa
open Go.ChangeShapes Go.WideShapes Go.ChangeAt Go.RowKit
set_option linter.unusedSimpArgs false
set_option linter.unusedVariables false

theorem own_nev {x : Int} (h : x ≤ 9223372036854775807) : Tk.own x = 9223372036854775807 ↔ x = 9223372036854775807 := by unfold Tk.own; split <;> omega
/-- Deadlines set one by one. -/
def He.ss (A : Nat → Int) : Nat → List (Int × Int)
  | 0 => []
  | i + 1 => He.set (He.ss A i) (i : Int) (A i)
def He.cnt (A : Nat → Int) : Nat → Nat
  | 0 => 0
  | i + 1 => if A i = 9223372036854775807 then He.cnt A i else He.cnt A i + 1
theorem cnt_le (A : Nat → Int) : ∀ i, He.cnt A i ≤ i
  | 0 => Nat.le_refl _
  | i + 1 => by unfold He.cnt; have := cnt_le A i; split <;> omega
theorem ss_ok {A : Nat → Int} {k : Nat} (hA : ∀ i, A i ≤ 9223372036854775807) : ∀ i, i ≤ k → He.ok k (He.ss A i)
  | 0, _ => ok_nil k
  | i + 1, h => ok_set (k := k) (ss_ok hA i (by omega)) ⟨by omega, by omega⟩ (hA i)
theorem ss_at {A : Nat → Int} {k : Nat} (hA : ∀ i, A i ≤ 9223372036854775807) : ∀ i, i ≤ k → ∀ j : Nat, He.at (He.ss A i) (j : Int) = if j < i then Tk.own (A j) else 9223372036854775807
  | 0, _, j => by simp [He.ss, He.at]
  | i + 1, h, j => by
    rw [He.ss, at_set (k := k) (ss_ok hA i (by omega)) ⟨by omega, by omega⟩ (hA i), ss_at (k := k) hA i (by omega) j]
    by_cases e : j = i
    · subst e; rw [if_pos rfl, if_pos (by omega)]
    · rw [if_neg (by omega)]
      by_cases h2 : j < i
      · rw [if_pos h2, if_pos (by omega)]
      · rw [if_neg h2, if_neg (by omega)]
theorem ss_len {A : Nat → Int} {k : Nat} (hA : ∀ i, A i ≤ 9223372036854775807) : ∀ i, i ≤ k → (He.ss A i).length = He.cnt A i
  | 0, _ => rfl
  | i + 1, h => by
    have ih := ss_len (k := k) hA i (by omega)
    have hno : He.at (He.ss A i) (i : Int) = 9223372036854775807 := by rw [ss_at (k := k) hA i (by omega), if_neg (by omega)]
    have hcut : He.cut (He.ss A i) (i : Int) = He.ss A i := cut_same (at_no (ss_ok (k := k) hA i (by omega)) hno)
    rw [He.ss, He.cnt, He.set, hcut]
    by_cases e : A i = 9223372036854775807
    · rw [if_pos ((own_nev (hA i)).2 e), if_pos e, ih]
    · rw [if_neg (fun h => e ((own_nev (hA i)).1 h)), if_neg e, (ins_perm _ _).length_eq, List.length_cons, ih]
theorem ss_mem {A : Nat → Int} {k i : Nat} (hA : ∀ i, A i ≤ 9223372036854775807) (hi : i ≤ k) {t id : Int} (h : (t, id) ∈ He.ss A i) : ∃ j : Nat, j < i ∧ id = j ∧ t = Tk.own (A j) ∧ A j ≠ 9223372036854775807 := by
  have ok := ss_ok (k := k) hA i hi
  have hr := ok.rng _ h
  dsimp only at hr
  obtain ⟨j, rfl⟩ : ∃ j : Nat, id = j := ⟨id.toNat, by omega⟩
  have ha := at_mem ok.nod h
  rw [ss_at (k := k) hA i hi] at ha
  by_cases hj : j < i
  · rw [if_pos hj] at ha
    refine ⟨j, hj, rfl, ha.symm, fun e => ?_⟩
    have := (own_nev (hA j)).2 e
    omega
  · rw [if_neg hj] at ha; omega
theorem due_mono {a b n : Int} (h : a ≤ b) (ha : a ≠ 9223372036854775807) (h2 : Tk.dueB b n = true) : Tk.dueB a n = true := by
  unfold Tk.dueB at *
  have h3 := of_decide_eq_true h2
  refine decide_eq_true ⟨ha, ?_⟩
  have h4 := h3.2
  unfold Tk.own at *
  split <;> split at h4 <;> split at h4 <;> omega
theorem due_idx {k : Nat} {l : List (Int × Int)} (ok : He.ok k l) {now : Int} {d : Nat} (hd : (l.takeWhile (fun x => Tk.dueB x.1 now)).length = d) {i : Nat} {x : Int × Int} (hx : l[i]? = some x) : i < d ↔ Tk.dueB x.1 now = true := by
  constructor
  · intro h
    obtain ⟨y, hy, hp⟩ := tw_lt (fun x => Tk.dueB x.1 now) l i (by rw [hd]; exact h)
    rw [hx] at hy; injection hy with hy; rw [hy]; exact hp
  · intro h
    rcases Nat.lt_or_ge i d with h2 | h2
    · exact h2
    exfalso
    have hil : i < l.length := (List.getElem?_eq_some_iff.1 hx).1
    obtain ⟨y, hy⟩ : ∃ y, l[d]? = some y := ⟨_, List.getElem?_eq_getElem (by omega)⟩
    have hn := tw_eq (fun x => Tk.dueB x.1 now) l y (by rw [hd]; exact hy)
    have hle : y.1 ≤ x.1 := by
      rcases Nat.eq_or_lt_of_le h2 with e | e
      · subst e; rw [hx] at hy; injection hy with hy; rw [hy]; exact Int.le_refl _
      · have hp := List.pairwise_iff_getElem.1 ok.srt d i (by omega) hil e
        rw [List.getElem?_eq_getElem (by omega)] at hx hy
        injection hx with hx; injection hy with hy
        rw [hx, hy, cmp_lt] at hp
        omega
    have hyr := (ok.rng y (List.mem_of_getElem? hy)).2.2.2
    have := due_mono hle (by omega) h
    rw [this] at hn; cases hn
theorem at_drop {k : Nat} {l : List (Int × Int)} (ok : He.ok k l) {now : Int} {d : Nat} (hd : (l.takeWhile (fun x => Tk.dueB x.1 now)).length = d) (ok2 : He.ok k (l.drop d)) (j : Int) : He.at (l.drop d) j = if Tk.dueB (He.at l j) now = true then 9223372036854775807 else He.at l j := by
  by_cases hn : He.at l j = 9223372036854775807
  · have h1 : He.at (l.drop d) j = 9223372036854775807 := at_none fun t ht => at_no ok hn t (List.mem_of_mem_drop ht)
    rw [h1, hn]; split <;> rfl
  · have hm := at_is hn
    obtain ⟨i, hi⟩ := List.mem_iff_getElem?.1 hm
    have hdi := due_idx ok hd hi
    dsimp only at hdi
    by_cases hdue : Tk.dueB (He.at l j) now = true
    · rw [if_pos hdue]
      refine at_none fun t ht => ?_
      obtain ⟨i2, hi2⟩ := List.mem_iff_getElem?.1 ht
      rw [List.getElem?_drop] at hi2
      have e := He.ok.uniq ok.nod (List.mem_of_getElem? hi2) hm
      subst e
      have := (due_idx ok hd hi2).2 hdue
      omega
    · rw [if_neg hdue]
      refine at_mem ok2.nod ?_
      have : ¬ i < d := fun h => hdue (hdi.1 h)
      exact List.mem_of_getElem? (by rw [List.getElem?_drop, show d + (i - d) = i by omega]; exact hi)
theorem due_again {k : Nat} {l : List (Int × Int)} (ok : He.ok k l) {now : Int} {d : Nat} (hd : (l.takeWhile (fun x => Tk.dueB x.1 now)).length = d) : ((l.drop d).takeWhile (fun x => Tk.dueB x.1 now)).length = 0 := by
  cases hl : l.drop d with
  | nil => rfl
  | cons a r =>
    have ha : l[d]? = some a := by
      have : (l.drop d)[0]? = some a := by rw [hl]; rfl
      rw [List.getElem?_drop] at this; simpa using this
    have := tw_eq (fun x => Tk.dueB x.1 now) l a (by rw [hd]; exact ha)
    rw [List.takeWhile_cons_of_neg (by rw [this]; simp)]; rfl
theorem due_own {a n : Int} (h : a ≤ 9223372036854775807) (ha : a ≠ 9223372036854775807) : Tk.dueB (Tk.own a) n = Tk.dueB a n := by
  have h2 : Tk.own a ≠ 9223372036854775807 := fun e => ha ((own_nev h).1 e)
  unfold Tk.dueB
  rw [Tk.own_own]
  simp [ha, h2]
end Go.Proofs.Ytbdjcppkfihonaa
