/- Events: proj: lives; what is told of others. -/
import Derived.Test.YtdchedkhlfmpeaaDoorEv9
import Derived.WalkKit
import Derived.ProofKit
import Derived.Handy
import Derived.WalkLawsBesides
import Derived.WalkSpells
import Derived.Lib.Hide
import Derived.Lib.SliceRun
import Derived.Deep.RegionLaw
import Derived.RegionTactic
import Derived.ChangeAlike
import Derived.WalkSmall
import Derived.Deep.QuietTactic
import Derived.BigQuiet
import Derived.OwnWalk
import Derived.Outline
import Derived.Deep.CutRange
import Derived.Deep.CutBlock
import Derived.LoopTactic
namespace Go.Proofs.YtdchedkhlfmpeaaDoor
open Go.ChangeShapes Go.WideShapes Go.ChangeAt Go.RowKit
set_option linter.unusedSimpArgs false
set_option linter.unusedVariables false

/-- The life, the tick of the last round ahead being c. -/
def Pj.scan (id : Int) (c : Int) : List Ev → Option (Int × Int × List Ev)
  | [] => none
  | x :: L => if Pj.opens id x = true then some (x.n, c, Pj.told id (x :: L)) else Pj.scan id (if x.k = 1 then x.t else c) L
theorem clock_acc : ∀ (L : List Ev) (c : Int), L.foldl (fun c x => if x.k = 1 then x.t else c) c = (if L.any (fun x => x.k == 1) then Ev.clock L else c)
  | [], c => rfl
  | x :: L, c => by
    unfold Ev.clock
    rw [List.foldl_cons, clock_acc L, List.any_cons, List.foldl_cons, clock_acc L]
    by_cases h : x.k = 1
    · simp only [h, if_true, beq_self_eq_true, Bool.true_or]
    · have hb : (x.k == 1) = false := by simp [h]
      simp only [h, if_false, hb, Bool.false_or]
      split <;> simp [*]
theorem Pj.scan_find (id : Int) : ∀ (L : List Ev) (c : Int), Pj.scan id c L = match L.findIdx? (Pj.opens id) with
    | some j => some (((L[j]?).map Ev.n).getD 0, (L.take j).foldl (fun c x => if x.k = 1 then x.t else c) c, Pj.told id (L.drop j))
    | none => none
  | [], c => rfl
  | x :: L, c => by
    unfold Pj.scan
    rw [List.findIdx?_cons]
    cases h : Pj.opens id x with
    | true => simp
    | false =>
      simp only [Bool.false_eq_true, if_false]
      rw [Pj.scan_find id L]
      cases hh : L.findIdx? (Pj.opens id) with
      | none => rfl
      | some j => simp
theorem Pj.life_scan (id : Int) (L : List Ev) : Pj.life id L = Pj.scan id 0 L := by
  rw [Pj.scan_find]; rfl
theorem told_acc_filter (id : Int) (p : Ev → Bool) (hp : ∀ x, x.k = 7 ∨ x.i = id → p x = true) : ∀ (L T : List Ev), (L.filter p).foldl (Pj.step id) T = L.foldl (Pj.step id) T
  | [], T => rfl
  | x :: L, T => by
    cases h : p x with
    | true => rw [List.filter_cons_of_pos h, List.foldl_cons, List.foldl_cons]; exact told_acc_filter id p hp L _
    | false =>
      rw [List.filter_cons_of_neg (by rw [h]; simp), List.foldl_cons, told_acc_filter id p hp L]
      congr 1
      unfold Pj.step
      rw [if_neg]
      intro hx
      rw [hp x hx] at h
      cases h
/-- What is of others changes nothing. -/
theorem Pj.scan_filter (id : Int) (p : Ev → Bool) (hp : ∀ x, x.k = 7 ∨ x.i = id → p x = true) (h1 : ∀ x, x.k = 1 → p x = true) : ∀ (L : List Ev) (c : Int), Pj.scan id c (L.filter p) = Pj.scan id c L
  | [], c => rfl
  | x :: L, c => by
    cases h : p x with
    | true =>
      rw [List.filter_cons_of_pos h]
      unfold Pj.scan
      by_cases ho : Pj.opens id x = true
      · rw [if_pos ho, if_pos ho]
        congr 3
        unfold Pj.told
        rw [List.foldl_cons, List.foldl_cons]
        exact told_acc_filter id p hp L _
      · rw [if_neg ho, if_neg ho]
        exact Pj.scan_filter id p hp h1 L _
    | false =>
      rw [List.filter_cons_of_neg (by rw [h]; simp)]
      have hk : x.k ≠ 1 := fun e => by rw [h1 x e] at h; cases h
      have ho : ¬ Pj.opens id x = true := fun e => by
        unfold Pj.opens at e
        simp only [Bool.and_eq_true, beq_iff_eq] at e
        rw [hp x (Or.inr e.2)] at h; cases h
      rw [Pj.scan_filter id p hp h1 L c]
      conv => rhs; unfold Pj.scan
      rw [if_neg ho, if_neg hk]
/-- Of id, or of all. -/
def Pj.his (id : Int) (x : Ev) : Bool := x.i == id || x.k == 1 || x.k == 7
theorem Pj.life_his (id : Int) (L : List Ev) : Pj.life id (L.filter (Pj.his id)) = Pj.life id L := by
  rw [Pj.life_scan, Pj.life_scan]
  exact Pj.scan_filter id _ (fun x h => by unfold Pj.his; rcases h with h | h <;> simp [h]) (fun x h => by unfold Pj.his; simp [h]) L 0
theorem Pj.told_mem (id : Int) : ∀ (L T : List Ev), ∀ x ∈ L.foldl (Pj.step id) T, x ∈ T ∨ x ∈ L
  | [], T, x, h => Or.inl h
  | y :: L, T, x, h => by
    rw [List.foldl_cons] at h
    rcases Pj.told_mem id L _ x h with h | h
    · unfold Pj.step Pj.one at h
      split at h
      · split at h
        · rw [List.mem_append, List.mem_singleton] at h
          rcases h with h | h
          · exact Or.inl h
          · exact Or.inr (by simp [h])
        · exact Or.inl h
      · exact Or.inl h
    · exact Or.inr (by simp [h])
theorem Pj.told_ok {id : Int} {L : List Ev} (h : ∀ x ∈ L, x.ok) : ∀ x ∈ Pj.told id L, x.ok := fun x hx => by
  rcases Pj.told_mem id L [] x hx with h1 | h1
  · cases h1
  · exact h x h1
theorem Pj.life_ok {id : Int} {L : List Ev} (h : ∀ x ∈ L, x.ok) {sc fr : Int} {T : List Ev} (hl : Pj.life id L = some (sc, fr, T)) : (∀ x ∈ T, x.ok) ∧ T.length ≤ L.length := by
  obtain ⟨j, x, _, _, _, _, _, _, rfl⟩ := Pj.life_some hl
  exact ⟨Pj.told_ok (fun y hy => h y (List.mem_of_mem_drop hy)), Nat.le_trans (Pj.told_le id _).1 (by rw [List.length_drop]; omega)⟩
def lv31 : List Ev := [⟨1, 0, 0, 5, ⟨#[]⟩, 0, 0, 0, 0, 0, 0, 0⟩, ⟨2, 0, 0, 0, ⟨#[]⟩, 0, 0, 0, 0, 0, 0, 0⟩, ⟨4, 0, 2, 0, ⟨#[111, 107]⟩, 0, 0, 0, 0, 0, 0, 0⟩, ⟨8, 0, 0, 0, ⟨#[]⟩, 0, 5, 0, 1, 0, 0, 0⟩]
theorem lv31_ok : ∀ x ∈ lv31, x.ok := by
  unfold lv31
  exact by
    intro x hx
    simp only [List.mem_cons, List.not_mem_nil, or_false] at hx
    have mx : ∀ n : Nat, n ≤ 1000 → n ≤ maxLen := fun n h => by unfold maxLen; omega
    rcases hx with rfl | rfl | rfl | rfl
    all_goals
      refine ⟨mx _ (by decide), fun k z hz => ?_⟩
      simp only [Ev.c, List.mem_cons, List.not_mem_nil, or_false, Value.int.injEq, reduceCtorEq, false_or] at hz
      rcases hz with ⟨rfl, rfl⟩ | ⟨rfl, rfl⟩ | ⟨rfl, rfl⟩ | ⟨rfl, rfl⟩ | ⟨rfl, rfl⟩ | ⟨rfl, rfl⟩ | ⟨rfl, rfl⟩ | ⟨rfl, rfl⟩ | ⟨rfl, rfl⟩ | ⟨rfl, rfl⟩ | ⟨rfl, rfl⟩ <;> decide
theorem lv31_life : Pj.life 0 lv31 = some (0, 5, [⟨4, 0, 2, 0, ⟨#[111, 107]⟩, 0, 0, 0, 0, 0, 0, 0⟩, ⟨8, 0, 0, 0, ⟨#[]⟩, 0, 5, 0, 1, 0, 0, 0⟩]) := by kernel_rfl
end Go.Proofs.YtdchedkhlfmpeaaDoor
