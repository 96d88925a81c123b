/- Scripts: rows of ops of one's own. -/
import Derived.Test.YtoniipmgkoogbaaPg5
import Derived.Test.YtoniipmgkoogbaaRm
import Derived.Lib.SliceRun
import Derived.Deep.RegionLaw
import Derived.WalkKit
import Derived.ProofKit
import Derived.Handy
import Derived.WalkLawsBesides
import Derived.WalkSpells
import Derived.Lib.Hide
import Derived.RegionTactic
import Derived.ChangeAlike
import Derived.WalkSmall
import Derived.Deep.QuietTactic
import Derived.BigQuiet
import Derived.OwnWalk
import Derived.Outline
import Derived.Deep.CutRange
import Derived.Deep.CutBlock
import Derived.LoopTactic
namespace Go.Proofs.Ytoniipmgkoogbaa
open Go.ChangeShapes Go.WideShapes Go.ChangeAt Go.RowKit
set_option linter.unusedSimpArgs false
set_option linter.unusedVariables false


/-- The cells of an op, its arms at r (room for c). -/
def Pg.oc (t : Pg.Op × Option Addr × Nat) : List Value := [.int .i64 t.1.k, .string t.1.tx, .int .i64 t.1.n, .int .i64 t.1.to1, .slice t.2.1 t.1.ar.length t.2.2, .int .i64 t.1.ot, .int .i64 t.1.oe]
def pcs : List (Pg.Op × Option Addr × Nat) → List Value
  | [] => []
  | t :: l => Pg.oc t ++ pcs l
theorem pcs_snoc (l : List (Pg.Op × Option Addr × Nat)) (t : Pg.Op × Option Addr × Nat) : pcs (l ++ [t]) = pcs l ++ Pg.oc t := by
  induction l with
  | nil => simp [pcs]
  | cons a l ih => simp only [List.cons_append, pcs, ih, List.append_assoc]
theorem pcs_len : ∀ l : List (Pg.Op × Option Addr × Nat), (pcs l).length = l.length * 7
  | [] => rfl
  | t :: l => by simp only [pcs, List.length_append, pcs_len l, List.length_cons]; simp [Pg.oc]; omega
theorem pcs_at : ∀ (l : List (Pg.Op × Option Addr × Nat)) (i j : Nat) (t : Pg.Op × Option Addr × Nat), l[i]? = some t → j < 7 → (pcs l)[i * 7 + j]? = (Pg.oc t)[j]?
  | [], i, j, t, h, _ => by simp at h
  | a :: l, 0, j, t, h, hj => by
    simp at h
    subst h
    simp only [pcs]
    rw [List.getElem?_append_left (by simp [Pg.oc]; omega)]
    simp
  | a :: l, i + 1, j, t, h, hj => by
    simp only [pcs]
    rw [List.getElem?_append_right (by simp [Pg.oc]; omega)]
    have e : (i + 1) * 7 + j - (Pg.oc a).length = i * 7 + j := by simp [Pg.oc]; omega
    rw [e]
    exact pcs_at l i j t (by simpa using h) hj
theorem new_at (w : World) (cs : Array Value) (T : TypeId) (j : Nat) (u : Value) (hj : cs.toList[j]? = some u) : (w.alloc (.cells cs T)).cell? ((⟨w.heap.size, 0, none⟩ : Addr).add j) = some u := by
  have h := (Blk.newA w cs T).cell (i := j) hj
  have e : (⟨w.heap.size, 0, none⟩ : Addr).add j = ⟨w.heap.size, j, none⟩ := by
    by_cases h0 : j = 0
    · subst h0; simp [Addr.add]
    · simp [Addr.add, h0]
  rw [e]; exact h
theorem infoOp : (Try.prog.info? 27).map (fun i => (i.zero, i.size, i.bytes)) = some (some (.agg #[.int .i64 0, .string ByteArray.empty, .int .i64 0, .int .i64 0, .slice none 0 0, .int .i64 0, .int .i64 0]), 7, 80) := by kernel_rfl
theorem infoArm : (Try.prog.info? 38).map (fun i => (i.zero, i.size, i.bytes)) = some (some (.agg #[.string ByteArray.empty, .int .i64 0]), 2, 24) := by kernel_rfl
theorem oc_one (t : Pg.Op × Option Addr × Nat) : ∀ u ∈ Pg.oc t, u.oneCell' = true := by
  intro u hu
  simp [Pg.oc] at hu
  rcases hu with h | h | h | h | h | h | h <;> subst h <;> rfl
/-- A row of ops at the head of a block: its arms readable. -/
theorem ol_of {w : World} {g cap : Nat} {l : List (Pg.Op × Option Addr × Nat)} (h : Rn w g cap 7 (pcs l) 27) (hA : ∀ t ∈ l, t.1.tx.size ≤ maxLen ∧ t.1.ar.length ≤ maxLen ∧ AL w t.2.1 t.1.ar) : OL w (some ⟨g, 0, none⟩) (l.map (·.1)) := by
  intro i k tx n to1 ar ot oe hi
  rw [List.getElem?_map] at hi
  obtain ⟨⟨o, aa, ac⟩, ht, rfl⟩ := Option.map_eq_some_iff.1 hi
  have hm := hA _ (List.mem_of_getElem? ht)
  have at0 := fun j hj => pcs_at l i j _ ht hj
  refine ⟨hm.1, hm.2.1, g, 0, aa, ac, rfl, h.lt, ?_, ?_, ?_, ?_, ?_, ?_, ?_, hm.2.2⟩
  · rw [Nat.zero_add]; exact h.cell (at0 0 (by decide))
  · rw [Nat.zero_add]; exact h.cell (at0 1 (by decide))
  · rw [Nat.zero_add]; exact h.cell (at0 2 (by decide))
  · rw [Nat.zero_add]; exact h.cell (at0 3 (by decide))
  · rw [Nat.zero_add]; exact h.cell (at0 4 (by decide))
  · rw [Nat.zero_add]; exact h.cell (at0 5 (by decide))
  · rw [Nat.zero_add]; exact h.cell (at0 6 (by decide))
end Go.Proofs.Ytoniipmgkoogbaa
