/- Ticks as texts: plain, count, Parse. -/
import Derived.Test.YtlofcccabdocgaaDoorTx1
import Derived.Test.YtlofcccabdocgaaDoorTkWalks
import Derived.Test.YtlofcccabdocgaaDoorBlk
import Derived.Lib.SliceRun
import Derived.Deep.RegionLaw
import Derived.RegionTactic
import Derived.ChangeAlike
import Derived.WalkSmall
import Derived.Deep.QuietTactic
import Derived.BigQuiet
import Derived.OwnWalk
import Derived.Outline
import Derived.Deep.CutRange
import Derived.Deep.CutBlock
import Derived.LoopTactic
import Derived.Lib.AppendStr
import Derived.Lib.SlBytesRow
namespace Go.Proofs.YtlofcccabdocgaaDoor
open Go.ChangeShapes Go.WideShapes Go.ChangeAt Go.RowKit
set_option linter.unusedSimpArgs false
set_option linter.unusedVariables false
theorem txn_full {G : ByteArray} (h : 0 < G.size) : G.toList.isEmpty = false := by
  rw [Lib.toList_data]
  cases hl : G.data.toList with
  | nil =>
    have h2 : G.data.toList.length = G.size := by simp
    rw [hl] at h2; simp at h2; omega
  | cons a r => rfl
theorem txn_list (s : ByteArray) (h : 0 < s.size) : s.data.toList = s[0] :: s.data.toList.drop 1 := by
  have hl : 0 < s.data.toList.length := by simpa using h
  exact List.drop_eq_getElem_cons hl
theorem txn_ne {s t : ByteArray} (h : ¬ s = t) : (s.toList == t.toList) = false := by
  rw [beq_eq_false_iff_ne]
  intro e
  rw [Lib.toList_data, Lib.toList_data] at e
  apply h
  cases s with | mk a => cases t with | mk b => congr 1; exact Array.ext' e
theorem txn_none {s : ByteArray} (h : ¬ 0 < s.size) : s = ⟨#[]⟩ := by
  have : s.data.size = 0 := by have : s.size = s.data.size := rfl; omega
  cases s with | mk d => simp at this; rw [this]
theorem Tx.head_one {l : List UInt8} (h : l.length = 1) : Tx.head l = true := by
  match l, h with
  | [_], _ => rfl
theorem Tx.head_two {l : List UInt8} {b : UInt8} (h : 1 < l.length) (hb : l[0]? = some b) : Tx.head l = !(b == 48) := by
  match l, h, hb with
  | c :: d :: r, _, hb => simp at hb; subst hb; rfl
theorem Tx.plain_all {l : List UInt8} (h : Tx.head l = true) (ha : ∀ (j : Nat) c, j < l.length → l[j]? = some c → Tx.dig c = true) : Tx.plain l = true := by
  unfold Tx.plain
  rw [h, Bool.true_and, List.all_eq_true]
  intro c hc
  obtain ⟨j, hj⟩ := List.mem_iff_getElem?.1 hc
  have hjl : j < l.length := by
    rcases Nat.lt_or_ge j l.length with h | h
    · exact h
    · rw [List.getElem?_eq_none h] at hj; cases hj
  exact ha j c hjl hj
theorem Tx.plain_not {l : List UInt8} {k : Nat} {b : UInt8} (h : l[k]? = some b) (hb : Tx.dig b = false) : Tx.plain l = false := by
  unfold Tx.plain
  rw [Bool.and_eq_false_iff]
  right
  rw [List.all_eq_false]
  exact ⟨b, List.mem_of_getElem? h, by rw [hb]; simp⟩
theorem Tx.plain_dig {l : List UInt8} (h : Tx.plain l = true) {k : Nat} {b : UInt8} (hb : l[k]? = some b) : 48 ≤ b.toNat ∧ b.toNat ≤ 57 := by
  unfold Tx.plain at h
  rw [Bool.and_eq_true, List.all_eq_true] at h
  have := h.2 b (List.mem_of_getElem? hb)
  unfold Tx.dig at this
  simpa using this
theorem byte48 {b : UInt8} : b.toNat = 48 ↔ b = 48 := ⟨fun h => by have e : UInt8.ofNat b.toNat = b := UInt8.ofNat_toNat; rw [← e, h]; rfl, fun h => by subst h; rfl⟩
end Go.Proofs.YtlofcccabdocgaaDoor
