/- Heap: entries as cells; a copy. -/
import Derived.Test.YtbdjcppkfihonaaHe3
import Derived.Shelf.SlicesE.Clone
import Derived.Lib.OwnBridge
import Derived.WalkKit
import Derived.ProofKit
import Derived.Handy
import Derived.WalkLawsBesides
import Derived.WalkSpells
import Derived.Lib.Hide
import Derived.RegionTactic
import Derived.ChangeAlike
import Derived.WalkSmall
import Derived.Deep.QuietTactic
import Derived.BigQuiet
import Derived.OwnWalk
import Derived.Outline
import Derived.Deep.CutRange
import Derived.Deep.CutBlock
import Derived.LoopTactic
namespace Go.Proofs.Ytbdjcppkfihonaa
open Go.ChangeShapes Go.WideShapes Go.ChangeAt Go.RowKit
set_option linter.unusedSimpArgs false
set_option linter.unusedVariables false

open Go.Shelf
def cloneE_ren : Go.Shelf.Ren := ⟨fun | 41 => 59 | n => n, fun | 22 => 25 | 23 => 38 | 3 => 3 | 4 => 4 | 0 => 0 | n => n, fun | n => n⟩
theorem cloneE : Go.Proofs.SlLaysE0.n41 Try.prog cloneE_ren := {
  mixed := by kernel_rfl
  f41 := ⟨Try.f59.name, by decide, Try.func59.trans (congrArg some (by kernel_rfl))⟩
  t4 := Try.underlying4
  a4 := Try.isAgg4
  z4 := Try.sizeOf4
  v4 := Try.zeroValue4
  t22 := Try.underlying25
  a22 := Try.isAgg25
  z22 := Try.sizeOf25
  v22 := Try.zeroValue25 }
theorem infoE : (Try.prog.info? 38).map (fun i => (i.zero, i.size, i.bytes)) = some (some (.agg #[.int .i64 0, .int .i64 0]), 2, 16) := by kernel_rfl
theorem info_splitE {P : Program} {e : TypeId} {z : Value} {a b : Nat} (h : (P.info? e).map (fun i => (i.zero, i.size, i.bytes)) = some (some z, a, b)) : ∃ i, P.info? e = some i ∧ i.zero = some z ∧ i.size = a ∧ i.bytes = b := by
  obtain ⟨i, h1, h2⟩ := Option.map_eq_some_iff.1 h
  simp only [Prod.mk.injEq] at h2
  exact ⟨i, h1, h2.1, h2.2.1, h2.2.2⟩
/-- The cells of entries. -/
def es (l : List (Int × Int)) : List Value := l.flatMap fun x => [.int .i64 x.1, .int .i64 x.2]
theorem es_length (l : List (Int × Int)) : (es l).length = l.length * 2 := by
  induction l with
  | nil => rfl
  | cons a r ih => rw [es, List.flatMap_cons, List.length_append, ← es, ih]; simp; omega
theorem es_snoc (l : List (Int × Int)) (a b : Int) : es (l ++ [(a, b)]) = es l ++ [.int .i64 a, .int .i64 b] := by simp [es]
theorem es_one (l : List (Int × Int)) : ∀ v ∈ es l, v.oneCell' = true := by
  intro v hv
  simp only [es, List.mem_flatMap] at hv
  obtain ⟨x, _, hx⟩ := hv
  simp at hx
  rcases hx with rfl | rfl <;> rfl
theorem es_get : ∀ (l : List (Int × Int)) (j : Nat) (a b : Int), l[j]? = some (a, b) → (es l)[j * 2]? = some (.int .i64 a) ∧ (es l)[j * 2 + 1]? = some (.int .i64 b)
  | [], _, _, _, h => by simp at h
  | x :: r, 0, a, b, h => by
    simp at h; subst h
    exact ⟨rfl, rfl⟩
  | x :: r, j + 1, a, b, h => by
    have ih := es_get r j a b (by simpa using h)
    have e : es (x :: r) = [.int .i64 x.1, .int .i64 x.2] ++ es r := by simp [es]
    rw [e, List.getElem?_append_right (by simp; omega), List.getElem?_append_right (by simp; omega), show (j + 1) * 2 - [Value.int .i64 x.1, Value.int .i64 x.2].length = j * 2 by simp; omega, show (j + 1) * 2 + 1 - [Value.int .i64 x.1, Value.int .i64 x.2].length = j * 2 + 1 by simp; omega]
    exact ih
theorem ER.of_blk {w : World} {g : Nat} {l : List (Int × Int)} {cs : List Value} {T : TypeId} (h : Blk w g cs T) (hc : cs.take (l.length * 2) = es l) : ER w (some ⟨g, 0, none⟩) l := by
  refine Or.inr ⟨g, rfl, h.lt, fun j a b hj => ?_⟩
  obtain ⟨e1, e2⟩ := es_get l j a b hj
  rw [← hc] at e1 e2
  have f : ∀ (i : Nat) (v : Value), (cs.take (l.length * 2))[i]? = some v → cs[i]? = some v := fun i v hv => by
    rw [List.getElem?_take] at hv
    split at hv
    · exact hv
    · cases hv
  exact ⟨h.cell (f _ _ e1), h.cell (f _ _ e2)⟩
theorem he_clone (l : List (Int × Int)) (n g c : Nat) (hn : l.length = n) (hn6 : n ≤ 1000000) (w : World) (hcell : ∀ j u, (es l)[j]? = some u → w.cell? ⟨g, 0 + j, none⟩ = some u) :
    Calls Try.prog 59 #[.slice (some ⟨g, 0, none⟩) n c] w fun e w' => ∃ g' c', e = .returned (.slice (some ⟨g', 0, none⟩) n c') ∧ ER w' (some ⟨g', 0, none⟩) l ∧ w.heap.size ≤ g' ∧ Below w.heap.size w w' := by
  obtain ⟨i0, hi, hz0, hz1, hz2⟩ := info_splitE infoE
  have hc := AnyE.slices_Clone cloneE i0 _ 2 16 hi hz0 hz1 hz2 rfl (by decide) Try.sizeOf38 g 0 n c (es l) w (by rw [es_length]; omega) (by unfold maxLen; omega) (by omega) hcell (es_one l)
  refine Calls.mono (hc : Calls Try.prog 59 _ _ _) ?_
  rintro e w' ⟨v', rfl, h1, h2, h3⟩
  rcases h1.2 with ⟨k1, k2⟩ | ⟨g', cap, cur, k1, k2, k3, k4, k5, k6, k7⟩
  · exact absurd k1 h2
  · exact ⟨g', cap, by rw [k1], ER.of_blk (cs := cur.toList) (T := 38) (by unfold Blk; exact k3) (by rw [hn]; exact k7), k2, h3⟩
end Go.Proofs.Ytbdjcppkfihonaa
