/- How the arguments of a statement are opened: an integer, a text, a slice of integers or of texts, and a struct of such, each as it reads in memory. Nothing of the program. -/
import Derived.Test.YtfhhkmjjifbfeaaGreatDoorRows
import Derived.WalkKit
import Derived.ProofKit
import Derived.OpenShut
import Derived.Handy
import Derived.Lib.SmallJoins
import Derived.SliceStrings
import Derived.Deep.Slices
import Derived.Deep.Fields
import Derived.ChangeSame
namespace Go.Proofs.YtfhhkmjjifbfeaaGreatDoor
open Go.Joins Go.ChangeShapes Go.WideShapes Go.ChangeAt Go.RowKit Go.Deep
set_option linter.unusedSimpArgs false
set_option linter.unusedVariables false

theorem laidOut : laidOutB Tryz.prog = true := by kernel_rfl
theorem ownKn : ownKnob Tryz.prog.godebug = none := by kernel_rfl

/-- A slice of integers that came in: where it has elements, they lie in a row of cells. -/
def IsRow (k : IntKind) (w : World) (a : Option Addr) (len cap : Nat) (zs : List Int) : Prop :=
  zs.length = len ∧ len ≤ cap ∧ cap ≤ maxLen ∧ (a = none → len = 0 ∧ cap = 0) ∧ (∀ n ∈ zs, (Lit.int k n).wf = true) ∧
  (0 < len → ∃ b off, a = some ⟨b, off, none⟩ ∧ b < w.heap.size ∧ ∀ i, i < len → w.cell? ⟨b, off + i, none⟩ = some (.int k (zs.getD i 0)))
/-- A slice of texts that came in. -/
def IsStrs (w : World) (a : Option Addr) (len cap : Nat) (ss : List ByteArray) : Prop :=
  ss.length = len ∧ len ≤ cap ∧ cap ≤ maxLen ∧ (a = none → len = 0 ∧ cap = 0) ∧ (∀ s ∈ ss, s.size ≤ maxLen) ∧
  (0 < len → ∃ b off, a = some ⟨b, off, none⟩ ∧ b < w.heap.size ∧ ∀ i, i < len → w.cell? ⟨b, off + i, none⟩ = some (.string (ss.getD i ByteArray.empty)))

/-- A slice of structs of nf integers that came in: where it has elements, every field's cell holds an integer. -/
def IsRecs (k : IntKind) (nf : Nat) (w : World) (a : Option Addr) (len cap : Nat) : Prop :=
  len ≤ cap ∧ cap ≤ maxLen ∧ (a = none → len = 0 ∧ cap = 0) ∧
  (0 < len → ∃ b off, a = some ⟨b, off, none⟩ ∧ b < w.heap.size ∧ ∀ i, i < len → ∀ j, j < nf → ∃ v : Int, w.cell? ⟨b, off + (i * nf + j), none⟩ = some (.int k v) ∧ (Lit.int k v).wf = true)

section
variable {H : Type} {enc : TypeId × Value → H} {P : Program} {w : World} {base : Nat} {spare : Nat → Bool} {held : Bool}
theorem fld_int {t : TypeId} {k : IntKind} {v : Value} {n : Nat} {y : DataW H × List MemPlace} (hu : P.underlying t = some (.int k)) (h : DataW.trod enc P w base spare held n t [v] = some y) :
    ∃ a, v = .int k a ∧ (Lit.int k a).wf = true := by
  obtain ⟨a, e, _, wf⟩ := DataW.trod_int hu h
  exact ⟨a, by simpa using e, wf⟩
theorem fld_bool {t : TypeId} {v : Value} {n : Nat} {y : DataW H × List MemPlace} (hu : P.underlying t = some .bool) (h : DataW.trod enc P w base spare held n t [v] = some y) :
    ∃ a, v = .bool a := by
  obtain ⟨a, e, _⟩ := DataW.trod_bool hu h
  exact ⟨a, by simpa using e⟩
theorem fld_string {t : TypeId} {v : Value} {n : Nat} {y : DataW H × List MemPlace} (hu : P.underlying t = some .string) (h : DataW.trod enc P w base spare held n t [v] = some y) :
    ∃ a, v = .string a ∧ a.size ≤ maxLen := by
  obtain ⟨a, e, _, hs⟩ := DataW.trod_string hu h
  exact ⟨a, by simpa using e, hs⟩
theorem fld_row {t e : TypeId} {k : IntKind} {v : Value} {n : Nat} {y : DataW H × List MemPlace} (ht : P.underlying t = some (.slice e)) (he : P.underlying e = some (.int k)) (hc : P.cellsOf e = 1)
    (h : DataW.trod enc P w base (fun _ => true) held n t [v] = some y) : ∃ a len cap zs, v = .slice a len cap ∧ IsRow k w a len cap zs := by
  rcases open_ints ht he hc h with ⟨hcs, _⟩ | ⟨x, l, c, zs, hcs, _, hl, hm, hz, hx, hcell, hwz⟩
  · exact ⟨none, 0, 0, [], by simpa using hcs, rfl, Nat.le_refl _, Nat.zero_le _, fun _ => ⟨rfl, rfl⟩, by simp, fun h => by omega⟩
  · simp at hz
    refine ⟨some x, l, c, zs.take l, by simpa using hcs, by simp; omega, hl, hm, (fun h => nomatch h), fun n hn => hwz n (List.mem_of_mem_take hn), fun h0 => ?_⟩
    obtain ⟨b, off, spot⟩ := x
    have c0 := hcell 0 (by omega)
    have hs : spot = none := by simpa [Addr.add] using World.cell?_spot c0
    subst hs
    have hb := World.block_lt_of_cell? _ _ c0
    refine ⟨b, off, rfl, by simpa [Addr.add] using hb, fun i hi => ?_⟩
    have := hcell i (by omega)
    have e : (if i = 0 then ({ block := b, off := off } : Addr) else { block := b, off := off + i }) = ⟨b, off + i, none⟩ := by split <;> simp_all
    simp only [Addr.add] at this
    simpa [List.getD, List.getElem?_take, hi, e] using this
theorem fld_strs {t e : TypeId} {v : Value} {n : Nat} {y : DataW H × List MemPlace} (ht : P.underlying t = some (.slice e)) (he : P.underlying e = some .string) (hc : P.cellsOf e = 1)
    (h : DataW.trod enc P w base (fun _ => true) held n t [v] = some y) : ∃ a len cap ss, v = .slice a len cap ∧ IsStrs w a len cap ss := by
  rcases open_strings ht he hc h with ⟨hcs, _⟩ | ⟨x, l, c, zs, hcs, _, hl, hm, hz, hx, hcell, hwz⟩
  · exact ⟨none, 0, 0, [], by simpa using hcs, rfl, Nat.le_refl _, Nat.zero_le _, fun _ => ⟨rfl, rfl⟩, by simp, fun h => by omega⟩
  · simp at hz
    refine ⟨some x, l, c, zs.take l, by simpa using hcs, by simp; omega, hl, hm, (fun h => nomatch h), fun n hn => hwz n (List.mem_of_mem_take hn), fun h0 => ?_⟩
    obtain ⟨b, off, spot⟩ := x
    have c0 := hcell 0 (by omega)
    have hs : spot = none := by simpa [Addr.add] using World.cell?_spot c0
    subst hs
    have hb := World.block_lt_of_cell? _ _ c0
    refine ⟨b, off, rfl, by simpa [Addr.add] using hb, fun i hi => ?_⟩
    have := hcell i (by omega)
    have e : (if i = 0 then ({ block := b, off := off } : Addr) else { block := b, off := off + i }) = ⟨b, off + i, none⟩ := by split <;> simp_all
    simp only [Addr.add] at this
    simpa [List.getD, List.getElem?_take, hi, e] using this
theorem fld_recs {t e : TypeId} {fs : Array Field} {k : IntKind} {v : Value} {n : Nat} {y : DataW H × List MemPlace} (ht : P.underlying t = some (.slice e)) (he : P.underlying e = some (.struct fs))
    (hone : oneCellFields P fs = true) (hC : P.cellsOf e = fs.size) (hk : ∀ (j : Nat) (f : Field), fs[j]? = some f → P.underlying f.type = some (.int k)) (hf0 : 0 < fs.size)
    (h : DataW.trod enc P w base (fun _ => true) held n t [v] = some y) : ∃ a len cap, v = .slice a len cap ∧ IsRecs k fs.size w a len cap := by
  rcases open_slice ht h with ⟨hcs, _⟩ | ⟨a, len, cap, m, n', D, Pl, hcs, hb, hl, hm, hmm, hx, hi⟩
  · exact ⟨none, 0, 0, by simpa using hcs, Nat.le_refl _, Nat.zero_le _, fun _ => ⟨rfl, rfl⟩, fun h => by omega⟩
  · have hlm : len ≤ m := by rw [hmm]; split <;> omega
    have cellAt : ∀ i, i < len → ∀ j, j < fs.size → ∃ z : Int, w.cell? (a.add (i * fs.size + j)) = some (.int k z) ∧ (Lit.int k z).wf = true := by
      intro i hil j hj
      obtain ⟨cs', hc, ht'⟩ := hi i (by omega)
      rw [hC] at hc
      obtain ⟨ys, n2, hn2, hy, hlen, hyl, hf⟩ := DataW.trod_struct he ht'
      obtain ⟨_, hcl, hat⟩ := World.cells?_some hc
      have hfj : fs[j]? = some fs[j] := Array.getElem?_eq_getElem hj
      obtain ⟨ho, hk1⟩ := hone_of hone j fs[j] hfj
      have hcell := hat j hj
      have hv : cs'[j]? = some (cs'[j]'(by omega)) := List.getElem?_eq_getElem (by omega)
      have h1 := hf j fs[j] hfj
      rw [ho, hk1] at h1
      have hone' : (cs'.drop j).take 1 = [cs'[j]'(by omega)] := by
        rw [List.drop_eq_getElem_cons (by omega)]; rfl
      rw [hone'] at h1
      have hys : ys[j]? = some (ys[j]'(by omega)) := List.getElem?_eq_getElem (by omega)
      obtain ⟨z, e1, _, wz⟩ := DataW.trod_int (hk j _ hfj) (h1.trans hys)
      refine ⟨z, ?_, wz⟩
      rw [← Go.Deep.add_add, hcell, hv]
      simpa using e1
    refine ⟨some a, len, cap, by simpa using hcs, hl, hm, (fun h => nomatch h), fun h0 => ?_⟩
    obtain ⟨b, off, spot⟩ := a
    obtain ⟨z0, c0, _⟩ := cellAt 0 h0 0 hf0
    have hs : spot = none := by simpa [Addr.add] using World.cell?_spot c0
    subst hs
    have hb := World.block_lt_of_cell? _ _ c0
    refine ⟨b, off, rfl, by simpa [Addr.add] using hb, fun i hi j hj => ?_⟩
    obtain ⟨z, cz, wz⟩ := cellAt i hi j hj
    refine ⟨z, ?_, wz⟩
    have e : (({ block := b, off := off, spot := none } : Addr).add (i * fs.size + j)) = ⟨b, off + (i * fs.size + j), none⟩ := by simp [Addr.add]
    rw [e] at cz
    exact cz
end
end Go.Proofs.YtfhhkmjjifbfeaaGreatDoor
