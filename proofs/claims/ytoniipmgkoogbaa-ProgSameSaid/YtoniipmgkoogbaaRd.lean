/- How a slice of structs of one-cell fields is opened, whatever the fields are (slices too): each field's cell as it reads in memory, its own reading kept. Nothing of the program. -/
import Derived.Test.YtoniipmgkoogbaaMix
namespace Go.Proofs.Ytoniipmgkoogbaa
open Go.Joins Go.ChangeShapes Go.WideShapes Go.ChangeAt Go.RowKit Go.Deep
set_option linter.unusedSimpArgs false
set_option linter.unusedVariables false

/-- A value that reads as type t in world w. -/
def RdAt (P : Program) (w : World) (t : TypeId) (v : Value) : Prop := ∃ (H : Type) (enc : TypeId × Value → H) (base : Nat) (held : Bool) (n : Nat) (y : DataW H × List MemPlace), DataW.trod enc P w base (fun _ => true) held n t [v] = some y
/-- A slice of structs of one-cell fields. -/
def IsAny (P : Program) (ts : List TypeId) (w : World) (a : Option Addr) (len cap : Nat) : Prop :=
  len ≤ cap ∧ cap ≤ maxLen ∧ (a = none → len = 0 ∧ cap = 0) ∧
  (0 < len → ∃ b off, a = some ⟨b, off, none⟩ ∧ b < w.heap.size ∧ ∀ i, i < len → ∀ j t, ts[j]? = some t → ∃ v, w.cell? ⟨b, off + (i * ts.length + j), none⟩ = some v ∧ RdAt P w t v)
theorem rd_int {P : Program} {w : World} {t : TypeId} {v : Value} {k : IntKind} (hu : P.underlying t = some (.int k)) (h : RdAt P w t v) : ∃ z, v = .int k z ∧ (Lit.int k z).wf = true := by
  obtain ⟨H, enc, base, held, n, y, h⟩ := h
  exact fld_int hu h
theorem rd_string {P : Program} {w : World} {t : TypeId} {v : Value} (hu : P.underlying t = some .string) (h : RdAt P w t v) : ∃ s, v = .string s ∧ s.size ≤ maxLen := by
  obtain ⟨H, enc, base, held, n, y, h⟩ := h
  exact fld_string hu h
section
variable {H : Type} {enc : TypeId × Value → H} {P : Program} {w : World} {base : Nat} {spare : Nat → Bool} {held : Bool}
theorem fld_any {t e : TypeId} {fs : Array Field} {v : Value} {n : Nat} {y : DataW H × List MemPlace} (ts : List TypeId) (ht : P.underlying t = some (.slice e)) (he : P.underlying e = some (.struct fs))
    (hone : oneCellFields P fs = true) (hC : P.cellsOf e = fs.size) (hts : fs.toList.map (·.type) = ts) (hf0 : 0 < fs.size)
    (h : DataW.trod enc P w base (fun _ => true) held n t [v] = some y) : ∃ a len cap, v = .slice a len cap ∧ IsAny P ts w a len cap := by
  have hlen : ts.length = fs.size := by rw [← hts]; simp
  rcases open_slice ht h with ⟨hcs, _⟩ | ⟨a, len, cap, m, n', D, Pl, hcs, hb, hl, hm, hmm, hx, hi⟩
  · exact ⟨none, 0, 0, by simpa using hcs, Nat.le_refl _, Nat.zero_le _, fun _ => ⟨rfl, rfl⟩, fun h => by omega⟩
  · have hlm : len ≤ m := by rw [hmm]; split <;> omega
    have cellAt : ∀ i, i < len → ∀ j t, ts[j]? = some t → ∃ v, w.cell? (a.add (i * ts.length + j)) = some v ∧ RdAt P w t v := by
      intro i hil j t hjt
      have hj : j < fs.size := by rw [← hlen]; exact (List.getElem?_eq_some_iff.1 hjt).1
      obtain ⟨cs', hc, ht'⟩ := hi i (by omega)
      rw [hC] at hc
      obtain ⟨ys, n2, hn2, hy, hlen', hyl, hf⟩ := DataW.trod_struct he ht'
      obtain ⟨_, hcl, hat⟩ := World.cells?_some hc
      have hfj : fs[j]? = some fs[j] := Array.getElem?_eq_getElem hj
      have htj : fs[j].type = t := by
        rw [← hts, List.getElem?_map] at hjt
        simp [hj] at hjt
        exact hjt
      obtain ⟨ho, hk1⟩ := hone_of hone j fs[j] hfj
      have hcell := hat j hj
      have hv : cs'[j]? = some (cs'[j]'(by omega)) := List.getElem?_eq_getElem (by omega)
      have h1 := hf j fs[j] hfj
      rw [ho, hk1] at h1
      have hone' : (cs'.drop j).take 1 = [cs'[j]'(by omega)] := by
        rw [List.drop_eq_getElem_cons (by omega)]; rfl
      rw [hone'] at h1
      have hys : ys[j]? = some (ys[j]'(by omega)) := List.getElem?_eq_getElem (by omega)
      have h2 := h1.trans hys
      rw [htj] at h2
      refine ⟨cs'[j]'(by omega), ?_, H, enc, _, _, _, _, h2⟩
      rw [hlen, ← Go.Deep.add_add, hcell, hv]
    refine ⟨some a, len, cap, by simpa using hcs, hl, hm, (fun h => nomatch h), fun h0 => ?_⟩
    obtain ⟨b, off, spot⟩ := a
    obtain ⟨z0, c0, _⟩ := cellAt 0 h0 0 (ts[0]'(by omega)) (List.getElem?_eq_getElem (by omega))
    have hs : spot = none := by simpa [Addr.add] using World.cell?_spot c0
    subst hs
    have hb := World.block_lt_of_cell? _ _ c0
    refine ⟨b, off, rfl, by simpa [Addr.add] using hb, fun i hi j t hj => ?_⟩
    obtain ⟨z, cz, wz⟩ := cellAt i hi j t hj
    refine ⟨z, ?_, wz⟩
    have e : (({ block := b, off := off, spot := none } : Addr).add (i * ts.length + j)) = ⟨b, off + (i * ts.length + j), none⟩ := by simp [Addr.add]
    rw [e] at cz
    exact cz
end
theorem rd_strs {P : Program} {w : World} {t e : TypeId} {v : Value} (ht : P.underlying t = some (.slice e)) (he : P.underlying e = some .string) (hC : P.cellsOf e = 1) (h : RdAt P w t v) : ∃ a len cap z, v = .slice a len cap ∧ IsStrs w a len cap z := by
  obtain ⟨H, enc, base, held, n, y, h⟩ := h
  exact fld_strs ht he hC h
theorem rd_any {P : Program} {w : World} {t e : TypeId} {fs : Array Field} {v : Value} (ts : List TypeId) (ht : P.underlying t = some (.slice e)) (he : P.underlying e = some (.struct fs))
    (hone : oneCellFields P fs = true) (hC : P.cellsOf e = fs.size) (hts : fs.toList.map (·.type) = ts) (hf0 : 0 < fs.size) (h : RdAt P w t v) : ∃ a len cap, v = .slice a len cap ∧ IsAny P ts w a len cap := by
  obtain ⟨H, enc, base, held, n, y, h⟩ := h
  exact fld_any ts ht he hone hC hts hf0 h
end Go.Proofs.Ytoniipmgkoogbaa
