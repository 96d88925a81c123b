/- How a slice of structs of integers, texts and bools is opened: each field's cell as it reads in memory. Nothing of the program. -/
import Derived.Test.YtoniipmgkoogbaaOpen
namespace Go.Proofs.Ytoniipmgkoogbaa
open Go.Joins Go.ChangeShapes Go.WideShapes Go.ChangeAt Go.RowKit Go.Deep
set_option linter.unusedSimpArgs false
set_option linter.unusedVariables false

/-- A type of one cell: an integer, a text or a bool. -/
def IsKT (P : Program) (t : TypeId) : Prop := (∃ k, P.underlying t = some (.int k)) ∨ P.underlying t = some .string ∨ P.underlying t = some .bool
/-- A value of such a type. -/
def IsK (P : Program) (t : TypeId) (v : Value) : Prop := (∃ k z, P.underlying t = some (.int k) ∧ v = .int k z ∧ (Lit.int k z).wf = true) ∨ (P.underlying t = some .string ∧ ∃ s, v = .string s ∧ s.size ≤ maxLen) ∨ (P.underlying t = some .bool ∧ ∃ b, v = .bool b)
/-- A slice of structs of fields of such types. -/
def IsMix (P : Program) (ts : List TypeId) (w : World) (a : Option Addr) (len cap : Nat) : Prop :=
  len ≤ cap ∧ cap ≤ maxLen ∧ (a = none → len = 0 ∧ cap = 0) ∧
  (0 < len → ∃ b off, a = some ⟨b, off, none⟩ ∧ b < w.heap.size ∧ ∀ i, i < len → ∀ j t, ts[j]? = some t → ∃ v, w.cell? ⟨b, off + (i * ts.length + j), none⟩ = some v ∧ IsK P t v)
theorem isK_int {P : Program} {t : TypeId} {v : Value} {k : IntKind} (hu : P.underlying t = some (.int k)) (h : IsK P t v) : ∃ z, v = .int k z ∧ (Lit.int k z).wf = true := by
  rcases h with ⟨k', z, hk, hv, hw⟩ | ⟨hk, _⟩ | ⟨hk, _⟩
  · rw [hu] at hk; cases hk; exact ⟨z, hv, hw⟩
  · rw [hu] at hk; cases hk
  · rw [hu] at hk; cases hk
theorem isK_string {P : Program} {t : TypeId} {v : Value} (hu : P.underlying t = some .string) (h : IsK P t v) : ∃ s, v = .string s ∧ s.size ≤ maxLen := by
  rcases h with ⟨k', z, hk, hv, hw⟩ | ⟨_, h⟩ | ⟨hk, _⟩
  · rw [hu] at hk; cases hk
  · exact h
  · rw [hu] at hk; cases hk
theorem isK_bool {P : Program} {t : TypeId} {v : Value} (hu : P.underlying t = some .bool) (h : IsK P t v) : ∃ b, v = .bool b := by
  rcases h with ⟨k', z, hk, hv, hw⟩ | ⟨hk, _⟩ | ⟨_, h⟩
  · rw [hu] at hk; cases hk
  · rw [hu] at hk; cases hk
  · exact h
section
variable {H : Type} {enc : TypeId × Value → H} {P : Program} {w : World} {base : Nat} {spare : Nat → Bool} {held : Bool}
theorem fld_mix {t e : TypeId} {fs : Array Field} {v : Value} {n : Nat} {y : DataW H × List MemPlace} (ts : List TypeId) (ht : P.underlying t = some (.slice e)) (he : P.underlying e = some (.struct fs))
    (hone : oneCellFields P fs = true) (hC : P.cellsOf e = fs.size) (hts : fs.toList.map (·.type) = ts) (hk : ∀ t ∈ ts, IsKT P t) (hf0 : 0 < fs.size)
    (h : DataW.trod enc P w base (fun _ => true) held n t [v] = some y) : ∃ a len cap, v = .slice a len cap ∧ IsMix P ts w a len cap := by
  have hlen : ts.length = fs.size := by rw [← hts]; simp
  rcases open_slice ht h with ⟨hcs, _⟩ | ⟨a, len, cap, m, n', D, Pl, hcs, hb, hl, hm, hmm, hx, hi⟩
  · exact ⟨none, 0, 0, by simpa using hcs, Nat.le_refl _, Nat.zero_le _, fun _ => ⟨rfl, rfl⟩, fun h => by omega⟩
  · have hlm : len ≤ m := by rw [hmm]; split <;> omega
    have cellAt : ∀ i, i < len → ∀ j t, ts[j]? = some t → ∃ v, w.cell? (a.add (i * ts.length + j)) = some v ∧ IsK P t v := by
      intro i hil j t hjt
      have hj : j < fs.size := by rw [← hlen]; exact (List.getElem?_eq_some_iff.1 hjt).1
      obtain ⟨cs', hc, ht'⟩ := hi i (by omega)
      rw [hC] at hc
      obtain ⟨ys, n2, hn2, hy, hlen', hyl, hf⟩ := DataW.trod_struct he ht'
      obtain ⟨_, hcl, hat⟩ := World.cells?_some hc
      have hfj : fs[j]? = some fs[j] := Array.getElem?_eq_getElem hj
      have htj : fs[j].type = t := by
        rw [← hts, List.getElem?_map] at hjt
        simp [hj] at hjt
        exact hjt
      obtain ⟨ho, hk1⟩ := hone_of hone j fs[j] hfj
      have hcell := hat j hj
      have hv : cs'[j]? = some (cs'[j]'(by omega)) := List.getElem?_eq_getElem (by omega)
      have h1 := hf j fs[j] hfj
      rw [ho, hk1] at h1
      have hone' : (cs'.drop j).take 1 = [cs'[j]'(by omega)] := by
        rw [List.drop_eq_getElem_cons (by omega)]; rfl
      rw [hone'] at h1
      have hys : ys[j]? = some (ys[j]'(by omega)) := List.getElem?_eq_getElem (by omega)
      have h2 := h1.trans hys
      rw [htj] at h2
      refine ⟨cs'[j]'(by omega), ?_, ?_⟩
      · rw [hlen, ← Go.Deep.add_add, hcell, hv]
      · rcases hk t (List.mem_of_getElem? hjt) with ⟨k, hu⟩ | hu | hu
        · obtain ⟨z, e1, _, wz⟩ := DataW.trod_int hu h2
          exact Or.inl ⟨k, z, hu, by simpa using e1, wz⟩
        · obtain ⟨s, e1, _, ws⟩ := DataW.trod_string hu h2
          exact Or.inr (Or.inl ⟨hu, s, by simpa using e1, ws⟩)
        · obtain ⟨s, e1, _⟩ := DataW.trod_bool hu h2
          exact Or.inr (Or.inr ⟨hu, s, by simpa using e1⟩)
    refine ⟨some a, len, cap, by simpa using hcs, hl, hm, (fun h => nomatch h), fun h0 => ?_⟩
    obtain ⟨b, off, spot⟩ := a
    obtain ⟨z0, c0, _⟩ := cellAt 0 h0 0 (ts[0]'(by omega)) (List.getElem?_eq_getElem (by omega))
    have hs : spot = none := by simpa [Addr.add] using World.cell?_spot c0
    subst hs
    have hb := World.block_lt_of_cell? _ _ c0
    refine ⟨b, off, rfl, by simpa [Addr.add] using hb, fun i hi j t hj => ?_⟩
    obtain ⟨z, cz, wz⟩ := cellAt i hi j t hj
    refine ⟨z, ?_, wz⟩
    have e : (({ block := b, off := off, spot := none } : Addr).add (i * ts.length + j)) = ⟨b, off + (i * ts.length + j), none⟩ := by simp [Addr.add]
    rw [e] at cz
    exact cz
end
end Go.Proofs.Ytoniipmgkoogbaa
