/- Several texts in one. -/
import Derived.Test.YtbdjcppkfihonaaGp12a
import Derived.Test.YtbdjcppkfihonaaGp12b
import Derived.Test.YtbdjcppkfihonaaGp12c
import Derived.Test.YtbdjcppkfihonaaOpen
import Derived.Test.YtbdjcppkfihonaaHdB
import Derived.Deep.RegionLaw
import Derived.WalkKit
import Derived.ProofKit
import Derived.Handy
import Derived.WalkLawsBesides
import Derived.WalkSpells
import Derived.Lib.Hide
import Derived.RegionTactic
import Derived.ChangeAlike
import Derived.WalkSmall
import Derived.Deep.QuietTactic
import Derived.BigQuiet
import Derived.OwnWalk
import Derived.Outline
import Derived.Deep.CutRange
import Derived.Deep.CutBlock
import Derived.LoopTactic
import Derived.Test.YtbdjcppkfihonaaHdC
import Derived.Test.YtbdjcppkfihonaaClass
import Derived.Deep.LoopGhost
import Derived.Test.YtbdjcppkfihonaaArC
import Derived.Lib.SliceRun
/- The document's Read of any text. -/
namespace Go.Proofs.Ytbdjcppkfihonaa
open Go.ChangeShapes Go.WideShapes Go.ChangeAt Go.RowKit
set_option linter.unusedSimpArgs false
set_option linter.unusedVariables false

set_option maxRecDepth 20000 in
set_option maxHeartbeats 4000000 in
theorem rp_none (w : World) :
    Calls Try.prog 94 #[.string { data := #[] }] w fun r w' => r = .returned (.tuple #[Cs.sv 0, .int .i64 0, .int .i64 3]) ∧ Below w.heap.size w w' := by
  obtain ⟨N, hN⟩ : ∃ N, ByteArray.size { data := #[] } = N := ⟨_, rfl⟩
  have HN : Hid (ByteArray.size { data := #[] } = N ∧ (if 0 = N then 3 else 2) = 3) := Lib.hid ⟨hN, by rw [← hN]; rfl⟩
  clear hN
  obtain ⟨R, hR⟩ : ∃ R, w.heap.size = R := ⟨_, rfl⟩
  have HR0 : Hid (w.heap.size = R) := Lib.hid hR
  have hc : Hid (SB (w.alloc (.cells #[.int .u64 0, .int .u64 0, .int .u64 0, .int .u64 0] 154)) R 0 ∧ Below w.heap.size w (w.alloc (.cells #[.int .u64 0, .int .u64 0, .int .u64 0, .int .u64 0] 154))) := Lib.hid ⟨by rw [← hR]; exact SB.zero w, (Below.refl _ _).alloc (Nat.le_refl _) _⟩
  go_enter Try.func94, Try.ntmps94
  go_upto_region 1 with fail
  revert hc
  generalize w.alloc (.cells #[.int .u64 0, .int .u64 0, .int .u64 0, .int .u64 0] 154) = W
  intro hc
  clear hR
  go_upto_region 2 with (go_at_call 102; refine (rf_none _).mono ?_; rintro e W1 ⟨g, cap, rfl, h1, h2, h3⟩; have HG : Hid (R < g) := Lib.hid (Nat.lt_of_lt_of_le hc.out.1.lt h1); have HB : Hid (SB W1 R 0 ∧ Rw W1 g cap (bl (fun _ => false) 256) 4 ∧ Below w.heap.size w W1) := Lib.hid ⟨hc.out.1.below h3, h2, hc.out.2.trans (h3.mono hc.out.2.size)⟩; clear h1 h2 h3 hc)
  go_wp2_with (go_at_call 103; with_reducible refine (rp_stopI { data := #[] } N 0 3 0 (by simp) HN.out.1 HN.out.2 _).mono ?_; rintro e W3 ⟨rfl, hb3⟩; unfold Cs.sv; have HC : Hid (SB W3 R 0 ∧ Below w.heap.size w W3) := Lib.hid ⟨HB.out.1.below hb3, HB.out.2.2.trans (hb3.mono HB.out.2.2.size)⟩; clear hb3; have d0 := HC.out.1.at (i := 0) (by decide); have d1 := HC.out.1.at (i := 1) (by decide); have d2 := HC.out.1.at (i := 2) (by decide); have d3 := HC.out.1.at (i := 3) (by decide); have df0 := HC.out.1.free 0; have df1 := HC.out.1.free 1; have df2 := HC.out.1.free 2; have df3 := HC.out.1.free 3)
  have hr := Lib.hid (HC.out.1.res HC.out.2 (by have := HR0.out; omega) 0)
  clear d0 d1 d2 d3 df0 df1 df2 df3 HC
  revert hr
  generalize (((W3.setCell ⟨R, 0, none⟩ (.int .u64 (Cs.wd 0 0))).setCell ⟨R, 1, none⟩ (.int .u64 (Cs.wd 0 1))).setCell ⟨R, 2, none⟩ (.int .u64 (Cs.wd 0 2))).setCell ⟨R, 3, none⟩ (.int .u64 (Cs.wd 0 3)) = W9
  intro hr
  have c0 := hr.out.1.at (i := 0) (by decide)
  have c1 := hr.out.1.at (i := 1) (by decide)
  have c2 := hr.out.1.at (i := 2) (by decide)
  have c3 := hr.out.1.at (i := 3) (by decide)
  refine bodyPost_ret (v := .tuple #[.agg #[.int .u64 (Cs.wd 0 0), .int .u64 (Cs.wd 0 1), .int .u64 (Cs.wd 0 2), .int .u64 (Cs.wd 0 3)], .int .i64 0, .int .i64 3]) (by simp [results, Try.results94, go_sem, c0, c1, c2, c3]) rfl ?_
  exact ⟨rfl, hr.out.2⟩
set_option maxRecDepth 20000 in
set_option maxHeartbeats 4000000 in
theorem rp_other (s : ByteArray) (N : Nat) (hN : s.size = N) (hN6 : N ≤ 1000000) (c0' : ∃ h : 0 < s.size, ((s[0].toNat : Int) == 91) = false) (w : World) :
    Calls Try.prog 94 #[.string s] w fun r w' => r = .returned (.tuple #[Cs.sv 0, .int .i64 0, .int .i64 2]) ∧ Below w.heap.size w w' := by
  obtain ⟨l0, c0⟩ := c0'
  have he := ne_empty s l0
  have HN : Hid (s.size = N ∧ (if 0 = N then 3 else 2) = 2) := Lib.hid ⟨hN, by rw [if_neg (by omega)]⟩
  obtain ⟨R, hR⟩ : ∃ R, w.heap.size = R := ⟨_, rfl⟩
  have HR0 : Hid (w.heap.size = R) := Lib.hid hR
  have hc : Hid (SB (w.alloc (.cells #[.int .u64 0, .int .u64 0, .int .u64 0, .int .u64 0] 154)) R 0 ∧ Below w.heap.size w (w.alloc (.cells #[.int .u64 0, .int .u64 0, .int .u64 0, .int .u64 0] 154))) := Lib.hid ⟨by rw [← hR]; exact SB.zero w, (Below.refl _ _).alloc (Nat.le_refl _) _⟩
  go_enter Try.func94, Try.ntmps94
  go_upto_region 1 with fail
  revert hc
  generalize w.alloc (.cells #[.int .u64 0, .int .u64 0, .int .u64 0, .int .u64 0] 154) = W
  intro hc
  clear hR
  go_upto_region 2 with (go_at_call 102; refine (rf_none _).mono ?_; rintro e W1 ⟨g, cap, rfl, h1, h2, h3⟩; have HG : Hid (R < g) := Lib.hid (Nat.lt_of_lt_of_le hc.out.1.lt h1); have HB : Hid (SB W1 R 0 ∧ Rw W1 g cap (bl (fun _ => false) 256) 4 ∧ Below w.heap.size w W1) := Lib.hid ⟨hc.out.1.below h3, h2, hc.out.2.trans (h3.mono hc.out.2.size)⟩; clear h1 h2 h3 hc)
  go_wp2_with (go_at_call 103; with_reducible refine (rp_stopI s N 0 2 0 (by simp) HN.out.1 HN.out.2 _).mono ?_; rintro e W3 ⟨rfl, hb3⟩; unfold Cs.sv; have HC : Hid (SB W3 R 0 ∧ Below w.heap.size w W3) := Lib.hid ⟨HB.out.1.below hb3, HB.out.2.2.trans (hb3.mono HB.out.2.2.size)⟩; clear hb3; have d0 := HC.out.1.at (i := 0) (by decide); have d1 := HC.out.1.at (i := 1) (by decide); have d2 := HC.out.1.at (i := 2) (by decide); have d3 := HC.out.1.at (i := 3) (by decide); have df0 := HC.out.1.free 0; have df1 := HC.out.1.free 1; have df2 := HC.out.1.free 2; have df3 := HC.out.1.free 3)
  have hr := Lib.hid (HC.out.1.res HC.out.2 (by have := HR0.out; omega) 0)
  clear d0 d1 d2 d3 df0 df1 df2 df3 HC
  revert hr
  generalize (((W3.setCell ⟨R, 0, none⟩ (.int .u64 (Cs.wd 0 0))).setCell ⟨R, 1, none⟩ (.int .u64 (Cs.wd 0 1))).setCell ⟨R, 2, none⟩ (.int .u64 (Cs.wd 0 2))).setCell ⟨R, 3, none⟩ (.int .u64 (Cs.wd 0 3)) = W9
  intro hr
  have c0 := hr.out.1.at (i := 0) (by decide)
  have c1 := hr.out.1.at (i := 1) (by decide)
  have c2 := hr.out.1.at (i := 2) (by decide)
  have c3 := hr.out.1.at (i := 3) (by decide)
  refine bodyPost_ret (v := .tuple #[.agg #[.int .u64 (Cs.wd 0 0), .int .u64 (Cs.wd 0 1), .int .u64 (Cs.wd 0 2), .int .u64 (Cs.wd 0 3)], .int .i64 0, .int .i64 2]) (by simp [results, Try.results94, go_sem, c0, c1, c2, c3]) rfl ?_
  exact ⟨rfl, hr.out.2⟩
theorem rp_rdC (s : ByteArray) (l : List UInt8) (hs : s.size ≤ 1000000) (h : s.data.toList = l) (X : BitVec 256) (n e : Nat) (hr : Cs.rdC l = (X, n, e)) (w : World) :
    Calls Try.prog 94 #[.string s] w fun r w' => r = .returned (.tuple #[Cs.sv X, .int .i64 n, .int .i64 e]) ∧ Below w.heap.size w w' := by
  match l, h, hr with
  | [], h, hr =>
    obtain rfl := empty_of h
    simp only [Cs.rdC, Prod.mk.injEq] at hr
    obtain ⟨rfl, rfl, rfl⟩ := hr
    exact rp_none w
  | b :: r, h, hr =>
    obtain ⟨l0, e0⟩ := at_of (i := 0) h rfl
    rw [rdC_cons] at hr
    have hN : s.size = r.length + 1 := by rw [size_of h]; rfl
    by_cases hb : b = 91
    · subst hb
      rw [if_neg (by simp)] at hr
      have c0 : (s[0].toNat : Int) = 91 := by rw [e0]; rfl
      by_cases hh : r.head? = some 94
      · rw [if_pos hh] at hr
        obtain ⟨r2, rfl⟩ : ∃ r2, r = 94 :: r2 := by
          cases r with
          | nil => simp at hh
          | cons x y => simp at hh; exact ⟨y, by rw [hh]⟩
        obtain ⟨l1, e1⟩ := at_of (i := 1) (b := 94) h rfl
        exact rp_two s (91 :: 94 :: r2) r2 s.size rfl hs h rfl _ X _ _ n e r2.length (by have : (94 :: r2 : List UInt8).length = r2.length + 1 := rfl; omega) rfl hr ⟨l0, c0⟩ (by omega) ⟨l1, by rw [e1]; rfl⟩ w
      · rw [if_neg hh] at hr
        by_cases h1 : 1 < s.size
        · refine rp_one2 s (91 :: r) r s.size rfl hs h rfl _ X _ _ n e r.length (by omega) rfl hr ⟨l0, c0⟩ h1 ⟨h1, ?_⟩ w
          rw [beq_eq_false_iff_ne]
          intro e
          apply hh
          have hb1 := byte_at h1
          rw [h, u8_eq (c := s[1]) (d := 94) e] at hb1
          rw [List.head?_eq_getElem?]
          simpa using hb1
        · exact rp_one1 s (91 :: r) r s.size rfl hs h rfl _ X _ _ n e r.length (by omega) rfl hr ⟨l0, c0⟩ (by omega) w
    · rw [if_pos hb] at hr
      simp only [Prod.mk.injEq] at hr
      obtain ⟨rfl, rfl, rfl⟩ := hr
      refine rp_other s s.size rfl hs ⟨l0, ?_⟩ w
      rw [beq_eq_false_iff_ne, e0]
      exact fun e => hb (u8_eq e)
end Go.Proofs.Ytbdjcppkfihonaa
/- How a slice of structs of integers, texts and bools is opened: each field's cell as it reads in memory. Nothing of the program. -/
namespace Go.Proofs.Ytbdjcppkfihonaa
open Go.Joins Go.ChangeShapes Go.WideShapes Go.ChangeAt Go.RowKit Go.Deep
set_option linter.unusedSimpArgs false
set_option linter.unusedVariables false

/-- A type of one cell: an integer, a text or a bool. -/
def IsKT (P : Program) (t : TypeId) : Prop := (∃ k, P.underlying t = some (.int k)) ∨ P.underlying t = some .string ∨ P.underlying t = some .bool
/-- A value of such a type. -/
def IsK (P : Program) (t : TypeId) (v : Value) : Prop := (∃ k z, P.underlying t = some (.int k) ∧ v = .int k z ∧ (Lit.int k z).wf = true) ∨ (P.underlying t = some .string ∧ ∃ s, v = .string s ∧ s.size ≤ maxLen) ∨ (P.underlying t = some .bool ∧ ∃ b, v = .bool b)
/-- A slice of structs of fields of such types. -/
def IsMix (P : Program) (ts : List TypeId) (w : World) (a : Option Addr) (len cap : Nat) : Prop :=
  len ≤ cap ∧ cap ≤ maxLen ∧ (a = none → len = 0 ∧ cap = 0) ∧
  (0 < len → ∃ b off, a = some ⟨b, off, none⟩ ∧ b < w.heap.size ∧ ∀ i, i < len → ∀ j t, ts[j]? = some t → ∃ v, w.cell? ⟨b, off + (i * ts.length + j), none⟩ = some v ∧ IsK P t v)
theorem isK_int {P : Program} {t : TypeId} {v : Value} {k : IntKind} (hu : P.underlying t = some (.int k)) (h : IsK P t v) : ∃ z, v = .int k z ∧ (Lit.int k z).wf = true := by
  rcases h with ⟨k', z, hk, hv, hw⟩ | ⟨hk, _⟩ | ⟨hk, _⟩
  · rw [hu] at hk; cases hk; exact ⟨z, hv, hw⟩
  · rw [hu] at hk; cases hk
  · rw [hu] at hk; cases hk
theorem isK_string {P : Program} {t : TypeId} {v : Value} (hu : P.underlying t = some .string) (h : IsK P t v) : ∃ s, v = .string s ∧ s.size ≤ maxLen := by
  rcases h with ⟨k', z, hk, hv, hw⟩ | ⟨_, h⟩ | ⟨hk, _⟩
  · rw [hu] at hk; cases hk
  · exact h
  · rw [hu] at hk; cases hk
theorem isK_bool {P : Program} {t : TypeId} {v : Value} (hu : P.underlying t = some .bool) (h : IsK P t v) : ∃ b, v = .bool b := by
  rcases h with ⟨k', z, hk, hv, hw⟩ | ⟨hk, _⟩ | ⟨_, h⟩
  · rw [hu] at hk; cases hk
  · rw [hu] at hk; cases hk
  · exact h
section
variable {H : Type} {enc : TypeId × Value → H} {P : Program} {w : World} {base : Nat} {spare : Nat → Bool} {held : Bool}
theorem fld_mix {t e : TypeId} {fs : Array Field} {v : Value} {n : Nat} {y : DataW H × List MemPlace} (ts : List TypeId) (ht : P.underlying t = some (.slice e)) (he : P.underlying e = some (.struct fs))
    (hone : oneCellFields P fs = true) (hC : P.cellsOf e = fs.size) (hts : fs.toList.map (·.type) = ts) (hk : ∀ t ∈ ts, IsKT P t) (hf0 : 0 < fs.size)
    (h : DataW.trod enc P w base (fun _ => true) held n t [v] = some y) : ∃ a len cap, v = .slice a len cap ∧ IsMix P ts w a len cap := by
  have hlen : ts.length = fs.size := by rw [← hts]; simp
  rcases open_slice ht h with ⟨hcs, _⟩ | ⟨a, len, cap, m, n', D, Pl, hcs, hb, hl, hm, hmm, hx, hi⟩
  · exact ⟨none, 0, 0, by simpa using hcs, Nat.le_refl _, Nat.zero_le _, fun _ => ⟨rfl, rfl⟩, fun h => by omega⟩
  · have hlm : len ≤ m := by rw [hmm]; split <;> omega
    have cellAt : ∀ i, i < len → ∀ j t, ts[j]? = some t → ∃ v, w.cell? (a.add (i * ts.length + j)) = some v ∧ IsK P t v := by
      intro i hil j t hjt
      have hj : j < fs.size := by rw [← hlen]; exact (List.getElem?_eq_some_iff.1 hjt).1
      obtain ⟨cs', hc, ht'⟩ := hi i (by omega)
      rw [hC] at hc
      obtain ⟨ys, n2, hn2, hy, hlen', hyl, hf⟩ := DataW.trod_struct he ht'
      obtain ⟨_, hcl, hat⟩ := World.cells?_some hc
      have hfj : fs[j]? = some fs[j] := Array.getElem?_eq_getElem hj
      have htj : fs[j].type = t := by
        rw [← hts, List.getElem?_map] at hjt
        simp [hj] at hjt
        exact hjt
      obtain ⟨ho, hk1⟩ := hone_of hone j fs[j] hfj
      have hcell := hat j hj
      have hv : cs'[j]? = some (cs'[j]'(by omega)) := List.getElem?_eq_getElem (by omega)
      have h1 := hf j fs[j] hfj
      rw [ho, hk1] at h1
      have hone' : (cs'.drop j).take 1 = [cs'[j]'(by omega)] := by
        rw [List.drop_eq_getElem_cons (by omega)]; rfl
      rw [hone'] at h1
      have hys : ys[j]? = some (ys[j]'(by omega)) := List.getElem?_eq_getElem (by omega)
      have h2 := h1.trans hys
      rw [htj] at h2
      refine ⟨cs'[j]'(by omega), ?_, ?_⟩
      · rw [hlen, ← Go.Deep.add_add, hcell, hv]
      · rcases hk t (List.mem_of_getElem? hjt) with ⟨k, hu⟩ | hu | hu
        · obtain ⟨z, e1, _, wz⟩ := DataW.trod_int hu h2
          exact Or.inl ⟨k, z, hu, by simpa using e1, wz⟩
        · obtain ⟨s, e1, _, ws⟩ := DataW.trod_string hu h2
          exact Or.inr (Or.inl ⟨hu, s, by simpa using e1, ws⟩)
        · obtain ⟨s, e1, _⟩ := DataW.trod_bool hu h2
          exact Or.inr (Or.inr ⟨hu, s, by simpa using e1⟩)
    refine ⟨some a, len, cap, by simpa using hcs, hl, hm, (fun h => nomatch h), fun h0 => ?_⟩
    obtain ⟨b, off, spot⟩ := a
    obtain ⟨z0, c0, _⟩ := cellAt 0 h0 0 (ts[0]'(by omega)) (List.getElem?_eq_getElem (by omega))
    have hs : spot = none := by simpa [Addr.add] using World.cell?_spot c0
    subst hs
    have hb := World.block_lt_of_cell? _ _ c0
    refine ⟨b, off, rfl, by simpa [Addr.add] using hb, fun i hi j t hj => ?_⟩
    obtain ⟨z, cz, wz⟩ := cellAt i hi j t hj
    refine ⟨z, ?_, wz⟩
    have e : (({ block := b, off := off, spot := none } : Addr).add (i * ts.length + j)) = ⟨b, off + (i * ts.length + j), none⟩ := by simp [Addr.add]
    rw [e] at cz
    exact cz
end
end Go.Proofs.Ytbdjcppkfihonaa
/- How a slice of structs of one-cell fields is opened, whatever the fields are (slices too): each field's cell as it reads in memory, its own reading kept. Nothing of the program. -/
namespace Go.Proofs.Ytbdjcppkfihonaa
open Go.Joins Go.ChangeShapes Go.WideShapes Go.ChangeAt Go.RowKit Go.Deep
set_option linter.unusedSimpArgs false
set_option linter.unusedVariables false

/-- A value that reads as type t in world w. -/
def RdAt (P : Program) (w : World) (t : TypeId) (v : Value) : Prop := ∃ (H : Type) (enc : TypeId × Value → H) (base : Nat) (held : Bool) (n : Nat) (y : DataW H × List MemPlace), DataW.trod enc P w base (fun _ => true) held n t [v] = some y
/-- A slice of structs of one-cell fields. -/
def IsAny (P : Program) (ts : List TypeId) (w : World) (a : Option Addr) (len cap : Nat) : Prop :=
  len ≤ cap ∧ cap ≤ maxLen ∧ (a = none → len = 0 ∧ cap = 0) ∧
  (0 < len → ∃ b off, a = some ⟨b, off, none⟩ ∧ b < w.heap.size ∧ ∀ i, i < len → ∀ j t, ts[j]? = some t → ∃ v, w.cell? ⟨b, off + (i * ts.length + j), none⟩ = some v ∧ RdAt P w t v)
theorem rd_int {P : Program} {w : World} {t : TypeId} {v : Value} {k : IntKind} (hu : P.underlying t = some (.int k)) (h : RdAt P w t v) : ∃ z, v = .int k z ∧ (Lit.int k z).wf = true := by
  obtain ⟨H, enc, base, held, n, y, h⟩ := h
  exact fld_int hu h
theorem rd_string {P : Program} {w : World} {t : TypeId} {v : Value} (hu : P.underlying t = some .string) (h : RdAt P w t v) : ∃ s, v = .string s ∧ s.size ≤ maxLen := by
  obtain ⟨H, enc, base, held, n, y, h⟩ := h
  exact fld_string hu h
section
variable {H : Type} {enc : TypeId × Value → H} {P : Program} {w : World} {base : Nat} {spare : Nat → Bool} {held : Bool}
theorem fld_any {t e : TypeId} {fs : Array Field} {v : Value} {n : Nat} {y : DataW H × List MemPlace} (ts : List TypeId) (ht : P.underlying t = some (.slice e)) (he : P.underlying e = some (.struct fs))
    (hone : oneCellFields P fs = true) (hC : P.cellsOf e = fs.size) (hts : fs.toList.map (·.type) = ts) (hf0 : 0 < fs.size)
    (h : DataW.trod enc P w base (fun _ => true) held n t [v] = some y) : ∃ a len cap, v = .slice a len cap ∧ IsAny P ts w a len cap := by
  have hlen : ts.length = fs.size := by rw [← hts]; simp
  rcases open_slice ht h with ⟨hcs, _⟩ | ⟨a, len, cap, m, n', D, Pl, hcs, hb, hl, hm, hmm, hx, hi⟩
  · exact ⟨none, 0, 0, by simpa using hcs, Nat.le_refl _, Nat.zero_le _, fun _ => ⟨rfl, rfl⟩, fun h => by omega⟩
  · have hlm : len ≤ m := by rw [hmm]; split <;> omega
    have cellAt : ∀ i, i < len → ∀ j t, ts[j]? = some t → ∃ v, w.cell? (a.add (i * ts.length + j)) = some v ∧ RdAt P w t v := by
      intro i hil j t hjt
      have hj : j < fs.size := by rw [← hlen]; exact (List.getElem?_eq_some_iff.1 hjt).1
      obtain ⟨cs', hc, ht'⟩ := hi i (by omega)
      rw [hC] at hc
      obtain ⟨ys, n2, hn2, hy, hlen', hyl, hf⟩ := DataW.trod_struct he ht'
      obtain ⟨_, hcl, hat⟩ := World.cells?_some hc
      have hfj : fs[j]? = some fs[j] := Array.getElem?_eq_getElem hj
      have htj : fs[j].type = t := by
        rw [← hts, List.getElem?_map] at hjt
        simp [hj] at hjt
        exact hjt
      obtain ⟨ho, hk1⟩ := hone_of hone j fs[j] hfj
      have hcell := hat j hj
      have hv : cs'[j]? = some (cs'[j]'(by omega)) := List.getElem?_eq_getElem (by omega)
      have h1 := hf j fs[j] hfj
      rw [ho, hk1] at h1
      have hone' : (cs'.drop j).take 1 = [cs'[j]'(by omega)] := by
        rw [List.drop_eq_getElem_cons (by omega)]; rfl
      rw [hone'] at h1
      have hys : ys[j]? = some (ys[j]'(by omega)) := List.getElem?_eq_getElem (by omega)
      have h2 := h1.trans hys
      rw [htj] at h2
      refine ⟨cs'[j]'(by omega), ?_, H, enc, _, _, _, _, h2⟩
      rw [hlen, ← Go.Deep.add_add, hcell, hv]
    refine ⟨some a, len, cap, by simpa using hcs, hl, hm, (fun h => nomatch h), fun h0 => ?_⟩
    obtain ⟨b, off, spot⟩ := a
    obtain ⟨z0, c0, _⟩ := cellAt 0 h0 0 (ts[0]'(by omega)) (List.getElem?_eq_getElem (by omega))
    have hs : spot = none := by simpa [Addr.add] using World.cell?_spot c0
    subst hs
    have hb := World.block_lt_of_cell? _ _ c0
    refine ⟨b, off, rfl, by simpa [Addr.add] using hb, fun i hi j t hj => ?_⟩
    obtain ⟨z, cz, wz⟩ := cellAt i hi j t hj
    refine ⟨z, ?_, wz⟩
    have e : (({ block := b, off := off, spot := none } : Addr).add (i * ts.length + j)) = ⟨b, off + (i * ts.length + j), none⟩ := by simp [Addr.add]
    rw [e] at cz
    exact cz
end
theorem rd_strs {P : Program} {w : World} {t e : TypeId} {v : Value} (ht : P.underlying t = some (.slice e)) (he : P.underlying e = some .string) (hC : P.cellsOf e = 1) (h : RdAt P w t v) : ∃ a len cap z, v = .slice a len cap ∧ IsStrs w a len cap z := by
  obtain ⟨H, enc, base, held, n, y, h⟩ := h
  exact fld_strs ht he hC h
theorem rd_any {P : Program} {w : World} {t e : TypeId} {fs : Array Field} {v : Value} (ts : List TypeId) (ht : P.underlying t = some (.slice e)) (he : P.underlying e = some (.struct fs))
    (hone : oneCellFields P fs = true) (hC : P.cellsOf e = fs.size) (hts : fs.toList.map (·.type) = ts) (hf0 : 0 < fs.size) (h : RdAt P w t v) : ∃ a len cap, v = .slice a len cap ∧ IsAny P ts w a len cap := by
  obtain ⟨H, enc, base, held, n, y, h⟩ := h
  exact fld_any ts ht he hone hC hts hf0 h
end Go.Proofs.Ytbdjcppkfihonaa
/- Hold: the law's same. -/
namespace Go.Proofs.Ytbdjcppkfihonaa
open Go.ChangeShapes Go.WideShapes Go.ChangeAt Go.RowKit
set_option linter.unusedSimpArgs false
set_option linter.unusedVariables false

set_option maxRecDepth 20000 in
set_option maxHeartbeats 4000000 in
theorem hd_same (a b : Bool) (c d e : Int) (w : World) : Calls Try.prog 38 #[.agg #[.bool a, .bool b, .int .i64 c, .int .i64 d, .int .i64 e], .agg #[.bool a, .bool b, .int .i64 c, .int .i64 d, .int .i64 e]] w fun r w' => r = .returned (.bool true) ∧ Below w.heap.size w w' := by
  have q1 : Below w.heap.size w ((w.alloc (.cells #[.bool a, .bool b, .int .i64 c, .int .i64 d, .int .i64 e] 75)).alloc (.cells #[.bool a, .bool b, .int .i64 c, .int .i64 d, .int .i64 e] 71)) := ((Below.refl _ _).alloc (Nat.le_refl _) _).alloc (by simp) _
  have HQ := Lib.hid q1
  clear q1
  have b1 : (a == a) = true := by cases a <;> rfl
  have b2 : (b == b) = true := by cases b <;> rfl
  have b3 : (c == c) = true := by simp
  have b4 : (d == d) = true := by simp
  have b5 : (e == e) = true := by simp
  go_enter Try.func38, Try.ntmps38
  go_wp2
  go_ret
  exact ⟨rfl, HQ.out⟩
end Go.Proofs.Ytbdjcppkfihonaa
/- Hold: the document's own windows. -/
namespace Go.Proofs.Ytbdjcppkfihonaa
open Go.ChangeShapes Go.WideShapes Go.ChangeAt Go.RowKit
set_option linter.unusedSimpArgs false
set_option linter.unusedVariables false


theorem dat_eq {S R : ByteArray} {l : List UInt8} (h : S.data.toList = l) (h2 : R.data.toList = l) : S = R := ba_ext (h.trans h2.symm)
/-- The boxes of the document's Look: the window, the results, what was found. -/
def RS (w0 w : World) (B : Nat) (hc rc qc fc : List Value) : Prop := Blk w B hc 61 ∧ Blk w (B + 1) rc 61 ∧ Blk w (B + 2) qc 71 ∧ Blk w (B + 3) fc 71 ∧ Below B w0 w ∧ B + 4 ≤ w.heap.size
theorem RS.below {w0 w w' : World} {B : Nat} {hc rc qc fc : List Value} (h : RS w0 w B hc rc qc fc) (k : Below w.heap.size w w') : RS w0 w' B hc rc qc fc := by
  obtain ⟨h1, h2, h3, h4, h5, h6⟩ := h
  have s := k.size
  exact ⟨Blk.below h1 k (by omega), Blk.below h2 k (by omega), Blk.below h3 k (by omega), Blk.below h4 k (by omega), h5.trans (k.mono (by omega)), by omega⟩
theorem RS.setH {w0 w : World} {B : Nat} {hc rc qc fc : List Value} (h : RS w0 w B hc rc qc fc) (i : Nat) (v : Value) : RS w0 (w.setCell ⟨B, i, none⟩ v) B (hc.set i v) rc qc fc := by
  obtain ⟨h1, h2, h3, h4, h5, h6⟩ := h
  have k : Chg [B] w (w.setCell ⟨B, i, none⟩ v) := (Chg.refl [B] w).set (Or.inl (by simp)) _ _
  exact ⟨h1.set i v, h2.chg k (by simp), h3.chg k (by simp), h4.chg k (by simp), k.onto h5 (by omega) (by simp), Nat.le_trans h6 k.size⟩
theorem RS.setR {w0 w : World} {B : Nat} {hc rc qc fc : List Value} (h : RS w0 w B hc rc qc fc) (i : Nat) (v : Value) : RS w0 (w.setCell ⟨B + 1, i, none⟩ v) B hc (rc.set i v) qc fc := by
  obtain ⟨h1, h2, h3, h4, h5, h6⟩ := h
  have k : Chg [B + 1] w (w.setCell ⟨B + 1, i, none⟩ v) := (Chg.refl [B + 1] w).set (Or.inl (by simp)) _ _
  exact ⟨h1.chg k (by simp), h2.set i v, h3.chg k (by simp), h4.chg k (by simp), k.onto h5 (by omega) (by simp), Nat.le_trans h6 k.size⟩
theorem RS.setQ {w0 w : World} {B : Nat} {hc rc qc fc : List Value} (h : RS w0 w B hc rc qc fc) (i : Nat) (v : Value) : RS w0 (w.setCell ⟨B + 2, i, none⟩ v) B hc rc (qc.set i v) fc := by
  obtain ⟨h1, h2, h3, h4, h5, h6⟩ := h
  have k : Chg [B + 2] w (w.setCell ⟨B + 2, i, none⟩ v) := (Chg.refl [B + 2] w).set (Or.inl (by simp)) _ _
  exact ⟨h1.chg k (by simp), h2.chg k (by simp), h3.set i v, h4.chg k (by simp), k.onto h5 (by omega) (by simp), Nat.le_trans h6 k.size⟩
theorem RS.setF {w0 w : World} {B : Nat} {hc rc qc fc : List Value} (h : RS w0 w B hc rc qc fc) (i : Nat) (v : Value) : RS w0 (w.setCell ⟨B + 3, i, none⟩ v) B hc rc qc (fc.set i v) := by
  obtain ⟨h1, h2, h3, h4, h5, h6⟩ := h
  have k : Chg [B + 3] w (w.setCell ⟨B + 3, i, none⟩ v) := (Chg.refl [B + 3] w).set (Or.inl (by simp)) _ _
  exact ⟨h1.chg k (by simp), h2.chg k (by simp), h3.chg k (by simp), h4.set i v, k.onto h5 (by omega) (by simp), Nat.le_trans h6 k.size⟩
theorem RS.drew {w0 w : World} {B : Nat} {hc rc qc fc : List Value} (h : RS w0 w B hc rc qc fc) : RS w0 w.drew B hc rc qc fc := h.below (Below.refl _ _).drew
/-- What a look of the document's hands back. -/
def RL19 (W : Nat) (a : Option Addr) (n c : Nat) (res : Hd.R) (w : World) (e : Ending) (w' : World) : Prop := ∃ S' R' : ByteArray, e = .returned (.tuple #[.agg #[.int .i64 W, .string S', .int .i64 res.K, .slice a n c], .string R', .agg #[.bool res.hit, .bool res.full, .int .i64 res.arm, .int .i64 res.gone, .int .i64 res.rd]]) ∧ S'.data.toList = res.S ∧ R'.data.toList = res.Q ∧ Below w.heap.size w w'
theorem list_extract0 (s : ByteArray) (k : Nat) : (s.extract 0 k).data.toList = s.data.toList.take k := by
  rw [ByteArray.data_extract, Array.toList_extract, List.extract_eq_take_drop, List.drop_zero, Nat.sub_zero]
theorem list_extract1 (s : ByteArray) (k : Nat) : (s.extract k s.size).data.toList = s.data.toList.drop k := by
  rw [ByteArray.data_extract, Array.toList_extract, List.extract_eq_take_drop, List.take_of_length_le]
  rw [List.length_drop, bl_size]
  exact Nat.le_refl _
theorem at_here {Ls : List (List (Bool × BitVec 256))} {T : List UInt8} {K : Nat} (h : K < T.length) : Hd.at Ls T K = Hd.F Ls (T.take (K + 1)) (K + 1) := by
  have h1 := at_app (Ls := Ls) (S := T) (Q := []) h
  rw [List.append_nil] at h1
  rw [h1, F_take (Nat.le_refl _)]
set_option maxRecDepth 20000 in
set_option maxHeartbeats 8000000 in
theorem rf_look19 (W : Nat) (hW4 : W ≤ 4096) (S0 R0 : ByteArray) (K0 : Nat) (a : Option Addr) (n c : Nat) (Ls : List (List (Bool × BitVec 256))) (hn : Ls.length = n) (hn3 : n ≤ 1000) (h62 : ∀ l ∈ Ls, l.length ≤ 62) (hK0 : K0 ≤ S0.size) (hS0 : S0.size ≤ W) (hz : S0.size + R0.size ≤ 1000) (res : Hd.R) (hres : Hd.look Ls W ((S0.size - K0) + R0.size + 1) S0.data.toList K0 R0.data.toList 0 = res) (w : World) (hI : LL w a Ls) :
    Calls Try.prog 37 #[.agg #[.int .i64 W, .string S0, .int .i64 K0, .slice a n c], .string R0] w fun e w' => RL19 W a n c res w e w' := by
  have HG := Lib.hid (And.intro hI (And.intro hn h62))
  have HR := Lib.hid hres
  have H0 : Hid (RS w ((((w.alloc (.cells #[.int .i64 W, .string S0, .int .i64 K0, .slice a n c] 61)).alloc (.cells #[.int .i64 0, .string ⟨#[]⟩, .int .i64 0, .slice none 0 0] 61)).alloc (.cells #[.bool false, .bool false, .int .i64 0, .int .i64 0, .int .i64 0] 71)).alloc (.cells #[.bool false, .bool false, .int .i64 0, .int .i64 0, .int .i64 0] 71)) w.heap.size [.int .i64 W, .string S0, .int .i64 K0, .slice a n c] [.int .i64 0, .string ⟨#[]⟩, .int .i64 0, .slice none 0 0] [.bool false, .bool false, .int .i64 0, .int .i64 0, .int .i64 0] [.bool false, .bool false, .int .i64 0, .int .i64 0, .int .i64 0]) := by
    have e1 : (w.alloc (.cells #[.int .i64 W, .string S0, .int .i64 K0, .slice a n c] 61)).heap.size = w.heap.size + 1 := by simp
    have e2 : ((w.alloc (.cells #[.int .i64 W, .string S0, .int .i64 K0, .slice a n c] 61)).alloc (.cells #[.int .i64 0, .string ⟨#[]⟩, .int .i64 0, .slice none 0 0] 61)).heap.size = w.heap.size + 2 := by simp
    have e3 : (((w.alloc (.cells #[.int .i64 W, .string S0, .int .i64 K0, .slice a n c] 61)).alloc (.cells #[.int .i64 0, .string ⟨#[]⟩, .int .i64 0, .slice none 0 0] 61)).alloc (.cells #[.bool false, .bool false, .int .i64 0, .int .i64 0, .int .i64 0] 71)).heap.size = w.heap.size + 3 := by simp
    have b1 := Blk.newA w #[.int .i64 W, .string S0, .int .i64 K0, .slice a n c] 61
    have b2 := Blk.newA (w.alloc (.cells #[.int .i64 W, .string S0, .int .i64 K0, .slice a n c] 61)) #[.int .i64 0, .string ⟨#[]⟩, .int .i64 0, .slice none 0 0] 61
    have b3 := Blk.newA ((w.alloc (.cells #[.int .i64 W, .string S0, .int .i64 K0, .slice a n c] 61)).alloc (.cells #[.int .i64 0, .string ⟨#[]⟩, .int .i64 0, .slice none 0 0] 61)) #[.bool false, .bool false, .int .i64 0, .int .i64 0, .int .i64 0] 71
    have b4 := Blk.newA (((w.alloc (.cells #[.int .i64 W, .string S0, .int .i64 K0, .slice a n c] 61)).alloc (.cells #[.int .i64 0, .string ⟨#[]⟩, .int .i64 0, .slice none 0 0] 61)).alloc (.cells #[.bool false, .bool false, .int .i64 0, .int .i64 0, .int .i64 0] 71)) #[.bool false, .bool false, .int .i64 0, .int .i64 0, .int .i64 0] 71
    rw [e1] at b2
    rw [e2] at b3
    rw [e3] at b4
    exact Lib.hid ⟨((b1.alloc _).alloc _).alloc _, (b2.alloc _).alloc _, b3.alloc _, b4, ((((Below.refl _ _).alloc (Nat.le_refl _) _).alloc (by simp) _).alloc (by simp; omega) _).alloc (by simp; omega) _, by simp⟩
  clear hI hn h62 hres
  go_enter Try.func37, Try.ntmps37
  go_upto_region 2 with fail
  revert H0
  generalize ((((w.alloc (.cells #[.int .i64 W, .string S0, .int .i64 K0, .slice a n c] 61)).alloc (.cells #[.int .i64 0, .string ⟨#[]⟩, .int .i64 0, .slice none 0 0] 61)).alloc (.cells #[.bool false, .bool false, .int .i64 0, .int .i64 0, .int .i64 0] 71)).alloc (.cells #[.bool false, .bool false, .int .i64 0, .int .i64 0, .int .i64 0] 71)) = W0
  intro H0
  go_loopg [1, 8] ((S0.size - K0) + R0.size + 1) (fun gk rv _ wr => ∃ (S R : ByteArray) (K rd : Nat), rv = .string R ∧ K ≤ S.size ∧ S.size ≤ W ∧ S.size + R.size ≤ 1000 ∧ rd + R.size ≤ 1000 ∧ (S.size - K) + R.size + 1 ≤ gk ∧ Hid (Hd.look Ls W gk S.data.toList K R.data.toList rd = res) ∧ Hid (RS w wr w.heap.size [.int .i64 W, .string S, .int .i64 K, .slice a n c] [.int .i64 0, .string ⟨#[]⟩, .int .i64 0, .slice none 0 0] [.bool false, .bool false, .int .i64 0, .int .i64 0, .int .i64 0] [.bool false, .bool false, .int .i64 0, .int .i64 0, .int .i64 rd]))
  case atStart => exact ⟨S0, R0, K0, 0, rfl, hK0, hS0, hz, by omega, by omega, HR, H0⟩
  case round =>
    clear H0 HR hK0 hS0 hz
    obtain ⟨S, R, K, rd, rfl, hK, hS, hz, hrd, hgk, HR, HS⟩ := hrel
    obtain ⟨fu, rfl⟩ : ∃ fu, gk = fu + 1 := ⟨gk - 1, by omega⟩
    by_cases hKS : K = S.size
    · by_cases hRz : R.size = 0
      · have he : R.toList.isEmpty = true := size_empty hRz
        have hRl : R.data.toList = [] := List.length_eq_zero_iff.1 (by rw [bl_size]; exact hRz)
        have HE : Hid (res = ⟨S.data.toList, K, [], false, false, 0, 0, rd⟩) := Lib.hid (by
          rw [← HR.out, hRl]
          exact look_end (by rw [bl_size]; omega) _)
        have HRl := Lib.hid hRl
        clear hRl hRz
        subst hKS
        have k1 : ((S.size : Nat) : Int) ≤ 1000 := by omega
        have ch1 := HS.out.1.cell (i := 1) rfl
        have ch2 := HS.out.1.cell (i := 2) rfl
        go_upto_region 3 with fail
        clear ch1 ch2
        have ch0 := HS.out.1.cell (i := 0) rfl
        have cFh0 := HS.out.1.free 0
        have ch1 := HS.out.1.cell (i := 1) rfl
        have cFh1 := HS.out.1.free 1
        have ch2 := HS.out.1.cell (i := 2) rfl
        have cFh2 := HS.out.1.free 2
        have ch3 := HS.out.1.cell (i := 3) rfl
        have cFh3 := HS.out.1.free 3
        have cr0 := HS.out.2.1.cell (i := 0) rfl
        have cFr0 := HS.out.2.1.free 0
        have cr1 := HS.out.2.1.cell (i := 1) rfl
        have cFr1 := HS.out.2.1.free 1
        have cr2 := HS.out.2.1.cell (i := 2) rfl
        have cFr2 := HS.out.2.1.free 2
        have cr3 := HS.out.2.1.cell (i := 3) rfl
        have cFr3 := HS.out.2.1.free 3
        have cq0 := HS.out.2.2.1.cell (i := 0) rfl
        have cFq0 := HS.out.2.2.1.free 0
        have cq1 := HS.out.2.2.1.cell (i := 1) rfl
        have cFq1 := HS.out.2.2.1.free 1
        have cq2 := HS.out.2.2.1.cell (i := 2) rfl
        have cFq2 := HS.out.2.2.1.free 2
        have cq3 := HS.out.2.2.1.cell (i := 3) rfl
        have cFq3 := HS.out.2.2.1.free 3
        have cq4 := HS.out.2.2.1.cell (i := 4) rfl
        have cFq4 := HS.out.2.2.1.free 4
        have cf0 := HS.out.2.2.2.1.cell (i := 0) rfl
        have cFf0 := HS.out.2.2.2.1.free 0
        have cf1 := HS.out.2.2.2.1.cell (i := 1) rfl
        have cFf1 := HS.out.2.2.2.1.free 1
        have cf2 := HS.out.2.2.2.1.cell (i := 2) rfl
        have cFf2 := HS.out.2.2.2.1.free 2
        have cf3 := HS.out.2.2.2.1.cell (i := 3) rfl
        have cFf3 := HS.out.2.2.2.1.free 3
        have cf4 := HS.out.2.2.2.1.cell (i := 4) rfl
        have cFf4 := HS.out.2.2.2.1.free 4
        go_region
        all_goals
          go_wp2_with fail
          first
            | (have HZ := Lib.hid (((((((((HS.out.setR 0 (.int .i64 W)).setR 1 (.string S)).setR 2 (.int .i64 S.size)).setR 3 (.slice a n c)).setQ 0 (.bool false)).setQ 1 (.bool false)).setQ 2 (.int .i64 0)).setQ 3 (.int .i64 0)).setQ 4 (.int .i64 rd)).drew; clear ch0 cFh0 ch1 cFh1 ch2 cFh2 ch3 cFh3 cr0 cFr0 cr1 cFr1 cr2 cFr2 cr3 cFr3 cq0 cFq0 cq1 cFq1 cq2 cFq2 cq3 cFq3 cq4 cFq4 cf0 cFf0 cf1 cFf1 cf2 cFf2 cf3 cFf3 cf4 cFf4; revert HZ; generalize ((((((((((wr.setCell ⟨w.heap.size + 1, 0, none⟩ (.int .i64 W)).setCell ⟨w.heap.size + 1, 1, none⟩ (.string S)).setCell ⟨w.heap.size + 1, 2, none⟩ (.int .i64 S.size)).setCell ⟨w.heap.size + 1, 3, none⟩ (.slice a n c)).setCell ⟨w.heap.size + 2, 0, none⟩ (.bool false)).setCell ⟨w.heap.size + 2, 1, none⟩ (.bool false)).setCell ⟨w.heap.size + 2, 2, none⟩ (.int .i64 0)).setCell ⟨w.heap.size + 2, 3, none⟩ (.int .i64 0)).setCell ⟨w.heap.size + 2, 4, none⟩ (.int .i64 rd))).drew = WZ; intro HZ; have dh0 := HZ.out.1.cell (i := 0) rfl; have dFh0 := HZ.out.1.free 0; have dh1 := HZ.out.1.cell (i := 1) rfl; have dFh1 := HZ.out.1.free 1; have dh2 := HZ.out.1.cell (i := 2) rfl; have dFh2 := HZ.out.1.free 2; have dh3 := HZ.out.1.cell (i := 3) rfl; have dFh3 := HZ.out.1.free 3; have dr0 := HZ.out.2.1.cell (i := 0) rfl; have dFr0 := HZ.out.2.1.free 0; have dr1 := HZ.out.2.1.cell (i := 1) rfl; have dFr1 := HZ.out.2.1.free 1; have dr2 := HZ.out.2.1.cell (i := 2) rfl; have dFr2 := HZ.out.2.1.free 2; have dr3 := HZ.out.2.1.cell (i := 3) rfl; have dFr3 := HZ.out.2.1.free 3; have dq0 := HZ.out.2.2.1.cell (i := 0) rfl; have dFq0 := HZ.out.2.2.1.free 0; have dq1 := HZ.out.2.2.1.cell (i := 1) rfl; have dFq1 := HZ.out.2.2.1.free 1; have dq2 := HZ.out.2.2.1.cell (i := 2) rfl; have dFq2 := HZ.out.2.2.1.free 2; have dq3 := HZ.out.2.2.1.cell (i := 3) rfl; have dFq3 := HZ.out.2.2.1.free 3; have dq4 := HZ.out.2.2.1.cell (i := 4) rfl; have dFq4 := HZ.out.2.2.1.free 4; have df0 := HZ.out.2.2.2.1.cell (i := 0) rfl; have dFf0 := HZ.out.2.2.2.1.free 0; have df1 := HZ.out.2.2.2.1.cell (i := 1) rfl; have dFf1 := HZ.out.2.2.2.1.free 1; have df2 := HZ.out.2.2.2.1.cell (i := 2) rfl; have dFf2 := HZ.out.2.2.2.1.free 2; have df3 := HZ.out.2.2.2.1.cell (i := 3) rfl; have dFf3 := HZ.out.2.2.2.1.free 3; have df4 := HZ.out.2.2.2.1.cell (i := 4) rfl; have dFf4 := HZ.out.2.2.2.1.free 4; refine bodyPost_ret (v := .tuple #[.agg #[.int .i64 W, .string S, .int .i64 S.size, .slice a n c], .string R, .agg #[.bool false, .bool false, .int .i64 0, .int .i64 0, .int .i64 rd]]) (by simp [results, Try.results37, go_sem, dr0, dr1, dr2, dr3, dq0, dq1, dq2, dq3, dq4]) rfl ?_; exact ⟨S, R, by rw [HE.out]; rfl, by rw [HE.out], by rw [HE.out]; exact HRl.out, HZ.out.2.2.2.2.1⟩)
            | (have HZ := Lib.hid (((((((((HS.out.setQ 0 (.bool false)).setQ 1 (.bool false)).setQ 2 (.int .i64 0)).setQ 3 (.int .i64 0)).setQ 4 (.int .i64 rd)).setR 0 (.int .i64 W)).setR 1 (.string S)).setR 2 (.int .i64 S.size)).setR 3 (.slice a n c)).drew; clear ch0 cFh0 ch1 cFh1 ch2 cFh2 ch3 cFh3 cr0 cFr0 cr1 cFr1 cr2 cFr2 cr3 cFr3 cq0 cFq0 cq1 cFq1 cq2 cFq2 cq3 cFq3 cq4 cFq4 cf0 cFf0 cf1 cFf1 cf2 cFf2 cf3 cFf3 cf4 cFf4; revert HZ; generalize ((((((((((wr.setCell ⟨w.heap.size + 2, 0, none⟩ (.bool false)).setCell ⟨w.heap.size + 2, 1, none⟩ (.bool false)).setCell ⟨w.heap.size + 2, 2, none⟩ (.int .i64 0)).setCell ⟨w.heap.size + 2, 3, none⟩ (.int .i64 0)).setCell ⟨w.heap.size + 2, 4, none⟩ (.int .i64 rd)).setCell ⟨w.heap.size + 1, 0, none⟩ (.int .i64 W)).setCell ⟨w.heap.size + 1, 1, none⟩ (.string S)).setCell ⟨w.heap.size + 1, 2, none⟩ (.int .i64 S.size)).setCell ⟨w.heap.size + 1, 3, none⟩ (.slice a n c))).drew = WZ; intro HZ; have dh0 := HZ.out.1.cell (i := 0) rfl; have dFh0 := HZ.out.1.free 0; have dh1 := HZ.out.1.cell (i := 1) rfl; have dFh1 := HZ.out.1.free 1; have dh2 := HZ.out.1.cell (i := 2) rfl; have dFh2 := HZ.out.1.free 2; have dh3 := HZ.out.1.cell (i := 3) rfl; have dFh3 := HZ.out.1.free 3; have dr0 := HZ.out.2.1.cell (i := 0) rfl; have dFr0 := HZ.out.2.1.free 0; have dr1 := HZ.out.2.1.cell (i := 1) rfl; have dFr1 := HZ.out.2.1.free 1; have dr2 := HZ.out.2.1.cell (i := 2) rfl; have dFr2 := HZ.out.2.1.free 2; have dr3 := HZ.out.2.1.cell (i := 3) rfl; have dFr3 := HZ.out.2.1.free 3; have dq0 := HZ.out.2.2.1.cell (i := 0) rfl; have dFq0 := HZ.out.2.2.1.free 0; have dq1 := HZ.out.2.2.1.cell (i := 1) rfl; have dFq1 := HZ.out.2.2.1.free 1; have dq2 := HZ.out.2.2.1.cell (i := 2) rfl; have dFq2 := HZ.out.2.2.1.free 2; have dq3 := HZ.out.2.2.1.cell (i := 3) rfl; have dFq3 := HZ.out.2.2.1.free 3; have dq4 := HZ.out.2.2.1.cell (i := 4) rfl; have dFq4 := HZ.out.2.2.1.free 4; have df0 := HZ.out.2.2.2.1.cell (i := 0) rfl; have dFf0 := HZ.out.2.2.2.1.free 0; have df1 := HZ.out.2.2.2.1.cell (i := 1) rfl; have dFf1 := HZ.out.2.2.2.1.free 1; have df2 := HZ.out.2.2.2.1.cell (i := 2) rfl; have dFf2 := HZ.out.2.2.2.1.free 2; have df3 := HZ.out.2.2.2.1.cell (i := 3) rfl; have dFf3 := HZ.out.2.2.2.1.free 3; have df4 := HZ.out.2.2.2.1.cell (i := 4) rfl; have dFf4 := HZ.out.2.2.2.1.free 4; refine bodyPost_ret (v := .tuple #[.agg #[.int .i64 W, .string S, .int .i64 S.size, .slice a n c], .string R, .agg #[.bool false, .bool false, .int .i64 0, .int .i64 0, .int .i64 rd]]) (by simp [results, Try.results37, go_sem, dr0, dr1, dr2, dr3, dq0, dq1, dq2, dq3, dq4]) rfl ?_; exact ⟨S, R, by rw [HE.out]; rfl, by rw [HE.out], by rw [HE.out]; exact HRl.out, HZ.out.2.2.2.2.1⟩)

      · have he : R.toList.isEmpty = false := size_full (by omega)
        obtain ⟨b, l, hRl⟩ : ∃ b l, R.data.toList = b :: l := by
          cases h : R.data.toList with
          | nil => exact absurd (by rw [← bl_size, h]; rfl) hRz
          | cons b l => exact ⟨b, l, rfl⟩
        have HRl := Lib.hid hRl
        have s0 : (S.size : Int) ≤ 1000 := by omega
        by_cases hSW : S.size = W
        · have HE : Hid (res = ⟨S.data.toList, K, R.data.toList, false, true, 0, 0, rd⟩) := Lib.hid (by
            rw [← HR.out, hRl]
            exact look_full (by rw [bl_size]; omega) (by rw [bl_size]; omega))
          have i1 : ((S.size : Int) == (W : Int)) = true := by rw [beq_iff_eq]; omega
          have i2 : (S.size : Int) = (W : Int) := by omega
          have ch0 := HS.out.1.cell (i := 0) rfl
          have ch1 := HS.out.1.cell (i := 1) rfl
          have ch2 := HS.out.1.cell (i := 2) rfl
          have cF1 := HS.out.2.2.2.1.free 1
          have cf1 := HS.out.2.2.2.1.cell (i := 1) rfl
          clear hRl hSW i2
          subst hKS
          go_upto_region 6 with fail
          clear ch0 ch1 ch2 cF1 cf1
          have HX : Hid (RS w (wr.setCell ⟨w.heap.size + 3, 1, none⟩ (.bool true)) w.heap.size [.int .i64 W, .string S, .int .i64 S.size, .slice a n c] [.int .i64 0, .string ⟨#[]⟩, .int .i64 0, .slice none 0 0] [.bool false, .bool false, .int .i64 0, .int .i64 0, .int .i64 0] [.bool false, .bool true, .int .i64 0, .int .i64 0, .int .i64 rd]) := Lib.hid (HS.out.setF 1 (.bool true))
          revert HX
          generalize (wr.setCell ⟨w.heap.size + 3, 1, none⟩ (.bool true)) = W10
          intro HX
          have ch0 := HX.out.1.cell (i := 0) rfl
          have cFh0 := HX.out.1.free 0
          have ch1 := HX.out.1.cell (i := 1) rfl
          have cFh1 := HX.out.1.free 1
          have ch2 := HX.out.1.cell (i := 2) rfl
          have cFh2 := HX.out.1.free 2
          have ch3 := HX.out.1.cell (i := 3) rfl
          have cFh3 := HX.out.1.free 3
          have cr0 := HX.out.2.1.cell (i := 0) rfl
          have cFr0 := HX.out.2.1.free 0
          have cr1 := HX.out.2.1.cell (i := 1) rfl
          have cFr1 := HX.out.2.1.free 1
          have cr2 := HX.out.2.1.cell (i := 2) rfl
          have cFr2 := HX.out.2.1.free 2
          have cr3 := HX.out.2.1.cell (i := 3) rfl
          have cFr3 := HX.out.2.1.free 3
          have cq0 := HX.out.2.2.1.cell (i := 0) rfl
          have cFq0 := HX.out.2.2.1.free 0
          have cq1 := HX.out.2.2.1.cell (i := 1) rfl
          have cFq1 := HX.out.2.2.1.free 1
          have cq2 := HX.out.2.2.1.cell (i := 2) rfl
          have cFq2 := HX.out.2.2.1.free 2
          have cq3 := HX.out.2.2.1.cell (i := 3) rfl
          have cFq3 := HX.out.2.2.1.free 3
          have cq4 := HX.out.2.2.1.cell (i := 4) rfl
          have cFq4 := HX.out.2.2.1.free 4
          have cf0 := HX.out.2.2.2.1.cell (i := 0) rfl
          have cFf0 := HX.out.2.2.2.1.free 0
          have cf1 := HX.out.2.2.2.1.cell (i := 1) rfl
          have cFf1 := HX.out.2.2.2.1.free 1
          have cf2 := HX.out.2.2.2.1.cell (i := 2) rfl
          have cFf2 := HX.out.2.2.2.1.free 2
          have cf3 := HX.out.2.2.2.1.cell (i := 3) rfl
          have cFf3 := HX.out.2.2.2.1.free 3
          have cf4 := HX.out.2.2.2.1.cell (i := 4) rfl
          have cFf4 := HX.out.2.2.2.1.free 4
          go_region
          all_goals
            go_wp2_with fail
            first
              | (have HZ := Lib.hid (((((((((HX.out.setR 0 (.int .i64 W)).setR 1 (.string S)).setR 2 (.int .i64 S.size)).setR 3 (.slice a n c)).setQ 0 (.bool false)).setQ 1 (.bool true)).setQ 2 (.int .i64 0)).setQ 3 (.int .i64 0)).setQ 4 (.int .i64 rd)).drew; clear ch0 cFh0 ch1 cFh1 ch2 cFh2 ch3 cFh3 cr0 cFr0 cr1 cFr1 cr2 cFr2 cr3 cFr3 cq0 cFq0 cq1 cFq1 cq2 cFq2 cq3 cFq3 cq4 cFq4 cf0 cFf0 cf1 cFf1 cf2 cFf2 cf3 cFf3 cf4 cFf4; revert HZ; generalize ((((((((((W10.setCell ⟨w.heap.size + 1, 0, none⟩ (.int .i64 W)).setCell ⟨w.heap.size + 1, 1, none⟩ (.string S)).setCell ⟨w.heap.size + 1, 2, none⟩ (.int .i64 S.size)).setCell ⟨w.heap.size + 1, 3, none⟩ (.slice a n c)).setCell ⟨w.heap.size + 2, 0, none⟩ (.bool false)).setCell ⟨w.heap.size + 2, 1, none⟩ (.bool true)).setCell ⟨w.heap.size + 2, 2, none⟩ (.int .i64 0)).setCell ⟨w.heap.size + 2, 3, none⟩ (.int .i64 0)).setCell ⟨w.heap.size + 2, 4, none⟩ (.int .i64 rd))).drew = WZ; intro HZ; have dh0 := HZ.out.1.cell (i := 0) rfl; have dFh0 := HZ.out.1.free 0; have dh1 := HZ.out.1.cell (i := 1) rfl; have dFh1 := HZ.out.1.free 1; have dh2 := HZ.out.1.cell (i := 2) rfl; have dFh2 := HZ.out.1.free 2; have dh3 := HZ.out.1.cell (i := 3) rfl; have dFh3 := HZ.out.1.free 3; have dr0 := HZ.out.2.1.cell (i := 0) rfl; have dFr0 := HZ.out.2.1.free 0; have dr1 := HZ.out.2.1.cell (i := 1) rfl; have dFr1 := HZ.out.2.1.free 1; have dr2 := HZ.out.2.1.cell (i := 2) rfl; have dFr2 := HZ.out.2.1.free 2; have dr3 := HZ.out.2.1.cell (i := 3) rfl; have dFr3 := HZ.out.2.1.free 3; have dq0 := HZ.out.2.2.1.cell (i := 0) rfl; have dFq0 := HZ.out.2.2.1.free 0; have dq1 := HZ.out.2.2.1.cell (i := 1) rfl; have dFq1 := HZ.out.2.2.1.free 1; have dq2 := HZ.out.2.2.1.cell (i := 2) rfl; have dFq2 := HZ.out.2.2.1.free 2; have dq3 := HZ.out.2.2.1.cell (i := 3) rfl; have dFq3 := HZ.out.2.2.1.free 3; have dq4 := HZ.out.2.2.1.cell (i := 4) rfl; have dFq4 := HZ.out.2.2.1.free 4; have df0 := HZ.out.2.2.2.1.cell (i := 0) rfl; have dFf0 := HZ.out.2.2.2.1.free 0; have df1 := HZ.out.2.2.2.1.cell (i := 1) rfl; have dFf1 := HZ.out.2.2.2.1.free 1; have df2 := HZ.out.2.2.2.1.cell (i := 2) rfl; have dFf2 := HZ.out.2.2.2.1.free 2; have df3 := HZ.out.2.2.2.1.cell (i := 3) rfl; have dFf3 := HZ.out.2.2.2.1.free 3; have df4 := HZ.out.2.2.2.1.cell (i := 4) rfl; have dFf4 := HZ.out.2.2.2.1.free 4; refine bodyPost_ret (v := .tuple #[.agg #[.int .i64 W, .string S, .int .i64 S.size, .slice a n c], .string R, .agg #[.bool false, .bool true, .int .i64 0, .int .i64 0, .int .i64 rd]]) (by simp [results, Try.results37, go_sem, dr0, dr1, dr2, dr3, dq0, dq1, dq2, dq3, dq4]) rfl ?_; exact ⟨S, R, by rw [HE.out]; rfl, by rw [HE.out], by rw [HE.out], HZ.out.2.2.2.2.1⟩)
              | (have HZ := Lib.hid (((((((((HX.out.setQ 0 (.bool false)).setQ 1 (.bool true)).setQ 2 (.int .i64 0)).setQ 3 (.int .i64 0)).setQ 4 (.int .i64 rd)).setR 0 (.int .i64 W)).setR 1 (.string S)).setR 2 (.int .i64 S.size)).setR 3 (.slice a n c)).drew; clear ch0 cFh0 ch1 cFh1 ch2 cFh2 ch3 cFh3 cr0 cFr0 cr1 cFr1 cr2 cFr2 cr3 cFr3 cq0 cFq0 cq1 cFq1 cq2 cFq2 cq3 cFq3 cq4 cFq4 cf0 cFf0 cf1 cFf1 cf2 cFf2 cf3 cFf3 cf4 cFf4; revert HZ; generalize ((((((((((W10.setCell ⟨w.heap.size + 2, 0, none⟩ (.bool false)).setCell ⟨w.heap.size + 2, 1, none⟩ (.bool true)).setCell ⟨w.heap.size + 2, 2, none⟩ (.int .i64 0)).setCell ⟨w.heap.size + 2, 3, none⟩ (.int .i64 0)).setCell ⟨w.heap.size + 2, 4, none⟩ (.int .i64 rd)).setCell ⟨w.heap.size + 1, 0, none⟩ (.int .i64 W)).setCell ⟨w.heap.size + 1, 1, none⟩ (.string S)).setCell ⟨w.heap.size + 1, 2, none⟩ (.int .i64 S.size)).setCell ⟨w.heap.size + 1, 3, none⟩ (.slice a n c))).drew = WZ; intro HZ; have dh0 := HZ.out.1.cell (i := 0) rfl; have dFh0 := HZ.out.1.free 0; have dh1 := HZ.out.1.cell (i := 1) rfl; have dFh1 := HZ.out.1.free 1; have dh2 := HZ.out.1.cell (i := 2) rfl; have dFh2 := HZ.out.1.free 2; have dh3 := HZ.out.1.cell (i := 3) rfl; have dFh3 := HZ.out.1.free 3; have dr0 := HZ.out.2.1.cell (i := 0) rfl; have dFr0 := HZ.out.2.1.free 0; have dr1 := HZ.out.2.1.cell (i := 1) rfl; have dFr1 := HZ.out.2.1.free 1; have dr2 := HZ.out.2.1.cell (i := 2) rfl; have dFr2 := HZ.out.2.1.free 2; have dr3 := HZ.out.2.1.cell (i := 3) rfl; have dFr3 := HZ.out.2.1.free 3; have dq0 := HZ.out.2.2.1.cell (i := 0) rfl; have dFq0 := HZ.out.2.2.1.free 0; have dq1 := HZ.out.2.2.1.cell (i := 1) rfl; have dFq1 := HZ.out.2.2.1.free 1; have dq2 := HZ.out.2.2.1.cell (i := 2) rfl; have dFq2 := HZ.out.2.2.1.free 2; have dq3 := HZ.out.2.2.1.cell (i := 3) rfl; have dFq3 := HZ.out.2.2.1.free 3; have dq4 := HZ.out.2.2.1.cell (i := 4) rfl; have dFq4 := HZ.out.2.2.1.free 4; have df0 := HZ.out.2.2.2.1.cell (i := 0) rfl; have dFf0 := HZ.out.2.2.2.1.free 0; have df1 := HZ.out.2.2.2.1.cell (i := 1) rfl; have dFf1 := HZ.out.2.2.2.1.free 1; have df2 := HZ.out.2.2.2.1.cell (i := 2) rfl; have dFf2 := HZ.out.2.2.2.1.free 2; have df3 := HZ.out.2.2.2.1.cell (i := 3) rfl; have dFf3 := HZ.out.2.2.2.1.free 3; have df4 := HZ.out.2.2.2.1.cell (i := 4) rfl; have dFf4 := HZ.out.2.2.2.1.free 4; refine bodyPost_ret (v := .tuple #[.agg #[.int .i64 W, .string S, .int .i64 S.size, .slice a n c], .string R, .agg #[.bool false, .bool true, .int .i64 0, .int .i64 0, .int .i64 rd]]) (by simp [results, Try.results37, go_sem, dr0, dr1, dr2, dr3, dq0, dq1, dq2, dq3, dq4]) rfl ?_; exact ⟨S, R, by rw [HE.out]; rfl, by rw [HE.out], by rw [HE.out], HZ.out.2.2.2.2.1⟩)
        · have i1 : ((S.size : Int) == (W : Int)) = false := by rw [beq_eq_false_iff_ne]; omega
          have i2 : ¬ (S.size : Int) = (W : Int) := by omega
          obtain ⟨P, hP⟩ : ∃ P, R.extract 0 1 = P := ⟨_, rfl⟩
          obtain ⟨R2, hR2⟩ : ∃ R2, R.extract 1 R.size = R2 := ⟨_, rfl⟩
          obtain ⟨S2, hS2⟩ : ∃ S2, S ++ P = S2 := ⟨_, rfl⟩
          have zP : P.size = 1 := by rw [← hP, ByteArray.size_extract]; omega
          have zR2 : R2.size + 1 = R.size := by rw [← hR2, ByteArray.size_extract]; omega
          have zS2 : S2.size = S.size + 1 := by rw [← hS2, ByteArray.size_append, zP]
          have lS2 : S2.data.toList = S.data.toList ++ [b] := by rw [← hS2, ByteArray.data_append, Array.toList_append, ← hP, list_extract0, hRl]; rfl
          have lR2 : R2.data.toList = l := by rw [← hR2, list_extract1, hRl]; rfl
          have HR2 : Hid (Hd.look Ls W (fu + 1) S2.data.toList K R2.data.toList (rd + 1) = res) := Lib.hid (by
            rw [← HR.out, hRl, lS2, lR2]
            exact (look_read (by rw [bl_size]; omega) (by rw [bl_size]; omega) (by rw [bl_size]; omega)).symm)
          have j1 : (1 : Int) ≤ (R.size : Int) := by omega
          have j2 : 1 ≤ R.size := by omega
          have j3 : ¬ (9223372036854775807 < S.size + P.size) := by omega
          have ch0 := HS.out.1.cell (i := 0) rfl
          have ch1 := HS.out.1.cell (i := 1) rfl
          have ch2 := HS.out.1.cell (i := 2) rfl
          have cF1 := HS.out.1.free 1
          have HZ2 := Lib.hid (And.intro zR2 (And.intro zS2 (And.intro hKS hSW)))
          clear hRl zP zR2 zS2 lS2 lR2 hSW
          subst hKS
          go_upto_region 8 with fail
          go_cut [1] from 10 to 88 (fun rv wx => rv = .string R2 ∧ Hid (RS w wx w.heap.size [.int .i64 W, .string S2, .int .i64 S.size, .slice a n c] [.int .i64 0, .string ⟨#[]⟩, .int .i64 0, .slice none 0 0] [.bool false, .bool false, .int .i64 0, .int .i64 0, .int .i64 0] [.bool false, .bool false, .int .i64 0, .int .i64 0, .int .i64 rd]))
          case first =>
            go_region
            all_goals
              go_wp2_with fail
              go_meet
              first
                | exact ⟨rfl, Lib.hid (HS.out.setH 1 (.string S2))⟩
                | exact ⟨rfl, Lib.hid (HS.out.setH 1 (.string S2)).drew⟩
          case rest =>
            obtain ⟨rfl, HC⟩ := hcut
            clear HS ch0 ch1 ch2 cF1 hP hR2 hS2 j1 j2 j3
            have cF4 := HC.out.2.2.2.1.free 4
            have cf4 := HC.out.2.2.2.1.cell (i := 4) rfl
            have r1 : (rd : Int) + 1 = ((rd + 1 : Nat) : Int) := by omega
            obtain ⟨rd1, hrd1⟩ : ∃ rd1, rd + 1 = rd1 := ⟨_, rfl⟩
            rw [hrd1] at r1 HR2
            have r2 : IntKind.i64.wrap (rd1 : Int) = (rd1 : Int) := IntWalk.i64_in _ (by omega)
            go_upto_region 10 with fail
            clear cF4 cf4
            have HS : Hid (RS w (wc.setCell ⟨w.heap.size + 3, 4, none⟩ (.int .i64 rd1)) w.heap.size [.int .i64 W, .string S2, .int .i64 S.size, .slice a n c] [.int .i64 0, .string ⟨#[]⟩, .int .i64 0, .slice none 0 0] [.bool false, .bool false, .int .i64 0, .int .i64 0, .int .i64 0] [.bool false, .bool false, .int .i64 0, .int .i64 0, .int .i64 rd1]) := Lib.hid (HC.out.setF 4 (.int .i64 rd1))
            revert HS
            generalize (wc.setCell ⟨w.heap.size + 3, 4, none⟩ (.int .i64 rd1)) = W1
            intro HS
            obtain ⟨K, hKK⟩ : ∃ K, S.size = K := ⟨_, rfl⟩
            have hzz := HZ2.out
            rw [hKK] at HS HR2 hzz
            have HR := HR2
            clear HR2 HC HZ2 r1 r2 i1 i2 s0
            have y1 : R2.size + 1 ≤ R.size := by omega
            have y2 : S2.size ≤ K + 1 := by omega
            have y3 : K + 1 ≤ S2.size := by omega
            have y4 : K + 1 ≤ W := by omega
            have y5 : R.size + 1 ≤ fu + 1 := by omega
            have y6 : S2.size + R2.size ≤ 1000 := by omega
            have y7 : rd1 + R2.size ≤ 1000 := by omega
            have y8 : S2.size ≤ W := by omega
            clear hzz hKK
            obtain ⟨K1, hK1⟩ : ∃ K1, K + 1 = K1 := ⟨_, rfl⟩
            have k1 : (K : Int) + 1 = (K1 : Int) := by omega
            have k2 : IntKind.i64.wrap (K1 : Int) = (K1 : Int) := IntWalk.i64_in _ (by omega)
            have k3 : (K1 : Int) ≤ (S2.size : Int) := by omega
            have k4 : (0 : Int) ≤ (K1 : Int) := by omega
            have k5 : K1 ≤ S2.size := by omega
            have ch2 := HS.out.1.cell (i := 2) rfl
            have cF2 := HS.out.1.free 2
            have ch1 := HS.out.1.cell (i := 1) rfl
            have ch0 := HS.out.1.cell (i := 0) rfl
            go_upto_region 11 with fail
            clear ch2 cF2 ch1 ch0
            have HT : Hid (RS w (W1.setCell ⟨w.heap.size, 2, none⟩ (.int .i64 K1)) w.heap.size [.int .i64 W, .string S2, .int .i64 K1, .slice a n c] [.int .i64 0, .string ⟨#[]⟩, .int .i64 0, .slice none 0 0] [.bool false, .bool false, .int .i64 0, .int .i64 0, .int .i64 0] [.bool false, .bool false, .int .i64 0, .int .i64 0, .int .i64 rd1]) := Lib.hid (HS.out.setH 2 (.int .i64 K1))
            revert HT
            generalize (W1.setCell ⟨w.heap.size, 2, none⟩ (.int .i64 K1)) = W2
            intro HT
            have HU : Hid (RS w W2.drew w.heap.size [.int .i64 W, .string S2, .int .i64 K1, .slice a n c] [.int .i64 0, .string ⟨#[]⟩, .int .i64 0, .slice none 0 0] [.bool false, .bool false, .int .i64 0, .int .i64 0, .int .i64 0] [.bool false, .bool false, .int .i64 0, .int .i64 0, .int .i64 rd1]) := Lib.hid HT.out.drew
            obtain ⟨s1, hs1⟩ : ∃ s1, S2.extract 0 K1 = s1 := ⟨_, rfl⟩
            have hz1 : s1.size ≤ 1000 := by rw [← hs1, ByteArray.size_extract]; omega
            have hl1 : s1.data.toList = S2.data.toList.take K1 := by rw [← hs1, list_extract0]
            have hz2 : s1.size = K1 := by rw [← hs1, ByteArray.size_extract]; omega
            obtain ⟨q, ok, hF⟩ : ∃ q ok, Hd.F Ls (S2.data.toList.take K1) K1 = (q, ok) := ⟨_, _, rfl⟩
            have hat : Hd.at Ls S2.data.toList K = (q, ok) := by rw [at_here (by rw [bl_size]; omega), hK1]; exact hF
            have HF : Hid (Ar.fs (Ar.dn Ls (Ar.stk Ls (lgT (S2.data.toList.take K1)) K1)) n = (q, ok) ∧ s1.data.toList = S2.data.toList.take K1 ∧ (∀ i l, Ls[i]? = some l → Lg.occ l (S2.data.toList.take K1) s1.size = Ar.dn Ls (Ar.stk Ls (lgT (S2.data.toList.take K1)) K1) i) ∧ s1.size ≤ 1000) := Lib.hid ⟨by rw [← HG.out.2.1]; exact hF, hl1, by rw [hz2]; exact fun i l hi => dn_occ HG.out.2.2 _ K1 K1 i l (Nat.le_refl _) hi, hz1⟩
            have HAT := Lib.hid (And.intro hat hK1)
            clear hl1 hz2 hF hat hz1 hK1
            cases ok with
            | true =>
              have v0 : (0 : Int) ≤ (q : Int) := by omega
              refine wp_region_class (fun w' => RS w w' w.heap.size [.int .i64 W, .string S2, .int .i64 K1, .slice a n c] [.int .i64 0, .string ⟨#[]⟩, .int .i64 0, .slice none 0 0] [.bool false, .bool false, .int .i64 0, .int .i64 0, .int .i64 0] [.bool false, .bool false, .int .i64 0, .int .i64 0, .int .i64 rd1]) (by kernel_rfl) (by kernel_rfl) HU.out ?_
              repeat (first
                  | go_big_quiet_skip
                  | (go_big_quiet_want
                     unfold Oper.quiet
                     apply Exists.intro
                     refine ⟨fun wq hwq => ?_, ?_⟩
                     · (have e1 := hwq.1.cell (i := 1) rfl
                        have e2 := hwq.1.cell (i := 2) rfl
                        have e3 := hwq.1.cell (i := 3) rfl
                        unfold Oper.quietAt
                        go_simp
                        first
                          | exact ⟨rfl, hwq⟩
                          | exact rfl
                          | (go_at_call 61; refine (rk_here Ls n HG.out.2.1 hn3 a c s1 _ HF.out.2.2.2 HF.out.2.1 _ HF.out.2.2.1 q true HF.out.1 (q : Int) rfl _ (HG.out.1.below hwq.2.2.2.2.1)).mono ?_; rintro e w3 ⟨he, hb⟩; exact ⟨he, hwq.below hb⟩))
                     simp only [Act.put, List.setIfInBounds_toArray, List.set_cons_zero, List.set_cons_succ]
                     go_big_quiet_on))
              refine wpQuiet_nil ?_
              intro W9 hw9
              have HV := Lib.hid hw9
              clear hw9 HU HT
              skip
              skip
              all_goals
                go_upto_region 13 with fail
                go_cut [] from 10 to 88 (fun wx => Hid (RS w wx w.heap.size [.int .i64 W, .string S2, .int .i64 K1, .slice a n c] [.int .i64 0, .string ⟨#[]⟩, .int .i64 0, .slice none 0 0] [.bool false, .bool false, .int .i64 0, .int .i64 0, .int .i64 0] [.bool true, .bool false, .int .i64 q, .int .i64 K1, .int .i64 rd1]))
                case first =>
                  have ch2 := HV.out.1.cell (i := 2) rfl
                  have cF0 := HV.out.2.2.2.1.free 0
                  have cF2 := HV.out.2.2.2.1.free 2
                  have cF3 := HV.out.2.2.2.1.free 3
                  have cf0 := HV.out.2.2.2.1.cell (i := 0) rfl
                  have cf2 := HV.out.2.2.2.1.cell (i := 2) rfl
                  have cf3 := HV.out.2.2.2.1.cell (i := 3) rfl
                  go_region
                  all_goals
                    go_wp2_with fail
                    go_meet
                    first
                      | exact Lib.hid (((HV.out.setF 0 (.bool true)).setF 2 (.int .i64 q)).setF 3 (.int .i64 K1))
                      | exact Lib.hid (((HV.out.setF 0 (.bool true)).setF 2 (.int .i64 q)).setF 3 (.int .i64 K1)).drew
                      | exact Lib.hid (((HV.out.setF 0 (.bool true)).setF 3 (.int .i64 K1)).setF 2 (.int .i64 q))
                      | exact Lib.hid (((HV.out.setF 0 (.bool true)).setF 3 (.int .i64 K1)).setF 2 (.int .i64 q)).drew
                      | exact Lib.hid (((HV.out.setF 2 (.int .i64 q)).setF 0 (.bool true)).setF 3 (.int .i64 K1))
                      | exact Lib.hid (((HV.out.setF 2 (.int .i64 q)).setF 0 (.bool true)).setF 3 (.int .i64 K1)).drew
                      | exact Lib.hid (((HV.out.setF 2 (.int .i64 q)).setF 3 (.int .i64 K1)).setF 0 (.bool true))
                      | exact Lib.hid (((HV.out.setF 2 (.int .i64 q)).setF 3 (.int .i64 K1)).setF 0 (.bool true)).drew
                      | exact Lib.hid (((HV.out.setF 3 (.int .i64 K1)).setF 0 (.bool true)).setF 2 (.int .i64 q))
                      | exact Lib.hid (((HV.out.setF 3 (.int .i64 K1)).setF 0 (.bool true)).setF 2 (.int .i64 q)).drew
                      | exact Lib.hid (((HV.out.setF 3 (.int .i64 K1)).setF 2 (.int .i64 q)).setF 0 (.bool true))
                      | exact Lib.hid (((HV.out.setF 3 (.int .i64 K1)).setF 2 (.int .i64 q)).setF 0 (.bool true)).drew
                case rest =>
                  have HC := hcut
                  clear HV hcut
                  obtain ⟨S9, hS9⟩ : ∃ S9, S2.extract K1 S2.size = S9 := ⟨_, rfl⟩
                  have ch1 := HC.out.1.cell (i := 1) rfl
                  have ch2 := HC.out.1.cell (i := 2) rfl
                  have cF1 := HC.out.1.free 1
                  have cF2 := HC.out.1.free 2
                  go_upto_region 15 with fail
                  clear ch1 ch2 cF1 cF2
                  have HX : Hid (RS w ((wc.setCell ⟨w.heap.size, 1, none⟩ (.string S9)).setCell ⟨w.heap.size, 2, none⟩ (.int .i64 0)) w.heap.size [.int .i64 W, .string S9, .int .i64 0, .slice a n c] [.int .i64 0, .string ⟨#[]⟩, .int .i64 0, .slice none 0 0] [.bool false, .bool false, .int .i64 0, .int .i64 0, .int .i64 0] [.bool true, .bool false, .int .i64 q, .int .i64 K1, .int .i64 rd1]) := Lib.hid ((HC.out.setH 1 (.string S9)).setH 2 (.int .i64 0))
                  revert HX
                  generalize ((wc.setCell ⟨w.heap.size, 1, none⟩ (.string S9)).setCell ⟨w.heap.size, 2, none⟩ (.int .i64 0)) = W10
                  intro HX
                  have HE : Hid (res = ⟨S2.data.toList.drop K1, 0, R2.data.toList, true, false, q, K1, rd1⟩) := Lib.hid (by
                    rw [← HR.out, ← HAT.out.2]
                    exact look_hit (by rw [bl_size]; have := HAT.out.2; omega) HAT.out.1)
                  have HS9 : Hid (S9.data.toList = S2.data.toList.drop K1) := Lib.hid (by rw [← hS9, list_extract1])
                  have ch0 := HX.out.1.cell (i := 0) rfl
                  have cFh0 := HX.out.1.free 0
                  have ch1 := HX.out.1.cell (i := 1) rfl
                  have cFh1 := HX.out.1.free 1
                  have ch2 := HX.out.1.cell (i := 2) rfl
                  have cFh2 := HX.out.1.free 2
                  have ch3 := HX.out.1.cell (i := 3) rfl
                  have cFh3 := HX.out.1.free 3
                  have cr0 := HX.out.2.1.cell (i := 0) rfl
                  have cFr0 := HX.out.2.1.free 0
                  have cr1 := HX.out.2.1.cell (i := 1) rfl
                  have cFr1 := HX.out.2.1.free 1
                  have cr2 := HX.out.2.1.cell (i := 2) rfl
                  have cFr2 := HX.out.2.1.free 2
                  have cr3 := HX.out.2.1.cell (i := 3) rfl
                  have cFr3 := HX.out.2.1.free 3
                  have cq0 := HX.out.2.2.1.cell (i := 0) rfl
                  have cFq0 := HX.out.2.2.1.free 0
                  have cq1 := HX.out.2.2.1.cell (i := 1) rfl
                  have cFq1 := HX.out.2.2.1.free 1
                  have cq2 := HX.out.2.2.1.cell (i := 2) rfl
                  have cFq2 := HX.out.2.2.1.free 2
                  have cq3 := HX.out.2.2.1.cell (i := 3) rfl
                  have cFq3 := HX.out.2.2.1.free 3
                  have cq4 := HX.out.2.2.1.cell (i := 4) rfl
                  have cFq4 := HX.out.2.2.1.free 4
                  have cf0 := HX.out.2.2.2.1.cell (i := 0) rfl
                  have cFf0 := HX.out.2.2.2.1.free 0
                  have cf1 := HX.out.2.2.2.1.cell (i := 1) rfl
                  have cFf1 := HX.out.2.2.2.1.free 1
                  have cf2 := HX.out.2.2.2.1.cell (i := 2) rfl
                  have cFf2 := HX.out.2.2.2.1.free 2
                  have cf3 := HX.out.2.2.2.1.cell (i := 3) rfl
                  have cFf3 := HX.out.2.2.2.1.free 3
                  have cf4 := HX.out.2.2.2.1.cell (i := 4) rfl
                  have cFf4 := HX.out.2.2.2.1.free 4
                  go_region
                  all_goals
                    go_wp2_with fail
                    first
                      | (have HZ := Lib.hid (((((((((HX.out.setR 0 (.int .i64 W)).setR 1 (.string S9)).setR 2 (.int .i64 0)).setR 3 (.slice a n c)).setQ 0 (.bool true)).setQ 1 (.bool false)).setQ 2 (.int .i64 q)).setQ 3 (.int .i64 K1)).setQ 4 (.int .i64 rd1)).drew; clear ch0 cFh0 ch1 cFh1 ch2 cFh2 ch3 cFh3 cr0 cFr0 cr1 cFr1 cr2 cFr2 cr3 cFr3 cq0 cFq0 cq1 cFq1 cq2 cFq2 cq3 cFq3 cq4 cFq4 cf0 cFf0 cf1 cFf1 cf2 cFf2 cf3 cFf3 cf4 cFf4; revert HZ; generalize ((((((((((W10.setCell ⟨w.heap.size + 1, 0, none⟩ (.int .i64 W)).setCell ⟨w.heap.size + 1, 1, none⟩ (.string S9)).setCell ⟨w.heap.size + 1, 2, none⟩ (.int .i64 0)).setCell ⟨w.heap.size + 1, 3, none⟩ (.slice a n c)).setCell ⟨w.heap.size + 2, 0, none⟩ (.bool true)).setCell ⟨w.heap.size + 2, 1, none⟩ (.bool false)).setCell ⟨w.heap.size + 2, 2, none⟩ (.int .i64 q)).setCell ⟨w.heap.size + 2, 3, none⟩ (.int .i64 K1)).setCell ⟨w.heap.size + 2, 4, none⟩ (.int .i64 rd1))).drew = WZ; intro HZ; have dh0 := HZ.out.1.cell (i := 0) rfl; have dFh0 := HZ.out.1.free 0; have dh1 := HZ.out.1.cell (i := 1) rfl; have dFh1 := HZ.out.1.free 1; have dh2 := HZ.out.1.cell (i := 2) rfl; have dFh2 := HZ.out.1.free 2; have dh3 := HZ.out.1.cell (i := 3) rfl; have dFh3 := HZ.out.1.free 3; have dr0 := HZ.out.2.1.cell (i := 0) rfl; have dFr0 := HZ.out.2.1.free 0; have dr1 := HZ.out.2.1.cell (i := 1) rfl; have dFr1 := HZ.out.2.1.free 1; have dr2 := HZ.out.2.1.cell (i := 2) rfl; have dFr2 := HZ.out.2.1.free 2; have dr3 := HZ.out.2.1.cell (i := 3) rfl; have dFr3 := HZ.out.2.1.free 3; have dq0 := HZ.out.2.2.1.cell (i := 0) rfl; have dFq0 := HZ.out.2.2.1.free 0; have dq1 := HZ.out.2.2.1.cell (i := 1) rfl; have dFq1 := HZ.out.2.2.1.free 1; have dq2 := HZ.out.2.2.1.cell (i := 2) rfl; have dFq2 := HZ.out.2.2.1.free 2; have dq3 := HZ.out.2.2.1.cell (i := 3) rfl; have dFq3 := HZ.out.2.2.1.free 3; have dq4 := HZ.out.2.2.1.cell (i := 4) rfl; have dFq4 := HZ.out.2.2.1.free 4; have df0 := HZ.out.2.2.2.1.cell (i := 0) rfl; have dFf0 := HZ.out.2.2.2.1.free 0; have df1 := HZ.out.2.2.2.1.cell (i := 1) rfl; have dFf1 := HZ.out.2.2.2.1.free 1; have df2 := HZ.out.2.2.2.1.cell (i := 2) rfl; have dFf2 := HZ.out.2.2.2.1.free 2; have df3 := HZ.out.2.2.2.1.cell (i := 3) rfl; have dFf3 := HZ.out.2.2.2.1.free 3; have df4 := HZ.out.2.2.2.1.cell (i := 4) rfl; have dFf4 := HZ.out.2.2.2.1.free 4; refine bodyPost_ret (v := .tuple #[.agg #[.int .i64 W, .string S9, .int .i64 0, .slice a n c], .string R2, .agg #[.bool true, .bool false, .int .i64 q, .int .i64 K1, .int .i64 rd1]]) (by simp [results, Try.results37, go_sem, dr0, dr1, dr2, dr3, dq0, dq1, dq2, dq3, dq4]) rfl ?_; exact ⟨S9, R2, by rw [HE.out]; rfl, by rw [HE.out]; exact HS9.out, by rw [HE.out], HZ.out.2.2.2.2.1⟩)
                      | (have HZ := Lib.hid (((((((((HX.out.setQ 0 (.bool true)).setQ 1 (.bool false)).setQ 2 (.int .i64 q)).setQ 3 (.int .i64 K1)).setQ 4 (.int .i64 rd1)).setR 0 (.int .i64 W)).setR 1 (.string S9)).setR 2 (.int .i64 0)).setR 3 (.slice a n c)).drew; clear ch0 cFh0 ch1 cFh1 ch2 cFh2 ch3 cFh3 cr0 cFr0 cr1 cFr1 cr2 cFr2 cr3 cFr3 cq0 cFq0 cq1 cFq1 cq2 cFq2 cq3 cFq3 cq4 cFq4 cf0 cFf0 cf1 cFf1 cf2 cFf2 cf3 cFf3 cf4 cFf4; revert HZ; generalize ((((((((((W10.setCell ⟨w.heap.size + 2, 0, none⟩ (.bool true)).setCell ⟨w.heap.size + 2, 1, none⟩ (.bool false)).setCell ⟨w.heap.size + 2, 2, none⟩ (.int .i64 q)).setCell ⟨w.heap.size + 2, 3, none⟩ (.int .i64 K1)).setCell ⟨w.heap.size + 2, 4, none⟩ (.int .i64 rd1)).setCell ⟨w.heap.size + 1, 0, none⟩ (.int .i64 W)).setCell ⟨w.heap.size + 1, 1, none⟩ (.string S9)).setCell ⟨w.heap.size + 1, 2, none⟩ (.int .i64 0)).setCell ⟨w.heap.size + 1, 3, none⟩ (.slice a n c))).drew = WZ; intro HZ; have dh0 := HZ.out.1.cell (i := 0) rfl; have dFh0 := HZ.out.1.free 0; have dh1 := HZ.out.1.cell (i := 1) rfl; have dFh1 := HZ.out.1.free 1; have dh2 := HZ.out.1.cell (i := 2) rfl; have dFh2 := HZ.out.1.free 2; have dh3 := HZ.out.1.cell (i := 3) rfl; have dFh3 := HZ.out.1.free 3; have dr0 := HZ.out.2.1.cell (i := 0) rfl; have dFr0 := HZ.out.2.1.free 0; have dr1 := HZ.out.2.1.cell (i := 1) rfl; have dFr1 := HZ.out.2.1.free 1; have dr2 := HZ.out.2.1.cell (i := 2) rfl; have dFr2 := HZ.out.2.1.free 2; have dr3 := HZ.out.2.1.cell (i := 3) rfl; have dFr3 := HZ.out.2.1.free 3; have dq0 := HZ.out.2.2.1.cell (i := 0) rfl; have dFq0 := HZ.out.2.2.1.free 0; have dq1 := HZ.out.2.2.1.cell (i := 1) rfl; have dFq1 := HZ.out.2.2.1.free 1; have dq2 := HZ.out.2.2.1.cell (i := 2) rfl; have dFq2 := HZ.out.2.2.1.free 2; have dq3 := HZ.out.2.2.1.cell (i := 3) rfl; have dFq3 := HZ.out.2.2.1.free 3; have dq4 := HZ.out.2.2.1.cell (i := 4) rfl; have dFq4 := HZ.out.2.2.1.free 4; have df0 := HZ.out.2.2.2.1.cell (i := 0) rfl; have dFf0 := HZ.out.2.2.2.1.free 0; have df1 := HZ.out.2.2.2.1.cell (i := 1) rfl; have dFf1 := HZ.out.2.2.2.1.free 1; have df2 := HZ.out.2.2.2.1.cell (i := 2) rfl; have dFf2 := HZ.out.2.2.2.1.free 2; have df3 := HZ.out.2.2.2.1.cell (i := 3) rfl; have dFf3 := HZ.out.2.2.2.1.free 3; have df4 := HZ.out.2.2.2.1.cell (i := 4) rfl; have dFf4 := HZ.out.2.2.2.1.free 4; refine bodyPost_ret (v := .tuple #[.agg #[.int .i64 W, .string S9, .int .i64 0, .slice a n c], .string R2, .agg #[.bool true, .bool false, .int .i64 q, .int .i64 K1, .int .i64 rd1]]) (by simp [results, Try.results37, go_sem, dr0, dr1, dr2, dr3, dq0, dq1, dq2, dq3, dq4]) rfl ?_; exact ⟨S9, R2, by rw [HE.out]; rfl, by rw [HE.out]; exact HS9.out, by rw [HE.out], HZ.out.2.2.2.2.1⟩)
            | false =>
              have v0 : ¬ (0 : Int) ≤ -1 := by omega
              refine wp_region_class (fun w' => RS w w' w.heap.size [.int .i64 W, .string S2, .int .i64 K1, .slice a n c] [.int .i64 0, .string ⟨#[]⟩, .int .i64 0, .slice none 0 0] [.bool false, .bool false, .int .i64 0, .int .i64 0, .int .i64 0] [.bool false, .bool false, .int .i64 0, .int .i64 0, .int .i64 rd1]) (by kernel_rfl) (by kernel_rfl) HU.out ?_
              repeat (first
                  | go_big_quiet_skip
                  | (go_big_quiet_want
                     unfold Oper.quiet
                     apply Exists.intro
                     refine ⟨fun wq hwq => ?_, ?_⟩
                     · (have e1 := hwq.1.cell (i := 1) rfl
                        have e2 := hwq.1.cell (i := 2) rfl
                        have e3 := hwq.1.cell (i := 3) rfl
                        unfold Oper.quietAt
                        go_simp
                        first
                          | exact ⟨rfl, hwq⟩
                          | exact rfl
                          | (go_at_call 61; refine (rk_here Ls n HG.out.2.1 hn3 a c s1 _ HF.out.2.2.2 HF.out.2.1 _ HF.out.2.2.1 q false HF.out.1 (-1) rfl _ (HG.out.1.below hwq.2.2.2.2.1)).mono ?_; rintro e w3 ⟨he, hb⟩; exact ⟨he, hwq.below hb⟩))
                     simp only [Act.put, List.setIfInBounds_toArray, List.set_cons_zero, List.set_cons_succ]
                     go_big_quiet_on))
              refine wpQuiet_nil ?_
              intro W9 hw9
              have HV := Lib.hid hw9
              clear hw9 HU HT
              all_goals
                go_wp2_with fail
                have hK1 := HAT.out.2
                go_roundg fu
                case measure => omega
                case rel => exact ⟨S2, R2, K1, rd1, rfl, by omega, by omega, by omega, by omega, by omega, Lib.hid (by rw [← HR.out, ← hK1]; exact (look_on (by rw [bl_size]; omega) HAT.out.1).symm), HV⟩
    · have i1 : ((K : Int) == (S.size : Int)) = false := by rw [beq_eq_false_iff_ne]; omega
      have i2 : ¬ (K : Int) = (S.size : Int) := by omega
      have ch1 := HS.out.1.cell (i := 1) rfl
      have ch2 := HS.out.1.cell (i := 2) rfl
      go_upto_region 10 with fail
      clear ch1 ch2 i1 i2
      obtain ⟨K1, hK1⟩ : ∃ K1, K + 1 = K1 := ⟨_, rfl⟩
      have k1 : (K : Int) + 1 = (K1 : Int) := by omega
      have k2 : IntKind.i64.wrap (K1 : Int) = (K1 : Int) := IntWalk.i64_in _ (by omega)
      have k3 : (K1 : Int) ≤ (S.size : Int) := by omega
      have k4 : (0 : Int) ≤ (K1 : Int) := by omega
      have k5 : K1 ≤ S.size := by omega
      have ch2 := HS.out.1.cell (i := 2) rfl
      have cF2 := HS.out.1.free 2
      have ch1 := HS.out.1.cell (i := 1) rfl
      have ch0 := HS.out.1.cell (i := 0) rfl
      go_upto_region 11 with fail
      clear ch2 cF2 ch1 ch0
      have HT : Hid (RS w (wr.setCell ⟨w.heap.size, 2, none⟩ (.int .i64 K1)) w.heap.size [.int .i64 W, .string S, .int .i64 K1, .slice a n c] [.int .i64 0, .string ⟨#[]⟩, .int .i64 0, .slice none 0 0] [.bool false, .bool false, .int .i64 0, .int .i64 0, .int .i64 0] [.bool false, .bool false, .int .i64 0, .int .i64 0, .int .i64 rd]) := Lib.hid (HS.out.setH 2 (.int .i64 K1))
      revert HT
      generalize (wr.setCell ⟨w.heap.size, 2, none⟩ (.int .i64 K1)) = W2
      intro HT
      have HU : Hid (RS w W2.drew w.heap.size [.int .i64 W, .string S, .int .i64 K1, .slice a n c] [.int .i64 0, .string ⟨#[]⟩, .int .i64 0, .slice none 0 0] [.bool false, .bool false, .int .i64 0, .int .i64 0, .int .i64 0] [.bool false, .bool false, .int .i64 0, .int .i64 0, .int .i64 rd]) := Lib.hid HT.out.drew
      obtain ⟨s1, hs1⟩ : ∃ s1, S.extract 0 K1 = s1 := ⟨_, rfl⟩
      have hz1 : s1.size ≤ 1000 := by rw [← hs1, ByteArray.size_extract]; omega
      have hl1 : s1.data.toList = S.data.toList.take K1 := by rw [← hs1, list_extract0]
      have hz2 : s1.size = K1 := by rw [← hs1, ByteArray.size_extract]; omega
      obtain ⟨q, ok, hF⟩ : ∃ q ok, Hd.F Ls (S.data.toList.take K1) K1 = (q, ok) := ⟨_, _, rfl⟩
      have hat : Hd.at Ls S.data.toList K = (q, ok) := by rw [at_here (by rw [bl_size]; omega), hK1]; exact hF
      have HF : Hid (Ar.fs (Ar.dn Ls (Ar.stk Ls (lgT (S.data.toList.take K1)) K1)) n = (q, ok) ∧ s1.data.toList = S.data.toList.take K1 ∧ (∀ i l, Ls[i]? = some l → Lg.occ l (S.data.toList.take K1) s1.size = Ar.dn Ls (Ar.stk Ls (lgT (S.data.toList.take K1)) K1) i) ∧ s1.size ≤ 1000) := Lib.hid ⟨by rw [← HG.out.2.1]; exact hF, hl1, by rw [hz2]; exact fun i l hi => dn_occ HG.out.2.2 _ K1 K1 i l (Nat.le_refl _) hi, hz1⟩
      have HAT := Lib.hid (And.intro hat hK1)
      clear hl1 hz2 hF hat hz1 hK1
      cases ok with
      | true =>
        have v0 : (0 : Int) ≤ (q : Int) := by omega
        refine wp_region_class (fun w' => RS w w' w.heap.size [.int .i64 W, .string S, .int .i64 K1, .slice a n c] [.int .i64 0, .string ⟨#[]⟩, .int .i64 0, .slice none 0 0] [.bool false, .bool false, .int .i64 0, .int .i64 0, .int .i64 0] [.bool false, .bool false, .int .i64 0, .int .i64 0, .int .i64 rd]) (by kernel_rfl) (by kernel_rfl) HU.out ?_
        repeat (first
            | go_big_quiet_skip
            | (go_big_quiet_want
               unfold Oper.quiet
               apply Exists.intro
               refine ⟨fun wq hwq => ?_, ?_⟩
               · (have e1 := hwq.1.cell (i := 1) rfl
                  have e2 := hwq.1.cell (i := 2) rfl
                  have e3 := hwq.1.cell (i := 3) rfl
                  unfold Oper.quietAt
                  go_simp
                  first
                    | exact ⟨rfl, hwq⟩
                    | exact rfl
                    | (go_at_call 61; refine (rk_here Ls n HG.out.2.1 hn3 a c s1 _ HF.out.2.2.2 HF.out.2.1 _ HF.out.2.2.1 q true HF.out.1 (q : Int) rfl _ (HG.out.1.below hwq.2.2.2.2.1)).mono ?_; rintro e w3 ⟨he, hb⟩; exact ⟨he, hwq.below hb⟩))
               simp only [Act.put, List.setIfInBounds_toArray, List.set_cons_zero, List.set_cons_succ]
               go_big_quiet_on))
        refine wpQuiet_nil ?_
        intro W9 hw9
        have HV := Lib.hid hw9
        clear hw9 HU HT
        skip
        skip
        all_goals
          go_upto_region 13 with fail
          go_cut [] from 10 to 88 (fun wx => Hid (RS w wx w.heap.size [.int .i64 W, .string S, .int .i64 K1, .slice a n c] [.int .i64 0, .string ⟨#[]⟩, .int .i64 0, .slice none 0 0] [.bool false, .bool false, .int .i64 0, .int .i64 0, .int .i64 0] [.bool true, .bool false, .int .i64 q, .int .i64 K1, .int .i64 rd]))
          case first =>
            have ch2 := HV.out.1.cell (i := 2) rfl
            have cF0 := HV.out.2.2.2.1.free 0
            have cF2 := HV.out.2.2.2.1.free 2
            have cF3 := HV.out.2.2.2.1.free 3
            have cf0 := HV.out.2.2.2.1.cell (i := 0) rfl
            have cf2 := HV.out.2.2.2.1.cell (i := 2) rfl
            have cf3 := HV.out.2.2.2.1.cell (i := 3) rfl
            go_region
            all_goals
              go_wp2_with fail
              go_meet
              first
                | exact Lib.hid (((HV.out.setF 0 (.bool true)).setF 2 (.int .i64 q)).setF 3 (.int .i64 K1))
                | exact Lib.hid (((HV.out.setF 0 (.bool true)).setF 2 (.int .i64 q)).setF 3 (.int .i64 K1)).drew
                | exact Lib.hid (((HV.out.setF 0 (.bool true)).setF 3 (.int .i64 K1)).setF 2 (.int .i64 q))
                | exact Lib.hid (((HV.out.setF 0 (.bool true)).setF 3 (.int .i64 K1)).setF 2 (.int .i64 q)).drew
                | exact Lib.hid (((HV.out.setF 2 (.int .i64 q)).setF 0 (.bool true)).setF 3 (.int .i64 K1))
                | exact Lib.hid (((HV.out.setF 2 (.int .i64 q)).setF 0 (.bool true)).setF 3 (.int .i64 K1)).drew
                | exact Lib.hid (((HV.out.setF 2 (.int .i64 q)).setF 3 (.int .i64 K1)).setF 0 (.bool true))
                | exact Lib.hid (((HV.out.setF 2 (.int .i64 q)).setF 3 (.int .i64 K1)).setF 0 (.bool true)).drew
                | exact Lib.hid (((HV.out.setF 3 (.int .i64 K1)).setF 0 (.bool true)).setF 2 (.int .i64 q))
                | exact Lib.hid (((HV.out.setF 3 (.int .i64 K1)).setF 0 (.bool true)).setF 2 (.int .i64 q)).drew
                | exact Lib.hid (((HV.out.setF 3 (.int .i64 K1)).setF 2 (.int .i64 q)).setF 0 (.bool true))
                | exact Lib.hid (((HV.out.setF 3 (.int .i64 K1)).setF 2 (.int .i64 q)).setF 0 (.bool true)).drew
          case rest =>
            have HC := hcut
            clear HV hcut
            obtain ⟨S9, hS9⟩ : ∃ S9, S.extract K1 S.size = S9 := ⟨_, rfl⟩
            have ch1 := HC.out.1.cell (i := 1) rfl
            have ch2 := HC.out.1.cell (i := 2) rfl
            have cF1 := HC.out.1.free 1
            have cF2 := HC.out.1.free 2
            go_upto_region 15 with fail
            clear ch1 ch2 cF1 cF2
            have HX : Hid (RS w ((wc.setCell ⟨w.heap.size, 1, none⟩ (.string S9)).setCell ⟨w.heap.size, 2, none⟩ (.int .i64 0)) w.heap.size [.int .i64 W, .string S9, .int .i64 0, .slice a n c] [.int .i64 0, .string ⟨#[]⟩, .int .i64 0, .slice none 0 0] [.bool false, .bool false, .int .i64 0, .int .i64 0, .int .i64 0] [.bool true, .bool false, .int .i64 q, .int .i64 K1, .int .i64 rd]) := Lib.hid ((HC.out.setH 1 (.string S9)).setH 2 (.int .i64 0))
            revert HX
            generalize ((wc.setCell ⟨w.heap.size, 1, none⟩ (.string S9)).setCell ⟨w.heap.size, 2, none⟩ (.int .i64 0)) = W10
            intro HX
            have HE : Hid (res = ⟨S.data.toList.drop K1, 0, R.data.toList, true, false, q, K1, rd⟩) := Lib.hid (by
              rw [← HR.out, ← HAT.out.2]
              exact look_hit (by rw [bl_size]; have := HAT.out.2; omega) HAT.out.1)
            have HS9 : Hid (S9.data.toList = S.data.toList.drop K1) := Lib.hid (by rw [← hS9, list_extract1])
            have ch0 := HX.out.1.cell (i := 0) rfl
            have cFh0 := HX.out.1.free 0
            have ch1 := HX.out.1.cell (i := 1) rfl
            have cFh1 := HX.out.1.free 1
            have ch2 := HX.out.1.cell (i := 2) rfl
            have cFh2 := HX.out.1.free 2
            have ch3 := HX.out.1.cell (i := 3) rfl
            have cFh3 := HX.out.1.free 3
            have cr0 := HX.out.2.1.cell (i := 0) rfl
            have cFr0 := HX.out.2.1.free 0
            have cr1 := HX.out.2.1.cell (i := 1) rfl
            have cFr1 := HX.out.2.1.free 1
            have cr2 := HX.out.2.1.cell (i := 2) rfl
            have cFr2 := HX.out.2.1.free 2
            have cr3 := HX.out.2.1.cell (i := 3) rfl
            have cFr3 := HX.out.2.1.free 3
            have cq0 := HX.out.2.2.1.cell (i := 0) rfl
            have cFq0 := HX.out.2.2.1.free 0
            have cq1 := HX.out.2.2.1.cell (i := 1) rfl
            have cFq1 := HX.out.2.2.1.free 1
            have cq2 := HX.out.2.2.1.cell (i := 2) rfl
            have cFq2 := HX.out.2.2.1.free 2
            have cq3 := HX.out.2.2.1.cell (i := 3) rfl
            have cFq3 := HX.out.2.2.1.free 3
            have cq4 := HX.out.2.2.1.cell (i := 4) rfl
            have cFq4 := HX.out.2.2.1.free 4
            have cf0 := HX.out.2.2.2.1.cell (i := 0) rfl
            have cFf0 := HX.out.2.2.2.1.free 0
            have cf1 := HX.out.2.2.2.1.cell (i := 1) rfl
            have cFf1 := HX.out.2.2.2.1.free 1
            have cf2 := HX.out.2.2.2.1.cell (i := 2) rfl
            have cFf2 := HX.out.2.2.2.1.free 2
            have cf3 := HX.out.2.2.2.1.cell (i := 3) rfl
            have cFf3 := HX.out.2.2.2.1.free 3
            have cf4 := HX.out.2.2.2.1.cell (i := 4) rfl
            have cFf4 := HX.out.2.2.2.1.free 4
            go_region
            all_goals
              go_wp2_with fail
              first
                | (have HZ := Lib.hid (((((((((HX.out.setR 0 (.int .i64 W)).setR 1 (.string S9)).setR 2 (.int .i64 0)).setR 3 (.slice a n c)).setQ 0 (.bool true)).setQ 1 (.bool false)).setQ 2 (.int .i64 q)).setQ 3 (.int .i64 K1)).setQ 4 (.int .i64 rd)).drew; clear ch0 cFh0 ch1 cFh1 ch2 cFh2 ch3 cFh3 cr0 cFr0 cr1 cFr1 cr2 cFr2 cr3 cFr3 cq0 cFq0 cq1 cFq1 cq2 cFq2 cq3 cFq3 cq4 cFq4 cf0 cFf0 cf1 cFf1 cf2 cFf2 cf3 cFf3 cf4 cFf4; revert HZ; generalize ((((((((((W10.setCell ⟨w.heap.size + 1, 0, none⟩ (.int .i64 W)).setCell ⟨w.heap.size + 1, 1, none⟩ (.string S9)).setCell ⟨w.heap.size + 1, 2, none⟩ (.int .i64 0)).setCell ⟨w.heap.size + 1, 3, none⟩ (.slice a n c)).setCell ⟨w.heap.size + 2, 0, none⟩ (.bool true)).setCell ⟨w.heap.size + 2, 1, none⟩ (.bool false)).setCell ⟨w.heap.size + 2, 2, none⟩ (.int .i64 q)).setCell ⟨w.heap.size + 2, 3, none⟩ (.int .i64 K1)).setCell ⟨w.heap.size + 2, 4, none⟩ (.int .i64 rd))).drew = WZ; intro HZ; have dh0 := HZ.out.1.cell (i := 0) rfl; have dFh0 := HZ.out.1.free 0; have dh1 := HZ.out.1.cell (i := 1) rfl; have dFh1 := HZ.out.1.free 1; have dh2 := HZ.out.1.cell (i := 2) rfl; have dFh2 := HZ.out.1.free 2; have dh3 := HZ.out.1.cell (i := 3) rfl; have dFh3 := HZ.out.1.free 3; have dr0 := HZ.out.2.1.cell (i := 0) rfl; have dFr0 := HZ.out.2.1.free 0; have dr1 := HZ.out.2.1.cell (i := 1) rfl; have dFr1 := HZ.out.2.1.free 1; have dr2 := HZ.out.2.1.cell (i := 2) rfl; have dFr2 := HZ.out.2.1.free 2; have dr3 := HZ.out.2.1.cell (i := 3) rfl; have dFr3 := HZ.out.2.1.free 3; have dq0 := HZ.out.2.2.1.cell (i := 0) rfl; have dFq0 := HZ.out.2.2.1.free 0; have dq1 := HZ.out.2.2.1.cell (i := 1) rfl; have dFq1 := HZ.out.2.2.1.free 1; have dq2 := HZ.out.2.2.1.cell (i := 2) rfl; have dFq2 := HZ.out.2.2.1.free 2; have dq3 := HZ.out.2.2.1.cell (i := 3) rfl; have dFq3 := HZ.out.2.2.1.free 3; have dq4 := HZ.out.2.2.1.cell (i := 4) rfl; have dFq4 := HZ.out.2.2.1.free 4; have df0 := HZ.out.2.2.2.1.cell (i := 0) rfl; have dFf0 := HZ.out.2.2.2.1.free 0; have df1 := HZ.out.2.2.2.1.cell (i := 1) rfl; have dFf1 := HZ.out.2.2.2.1.free 1; have df2 := HZ.out.2.2.2.1.cell (i := 2) rfl; have dFf2 := HZ.out.2.2.2.1.free 2; have df3 := HZ.out.2.2.2.1.cell (i := 3) rfl; have dFf3 := HZ.out.2.2.2.1.free 3; have df4 := HZ.out.2.2.2.1.cell (i := 4) rfl; have dFf4 := HZ.out.2.2.2.1.free 4; refine bodyPost_ret (v := .tuple #[.agg #[.int .i64 W, .string S9, .int .i64 0, .slice a n c], .string R, .agg #[.bool true, .bool false, .int .i64 q, .int .i64 K1, .int .i64 rd]]) (by simp [results, Try.results37, go_sem, dr0, dr1, dr2, dr3, dq0, dq1, dq2, dq3, dq4]) rfl ?_; exact ⟨S9, R, by rw [HE.out]; rfl, by rw [HE.out]; exact HS9.out, by rw [HE.out], HZ.out.2.2.2.2.1⟩)
                | (have HZ := Lib.hid (((((((((HX.out.setQ 0 (.bool true)).setQ 1 (.bool false)).setQ 2 (.int .i64 q)).setQ 3 (.int .i64 K1)).setQ 4 (.int .i64 rd)).setR 0 (.int .i64 W)).setR 1 (.string S9)).setR 2 (.int .i64 0)).setR 3 (.slice a n c)).drew; clear ch0 cFh0 ch1 cFh1 ch2 cFh2 ch3 cFh3 cr0 cFr0 cr1 cFr1 cr2 cFr2 cr3 cFr3 cq0 cFq0 cq1 cFq1 cq2 cFq2 cq3 cFq3 cq4 cFq4 cf0 cFf0 cf1 cFf1 cf2 cFf2 cf3 cFf3 cf4 cFf4; revert HZ; generalize ((((((((((W10.setCell ⟨w.heap.size + 2, 0, none⟩ (.bool true)).setCell ⟨w.heap.size + 2, 1, none⟩ (.bool false)).setCell ⟨w.heap.size + 2, 2, none⟩ (.int .i64 q)).setCell ⟨w.heap.size + 2, 3, none⟩ (.int .i64 K1)).setCell ⟨w.heap.size + 2, 4, none⟩ (.int .i64 rd)).setCell ⟨w.heap.size + 1, 0, none⟩ (.int .i64 W)).setCell ⟨w.heap.size + 1, 1, none⟩ (.string S9)).setCell ⟨w.heap.size + 1, 2, none⟩ (.int .i64 0)).setCell ⟨w.heap.size + 1, 3, none⟩ (.slice a n c))).drew = WZ; intro HZ; have dh0 := HZ.out.1.cell (i := 0) rfl; have dFh0 := HZ.out.1.free 0; have dh1 := HZ.out.1.cell (i := 1) rfl; have dFh1 := HZ.out.1.free 1; have dh2 := HZ.out.1.cell (i := 2) rfl; have dFh2 := HZ.out.1.free 2; have dh3 := HZ.out.1.cell (i := 3) rfl; have dFh3 := HZ.out.1.free 3; have dr0 := HZ.out.2.1.cell (i := 0) rfl; have dFr0 := HZ.out.2.1.free 0; have dr1 := HZ.out.2.1.cell (i := 1) rfl; have dFr1 := HZ.out.2.1.free 1; have dr2 := HZ.out.2.1.cell (i := 2) rfl; have dFr2 := HZ.out.2.1.free 2; have dr3 := HZ.out.2.1.cell (i := 3) rfl; have dFr3 := HZ.out.2.1.free 3; have dq0 := HZ.out.2.2.1.cell (i := 0) rfl; have dFq0 := HZ.out.2.2.1.free 0; have dq1 := HZ.out.2.2.1.cell (i := 1) rfl; have dFq1 := HZ.out.2.2.1.free 1; have dq2 := HZ.out.2.2.1.cell (i := 2) rfl; have dFq2 := HZ.out.2.2.1.free 2; have dq3 := HZ.out.2.2.1.cell (i := 3) rfl; have dFq3 := HZ.out.2.2.1.free 3; have dq4 := HZ.out.2.2.1.cell (i := 4) rfl; have dFq4 := HZ.out.2.2.1.free 4; have df0 := HZ.out.2.2.2.1.cell (i := 0) rfl; have dFf0 := HZ.out.2.2.2.1.free 0; have df1 := HZ.out.2.2.2.1.cell (i := 1) rfl; have dFf1 := HZ.out.2.2.2.1.free 1; have df2 := HZ.out.2.2.2.1.cell (i := 2) rfl; have dFf2 := HZ.out.2.2.2.1.free 2; have df3 := HZ.out.2.2.2.1.cell (i := 3) rfl; have dFf3 := HZ.out.2.2.2.1.free 3; have df4 := HZ.out.2.2.2.1.cell (i := 4) rfl; have dFf4 := HZ.out.2.2.2.1.free 4; refine bodyPost_ret (v := .tuple #[.agg #[.int .i64 W, .string S9, .int .i64 0, .slice a n c], .string R, .agg #[.bool true, .bool false, .int .i64 q, .int .i64 K1, .int .i64 rd]]) (by simp [results, Try.results37, go_sem, dr0, dr1, dr2, dr3, dq0, dq1, dq2, dq3, dq4]) rfl ?_; exact ⟨S9, R, by rw [HE.out]; rfl, by rw [HE.out]; exact HS9.out, by rw [HE.out], HZ.out.2.2.2.2.1⟩)
      | false =>
        have v0 : ¬ (0 : Int) ≤ -1 := by omega
        refine wp_region_class (fun w' => RS w w' w.heap.size [.int .i64 W, .string S, .int .i64 K1, .slice a n c] [.int .i64 0, .string ⟨#[]⟩, .int .i64 0, .slice none 0 0] [.bool false, .bool false, .int .i64 0, .int .i64 0, .int .i64 0] [.bool false, .bool false, .int .i64 0, .int .i64 0, .int .i64 rd]) (by kernel_rfl) (by kernel_rfl) HU.out ?_
        repeat (first
            | go_big_quiet_skip
            | (go_big_quiet_want
               unfold Oper.quiet
               apply Exists.intro
               refine ⟨fun wq hwq => ?_, ?_⟩
               · (have e1 := hwq.1.cell (i := 1) rfl
                  have e2 := hwq.1.cell (i := 2) rfl
                  have e3 := hwq.1.cell (i := 3) rfl
                  unfold Oper.quietAt
                  go_simp
                  first
                    | exact ⟨rfl, hwq⟩
                    | exact rfl
                    | (go_at_call 61; refine (rk_here Ls n HG.out.2.1 hn3 a c s1 _ HF.out.2.2.2 HF.out.2.1 _ HF.out.2.2.1 q false HF.out.1 (-1) rfl _ (HG.out.1.below hwq.2.2.2.2.1)).mono ?_; rintro e w3 ⟨he, hb⟩; exact ⟨he, hwq.below hb⟩))
               simp only [Act.put, List.setIfInBounds_toArray, List.set_cons_zero, List.set_cons_succ]
               go_big_quiet_on))
        refine wpQuiet_nil ?_
        intro W9 hw9
        have HV := Lib.hid hw9
        clear hw9 HU HT
        all_goals
          go_wp2_with fail
          have hK1 := HAT.out.2
          go_roundg fu
          case measure => omega
          case rel => exact ⟨S, R, K1, rd, rfl, by omega, by omega, by omega, by omega, by omega, Lib.hid (by rw [← HR.out, ← hK1]; exact (look_on (by rw [bl_size]; omega) HAT.out.1).symm), HV⟩
end Go.Proofs.Ytbdjcppkfihonaa
/- Arms: the document's New, with the types of what it makes. -/
namespace Go.Proofs.Ytbdjcppkfihonaa
open Go.ChangeShapes Go.WideShapes Go.ChangeAt Go.RowKit
set_option linter.unusedSimpArgs false
set_option linter.unusedVariables false

theorem blk_typ {w : World} {b : Nat} {cs cs2 : List Value} {U T : TypeId} (h : Blk w b cs U) (h2 : Blk w b cs2 T) : U = T := by
  unfold Blk at h h2
  rw [h] at h2
  have := Option.some.inj h2
  injection this with a b
/-- Items by value, in a block of items. -/
def IKT (w : World) (a : Option Addr) (l : List (Bool × BitVec 256)) : Prop := IK w a l ∧ ∀ g, a = some ⟨g, 0, none⟩ → ∃ cs, Blk w g cs 158
theorem IKT.chg {w w' : World} {a : Option Addr} {l : List (Bool × BitVec 256)} (h : IKT w a l) {L : List Nat} (k : Chg L w w') (hL : ∀ y ∈ L, ∀ cs, ¬ Blk w y cs 158) : IKT w' a l := by
  have hn : ∀ g, a = some ⟨g, 0, none⟩ → g ∉ L := fun g e hg => by
    obtain ⟨cs, hc⟩ := h.2 g e
    exact hL g hg cs hc
  refine ⟨⟨?_, h.1.2⟩, fun g e => ?_⟩
  · rcases h.1.1 with e | ⟨b, e, h1, h2⟩
    · exact Or.inl e
    · refine Or.inr ⟨b, e, Nat.lt_of_lt_of_le h1 k.size, fun i v hi => ?_⟩
      rw [← h2 i v hi]
      exact k.cell h1 (hn b e)
  · obtain ⟨cs, hc⟩ := h.2 g e
    exact ⟨cs, hc.chg k (hn g e)⟩
theorem IKT.below {w w' : World} {a : Option Addr} {l : List (Bool × BitVec 256)} (h : IKT w a l) (k : Below w.heap.size w w') : IKT w' a l := h.chg (Chg.of_fresh (l := []) k) (by simp)
theorem IKT.ia {w : World} {a : Option Addr} {l : List (Bool × BitVec 256)} (h : IKT w a l) : IA w a l := h.1.ia
theorem own_ikT {w : World} {base : Nat} {v : Value} {n : Nat} {l : List (Bool × BitVec 256)} (h : w.ownsRow base 158 5 v n (its l)) : ∃ a c, v = .slice a l.length c ∧ IKT w a l := by
  obtain ⟨a, c, hv, hl⟩ := own_ik h
  refine ⟨a, c, hv, hl, fun g e => ?_⟩
  rcases h.2 with ⟨h1, h2⟩ | ⟨g', cap, cur, h1, h2, h3, h4⟩
  · rw [h1] at hv; injection hv with e1; rw [e] at e1; cases e1
  · rw [h1, e] at hv
    injection hv with e1
    injection e1 with e1
    injection e1 with e1
    subst e1
    exact ⟨cur.toList, by unfold Blk; exact h3⟩
/-- Lists of items, each in a block of items, in a row of such. -/
def LLT (w : World) (a : Option Addr) (A : List (List (Bool × BitVec 256))) : Prop := ∀ i l, A[i]? = some l → l.length ≤ 1000 ∧ ∃ g ai ci cs, a = some ⟨g, 0, none⟩ ∧ Blk w g cs 119 ∧ w.cell? ⟨g, 0 + i, none⟩ = some (.slice ai l.length ci) ∧ IKT w ai l
theorem LLT.ll {w : World} {a : Option Addr} {A : List (List (Bool × BitVec 256))} (h : LLT w a A) : LL w a A := fun i l hi => by
  obtain ⟨h0, g, ai, ci, cs, h1, h2, h3, h4⟩ := h i l hi
  exact ⟨h0, g, 0, ai, ci, h1, h2.lt, h3, h4.1⟩
theorem LLT.chg {w w' : World} {a : Option Addr} {A : List (List (Bool × BitVec 256))} (h : LLT w a A) {L : List Nat} (k : Chg L w w') (hL : ∀ y ∈ L, ∀ cs, ¬ Blk w y cs 158 ∧ ¬ Blk w y cs 119) : LLT w' a A := fun i l hi => by
  obtain ⟨h0, g, ai, ci, cs, h1, h2, h3, h4⟩ := h i l hi
  have hg : g ∉ L := fun e => (hL g e cs).2 h2
  exact ⟨h0, g, ai, ci, cs, h1, h2.chg k hg, by rw [← h3]; exact k.cell h2.lt hg, h4.chg k fun y hy cs => (hL y hy cs).1⟩
theorem LLT.below {w w' : World} {a : Option Addr} {A : List (List (Bool × BitVec 256))} (h : LLT w a A) (k : Below w.heap.size w w') : LLT w' a A := h.chg (Chg.of_fresh (l := []) k) (by simp)
theorem LLT.nil (w : World) (a : Option Addr) : LLT w a [] := fun i l hi => by simp at hi
set_option maxRecDepth 20000 in
set_option maxHeartbeats 8000000 in
theorem rk_okT (hC : ∀ (s : ByteArray) (l : List UInt8), s.size ≤ 1000000 → s.data.toList = l → ∀ (X : BitVec 256) (n e : Nat), Cs.rdC l = (X, n, e) → ∀ w, Calls Try.prog 94 #[.string s] w fun r w' => r = .returned (.tuple #[Cs.sv X, .int .i64 n, .int .i64 e]) ∧ Below w.heap.size w w')
    (s : ByteArray) (l : List UInt8) (hs : s.size ≤ 1000000) (h : s.data.toList = l) (R : List (Bool × BitVec 256)) (p q : Nat) (hr : Cs.rdG (l.length + 1) l 0 [] = (R, p, q)) (hq : q = 0) (m : Nat) (hm : Lg.least R = m) (hm0 : decide (m = 0) = false) (w : World) :
    Calls Try.prog 67 #[.string s] w fun e w' => ∃ a c, e = .returned (.tuple #[.slice a R.length c, .int .i64 0, .int .i64 0]) ∧ IKT w' a R ∧ Below w.heap.size w w' := by
  subst hq
  obtain rfl : p = 0 := by have := rdG_zero (l.length + 1) l 0 []; rw [hr] at this; exact this rfl
  have hg : goodB R = true := by
    have := rdG_good (l.length + 1) l 0 [] (by simp) okI_nil
    rw [hr] at this; exact this
  have hn6 : R.length ≤ 1000000 := by have := (goodB_ok hg).2; omega
  obtain ⟨n, hn⟩ : ∃ n, R.length = n := ⟨_, rfl⟩
  have HCd := Lib.hid hC
  have HS := Lib.hid (And.intro hs (And.intro h hr))
  have hmz : m ≠ 0 := of_decide_eq_false hm0
  have hmI : ((m : Int) == 0) = false := by rw [beq_eq_false_iff_ne]; omega
  have HN := Lib.hid (And.intro hn (And.intro hg (And.intro hm hm0)))
  rw [hn] at hn6
  rw [hn]
  clear hs h hr hg hn hm hm0 hC
  go_enter Try.func67, Try.ntmps67
  go_wp2_with (first
    | (go_at_call 84; with_reducible refine (rg_rdG HCd.out s l HS.out.1 HS.out.2.1 R 0 0 HS.out.2.2 _).mono ?_; rintro e W1 ⟨v, rfl, h1, hb1⟩; obtain ⟨a, c, rfl, h3⟩ := own_ikT h1; rw [HN.out.1]; have HB := Lib.hid (And.intro h3 hb1); clear h1 h3 hb1)
    | (go_at_call 85; with_reducible refine (rg_least R m HN.out.2.2.1 n a c HN.out.1 hn6 _ HB.out.1.ia).mono ?_; rintro e W2 ⟨rfl, hb1⟩; replace HB := Lib.hid (And.intro (HB.out.1.below hb1) (HB.out.2.trans (hb1.mono HB.out.2.size))); clear hb1))
  go_ret3
  exact ⟨_, _, rfl, HB.out.1, HB.out.2⟩
theorem rk_goodT (hC : ∀ (s : ByteArray) (l : List UInt8), s.size ≤ 1000000 → s.data.toList = l → ∀ (X : BitVec 256) (n e : Nat), Cs.rdC l = (X, n, e) → ∀ w, Calls Try.prog 94 #[.string s] w fun r w' => r = .returned (.tuple #[Cs.sv X, .int .i64 n, .int .i64 e]) ∧ Below w.heap.size w w')
    (s : ByteArray) (hs : s.size ≤ 1000000) (he : Ar.ck s = 0) (w : World) :
    Calls Try.prog 67 #[.string s] w fun r w' => ∃ a c, r = .returned (.tuple #[.slice a (Ar.pat s).length c, .int .i64 0, .int .i64 0]) ∧ IKT w' a (Ar.pat s) ∧ Below w.heap.size w w' :=
  rk_okT hC s _ hs rfl _ 0 0 (ck_ok he) rfl _ rfl (ck_zero he).2.1 w
/-- A row of patterns half made. -/
def LNT (w w' : World) (g c k : Nat) (vs : List Value) (Ls : List (List (Bool × BitVec 256))) : Prop := Rw w' g c vs 119 ∧ vs.length = k ∧ (vs = [] → c = 0) ∧ (∀ (i : Nat) (v : Value), vs[i]? = some v → ∃ r n c, v = .slice r n c) ∧ (∀ (i : Nat) (l : List (Bool × BitVec 256)), i < k → Ls[i]? = some l → ∃ ai ci, vs[i]? = some (.slice ai l.length ci) ∧ IKT w' ai l) ∧ w.heap.size ≤ g ∧ Below w.heap.size w w'
theorem LNT.below {w w' v : World} {g c k : Nat} {vs : List Value} {Ls : List (List (Bool × BitVec 256))} (h : LNT w w' g c k vs Ls) (q : Below w'.heap.size w' v) : LNT w v g c k vs Ls := by
  obtain ⟨h1, h2, h3, h4, h5, h6, h7⟩ := h
  exact ⟨h1.chg (Chg.of_fresh (l := []) q) (by simp), h2, h3, h4, fun i l hi hl => by obtain ⟨ai, ci, z1, z2⟩ := h5 i l hi hl; exact ⟨ai, ci, z1, z2.below q⟩, h6, h7.trans (q.mono h7.size)⟩
theorem LNT.app {w w' v : World} {g c k : Nat} {vs : List Value} {Ls : List (List (Bool × BitVec 256))} (h : LNT w w' g c k vs Ls) {l : List (Bool × BitVec 256)} {ai : Option Addr} {ci : Nat} (hl : Ls[k]? = some l) (hk : IKT w' ai l) {g' c' : Nat} (q1 : Rw v g' c' (vs ++ [.slice ai l.length ci]) 119) (q2 : g' = g ∨ w'.heap.size ≤ g') (q3 : Chg [g] w' v) : LNT w v g' c' (k + 1) (vs ++ [.slice ai l.length ci]) Ls := by
  obtain ⟨h1, h2, h3, h4, h5, h6, h7⟩ := h
  have hsz := h7.size
  have hap := fun {a : Option Addr} {l : List (Bool × BitVec 256)} (z : IKT w' a l) => z.chg q3 (fun y hy cs hc => by simp at hy; subst hy; obtain ⟨_, _, _, z3⟩ := h1; exact absurd (blk_typ hc z3) (by decide))
  refine ⟨q1, by simp [h2], fun e => by simp at e, ?_, ?_, by omega, Chg.onto h7 q3 hsz (by simp; omega)⟩
  · intro i u hi
    rw [List.getElem?_append] at hi
    split at hi
    · exact h4 i u hi
    · have hm := List.mem_of_getElem? hi
      simp at hm
      exact ⟨_, _, _, hm⟩
  · intro i l' hi hl'
    by_cases e : i = k
    · subst e
      rw [hl] at hl'
      injection hl' with hl'
      subst hl'
      exact ⟨ai, ci, by rw [List.getElem?_append_right (by omega), h2]; simp, hap hk⟩
    · obtain ⟨aj, cj, z1, z2⟩ := h5 i l' (by omega) hl'
      exact ⟨aj, cj, by rw [List.getElem?_append_left (by omega)]; exact z1, hap z2⟩
theorem LNT.done {w w' : World} {g c n : Nat} {vs : List Value} {Ls : List (List (Bool × BitVec 256))} (h : LNT w w' g c n vs Ls) (hn : Ls.length = n) (h60 : ∀ l ∈ Ls, l.length ≤ 62)   : LLT w' (some ⟨g, 0, none⟩) Ls := fun i l hi => by
  obtain ⟨h1, h2, h3, h4, h5, h6, h7⟩ := h
  have hlt : i < Ls.length := by
    rcases Nat.lt_or_ge i Ls.length with h | h
    · exact h
    · rw [List.getElem?_eq_none h] at hi; cases hi
  obtain ⟨ai, ci, z1, z2⟩ := h5 i l (by omega) hi
  have := h60 l (List.mem_of_getElem? hi)
  obtain ⟨rest, q1, q2, q3⟩ := h1
  have hr : Rw w' g c vs 119 := ⟨rest, q1, q2, q3⟩
  refine ⟨by omega, g, ai, ci, _, rfl, q3, ?_, z2⟩
  rw [Nat.zero_add]
  exact hr.cell z1
/-- What the document's New tells. -/
def Ar.NewQT (ss : List ByteArray) (n K e : Nat) (w : World) (r : Ending) (w' : World) : Prop := Below w.heap.size w w' ∧ ((e ≠ 0 ∧ r = .returned (.tuple #[.slice none 0 0, .int .i64 K, .int .i64 e])) ∨ (e = 0 ∧ ∃ g c, r = .returned (.tuple #[.slice (some ⟨g, 0, none⟩) n c, .int .i64 0, .int .i64 0]) ∧ w.heap.size ≤ g ∧ LLT w' (some ⟨g, 0, none⟩) (ss.map Ar.pat)))
set_option maxRecDepth 20000 in
set_option maxHeartbeats 8000000 in
theorem rk_newT (hC : ∀ (s : ByteArray) (l : List UInt8), s.size ≤ 1000000 → s.data.toList = l → ∀ (X : BitVec 256) (n e : Nat), Cs.rdC l = (X, n, e) → ∀ w, Calls Try.prog 94 #[.string s] w fun r w' => r = .returned (.tuple #[Cs.sv X, .int .i64 n, .int .i64 e]) ∧ Below w.heap.size w w')
    (ss : List ByteArray) (n : Nat) (hn : ss.length = n) (hn8 : n ≤ 8) (a : Option Addr) (c : Nat) (hs : ∀ s ∈ ss, s.size ≤ 1000000) (K e : Nat) (hr : Ar.nw ss n = (K, e)) (w : World) (hI : TX w a ss) :
    Calls Try.prog 48 #[.slice a n c] w fun r w' => Ar.NewQT ss n K e w r w' := by
  have HCd := Lib.hid hC
  have HG := Lib.hid (And.intro hI hn)
  have HS := Lib.hid (And.intro hs hr)
  have i1 : ¬ (8 : Int) < (n : Int) := by omega
  have H1 : Hid (LNT w (w.alloc (.cells #[] 119)) w.heap.size 0 0 [] (ss.map Ar.pat)) := Lib.hid ⟨Rw.empty w 119, rfl, fun _ => rfl, by intro i v hi; simp at hi, by intro i l hi; omega, Nat.le_refl _, (Below.refl _ _).alloc (Nat.le_refl _) _⟩
  clear hI hn hs hr hC
  go_enter Try.func48, Try.ntmps48
  go_upto_region 2 with fail
  revert H1
  generalize w.alloc (.cells #[] 119) = V1
  intro H1
  go_wp2_with fail
  go_loopw [5, 6, 7, 8, 9] (fun v i _ _ _ wr => ∃ (k g c' : Nat) (vs : List Value), v = .slice (some ⟨g, 0, none⟩) k c' ∧ i = .int .i64 k ∧ k ≤ n ∧ Hid (∀ i s, i < k → ss[i]? = some s → Ar.ck s = 0) ∧ Hid (LNT w wr g c' k vs (ss.map Ar.pat))) (fun _ i _ _ _ _ => n - (intOf i).toNat)
  case atStart => exact ⟨0, w.heap.size, 0, [], rfl, rfl, by omega, Lib.hid (fun i s hi => by omega), H1⟩
  case round =>
    clear H1
    obtain ⟨k, g, c', vs, rfl, rfl, hk, HF, HB⟩ := hrel
    have k0 : (0 : Int) ≤ (k : Int) := by omega
    by_cases hkl : k < n
    · have i2 : (k : Int) < (n : Int) := by omega
      obtain ⟨s, hsk⟩ : ∃ s, ss[k]? = some s := ⟨_, List.getElem?_eq_getElem (by rw [HG.out.2]; exact hkl)⟩
      have hs6 : s.size ≤ 1000000 := HS.out.1 s (List.mem_of_getElem? hsk)
      obtain ⟨hsm, gi, o, ha, hgi, cp⟩ := (HG.out.1.below HB.out.2.2.2.2.2.2) k s hsk
      subst ha
      obtain ⟨q, hq⟩ : ∃ q, Ar.ck s = q := ⟨_, rfl⟩
      by_cases hq0 : q = 0
      · subst hq0
        have HE : Hid (Ar.ck s = 0 ∧ (ss.map Ar.pat)[k]? = some (Ar.pat s)) := Lib.hid ⟨hq, by simp [hsk]⟩
        have HF2 : Hid (∀ i s, i < k + 1 → ss[i]? = some s → Ar.ck s = 0) := Lib.hid (fun i t hi ht => by
          by_cases e : i = k
          · rw [e, hsk] at ht; injection ht with ht; rw [← ht]; exact hq
          · exact HF.out i t (by omega) ht)
        have w1 : IntKind.i64.wrap ((k : Int) + 1) = (k : Int) + 1 := IntWalk.i64_in _ (by omega)
        clear hsk hgi hq
        go_wp2_with (first
          | (go_at_call 67; with_reducible refine (rk_goodT HCd.out s hs6 HE.out.1 _).mono ?_; rintro _ W1 ⟨ai, ci, rfl, h1, hb1⟩; have HN := Lib.hid (And.intro h1 (HB.out.below hb1)); clear h1 hb1)
          | (at_builtin; refine wpList_append_rw _ rfl (.tmp 33) (.tmp 35) 59 59 rfl 119 (.slice none 0 0) 24 Try.underlying59 infoit rfl g k c' vs rfl HN.out.2.2.1 (HN.out.2.1.chg ((Chg.refl [] _).alloc _) (by simp)) _ rfl 1 _ (Src.ofSlice _ Try.underlying59 ⟨_, 0, none⟩ 1 1 [.slice ai (Ar.pat s).length ci] rfl (one_new _ _ _) (one_sl _ _ _)) (by omega) (by omega) ?_; intro g4 c4 w4 r1 r2 r3; have HQ : Hid (LNT w w4 g4 c4 (k + 1) (vs ++ [.slice ai (Ar.pat s).length ci]) (ss.map Ar.pat)) := Lib.hid ((HN.out.2.below ((Below.refl _ _).alloc (Nat.le_refl _) _)).app HE.out.2 (HN.out.1.below ((Below.refl _ _).alloc (Nat.le_refl _) _)) r1 r2 r3); clear r1 r2 r3 HN))
        refine ⟨?_, ?measure⟩
        case measure => simp [intOf]; omega
        first
          | exact ⟨k + 1, _, _, _, by go_num, by go_num, by omega, HF2, HQ⟩
          | ((repeat apply Exists.intro); exact ⟨⟨k + 1, _, _, _, by go_num, by go_num, by omega, HF2, HQ⟩, rfl⟩)
      · obtain ⟨rfl, rfl⟩ : k = K ∧ q = e := by
          have := nw_bad ss k q s hsk hq hq0 HF.out n hkl
          rw [HS.out.2] at this
          injection this with a b; exact ⟨a.symm, b.symm⟩
        have HE : Hid (Ar.ck s = q ∧ q ≠ 0) := Lib.hid ⟨hq, hq0⟩
        have hqI : ((q : Int) == 0) = false := by rw [beq_eq_false_iff_ne]; omega
        obtain ⟨P, hP⟩ : ∃ P, Ar.pl s = P := ⟨_, rfl⟩
        have HP := Lib.hid hP
        clear hsk hgi hq hP
        go_wp2_with (go_at_call 67; with_reducible refine (rk_check HCd.out s hs6 P q HP.out HE.out.1 _).mono ?_; rintro _ W1 ⟨v, rfl, hb1⟩; have HN := Lib.hid (HB.out.below hb1); clear hb1)
        go_ret3
        unfold Ar.NewQT
        exact ⟨HN.out.2.2.2.2.2.2, Or.inl ⟨HE.out.2, rfl⟩⟩
    · obtain rfl : k = n := by omega
      have i2 : ¬ (k : Int) < (k : Int) := by omega
      have HE : Hid (K = 0 ∧ e = 0) := Lib.hid (by
        have := nw_ok ss k (by rw [HG.out.2]; omega) HF.out
        rw [HS.out.2] at this
        injection this with a b; exact ⟨a, b⟩)
      go_wp2
      go_ret3
      unfold Ar.NewQT
      refine ⟨HB.out.2.2.2.2.2.2, Or.inr ⟨HE.out.2, _, _, rfl, HB.out.2.2.2.2.2.1, HB.out.done (by rw [List.length_map, HG.out.2]) (fun l hl => ?_)⟩⟩
      obtain ⟨s, hs, rfl⟩ := List.mem_map.1 hl
      obtain ⟨i, hi⟩ := List.mem_iff_getElem?.1 hs
      have hlt : i < ss.length := by
        rcases Nat.lt_or_ge i ss.length with h | h
        · exact h
        · rw [List.getElem?_eq_none h] at hi; cases hi
      have := pat_len (HF.out i s (by rw [← HG.out.2]; exact hlt) hi)
      omega
theorem rk_new_yesT (hC : ∀ (s : ByteArray) (l : List UInt8), s.size ≤ 1000000 → s.data.toList = l → ∀ (X : BitVec 256) (n e : Nat), Cs.rdC l = (X, n, e) → ∀ w, Calls Try.prog 94 #[.string s] w fun r w' => r = .returned (.tuple #[Cs.sv X, .int .i64 n, .int .i64 e]) ∧ Below w.heap.size w w')
    (ss : List ByteArray) (n : Nat) (hn : ss.length = n) (hn8 : n ≤ 8) (a : Option Addr) (c : Nat) (hs : ∀ s ∈ ss, s.size ≤ 1000000) (he : (Ar.nw ss n).2 = 0) (w : World) (hI : TX w a ss) :
    Calls Try.prog 48 #[.slice a n c] w fun r w' => ∃ g c, r = .returned (.tuple #[.slice (some ⟨g, 0, none⟩) n c, .int .i64 0, .int .i64 0]) ∧ LLT w' (some ⟨g, 0, none⟩) (ss.map Ar.pat) ∧ w.heap.size ≤ g ∧ Below w.heap.size w w' :=
  (rk_newT hC ss n hn hn8 a c hs 0 0 (nw_ok_zero he (by omega)) w hI).mono fun r w' ⟨h1, h2⟩ => by
    rcases h2 with ⟨h, _⟩ | ⟨_, g, c, z1, z0, z2⟩
    · exact absurd rfl h
    · exact ⟨g, c, z1, z2, z0, h1⟩
end Go.Proofs.Ytbdjcppkfihonaa
/- Hold: what stands beside a window. -/
namespace Go.Proofs.Ytbdjcppkfihonaa
open Go.ChangeShapes Go.WideShapes Go.ChangeAt Go.RowKit
set_option linter.unusedSimpArgs false
set_option linter.unusedVariables false


/-- The types of what holds a window and its ring. -/
def HT5 (T : TypeId) : Prop := T = 108 ∨ T = 110 ∨ T = 5 ∨ T = 136 ∨ T = 138
theorem LS.dty {B : Nat} {w0 w : World} {h b g n W : Nat} {pv : Value} {ap : Option Addr} {xs : List Nat} {Ls : List (List (Bool × BitVec 256))} {t : Option Addr} {m ct : Nat} {S : ByteArray} {K f : Nat} {R : ByteArray} (H : LS B w0 w h b g n W pv ap xs Ls t m ct S K f R) : ∀ y ∈ LSD h b g xs t ct, ∃ cs T, Blk w y cs T ∧ HT5 T := by
  intro y hy
  unfold LSD at hy
  rw [List.mem_cons, List.mem_cons, List.mem_cons, List.mem_append] at hy
  rcases hy with rfl | rfl | rfl | hy | hy
  · exact ⟨_, _, H.1.o, Or.inl rfl⟩
  · obtain ⟨h1, h2, h3, h4, h5, h6, R, h7, h8, h9⟩ := H.2.2.1
    exact ⟨_, _, h6, Or.inr (Or.inl rfl)⟩
  · obtain ⟨h1, h2, h3, h4, h5, h6, R, h7, h8, h9⟩ := H.2.2.1
    exact ⟨_, _, h8, Or.inr (Or.inr (Or.inl rfl))⟩
  · rcases H.2.1 with ⟨_, _, rfl⟩ | ⟨x, gs, cs, c, ca, A, n, h1, h2, h3, h4, h5, h6⟩
    · cases hy
    · obtain ⟨⟨q1, ⟨b2, q2, q3⟩, q4, q5, q6⟩, q7⟩ := h3
      rw [h2] at hy
      unfold axB at hy
      split at hy
      · simp at hy; subst hy; exact ⟨_, _, q3, Or.inr (Or.inr (Or.inr (Or.inl rfl)))⟩
      · rename_i hn
        simp at hy
        rcases hy with rfl | rfl
        · exact ⟨_, _, q3, Or.inr (Or.inr (Or.inr (Or.inl rfl)))⟩
        · obtain ⟨r, _, _, q⟩ := q4 (by omega)
          exact ⟨_, _, q, Or.inr (Or.inr (Or.inr (Or.inr rfl)))⟩
  · have hy0 := hy
    unfold tvB at hy
    by_cases hc : ct = 0
    · rw [if_pos hc] at hy; simp at hy
    · rw [if_neg hc] at hy
      obtain ⟨h0, h1 | ⟨g2, h1, h2⟩⟩ := H.1.tv
      · omega
      · rw [h1, rvB_some] at hy
        simp at hy
        subst hy
        obtain ⟨r, _, _, q⟩ := h2
        exact ⟨_, _, q, Or.inr (Or.inr (Or.inl rfl))⟩
/-- Blocks of other types stay; the document's lists do. -/
def KT (w w' : World) : Prop := (∀ y cs T, ¬ HT5 T → Blk w y cs T → Blk w' y cs T) ∧ ∀ a A, LLT w a A → LLT w' a A
theorem KT.of_below {w w' : World} (k : Below w.heap.size w w') : KT w w' := ⟨fun y cs T _ h => Blk.below h k h.lt, fun a A h => h.below k⟩
theorem LS.keeps {B : Nat} {w0 w : World} {h b g n W : Nat} {pv : Value} {ap : Option Addr} {xs : List Nat} {Ls : List (List (Bool × BitVec 256))} {t : Option Addr} {m ct : Nat} {S : ByteArray} {K f : Nat} {R : ByteArray} (H : LS B w0 w h b g n W pv ap xs Ls t m ct S K f R) {w' : World} {l : List Nat} (kc : Chg l w w') (hl : ∀ y ∈ l, y ∈ LSD h b g xs t ct) : KT w w' := by
  refine ⟨fun y cs T hT hb => hb.chg kc fun e => ?_, fun a A hA => hA.chg kc fun y hy cs => ⟨fun h => ?_, fun h => ?_⟩⟩
  · obtain ⟨cs', T', h1, h2⟩ := H.dty y (hl y e)
    exact hT (blk_ty h1 hb ▸ h2)
  · obtain ⟨cs', T', h1, h2⟩ := H.dty y (hl y hy)
    rw [blk_ty h1 h] at h2
    exact absurd h2 (by unfold HT5; decide)
  · obtain ⟨cs', T', h1, h2⟩ := H.dty y (hl y hy)
    rw [blk_ty h1 h] at h2
    exact absurd h2 (by unfold HT5; decide)
theorem ls_look3 {B : Nat} {w0 w : World} {h b g n W : Nat} {pv : Value} {ap : Option Addr} {xs : List Nat} {Ls : List (List (Bool × BitVec 256))} {t : Option Addr} {m ct : Nat} {S : ByteArray} {K f : Nat} {R : ByteArray} (H : LS B w0 w h b g n W pv ap xs Ls t m ct S K f R) (res : Hd.R) (hres : Hd.look Ls W ((m - K) + R.size + 1) S.data.toList K R.data.toList 0 = res) (S2 R2 : ByteArray) (hS2 : S2.data.toList = res.S) (hR2 : R2.data.toList = res.Q) :
    Calls Try.prog 39 #[.pointer (some ⟨h, 0, none⟩), .pointer (some ⟨b, 0, none⟩)] w fun e w' => e = .returned (.agg #[.bool res.hit, .bool res.full, .int .i64 res.arm, .int .i64 res.gone, .int .i64 res.rd]) ∧ ∃ t' m' ct' f', LS B w0 w' h b g n W pv ap xs Ls t' m' ct' S2 res.K f' R2 ∧ KT w w' := by
  have hsp := H.2.2.2.1
  refine (hd_look h b g n f W m ct K t ap S R pv xs Ls res hres ⟨hsp.1, hsp.2.1⟩ hsp.2.2 w H.1 H.2.1 H.2.2.1).mono fun e w' ⟨he, t', m', ct', S', f', R', q1, q2, q3, q4, q5, q6, q7⟩ => ?_
  have hl := H.2.2.1.lts
  have hB := H.2.2.2.2.1
  have hw := H.2.2.2.2.2.2
  obtain rfl : S' = S2 := ba_ext (q2.trans hS2.symm)
  obtain rfl : R' = R2 := ba_ext (q5.trans hR2.symm)
  refine ⟨he, t', m', ct', f', ⟨q1, by rw [q2]; exact q3, q4, ⟨hsp.1, hsp.2.1, fun x hx => ?_⟩, ⟨hB.1, hB.2.1, hB.2.2.1, hB.2.2.2.1, fun x hx => ?_⟩, q7.onto H.2.2.2.2.2.1 hw (fun x hx => ?_), Nat.le_trans hw q7.size⟩, H.keeps q7 (fun y hy => ?_)⟩
  · rcases q6 x hx with e | e
    · exact hsp.2.2 x e
    · omega
  · rcases q6 x hx with e | e
    · exact hB.2.2.2.2 x e
    · omega
  · simp at hx
    rcases hx with e | e | e | e
    · omega
    · omega
    · exact hB.2.2.2.1 x e
    · exact hB.2.2.2.2 x e
  · simp at hy
    rcases hy with e | e | e | e <;> simp [LSD, e]
theorem ls_put3 {B : Nat} {w0 w : World} {h b g n W : Nat} {pv : Value} {ap : Option Addr} {xs : List Nat} {Ls : List (List (Bool × BitVec 256))} {t : Option Addr} {m ct : Nat} {S : ByteArray} {K f : Nat} {R : ByteArray} (H : LS B w0 w h b g n W pv ap xs Ls t m ct S K f R) (s : ByteArray) (hs : s.size ≤ 100000) (q : Nat) (hq : min s.size (n - R.size) = q) (R2 : ByteArray) (hR2 : R ++ s.extract 0 q = R2) :
    Calls Try.prog 36 #[.pointer (some ⟨b, 0, none⟩), .string s] w fun e w' => e = .returned (.int .i64 (q : Nat)) ∧ LS B w0 w' h b g n W pv ap xs Ls t m ct S K f R2 ∧ KT w w' := by
  subst hq hR2
  exact (put_any b g n f R s w hs H.2.2.1).mono fun e w' ⟨he, q1, q2⟩ => by
    have hsp := H.2.2.2.1
    have hB := H.2.2.2.2.1
    have ot := H.2.2.1.ots
    exact ⟨he, ⟨H.1.chg q2 (by simp; exact ⟨hsp.1, hsp.2.1⟩) (fun x hx => by simp; exact hsp.2.2 x hx), H.2.1.chg q2 (fun x hx => by simp at hx; rcases hx with e | e; rw [e]; exact ot.1; rw [e]; exact ot.2), q1, hsp, hB, q2.onto H.2.2.2.2.2.1 H.2.2.2.2.2.2 (fun x hx => by simp at hx; rcases hx with e | e <;> omega), Nat.le_trans H.2.2.2.2.2.2 q2.size⟩, H.keeps q2 (fun y hy => by simp at hy; rcases hy with e | e <;> simp [LSD, e])⟩
theorem ls_begin3 {B : Nat} {w0 w : World} {h b g n W : Nat} {pv : Value} {ap : Option Addr} {xs : List Nat} {Ls : List (List (Bool × BitVec 256))} {t : Option Addr} {m ct : Nat} {S : ByteArray} {K f : Nat} {R : ByteArray} (H : LS B w0 w h b g n W pv ap xs Ls t m ct S K f R) (ss : List ByteArray) (k : Nat) (hk : ss.length = k) (hk8 : k ≤ 8) (gg c : Nat) (hs : ∀ s ∈ ss, s.size ≤ 1000000) (he : (Ar.nw ss k).2 = 0) (hI : TX w (some ⟨gg, 0, none⟩) ss) (Ls' : List (List (Bool × BitVec 256))) (hL : ss.map Ar.pat = Ls') :
    Calls Try.prog 42 #[.pointer (some ⟨h, 0, none⟩), .slice (some ⟨gg, 0, none⟩) k c] w fun r w' => ∃ x gp cp xs', r = .returned (.int .i64 0) ∧ LS B w0 w' h b g n W (.slice (some ⟨gp, 0, none⟩) k cp) (some ⟨x, 0, none⟩) xs' Ls' t m ct S 0 f R ∧ KT w w' :=
  (ls_begin_yes H ss k hk hk8 gg c hs he hI Ls' hL).mono fun r w' ⟨x, gp, cp, xs', q0, q1, _, _, q6⟩ => ⟨x, gp, cp, xs', q0, q1, H.keeps q6 (fun y hy => by simp at hy; simp [LSD, hy])⟩
/-- What holds all the time: the window and its ring, the document's lists and window (in block X), the statement's argument (in block P). -/
def ZP (P : Nat) (w0 w : World) (X : Nat) (pc hc : List Value) (a : Option Addr) (h b g n W : Nat) (pv : Value) (ap : Option Addr) (xs : List Nat) (Ls : List (List (Bool × BitVec 256))) (t : Option Addr) (m ct : Nat) (S : ByteArray) (K f : Nat) (R : ByteArray) : Prop :=
  LS P w0 w h b g n W pv ap xs Ls t m ct S K f R ∧ LLT w a Ls ∧ Blk w X hc 61 ∧ Blk w P pc 56 ∧ P ≤ X
theorem ht5_no : ¬ HT5 61 ∧ ¬ HT5 56 ∧ ¬ HT5 67 ∧ ¬ HT5 71 := by
  unfold HT5; decide
def clamp19 (x a b : Int) : Int := if x < a then a else if b < x then b else x
theorem within_any19 (n a m : Int) (k : Int) (hk : clamp19 n a m = k) (w : World) : Calls Try.prog 13 #[.int .i64 n, .int .i64 a, .int .i64 m] w fun e w' => e = .returned (.int .i64 k) ∧ w = w' := by
  subst hk
  by_cases h1 : n < a
  · go_enter Try.func13, Try.ntmps13
    go_wp2
    go_ret
    exact ⟨ret_i64 (by unfold clamp19; rw [if_pos (by omega)]), rfl⟩
  · by_cases h2 : m < n
    · go_enter Try.func13, Try.ntmps13
      go_wp2
      go_ret
      exact ⟨ret_i64 (by unfold clamp19; rw [if_neg (by omega), if_pos (by omega)]), rfl⟩
    · go_enter Try.func13, Try.ntmps13
      go_wp2
      go_ret
      exact ⟨ret_i64 (by unfold clamp19; rw [if_neg (by omega), if_neg (by omega)]), rfl⟩
theorem ZP.below {P : Nat} {w0 w : World} {X : Nat} {pc hc : List Value} {a : Option Addr} {h b g n W : Nat} {pv : Value} {ap : Option Addr} {xs : List Nat} {Ls : List (List (Bool × BitVec 256))} {t : Option Addr} {m ct : Nat} {S : ByteArray} {K f : Nat} {R : ByteArray} (H : ZP P w0 w X pc hc a h b g n W pv ap xs Ls t m ct S K f R) {w' : World} (k : Below w.heap.size w w') : ZP P w0 w' X pc hc a h b g n W pv ap xs Ls t m ct S K f R := ⟨H.1.below k, H.2.1.below k, Blk.below H.2.2.1 k H.2.2.1.lt, Blk.below H.2.2.2.1 k H.2.2.2.1.lt, H.2.2.2.2⟩
theorem ZP.ne {P : Nat} {w0 w : World} {X : Nat} {pc hc : List Value} {a : Option Addr} {h b g n W : Nat} {pv : Value} {ap : Option Addr} {xs : List Nat} {Ls : List (List (Bool × BitVec 256))} {t : Option Addr} {m ct : Nat} {S : ByteArray} {K f : Nat} {R : ByteArray} (H : ZP P w0 w X pc hc a h b g n W pv ap xs Ls t m ct S K f R) : X ≠ P := fun e => by
  have h1 := H.2.2.1
  rw [e] at h1
  exact absurd (blk_ty h1 H.2.2.2.1) (by decide)
theorem ZP.setX {P : Nat} {w0 w : World} {X : Nat} {pc hc : List Value} {a : Option Addr} {h b g n W : Nat} {pv : Value} {ap : Option Addr} {xs : List Nat} {Ls : List (List (Bool × BitVec 256))} {t : Option Addr} {m ct : Nat} {S : ByteArray} {K f : Nat} {R : ByteArray} (H : ZP P w0 w X pc hc a h b g n W pv ap xs Ls t m ct S K f R) (i : Nat) (v : Value) : ZP P w0 (w.setCell ⟨X, i, none⟩ v) X pc (hc.set i v) a h b g n W pv ap xs Ls t m ct S K f R := by
  have k : Chg [X] w (w.setCell ⟨X, i, none⟩ v) := (Chg.refl [X] w).set (Or.inl (by simp)) _ _
  have hx := H.2.2.1
  refine ⟨H.1.chg k (fun y hy => ?_), H.2.1.chg k (fun y hy cs => ?_), hx.set i v, H.2.2.2.1.chg k (by simp; exact fun e => H.ne e.symm), H.2.2.2.2⟩
  · simp at hy
    subst hy
    refine ⟨OT2.of hx (by decide), H.2.2.2.2, fun e => ?_⟩
    obtain ⟨cs', T', h1, h2⟩ := H.1.dty _ e
    rw [blk_ty h1 hx] at h2
    exact ht5_no.1 h2
  · simp at hy
    subst hy
    exact ⟨fun h => absurd (blk_ty h hx) (by decide), fun h => absurd (blk_ty h hx) (by decide)⟩
/-- What a call leaves of it. -/
theorem ZP.step {P : Nat} {w0 w : World} {X : Nat} {pc hc : List Value} {a : Option Addr} {h b g n W : Nat} {pv : Value} {ap : Option Addr} {xs : List Nat} {Ls : List (List (Bool × BitVec 256))} {t : Option Addr} {m ct : Nat} {S : ByteArray} {K f : Nat} {R : ByteArray} {pv3 : Value} {ap3 t3 : Option Addr} {xs3 : List Nat} {m3 ct3 K3 f3 : Nat} {S3 R3 : ByteArray}  (H : ZP P w0 w X pc hc a h b g n W pv ap xs Ls t m ct S K f R) {w' : World} (H1 : LS P w0 w' h b g n W pv3 ap3 xs3 Ls t3 m3 ct3 S3 K3 f3 R3) (k : KT w w') : ZP P w0 w' X pc hc a h b g n W pv3 ap3 xs3 Ls t3 m3 ct3 S3 K3 f3 R3 :=
  ⟨H1, k.2 _ _ H.2.1, k.1 _ _ _ ht5_no.1 H.2.2.1, k.1 _ _ _ ht5_no.2.1 H.2.2.2.1, H.2.2.2.2⟩
/-- Other lists. -/
theorem ZP.lists {P : Nat} {w0 w : World} {X : Nat} {pc hc : List Value} {a : Option Addr} {h b g n W : Nat} {pv : Value} {ap : Option Addr} {xs : List Nat} {Ls : List (List (Bool × BitVec 256))} {t : Option Addr} {m ct : Nat} {S : ByteArray} {K f : Nat} {R : ByteArray} {a3 : Option Addr} {pv3 : Value} {ap3 : Option Addr} {xs3 : List Nat} {Ls3 : List (List (Bool × BitVec 256))} {K3 : Nat}  (H : ZP P w0 w X pc hc a h b g n W pv ap xs Ls t m ct S K f R) {w' : World} (H1 : LS P w0 w' h b g n W pv3 ap3 xs3 Ls3 t m ct S K3 f R) (k : KT w w') (hL : LLT w a3 Ls3) : ZP P w0 w' X pc hc a3 h b g n W pv3 ap3 xs3 Ls3 t m ct S K3 f R :=
  ⟨H1, k.2 _ _ hL, k.1 _ _ _ ht5_no.1 H.2.2.1, k.1 _ _ _ ht5_no.2.1 H.2.2.2.1, H.2.2.2.2⟩
theorem within_19 (x : Int) (W : Nat) (hW : min (max x 1) 4096 = (W : Int)) (w : World) : Calls Try.prog 13 #[.int .i64 x, .int .i64 1, .int .i64 4096] w fun e w' => e = .returned (.int .i64 W) ∧ w = w' :=
  within_any19 x 1 4096 W (by unfold clamp19; split <;> (try split) <;> omega) w
set_option maxRecDepth 20000 in
set_option maxHeartbeats 4000000 in
theorem rf_new19 (x : Int) (W : Nat) (hW : min (max x 1) 4096 = (W : Int)) (w : World) : Calls Try.prog 33 #[.int .i64 x] w fun e w' => e = .returned (.agg #[.int .i64 W, .string ⟨#[]⟩, .int .i64 0, .slice none 0 0]) ∧ Below w.heap.size w w' := by
  have HW := Lib.hid hW
  clear hW
  go_enter Try.func33, Try.ntmps33
  go_wp2_with (go_at_call 13; refine (within_19 _ W HW.out _).mono ?_; rintro e w' ⟨rfl, rfl⟩)
  exact bodyPost_ret (v := .agg #[.int .i64 W, .string ⟨#[]⟩, .int .i64 0, .slice none 0 0]) (by simp [results, Try.results33, go_sem]) rfl ⟨rfl, by repeat (first | exact Below.refl _ _ | refine Below.drew ?_ | refine Below.alloc ?_ (by simp) _ | refine Below.setCell ?_ (by simp) _ _)⟩
end Go.Proofs.Ytbdjcppkfihonaa
/- Hold: the document's Begin. -/
namespace Go.Proofs.Ytbdjcppkfihonaa
open Go.ChangeShapes Go.WideShapes Go.ChangeAt Go.RowKit
set_option linter.unusedSimpArgs false
set_option linter.unusedVariables false


/-- The boxes of the document's Begin: the window, the result. -/
def TB19 (w0 w : World) (B : Nat) (hc rc : List Value) : Prop := Blk w B hc 61 ∧ Blk w (B + 1) rc 61 ∧ Below B w0 w ∧ B + 2 ≤ w.heap.size
theorem TB19.below {w0 w w' : World} {B : Nat} {hc rc : List Value} (h : TB19 w0 w B hc rc) (k : Below w.heap.size w w') : TB19 w0 w' B hc rc := by
  obtain ⟨h1, h2, h5, h6⟩ := h
  have s := k.size
  exact ⟨Blk.below h1 k (by omega), Blk.below h2 k (by omega), h5.trans (k.mono (by omega)), by omega⟩
theorem TB19.setH {w0 w : World} {B : Nat} {hc rc : List Value} (h : TB19 w0 w B hc rc) (i : Nat) (v : Value) : TB19 w0 (w.setCell ⟨B, i, none⟩ v) B (hc.set i v) rc := by
  obtain ⟨h1, h2, h5, h6⟩ := h
  have k : Chg [B] w (w.setCell ⟨B, i, none⟩ v) := (Chg.refl [B] w).set (Or.inl (by simp)) _ _
  exact ⟨h1.set i v, h2.chg k (by simp), k.onto h5 (by omega) (by simp), Nat.le_trans h6 k.size⟩
theorem TB19.setR {w0 w : World} {B : Nat} {hc rc : List Value} (h : TB19 w0 w B hc rc) (i : Nat) (v : Value) : TB19 w0 (w.setCell ⟨B + 1, i, none⟩ v) B hc (rc.set i v) := by
  obtain ⟨h1, h2, h5, h6⟩ := h
  have k : Chg [B + 1] w (w.setCell ⟨B + 1, i, none⟩ v) := (Chg.refl [B + 1] w).set (Or.inl (by simp)) _ _
  exact ⟨h1.chg k (by simp), h2.set i v, k.onto h5 (by omega) (by simp), Nat.le_trans h6 k.size⟩
theorem TB19.llt {w0 w : World} {B : Nat} {hc rc : List Value} (h : TB19 w0 w B hc rc) {a : Option Addr} {A : List (List (Bool × BitVec 256))} (hL : LLT w a A) (i : Nat) (v : Value) : LLT (w.setCell ⟨B, i, none⟩ v) a A ∧ LLT (w.setCell ⟨B + 1, i, none⟩ v) a A := by
  obtain ⟨h1, h2, h5, h6⟩ := h
  have k : Chg [B] w (w.setCell ⟨B, i, none⟩ v) := (Chg.refl [B] w).set (Or.inl (by simp)) _ _
  have k2 : Chg [B + 1] w (w.setCell ⟨B + 1, i, none⟩ v) := (Chg.refl [B + 1] w).set (Or.inl (by simp)) _ _
  exact ⟨hL.chg k (fun y hy cs => by simp at hy; subst hy; exact ⟨fun h => absurd (blk_ty h h1) (by decide), fun h => absurd (blk_ty h h1) (by decide)⟩), hL.chg k2 (fun y hy cs => by simp at hy; subst hy; exact ⟨fun h => absurd (blk_ty h h2) (by decide), fun h => absurd (blk_ty h h2) (by decide)⟩)⟩
set_option maxRecDepth 20000 in
set_option maxHeartbeats 4000000 in
theorem rf_begin19_no (W : Nat) (S : ByteArray) (K : Nat) (a : Option Addr) (n c : Nat) (ss : List ByteArray) (k : Nat) (hk : ss.length = k) (hk8 : k ≤ 8) (pa : Option Addr) (pc : Nat) (hs : ∀ s ∈ ss, s.size ≤ 1000000) (i e : Nat) (hr : Ar.nw ss k = (i, e)) (he : e ≠ 0) (w : World) (hI : TX w pa ss) :
    Calls Try.prog 40 #[.agg #[.int .i64 W, .string S, .int .i64 K, .slice a n c], .slice pa k pc] w fun r w' => r = .returned (.tuple #[.agg #[.int .i64 W, .string S, .int .i64 K, .slice a n c], .int .i64 e]) ∧ Below w.heap.size w w' := by
  have HN := Lib.hid (And.intro hk (And.intro hs (And.intro hr (And.intro he hI))))
  have z1 : ((e : Int) == 0) = false := by rw [beq_eq_false_iff_ne]; omega
  have z2 : ¬ (e : Int) = 0 := by omega
  have z3 : ¬ e = 0 := he
  have H0 : Hid (TB19 w ((w.alloc (.cells #[.int .i64 W, .string S, .int .i64 K, .slice a n c] 61)).alloc (.cells #[.int .i64 0, .string ⟨#[]⟩, .int .i64 0, .slice none 0 0] 61)) w.heap.size [.int .i64 W, .string S, .int .i64 K, .slice a n c] [.int .i64 0, .string ⟨#[]⟩, .int .i64 0, .slice none 0 0]) := by
    have e1 : (w.alloc (.cells #[.int .i64 W, .string S, .int .i64 K, .slice a n c] 61)).heap.size = w.heap.size + 1 := by simp
    have b1 := Blk.newA w #[.int .i64 W, .string S, .int .i64 K, .slice a n c] 61
    have b2 := Blk.newA (w.alloc (.cells #[.int .i64 W, .string S, .int .i64 K, .slice a n c] 61)) #[.int .i64 0, .string ⟨#[]⟩, .int .i64 0, .slice none 0 0] 61
    rw [e1] at b2
    exact Lib.hid ⟨b1.alloc _, b2, ((Below.refl _ _).alloc (Nat.le_refl _) _).alloc (by simp) _, by simp⟩
  clear hk hs hr he hI
  go_enter Try.func40, Try.ntmps40
  go_upto_region 1 with fail
  revert H0
  generalize ((w.alloc (.cells #[.int .i64 W, .string S, .int .i64 K, .slice a n c] 61)).alloc (.cells #[.int .i64 0, .string ⟨#[]⟩, .int .i64 0, .slice none 0 0] 61)) = W0
  intro H0
  go_upto_region 4 with (go_at_call 48; refine (rk_new_no (fun s l h1 h2 X n e h3 w => rp_rdC s l h1 h2 X n e h3 w) ss k HN.out.1 hk8 pa pc HN.out.2.1 i e HN.out.2.2.1 HN.out.2.2.2.1 _ (HN.out.2.2.2.2.below H0.out.2.2.1)).mono ?_; rintro _ W1 ⟨rfl, hb⟩; have H1 := Lib.hid (H0.out.below hb); clear hb H0)
  have ch0 := H1.out.1.cell (i := 0) rfl
  have cr0 := H1.out.2.1.cell (i := 0) rfl
  have cF0 := H1.out.2.1.free 0
  have ch1 := H1.out.1.cell (i := 1) rfl
  have cr1 := H1.out.2.1.cell (i := 1) rfl
  have cF1 := H1.out.2.1.free 1
  have ch2 := H1.out.1.cell (i := 2) rfl
  have cr2 := H1.out.2.1.cell (i := 2) rfl
  have cF2 := H1.out.2.1.free 2
  have ch3 := H1.out.1.cell (i := 3) rfl
  have cr3 := H1.out.2.1.cell (i := 3) rfl
  have cF3 := H1.out.2.1.free 3
  go_wp2_with fail
  have HZ := Lib.hid ((((H1.out.setR 0 (.int .i64 W)).setR 1 (.string S)).setR 2 (.int .i64 K)).setR 3 (.slice a n c))
  clear ch0 cr0 cF0 ch1 cr1 cF1 ch2 cr2 cF2 ch3 cr3 cF3
  revert HZ
  generalize ((((W1.setCell ⟨w.heap.size + 1, 0, none⟩ (.int .i64 W)).setCell ⟨w.heap.size + 1, 1, none⟩ (.string S)).setCell ⟨w.heap.size + 1, 2, none⟩ (.int .i64 K)).setCell ⟨w.heap.size + 1, 3, none⟩ (.slice a n c)) = WZ
  intro HZ
  have r0 := HZ.out.2.1.cell (i := 0) rfl
  have r1 := HZ.out.2.1.cell (i := 1) rfl
  have r2 := HZ.out.2.1.cell (i := 2) rfl
  have r3 := HZ.out.2.1.cell (i := 3) rfl
  refine bodyPost_ret (v := .tuple #[.agg #[.int .i64 W, .string S, .int .i64 K, .slice a n c], .int .i64 e]) (by simp [results, Try.results40, go_sem, r0, r1, r2, r3]) rfl ?_
  exact ⟨rfl, HZ.out.2.2.1⟩
set_option maxRecDepth 20000 in
set_option maxHeartbeats 4000000 in
theorem rf_begin19_yes (W : Nat) (S : ByteArray) (K : Nat) (a : Option Addr) (n c : Nat) (ss : List ByteArray) (k : Nat) (hk : ss.length = k) (hk8 : k ≤ 8) (pa : Option Addr) (pc : Nat) (hs : ∀ s ∈ ss, s.size ≤ 1000000) (he : (Ar.nw ss k).2 = 0) (w : World) (hI : TX w pa ss) :
    Calls Try.prog 40 #[.agg #[.int .i64 W, .string S, .int .i64 K, .slice a n c], .slice pa k pc] w fun r w' => ∃ g c2, r = .returned (.tuple #[.agg #[.int .i64 W, .string S, .int .i64 0, .slice (some ⟨g, 0, none⟩) k c2], .int .i64 0]) ∧ LLT w' (some ⟨g, 0, none⟩) (ss.map Ar.pat) ∧ Below w.heap.size w w' := by
  have HN := Lib.hid (And.intro hk (And.intro hs (And.intro he hI)))
  have H0 : Hid (TB19 w ((w.alloc (.cells #[.int .i64 W, .string S, .int .i64 K, .slice a n c] 61)).alloc (.cells #[.int .i64 0, .string ⟨#[]⟩, .int .i64 0, .slice none 0 0] 61)) w.heap.size [.int .i64 W, .string S, .int .i64 K, .slice a n c] [.int .i64 0, .string ⟨#[]⟩, .int .i64 0, .slice none 0 0]) := by
    have e1 : (w.alloc (.cells #[.int .i64 W, .string S, .int .i64 K, .slice a n c] 61)).heap.size = w.heap.size + 1 := by simp
    have b1 := Blk.newA w #[.int .i64 W, .string S, .int .i64 K, .slice a n c] 61
    have b2 := Blk.newA (w.alloc (.cells #[.int .i64 W, .string S, .int .i64 K, .slice a n c] 61)) #[.int .i64 0, .string ⟨#[]⟩, .int .i64 0, .slice none 0 0] 61
    rw [e1] at b2
    exact Lib.hid ⟨b1.alloc _, b2, ((Below.refl _ _).alloc (Nat.le_refl _) _).alloc (by simp) _, by simp⟩
  clear hk hs he hI
  go_enter Try.func40, Try.ntmps40
  go_upto_region 1 with fail
  revert H0
  generalize ((w.alloc (.cells #[.int .i64 W, .string S, .int .i64 K, .slice a n c] 61)).alloc (.cells #[.int .i64 0, .string ⟨#[]⟩, .int .i64 0, .slice none 0 0] 61)) = W0
  intro H0
  go_upto_region 3 with (go_at_call 48; refine (rk_new_yesT (fun s l h1 h2 X n e h3 w => rp_rdC s l h1 h2 X n e h3 w) ss k HN.out.1 hk8 pa pc HN.out.2.1 HN.out.2.2.1 _ (HN.out.2.2.2.below H0.out.2.2.1)).mono ?_; rintro _ W1 ⟨g, c2, rfl, h1, _, hb⟩; have H1 := Lib.hid (And.intro (H0.out.below hb) h1); clear hb h1 H0)
  have d2 := H1.out.1.1.cell (i := 2) rfl
  have d3 := H1.out.1.1.cell (i := 3) rfl
  have dF2 := H1.out.1.1.free 2
  have dF3 := H1.out.1.1.free 3
  go_upto_region 4 with fail
  clear d2 d3 dF2 dF3
  have H2 : Hid (TB19 w ((W1.setCell ⟨w.heap.size, 3, none⟩ (.slice (some ⟨g, 0, none⟩) k c2)).setCell ⟨w.heap.size, 2, none⟩ (.int .i64 0)) w.heap.size [.int .i64 W, .string S, .int .i64 0, .slice (some ⟨g, 0, none⟩) k c2] [.int .i64 0, .string ⟨#[]⟩, .int .i64 0, .slice none 0 0]) := Lib.hid ((H1.out.1.setH 3 (.slice (some ⟨g, 0, none⟩) k c2)).setH 2 (.int .i64 0))
  have HLL := Lib.hid ((H1.out.1.setH 3 (.slice (some ⟨g, 0, none⟩) k c2)).llt (H1.out.1.llt H1.out.2 3 (.slice (some ⟨g, 0, none⟩) k c2)).1 2 (.int .i64 0)).1
  revert H2 HLL
  generalize ((W1.setCell ⟨w.heap.size, 3, none⟩ (.slice (some ⟨g, 0, none⟩) k c2)).setCell ⟨w.heap.size, 2, none⟩ (.int .i64 0)) = W2
  intro H2 HLL
  have ch0 := H2.out.1.cell (i := 0) rfl
  have cr0 := H2.out.2.1.cell (i := 0) rfl
  have cF0 := H2.out.2.1.free 0
  have ch1 := H2.out.1.cell (i := 1) rfl
  have cr1 := H2.out.2.1.cell (i := 1) rfl
  have cF1 := H2.out.2.1.free 1
  have ch2 := H2.out.1.cell (i := 2) rfl
  have cr2 := H2.out.2.1.cell (i := 2) rfl
  have cF2 := H2.out.2.1.free 2
  have ch3 := H2.out.1.cell (i := 3) rfl
  have cr3 := H2.out.2.1.cell (i := 3) rfl
  have cF3 := H2.out.2.1.free 3
  go_wp2_with fail
  have HZ := Lib.hid ((((H2.out.setR 0 (.int .i64 W)).setR 1 (.string S)).setR 2 (.int .i64 0)).setR 3 (.slice (some ⟨g, 0, none⟩) k c2))
  have HLZ := Lib.hid (((((H2.out.setR 0 (.int .i64 W)).setR 1 (.string S)).setR 2 (.int .i64 0)).llt (((H2.out.setR 0 (.int .i64 W)).setR 1 (.string S)).llt ((H2.out.setR 0 (.int .i64 W)).llt (H2.out.llt HLL.out 0 (.int .i64 W)).2 1 (.string S)).2 2 (.int .i64 0)).2 3 (.slice (some ⟨g, 0, none⟩) k c2)).2)
  clear ch0 cr0 cF0 ch1 cr1 cF1 ch2 cr2 cF2 ch3 cr3 cF3
  revert HZ HLZ
  generalize ((((W2.setCell ⟨w.heap.size + 1, 0, none⟩ (.int .i64 W)).setCell ⟨w.heap.size + 1, 1, none⟩ (.string S)).setCell ⟨w.heap.size + 1, 2, none⟩ (.int .i64 0)).setCell ⟨w.heap.size + 1, 3, none⟩ (.slice (some ⟨g, 0, none⟩) k c2)) = WZ
  intro HZ HLZ
  have r0 := HZ.out.2.1.cell (i := 0) rfl
  have r1 := HZ.out.2.1.cell (i := 1) rfl
  have r2 := HZ.out.2.1.cell (i := 2) rfl
  have r3 := HZ.out.2.1.cell (i := 3) rfl
  refine bodyPost_ret (v := .tuple #[.agg #[.int .i64 W, .string S, .int .i64 0, .slice (some ⟨g, 0, none⟩) k c2], .int .i64 0]) (by simp [results, Try.results40, go_sem, r0, r1, r2, r3]) rfl ?_
  exact ⟨g, c2, rfl, HLZ.out, HZ.out.2.2.1⟩
end Go.Proofs.Ytbdjcppkfihonaa
/- Hold: a copy of a window. -/
namespace Go.Proofs.Ytbdjcppkfihonaa
open Go.ChangeShapes Go.WideShapes Go.ChangeAt Go.RowKit
set_option linter.unusedSimpArgs false
set_option linter.unusedVariables false


theorem clone_cell {w : World} {a : Addr} {u : Value} (h : w.cell? a = some u) (o : Obj) : (w.alloc o).cell? a = some u := by
  have hl := World.block_lt_of_cell? _ _ h
  rw [← h]
  obtain ⟨b, f, s⟩ := a
  have hs := World.cell?_spot h
  dsimp only at hs
  subst hs
  exact Chg.cell (l := []) ((Chg.refl [] w).alloc o) hl (by simp)
set_option maxRecDepth 20000 in
set_option maxHeartbeats 4000000 in
/-- Bytes of their own. -/
theorem hd_clone (t : Option Addr) (m ct : Nat) (S : ByteArray) (hm : m ≤ 100000) (w : World) (h : TV w t m ct S) :
    Calls Try.prog 68 #[.slice t m ct] w fun e w' => ∃ t' ct', e = .returned (.slice t' m ct') ∧ TV w' t' m ct' S ∧ (∀ g ∈ tvB t' ct', w.heap.size ≤ g) ∧ Below w.heap.size w w' := by
  cases t with
  | none =>
    obtain ⟨h0, ⟨h1, h2, h3⟩ | ⟨g, h1, h2⟩⟩ := h
    · subst h1
      subst h2
      have HS := Lib.hid h0
      clear h0
      have heq : ∀ W : World, Sem.run Try.prog (binOp BinOp.eql 85 (.slice none 0 0) (.slice none 0 0)) W = .ok (.bool true) W := fun W => Lib.run_eql_slice_nil W 85 5 none 0 0 0 0 Try.underlying85
      go_enter Try.func68, Try.ntmps68
      go_wp2
      first | go_ret | go_ret2 | go_ret3
      exact ⟨none, 0, rfl, ⟨HS.out, Or.inl ⟨rfl, rfl, fun ad e => by cases e⟩⟩, by simp [tvB], Below.refl _ _⟩
    · cases h1
  | some ad =>
    have hS := h.1
    have hcell : ∀ j u, (bv S)[j]? = some u → w.cell? (ad.add j) = some u := by
      intro j u hj
      rcases Nat.eq_zero_or_pos m with hz | hz
      · have : (bv S).length = 0 := by rw [bv_length]; omega
        rw [List.length_eq_zero_iff.1 this] at hj
        simp at hj
      · obtain ⟨g, e, hr⟩ := h.row hz
        injection e with e
        subst e
        rw [Addr.add_lit]
        rw [Nat.zero_add]
        exact hr.cell hj
    have HH := Lib.hid (And.intro hS hcell)
    clear h hS hcell
    have heq : ∀ W : World, Sem.run Try.prog (binOp BinOp.eql 85 (.slice (some ad) m ct) (.slice none 0 0)) W = .ok (.bool false) W := fun W => Lib.run_eql_slice_nil W 85 5 (some ad) m ct 0 0 Try.underlying85
    go_enter Try.func68, Try.ntmps68
    go_wp2_with (at_builtin; refine wpList_append_rw _ rfl (.tmp 5) (.tmp 6) 85 85 rfl 5 (.int .u8 0) 1 Try.underlying85 infou8 rfl w.heap.size 0 0 [] rfl rfl (Rw.empty w 5) _ rfl m (bv S) (Src.ofSlice _ Try.underlying85 _ _ _ _ (by rw [bv_length, HH.out.1, Nat.mul_one]) (fun j u hj => clone_cell (HH.out.2 j u hj) _) (bv_one _)) (by omega) (by omega) ?_; intro g4 c4 w4 r1 r2 r3; have HQ := Lib.hid (And.intro r1 (And.intro r2 r3)); clear r1 r2 r3)
    first | go_ret | go_ret2 | go_ret3
    have hb : Below w.heap.size w w4 := by
      have k1 : Below w.heap.size w (w.alloc (.cells #[] 5)) := (Below.refl _ _).alloc (Nat.le_refl _) _
      exact HQ.out.2.2.onto k1 k1.size (by simp)
    refine ⟨some ⟨g4, 0, none⟩, c4, by simp, ⟨HH.out.1, Or.inr ⟨g4, rfl, by simpa using HQ.out.1⟩⟩, fun g hg => ?_, hb⟩
    unfold tvB at hg
    split at hg
    · simp at hg
    · rw [rvB_some] at hg
      simp at hg
      rcases HQ.out.2.1 with e | e
      · omega
      · simp at e; omega
end Go.Proofs.Ytbdjcppkfihonaa
/- Hold: Copy. -/
namespace Go.Proofs.Ytbdjcppkfihonaa
open Go.ChangeShapes Go.WideShapes Go.ChangeAt Go.RowKit
set_option linter.unusedSimpArgs false
set_option linter.unusedVariables false


/-- The patterns' texts, as a window keeps them. -/
def PV (w : World) (pv : Value) (ap : Option Addr) (Ls : List (List (Bool × BitVec 256))) : Prop := (ap = none ∧ Ls = []) ∨ ∃ (x : Nat) (ss : List ByteArray) (k gp cp : Nat), ap = some ⟨x, 0, none⟩ ∧ pv = .slice (some ⟨gp, 0, none⟩) k cp ∧ Rw w gp cp (ss.map .string) 9 ∧ ss.length = k ∧ k ≤ 8 ∧ (∀ s ∈ ss, s.size ≤ 1000000) ∧ (Ar.nw ss k).2 = 0 ∧ ss.map Ar.pat = Ls
/-- A copy that is half made: in block c, of text t (m bytes), so much looked at. -/
def CC (w0 w : World) (h W m0 ct0 K0 : Nat) (t0 ap0 : Option Addr) (S0 : ByteArray) (pv0 : Value) (Ls : List (List (Bool × BitVec 256))) (c : Nat) (t : Option Addr) (m ct : Nat) (S : ByteArray) (K : Nat) (fed : Nat) (T : List UInt8) (pv : Value) (ap : Option Addr) (xs : List Nat) : Prop :=
  HO w c W t m ct S K pv ap ∧ AX w ap xs Ls (Ar.stk Ls (lgT T) fed) fed ∧ HO w h W t0 m0 ct0 S0 K0 pv0 ap0 ∧ w0.heap.size ≤ c ∧ (∀ x ∈ xs, w0.heap.size ≤ x) ∧ (∀ x ∈ tvB t ct, w0.heap.size ≤ x) ∧ Below w0.heap.size w0 w ∧ h < w0.heap.size
theorem CC.below {w0 w w' : World} {h W m0 ct0 K0 : Nat} {t0 ap0 : Option Addr} {S0 : ByteArray} {pv0 : Value} {Ls : List (List (Bool × BitVec 256))} {c : Nat} {t : Option Addr} {m ct : Nat} {S : ByteArray} {K fed : Nat} {T : List UInt8} {pv : Value} {ap : Option Addr} {xs : List Nat} (H : CC w0 w h W m0 ct0 K0 t0 ap0 S0 pv0 Ls c t m ct S K fed T pv ap xs) (k : Below w.heap.size w w') : CC w0 w' h W m0 ct0 K0 t0 ap0 S0 pv0 Ls c t m ct S K fed T pv ap xs :=
  ⟨H.1.below k, H.2.1.below k, H.2.2.1.below k, H.2.2.2.1, H.2.2.2.2.1, H.2.2.2.2.2.1, H.2.2.2.2.2.2.1.trans (k.mono H.2.2.2.2.2.2.1.size), H.2.2.2.2.2.2.2⟩
theorem hg_ne {w : World} {h c W W' m ct m' ct' K K' : Nat} {t t' ap ap' : Option Addr} {S S' : ByteArray} {pv pv' : Value} {g : Nat} (hg : g ∈ tvB t ct) (h1 : HO w h W t m ct S K pv ap) (h2 : HO w c W' t' m' ct' S' K' pv' ap') : g ≠ c := fun e => by
  subst e
  have h0 := hg
  unfold tvB at hg
  by_cases hc : ct = 0
  · rw [if_pos hc] at hg; simp at hg
  · rw [if_neg hc] at hg
    obtain ⟨_, q1 | ⟨g2, q1, q2⟩⟩ := h1.tv
    · omega
    · rw [q1, rvB_some] at hg
      simp at hg
      subst hg
      obtain ⟨r, _, _, q⟩ := q2
      exact absurd (blk_ty q h2.o) (by decide)
theorem CC.set2 {w0 z : World} {h W m0 ct0 K0 : Nat} {t0 ap0 : Option Addr} {S0 : ByteArray} {pv0 : Value} {Ls : List (List (Bool × BitVec 256))} {c : Nat} {T : List UInt8} {pv : Value} {ap : Option Addr} {xs : List Nat} {t' : Option Addr} {m ct' : Nat} {S : ByteArray} {K : Nat} (H : CC w0 z h W m0 ct0 K0 t0 ap0 S0 pv0 Ls c none 0 0 ByteArray.empty 0 0 T pv ap xs) (hT : TV z t' m ct' S) (hb : ∀ x ∈ tvB t' ct', w0.heap.size ≤ x ∧ c ≠ x) (hK : K ≤ m) (hm : m ≤ W) :
    CC w0 ((z.setCell ⟨c, 1, none⟩ (.slice t' m ct')).setCell ⟨c, 2, none⟩ (.int .i64 K)) h W m0 ct0 K0 t0 ap0 S0 pv0 Ls c t' m ct' S K 0 T pv ap xs ∧ CC w0 ((z.setCell ⟨c, 2, none⟩ (.int .i64 K)).setCell ⟨c, 1, none⟩ (.slice t' m ct')) h W m0 ct0 K0 t0 ap0 S0 pv0 Ls c t' m ct' S K 0 T pv ap xs := by
  obtain ⟨h1, h2, h3, h4, h5, h6, h7, h8⟩ := H
  have hc : c ∉ tvB t' ct' := fun e => (hb c e).2 rfl
  have hne : h ≠ c := by omega
  have go : ∀ w', Chg [c] z w' → Blk w' c [.int .i64 W, .slice t' m ct', .int .i64 K, pv, .pointer ap] 108 → CC w0 w' h W m0 ct0 K0 t0 ap0 S0 pv0 Ls c t' m ct' S K 0 T pv ap xs := fun w' k hB =>
    ⟨⟨hB, hT.chg k (fun g hg => by simp; exact fun e => hc (e ▸ hg)), hc, hK, h1.w1, hm⟩, h2.chg k (fun b hb => by simp at hb; rw [hb]; exact h1.ot), h3.chg k (by simpa using hne) (fun g hg => by simp; exact fun e => by exact hg_ne hg h3 h1 e), h4, h5, fun x hx => (hb x hx).1, k.onto h7 h7.size (by simp; exact h4), h8⟩
  exact ⟨go _ (((Chg.refl [c] z).set (Or.inl (by simp)) _ _).set (Or.inl (by simp)) _ _) ((h1.o.set 1 _).set 2 _), go _ (((Chg.refl [c] z).set (Or.inl (by simp)) _ _).set (Or.inl (by simp)) _ _) ((h1.o.set 2 _).set 1 _)⟩
end Go.Proofs.Ytbdjcppkfihonaa
/- Hold: Copy, walked. -/
namespace Go.Proofs.Ytbdjcppkfihonaa
open Go.ChangeShapes Go.WideShapes Go.ChangeAt Go.RowKit
set_option linter.unusedSimpArgs false
set_option linter.unusedVariables false


theorem CC.fed {w0 w w' : World} {h W m0 ct0 K0 : Nat} {t0 ap0 : Option Addr} {S0 : ByteArray} {pv0 : Value} {Ls : List (List (Bool × BitVec 256))} {c : Nat} {t : Option Addr} {m ct : Nat} {S : ByteArray} {K fed fed2 : Nat} {T : List UInt8} {pv : Value} {ap : Option Addr} {xs : List Nat} (H : CC w0 w h W m0 ct0 K0 t0 ap0 S0 pv0 Ls c t m ct S K fed T pv ap xs) (h2 : AX w' ap xs Ls (Ar.stk Ls (lgT T) fed2) fed2) (k : Chg xs w w') : CC w0 w' h W m0 ct0 K0 t0 ap0 S0 pv0 Ls c t m ct S K fed2 T pv ap xs := by
  obtain ⟨q1, q2, q3, q4, q5, q6, q7, q8⟩ := H
  exact ⟨q1.chg k (q2.xs q1.ot) (fun g hg => q2.xs (q1.tv.ot g hg).1), h2, q3.chg k (q2.xs q3.ot) (fun g hg => q2.xs (q3.tv.ot g hg).1), q4, q5, q6, k.onto q7 q7.size q5, q8⟩
set_option maxRecDepth 20000 in
set_option maxHeartbeats 8000000 in
theorem hd_copy (h W m ct K : Nat) (t ap : Option Addr) (S : ByteArray) (pv : Value) (Ls : List (List (Bool × BitVec 256))) (T : List UInt8) (hT : S.data.toList = T) (w : World) (H : HO w h W t m ct S K pv ap) (hP : PV w pv ap Ls) :
    Calls Try.prog 50 #[.pointer (some ⟨h, 0, none⟩)] w fun e w' => ∃ c t' ct' pv' ap' xs', e = .returned (.pointer (some ⟨c, 0, none⟩)) ∧ CC w w' h W m ct K t ap S pv Ls c t' m ct' S K K T pv' ap' xs' := by
  obtain ⟨c, hc⟩ : ∃ c, w.heap.size = c := ⟨_, rfl⟩
  have hK := H.km
  have hmW := H.mw
  have hW := H.w1
  have HH := Lib.hid (And.intro H (And.intro hT (And.intro hc H.o.lt)))
  have c0 := H.o.cell (i := 0) rfl
  have c3 := H.o.cell (i := 3) rfl
  have c4 := H.o.cell (i := 4) rfl
  clear hT hc
  rcases hP with ⟨rfl, rfl⟩ | ⟨x, ss, k, gp, cp, rfl, rfl, p1, p2, p3, p4, p5, p6⟩
  · clear H
    go_enter Try.func50, Try.ntmps50
    go_upto_region 6 with (first
      | (go_at_call 32; refine (hd_new (W : Int) W (by omega) _).mono ?_; rintro e W1 ⟨rfl, q1, q2⟩; rw [HH.out.2.2.1] at q1; rw [HH.out.2.2.1]; have HB := Lib.hid (And.intro q1 (And.intro (HH.out.1.below q2) q2)); have d4 := HB.out.2.1.o.cell (i := 4) rfl; have d3 := HB.out.2.1.o.cell (i := 3) rfl; clear q1 q2 c0 c3 c4)
      | fail)
    have HB1 : Hid (CC w W1 h W m ct K t none S pv [] c none 0 0 ByteArray.empty 0 0 T (.slice none 0 0) none []) := Lib.hid ⟨HB.out.1, Or.inl ⟨rfl, rfl, rfl⟩, HB.out.2.1, Nat.le_of_eq HH.out.2.2.1, by simp, by simp [tvB], HB.out.2.2, HH.out.2.2.2⟩
    clear HB d3 d4
    go_cut [] from 6 to 60 (fun wx => ∃ (t' : Option Addr) (ct' : Nat), Hid (CC w wx h W m ct K t none S pv [] c t' m ct' S K 0 T (.slice none 0 0) none []))
    case first =>
      have HD := Lib.hid (HB1.out.below (Below.refl _ _).drew)
      have e1 := HD.out.2.2.1.o.cell (i := 1) rfl
      have e2 := HD.out.2.2.1.o.cell (i := 2) rfl
      have hn1 : ¬ h = c := by have := HH.out.2.2.2; have := HH.out.2.2.1; omega
      have hn2 : ¬ c = h := fun e => hn1 e.symm
      go_region_law (first
        | (rw [if_pos (by simp [Region.wanted])]
           unfold Oper.wp
           go_simp
           go_at_call 68
           refine (hd_clone t m ct S (by omega) _ HD.out.2.2.1.tv).mono ?_
           rintro e z ⟨t', ct', rfl, q1, q2, q3⟩
           have HE0 := Lib.hid (HD.out.below q3)
           have HE := Lib.hid (CC.set2 HE0.out q1 (fun x hx => by
             have z1 := q2 x hx
             have z2 := HD.out.1.o.lt
             have z3 := HD.out.2.2.2.2.2.2.1.size
             exact ⟨Nat.le_trans z3 z1, by omega⟩) hK hmW)
           have x1 := HE0.out.2.2.1.o.cell (i := 1) rfl
           have x2 := HE0.out.2.2.1.o.cell (i := 2) rfl
           have y1 := HE0.out.1.o.cell (i := 1) rfl
           have y2 := HE0.out.1.o.cell (i := 2) rfl
           have f1 := HE0.out.1.o.free 1
           have f2 := HE0.out.1.o.free 2
           clear q1 q2 q3))
      all_goals
        go_wp2_with fail
        go_meet
        first
          | with_reducible exact ⟨t', ct', Lib.hid HE.out.1⟩
          | with_reducible exact ⟨t', ct', Lib.hid HE.out.2⟩
    case rest =>
      obtain ⟨t', ct', HC⟩ := hcut
      clear HB1
      rcases HC.out.1.tv with ⟨hs, ⟨hz, hct, hsp⟩ | ⟨g', ht', hr⟩⟩
      · have hK0 : K = 0 := by omega
        subst hz
        subst hct
        subst hK0
        cases t' with
        | none =>
          have f1 := HC.out.1.o.cell (i := 1) rfl
          have f2 := HC.out.1.o.cell (i := 2) rfl
          have i0 : (0 : Int) ≤ ((0 : Nat) : Int) := by omega
          have i1 : ((0 : Nat) : Int) ≤ ((0 : Nat) : Int) := by omega
          have i2 : 0 ≤ 0 := by omega
          go_wp2_with fail
          go_quiet (fail)
          go_wp2_with fail
          go_loopw [5, 49] (fun _ iv wr => ∃ i : Nat, iv = .int .i64 i ∧ i ≤ 0 ∧ Hid (CC w wr h W 0 ct 0 t none S pv [] c none 0 0 S 0 i T (.slice none 0 0) none [])) (fun _ iv _ => 0 - (intOf iv).toNat)
          case atStart => exact ⟨0, rfl, by omega, Lib.hid (HC.out.below (below_drewH (Below.refl _ _) _))⟩
          case round =>
            clear HC f1 f2
            obtain ⟨i, rfl, hi, HC⟩ := hrel
            by_cases hik : i < 0
            · exact absurd hik (by omega)
            · obtain rfl : i = 0 := by omega
              have j1 : ¬ ((0 : Nat) : Int) < ((0 : Nat) : Int) := by omega
              go_wp2
              first | go_ret | go_ret2 | go_ret3
              exact ⟨c, rfl, _, 0, _, _, _, HC.out⟩
        | some ad =>
          obtain ⟨b9, o9, s9⟩ := ad
          have hs9 := hsp _ rfl
          dsimp only at hs9
          subst hs9
          have f1 := HC.out.1.o.cell (i := 1) rfl
          have f2 := HC.out.1.o.cell (i := 2) rfl
          have i0 : (0 : Int) ≤ ((0 : Nat) : Int) := by omega
          have i1 : ((0 : Nat) : Int) ≤ ((0 : Nat) : Int) := by omega
          have i2 : 0 ≤ 0 := by omega
          go_wp2_with fail
          go_quiet (fail)
          go_wp2_with fail
          go_loopw [5, 49] (fun _ iv wr => ∃ i : Nat, iv = .int .i64 i ∧ i ≤ 0 ∧ Hid (CC w wr h W 0 ct 0 t none S pv [] c (some ⟨b9, o9, none⟩) 0 0 S 0 i T (.slice none 0 0) none [])) (fun _ iv _ => 0 - (intOf iv).toNat)
          case atStart => exact ⟨0, rfl, by omega, Lib.hid (HC.out.below (below_drewH (Below.refl _ _) _))⟩
          case round =>
            clear HC f1 f2
            obtain ⟨i, rfl, hi, HC⟩ := hrel
            by_cases hik : i < 0
            · exact absurd hik (by omega)
            · obtain rfl : i = 0 := by omega
              have j1 : ¬ ((0 : Nat) : Int) < ((0 : Nat) : Int) := by omega
              go_wp2
              first | go_ret | go_ret2 | go_ret3
              exact ⟨c, rfl, _, 0, _, _, _, HC.out⟩
      · subst ht'
        have hcap : m ≤ ct' := by have := hr.len; rw [bv_length, hs] at this; exact this
        clear hr
        have f1 := HC.out.1.o.cell (i := 1) rfl
        have f2 := HC.out.1.o.cell (i := 2) rfl
        have i0 : (0 : Int) ≤ (K : Int) := by omega
        have i1 : (K : Int) ≤ (ct' : Int) := by omega
        have i2 : K ≤ ct' := by omega
        go_wp2_with fail
        go_quiet (fail)
        go_wp2_with fail
        go_loopw [5, 49] (fun _ iv wr => ∃ i : Nat, iv = .int .i64 i ∧ i ≤ K ∧ Hid (CC w wr h W m ct K t none S pv [] c (some ⟨g', 0, none⟩) m ct' S K i T (.slice none 0 0) none [])) (fun _ iv _ => K - (intOf iv).toNat)
        case atStart => exact ⟨0, rfl, by omega, Lib.hid (HC.out.below (below_drewH (Below.refl _ _) _))⟩
        case round =>
          clear HC f1 f2
          obtain ⟨i, rfl, hi, HC⟩ := hrel
          by_cases hik : i < K
          · have j1 : (i : Int) < (K : Int) := by omega
            have j2 : (0 : Int) ≤ (i : Int) := by omega
            have j3 : IntKind.i64.wrap ((i : Int) + 1) = (i : Int) + 1 := IntWalk.i64_in _ (by omega)
            obtain ⟨z, hz⟩ : ∃ z : Int, ((lgT T i).toNat : Int) = z := ⟨_, rfl⟩
            have hy : wr.cell? ⟨g', i, none⟩ = some (.int .u8 z) := by
              obtain ⟨g2, e2, hr⟩ := HC.out.1.tv.row (by omega)
              injection e2 with e2
              injection e2 with e2
              subst e2
              have hS := HC.out.1.tv.1
              have hlt : i < S.size := by omega
              rw [← hz, ← lgT_at HH.out.2.1 hlt]
              exact hr.cell (bv_at S i hlt)
            have g4 := HC.out.1.o.cell (i := 4) rfl
            obtain ⟨q, ok, hq⟩ : ∃ q ok, Ar.fs (Ar.dn [] (Ar.stk [] (lgT T) (i + 1))) ([] : List (List (Bool × BitVec 256))).length = (q, ok) := ⟨_, _, rfl⟩
            have HZ := Lib.hid (And.intro hz hq)
            clear hz hq
            go_wp2_with (first
              | (go_at_call 63; refine (ax_feed HC.out.2.1 (lgT T i).toNat (by have := (lgT T i).toNat_lt; omega) z HZ.out.1.symm rfl (by omega) q ok HZ.out.2).mono ?_; rintro e z9 ⟨rfl, q1, q2⟩; have HD := Lib.hid (HC.out.fed q1 q2); clear q1 q2)
              | fail)
            go_roundw
            case rel => exact ⟨i + 1, by go_num, by omega, HD⟩
            case measure => simp [intOf]; omega
          · obtain rfl : i = K := by omega
            have j1 : ¬ (i : Int) < (i : Int) := by omega
            go_wp2
            first | go_ret | go_ret2 | go_ret3
            exact ⟨c, rfl, _, ct', _, _, _, HC.out⟩
  · have HPV : Hid (Rw w gp cp (ss.map .string) 9 ∧ ss.length = k ∧ (∀ s ∈ ss, s.size ≤ 1000000) ∧ (Ar.nw ss k).2 = 0 ∧ ss.map Ar.pat = Ls ∧ ∀ s ∈ ss, s.size ≤ maxLen) := Lib.hid ⟨p1, p2, p4, p5, p6, fun s hs => by have := p4 s hs; unfold maxLen; omega⟩
    clear H p1 p2 p4 p5 p6
    go_enter Try.func50, Try.ntmps50
    go_upto_region 6 with (first
      | (go_at_call 32; refine (hd_new (W : Int) W (by omega) _).mono ?_; rintro e W1 ⟨rfl, q1, q2⟩; rw [HH.out.2.2.1] at q1; rw [HH.out.2.2.1]; have HB := Lib.hid (And.intro q1 (And.intro (HH.out.1.below q2) q2)); have d4 := HB.out.2.1.o.cell (i := 4) rfl; have d3 := HB.out.2.1.o.cell (i := 3) rfl; clear q1 q2 c0 c3 c4)
      | (go_at_call 42; refine (hd_begin_yes c W 0 0 0 none none ByteArray.empty (.slice none 0 0) ss k HPV.out.2.1 p3 gp cp HPV.out.2.2.1 HPV.out.2.2.2.1 _ HB.out.1 (TX.of_rw (HPV.out.1.fr HB.out.2.2) HPV.out.2.2.2.2.2)).mono ?_; rintro r W2 ⟨x9, gp9, cp9, xs, rfl, q1, q2, _, _, q5, q6⟩; rw [HPV.out.2.2.2.2.1] at q2; have HQ := Lib.hid (And.intro q1 (And.intro q2 (And.intro q5 q6))); clear q1 q2 q5 q6 d3 d4)
      | fail)
    have HB1 : Hid (CC w W2 h W m ct K t (some ⟨x, 0, none⟩) S (.slice (some ⟨gp, 0, none⟩) k cp) Ls c none 0 0 ByteArray.empty 0 0 T (.slice (some ⟨gp9, 0, none⟩) k cp9) (some ⟨x9, 0, none⟩) xs) := by
      obtain ⟨q1, q2, q5, q6⟩ := HQ.out
      obtain ⟨b1, b2, b3⟩ := HB.out
      have hl := HH.out.2.2.2
      have hcc := HH.out.2.2.1
      have s1 := b3.size
      exact Lib.hid ⟨q1, q2, b2.chg q6 (by simp; omega) (fun g hg => by simp; exact hg_ne hg b2 b1), by omega, fun y hy => Nat.le_trans s1 (q5 y hy), by simp [tvB], q6.onto b3 s1 (by simp; omega), hl⟩
    clear HB HQ
    go_cut [] from 6 to 60 (fun wx => ∃ (t' : Option Addr) (ct' : Nat), Hid (CC w wx h W m ct K t (some ⟨x, 0, none⟩) S (.slice (some ⟨gp, 0, none⟩) k cp) Ls c t' m ct' S K 0 T (.slice (some ⟨gp9, 0, none⟩) k cp9) (some ⟨x9, 0, none⟩) xs))
    case first =>
      have HD := Lib.hid (HB1.out.below (Below.refl _ _).drew)
      have e1 := HD.out.2.2.1.o.cell (i := 1) rfl
      have e2 := HD.out.2.2.1.o.cell (i := 2) rfl
      have hn1 : ¬ h = c := by have := HH.out.2.2.2; have := HH.out.2.2.1; omega
      have hn2 : ¬ c = h := fun e => hn1 e.symm
      go_region_law (first
        | (rw [if_pos (by simp [Region.wanted])]
           unfold Oper.wp
           go_simp
           go_at_call 68
           refine (hd_clone t m ct S (by omega) _ HD.out.2.2.1.tv).mono ?_
           rintro e z ⟨t', ct', rfl, q1, q2, q3⟩
           have HE0 := Lib.hid (HD.out.below q3)
           have HE := Lib.hid (CC.set2 HE0.out q1 (fun x hx => by
             have z1 := q2 x hx
             have z2 := HD.out.1.o.lt
             have z3 := HD.out.2.2.2.2.2.2.1.size
             exact ⟨Nat.le_trans z3 z1, by omega⟩) hK hmW)
           have x1 := HE0.out.2.2.1.o.cell (i := 1) rfl
           have x2 := HE0.out.2.2.1.o.cell (i := 2) rfl
           have y1 := HE0.out.1.o.cell (i := 1) rfl
           have y2 := HE0.out.1.o.cell (i := 2) rfl
           have f1 := HE0.out.1.o.free 1
           have f2 := HE0.out.1.o.free 2
           clear q1 q2 q3))
      all_goals
        go_wp2_with fail
        go_meet
        first
          | with_reducible exact ⟨t', ct', Lib.hid HE.out.1⟩
          | with_reducible exact ⟨t', ct', Lib.hid HE.out.2⟩
    case rest =>
      obtain ⟨t', ct', HC⟩ := hcut
      clear HB1
      rcases HC.out.1.tv with ⟨hs, ⟨hz, hct, hsp⟩ | ⟨g', ht', hr⟩⟩
      · have hK0 : K = 0 := by omega
        subst hz
        subst hct
        subst hK0
        cases t' with
        | none =>
          have f1 := HC.out.1.o.cell (i := 1) rfl
          have f2 := HC.out.1.o.cell (i := 2) rfl
          have i0 : (0 : Int) ≤ ((0 : Nat) : Int) := by omega
          have i1 : ((0 : Nat) : Int) ≤ ((0 : Nat) : Int) := by omega
          have i2 : 0 ≤ 0 := by omega
          go_wp2_with fail
          go_quiet (fail)
          go_wp2_with fail
          go_loopw [5, 49] (fun _ iv wr => ∃ i : Nat, iv = .int .i64 i ∧ i ≤ 0 ∧ Hid (CC w wr h W 0 ct 0 t (some ⟨x, 0, none⟩) S (.slice (some ⟨gp, 0, none⟩) k cp) Ls c none 0 0 S 0 i T (.slice (some ⟨gp9, 0, none⟩) k cp9) (some ⟨x9, 0, none⟩) xs)) (fun _ iv _ => 0 - (intOf iv).toNat)
          case atStart => exact ⟨0, rfl, by omega, Lib.hid (HC.out.below (below_drewH (Below.refl _ _) _))⟩
          case round =>
            clear HC f1 f2
            obtain ⟨i, rfl, hi, HC⟩ := hrel
            by_cases hik : i < 0
            · exact absurd hik (by omega)
            · obtain rfl : i = 0 := by omega
              have j1 : ¬ ((0 : Nat) : Int) < ((0 : Nat) : Int) := by omega
              go_wp2
              first | go_ret | go_ret2 | go_ret3
              exact ⟨c, rfl, _, 0, _, _, _, HC.out⟩
        | some ad =>
          obtain ⟨b9, o9, s9⟩ := ad
          have hs9 := hsp _ rfl
          dsimp only at hs9
          subst hs9
          have f1 := HC.out.1.o.cell (i := 1) rfl
          have f2 := HC.out.1.o.cell (i := 2) rfl
          have i0 : (0 : Int) ≤ ((0 : Nat) : Int) := by omega
          have i1 : ((0 : Nat) : Int) ≤ ((0 : Nat) : Int) := by omega
          have i2 : 0 ≤ 0 := by omega
          go_wp2_with fail
          go_quiet (fail)
          go_wp2_with fail
          go_loopw [5, 49] (fun _ iv wr => ∃ i : Nat, iv = .int .i64 i ∧ i ≤ 0 ∧ Hid (CC w wr h W 0 ct 0 t (some ⟨x, 0, none⟩) S (.slice (some ⟨gp, 0, none⟩) k cp) Ls c (some ⟨b9, o9, none⟩) 0 0 S 0 i T (.slice (some ⟨gp9, 0, none⟩) k cp9) (some ⟨x9, 0, none⟩) xs)) (fun _ iv _ => 0 - (intOf iv).toNat)
          case atStart => exact ⟨0, rfl, by omega, Lib.hid (HC.out.below (below_drewH (Below.refl _ _) _))⟩
          case round =>
            clear HC f1 f2
            obtain ⟨i, rfl, hi, HC⟩ := hrel
            by_cases hik : i < 0
            · exact absurd hik (by omega)
            · obtain rfl : i = 0 := by omega
              have j1 : ¬ ((0 : Nat) : Int) < ((0 : Nat) : Int) := by omega
              go_wp2
              first | go_ret | go_ret2 | go_ret3
              exact ⟨c, rfl, _, 0, _, _, _, HC.out⟩
      · subst ht'
        have hcap : m ≤ ct' := by have := hr.len; rw [bv_length, hs] at this; exact this
        clear hr
        have f1 := HC.out.1.o.cell (i := 1) rfl
        have f2 := HC.out.1.o.cell (i := 2) rfl
        have i0 : (0 : Int) ≤ (K : Int) := by omega
        have i1 : (K : Int) ≤ (ct' : Int) := by omega
        have i2 : K ≤ ct' := by omega
        go_wp2_with fail
        go_quiet (fail)
        go_wp2_with fail
        go_loopw [5, 49] (fun _ iv wr => ∃ i : Nat, iv = .int .i64 i ∧ i ≤ K ∧ Hid (CC w wr h W m ct K t (some ⟨x, 0, none⟩) S (.slice (some ⟨gp, 0, none⟩) k cp) Ls c (some ⟨g', 0, none⟩) m ct' S K i T (.slice (some ⟨gp9, 0, none⟩) k cp9) (some ⟨x9, 0, none⟩) xs)) (fun _ iv _ => K - (intOf iv).toNat)
        case atStart => exact ⟨0, rfl, by omega, Lib.hid (HC.out.below (below_drewH (Below.refl _ _) _))⟩
        case round =>
          clear HC f1 f2
          obtain ⟨i, rfl, hi, HC⟩ := hrel
          by_cases hik : i < K
          · have j1 : (i : Int) < (K : Int) := by omega
            have j2 : (0 : Int) ≤ (i : Int) := by omega
            have j3 : IntKind.i64.wrap ((i : Int) + 1) = (i : Int) + 1 := IntWalk.i64_in _ (by omega)
            obtain ⟨z, hz⟩ : ∃ z : Int, ((lgT T i).toNat : Int) = z := ⟨_, rfl⟩
            have hy : wr.cell? ⟨g', i, none⟩ = some (.int .u8 z) := by
              obtain ⟨g2, e2, hr⟩ := HC.out.1.tv.row (by omega)
              injection e2 with e2
              injection e2 with e2
              subst e2
              have hS := HC.out.1.tv.1
              have hlt : i < S.size := by omega
              rw [← hz, ← lgT_at HH.out.2.1 hlt]
              exact hr.cell (bv_at S i hlt)
            have g4 := HC.out.1.o.cell (i := 4) rfl
            obtain ⟨q, ok, hq⟩ : ∃ q ok, Ar.fs (Ar.dn Ls (Ar.stk Ls (lgT T) (i + 1))) (Ls : List (List (Bool × BitVec 256))).length = (q, ok) := ⟨_, _, rfl⟩
            have HZ := Lib.hid (And.intro hz hq)
            clear hz hq
            go_wp2_with (first
              | (go_at_call 63; refine (ax_feed HC.out.2.1 (lgT T i).toNat (by have := (lgT T i).toNat_lt; omega) z HZ.out.1.symm rfl (by omega) q ok HZ.out.2).mono ?_; rintro e z9 ⟨rfl, q1, q2⟩; have HD := Lib.hid (HC.out.fed q1 q2); clear q1 q2)
              | fail)
            go_roundw
            case rel => exact ⟨i + 1, by go_num, by omega, HD⟩
            case measure => simp [intOf]; omega
          · obtain rfl : i = K := by omega
            have j1 : ¬ (i : Int) < (i : Int) := by omega
            go_wp2
            first | go_ret | go_ret2 | go_ret3
            exact ⟨c, rfl, _, ct', _, _, _, HC.out⟩
end Go.Proofs.Ytbdjcppkfihonaa
/- Hold: the calls, with what they change told. -/
namespace Go.Proofs.Ytbdjcppkfihonaa
open Go.ChangeShapes Go.WideShapes Go.ChangeAt Go.RowKit
set_option linter.unusedSimpArgs false
set_option linter.unusedVariables false


/-- What changes lies in D; what is in D' lay in D, or is new. -/
def MV (w w' : World) (D D' : List Nat) : Prop := ∃ l, Chg l w w' ∧ (∀ y ∈ l, y ∈ D) ∧ ∀ y ∈ D', y ∈ D ∨ w.heap.size ≤ y
theorem MV.keeps {B : Nat} {w0 w : World} {h b g n W : Nat} {pv : Value} {ap : Option Addr} {xs : List Nat} {Ls : List (List (Bool × BitVec 256))} {t : Option Addr} {m ct : Nat} {S : ByteArray} {K f : Nat} {R : ByteArray} (H : LS B w0 w h b g n W pv ap xs Ls t m ct S K f R) {w' : World} {D' : List Nat} (k : MV w w' (LSD h b g xs t ct) D') : KT w w' := by
  obtain ⟨l, k1, k2, _⟩ := k
  exact H.keeps k1 k2
/-- A ring that stands apart stays, and stays apart. -/
theorem MV.ring {w w' : World} {D D' : List Nat} (k : MV w w' D D') {b g n f : Nat} {R : ByteArray} (hr : RAt w b g n f R) (hb : b ∉ D) (hg : g ∉ D) : RAt w' b g n f R ∧ b ∉ D' ∧ g ∉ D' := by
  obtain ⟨l, k1, k2, k3⟩ := k
  have hl := hr.lts
  refine ⟨hr.chg k1 (fun e => hb (k2 _ e)) (fun e => hg (k2 _ e)), fun e => ?_, fun e => ?_⟩
  · rcases k3 _ e with z | z
    · exact hb z
    · omega
  · rcases k3 _ e with z | z
    · exact hg z
    · omega
theorem ls_look4 {B : Nat} {w0 w : World} {h b g n W : Nat} {pv : Value} {ap : Option Addr} {xs : List Nat} {Ls : List (List (Bool × BitVec 256))} {t : Option Addr} {m ct : Nat} {S : ByteArray} {K f : Nat} {R : ByteArray} (H : LS B w0 w h b g n W pv ap xs Ls t m ct S K f R) (res : Hd.R) (hres : Hd.look Ls W ((m - K) + R.size + 1) S.data.toList K R.data.toList 0 = res) (S2 R2 : ByteArray) (hS2 : S2.data.toList = res.S) (hR2 : R2.data.toList = res.Q) :
    Calls Try.prog 39 #[.pointer (some ⟨h, 0, none⟩), .pointer (some ⟨b, 0, none⟩)] w fun e w' => e = .returned (.agg #[.bool res.hit, .bool res.full, .int .i64 res.arm, .int .i64 res.gone, .int .i64 res.rd]) ∧ ∃ t' m' ct' f', LS B w0 w' h b g n W pv ap xs Ls t' m' ct' S2 res.K f' R2 ∧ MV w w' (LSD h b g xs t ct) (LSD h b g xs t' ct') := by
  have hsp := H.2.2.2.1
  refine (hd_look h b g n f W m ct K t ap S R pv xs Ls res hres ⟨hsp.1, hsp.2.1⟩ hsp.2.2 w H.1 H.2.1 H.2.2.1).mono fun e w' ⟨he, t', m', ct', S', f', R', q1, q2, q3, q4, q5, q6, q7⟩ => ?_
  have hl := H.2.2.1.lts
  have hB := H.2.2.2.2.1
  have hw := H.2.2.2.2.2.2
  obtain rfl : S' = S2 := ba_ext (q2.trans hS2.symm)
  obtain rfl : R' = R2 := ba_ext (q5.trans hR2.symm)
  refine ⟨he, t', m', ct', f', ⟨q1, by rw [q2]; exact q3, q4, ⟨hsp.1, hsp.2.1, fun x hx => ?_⟩, ⟨hB.1, hB.2.1, hB.2.2.1, hB.2.2.2.1, fun x hx => ?_⟩, q7.onto H.2.2.2.2.2.1 hw (fun x hx => ?_), Nat.le_trans hw q7.size⟩, _, q7, fun y hy => ?_, fun y hy => ?_⟩
  · rcases q6 x hx with e | e
    · exact hsp.2.2 x e
    · omega
  · rcases q6 x hx with e | e
    · exact hB.2.2.2.2 x e
    · omega
  · simp at hx
    rcases hx with e | e | e | e
    · omega
    · omega
    · exact hB.2.2.2.1 x e
    · exact hB.2.2.2.2 x e
  · simp at hy
    rcases hy with e | e | e | e <;> simp [LSD, e]
  · unfold LSD at hy ⊢
    rw [List.mem_cons, List.mem_cons, List.mem_cons, List.mem_append] at hy
    rcases hy with rfl | rfl | rfl | hy | hy
    · exact Or.inl (by simp)
    · exact Or.inl (by simp)
    · exact Or.inl (by simp)
    · exact Or.inl (by simp [hy])
    · rcases q6 y hy with e | e
      · exact Or.inl (by simp [e])
      · exact Or.inr e
theorem ls_put4 {B : Nat} {w0 w : World} {h b g n W : Nat} {pv : Value} {ap : Option Addr} {xs : List Nat} {Ls : List (List (Bool × BitVec 256))} {t : Option Addr} {m ct : Nat} {S : ByteArray} {K f : Nat} {R : ByteArray} (H : LS B w0 w h b g n W pv ap xs Ls t m ct S K f R) (s : ByteArray) (hs : s.size ≤ 100000) (q : Nat) (hq : min s.size (n - R.size) = q) (R2 : ByteArray) (hR2 : R ++ s.extract 0 q = R2) :
    Calls Try.prog 36 #[.pointer (some ⟨b, 0, none⟩), .string s] w fun e w' => e = .returned (.int .i64 (q : Nat)) ∧ LS B w0 w' h b g n W pv ap xs Ls t m ct S K f R2 ∧ MV w w' (LSD h b g xs t ct) (LSD h b g xs t ct) := by
  subst hq hR2
  exact (put_any b g n f R s w hs H.2.2.1).mono fun e w' ⟨he, q1, q2⟩ => by
    have hsp := H.2.2.2.1
    have hB := H.2.2.2.2.1
    have ot := H.2.2.1.ots
    exact ⟨he, ⟨H.1.chg q2 (by simp; exact ⟨hsp.1, hsp.2.1⟩) (fun x hx => by simp; exact hsp.2.2 x hx), H.2.1.chg q2 (fun x hx => by simp at hx; rcases hx with e | e; rw [e]; exact ot.1; rw [e]; exact ot.2), q1, hsp, hB, q2.onto H.2.2.2.2.2.1 H.2.2.2.2.2.2 (fun x hx => by simp at hx; rcases hx with e | e <;> omega), Nat.le_trans H.2.2.2.2.2.2 q2.size⟩, _, q2, fun y hy => by simp at hy; rcases hy with e | e <;> simp [LSD, e], fun y hy => Or.inl hy⟩
theorem ls_begin4 {B : Nat} {w0 w : World} {h b g n W : Nat} {pv : Value} {ap : Option Addr} {xs : List Nat} {Ls : List (List (Bool × BitVec 256))} {t : Option Addr} {m ct : Nat} {S : ByteArray} {K f : Nat} {R : ByteArray} (H : LS B w0 w h b g n W pv ap xs Ls t m ct S K f R) (ss : List ByteArray) (k : Nat) (hk : ss.length = k) (hk8 : k ≤ 8) (gg c : Nat) (hs : ∀ s ∈ ss, s.size ≤ 1000000) (he : (Ar.nw ss k).2 = 0) (hI : TX w (some ⟨gg, 0, none⟩) ss) (Ls' : List (List (Bool × BitVec 256))) (hL : ss.map Ar.pat = Ls') :
    Calls Try.prog 42 #[.pointer (some ⟨h, 0, none⟩), .slice (some ⟨gg, 0, none⟩) k c] w fun r w' => ∃ x gp cp xs', r = .returned (.int .i64 0) ∧ LS B w0 w' h b g n W (.slice (some ⟨gp, 0, none⟩) k cp) (some ⟨x, 0, none⟩) xs' Ls' t m ct S 0 f R ∧ PV w' (.slice (some ⟨gp, 0, none⟩) k cp) (some ⟨x, 0, none⟩) Ls' ∧ MV w w' (LSD h b g xs t ct) (LSD h b g xs' t ct) :=
  (hd_begin_yes h W m ct K t ap S pv ss k hk hk8 gg c hs he w H.1 hI).mono fun r w' ⟨x, gp, cp, xs', q0, q1, q2, q3, q4, q5, q6⟩ => by
    have hsp := H.2.2.2.1
    have hB := H.2.2.2.2.1
    rw [hL] at q2
    refine ⟨x, gp, cp, xs', q0, ⟨q1, q2, H.2.2.1.chg q6 (by simp; exact fun e => hsp.1 e.symm) (by simp; exact fun e => hsp.2.1 e.symm), hsp, ⟨hB.1, hB.2.1, hB.2.2.1, fun y hy => Nat.le_trans H.2.2.2.2.2.2 (q5 y hy), hB.2.2.2.2⟩, q6.onto H.2.2.2.2.2.1 H.2.2.2.2.2.2 (fun y hy => by simp at hy; omega), Nat.le_trans H.2.2.2.2.2.2 q6.size⟩, Or.inr ⟨x, ss, k, gp, cp, rfl, rfl, q4, hk, hk8, hs, he, hL⟩, _, q6, fun y hy => by simp at hy; simp [LSD, hy], fun y hy => ?_⟩
    unfold LSD at hy ⊢
    rw [List.mem_cons, List.mem_cons, List.mem_cons, List.mem_append] at hy
    rcases hy with rfl | rfl | rfl | hy | hy
    · exact Or.inl (by simp)
    · exact Or.inl (by simp)
    · exact Or.inl (by simp)
    · exact Or.inr (q5 y hy)
    · exact Or.inl (by simp [hy])
/-- The texts stay where blocks of other types do. -/
theorem PV.keep {w w' : World} {pv : Value} {ap : Option Addr} {Ls : List (List (Bool × BitVec 256))} (h : PV w pv ap Ls) (k : KT w w') : PV w' pv ap Ls := by
  rcases h with h | ⟨x, ss, kk, gp, cp, h1, h2, ⟨r, q1, q2, q3⟩, h4⟩
  · exact Or.inl h
  · exact Or.inr ⟨x, ss, kk, gp, cp, h1, h2, ⟨r, q1, q2, k.1 _ _ _ (by unfold HT5; decide) q3⟩, h4⟩
/-- From the copy on: two windows with rings of their own. -/
theorem tw_copy {w0 w w' : World} {h b g n W c qb qg qn qf m ct K f : Nat} {pv pv' : Value} {ap ap' t t' : Option Addr} {xs xs' : List Nat} {Ls : List (List (Bool × BitVec 256))} {ct' : Nat} {S R Q : ByteArray} {B : Nat} (H : LS B w0 w h b g n W pv ap xs Ls t m ct S K f R) (hq : RAt w qb qg qn qf Q) (hqb : qb ∉ LSD h b g xs t ct ∧ qg ∉ LSD h b g xs t ct) (hB : B ≤ qb ∧ B ≤ qg) (hC : CC w w' h W m ct K t ap S pv Ls c t' m ct' S K K S.data.toList pv' ap' xs') :
    TW B w0 w' h b g n W pv ap xs Ls t m ct S K f R c qb qg qn W pv' ap' xs' Ls t' m ct' S K qf Q := by
  obtain ⟨c1, c2, c3, c4, c5, c6, c7, c8⟩ := hC
  have hl := hq.lts
  have hw := H.2.2.2.2.2.2
  have hd := H.dom
  have A := H.below c7
  refine ⟨A, ⟨c1, c2, hq.fresh c7, ⟨by omega, by omega, fun x hx => ?_⟩, ⟨by omega, hB.1, hB.2, fun x hx => by have := c5 x hx; omega, fun x hx => by have := c6 x hx; omega⟩, H.2.2.2.2.2.1.trans (c7.mono hw), Nat.le_trans hw c7.size⟩, fun y hy e => ?_⟩
  · have := c6 x hx; omega
  · have hlt := (hd y hy).2.1
    unfold LSD at e
    rw [List.mem_cons, List.mem_cons, List.mem_cons, List.mem_append] at e
    rcases e with rfl | rfl | rfl | e | e
    · omega
    · exact hqb.1 hy
    · exact hqb.2 hy
    · have := c5 y e; omega
    · have := c6 y e; omega
end Go.Proofs.Ytbdjcppkfihonaa
/- Hold: what holds in HoldCopies. -/
namespace Go.Proofs.Ytbdjcppkfihonaa
open Go.ChangeShapes Go.WideShapes Go.ChangeAt Go.RowKit
set_option linter.unusedSimpArgs false
set_option linter.unusedVariables false


/-- The window and its ring, the document's lists and window (in block X), the patterns' texts. -/
def YP (B : Nat) (w0 w : World) (X : Nat) (hc : List Value) (a : Option Addr) (h b g n W : Nat) (pv : Value) (ap : Option Addr) (xs : List Nat) (Ls : List (List (Bool × BitVec 256))) (t : Option Addr) (m ct : Nat) (S : ByteArray) (K f : Nat) (R : ByteArray) : Prop :=
  LS B w0 w h b g n W pv ap xs Ls t m ct S K f R ∧ LLT w a Ls ∧ Blk w X hc 61 ∧ B ≤ X ∧ PV w pv ap Ls
/-- All blocks but X stay; the document's lists do. -/
def KT2 (w w' : World) (X : Nat) : Prop := (∀ y cs T, y ≠ X → Blk w y cs T → Blk w' y cs T) ∧ ∀ a A, LLT w a A → LLT w' a A
theorem YP.below {B : Nat} {w0 w : World} {X : Nat} {hc : List Value} {a : Option Addr} {h b g n W : Nat} {pv : Value} {ap : Option Addr} {xs : List Nat} {Ls : List (List (Bool × BitVec 256))} {t : Option Addr} {m ct : Nat} {S : ByteArray} {K f : Nat} {R : ByteArray} (H : YP B w0 w X hc a h b g n W pv ap xs Ls t m ct S K f R) {w' : World} (k : Below w.heap.size w w') : YP B w0 w' X hc a h b g n W pv ap xs Ls t m ct S K f R := ⟨H.1.below k, H.2.1.below k, Blk.below H.2.2.1 k H.2.2.1.lt, H.2.2.2.1, H.2.2.2.2.keep (KT.of_below k)⟩
theorem YP.setX {B : Nat} {w0 w : World} {X : Nat} {hc : List Value} {a : Option Addr} {h b g n W : Nat} {pv : Value} {ap : Option Addr} {xs : List Nat} {Ls : List (List (Bool × BitVec 256))} {t : Option Addr} {m ct : Nat} {S : ByteArray} {K f : Nat} {R : ByteArray} (H : YP B w0 w X hc a h b g n W pv ap xs Ls t m ct S K f R) (i : Nat) (v : Value) : YP B w0 (w.setCell ⟨X, i, none⟩ v) X (hc.set i v) a h b g n W pv ap xs Ls t m ct S K f R ∧ KT2 w (w.setCell ⟨X, i, none⟩ v) X := by
  have k : Chg [X] w (w.setCell ⟨X, i, none⟩ v) := (Chg.refl [X] w).set (Or.inl (by simp)) _ _
  have hx := H.2.2.1
  have ll : ∀ a A, LLT w a A → LLT (w.setCell ⟨X, i, none⟩ v) a A := fun a A h => h.chg k (fun y hy cs => by
    simp at hy
    subst hy
    exact ⟨fun h => absurd (blk_ty h hx) (by decide), fun h => absurd (blk_ty h hx) (by decide)⟩)
  have pp : PV (w.setCell ⟨X, i, none⟩ v) pv ap Ls := by
    rcases H.2.2.2.2 with h | ⟨x, ss, kk, gp, cp, h1, h2, ⟨r, q1, q2, q3⟩, h4⟩
    · exact Or.inl h
    · exact Or.inr ⟨x, ss, kk, gp, cp, h1, h2, ⟨r, q1, q2, q3.chg k (by simp; intro e; rw [e] at q3; exact absurd (blk_ty q3 hx) (by decide))⟩, h4⟩
  refine ⟨⟨H.1.chg k (fun y hy => ?_), ll _ _ H.2.1, hx.set i v, H.2.2.2.1, pp⟩, fun y cs T hy h => h.chg k (by simpa using hy), ll⟩
  simp at hy
  subst hy
  refine ⟨OT2.of hx (by decide), H.2.2.2.1, fun e => ?_⟩
  obtain ⟨cs', T', h1, h2⟩ := H.1.dty _ e
  rw [blk_ty h1 hx] at h2
  exact ht5_no.1 h2
theorem YP.step {B : Nat} {w0 w : World} {X : Nat} {hc : List Value} {a : Option Addr} {h b g n W : Nat} {pv : Value} {ap : Option Addr} {xs : List Nat} {Ls : List (List (Bool × BitVec 256))} {t : Option Addr} {m ct : Nat} {S : ByteArray} {K f : Nat} {R : ByteArray} {t3 : Option Addr} {m3 ct3 K3 f3 : Nat} {S3 R3 : ByteArray}  (H : YP B w0 w X hc a h b g n W pv ap xs Ls t m ct S K f R) {w' : World} (H1 : LS B w0 w' h b g n W pv ap xs Ls t3 m3 ct3 S3 K3 f3 R3) (k : KT w w') : YP B w0 w' X hc a h b g n W pv ap xs Ls t3 m3 ct3 S3 K3 f3 R3 :=
  ⟨H1, k.2 _ _ H.2.1, k.1 _ _ _ ht5_no.1 H.2.2.1, H.2.2.2.1, H.2.2.2.2.keep k⟩
/-- A look of the first of two, whatever it finds. -/
theorem tw_look4 {B : Nat} {w0 w : World} {h b g n W : Nat} {pv : Value} {ap : Option Addr} {xs : List Nat} {Ls : List (List (Bool × BitVec 256))} {t : Option Addr} {m ct : Nat} {S : ByteArray} {K f : Nat} {R : ByteArray} {h2 b2 g2 n2 W2 : Nat} {pv2 : Value} {ap2 : Option Addr} {xs2 : List Nat} {Ls2 : List (List (Bool × BitVec 256))} {t2 : Option Addr} {m2 ct2 : Nat} {S2 : ByteArray} {K2 f2 : Nat} {R2 : ByteArray} (H : TW B w0 w h b g n W pv ap xs Ls t m ct S K f R h2 b2 g2 n2 W2 pv2 ap2 xs2 Ls2 t2 m2 ct2 S2 K2 f2 R2) (res : Hd.R) (hres : Hd.look Ls W ((m - K) + R.size + 1) S.data.toList K R.data.toList 0 = res) (S3 R3 : ByteArray) (hS3 : S3.data.toList = res.S) (hR3 : R3.data.toList = res.Q) :
    Calls Try.prog 39 #[.pointer (some ⟨h, 0, none⟩), .pointer (some ⟨b, 0, none⟩)] w fun e w' => e = .returned (.agg #[.bool res.hit, .bool res.full, .int .i64 res.arm, .int .i64 res.gone, .int .i64 res.rd]) ∧ ∃ t' m' ct' f', TW B w0 w' h b g n W pv ap xs Ls t' m' ct' S3 res.K f' R3 h2 b2 g2 n2 W2 pv2 ap2 xs2 Ls2 t2 m2 ct2 S2 K2 f2 R2 ∧ KT w w' :=
  (ls_look4 H.1 res hres S3 R3 hS3 hR3).mono fun e w' ⟨he, t', m', ct', f', q1, q2⟩ => ⟨he, t', m', ct', f', by
    obtain ⟨l, k1, k2, k3⟩ := q2
    exact (H.step q1 k1 k2 k3).1, q2.keeps H.1⟩
/-- The same window with a new ring. -/
theorem ls_ring {B : Nat} {w0 w : World} {h b g n W : Nat} {pv : Value} {ap : Option Addr} {xs : List Nat} {Ls : List (List (Bool × BitVec 256))} {t : Option Addr} {m ct : Nat} {S : ByteArray} {K f : Nat} {R : ByteArray} (H : LS B w0 w h b g n W pv ap xs Ls t m ct S K f R) {w' : World} {b3 g3 n3 f3 : Nat} {R3 : ByteArray} (hr : RAt w' b3 g3 n3 f3 R3) (k : Below w.heap.size w w') (h1 : w.heap.size ≤ b3) (h2 : w.heap.size ≤ g3) : LS B w0 w' h b3 g3 n3 W pv ap xs Ls t m ct S K f3 R3 := by
  have hw := H.2.2.2.2.2.2
  have hl := H.1.o.lt
  have hB := H.2.2.2.2.1
  exact ⟨H.1.below k, H.2.1.below k, hr, ⟨by omega, by omega, fun x hx => by have := (H.1.tv.ot x hx).2; omega⟩, ⟨hB.1, by omega, by omega, hB.2.2.2.1, hB.2.2.2.2⟩, H.2.2.2.2.2.1.trans (k.mono hw), Nat.le_trans hw k.size⟩
end Go.Proofs.Ytbdjcppkfihonaa
/- Hold: the states of HoldCopies. -/
namespace Go.Proofs.Ytbdjcppkfihonaa
open Go.ChangeShapes Go.WideShapes Go.ChangeAt Go.RowKit
set_option linter.unusedSimpArgs false
set_option linter.unusedVariables false


/-- The window and its ring, the patterns' texts, the document's lists and window (in block X), a ring that stands apart. -/
def VP (B : Nat) (w0 w : World) (X : Nat) (hc : List Value) (a : Option Addr) (Lx : List (List (Bool × BitVec 256))) (qb qg qn qf : Nat) (Q : ByteArray) (h b g n W : Nat) (pv : Value) (ap : Option Addr) (xs : List Nat) (Ls : List (List (Bool × BitVec 256))) (t : Option Addr) (m ct : Nat) (S : ByteArray) (K f : Nat) (R : ByteArray) : Prop :=
  LS B w0 w h b g n W pv ap xs Ls t m ct S K f R ∧ PV w pv ap Ls ∧ LLT w a Lx ∧ Blk w X hc 61 ∧ B ≤ X ∧ RAt w qb qg qn qf Q ∧ (qb ∉ LSD h b g xs t ct ∧ qg ∉ LSD h b g xs t ct) ∧ B ≤ qb ∧ B ≤ qg
theorem VP.dom {B : Nat} {w0 w : World} {X : Nat} {hc : List Value} {a : Option Addr} {Lx : List (List (Bool × BitVec 256))} {qb qg qn qf : Nat} {Q : ByteArray} {h b g n W : Nat} {pv : Value} {ap : Option Addr} {xs : List Nat} {Ls : List (List (Bool × BitVec 256))} {t : Option Addr} {m ct : Nat} {S : ByteArray} {K f : Nat} {R : ByteArray} (H : VP B w0 w X hc a Lx qb qg qn qf Q h b g n W pv ap xs Ls t m ct S K f R) : Below B w0 w ∧ B ≤ w.heap.size := ⟨H.1.2.2.2.2.2.1, H.1.2.2.2.2.2.2⟩
theorem VP.below {B : Nat} {w0 w : World} {X : Nat} {hc : List Value} {a : Option Addr} {Lx : List (List (Bool × BitVec 256))} {qb qg qn qf : Nat} {Q : ByteArray} {h b g n W : Nat} {pv : Value} {ap : Option Addr} {xs : List Nat} {Ls : List (List (Bool × BitVec 256))} {t : Option Addr} {m ct : Nat} {S : ByteArray} {K f : Nat} {R : ByteArray} (H : VP B w0 w X hc a Lx qb qg qn qf Q h b g n W pv ap xs Ls t m ct S K f R) {w' : World} (k : Below w.heap.size w w') : VP B w0 w' X hc a Lx qb qg qn qf Q h b g n W pv ap xs Ls t m ct S K f R := ⟨H.1.below k, H.2.1.keep (KT.of_below k), H.2.2.1.below k, Blk.below H.2.2.2.1 k H.2.2.2.1.lt, H.2.2.2.2.1, H.2.2.2.2.2.1.fresh k, H.2.2.2.2.2.2⟩
theorem VP.lists {B : Nat} {w0 w : World} {X : Nat} {hc : List Value} {a : Option Addr} {Lx : List (List (Bool × BitVec 256))} {qb qg qn qf : Nat} {Q : ByteArray} {h b g n W : Nat} {pv : Value} {ap : Option Addr} {xs : List Nat} {Ls : List (List (Bool × BitVec 256))} {t : Option Addr} {m ct : Nat} {S : ByteArray} {K f : Nat} {R : ByteArray}{a3 : Option Addr} {Lx3 : List (List (Bool × BitVec 256))} (H : VP B w0 w X hc a Lx qb qg qn qf Q h b g n W pv ap xs Ls t m ct S K f R) (hL : LLT w a3 Lx3) : VP B w0 w X hc a3 Lx3 qb qg qn qf Q h b g n W pv ap xs Ls t m ct S K f R := ⟨H.1, H.2.1, hL, H.2.2.2⟩
theorem rat_ne {w : World} {b g n f X : Nat} {S : ByteArray} {hc : List Value} (h : RAt w b g n f S) (hx : Blk w X hc 61) : b ≠ X ∧ g ≠ X := by
  obtain ⟨_, _, _, _, _, q6, R, q7, q8, q9⟩ := h
  constructor
  · intro e; rw [e] at q6; exact absurd (blk_ty q6 hx) (by decide)
  · intro e; rw [e] at q8; exact absurd (blk_ty q8 hx) (by decide)
theorem VP.setX {B : Nat} {w0 w : World} {X : Nat} {hc : List Value} {a : Option Addr} {Lx : List (List (Bool × BitVec 256))} {qb qg qn qf : Nat} {Q : ByteArray} {h b g n W : Nat} {pv : Value} {ap : Option Addr} {xs : List Nat} {Ls : List (List (Bool × BitVec 256))} {t : Option Addr} {m ct : Nat} {S : ByteArray} {K f : Nat} {R : ByteArray} (H : VP B w0 w X hc a Lx qb qg qn qf Q h b g n W pv ap xs Ls t m ct S K f R) (i : Nat) (v : Value) : VP B w0 (w.setCell ⟨X, i, none⟩ v) X (hc.set i v) a Lx qb qg qn qf Q h b g n W pv ap xs Ls t m ct S K f R := by
  have k : Chg [X] w (w.setCell ⟨X, i, none⟩ v) := (Chg.refl [X] w).set (Or.inl (by simp)) _ _
  have hx := H.2.2.2.1
  have ll : ∀ a A, LLT w a A → LLT (w.setCell ⟨X, i, none⟩ v) a A := fun a A h => h.chg k (fun y hy cs => by
    simp at hy
    subst hy
    exact ⟨fun h => absurd (blk_ty h hx) (by decide), fun h => absurd (blk_ty h hx) (by decide)⟩)
  have pp : PV (w.setCell ⟨X, i, none⟩ v) pv ap Ls := by
    rcases H.2.1 with h | ⟨x, ss, kk, gp, cp, h1, h2, ⟨r, q1, q2, q3⟩, h4⟩
    · exact Or.inl h
    · exact Or.inr ⟨x, ss, kk, gp, cp, h1, h2, ⟨r, q1, q2, q3.chg k (by simp; intro e; rw [e] at q3; exact absurd (blk_ty q3 hx) (by decide))⟩, h4⟩
  obtain ⟨n1, n2⟩ := rat_ne H.2.2.2.2.2.1 hx
  refine ⟨H.1.chg k (fun y hy => ?_), pp, ll _ _ H.2.2.1, hx.set i v, H.2.2.2.2.1, H.2.2.2.2.2.1.chg k (by simpa using n1) (by simpa using n2), H.2.2.2.2.2.2⟩
  simp at hy
  subst hy
  refine ⟨OT2.of hx (by decide), H.2.2.2.2.1, fun e => ?_⟩
  obtain ⟨cs', T', h1, h2⟩ := H.1.dty _ e
  rw [blk_ty h1 hx] at h2
  exact ht5_no.1 h2
theorem VP.step {B : Nat} {w0 w : World} {X : Nat} {hc : List Value} {a : Option Addr} {Lx : List (List (Bool × BitVec 256))} {qb qg qn qf : Nat} {Q : ByteArray} {h b g n W : Nat} {pv : Value} {ap : Option Addr} {xs : List Nat} {Ls : List (List (Bool × BitVec 256))} {t : Option Addr} {m ct : Nat} {S : ByteArray} {K f : Nat} {R : ByteArray} {pv3 : Value} {ap3 t3 : Option Addr} {xs3 : List Nat} {Ls3 : List (List (Bool × BitVec 256))} {m3 ct3 K3 f3 : Nat} {S3 R3 : ByteArray} (H : VP B w0 w X hc a Lx qb qg qn qf Q h b g n W pv ap xs Ls t m ct S K f R) {w' : World} (H1 : LS B w0 w' h b g n W pv3 ap3 xs3 Ls3 t3 m3 ct3 S3 K3 f3 R3) (hp : PV w' pv3 ap3 Ls3) (k : MV w w' (LSD h b g xs t ct) (LSD h b g xs3 t3 ct3)) : VP B w0 w' X hc a Lx qb qg qn qf Q h b g n W pv3 ap3 xs3 Ls3 t3 m3 ct3 S3 K3 f3 R3 := by
  have kk := k.keeps H.1
  obtain ⟨r1, r2, r3⟩ := k.ring H.2.2.2.2.2.1 H.2.2.2.2.2.2.1.1 H.2.2.2.2.2.2.1.2
  exact ⟨H1, hp, kk.2 _ _ H.2.2.1, kk.1 _ _ _ ht5_no.1 H.2.2.2.1, H.2.2.2.2.1, r1, ⟨r2, r3⟩, H.2.2.2.2.2.2.2⟩
/-- A step that leaves the patterns. -/
theorem VP.step1 {B : Nat} {w0 w : World} {X : Nat} {hc : List Value} {a : Option Addr} {Lx : List (List (Bool × BitVec 256))} {qb qg qn qf : Nat} {Q : ByteArray} {h b g n W : Nat} {pv : Value} {ap : Option Addr} {xs : List Nat} {Ls : List (List (Bool × BitVec 256))} {t : Option Addr} {m ct : Nat} {S : ByteArray} {K f : Nat} {R : ByteArray} {t3 : Option Addr} {m3 ct3 K3 f3 : Nat} {S3 R3 : ByteArray} (H : VP B w0 w X hc a Lx qb qg qn qf Q h b g n W pv ap xs Ls t m ct S K f R) {w' : World} (H1 : LS B w0 w' h b g n W pv ap xs Ls t3 m3 ct3 S3 K3 f3 R3) (k : MV w w' (LSD h b g xs t ct) (LSD h b g xs t3 ct3)) : VP B w0 w' X hc a Lx qb qg qn qf Q h b g n W pv ap xs Ls t3 m3 ct3 S3 K3 f3 R3 := H.step H1 (H.2.1.keep (k.keeps H.1)) k
/-- Two windows with rings of their own, and the document's. -/
def WP (B : Nat) (w0 w : World) (X : Nat) (hc : List Value) (a : Option Addr) (Lx : List (List (Bool × BitVec 256))) (h b g n W : Nat) (pv : Value) (ap : Option Addr) (xs : List Nat) (Ls : List (List (Bool × BitVec 256))) (t : Option Addr) (m ct : Nat) (S : ByteArray) (K f : Nat) (R : ByteArray)(h2 b2 g2 n2 W2 : Nat) (pv2 : Value) (ap2 : Option Addr) (xs2 : List Nat) (Ls2 : List (List (Bool × BitVec 256))) (t2 : Option Addr) (m2 ct2 : Nat) (S2 : ByteArray) (K2 f2 : Nat) (R2 : ByteArray) : Prop := TW B w0 w h b g n W pv ap xs Ls t m ct S K f R h2 b2 g2 n2 W2 pv2 ap2 xs2 Ls2 t2 m2 ct2 S2 K2 f2 R2 ∧ LLT w a Lx ∧ Blk w X hc 61 ∧ B ≤ X
theorem WP.below {B : Nat} {w0 w : World} {X : Nat} {hc : List Value} {a : Option Addr} {Lx : List (List (Bool × BitVec 256))} {h b g n W : Nat} {pv : Value} {ap : Option Addr} {xs : List Nat} {Ls : List (List (Bool × BitVec 256))} {t : Option Addr} {m ct : Nat} {S : ByteArray} {K f : Nat} {R : ByteArray}{h2 b2 g2 n2 W2 : Nat} {pv2 : Value} {ap2 : Option Addr} {xs2 : List Nat} {Ls2 : List (List (Bool × BitVec 256))} {t2 : Option Addr} {m2 ct2 : Nat} {S2 : ByteArray} {K2 f2 : Nat} {R2 : ByteArray} (H : WP B w0 w X hc a Lx h b g n W pv ap xs Ls t m ct S K f R h2 b2 g2 n2 W2 pv2 ap2 xs2 Ls2 t2 m2 ct2 S2 K2 f2 R2) {w' : World} (k : Below w.heap.size w w') : WP B w0 w' X hc a Lx h b g n W pv ap xs Ls t m ct S K f R h2 b2 g2 n2 W2 pv2 ap2 xs2 Ls2 t2 m2 ct2 S2 K2 f2 R2 := ⟨⟨H.1.1.below k, H.1.2.1.below k, H.1.2.2⟩, H.2.1.below k, Blk.below H.2.2.1 k H.2.2.1.lt, H.2.2.2⟩
theorem vp_copy {B : Nat} {w0 w : World} {X : Nat} {hc : List Value} {a : Option Addr} {Lx : List (List (Bool × BitVec 256))} {qb qg qn qf : Nat} {Q : ByteArray} {h b g n W : Nat} {pv : Value} {ap : Option Addr} {xs : List Nat} {Ls : List (List (Bool × BitVec 256))} {t : Option Addr} {m ct : Nat} {S : ByteArray} {K f : Nat} {R : ByteArray}{w' : World} {c : Nat} {t' ap' : Option Addr} {ct' : Nat} {pv' : Value} {xs' : List Nat} (H : VP B w0 w X hc a Lx qb qg qn qf Q h b g n W pv ap xs Ls t m ct S K f R) (hC : CC w w' h W m ct K t ap S pv Ls c t' m ct' S K K S.data.toList pv' ap' xs') : WP B w0 w' X hc a Lx h b g n W pv ap xs Ls t m ct S K f R c qb qg qn W pv' ap' xs' Ls t' m ct' S K qf Q :=
  ⟨tw_copy H.1 H.2.2.2.2.2.1 H.2.2.2.2.2.2.1 H.2.2.2.2.2.2.2 hC, H.2.2.1.below hC.2.2.2.2.2.2.1, Blk.below H.2.2.2.1 hC.2.2.2.2.2.2.1 H.2.2.2.1.lt, H.2.2.2.2.1⟩
/-- What comes to the second ring. -/
theorem wp_put2 {B : Nat} {w0 w : World} {X : Nat} {hc : List Value} {a : Option Addr} {Lx : List (List (Bool × BitVec 256))} {h b g n W : Nat} {pv : Value} {ap : Option Addr} {xs : List Nat} {Ls : List (List (Bool × BitVec 256))} {t : Option Addr} {m ct : Nat} {S : ByteArray} {K f : Nat} {R : ByteArray}{h2 b2 g2 n2 W2 : Nat} {pv2 : Value} {ap2 : Option Addr} {xs2 : List Nat} {Ls2 : List (List (Bool × BitVec 256))} {t2 : Option Addr} {m2 ct2 : Nat} {S2 : ByteArray} {K2 f2 : Nat} {R2 : ByteArray} (H : WP B w0 w X hc a Lx h b g n W pv ap xs Ls t m ct S K f R h2 b2 g2 n2 W2 pv2 ap2 xs2 Ls2 t2 m2 ct2 S2 K2 f2 R2) (s : ByteArray) (hs : s.size ≤ 100000) (q : Nat) (hq : min s.size (n2 - R2.size) = q) (R3 : ByteArray) (hR3 : R2 ++ s.extract 0 q = R3) :
    Calls Try.prog 36 #[.pointer (some ⟨b2, 0, none⟩), .string s] w fun e w' => e = .returned (.int .i64 (q : Nat)) ∧ WP B w0 w' X hc a Lx h b g n W pv ap xs Ls t m ct S K f R h2 b2 g2 n2 W2 pv2 ap2 xs2 Ls2 t2 m2 ct2 S2 K2 f2 R3 :=
  (ls_put4 H.1.2.1 s hs q hq R3 hR3).mono fun e w' ⟨he, q1, q2⟩ => ⟨he, by
    have kk := q2.keeps H.1.2.1
    obtain ⟨l, k1, k2, k3⟩ := q2
    exact ⟨(H.1.symm.step q1 k1 k2 k3).1.symm, kk.2 _ _ H.2.1, kk.1 _ _ _ ht5_no.1 H.2.2.1, H.2.2.2⟩⟩
/-- A look of the second window. -/
theorem wp_look2 {B : Nat} {w0 w : World} {X : Nat} {hc : List Value} {a : Option Addr} {Lx : List (List (Bool × BitVec 256))} {h b g n W : Nat} {pv : Value} {ap : Option Addr} {xs : List Nat} {Ls : List (List (Bool × BitVec 256))} {t : Option Addr} {m ct : Nat} {S : ByteArray} {K f : Nat} {R : ByteArray}{h2 b2 g2 n2 W2 : Nat} {pv2 : Value} {ap2 : Option Addr} {xs2 : List Nat} {Ls2 : List (List (Bool × BitVec 256))} {t2 : Option Addr} {m2 ct2 : Nat} {S2 : ByteArray} {K2 f2 : Nat} {R2 : ByteArray} (H : WP B w0 w X hc a Lx h b g n W pv ap xs Ls t m ct S K f R h2 b2 g2 n2 W2 pv2 ap2 xs2 Ls2 t2 m2 ct2 S2 K2 f2 R2) (res : Hd.R) (hres : Hd.look Ls2 W2 ((m2 - K2) + R2.size + 1) S2.data.toList K2 R2.data.toList 0 = res) (S3 R3 : ByteArray) (hS3 : S3.data.toList = res.S) (hR3 : R3.data.toList = res.Q) :
    Calls Try.prog 39 #[.pointer (some ⟨h2, 0, none⟩), .pointer (some ⟨b2, 0, none⟩)] w fun e w' => e = .returned (.agg #[.bool res.hit, .bool res.full, .int .i64 res.arm, .int .i64 res.gone, .int .i64 res.rd]) ∧ ∃ t' m' ct' f', WP B w0 w' X hc a Lx h b g n W pv ap xs Ls t m ct S K f R h2 b2 g2 n2 W2 pv2 ap2 xs2 Ls2 t' m' ct' S3 res.K f' R3 ∧ KT w w' :=
  (ls_look4 H.1.2.1 res hres S3 R3 hS3 hR3).mono fun e w' ⟨he, t', m', ct', f', q1, q2⟩ => ⟨he, t', m', ct', f', by
    have kk := q2.keeps H.1.2.1
    obtain ⟨l, k1, k2, k3⟩ := q2
    exact ⟨⟨(H.1.symm.step q1 k1 k2 k3).1.symm, kk.2 _ _ H.2.1, kk.1 _ _ _ ht5_no.1 H.2.2.1, H.2.2.2⟩, kk⟩⟩
/-- The first window, with a new ring. -/
theorem wp_ring1 {B : Nat} {w0 w : World} {X : Nat} {hc : List Value} {a : Option Addr} {Lx : List (List (Bool × BitVec 256))} {h b g n W : Nat} {pv : Value} {ap : Option Addr} {xs : List Nat} {Ls : List (List (Bool × BitVec 256))} {t : Option Addr} {m ct : Nat} {S : ByteArray} {K f : Nat} {R : ByteArray}{h2 b2 g2 n2 W2 : Nat} {pv2 : Value} {ap2 : Option Addr} {xs2 : List Nat} {Ls2 : List (List (Bool × BitVec 256))} {t2 : Option Addr} {m2 ct2 : Nat} {S2 : ByteArray} {K2 f2 : Nat} {R2 : ByteArray} (H : WP B w0 w X hc a Lx h b g n W pv ap xs Ls t m ct S K f R h2 b2 g2 n2 W2 pv2 ap2 xs2 Ls2 t2 m2 ct2 S2 K2 f2 R2) {w' : World} {b3 g3 n3 f3 : Nat} {R3 : ByteArray} (hr : RAt w' b3 g3 n3 f3 R3) (k : Below w.heap.size w w') (h1 : w.heap.size ≤ b3) (h2 : w.heap.size ≤ g3) : LS B w0 w' h b3 g3 n3 W pv ap xs Ls t m ct S K f3 R3 := ls_ring H.1.1 hr k h1 h2
end Go.Proofs.Ytbdjcppkfihonaa
