/- Faults: wraps as values, as cells, as rows. -/
import Derived.Test.YtlofcccabdocgaaDoorRm
import Derived.Test.YtlofcccabdocgaaDoorBytes
import Derived.Test.YtlofcccabdocgaaDoorOpen
namespace Go.Proofs.YtlofcccabdocgaaDoor
open Go.Joins Go.ChangeShapes Go.WideShapes Go.ChangeAt Go.RowKit Go.Deep
set_option linter.unusedSimpArgs false
set_option linter.unusedVariables false

/-- A wrap: a place, or a name; line, column, name. -/
structure Wp where
  a : Bool
  (l c : Int)
  n : ByteArray
def Wp.cs (x : Wp) : List Value := [.bool x.a, .int .i64 x.l, .int .i64 x.c, .string x.n]
theorem Wp.cs_len (x : Wp) : x.cs.length = 4 := rfl
theorem Wp.cs_one (x : Wp) : ∀ v ∈ x.cs, v.oneCell' = true := by
  intro v hv
  simp only [Wp.cs, List.mem_cons, List.not_mem_nil, or_false] at hv
  rcases hv with rfl | rfl | rfl | rfl <;> rfl
def wps (L : List Wp) : List Value := L.flatMap Wp.cs
theorem wps_len (L : List Wp) : (wps L).length = L.length * 4 := by
  induction L with
  | nil => rfl
  | cons x L ih => rw [wps, List.flatMap_cons, List.length_append, List.length_cons, Nat.add_mul, Wp.cs_len]; unfold wps at ih; omega
theorem wps_snoc (L : List Wp) (x : Wp) : wps (L ++ [x]) = wps L ++ x.cs := by unfold wps; rw [List.flatMap_append]; simp
theorem wps_at : ∀ (L : List Wp) (j : Nat) (x : Wp) (q : Nat) (v : Value), L[j]? = some x → x.cs[q]? = some v → (wps L)[j * 4 + q]? = some v
  | [], j, x, q, v, h, _ => by simp at h
  | y :: L, 0, x, q, v, h, hq => by
    simp at h
    subst h
    have hl : q < 4 := by have := (List.getElem?_eq_some_iff.1 hq).1; exact this
    unfold wps
    rw [List.flatMap_cons, Nat.zero_mul, Nat.zero_add, List.getElem?_append_left hl, hq]
  | y :: L, j + 1, x, q, v, h, hq => by
    have ih := wps_at L j x q v (by simpa using h) hq
    unfold wps at *
    rw [List.flatMap_cons, List.getElem?_append_right (by rw [Wp.cs_len]; omega), Wp.cs_len]
    have e : (j + 1) * 4 + q - 4 = j * 4 + q := by omega
    rw [e]; exact ih
/-- A machine's number. -/
def Fa.i64 (n : Int) : Prop := -9223372036854775808 ≤ n ∧ n ≤ 9223372036854775807
/-- What may be. -/
def Wp.ok (x : Wp) : Prop := x.n.size ≤ maxLen ∧ Fa.i64 x.l ∧ Fa.i64 x.c
/-- A slice (at a) of wraps: the first L.length of them are L. -/
def WL (w : World) (a : Option Addr) (L : List Wp) : Prop := ∀ (j : Nat) (x : Wp), L[j]? = some x → x.ok ∧ ∃ g o, a = some ⟨g, o, none⟩ ∧ g < w.heap.size ∧ ∀ (q : Nat) (v : Value), x.cs[q]? = some v → w.cell? ⟨g, o + (j * 4 + q), none⟩ = some v
theorem WL.nil (w : World) (a : Option Addr) : WL w a [] := fun j x h => by simp at h
theorem WL.below {w w' : World} {a : Option Addr} {L : List Wp} (h : WL w a L) (k : Below w.heap.size w w') : WL w' a L := fun j x hj => by
  obtain ⟨h0, g, o, h2, h3, hc⟩ := h j x hj
  exact ⟨h0, g, o, h2, Nat.lt_of_lt_of_le h3 k.size, fun q v hq => by rw [← hc q v hq]; exact Chg.cell (l := []) (Chg.of_fresh k) h3 (by simp)⟩
theorem WL.of_rn {w : World} {g c : Nat} {L : List Wp} {T : TypeId} (h : Rn w g c 4 (wps L) T) (hok : ∀ x ∈ L, x.ok) : WL w (some ⟨g, 0, none⟩) L := fun j x hj =>
  ⟨hok x (List.mem_of_getElem? hj), g, 0, rfl, h.lt, fun q v hq => by rw [Nat.zero_add]; exact h.cell (wps_at L j x q v hj hq)⟩
theorem WL.get {w : World} {a : Option Addr} {L : List Wp} (h : WL w a L) {j : Nat} {b : Bool} {l c : Int} {n : ByteArray} (hj : L[j]? = some ⟨b, l, c, n⟩) :
    (n.size ≤ maxLen ∧ Fa.i64 l ∧ Fa.i64 c) ∧ ∃ g o, a = some ⟨g, o, none⟩ ∧ g < w.heap.size ∧ w.cell? ⟨g, o + j * 4, none⟩ = some (.bool b) ∧ w.cell? ⟨g, o + j * 4 + 1, none⟩ = some (.int .i64 l) ∧ w.cell? ⟨g, o + j * 4 + 2, none⟩ = some (.int .i64 c) ∧ w.cell? ⟨g, o + j * 4 + 3, none⟩ = some (.string n) := by
  obtain ⟨h0, g, o, h2, h3, hc⟩ := h j _ hj
  exact ⟨h0, g, o, h2, h3, hc 0 _ rfl, hc 1 _ rfl, hc 2 _ rfl, hc 3 _ rfl⟩
theorem WL.ok {w : World} {a : Option Addr} {L : List Wp} (h : WL w a L) : ∀ x ∈ L, x.ok := fun x hx => by
  obtain ⟨j, hj⟩ := List.getElem?_of_mem hx
  exact (h j x hj).1
section
variable {H : Type} {enc : TypeId × Value → H} {w : World} {base : Nat} {spare : Nat → Bool} {held : Bool}
set_option maxRecDepth 20000 in
theorem trod_wp {cs : List Value} {n : Nat} {y : DataW H × List MemPlace} (hl : cs.length = 4) (h : DataW.trod enc Tryd.prog w base spare held n 39 cs = some y) : ∃ x : Wp, cs = x.cs ∧ x.ok := by
  match cs, hl with
  | [c0, c1, c2, c3], _ =>
    obtain ⟨ys, n2, hn2, hy, hlen', hyl, hf⟩ := DataW.trod_struct Tryd.underlying39 h
    have k3 : Tryd.prog.cellsOf 3 = 1 := by kernel_rfl
    have k4 : Tryd.prog.cellsOf 4 = 1 := by kernel_rfl
    have k9 : Tryd.prog.cellsOf 9 = 1 := by kernel_rfl
    have k33 : Tryd.prog.cellsOf 33 = 2 := by kernel_rfl
    have one : ∀ {t : TypeId} {v : Value} {o : Option (DataW H × List MemPlace)}, (∃ z, o = some z) → DataW.trod enc Tryd.prog w base spare held n2 t [v] = o → ∃ z, DataW.trod enc Tryd.prog w base spare held n2 t [v] = some z := fun ⟨z, hz⟩ hh => ⟨z, hh.trans hz⟩
    have ex : ∀ j, j < 3 → ∃ z, ys[j]? = some z := fun j hj => ⟨_, List.getElem?_eq_getElem (by
      have : ys.length = 3 := hyl
      omega)⟩
    have g0 : DataW.trod enc Tryd.prog w base spare held n2 4 (([c0, c1, c2, c3].drop 0).take (Tryd.prog.cellsOf 4)) = ys[0]? := hf 0 _ rfl
    rw [k4] at g0
    have g1 : DataW.trod enc Tryd.prog w base spare held n2 33 (([c0, c1, c2, c3].drop 1).take (Tryd.prog.cellsOf 33)) = ys[1]? := hf 1 _ rfl
    rw [k33] at g1
    have g2 : DataW.trod enc Tryd.prog w base spare held n2 9 (([c0, c1, c2, c3].drop 3).take (Tryd.prog.cellsOf 9)) = ys[2]? := hf 2 _ rfl
    rw [k9] at g2
    obtain ⟨z0, q0⟩ := one (v := c0) (ex 0 (by omega)) g0
    obtain ⟨z1, hz1⟩ := ex 1 (by omega)
    have g1 := g1.trans hz1
    obtain ⟨z2, q2⟩ := one (v := c3) (ex 2 (by omega)) g2
    obtain ⟨a, rfl⟩ := fld_bool Tryd.underlying4 q0
    obtain ⟨nm, rfl, wb⟩ := fld_string Tryd.underlying9 q2
    have g1' : DataW.trod enc Tryd.prog w base spare held n2 33 [c1, c2] = some z1 := g1
    obtain ⟨ys2, n3, hn3, hy2, hlen2, hyl2, hf2⟩ := DataW.trod_struct Tryd.underlying33 g1'
    have one2 : ∀ {t : TypeId} {v : Value} {o : Option (DataW H × List MemPlace)}, (∃ z, o = some z) → DataW.trod enc Tryd.prog w base spare held n3 t [v] = o → ∃ z, DataW.trod enc Tryd.prog w base spare held n3 t [v] = some z := fun ⟨z, hz⟩ hh => ⟨z, hh.trans hz⟩
    have ex2 : ∀ j, j < 2 → ∃ z, ys2[j]? = some z := fun j hj => ⟨_, List.getElem?_eq_getElem (by
      have : ys2.length = 2 := hyl2
      omega)⟩
    have p0 : DataW.trod enc Tryd.prog w base spare held n3 3 (([c1, c2].drop 0).take (Tryd.prog.cellsOf 3)) = ys2[0]? := hf2 0 _ rfl
    rw [k3] at p0
    have p1 : DataW.trod enc Tryd.prog w base spare held n3 3 (([c1, c2].drop 1).take (Tryd.prog.cellsOf 3)) = ys2[1]? := hf2 1 _ rfl
    rw [k3] at p1
    obtain ⟨_, r0⟩ := one2 (v := c1) (ex2 0 (by omega)) p0
    obtain ⟨_, r1⟩ := one2 (v := c2) (ex2 1 (by omega)) p1
    obtain ⟨s0, rfl, w0⟩ := fld_int Tryd.underlying3 r0
    obtain ⟨s1, rfl, w1⟩ := fld_int Tryd.underlying3 r1
    have b0 := bounds_i64 w0
    have b1 := bounds_i64 w1
    exact ⟨⟨a, s0, s1, nm⟩, rfl, wb, by unfold Fa.i64; dsimp only; omega, by unfold Fa.i64; dsimp only; omega⟩
/-- Wraps as they come in. -/
def IsWr (w : World) (a : Option Addr) (len cap : Nat) (L : List Wp) : Prop := L.length = len ∧ len ≤ cap ∧ cap ≤ maxLen ∧ WL w a L
theorem fld_wr {v : Value} {n : Nat} {y : DataW H × List MemPlace} (h : DataW.trod enc Tryd.prog w base (fun _ => true) held n 22 [v] = some y) : ∃ a len cap L, v = .slice a len cap ∧ IsWr w a len cap L := by
  rcases open_slice Tryd.underlying22 h with ⟨hcs, _⟩ | ⟨a, len, cap, m, n', D, Pl, hcs, hb, hl, hm, hmm, hx, hi⟩
  · exact ⟨none, 0, 0, [], by simpa using hcs, rfl, Nat.le_refl _, Nat.zero_le _, WL.nil _ _⟩
  · have hlm : len ≤ m := by rw [hmm]; split <;> omega
    have k12 : Tryd.prog.cellsOf 39 = 4 := by kernel_rfl
    have all : ∀ i, i < len → ∃ x : Wp, x.ok ∧ ∀ q v, x.cs[q]? = some v → w.cell? (a.add (i * 4 + q)) = some v := by
      intro i hil
      obtain ⟨cs', hc, ht'⟩ := hi i (by omega)
      rw [k12] at hc
      obtain ⟨_, hcl, hat⟩ := World.cells?_some hc
      obtain ⟨x, rfl, hok⟩ := trod_wp hcl ht'
      refine ⟨x, hok, fun q v hq => ?_⟩
      have hq2 : q < 4 := (List.getElem?_eq_some_iff.1 hq).1
      rw [← Go.Deep.add_add, hat q hq2, hq]
    obtain ⟨f, hf⟩ : ∃ f : Nat → Wp, ∀ i, i < len → (f i).ok ∧ ∀ q v, (f i).cs[q]? = some v → w.cell? (a.add (i * 4 + q)) = some v := ⟨fun i => if h : i < len then (all i h).choose else ⟨false, 0, 0, ByteArray.empty⟩, fun i h => by simp only [dif_pos h]; exact (all i h).choose_spec⟩
    refine ⟨some a, len, cap, (List.range len).map f, by simpa using hcs, by simp, hl, hm, fun j x hj => ?_⟩
    obtain ⟨hj1, rfl⟩ : j < len ∧ f j = x := by
      rw [List.getElem?_map] at hj
      obtain ⟨q, h1, h2⟩ := Option.map_eq_some_iff.1 hj
      obtain ⟨h3, h4⟩ := List.getElem?_eq_some_iff.1 h1
      simp at h3 h4
      subst h4
      exact ⟨h3, h2⟩
    obtain ⟨hok, hc⟩ := hf j hj1
    obtain ⟨b, off, spot⟩ := a
    have c0 := (hf 0 (by omega)).2 0 _ rfl
    have hs : spot = none := by simpa [Addr.add] using World.cell?_spot c0
    subst hs
    have hb := World.block_lt_of_cell? _ _ c0
    refine ⟨hok, b, off, rfl, by simpa [Addr.add] using hb, fun q v hq => ?_⟩
    have := hc q v hq
    rw [Addr.add_lit] at this
    exact this
end
end Go.Proofs.YtlofcccabdocgaaDoor
