/- Events: as values, as cells, as rows; and what is gathered of one (spec). -/
import Derived.Test.YtfhhkmjjifbfeaaGreatDoorRm
import Derived.Test.YtfhhkmjjifbfeaaGreatDoorBytes
import Derived.Test.YtfhhkmjjifbfeaaGreatDoorOpen
namespace Go.Proofs.YtfhhkmjjifbfeaaGreatDoor
open Go.Joins Go.ChangeShapes Go.WideShapes Go.ChangeAt Go.RowKit Go.Deep
set_option linter.unusedSimpArgs false
set_option linter.unusedVariables false

/-- An event: kind, number, N, tick, bytes, error; its step: tick, at, what, arm, N, status. -/
structure Ev where
  (k i n t : Int)
  b : ByteArray
  (e s0 s1 s2 s3 s4 s5 : Int)
def Ev.c (x : Ev) : List Value := [.int .i64 x.k, .int .i64 x.i, .int .i64 x.n, .int .i64 x.t, .string x.b, .int .i64 x.e, .int .i64 x.s0, .int .i64 x.s1, .int .i64 x.s2, .int .i64 x.s3, .int .i64 x.s4, .int .i64 x.s5]
theorem Ev.c_len (x : Ev) : x.c.length = 12 := rfl
theorem Ev.c_one (x : Ev) : ∀ v ∈ x.c, v.oneCell' = true := by
  intro v hv
  simp only [Ev.c, List.mem_cons, List.not_mem_nil, or_false] at hv
  rcases hv with rfl | rfl | rfl | rfl | rfl | rfl | rfl | rfl | rfl | rfl | rfl | rfl <;> rfl
theorem Ev.ext2 {x y : Ev} (h : x.c = y.c) : x = y := by
  obtain ⟨k, i, n, t, b, e, s0, s1, s2, s3, s4, s5⟩ := x
  obtain ⟨k', i', n', t', b', e', s0', s1', s2', s3', s4', s5'⟩ := y
  simp only [Ev.c, List.cons.injEq, Value.int.injEq, Value.string.injEq, true_and, and_true] at h
  obtain ⟨rfl, rfl, rfl, rfl, rfl, rfl, rfl, rfl, rfl, rfl, rfl, rfl⟩ := h
  rfl
/-- The cells of events, one behind the other. -/
def evs (L : List Ev) : List Value := L.flatMap Ev.c
theorem evs_nil : evs [] = [] := rfl
theorem evs_len (L : List Ev) : (evs L).length = L.length * 12 := by
  induction L with
  | nil => rfl
  | cons x L ih => rw [evs, List.flatMap_cons, List.length_append, List.length_cons, Nat.add_mul, Ev.c_len]; unfold evs at ih; omega
theorem evs_snoc (L : List Ev) (x : Ev) : evs (L ++ [x]) = evs L ++ x.c := by unfold evs; rw [List.flatMap_append]; simp
theorem evs_append (L M : List Ev) : evs (L ++ M) = evs L ++ evs M := by unfold evs; rw [List.flatMap_append]
theorem evs_at : ∀ (L : List Ev) (j : Nat) (x : Ev) (q : Nat) (v : Value), L[j]? = some x → x.c[q]? = some v → (evs L)[j * 12 + q]? = some v
  | [], j, x, q, v, h, _ => by simp at h
  | y :: L, 0, x, q, v, h, hq => by
    simp at h
    subst h
    have hl : q < 12 := by have := (List.getElem?_eq_some_iff.1 hq).1; exact this
    unfold evs
    rw [List.flatMap_cons, Nat.zero_mul, Nat.zero_add, List.getElem?_append_left hl, hq]
  | y :: L, j + 1, x, q, v, h, hq => by
    have ih := evs_at L j x q v (by simpa using h) hq
    unfold evs at *
    rw [List.flatMap_cons, List.getElem?_append_right (by rw [Ev.c_len]; omega), Ev.c_len]
    have e : (j + 1) * 12 + q - 12 = j * 12 + q := by omega
    rw [e]; exact ih
/-- What may be: numbers of machines. -/
def Ev.ok (x : Ev) : Prop := x.b.size ≤ maxLen ∧ ∀ k z, Value.int k z ∈ x.c → (Lit.int k z).wf = true
/-- A slice (at a) of events: the first L.length of them are L. -/
def EL (w : World) (a : Option Addr) (L : List Ev) : Prop := ∀ (j : Nat) (x : Ev), L[j]? = some x → x.ok ∧ ∃ g o, a = some ⟨g, o, none⟩ ∧ g < w.heap.size ∧ ∀ (q : Nat) (v : Value), x.c[q]? = some v → w.cell? ⟨g, o + (j * 12 + q), none⟩ = some v
theorem EL.nil (w : World) (a : Option Addr) : EL w a [] := fun j x h => by simp at h
theorem EL.below {w w' : World} {a : Option Addr} {L : List Ev} (h : EL w a L) (k : Below w.heap.size w w') : EL w' a L := fun j x hj => by
  obtain ⟨h0, g, o, h2, h3, hc⟩ := h j x hj
  exact ⟨h0, g, o, h2, Nat.lt_of_lt_of_le h3 k.size, fun q v hq => by rw [← hc q v hq]; exact Chg.cell (l := []) (Chg.of_fresh k) h3 (by simp)⟩
theorem EL.chg {w w' : World} {a : Option Addr} {L : List Ev} (h : EL w a L) {l : List Nat} (k : Chg l w w') (hl : ∀ g ∈ rvB a, g ∉ l) : EL w' a L := fun j x hj => by
  obtain ⟨h0, g, o, h2, h3, hc⟩ := h j x hj
  exact ⟨h0, g, o, h2, Nat.lt_of_lt_of_le h3 k.size, fun q v hq => by rw [← hc q v hq]; exact Chg.cell k h3 (hl g (by rw [h2]; simp [rvB]))⟩
theorem EL.drew {w : World} {a : Option Addr} {L : List Ev} (h : EL w a L) : EL w.drew a L := h
theorem EL.take {w : World} {a : Option Addr} {L : List Ev} (h : EL w a L) (m : Nat) : EL w a (L.take m) := fun j x hj => h j x (by
  rw [List.getElem?_take] at hj; split at hj
  · exact hj
  · cases hj)
theorem EL.drop {w : World} {g o : Nat} {L : List Ev} (h : EL w (some ⟨g, o, none⟩) L) (m : Nat) : EL w (some ⟨g, o + m * 12, none⟩) (L.drop m) := fun j x hj => by
  rw [List.getElem?_drop] at hj
  obtain ⟨h0, g', o', h2, h3, hc⟩ := h _ x hj
  injection h2 with h2
  injection h2 with e1 e2 _
  subst e1 e2
  exact ⟨h0, g, o + m * 12, rfl, h3, fun q v hq => by
    have := hc q v hq
    rw [show o + m * 12 + (j * 12 + q) = o + ((m + j) * 12 + q) by omega]; exact this⟩
theorem EL.lt {w : World} {a : Option Addr} {L : List Ev} (h : EL w a L) (h0 : 0 < L.length) : ∃ g o, a = some ⟨g, o, none⟩ ∧ g < w.heap.size := by
  obtain ⟨_, g, o, h2, h3, _⟩ := h 0 _ (List.getElem?_eq_getElem h0)
  exact ⟨g, o, h2, h3⟩
theorem EL.of_rn {w : World} {g c : Nat} {L : List Ev} {T : TypeId} (h : Rn w g c 12 (evs L) T) (hok : ∀ x ∈ L, x.ok) : EL w (some ⟨g, 0, none⟩) L := fun j x hj =>
  ⟨hok x (List.mem_of_getElem? hj), g, 0, rfl, h.lt, fun q v hq => by rw [Nat.zero_add]; exact h.cell (evs_at L j x q v hj hq)⟩
/-- An element's cells, one by one. -/
theorem EL.get {w : World} {a : Option Addr} {L : List Ev} (h : EL w a L) {j : Nat} {k i n t : Int} {b : ByteArray} {e s0 s1 s2 s3 s4 s5 : Int} (hj : L[j]? = some ⟨k, i, n, t, b, e, s0, s1, s2, s3, s4, s5⟩) :
    b.size ≤ maxLen ∧ ∃ g o, a = some ⟨g, o, none⟩ ∧ g < w.heap.size ∧ w.cell? ⟨g, o + j * 12, none⟩ = some (.int .i64 k) ∧ w.cell? ⟨g, o + j * 12 + 1, none⟩ = some (.int .i64 i) ∧ w.cell? ⟨g, o + j * 12 + 2, none⟩ = some (.int .i64 n) ∧ w.cell? ⟨g, o + j * 12 + 3, none⟩ = some (.int .i64 t) ∧ w.cell? ⟨g, o + j * 12 + 4, none⟩ = some (.string b) ∧ w.cell? ⟨g, o + j * 12 + 5, none⟩ = some (.int .i64 e) ∧ w.cell? ⟨g, o + j * 12 + 6, none⟩ = some (.int .i64 s0) ∧ w.cell? ⟨g, o + j * 12 + 7, none⟩ = some (.int .i64 s1) ∧ w.cell? ⟨g, o + j * 12 + 8, none⟩ = some (.int .i64 s2) ∧ w.cell? ⟨g, o + j * 12 + 9, none⟩ = some (.int .i64 s3) ∧ w.cell? ⟨g, o + j * 12 + 10, none⟩ = some (.int .i64 s4) ∧ w.cell? ⟨g, o + j * 12 + 11, none⟩ = some (.int .i64 s5) := by
  obtain ⟨h0, g, o, h2, h3, hc⟩ := h j _ hj
  exact ⟨h0.1, g, o, h2, h3, hc 0 _ rfl, hc 1 _ rfl, hc 2 _ rfl, hc 3 _ rfl, hc 4 _ rfl, hc 5 _ rfl, hc 6 _ rfl, hc 7 _ rfl, hc 8 _ rfl, hc 9 _ rfl, hc 10 _ rfl, hc 11 _ rfl⟩
section
variable {H : Type} {enc : TypeId × Value → H} {w : World} {base : Nat} {spare : Nat → Bool} {held : Bool}
set_option maxRecDepth 20000 in
theorem trod_ev {cs : List Value} {n : Nat} {y : DataW H × List MemPlace} (hl : cs.length = 12) (h : DataW.trod enc Tryz.prog w base spare held n 26 cs = some y) : ∃ x : Ev, cs = x.c ∧ x.ok := by
  match cs, hl with
  | [c0, c1, c2, c3, c4, c5, c6, c7, c8, c9, c10, c11], _ =>
    obtain ⟨ys, n2, hn2, hy, hlen', hyl, hf⟩ := DataW.trod_struct Tryz.underlying26 h
    have k3 : Tryz.prog.cellsOf 3 = 1 := by kernel_rfl
    have k2 : Tryz.prog.cellsOf 2 = 1 := by kernel_rfl
    have k9 : Tryz.prog.cellsOf 9 = 1 := by kernel_rfl
    have k43 : Tryz.prog.cellsOf 22 = 1 := by kernel_rfl
    have k45 : Tryz.prog.cellsOf 24 = 6 := by kernel_rfl
    have one : ∀ {t : TypeId} {v : Value} {o : Option (DataW H × List MemPlace)}, (∃ z, o = some z) → DataW.trod enc Tryz.prog w base spare held n2 t [v] = o → ∃ z, DataW.trod enc Tryz.prog w base spare held n2 t [v] = some z := fun ⟨z, hz⟩ hh => ⟨z, hh.trans hz⟩
    have ex : ∀ j, j < 7 → ∃ z, ys[j]? = some z := fun j hj => ⟨_, List.getElem?_eq_getElem (by
      have : ys.length = 7 := hyl
      omega)⟩
    have g0 : DataW.trod enc Tryz.prog w base spare held n2 3 (([c0, c1, c2, c3, c4, c5, c6, c7, c8, c9, c10, c11].drop 0).take (Tryz.prog.cellsOf 3)) = ys[0]? := hf 0 _ rfl
    rw [k3] at g0
    have g1 : DataW.trod enc Tryz.prog w base spare held n2 3 (([c0, c1, c2, c3, c4, c5, c6, c7, c8, c9, c10, c11].drop 1).take (Tryz.prog.cellsOf 3)) = ys[1]? := hf 1 _ rfl
    rw [k3] at g1
    have g2 : DataW.trod enc Tryz.prog w base spare held n2 3 (([c0, c1, c2, c3, c4, c5, c6, c7, c8, c9, c10, c11].drop 2).take (Tryz.prog.cellsOf 3)) = ys[2]? := hf 2 _ rfl
    rw [k3] at g2
    have g3 : DataW.trod enc Tryz.prog w base spare held n2 2 (([c0, c1, c2, c3, c4, c5, c6, c7, c8, c9, c10, c11].drop 3).take (Tryz.prog.cellsOf 2)) = ys[3]? := hf 3 _ rfl
    rw [k2] at g3
    have g4 : DataW.trod enc Tryz.prog w base spare held n2 9 (([c0, c1, c2, c3, c4, c5, c6, c7, c8, c9, c10, c11].drop 4).take (Tryz.prog.cellsOf 9)) = ys[4]? := hf 4 _ rfl
    rw [k9] at g4
    have g5 : DataW.trod enc Tryz.prog w base spare held n2 22 (([c0, c1, c2, c3, c4, c5, c6, c7, c8, c9, c10, c11].drop 5).take (Tryz.prog.cellsOf 22)) = ys[5]? := hf 5 _ rfl
    rw [k43] at g5
    have g6 : DataW.trod enc Tryz.prog w base spare held n2 24 (([c0, c1, c2, c3, c4, c5, c6, c7, c8, c9, c10, c11].drop 6).take (Tryz.prog.cellsOf 24)) = ys[6]? := hf 6 _ rfl
    rw [k45] at g6
    obtain ⟨z0, q0⟩ := one (v := c0) (ex 0 (by omega)) g0
    obtain ⟨z1, q1⟩ := one (v := c1) (ex 1 (by omega)) g1
    obtain ⟨z2, q2⟩ := one (v := c2) (ex 2 (by omega)) g2
    obtain ⟨z3, q3⟩ := one (v := c3) (ex 3 (by omega)) g3
    obtain ⟨z4, q4⟩ := one (v := c4) (ex 4 (by omega)) g4
    obtain ⟨z5, q5⟩ := one (v := c5) (ex 5 (by omega)) g5
    obtain ⟨z6, hz6⟩ := ex 6 (by omega)
    have g6 := g6.trans hz6
    obtain ⟨k, rfl, wk⟩ := fld_int Tryz.underlying3 q0
    obtain ⟨i, rfl, wi⟩ := fld_int Tryz.underlying3 q1
    obtain ⟨m, rfl, wm⟩ := fld_int Tryz.underlying3 q2
    obtain ⟨t, rfl, wt⟩ := fld_int Tryz.underlying2 q3
    obtain ⟨b, rfl, wb⟩ := fld_string Tryz.underlying9 q4
    obtain ⟨e, rfl, we⟩ := fld_int Tryz.underlying22 q5
    have g6' : DataW.trod enc Tryz.prog w base spare held n2 24 [c6, c7, c8, c9, c10, c11] = some z6 := g6
    obtain ⟨ys2, n3, hn3, hy2, hlen2, hyl2, hf2⟩ := DataW.trod_struct Tryz.underlying24 g6'
    have one2 : ∀ {t : TypeId} {v : Value} {o : Option (DataW H × List MemPlace)}, (∃ z, o = some z) → DataW.trod enc Tryz.prog w base spare held n3 t [v] = o → ∃ z, DataW.trod enc Tryz.prog w base spare held n3 t [v] = some z := fun ⟨z, hz⟩ hh => ⟨z, hh.trans hz⟩
    have ex2 : ∀ j, j < 6 → ∃ z, ys2[j]? = some z := fun j hj => ⟨_, List.getElem?_eq_getElem (by
      have : ys2.length = 6 := hyl2
      omega)⟩
    have p0 : DataW.trod enc Tryz.prog w base spare held n3 2 (([c6, c7, c8, c9, c10, c11].drop 0).take (Tryz.prog.cellsOf 2)) = ys2[0]? := hf2 0 _ rfl
    rw [k2] at p0
    have p1 : DataW.trod enc Tryz.prog w base spare held n3 3 (([c6, c7, c8, c9, c10, c11].drop 1).take (Tryz.prog.cellsOf 3)) = ys2[1]? := hf2 1 _ rfl
    rw [k3] at p1
    have p2 : DataW.trod enc Tryz.prog w base spare held n3 3 (([c6, c7, c8, c9, c10, c11].drop 2).take (Tryz.prog.cellsOf 3)) = ys2[2]? := hf2 2 _ rfl
    rw [k3] at p2
    have p3 : DataW.trod enc Tryz.prog w base spare held n3 3 (([c6, c7, c8, c9, c10, c11].drop 3).take (Tryz.prog.cellsOf 3)) = ys2[3]? := hf2 3 _ rfl
    rw [k3] at p3
    have p4 : DataW.trod enc Tryz.prog w base spare held n3 3 (([c6, c7, c8, c9, c10, c11].drop 4).take (Tryz.prog.cellsOf 3)) = ys2[4]? := hf2 4 _ rfl
    rw [k3] at p4
    have p5 : DataW.trod enc Tryz.prog w base spare held n3 3 (([c6, c7, c8, c9, c10, c11].drop 5).take (Tryz.prog.cellsOf 3)) = ys2[5]? := hf2 5 _ rfl
    rw [k3] at p5
    obtain ⟨_, r0⟩ := one2 (v := c6) (ex2 0 (by omega)) p0
    obtain ⟨_, r1⟩ := one2 (v := c7) (ex2 1 (by omega)) p1
    obtain ⟨_, r2⟩ := one2 (v := c8) (ex2 2 (by omega)) p2
    obtain ⟨_, r3⟩ := one2 (v := c9) (ex2 3 (by omega)) p3
    obtain ⟨_, r4⟩ := one2 (v := c10) (ex2 4 (by omega)) p4
    obtain ⟨_, r5⟩ := one2 (v := c11) (ex2 5 (by omega)) p5
    obtain ⟨s0, rfl, w0⟩ := fld_int Tryz.underlying2 r0
    obtain ⟨s1, rfl, w1⟩ := fld_int Tryz.underlying3 r1
    obtain ⟨s2, rfl, w2⟩ := fld_int Tryz.underlying3 r2
    obtain ⟨s3, rfl, w3⟩ := fld_int Tryz.underlying3 r3
    obtain ⟨s4, rfl, w4⟩ := fld_int Tryz.underlying3 r4
    obtain ⟨s5, rfl, w5⟩ := fld_int Tryz.underlying3 r5
    refine ⟨⟨k, i, m, t, b, e, s0, s1, s2, s3, s4, s5⟩, rfl, wb, fun kk z hz => ?_⟩
    simp only [Ev.c, List.mem_cons, List.not_mem_nil, or_false, Value.int.injEq, reduceCtorEq, false_or] at hz
    rcases hz with ⟨rfl, rfl⟩ | ⟨rfl, rfl⟩ | ⟨rfl, rfl⟩ | ⟨rfl, rfl⟩ | ⟨rfl, rfl⟩ | ⟨rfl, rfl⟩ | ⟨rfl, rfl⟩ | ⟨rfl, rfl⟩ | ⟨rfl, rfl⟩ | ⟨rfl, rfl⟩ | ⟨rfl, rfl⟩ <;> assumption
/-- Events as they come in. -/
def IsEv (w : World) (a : Option Addr) (len cap : Nat) (L : List Ev) : Prop := L.length = len ∧ len ≤ cap ∧ cap ≤ maxLen ∧ EL w a L
theorem fld_ev {v : Value} {n : Nat} {y : DataW H × List MemPlace} (h : DataW.trod enc Tryz.prog w base (fun _ => true) held n 38 [v] = some y) : ∃ a len cap L, v = .slice a len cap ∧ IsEv w a len cap L := by
  rcases open_slice Tryz.underlying38 h with ⟨hcs, _⟩ | ⟨a, len, cap, m, n', D, Pl, hcs, hb, hl, hm, hmm, hx, hi⟩
  · exact ⟨none, 0, 0, [], by simpa using hcs, rfl, Nat.le_refl _, Nat.zero_le _, EL.nil _ _⟩
  · have hlm : len ≤ m := by rw [hmm]; split <;> omega
    have k12 : Tryz.prog.cellsOf 26 = 12 := by kernel_rfl
    have all : ∀ i, i < len → ∃ x : Ev, x.ok ∧ ∀ q v, x.c[q]? = some v → w.cell? (a.add (i * 12 + q)) = some v := by
      intro i hil
      obtain ⟨cs', hc, ht'⟩ := hi i (by omega)
      rw [k12] at hc
      obtain ⟨_, hcl, hat⟩ := World.cells?_some hc
      obtain ⟨x, rfl, hok⟩ := trod_ev hcl ht'
      refine ⟨x, hok, fun q v hq => ?_⟩
      have hq2 : q < 12 := (List.getElem?_eq_some_iff.1 hq).1
      rw [← Go.Deep.add_add, hat q hq2, hq]
    obtain ⟨f, hf⟩ : ∃ f : Nat → Ev, ∀ i, i < len → (f i).ok ∧ ∀ q v, (f i).c[q]? = some v → w.cell? (a.add (i * 12 + q)) = some v := ⟨fun i => if h : i < len then (all i h).choose else ⟨0, 0, 0, 0, ByteArray.empty, 0, 0, 0, 0, 0, 0, 0⟩, fun i h => by simp only [dif_pos h]; exact (all i h).choose_spec⟩
    refine ⟨some a, len, cap, (List.range len).map f, by simpa using hcs, by simp, hl, hm, fun j x hj => ?_⟩
    obtain ⟨hj1, rfl⟩ : j < len ∧ f j = x := by
      rw [List.getElem?_map] at hj
      obtain ⟨q, h1, h2⟩ := Option.map_eq_some_iff.1 hj
      obtain ⟨h3, h4⟩ := List.getElem?_eq_some_iff.1 h1
      simp at h3 h4
      subst h4
      exact ⟨h3, h2⟩
    obtain ⟨hok, hc⟩ := hf j hj1
    obtain ⟨b, off, spot⟩ := a
    have c0 := (hf 0 (by omega)).2 0 _ rfl
    have hs : spot = none := by simpa [Addr.add] using World.cell?_spot c0
    subst hs
    have hb := World.block_lt_of_cell? _ _ c0
    refine ⟨hok, b, off, rfl, by simpa [Addr.add] using hb, fun q v hq => ?_⟩
    have := hc q v hq
    rw [Addr.add_lit] at this
    exact this
end
end Go.Proofs.YtfhhkmjjifbfeaaGreatDoor
