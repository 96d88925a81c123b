/- A row of records of one's own (sz cells each), known whole, and what an append leaves of it. Generic: names no function of the seat. -/
import Derived.Test.YtfhhkmjjifbfeaaGreatDoorRw
import Derived.Deep.AppendSrc
namespace Go.Proofs.YtfhhkmjjifbfeaaGreatDoor
open Go.RowKit
set_option linter.unusedSimpArgs false
set_option linter.unusedVariables false

/-- The row L stands at the head of block g, with room up to cap behind it. -/
def Rn (w : World) (g cap sz : Nat) (L : List Value) (T : TypeId) : Prop := ∃ rest : List Value, L.length + rest.length = cap * sz ∧ cap ≤ 9223372036854775807 ∧ Blk w g (L ++ rest) T
theorem Rn.lt {w : World} {g cap sz : Nat} {L : List Value} {T : TypeId} (h : Rn w g cap sz L T) : g < w.heap.size := by
  obtain ⟨r, _, _, h⟩ := h; exact h.lt
theorem Rn.len {w : World} {g cap sz : Nat} {L : List Value} {T : TypeId} (h : Rn w g cap sz L T) : L.length ≤ cap * sz := by
  obtain ⟨r, h, _, _⟩ := h; omega
theorem Rn.chg {w w' : World} {g cap sz : Nat} {L : List Value} {T : TypeId} (h : Rn w g cap sz L T) {l : List Nat} (k : Chg l w w') (hg : g ∉ l) : Rn w' g cap sz L T := by
  obtain ⟨r, h1, h2, h3⟩ := h; exact ⟨r, h1, h2, h3.chg k hg⟩
theorem Rn.cell {w : World} {g cap sz : Nat} {L : List Value} {T : TypeId} (h : Rn w g cap sz L T) {j : Nat} {v : Value} (hj : L[j]? = some v) : w.cell? ⟨g, j, none⟩ = some v := by
  obtain ⟨r, h1, h2, h3⟩ := h
  have hl : j < L.length := by
    rcases Nat.lt_or_ge j L.length with h | h
    · exact h
    · rw [List.getElem?_eq_none h] at hj; cases hj
  exact h3.cell (by rw [List.getElem?_append_left hl]; exact hj)
theorem Rn.src {w : World} {g cap sz : Nat} {L : List Value} {T : TypeId} (h : Rn w g cap sz L T) (j : Nat) (u : Value) (hj : L[j]? = some u) : w.cell? ((⟨g, 0, none⟩ : Addr).add j) = some u := by
  have e2 : (({ block := g, off := 0, spot := none } : Addr).add j) = ⟨g, j, none⟩ := by simp [Addr.add]; omega
  rw [e2]
  exact h.cell hj
theorem Rn.empty (w : World) (sz : Nat) (T : TypeId) : Rn (w.alloc (.cells #[] T)) w.heap.size 0 sz [] T := ⟨[], by simp, by omega, Blk.newA w #[] T⟩
theorem wpList_append_rn {P : Program} (w : World) {ops : Array Oper} {rest : List Oper} {o : Oper} {a : Act} {Q : Exit → Act → World → Prop}
    (hg : o.guard = none) (s x : Operand) (t tx : TypeId) (hop : o.op = Op.call { callee := Callee.builtin Builtin.append, args := #[s, x], argTypes := #[t, tx] })
    (e : TypeId) (z : Value) (sz by_ : Nat) (ht : P.underlying t = some (.slice e)) (hinfo : (P.info? e).map (fun i => (i.zero, i.size, i.bytes)) = some (some z, sz, by_)) (hz1 : z.cells.size = sz)
    (g m cap : Nat) (L : List Value) (hs : a.eval s = .slice (some ⟨g, 0, none⟩) m cap) (hm : L.length = m * sz) (hown : Rn w g cap sz L e) (xv : Value) (hx : a.eval x = xv) (n : Nat) (news : List Value) (hsrc : Src P sz tx xv n news w)
    (h63 : m + n ≤ 1000000) (hby : by_ ≤ 1000)
    (hK : ∀ g' cap' w', Rn w' g' cap' sz (L ++ news) e → (g' = g ∨ w.heap.size ≤ g') → Chg [g] w w' → wpList P ops Q rest (a.put o.dst (.slice (some ⟨g', 0, none⟩) (m + n) cap')) w') :
    wpList P ops Q (o :: rest) a w := by
  refine wpList_plain hg fun K hK' => ?_
  obtain ⟨i, hi, hzz⟩ := Option.map_eq_some_iff.1 hinfo
  simp only [Prod.mk.injEq] at hzz
  obtain ⟨hz, hs1, hb1⟩ := hzz
  have hnl : news.length = n * sz := hsrc.newsLen
  obtain ⟨r, h1, h2, h3⟩ := hown
  by_cases hroom : m + n ≤ cap
  · have hmul : (m + n) * sz ≤ cap * sz := Nat.mul_le_mul_right _ hroom
    rw [Nat.add_mul] at hmul
    have hrun := run_append_room_src (P := P) (w := w) t tx o.type e i ht hi g 0 m cap xv n news (by rw [hs1]; exact hsrc) hroom (fun j hj => by
      have hlt : m * sz + j < (L ++ r).length := by rw [List.length_append]; omega
      rw [hs1, Nat.zero_add, h3.cell (List.getElem?_eq_getElem hlt)]; rfl) (fun j hj => by rw [hs1]; exact h3.free _)
    unfold Oper.wp
    simp [execOp, hop, resolve, invoke, builtin, hs, hx, hrun, Result.andThen]
    refine hK' _ _ (hK g cap _ ?_ (Or.inl rfl) ?_)
    · obtain ⟨k1, k2⟩ := rw_cells news (m * sz) h3 (by rw [List.length_append]; omega)
      refine ⟨r.drop news.length, by rw [List.length_append, List.length_drop]; omega, h2, ?_⟩
      rw [hs1]
      rw [← hm] at k1 ⊢
      rw [List.take_left, ← List.drop_drop, List.drop_left] at k1
      exact k1
    · rw [hs1]
      exact (rw_cells news (m * sz) h3 (by rw [List.length_append]; omega)).2
  · have hgr : cap < m + n := by omega
    have hold : (Builtin.firstCells i.size m (.slice (some ⟨g, 0, none⟩) m cap)).run P w.drew = .ok L.toArray w.drew := by
      rw [hs1]
      exact run_firstCells_some _ sz m ⟨g, 0, none⟩ m cap L (by omega) (fun j v hj => by
        have hl : j < L.length := by
          rcases Nat.lt_or_ge j L.length with h | h
          · exact h
          · rw [List.getElem?_eq_none h] at hj; cases hj
        have := h3.cell (i := j) (v := v) (by rw [List.getElem?_append_left hl]; exact hj)
        have e2 : (({ block := g, off := 0, spot := none } : Addr).add j) = ⟨g, j, none⟩ := by simp [Addr.add]; omega
        rw [e2]; simpa using this)
    have hbb : (m + n) * i.bytes ≤ 140737488355328 := by
      rw [hb1]
      calc (m + n) * by_ ≤ 1000000 * 1000 := Nat.mul_le_mul h63 hby
        _ ≤ 140737488355328 := by decide
    have hrun := run_append_grow_src (P := P) (w := w) t tx o.type e i z ht hi hz (some ⟨g, 0, none⟩) m cap L hold xv n news (by rw [hs1]; exact hsrc) hgr (by omega) (growslice_fits hgr hbb)
    unfold Oper.wp
    simp [execOp, hop, resolve, invoke, builtin, hs, hx, hrun, Result.andThen]
    have hge := grownCap_ge w (m + n) cap e
    have hle := grownCap_le_maxLen w (m + n) cap e (by unfold maxLen; omega)
    have hk := hK w.heap.size (grownCap w (m + n) cap e) _ ?_ (Or.inr (Nat.le_refl _)) (((Chg.refl [g] w).drew).alloc (.cells ((L ++ news).toArray ++ Builtin.zeroCells z.cells (grownCap w (m + n) cap e - (m + n))) e))
    · exact hK' _ _ (by simpa using hk)
    refine ⟨(Builtin.zeroCells z.cells (grownCap w (m + n) cap e - (m + n))).toList, ?_, by unfold maxLen at hle; omega, ?_⟩
    · have ez : ∀ k, (Builtin.zeroCells z.cells k).toList.length = k * sz := fun k => by rw [Array.length_toList, size_zeroCells, hz1]
      rw [List.length_append, ez, hm, hnl, ← Nat.add_mul, ← Nat.add_mul]
      congr 1
      omega
    · have := Blk.newA w.drew ((L ++ news).toArray ++ Builtin.zeroCells z.cells (grownCap w (m + n) cap e - (m + n))) e
      rw [Array.toList_append] at this
      exact this
end Go.Proofs.YtfhhkmjjifbfeaaGreatDoor
