/- An append onto a row of records of one's own, as one step of a region whose order is open. Generic: names no function of the seat. -/
import Derived.Test.YtfhhkmjjifbfeaaGreatDoorRn
import Derived.Deep.RegionLaw
namespace Go.Proofs.YtfhhkmjjifbfeaaGreatDoor
open Go.RowKit
set_option linter.unusedSimpArgs false
set_option linter.unusedVariables false

theorem wp_append_rn {P : Program} (w : World) {o : Oper} {a : Act} {K : Act → World → Prop} {Q : Exit → Act → World → Prop}
    (s x : Operand) (t tx : TypeId) (hop : o.op = Op.call { callee := Callee.builtin Builtin.append, args := #[s, x], argTypes := #[t, tx] })
    (e : TypeId) (z : Value) (sz by_ : Nat) (ht : P.underlying t = some (.slice e)) (hinfo : (P.info? e).map (fun i => (i.zero, i.size, i.bytes)) = some (some z, sz, by_)) (hz1 : z.cells.size = sz)
    (g m cap : Nat) (L : List Value) (hs : a.eval s = .slice (some ⟨g, 0, none⟩) m cap) (hm : L.length = m * sz) (hown : Rn w g cap sz L e) (xv : Value) (hx : a.eval x = xv) (n : Nat) (news : List Value) (hsrc : Src P sz tx xv n news w)
    (h63 : m + n ≤ 1000000) (hby : by_ ≤ 1000)
    (hK : ∀ g' cap' w', Rn w' g' cap' sz (L ++ news) e → (g' = g ∨ w.heap.size ≤ g') → Chg [g] w w' → K (a.put o.dst (.slice (some ⟨g', 0, none⟩) (m + n) cap')) w') :
    Oper.wp P o a w K Q := by
  obtain ⟨i, hi, hzz⟩ := Option.map_eq_some_iff.1 hinfo
  simp only [Prod.mk.injEq] at hzz
  obtain ⟨hz, hs1, hb1⟩ := hzz
  have hnl : news.length = n * sz := hsrc.newsLen
  obtain ⟨r, h1, h2, h3⟩ := hown
  by_cases hroom : m + n ≤ cap
  · have hmul : (m + n) * sz ≤ cap * sz := Nat.mul_le_mul_right _ hroom
    rw [Nat.add_mul] at hmul
    have hrun := run_append_room_src (P := P) (w := w) t tx o.type e i ht hi g 0 m cap xv n news (by rw [hs1]; exact hsrc) hroom (fun j hj => by
      have hlt : m * sz + j < (L ++ r).length := by rw [List.length_append]; omega
      rw [hs1, Nat.zero_add, h3.cell (List.getElem?_eq_getElem hlt)]; rfl) (fun j hj => by rw [hs1]; exact h3.free _)
    unfold Oper.wp
    simp [execOp, hop, resolve, invoke, builtin, hs, hx, hrun, Result.andThen]
    refine hK g cap _ ?_ (Or.inl rfl) ?_
    · obtain ⟨k1, k2⟩ := rw_cells news (m * sz) h3 (by rw [List.length_append]; omega)
      refine ⟨r.drop news.length, by rw [List.length_append, List.length_drop]; omega, h2, ?_⟩
      rw [hs1]
      rw [← hm] at k1 ⊢
      rw [List.take_left, ← List.drop_drop, List.drop_left] at k1
      exact k1
    · rw [hs1]
      exact (rw_cells news (m * sz) h3 (by rw [List.length_append]; omega)).2
  · have hgr : cap < m + n := by omega
    have hold : (Builtin.firstCells i.size m (.slice (some ⟨g, 0, none⟩) m cap)).run P w.drew = .ok L.toArray w.drew := by
      rw [hs1]
      exact run_firstCells_some _ sz m ⟨g, 0, none⟩ m cap L (by omega) (fun j v hj => by
        have hl : j < L.length := by
          rcases Nat.lt_or_ge j L.length with h | h
          · exact h
          · rw [List.getElem?_eq_none h] at hj; cases hj
        have := h3.cell (i := j) (v := v) (by rw [List.getElem?_append_left hl]; exact hj)
        have e2 : (({ block := g, off := 0, spot := none } : Addr).add j) = ⟨g, j, none⟩ := by simp [Addr.add]; omega
        rw [e2]; simpa using this)
    have hbb : (m + n) * i.bytes ≤ 140737488355328 := by
      rw [hb1]
      calc (m + n) * by_ ≤ 1000000 * 1000 := Nat.mul_le_mul h63 hby
        _ ≤ 140737488355328 := by decide
    have hrun := run_append_grow_src (P := P) (w := w) t tx o.type e i z ht hi hz (some ⟨g, 0, none⟩) m cap L hold xv n news (by rw [hs1]; exact hsrc) hgr (by omega) (growslice_fits hgr hbb)
    unfold Oper.wp
    simp [execOp, hop, resolve, invoke, builtin, hs, hx, hrun, Result.andThen]
    have hge := grownCap_ge w (m + n) cap e
    have hle := grownCap_le_maxLen w (m + n) cap e (by unfold maxLen; omega)
    have hk := hK w.heap.size (grownCap w (m + n) cap e) _ ?_ (Or.inr (Nat.le_refl _)) (((Chg.refl [g] w).drew).alloc (.cells ((L ++ news).toArray ++ Builtin.zeroCells z.cells (grownCap w (m + n) cap e - (m + n))) e))
    · exact hk
    refine ⟨(Builtin.zeroCells z.cells (grownCap w (m + n) cap e - (m + n))).toList, ?_, by unfold maxLen at hle; omega, ?_⟩
    · have ez : ∀ k, (Builtin.zeroCells z.cells k).toList.length = k * sz := fun k => by rw [Array.length_toList, size_zeroCells, hz1]
      rw [List.length_append, ez, hm, hnl, ← Nat.add_mul, ← Nat.add_mul]
      congr 1
      omega
    · have := Blk.newA w.drew ((L ++ news).toArray ++ Builtin.zeroCells z.cells (grownCap w (m + n) cap e - (m + n))) e
      rw [Array.toList_append] at this
      exact this
theorem step_append_rn {P : Program} {ops : Array Oper} {o : Oper} {a : Act} {w : World} {K : Act → World → Prop} {Q : Exit → Act → World → Prop} {E : Prop}
    (hgd : o.guard = none) (s x : Operand) (t tx : TypeId) (hop : o.op = Op.call { callee := Callee.builtin Builtin.append, args := #[s, x], argTypes := #[t, tx] })
    (e : TypeId) (z : Value) (sz by_ : Nat) (ht : P.underlying t = some (.slice e)) (hinfo : (P.info? e).map (fun i => (i.zero, i.size, i.bytes)) = some (some z, sz, by_)) (hz1 : z.cells.size = sz)
    (g m cap : Nat) (L : List Value) (hs : a.eval s = .slice (some ⟨g, 0, none⟩) m cap) (hm : L.length = m * sz) (hown : Rn w g cap sz L e) (xv : Value) (hx : a.eval x = xv) (n : Nat) (news : List Value) (hsrc : Src P sz tx xv n news w)
    (h63 : m + n ≤ 1000000) (hby : by_ ≤ 1000)
    (hK : ∀ g' cap' w', Rn w' g' cap' sz (L ++ news) e → (g' = g ∨ w.heap.size ≤ g') → Chg [g] w w' → K (a.put o.dst (.slice (some ⟨g', 0, none⟩) (m + n) cap')) w') :
    if Region.wanted o (yielded ops a.tmps) = true then Oper.wp P o a w K Q else E := by
  have hw : Region.wanted o (yielded ops a.tmps) = true := by simp [Region.wanted, hgd]
  rw [if_pos hw]
  exact wp_append_rn w s x t tx hop e z sz by_ ht hinfo hz1 g m cap L hs hm hown xv hx n news hsrc h63 hby hK
end Go.Proofs.YtfhhkmjjifbfeaaGreatDoor
