/- A row of one's own, known whole, and what an append leaves of it. Generic: names no function of the seat. -/
import Derived.Test.YtfhhkmjjifbfeaaGreatDoorBlk
import Derived.Deep.AppendSrc
namespace Go.Proofs.YtfhhkmjjifbfeaaGreatDoor
open Go.RowKit
set_option linter.unusedSimpArgs false
set_option linter.unusedVariables false

theorem rw_cells : ∀ (vs : List Value) (o : Nat) {w : World} {b : Nat} {cs : List Value} {T : TypeId}, Blk w b cs T → o + vs.length ≤ cs.length → Blk (w.setCells b o vs) b (cs.take o ++ vs ++ cs.drop (o + vs.length)) T ∧ Chg [b] w (w.setCells b o vs)
  | [], o, w, b, cs, T, h, hl => by
    simp only [World.setCells, List.append_nil, List.length_nil, Nat.add_zero, List.take_append_drop]
    exact ⟨h, Chg.refl _ _⟩
  | v :: r, o, w, b, cs, T, h, hl => by
    have hl' : o + 1 + r.length ≤ cs.length := by simp at hl; omega
    obtain ⟨k1, k2⟩ := rw_cells r (o + 1) (h.set o v) (by simpa using hl')
    refine ⟨?_, (((Chg.refl [b] w).set (Or.inl (by simp)) o v).trans k2 (fun x hx => Or.inl hx))⟩
    have e : (cs.set o v).take (o + 1) ++ r ++ (cs.set o v).drop (o + 1 + r.length) = cs.take o ++ (v :: r) ++ cs.drop (o + (v :: r).length) := by
      rw [List.take_succ_eq_append_getElem (by simp; omega), List.getElem_set_self, List.take_set_of_le (Nat.le_refl o), List.drop_set_of_lt (by omega)]
      simp [Nat.add_assoc, Nat.add_comm 1]
    rw [e] at k1
    exact k1
/-- The row L stands at the head of block g, with room up to cap behind it. -/
def Rw (w : World) (g cap : Nat) (L : List Value) (T : TypeId) : Prop := ∃ rest : List Value, L.length + rest.length = cap ∧ cap ≤ 9223372036854775807 ∧ Blk w g (L ++ rest) T
theorem Rw.lt {w : World} {g cap : Nat} {L : List Value} {T : TypeId} (h : Rw w g cap L T) : g < w.heap.size := by
  obtain ⟨r, _, _, h⟩ := h; exact h.lt
theorem Rw.len {w : World} {g cap : Nat} {L : List Value} {T : TypeId} (h : Rw w g cap L T) : L.length ≤ cap := by
  obtain ⟨r, h, _, _⟩ := h; omega
theorem Rw.chg {w w' : World} {g cap : Nat} {L : List Value} {T : TypeId} (h : Rw w g cap L T) {l : List Nat} (k : Chg l w w') (hg : g ∉ l) : Rw w' g cap L T := by
  obtain ⟨r, h1, h2, h3⟩ := h; exact ⟨r, h1, h2, h3.chg k hg⟩
theorem Rw.cell {w : World} {g cap : Nat} {L : List Value} {T : TypeId} (h : Rw w g cap L T) {j : Nat} {v : Value} (hj : L[j]? = some v) : w.cell? ⟨g, j, none⟩ = some v := by
  obtain ⟨r, h1, h2, h3⟩ := h
  have hl : j < L.length := by
    rcases Nat.lt_or_ge j L.length with h | h
    · exact h
    · rw [List.getElem?_eq_none h] at hj; cases hj
  exact h3.cell (by rw [List.getElem?_append_left hl]; exact hj)
theorem Rw.src {w : World} {g cap : Nat} {L : List Value} {T : TypeId} (h : Rw w g cap L T) (j : Nat) (u : Value) (hj : L[j]? = some u) : w.cell? ((⟨g, 0, none⟩ : Addr).add j) = some u := by
  have e2 : (({ block := g, off := 0, spot := none } : Addr).add j) = ⟨g, j, none⟩ := by simp [Addr.add]; omega
  rw [e2]
  exact h.cell hj
theorem Rw.empty (w : World) (T : TypeId) : Rw (w.alloc (.cells #[] T)) w.heap.size 0 [] T := ⟨[], rfl, by omega, Blk.newA w #[] T⟩
theorem Rw.of_own {w : World} {base e n : Nat} {v : Value} {xs : List Value} (h : w.ownsRow base e 1 v n xs) (hv : v ≠ .slice none 0 0) :
    ∃ g cap, v = .slice (some ⟨g, 0, none⟩) n cap ∧ base ≤ g ∧ Rw w g cap xs e ∧ xs.length = n := by
  obtain ⟨hl, h | ⟨g, cap, cur, h1, h2, h3, h4, h5, h6, h7⟩⟩ := h
  · exact absurd h.1 hv
  · refine ⟨g, cap, h1, h2, ⟨cur.toList.drop n, ?_, by unfold maxLen at h5; omega, ?_⟩, by omega⟩
    · have e1 : xs.length = n := by omega
      have e2 : cur.toList.length = cap := by rw [Array.length_toList]; omega
      rw [List.length_drop, e1, e2]; omega
    · rw [← h7, Nat.mul_one, List.take_append_drop]
      unfold Blk
      exact h3
theorem wpList_append_rw {P : Program} (w : World) {ops : Array Oper} {rest : List Oper} {o : Oper} {a : Act} {Q : Exit → Act → World → Prop}
    (hg : o.guard = none) (s x : Operand) (t tx : TypeId) (hop : o.op = Op.call { callee := Callee.builtin Builtin.append, args := #[s, x], argTypes := #[t, tx] })
    (e : TypeId) (z : Value) (by_ : Nat) (ht : P.underlying t = some (.slice e)) (hinfo : (P.info? e).map (fun i => (i.zero, i.size, i.bytes)) = some (some z, 1, by_)) (hz1 : z.cells.size = 1)
    (g m cap : Nat) (L : List Value) (hs : a.eval s = .slice (some ⟨g, 0, none⟩) m cap) (hm : L.length = m) (hown : Rw w g cap L e) (xv : Value) (hx : a.eval x = xv) (n : Nat) (news : List Value) (hsrc : Src P 1 tx xv n news w)
    (h63 : m + n ≤ 1000000) (hby : by_ ≤ 1000)
    (hK : ∀ g' cap' w', Rw w' g' cap' (L ++ news) e → (g' = g ∨ w.heap.size ≤ g') → Chg [g] w w' → wpList P ops Q rest (a.put o.dst (.slice (some ⟨g', 0, none⟩) (m + n) cap')) w') :
    wpList P ops Q (o :: rest) a w := by
  subst hm
  refine wpList_plain hg fun K hK' => ?_
  obtain ⟨i, hi, hzz⟩ := Option.map_eq_some_iff.1 hinfo
  simp only [Prod.mk.injEq] at hzz
  obtain ⟨hz, hs1, hb1⟩ := hzz
  have hnl : news.length = n := by have := hsrc.newsLen; omega
  obtain ⟨r, h1, h2, h3⟩ := hown
  by_cases hroom : L.length + n ≤ cap
  · have hrun := run_append_room_src (P := P) (w := w) t tx o.type e i ht hi g 0 L.length cap xv n news (by rw [hs1]; exact hsrc) hroom (fun j hj => by
      have hlt : L.length + j < (L ++ r).length := by rw [List.length_append]; omega
      rw [hs1, Nat.zero_add, Nat.mul_one, h3.cell (List.getElem?_eq_getElem hlt)]; rfl) (fun j hj => by rw [hs1]; exact h3.free _)
    unfold Oper.wp
    simp [execOp, hop, resolve, invoke, builtin, hs, hx, hrun, Result.andThen]
    refine hK' _ _ (hK g cap _ ?_ (Or.inl rfl) ?_)
    · obtain ⟨k1, k2⟩ := rw_cells news L.length h3 (by rw [List.length_append]; omega)
      refine ⟨r.drop n, by rw [List.length_append, List.length_drop]; omega, h2, ?_⟩
      rw [hs1, Nat.mul_one]
      rw [List.take_left, ← List.drop_drop, List.drop_left, hnl] at k1
      exact k1
    · rw [hs1, Nat.mul_one]
      exact (rw_cells news L.length h3 (by rw [List.length_append]; omega)).2
  · have hgr : cap < L.length + n := by omega
    have hold : (Builtin.firstCells i.size L.length (.slice (some ⟨g, 0, none⟩) L.length cap)).run P w.drew = .ok L.toArray w.drew := by
      rw [hs1]
      exact run_firstCells_some _ 1 L.length ⟨g, 0, none⟩ L.length cap L (by omega) (fun j v hj => by
        have hl : j < L.length := by
          rcases Nat.lt_or_ge j L.length with h | h
          · exact h
          · rw [List.getElem?_eq_none h] at hj; cases hj
        have := h3.cell (i := j) (v := v) (by rw [List.getElem?_append_left hl]; exact hj)
        have e2 : (({ block := g, off := 0, spot := none } : Addr).add j) = ⟨g, j, none⟩ := by simp [Addr.add]; omega
        rw [e2]; simpa using this)
    have hbb : (L.length + n) * i.bytes ≤ 140737488355328 := by
      rw [hb1]
      calc (L.length + n) * by_ ≤ 1000000 * 1000 := Nat.mul_le_mul h63 hby
        _ ≤ 140737488355328 := by decide
    have hrun := run_append_grow_src (P := P) (w := w) t tx o.type e i z ht hi hz (some ⟨g, 0, none⟩) L.length cap L hold xv n news (by rw [hs1]; exact hsrc) hgr (by omega) (growslice_fits hgr hbb)
    unfold Oper.wp
    simp [execOp, hop, resolve, invoke, builtin, hs, hx, hrun, Result.andThen]
    have hge := grownCap_ge w (L.length + n) cap e
    have hle := grownCap_le_maxLen w (L.length + n) cap e (by unfold maxLen; omega)
    have hk := hK w.heap.size (grownCap w (L.length + n) cap e) _ ?_ (Or.inr (Nat.le_refl _)) (((Chg.refl [g] w).drew).alloc (.cells ((L ++ news).toArray ++ Builtin.zeroCells z.cells (grownCap w (L.length + n) cap e - (L.length + n))) e))
    · exact hK' _ _ (by simpa using hk)
    refine ⟨(Builtin.zeroCells z.cells (grownCap w (L.length + n) cap e - (L.length + n))).toList, ?_, by unfold maxLen at hle; omega, ?_⟩
    · have ez : ∀ k, (Builtin.zeroCells z.cells k).toList.length = k := fun k => by rw [Array.length_toList, size_zeroCells, hz1, Nat.mul_one]
      rw [List.length_append, ez]; omega
    · have := Blk.newA w.drew ((L ++ news).toArray ++ Builtin.zeroCells z.cells (grownCap w (L.length + n) cap e - (L.length + n))) e
      rw [Array.toList_append] at this
      exact this
end Go.Proofs.YtfhhkmjjifbfeaaGreatDoor
