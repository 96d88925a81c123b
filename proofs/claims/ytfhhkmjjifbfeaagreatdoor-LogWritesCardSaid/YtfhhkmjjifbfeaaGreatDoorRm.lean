/- Rows of records (sz cells each) by value, maybe none. -/
import Derived.Test.YtfhhkmjjifbfeaaGreatDoorRnStep
import Derived.Test.YtfhhkmjjifbfeaaGreatDoorRv
namespace Go.Proofs.YtfhhkmjjifbfeaaGreatDoor
open Go.RowKit
set_option linter.unusedSimpArgs false
set_option linter.unusedVariables false

/-- The row L of records by value: none, or at the head of a block that stands no lower than base. -/
def RM (w : World) (base : Nat) (r : Option Addr) (n c sz : Nat) (L : List Value) (T : TypeId) : Prop := L.length = n * sz ∧ base ≤ w.heap.size ∧ ((r = none ∧ n = 0 ∧ c = 0) ∨ ∃ g, r = some ⟨g, 0, none⟩ ∧ base ≤ g ∧ Rn w g c sz L T)
theorem RM.nil (w : World) (base sz : Nat) (T : TypeId) (h : base ≤ w.heap.size) : RM w base none 0 0 sz [] T := ⟨by simp, h, Or.inl ⟨rfl, rfl, rfl⟩⟩
theorem RM.chg {w w' : World} {base n c sz : Nat} {r : Option Addr} {L : List Value} {T : TypeId} (h : RM w base r n c sz L T) {l : List Nat} (k : Chg l w w') (hl : ∀ g ∈ rvB r, g ∉ l) : RM w' base r n c sz L T := by
  obtain ⟨h0, h1, h2 | ⟨g, h2, h3, h4⟩⟩ := h
  · exact ⟨h0, Nat.le_trans h1 k.size, Or.inl h2⟩
  · subst h2
    exact ⟨h0, Nat.le_trans h1 k.size, Or.inr ⟨g, rfl, h3, h4.chg k (hl g (by simp [rvB]))⟩⟩
theorem RM.lt {w : World} {base n c sz : Nat} {r : Option Addr} {L : List Value} {T : TypeId} (h : RM w base r n c sz L T) : ∀ g ∈ rvB r, base ≤ g ∧ g < w.heap.size := by
  obtain ⟨h0, h1, h2 | ⟨g, h2, h3, h4⟩⟩ := h
  · rw [h2.1]; intro g hg; simp [rvB] at hg
  · subst h2; intro g' hg; simp [rvB] at hg; subst hg; exact ⟨h3, h4.lt⟩
theorem RM.row {w : World} {base n c sz : Nat} {r : Option Addr} {L : List Value} {T : TypeId} (h : RM w base r n c sz L T) (hn : 0 < n) : ∃ g, r = some ⟨g, 0, none⟩ ∧ base ≤ g ∧ Rn w g c sz L T := by
  obtain ⟨h0, h1, h2 | h2⟩ := h
  · omega
  · exact h2
theorem wp_append_rm {P : Program} (w : World) {o : Oper} {a : Act} {K : Act → World → Prop} {Q : Exit → Act → World → Prop}
    (s x : Operand) (t tx : TypeId) (hop : o.op = Op.call { callee := Callee.builtin Builtin.append, args := #[s, x], argTypes := #[t, tx] })
    (e : TypeId) (z : Value) (sz by_ : Nat) (ht : P.underlying t = some (.slice e)) (hinfo : (P.info? e).map (fun i => (i.zero, i.size, i.bytes)) = some (some z, sz, by_)) (hz1 : z.cells.size = sz)
    (base : Nat) (r : Option Addr) (m cap : Nat) (L : List Value) (hs : a.eval s = .slice r m cap) (hown : RM w base r m cap sz L e) (xv : Value) (hx : a.eval x = xv) (n : Nat) (hn : 0 < n) (news : List Value) (hsrc : Src P sz tx xv n news w)
    (h63 : m + n ≤ 1000000) (hby : by_ ≤ 1000)
    (hK : ∀ g' cap' w', RM w' base (some ⟨g', 0, none⟩) (m + n) cap' sz (L ++ news) e → (g' ∈ rvB r ∨ w.heap.size ≤ g') → Chg (rvB r) w w' → K (a.put o.dst (.slice (some ⟨g', 0, none⟩) (m + n) cap')) w') :
    Oper.wp P o a w K Q := by
  have hnl : news.length = n * sz := hsrc.newsLen
  obtain ⟨h0, h1, ⟨h2, h3, h4⟩ | ⟨g, h2, h3, h4⟩⟩ := hown
  · subst h2 h3 h4
    have hL : L = [] := List.length_eq_zero_iff.1 (by simpa using h0)
    subst hL
    obtain ⟨i, hi, hzz⟩ := Option.map_eq_some_iff.1 hinfo
    simp only [Prod.mk.injEq] at hzz
    obtain ⟨hz, hs1, hb1⟩ := hzz
    have hold : (Builtin.firstCells i.size 0 (.slice none 0 0)).run P w.drew = .ok ([] : List Value).toArray w.drew := run_firstCells_none w.drew i.size 0 0 0
    have hbb : (0 + n) * i.bytes ≤ 140737488355328 := by
      rw [hb1]
      calc (0 + n) * by_ ≤ 1000000 * 1000 := Nat.mul_le_mul h63 hby
        _ ≤ 140737488355328 := by decide
    have hrun := run_append_grow_src (P := P) (w := w) t tx o.type e i z ht hi hz none 0 0 [] hold xv n news (by rw [hs1]; exact hsrc) (by omega) (by omega) (growslice_fits (by omega) hbb)
    unfold Oper.wp
    simp [execOp, hop, resolve, invoke, builtin, hs, hx, hrun, Result.andThen]
    have hge := grownCap_ge w (0 + n) 0 e
    have hle := grownCap_le_maxLen w (0 + n) 0 e (by unfold maxLen; omega)
    have hk := hK w.heap.size (grownCap w (0 + n) 0 e) _ ?_ (Or.inr (Nat.le_refl _)) (((Chg.refl (rvB none) w).drew).alloc (.cells ((([] : List Value) ++ news).toArray ++ Builtin.zeroCells z.cells (grownCap w (0 + n) 0 e - (0 + n))) e))
    · simp at hk; exact hk
    refine ⟨by simpa using hnl, by simp; omega, Or.inr ⟨w.heap.size, rfl, h1, (Builtin.zeroCells z.cells (grownCap w (0 + n) 0 e - (0 + n))).toList, ?_, by unfold maxLen at hle; omega, ?_⟩⟩
    · have ez : ∀ k, (Builtin.zeroCells z.cells k).toList.length = k * sz := fun k => by rw [Array.length_toList, size_zeroCells, hz1]
      simp only [List.nil_append, List.length_append, hnl, ez]; rw [← Nat.add_mul]; congr 1; omega
    · have := Blk.newA w.drew ((([] : List Value) ++ news).toArray ++ Builtin.zeroCells z.cells (grownCap w (0 + n) 0 e - (0 + n))) e
      rw [Array.toList_append] at this
      exact this
  · subst h2
    refine wp_append_rn w s x t tx hop e z sz by_ ht hinfo hz1 g m cap L hs h0 h4 xv hx n news hsrc h63 hby fun g' cap' w' k1 k2 k3 => ?_
    have hsz := k3.size
    refine hK g' cap' w' ⟨by rw [List.length_append, h0, hnl, Nat.add_mul], by omega, Or.inr ⟨g', rfl, by omega, k1⟩⟩ ?_ (by rw [rvB_some]; exact k3)
    rcases k2 with k2 | k2
    · exact Or.inl (by rw [k2, rvB_some]; simp)
    · exact Or.inr k2
theorem wpList_append_rm {P : Program} (w : World) {ops : Array Oper} {rest : List Oper} {o : Oper} {a : Act} {Q : Exit → Act → World → Prop}
    (hg : o.guard = none) (s x : Operand) (t tx : TypeId) (hop : o.op = Op.call { callee := Callee.builtin Builtin.append, args := #[s, x], argTypes := #[t, tx] })
    (e : TypeId) (z : Value) (sz by_ : Nat) (ht : P.underlying t = some (.slice e)) (hinfo : (P.info? e).map (fun i => (i.zero, i.size, i.bytes)) = some (some z, sz, by_)) (hz1 : z.cells.size = sz)
    (base : Nat) (r : Option Addr) (m cap : Nat) (L : List Value) (hs : a.eval s = .slice r m cap) (hown : RM w base r m cap sz L e) (xv : Value) (hx : a.eval x = xv) (n : Nat) (hn : 0 < n) (news : List Value) (hsrc : Src P sz tx xv n news w)
    (h63 : m + n ≤ 1000000) (hby : by_ ≤ 1000)
    (hK : ∀ g' cap' w', RM w' base (some ⟨g', 0, none⟩) (m + n) cap' sz (L ++ news) e → (g' ∈ rvB r ∨ w.heap.size ≤ g') → Chg (rvB r) w w' → wpList P ops Q rest (a.put o.dst (.slice (some ⟨g', 0, none⟩) (m + n) cap')) w') :
    wpList P ops Q (o :: rest) a w :=
  wpList_plain hg fun K hK' => wp_append_rm w s x t tx hop e z sz by_ ht hinfo hz1 base r m cap L hs hown xv hx n hn news hsrc h63 hby fun g' cap' w' h1 h2 h3 => hK' _ _ (hK g' cap' w' h1 h2 h3)
theorem step_append_rm {P : Program} {ops : Array Oper} {o : Oper} {a : Act} {w : World} {K : Act → World → Prop} {Q : Exit → Act → World → Prop} {E : Prop}
    (hgd : o.guard = none) (s x : Operand) (t tx : TypeId) (hop : o.op = Op.call { callee := Callee.builtin Builtin.append, args := #[s, x], argTypes := #[t, tx] })
    (e : TypeId) (z : Value) (sz by_ : Nat) (ht : P.underlying t = some (.slice e)) (hinfo : (P.info? e).map (fun i => (i.zero, i.size, i.bytes)) = some (some z, sz, by_)) (hz1 : z.cells.size = sz)
    (base : Nat) (r : Option Addr) (m cap : Nat) (L : List Value) (hs : a.eval s = .slice r m cap) (hown : RM w base r m cap sz L e) (xv : Value) (hx : a.eval x = xv) (n : Nat) (hn : 0 < n) (news : List Value) (hsrc : Src P sz tx xv n news w)
    (h63 : m + n ≤ 1000000) (hby : by_ ≤ 1000)
    (hK : ∀ g' cap' w', RM w' base (some ⟨g', 0, none⟩) (m + n) cap' sz (L ++ news) e → (g' ∈ rvB r ∨ w.heap.size ≤ g') → Chg (rvB r) w w' → K (a.put o.dst (.slice (some ⟨g', 0, none⟩) (m + n) cap')) w') :
    if Region.wanted o (yielded ops a.tmps) = true then Oper.wp P o a w K Q else E := by
  have hw : Region.wanted o (yielded ops a.tmps) = true := by simp [Region.wanted, hgd]
  rw [if_pos hw]
  exact wp_append_rm w s x t tx hop e z sz by_ ht hinfo hz1 base r m cap L hs hown xv hx n hn news hsrc h63 hby hK
end Go.Proofs.YtfhhkmjjifbfeaaGreatDoor
