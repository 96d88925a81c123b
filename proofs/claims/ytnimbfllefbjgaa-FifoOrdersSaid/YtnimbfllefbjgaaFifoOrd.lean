/- What holds while a row is pushed and popped, and two lists of one's own grow beside it. -/
import Derived.Test.YtnimbfllefbjgaaFifoRef
namespace Go.Proofs.Ytnimbfllefbjgaa
open Go.ChangeShapes Go.WideShapes Go.ChangeAt Go.RowKit
set_option linter.unusedSimpArgs false
set_option linter.unusedVariables false

def St (w0 w : World) (b R I : Nat) (L : List Nat) (g1 c1 : Nat) (A : List Nat) (g2 c2 : Nat) (O : List Nat) : Prop :=
  FAt w b R I 8 L ∧ Rw w g1 c1 (A.map iv) 3 ∧ Rw w g2 c2 (O.map iv) 3 ∧ Below w0.heap.size w0 w ∧ (w0.heap.size ≤ b ∧ w0.heap.size ≤ R ∧ w0.heap.size ≤ I) ∧ (w0.heap.size ≤ g1 ∧ w0.heap.size ≤ g2) ∧
  (g1 ≠ b ∧ g1 ≠ R ∧ g1 ≠ I) ∧ (g2 ≠ b ∧ g2 ≠ R ∧ g2 ≠ I) ∧ g1 ≠ g2
section
variable {w0 w w' : World} {b R I : Nat} {L : List Nat} {g1 c1 : Nat} {A : List Nat} {g2 c2 : Nat} {O : List Nat}
theorem St.q (h : St w0 w b R I L g1 c1 A g2 c2 O) {L' : List Nat} (hf : FAt w' b R I 8 L') (k : Chg [b, R, I] w w') : St w0 w' b R I L' g1 c1 A g2 c2 O := by
  obtain ⟨h1, h2, h3, h4, h5, h6, h7, h8, h9⟩ := h
  exact ⟨hf, h2.chg k (by simp; omega), h3.chg k (by simp; omega), k.onto h4 h4.size (by simp; omega), h5, h6, h7, h8, h9⟩
theorem St.fresh (h : St w0 w b R I L g1 c1 A g2 c2 O) (k : Below w.heap.size w w') : St w0 w' b R I L g1 c1 A g2 c2 O := by
  obtain ⟨h1, h2, h3, h4, h5, h6, h7, h8, h9⟩ := h
  have k' : Chg [] w w' := Chg.of_fresh k
  exact ⟨h1.chg k' (by simp) (by simp) (by simp), h2.chg k' (by simp), h3.chg k' (by simp), h4.trans (k.mono h4.size), h5, h6, h7, h8, h9⟩
theorem St.inn (h : St w0 w b R I L g1 c1 A g2 c2 O) {g' c' : Nat} {A' : List Nat} (r : Rw w' g' c' (A'.map iv) 3) (hg : g' = g1 ∨ w.heap.size ≤ g') (k : Chg [g1] w w') : St w0 w' b R I L g' c' A' g2 c2 O := by
  obtain ⟨h1, h2, h3, h4, h5, h6, h7, h8, h9⟩ := h
  have hl := h1.lts
  have l3 := h3.lt
  have hs := h4.size
  exact ⟨h1.chg k (by simp; omega) (by simp; omega) (by simp; omega), r, h3.chg k (by simp; omega), k.onto h4 h4.size (by simp; omega), h5, by omega, by omega, h8, by omega⟩
theorem St.outt (h : St w0 w b R I L g1 c1 A g2 c2 O) {g' c' : Nat} {O' : List Nat} (r : Rw w' g' c' (O'.map iv) 3) (hg : g' = g2 ∨ w.heap.size ≤ g') (k : Chg [g2] w w') : St w0 w' b R I L g1 c1 A g' c' O' := by
  obtain ⟨h1, h2, h3, h4, h5, h6, h7, h8, h9⟩ := h
  have hl := h1.lts
  have l2 := h2.lt
  have hs := h4.size
  exact ⟨h1.chg k (by simp; omega) (by simp; omega) (by simp; omega), h2.chg k (by simp; omega), r, k.onto h4 h4.size (by simp; omega), h5, by omega, h7, by omega, by omega⟩
theorem St.arg (h : St w0 w b R I L g1 c1 A g2 c2 O) (o : Obj) : St w0 (w.alloc o) b R I L g1 c1 A g2 c2 O := h.fresh ((Below.refl _ _).alloc (Nat.le_refl _) _)
theorem St.drewN (h : St w0 w b R I L g1 c1 A g2 c2 O) (n : Nat) : St w0 (w.drewN n) b R I L g1 c1 A g2 c2 O := h.fresh (below_drewN (Below.refl _ _) n)
theorem St.ids (h : St w0 w b R I L g1 c1 A g2 c2 O) {bb j : Nat} {v : Value} (hb : bb < w0.heap.size) (hc : w0.cell? ⟨bb, j, none⟩ = some v) : w.cell? ⟨bb, j, none⟩ = some v := by
  rw [h.2.2.2.1.cell (p := ⟨bb, j, none⟩) hb]; exact hc
end
theorem one_cell (w : World) (v : Value) (T : TypeId) (j : Nat) (u : Value) (hj : [v][j]? = some u) : (w.alloc (.cells #[v] T)).cell? ((⟨w.heap.size, 0, none⟩ : Addr).add j) = some u := by
  have h := Blk.newA w #[v] T
  cases j with
  | zero => simp at hj; subst hj; exact h.cell (i := 0) rfl
  | succ j => simp at hj
theorem map_snoc (A : List Nat) (n : Nat) : A.map iv ++ [iv n] = (A ++ [n]).map iv := by simp
theorem len_snoc (A : List Nat) (n : Nat) : A.length + 1 = (A ++ [n]).length := by simp
theorem one_iv (n : Nat) : ∀ u ∈ [iv n], u.oneCell' = true := by intro u hu; simp at hu; subst hu; rfl
theorem all_iv (L : List Nat) : ∀ u ∈ L.map iv, u.oneCell' = true := by
  intro u hu
  obtain ⟨x, _, rfl⟩ := List.mem_map.1 hu
  rfl
/-- How far a number stands from the front: what the second loop keeps. -/
def Far (L : List Nat) (x : Nat) (at_ : Int) (k : Nat) : Prop := (k : Int) ≤ at_ → x ∈ L ∧ (L.idxOf x : Int) = at_ - k
theorem Far.begin (L : List Nat) (x : Nat) : Far L x (plc L x) 0 := by
  intro h
  unfold plc at *
  rw [isIn_nat] at *
  by_cases hx : x ∈ L
  · simp [hx]
  · simp [hx] at h
theorem Far.head {y x : Nat} {L : List Nat} {at_ : Int} {k : Nat} (h : Far (y :: L) x at_ k) (hk : (k : Int) ≤ at_) : (y = x ↔ (k : Int) = at_) := by
  obtain ⟨h1, h2⟩ := h hk
  rw [List.idxOf_cons] at h2
  by_cases e : y = x
  · have e' : (y == x) = true := by simpa using e
    rw [e'] at h2
    simp only [cond_true] at h2
    exact ⟨fun _ => by omega, fun _ => e⟩
  · have e' : (y == x) = false := by simpa using e
    rw [e'] at h2
    simp only [cond_false] at h2
    exact ⟨fun a => absurd a e, fun a => by omega⟩
theorem Far.next {y x : Nat} {L : List Nat} {at_ : Int} {k : Nat} (h : Far (y :: L) x at_ k) (hk : (k : Int) ≤ at_) : Far L x at_ (k + 1) := by
  intro hk1
  obtain ⟨h1, h2⟩ := h hk
  have e : ¬ y = x := fun e => by have := (h.head hk).1 e; omega
  rw [List.idxOf_cons] at h2
  have e2 : ¬ x = y := fun a => e a.symm
  have e' : (y == x) = false := by simpa using e
  rw [e'] at h2
  simp only [cond_false] at h2
  simp only [List.mem_cons, e2, false_or] at h1
  exact ⟨h1, by omega⟩
theorem erase_last {L : List Nat} {y : Nat} (hy : ¬ y ∈ L) : (L ++ [y]).erase y = L := by
  rw [List.erase_append_right _ hy]
  simp
theorem plc_le (L : List Nat) (x : Int) : plc L x < L.length := by
  unfold plc
  split
  · rename_i h
    unfold isIn at h
    simp at h
    have := List.idxOf_lt_length_of_mem h.2
    omega
  · omega
end Go.Proofs.Ytnimbfllefbjgaa
