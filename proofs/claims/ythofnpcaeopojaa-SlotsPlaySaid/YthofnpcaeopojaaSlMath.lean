/- Slots: the program's row and map, and the document's list, say the same. -/
import Derived.Test.YthofnpcaeopojaaSlRef
namespace Go.Proofs.Ythofnpcaeopojaa
open Go.ChangeShapes Go.WideShapes Go.ChangeAt Go.RowKit
set_option linter.unusedSimpArgs false
set_option linter.unusedVariables false

/-- The document's list, of the program's map. -/
def DM (M : List (Int × Int × Nat)) : List (Int × Int) := M.map fun x => (x.1, x.2.1)
theorem DM_length (M : List (Int × Int × Nat)) : (DM M).length = M.length := by simp [DM]
theorem DM_snoc (M : List (Int × Int × Nat)) (a b : Int) (c : Nat) : DM (M ++ [(a, b, c)]) = DM M ++ [(a, b)] := by simp [DM]
theorem DM_slot (id : Int) : ∀ M : List (Int × Int × Nat), rSlot (DM M) id = ((mIdx M id).map (·.2)).getD (-1)
  | [] => rfl
  | x :: M => by
    have ih := DM_slot id M
    simp only [DM, List.map_cons, rSlot, mIdx] at ih ⊢
    by_cases h : x.1 = id
    · simp [h]
    · simp only [if_neg h]
      rw [ih]
      cases mIdx M id <;> simp
theorem rWho_cases : ∀ (L : List (Int × Int)) (k : Int), (∃ x ∈ L, x.2 = k ∧ rWho L k = x.1) ∨ ((∀ x ∈ L, x.2 ≠ k) ∧ rWho L k = -1)
  | [], k => Or.inr ⟨by simp, rfl⟩
  | x :: L, k => by
    by_cases h : x.2 = k
    · exact Or.inl ⟨x, by simp, h, by simp [rWho, h]⟩
    · rcases rWho_cases L k with ⟨y, hy, h1, h2⟩ | ⟨h1, h2⟩
      · exact Or.inl ⟨y, by simp [hy], h1, by simp [rWho, h, h2]⟩
      · exact Or.inr ⟨by simpa [h] using h1, by simp [rWho, h, h2]⟩
/-- Each slot that is taken is someone's. -/
def SJ (n : Nat) (W : List Int) (M : List (Int × Int × Nat)) : Prop := ∀ j < n, W.getD j 0 ≠ -1 → ∃ x ∈ M, x.2.1 = (j : Int)
theorem SJ.new (n : Nat) : SJ n (List.replicate n (-1)) [] := by
  intro j hj h
  exact absurd (by simp [List.getD, hj]) h
theorem SJ.open {n : Nat} {W : List Int} {M : List (Int × Int × Nat)} {nx : Int} {j c : Nat} (h : SJ n W M) : SJ n (W.set j nx) (M ++ [(nx, (j : Int), c)]) := by
  intro i hi hv
  by_cases e : j = i
  · exact ⟨(nx, (j : Int), c), by simp, by subst e; rfl⟩
  · have : (W.set j nx).getD i 0 = W.getD i 0 := by simp [List.getD, List.getElem?_set_ne e]
    rw [this] at hv
    obtain ⟨x, hx, h2⟩ := h i hi hv
    exact ⟨x, by simp [hx], h2⟩
theorem SJ.close {n : Nat} {W : List Int} {M : List (Int × Int × Nat)} {k : Int} {i j b : Nat} (h : SJ n W M) (hi : M[i]? = some (k, (j : Int), b)) (hw : j < W.length) : SJ n (W.set j (-1)) (M.eraseIdx i) := by
  intro l hl hv
  by_cases e : j = l
  · subst e
    exact absurd (by simp [List.getD, List.getElem?_set_self hw]) hv
  · have : (W.set j (-1)).getD l 0 = W.getD l 0 := by simp [List.getD, List.getElem?_set_ne e]
    rw [this] at hv
    obtain ⟨x, hx, h2⟩ := h l hl hv
    refine ⟨x, ?_, h2⟩
    obtain ⟨p, hp⟩ := List.mem_iff_getElem?.1 hx
    refine List.mem_eraseIdx_iff_getElem?.2 ⟨p, fun e2 => ?_, hp⟩
    subst e2
    rw [hi] at hp
    have := Option.some.inj hp
    subst this
    simp only at h2
    exact e (by omega)
theorem DM_who {n : Nat} {W : List Int} {M : List (Int × Int × Nat)} {c nx : Nat} (h : SOk n W M c nx) (hj : SJ n W M) (j : Nat) (hl : j < n) : rWho (DM M) j = W.getD j 0 := by
  rcases rWho_cases (DM M) j with ⟨y, hy, h1, h2⟩ | ⟨h1, h2⟩
  · obtain ⟨x, hx, rfl⟩ := List.mem_map.1 hy
    obtain ⟨_, i, k1, k2⟩ := h.2.2.1 x hx
    simp only at h1 h2
    rw [k1] at h1
    obtain rfl : i = j := by omega
    rw [h2]
    simp [List.getD, k2]
  · rw [h2]
    by_cases hv : W.getD j 0 = -1
    · exact hv.symm
    · obtain ⟨x, hx, e⟩ := hj j hl hv
      exact absurd e (h1 _ (List.mem_map.2 ⟨x, hx, rfl⟩))
theorem DM_who_out {n : Nat} {W : List Int} {M : List (Int × Int × Nat)} {c nx : Nat} (h : SOk n W M c nx) (k : Int) (hk : k < 0 ∨ (n : Int) ≤ k) : rWho (DM M) k = -1 := by
  rcases rWho_cases (DM M) k with ⟨y, hy, h1, h2⟩ | ⟨h1, h2⟩
  · obtain ⟨x, hx, rfl⟩ := List.mem_map.1 hy
    obtain ⟨_, i, k1, k2⟩ := h.2.2.1 x hx
    simp only at h1
    have := (List.getElem?_eq_some_iff.1 k2).1
    have := h.2.1
    omega
  · exact h2
theorem getD_mem {l : List Int} {j : Nat} (h : j < l.length) : l.getD j 0 ∈ l := by simp [List.getD, List.getElem?_eq_getElem h]
theorem DM_who_pos {n : Nat} {W : List Int} {M : List (Int × Int × Nat)} {c nx : Nat} (h : SOk n W M c nx) (hj : SJ n W M) (j : Nat) (hl : j < n) (hv : W.getD j 0 ≠ -1) : 0 ≤ rWho (DM M) j := by
  rw [DM_who h hj j hl]
  rcases h.2.2.2.1 _ (getD_mem (by rw [h.2.1]; exact hl)) with e | e
  · exact absurd e hv
  · exact e
/-- A list without one's pair. -/
def lOut (M : List (Int × Int)) (id : Int) : List (Int × Int) := M.filter fun x => !(x.1 == id)
theorem lOut_take (M : List (Int × Int)) (id : Int) (k : Nat) (h : k < M.length) : lOut (M.take (k + 1)) id = if M[k].1 = id then lOut (M.take k) id else lOut (M.take k) id ++ [(M[k].1, M[k].2)] := by
  unfold lOut
  rw [← List.take_append_getElem h, List.filter_append]
  by_cases e : M[k].1 = id
  · simp [e]
  · simp [e]
theorem lOut_none {M : List (Int × Int × Nat)} {id : Int} (h : mIdx M id = none) : lOut (DM M) id = DM M := by
  unfold lOut
  rw [List.filter_eq_self]
  intro y hy
  obtain ⟨x, hx, rfl⟩ := List.mem_map.1 hy
  simp only [Bool.not_eq_true', beq_eq_false_iff_ne]
  intro e
  clear hy
  induction M with
  | nil => simp at hx
  | cons z M ih =>
    simp only [mIdx] at h
    by_cases hz : z.1 = id
    · simp [hz] at h
    · rw [if_neg hz] at h
      rcases List.mem_cons.1 hx with r | r
      · subst r; exact hz e
      · refine ih ?_ r
        cases hm : mIdx M id with
        | none => rfl
        | some p => rw [hm] at h; simp at h
theorem lOut_some {id v : Int} : ∀ {M : List (Int × Int × Nat)} {i : Nat}, (M.map (·.1)).Pairwise (· < ·) → mIdx M id = some (i, v) → lOut (DM M) id = DM (M.eraseIdx i)
  | [], i, _, h => by simp [mIdx] at h
  | x :: M, i, hp, h => by
    simp only [mIdx] at h
    by_cases hx : x.1 = id
    · rw [if_pos hx] at h
      obtain ⟨rfl, rfl⟩ := Prod.mk.inj (Option.some.inj h)
      have hn : mIdx M id = none := mIdx_none fun y hy e => by
        have := (List.pairwise_cons.1 hp).1 y.1 (List.mem_map.2 ⟨y, hy, rfl⟩)
        simp only at this
        omega
      have h2 := lOut_none hn
      unfold lOut at h2 ⊢
      simp only [DM, List.map_cons, List.eraseIdx_zero, List.tail_cons] at h2 ⊢
      rw [List.filter_cons_of_neg (by simp [hx])]
      exact h2
    · rw [if_neg hx] at h
      cases hm : mIdx M id with
      | none => rw [hm] at h; simp at h
      | some p =>
        rw [hm] at h
        obtain ⟨rfl, rfl⟩ := Prod.mk.inj (Option.some.inj h)
        have ih := lOut_some (i := p.1) (v := p.2) (List.pairwise_cons.1 hp).2 hm
        unfold lOut at ih ⊢
        simp only [DM, List.map_cons, List.eraseIdx_cons_succ] at ih ⊢
        rw [List.filter_cons_of_pos (by simp [hx]), ih]
theorem lOut_length (M : List (Int × Int)) (id : Int) : (lOut M id).length ≤ M.length := List.length_filter_le _ _
end Go.Proofs.Ythofnpcaeopojaa
